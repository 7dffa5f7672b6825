/- The digits of 32 bytes: what the program's digits of any 32 bytes are, and that those of the document's answer are the same: for the statements ShaHexes and ShaApart. -/
import Derived.Test.YtimpmdcifobgfaaDoorShaS
set_option maxRecDepth 100000
namespace Go.Proofs.YtimpmdcifobgfaaDoor.shaCommon
open Go Ev
noncomputable abbrev P : Program := Tryd.prog
def D : List UInt8 := [48, 49, 50, 51, 52, 53, 54, 55, 56, 57, 97, 98, 99, 100, 101, 102]
noncomputable def M (G : T (T AV)) (b : Nat → Int) (out : List UInt8) (i : Int) : AM := ⟨⟨6, 36, (.node (.node (.node .leaf (some (.str D)) .leaf) (some (.ptr 0 0 0)) (.node .leaf (some (.int .i64 i)) .leaf)) none (.node (.node .leaf (some (.str out)) .leaf) none .leaf)),
   [.code (cd P (6 : Nat) [(1 : Nat), (1 : Nat), (1 : Nat), (0 : Nat), (1 : Nat), (0 : Nat), (0 : Nat)]), .inLoop (cd P (6 : Nat) [(1 : Nat), (1 : Nat), (1 : Nat), (0 : Nat), (1 : Nat), (0 : Nat), (0 : Nat)]), .inBlock 0, .code (cd P (6 : Nat) [(1 : Nat), (1 : Nat), (1 : Nat), (1 : Nat)])], [], .run, CallKind.normal, none⟩,
  [],
  ⟨(.node .leaf (some (.cells (.node (.node (.node (.node (.node (.node .leaf (some (.int .u8 (b 31))) .leaf) (some (.int .u8 (b 15))) .leaf) (some (.int .u8 (b 7))) (.node .leaf (some (.int .u8 (b 23))) .leaf)) (some (.int .u8 (b 3))) (.node (.node .leaf (some (.int .u8 (b 19))) .leaf) (some (.int .u8 (b 11))) (.node .leaf (some (.int .u8 (b 27))) .leaf))) (some (.int .u8 (b 1))) (.node (.node (.node .leaf (some (.int .u8 (b 17))) .leaf) (some (.int .u8 (b 9))) (.node .leaf (some (.int .u8 (b 25))) .leaf)) (some (.int .u8 (b 5))) (.node (.node .leaf (some (.int .u8 (b 21))) .leaf) (some (.int .u8 (b 13))) (.node .leaf (some (.int .u8 (b 29))) .leaf)))) (some (.int .u8 (b 0))) (.node (.node (.node (.node .leaf (some (.int .u8 (b 16))) .leaf) (some (.int .u8 (b 8))) (.node .leaf (some (.int .u8 (b 24))) .leaf)) (some (.int .u8 (b 4))) (.node (.node .leaf (some (.int .u8 (b 20))) .leaf) (some (.int .u8 (b 12))) (.node .leaf (some (.int .u8 (b 28))) .leaf))) (some (.int .u8 (b 2))) (.node (.node (.node .leaf (some (.int .u8 (b 18))) .leaf) (some (.int .u8 (b 10))) (.node .leaf (some (.int .u8 (b 26))) .leaf)) (some (.int .u8 (b 6))) (.node (.node .leaf (some (.int .u8 (b 22))) .leaf) (some (.int .u8 (b 14))) (.node .leaf (some (.int .u8 (b 30))) .leaf))))) 32 22 0 0 1 0 false .leaf)) .leaf), 1, G⟩⟩

/-- The two digits' values, as the program finds them. -/
def hiI (x : Int) : Int := x.fdiv (2 ^ min (Int.toNat 4) IntKind.u8.bits)
def loI (x : Int) : Int := IntKind.u8.wrap (↑(BitVec.ofInt 8 x &&& BitVec.ofInt 8 15).toNat : Int)
/-- The digit of a value. -/
def dg (i : Int) : UInt8 := UInt8.ofNat (↑(D.getD i.toNat 0).toNat : Int).toNat
/-- The digits of the first bytes. -/
def hx (b : Nat → Int) : Nat → List UInt8
  | 0 => []
  | k + 1 => hx b k ++ [dg (hiI (b k)), dg (loI (b k))]
def Ok (i : Int) : Prop := 0 ≤ i ∧ i < (↑D.length : Int)
instance (i : Int) : Decidable (Ok i) := by unfold Ok; infer_instance
def Two (x : Int) (i : Nat) (k : Prop) : Prop := Ok (hiI x) ∧ Ok (loI x) ∧ (some (AV.int .u8 (loI x)) = some (AV.int .u8 (loI x))) ∧ (some (AV.int .i64 (Int.ofNat (2 * i + 1))) = some (AV.int .i64 (Int.ofNat (2 * i + 1)))) ∧ (some (AV.int .i64 (Int.ofNat (2 * i))) = some (AV.int .i64 (Int.ofNat (2 * i)))) ∧ k

theorem hex (G : T (T AV)) (b : Nat → Int) (R : AV → Prop) (_K : AM → Prop) : Obl P 5 (fun v _ => R v) 0 _K [.run 41, .op, .run 2, .op, .run 1, .step, .run 33, .op, .run 2, .op, .run 1, .step, .run 33, .op, .run 2, .op, .run 1, .step, .run 33, .op, .run 2, .op, .run 1, .step, .run 33, .op, .run 2, .op, .run 1, .step, .run 33, .op, .run 2, .op, .run 1, .step, .run 33, .op, .run 2, .op, .run 1, .step, .run 33, .op, .run 2, .op, .run 1, .step, .run 33, .op, .run 2, .op, .run 1, .step, .run 33, .op, .run 2, .op, .run 1, .step, .run 33, .op, .run 2, .op, .run 1, .step, .run 33, .op, .run 2, .op, .run 1, .step, .run 33, .op, .run 2, .op, .run 1, .step, .run 33, .op, .run 2, .op, .run 1, .step, .run 33, .op, .run 2, .op, .run 1, .step, .run 33, .op, .run 2, .op, .run 1, .step, .run 33, .op, .run 2, .op, .run 1, .step, .run 33, .op, .run 2, .op, .run 1, .step, .run 33, .op, .run 2, .op, .run 1, .step, .run 33, .op, .run 2, .op, .run 1, .step, .run 33, .op, .run 2, .op, .run 1, .step, .run 33, .op, .run 2, .op, .run 1, .step, .run 33, .op, .run 2, .op, .run 1, .step, .run 33, .op, .run 2, .op, .run 1, .step, .run 33, .op, .run 2, .op, .run 1, .step, .run 33, .op, .run 2, .op, .run 1, .step, .run 33, .op, .run 2, .op, .run 1, .step, .run 33, .op, .run 2, .op, .run 1, .step, .run 33, .op, .run 2, .op, .run 1, .step, .run 33, .op, .run 2, .op, .run 1, .step, .run 33, .op, .run 2, .op, .run 1, .step, .run 33, .op, .run 2, .op, .run 1, .step, .run 23, .done] (startM P 5 [.agg [.int .u8 (b 0), .int .u8 (b 1), .int .u8 (b 2), .int .u8 (b 3), .int .u8 (b 4), .int .u8 (b 5), .int .u8 (b 6), .int .u8 (b 7), .int .u8 (b 8), .int .u8 (b 9), .int .u8 (b 10), .int .u8 (b 11), .int .u8 (b 12), .int .u8 (b 13), .int .u8 (b 14), .int .u8 (b 15), .int .u8 (b 16), .int .u8 (b 17), .int .u8 (b 18), .int .u8 (b 19), .int .u8 (b 20), .int .u8 (b 21), .int .u8 (b 22), .int .u8 (b 23), .int .u8 (b 24), .int .u8 (b 25), .int .u8 (b 26), .int .u8 (b 27), .int .u8 (b 28), .int .u8 (b 29), .int .u8 (b 30), .int .u8 (b 31)]] G) = Two (b 0) 0 (Two (b 1) 1 (Two (b 2) 2 (Two (b 3) 3 (Two (b 4) 4 (Two (b 5) 5 (Two (b 6) 6 (Two (b 7) 7 (Two (b 8) 8 (Two (b 9) 9 (Two (b 10) 10 (Two (b 11) 11 (Two (b 12) 12 (Two (b 13) 13 (Two (b 14) 14 (Two (b 15) 15 (Two (b 16) 16 (Two (b 17) 17 (Two (b 18) 18 (Two (b 19) 19 (Two (b 20) 20 (Two (b 21) 21 (Two (b 22) 22 (Two (b 23) 23 (Two (b 24) 24 (Two (b 25) 25 (Two (b 26) 26 (Two (b 27) 27 (Two (b 28) 28 (Two (b 29) 29 (Two (b 30) 30 (Two (b 31) 31 (R (.str (hx b 32)))))))))))))))))))))))))))))))))) := by kernel_rfl

/-- The same, as the document's answer finds them. -/
def hL (x : Int) : Int := IntKind.i64.wrap (IntKind.u8.wrap (x.tdiv 16))
def lL (x : Int) : Int := IntKind.i64.wrap (x.tmod 16)
def sl (i : Int) : List UInt8 := List.take ((IntKind.i64.wrap (i + 1)).toNat - i.toNat) (List.drop i.toNat D)
def OkS (i : Int) : Prop := (0 ≤ IntKind.i64.wrap (i + 1) ∧ IntKind.i64.wrap (i + 1) ≤ (↑D.length : Int)) ∧ 0 ≤ i ∧ i ≤ (↑(IntKind.i64.wrap (i + 1)).toNat : Int)
instance (i : Int) : Decidable (OkS i) := by unfold OkS; infer_instance
def Round (x : Int) (out : List UInt8) (k : Prop) : Prop := (some (AV.int .i64 (lL x)) = some (AV.int .i64 (lL x))) ∧ (some (AV.int .u8 (x.tmod 16)) = some (AV.int .u8 (x.tmod 16))) ∧ (some (AV.int .u8 x) = some (AV.int .u8 x)) ∧ OkS (hL x) ∧ (out.length + (sl (hL x)).length < 1099511627776) ∧ OkS (lL x) ∧ ((out ++ sl (hL x)).length + (sl (lL x)).length < 1099511627776) ∧ k

theorem bytes : ∀ n : Fin 256, Ok (hiI n.1) ∧ Ok (loI n.1) ∧ OkS (hL n.1) ∧ OkS (lL n.1) ∧ sl (hL n.1) = [dg (hiI n.1)] ∧ sl (lL n.1) = [dg (loI n.1)] := by decide +kernel

theorem byte {x : Int} (h : 0 ≤ x ∧ x < 256) : Ok (hiI x) ∧ Ok (loI x) ∧ OkS (hL x) ∧ OkS (lL x) ∧ sl (hL x) = [dg (hiI x)] ∧ sl (lL x) = [dg (loI x)] := by
  have := bytes ⟨x.toNat, by omega⟩
  have e : ((x.toNat : Nat) : Int) = x := by omega
  simpa only [e] using this

theorem two_fill {x : Int} {i : Nat} {k : Prop} (h : 0 ≤ x ∧ x < 256) (g : k) : Two x i k := ⟨(byte h).1, (byte h).2.1, rfl, rfl, rfl, g⟩

theorem fill {x : Int} {out : List UInt8} {k : Prop} (h : 0 ≤ x ∧ x < 256) (hl : out.length < 1000) (g : k) : Round x out k := by
  obtain ⟨_, _, h1, h2, h3, h4⟩ := byte h
  exact ⟨rfl, rfl, rfl, h1, by rw [h3]; simp; omega, h2, by rw [h3, h4]; simp; omega, g⟩

theorem hx_len (b : Nat → Int) : ∀ k, (hx b k).length = 2 * k
  | 0 => rfl
  | k + 1 => by
    unfold hx
    rw [List.length_append, hx_len b k]
    rfl

theorem more {b : Nat → Int} (hb : ∀ i, 0 ≤ b i ∧ b i < 256) {k : Nat} : hx b k ++ sl (hL (b k)) ++ sl (lL (b k)) = hx b (k + 1) := by
  obtain ⟨_, _, _, _, h3, h4⟩ := byte (hb k)
  rw [h3, h4, List.append_assoc]
  rfl

theorem hex_ok {G : T (T AV)} {b : Nat → Int} (hb : ∀ i, 0 ≤ b i ∧ b i < 256) : Goal P 0 5 (fun v _ => v = .str (hx b 32)) (startM P 5 [.agg [.int .u8 (b 0), .int .u8 (b 1), .int .u8 (b 2), .int .u8 (b 3), .int .u8 (b 4), .int .u8 (b 5), .int .u8 (b 6), .int .u8 (b 7), .int .u8 (b 8), .int .u8 (b 9), .int .u8 (b 10), .int .u8 (b 11), .int .u8 (b 12), .int .u8 (b 13), .int .u8 (b 14), .int .u8 (b 15), .int .u8 (b 16), .int .u8 (b 17), .int .u8 (b 18), .int .u8 (b 19), .int .u8 (b 20), .int .u8 (b 21), .int .u8 (b 22), .int .u8 (b 23), .int .u8 (b 24), .int .u8 (b 25), .int .u8 (b 26), .int .u8 (b 27), .int .u8 (b 28), .int .u8 (b 29), .int .u8 (b 30), .int .u8 (b 31)]] G) :=
  Obl.goal (K := Goal P 0 5 _) mix (fun _ h => h) (cast (hex G b (fun v => v = .str (hx b 32)) _).symm (by
    repeat first | exact rfl | refine two_fill (hb _) ?_))

theorem ref0 (G : T (T AV)) (b : Nat → Int) (R : AV → Prop) (K : AM → Prop) : Obl P 6 (fun v _ => R v) 0 K [.run 20, .can 0 [0] [1, 3, 4, 5] []] (startM P 6 [.agg [.int .u8 (b 0), .int .u8 (b 1), .int .u8 (b 2), .int .u8 (b 3), .int .u8 (b 4), .int .u8 (b 5), .int .u8 (b 6), .int .u8 (b 7), .int .u8 (b 8), .int .u8 (b 9), .int .u8 (b 10), .int .u8 (b 11), .int .u8 (b 12), .int .u8 (b 13), .int .u8 (b 14), .int .u8 (b 15), .int .u8 (b 16), .int .u8 (b 17), .int .u8 (b 18), .int .u8 (b 19), .int .u8 (b 20), .int .u8 (b 21), .int .u8 (b 22), .int .u8 (b 23), .int .u8 (b 24), .int .u8 (b 25), .int .u8 (b 26), .int .u8 (b 27), .int .u8 (b 28), .int .u8 (b 29), .int .u8 (b 30), .int .u8 (b 31)]] G) = K (M G b (hx b 0) 0) := by kernel_rfl

theorem rEnd (G : T (T AV)) (b : Nat → Int) (out : List UInt8) (R : AV → Prop) (_K : AM → Prop) : Obl P 6 (fun v _ => R v) 0 _K [.run 14, .done] (M G b out 32) = R (.str out) := by kernel_rfl

theorem r0 (G : T (T AV)) (b : Nat → Int) (out : List UInt8) (R : AV → Prop) (K : AM → Prop) : Obl P 6 (fun v _ => R v) 0 K [.run 22, .step, .run 8, .op, .op, .run 4, .op, .op, .run 9, .can 0 [0] [1, 3, 4, 5] []] (M G b out 0) = Round (b 0) out (K (M G b (out ++ sl (hL (b 0)) ++ sl (lL (b 0))) 1)) := by kernel_rfl

theorem s0 {R : AV → Prop} {G : T (T AV)} {b : Nat → Int} (hb : ∀ i, 0 ≤ b i ∧ b i < 256) (g : Goal P 0 6 (fun v _ => R v) (M G b (hx b 1) 1)) : Goal P 0 6 (fun v _ => R v) (M G b (hx b 0) 0) :=
  Obl.goal (K := Goal P 0 6 _) mix (fun _ h => h) (cast (r0 G b _ R _).symm (fill (hb 0) (by rw [hx_len]; omega) (by rw [more hb]; exact g)))

theorem r1 (G : T (T AV)) (b : Nat → Int) (out : List UInt8) (R : AV → Prop) (K : AM → Prop) : Obl P 6 (fun v _ => R v) 0 K [.run 22, .step, .run 8, .op, .op, .run 4, .op, .op, .run 9, .can 0 [0] [1, 3, 4, 5] []] (M G b out 1) = Round (b 1) out (K (M G b (out ++ sl (hL (b 1)) ++ sl (lL (b 1))) 2)) := by kernel_rfl

theorem s1 {R : AV → Prop} {G : T (T AV)} {b : Nat → Int} (hb : ∀ i, 0 ≤ b i ∧ b i < 256) (g : Goal P 0 6 (fun v _ => R v) (M G b (hx b 2) 2)) : Goal P 0 6 (fun v _ => R v) (M G b (hx b 1) 1) :=
  Obl.goal (K := Goal P 0 6 _) mix (fun _ h => h) (cast (r1 G b _ R _).symm (fill (hb 1) (by rw [hx_len]; omega) (by rw [more hb]; exact g)))

theorem r2 (G : T (T AV)) (b : Nat → Int) (out : List UInt8) (R : AV → Prop) (K : AM → Prop) : Obl P 6 (fun v _ => R v) 0 K [.run 22, .step, .run 8, .op, .op, .run 4, .op, .op, .run 9, .can 0 [0] [1, 3, 4, 5] []] (M G b out 2) = Round (b 2) out (K (M G b (out ++ sl (hL (b 2)) ++ sl (lL (b 2))) 3)) := by kernel_rfl

theorem s2 {R : AV → Prop} {G : T (T AV)} {b : Nat → Int} (hb : ∀ i, 0 ≤ b i ∧ b i < 256) (g : Goal P 0 6 (fun v _ => R v) (M G b (hx b 3) 3)) : Goal P 0 6 (fun v _ => R v) (M G b (hx b 2) 2) :=
  Obl.goal (K := Goal P 0 6 _) mix (fun _ h => h) (cast (r2 G b _ R _).symm (fill (hb 2) (by rw [hx_len]; omega) (by rw [more hb]; exact g)))

theorem r3 (G : T (T AV)) (b : Nat → Int) (out : List UInt8) (R : AV → Prop) (K : AM → Prop) : Obl P 6 (fun v _ => R v) 0 K [.run 22, .step, .run 8, .op, .op, .run 4, .op, .op, .run 9, .can 0 [0] [1, 3, 4, 5] []] (M G b out 3) = Round (b 3) out (K (M G b (out ++ sl (hL (b 3)) ++ sl (lL (b 3))) 4)) := by kernel_rfl

theorem s3 {R : AV → Prop} {G : T (T AV)} {b : Nat → Int} (hb : ∀ i, 0 ≤ b i ∧ b i < 256) (g : Goal P 0 6 (fun v _ => R v) (M G b (hx b 4) 4)) : Goal P 0 6 (fun v _ => R v) (M G b (hx b 3) 3) :=
  Obl.goal (K := Goal P 0 6 _) mix (fun _ h => h) (cast (r3 G b _ R _).symm (fill (hb 3) (by rw [hx_len]; omega) (by rw [more hb]; exact g)))

theorem r4 (G : T (T AV)) (b : Nat → Int) (out : List UInt8) (R : AV → Prop) (K : AM → Prop) : Obl P 6 (fun v _ => R v) 0 K [.run 22, .step, .run 8, .op, .op, .run 4, .op, .op, .run 9, .can 0 [0] [1, 3, 4, 5] []] (M G b out 4) = Round (b 4) out (K (M G b (out ++ sl (hL (b 4)) ++ sl (lL (b 4))) 5)) := by kernel_rfl

theorem s4 {R : AV → Prop} {G : T (T AV)} {b : Nat → Int} (hb : ∀ i, 0 ≤ b i ∧ b i < 256) (g : Goal P 0 6 (fun v _ => R v) (M G b (hx b 5) 5)) : Goal P 0 6 (fun v _ => R v) (M G b (hx b 4) 4) :=
  Obl.goal (K := Goal P 0 6 _) mix (fun _ h => h) (cast (r4 G b _ R _).symm (fill (hb 4) (by rw [hx_len]; omega) (by rw [more hb]; exact g)))

theorem r5 (G : T (T AV)) (b : Nat → Int) (out : List UInt8) (R : AV → Prop) (K : AM → Prop) : Obl P 6 (fun v _ => R v) 0 K [.run 22, .step, .run 8, .op, .op, .run 4, .op, .op, .run 9, .can 0 [0] [1, 3, 4, 5] []] (M G b out 5) = Round (b 5) out (K (M G b (out ++ sl (hL (b 5)) ++ sl (lL (b 5))) 6)) := by kernel_rfl

theorem s5 {R : AV → Prop} {G : T (T AV)} {b : Nat → Int} (hb : ∀ i, 0 ≤ b i ∧ b i < 256) (g : Goal P 0 6 (fun v _ => R v) (M G b (hx b 6) 6)) : Goal P 0 6 (fun v _ => R v) (M G b (hx b 5) 5) :=
  Obl.goal (K := Goal P 0 6 _) mix (fun _ h => h) (cast (r5 G b _ R _).symm (fill (hb 5) (by rw [hx_len]; omega) (by rw [more hb]; exact g)))

theorem r6 (G : T (T AV)) (b : Nat → Int) (out : List UInt8) (R : AV → Prop) (K : AM → Prop) : Obl P 6 (fun v _ => R v) 0 K [.run 22, .step, .run 8, .op, .op, .run 4, .op, .op, .run 9, .can 0 [0] [1, 3, 4, 5] []] (M G b out 6) = Round (b 6) out (K (M G b (out ++ sl (hL (b 6)) ++ sl (lL (b 6))) 7)) := by kernel_rfl

theorem s6 {R : AV → Prop} {G : T (T AV)} {b : Nat → Int} (hb : ∀ i, 0 ≤ b i ∧ b i < 256) (g : Goal P 0 6 (fun v _ => R v) (M G b (hx b 7) 7)) : Goal P 0 6 (fun v _ => R v) (M G b (hx b 6) 6) :=
  Obl.goal (K := Goal P 0 6 _) mix (fun _ h => h) (cast (r6 G b _ R _).symm (fill (hb 6) (by rw [hx_len]; omega) (by rw [more hb]; exact g)))

theorem r7 (G : T (T AV)) (b : Nat → Int) (out : List UInt8) (R : AV → Prop) (K : AM → Prop) : Obl P 6 (fun v _ => R v) 0 K [.run 22, .step, .run 8, .op, .op, .run 4, .op, .op, .run 9, .can 0 [0] [1, 3, 4, 5] []] (M G b out 7) = Round (b 7) out (K (M G b (out ++ sl (hL (b 7)) ++ sl (lL (b 7))) 8)) := by kernel_rfl

theorem s7 {R : AV → Prop} {G : T (T AV)} {b : Nat → Int} (hb : ∀ i, 0 ≤ b i ∧ b i < 256) (g : Goal P 0 6 (fun v _ => R v) (M G b (hx b 8) 8)) : Goal P 0 6 (fun v _ => R v) (M G b (hx b 7) 7) :=
  Obl.goal (K := Goal P 0 6 _) mix (fun _ h => h) (cast (r7 G b _ R _).symm (fill (hb 7) (by rw [hx_len]; omega) (by rw [more hb]; exact g)))

theorem r8 (G : T (T AV)) (b : Nat → Int) (out : List UInt8) (R : AV → Prop) (K : AM → Prop) : Obl P 6 (fun v _ => R v) 0 K [.run 22, .step, .run 8, .op, .op, .run 4, .op, .op, .run 9, .can 0 [0] [1, 3, 4, 5] []] (M G b out 8) = Round (b 8) out (K (M G b (out ++ sl (hL (b 8)) ++ sl (lL (b 8))) 9)) := by kernel_rfl

theorem s8 {R : AV → Prop} {G : T (T AV)} {b : Nat → Int} (hb : ∀ i, 0 ≤ b i ∧ b i < 256) (g : Goal P 0 6 (fun v _ => R v) (M G b (hx b 9) 9)) : Goal P 0 6 (fun v _ => R v) (M G b (hx b 8) 8) :=
  Obl.goal (K := Goal P 0 6 _) mix (fun _ h => h) (cast (r8 G b _ R _).symm (fill (hb 8) (by rw [hx_len]; omega) (by rw [more hb]; exact g)))

theorem r9 (G : T (T AV)) (b : Nat → Int) (out : List UInt8) (R : AV → Prop) (K : AM → Prop) : Obl P 6 (fun v _ => R v) 0 K [.run 22, .step, .run 8, .op, .op, .run 4, .op, .op, .run 9, .can 0 [0] [1, 3, 4, 5] []] (M G b out 9) = Round (b 9) out (K (M G b (out ++ sl (hL (b 9)) ++ sl (lL (b 9))) 10)) := by kernel_rfl

theorem s9 {R : AV → Prop} {G : T (T AV)} {b : Nat → Int} (hb : ∀ i, 0 ≤ b i ∧ b i < 256) (g : Goal P 0 6 (fun v _ => R v) (M G b (hx b 10) 10)) : Goal P 0 6 (fun v _ => R v) (M G b (hx b 9) 9) :=
  Obl.goal (K := Goal P 0 6 _) mix (fun _ h => h) (cast (r9 G b _ R _).symm (fill (hb 9) (by rw [hx_len]; omega) (by rw [more hb]; exact g)))

theorem r10 (G : T (T AV)) (b : Nat → Int) (out : List UInt8) (R : AV → Prop) (K : AM → Prop) : Obl P 6 (fun v _ => R v) 0 K [.run 22, .step, .run 8, .op, .op, .run 4, .op, .op, .run 9, .can 0 [0] [1, 3, 4, 5] []] (M G b out 10) = Round (b 10) out (K (M G b (out ++ sl (hL (b 10)) ++ sl (lL (b 10))) 11)) := by kernel_rfl

theorem s10 {R : AV → Prop} {G : T (T AV)} {b : Nat → Int} (hb : ∀ i, 0 ≤ b i ∧ b i < 256) (g : Goal P 0 6 (fun v _ => R v) (M G b (hx b 11) 11)) : Goal P 0 6 (fun v _ => R v) (M G b (hx b 10) 10) :=
  Obl.goal (K := Goal P 0 6 _) mix (fun _ h => h) (cast (r10 G b _ R _).symm (fill (hb 10) (by rw [hx_len]; omega) (by rw [more hb]; exact g)))

theorem r11 (G : T (T AV)) (b : Nat → Int) (out : List UInt8) (R : AV → Prop) (K : AM → Prop) : Obl P 6 (fun v _ => R v) 0 K [.run 22, .step, .run 8, .op, .op, .run 4, .op, .op, .run 9, .can 0 [0] [1, 3, 4, 5] []] (M G b out 11) = Round (b 11) out (K (M G b (out ++ sl (hL (b 11)) ++ sl (lL (b 11))) 12)) := by kernel_rfl

theorem s11 {R : AV → Prop} {G : T (T AV)} {b : Nat → Int} (hb : ∀ i, 0 ≤ b i ∧ b i < 256) (g : Goal P 0 6 (fun v _ => R v) (M G b (hx b 12) 12)) : Goal P 0 6 (fun v _ => R v) (M G b (hx b 11) 11) :=
  Obl.goal (K := Goal P 0 6 _) mix (fun _ h => h) (cast (r11 G b _ R _).symm (fill (hb 11) (by rw [hx_len]; omega) (by rw [more hb]; exact g)))

theorem r12 (G : T (T AV)) (b : Nat → Int) (out : List UInt8) (R : AV → Prop) (K : AM → Prop) : Obl P 6 (fun v _ => R v) 0 K [.run 22, .step, .run 8, .op, .op, .run 4, .op, .op, .run 9, .can 0 [0] [1, 3, 4, 5] []] (M G b out 12) = Round (b 12) out (K (M G b (out ++ sl (hL (b 12)) ++ sl (lL (b 12))) 13)) := by kernel_rfl

theorem s12 {R : AV → Prop} {G : T (T AV)} {b : Nat → Int} (hb : ∀ i, 0 ≤ b i ∧ b i < 256) (g : Goal P 0 6 (fun v _ => R v) (M G b (hx b 13) 13)) : Goal P 0 6 (fun v _ => R v) (M G b (hx b 12) 12) :=
  Obl.goal (K := Goal P 0 6 _) mix (fun _ h => h) (cast (r12 G b _ R _).symm (fill (hb 12) (by rw [hx_len]; omega) (by rw [more hb]; exact g)))

theorem r13 (G : T (T AV)) (b : Nat → Int) (out : List UInt8) (R : AV → Prop) (K : AM → Prop) : Obl P 6 (fun v _ => R v) 0 K [.run 22, .step, .run 8, .op, .op, .run 4, .op, .op, .run 9, .can 0 [0] [1, 3, 4, 5] []] (M G b out 13) = Round (b 13) out (K (M G b (out ++ sl (hL (b 13)) ++ sl (lL (b 13))) 14)) := by kernel_rfl

theorem s13 {R : AV → Prop} {G : T (T AV)} {b : Nat → Int} (hb : ∀ i, 0 ≤ b i ∧ b i < 256) (g : Goal P 0 6 (fun v _ => R v) (M G b (hx b 14) 14)) : Goal P 0 6 (fun v _ => R v) (M G b (hx b 13) 13) :=
  Obl.goal (K := Goal P 0 6 _) mix (fun _ h => h) (cast (r13 G b _ R _).symm (fill (hb 13) (by rw [hx_len]; omega) (by rw [more hb]; exact g)))

theorem r14 (G : T (T AV)) (b : Nat → Int) (out : List UInt8) (R : AV → Prop) (K : AM → Prop) : Obl P 6 (fun v _ => R v) 0 K [.run 22, .step, .run 8, .op, .op, .run 4, .op, .op, .run 9, .can 0 [0] [1, 3, 4, 5] []] (M G b out 14) = Round (b 14) out (K (M G b (out ++ sl (hL (b 14)) ++ sl (lL (b 14))) 15)) := by kernel_rfl

theorem s14 {R : AV → Prop} {G : T (T AV)} {b : Nat → Int} (hb : ∀ i, 0 ≤ b i ∧ b i < 256) (g : Goal P 0 6 (fun v _ => R v) (M G b (hx b 15) 15)) : Goal P 0 6 (fun v _ => R v) (M G b (hx b 14) 14) :=
  Obl.goal (K := Goal P 0 6 _) mix (fun _ h => h) (cast (r14 G b _ R _).symm (fill (hb 14) (by rw [hx_len]; omega) (by rw [more hb]; exact g)))

theorem r15 (G : T (T AV)) (b : Nat → Int) (out : List UInt8) (R : AV → Prop) (K : AM → Prop) : Obl P 6 (fun v _ => R v) 0 K [.run 22, .step, .run 8, .op, .op, .run 4, .op, .op, .run 9, .can 0 [0] [1, 3, 4, 5] []] (M G b out 15) = Round (b 15) out (K (M G b (out ++ sl (hL (b 15)) ++ sl (lL (b 15))) 16)) := by kernel_rfl

theorem s15 {R : AV → Prop} {G : T (T AV)} {b : Nat → Int} (hb : ∀ i, 0 ≤ b i ∧ b i < 256) (g : Goal P 0 6 (fun v _ => R v) (M G b (hx b 16) 16)) : Goal P 0 6 (fun v _ => R v) (M G b (hx b 15) 15) :=
  Obl.goal (K := Goal P 0 6 _) mix (fun _ h => h) (cast (r15 G b _ R _).symm (fill (hb 15) (by rw [hx_len]; omega) (by rw [more hb]; exact g)))

theorem r16 (G : T (T AV)) (b : Nat → Int) (out : List UInt8) (R : AV → Prop) (K : AM → Prop) : Obl P 6 (fun v _ => R v) 0 K [.run 22, .step, .run 8, .op, .op, .run 4, .op, .op, .run 9, .can 0 [0] [1, 3, 4, 5] []] (M G b out 16) = Round (b 16) out (K (M G b (out ++ sl (hL (b 16)) ++ sl (lL (b 16))) 17)) := by kernel_rfl

theorem s16 {R : AV → Prop} {G : T (T AV)} {b : Nat → Int} (hb : ∀ i, 0 ≤ b i ∧ b i < 256) (g : Goal P 0 6 (fun v _ => R v) (M G b (hx b 17) 17)) : Goal P 0 6 (fun v _ => R v) (M G b (hx b 16) 16) :=
  Obl.goal (K := Goal P 0 6 _) mix (fun _ h => h) (cast (r16 G b _ R _).symm (fill (hb 16) (by rw [hx_len]; omega) (by rw [more hb]; exact g)))

theorem r17 (G : T (T AV)) (b : Nat → Int) (out : List UInt8) (R : AV → Prop) (K : AM → Prop) : Obl P 6 (fun v _ => R v) 0 K [.run 22, .step, .run 8, .op, .op, .run 4, .op, .op, .run 9, .can 0 [0] [1, 3, 4, 5] []] (M G b out 17) = Round (b 17) out (K (M G b (out ++ sl (hL (b 17)) ++ sl (lL (b 17))) 18)) := by kernel_rfl

theorem s17 {R : AV → Prop} {G : T (T AV)} {b : Nat → Int} (hb : ∀ i, 0 ≤ b i ∧ b i < 256) (g : Goal P 0 6 (fun v _ => R v) (M G b (hx b 18) 18)) : Goal P 0 6 (fun v _ => R v) (M G b (hx b 17) 17) :=
  Obl.goal (K := Goal P 0 6 _) mix (fun _ h => h) (cast (r17 G b _ R _).symm (fill (hb 17) (by rw [hx_len]; omega) (by rw [more hb]; exact g)))

theorem r18 (G : T (T AV)) (b : Nat → Int) (out : List UInt8) (R : AV → Prop) (K : AM → Prop) : Obl P 6 (fun v _ => R v) 0 K [.run 22, .step, .run 8, .op, .op, .run 4, .op, .op, .run 9, .can 0 [0] [1, 3, 4, 5] []] (M G b out 18) = Round (b 18) out (K (M G b (out ++ sl (hL (b 18)) ++ sl (lL (b 18))) 19)) := by kernel_rfl

theorem s18 {R : AV → Prop} {G : T (T AV)} {b : Nat → Int} (hb : ∀ i, 0 ≤ b i ∧ b i < 256) (g : Goal P 0 6 (fun v _ => R v) (M G b (hx b 19) 19)) : Goal P 0 6 (fun v _ => R v) (M G b (hx b 18) 18) :=
  Obl.goal (K := Goal P 0 6 _) mix (fun _ h => h) (cast (r18 G b _ R _).symm (fill (hb 18) (by rw [hx_len]; omega) (by rw [more hb]; exact g)))

theorem r19 (G : T (T AV)) (b : Nat → Int) (out : List UInt8) (R : AV → Prop) (K : AM → Prop) : Obl P 6 (fun v _ => R v) 0 K [.run 22, .step, .run 8, .op, .op, .run 4, .op, .op, .run 9, .can 0 [0] [1, 3, 4, 5] []] (M G b out 19) = Round (b 19) out (K (M G b (out ++ sl (hL (b 19)) ++ sl (lL (b 19))) 20)) := by kernel_rfl

theorem s19 {R : AV → Prop} {G : T (T AV)} {b : Nat → Int} (hb : ∀ i, 0 ≤ b i ∧ b i < 256) (g : Goal P 0 6 (fun v _ => R v) (M G b (hx b 20) 20)) : Goal P 0 6 (fun v _ => R v) (M G b (hx b 19) 19) :=
  Obl.goal (K := Goal P 0 6 _) mix (fun _ h => h) (cast (r19 G b _ R _).symm (fill (hb 19) (by rw [hx_len]; omega) (by rw [more hb]; exact g)))

theorem r20 (G : T (T AV)) (b : Nat → Int) (out : List UInt8) (R : AV → Prop) (K : AM → Prop) : Obl P 6 (fun v _ => R v) 0 K [.run 22, .step, .run 8, .op, .op, .run 4, .op, .op, .run 9, .can 0 [0] [1, 3, 4, 5] []] (M G b out 20) = Round (b 20) out (K (M G b (out ++ sl (hL (b 20)) ++ sl (lL (b 20))) 21)) := by kernel_rfl

theorem s20 {R : AV → Prop} {G : T (T AV)} {b : Nat → Int} (hb : ∀ i, 0 ≤ b i ∧ b i < 256) (g : Goal P 0 6 (fun v _ => R v) (M G b (hx b 21) 21)) : Goal P 0 6 (fun v _ => R v) (M G b (hx b 20) 20) :=
  Obl.goal (K := Goal P 0 6 _) mix (fun _ h => h) (cast (r20 G b _ R _).symm (fill (hb 20) (by rw [hx_len]; omega) (by rw [more hb]; exact g)))

theorem r21 (G : T (T AV)) (b : Nat → Int) (out : List UInt8) (R : AV → Prop) (K : AM → Prop) : Obl P 6 (fun v _ => R v) 0 K [.run 22, .step, .run 8, .op, .op, .run 4, .op, .op, .run 9, .can 0 [0] [1, 3, 4, 5] []] (M G b out 21) = Round (b 21) out (K (M G b (out ++ sl (hL (b 21)) ++ sl (lL (b 21))) 22)) := by kernel_rfl

theorem s21 {R : AV → Prop} {G : T (T AV)} {b : Nat → Int} (hb : ∀ i, 0 ≤ b i ∧ b i < 256) (g : Goal P 0 6 (fun v _ => R v) (M G b (hx b 22) 22)) : Goal P 0 6 (fun v _ => R v) (M G b (hx b 21) 21) :=
  Obl.goal (K := Goal P 0 6 _) mix (fun _ h => h) (cast (r21 G b _ R _).symm (fill (hb 21) (by rw [hx_len]; omega) (by rw [more hb]; exact g)))

theorem r22 (G : T (T AV)) (b : Nat → Int) (out : List UInt8) (R : AV → Prop) (K : AM → Prop) : Obl P 6 (fun v _ => R v) 0 K [.run 22, .step, .run 8, .op, .op, .run 4, .op, .op, .run 9, .can 0 [0] [1, 3, 4, 5] []] (M G b out 22) = Round (b 22) out (K (M G b (out ++ sl (hL (b 22)) ++ sl (lL (b 22))) 23)) := by kernel_rfl

theorem s22 {R : AV → Prop} {G : T (T AV)} {b : Nat → Int} (hb : ∀ i, 0 ≤ b i ∧ b i < 256) (g : Goal P 0 6 (fun v _ => R v) (M G b (hx b 23) 23)) : Goal P 0 6 (fun v _ => R v) (M G b (hx b 22) 22) :=
  Obl.goal (K := Goal P 0 6 _) mix (fun _ h => h) (cast (r22 G b _ R _).symm (fill (hb 22) (by rw [hx_len]; omega) (by rw [more hb]; exact g)))

theorem r23 (G : T (T AV)) (b : Nat → Int) (out : List UInt8) (R : AV → Prop) (K : AM → Prop) : Obl P 6 (fun v _ => R v) 0 K [.run 22, .step, .run 8, .op, .op, .run 4, .op, .op, .run 9, .can 0 [0] [1, 3, 4, 5] []] (M G b out 23) = Round (b 23) out (K (M G b (out ++ sl (hL (b 23)) ++ sl (lL (b 23))) 24)) := by kernel_rfl

theorem s23 {R : AV → Prop} {G : T (T AV)} {b : Nat → Int} (hb : ∀ i, 0 ≤ b i ∧ b i < 256) (g : Goal P 0 6 (fun v _ => R v) (M G b (hx b 24) 24)) : Goal P 0 6 (fun v _ => R v) (M G b (hx b 23) 23) :=
  Obl.goal (K := Goal P 0 6 _) mix (fun _ h => h) (cast (r23 G b _ R _).symm (fill (hb 23) (by rw [hx_len]; omega) (by rw [more hb]; exact g)))

theorem r24 (G : T (T AV)) (b : Nat → Int) (out : List UInt8) (R : AV → Prop) (K : AM → Prop) : Obl P 6 (fun v _ => R v) 0 K [.run 22, .step, .run 8, .op, .op, .run 4, .op, .op, .run 9, .can 0 [0] [1, 3, 4, 5] []] (M G b out 24) = Round (b 24) out (K (M G b (out ++ sl (hL (b 24)) ++ sl (lL (b 24))) 25)) := by kernel_rfl

theorem s24 {R : AV → Prop} {G : T (T AV)} {b : Nat → Int} (hb : ∀ i, 0 ≤ b i ∧ b i < 256) (g : Goal P 0 6 (fun v _ => R v) (M G b (hx b 25) 25)) : Goal P 0 6 (fun v _ => R v) (M G b (hx b 24) 24) :=
  Obl.goal (K := Goal P 0 6 _) mix (fun _ h => h) (cast (r24 G b _ R _).symm (fill (hb 24) (by rw [hx_len]; omega) (by rw [more hb]; exact g)))

theorem r25 (G : T (T AV)) (b : Nat → Int) (out : List UInt8) (R : AV → Prop) (K : AM → Prop) : Obl P 6 (fun v _ => R v) 0 K [.run 22, .step, .run 8, .op, .op, .run 4, .op, .op, .run 9, .can 0 [0] [1, 3, 4, 5] []] (M G b out 25) = Round (b 25) out (K (M G b (out ++ sl (hL (b 25)) ++ sl (lL (b 25))) 26)) := by kernel_rfl

theorem s25 {R : AV → Prop} {G : T (T AV)} {b : Nat → Int} (hb : ∀ i, 0 ≤ b i ∧ b i < 256) (g : Goal P 0 6 (fun v _ => R v) (M G b (hx b 26) 26)) : Goal P 0 6 (fun v _ => R v) (M G b (hx b 25) 25) :=
  Obl.goal (K := Goal P 0 6 _) mix (fun _ h => h) (cast (r25 G b _ R _).symm (fill (hb 25) (by rw [hx_len]; omega) (by rw [more hb]; exact g)))

theorem r26 (G : T (T AV)) (b : Nat → Int) (out : List UInt8) (R : AV → Prop) (K : AM → Prop) : Obl P 6 (fun v _ => R v) 0 K [.run 22, .step, .run 8, .op, .op, .run 4, .op, .op, .run 9, .can 0 [0] [1, 3, 4, 5] []] (M G b out 26) = Round (b 26) out (K (M G b (out ++ sl (hL (b 26)) ++ sl (lL (b 26))) 27)) := by kernel_rfl

theorem s26 {R : AV → Prop} {G : T (T AV)} {b : Nat → Int} (hb : ∀ i, 0 ≤ b i ∧ b i < 256) (g : Goal P 0 6 (fun v _ => R v) (M G b (hx b 27) 27)) : Goal P 0 6 (fun v _ => R v) (M G b (hx b 26) 26) :=
  Obl.goal (K := Goal P 0 6 _) mix (fun _ h => h) (cast (r26 G b _ R _).symm (fill (hb 26) (by rw [hx_len]; omega) (by rw [more hb]; exact g)))

theorem r27 (G : T (T AV)) (b : Nat → Int) (out : List UInt8) (R : AV → Prop) (K : AM → Prop) : Obl P 6 (fun v _ => R v) 0 K [.run 22, .step, .run 8, .op, .op, .run 4, .op, .op, .run 9, .can 0 [0] [1, 3, 4, 5] []] (M G b out 27) = Round (b 27) out (K (M G b (out ++ sl (hL (b 27)) ++ sl (lL (b 27))) 28)) := by kernel_rfl

theorem s27 {R : AV → Prop} {G : T (T AV)} {b : Nat → Int} (hb : ∀ i, 0 ≤ b i ∧ b i < 256) (g : Goal P 0 6 (fun v _ => R v) (M G b (hx b 28) 28)) : Goal P 0 6 (fun v _ => R v) (M G b (hx b 27) 27) :=
  Obl.goal (K := Goal P 0 6 _) mix (fun _ h => h) (cast (r27 G b _ R _).symm (fill (hb 27) (by rw [hx_len]; omega) (by rw [more hb]; exact g)))

theorem r28 (G : T (T AV)) (b : Nat → Int) (out : List UInt8) (R : AV → Prop) (K : AM → Prop) : Obl P 6 (fun v _ => R v) 0 K [.run 22, .step, .run 8, .op, .op, .run 4, .op, .op, .run 9, .can 0 [0] [1, 3, 4, 5] []] (M G b out 28) = Round (b 28) out (K (M G b (out ++ sl (hL (b 28)) ++ sl (lL (b 28))) 29)) := by kernel_rfl

theorem s28 {R : AV → Prop} {G : T (T AV)} {b : Nat → Int} (hb : ∀ i, 0 ≤ b i ∧ b i < 256) (g : Goal P 0 6 (fun v _ => R v) (M G b (hx b 29) 29)) : Goal P 0 6 (fun v _ => R v) (M G b (hx b 28) 28) :=
  Obl.goal (K := Goal P 0 6 _) mix (fun _ h => h) (cast (r28 G b _ R _).symm (fill (hb 28) (by rw [hx_len]; omega) (by rw [more hb]; exact g)))

theorem r29 (G : T (T AV)) (b : Nat → Int) (out : List UInt8) (R : AV → Prop) (K : AM → Prop) : Obl P 6 (fun v _ => R v) 0 K [.run 22, .step, .run 8, .op, .op, .run 4, .op, .op, .run 9, .can 0 [0] [1, 3, 4, 5] []] (M G b out 29) = Round (b 29) out (K (M G b (out ++ sl (hL (b 29)) ++ sl (lL (b 29))) 30)) := by kernel_rfl

theorem s29 {R : AV → Prop} {G : T (T AV)} {b : Nat → Int} (hb : ∀ i, 0 ≤ b i ∧ b i < 256) (g : Goal P 0 6 (fun v _ => R v) (M G b (hx b 30) 30)) : Goal P 0 6 (fun v _ => R v) (M G b (hx b 29) 29) :=
  Obl.goal (K := Goal P 0 6 _) mix (fun _ h => h) (cast (r29 G b _ R _).symm (fill (hb 29) (by rw [hx_len]; omega) (by rw [more hb]; exact g)))

theorem r30 (G : T (T AV)) (b : Nat → Int) (out : List UInt8) (R : AV → Prop) (K : AM → Prop) : Obl P 6 (fun v _ => R v) 0 K [.run 22, .step, .run 8, .op, .op, .run 4, .op, .op, .run 9, .can 0 [0] [1, 3, 4, 5] []] (M G b out 30) = Round (b 30) out (K (M G b (out ++ sl (hL (b 30)) ++ sl (lL (b 30))) 31)) := by kernel_rfl

theorem s30 {R : AV → Prop} {G : T (T AV)} {b : Nat → Int} (hb : ∀ i, 0 ≤ b i ∧ b i < 256) (g : Goal P 0 6 (fun v _ => R v) (M G b (hx b 31) 31)) : Goal P 0 6 (fun v _ => R v) (M G b (hx b 30) 30) :=
  Obl.goal (K := Goal P 0 6 _) mix (fun _ h => h) (cast (r30 G b _ R _).symm (fill (hb 30) (by rw [hx_len]; omega) (by rw [more hb]; exact g)))

theorem r31 (G : T (T AV)) (b : Nat → Int) (out : List UInt8) (R : AV → Prop) (K : AM → Prop) : Obl P 6 (fun v _ => R v) 0 K [.run 22, .step, .run 8, .op, .op, .run 4, .op, .op, .run 9, .can 0 [0] [1, 3, 4, 5] []] (M G b out 31) = Round (b 31) out (K (M G b (out ++ sl (hL (b 31)) ++ sl (lL (b 31))) 32)) := by kernel_rfl

theorem s31 {R : AV → Prop} {G : T (T AV)} {b : Nat → Int} (hb : ∀ i, 0 ≤ b i ∧ b i < 256) (g : Goal P 0 6 (fun v _ => R v) (M G b (hx b 32) 32)) : Goal P 0 6 (fun v _ => R v) (M G b (hx b 31) 31) :=
  Obl.goal (K := Goal P 0 6 _) mix (fun _ h => h) (cast (r31 G b _ R _).symm (fill (hb 31) (by rw [hx_len]; omega) (by rw [more hb]; exact g)))

theorem ref_ok {G : T (T AV)} {b : Nat → Int} (hb : ∀ i, 0 ≤ b i ∧ b i < 256) : Goal P 0 6 (fun v _ => v = .str (hx b 32)) (startM P 6 [.agg [.int .u8 (b 0), .int .u8 (b 1), .int .u8 (b 2), .int .u8 (b 3), .int .u8 (b 4), .int .u8 (b 5), .int .u8 (b 6), .int .u8 (b 7), .int .u8 (b 8), .int .u8 (b 9), .int .u8 (b 10), .int .u8 (b 11), .int .u8 (b 12), .int .u8 (b 13), .int .u8 (b 14), .int .u8 (b 15), .int .u8 (b 16), .int .u8 (b 17), .int .u8 (b 18), .int .u8 (b 19), .int .u8 (b 20), .int .u8 (b 21), .int .u8 (b 22), .int .u8 (b 23), .int .u8 (b 24), .int .u8 (b 25), .int .u8 (b 26), .int .u8 (b 27), .int .u8 (b 28), .int .u8 (b 29), .int .u8 (b 30), .int .u8 (b 31)]] G) :=
  Obl.goal (K := Goal P 0 6 _) mix (fun _ h => h) (cast (ref0 G b (fun v => v = .str (hx b 32)) _).symm (s0 (R := fun v => v = .str (hx b 32)) hb (s1 hb (s2 hb (s3 hb (s4 hb (s5 hb (s6 hb (s7 hb (s8 hb (s9 hb (s10 hb (s11 hb (s12 hb (s13 hb (s14 hb (s15 hb (s16 hb (s17 hb (s18 hb (s19 hb (s20 hb (s21 hb (s22 hb (s23 hb (s24 hb (s25 hb (s26 hb (s27 hb (s28 hb (s29 hb (s30 hb (s31 hb (Obl.goal (K := Goal P 0 6 _) mix (fun _ h => h) (cast (rEnd G b _ (fun v => v = .str (hx b 32)) _).symm rfl)))))))))))))))))))))))))))))))))))

theorem works (G : T (T AV)) (R : AV → Prop) (_K : AM → Prop) : Obl P 7 (fun v _ => R v) 0 _K [.run 7, .callv [0] (.agg [.int .u8 186, .int .u8 120, .int .u8 22, .int .u8 191, .int .u8 143, .int .u8 1, .int .u8 207, .int .u8 234, .int .u8 65, .int .u8 65, .int .u8 64, .int .u8 222, .int .u8 93, .int .u8 174, .int .u8 34, .int .u8 35, .int .u8 176, .int .u8 3, .int .u8 97, .int .u8 163, .int .u8 150, .int .u8 23, .int .u8 122, .int .u8 156, .int .u8 180, .int .u8 16, .int .u8 255, .int .u8 97, .int .u8 242, .int .u8 0, .int .u8 21, .int .u8 173]), .run 1285, .done] (startM P 7 [] G) = (Goal P 0 9 (fun v _ => v = (.agg [.int .u8 186, .int .u8 120, .int .u8 22, .int .u8 191, .int .u8 143, .int .u8 1, .int .u8 207, .int .u8 234, .int .u8 65, .int .u8 65, .int .u8 64, .int .u8 222, .int .u8 93, .int .u8 174, .int .u8 34, .int .u8 35, .int .u8 176, .int .u8 3, .int .u8 97, .int .u8 163, .int .u8 150, .int .u8 23, .int .u8 122, .int .u8 156, .int .u8 180, .int .u8 16, .int .u8 255, .int .u8 97, .int .u8 242, .int .u8 0, .int .u8 21, .int .u8 173])) (startM P 9 [.str [97, 98, 99]] G) ∧ R (.bool true)) := by kernel_rfl

theorem works_ok : Goal P 0 7 (fun v _ => v = .bool true) (startM P 7 [] glob) :=
  Obl.goal (K := Goal P 0 7 _) mix (fun _ h => h) (cast (works glob (fun v => v = .bool true) _).symm ⟨sum, rfl⟩)

/-! ### An array of 32 bytes that comes in -/
theorem c22 : P.cellsOf 22 = 32 := by kernel_rfl
theorem c5 : P.cellsOf 5 = 1 := by kernel_rfl
theorem u22 : P.underlying 22 = some (.array 32 5) := by kernel_rfl
theorem u5 : P.underlying 5 = some (.int .u8) := by kernel_rfl

theorem in_sum {H : Type} {enc : TypeId × Value → H} {w : World} {b0 : Nat} {v : Value} {d : DataW H} {ps : List MemPlace} (hv : Value.okWide P w .any b0 22 v) (h : DataW.Trod enc P w 0 (fun _ => true) true 22 v d ps) :
    ∃ b : Nat → Int, (∀ i, 0 ≤ b i ∧ b i < 256) ∧ v = .agg (((List.range 32).map fun i => Value.int .u8 (b i)).toArray) := by
  unfold Value.okWide at hv
  rw [u22] at hv
  obtain ⟨⟨l⟩, rfl, hl, _⟩ := hv
  rw [c22] at hl
  have hl : l.length = 32 := hl
  obtain ⟨fuel, h⟩ := h
  obtain ⟨xs, m, rfl, hx, hlen, hxl, hel⟩ := DataW.trod_array u22 h
  have key : ∀ i, i < 32 → ∃ n : Int, l[i]? = some (.int .u8 n) ∧ 0 ≤ n ∧ n < 256 := by
    intro i hi
    have hxi : i < xs.length := by omega
    have hci : i < l.length := by omega
    have h : DataW.trod enc P w 0 (fun _ => true) true m 5 ((l.drop (i * P.cellsOf 5)).take (P.cellsOf 5)) = xs[i]? := hel i hi
    have hone : (l.drop (i * P.cellsOf 5)).take (P.cellsOf 5) = [l[i]] := by
      rw [c5, Nat.mul_one, List.drop_eq_getElem_cons hci]
      rfl
    rw [hone, List.getElem?_eq_getElem hxi] at h
    obtain ⟨n, h1, _, h2⟩ := DataW.trod_int u5 h
    simp only [List.cons.injEq, and_true] at h1
    have := bounds_u8 h2
    exact ⟨n, by rw [List.getElem?_eq_getElem hci, h1], by omega, by omega⟩
  refine ⟨fun i => if hi : i < 32 then (key i hi).choose else 0, fun i => ?_, ?_⟩
  · show 0 ≤ (if hi : i < 32 then (key i hi).choose else 0) ∧ (if hi : i < 32 then (key i hi).choose else 0) < 256
    split
    · rename_i hi
      exact (key i hi).choose_spec.2
    · omega
  · have e : l = (List.range 32).map fun i => Value.int .u8 (if hi : i < 32 then (key i hi).choose else 0) := by
      apply List.ext_getElem?
      intro i
      by_cases hi : i < 32
      · rw [(key i hi).choose_spec.1, List.getElem?_map, List.getElem?_range hi, Option.map_some, dif_pos hi]
      · rw [List.getElem?_eq_none (by omega), List.getElem?_eq_none (by simp; omega)]
    exact congrArg (fun l => Value.agg ⟨l⟩) e

theorem str_of {R : Bij} (b : Nat → Int) : VRel R (.agg [.int .u8 (b 0), .int .u8 (b 1), .int .u8 (b 2), .int .u8 (b 3), .int .u8 (b 4), .int .u8 (b 5), .int .u8 (b 6), .int .u8 (b 7), .int .u8 (b 8), .int .u8 (b 9), .int .u8 (b 10), .int .u8 (b 11), .int .u8 (b 12), .int .u8 (b 13), .int .u8 (b 14), .int .u8 (b 15), .int .u8 (b 16), .int .u8 (b 17), .int .u8 (b 18), .int .u8 (b 19), .int .u8 (b 20), .int .u8 (b 21), .int .u8 (b 22), .int .u8 (b 23), .int .u8 (b 24), .int .u8 (b 25), .int .u8 (b 26), .int .u8 (b 27), .int .u8 (b 28), .int .u8 (b 29), .int .u8 (b 30), .int .u8 (b 31)]) (.agg (((List.range 32).map fun i => Value.int .u8 (b i)).toArray)) :=
  ⟨_, rfl, by repeat first | exact rfl | refine ⟨_, _, rfl, rfl, ?_⟩⟩
end Go.Proofs.YtimpmdcifobgfaaDoor.shaCommon
