/- Two texts compared, and the digits of 32 bytes, at any arguments: for the statements of sessions. -/
import Derived.Test.YtcdgbadnnodbeaaDoorMacWa
set_option maxRecDepth 100000
namespace Go.Proofs.YtcdgbadnnodbeaaDoor.shaW
open Go Ev

/-! ## Two texts compared -/

noncomputable def MS (a b : List UInt8) (G : T (T AV)) (u i : Int) : AM := ⟨⟨11, 29, (.node (.node .leaf (some (.str b)) (.node .leaf (some (.int .u8 u)) (.node .leaf (some (.int .i64 (↑a.length : Int))) .leaf))) (some (.str a)) (.node .leaf none (.node .leaf none (.node .leaf (some (.int .i64 i)) .leaf)))),
   [.code (cd P (11 : Nat) [(1 : Nat), (1 : Nat), (1 : Nat), (0 : Nat), (1 : Nat), (0 : Nat), (0 : Nat)]), .inLoop (cd P (11 : Nat) [(1 : Nat), (1 : Nat), (1 : Nat), (0 : Nat), (1 : Nat), (0 : Nat), (0 : Nat)]), .inBlock 0, .code (cd P (11 : Nat) [(1 : Nat), (1 : Nat), (1 : Nat), (1 : Nat)])], [], .run, CallKind.normal, none⟩,
  [],
  ⟨.leaf, 0, G⟩⟩

/-- What two bytes make of the bits so far. -/
def nxt (u : Int) (x y : UInt8) : Int := IntKind.u8.wrap (↑(BitVec.ofInt 8 u ||| BitVec.ofInt 8 (IntKind.u8.wrap (↑(BitVec.ofInt 8 (↑x.toNat : Int) ^^^ BitVec.ofInt 8 (↑y.toNat : Int)).toNat : Int))).toNat : Int)

theorem sameN (G : T (T AV)) (a b : List UInt8) (R : AV → Prop) (_K : AM → Prop) : Obl P 11 (fun v _ => R v) 0 _K [.run 13, .know 11 true, .run 6, .done] ((startM P 11 [.str a, .str b] G)) = ((((↑a.length : Int) != (↑b.length : Int)) = true) ∧ (R (.bool false))) := by kernel_rfl

theorem s_head (G : T (T AV)) (a b : List UInt8) (R : AV → Prop) (K : AM → Prop) : Obl P 11 (fun v _ => R v) 0 K [.run 13, .know 11 false, .run 15, .can 0 [] [0, 1, 5, 13, 14] []] ((startM P 11 [.str a, .str b] G)) = ((((↑a.length : Int) != (↑b.length : Int)) = false) ∧ K (MS a b G (0 : Int) (0 : Int))) := by kernel_rfl

theorem s_round (G : T (T AV)) (a b : List UInt8) (u i : Int) (R : AV → Prop) (K : AM → Prop) : Obl P 11 (fun v _ => R v) 0 K [.run 5, .know 15 true, .run 13, .op, .run 2, .op, .run 10, .can 0 [] [0, 1, 5, 13, 14] []] ((MS a b G u i)) = ((decide (i < (↑a.length : Int)) = true) ∧ ((0 : Int) ≤ i ∧ i < (↑a.length : Int)) ∧ ((0 : Int) ≤ i ∧ i < (↑b.length : Int)) ∧ K (MS a b G (nxt u (a.getD i.toNat 0) (b.getD i.toNat 0)) (IntKind.i64.wrap (i + 1)))) := by kernel_rfl

theorem s_out (G : T (T AV)) (a b : List UInt8) (u i : Int) (R : AV → Prop) (_K : AM → Prop) : Obl P 11 (fun v _ => R v) 0 _K [.run 5, .know 15 false, .run 9, .done] ((MS a b G u i)) = ((decide (i < (↑a.length : Int)) = false) ∧ (R (.bool (u == (0 : Int))))) := by kernel_rfl

theorem of8 (x : UInt8) : BitVec.ofInt 8 (x.toNat : Int) = x.toBitVec := by
  rw [BitVec.ofInt_natCast]
  apply BitVec.eq_of_toNat_eq
  rw [BitVec.toNat_ofNat]
  exact Nat.mod_eq_of_lt x.toBitVec.isLt

theorem in8 (x : BitVec 8) : IntKind.u8.wrap (x.toNat : Int) = x.toNat := IntWalk.u8_in _ (by have := x.isLt; omega)

theorem nxt_eq (w x y : UInt8) : nxt (w.toNat : Int) x y = ((w ||| (x ^^^ y)).toNat : Int) := by
  unfold nxt
  rw [of8, of8, of8, in8, in8]
  have h : ((x.toBitVec ^^^ y.toBitVec).toNat : Int) = ((x ^^^ y).toNat : Int) := rfl
  rw [h, of8]
  rfl

theorem or_zero (w x y : UInt8) : (w ||| (x ^^^ y)) = 0 ↔ w = 0 ∧ x = y := by
  rw [UInt8.or_eq_zero_iff, UInt8.xor_eq_zero_iff]

theorem take_more {a b : List UInt8} {i : Nat} (ha : i < a.length) (hb : i < b.length) : a.take (i + 1) = b.take (i + 1) ↔ a.take i = b.take i ∧ a.getD i 0 = b.getD i 0 := by
  rw [List.take_succ_eq_append_getElem ha, List.take_succ_eq_append_getElem hb]
  have h1 : a.getD i 0 = a[i] := by simp [List.getD, ha]
  have h2 : b.getD i 0 = b[i] := by simp [List.getD, hb]
  rw [h1, h2]
  constructor
  · intro h
    have := List.append_inj h (by simp; omega)
    exact ⟨this.1, by simpa using this.2⟩
  · rintro ⟨h, k⟩
    rw [h, k]

theorem s_loop {R : AV → Prop} {G : T (T AV)} {a b : List UInt8} (hab : a.length = b.length) (hl : a.length ≤ maxLen) (hR : R (.bool (a == b))) : ∀ (n i : Nat) (w : UInt8), i + n = a.length → (w = 0 ↔ a.take i = b.take i) → Goal P 0 11 (fun v _ => R v) (MS a b G (w.toNat : Int) (i : Int))
  | 0, i, w, hi, hw => by
    refine Obl.goal (K := Goal P 0 11 _) mix (fun _ h => h) (cast (s_out G a b _ _ R _).symm ⟨decide_eq_false (by omega), ?_⟩)
    have e : ((w.toNat : Int) == 0) = (a == b) := by
      rw [List.take_of_length_le (by omega), List.take_of_length_le (by omega)] at hw
      rw [Bool.eq_iff_iff, beq_iff_eq, beq_iff_eq, ← hw]
      constructor
      · intro h
        exact UInt8.toNat_inj.1 (by have : (0 : UInt8).toNat = 0 := rfl; omega)
      · rintro rfl
        rfl
    rw [e]
    exact hR
  | n + 1, i, w, hi, hw => by
    have hm : maxLen ≤ 9223372036854775807 := by decide
    refine Obl.goal (K := Goal P 0 11 _) mix (fun _ h => h) (cast (s_round G a b _ _ R _).symm ⟨decide_eq_true (by omega), ⟨by omega, by omega⟩, ⟨by omega, by omega⟩, ?_⟩)
    rw [nxt_eq, IntWalk.i64_in _ (by omega)]
    exact s_loop hab hl hR n (i + 1) _ (by omega) ((or_zero _ _ _).trans (by rw [take_more (by omega) (by omega), hw]; rfl))

theorem same_ok {G : T (T AV)} {a b : List UInt8} (hl : a.length ≤ maxLen) : Goal P 0 11 (fun v _ => v = .bool (a == b)) (startM P 11 [.str a, .str b] G) := by
  by_cases h : a.length = b.length
  · refine Obl.goal (K := Goal P 0 11 _) mix (fun _ h => h) (cast (s_head G a b (fun v => v = .bool (a == b)) _).symm ⟨by rw [h]; simp, ?_⟩)
    exact s_loop (R := fun v => v = .bool (a == b)) h hl rfl a.length 0 0 (by omega) (by simp)
  · refine Obl.goal (K := Goal P 0 11 _) mix (fun _ h => h) (cast (sameN G a b (fun v => v = .bool (a == b)) _).symm ⟨?_, ?_⟩)
    · rw [bne_iff_ne]
      omega
    · have e : (a == b) = false := by
        rw [beq_eq_false_iff_ne]
        rintro rfl
        exact h rfl
      rw [e]

/-! ## Digits -/

def D : List UInt8 := [48, 49, 50, 51, 52, 53, 54, 55, 56, 57, 97, 98, 99, 100, 101, 102]
/-- The two digits' values, as the program finds them. -/
def hiI (x : Int) : Int := x.fdiv (2 ^ min (Int.toNat 4) IntKind.u8.bits)
def loI (x : Int) : Int := IntKind.u8.wrap (↑(BitVec.ofInt 8 x &&& BitVec.ofInt 8 15).toNat : Int)
/-- The digit of a value. -/
def dg (i : Int) : UInt8 := UInt8.ofNat (↑(D.getD i.toNat 0).toNat : Int).toNat
/-- The digits of the first bytes. -/
def hx (b : Nat → Int) : Nat → List UInt8
  | 0 => []
  | k + 1 => hx b k ++ [dg (hiI (b k)), dg (loI (b k))]
def Ok (i : Int) : Prop := 0 ≤ i ∧ i < (↑D.length : Int)
instance (i : Int) : Decidable (Ok i) := by unfold Ok; infer_instance
def Two (x : Int) (i : Nat) (k : Prop) : Prop := Ok (hiI x) ∧ Ok (loI x) ∧ (some (AV.int .u8 (loI x)) = some (AV.int .u8 (loI x))) ∧ (some (AV.int .i64 (Int.ofNat (2 * i + 1))) = some (AV.int .i64 (Int.ofNat (2 * i + 1)))) ∧ (some (AV.int .i64 (Int.ofNat (2 * i))) = some (AV.int .i64 (Int.ofNat (2 * i)))) ∧ k

theorem hex (G : T (T AV)) (b : Nat → Int) (R : AV → Prop) (_K : AM → Prop) : Obl P 19 (fun v _ => R v) 0 _K [.run 41, .op, .run 2, .op, .run 1, .step, .run 33, .op, .run 2, .op, .run 1, .step, .run 33, .op, .run 2, .op, .run 1, .step, .run 33, .op, .run 2, .op, .run 1, .step, .run 33, .op, .run 2, .op, .run 1, .step, .run 33, .op, .run 2, .op, .run 1, .step, .run 33, .op, .run 2, .op, .run 1, .step, .run 33, .op, .run 2, .op, .run 1, .step, .run 33, .op, .run 2, .op, .run 1, .step, .run 33, .op, .run 2, .op, .run 1, .step, .run 33, .op, .run 2, .op, .run 1, .step, .run 33, .op, .run 2, .op, .run 1, .step, .run 33, .op, .run 2, .op, .run 1, .step, .run 33, .op, .run 2, .op, .run 1, .step, .run 33, .op, .run 2, .op, .run 1, .step, .run 33, .op, .run 2, .op, .run 1, .step, .run 33, .op, .run 2, .op, .run 1, .step, .run 33, .op, .run 2, .op, .run 1, .step, .run 33, .op, .run 2, .op, .run 1, .step, .run 33, .op, .run 2, .op, .run 1, .step, .run 33, .op, .run 2, .op, .run 1, .step, .run 33, .op, .run 2, .op, .run 1, .step, .run 33, .op, .run 2, .op, .run 1, .step, .run 33, .op, .run 2, .op, .run 1, .step, .run 33, .op, .run 2, .op, .run 1, .step, .run 33, .op, .run 2, .op, .run 1, .step, .run 33, .op, .run 2, .op, .run 1, .step, .run 33, .op, .run 2, .op, .run 1, .step, .run 33, .op, .run 2, .op, .run 1, .step, .run 33, .op, .run 2, .op, .run 1, .step, .run 33, .op, .run 2, .op, .run 1, .step, .run 33, .op, .run 2, .op, .run 1, .step, .run 23, .done] (startM P 19 [.agg [.int .u8 (b 0), .int .u8 (b 1), .int .u8 (b 2), .int .u8 (b 3), .int .u8 (b 4), .int .u8 (b 5), .int .u8 (b 6), .int .u8 (b 7), .int .u8 (b 8), .int .u8 (b 9), .int .u8 (b 10), .int .u8 (b 11), .int .u8 (b 12), .int .u8 (b 13), .int .u8 (b 14), .int .u8 (b 15), .int .u8 (b 16), .int .u8 (b 17), .int .u8 (b 18), .int .u8 (b 19), .int .u8 (b 20), .int .u8 (b 21), .int .u8 (b 22), .int .u8 (b 23), .int .u8 (b 24), .int .u8 (b 25), .int .u8 (b 26), .int .u8 (b 27), .int .u8 (b 28), .int .u8 (b 29), .int .u8 (b 30), .int .u8 (b 31)]] G) = Two (b 0) 0 (Two (b 1) 1 (Two (b 2) 2 (Two (b 3) 3 (Two (b 4) 4 (Two (b 5) 5 (Two (b 6) 6 (Two (b 7) 7 (Two (b 8) 8 (Two (b 9) 9 (Two (b 10) 10 (Two (b 11) 11 (Two (b 12) 12 (Two (b 13) 13 (Two (b 14) 14 (Two (b 15) 15 (Two (b 16) 16 (Two (b 17) 17 (Two (b 18) 18 (Two (b 19) 19 (Two (b 20) 20 (Two (b 21) 21 (Two (b 22) 22 (Two (b 23) 23 (Two (b 24) 24 (Two (b 25) 25 (Two (b 26) 26 (Two (b 27) 27 (Two (b 28) 28 (Two (b 29) 29 (Two (b 30) 30 (Two (b 31) 31 (R (.str (hx b 32)))))))))))))))))))))))))))))))))) := by kernel_rfl

theorem bytes : ∀ n : Fin 256, Ok (hiI n.1) ∧ Ok (loI n.1) := by decide +kernel

theorem byte {x : Int} (h : 0 ≤ x ∧ x < 256) : Ok (hiI x) ∧ Ok (loI x) := by
  have := bytes ⟨x.toNat, by omega⟩
  have e : ((x.toNat : Nat) : Int) = x := by omega
  simpa only [e] using this

theorem two_fill {x : Int} {i : Nat} {k : Prop} (h : 0 ≤ x ∧ x < 256) (g : k) : Two x i k := ⟨(byte h).1, (byte h).2, rfl, rfl, rfl, g⟩

theorem hx_len (b : Nat → Int) : ∀ k, (hx b k).length = 2 * k
  | 0 => rfl
  | k + 1 => by
    unfold hx
    rw [List.length_append, hx_len b k]
    rfl

theorem hex_ok {G : T (T AV)} {b : Nat → Int} (hb : ∀ i, 0 ≤ b i ∧ b i < 256) : Goal P 0 19 (fun v _ => v = .str (hx b 32)) (startM P 19 [.agg [.int .u8 (b 0), .int .u8 (b 1), .int .u8 (b 2), .int .u8 (b 3), .int .u8 (b 4), .int .u8 (b 5), .int .u8 (b 6), .int .u8 (b 7), .int .u8 (b 8), .int .u8 (b 9), .int .u8 (b 10), .int .u8 (b 11), .int .u8 (b 12), .int .u8 (b 13), .int .u8 (b 14), .int .u8 (b 15), .int .u8 (b 16), .int .u8 (b 17), .int .u8 (b 18), .int .u8 (b 19), .int .u8 (b 20), .int .u8 (b 21), .int .u8 (b 22), .int .u8 (b 23), .int .u8 (b 24), .int .u8 (b 25), .int .u8 (b 26), .int .u8 (b 27), .int .u8 (b 28), .int .u8 (b 29), .int .u8 (b 30), .int .u8 (b 31)]] G) :=
  Obl.goal (K := Goal P 0 19 _) mix (fun _ h => h) (cast (hex G b (fun v => v = .str (hx b 32)) _).symm (by
    repeat first | exact rfl | refine two_fill (hb _) ?_))

end Go.Proofs.YtcdgbadnnodbeaaDoor.shaW
