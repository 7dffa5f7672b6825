/- The digits of 32 bytes tell them, byte by byte: the loop of the statement ShaApart, and what its two comparings come to. -/
import Derived.Test.YtimpmdcifobgfaaDoorShaH
set_option maxRecDepth 100000
namespace Go.Proofs.YtimpmdcifobgfaaDoor.shaCommon
open Go Ev
noncomputable abbrev Q : AV → AHeap → Prop := fun v _ => v = .bool true
noncomputable def Tr (b : Nat → Int) : T AV := (.node (.node (.node (.node (.node (.node .leaf (some (.int .u8 (b 31))) .leaf) (some (.int .u8 (b 15))) .leaf) (some (.int .u8 (b 7))) (.node .leaf (some (.int .u8 (b 23))) .leaf)) (some (.int .u8 (b 3))) (.node (.node .leaf (some (.int .u8 (b 19))) .leaf) (some (.int .u8 (b 11))) (.node .leaf (some (.int .u8 (b 27))) .leaf))) (some (.int .u8 (b 1))) (.node (.node (.node .leaf (some (.int .u8 (b 17))) .leaf) (some (.int .u8 (b 9))) (.node .leaf (some (.int .u8 (b 25))) .leaf)) (some (.int .u8 (b 5))) (.node (.node .leaf (some (.int .u8 (b 21))) .leaf) (some (.int .u8 (b 13))) (.node .leaf (some (.int .u8 (b 29))) .leaf)))) (some (.int .u8 (b 0))) (.node (.node (.node (.node .leaf (some (.int .u8 (b 16))) .leaf) (some (.int .u8 (b 8))) (.node .leaf (some (.int .u8 (b 24))) .leaf)) (some (.int .u8 (b 4))) (.node (.node .leaf (some (.int .u8 (b 20))) .leaf) (some (.int .u8 (b 12))) (.node .leaf (some (.int .u8 (b 28))) .leaf))) (some (.int .u8 (b 2))) (.node (.node (.node .leaf (some (.int .u8 (b 18))) .leaf) (some (.int .u8 (b 10))) (.node .leaf (some (.int .u8 (b 26))) .leaf)) (some (.int .u8 (b 6))) (.node (.node .leaf (some (.int .u8 (b 22))) .leaf) (some (.int .u8 (b 14))) (.node .leaf (some (.int .u8 (b 30))) .leaf)))))
noncomputable def Hab (G : T (T AV)) (a b : Nat → Int) : AHeap := ⟨(.node (.node .leaf (some (.cells (Tr b) 32 22 0 0 1 0 false .leaf)) .leaf) (some (.cells (Tr a) 32 22 0 0 1 0 false .leaf)) .leaf), 2, G⟩

noncomputable def MA (G : T (T AV)) (a : Nat → Int) (h : List UInt8) (i : Int) : AM := ⟨⟨4, 59, (.node (.node (.node (.node .leaf (some (.int .i64 i)) .leaf) none .leaf) none (.node .leaf (some (.str h)) .leaf)) none (.node .leaf (some (.ptr 0 0 0)) .leaf)),
   [.code (cd P (4 : Nat) [(1 : Nat), (1 : Nat), (1 : Nat), (0 : Nat), (1 : Nat), (0 : Nat), (0 : Nat)]), .inLoop (cd P (4 : Nat) [(1 : Nat), (1 : Nat), (1 : Nat), (0 : Nat), (1 : Nat), (0 : Nat), (0 : Nat)]), .inBlock 0, .code (cd P (4 : Nat) [(1 : Nat), (1 : Nat), (1 : Nat), (1 : Nat)])], [], .run, CallKind.normal, none⟩,
  [],
  ⟨(.node .leaf (some (.cells (Tr a) 32 22 0 0 1 0 false .leaf)) .leaf), 1, G⟩⟩

def Dig (G : T (T AV)) (x : Int) (h : List UInt8) (i j : Nat) (u v : Int) (k : Prop) : Prop := ((0 : Int) ≤ Int.ofNat i ∧ Int.ofNat i < (↑h.length : Int)) ∧ ((0 : Int) ≤ Int.ofNat j ∧ Int.ofNat j < (↑h.length : Int)) ∧ (Goal P 0 8 (fun x _ => x = AV.int IntKind.i64 u) (startM P 8 [.int .u8 (↑(h.getD i 0).toNat : Int)] G)) ∧ (some (AV.int IntKind.i64 (Int.ofNat j)) = some (AV.int IntKind.i64 (Int.ofNat j))) ∧ (some (AV.int IntKind.i64 (Int.ofNat i)) = some (AV.int IntKind.i64 (Int.ofNat i))) ∧ (Goal P 0 8 (fun x _ => x = AV.int IntKind.i64 v) (startM P 8 [.int .u8 (↑(h.getD j 0).toNat : Int)] G)) ∧ (decide (u < (0 : Int)) = false) ∧ (decide (v < (0 : Int)) = false) ∧ ((IntKind.i64.wrap (IntKind.i64.wrap ((16 : Int) * u) + v) != IntKind.i64.wrap x) = false) ∧ k

theorem v0 (G : T (T AV)) : Ev.runA P 8 60 (startM P 8 [.int .u8 (↑(dg 0).toNat : Int)] G) = some (.int .i64 0) := by kernel_rfl
theorem v1 (G : T (T AV)) : Ev.runA P 8 60 (startM P 8 [.int .u8 (↑(dg 1).toNat : Int)] G) = some (.int .i64 1) := by kernel_rfl
theorem v2 (G : T (T AV)) : Ev.runA P 8 60 (startM P 8 [.int .u8 (↑(dg 2).toNat : Int)] G) = some (.int .i64 2) := by kernel_rfl
theorem v3 (G : T (T AV)) : Ev.runA P 8 60 (startM P 8 [.int .u8 (↑(dg 3).toNat : Int)] G) = some (.int .i64 3) := by kernel_rfl
theorem v4 (G : T (T AV)) : Ev.runA P 8 60 (startM P 8 [.int .u8 (↑(dg 4).toNat : Int)] G) = some (.int .i64 4) := by kernel_rfl
theorem v5 (G : T (T AV)) : Ev.runA P 8 60 (startM P 8 [.int .u8 (↑(dg 5).toNat : Int)] G) = some (.int .i64 5) := by kernel_rfl
theorem v6 (G : T (T AV)) : Ev.runA P 8 60 (startM P 8 [.int .u8 (↑(dg 6).toNat : Int)] G) = some (.int .i64 6) := by kernel_rfl
theorem v7 (G : T (T AV)) : Ev.runA P 8 60 (startM P 8 [.int .u8 (↑(dg 7).toNat : Int)] G) = some (.int .i64 7) := by kernel_rfl
theorem v8 (G : T (T AV)) : Ev.runA P 8 60 (startM P 8 [.int .u8 (↑(dg 8).toNat : Int)] G) = some (.int .i64 8) := by kernel_rfl
theorem v9 (G : T (T AV)) : Ev.runA P 8 60 (startM P 8 [.int .u8 (↑(dg 9).toNat : Int)] G) = some (.int .i64 9) := by kernel_rfl
theorem v10 (G : T (T AV)) : Ev.runA P 8 60 (startM P 8 [.int .u8 (↑(dg 10).toNat : Int)] G) = some (.int .i64 10) := by kernel_rfl
theorem v11 (G : T (T AV)) : Ev.runA P 8 60 (startM P 8 [.int .u8 (↑(dg 11).toNat : Int)] G) = some (.int .i64 11) := by kernel_rfl
theorem v12 (G : T (T AV)) : Ev.runA P 8 60 (startM P 8 [.int .u8 (↑(dg 12).toNat : Int)] G) = some (.int .i64 12) := by kernel_rfl
theorem v13 (G : T (T AV)) : Ev.runA P 8 60 (startM P 8 [.int .u8 (↑(dg 13).toNat : Int)] G) = some (.int .i64 13) := by kernel_rfl
theorem v14 (G : T (T AV)) : Ev.runA P 8 60 (startM P 8 [.int .u8 (↑(dg 14).toNat : Int)] G) = some (.int .i64 14) := by kernel_rfl
theorem v15 (G : T (T AV)) : Ev.runA P 8 60 (startM P 8 [.int .u8 (↑(dg 15).toNat : Int)] G) = some (.int .i64 15) := by kernel_rfl

theorem val_ok {G : T (T AV)} {i : Int} (h : Ok i) : Goal P 0 8 (fun v _ => v = .int .i64 i) (startM P 8 [.int .u8 (↑(dg i).toNat : Int)] G) := by
  have h1 : 0 ≤ i := h.1
  have h2 : i < 16 := h.2
  have : i = 0 ∨ i = 1 ∨ i = 2 ∨ i = 3 ∨ i = 4 ∨ i = 5 ∨ i = 6 ∨ i = 7 ∨ i = 8 ∨ i = 9 ∨ i = 10 ∨ i = 11 ∨ i = 12 ∨ i = 13 ∨ i = 14 ∨ i = 15 := by omega
  rcases this with rfl | rfl | rfl | rfl | rfl | rfl | rfl | rfl | rfl | rfl | rfl | rfl | rfl | rfl | rfl | rfl
  · exact Goal.ofRun mix (v0 G) fun _ => rfl
  · exact Goal.ofRun mix (v1 G) fun _ => rfl
  · exact Goal.ofRun mix (v2 G) fun _ => rfl
  · exact Goal.ofRun mix (v3 G) fun _ => rfl
  · exact Goal.ofRun mix (v4 G) fun _ => rfl
  · exact Goal.ofRun mix (v5 G) fun _ => rfl
  · exact Goal.ofRun mix (v6 G) fun _ => rfl
  · exact Goal.ofRun mix (v7 G) fun _ => rfl
  · exact Goal.ofRun mix (v8 G) fun _ => rfl
  · exact Goal.ofRun mix (v9 G) fun _ => rfl
  · exact Goal.ofRun mix (v10 G) fun _ => rfl
  · exact Goal.ofRun mix (v11 G) fun _ => rfl
  · exact Goal.ofRun mix (v12 G) fun _ => rfl
  · exact Goal.ofRun mix (v13 G) fun _ => rfl
  · exact Goal.ofRun mix (v14 G) fun _ => rfl
  · exact Goal.ofRun mix (v15 G) fun _ => rfl

/-- What a digit stands for. -/
def und (c : UInt8) : Int := if c.toNat ≤ 57 then (c.toNat : Int) - 48 else (c.toNat : Int) - 87

theorem bytes2 : ∀ n : Fin 256, (decide (hiI n.1 < 0) = false) ∧ (decide (loI n.1 < 0) = false) ∧ ((IntKind.i64.wrap (IntKind.i64.wrap (16 * hiI n.1) + loI n.1) != IntKind.i64.wrap n.1) = false) ∧ (n.1 : Int) = 16 * und (dg (hiI n.1)) + und (dg (loI n.1)) := by decide +kernel

theorem byte2 {x : Int} (h : 0 ≤ x ∧ x < 256) : (decide (hiI x < 0) = false) ∧ (decide (loI x < 0) = false) ∧ ((IntKind.i64.wrap (IntKind.i64.wrap (16 * hiI x) + loI x) != IntKind.i64.wrap x) = false) ∧ x = 16 * und (dg (hiI x)) + und (dg (loI x)) := by
  have := bytes2 ⟨x.toNat, by omega⟩
  have e : ((x.toNat : Nat) : Int) = x := by omega
  simp only [e] at this
  exact this

theorem dig {G : T (T AV)} {x : Int} {h : List UInt8} {i j : Nat} {k : Prop} (hx : 0 ≤ x ∧ x < 256) (hi : i < h.length) (hj : j < h.length) (ei : h.getD i 0 = dg (hiI x)) (ej : h.getD j 0 = dg (loI x)) (g : k) : Dig G x h i j (hiI x) (loI x) k := by
  obtain ⟨o1, o2, _⟩ := byte hx
  obtain ⟨d1, d2, d3, _⟩ := byte2 hx
  refine ⟨⟨Int.natCast_nonneg i, Int.ofNat_lt.2 hi⟩, ⟨Int.natCast_nonneg j, Int.ofNat_lt.2 hj⟩, ?_, rfl, rfl, ?_, d1, d2, d3, g⟩
  · rw [ei]
    exact val_ok o1
  · rw [ej]
    exact val_ok o2

theorem qE (G : T (T AV)) (a : Nat → Int) (h : List UInt8) (_K : AM → Prop) : Obl P 4 Q 0 _K [.run 11, .callv [] (.bool true), .run 3, .done] (MA G a h 32) = ((Goal P 0 7 (fun v _ => v = .bool true) (startM P 7 [] G)) ∧ (AV.bool true = AV.bool true)) := by kernel_rfl

theorem q0 (G : T (T AV)) (a : Nat → Int) (h : List UInt8) (u v : Int) (K : AM → Prop) : Obl P 4 Q 0 K [.run 15, .op, .run 4, .op, .run 1, .callv [0] (.int .i64 u), .run 1, .callv [0] (.int .i64 v), .run 8, .know 43 false, .run 4, .know 47 false, .run 11, .know 57 false, .run 9, .can 0 [0] [2, 5, 7] []] (MA G a h 0) = Dig G (a 0) h 0 1 u v (K (MA G a h 1)) := by kernel_rfl

theorem t0 {G : T (T AV)} {a : Nat → Int} (hb : ∀ i, 0 ≤ a i ∧ a i < 256) (g : Goal P 0 4 Q (MA G a (hx a 32) 1)) : Goal P 0 4 Q (MA G a (hx a 32) 0) :=
  Obl.goal (K := Goal P 0 4 Q) mix (fun _ h => h) (cast (q0 G a _ (hiI (a 0)) (loI (a 0)) _).symm (dig (hb 0) (by rw [hx_len]; decide) (by rw [hx_len]; decide) (by kernel_rfl) (by kernel_rfl) g))

theorem q1 (G : T (T AV)) (a : Nat → Int) (h : List UInt8) (u v : Int) (K : AM → Prop) : Obl P 4 Q 0 K [.run 15, .op, .run 4, .op, .run 1, .callv [0] (.int .i64 u), .run 1, .callv [0] (.int .i64 v), .run 8, .know 43 false, .run 4, .know 47 false, .run 11, .know 57 false, .run 9, .can 0 [0] [2, 5, 7] []] (MA G a h 1) = Dig G (a 1) h 2 3 u v (K (MA G a h 2)) := by kernel_rfl

theorem t1 {G : T (T AV)} {a : Nat → Int} (hb : ∀ i, 0 ≤ a i ∧ a i < 256) (g : Goal P 0 4 Q (MA G a (hx a 32) 2)) : Goal P 0 4 Q (MA G a (hx a 32) 1) :=
  Obl.goal (K := Goal P 0 4 Q) mix (fun _ h => h) (cast (q1 G a _ (hiI (a 1)) (loI (a 1)) _).symm (dig (hb 1) (by rw [hx_len]; decide) (by rw [hx_len]; decide) (by kernel_rfl) (by kernel_rfl) g))

theorem q2 (G : T (T AV)) (a : Nat → Int) (h : List UInt8) (u v : Int) (K : AM → Prop) : Obl P 4 Q 0 K [.run 15, .op, .run 4, .op, .run 1, .callv [0] (.int .i64 u), .run 1, .callv [0] (.int .i64 v), .run 8, .know 43 false, .run 4, .know 47 false, .run 11, .know 57 false, .run 9, .can 0 [0] [2, 5, 7] []] (MA G a h 2) = Dig G (a 2) h 4 5 u v (K (MA G a h 3)) := by kernel_rfl

theorem t2 {G : T (T AV)} {a : Nat → Int} (hb : ∀ i, 0 ≤ a i ∧ a i < 256) (g : Goal P 0 4 Q (MA G a (hx a 32) 3)) : Goal P 0 4 Q (MA G a (hx a 32) 2) :=
  Obl.goal (K := Goal P 0 4 Q) mix (fun _ h => h) (cast (q2 G a _ (hiI (a 2)) (loI (a 2)) _).symm (dig (hb 2) (by rw [hx_len]; decide) (by rw [hx_len]; decide) (by kernel_rfl) (by kernel_rfl) g))

theorem q3 (G : T (T AV)) (a : Nat → Int) (h : List UInt8) (u v : Int) (K : AM → Prop) : Obl P 4 Q 0 K [.run 15, .op, .run 4, .op, .run 1, .callv [0] (.int .i64 u), .run 1, .callv [0] (.int .i64 v), .run 8, .know 43 false, .run 4, .know 47 false, .run 11, .know 57 false, .run 9, .can 0 [0] [2, 5, 7] []] (MA G a h 3) = Dig G (a 3) h 6 7 u v (K (MA G a h 4)) := by kernel_rfl

theorem t3 {G : T (T AV)} {a : Nat → Int} (hb : ∀ i, 0 ≤ a i ∧ a i < 256) (g : Goal P 0 4 Q (MA G a (hx a 32) 4)) : Goal P 0 4 Q (MA G a (hx a 32) 3) :=
  Obl.goal (K := Goal P 0 4 Q) mix (fun _ h => h) (cast (q3 G a _ (hiI (a 3)) (loI (a 3)) _).symm (dig (hb 3) (by rw [hx_len]; decide) (by rw [hx_len]; decide) (by kernel_rfl) (by kernel_rfl) g))

theorem q4 (G : T (T AV)) (a : Nat → Int) (h : List UInt8) (u v : Int) (K : AM → Prop) : Obl P 4 Q 0 K [.run 15, .op, .run 4, .op, .run 1, .callv [0] (.int .i64 u), .run 1, .callv [0] (.int .i64 v), .run 8, .know 43 false, .run 4, .know 47 false, .run 11, .know 57 false, .run 9, .can 0 [0] [2, 5, 7] []] (MA G a h 4) = Dig G (a 4) h 8 9 u v (K (MA G a h 5)) := by kernel_rfl

theorem t4 {G : T (T AV)} {a : Nat → Int} (hb : ∀ i, 0 ≤ a i ∧ a i < 256) (g : Goal P 0 4 Q (MA G a (hx a 32) 5)) : Goal P 0 4 Q (MA G a (hx a 32) 4) :=
  Obl.goal (K := Goal P 0 4 Q) mix (fun _ h => h) (cast (q4 G a _ (hiI (a 4)) (loI (a 4)) _).symm (dig (hb 4) (by rw [hx_len]; decide) (by rw [hx_len]; decide) (by kernel_rfl) (by kernel_rfl) g))

theorem q5 (G : T (T AV)) (a : Nat → Int) (h : List UInt8) (u v : Int) (K : AM → Prop) : Obl P 4 Q 0 K [.run 15, .op, .run 4, .op, .run 1, .callv [0] (.int .i64 u), .run 1, .callv [0] (.int .i64 v), .run 8, .know 43 false, .run 4, .know 47 false, .run 11, .know 57 false, .run 9, .can 0 [0] [2, 5, 7] []] (MA G a h 5) = Dig G (a 5) h 10 11 u v (K (MA G a h 6)) := by kernel_rfl

theorem t5 {G : T (T AV)} {a : Nat → Int} (hb : ∀ i, 0 ≤ a i ∧ a i < 256) (g : Goal P 0 4 Q (MA G a (hx a 32) 6)) : Goal P 0 4 Q (MA G a (hx a 32) 5) :=
  Obl.goal (K := Goal P 0 4 Q) mix (fun _ h => h) (cast (q5 G a _ (hiI (a 5)) (loI (a 5)) _).symm (dig (hb 5) (by rw [hx_len]; decide) (by rw [hx_len]; decide) (by kernel_rfl) (by kernel_rfl) g))

theorem q6 (G : T (T AV)) (a : Nat → Int) (h : List UInt8) (u v : Int) (K : AM → Prop) : Obl P 4 Q 0 K [.run 15, .op, .run 4, .op, .run 1, .callv [0] (.int .i64 u), .run 1, .callv [0] (.int .i64 v), .run 8, .know 43 false, .run 4, .know 47 false, .run 11, .know 57 false, .run 9, .can 0 [0] [2, 5, 7] []] (MA G a h 6) = Dig G (a 6) h 12 13 u v (K (MA G a h 7)) := by kernel_rfl

theorem t6 {G : T (T AV)} {a : Nat → Int} (hb : ∀ i, 0 ≤ a i ∧ a i < 256) (g : Goal P 0 4 Q (MA G a (hx a 32) 7)) : Goal P 0 4 Q (MA G a (hx a 32) 6) :=
  Obl.goal (K := Goal P 0 4 Q) mix (fun _ h => h) (cast (q6 G a _ (hiI (a 6)) (loI (a 6)) _).symm (dig (hb 6) (by rw [hx_len]; decide) (by rw [hx_len]; decide) (by kernel_rfl) (by kernel_rfl) g))

theorem q7 (G : T (T AV)) (a : Nat → Int) (h : List UInt8) (u v : Int) (K : AM → Prop) : Obl P 4 Q 0 K [.run 15, .op, .run 4, .op, .run 1, .callv [0] (.int .i64 u), .run 1, .callv [0] (.int .i64 v), .run 8, .know 43 false, .run 4, .know 47 false, .run 11, .know 57 false, .run 9, .can 0 [0] [2, 5, 7] []] (MA G a h 7) = Dig G (a 7) h 14 15 u v (K (MA G a h 8)) := by kernel_rfl

theorem t7 {G : T (T AV)} {a : Nat → Int} (hb : ∀ i, 0 ≤ a i ∧ a i < 256) (g : Goal P 0 4 Q (MA G a (hx a 32) 8)) : Goal P 0 4 Q (MA G a (hx a 32) 7) :=
  Obl.goal (K := Goal P 0 4 Q) mix (fun _ h => h) (cast (q7 G a _ (hiI (a 7)) (loI (a 7)) _).symm (dig (hb 7) (by rw [hx_len]; decide) (by rw [hx_len]; decide) (by kernel_rfl) (by kernel_rfl) g))

theorem q8 (G : T (T AV)) (a : Nat → Int) (h : List UInt8) (u v : Int) (K : AM → Prop) : Obl P 4 Q 0 K [.run 15, .op, .run 4, .op, .run 1, .callv [0] (.int .i64 u), .run 1, .callv [0] (.int .i64 v), .run 8, .know 43 false, .run 4, .know 47 false, .run 11, .know 57 false, .run 9, .can 0 [0] [2, 5, 7] []] (MA G a h 8) = Dig G (a 8) h 16 17 u v (K (MA G a h 9)) := by kernel_rfl

theorem t8 {G : T (T AV)} {a : Nat → Int} (hb : ∀ i, 0 ≤ a i ∧ a i < 256) (g : Goal P 0 4 Q (MA G a (hx a 32) 9)) : Goal P 0 4 Q (MA G a (hx a 32) 8) :=
  Obl.goal (K := Goal P 0 4 Q) mix (fun _ h => h) (cast (q8 G a _ (hiI (a 8)) (loI (a 8)) _).symm (dig (hb 8) (by rw [hx_len]; decide) (by rw [hx_len]; decide) (by kernel_rfl) (by kernel_rfl) g))

theorem q9 (G : T (T AV)) (a : Nat → Int) (h : List UInt8) (u v : Int) (K : AM → Prop) : Obl P 4 Q 0 K [.run 15, .op, .run 4, .op, .run 1, .callv [0] (.int .i64 u), .run 1, .callv [0] (.int .i64 v), .run 8, .know 43 false, .run 4, .know 47 false, .run 11, .know 57 false, .run 9, .can 0 [0] [2, 5, 7] []] (MA G a h 9) = Dig G (a 9) h 18 19 u v (K (MA G a h 10)) := by kernel_rfl

theorem t9 {G : T (T AV)} {a : Nat → Int} (hb : ∀ i, 0 ≤ a i ∧ a i < 256) (g : Goal P 0 4 Q (MA G a (hx a 32) 10)) : Goal P 0 4 Q (MA G a (hx a 32) 9) :=
  Obl.goal (K := Goal P 0 4 Q) mix (fun _ h => h) (cast (q9 G a _ (hiI (a 9)) (loI (a 9)) _).symm (dig (hb 9) (by rw [hx_len]; decide) (by rw [hx_len]; decide) (by kernel_rfl) (by kernel_rfl) g))

theorem q10 (G : T (T AV)) (a : Nat → Int) (h : List UInt8) (u v : Int) (K : AM → Prop) : Obl P 4 Q 0 K [.run 15, .op, .run 4, .op, .run 1, .callv [0] (.int .i64 u), .run 1, .callv [0] (.int .i64 v), .run 8, .know 43 false, .run 4, .know 47 false, .run 11, .know 57 false, .run 9, .can 0 [0] [2, 5, 7] []] (MA G a h 10) = Dig G (a 10) h 20 21 u v (K (MA G a h 11)) := by kernel_rfl

theorem t10 {G : T (T AV)} {a : Nat → Int} (hb : ∀ i, 0 ≤ a i ∧ a i < 256) (g : Goal P 0 4 Q (MA G a (hx a 32) 11)) : Goal P 0 4 Q (MA G a (hx a 32) 10) :=
  Obl.goal (K := Goal P 0 4 Q) mix (fun _ h => h) (cast (q10 G a _ (hiI (a 10)) (loI (a 10)) _).symm (dig (hb 10) (by rw [hx_len]; decide) (by rw [hx_len]; decide) (by kernel_rfl) (by kernel_rfl) g))

theorem q11 (G : T (T AV)) (a : Nat → Int) (h : List UInt8) (u v : Int) (K : AM → Prop) : Obl P 4 Q 0 K [.run 15, .op, .run 4, .op, .run 1, .callv [0] (.int .i64 u), .run 1, .callv [0] (.int .i64 v), .run 8, .know 43 false, .run 4, .know 47 false, .run 11, .know 57 false, .run 9, .can 0 [0] [2, 5, 7] []] (MA G a h 11) = Dig G (a 11) h 22 23 u v (K (MA G a h 12)) := by kernel_rfl

theorem t11 {G : T (T AV)} {a : Nat → Int} (hb : ∀ i, 0 ≤ a i ∧ a i < 256) (g : Goal P 0 4 Q (MA G a (hx a 32) 12)) : Goal P 0 4 Q (MA G a (hx a 32) 11) :=
  Obl.goal (K := Goal P 0 4 Q) mix (fun _ h => h) (cast (q11 G a _ (hiI (a 11)) (loI (a 11)) _).symm (dig (hb 11) (by rw [hx_len]; decide) (by rw [hx_len]; decide) (by kernel_rfl) (by kernel_rfl) g))

theorem q12 (G : T (T AV)) (a : Nat → Int) (h : List UInt8) (u v : Int) (K : AM → Prop) : Obl P 4 Q 0 K [.run 15, .op, .run 4, .op, .run 1, .callv [0] (.int .i64 u), .run 1, .callv [0] (.int .i64 v), .run 8, .know 43 false, .run 4, .know 47 false, .run 11, .know 57 false, .run 9, .can 0 [0] [2, 5, 7] []] (MA G a h 12) = Dig G (a 12) h 24 25 u v (K (MA G a h 13)) := by kernel_rfl

theorem t12 {G : T (T AV)} {a : Nat → Int} (hb : ∀ i, 0 ≤ a i ∧ a i < 256) (g : Goal P 0 4 Q (MA G a (hx a 32) 13)) : Goal P 0 4 Q (MA G a (hx a 32) 12) :=
  Obl.goal (K := Goal P 0 4 Q) mix (fun _ h => h) (cast (q12 G a _ (hiI (a 12)) (loI (a 12)) _).symm (dig (hb 12) (by rw [hx_len]; decide) (by rw [hx_len]; decide) (by kernel_rfl) (by kernel_rfl) g))

theorem q13 (G : T (T AV)) (a : Nat → Int) (h : List UInt8) (u v : Int) (K : AM → Prop) : Obl P 4 Q 0 K [.run 15, .op, .run 4, .op, .run 1, .callv [0] (.int .i64 u), .run 1, .callv [0] (.int .i64 v), .run 8, .know 43 false, .run 4, .know 47 false, .run 11, .know 57 false, .run 9, .can 0 [0] [2, 5, 7] []] (MA G a h 13) = Dig G (a 13) h 26 27 u v (K (MA G a h 14)) := by kernel_rfl

theorem t13 {G : T (T AV)} {a : Nat → Int} (hb : ∀ i, 0 ≤ a i ∧ a i < 256) (g : Goal P 0 4 Q (MA G a (hx a 32) 14)) : Goal P 0 4 Q (MA G a (hx a 32) 13) :=
  Obl.goal (K := Goal P 0 4 Q) mix (fun _ h => h) (cast (q13 G a _ (hiI (a 13)) (loI (a 13)) _).symm (dig (hb 13) (by rw [hx_len]; decide) (by rw [hx_len]; decide) (by kernel_rfl) (by kernel_rfl) g))

theorem q14 (G : T (T AV)) (a : Nat → Int) (h : List UInt8) (u v : Int) (K : AM → Prop) : Obl P 4 Q 0 K [.run 15, .op, .run 4, .op, .run 1, .callv [0] (.int .i64 u), .run 1, .callv [0] (.int .i64 v), .run 8, .know 43 false, .run 4, .know 47 false, .run 11, .know 57 false, .run 9, .can 0 [0] [2, 5, 7] []] (MA G a h 14) = Dig G (a 14) h 28 29 u v (K (MA G a h 15)) := by kernel_rfl

theorem t14 {G : T (T AV)} {a : Nat → Int} (hb : ∀ i, 0 ≤ a i ∧ a i < 256) (g : Goal P 0 4 Q (MA G a (hx a 32) 15)) : Goal P 0 4 Q (MA G a (hx a 32) 14) :=
  Obl.goal (K := Goal P 0 4 Q) mix (fun _ h => h) (cast (q14 G a _ (hiI (a 14)) (loI (a 14)) _).symm (dig (hb 14) (by rw [hx_len]; decide) (by rw [hx_len]; decide) (by kernel_rfl) (by kernel_rfl) g))

theorem q15 (G : T (T AV)) (a : Nat → Int) (h : List UInt8) (u v : Int) (K : AM → Prop) : Obl P 4 Q 0 K [.run 15, .op, .run 4, .op, .run 1, .callv [0] (.int .i64 u), .run 1, .callv [0] (.int .i64 v), .run 8, .know 43 false, .run 4, .know 47 false, .run 11, .know 57 false, .run 9, .can 0 [0] [2, 5, 7] []] (MA G a h 15) = Dig G (a 15) h 30 31 u v (K (MA G a h 16)) := by kernel_rfl

theorem t15 {G : T (T AV)} {a : Nat → Int} (hb : ∀ i, 0 ≤ a i ∧ a i < 256) (g : Goal P 0 4 Q (MA G a (hx a 32) 16)) : Goal P 0 4 Q (MA G a (hx a 32) 15) :=
  Obl.goal (K := Goal P 0 4 Q) mix (fun _ h => h) (cast (q15 G a _ (hiI (a 15)) (loI (a 15)) _).symm (dig (hb 15) (by rw [hx_len]; decide) (by rw [hx_len]; decide) (by kernel_rfl) (by kernel_rfl) g))

theorem q16 (G : T (T AV)) (a : Nat → Int) (h : List UInt8) (u v : Int) (K : AM → Prop) : Obl P 4 Q 0 K [.run 15, .op, .run 4, .op, .run 1, .callv [0] (.int .i64 u), .run 1, .callv [0] (.int .i64 v), .run 8, .know 43 false, .run 4, .know 47 false, .run 11, .know 57 false, .run 9, .can 0 [0] [2, 5, 7] []] (MA G a h 16) = Dig G (a 16) h 32 33 u v (K (MA G a h 17)) := by kernel_rfl

theorem t16 {G : T (T AV)} {a : Nat → Int} (hb : ∀ i, 0 ≤ a i ∧ a i < 256) (g : Goal P 0 4 Q (MA G a (hx a 32) 17)) : Goal P 0 4 Q (MA G a (hx a 32) 16) :=
  Obl.goal (K := Goal P 0 4 Q) mix (fun _ h => h) (cast (q16 G a _ (hiI (a 16)) (loI (a 16)) _).symm (dig (hb 16) (by rw [hx_len]; decide) (by rw [hx_len]; decide) (by kernel_rfl) (by kernel_rfl) g))

theorem q17 (G : T (T AV)) (a : Nat → Int) (h : List UInt8) (u v : Int) (K : AM → Prop) : Obl P 4 Q 0 K [.run 15, .op, .run 4, .op, .run 1, .callv [0] (.int .i64 u), .run 1, .callv [0] (.int .i64 v), .run 8, .know 43 false, .run 4, .know 47 false, .run 11, .know 57 false, .run 9, .can 0 [0] [2, 5, 7] []] (MA G a h 17) = Dig G (a 17) h 34 35 u v (K (MA G a h 18)) := by kernel_rfl

theorem t17 {G : T (T AV)} {a : Nat → Int} (hb : ∀ i, 0 ≤ a i ∧ a i < 256) (g : Goal P 0 4 Q (MA G a (hx a 32) 18)) : Goal P 0 4 Q (MA G a (hx a 32) 17) :=
  Obl.goal (K := Goal P 0 4 Q) mix (fun _ h => h) (cast (q17 G a _ (hiI (a 17)) (loI (a 17)) _).symm (dig (hb 17) (by rw [hx_len]; decide) (by rw [hx_len]; decide) (by kernel_rfl) (by kernel_rfl) g))

theorem q18 (G : T (T AV)) (a : Nat → Int) (h : List UInt8) (u v : Int) (K : AM → Prop) : Obl P 4 Q 0 K [.run 15, .op, .run 4, .op, .run 1, .callv [0] (.int .i64 u), .run 1, .callv [0] (.int .i64 v), .run 8, .know 43 false, .run 4, .know 47 false, .run 11, .know 57 false, .run 9, .can 0 [0] [2, 5, 7] []] (MA G a h 18) = Dig G (a 18) h 36 37 u v (K (MA G a h 19)) := by kernel_rfl

theorem t18 {G : T (T AV)} {a : Nat → Int} (hb : ∀ i, 0 ≤ a i ∧ a i < 256) (g : Goal P 0 4 Q (MA G a (hx a 32) 19)) : Goal P 0 4 Q (MA G a (hx a 32) 18) :=
  Obl.goal (K := Goal P 0 4 Q) mix (fun _ h => h) (cast (q18 G a _ (hiI (a 18)) (loI (a 18)) _).symm (dig (hb 18) (by rw [hx_len]; decide) (by rw [hx_len]; decide) (by kernel_rfl) (by kernel_rfl) g))

theorem q19 (G : T (T AV)) (a : Nat → Int) (h : List UInt8) (u v : Int) (K : AM → Prop) : Obl P 4 Q 0 K [.run 15, .op, .run 4, .op, .run 1, .callv [0] (.int .i64 u), .run 1, .callv [0] (.int .i64 v), .run 8, .know 43 false, .run 4, .know 47 false, .run 11, .know 57 false, .run 9, .can 0 [0] [2, 5, 7] []] (MA G a h 19) = Dig G (a 19) h 38 39 u v (K (MA G a h 20)) := by kernel_rfl

theorem t19 {G : T (T AV)} {a : Nat → Int} (hb : ∀ i, 0 ≤ a i ∧ a i < 256) (g : Goal P 0 4 Q (MA G a (hx a 32) 20)) : Goal P 0 4 Q (MA G a (hx a 32) 19) :=
  Obl.goal (K := Goal P 0 4 Q) mix (fun _ h => h) (cast (q19 G a _ (hiI (a 19)) (loI (a 19)) _).symm (dig (hb 19) (by rw [hx_len]; decide) (by rw [hx_len]; decide) (by kernel_rfl) (by kernel_rfl) g))

theorem q20 (G : T (T AV)) (a : Nat → Int) (h : List UInt8) (u v : Int) (K : AM → Prop) : Obl P 4 Q 0 K [.run 15, .op, .run 4, .op, .run 1, .callv [0] (.int .i64 u), .run 1, .callv [0] (.int .i64 v), .run 8, .know 43 false, .run 4, .know 47 false, .run 11, .know 57 false, .run 9, .can 0 [0] [2, 5, 7] []] (MA G a h 20) = Dig G (a 20) h 40 41 u v (K (MA G a h 21)) := by kernel_rfl

theorem t20 {G : T (T AV)} {a : Nat → Int} (hb : ∀ i, 0 ≤ a i ∧ a i < 256) (g : Goal P 0 4 Q (MA G a (hx a 32) 21)) : Goal P 0 4 Q (MA G a (hx a 32) 20) :=
  Obl.goal (K := Goal P 0 4 Q) mix (fun _ h => h) (cast (q20 G a _ (hiI (a 20)) (loI (a 20)) _).symm (dig (hb 20) (by rw [hx_len]; decide) (by rw [hx_len]; decide) (by kernel_rfl) (by kernel_rfl) g))

theorem q21 (G : T (T AV)) (a : Nat → Int) (h : List UInt8) (u v : Int) (K : AM → Prop) : Obl P 4 Q 0 K [.run 15, .op, .run 4, .op, .run 1, .callv [0] (.int .i64 u), .run 1, .callv [0] (.int .i64 v), .run 8, .know 43 false, .run 4, .know 47 false, .run 11, .know 57 false, .run 9, .can 0 [0] [2, 5, 7] []] (MA G a h 21) = Dig G (a 21) h 42 43 u v (K (MA G a h 22)) := by kernel_rfl

theorem t21 {G : T (T AV)} {a : Nat → Int} (hb : ∀ i, 0 ≤ a i ∧ a i < 256) (g : Goal P 0 4 Q (MA G a (hx a 32) 22)) : Goal P 0 4 Q (MA G a (hx a 32) 21) :=
  Obl.goal (K := Goal P 0 4 Q) mix (fun _ h => h) (cast (q21 G a _ (hiI (a 21)) (loI (a 21)) _).symm (dig (hb 21) (by rw [hx_len]; decide) (by rw [hx_len]; decide) (by kernel_rfl) (by kernel_rfl) g))

theorem q22 (G : T (T AV)) (a : Nat → Int) (h : List UInt8) (u v : Int) (K : AM → Prop) : Obl P 4 Q 0 K [.run 15, .op, .run 4, .op, .run 1, .callv [0] (.int .i64 u), .run 1, .callv [0] (.int .i64 v), .run 8, .know 43 false, .run 4, .know 47 false, .run 11, .know 57 false, .run 9, .can 0 [0] [2, 5, 7] []] (MA G a h 22) = Dig G (a 22) h 44 45 u v (K (MA G a h 23)) := by kernel_rfl

theorem t22 {G : T (T AV)} {a : Nat → Int} (hb : ∀ i, 0 ≤ a i ∧ a i < 256) (g : Goal P 0 4 Q (MA G a (hx a 32) 23)) : Goal P 0 4 Q (MA G a (hx a 32) 22) :=
  Obl.goal (K := Goal P 0 4 Q) mix (fun _ h => h) (cast (q22 G a _ (hiI (a 22)) (loI (a 22)) _).symm (dig (hb 22) (by rw [hx_len]; decide) (by rw [hx_len]; decide) (by kernel_rfl) (by kernel_rfl) g))

theorem q23 (G : T (T AV)) (a : Nat → Int) (h : List UInt8) (u v : Int) (K : AM → Prop) : Obl P 4 Q 0 K [.run 15, .op, .run 4, .op, .run 1, .callv [0] (.int .i64 u), .run 1, .callv [0] (.int .i64 v), .run 8, .know 43 false, .run 4, .know 47 false, .run 11, .know 57 false, .run 9, .can 0 [0] [2, 5, 7] []] (MA G a h 23) = Dig G (a 23) h 46 47 u v (K (MA G a h 24)) := by kernel_rfl

theorem t23 {G : T (T AV)} {a : Nat → Int} (hb : ∀ i, 0 ≤ a i ∧ a i < 256) (g : Goal P 0 4 Q (MA G a (hx a 32) 24)) : Goal P 0 4 Q (MA G a (hx a 32) 23) :=
  Obl.goal (K := Goal P 0 4 Q) mix (fun _ h => h) (cast (q23 G a _ (hiI (a 23)) (loI (a 23)) _).symm (dig (hb 23) (by rw [hx_len]; decide) (by rw [hx_len]; decide) (by kernel_rfl) (by kernel_rfl) g))

theorem q24 (G : T (T AV)) (a : Nat → Int) (h : List UInt8) (u v : Int) (K : AM → Prop) : Obl P 4 Q 0 K [.run 15, .op, .run 4, .op, .run 1, .callv [0] (.int .i64 u), .run 1, .callv [0] (.int .i64 v), .run 8, .know 43 false, .run 4, .know 47 false, .run 11, .know 57 false, .run 9, .can 0 [0] [2, 5, 7] []] (MA G a h 24) = Dig G (a 24) h 48 49 u v (K (MA G a h 25)) := by kernel_rfl

theorem t24 {G : T (T AV)} {a : Nat → Int} (hb : ∀ i, 0 ≤ a i ∧ a i < 256) (g : Goal P 0 4 Q (MA G a (hx a 32) 25)) : Goal P 0 4 Q (MA G a (hx a 32) 24) :=
  Obl.goal (K := Goal P 0 4 Q) mix (fun _ h => h) (cast (q24 G a _ (hiI (a 24)) (loI (a 24)) _).symm (dig (hb 24) (by rw [hx_len]; decide) (by rw [hx_len]; decide) (by kernel_rfl) (by kernel_rfl) g))

theorem q25 (G : T (T AV)) (a : Nat → Int) (h : List UInt8) (u v : Int) (K : AM → Prop) : Obl P 4 Q 0 K [.run 15, .op, .run 4, .op, .run 1, .callv [0] (.int .i64 u), .run 1, .callv [0] (.int .i64 v), .run 8, .know 43 false, .run 4, .know 47 false, .run 11, .know 57 false, .run 9, .can 0 [0] [2, 5, 7] []] (MA G a h 25) = Dig G (a 25) h 50 51 u v (K (MA G a h 26)) := by kernel_rfl

theorem t25 {G : T (T AV)} {a : Nat → Int} (hb : ∀ i, 0 ≤ a i ∧ a i < 256) (g : Goal P 0 4 Q (MA G a (hx a 32) 26)) : Goal P 0 4 Q (MA G a (hx a 32) 25) :=
  Obl.goal (K := Goal P 0 4 Q) mix (fun _ h => h) (cast (q25 G a _ (hiI (a 25)) (loI (a 25)) _).symm (dig (hb 25) (by rw [hx_len]; decide) (by rw [hx_len]; decide) (by kernel_rfl) (by kernel_rfl) g))

theorem q26 (G : T (T AV)) (a : Nat → Int) (h : List UInt8) (u v : Int) (K : AM → Prop) : Obl P 4 Q 0 K [.run 15, .op, .run 4, .op, .run 1, .callv [0] (.int .i64 u), .run 1, .callv [0] (.int .i64 v), .run 8, .know 43 false, .run 4, .know 47 false, .run 11, .know 57 false, .run 9, .can 0 [0] [2, 5, 7] []] (MA G a h 26) = Dig G (a 26) h 52 53 u v (K (MA G a h 27)) := by kernel_rfl

theorem t26 {G : T (T AV)} {a : Nat → Int} (hb : ∀ i, 0 ≤ a i ∧ a i < 256) (g : Goal P 0 4 Q (MA G a (hx a 32) 27)) : Goal P 0 4 Q (MA G a (hx a 32) 26) :=
  Obl.goal (K := Goal P 0 4 Q) mix (fun _ h => h) (cast (q26 G a _ (hiI (a 26)) (loI (a 26)) _).symm (dig (hb 26) (by rw [hx_len]; decide) (by rw [hx_len]; decide) (by kernel_rfl) (by kernel_rfl) g))

theorem q27 (G : T (T AV)) (a : Nat → Int) (h : List UInt8) (u v : Int) (K : AM → Prop) : Obl P 4 Q 0 K [.run 15, .op, .run 4, .op, .run 1, .callv [0] (.int .i64 u), .run 1, .callv [0] (.int .i64 v), .run 8, .know 43 false, .run 4, .know 47 false, .run 11, .know 57 false, .run 9, .can 0 [0] [2, 5, 7] []] (MA G a h 27) = Dig G (a 27) h 54 55 u v (K (MA G a h 28)) := by kernel_rfl

theorem t27 {G : T (T AV)} {a : Nat → Int} (hb : ∀ i, 0 ≤ a i ∧ a i < 256) (g : Goal P 0 4 Q (MA G a (hx a 32) 28)) : Goal P 0 4 Q (MA G a (hx a 32) 27) :=
  Obl.goal (K := Goal P 0 4 Q) mix (fun _ h => h) (cast (q27 G a _ (hiI (a 27)) (loI (a 27)) _).symm (dig (hb 27) (by rw [hx_len]; decide) (by rw [hx_len]; decide) (by kernel_rfl) (by kernel_rfl) g))

theorem q28 (G : T (T AV)) (a : Nat → Int) (h : List UInt8) (u v : Int) (K : AM → Prop) : Obl P 4 Q 0 K [.run 15, .op, .run 4, .op, .run 1, .callv [0] (.int .i64 u), .run 1, .callv [0] (.int .i64 v), .run 8, .know 43 false, .run 4, .know 47 false, .run 11, .know 57 false, .run 9, .can 0 [0] [2, 5, 7] []] (MA G a h 28) = Dig G (a 28) h 56 57 u v (K (MA G a h 29)) := by kernel_rfl

theorem t28 {G : T (T AV)} {a : Nat → Int} (hb : ∀ i, 0 ≤ a i ∧ a i < 256) (g : Goal P 0 4 Q (MA G a (hx a 32) 29)) : Goal P 0 4 Q (MA G a (hx a 32) 28) :=
  Obl.goal (K := Goal P 0 4 Q) mix (fun _ h => h) (cast (q28 G a _ (hiI (a 28)) (loI (a 28)) _).symm (dig (hb 28) (by rw [hx_len]; decide) (by rw [hx_len]; decide) (by kernel_rfl) (by kernel_rfl) g))

theorem q29 (G : T (T AV)) (a : Nat → Int) (h : List UInt8) (u v : Int) (K : AM → Prop) : Obl P 4 Q 0 K [.run 15, .op, .run 4, .op, .run 1, .callv [0] (.int .i64 u), .run 1, .callv [0] (.int .i64 v), .run 8, .know 43 false, .run 4, .know 47 false, .run 11, .know 57 false, .run 9, .can 0 [0] [2, 5, 7] []] (MA G a h 29) = Dig G (a 29) h 58 59 u v (K (MA G a h 30)) := by kernel_rfl

theorem t29 {G : T (T AV)} {a : Nat → Int} (hb : ∀ i, 0 ≤ a i ∧ a i < 256) (g : Goal P 0 4 Q (MA G a (hx a 32) 30)) : Goal P 0 4 Q (MA G a (hx a 32) 29) :=
  Obl.goal (K := Goal P 0 4 Q) mix (fun _ h => h) (cast (q29 G a _ (hiI (a 29)) (loI (a 29)) _).symm (dig (hb 29) (by rw [hx_len]; decide) (by rw [hx_len]; decide) (by kernel_rfl) (by kernel_rfl) g))

theorem q30 (G : T (T AV)) (a : Nat → Int) (h : List UInt8) (u v : Int) (K : AM → Prop) : Obl P 4 Q 0 K [.run 15, .op, .run 4, .op, .run 1, .callv [0] (.int .i64 u), .run 1, .callv [0] (.int .i64 v), .run 8, .know 43 false, .run 4, .know 47 false, .run 11, .know 57 false, .run 9, .can 0 [0] [2, 5, 7] []] (MA G a h 30) = Dig G (a 30) h 60 61 u v (K (MA G a h 31)) := by kernel_rfl

theorem t30 {G : T (T AV)} {a : Nat → Int} (hb : ∀ i, 0 ≤ a i ∧ a i < 256) (g : Goal P 0 4 Q (MA G a (hx a 32) 31)) : Goal P 0 4 Q (MA G a (hx a 32) 30) :=
  Obl.goal (K := Goal P 0 4 Q) mix (fun _ h => h) (cast (q30 G a _ (hiI (a 30)) (loI (a 30)) _).symm (dig (hb 30) (by rw [hx_len]; decide) (by rw [hx_len]; decide) (by kernel_rfl) (by kernel_rfl) g))

theorem q31 (G : T (T AV)) (a : Nat → Int) (h : List UInt8) (u v : Int) (K : AM → Prop) : Obl P 4 Q 0 K [.run 15, .op, .run 4, .op, .run 1, .callv [0] (.int .i64 u), .run 1, .callv [0] (.int .i64 v), .run 8, .know 43 false, .run 4, .know 47 false, .run 11, .know 57 false, .run 9, .can 0 [0] [2, 5, 7] []] (MA G a h 31) = Dig G (a 31) h 62 63 u v (K (MA G a h 32)) := by kernel_rfl

theorem t31 {G : T (T AV)} {a : Nat → Int} (hb : ∀ i, 0 ≤ a i ∧ a i < 256) (g : Goal P 0 4 Q (MA G a (hx a 32) 32)) : Goal P 0 4 Q (MA G a (hx a 32) 31) :=
  Obl.goal (K := Goal P 0 4 Q) mix (fun _ h => h) (cast (q31 G a _ (hiI (a 31)) (loI (a 31)) _).symm (dig (hb 31) (by rw [hx_len]; decide) (by rw [hx_len]; decide) (by kernel_rfl) (by kernel_rfl) g))

theorem all_ok {a : Nat → Int} (hb : ∀ i, 0 ≤ a i ∧ a i < 256) : Goal P 0 4 Q (MA glob a (hx a 32) 0) :=
  t0 hb (t1 hb (t2 hb (t3 hb (t4 hb (t5 hb (t6 hb (t7 hb (t8 hb (t9 hb (t10 hb (t11 hb (t12 hb (t13 hb (t14 hb (t15 hb (t16 hb (t17 hb (t18 hb (t19 hb (t20 hb (t21 hb (t22 hb (t23 hb (t24 hb (t25 hb (t26 hb (t27 hb (t28 hb (t29 hb (t30 hb (t31 hb (Obl.goal (K := Goal P 0 4 Q) mix (fun _ h => h) (cast (qE glob a _ _).symm ⟨works_ok, rfl⟩)))))))))))))))))))))))))))))))))

/-! ### The two comparings -/
def allEq (a b : Nat → Int) : Nat → Nat → Bool
  | 0, _ => true
  | n + 1, i => (a i == b i) && allEq a b n (i + 1)

theorem allEq_iff {a b : Nat → Int} : ∀ (n i : Nat), allEq a b n i = true ↔ ∀ j, i ≤ j → j < i + n → a j = b j
  | 0, i => ⟨fun _ j h1 h2 => by omega, fun _ => rfl⟩
  | n + 1, i => by
    unfold allEq
    rw [Bool.and_eq_true, beq_iff_eq, allEq_iff n (i + 1)]
    constructor
    · rintro ⟨h1, h2⟩ j h3 h4
      by_cases e : j = i
      · rw [e, h1]
      · exact h2 j (by omega) (by omega)
    · intro h
      exact ⟨h i (by omega) (by omega), fun j h3 h4 => h j (by omega) (by omega)⟩

theorem hx_same {a b : Nat → Int} (ha : ∀ i, 0 ≤ a i ∧ a i < 256) (hb : ∀ i, 0 ≤ b i ∧ b i < 256) : ∀ k, hx a k = hx b k ↔ ∀ j, j < k → a j = b j
  | 0 => ⟨fun _ j h => by omega, fun _ => rfl⟩
  | k + 1 => by
    constructor
    · intro h j hj
      unfold hx at h
      have := List.append_inj h (by rw [hx_len, hx_len])
      by_cases e : j = k
      · subst e
        have h2 := this.2
        simp only [List.cons.injEq, and_true] at h2
        have h3 := (byte2 (ha j)).2.2.2
        have h4 := (byte2 (hb j)).2.2.2
        rw [h2.1, h2.2, ← h4] at h3
        exact h3
      · exact (hx_same ha hb k).1 this.1 j (by omega)
    · intro h
      unfold hx
      rw [(hx_same ha hb k).2 fun j hj => h j (by omega), h k (by omega)]

theorem eq_same {a b : Nat → Int} (ha : ∀ i, 0 ≤ a i ∧ a i < 256) (hb : ∀ i, 0 ≤ b i ∧ b i < 256) : (hx a 32 == hx b 32) = allEq a b 32 0 := by
  rw [Bool.eq_iff_iff, beq_iff_eq, hx_same ha hb 32, allEq_iff]
  constructor
  · intro h j _ hj
    exact h j (by omega)
  · intro h j hj
    exact h j (by omega) (by omega)

theorem part (a : Nat → Int) (j : Nat) (hj : j < 32) : partA P 5 [.int .u8 (a 0), .int .u8 (a 1), .int .u8 (a 2), .int .u8 (a 3), .int .u8 (a 4), .int .u8 (a 5), .int .u8 (a 6), .int .u8 (a 7), .int .u8 (a 8), .int .u8 (a 9), .int .u8 (a 10), .int .u8 (a 11), .int .u8 (a 12), .int .u8 (a 13), .int .u8 (a 14), .int .u8 (a 15), .int .u8 (a 16), .int .u8 (a 17), .int .u8 (a 18), .int .u8 (a 19), .int .u8 (a 20), .int .u8 (a 21), .int .u8 (a 22), .int .u8 (a 23), .int .u8 (a 24), .int .u8 (a 25), .int .u8 (a 26), .int .u8 (a 27), .int .u8 (a 28), .int .u8 (a 29), .int .u8 (a 30), .int .u8 (a 31)] (j * 1) = some (.int .u8 (a j)) := by
  have e : [.int .u8 (a 0), .int .u8 (a 1), .int .u8 (a 2), .int .u8 (a 3), .int .u8 (a 4), .int .u8 (a 5), .int .u8 (a 6), .int .u8 (a 7), .int .u8 (a 8), .int .u8 (a 9), .int .u8 (a 10), .int .u8 (a 11), .int .u8 (a 12), .int .u8 (a 13), .int .u8 (a 14), .int .u8 (a 15), .int .u8 (a 16), .int .u8 (a 17), .int .u8 (a 18), .int .u8 (a 19), .int .u8 (a 20), .int .u8 (a 21), .int .u8 (a 22), .int .u8 (a 23), .int .u8 (a 24), .int .u8 (a 25), .int .u8 (a 26), .int .u8 (a 27), .int .u8 (a 28), .int .u8 (a 29), .int .u8 (a 30), .int .u8 (a 31)] = (List.range 32).map fun i => AV.int .u8 (a i) := rfl
  have f : aggT P 5 = some false := by kernel_rfl
  unfold partA
  rw [f, e, Nat.mul_one]
  show ((List.range 32).map fun i => AV.int .u8 (a i))[j]? = _
  rw [List.getElem?_map, List.getElem?_range hj, Option.map_some]

theorem elems {eq : AV → AV → Option Bool} (he : ∀ x y : Int, eq (.int .u8 x) (.int .u8 y) = some (x == y)) (a b : Nat → Int) : ∀ n i, i + n = 32 → eqElemsA P eq 5 1 [.int .u8 (a 0), .int .u8 (a 1), .int .u8 (a 2), .int .u8 (a 3), .int .u8 (a 4), .int .u8 (a 5), .int .u8 (a 6), .int .u8 (a 7), .int .u8 (a 8), .int .u8 (a 9), .int .u8 (a 10), .int .u8 (a 11), .int .u8 (a 12), .int .u8 (a 13), .int .u8 (a 14), .int .u8 (a 15), .int .u8 (a 16), .int .u8 (a 17), .int .u8 (a 18), .int .u8 (a 19), .int .u8 (a 20), .int .u8 (a 21), .int .u8 (a 22), .int .u8 (a 23), .int .u8 (a 24), .int .u8 (a 25), .int .u8 (a 26), .int .u8 (a 27), .int .u8 (a 28), .int .u8 (a 29), .int .u8 (a 30), .int .u8 (a 31)] [.int .u8 (b 0), .int .u8 (b 1), .int .u8 (b 2), .int .u8 (b 3), .int .u8 (b 4), .int .u8 (b 5), .int .u8 (b 6), .int .u8 (b 7), .int .u8 (b 8), .int .u8 (b 9), .int .u8 (b 10), .int .u8 (b 11), .int .u8 (b 12), .int .u8 (b 13), .int .u8 (b 14), .int .u8 (b 15), .int .u8 (b 16), .int .u8 (b 17), .int .u8 (b 18), .int .u8 (b 19), .int .u8 (b 20), .int .u8 (b 21), .int .u8 (b 22), .int .u8 (b 23), .int .u8 (b 24), .int .u8 (b 25), .int .u8 (b 26), .int .u8 (b 27), .int .u8 (b 28), .int .u8 (b 29), .int .u8 (b 30), .int .u8 (b 31)] n i = some (allEq a b n i)
  | 0, _, _ => rfl
  | n + 1, i, h => by
    unfold eqElemsA
    rw [part a i (by omega), part b i (by omega)]
    simp only [he]
    unfold allEq
    cases (a i == b i) with
    | false => rfl
    | true =>
      rw [Bool.true_and]
      exact elems he a b n (i + 1) (by omega)

theorem cmp0 (H : AHeap) (a b : Nat → Int) : binA P H .eql 22 false (.agg [.int .u8 (a 0), .int .u8 (a 1), .int .u8 (a 2), .int .u8 (a 3), .int .u8 (a 4), .int .u8 (a 5), .int .u8 (a 6), .int .u8 (a 7), .int .u8 (a 8), .int .u8 (a 9), .int .u8 (a 10), .int .u8 (a 11), .int .u8 (a 12), .int .u8 (a 13), .int .u8 (a 14), .int .u8 (a 15), .int .u8 (a 16), .int .u8 (a 17), .int .u8 (a 18), .int .u8 (a 19), .int .u8 (a 20), .int .u8 (a 21), .int .u8 (a 22), .int .u8 (a 23), .int .u8 (a 24), .int .u8 (a 25), .int .u8 (a 26), .int .u8 (a 27), .int .u8 (a 28), .int .u8 (a 29), .int .u8 (a 30), .int .u8 (a 31)]) (.agg [.int .u8 (b 0), .int .u8 (b 1), .int .u8 (b 2), .int .u8 (b 3), .int .u8 (b 4), .int .u8 (b 5), .int .u8 (b 6), .int .u8 (b 7), .int .u8 (b 8), .int .u8 (b 9), .int .u8 (b 10), .int .u8 (b 11), .int .u8 (b 12), .int .u8 (b 13), .int .u8 (b 14), .int .u8 (b 15), .int .u8 (b 16), .int .u8 (b 17), .int .u8 (b 18), .int .u8 (b 19), .int .u8 (b 20), .int .u8 (b 21), .int .u8 (b 22), .int .u8 (b 23), .int .u8 (b 24), .int .u8 (b 25), .int .u8 (b 26), .int .u8 (b 27), .int .u8 (b 28), .int .u8 (b 29), .int .u8 (b 30), .int .u8 (b 31)]) = match eqElemsA P (eqA P H 8 5) 5 1 [.int .u8 (a 0), .int .u8 (a 1), .int .u8 (a 2), .int .u8 (a 3), .int .u8 (a 4), .int .u8 (a 5), .int .u8 (a 6), .int .u8 (a 7), .int .u8 (a 8), .int .u8 (a 9), .int .u8 (a 10), .int .u8 (a 11), .int .u8 (a 12), .int .u8 (a 13), .int .u8 (a 14), .int .u8 (a 15), .int .u8 (a 16), .int .u8 (a 17), .int .u8 (a 18), .int .u8 (a 19), .int .u8 (a 20), .int .u8 (a 21), .int .u8 (a 22), .int .u8 (a 23), .int .u8 (a 24), .int .u8 (a 25), .int .u8 (a 26), .int .u8 (a 27), .int .u8 (a 28), .int .u8 (a 29), .int .u8 (a 30), .int .u8 (a 31)] [.int .u8 (b 0), .int .u8 (b 1), .int .u8 (b 2), .int .u8 (b 3), .int .u8 (b 4), .int .u8 (b 5), .int .u8 (b 6), .int .u8 (b 7), .int .u8 (b 8), .int .u8 (b 9), .int .u8 (b 10), .int .u8 (b 11), .int .u8 (b 12), .int .u8 (b 13), .int .u8 (b 14), .int .u8 (b 15), .int .u8 (b 16), .int .u8 (b 17), .int .u8 (b 18), .int .u8 (b 19), .int .u8 (b 20), .int .u8 (b 21), .int .u8 (b 22), .int .u8 (b 23), .int .u8 (b 24), .int .u8 (b 25), .int .u8 (b 26), .int .u8 (b 27), .int .u8 (b 28), .int .u8 (b 29), .int .u8 (b 30), .int .u8 (b 31)] 32 0 with
    | none => none
    | some b => some (.bool b) := by kernel_rfl

theorem cmp (H : AHeap) (a b : Nat → Int) : binA P H .eql 22 false (.agg [.int .u8 (a 0), .int .u8 (a 1), .int .u8 (a 2), .int .u8 (a 3), .int .u8 (a 4), .int .u8 (a 5), .int .u8 (a 6), .int .u8 (a 7), .int .u8 (a 8), .int .u8 (a 9), .int .u8 (a 10), .int .u8 (a 11), .int .u8 (a 12), .int .u8 (a 13), .int .u8 (a 14), .int .u8 (a 15), .int .u8 (a 16), .int .u8 (a 17), .int .u8 (a 18), .int .u8 (a 19), .int .u8 (a 20), .int .u8 (a 21), .int .u8 (a 22), .int .u8 (a 23), .int .u8 (a 24), .int .u8 (a 25), .int .u8 (a 26), .int .u8 (a 27), .int .u8 (a 28), .int .u8 (a 29), .int .u8 (a 30), .int .u8 (a 31)]) (.agg [.int .u8 (b 0), .int .u8 (b 1), .int .u8 (b 2), .int .u8 (b 3), .int .u8 (b 4), .int .u8 (b 5), .int .u8 (b 6), .int .u8 (b 7), .int .u8 (b 8), .int .u8 (b 9), .int .u8 (b 10), .int .u8 (b 11), .int .u8 (b 12), .int .u8 (b 13), .int .u8 (b 14), .int .u8 (b 15), .int .u8 (b 16), .int .u8 (b 17), .int .u8 (b 18), .int .u8 (b 19), .int .u8 (b 20), .int .u8 (b 21), .int .u8 (b 22), .int .u8 (b 23), .int .u8 (b 24), .int .u8 (b 25), .int .u8 (b 26), .int .u8 (b 27), .int .u8 (b 28), .int .u8 (b 29), .int .u8 (b 30), .int .u8 (b 31)]) = some (.bool (allEq a b 32 0)) := by
  rw [cmp0, elems (fun x y => by kernel_rfl) a b 32 0 rfl]
end Go.Proofs.YtimpmdcifobgfaaDoor.shaCommon
