/- The chapter's rows of marks and of texts that are compared, and the comparing of any two texts: for the statement MacSame. -/
import Derived.Test.YtnaaamookaghpaaDoorMacSumA
import Derived.Test.YtnaaamookaghpaaDoorMacSumB
set_option maxRecDepth 100000
namespace Go.Proofs.YtnaaamookaghpaaDoor.macSame
open Go Ev
noncomputable abbrev P : Program := Tryd.prog
theorem mix : P.follows .mixedOrders = true := Checked.mixed Tryd.checked

theorem works (G : T (T AV)) (R : AV → Prop) (_K : AM → Prop) : Obl P 6 (fun v _ => R v) 0 _K [.run 1928, .callv [0] (.agg [.int .u8 162, .int .u8 228, .int .u8 133, .int .u8 134, .int .u8 61, .int .u8 39, .int .u8 249, .int .u8 216, .int .u8 100, .int .u8 172, .int .u8 141, .int .u8 128, .int .u8 36, .int .u8 50, .int .u8 161, .int .u8 237, .int .u8 71, .int .u8 125, .int .u8 140, .int .u8 76, .int .u8 111, .int .u8 52, .int .u8 157, .int .u8 22, .int .u8 212, .int .u8 231, .int .u8 233, .int .u8 23, .int .u8 198, .int .u8 41, .int .u8 202, .int .u8 215]), .run 1899, .callv [0] (.agg [.int .u8 91, .int .u8 220, .int .u8 193, .int .u8 70, .int .u8 191, .int .u8 96, .int .u8 117, .int .u8 78, .int .u8 106, .int .u8 4, .int .u8 36, .int .u8 38, .int .u8 8, .int .u8 149, .int .u8 117, .int .u8 199, .int .u8 90, .int .u8 0, .int .u8 63, .int .u8 8, .int .u8 157, .int .u8 39, .int .u8 57, .int .u8 131, .int .u8 157, .int .u8 236, .int .u8 88, .int .u8 185, .int .u8 100, .int .u8 236, .int .u8 56, .int .u8 67]), .run 1580, .done] (startM P 6 [] G) = (Goal P 0 17 (fun v _ => v = (.agg [.int .u8 162, .int .u8 228, .int .u8 133, .int .u8 134, .int .u8 61, .int .u8 39, .int .u8 249, .int .u8 216, .int .u8 100, .int .u8 172, .int .u8 141, .int .u8 128, .int .u8 36, .int .u8 50, .int .u8 161, .int .u8 237, .int .u8 71, .int .u8 125, .int .u8 140, .int .u8 76, .int .u8 111, .int .u8 52, .int .u8 157, .int .u8 22, .int .u8 212, .int .u8 231, .int .u8 233, .int .u8 23, .int .u8 198, .int .u8 41, .int .u8 202, .int .u8 215])) (startM P 17 [.str [124, 83, 80, 83, 54, 54, 54, 54, 54, 54, 54, 54, 54, 54, 54, 54, 54, 54, 54, 54, 54, 54, 54, 54, 54, 54, 54, 54, 54, 54, 54, 54, 54, 54, 54, 54, 54, 54, 54, 54, 54, 54, 54, 54, 54, 54, 54, 54, 54, 54, 54, 54, 54, 54, 54, 54, 54, 54, 54, 54, 54, 54, 54, 54, 119, 104, 97, 116, 32, 100, 111, 32, 121, 97, 32, 119, 97, 110, 116, 32, 102, 111, 114, 32, 110, 111, 116, 104, 105, 110, 103, 63]] G) ∧ Goal P 0 17 (fun v _ => v = (.agg [.int .u8 91, .int .u8 220, .int .u8 193, .int .u8 70, .int .u8 191, .int .u8 96, .int .u8 117, .int .u8 78, .int .u8 106, .int .u8 4, .int .u8 36, .int .u8 38, .int .u8 8, .int .u8 149, .int .u8 117, .int .u8 199, .int .u8 90, .int .u8 0, .int .u8 63, .int .u8 8, .int .u8 157, .int .u8 39, .int .u8 57, .int .u8 131, .int .u8 157, .int .u8 236, .int .u8 88, .int .u8 185, .int .u8 100, .int .u8 236, .int .u8 56, .int .u8 67])) (startM P 17 [.str [22, 57, 58, 57, 92, 92, 92, 92, 92, 92, 92, 92, 92, 92, 92, 92, 92, 92, 92, 92, 92, 92, 92, 92, 92, 92, 92, 92, 92, 92, 92, 92, 92, 92, 92, 92, 92, 92, 92, 92, 92, 92, 92, 92, 92, 92, 92, 92, 92, 92, 92, 92, 92, 92, 92, 92, 92, 92, 92, 92, 92, 92, 92, 92, 162, 228, 133, 134, 61, 39, 249, 216, 100, 172, 141, 128, 36, 50, 161, 237, 71, 125, 140, 76, 111, 52, 157, 22, 212, 231, 233, 23, 198, 41, 202, 215]] G) ∧ R (.bool true)) := by kernel_rfl

theorem works_ok : Goal P 0 6 (fun v _ => v = .bool true) (startM P 6 [] glob) :=
  Obl.goal (K := Goal P 0 6 _) mix (fun _ h => h) (cast (works glob (fun v => v = .bool true) _).symm ⟨macA.sum, macB.sum, rfl⟩)

noncomputable def M (a b : List UInt8) (G : T (T AV)) (u i : Int) : AM := ⟨⟨9, 29, (.node (.node .leaf (some (.str b)) (.node .leaf (some (.int .u8 u)) (.node .leaf (some (.int .i64 (↑a.length : Int))) .leaf))) (some (.str a)) (.node .leaf none (.node .leaf none (.node .leaf (some (.int .i64 i)) .leaf)))),
   [.code (cd P (9 : Nat) [(1 : Nat), (1 : Nat), (1 : Nat), (0 : Nat), (1 : Nat), (0 : Nat), (0 : Nat)]), .inLoop (cd P (9 : Nat) [(1 : Nat), (1 : Nat), (1 : Nat), (0 : Nat), (1 : Nat), (0 : Nat), (0 : Nat)]), .inBlock 0, .code (cd P (9 : Nat) [(1 : Nat), (1 : Nat), (1 : Nat), (1 : Nat)])], [], .run, CallKind.normal, none⟩,
  [],
  ⟨.leaf, 0, G⟩⟩

/-- What two bytes make of the bits so far. -/
def nxt (u : Int) (x y : UInt8) : Int := IntKind.u8.wrap (↑(BitVec.ofInt 8 u ||| BitVec.ofInt 8 (IntKind.u8.wrap (↑(BitVec.ofInt 8 (↑x.toNat : Int) ^^^ BitVec.ofInt 8 (↑y.toNat : Int)).toNat : Int))).toNat : Int)

theorem sameN (G : T (T AV)) (a b : List UInt8) (R : AV → Prop) (_K : AM → Prop) : Obl P 9 (fun v _ => R v) 0 _K [.run 13, .know 11 true, .run 6, .done] ((startM P 9 [.str a, .str b] G)) = ((((↑a.length : Int) != (↑b.length : Int)) = true) ∧ (R (.bool false))) := by kernel_rfl

theorem head (G : T (T AV)) (a b : List UInt8) (R : AV → Prop) (K : AM → Prop) : Obl P 9 (fun v _ => R v) 0 K [.run 13, .know 11 false, .run 15, .can 0 [] [0, 1, 5, 13, 14] []] ((startM P 9 [.str a, .str b] G)) = ((((↑a.length : Int) != (↑b.length : Int)) = false) ∧ K (M a b G (0 : Int) (0 : Int))) := by kernel_rfl

theorem round (G : T (T AV)) (a b : List UInt8) (u i : Int) (R : AV → Prop) (K : AM → Prop) : Obl P 9 (fun v _ => R v) 0 K [.run 5, .know 15 true, .run 13, .op, .run 2, .op, .run 10, .can 0 [] [0, 1, 5, 13, 14] []] ((M a b G u i)) = ((decide (i < (↑a.length : Int)) = true) ∧ ((0 : Int) ≤ i ∧ i < (↑a.length : Int)) ∧ ((0 : Int) ≤ i ∧ i < (↑b.length : Int)) ∧ K (M a b G (nxt u (a.getD i.toNat 0) (b.getD i.toNat 0)) (IntKind.i64.wrap (i + 1)))) := by kernel_rfl

theorem out (G : T (T AV)) (a b : List UInt8) (u i : Int) (R : AV → Prop) (_K : AM → Prop) : Obl P 9 (fun v _ => R v) 0 _K [.run 5, .know 15 false, .run 9, .done] ((M a b G u i)) = ((decide (i < (↑a.length : Int)) = false) ∧ (R (.bool (u == (0 : Int))))) := by kernel_rfl

theorem law (G : T (T AV)) (a b : List UInt8) (_K : AM → Prop) : optK (startL P 5 [.str a, .str b] [] G) (Obl P 5 (fun v _ => v = .bool true) 0 _K [.run 9, .callv [0, 1] (.bool (a == b)), .run 18, .know 12 true, .run 3, .callv [0, 1] (.bool true), .run 3, .callv [] (.bool true), .run 4, .done]) = ((Goal P 0 9 (fun v _ => v = .bool (a == b)) (startM P 9 [.str a, .str b] G)) ∧ (((a == b) == (a == b)) = true) ∧ (Goal P 0 9 (fun v _ => v = .bool true) (startM P 9 [.str a, .str a] G)) ∧ (Goal P 0 6 (fun v _ => v = .bool true) (startM P 6 [] G)) ∧ (AV.bool true = AV.bool true)) := by kernel_rfl

theorem of8 (x : UInt8) : BitVec.ofInt 8 (x.toNat : Int) = x.toBitVec := by
  rw [BitVec.ofInt_natCast]
  apply BitVec.eq_of_toNat_eq
  rw [BitVec.toNat_ofNat]
  exact Nat.mod_eq_of_lt x.toBitVec.isLt

theorem in8 (x : BitVec 8) : IntKind.u8.wrap (x.toNat : Int) = x.toNat := IntWalk.u8_in _ (by have := x.isLt; omega)

theorem nxt_eq (w x y : UInt8) : nxt (w.toNat : Int) x y = ((w ||| (x ^^^ y)).toNat : Int) := by
  unfold nxt
  rw [of8, of8, of8, in8, in8]
  have h : ((x.toBitVec ^^^ y.toBitVec).toNat : Int) = ((x ^^^ y).toNat : Int) := rfl
  rw [h, of8]
  rfl

theorem or_zero (w x y : UInt8) : (w ||| (x ^^^ y)) = 0 ↔ w = 0 ∧ x = y := by
  rw [UInt8.or_eq_zero_iff, UInt8.xor_eq_zero_iff]

theorem take_more {a b : List UInt8} {i : Nat} (ha : i < a.length) (hb : i < b.length) : a.take (i + 1) = b.take (i + 1) ↔ a.take i = b.take i ∧ a.getD i 0 = b.getD i 0 := by
  rw [List.take_succ_eq_append_getElem ha, List.take_succ_eq_append_getElem hb]
  have h1 : a.getD i 0 = a[i] := by simp [List.getD, ha]
  have h2 : b.getD i 0 = b[i] := by simp [List.getD, hb]
  rw [h1, h2]
  constructor
  · intro h
    have := List.append_inj h (by simp; omega)
    exact ⟨this.1, by simpa using this.2⟩
  · rintro ⟨h, k⟩
    rw [h, k]

theorem loop {R : AV → Prop} {G : T (T AV)} {a b : List UInt8} (hab : a.length = b.length) (hl : a.length ≤ maxLen) (hR : R (.bool (a == b))) : ∀ (n i : Nat) (w : UInt8), i + n = a.length → (w = 0 ↔ a.take i = b.take i) → Goal P 0 9 (fun v _ => R v) (M a b G (w.toNat : Int) (i : Int))
  | 0, i, w, hi, hw => by
    refine Obl.goal (K := Goal P 0 9 _) mix (fun _ h => h) (cast (out G a b _ _ R _).symm ⟨decide_eq_false (by omega), ?_⟩)
    have e : ((w.toNat : Int) == 0) = (a == b) := by
      rw [List.take_of_length_le (by omega), List.take_of_length_le (by omega)] at hw
      rw [Bool.eq_iff_iff, beq_iff_eq, beq_iff_eq, ← hw]
      constructor
      · intro h
        exact UInt8.toNat_inj.1 (by have : (0 : UInt8).toNat = 0 := rfl; omega)
      · rintro rfl
        rfl
    rw [e]
    exact hR
  | n + 1, i, w, hi, hw => by
    have hm : maxLen ≤ 9223372036854775807 := by decide
    refine Obl.goal (K := Goal P 0 9 _) mix (fun _ h => h) (cast (round G a b _ _ R _).symm ⟨decide_eq_true (by omega), ⟨by omega, by omega⟩, ⟨by omega, by omega⟩, ?_⟩)
    rw [nxt_eq, IntWalk.i64_in _ (by omega)]
    exact loop hab hl hR n (i + 1) _ (by omega) ((or_zero _ _ _).trans (by rw [take_more (by omega) (by omega), hw]; rfl))

theorem same_ok {G : T (T AV)} {a b : List UInt8} (hl : a.length ≤ maxLen) : Goal P 0 9 (fun v _ => v = .bool (a == b)) (startM P 9 [.str a, .str b] G) := by
  by_cases h : a.length = b.length
  · refine Obl.goal (K := Goal P 0 9 _) mix (fun _ h => h) (cast (head G a b (fun v => v = .bool (a == b)) _).symm ⟨by rw [h]; simp, ?_⟩)
    exact loop (R := fun v => v = .bool (a == b)) h hl rfl a.length 0 0 (by omega) (by simp)
  · refine Obl.goal (K := Goal P 0 9 _) mix (fun _ h => h) (cast (sameN G a b (fun v => v = .bool (a == b)) _).symm ⟨?_, ?_⟩)
    · rw [bne_iff_ne]
      omega
    · have e : (a == b) = false := by
        rw [beq_eq_false_iff_ne]
        rintro rfl
        exact h rfl
      rw [e]
end Go.Proofs.YtnaaamookaghpaaDoor.macSame
