/- Any numbers' rows, and then any texts', behind one another: the loops of the statement WirePuts, from head to head. Every run is reckoned by the kernel; what has to be shown of each is listed with it. -/
import Derived.Test.YtmnelckaighmkaaWireP
set_option maxRecDepth 100000
namespace Go.Proofs.Ytmnelckaighmkaa.wirePuts
open Go Ev wireR

noncomputable abbrev Q : AV → AHeap → Prop := fun v _ => v = .bool true
noncomputable def M1 (A2 : AV) (X : Option AObj) (i : Int) (a b : List UInt8) (off len cap : Nat) (z : Nat → Int) : AM :=
  ⟨⟨3, 65, (.node (.node (.node (.node .leaf (some (.int .i64 i)) .leaf) none .leaf) (some A2) (.node .leaf (some (.str a)) .leaf)) (some (.slc 1 0 off len cap)) (.node .leaf none (.node .leaf (some (.str b)) .leaf))),
   [.code (cd P 3 [1, 1, 0, 1, 0, 0]), .inLoop (cd P 3 [1, 1, 0, 1, 0, 0]), .inBlock 0, .code (cd P 3 [1, 1, 1])], [], .run, CallKind.normal, none⟩,
  [],
  ⟨(.node (.node .leaf (some (.ro (.fn fun j => some (AV.int IntKind.u64 (z j))) off (off + cap))) .leaf) X .leaf), 2, .leaf⟩⟩
noncomputable def M2 (A2 : AV) (X Y : Option AObj) (i : Int) (a b : List UInt8) : AM :=
  ⟨⟨3, 65, (.node (.node .leaf (some A2) (.node .leaf (some (.str a)) .leaf)) none (.node (.node (.node .leaf (some (.int .i64 i)) .leaf) none .leaf) none (.node .leaf (some (.str b)) .leaf))),
   [.code (cd P 3 [1, 1, 1, 0, 1, 0, 0]), .inLoop (cd P 3 [1, 1, 1, 0, 1, 0, 0]), .inBlock 2, .code (cd P 3 [1, 1, 1, 1])], [], .run, CallKind.normal, none⟩,
  [],
  ⟨(.node (.node .leaf Y .leaf) X .leaf), 2, .leaf⟩⟩

def lim (n : Nat) : Int := if decide ((3000 : Int) < n) = true then 3000 else n

theorem lim_take (l : List UInt8) : List.take ((lim l.length).toNat - 0) (List.drop 0 l) = List.take 3000 l := by
  unfold lim
  rw [List.drop_zero, Nat.sub_zero]
  by_cases h : (3000 : Int) < l.length
  · rw [if_pos (decide_eq_true h)]; rfl
  · rw [if_neg (by simpa using h), Int.toNat_natCast, List.take_of_length_le (Nat.le_refl _), List.take_of_length_le (by omega)]

theorem lim_le (n : Nat) : 0 ≤ lim n ∧ lim n ≤ n := by
  unfold lim
  by_cases h : (3000 : Int) < n
  · rw [if_pos (decide_eq_true h)]; omega
  · rw [if_neg (by simpa using h)]; omega

theorem start (A2 : AV) (I2 : Inp) (b off len cap : Nat) (z : Nat → Int) (K : AM → Prop) : optK ((startL P 3 [.slc 1 0 off len cap, A2] [I2, ⟨true, b, .fn (fun j => some (.int .u64 (z j))), off, off + cap⟩] .leaf)) (Obl P 3 Q 0 K [.run 16, .keep [0, 1, 5, 6, 7]]) = (K (M1 A2 (Bool.rec ((fun _ => none) ()) (some (AObj.ro I2.cells I2.lo I2.n)) I2.there) (Int.ofNat 0) [] [] off len cap z)) := by kernel_rfl

theorem startNil (A2 : AV) (I2 : Inp) (b : Nat) (c : T AV) (K : AM → Prop) : optK ((startL P 3 [.nils 0 0, A2] [I2, ⟨false, b, c, 0, 0⟩] .leaf)) (Obl P 3 Q 0 K [.run 16, .run 21, .keep [1, 5, 6, 8]]) = (K (M2 A2 (Bool.rec ((fun _ => none) ()) (some (AObj.ro I2.cells I2.lo I2.n)) I2.there) none (Int.ofNat 0) [] [])) := by kernel_rfl

theorem startSle (A2 : AV) (I2 : Inp) (b : Nat) (c : T AV) (K : AM → Prop) : optK ((startL P 3 [.sle, A2] [I2, ⟨false, b, c, 0, 0⟩] .leaf)) (Obl P 3 Q 0 K [.run 16, .run 21, .keep [1, 5, 6, 8]]) = (K (M2 A2 (Bool.rec ((fun _ => none) ()) (some (AObj.ro I2.cells I2.lo I2.n)) I2.there) none (Int.ofNat 0) [] [])) := by kernel_rfl

theorem oneyy (A2 : AV) (X : Option AObj) (i : Int) (a b : List UInt8) (off len cap : Nat) (z : Nat → Int) (K : AM → Prop) : Obl P 3 Q 0 K [.run 8, .know 14 true, .run 4, .know 17 true, .run 8, .op, .op, .run 3, .op, .op, .run 1, (.callv [0, 1] (.str (a ++ row (z (off + i.toNat * 1))))), .run 1, (.callv [0, 1] (.str (b ++ row (z (off + i.toNat * 1))))), .run 10, .keep [0, 1, 5, 6, 7]] ((M1 A2 X i a b off len cap z)) = ((decide (i < ↑len) = true) ∧ (decide (i < 60) = true) ∧ (0 ≤ i ∧ i < ↑len) ∧ (off ≤ off + i.toNat * 1 ∧ off + i.toNat * 1 + 1 ≤ off + cap) ∧ (0 ≤ i ∧ i < ↑len) ∧ (off ≤ off + i.toNat * 1 ∧ off + i.toNat * 1 + 1 ≤ off + cap) ∧ (Goal P 0 8 (fun x _ => x = AV.str (a ++ row (z (off + i.toNat * 1)))) (startM P 8 [.str a, .int .u64 (z (off + i.toNat * 1))] .leaf)) ∧ (off ≤ off + i.toNat * 1 ∧ off + i.toNat * 1 + 1 ≤ off + cap) ∧ (AV.int IntKind.u64 (z (off + i.toNat * 1)) = AV.int IntKind.u64 (z (off + i.toNat * 1))) ∧ (Goal P 0 9 (fun x _ => x = AV.str (b ++ row (z (off + i.toNat * 1)))) (startM P 9 [.str b, .int .u64 (z (off + i.toNat * 1))] .leaf)) ∧ K (M1 A2 X (IntKind.i64.wrap (i + 1)) (a ++ row (z (off + i.toNat * 1))) (b ++ row (z (off + i.toNat * 1))) off len cap z)) := by kernel_rfl

theorem oneyn (A2 : AV) (X : Option AObj) (i : Int) (a b : List UInt8) (off len cap : Nat) (z : Nat → Int) (K : AM → Prop) : Obl P 3 Q 0 K [.run 8, .know 14 true, .run 4, .know 17 false, .run 9, .keep [1, 5, 6, 8]] ((M1 A2 X i a b off len cap z)) = ((decide (i < ↑len) = true) ∧ (decide (i < 60) = false) ∧ K (M2 A2 X (some (AObj.ro (T.fn fun j => some (AV.int IntKind.u64 (z j))) off (off + cap))) (Int.ofNat 0) a b)) := by kernel_rfl

theorem onen (A2 : AV) (X : Option AObj) (i : Int) (a b : List UInt8) (off len cap : Nat) (z : Nat → Int) (K : AM → Prop) : Obl P 3 Q 0 K [.run 8, .know 14 false, .run 13, .keep [1, 5, 6, 8]] ((M1 A2 X i a b off len cap z)) = ((decide (i < ↑len) = false) ∧ K (M2 A2 X (some (AObj.ro (T.fn fun j => some (AV.int IntKind.u64 (z j))) off (off + cap))) (Int.ofNat 0) a b)) := by kernel_rfl

theorem twoyy (Y : Option AObj) (i : Int) (a b : List UInt8) (off len cap : Nat) (y : Nat → List UInt8) (K : AM → Prop) : Obl P 3 Q 0 K [.run 8, .know 36 true, .run 4, .know 39 true, .run 8, .op, .op, .run 2, .op, .op, .run 2, .op, .run 6, (.callv [0, 1] (.str (a ++ row (IntKind.u64.wrap ((y (off + i.toNat * 1)).take 3000).length) ++ ((y (off + i.toNat * 1)).take 3000)))), .run 3, (.callv [0, 1] (.str (b ++ row (IntKind.u64.wrap ((y (off + i.toNat * 1)).take 3000).length) ++ ((y (off + i.toNat * 1)).take 3000)))), .run 10, .keep [1, 5, 6, 8]] ((M2 (.slc 0 0 off len cap) (some (.ro (.fn fun j => some (AV.str (y j))) off (off + cap))) Y i a b)) = ((decide (i < ↑len) = true) ∧ (decide (i < 20) = true) ∧ (0 ≤ i ∧ i < ↑len) ∧ (off ≤ off + i.toNat * 1 ∧ off + i.toNat * 1 + 1 ≤ off + cap) ∧ (0 ≤ i ∧ i < ↑len) ∧ (off ≤ off + i.toNat * 1 ∧ off + i.toNat * 1 + 1 ≤ off + cap) ∧ ((0 ≤ lim (y (off + i.toNat * 1)).length) ∧ (lim (y (off + i.toNat * 1)).length) ≤ ↑(y (off + i.toNat * 1)).length) ∧ (Goal P 0 10 (fun x _ => x = AV.str (a ++ row (IntKind.u64.wrap ↑(List.take 3000 (y (off + i.toNat * 1))).length) ++ List.take 3000 (y (off + i.toNat * 1)))) (startM P 10 [.str a, .str (List.take ((lim (y (off + i.toNat * 1)).length).toNat - 0) (List.drop 0 (y (off + i.toNat * 1))))] .leaf)) ∧ (Goal P 0 11 (fun x _ => x = AV.str (b ++ row (IntKind.u64.wrap ↑(List.take 3000 (y (off + i.toNat * 1))).length) ++ List.take 3000 (y (off + i.toNat * 1)))) (startM P 11 [.str b, .str (List.take ((lim (y (off + i.toNat * 1)).length).toNat - 0) (List.drop 0 (y (off + i.toNat * 1))))] .leaf)) ∧ K (M2 (AV.slc 0 0 off len cap) (some (AObj.ro (T.fn fun j => some (AV.str (y j))) off (off + cap))) Y (IntKind.i64.wrap (i + 1)) (a ++ row (IntKind.u64.wrap ↑(List.take 3000 (y (off + i.toNat * 1))).length) ++ List.take 3000 (y (off + i.toNat * 1))) (b ++ row (IntKind.u64.wrap ↑(List.take 3000 (y (off + i.toNat * 1))).length) ++ List.take 3000 (y (off + i.toNat * 1))))) := by kernel_rfl

theorem twoyny (Y : Option AObj) (i : Int) (a b : List UInt8) (off len cap : Nat) (y : Nat → List UInt8) (_K : AM → Prop) : Obl P 3 Q 0 _K [.run 8, .know 36 true, .run 4, .know 39 false, .run 8, .know 62 true, .run 1, (.callv [] (.bool true)), .run 4, .done] ((M2 (.slc 0 0 off len cap) (some (.ro (.fn fun j => some (AV.str (y j))) off (off + cap))) Y i a b)) = ((decide (i < ↑len) = true) ∧ (decide (i < 20) = false) ∧ ((a == b) = true) ∧ (Goal P 0 12 (fun x _ => x = AV.bool true) (startM P 12 [] .leaf)) ∧ (AV.bool true = AV.bool true)) := by kernel_rfl

theorem twony (Y : Option AObj) (i : Int) (a b : List UInt8) (off len cap : Nat) (y : Nat → List UInt8) (_K : AM → Prop) : Obl P 3 Q 0 _K [.run 8, .know 36 false, .run 12, .know 62 true, .run 1, (.callv [] (.bool true)), .run 4, .done] ((M2 (.slc 0 0 off len cap) (some (.ro (.fn fun j => some (AV.str (y j))) off (off + cap))) Y i a b)) = ((decide (i < ↑len) = false) ∧ ((a == b) = true) ∧ (Goal P 0 12 (fun x _ => x = AV.bool true) (startM P 12 [] .leaf)) ∧ (AV.bool true = AV.bool true)) := by kernel_rfl

theorem twoNily (X Y : Option AObj) (a b : List UInt8) (_K : AM → Prop) : Obl P 3 Q 0 _K [.run 20, .know 62 true, .run 1, (.callv [] (.bool true)), .run 4, .done] ((M2 (.nils 0 0) X Y 0 a b)) = (((a == b) = true) ∧ (Goal P 0 12 (fun x _ => x = AV.bool true) (startM P 12 [] .leaf)) ∧ (AV.bool true = AV.bool true)) := by kernel_rfl

theorem twoSley (X Y : Option AObj) (a b : List UInt8) (_K : AM → Prop) : Obl P 3 Q 0 _K [.run 20, .know 62 true, .run 1, (.callv [] (.bool true)), .run 4, .done] ((M2 (.sle) X Y 0 a b)) = (((a == b) = true) ∧ (Goal P 0 12 (fun x _ => x = AV.bool true) (startM P 12 [] .leaf)) ∧ (AV.bool true = AV.bool true)) := by kernel_rfl

/-- The second loop, over texts that came in. -/
theorem texts (Y : Option AObj) (off len cap : Nat) (_hlen : len ≤ 9223372036854775807) (hcap : len ≤ cap) (y : Nat → List UInt8) :
    ∀ (d : Nat) (i : Int) (a : List UInt8), 0 ≤ i → i ≤ 20 → 20 - i ≤ d → a.length ≤ 1000 + 3009 * i → Goal P 0 3 Q (M2 (.slc 0 0 off len cap) (some (.ro (.fn fun j => some (AV.str (y j))) off (off + cap))) Y i a a) := by
  intro d
  induction d with
  | zero =>
    intro i a h0 h1 h2 h3
    by_cases hl : i < len
    · exact Obl.goal (K := fun _ => False) mix (fun _ h => h.elim) (cast (twoyny Y i a a off len cap y _).symm ⟨decide_eq_true hl, decide_eq_false (by omega), beq_self_eq_true a, works, rfl⟩)
    · exact Obl.goal (K := fun _ => False) mix (fun _ h => h.elim) (cast (twony Y i a a off len cap y _).symm ⟨decide_eq_false hl, beq_self_eq_true a, works, rfl⟩)
  | succ d ih =>
    intro i a h0 h1 h2 h3
    by_cases hl : i < len
    rotate_left
    · exact Obl.goal (K := fun _ => False) mix (fun _ h => h.elim) (cast (twony Y i a a off len cap y _).symm ⟨decide_eq_false hl, beq_self_eq_true a, works, rfl⟩)
    by_cases hi : i < 20
    rotate_left
    · exact Obl.goal (K := fun _ => False) mix (fun _ h => h.elim) (cast (twoyny Y i a a off len cap y _).symm ⟨decide_eq_true hl, decide_eq_false hi, beq_self_eq_true a, works, rfl⟩)
    have hin : off ≤ off + i.toNat * 1 ∧ off + i.toNat * 1 + 1 ≤ off + cap := by omega
    have w3 : IntKind.i64.wrap (i + 1) = i + 1 := IntWalk.i64_in _ (by omega)
    have ht : (List.take 3000 (y (off + i.toNat * 1))).length ≤ 3000 := List.length_take_le _ _
    refine Obl.goal (K := Goal P 0 3 Q) mix (fun _ h => h) (cast (twoyy Y i a a off len cap y _).symm ⟨decide_eq_true hl, decide_eq_true hi, ⟨h0, hl⟩, hin, ⟨h0, hl⟩, hin, lim_le _, ?_, ?_, ?_⟩)
    · rw [lim_take]; exact putt _ _ (by omega)
    · rw [lim_take]; exact rputt _ _ (by omega)
    · rw [w3]
      refine ih _ _ (by omega) (by omega) (by omega) ?_
      have := row_length (IntKind.u64.wrap (List.take 3000 (y (off + i.toNat * 1))).length)
      rw [List.length_append, List.length_append]
      omega

/-- What comes in as the second argument. -/
def Second (A2 : AV) (X : Option AObj) : Prop := A2 = .nils 0 0 ∨ A2 = .sle ∨ ∃ (off len cap : Nat) (y : Nat → List UInt8), len ≤ 9223372036854775807 ∧ len ≤ cap ∧ A2 = .slc 0 0 off len cap ∧ X = some (.ro (.fn fun j => some (AV.str (y j))) off (off + cap))

theorem second {A2 : AV} {X : Option AObj} (h : Second A2 X) (Y : Option AObj) (a : List UInt8) (ha : a.length ≤ 1000) : Goal P 0 3 Q (M2 A2 X Y 0 a a) := by
  rcases h with rfl | rfl | ⟨off, len, cap, y, h1, h2, rfl, rfl⟩
  · exact Obl.goal (K := fun _ => False) mix (fun _ h => h.elim) (cast (twoNily X Y a a _).symm ⟨beq_self_eq_true a, works, rfl⟩)
  · exact Obl.goal (K := fun _ => False) mix (fun _ h => h.elim) (cast (twoSley X Y a a _).symm ⟨beq_self_eq_true a, works, rfl⟩)
  · exact texts Y off len cap h1 h2 y 20 0 a (by omega) (by omega) (by omega) (by omega)

/-- The first loop, over numbers that came in. -/
theorem numbers {A2 : AV} {X : Option AObj} (h : Second A2 X) (off len cap : Nat) (_hlen : len ≤ 9223372036854775807) (hcap : len ≤ cap) (z : Nat → Int) (hz : ∀ j, off ≤ j → j < off + len → 0 ≤ z j ∧ z j ≤ 18446744073709551615) :
    ∀ (d : Nat) (i : Int) (a : List UInt8), 0 ≤ i → i ≤ 60 → 60 - i ≤ d → a.length ≤ 9 * i → Goal P 0 3 Q (M1 A2 X i a a off len cap z) := by
  intro d
  induction d with
  | zero =>
    intro i a h0 h1 h2 h3
    by_cases hl : i < len
    · exact Obl.goal (K := Goal P 0 3 Q) mix (fun _ h => h) (cast (oneyn A2 X i a a off len cap z _).symm ⟨decide_eq_true hl, decide_eq_false (by omega), second h _ a (by omega)⟩)
    · exact Obl.goal (K := Goal P 0 3 Q) mix (fun _ h => h) (cast (onen A2 X i a a off len cap z _).symm ⟨decide_eq_false hl, second h _ a (by omega)⟩)
  | succ d ih =>
    intro i a h0 h1 h2 h3
    by_cases hl : i < len
    rotate_left
    · exact Obl.goal (K := Goal P 0 3 Q) mix (fun _ h => h) (cast (onen A2 X i a a off len cap z _).symm ⟨decide_eq_false hl, second h _ a (by omega)⟩)
    by_cases hi : i < 60
    rotate_left
    · exact Obl.goal (K := Goal P 0 3 Q) mix (fun _ h => h) (cast (oneyn A2 X i a a off len cap z _).symm ⟨decide_eq_true hl, decide_eq_false hi, second h _ a (by omega)⟩)
    obtain ⟨hx0, hx1⟩ := hz (off + i.toNat * 1) (by omega) (by omega)
    have hin : off ≤ off + i.toNat * 1 ∧ off + i.toNat * 1 + 1 ≤ off + cap := by omega
    have w3 : IntKind.i64.wrap (i + 1) = i + 1 := IntWalk.i64_in _ (by omega)
    refine Obl.goal (K := Goal P 0 3 Q) mix (fun _ h => h) (cast (oneyy A2 X i a a off len cap z _).symm ⟨decide_eq_true hl, decide_eq_true hi, ⟨h0, hl⟩, hin, ⟨h0, hl⟩, hin, puts a _ hx0 hx1 (by omega), hin, rfl, rputs a _ hx0 hx1 (by omega), ?_⟩)
    rw [w3]
    refine ih _ _ (by omega) (by omega) (by omega) ?_
    have := row_length (z (off + i.toNat * 1))
    rw [List.length_append]
    omega

end Go.Proofs.Ytmnelckaighmkaa.wirePuts
