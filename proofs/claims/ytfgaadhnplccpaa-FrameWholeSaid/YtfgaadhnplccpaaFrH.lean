/- What FrameCuts calls: the document, and the comparison of two lists. -/
import Derived.Test.YtfgaadhnplccpaaFrG
set_option maxRecDepth 100000
namespace Go.Proofs.Ytfgaadhnplccpaa.frm
open Go Ev

noncomputable def MT (G : T (T AV)) (k o l st : Nat) (f g : Nat → List UInt8) (i : Int) : AM := ⟨⟨7, 26, (.node (.node .leaf (some (.slg 1 0 o l st)) (.node .leaf (some (.int .i64 i)) .leaf)) (some (.slg 0 0 0 l 0)) .leaf),
   [.code (cd P (7 : Nat) [(1 : Nat), (1 : Nat), (0 : Nat), (1 : Nat), (0 : Nat), (0 : Nat)]), .inLoop (cd P (7 : Nat) [(1 : Nat), (1 : Nat), (0 : Nat), (1 : Nat), (0 : Nat), (0 : Nat)]), .inBlock 0, .code (cd P (7 : Nat) [(1 : Nat), (1 : Nat), (1 : Nat)])], [], .run, CallKind.normal, none⟩, [],
  ⟨(.node (.node .leaf (some (.cells (.fn fun j => some (AV.str (g j))) k 9 0 0 1 0 false .leaf)) .leaf) (some (.cells (.fn fun j => some (AV.str (f j))) l 9 0 0 1 0 false .leaf)) .leaf), 2, G⟩⟩

theorem ref0 (G : T (T AV)) (S s : List UInt8) (b : Bool) (R : AV → AHeap → Prop) (_K : AM → Prop) : Obl P 9 (fun v h => R v h) 1 _K [.run 12, .op, .run 11, .callh [] [0] (.tup [.nils 0 0, .bool b]) ⟨.leaf, 0, G⟩, .run 31, .done] ((startH P 9 [.ptr 0 0 0, .str s] (HS G S 0))) = ((S.length + s.length < 1099511627776) ∧ (Goal P (0) 16 (fun x k => x = AV.tup [AV.nils (0 : Nat) (0 : Nat), AV.bool b] ∧ k = { objs := T.leaf, next := (0 : Nat), glob := G }) (startM P 16 [.str (S ++ s)] G)) ∧ (R (.nils 0 0) (⟨(.node .leaf (some (.cells (.node (.node .leaf (some (.int .i64 0)) .leaf) (some (.str (S ++ s))) .leaf) 2 27 0 0 1 0 false .leaf)) .leaf), 1, G⟩))) := by kernel_rfl

theorem ref1 (G : T (T AV)) (S s : List UInt8) (t : Int) (b : Bool) (k : Nat) (f : Nat → List UInt8) (R : AV → AHeap → Prop) (_K : AM → Prop) : Obl P 9 (fun v h => R v h) 1 _K [.run 12, .op, .run 11, .callh [] [0] (.tup [.slg 0 0 0 k 0, .bool b]) (H1 G k f), .run 13, .op, .run 17, .done] ((startH P 9 [.ptr 0 0 0, .str s] (HS G S t))) = ((S.length + s.length < 1099511627776) ∧ (PlainFn fun j => some (AV.str (f j))) ∧ (Goal P (0) 16 (fun x i => x = AV.tup [AV.slg (0 : Nat) (0 : Nat) (0 : Nat) k (0 : Nat), AV.bool b] ∧ i = H1 G k f) (startM P 16 [.str (S ++ s)] G)) ∧ ((0 : Int) ≤ t ∧ t ≤ (↑k : Int)) ∧ (R (.slg 1 0 (0 + t.toNat * 1) (k - t.toNat) (0 + t.toNat)) (⟨(.node (.node .leaf (some (.cells (.fn fun j => some (AV.str (f j))) k 9 0 0 1 0 false .leaf)) .leaf) (some (.cells (.node (.node .leaf (some (.int .i64 (↑k : Int))) .leaf) (some (.str (S ++ s))) .leaf) 2 27 0 0 1 0 false .leaf)) .leaf), 2, G⟩))) := by kernel_rfl

theorem brk0 (G : T (T AV)) (S : List UInt8) (t : Int) (b : Bool) (R : AV → AHeap → Prop) (_K : AM → Prop) : Obl P 11 (fun v h => R v h) 1 _K [.run 11, (.callh [] [0] (.tup [.nils 0 0, .bool b]) ⟨.leaf, 0, G⟩), .run 12, .can 1 [0] [2] [], .done] ((startH P 11 [.ptr 0 0 0] (HS G S t))) = ((Goal P (0) 16 (fun x k => x = AV.tup [AV.nils (0 : Nat) (0 : Nat), AV.bool b] ∧ k = { objs := T.leaf, next := (0 : Nat), glob := G }) (startM P 16 [.str S] G)) ∧ (R (.bool b) (⟨(.node .leaf (some (.cells (.node (.node .leaf (some (.int .i64 t)) .leaf) (some (.str S)) .leaf) 2 27 0 0 1 0 false .leaf)) .leaf), 1, G⟩))) := by kernel_rfl

theorem brk1 (G : T (T AV)) (S : List UInt8) (t : Int) (b : Bool) (k : Nat) (f : Nat → List UInt8) (R : AV → AHeap → Prop) (_K : AM → Prop) : Obl P 11 (fun v h => R v h) 1 _K [.run 11, (.callh [] [0] (.tup [.slg 0 0 0 k 0, .bool b]) (H1 G k f)), .run 12, .can 1 [0] [2] [], .done] ((startH P 11 [.ptr 0 0 0] (HS G S t))) = ((PlainFn fun j => some (AV.str (f j))) ∧ (Goal P (0) 16 (fun x i => x = AV.tup [AV.slg (0 : Nat) (0 : Nat) (0 : Nat) k (0 : Nat), AV.bool b] ∧ i = H1 G k f) (startM P 16 [.str S] G)) ∧ (R (.bool b) (⟨(.node .leaf (some (.cells (.node (.node .leaf (some (.int .i64 t)) .leaf) (some (.str S)) .leaf) 2 27 0 0 1 0 false .leaf)) .leaf), 1, G⟩))) := by kernel_rfl

theorem tx00 (G : T (T AV)) (R : AV → Prop) (_K : AM → Prop) : Obl P 7 (fun v _ => R v) 0 _K [.run 37, .done] ((startM P 7 [.nils 0 0, .nils 0 0] G)) = ((R (.bool true))) := by kernel_rfl

theorem tx0 (G : T (T AV)) (k o st : Nat) (g : Nat → List UInt8) (R : AV → AHeap → Prop) (_K : AM → Prop) : Obl P 7 (fun v h => R v h) 1 _K [.run 37, .done] ((startH P 7 [.nils 0 0, .slg 0 0 o 0 st] (H1 G k g))) = ((R (.bool true) (⟨(.node .leaf (some (.cells (.fn fun j => some (AV.str (g j))) k 9 0 0 1 0 false .leaf)) .leaf), 1, G⟩))) := by kernel_rfl

theorem tx1 (G : T (T AV)) (k o l st : Nat) (f g : Nat → List UInt8) (R : AV → AHeap → Prop) (K : AM → Prop) : Obl P 7 (fun v h => R v h) 2 K [.run 13, .know 10 false, .run 9, .can 2 [0, 1] [0, 1, 5] []] ((startH P 7 [.slg 0 0 0 l 0, .slg 1 0 o l st] (HT l f k g G))) = ((((↑l : Int) != (↑l : Int)) = false) ∧ (PlainFn fun j => some (AV.str (f j))) ∧ (PlainFn fun j => some (AV.str (g j))) ∧ K (MT G k o l st f g (Int.ofNat (0)))) := by kernel_rfl

theorem txLyy (G : T (T AV)) (k o l st : Nat) (f g : Nat → List UInt8) (i : Int) (R : AV → AHeap → Prop) (_K : AM → Prop) : Obl P 7 (fun v h => R v h) 2 _K [.run 8, .know 14 true, .run 8, .op, .op, .run 2, .op, .op, .run 2, .know 25 true, .run 6, .done] ((MT G k o l st f g i)) = ((decide (i < (↑l : Int)) = true) ∧ ((0 : Int) ≤ i ∧ i < (↑l : Int)) ∧ (0 + i.toNat * 1 + (1 : Nat) ≤ l) ∧ ((0 : Int) ≤ i ∧ i < (↑l : Int)) ∧ (o + i.toNat * 1 + (1 : Nat) ≤ k) ∧ ((!f (0 + i.toNat * 1) == g (o + i.toNat * 1)) = true) ∧ (R (.bool false) (⟨(.node (.node .leaf (some (.cells (.fn fun j => some (AV.str (g j))) k 9 0 0 1 0 false .leaf)) .leaf) (some (.cells (.fn fun j => some (AV.str (f j))) l 9 0 0 1 0 false .leaf)) .leaf), 2, G⟩))) := by kernel_rfl

theorem txLyn (G : T (T AV)) (k o l st : Nat) (f g : Nat → List UInt8) (i : Int) (R : AV → AHeap → Prop) (K : AM → Prop) : Obl P 7 (fun v h => R v h) 2 K [.run 8, .know 14 true, .run 8, .op, .op, .run 2, .op, .op, .run 2, .know 25 false, .run 9, .can 2 [0, 1] [0, 1, 5] []] ((MT G k o l st f g i)) = ((decide (i < (↑l : Int)) = true) ∧ ((0 : Int) ≤ i ∧ i < (↑l : Int)) ∧ (0 + i.toNat * 1 + (1 : Nat) ≤ l) ∧ ((0 : Int) ≤ i ∧ i < (↑l : Int)) ∧ (o + i.toNat * 1 + (1 : Nat) ≤ k) ∧ ((!f (0 + i.toNat * 1) == g (o + i.toNat * 1)) = false) ∧ (PlainFn fun j => some (AV.str (f j))) ∧ (PlainFn fun j => some (AV.str (g j))) ∧ K (MT G k o l st f g (IntKind.i64.wrap (i + (1 : Int))))) := by kernel_rfl

theorem txLn (G : T (T AV)) (k o l st : Nat) (f g : Nat → List UInt8) (i : Int) (R : AV → AHeap → Prop) (_K : AM → Prop) : Obl P 7 (fun v h => R v h) 2 _K [.run 8, .know 14 false, .run 7, .done] ((MT G k o l st f g i)) = ((decide (i < (↑l : Int)) = false) ∧ (R (.bool true) (⟨(.node (.node .leaf (some (.cells (.fn fun j => some (AV.str (g j))) k 9 0 0 1 0 false .leaf)) .leaf) (some (.cells (.fn fun j => some (AV.str (f j))) l 9 0 0 1 0 false .leaf)) .leaf), 2, G⟩))) := by kernel_rfl


theorem fs_mono (L s : List UInt8) : (cut L).fs.length ≤ (cut (L ++ s)).fs.length := by
  rw [cut_append]
  split
  · exact Nat.le_refl _
  · show (cut L).fs.length ≤ ((cut L).fs ++ (cut ((cut L).left ++ s)).fs).length
    rw [List.length_append]; omega

theorem lv_nil {i : Nat} {l : List (List UInt8)} (h : l = []) : lv i l = .nils 0 0 := by rw [h]; rfl
theorem lv_cons {i : Nat} {l : List (List UInt8)} (h : l ≠ []) : lv i l = .slg i 0 0 l.length 0 := by
  cases l with
  | nil => exact absurd rfl h
  | cons x r => rfl
theorem lh_nil {G : T (T AV)} {l : List (List UInt8)} (h : l = []) : lh G l = ⟨.leaf, 0, G⟩ := by rw [h]; rfl
theorem lh_cons {G : T (T AV)} {l : List (List UInt8)} (h : l ≠ []) : lh G l = H1 G l.length (rowF l) := by
  cases l with
  | nil => exact absurd rfl h
  | cons x r => rfl

theorem Goal.eqR {keep : Nat} {f : FuncId} {Q R : AV → AHeap → Prop} {m : AM} (g : Goal P keep f Q m) (h : Q = R) : Goal P keep f R m := h ▸ g

theorem all_nil (G : T (T AV)) (s : List UInt8) (hs : s.length < 2 ^ 39) (h : (cut s).fs = []) : Goal P 0 16 (fun x k => x = .tup [.nils 0 0, .bool (cut s).bad] ∧ k = ⟨.leaf, 0, G⟩) (startM P 16 [.str s] G) := by
  have := all_ok G s hs
  unfold AllR at this
  rwa [lv_nil h, lh_nil h] at this

theorem all_cons (G : T (T AV)) (s : List UInt8) (hs : s.length < 2 ^ 39) (h : (cut s).fs ≠ []) : Goal P 0 16 (fun x k => x = .tup [.slg 0 0 0 (cut s).fs.length 0, .bool (cut s).bad] ∧ k = H1 G (cut s).fs.length (rowF (cut s).fs)) (startM P 16 [.str s] G) := by
  have := all_ok G s hs
  unfold AllR at this
  rwa [lv_cons h, lh_cons h] at this

/-- The document's Feed. -/
theorem ref_nil (S s : List UInt8) (hs : (S ++ s).length < 2 ^ 39) (h : (cut (S ++ s)).fs = []) : Goal P 1 9 (fun x k => x = .nils 0 0 ∧ k = HS .leaf (S ++ s) 0) (startH P 9 [.ptr 0 0 0, .str s] (HS .leaf S 0)) :=
  Obl.goal (K := fun _ => False) mix (fun _ h => h.elim) (cast (ref0 .leaf S s _ _ _).symm ⟨by rw [List.length_append] at hs; omega, all_nil _ _ hs h, rfl, rfl⟩)

theorem ref_cons (S s : List UInt8) (t : Nat) (hs : (S ++ s).length < 2 ^ 39) (h : (cut (S ++ s)).fs ≠ []) (ht : t ≤ (cut (S ++ s)).fs.length) :
    Goal P 1 9 (fun x k => x = .slg 1 0 t ((cut (S ++ s)).fs.length - t) t ∧ k = HS1 .leaf (S ++ s) ((cut (S ++ s)).fs.length : Nat) (cut (S ++ s)).fs.length (rowF (cut (S ++ s)).fs)) (startH P 9 [.ptr 0 0 0, .str s] (HS .leaf S (t : Nat))) :=
  Obl.goal (K := fun _ => False) mix (fun _ h => h.elim) (cast (ref1 .leaf S s (t : Nat) _ (cut (S ++ s)).fs.length (rowF (cut (S ++ s)).fs) _ _).symm ⟨by rw [List.length_append] at hs; omega, plain_str _, all_cons _ _ hs h, by omega, by
    rw [Int.toNat_natCast, Nat.zero_add, Nat.zero_add, Nat.mul_one]; exact ⟨rfl, rfl⟩⟩)

theorem brk_ok (S : List UInt8) (t : Int) (b : Bool) (hs : S.length < 2 ^ 39) (hb : (cut S).bad = b) : Goal P 1 11 (fun x k => x = .bool b ∧ k = HS .leaf S t) (startH P 11 [.ptr 0 0 0] (HS .leaf S t)) := by
  subst hb
  by_cases h : (cut S).fs = []
  · exact Obl.goal (K := fun _ => False) mix (fun _ h => h.elim) (cast (brk0 .leaf S t _ _ _).symm ⟨all_nil _ _ hs h, rfl, rfl⟩)
  · exact Obl.goal (K := fun _ => False) mix (fun _ h => h.elim) (cast (brk1 .leaf S t _ _ _ _ _).symm ⟨plain_str _, all_cons _ _ hs h, rfl, rfl⟩)

theorem tx_nil : Goal P 0 7 (fun x _ => x = .bool true) (startM P 7 [.nils 0 0, .nils 0 0] .leaf) :=
  Obl.goal (K := fun _ => False) mix (fun _ h => h.elim) (cast (tx00 .leaf _ _).symm rfl)
theorem tx_none (k o st : Nat) (g : Nat → List UInt8) : Goal P 1 7 (fun x h => x = .bool true ∧ h = H1 .leaf k g) (startH P 7 [.nils 0 0, .slg 0 0 o 0 st] (H1 .leaf k g)) :=
  Obl.goal (K := fun _ => False) mix (fun _ h => h.elim) (cast (tx0 .leaf k o st g _ _).symm ⟨rfl, rfl⟩)

theorem tx_ok (k o l st : Nat) (f g : Nat → List UInt8) (hk : o + l ≤ k) (hl : l < 2 ^ 40) (hfg : ∀ j, j < l → f j = g (o + j)) : Goal P 2 7 (fun x h => x = .bool true ∧ h = HT l f k g .leaf) (startH P 7 [.slg 0 0 0 l 0, .slg 1 0 o l st] (HT l f k g .leaf)) := by
  have main : ∀ d i : Nat, i + d = l → Goal P 2 7 (fun x h => x = .bool true ∧ h = HT l f k g .leaf) (MT .leaf k o l st f g (i : Nat)) := by
    intro d
    induction d with
    | zero =>
      intro i hi
      exact Obl.goal (K := fun _ => False) mix (fun _ h => h.elim) (cast (txLn .leaf k o l st f g (i : Nat) _ _).symm ⟨decide_eq_false (by omega), rfl, rfl⟩)
    | succ d ih =>
      intro i hi
      have e : IntKind.i64.wrap (((i : Nat) : Int) + 1) = ((i + 1 : Nat) : Int) := by rw [wi]; omega
      have t0 : ((i : Nat) : Int).toNat = i := Int.toNat_natCast _
      refine Obl.goal (K := Goal P 2 7 _) mix (fun _ h => h) (cast (txLyn .leaf k o l st f g (i : Nat) _ _).symm ⟨decide_eq_true (by omega), by omega, by omega, by omega, by omega, ?_, plain_str _, plain_str _, ?_⟩)
      · rw [t0, Nat.zero_add, Nat.mul_one, hfg i (by omega)]
        simp
      · rw [e]; exact ih (i + 1) (by omega)
  exact Obl.goal (K := Goal P 2 7 _) mix (fun _ h => h) (cast (tx1 .leaf k o l st f g _ _).symm ⟨by simp, plain_str _, plain_str _, main l 0 (by omega)⟩)

theorem works_ok : Goal P 0 12 (fun x _ => x = .bool true) (startM P 12 [] .leaf) := Goal.ofRun mix (n := 1400) (v := .bool true) (by kernel_rfl) fun _ => rfl

end Go.Proofs.Ytfgaadhnplccpaa.frm
