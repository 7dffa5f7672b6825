/- FrameParts: its loop. -/
import Derived.Test.YtfgaadhnplccpaaFrK
set_option maxRecDepth 100000
namespace Go.Proofs.Ytfgaadhnplccpaa.frm
open Go Ev

noncomputable def PNf (s : List UInt8) (i : Int) (bad : Bool) : List (List UInt8) → AM
  | [] => PN0 s i bad
  | x :: r => PN1 s i (x :: r).length (rowF (x :: r)) bad
noncomputable def PGf (s : List UInt8) (i : Int) (b : Nat → Int) (n : Nat) : List (List UInt8) → AM
  | [] => PG0 s i b n
  | x :: r => PG1 s i (x :: r).length (rowF (x :: r)) b n
noncomputable def PCf (s : List UInt8) (i : Int) (b : Nat → Int) (o n m : Nat) : List (List UInt8) → AM
  | [] => PC0 s i b o n m
  | x :: r => PC1 s i (x :: r).length (rowF (x :: r)) b o n m
noncomputable def YPf (s : List UInt8) (i : Int) (p : Nat) (b : Nat → Int) (m : Nat) : List (List UInt8) → AM
  | [] => YP0 s i (.slg 3 0 0 (p + 1) 0) b m
  | x :: r => YP1 s i (x :: r).length (rowF (x :: r)) (.slg 4 0 0 (p + 1) 0) b m
noncomputable def EPf (s : List UInt8) (bad : Bool) : List (List UInt8) → AM
  | [] => EP0 s bad
  | x :: r => EP1 s bad (x :: r).length (rowF (x :: r))

theorem PNf_cons {s : List UInt8} {i : Int} {bad : Bool} {l : List (List UInt8)} (h : l ≠ []) : PNf s i bad l = PN1 s i l.length (rowF l) bad := by
  cases l with
  | nil => exact absurd rfl h
  | cons x r => rfl
theorem PGf_cons {s : List UInt8} {i : Int} {b : Nat → Int} {n : Nat} {l : List (List UInt8)} (h : l ≠ []) : PGf s i b n l = PG1 s i l.length (rowF l) b n := by
  cases l with
  | nil => exact absurd rfl h
  | cons x r => rfl
theorem PCf_cons {s : List UInt8} {i : Int} {b : Nat → Int} {o n m : Nat} {l : List (List UInt8)} (h : l ≠ []) : PCf s i b o n m l = PC1 s i l.length (rowF l) b o n m := by
  cases l with
  | nil => exact absurd rfl h
  | cons x r => rfl

/-- What stands at the loop's head: T was fed, its bodies were got. -/
inductive PHead (s : List UInt8) (i : Nat) (T : List UInt8) : AM → Prop where
  | bad : (cut T).bad = true → PHead s i T (PNf s (i : Nat) true (cut T).fs)
  | none : (cut T).bad = false → (cut T).left = [] → PHead s i T (PNf s (i : Nat) false (cut T).fs)
  | grown (b : Nat → Int) (n : Nat) : (cut T).bad = false → (cut T).left.length = n + 1 → Holds b 0 (cut T).left → PHead s i T (PGf s (i : Nat) b n (cut T).fs)
  | rest (b : Nat → Int) (o n m : Nat) : (cut T).bad = false → (cut T).left.length = n → o + n ≤ m → Holds b o (cut T).left → PHead s i T (PCf s (i : Nat) b o n m (cut T).fs)

theorem PHead.ofLV {s : List UInt8} {i m : Nat} {b : Nat → Int} {T : List UInt8} {w : AV} (hw : LV b m (cut T).left (cut T).bad w) :
    (w = .nils 0 0 ∧ (cut T).bad = true ∧ PHead s i T (PNf s (i : Nat) true (cut T).fs)) ∨
    (∃ n, w = .slg 2 0 0 (n + 1) 0 ∧ m = n + 1 ∧ (cut T).bad = false ∧ PHead s i T (PGf s (i : Nat) b n (cut T).fs)) ∨
    (∃ o n, w = .slc 2 0 o n n ∧ (cut T).bad = false ∧ PHead s i T (PCf s (i : Nat) b o n m (cut T).fs)) := by
  generalize hb : (cut T).bad = bd at hw
  cases hw with
  | bad h => exact .inl ⟨rfl, rfl, .bad hb⟩
  | grown n h1 h2 h3 => exact .inr (.inl ⟨n, rfl, h2, rfl, .grown b n hb h1 h3⟩)
  | rest o n h1 h2 h3 => exact .inr (.inr ⟨o, n, rfl, rfl, .rest b o n m hb h1 h2 h3⟩)

theorem fresh_ok (h : Nat → List UInt8) {l : Nat} (hp : 0 < l) (hl : l < 2 ^ 40) : ((0 + l * 1 ≤ l ∧ ∀ (k : Nat), k < l * 1 → ∃ v, (T.fn fun j => some (AV.str (h j))).get (0 + k) = some v ∧ v.one = true) ∧ (0 : Nat) < l ∧ roomA l (16) = true) :=
  ⟨⟨by omega, fun _ _ => ⟨_, rfl, rfl⟩⟩, hp, room_ok hl⟩
theorem fresh_tells (h : Nat → List UInt8) (l : Nat) : Tells (l) ((.fn fun j => some (AV.str (h j)))) ((.fn fun k => (T.fn fun j => some (AV.str (h j))).get (0 + k))) := fun k v _ e => by
  show some (AV.str (h (0 + k))) = _
  rw [Nat.zero_add]; exact e
theorem growR_ok (h : Nat → List UInt8) {k l : Nat} (hp : 0 < l) (hl : k + l < 2 ^ 40) : ((0 + l * 1 ≤ l ∧ ∀ (k : Nat), k < l * 1 → ∃ v, (T.fn fun j => some (AV.str (h j))).get (0 + k) = some v ∧ v.one = true) ∧ (0 : Nat) < l ∧ 0 + k * 1 ≤ k ∧ 0 ≤ 0 + k * 1 ∧ 0 = 0 * 1 ∧ roomA (k + l) (16) = true ∧ k < 0 + (k + l) * 1) :=
  ⟨⟨by omega, fun _ _ => ⟨_, rfl, rfl⟩⟩, hp, by omega, by omega, rfl, room_ok hl, by omega⟩
theorem growR_tells (l c : List (List UInt8)) : Tells (l.length + c.length) ((.fn fun j => some (AV.str (rowF (l ++ c) j)))) ((.fn fun i => bif (0 + l.length * 1).ble i && i.blt (0 + l.length * 1 + c.length * 1) then (fun k => (T.fn fun j => some (AV.str (rowF c j))).get (0 + k)) (i - (0 + l.length * 1)) else (T.fn fun j => some (AV.str (rowF l j))).get i)) := fun j v hj e => by
  show (bif _ then _ else _) = _
  cases hb : ((0 + l.length * 1).ble j && j.blt (0 + l.length * 1 + c.length * 1)) with
  | true =>
    rw [Bool.and_eq_true] at hb
    have e1 := Nat.le_of_ble_eq_true hb.1
    show some (AV.str (rowF c (0 + (j - (0 + l.length * 1))))) = _
    rw [rowF_right l c, show l.length + (0 + (j - (0 + l.length * 1))) = j by omega]
    exact e
  | false =>
    have hlt : j < l.length := by
      rcases Nat.lt_or_ge j l.length with h | h
      · exact h
      · have e1 : (0 + l.length * 1).ble j = true := Nat.ble_eq_true_of_le (by omega)
        have e2 : j.blt (0 + l.length * 1 + c.length * 1) = true := Nat.ble_eq_true_of_le (by omega)
        rw [e1, e2] at hb; cases hb
    show some (AV.str (rowF l j)) = _
    rw [← e]
    show _ = some (AV.str (rowF (l ++ c) j))
    unfold rowF
    rw [List.getD_eq_getElem?_getD, List.getD_eq_getElem?_getD, List.getElem?_append_left hlt]

theorem next_j (i : Nat) (h : i < 2 ^ 40) : IntKind.i64.wrap (((i : Nat) : Int) + 1) = ((i + 1 : Nat) : Int) := by rw [wi]; omega

theorem qDone {s T u : List UInt8} {i p m : Nat} {b : Nat → Int} (hT : (cut T).bad = false) (hs : (T ++ u).length < 2 ^ 39) (hi : i < 2 ^ 40)
    (hL : LoopOk .leaf b m [] (cut ((cut T).left ++ u)) (MF0 (.slg 2 0 0 (p + 1) 0) b m .leaf))
    (hn : ∀ M, PHead s (i + 1) (T ++ u) M → Goal P 0 5 Q M) : Goal P 0 5 Q (YPf s (i : Nat) p b m (cut T).fs) := by
  obtain ⟨w, hw, hg⟩ := hL
  have e := cut_more_fed (s := u) hT
  have eI := next_j i hi
  have eb : (cut (T ++ u)).bad = (cut ((cut T).left ++ u)).bad := by rw [e]
  have el : (cut (T ++ u)).left = (cut ((cut T).left ++ u)).left := by rw [e]
  have ef : (cut (T ++ u)).fs = (cut T).fs ++ (cut ((cut T).left ++ u)).fs := by rw [e]
  rw [← eb, ← el] at hw
  rw [← eb] at hg
  have hfl := fs_le (T ++ u)
  rw [ef, List.length_append] at hfl
  generalize (cut ((cut T).left ++ u)).fs = c at ef hg hfl
  by_cases h0 : c = []
  · subst h0
    rw [List.append_nil] at ef
    rcases PHead.ofLV (s := s) (i := i + 1) hw with ⟨rfl, hb, hd⟩ | ⟨n, rfl, rfl, hb, hd⟩ | ⟨o, n, rfl, hb, hd⟩
    · rw [hb] at hg
      rw [ef] at hd
      cases hl : (cut T).fs with
      | nil =>
        rw [hl] at hd
        refine Obl.goal (K := Goal P 0 5 Q) mix (fun _ h => h) (cast (qNB0 s [] (i : Nat) b b 0 0 m 0 0 0 0 p (rowF []) (rowF []) (rowF []) true _).symm ⟨plain_int b, plain_int b, hg, ?_⟩)
        rw [eI]; exact hn _ hd
      | cons x r =>
        rw [hl] at hd
        refine Obl.goal (K := Goal P 0 5 Q) mix (fun _ h => h) (cast (qNB1 s [] (i : Nat) b b 0 0 m 0 (x :: r).length 0 0 p (rowF (x :: r)) (rowF []) (rowF []) true _).symm ⟨plain_int b, plain_int b, hg, plain_str _, ?_⟩)
        rw [eI]; exact hn _ hd
    · rw [hb] at hg
      rw [ef] at hd
      cases hl : (cut T).fs with
      | nil =>
        rw [hl] at hd
        refine Obl.goal (K := Goal P 0 5 Q) mix (fun _ h => h) (cast (qNG0 s [] (i : Nat) b b 0 n 0 0 0 0 0 p (rowF []) (rowF []) (rowF []) true _).symm ⟨plain_int b, plain_int b, hg, plain_int b, ?_⟩)
        rw [eI]; exact hn _ hd
      | cons x r =>
        rw [hl] at hd
        refine Obl.goal (K := Goal P 0 5 Q) mix (fun _ h => h) (cast (qNG1 s [] (i : Nat) b b 0 n 0 0 (x :: r).length 0 0 p (rowF (x :: r)) (rowF []) (rowF []) true _).symm ⟨plain_int b, plain_int b, hg, plain_str _, plain_int b, ?_⟩)
        rw [eI]; exact hn _ hd
    · rw [hb] at hg
      rw [ef] at hd
      cases hl : (cut T).fs with
      | nil =>
        rw [hl] at hd
        refine Obl.goal (K := Goal P 0 5 Q) mix (fun _ h => h) (cast (qNR0 s [] (i : Nat) b b o n m 0 0 0 0 p (rowF []) (rowF []) (rowF []) true _).symm ⟨plain_int b, plain_int b, hg, plain_int b, ?_⟩)
        rw [eI]; exact hn _ hd
      | cons x r =>
        rw [hl] at hd
        refine Obl.goal (K := Goal P 0 5 Q) mix (fun _ h => h) (cast (qNR1 s [] (i : Nat) b b o n m 0 (x :: r).length 0 0 p (rowF (x :: r)) (rowF []) (rowF []) true _).symm ⟨plain_int b, plain_int b, hg, plain_str _, plain_int b, ?_⟩)
        rw [eI]; exact hn _ hd
  · have hp : 0 < c.length := List.length_pos_iff.2 h0
    have hne : (cut (T ++ u)).fs ≠ [] := by rw [ef]; simp [h0]
    have hg' : Goal P 3 8 (fun v h => v = .slg 3 0 0 c.length 0 ∧ h = HK1 w (cut (T ++ u)).bad b m c.length (rowF c) .leaf) (MF0 (.slg 2 0 0 (p + 1) 0) b m .leaf) := by
      cases c with
      | nil => exact absurd rfl h0
      | cons x r => exact hg
    rcases PHead.ofLV (s := s) (i := i + 1) hw with ⟨rfl, hb, hd⟩ | ⟨n, rfl, rfl, hb, hd⟩ | ⟨o, n, rfl, hb, hd⟩
    · rw [hb] at hg'
      rw [PNf_cons hne, ef, List.length_append] at hd
      cases hl : (cut T).fs with
      | nil =>
        rw [hl, List.nil_append, List.length_nil, Nat.zero_add] at hd
        refine Obl.goal (K := Goal P 0 5 Q) mix (fun _ h => h) (cast (qCB0 s [] (i : Nat) b b 0 0 m 0 0 c.length 0 p (rowF []) (rowF c) (rowF c) true _).symm ⟨plain_int b, plain_int b, plain_str _, hg', fresh_ok _ hp (by omega), fresh_tells _ _, by omega, plain_str _, ?_⟩)
        rw [eI]; exact hn _ hd
      | cons x r =>
        rw [hl] at hd hfl
        refine Obl.goal (K := Goal P 0 5 Q) mix (fun _ h => h) (cast (qCB1 s [] (i : Nat) b b 0 0 m 0 (x :: r).length c.length 0 p (rowF (x :: r)) (rowF c) (rowF (x :: r ++ c)) true _).symm ⟨plain_int b, plain_int b, plain_str _, hg', growR_ok _ hp (by omega), growR_tells _ _, by omega, plain_str _, ?_⟩)
        rw [eI]; exact hn _ hd
    · rw [hb] at hg'
      rw [PGf_cons hne, ef, List.length_append] at hd
      cases hl : (cut T).fs with
      | nil =>
        rw [hl, List.nil_append, List.length_nil, Nat.zero_add] at hd
        refine Obl.goal (K := Goal P 0 5 Q) mix (fun _ h => h) (cast (qCG0 s [] (i : Nat) b b 0 n 0 0 0 c.length 0 p (rowF []) (rowF c) (rowF c) true _).symm ⟨plain_int b, plain_int b, plain_str _, hg', fresh_ok _ hp (by omega), fresh_tells _ _, by omega, plain_str _, plain_int b, ?_⟩)
        rw [eI]; exact hn _ hd
      | cons x r =>
        rw [hl] at hd hfl
        refine Obl.goal (K := Goal P 0 5 Q) mix (fun _ h => h) (cast (qCG1 s [] (i : Nat) b b 0 n 0 0 (x :: r).length c.length 0 p (rowF (x :: r)) (rowF c) (rowF (x :: r ++ c)) true _).symm ⟨plain_int b, plain_int b, plain_str _, hg', growR_ok _ hp (by omega), growR_tells _ _, by omega, plain_str _, plain_int b, ?_⟩)
        rw [eI]; exact hn _ hd
    · rw [hb] at hg'
      rw [PCf_cons hne, ef, List.length_append] at hd
      cases hl : (cut T).fs with
      | nil =>
        rw [hl, List.nil_append, List.length_nil, Nat.zero_add] at hd
        refine Obl.goal (K := Goal P 0 5 Q) mix (fun _ h => h) (cast (qCR0 s [] (i : Nat) b b o n m 0 0 c.length 0 p (rowF []) (rowF c) (rowF c) true _).symm ⟨plain_int b, plain_int b, plain_str _, hg', fresh_ok _ hp (by omega), fresh_tells _ _, by omega, plain_str _, plain_int b, ?_⟩)
        rw [eI]; exact hn _ hd
      | cons x r =>
        rw [hl] at hd hfl
        refine Obl.goal (K := Goal P 0 5 Q) mix (fun _ h => h) (cast (qCR1 s [] (i : Nat) b b o n m 0 (x :: r).length c.length 0 p (rowF (x :: r)) (rowF c) (rowF (x :: r ++ c)) true _).symm ⟨plain_int b, plain_int b, plain_str _, hg', growR_ok _ hp (by omega), growR_tells _ _, by omega, plain_str _, plain_int b, ?_⟩)
        rw [eI]; exact hn _ hd

end Go.Proofs.Ytfgaadhnplccpaa.frm
