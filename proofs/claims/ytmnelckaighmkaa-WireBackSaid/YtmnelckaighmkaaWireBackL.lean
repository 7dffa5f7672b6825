/- Two rows of things, one behind the other, are the row of all: the loops of the statement WireBack. -/
import Derived.Test.YtmnelckaighmkaaWireBackS
set_option maxRecDepth 100000
namespace Go.Proofs.Ytmnelckaighmkaa.wireBack
open Go Ev wireR

/-- Rows of numbers, and of texts. -/
def rowsL (l : List Int) : List UInt8 := l.flatMap row
def textsL (t : List (List UInt8)) : List UInt8 := t.flatMap fun x => row (IntKind.u64.wrap x.length) ++ x

theorem rowsL_succ (f : Nat → Int) (i : Nat) : rowsL ((List.range (i + 1)).map f) = rowsL ((List.range i).map f) ++ row (f i) := by
  simp [rowsL, List.range_succ]
theorem textsL_succ (f : Nat → List UInt8) (i : Nat) : textsL ((List.range (i + 1)).map f) = textsL ((List.range i).map f) ++ row (IntKind.u64.wrap (f i).length) ++ f i := by
  simp [textsL, List.range_succ]
theorem rowsL_length (l : List Int) : (rowsL l).length ≤ 9 * l.length := by
  induction l with
  | nil => simp [rowsL]
  | cons a r ih =>
    have := row_length a
    simp [rowsL] at ih ⊢
    omega
theorem textsL_length (t : List (List UInt8)) (h : ∀ x ∈ t, x.length ≤ 3000) : (textsL t).length ≤ 3009 * t.length := by
  induction t with
  | nil => simp [textsL]
  | cons a r ih =>
    have h1 := row_length (IntKind.u64.wrap a.length)
    have h2 := h a (by simp)
    have h3 := ih fun x hx => h x (by simp [hx])
    simp [textsL] at h3 ⊢
    omega
theorem drop_cons {α : Type} (f : Nat → α) {len i : Nat} (h : i < len) : ((List.range len).map f).drop i = f i :: ((List.range len).map f).drop (i + 1) := by
  rw [List.drop_eq_getElem_cons (by simpa using h)]
  simp

theorem lim_take (l : List UInt8) : List.take ((if decide ((3000 : Int) < (l.length : Int)) = true then (3000 : Int) else (l.length : Int)).toNat - 0) (List.drop 0 l) = List.take 3000 l := by
  by_cases h : (3000 : Int) < l.length
  · rw [if_pos (decide_eq_true h)]; rfl
  · rw [if_neg (by simpa using h), Int.toNat_natCast, Nat.sub_zero, List.drop_zero, List.take_of_length_le (Nat.le_refl _), List.take_of_length_le (by omega)]
theorem lim_ge (k : Int) (hk : 0 ≤ k) (n : Nat) : (0 : Int) ≤ if decide (k < (n : Int)) = true then k else (n : Int) := by
  split <;> omega
theorem lim_le (k : Int) (n c : Nat) (h : n ≤ c) : (if decide (k < (n : Int)) = true then k else (n : Int)) ≤ (c : Int) := by
  by_cases hk : k < (n : Int)
  · rw [if_pos (decide_eq_true hk)]; omega
  · rw [if_neg (by simpa using hk)]; omega

/-- Numbers that came in, and texts. -/
def Nums (id : Nat) (A : AV) (X : Option AObj) (l : List Int) : Prop :=
  ((A = .nils 0 0 ∨ A = .sle) ∧ l = []) ∨ ∃ (off len cap : Nat) (z : Nat → Int), len ≤ 40 ∧ len ≤ cap ∧ A = .slc id 0 off len cap ∧ X = some (.ro (.fn fun j => some (.int .u64 (z j))) off (off + cap)) ∧
    l = (List.range len).map (fun j => z (off + j)) ∧ ∀ j, j < len → 0 ≤ z (off + j) ∧ z (off + j) ≤ 18446744073709551615
def Texts (A : AV) (X : Option AObj) (t : List (List UInt8)) : Prop :=
  ((A = .nils 0 0 ∨ A = .sle) ∧ t = []) ∨ ∃ (off len cap : Nat) (y : Nat → List UInt8), len ≤ 15 ∧ len ≤ cap ∧ A = .slc 2 0 off len cap ∧ X = some (.ro (.fn fun j => some (.str (y j))) off (off + cap)) ∧
    t = (List.range len).map (fun j => (y (off + j)).take 3000)

/-- A reader whose bytes ahead are these. -/
structure At (p : List UInt8) (roff rlen rcap : Nat) (l : List UInt8) : Prop where
  le : rlen ≤ p.length
  off : 0 < rlen → roff + rlen = p.length
  cap : rlen ≤ rcap
  eq : wireR.ahead p rlen = l

theorem ahead_sub {p : List UInt8} {len k : Nat} (h : len ≤ p.length) (hk : k ≤ len) : wireR.ahead p (len - k) = (wireR.ahead p len).drop k := by
  unfold wireR.ahead
  rw [List.drop_drop]
  congr 1
  omega

theorem idx (off k : Nat) : off + ((k : Int)).toNat * 1 = off + k := by omega
theorem wrap1 (k : Nat) (h : k < 1000) : IntKind.i64.wrap ((k : Int) + 1) = ((k + 1 : Nat) : Int) := IntWalk.i64_in _ (by omega)

section
variable {A0 A1 A2 : AV} {X0 X1 X2 : Option AObj}

theorem loop1 {l : List Int} (h : Nums 0 A0 X0 l) (g : Goal P 0 5 Q (M2 A0 A1 A2 X0 X1 X2 (rowsL l) [] (rowsL l) 0)) : Goal P 0 5 Q (M1 A0 A1 A2 X0 X1 X2 [] [] [] 0) := by
  rcases h with ⟨rfl | rfl, rfl⟩ | ⟨off, len, cap, z, h1, h2, rfl, rfl, rfl, hz⟩
  · exact Obl.goal (K := Goal P 0 5 Q) mix (fun _ h => h) (cast (oneNil A1 A2 X0 X1 X2 [] [] [] _).symm g)
  · exact Obl.goal (K := Goal P 0 5 Q) mix (fun _ h => h) (cast (oneSle A1 A2 X0 X1 X2 [] [] [] _).symm g)
  · suffices hs : ∀ (d i : Nat), i ≤ len → len - i ≤ d → Goal P 0 5 Q (M1 (.slc 0 0 off len cap) A1 A2 (some (.ro (.fn fun j => some (.int .u64 (z j))) off (off + cap))) X1 X2 (rowsL ((List.range i).map fun j => z (off + j))) [] (rowsL ((List.range i).map fun j => z (off + j))) i) from hs len 0 (Nat.zero_le _) (by omega)
    intro d
    induction d with
    | zero =>
      intro i hi hd
      obtain rfl : i = len := by omega
      exact Obl.goal (K := Goal P 0 5 Q) mix (fun _ h => h) (cast (oneN A1 A2 _ X1 X2 _ [] _ off i cap i _).symm ⟨decide_eq_false (by omega), g⟩)
    | succ d ih =>
      intro i hi hd
      by_cases hlt : i < len
      rotate_left
      · obtain rfl : i = len := by omega
        exact Obl.goal (K := Goal P 0 5 Q) mix (fun _ h => h) (cast (oneN A1 A2 _ X1 X2 _ [] _ off i cap i _).symm ⟨decide_eq_false (by omega), g⟩)
      have hl := rowsL_length ((List.range i).map fun j => z (off + j))
      rw [List.length_map, List.length_range] at hl
      obtain ⟨z0, z1⟩ := hz i hlt
      have hn := ih (i + 1) hlt (by omega)
      rw [rowsL_succ] at hn
      refine Obl.goal (K := Goal P 0 5 Q) mix (fun _ h => h) (cast (oneY A1 A2 X1 X2 (rowsL ((List.range i).map fun j => z (off + j))) [] (rowsL ((List.range i).map fun j => z (off + j))) off len cap z i _).symm ?_)
      simp only [idx, wrap1 i (by omega)]
      and_intros
      all_goals first | exact hn | exact puts _ _ z0 z1 (by omega) | exact decide_eq_true (by omega) | omega | trivial

theorem loop2 {t : List (List UInt8)} (h : Texts A2 X2 t) (R : List UInt8) (hR : R.length ≤ 360) (g : Goal P 0 5 Q (M3 A0 A1 A2 X0 X1 X2 R (textsL t) (R ++ textsL t) 0)) : Goal P 0 5 Q (M2 A0 A1 A2 X0 X1 X2 R [] R 0) := by
  rcases h with ⟨rfl | rfl, rfl⟩ | ⟨off, len, cap, y, h1, h2, rfl, rfl, rfl⟩
  · rw [show R ++ textsL [] = R from List.append_nil R] at g
    exact Obl.goal (K := Goal P 0 5 Q) mix (fun _ h => h) (cast (twoNil A0 A1 X0 X1 X2 R [] R _).symm g)
  · rw [show R ++ textsL [] = R from List.append_nil R] at g
    exact Obl.goal (K := Goal P 0 5 Q) mix (fun _ h => h) (cast (twoSle A0 A1 X0 X1 X2 R [] R _).symm g)
  · suffices hs : ∀ (d i : Nat), i ≤ len → len - i ≤ d → Goal P 0 5 Q (M2 A0 A1 (.slc 2 0 off len cap) X0 X1 (some (.ro (.fn fun j => some (.str (y j))) off (off + cap))) R (textsL ((List.range i).map fun j => (y (off + j)).take 3000)) (R ++ textsL ((List.range i).map fun j => (y (off + j)).take 3000)) i) by
      have := hs len 0 (Nat.zero_le _) (by omega)
      rw [show R ++ textsL ((List.range 0).map fun j => (y (off + j)).take 3000) = R from List.append_nil R] at this
      exact this
    intro d
    induction d with
    | zero =>
      intro i hi hd
      obtain rfl : i = len := by omega
      exact Obl.goal (K := Goal P 0 5 Q) mix (fun _ h => h) (cast (twoN A0 A1 X0 X1 _ _ _ _ off i cap i _).symm ⟨decide_eq_false (by omega), g⟩)
    | succ d ih =>
      intro i hi hd
      by_cases hlt : i < len
      rotate_left
      · obtain rfl : i = len := by omega
        exact Obl.goal (K := Goal P 0 5 Q) mix (fun _ h => h) (cast (twoN A0 A1 X0 X1 _ _ _ _ off i cap i _).symm ⟨decide_eq_false (by omega), g⟩)
      have hl := textsL_length ((List.range i).map fun j => (y (off + j)).take 3000) (by intro x hx; obtain ⟨j, _, rfl⟩ := List.mem_map.1 hx; exact List.length_take_le _ _)
      rw [List.length_map, List.length_range] at hl
      have ht : (List.take 3000 (y (off + i))).length ≤ 3000 := List.length_take_le _ _
      have hn := ih (i + 1) hlt (by omega)
      rw [textsL_succ] at hn
      simp only [← List.append_assoc] at hn
      refine Obl.goal (K := Goal P 0 5 Q) mix (fun _ h => h) (cast (twoY A0 A1 X0 X1 R (textsL ((List.range i).map fun j => (y (off + j)).take 3000)) (R ++ textsL ((List.range i).map fun j => (y (off + j)).take 3000)) off len cap y i _).symm ?_)
      simp only [idx, wrap1 i (by omega), lim_take]
      and_intros
      all_goals first | exact hn | exact putt _ _ (by first | omega | (simp only [List.length_append]; omega)) | exact lim_ge _ (by decide) _ | exact lim_le _ _ _ (Nat.le_refl _) | exact decide_eq_true (by omega) | omega | trivial

/-- What is laid is read. -/
theorem loop3 {m : List Int} (h : Nums 1 A1 X1 m) (R T : List UInt8) (hR : R.length ≤ 360) (hT : T.length ≤ 45135)
    (g : Goal P 0 5 Q (M4 A0 A1 A2 X0 X1 X2 (.slg 3 0 0 (R ++ (T ++ rowsL m)).length 0) (R ++ (T ++ rowsL m)) 0)) : Goal P 0 5 Q (M3 A0 A1 A2 X0 X1 X2 R T (R ++ T) 0) := by
  rcases h with ⟨rfl | rfl, rfl⟩ | ⟨off, len, cap, z, h1, h2, rfl, rfl, rfl, hz⟩
  · rw [show T ++ rowsL [] = T from List.append_nil T] at g
    exact Obl.goal (K := Goal P 0 5 Q) mix (fun _ h => h) (cast (threeNil A0 A2 X0 X1 X2 R T (R ++ T) _).symm ⟨(by show R.length + T.length < 1099511627776; omega), by simp, (by show R.length + T.length < 1099511627776; omega), plain_yy _, newr_ok 0 _, g⟩)
  · rw [show T ++ rowsL [] = T from List.append_nil T] at g
    exact Obl.goal (K := Goal P 0 5 Q) mix (fun _ h => h) (cast (threeSle A0 A2 X0 X1 X2 R T (R ++ T) _).symm ⟨(by show R.length + T.length < 1099511627776; omega), by simp, (by show R.length + T.length < 1099511627776; omega), plain_yy _, newr_ok 0 _, g⟩)
  · suffices hs : ∀ (d i : Nat), i ≤ len → len - i ≤ d → Goal P 0 5 Q (M3 A0 (.slc 1 0 off len cap) A2 X0 (some (.ro (.fn fun j => some (.int .u64 (z j))) off (off + cap))) X2 R (T ++ rowsL ((List.range i).map fun j => z (off + j))) (R ++ (T ++ rowsL ((List.range i).map fun j => z (off + j)))) i) by
      have := hs len 0 (Nat.zero_le _) (by omega)
      rw [show T ++ rowsL ((List.range 0).map fun j => z (off + j)) = T from List.append_nil T] at this
      exact this
    intro d
    induction d with
    | zero =>
      intro i hi hd
      obtain rfl : i = len := by omega
      have hl := rowsL_length ((List.range i).map fun j => z (off + j))
      rw [List.length_map, List.length_range] at hl
      exact Obl.goal (K := Goal P 0 5 Q) mix (fun _ h => h) (cast (threeN A0 A2 X0 _ X2 R _ _ off i cap i _).symm ⟨decide_eq_false (by omega), (by show R.length + (T ++ rowsL ((List.range i).map fun j => z (off + j))).length < 1099511627776; simp only [List.length_append]; omega), by simp, (by show R.length + (T ++ rowsL ((List.range i).map fun j => z (off + j))).length < 1099511627776; simp only [List.length_append]; omega), plain_yy _, newr_ok 0 _, g⟩)
    | succ d ih =>
      intro i hi hd
      have hl := rowsL_length ((List.range i).map fun j => z (off + j))
      rw [List.length_map, List.length_range] at hl
      by_cases hlt : i < len
      rotate_left
      · obtain rfl : i = len := by omega
        exact Obl.goal (K := Goal P 0 5 Q) mix (fun _ h => h) (cast (threeN A0 A2 X0 _ X2 R _ _ off i cap i _).symm ⟨decide_eq_false (by omega), (by show R.length + (T ++ rowsL ((List.range i).map fun j => z (off + j))).length < 1099511627776; simp only [List.length_append]; omega), by simp, (by show R.length + (T ++ rowsL ((List.range i).map fun j => z (off + j))).length < 1099511627776; simp only [List.length_append]; omega), plain_yy _, newr_ok 0 _, g⟩)
      obtain ⟨z0, z1⟩ := hz i hlt
      have hn := ih (i + 1) hlt (by omega)
      rw [rowsL_succ] at hn
      simp only [← List.append_assoc] at hn
      refine Obl.goal (K := Goal P 0 5 Q) mix (fun _ h => h) (cast (threeY A0 A2 X0 X2 R (T ++ rowsL ((List.range i).map fun j => z (off + j))) (R ++ (T ++ rowsL ((List.range i).map fun j => z (off + j)))) off len cap z i _).symm ?_)
      simp only [idx, wrap1 i (by omega), ← List.append_assoc]
      and_intros
      all_goals first | exact hn | exact puts _ _ z0 z1 (by first | omega | (simp only [List.length_append]; omega)) | exact decide_eq_true (by omega) | omega | trivial

/-- No number: the loop is passed. -/
theorem skip4 (A : AV) (p : List UInt8) (h : Nums 0 A0 X0 []) (g : Goal P 0 5 Q (M5 A1 A2 X0 X1 X2 A p 0)) : Goal P 0 5 Q (M4 A0 A1 A2 X0 X1 X2 A p 0) := by
  rcases h with ⟨rfl | rfl, _⟩ | ⟨off, len, cap, z, h1, h2, rfl, rfl, h3, hz⟩
  · exact Obl.goal (K := Goal P 0 5 Q) mix (fun _ h => h) (cast (fourNil A1 A2 A X0 X1 X2 p _).symm g)
  · exact Obl.goal (K := Goal P 0 5 Q) mix (fun _ h => h) (cast (fourSle A1 A2 A X0 X1 X2 p _).symm g)
  · obtain rfl : len = 0 := by have := congrArg List.length h3; simpa using this.symm
    exact Obl.goal (K := Goal P 0 5 Q) mix (fun _ h => h) (cast (fourN A1 A2 A _ X1 X2 p off 0 cap 0 _).symm ⟨decide_eq_false (by omega), g⟩)
theorem skip5 (A : AV) (p : List UInt8) (h : Texts A2 X2 []) (g : Goal P 0 5 Q (M6 A1 X0 X1 X2 A p 0)) : Goal P 0 5 Q (M5 A1 A2 X0 X1 X2 A p 0) := by
  rcases h with ⟨rfl | rfl, _⟩ | ⟨off, len, cap, y, h1, h2, rfl, rfl, h3⟩
  · exact Obl.goal (K := Goal P 0 5 Q) mix (fun _ h => h) (cast (fiveNil A1 A X0 X1 X2 p _).symm g)
  · exact Obl.goal (K := Goal P 0 5 Q) mix (fun _ h => h) (cast (fiveSle A1 A X0 X1 X2 p _).symm g)
  · obtain rfl : len = 0 := by have := congrArg List.length h3; simpa using this.symm
    exact Obl.goal (K := Goal P 0 5 Q) mix (fun _ h => h) (cast (fiveN A1 A X0 X1 _ p off 0 cap 0 _).symm ⟨decide_eq_false (by omega), g⟩)
/-- Nothing at all. -/
theorem none6 (p : List UInt8) (h : Nums 1 A1 X1 []) : Goal P 0 5 Q (M6 A1 X0 X1 X2 (.slg 3 0 0 0 0) p 0) := by
  rcases h with ⟨rfl | rfl, _⟩ | ⟨off, len, cap, z, h1, h2, rfl, rfl, h3, hz⟩
  · exact Obl.goal (K := fun _ => False) mix (fun _ h => h.elim) (cast (sixNilZ X0 X1 X2 p _).symm ⟨works, rfl⟩)
  · exact Obl.goal (K := fun _ => False) mix (fun _ h => h.elim) (cast (sixSleZ X0 X1 X2 p _).symm ⟨works, rfl⟩)
  · obtain rfl : len = 0 := by have := congrArg List.length h3; simpa using this.symm
    exact Obl.goal (K := fun _ => False) mix (fun _ h => h.elim) (cast (sixNZ X0 _ X2 p off 0 cap 0 _).symm ⟨decide_eq_false (by omega), works, rfl⟩)

/-- A number is read. -/
theorem readNum {p : List UInt8} {roff rlen rcap : Nat} {n : Int} {l : List UInt8} (hp : p.length ≤ 100000) (h : At p roff rlen rcap (row n ++ l)) (h0 : 0 ≤ n) (h1 : n ≤ 18446744073709551615) :
    ∃ (off2 len2 : Nat), At p off2 len2 len2 l ∧ Goal P 2 14 (fun v H => v = .int .u64 n ∧ H = rdr p off2 len2 len2) (startH P 14 [.ptr 0 0 0] (rdr p roff rlen rcap)) := by
  have hpar : parse (wireR.ahead p rlen) = some (n, (row n).length) := by rw [h.eq]; exact parse_row n h0 h1 l
  obtain ⟨off2, e1, e2⟩ := num2_ok p roff rlen rcap h.le h.off h.cap (by have := h.le; omega) hpar
  have hk : (row n).length ≤ rlen := by
    have := congrArg List.length h.eq
    rw [ahead_length h.le, List.length_append] at this
    omega
  exact ⟨off2, rlen - (row n).length, ⟨by have := h.le; omega, e1, Nat.le_refl _, by rw [ahead_sub h.le hk, h.eq, List.drop_left']; rfl⟩, e2⟩

/-- A text is read. -/
theorem readText {p : List UInt8} {roff rlen rcap : Nat} {x l : List UInt8} (hp : p.length ≤ 100000) (h : At p roff rlen rcap (row (IntKind.u64.wrap x.length) ++ x ++ l)) (hx : x.length ≤ 3000) :
    ∃ (off2 len2 : Nat), At p off2 len2 len2 l ∧ Goal P 2 16 (fun v H => v = .str x ∧ H = rdr p off2 len2 len2) (startH P 16 [.ptr 0 0 0] (rdr p roff rlen rcap)) := by
  have hw := textLen x (by omega)
  rw [hw] at h
  have hpar : parse (wireR.ahead p rlen) = some ((x.length : Int), (row x.length).length) := by rw [h.eq, List.append_assoc]; exact parse_row _ (by omega) (by omega) _
  have hl := congrArg List.length h.eq
  rw [ahead_length h.le, List.length_append, List.length_append] at hl
  have hle := h.le
  obtain ⟨off2, e1, e2⟩ := text2_ok p roff rlen rcap h.le h.off h.cap (by omega) hpar (by omega)
  rw [Int.toNat_natCast] at e1 e2
  have ht : List.take x.length (List.drop (row x.length).length (wireR.ahead p rlen)) = x := by
    rw [h.eq, List.append_assoc, List.drop_left' rfl, List.take_left' rfl]
  rw [ht] at e2
  refine ⟨off2, _, ⟨by omega, e1, Nat.le_refl _, ?_⟩, e2⟩
  rw [show rlen - (row x.length).length - x.length = rlen - ((row x.length).length + x.length) by omega, ahead_sub h.le (by omega), h.eq, List.drop_left' (by simp)]

theorem loop4 {l : List Int} (h : Nums 0 A0 X0 l) {p : List UInt8} (hp : p.length ≤ 100000) {tail : List UInt8} {roff rlen rcap : Nat} (ha : At p roff rlen rcap (rowsL l ++ tail))
    (g : ∀ roff rlen rcap, At p roff rlen rcap tail → Goal P 0 5 Q (M5 A1 A2 X0 X1 X2 (.slc 3 0 roff rlen rcap) p 0)) : Goal P 0 5 Q (M4 A0 A1 A2 X0 X1 X2 (.slc 3 0 roff rlen rcap) p 0) := by
  rcases h with ⟨ha0, rfl⟩ | ⟨off, len, cap, z, h1, h2, rfl, rfl, rfl, hz⟩
  · exact skip4 _ p (.inl ⟨ha0, rfl⟩) (g _ _ _ ha)
  · suffices hs : ∀ (d i roff rlen rcap : Nat), i ≤ len → len - i ≤ d → At p roff rlen rcap (rowsL (((List.range len).map fun j => z (off + j)).drop i) ++ tail) → Goal P 0 5 Q (M4 (.slc 0 0 off len cap) A1 A2 (some (.ro (.fn fun j => some (.int .u64 (z j))) off (off + cap))) X1 X2 (.slc 3 0 roff rlen rcap) p i) from hs len 0 roff rlen rcap (Nat.zero_le _) (by omega) ha
    intro d
    induction d with
    | zero =>
      intro i roff rlen rcap hi hd ha
      obtain rfl : i = len := by omega
      rw [List.drop_eq_nil_of_le (by simp)] at ha
      exact Obl.goal (K := Goal P 0 5 Q) mix (fun _ h => h) (cast (fourN A1 A2 _ _ X1 X2 p off i cap i _).symm ⟨decide_eq_false (by omega), g _ _ _ ha⟩)
    | succ d ih =>
      intro i roff rlen rcap hi hd ha
      by_cases hlt : i < len
      rotate_left
      · obtain rfl : i = len := by omega
        rw [List.drop_eq_nil_of_le (by simp)] at ha
        exact Obl.goal (K := Goal P 0 5 Q) mix (fun _ h => h) (cast (fourN A1 A2 _ _ X1 X2 p off i cap i _).symm ⟨decide_eq_false (by omega), g _ _ _ ha⟩)
      obtain ⟨z0, z1⟩ := hz i hlt
      rw [drop_cons _ hlt] at ha
      obtain ⟨off2, len2, e1, e2⟩ := readNum hp (l := rowsL (((List.range len).map fun j => z (off + j)).drop (i + 1)) ++ tail) (by simpa [rowsL] using ha) z0 z1
      have hn := ih (i + 1) off2 len2 len2 hlt (by omega) e1
      refine Obl.goal (K := Goal P 0 5 Q) mix (fun _ h => h) (cast (fourY A1 A2 X1 X2 p roff rlen rcap off2 len2 off len cap z i (z (off + i)) _).symm ?_)
      simp only [idx, wrap1 i (by omega)]
      and_intros
      all_goals first | exact hn | exact e2 | exact plain_yy p | exact decide_eq_true (by omega) | omega | trivial | simp

theorem loop5 {t : List (List UInt8)} (h : Texts A2 X2 t) {p : List UInt8} (hp : p.length ≤ 100000) {tail : List UInt8} {roff rlen rcap : Nat} (ha : At p roff rlen rcap (textsL t ++ tail))
    (g : ∀ roff rlen rcap, At p roff rlen rcap tail → Goal P 0 5 Q (M6 A1 X0 X1 X2 (.slc 3 0 roff rlen rcap) p 0)) : Goal P 0 5 Q (M5 A1 A2 X0 X1 X2 (.slc 3 0 roff rlen rcap) p 0) := by
  rcases h with ⟨ha0, rfl⟩ | ⟨off, len, cap, y, h1, h2, rfl, rfl, rfl⟩
  · exact skip5 _ p (.inl ⟨ha0, rfl⟩) (g _ _ _ ha)
  · suffices hs : ∀ (d i roff rlen rcap : Nat), i ≤ len → len - i ≤ d → At p roff rlen rcap (textsL (((List.range len).map fun j => (y (off + j)).take 3000).drop i) ++ tail) → Goal P 0 5 Q (M5 A1 (.slc 2 0 off len cap) X0 X1 (some (.ro (.fn fun j => some (.str (y j))) off (off + cap))) (.slc 3 0 roff rlen rcap) p i) from hs len 0 roff rlen rcap (Nat.zero_le _) (by omega) ha
    intro d
    induction d with
    | zero =>
      intro i roff rlen rcap hi hd ha
      obtain rfl : i = len := by omega
      rw [List.drop_eq_nil_of_le (by simp)] at ha
      exact Obl.goal (K := Goal P 0 5 Q) mix (fun _ h => h) (cast (fiveN A1 _ X0 X1 _ p off i cap i _).symm ⟨decide_eq_false (by omega), g _ _ _ ha⟩)
    | succ d ih =>
      intro i roff rlen rcap hi hd ha
      by_cases hlt : i < len
      rotate_left
      · obtain rfl : i = len := by omega
        rw [List.drop_eq_nil_of_le (by simp)] at ha
        exact Obl.goal (K := Goal P 0 5 Q) mix (fun _ h => h) (cast (fiveN A1 _ X0 X1 _ p off i cap i _).symm ⟨decide_eq_false (by omega), g _ _ _ ha⟩)
      have ht : (List.take 3000 (y (off + i))).length ≤ 3000 := List.length_take_le _ _
      rw [drop_cons _ hlt] at ha
      obtain ⟨off2, len2, e1, e2⟩ := readText hp (x := (y (off + i)).take 3000) (l := textsL (((List.range len).map fun j => (y (off + j)).take 3000).drop (i + 1)) ++ tail) (by simpa [textsL] using ha) ht
      have hn := ih (i + 1) off2 len2 len2 hlt (by omega) e1
      refine Obl.goal (K := Goal P 0 5 Q) mix (fun _ h => h) (cast (fiveY A1 X0 X1 p roff rlen rcap off2 len2 off len cap y i _).symm ?_)
      simp only [idx, wrap1 i (by omega), lim_take]
      and_intros
      all_goals first | exact hn | exact e2 | exact plain_yy p | exact lim_ge _ (by decide) _ | exact lim_le _ _ _ (Nat.le_refl _) | exact decide_eq_true (by omega) | omega | trivial | simp

theorem ends {p : List UInt8} {roff rlen rcap : Nat} (h : At p roff rlen rcap []) : rlen = 0 := by
  have := congrArg List.length h.eq
  rwa [ahead_length h.le] at this

theorem loop6 {m : List Int} (h : Nums 1 A1 X1 m) {p : List UInt8} (hp : p.length ≤ 100000) {roff rlen rcap : Nat} (ha : At p roff rlen rcap (rowsL m)) : Goal P 0 5 Q (M6 A1 X0 X1 X2 (.slc 3 0 roff rlen rcap) p 0) := by
  rcases h with ⟨rfl | rfl, rfl⟩ | ⟨off, len, cap, z, h1, h2, rfl, rfl, rfl, hz⟩
  · obtain rfl := ends ha
    exact Obl.goal (K := fun _ => False) mix (fun _ h => h.elim) (cast (sixNilS X0 X1 X2 p roff 0 rcap _).symm ⟨rfl, works, rfl⟩)
  · obtain rfl := ends ha
    exact Obl.goal (K := fun _ => False) mix (fun _ h => h.elim) (cast (sixSleS X0 X1 X2 p roff 0 rcap _).symm ⟨rfl, works, rfl⟩)
  · suffices hs : ∀ (d i roff rlen rcap : Nat), i ≤ len → len - i ≤ d → At p roff rlen rcap (rowsL (((List.range len).map fun j => z (off + j)).drop i)) → Goal P 0 5 Q (M6 (.slc 1 0 off len cap) X0 (some (.ro (.fn fun j => some (.int .u64 (z j))) off (off + cap))) X2 (.slc 3 0 roff rlen rcap) p i) from hs len 0 roff rlen rcap (Nat.zero_le _) (by omega) ha
    intro d
    induction d with
    | zero =>
      intro i roff rlen rcap hi hd ha
      obtain rfl : i = len := by omega
      rw [List.drop_eq_nil_of_le (by simp)] at ha
      obtain rfl := ends ha
      exact Obl.goal (K := fun _ => False) mix (fun _ h => h.elim) (cast (sixNS X0 _ X2 p roff 0 rcap off i cap i _).symm ⟨decide_eq_false (by omega), rfl, works, rfl⟩)
    | succ d ih =>
      intro i roff rlen rcap hi hd ha
      by_cases hlt : i < len
      rotate_left
      · obtain rfl : i = len := by omega
        rw [List.drop_eq_nil_of_le (by simp)] at ha
        obtain rfl := ends ha
        exact Obl.goal (K := fun _ => False) mix (fun _ h => h.elim) (cast (sixNS X0 _ X2 p roff 0 rcap off i cap i _).symm ⟨decide_eq_false (by omega), rfl, works, rfl⟩)
      obtain ⟨z0, z1⟩ := hz i hlt
      rw [drop_cons _ hlt] at ha
      obtain ⟨off2, len2, e1, e2⟩ := readNum hp (l := rowsL (((List.range len).map fun j => z (off + j)).drop (i + 1))) (by simpa [rowsL] using ha) z0 z1
      have hn := ih (i + 1) off2 len2 len2 hlt (by omega) e1
      refine Obl.goal (K := Goal P 0 5 Q) mix (fun _ h => h) (cast (sixY X0 X2 p roff rlen rcap off2 len2 off len cap z i (z (off + i)) _).symm ?_)
      simp only [idx, wrap1 i (by omega)]
      and_intros
      all_goals first | exact hn | exact e2 | exact plain_yy p | exact decide_eq_true (by omega) | omega | trivial | simp

theorem row_ne (n : Int) : row n ≠ [] := by
  unfold row
  repeat' split
  all_goals simp

theorem nums_len {id : Nat} {A : AV} {X : Option AObj} {l : List Int} (h : Nums id A X l) : l.length ≤ 40 := by
  rcases h with ⟨_, rfl⟩ | ⟨off, len, cap, z, h1, _, _, _, rfl, _⟩
  · simp
  · simpa using h1
theorem texts_len {A : AV} {X : Option AObj} {t : List (List UInt8)} (h : Texts A X t) : t.length ≤ 15 ∧ ∀ x ∈ t, x.length ≤ 3000 := by
  rcases h with ⟨_, rfl⟩ | ⟨off, len, cap, y, h1, _, _, _, rfl⟩
  · simp
  · refine ⟨by simpa using h1, fun x hx => ?_⟩
    obtain ⟨j, _, rfl⟩ := List.mem_map.1 hx
    exact List.length_take_le _ _

/-- All of it. -/
theorem back {l m : List Int} {t : List (List UInt8)} (h0 : Nums 0 A0 X0 l) (h1 : Nums 1 A1 X1 m) (h2 : Texts A2 X2 t) : Goal P 0 5 Q (M1 A0 A1 A2 X0 X1 X2 [] [] [] 0) := by
  have q0 := nums_len h0
  have q1 := nums_len h1
  obtain ⟨q2, q3⟩ := texts_len h2
  have r0 := rowsL_length l
  have r1 := rowsL_length m
  have r2 := textsL_length t q3
  refine loop1 h0 (loop2 h2 _ (by omega) (loop3 h1 _ _ (by omega) (by omega) ?_))
  have hp : (rowsL l ++ (textsL t ++ rowsL m)).length ≤ 100000 := by simp only [List.length_append]; omega
  by_cases he : rowsL l ++ (textsL t ++ rowsL m) = []
  · rw [he]
    simp only [List.append_eq_nil_iff] at he
    obtain ⟨e0, e2, e1⟩ := he
    have el : l = [] := by
      cases l with
      | nil => rfl
      | cons a r => simp [rowsL] at e0; exact absurd e0.1 (row_ne a)
    have em : m = [] := by
      cases m with
      | nil => rfl
      | cons a r => simp [rowsL] at e1; exact absurd e1.1 (row_ne a)
    have et : t = [] := by
      cases t with
      | nil => rfl
      | cons a r => simp [textsL] at e2; exact absurd e2.1 (row_ne _)
    subst el em et
    exact skip4 _ _ h0 (skip5 _ _ h2 (none6 _ h1))
  · generalize hpe : rowsL l ++ (textsL t ++ rowsL m) = p at he hp
    have hpos : 0 < p.length := List.length_pos_iff.2 he
    refine Obl.goal (K := Goal P 0 5 Q) mix (fun _ h => h) (cast (capped A0 A1 A2 X0 X1 X2 p _).symm ⟨hpos, fun cap hc => ?_⟩)
    exact loop4 h0 hp (tail := textsL t ++ rowsL m) ⟨Nat.le_refl _, fun _ => Nat.zero_add _, hc, by rw [wireR.ahead, Nat.sub_self, List.drop_zero]; exact hpe.symm⟩ fun _ _ _ ha => loop5 h2 hp ha fun _ _ _ ha => loop6 h1 hp ha

end

/-! ## Where it begins -/

inductive Form (α : Type) where
  | nil
  | empty
  | row (o l c : Nat) (f : Nat → α)

def Form.av {α : Type} (id : Nat) : Form α → AV
  | .nil => .nils 0 0
  | .empty => .sle
  | .row o l c _ => .slc id 0 o l c

def Form.inp {α : Type} (g : α → AV) (b : Nat) : Form α → Inp
  | .nil => ⟨false, b, .leaf, 0, 0⟩
  | .empty => ⟨false, b, .leaf, 0, 0⟩
  | .row o _ c f => ⟨true, b, .fn (fun j => some (g (f j))), o, o + c⟩

def lim (k : Int) (n : Nat) : Nat := (if decide (k < (n : Int)) = true then k else (n : Int)).toNat

theorem lim_eq (k : Nat) (n : Nat) : lim k n = min k n := by
  unfold lim
  by_cases h : (k : Int) < n
  · rw [if_pos (decide_eq_true h)]; omega
  · rw [if_neg (by simpa using h)]; omega

def okNums : Form Int → Prop
  | .row o l c f => l ≤ c ∧ ∀ j, j < l → 0 ≤ f (o + j) ∧ f (o + j) ≤ 18446744073709551615
  | _ => True
def okTexts : Form (List UInt8) → Prop
  | .row _ l c _ => l ≤ c
  | _ => True

theorem starts (F0 F1 : Form Int) (F2 : Form (List UInt8)) (b0 b1 b2 : Nat) (h0 : okNums F0) (h1 : okNums F1) (h2 : okTexts F2) :
    ∃ cmds, optK (startL P 5 [F0.av 0, F1.av 1, F2.av 2] [F0.inp (fun n => .int .u64 n) b0, F1.inp (fun n => .int .u64 n) b1, F2.inp (fun s => .str s) b2] .leaf) (Obl P 5 Q 0 (Goal P 0 5 Q) cmds) := by
  have n40 : ∀ (id o l c : Nat) (f : Nat → Int), (l ≤ c ∧ ∀ j, j < l → 0 ≤ f (o + j) ∧ f (o + j) ≤ 18446744073709551615) → Nums id (.slc id 0 o (lim 40 l) c) (some (.ro (.fn fun j => some (.int .u64 (f j))) o (o + c))) ((List.range (lim 40 l)).map fun j => f (o + j)) := fun id o l c f h => .inr ⟨o, lim 40 l, c, f, by have := lim_eq 40 l; simp at this; omega, by have := lim_eq 40 l; simp at this; omega, rfl, rfl, rfl, fun j hj => h.2 j (by have := lim_eq 40 l; simp at this; omega)⟩
  have t15 : ∀ (o l c : Nat) (f : Nat → List UInt8), l ≤ c → Texts (.slc 2 0 o (lim 15 l) c) (some (.ro (.fn fun j => some (.str (f j))) o (o + c))) ((List.range (lim 15 l)).map fun j => (f (o + j)).take 3000) := fun o l c f h => .inr ⟨o, lim 15 l, c, f, by have := lim_eq 15 l; simp at this; omega, by have := lim_eq 15 l; simp at this; omega, rfl, rfl, rfl⟩
  have nN : ∀ (id : Nat) (X : Option AObj), Nums id (.nils 0 0) X [] := fun _ _ => .inl ⟨.inl rfl, rfl⟩
  have nE : ∀ (id : Nat) (X : Option AObj), Nums id .sle X [] := fun _ _ => .inl ⟨.inr rfl, rfl⟩
  have tN : ∀ (X : Option AObj), Texts (.nils 0 0) X [] := fun _ => .inl ⟨.inl rfl, rfl⟩
  have tE : ∀ (X : Option AObj), Texts .sle X [] := fun _ => .inl ⟨.inr rfl, rfl⟩
  match F0, F1, F2, h0, h1, h2 with
  | .row o0 l0 c0 f0, .row o1 l1 c1 f1, .row o2 l2 c2 f2, h0, h1, h2 =>
    have hM := back (n40 0 o0 l0 c0 f0 h0) (n40 1 o1 l1 c1 f1 h1) (t15 o2 l2 c2 f2 h2)
    refine ⟨_, cast (startSSS b0 o0 l0 c0 f0 b1 o1 l1 c1 f1 b2 o2 l2 c2 f2 (Goal P 0 5 Q)).symm ?_⟩
    simp only [ite_self, Nat.sub_zero]
    and_intros
    all_goals first | exact hM | exact lim_ge _ (by decide) _ | exact lim_le _ _ _ h0.1 | exact lim_le _ _ _ h1.1 | exact lim_le _ _ _ h2 | trivial
  | .row o0 l0 c0 f0, .row o1 l1 c1 f1, .nil, h0, h1, h2 =>
    have hM := back (n40 0 o0 l0 c0 f0 h0) (n40 1 o1 l1 c1 f1 h1) (tN none)
    refine ⟨_, cast (startSSN b0 o0 l0 c0 f0 b1 o1 l1 c1 f1 b2 (Goal P 0 5 Q)).symm ?_⟩
    simp only [ite_self, Nat.sub_zero]
    and_intros
    all_goals first | exact hM | exact lim_ge _ (by decide) _ | exact lim_le _ _ _ h0.1 | exact lim_le _ _ _ h1.1 | exact lim_le _ _ _ h2 | trivial
  | .row o0 l0 c0 f0, .row o1 l1 c1 f1, .empty, h0, h1, h2 =>
    have hM := back (n40 0 o0 l0 c0 f0 h0) (n40 1 o1 l1 c1 f1 h1) (tE none)
    refine ⟨_, cast (startSSE b0 o0 l0 c0 f0 b1 o1 l1 c1 f1 b2 (Goal P 0 5 Q)).symm ?_⟩
    simp only [ite_self, Nat.sub_zero]
    and_intros
    all_goals first | exact hM | exact lim_ge _ (by decide) _ | exact lim_le _ _ _ h0.1 | exact lim_le _ _ _ h1.1 | exact lim_le _ _ _ h2 | trivial
  | .row o0 l0 c0 f0, .nil, .row o2 l2 c2 f2, h0, h1, h2 =>
    have hM := back (n40 0 o0 l0 c0 f0 h0) (nN 1 none) (t15 o2 l2 c2 f2 h2)
    refine ⟨_, cast (startSNS b0 o0 l0 c0 f0 b1 b2 o2 l2 c2 f2 (Goal P 0 5 Q)).symm ?_⟩
    simp only [ite_self, Nat.sub_zero]
    and_intros
    all_goals first | exact hM | exact lim_ge _ (by decide) _ | exact lim_le _ _ _ h0.1 | exact lim_le _ _ _ h1.1 | exact lim_le _ _ _ h2 | trivial
  | .row o0 l0 c0 f0, .nil, .nil, h0, h1, h2 =>
    have hM := back (n40 0 o0 l0 c0 f0 h0) (nN 1 none) (tN none)
    refine ⟨_, cast (startSNN b0 o0 l0 c0 f0 b1 b2 (Goal P 0 5 Q)).symm ?_⟩
    simp only [ite_self, Nat.sub_zero]
    and_intros
    all_goals first | exact hM | exact lim_ge _ (by decide) _ | exact lim_le _ _ _ h0.1 | exact lim_le _ _ _ h1.1 | exact lim_le _ _ _ h2 | trivial
  | .row o0 l0 c0 f0, .nil, .empty, h0, h1, h2 =>
    have hM := back (n40 0 o0 l0 c0 f0 h0) (nN 1 none) (tE none)
    refine ⟨_, cast (startSNE b0 o0 l0 c0 f0 b1 b2 (Goal P 0 5 Q)).symm ?_⟩
    simp only [ite_self, Nat.sub_zero]
    and_intros
    all_goals first | exact hM | exact lim_ge _ (by decide) _ | exact lim_le _ _ _ h0.1 | exact lim_le _ _ _ h1.1 | exact lim_le _ _ _ h2 | trivial
  | .row o0 l0 c0 f0, .empty, .row o2 l2 c2 f2, h0, h1, h2 =>
    have hM := back (n40 0 o0 l0 c0 f0 h0) (nE 1 none) (t15 o2 l2 c2 f2 h2)
    refine ⟨_, cast (startSES b0 o0 l0 c0 f0 b1 b2 o2 l2 c2 f2 (Goal P 0 5 Q)).symm ?_⟩
    simp only [ite_self, Nat.sub_zero]
    and_intros
    all_goals first | exact hM | exact lim_ge _ (by decide) _ | exact lim_le _ _ _ h0.1 | exact lim_le _ _ _ h1.1 | exact lim_le _ _ _ h2 | trivial
  | .row o0 l0 c0 f0, .empty, .nil, h0, h1, h2 =>
    have hM := back (n40 0 o0 l0 c0 f0 h0) (nE 1 none) (tN none)
    refine ⟨_, cast (startSEN b0 o0 l0 c0 f0 b1 b2 (Goal P 0 5 Q)).symm ?_⟩
    simp only [ite_self, Nat.sub_zero]
    and_intros
    all_goals first | exact hM | exact lim_ge _ (by decide) _ | exact lim_le _ _ _ h0.1 | exact lim_le _ _ _ h1.1 | exact lim_le _ _ _ h2 | trivial
  | .row o0 l0 c0 f0, .empty, .empty, h0, h1, h2 =>
    have hM := back (n40 0 o0 l0 c0 f0 h0) (nE 1 none) (tE none)
    refine ⟨_, cast (startSEE b0 o0 l0 c0 f0 b1 b2 (Goal P 0 5 Q)).symm ?_⟩
    simp only [ite_self, Nat.sub_zero]
    and_intros
    all_goals first | exact hM | exact lim_ge _ (by decide) _ | exact lim_le _ _ _ h0.1 | exact lim_le _ _ _ h1.1 | exact lim_le _ _ _ h2 | trivial
  | .nil, .row o1 l1 c1 f1, .row o2 l2 c2 f2, h0, h1, h2 =>
    have hM := back (nN 0 none) (n40 1 o1 l1 c1 f1 h1) (t15 o2 l2 c2 f2 h2)
    refine ⟨_, cast (startNSS b0 b1 o1 l1 c1 f1 b2 o2 l2 c2 f2 (Goal P 0 5 Q)).symm ?_⟩
    simp only [ite_self, Nat.sub_zero]
    and_intros
    all_goals first | exact hM | exact lim_ge _ (by decide) _ | exact lim_le _ _ _ h0.1 | exact lim_le _ _ _ h1.1 | exact lim_le _ _ _ h2 | trivial
  | .nil, .row o1 l1 c1 f1, .nil, h0, h1, h2 =>
    have hM := back (nN 0 none) (n40 1 o1 l1 c1 f1 h1) (tN none)
    refine ⟨_, cast (startNSN b0 b1 o1 l1 c1 f1 b2 (Goal P 0 5 Q)).symm ?_⟩
    simp only [ite_self, Nat.sub_zero]
    and_intros
    all_goals first | exact hM | exact lim_ge _ (by decide) _ | exact lim_le _ _ _ h0.1 | exact lim_le _ _ _ h1.1 | exact lim_le _ _ _ h2 | trivial
  | .nil, .row o1 l1 c1 f1, .empty, h0, h1, h2 =>
    have hM := back (nN 0 none) (n40 1 o1 l1 c1 f1 h1) (tE none)
    refine ⟨_, cast (startNSE b0 b1 o1 l1 c1 f1 b2 (Goal P 0 5 Q)).symm ?_⟩
    simp only [ite_self, Nat.sub_zero]
    and_intros
    all_goals first | exact hM | exact lim_ge _ (by decide) _ | exact lim_le _ _ _ h0.1 | exact lim_le _ _ _ h1.1 | exact lim_le _ _ _ h2 | trivial
  | .nil, .nil, .row o2 l2 c2 f2, h0, h1, h2 =>
    have hM := back (nN 0 none) (nN 1 none) (t15 o2 l2 c2 f2 h2)
    refine ⟨_, cast (startNNS b0 b1 b2 o2 l2 c2 f2 (Goal P 0 5 Q)).symm ?_⟩
    simp only [ite_self, Nat.sub_zero]
    and_intros
    all_goals first | exact hM | exact lim_ge _ (by decide) _ | exact lim_le _ _ _ h0.1 | exact lim_le _ _ _ h1.1 | exact lim_le _ _ _ h2 | trivial
  | .nil, .nil, .nil, h0, h1, h2 =>
    have hM := back (nN 0 none) (nN 1 none) (tN none)
    refine ⟨_, cast (startNNN b0 b1 b2 (Goal P 0 5 Q)).symm ?_⟩
    simp only [ite_self, Nat.sub_zero]
    and_intros
    all_goals first | exact hM | exact lim_ge _ (by decide) _ | exact lim_le _ _ _ h0.1 | exact lim_le _ _ _ h1.1 | exact lim_le _ _ _ h2 | trivial
  | .nil, .nil, .empty, h0, h1, h2 =>
    have hM := back (nN 0 none) (nN 1 none) (tE none)
    refine ⟨_, cast (startNNE b0 b1 b2 (Goal P 0 5 Q)).symm ?_⟩
    simp only [ite_self, Nat.sub_zero]
    and_intros
    all_goals first | exact hM | exact lim_ge _ (by decide) _ | exact lim_le _ _ _ h0.1 | exact lim_le _ _ _ h1.1 | exact lim_le _ _ _ h2 | trivial
  | .nil, .empty, .row o2 l2 c2 f2, h0, h1, h2 =>
    have hM := back (nN 0 none) (nE 1 none) (t15 o2 l2 c2 f2 h2)
    refine ⟨_, cast (startNES b0 b1 b2 o2 l2 c2 f2 (Goal P 0 5 Q)).symm ?_⟩
    simp only [ite_self, Nat.sub_zero]
    and_intros
    all_goals first | exact hM | exact lim_ge _ (by decide) _ | exact lim_le _ _ _ h0.1 | exact lim_le _ _ _ h1.1 | exact lim_le _ _ _ h2 | trivial
  | .nil, .empty, .nil, h0, h1, h2 =>
    have hM := back (nN 0 none) (nE 1 none) (tN none)
    refine ⟨_, cast (startNEN b0 b1 b2 (Goal P 0 5 Q)).symm ?_⟩
    simp only [ite_self, Nat.sub_zero]
    and_intros
    all_goals first | exact hM | exact lim_ge _ (by decide) _ | exact lim_le _ _ _ h0.1 | exact lim_le _ _ _ h1.1 | exact lim_le _ _ _ h2 | trivial
  | .nil, .empty, .empty, h0, h1, h2 =>
    have hM := back (nN 0 none) (nE 1 none) (tE none)
    refine ⟨_, cast (startNEE b0 b1 b2 (Goal P 0 5 Q)).symm ?_⟩
    simp only [ite_self, Nat.sub_zero]
    and_intros
    all_goals first | exact hM | exact lim_ge _ (by decide) _ | exact lim_le _ _ _ h0.1 | exact lim_le _ _ _ h1.1 | exact lim_le _ _ _ h2 | trivial
  | .empty, .row o1 l1 c1 f1, .row o2 l2 c2 f2, h0, h1, h2 =>
    have hM := back (nE 0 none) (n40 1 o1 l1 c1 f1 h1) (t15 o2 l2 c2 f2 h2)
    refine ⟨_, cast (startESS b0 b1 o1 l1 c1 f1 b2 o2 l2 c2 f2 (Goal P 0 5 Q)).symm ?_⟩
    simp only [ite_self, Nat.sub_zero]
    and_intros
    all_goals first | exact hM | exact lim_ge _ (by decide) _ | exact lim_le _ _ _ h0.1 | exact lim_le _ _ _ h1.1 | exact lim_le _ _ _ h2 | trivial
  | .empty, .row o1 l1 c1 f1, .nil, h0, h1, h2 =>
    have hM := back (nE 0 none) (n40 1 o1 l1 c1 f1 h1) (tN none)
    refine ⟨_, cast (startESN b0 b1 o1 l1 c1 f1 b2 (Goal P 0 5 Q)).symm ?_⟩
    simp only [ite_self, Nat.sub_zero]
    and_intros
    all_goals first | exact hM | exact lim_ge _ (by decide) _ | exact lim_le _ _ _ h0.1 | exact lim_le _ _ _ h1.1 | exact lim_le _ _ _ h2 | trivial
  | .empty, .row o1 l1 c1 f1, .empty, h0, h1, h2 =>
    have hM := back (nE 0 none) (n40 1 o1 l1 c1 f1 h1) (tE none)
    refine ⟨_, cast (startESE b0 b1 o1 l1 c1 f1 b2 (Goal P 0 5 Q)).symm ?_⟩
    simp only [ite_self, Nat.sub_zero]
    and_intros
    all_goals first | exact hM | exact lim_ge _ (by decide) _ | exact lim_le _ _ _ h0.1 | exact lim_le _ _ _ h1.1 | exact lim_le _ _ _ h2 | trivial
  | .empty, .nil, .row o2 l2 c2 f2, h0, h1, h2 =>
    have hM := back (nE 0 none) (nN 1 none) (t15 o2 l2 c2 f2 h2)
    refine ⟨_, cast (startENS b0 b1 b2 o2 l2 c2 f2 (Goal P 0 5 Q)).symm ?_⟩
    simp only [ite_self, Nat.sub_zero]
    and_intros
    all_goals first | exact hM | exact lim_ge _ (by decide) _ | exact lim_le _ _ _ h0.1 | exact lim_le _ _ _ h1.1 | exact lim_le _ _ _ h2 | trivial
  | .empty, .nil, .nil, h0, h1, h2 =>
    have hM := back (nE 0 none) (nN 1 none) (tN none)
    refine ⟨_, cast (startENN b0 b1 b2 (Goal P 0 5 Q)).symm ?_⟩
    simp only [ite_self, Nat.sub_zero]
    and_intros
    all_goals first | exact hM | exact lim_ge _ (by decide) _ | exact lim_le _ _ _ h0.1 | exact lim_le _ _ _ h1.1 | exact lim_le _ _ _ h2 | trivial
  | .empty, .nil, .empty, h0, h1, h2 =>
    have hM := back (nE 0 none) (nN 1 none) (tE none)
    refine ⟨_, cast (startENE b0 b1 b2 (Goal P 0 5 Q)).symm ?_⟩
    simp only [ite_self, Nat.sub_zero]
    and_intros
    all_goals first | exact hM | exact lim_ge _ (by decide) _ | exact lim_le _ _ _ h0.1 | exact lim_le _ _ _ h1.1 | exact lim_le _ _ _ h2 | trivial
  | .empty, .empty, .row o2 l2 c2 f2, h0, h1, h2 =>
    have hM := back (nE 0 none) (nE 1 none) (t15 o2 l2 c2 f2 h2)
    refine ⟨_, cast (startEES b0 b1 b2 o2 l2 c2 f2 (Goal P 0 5 Q)).symm ?_⟩
    simp only [ite_self, Nat.sub_zero]
    and_intros
    all_goals first | exact hM | exact lim_ge _ (by decide) _ | exact lim_le _ _ _ h0.1 | exact lim_le _ _ _ h1.1 | exact lim_le _ _ _ h2 | trivial
  | .empty, .empty, .nil, h0, h1, h2 =>
    have hM := back (nE 0 none) (nE 1 none) (tN none)
    refine ⟨_, cast (startEEN b0 b1 b2 (Goal P 0 5 Q)).symm ?_⟩
    simp only [ite_self, Nat.sub_zero]
    and_intros
    all_goals first | exact hM | exact lim_ge _ (by decide) _ | exact lim_le _ _ _ h0.1 | exact lim_le _ _ _ h1.1 | exact lim_le _ _ _ h2 | trivial
  | .empty, .empty, .empty, h0, h1, h2 =>
    have hM := back (nE 0 none) (nE 1 none) (tE none)
    refine ⟨_, cast (startEEE b0 b1 b2 (Goal P 0 5 Q)).symm ?_⟩
    simp only [ite_self, Nat.sub_zero]
    and_intros
    all_goals first | exact hM | exact lim_ge _ (by decide) _ | exact lim_le _ _ _ h0.1 | exact lim_le _ _ _ h1.1 | exact lim_le _ _ _ h2 | trivial

end Go.Proofs.Ytmnelckaighmkaa.wireBack
