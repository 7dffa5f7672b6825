/- FrameCuts: its loop. -/
import Derived.Test.YtfgaadhnplccpaaFrH
set_option maxRecDepth 100000
namespace Go.Proofs.Ytfgaadhnplccpaa.frm
open Go Ev

/-- How many were told. -/
def Tk (S : List UInt8) : Nat := (cut S).fs.length

/-- What stands at the loop's head, when S was fed. -/
inductive Head (off len cap : Nat) (f : Nat → List UInt8) (i : Nat) (S : List UInt8) : AM → Prop where
  | bad : (cut S).bad = true → Head off len cap f i S (CHN off len cap f (i : Nat) true S (Tk S : Nat))
  | none : (cut S).bad = false → (cut S).left = [] → Head off len cap f i S (CHN off len cap f (i : Nat) false S (Tk S : Nat))
  | grown (b : Nat → Int) (n : Nat) : (cut S).bad = false → (cut S).left.length = n + 1 → Holds b 0 (cut S).left → Head off len cap f i S (CHG off len cap f (i : Nat) b n S (Tk S : Nat))
  | rest (b : Nat → Int) (o n m : Nat) : (cut S).bad = false → (cut S).left.length = n → o + n ≤ m → Holds b o (cut S).left → Head off len cap f i S (CHC off len cap f (i : Nat) b o n m S (Tk S : Nat))

theorem cut_more_fed {S s : List UInt8} (h : (cut S).bad = false) : cut (S ++ s) = ⟨(cut S).fs ++ (cut ((cut S).left ++ s)).fs, (cut ((cut S).left ++ s)).left, (cut ((cut S).left ++ s)).bad⟩ := by
  rw [cut_append, h]; rfl

theorem next_i (i : Nat) (h : i < 60) : IntKind.i64.wrap (((i : Nat) : Int) + 1) = ((i + 1 : Nat) : Int) := by rw [wi]; omega

theorem rowF_right (l r : List (List UInt8)) (j : Nat) : rowF r j = rowF (l ++ r) (l.length + j) := by
  unfold rowF
  rw [List.getD_eq_getElem?_getD, List.getD_eq_getElem?_getD, List.getElem?_append_right (by omega)]
  congr 2
  omega

section
variable {off len cap : Nat} {f : Nat → List UInt8}

/-- The next head, by what is left. -/
theorem Head.ofLV {i m : Nat} {b : Nat → Int} {S : List UInt8} {w : AV} (hw : LV b m (cut S).left (cut S).bad w) :
    (w = .nils 0 0 ∧ (cut S).bad = true ∧ Head off len cap f i S (CHN off len cap f (i : Nat) true S (Tk S : Nat))) ∨
    (∃ n, w = .slg 2 0 0 (n + 1) 0 ∧ m = n + 1 ∧ (cut S).bad = false ∧ Head off len cap f i S (CHG off len cap f (i : Nat) b n S (Tk S : Nat))) ∨
    (∃ o n, w = .slc 2 0 o n n ∧ (cut S).bad = false ∧ Head off len cap f i S (CHC off len cap f (i : Nat) b o n m S (Tk S : Nat))) := by
  generalize hb : (cut S).bad = bd at hw
  cases hw with
  | bad h => exact .inl ⟨rfl, rfl, .bad hb⟩
  | grown n h1 h2 h3 => exact .inr (.inl ⟨n, rfl, h2, rfl, .grown b n hb h1 h3⟩)
  | rest o n h1 h2 h3 => exact .inr (.inr ⟨o, n, rfl, rfl, .rest b o n m hb h1 h2 h3⟩)

theorem yDone {S s : List UInt8} {i p m : Nat} {b : Nat → Int} (hS : (cut S).bad = false) (hs : (S ++ s).length < 2 ^ 39) (hi : i < 60)
    (hL : LoopOk .leaf b m [] (cut ((cut S).left ++ s)) (MF0 (.slg 2 0 0 (p + 1) 0) b m .leaf))
    (hn : ∀ M, Head off len cap f (i + 1) (S ++ s) M → Goal P 0 3 Q M) :
    Goal P 0 3 Q (YF off len cap f (i : Nat) s (.slg 4 0 0 (p + 1) 0) b m S (Tk S : Nat)) := by
  obtain ⟨w, hw, hg⟩ := hL
  have e := cut_more_fed (s := s) hS
  have eI := next_i i hi
  have eb : (cut (S ++ s)).bad = (cut ((cut S).left ++ s)).bad := by rw [e]
  have el : (cut (S ++ s)).left = (cut ((cut S).left ++ s)).left := by rw [e]
  have ef : (cut (S ++ s)).fs = (cut S).fs ++ (cut ((cut S).left ++ s)).fs := by rw [e]
  rw [← eb, ← el] at hw
  rw [← eb] at hg
  have hlen : Tk (S ++ s) = Tk S + (cut ((cut S).left ++ s)).fs.length := by unfold Tk; rw [ef, List.length_append]
  generalize (cut ((cut S).left ++ s)).fs = c at ef hg hlen
  by_cases h0 : c = []
  · subst h0
    rw [List.append_nil] at ef
    have hK : Tk (S ++ s) = Tk S := hlen
    by_cases h1 : (cut S).fs = []
    · have ht : Tk S = 0 := by unfold Tk; rw [h1]; rfl
      have hr := ref_nil S s hs (by rw [ef, h1])
      have hk0 : Tk (S ++ s) = 0 := by omega
      rcases Head.ofLV (off := off) (len := len) (cap := cap) (f := f) (i := i + 1) hw with ⟨rfl, hb, hd⟩ | ⟨n, rfl, rfl, hb, hd⟩ | ⟨o, n, rfl, hb, hd⟩
      · rw [hb] at hg
        rw [ht]
        rw [hk0] at hd
        refine Obl.goal (K := Goal P 0 3 Q) mix (fun _ h => h) (cast (yNB0 off len cap f (i : Nat) s b 0 0 m 0 0 0 p (rowF []) (rowF []) S (0 : Nat) _).symm ⟨plain_int b, plain_int b, hg, hr, tx_nil, brk_ok _ _ _ hs hb, ?_⟩)
        rw [eI]; exact hn _ hd
      · rw [hb] at hg
        rw [ht]
        rw [hk0] at hd
        refine Obl.goal (K := Goal P 0 3 Q) mix (fun _ h => h) (cast (yNG0 off len cap f (i : Nat) s b 0 n 0 0 0 0 p (rowF []) (rowF []) S (0 : Nat) _).symm ⟨plain_int b, plain_int b, hg, hr, tx_nil, brk_ok _ _ _ hs hb, plain_int b, ?_⟩)
        rw [eI]; exact hn _ hd
      · rw [hb] at hg
        rw [ht]
        rw [hk0] at hd
        refine Obl.goal (K := Goal P 0 3 Q) mix (fun _ h => h) (cast (yNR0 off len cap f (i : Nat) s b o n m 0 0 0 p (rowF []) (rowF []) S (0 : Nat) _).symm ⟨plain_int b, plain_int b, hg, hr, tx_nil, brk_ok _ _ _ hs hb, plain_int b, ?_⟩)
        rw [eI]; exact hn _ hd
    · have hr := ref_cons S s (Tk S) hs (by rw [ef]; exact h1) (by show Tk S ≤ Tk (S ++ s); omega)
      rw [show (cut (S ++ s)).fs.length - Tk S = 0 by show Tk (S ++ s) - Tk S = 0; omega] at hr
      have hx := tx_none (cut (S ++ s)).fs.length (Tk S) (Tk S) (rowF (cut (S ++ s)).fs)
      rcases Head.ofLV (off := off) (len := len) (cap := cap) (f := f) (i := i + 1) hw with ⟨rfl, hb, hd⟩ | ⟨n, rfl, rfl, hb, hd⟩ | ⟨o, n, rfl, hb, hd⟩
      · rw [hb] at hg
        refine Obl.goal (K := Goal P 0 3 Q) mix (fun _ h => h) (cast (yNB1 off len cap f (i : Nat) s b 0 0 m (cut (S ++ s)).fs.length 0 (Tk S) p (rowF []) (rowF (cut (S ++ s)).fs) S (Tk S : Nat) _).symm ⟨plain_int b, plain_int b, hg, plain_str _, hr, plain_str _, plain_str _, hx, brk_ok _ _ _ hs hb, ?_⟩)
        rw [eI]; exact hn _ hd
      · rw [hb] at hg
        refine Obl.goal (K := Goal P 0 3 Q) mix (fun _ h => h) (cast (yNG1 off len cap f (i : Nat) s b 0 n 0 (cut (S ++ s)).fs.length 0 (Tk S) p (rowF []) (rowF (cut (S ++ s)).fs) S (Tk S : Nat) _).symm ⟨plain_int b, plain_int b, hg, plain_str _, hr, plain_str _, plain_str _, hx, brk_ok _ _ _ hs hb, plain_int b, ?_⟩)
        rw [eI]; exact hn _ hd
      · rw [hb] at hg
        refine Obl.goal (K := Goal P 0 3 Q) mix (fun _ h => h) (cast (yNR1 off len cap f (i : Nat) s b o n m (cut (S ++ s)).fs.length 0 (Tk S) p (rowF []) (rowF (cut (S ++ s)).fs) S (Tk S : Nat) _).symm ⟨plain_int b, plain_int b, hg, plain_str _, hr, plain_str _, plain_str _, hx, brk_ok _ _ _ hs hb, plain_int b, ?_⟩)
        rw [eI]; exact hn _ hd
  · have hne : (cut (S ++ s)).fs ≠ [] := by rw [ef]; simp [h0]
    have hr := ref_cons S s (Tk S) hs hne (by show Tk S ≤ Tk (S ++ s); omega)
    rw [show (cut (S ++ s)).fs.length - Tk S = c.length by show Tk (S ++ s) - Tk S = _; omega] at hr
    have hfl := fs_le (S ++ s)
    have hx := tx_ok (cut (S ++ s)).fs.length (Tk S) c.length (Tk S) (rowF c) (rowF (cut (S ++ s)).fs) (by show Tk S + _ ≤ Tk (S ++ s); omega) (by have : Tk (S ++ s) = (cut (S ++ s)).fs.length := rfl; omega)
      (fun j _ => by rw [ef]; exact rowF_right _ _ _)
    have hg' : Goal P 3 8 (fun v h => v = .slg 3 0 0 c.length 0 ∧ h = HK1 w (cut (S ++ s)).bad b m c.length (rowF c) .leaf) (MF0 (.slg 2 0 0 (p + 1) 0) b m .leaf) := by
      cases c with
      | nil => exact absurd rfl h0
      | cons x r => exact hg
    rcases Head.ofLV (off := off) (len := len) (cap := cap) (f := f) (i := i + 1) hw with ⟨rfl, hb, hd⟩ | ⟨n, rfl, rfl, hb, hd⟩ | ⟨o, n, rfl, hb, hd⟩
    · rw [hb] at hg'
      refine Obl.goal (K := Goal P 0 3 Q) mix (fun _ h => h) (cast (yCB off len cap f (i : Nat) s b 0 0 m (cut (S ++ s)).fs.length c.length (Tk S) p (rowF c) (rowF (cut (S ++ s)).fs) S (Tk S : Nat) _).symm ⟨plain_int b, plain_int b, plain_str _, hg', plain_str _, hr, plain_str _, plain_str _, plain_str _, plain_str _, hx, brk_ok _ _ _ hs hb, ?_⟩)
      rw [eI]; exact hn _ hd
    · rw [hb] at hg'
      refine Obl.goal (K := Goal P 0 3 Q) mix (fun _ h => h) (cast (yCG off len cap f (i : Nat) s b 0 n 0 (cut (S ++ s)).fs.length c.length (Tk S) p (rowF c) (rowF (cut (S ++ s)).fs) S (Tk S : Nat) _).symm ⟨plain_int b, plain_int b, plain_str _, hg', plain_str _, hr, plain_str _, plain_str _, plain_str _, plain_str _, hx, brk_ok _ _ _ hs hb, plain_int b, ?_⟩)
      rw [eI]; exact hn _ hd
    · rw [hb] at hg'
      refine Obl.goal (K := Goal P 0 3 Q) mix (fun _ h => h) (cast (yCR off len cap f (i : Nat) s b o n m (cut (S ++ s)).fs.length c.length (Tk S) p (rowF c) (rowF (cut (S ++ s)).fs) S (Tk S : Nat) _).symm ⟨plain_int b, plain_int b, plain_str _, hg', plain_str _, hr, plain_str _, plain_str _, plain_str _, plain_str _, hx, brk_ok _ _ _ hs hb, plain_int b, ?_⟩)
      rw [eI]; exact hn _ hd

end

end Go.Proofs.Ytfgaadhnplccpaa.frm
