/- FrameParts: all rounds, and the end. -/
import Derived.Test.YtfgaadhnplccpaaFrL
set_option maxRecDepth 100000
namespace Go.Proofs.Ytfgaadhnplccpaa.frm
open Go Ev

/-- One byte more. -/
theorem byte_ok (s : List UInt8) (i : Nat) (hi : i < s.length) (hs : s.length < 2 ^ 39) : ((((0 : Int) ≤ IntKind.i64.wrap (((i : Nat) : Int) + (1 : Int)) ∧ IntKind.i64.wrap (((i : Nat) : Int) + (1 : Int)) ≤ (↑s.length : Int)) ∧ (0 : Int) ≤ ((i : Nat) : Int) ∧ ((i : Nat) : Int) ≤ (↑(IntKind.i64.wrap (((i : Nat) : Int) + (1 : Int))).toNat : Int)) ∧
    List.take ((IntKind.i64.wrap (((i : Nat) : Int) + (1 : Int))).toNat - (((i : Nat) : Int)).toNat) (List.drop (((i : Nat) : Int)).toNat s) = (s.drop i).take 1) := by
  rw [next_j i (by omega)]
  refine ⟨by omega, ?_⟩
  rw [Int.toNat_natCast, Int.toNat_natCast, show i + 1 - i = 1 by omega]

theorem take_next (s : List UInt8) (i : Nat) : s.take (i + 1) = s.take i ++ (s.drop i).take 1 := List.take_add

theorem pround {s : List UInt8} {i : Nat} (hi : i < s.length) (hs : s.length ≤ 2000) {M : AM} (hM : PHead s i (s.take i) M)
    (hn : ∀ M, PHead s (i + 1) (s.take (i + 1)) M → Goal P 0 5 Q M) : Goal P 0 5 Q M := by
  have L1 : decide (((i : Nat) : Int) < (s.length : Int)) = true := decide_eq_true (by omega)
  obtain ⟨L2, L3⟩ := byte_ok s i hi (by omega)
  rw [take_next] at hn
  have hul : ((s.drop i).take 1).length = 1 := by rw [List.length_take, List.length_drop]; omega
  have hTl : (s.take i).length = i := by rw [List.length_take]; omega
  generalize (s.drop i).take 1 = u at L3 hul hn
  have hlen : (s.take i ++ u).length < 2 ^ 39 := by rw [List.length_append]; omega
  have eI := next_j i (by omega)
  have hle := left_le (s.take i)
  have hp : 0 < u.length := by omega
  generalize hT : s.take i = T at hM hn hTl hlen hle
  cases hM with
  | bad hb =>
    have e : cut (T ++ u) = cut T := by rw [cut_append, if_pos hb]
    have hd : PHead s (i + 1) (T ++ u) _ := .bad (by rw [e]; exact hb)
    rw [e] at hd
    cases hl : (cut T).fs with
    | nil =>
      rw [hl] at hd
      refine Obl.goal (K := Goal P 0 5 Q) mix (fun _ h => h) (cast (pB0 s u (i : Nat) (nb []) (nb []) 0 0 0 0 0 0 0 0 (rowF []) (rowF []) (rowF []) true _).symm ⟨L1, L2, congrArg AV.str L3, ?_⟩)
      rw [eI]; exact hn _ hd
    | cons x r =>
      rw [hl] at hd
      refine Obl.goal (K := Goal P 0 5 Q) mix (fun _ h => h) (cast (pB1 s u (i : Nat) (nb []) (nb []) 0 0 0 0 (x :: r).length 0 0 0 (rowF (x :: r)) (rowF []) (rowF []) true _).symm ⟨L1, L2, congrArg AV.str L3, plain_str _, ?_⟩)
      rw [eI]; exact hn _ hd
  | none hb hlf =>
    obtain ⟨p, hp'⟩ : ∃ p, u.length = p + 1 := ⟨u.length - 1, by omega⟩
    have hL := loop_grown .leaf u (nb u) p hp' (holds_nb u) (by omega)
    have hq := qDone (s := s) (u := u) (i := i) hb hlen (by omega) (by rw [hlf]; exact hL) hn
    cases hl : (cut T).fs with
    | nil =>
      rw [hl] at hq
      refine Obl.goal (K := Goal P 0 5 Q) mix (fun _ h => h) (cast (pF0y s u (i : Nat) (nb []) (nb u) 0 0 0 (p + 1) 0 0 0 0 (rowF []) (rowF []) (rowF []) true _).symm ⟨L1, L2, congrArg AV.str L3, ⟨Nat.le_refl _, hp, room1 (by omega)⟩, rfl, tells_int fun k _ => rfl, by omega, plain_int _, ?_⟩)
      rw [hp']; exact hq
    | cons x r =>
      rw [hl] at hq
      refine Obl.goal (K := Goal P 0 5 Q) mix (fun _ h => h) (cast (pF1y s u (i : Nat) (nb []) (nb u) 0 0 0 (p + 1) (x :: r).length 0 0 0 (rowF (x :: r)) (rowF []) (rowF []) true _).symm ⟨L1, L2, congrArg AV.str L3, ⟨Nat.le_refl _, hp, room1 (by omega)⟩, rfl, tells_int fun k _ => rfl, by omega, plain_str _, plain_int _, ?_⟩)
      rw [hp']; exact hq
  | grown b n hb h1 h2 =>
    have hl2 : ((cut T).left ++ u).length = n + u.length + 1 := by rw [List.length_append]; omega
    have hL := loop_grown .leaf ((cut T).left ++ u) (nb ((cut T).left ++ u)) (n + u.length) hl2 (holds_nb _) (by omega)
    have hq := qDone (s := s) (u := u) (i := i) hb hlen (by omega) hL hn
    cases hl : (cut T).fs with
    | nil =>
      rw [hl] at hq
      refine Obl.goal (K := Goal P 0 5 Q) mix (fun _ h => h) (cast (pG0y s u (i : Nat) b (nb ((cut T).left ++ u)) 0 n 0 (n + u.length + 1) 0 0 0 0 (rowF []) (rowF []) (rowF []) true _).symm ⟨L1, L2, congrArg AV.str L3, ⟨Nat.le_refl _, hp, by omega, by omega, rfl, room1 (by omega), by omega⟩, rfl, tells_cat _ u b h1 h2 (by omega), by omega, plain_int _, ?_⟩)
      rw [show n + 1 + u.length = n + u.length + 1 by omega]; exact hq
    | cons x r =>
      rw [hl] at hq
      refine Obl.goal (K := Goal P 0 5 Q) mix (fun _ h => h) (cast (pG1y s u (i : Nat) b (nb ((cut T).left ++ u)) 0 n 0 (n + u.length + 1) (x :: r).length 0 0 0 (rowF (x :: r)) (rowF []) (rowF []) true _).symm ⟨L1, L2, congrArg AV.str L3, ⟨Nat.le_refl _, hp, by omega, by omega, rfl, room1 (by omega), by omega⟩, rfl, tells_cat _ u b h1 h2 (by omega), by omega, plain_str _, plain_int _, ?_⟩)
      rw [show n + 1 + u.length = n + u.length + 1 by omega]; exact hq
  | rest b o n m hb h1 h2 h3 =>
    have hl2 : ((cut T).left ++ u).length = (n + u.length - 1) + 1 := by rw [List.length_append]; omega
    have hL := loop_grown .leaf ((cut T).left ++ u) (nb ((cut T).left ++ u)) (n + u.length - 1) hl2 (holds_nb _) (by omega)
    have hq := qDone (s := s) (u := u) (i := i) hb hlen (by omega) hL hn
    cases hl : (cut T).fs with
    | nil =>
      rw [hl] at hq
      refine Obl.goal (K := Goal P 0 5 Q) mix (fun _ h => h) (cast (pC0y s u (i : Nat) b (nb ((cut T).left ++ u)) o n m (n + u.length - 1 + 1) 0 0 0 0 (rowF []) (rowF []) (rowF []) true _).symm ⟨L1, L2, congrArg AV.str L3, ⟨Nat.le_refl _, ⟨by omega, fun k _ => ⟨_, rfl, rfl⟩⟩, hp, by omega, room1 (by omega)⟩, rfl, tells_moved _ u b h1 h3, by omega, plain_int _, ?_⟩)
      rw [show n + u.length = n + u.length - 1 + 1 by omega]; exact hq
    | cons x r =>
      rw [hl] at hq
      refine Obl.goal (K := Goal P 0 5 Q) mix (fun _ h => h) (cast (pC1y s u (i : Nat) b (nb ((cut T).left ++ u)) o n m (n + u.length - 1 + 1) (x :: r).length 0 0 0 (rowF (x :: r)) (rowF []) (rowF []) true _).symm ⟨L1, L2, congrArg AV.str L3, ⟨Nat.le_refl _, ⟨by omega, fun k _ => ⟨_, rfl, rfl⟩⟩, hp, by omega, room1 (by omega)⟩, rfl, tells_moved _ u b h1 h3, by omega, plain_str _, plain_int _, ?_⟩)
      rw [show n + u.length = n + u.length - 1 + 1 by omega]; exact hq

/-- Of the cutter the flag alone is told. -/
theorem flag_tells (bd : Bool) (v : AV) : Tells 2 (.node (.node .leaf (some (.bool bd)) .leaf) none .leaf) (.node (.node .leaf (some (.bool bd)) .leaf) (some v) .leaf) := fun k w hk e => by
  match k, hk with
  | 0, _ => cases e
  | 1, _ => exact e

theorem pleaves {s T : List UInt8} {i : Nat} (hi : ¬ i < s.length) {M : AM} (hM : PHead s i T M) (hn : Goal P 0 5 Q (EPf s (cut T).bad (cut T).fs)) : Goal P 0 5 Q M := by
  have L1 : decide (((i : Nat) : Int) < (s.length : Int)) = false := decide_eq_false (by omega)
  cases hM with
  | bad hb =>
    rw [hb] at hn
    cases hl : (cut T).fs with
    | nil =>
      rw [hl] at hn
      exact Obl.goal (K := Goal P 0 5 Q) mix (fun _ h => h) (cast (eN0 s [] (i : Nat) (nb []) (nb []) 0 0 0 0 0 0 0 0 (rowF []) (rowF []) (rowF []) true _).symm ⟨L1, flag_tells _ _, rfl, hn⟩)
    | cons x r =>
      rw [hl] at hn
      exact Obl.goal (K := Goal P 0 5 Q) mix (fun _ h => h) (cast (eN1 s [] (i : Nat) (nb []) (nb []) 0 0 0 0 (x :: r).length 0 0 0 (rowF (x :: r)) (rowF []) (rowF []) true _).symm ⟨L1, flag_tells _ _, rfl, plain_str _, hn⟩)
  | none hb hlf =>
    rw [hb] at hn
    cases hl : (cut T).fs with
    | nil =>
      rw [hl] at hn
      exact Obl.goal (K := Goal P 0 5 Q) mix (fun _ h => h) (cast (eN0 s [] (i : Nat) (nb []) (nb []) 0 0 0 0 0 0 0 0 (rowF []) (rowF []) (rowF []) false _).symm ⟨L1, flag_tells _ _, rfl, hn⟩)
    | cons x r =>
      rw [hl] at hn
      exact Obl.goal (K := Goal P 0 5 Q) mix (fun _ h => h) (cast (eN1 s [] (i : Nat) (nb []) (nb []) 0 0 0 0 (x :: r).length 0 0 0 (rowF (x :: r)) (rowF []) (rowF []) false _).symm ⟨L1, flag_tells _ _, rfl, plain_str _, hn⟩)
  | grown b n hb h1 h2 =>
    rw [hb] at hn
    cases hl : (cut T).fs with
    | nil =>
      rw [hl] at hn
      exact Obl.goal (K := Goal P 0 5 Q) mix (fun _ h => h) (cast (eG0 s [] (i : Nat) b (nb []) 0 n 0 0 0 0 0 0 (rowF []) (rowF []) (rowF []) true _).symm ⟨L1, flag_tells _ _, rfl, hn⟩)
    | cons x r =>
      rw [hl] at hn
      exact Obl.goal (K := Goal P 0 5 Q) mix (fun _ h => h) (cast (eG1 s [] (i : Nat) b (nb []) 0 n 0 0 (x :: r).length 0 0 0 (rowF (x :: r)) (rowF []) (rowF []) true _).symm ⟨L1, flag_tells _ _, rfl, plain_str _, hn⟩)
  | rest b o n m hb h1 h2 h3 =>
    rw [hb] at hn
    cases hl : (cut T).fs with
    | nil =>
      rw [hl] at hn
      exact Obl.goal (K := Goal P 0 5 Q) mix (fun _ h => h) (cast (eC0 s [] (i : Nat) b (nb []) o n m 0 0 0 0 0 (rowF []) (rowF []) (rowF []) true _).symm ⟨L1, flag_tells _ _, rfl, hn⟩)
    | cons x r =>
      rw [hl] at hn
      exact Obl.goal (K := Goal P 0 5 Q) mix (fun _ h => h) (cast (eC1 s [] (i : Nat) b (nb []) o n m 0 (x :: r).length 0 0 0 (rowF (x :: r)) (rowF []) (rowF []) true _).symm ⟨L1, flag_tells _ _, rfl, plain_str _, hn⟩)

/-- The two lists are held against each other. -/
theorem lp_ok (k : Nat) (g : Nat → List UInt8) (hk : k < 2 ^ 39) (d : Nat) : ∀ i : Nat, i + d = k → Goal P 0 5 Q (LP k g g (i : Nat)) := by
  induction d with
  | zero =>
    intro i hi
    exact Obl.goal (K := fun _ => False) mix (fun _ h => h.elim) (cast (lpn [] [] (i : Nat) (nb []) (nb []) 0 0 0 0 k 0 0 0 g g (rowF []) true _).symm ⟨decide_eq_false (by omega), rfl⟩)
  | succ d ih =>
    intro i hi
    have t0 : ((i : Nat) : Int).toNat = i := Int.toNat_natCast _
    refine Obl.goal (K := Goal P 0 5 Q) mix (fun _ h => h) (cast (lpyn [] [] (i : Nat) (nb []) (nb []) 0 0 0 0 k 0 0 0 g g (rowF []) true _).symm ⟨decide_eq_true (by omega), by omega, by omega, by omega, by omega, by simp, plain_str _, plain_str _, ?_⟩)
    rw [next_j i (by omega)]; exact ih (i + 1) (by omega)

theorem eDone (s : List UInt8) (hs : s.length ≤ 2000) : Goal P 0 5 Q (EPf s (cut s).bad (cut s).fs) := by
  by_cases h0 : s = []
  · subst h0
    exact Obl.goal (K := fun _ => False) mix (fun _ h => h.elim) (cast (d0 [] [] 0 (nb []) (nb []) 0 0 0 0 0 0 0 0 (rowF []) (rowF []) (rowF []) true _).symm rfl)
  · have hp : 0 < s.length := List.length_pos_iff.2 h0
    obtain ⟨p, hp'⟩ : ∃ p, s.length = p + 1 := ⟨s.length - 1, by omega⟩
    obtain ⟨w, hw, hg⟩ := loop_grown .leaf s (nb s) p hp' (holds_nb s) (by omega)
    have hfl := fs_le s
    generalize (cut s).fs = c at hg hfl
    cases c with
    | nil =>
      refine Obl.goal (K := Goal P 0 5 Q) mix (fun _ h => h) (cast (d10 s [] 0 (nb []) (nb s) 0 0 0 (p + 1) 0 0 0 0 (rowF []) (rowF []) (rowF []) (cut s).bad _).symm ⟨⟨Nat.le_refl _, hp, room1 (by omega)⟩, rfl, tells_int fun k _ => rfl, by omega, plain_int _, ?_⟩)
      rw [hp']
      generalize (cut s).bad = bd at hw hg
      cases hw with
      | bad h => exact Obl.goal (K := fun _ => False) mix (fun _ h => h.elim) (cast (fB0 [] [] 0 (nb s) (nb []) 0 0 (p + 1) 0 0 0 0 p (rowF []) (rowF []) (rowF []) true _).symm ⟨plain_int _, plain_int _, hg, rfl⟩)
      | grown n h1 h2 h3 =>
        obtain rfl : p = n := by omega
        exact Obl.goal (K := fun _ => False) mix (fun _ h => h.elim) (cast (fG0 [] [] 0 (nb s) (nb []) 0 p 0 0 0 0 0 p (rowF []) (rowF []) (rowF []) true _).symm ⟨plain_int _, plain_int _, hg, rfl⟩)
      | rest o n h1 h2 h3 => exact Obl.goal (K := fun _ => False) mix (fun _ h => h.elim) (cast (fR0 [] [] 0 (nb s) (nb []) o n (p + 1) 0 0 0 0 p (rowF []) (rowF []) (rowF []) true _).symm ⟨plain_int _, plain_int _, hg, rfl⟩)
    | cons x r =>
      have hl := lp_ok (x :: r).length (rowF (x :: r)) (by omega) (x :: r).length 0 (Nat.zero_add _)
      refine Obl.goal (K := Goal P 0 5 Q) mix (fun _ h => h) (cast (d11 s [] 0 (nb []) (nb s) 0 0 0 (p + 1) (x :: r).length 0 0 0 (rowF (x :: r)) (rowF []) (rowF []) (cut s).bad _).symm ⟨⟨Nat.le_refl _, hp, room1 (by omega)⟩, rfl, tells_int fun k _ => rfl, by omega, plain_str _, plain_int _, ?_⟩)
      rw [hp']
      generalize (cut s).bad = bd at hw hg
      cases hw with
      | bad h => exact Obl.goal (K := Goal P 0 5 Q) mix (fun _ h => h) (cast (fB1 [] [] 0 (nb s) (nb []) 0 0 (p + 1) 0 (x :: r).length 0 0 p (rowF (x :: r)) (rowF (x :: r)) (rowF []) true _).symm ⟨plain_int _, plain_int _, plain_str _, hg, by simp, plain_str _, plain_str _, hl⟩)
      | grown n h1 h2 h3 =>
        obtain rfl : p = n := by omega
        exact Obl.goal (K := Goal P 0 5 Q) mix (fun _ h => h) (cast (fG1 [] [] 0 (nb s) (nb []) 0 p 0 0 (x :: r).length 0 0 p (rowF (x :: r)) (rowF (x :: r)) (rowF []) true _).symm ⟨plain_int _, plain_int _, plain_str _, hg, by simp, plain_str _, plain_str _, hl⟩)
      | rest o n h1 h2 h3 => exact Obl.goal (K := Goal P 0 5 Q) mix (fun _ h => h) (cast (fR1 [] [] 0 (nb s) (nb []) o n (p + 1) 0 (x :: r).length 0 0 p (rowF (x :: r)) (rowF (x :: r)) (rowF []) true _).symm ⟨plain_int _, plain_int _, plain_str _, hg, by simp, plain_str _, plain_str _, hl⟩)

theorem prounds (s : List UInt8) (hs : s.length ≤ 2000) (d : Nat) : ∀ (i : Nat) (M : AM), i + d = s.length → PHead s i (s.take i) M → Goal P 0 5 Q M := by
  induction d with
  | zero =>
    intro i M hi hM
    obtain rfl : i = s.length := hi
    rw [List.take_length] at hM
    exact pleaves (Nat.lt_irrefl _) hM (eDone s hs)
  | succ d ih => exact fun i M hi hM => pround (by omega) hs hM fun M hM => ih (i + 1) M (by omega) hM

theorem parts_ok (s : List UInt8) (hs : s.length ≤ 2000) : Goal P 0 5 Q (PN0 s (0 : Nat) false) := by
  refine prounds s hs s.length 0 _ (Nat.zero_add _) ?_
  have := PHead.none (s := s) (i := 0) (T := s.take 0) rfl rfl
  exact this

theorem cut2000 (u : List UInt8) : (((0 : Int) ≤ if decide ((2000 : Int) < (↑u.length : Int)) = true then (2000 : Int) else (↑u.length : Int)) ∧ (if decide ((2000 : Int) < (↑u.length : Int)) = true then (2000 : Int) else (↑u.length : Int)) ≤ (↑u.length : Int)) ∧
    List.take ((if decide ((2000 : Int) < (↑u.length : Int)) = true then (2000 : Int) else (↑u.length : Int)).toNat - (0 : Nat)) (List.drop (0 : Nat) u) = u.take 2000 := by
  by_cases h : (2000 : Int) < (u.length : Int)
  · rw [decide_eq_true h, if_pos rfl]
    exact ⟨by omega, rfl⟩
  · rw [decide_eq_false h, if_neg Bool.false_ne_true]
    refine ⟨by omega, ?_⟩
    rw [Int.toNat_natCast, List.drop_zero, Nat.sub_zero, List.take_of_length_le (Nat.le_refl _), List.take_of_length_le (by omega)]

end Go.Proofs.Ytfgaadhnplccpaa.frm
