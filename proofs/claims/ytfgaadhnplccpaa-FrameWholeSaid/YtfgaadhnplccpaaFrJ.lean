/- FrameCuts: all rounds. -/
import Derived.Test.YtfgaadhnplccpaaFrI
set_option maxRecDepth 100000
namespace Go.Proofs.Ytfgaadhnplccpaa.frm
open Go Ev

theorem tells_cat (L s : List UInt8) (b : Nat → Int) {n m : Nat} (h1 : L.length = n + 1) (h2 : Holds b 0 L) (hm : m = L.length + s.length) : Tells m (.fn fun j => some (AV.int IntKind.u8 (nb (L ++ s) j)))
    (.fn fun k => bif (0 + (n + 1) * 1).ble k && k.blt (0 + (n + 1) * 1 + s.length * 1) then (fun k => some (AV.int IntKind.u8 (↑(s.getD k (0 : UInt8)).toNat : Int))) (k - (0 + (n + 1) * 1)) else (T.fn fun j => some (AV.int IntKind.u8 (b j))).get k) := by
  refine tells_int fun k hk => ?_
  show (bif _ then _ else _) = _
  cases hb : ((0 + (n + 1) * 1).ble k && k.blt (0 + (n + 1) * 1 + s.length * 1)) with
  | true =>
    rw [Bool.and_eq_true] at hb
    have e1 := Nat.le_of_ble_eq_true hb.1
    rw [nb_right L s (by omega)]
    show some (AV.int IntKind.u8 ((s.getD (k - (0 + (n + 1) * 1)) 0).toNat : Int)) = some (AV.int IntKind.u8 ((s.getD (k - L.length) 0).toNat : Int))
    rw [show k - (0 + (n + 1) * 1) = k - L.length by omega]
  | false =>
    have : k < L.length := by
      rcases Nat.lt_or_ge k L.length with h | h
      · exact h
      · have e1 : (0 + (n + 1) * 1).ble k = true := Nat.ble_eq_true_of_le (by omega)
        have e2 : k.blt (0 + (n + 1) * 1 + s.length * 1) = true := Nat.ble_eq_true_of_le (by omega)
        rw [e1, e2] at hb; cases hb
    rw [nb_left L s this]
    have := h2 k this
    rw [Nat.zero_add] at this
    show some (AV.int IntKind.u8 (b k)) = _
    rw [this]; rfl

theorem tells_moved (L s : List UInt8) (b : Nat → Int) {o n m : Nat} (h1 : L.length = n) (h3 : Holds b o L) : Tells m (.fn fun j => some (AV.int IntKind.u8 (nb (L ++ s) j)))
    (.fn fun k => bif k.blt (n * 1) then (fun k => (T.fn fun j => some (AV.int IntKind.u8 (b j))).get (o + k)) k else (fun k => some (AV.int IntKind.u8 (↑(s.getD k (0 : UInt8)).toNat : Int))) (k - n * 1)) := by
  refine tells_int fun k hk => ?_
  show (bif _ then _ else _) = _
  cases hb : k.blt (n * 1) with
  | true =>
    have e1 : k + 1 ≤ n * 1 := Nat.le_of_ble_eq_true hb
    rw [nb_left L s (by omega)]
    have := h3 k (by omega)
    show some (AV.int IntKind.u8 (b (o + k))) = _
    rw [this]; rfl
  | false =>
    have : L.length ≤ k := by
      rcases Nat.lt_or_ge k L.length with h | h
      · have e1 : k.blt (n * 1) = true := Nat.ble_eq_true_of_le (by omega)
        rw [e1] at hb; cases hb
      · exact h
    rw [nb_right L s this]
    show some (AV.int IntKind.u8 ((s.getD (k - n * 1) 0).toNat : Int)) = some (AV.int IntKind.u8 ((s.getD (k - L.length) 0).toNat : Int))
    rw [show k - n * 1 = k - L.length by omega]

theorem tells_same (b : Nat → Int) {o n m : Nat} : Tells m (.fn fun j => some (AV.int IntKind.u8 (b j)))
    (.fn fun k => bif (o + n * 1).ble k && k.blt (o + n * 1 + ([] : List UInt8).length * 1) then (fun k => some (AV.int IntKind.u8 (↑(([] : List UInt8).getD k (0 : UInt8)).toNat : Int))) (k - (o + n * 1)) else (T.fn fun j => some (AV.int IntKind.u8 (b j))).get k) := by
  refine tells_int fun k hk => ?_
  show (bif _ then _ else _) = _
  cases hb : ((o + n * 1).ble k && k.blt (o + n * 1 + ([] : List UInt8).length * 1)) with
  | false => rfl
  | true =>
    rw [Bool.and_eq_true] at hb
    have e1 := Nat.le_of_ble_eq_true hb.1
    have e2 : k + 1 ≤ o + n * 1 + 0 * 1 := Nat.le_of_ble_eq_true hb.2
    omega

/-- What is taken of a text. -/
theorem cut_ok (u : List UInt8) : (((0 : Int) ≤ if decide ((1000 : Int) < (↑u.length : Int)) = true then (1000 : Int) else (↑u.length : Int)) ∧ (if decide ((1000 : Int) < (↑u.length : Int)) = true then (1000 : Int) else (↑u.length : Int)) ≤ (↑u.length : Int)) ∧
    List.take ((if decide ((1000 : Int) < (↑u.length : Int)) = true then (1000 : Int) else (↑u.length : Int)).toNat - (0 : Nat)) (List.drop (0 : Nat) u) = u.take 1000 := by
  by_cases h : (1000 : Int) < (u.length : Int)
  · rw [decide_eq_true h, if_pos rfl]
    exact ⟨by omega, rfl⟩
  · rw [decide_eq_false h, if_neg Bool.false_ne_true]
    refine ⟨by omega, ?_⟩
    rw [Int.toNat_natCast, List.drop_zero, Nat.sub_zero, List.take_of_length_le (Nat.le_refl _), List.take_of_length_le (by omega)]

section
variable {off len cap : Nat} {f : Nat → List UInt8}

theorem zDone {S : List UInt8} {i p l m : Nat} {b : Nat → Int} (hS : (cut S).bad = false) (hs : S.length < 2 ^ 39) (hi : i < 60)
    (hL : LoopOk .leaf b m [] (cut (cut S).left) (MF0 (.slc 2 0 l p p) b m .leaf))
    (hn : ∀ M, Head off len cap f (i + 1) (S ++ []) M → Goal P 0 3 Q M) :
    Goal P 0 3 Q (YF off len cap f (i : Nat) [] (.slc 4 0 l p p) b m S (Tk S : Nat)) := by
  rw [cut_left S hS] at hL
  obtain ⟨w, hw, hg⟩ := hL
  have eS : S ++ [] = S := List.append_nil S
  have eI := next_i i hi
  change LV b m (cut S).left false w at hw
  rw [← hS, ← eS] at hw
  have hs' : (S ++ []).length < 2 ^ 39 := by rw [eS]; exact hs
  have hb : (cut (S ++ [])).bad = false := by rw [eS]; exact hS
  by_cases h1 : (cut S).fs = []
  · have ht : Tk S = 0 := by unfold Tk; rw [h1]; rfl
    have hr := ref_nil S [] hs' (by rw [eS, h1])
    have hk0 : Tk (S ++ []) = 0 := by rw [eS]; exact ht
    rcases Head.ofLV (off := off) (len := len) (cap := cap) (f := f) (i := i + 1) hw with ⟨_, hb', _⟩ | ⟨n, rfl, rfl, _, hd⟩ | ⟨o, n, rfl, _, hd⟩
    · rw [hb] at hb'; cases hb'
    · rw [ht]
      rw [hk0] at hd
      refine Obl.goal (K := Goal P 0 3 Q) mix (fun _ h => h) (cast (zNG0 off len cap f (i : Nat) [] b 0 n 0 0 l 0 p (rowF []) (rowF []) S (0 : Nat) _).symm ⟨plain_int b, plain_int b, hg, hr, tx_nil, brk_ok _ _ _ hs' hb, plain_int b, ?_⟩)
      rw [eI]; exact hn _ hd
    · rw [ht]
      rw [hk0] at hd
      refine Obl.goal (K := Goal P 0 3 Q) mix (fun _ h => h) (cast (zNR0 off len cap f (i : Nat) [] b o n m 0 l 0 p (rowF []) (rowF []) S (0 : Nat) _).symm ⟨plain_int b, plain_int b, hg, hr, tx_nil, brk_ok _ _ _ hs' hb, plain_int b, ?_⟩)
      rw [eI]; exact hn _ hd
  · have hr := ref_cons S [] (Tk S) hs' (by rw [eS]; exact h1) (by rw [eS]; exact Nat.le_refl _)
    rw [show (cut (S ++ [])).fs.length - Tk S = 0 by rw [eS]; exact Nat.sub_self _] at hr
    have hx := tx_none (cut (S ++ [])).fs.length (Tk S) (Tk S) (rowF (cut (S ++ [])).fs)
    rcases Head.ofLV (off := off) (len := len) (cap := cap) (f := f) (i := i + 1) hw with ⟨_, hb', _⟩ | ⟨n, rfl, rfl, _, hd⟩ | ⟨o, n, rfl, _, hd⟩
    · rw [hb] at hb'; cases hb'
    · refine Obl.goal (K := Goal P 0 3 Q) mix (fun _ h => h) (cast (zNG1 off len cap f (i : Nat) [] b 0 n 0 (cut (S ++ [])).fs.length l (Tk S) p (rowF []) (rowF (cut (S ++ [])).fs) S (Tk S : Nat) _).symm ⟨plain_int b, plain_int b, hg, plain_str _, hr, plain_str _, plain_str _, hx, brk_ok _ _ _ hs' hb, plain_int b, ?_⟩)
      rw [eI]; exact hn _ hd
    · refine Obl.goal (K := Goal P 0 3 Q) mix (fun _ h => h) (cast (zNR1 off len cap f (i : Nat) [] b o n m (cut (S ++ [])).fs.length l (Tk S) p (rowF []) (rowF (cut (S ++ [])).fs) S (Tk S : Nat) _).symm ⟨plain_int b, plain_int b, hg, plain_str _, hr, plain_str _, plain_str _, hx, brk_ok _ _ _ hs' hb, plain_int b, ?_⟩)
      rw [eI]; exact hn _ hd

theorem round (hlc : len ≤ cap) {i : Nat} (hi : i < 60) (hil : i < len) {S : List UInt8} (hS : S.length ≤ 1000 * i) {M : AM} (hM : Head off len cap f i S M)
    (hn : ∀ s : List UInt8, s.length ≤ 1000 → ∀ M, Head off len cap f (i + 1) (S ++ s) M → Goal P 0 3 Q M) : Goal P 0 3 Q M := by
  have L1 : decide (((i : Nat) : Int) < (len : Int)) = true := decide_eq_true (by omega)
  have L2 : decide (((i : Nat) : Int) < 60) = true := decide_eq_true (by omega)
  have L3 : (0 : Int) ≤ ((i : Nat) : Int) ∧ ((i : Nat) : Int) < (len : Int) := by omega
  have L4 : off ≤ off + (((i : Nat) : Int)).toNat * 1 ∧ off + (((i : Nat) : Int)).toNat * 1 + 1 ≤ off + cap := by rw [Int.toNat_natCast]; omega
  obtain ⟨L7, L8⟩ := cut_ok (f (off + (((i : Nat) : Int)).toNat * 1))
  have hsl : ((f (off + (((i : Nat) : Int)).toNat * 1)).take 1000).length ≤ 1000 := by rw [List.length_take]; omega
  generalize (f (off + (((i : Nat) : Int)).toNat * 1)).take 1000 = s at L8 hsl
  have hs : (S ++ s).length < 2 ^ 39 := by rw [List.length_append]; omega
  have eI := next_i i hi
  have hle := left_le S
  cases hM with
  | bad hb =>
    have e : cut (S ++ s) = cut S := by rw [cut_append, if_pos hb]
    have hb' : (cut (S ++ s)).bad = true := by rw [e]; exact hb
    have hk : Tk (S ++ s) = Tk S := by unfold Tk; rw [e]
    have hd : Head off len cap f (i + 1) (S ++ s) _ := .bad hb'
    by_cases h1 : (cut S).fs = []
    · have ht : Tk S = 0 := by unfold Tk; rw [h1]; rfl
      rw [hk, ht] at hd
      rw [ht]
      refine Obl.goal (K := Goal P 0 3 Q) mix (fun _ h => h) (cast (xB0 off len cap f (i : Nat) s (nb []) 0 0 0 0 0 0 0 (rowF []) (rowF []) S (0 : Nat) _).symm ⟨L1, L2, L3, L4, L3, L4, L7, congrArg AV.str L8, ref_nil S s hs (by rw [e, h1]), tx_nil, brk_ok _ _ _ hs hb', ?_⟩)
      rw [eI]; exact hn s hsl _ hd
    · have hr := ref_cons S s (Tk S) hs (by rw [e]; exact h1) (by rw [e]; exact Nat.le_refl _)
      rw [show (cut (S ++ s)).fs.length - Tk S = 0 by rw [e]; exact Nat.sub_self _] at hr
      have hx := tx_none (cut (S ++ s)).fs.length (Tk S) (Tk S) (rowF (cut (S ++ s)).fs)
      refine Obl.goal (K := Goal P 0 3 Q) mix (fun _ h => h) (cast (xB1 off len cap f (i : Nat) s (nb []) 0 0 0 (cut (S ++ s)).fs.length 0 (Tk S) 0 (rowF []) (rowF (cut (S ++ s)).fs) S (Tk S : Nat) _).symm ⟨L1, L2, L3, L4, L3, L4, L7, congrArg AV.str L8, plain_str _, hr, plain_str _, plain_str _, hx, brk_ok _ _ _ hs hb', ?_⟩)
      rw [eI]; exact hn s hsl _ hd
  | none hb hl =>
    by_cases h0 : s = []
    · subst h0
      have e : cut (S ++ []) = cut S := by rw [List.append_nil]
      have hb' : (cut (S ++ [])).bad = false := by rw [e]; exact hb
      have hk : Tk (S ++ []) = Tk S := by unfold Tk; rw [e]
      have hd : Head off len cap f (i + 1) (S ++ []) _ := .none hb' (by rw [e]; exact hl)
      by_cases h1 : (cut S).fs = []
      · have ht : Tk S = 0 := by unfold Tk; rw [h1]; rfl
        rw [hk, ht] at hd
        rw [ht]
        refine Obl.goal (K := Goal P 0 3 Q) mix (fun _ h => h) (cast (x00 off len cap f (i : Nat) [] (nb []) 0 0 0 0 0 0 0 (rowF []) (rowF []) S (0 : Nat) _).symm ⟨L1, L2, L3, L4, L3, L4, L7, congrArg AV.str L8, ref_nil S [] hs (by rw [e, h1]), tx_nil, brk_ok _ _ _ hs hb', ?_⟩)
        rw [eI]; exact hn [] hsl _ hd
      · have hr := ref_cons S [] (Tk S) hs (by rw [e]; exact h1) (by rw [e]; exact Nat.le_refl _)
        rw [show (cut (S ++ [])).fs.length - Tk S = 0 by rw [e]; exact Nat.sub_self _] at hr
        have hx := tx_none (cut (S ++ [])).fs.length (Tk S) (Tk S) (rowF (cut (S ++ [])).fs)
        refine Obl.goal (K := Goal P 0 3 Q) mix (fun _ h => h) (cast (x01 off len cap f (i : Nat) [] (nb []) 0 0 0 (cut (S ++ [])).fs.length 0 (Tk S) 0 (rowF []) (rowF (cut (S ++ [])).fs) S (Tk S : Nat) _).symm ⟨L1, L2, L3, L4, L3, L4, L7, congrArg AV.str L8, plain_str _, hr, plain_str _, plain_str _, hx, brk_ok _ _ _ hs hb', ?_⟩)
        rw [eI]; exact hn [] hsl _ hd
    · have hp : 0 < s.length := List.length_pos_iff.2 h0
      obtain ⟨p, hp'⟩ : ∃ p, s.length = p + 1 := ⟨s.length - 1, by omega⟩
      have hL := loop_grown .leaf s (nb s) p hp' (holds_nb s) (by omega)
      refine Obl.goal (K := Goal P 0 3 Q) mix (fun _ h => h) (cast (cNyy off len cap f (i : Nat) s (nb s) (p + 1) S (Tk S : Nat) _).symm ⟨L1, L2, L3, L4, L3, L4, L7, congrArg AV.str L8, ⟨Nat.le_refl _, hp, room1 (by omega)⟩, rfl, tells_int fun k _ => rfl, by omega, plain_int _, ?_⟩)
      rw [hp']
      exact yDone hb hs hi (by rw [hl]; exact hL) (hn s hsl)
  | grown b n hb h1 h2 =>
    by_cases h0 : s = []
    · subst h0
      have hL := loop_grown .leaf (cut S).left b n h1 h2 (by omega)
      refine Obl.goal (K := Goal P 0 3 Q) mix (fun _ h => h) (cast (cHyy off len cap f (i : Nat) b n S (Tk S : Nat) _).symm ⟨L1, L2, L3, L4, L3, L4, L7, congrArg AV.str L8, plain_int _, ?_⟩)
      exact yDone hb hs hi (by rw [List.append_nil]; exact hL) (hn [] hsl)
    · have hp : 0 < s.length := List.length_pos_iff.2 h0
      have hl2 : ((cut S).left ++ s).length = n + s.length + 1 := by rw [List.length_append]; omega
      have hL := loop_grown .leaf ((cut S).left ++ s) (nb ((cut S).left ++ s)) (n + s.length) hl2 (holds_nb _) (by omega)
      refine Obl.goal (K := Goal P 0 3 Q) mix (fun _ h => h) (cast (cGyy off len cap f (i : Nat) s b (nb ((cut S).left ++ s)) n (n + s.length + 1) S (Tk S : Nat) _).symm ⟨L1, L2, L3, L4, L3, L4, L7, congrArg AV.str L8, ⟨Nat.le_refl _, hp, by omega, by omega, rfl, room1 (by omega), by omega⟩, rfl, tells_cat _ s b h1 h2 (by omega), by omega, plain_int _, ?_⟩)
      rw [show n + 1 + s.length = n + s.length + 1 by omega]
      exact yDone hb hs hi hL (hn s hsl)
  | rest b o n m hb h1 h2 h3 =>
    by_cases h0 : s = []
    · subst h0
      subst h1
      have hL := loop_rest .leaf _ (cut S).left [] b o m (Nat.lt_succ_self _) h2 h3 (by simp only [List.length_nil]; omega)
      refine Obl.goal (K := Goal P 0 3 Q) mix (fun _ h => h) (cast (cDyy off len cap f (i : Nat) b b o (cut S).left.length m m S (Tk S : Nat) _).symm ⟨L1, L2, L3, L4, L3, L4, L7, congrArg AV.str L8, ⟨Nat.le_refl _, Nat.le_refl _, by omega, Nat.zero_le _, trivial⟩, rfl, tells_same b, rfl, plain_int _, ?_⟩)
      exact zDone hb (by omega) hi hL (hn [] hsl)
    · have hp : 0 < s.length := List.length_pos_iff.2 h0
      have hl2 : ((cut S).left ++ s).length = (n + s.length - 1) + 1 := by rw [List.length_append]; omega
      have hL := loop_grown .leaf ((cut S).left ++ s) (nb ((cut S).left ++ s)) (n + s.length - 1) hl2 (holds_nb _) (by omega)
      refine Obl.goal (K := Goal P 0 3 Q) mix (fun _ h => h) (cast (cCyy off len cap f (i : Nat) s b (nb ((cut S).left ++ s)) o n m (n + s.length - 1 + 1) S (Tk S : Nat) _).symm ⟨L1, L2, L3, L4, L3, L4, L7, congrArg AV.str L8, ⟨Nat.le_refl _, ⟨by omega, fun k _ => ⟨_, rfl, rfl⟩⟩, hp, by omega, room1 (by omega)⟩, rfl, tells_moved _ s b h1 h3, by omega, plain_int _, ?_⟩)
      rw [show n + s.length = n + s.length - 1 + 1 by omega]
      exact yDone hb hs hi hL (hn s hsl)

theorem leaves {i : Nat} {S : List UInt8} {M : AM} (hM : Head off len cap f i S M) (h : i < 60 → ¬ i < len) (h60 : i ≤ 60) : Goal P 0 3 Q M := by
  by_cases hil : i < len
  · have L1 : decide (((i : Nat) : Int) < (len : Int)) = true := decide_eq_true (by omega)
    have L2 : decide (((i : Nat) : Int) < 60) = false := decide_eq_false (by
      intro h'
      exact h (by omega) hil)
    cases hM with
    | bad hb => exact Obl.goal (K := fun _ => False) mix (fun _ h => h.elim) (cast (cXyn off len cap f (i : Nat) [] S _ _).symm ⟨L1, L2, works_ok, rfl⟩)
    | none hb hl => exact Obl.goal (K := fun _ => False) mix (fun _ h => h.elim) (cast (cNyn off len cap f (i : Nat) [] (nb []) 0 S _ _).symm ⟨L1, L2, works_ok, rfl⟩)
    | grown b n hb h1 h2 => exact Obl.goal (K := fun _ => False) mix (fun _ h => h.elim) (cast (cGyn off len cap f (i : Nat) [] b (nb []) n 0 S _ _).symm ⟨L1, L2, works_ok, rfl⟩)
    | rest b o n m hb h1 h2 h3 => exact Obl.goal (K := fun _ => False) mix (fun _ h => h.elim) (cast (cCyn off len cap f (i : Nat) [] b (nb []) o n m 0 S _ _).symm ⟨L1, L2, works_ok, rfl⟩)
  · have L1 : decide (((i : Nat) : Int) < (len : Int)) = false := decide_eq_false (by omega)
    cases hM with
    | bad hb => exact Obl.goal (K := fun _ => False) mix (fun _ h => h.elim) (cast (cXn off len cap f (i : Nat) [] S _ _).symm ⟨L1, works_ok, rfl⟩)
    | none hb hl => exact Obl.goal (K := fun _ => False) mix (fun _ h => h.elim) (cast (cNn off len cap f (i : Nat) [] (nb []) 0 S _ _).symm ⟨L1, works_ok, rfl⟩)
    | grown b n hb h1 h2 => exact Obl.goal (K := fun _ => False) mix (fun _ h => h.elim) (cast (cGn off len cap f (i : Nat) [] b (nb []) n 0 S _ _).symm ⟨L1, works_ok, rfl⟩)
    | rest b o n m hb h1 h2 h3 => exact Obl.goal (K := fun _ => False) mix (fun _ h => h.elim) (cast (cCn off len cap f (i : Nat) [] b (nb []) o n m 0 S _ _).symm ⟨L1, works_ok, rfl⟩)

theorem rounds (hlc : len ≤ cap) (d : Nat) : ∀ (i : Nat) (S : List UInt8) (M : AM), i + d = 60 → S.length ≤ 1000 * i → Head off len cap f i S M → Goal P 0 3 Q M := by
  induction d with
  | zero => exact fun i S M hi _ hM => leaves hM (fun h => by omega) (by omega)
  | succ d ih =>
    intro i S M hi hS hM
    by_cases hil : i < len
    · exact round hlc (by omega) hil hS hM fun s hs M hM => ih (i + 1) (S ++ s) M (by omega) (by rw [List.length_append]; omega) hM
    · exact leaves hM (fun _ => hil) (by omega)

end

end Go.Proofs.Ytfgaadhnplccpaa.frm
