/- The document's answer: its cleaning, and whether a text is a path. -/
import Derived.Test.YtdpgaemeapeilaaPaH
set_option maxRecDepth 100000
set_option linter.unusedVariables false
namespace Go.Proofs.Ytdpgaemeapeilaa.pth
open Go Ev

/-! ## Segments joined -/

theorem join_loop {R : AV → Prop} {f : Nat → List UInt8} {z : Nat} {G : T (T AV)} {l : List (List UInt8)} (hf : ∀ k x, l[k]? = some x → f k = x) (hz : l.length ≤ z) (hl : l.length ≤ 8) (hs : ∀ x ∈ l, segm x = true) {x : List UInt8} (hR : R (tup (jl x l.tail, 0))) :
    ∀ (n i : Nat) (t : List UInt8), i + n = l.length → 1 ≤ i → t.length ≤ 17 * i → jl t (l.drop i) = jl x l.tail → Goal P 0 7 (fun v _ => R v) (Ce f l.length z t i G)
  | 0, i, t, hn, _, _, ht => by
    rw [List.drop_eq_nil_of_le (by omega)] at ht
    have ht : t = jl x l.tail := ht
    exact Obl.goal (K := Goal P 0 7 _) mix (fun _ h => h) (cast (ceE R f l.length z t i G _).symm ⟨decide_eq_false (by omega), by rw [ht]; exact hR⟩)
  | n + 1, i, t, hn, h1, hb, ht => by
    have hi : i < l.length := by omega
    have hw : IntKind.i64.wrap ((i : Int) + 1) = ((i + 1 : Nat) : Int) := by rw [wi (by omega)]; rfl
    have hfi : f (0 + (i : Int).toNat * 1) = l[i] := by
      rw [show 0 + (i : Int).toNat * 1 = i by omega]
      exact hf i _ (List.getElem?_eq_getElem hi)
    have hsl := (seg_len (hs l[i] (List.getElem_mem hi))).2
    refine Obl.goal (K := Goal P 0 7 _) mix (fun _ h => h) (cast (ceR R f l.length z t i G _).symm ?_)
    rw [hw, hfi]
    refine ⟨decide_eq_true (by omega), by omega, ⟨by omega, by omega⟩, by omega, by rw [List.length_append, List.length_singleton]; omega, plain_row _, ?_⟩
    refine join_loop hf hz hl hs hR n (i + 1) _ (by omega) (by omega) (by rw [List.length_append, List.length_append, List.length_singleton]; omega) ?_
    rw [← ht, List.drop_eq_getElem_cons hi]
    rfl

/-! ## Cleaning -/

theorem fin_small {l : List (List UInt8)} (h : l.length > 8) : fin (some l) = ([], 6) := by
  cases l with
  | nil => simp at h
  | cons x r =>
    unfold fin
    simp only
    rw [if_pos (by simpa using h)]

theorem rclean_end {o : Option (List (List UInt8))} {g f : Nat → List UInt8} {n i z : Nat} {G : T (T AV)} {l : List (List UInt8)} (hi : n ≤ i) (hf : ∀ k x, l[k]? = some x → f k = x) (hz : l.length ≤ z) (hs : ∀ x ∈ l, segm x = true) (ho : o = some l) :
    Goal P 0 7 (fun v _ => Qf o v) (Cb g n i f l.length z G) := by
  subst ho
  by_cases h0 : l.length = 0
  · obtain rfl := List.length_eq_zero_iff.1 h0
    exact Obl.goal (K := Goal P 0 7 _) mix (fun _ h => h) (cast (cbE0 (Qf (some [])) false g f f n 0 z z i G _).symm ⟨decide_eq_false (by omega), rfl, rfl⟩)
  by_cases h9 : l.length > 8
  · exact Obl.goal (K := Goal P 0 7 _) mix (fun _ h => h) (cast (cbE9 (Qf (some l)) false g f f n l.length z z i G _).symm ⟨decide_eq_false (by omega), beq_eq_false_iff_ne.2 (by omega), decide_eq_true (by omega), by unfold Qf; rw [fin_small h9]; rfl⟩)
  refine Obl.goal (K := Goal P 0 7 _) mix (fun _ h => h) (cast (cbE (Qf (some l)) false g f f n l.length z z i G _).symm ⟨decide_eq_false (by omega), beq_eq_false_iff_ne.2 (by omega), decide_eq_false (by omega), ⟨by omega, by omega⟩, by omega, plain_row _, ?_⟩)
  match l, hf, hz, hs, h0, h9 with
  | x :: r, hf, hz, hs, _, h9 =>
    have e : f 0 = x := hf 0 x rfl
    rw [e]
    have hx := (seg_len (hs x (.head _))).2
    refine join_loop (R := Qf (some (x :: r))) hf hz (by omega) hs (x := x) ?_ r.length 1 x (by show 1 + r.length = r.length + 1; omega) (Nat.le_refl _) (by omega) rfl
    unfold Qf fin
    simp only
    rw [if_neg (fun h => h9 (by simpa using h))]
    rfl

theorem at_i {L : List (List UInt8)} {i : Nat} (h : i < L.length) : L.drop i = atL L (0 + (i : Int).toNat * 1) :: L.drop (i + 1) := by
  rw [show 0 + (i : Int).toNat * 1 = i by omega, List.drop_eq_getElem_cons h, atL_at L i _ (List.getElem?_eq_getElem h)]

theorem rclean_loop {G : T (T AV)} {L : List (List UInt8)} (hL : L.length < 2 ^ 30) {o : Option (List (List UInt8))} : ∀ (n i : Nat) (l : List (List UInt8)), i + n = L.length → l.length ≤ i → (∀ x ∈ l, segm x = true) → fo l (L.drop i) = o →
    (l = [] → Goal P 0 7 (fun v _ => Qf o v) (Ca (atL L) L.length i G)) ∧
    (∀ f z, (∀ k x, l[k]? = some x → f k = x) → l.length ≤ z → Goal P 0 7 (fun v _ => Qf o v) (Cb (atL L) L.length i f l.length z G))
  | 0, i, l, hn, hl, hs, ho => by
    rw [List.drop_eq_nil_of_le (by omega)] at ho
    have ho : o = some l := ho.symm
    refine ⟨fun e => ?_, fun f z hf hz => rclean_end (by omega) hf hz hs ho⟩
    subst e
    exact Obl.goal (K := Goal P 0 7 _) mix (fun _ h => h) (cast (caE (Qf o) false (atL L) (atL L) L.length 0 i G _).symm ⟨decide_eq_false (by omega), by rw [ho]; rfl⟩)
  | n + 1, i, l, hn, hl, hs, ho => by
    have hi : i < L.length := by omega
    have hw : IntKind.i64.wrap ((i : Int) + 1) = ((i + 1 : Nat) : Int) := by rw [wi (by omega)]; rfl
    have hr1 : 0 + (i : Int).toNat * 1 + 1 ≤ L.length := by omega
    rw [at_i hi] at ho
    generalize hp : atL L (0 + (i : Int).toNat * 1) = p at ho
    have hd := decide_eq_true (p := (i : Int) < (L.length : Int)) (by omega)
    have hb : (0 : Int) ≤ i ∧ (i : Int) < (L.length : Int) := ⟨by omega, by omega⟩
    rw [fo_cons] at ho
    by_cases e1 : p = []
    · rw [e1, wk_nil] at ho
      have ih := rclean_loop (G := G) hL n (i + 1) l (by omega) (by omega) hs ho
      refine ⟨fun e => ?_, fun f z hf hz => ?_⟩
      · exact Obl.goal (K := Goal P 0 7 _) mix (fun _ h => h) (cast (caBlank (Qf o) false (atL L) (atL L) L.length 0 i G _).symm (by rw [hw, hp]; exact ⟨hd, hb, hr1, beqT e1, plain_row _, ih.1 e⟩))
      · exact Obl.goal (K := Goal P 0 7 _) mix (fun _ h => h) (cast (cbBlank (Qf o) false (atL L) f f L.length l.length z z i G _).symm (by rw [hw, hp]; exact ⟨hd, hb, hr1, beqT e1, plain_row _, plain_row _, ih.2 f z hf hz⟩))
    by_cases e2 : p = [46]
    · rw [e2, wk_dot] at ho
      have ih := rclean_loop (G := G) hL n (i + 1) l (by omega) (by omega) hs ho
      refine ⟨fun e => ?_, fun f z hf hz => ?_⟩
      · exact Obl.goal (K := Goal P 0 7 _) mix (fun _ h => h) (cast (caDot (Qf o) false (atL L) (atL L) L.length 0 i G _).symm (by rw [hw, hp]; exact ⟨hd, hb, hr1, beqF e1, beqT e2, plain_row _, ih.1 e⟩))
      · exact Obl.goal (K := Goal P 0 7 _) mix (fun _ h => h) (cast (cbDot (Qf o) false (atL L) f f L.length l.length z z i G _).symm (by rw [hw, hp]; exact ⟨hd, hb, hr1, beqF e1, beqT e2, plain_row _, plain_row _, ih.2 f z hf hz⟩))
    by_cases e3 : p = [46, 46]
    · rw [e3, wk_up] at ho
      by_cases el : l = []
      · rw [if_pos el] at ho
        have ho : o = none := ho.symm
        subst el
        refine ⟨fun e => ?_, fun f z hf hz => ?_⟩
        · exact Obl.goal (K := Goal P 0 7 _) mix (fun _ h => h) (cast (caUp (Qf o) false (atL L) (atL L) L.length 0 i G _).symm (by rw [hp]; exact ⟨hd, hb, hr1, beqF e1, beqF e2, beqT e3, by rw [ho]; rfl⟩))
        · exact Obl.goal (K := Goal P 0 7 _) mix (fun _ h => h) (cast (cbUpN (Qf o) false (atL L) f f L.length 0 z z i G _).symm (by rw [hp]; exact ⟨hd, hb, hr1, beqF e1, beqF e2, beqT e3, rfl, by rw [ho]; rfl⟩))
      · rw [if_neg el] at ho
        have hpos : 0 < l.length := List.length_pos_iff.2 el
        have hs' : ∀ x ∈ l.dropLast, segm x = true := fun x hx => hs x ((List.dropLast_sublist l).subset hx)
        have ih := rclean_loop (G := G) hL n (i + 1) l.dropLast (by omega) (by rw [List.length_dropLast]; omega) hs' ho
        refine ⟨fun e => absurd e el, fun f z hf hz => ?_⟩
        have hn2 : IntKind.i64.wrap ((l.length : Int) - 1) = (l.length : Int) - 1 := wi (by omega)
        have hn3 : ((l.length : Int) - 1).toNat - 0 = l.dropLast.length := by rw [List.length_dropLast]; omega
        exact Obl.goal (K := Goal P 0 7 _) mix (fun _ h => h) (cast (cbUp (Qf o) false (atL L) f f L.length l.length z z i G _).symm (by rw [hw, hp, hn2, hn3]; exact ⟨hd, hb, hr1, beqF e1, beqF e2, beqT e3, beq_eq_false_iff_ne.2 (by omega), ⟨by omega, by omega⟩, plain_row _, plain_row _, ih.2 f z (drop_at hf) (by rw [List.length_dropLast]; omega)⟩))
    have hsg := rsegm_ok p G
    rw [wk_else e1 e2 e3] at ho
    cases hq : segm p with
    | false =>
      rw [hq] at ho hsg
      have ho : o = none := ho.symm
      refine ⟨fun e => ?_, fun f z hf hz => ?_⟩
      · exact Obl.goal (K := Goal P 0 7 _) mix (fun _ h => h) (cast (caBad (Qf o) false (atL L) (atL L) L.length 0 i G _).symm (by rw [hp]; exact ⟨hd, hb, hr1, beqF e1, beqF e2, beqF e3, hsg, rfl, by rw [ho]; rfl⟩))
      · exact Obl.goal (K := Goal P 0 7 _) mix (fun _ h => h) (cast (cbBad (Qf o) false (atL L) f f L.length l.length z z i G _).symm (by rw [hp]; exact ⟨hd, hb, hr1, beqF e1, beqF e2, beqF e3, hsg, rfl, by rw [ho]; rfl⟩))
    | true =>
      rw [hq] at ho hsg
      have ho : fo (l ++ [p]) (L.drop (i + 1)) = o := ho
      have hl1 : (l ++ [p]).length = l.length + 1 := by rw [List.length_append, List.length_singleton]
      have hs' : ∀ x ∈ l ++ [p], segm x = true := fun x hx => by
        rcases List.mem_append.1 hx with hx | hx
        · exact hs x hx
        · rw [List.mem_singleton.1 hx]; exact hq
      have ih := rclean_loop (G := G) hL n (i + 1) (l ++ [p]) (by omega) (by omega) hs' ho
      refine ⟨fun e => ?_, fun f z hf hz => ?_⟩
      · subst e
        exact Obl.goal (K := Goal P 0 7 _) mix (fun _ h => h) (cast (caSeg (Qf o) true (atL L) (fun _ => p) L.length i G _).symm (by rw [hw, hp]; exact ⟨hd, hb, hr1, beqF e1, beqF e2, beqF e3, hsg, rfl, one_tells, rfl, plain_row _, plain_row _, ih.2 (fun _ => p) 1 (fun k x e => by
          cases k with
          | zero => simpa using e
          | succ k => simp at e) (Nat.le_refl _)⟩))
      · have ha := put_at hf p
        by_cases hroom : z < l.length + 1
        · exact Obl.goal (K := Goal P 0 7 _) mix (fun _ h => h) (cast (cbSeg (Qf o) true (atL L) f (put f l.length p) L.length l.length z (l.length + 1) i G _).symm (by rw [hw, hp, ← hl1]; exact ⟨hd, hb, hr1, beqF e1, beqF e2, beqF e3, hsg, rfl, ⟨⟨by omega, one_str⟩, by omega, by omega, by omega, by omega, room16 (by omega), by omega⟩, put_tells, by omega, plain_row _, plain_row _, ih.2 _ _ ha (Nat.le_refl _)⟩))
        · exact Obl.goal (K := Goal P 0 7 _) mix (fun _ h => h) (cast (ccSeg (Qf o) true (atL L) f (put f l.length p) L.length l.length z z i G _).symm (by rw [hw, hp, ← hl1]; exact ⟨hd, hb, hr1, beqF e1, beqF e2, beqF e3, hsg, rfl, ⟨⟨by omega, one_str⟩, by omega, by omega, by omega, by omega, by omega⟩, put_tells, rfl, plain_row _, plain_row _, ih.2 _ _ ha (by omega)⟩))

theorem sp_len : ∀ (s a : List UInt8), (sp s a).length ≤ s.length + 1
  | [], a => by unfold sp; simp
  | c :: r, a => by
    unfold sp
    split
    · have := sp_len r []
      simp only [List.length_cons]
      omega
    · have := sp_len r (a ++ [c])
      simp only [List.length_cons]
      omega

theorem rclean_ok {s : List UInt8} {G : T (T AV)} (hs : s.length < 2 ^ 29) : Goal P 0 7 (fun v _ => v = tup (cl s)) (startM P 7 [.str s] G) := by
  have hl := sp_len s []
  exact Obl.goal (K := Goal P 0 7 _) mix (fun _ h => h) (cast (rc0 (Qf (fo [] (sp s []))) s false (atL (sp s [])) (sp s []).length G _).symm ⟨plain_row _, pieces_ok hs, plain_row _, (rclean_loop (o := fo [] (sp s [])) (by omega) (sp s []).length 0 [] (by omega) (by simp) (fun x hx => by cases hx) rfl).1 rfl⟩)

/-! ## Is a text a path? -/

def mayR (s : List UInt8) : Bool := (sp s []).all segm && decide ((sp s []).length ≤ 8)
def mayP (s : List UInt8) : Bool := decide ((cl s).2 = 0) && (cl s).1 == s

theorem rmay_loop {G : T (T AV)} {L : List (List UInt8)} (hL : L.length < 2 ^ 30) : ∀ (n i : Nat), i + n = L.length → (L.take i).all segm = true → Goal P 0 9 (fun v _ => v = .bool (L.all segm && decide (L.length ≤ 8))) (Rm (atL L) L.length i G)
  | 0, i, hn, ha => by
    rw [List.take_of_length_le (by omega)] at ha
    refine Obl.goal (K := fun _ => False) mix (fun _ h => h.elim) (cast (rmE (fun v => v = .bool (L.all segm && decide (L.length ≤ 8))) false (atL L) L.length i G _).symm ⟨decide_eq_false (by omega), ?_⟩)
    rw [ha, Bool.true_and]
    have : decide ((L.length : Int) ≤ 8) = decide (L.length ≤ 8) := by
      rw [decide_eq_decide]
      omega
    rw [this]
  | n + 1, i, hn, ha => by
    have hi : i < L.length := by omega
    have hw : IntKind.i64.wrap ((i : Int) + 1) = ((i + 1 : Nat) : Int) := by rw [wi (by omega)]; rfl
    have hp : atL L (0 + (i : Int).toNat * 1) = L[i] := by
      rw [show 0 + (i : Int).toNat * 1 = i by omega]
      exact atL_at L i _ (List.getElem?_eq_getElem hi)
    have hsg := rsegm_ok L[i] G
    cases hq : segm L[i] with
    | false =>
      rw [hq] at hsg
      have hall : L.all segm = false := by
        rw [Bool.eq_false_iff]
        intro h
        rw [List.all_eq_true] at h
        rw [h _ (List.getElem_mem hi)] at hq
        cases hq
      exact Obl.goal (K := fun _ => False) mix (fun _ h => h.elim) (cast (rmBad (fun v => v = .bool (L.all segm && decide (L.length ≤ 8))) false (atL L) L.length i G _).symm (by rw [hp, hall]; exact ⟨decide_eq_true (by omega), ⟨by omega, by omega⟩, by omega, hsg, rfl, rfl⟩))
    | true =>
      rw [hq] at hsg
      have ih := rmay_loop (G := G) hL n (i + 1) (by omega) (by
        rw [List.take_succ_eq_append_getElem hi, List.all_append, ha]
        simp [hq])
      exact Obl.goal (K := Goal P 0 9 _) mix (fun _ h => h) (cast (rmGood _ true (atL L) L.length i G _).symm (by rw [hp, hw]; exact ⟨decide_eq_true (by omega), ⟨by omega, by omega⟩, by omega, hsg, rfl, plain_row _, ih⟩))

theorem rmay_ok {s : List UInt8} {G : T (T AV)} (hs : s.length < 2 ^ 29) : Goal P 0 9 (fun v _ => v = .bool (mayR s)) (startM P 9 [.str s] G) := by
  have hl := sp_len s []
  exact Obl.goal (K := Goal P 0 9 _) mix (fun _ h => h) (cast (rm0 (fun v => v = .bool (mayR s)) s false (atL (sp s [])) (sp s []).length G _).symm ⟨plain_row _, pieces_ok hs, plain_row _, rmay_loop (by omega) (sp s []).length 0 (by omega) rfl⟩)

theorem may_ok {s : List UInt8} {G : T (T AV)} (hs : s.length < 2 ^ 29) : Goal P 0 8 (fun v _ => v = .bool (mayP s)) (startM P 8 [.str s] G) := by
  have hc := clean_ok (G := G) hs
  by_cases h : (cl s).2 = 0
  · refine Obl.goal (K := fun _ => False) mix (fun _ h => h.elim) (cast (pmy (fun v => v = .bool (mayP s)) s (cl s).1 (cl s).2 G _).symm ⟨hc, beq_iff_eq.2 h, ?_⟩)
    unfold mayP
    rw [decide_eq_true h, Bool.true_and]
  · refine Obl.goal (K := fun _ => False) mix (fun _ h => h.elim) (cast (pmn (fun v => v = .bool (mayP s)) s (cl s).1 (cl s).2 G _).symm ⟨hc, beq_eq_false_iff_ne.2 h, ?_⟩)
    unfold mayP
    rw [decide_eq_false h, Bool.false_and]

end Go.Proofs.Ytdpgaemeapeilaa.pth
