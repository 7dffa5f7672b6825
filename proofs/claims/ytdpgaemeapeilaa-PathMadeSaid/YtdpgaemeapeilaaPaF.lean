/- What the program cleans a text to: the fold over its pieces. -/
import Derived.Test.YtdpgaemeapeilaaPaE
set_option maxRecDepth 100000
set_option linter.unusedVariables false
namespace Go.Proofs.Ytdpgaemeapeilaa.pth
open Go Ev

def Qf (o : Option (List (List UInt8))) : AV → Prop := fun v => v = tup (fin o)

theorem plain_row (g : Nat → List UInt8) : PlainFn fun k => some (AV.str (g k)) := fun _ _ h => by cases h; rfl

theorem beqT {a b : List UInt8} (h : a = b) : (a == b) = true := beq_iff_eq.2 h
theorem beqF {a b : List UInt8} (h : a ≠ b) : (a == b) = false := beq_eq_false_iff_ne.2 h

theorem one_tells {p : List UInt8} : Tells 1 (.fn fun k => some (AV.str p)) (.node .leaf (some (.str p)) .leaf) := by
  intro k v hk e
  obtain rfl : k = 0 := by omega
  exact e

theorem stepA {o : Option (List (List UInt8))} {s0 s p rest : List UInt8} {more : Bool} {G : T (T AV)} (hc : Goal P 0 19 (fun x _ => x = AV.tup [AV.str p, AV.str rest, AV.bool more]) (startM P 19 [.str s, .str [47]] G))
    (hN : wk [] p = none → o = none) (hE : more = false → ∀ l', wk [] p = some l' → o = some l')
    (h0 : more = true → wk [] p = some [] → Goal P 0 6 (fun v _ => Qf o v) (Ma s0 rest G))
    (h1 : more = true → wk [] p = some [p] → Goal P 0 6 (fun v _ => Qf o v) (Mb s0 rest (fun _ => p) 1 1 G)) : Goal P 0 6 (fun v _ => Qf o v) (Ma s0 s G) := by
  by_cases e1 : p = []
  · have hw : wk [] p = some [] := by rw [e1, wk_nil]
    cases more with
    | true => exact Obl.goal (K := Goal P 0 6 _) mix (fun _ h => h) (cast (aBlank (Qf o) s0 s p rest (fun _ => p) 1 true false G _).symm ⟨hc, beqT e1, rfl, h0 rfl hw⟩)
    | false => exact Obl.goal (K := Goal P 0 6 _) mix (fun _ h => h) (cast (aBlankE (Qf o) s0 s p rest (fun _ => p) 1 false false G _).symm ⟨hc, beqT e1, rfl, by rw [hE rfl _ hw]; rfl⟩)
  by_cases e2 : p = [46]
  · have hw : wk [] p = some [] := by rw [e2, wk_dot]
    cases more with
    | true => exact Obl.goal (K := Goal P 0 6 _) mix (fun _ h => h) (cast (aDot (Qf o) s0 s p rest (fun _ => p) 1 true false G _).symm ⟨hc, beqF e1, beqT e2, rfl, h0 rfl hw⟩)
    | false => exact Obl.goal (K := Goal P 0 6 _) mix (fun _ h => h) (cast (aDotE (Qf o) s0 s p rest (fun _ => p) 1 false false G _).symm ⟨hc, beqF e1, beqT e2, rfl, by rw [hE rfl _ hw]; rfl⟩)
  have hsg := segm_ok p G
  by_cases e3 : p = [46, 46]
  · have hw : wk [] p = none := by rw [e3, wk_up, if_pos rfl]
    have hf : segm p = false := by rw [e3, seg_up]
    rw [hf] at hsg
    exact Obl.goal (K := Goal P 0 6 _) mix (fun _ h => h) (cast (aUp (Qf o) s0 s p rest (fun _ => p) 1 more false G _).symm ⟨hc, beqF e1, beqF e2, beqT e3, hsg, rfl, by rw [hN hw]; rfl⟩)
  have hw := wk_else (l := []) e1 e2 e3
  cases hs : segm p with
  | false =>
    rw [hs] at hsg hw
    exact Obl.goal (K := Goal P 0 6 _) mix (fun _ h => h) (cast (aBad (Qf o) s0 s p rest (fun _ => p) 1 more false G _).symm ⟨hc, beqF e1, beqF e2, beqF e3, hsg, rfl, by rw [hN (by rw [hw]; rfl)]; rfl⟩)
  | true =>
    rw [hs] at hsg hw
    have hw : wk [] p = some [p] := by rw [hw]; rfl
    cases more with
    | true =>
      refine Obl.goal (K := Goal P 0 6 _) mix (fun _ h => h) (cast (aSeg (Qf o) s0 s p rest (fun _ => p) 1 true true G _).symm ⟨hc, beqF e1, beqF e2, beqF e3, hsg, rfl, ?_, rfl, rfl, plain_row _, h1 rfl hw⟩)
      exact one_tells
    | false => exact Obl.goal (K := Goal P 0 6 _) mix (fun _ h => h) (cast (aSegE (Qf o) s0 s p rest (fun _ => p) 1 false true G _).symm ⟨hc, beqF e1, beqF e2, beqF e3, hsg, rfl, one_tells, rfl, rfl, Nat.le_refl _, by rw [hE rfl _ hw]; rfl⟩)

def put (g : Nat → List UInt8) (n : Nat) (p : List UInt8) : Nat → List UInt8 := fun k => if k = n then p else g k

theorem put_tells {g : Nat → List UInt8} {n z : Nat} {p : List UInt8} : Tells z (.fn fun k => some (.str (put g n p k))) (.fn fun k => bif (0 + n * 1).ble k && k.blt (0 + n * 1 + 1 * 1) then (fun k => (T.leaf.node (some (AV.str p)) T.leaf).get (0 + k)) (k - (0 + n * 1)) else (T.fn fun k => some (AV.str (g k))).get k) := by
  intro k v _ e
  cases e
  show (bif (0 + n * 1).ble k && k.blt (0 + n * 1 + 1 * 1) then (T.leaf.node (some (AV.str p)) T.leaf).get (0 + (k - (0 + n * 1))) else some (AV.str (g k))) = some (AV.str (put g n p k))
  unfold put
  by_cases h : k = n
  · subst h
    have e : ((0 + k * 1).ble k && k.blt (0 + k * 1 + 1 * 1)) = true := by
      rw [Bool.and_eq_true]
      exact ⟨Nat.ble_eq_true_of_le (by omega), Nat.ble_eq_true_of_le (by omega)⟩
    rw [e, cond_true, if_pos rfl, show 0 + (k - (0 + k * 1)) = 0 by omega]
    rfl
  · have e : ((0 + n * 1).ble k && k.blt (0 + n * 1 + 1 * 1)) = false := by
      rw [Bool.and_eq_false_iff]
      by_cases hlt : k < n
      · left
        cases hq : (0 + n * 1).ble k with
        | false => rfl
        | true => have := Nat.le_of_ble_eq_true hq; omega
      · right
        cases hq : k.blt (0 + n * 1 + 1 * 1) with
        | false => rfl
        | true => have := Nat.le_of_ble_eq_true hq; omega
    rw [e, cond_false, if_neg h]

theorem put_at {g : Nat → List UInt8} {l : List (List UInt8)} (hg : ∀ k x, l[k]? = some x → g k = x) (p : List UInt8) : ∀ k x, (l ++ [p])[k]? = some x → put g l.length p k = x := by
  intro k x e
  unfold put
  by_cases h : k = l.length
  · subst h
    rw [if_pos rfl]
    simpa using e
  · rw [if_neg h]
    have hlt : k < (l ++ [p]).length := (List.getElem?_eq_some_iff.1 e).1
    rw [List.length_append, List.length_singleton] at hlt
    rw [List.getElem?_append_left (by omega)] at e
    exact hg k x e

theorem drop_at {g : Nat → List UInt8} {l : List (List UInt8)} (hg : ∀ k x, l[k]? = some x → g k = x) : ∀ k x, l.dropLast[k]? = some x → g k = x := by
  intro k x e
  have hlt := (List.getElem?_eq_some_iff.1 e).1
  rw [List.length_dropLast] at hlt
  rw [List.getElem?_dropLast, if_pos hlt] at e
  exact hg k x e

theorem one_str {p : List UInt8} : ∀ k, k < 1 * 1 → ∃ v, (T.leaf.node (some (AV.str p)) T.leaf).get (0 + k) = some v ∧ v.one = true := by
  intro k hk
  obtain rfl : k = 0 := by omega
  exact ⟨_, rfl, rfl⟩

theorem room16 {n : Nat} (h : n < 2 ^ 31) : roomA n 16 = true := by
  unfold roomA
  rw [Bool.and_eq_true]
  exact ⟨Nat.ble_eq_true_of_le (by omega), Nat.ble_eq_true_of_le (by omega)⟩

theorem stepB {o : Option (List (List UInt8))} {s0 s p rest : List UInt8} {more : Bool} {G : T (T AV)} {l : List (List UInt8)} {g : Nat → List UInt8} {z : Nat} (hc : Goal P 0 19 (fun x _ => x = AV.tup [AV.str p, AV.str rest, AV.bool more]) (startM P 19 [.str s, .str [47]] G))
    (hg : ∀ k x, l[k]? = some x → g k = x) (hz : l.length ≤ z) (hl : l.length < 2 ^ 30) (hsl : ∀ x ∈ l, segm x = true)
    (hN : wk l p = none → o = none) (hE : more = false → ∀ l', wk l p = some l' → o = some l')
    (h1 : more = true → ∀ l' g' z', wk l p = some l' → (∀ k x, l'[k]? = some x → g' k = x) → l'.length ≤ z' → Goal P 0 6 (fun v _ => Qf o v) (Mb s0 rest g' l'.length z' G)) : Goal P 0 6 (fun v _ => Qf o v) (Mb s0 s g l.length z G) := by
  have hX : ∀ {g' : Nat → List UInt8} {z' : Nat} {l' : List (List UInt8)}, more = false → wk l p = some l' → (∀ k x, l'[k]? = some x → g' k = x) → l'.length ≤ z' → Goal P 0 6 (fun v _ => Qf o v) (Xb g' l'.length z' G) := by
    intro g' z' l' hm hw ha hz'
    have := xb_ok (G := G) ha hz' (wk_seg hsl hw)
    rw [← hE hm l' hw] at this
    exact this
  by_cases e1 : p = []
  · have hw : wk l p = some l := by rw [e1, wk_nil]
    cases more with
    | true => exact Obl.goal (K := Goal P 0 6 _) mix (fun _ h => h) (cast (bBlank (Qf o) s0 s p rest g g l.length z z true false G _).symm ⟨hc, beqT e1, rfl, plain_row _, h1 rfl l g z hw hg hz⟩)
    | false => exact Obl.goal (K := Goal P 0 6 _) mix (fun _ h => h) (cast (bBlankE (Qf o) s0 s p rest g g l.length z z false false G _).symm ⟨hc, beqT e1, rfl, plain_row _, hX rfl hw hg hz⟩)
  by_cases e2 : p = [46]
  · have hw : wk l p = some l := by rw [e2, wk_dot]
    cases more with
    | true => exact Obl.goal (K := Goal P 0 6 _) mix (fun _ h => h) (cast (bDot (Qf o) s0 s p rest g g l.length z z true false G _).symm ⟨hc, beqF e1, beqT e2, rfl, plain_row _, h1 rfl l g z hw hg hz⟩)
    | false => exact Obl.goal (K := Goal P 0 6 _) mix (fun _ h => h) (cast (bDotE (Qf o) s0 s p rest g g l.length z z false false G _).symm ⟨hc, beqF e1, beqT e2, rfl, plain_row _, hX rfl hw hg hz⟩)
  have hsg := segm_ok p G
  by_cases e3 : p = [46, 46]
  · by_cases el : l = []
    · have hw : wk l p = none := by rw [e3, wk_up, if_pos el]
      have hf : segm p = false := by rw [e3, seg_up]
      rw [hf] at hsg
      subst el
      exact Obl.goal (K := Goal P 0 6 _) mix (fun _ h => h) (cast (bUpN (Qf o) s0 s p rest g g 0 z z more false G _).symm ⟨hc, beqF e1, beqF e2, beqT e3, rfl, hsg, rfl, by rw [hN hw]; rfl⟩)
    · have hw : wk l p = some l.dropLast := by rw [e3, wk_up, if_neg el]
      have hpos : 0 < l.length := List.length_pos_iff.2 el
      have hn : (IntKind.i64.wrap ((l.length : Int) - 1)).toNat = l.dropLast.length := by
        rw [wi (by omega), List.length_dropLast]
        omega
      have hn2 : IntKind.i64.wrap ((l.length : Int) - 1) = (l.length : Int) - 1 := wi (by omega)
      have hd : l.dropLast.length ≤ z := by rw [List.length_dropLast]; omega
      cases more with
      | true => exact Obl.goal (K := Goal P 0 6 _) mix (fun _ h => h) (cast (bUp (Qf o) s0 s p rest g g l.length z z true false G _).symm ⟨hc, beqF e1, beqF e2, beqT e3, decide_eq_true (by omega), ⟨by rw [hn2]; omega, by rw [hn2]; omega⟩, rfl, plain_row _, by rw [hn]; exact h1 rfl _ g z hw (drop_at hg) hd⟩)
      | false => exact Obl.goal (K := Goal P 0 6 _) mix (fun _ h => h) (cast (bUpE (Qf o) s0 s p rest g g l.length z z false false G _).symm ⟨hc, beqF e1, beqF e2, beqT e3, decide_eq_true (by omega), ⟨by rw [hn2]; omega, by rw [hn2]; omega⟩, rfl, plain_row _, by rw [hn]; exact hX rfl hw (drop_at hg) hd⟩)
  have hw := wk_else (l := l) e1 e2 e3
  cases hs : segm p with
  | false =>
    rw [hs] at hsg hw
    exact Obl.goal (K := Goal P 0 6 _) mix (fun _ h => h) (cast (bBad (Qf o) s0 s p rest g g l.length z z more false G _).symm ⟨hc, beqF e1, beqF e2, beqF e3, hsg, rfl, by rw [hN (by rw [hw]; rfl)]; rfl⟩)
  | true =>
    rw [hs] at hsg hw
    have hw : wk l p = some (l ++ [p]) := by rw [hw]; rfl
    have hl1 : (l ++ [p]).length = l.length + 1 := by rw [List.length_append, List.length_singleton]
    have ha := put_at hg p
    by_cases hroom : z < l.length + 1
    · cases more with
      | true => exact Obl.goal (K := Goal P 0 6 _) mix (fun _ h => h) (cast (bSeg (Qf o) s0 s p rest g (put g l.length p) l.length z (l.length + 1) true true G _).symm ⟨hc, beqF e1, beqF e2, beqF e3, hsg, rfl, ⟨⟨by omega, one_str⟩, by omega, by omega, by omega, by omega, room16 (by omega), by omega⟩, put_tells, by omega, rfl, plain_row _, by rw [← hl1]; exact h1 rfl _ _ _ hw ha (Nat.le_refl _)⟩)
      | false => exact Obl.goal (K := Goal P 0 6 _) mix (fun _ h => h) (cast (bSegE (Qf o) s0 s p rest g (put g l.length p) l.length z (l.length + 1) false true G _).symm ⟨hc, beqF e1, beqF e2, beqF e3, hsg, rfl, ⟨⟨by omega, one_str⟩, by omega, by omega, by omega, by omega, room16 (by omega), by omega⟩, put_tells, by omega, rfl, plain_row _, by rw [← hl1]; exact hX rfl hw ha (Nat.le_refl _)⟩)
    · cases more with
      | true => exact Obl.goal (K := Goal P 0 6 _) mix (fun _ h => h) (cast (cSeg (Qf o) s0 s p rest g (put g l.length p) l.length z z true true G _).symm ⟨hc, beqF e1, beqF e2, beqF e3, hsg, rfl, ⟨⟨by omega, one_str⟩, by omega, by omega, by omega, by omega, by omega⟩, put_tells, rfl, rfl, plain_row _, by rw [← hl1]; exact h1 rfl _ _ _ hw ha (by omega)⟩)
      | false => exact Obl.goal (K := Goal P 0 6 _) mix (fun _ h => h) (cast (cSegE (Qf o) s0 s p rest g (put g l.length p) l.length z z false true G _).symm ⟨hc, beqF e1, beqF e2, beqF e3, hsg, rfl, ⟨⟨by omega, one_str⟩, by omega, by omega, by omega, by omega, by omega⟩, put_tells, rfl, rfl, plain_row _, by rw [← hl1]; exact hX rfl hw ha (by omega)⟩)

theorem fo_cons (l : List (List UInt8)) (p : List UInt8) (r : List (List UInt8)) : fo l (p :: r) = match wk l p with
    | none => none
    | some l' => fo l' r := by rw [fo]; rfl

theorem clean_loop {G : T (T AV)} : ∀ (N : Nat) (s : List UInt8), s.length < N → s.length < 2 ^ 29 →
    (∀ s0, Goal P 0 6 (fun v _ => Qf (fo [] (sp s [])) v) (Ma s0 s G)) ∧
    (∀ s0 l g z, (∀ k x, l[k]? = some x → g k = x) → l.length ≤ z → (∀ x ∈ l, segm x = true) → l.length + s.length < 2 ^ 30 → Goal P 0 6 (fun v _ => Qf (fo l (sp s [])) v) (Mb s0 s g l.length z G))
  | 0, s, h, _ => absurd h (by omega)
  | N + 1, s, h, hb => by
    rcases parts s with hno | ⟨p, r, rfl, hp⟩
    · rw [sp_no s [] hno, List.nil_append]
      refine ⟨fun s0 => ?_, fun s0 l g z hg hz hsl hlb => ?_⟩
      · refine stepA (cut_no hno) (fun e => by rw [fo_cons, e]) (fun _ l' e => by rw [fo_cons, e]; rfl) (fun hm => by cases hm) (fun hm => by cases hm)
      · refine stepB (cut_no hno) hg hz (by omega) hsl (fun e => by rw [fo_cons, e]) (fun _ l' e => by rw [fo_cons, e]; rfl) (fun hm => by cases hm)
    · have hlen : (p ++ 47 :: r).length = p.length + (r.length + 1) := by rw [List.length_append, List.length_cons]
      rw [sp_at r p [] hp, List.nil_append]
      obtain ⟨iA, iB⟩ := clean_loop N r (by omega) (by omega)
      have hc := cut_at (G := G) hp (by omega : (p ++ 47 :: r).length < 9223372036854775807)
      refine ⟨fun s0 => ?_, fun s0 l g z hg hz hsl hlb => ?_⟩
      · refine stepA hc (fun e => by rw [fo_cons, e]) (fun hm => by cases hm) (fun _ e => ?_) (fun _ e => ?_)
        · rw [fo_cons, e]
          exact iA s0
        · rw [fo_cons, e]
          have hs1 : ∀ x ∈ [p], segm x = true := wk_seg (l := []) (fun x hx => by cases hx) e
          exact iB s0 [p] (fun _ => p) 1 (fun k x e => by
            cases k with
            | zero => simpa using e
            | succ k => simp at e) (Nat.le_refl _) hs1 (by show 1 + r.length < _; omega)
      · refine stepB hc hg hz (by omega) hsl (fun e => by rw [fo_cons, e]) (fun hm => by cases hm) (fun _ l' g' z' e ha hz' => ?_)
        rw [fo_cons, e]
        have hl' : l'.length ≤ l.length + 1 := by
          unfold wk at e
          split at e
          · cases e; omega
          split at e
          · cases e; omega
          split at e
          · split at e
            · cases e
            · cases e
              rw [List.length_dropLast]; omega
          split at e
          · cases e
            rw [List.length_append, List.length_singleton]; omega
          · cases e
        exact iB s0 l' g' z' ha hz' (wk_seg hsl e) (by omega)

theorem clean_start (R : AV → Prop) (s : List UInt8) (G : T (T AV)) (K : AM → Prop) : Obl P 6 (fun v _ => R v) 0 K [.run 36, .can 0 [5, 3, 0, 1, 2, 4] [0, 1] [[2, 3, 4]]] (startM P 6 [.str s] G) = K (Ma s s G) := by kernel_rfl

/-- What the program cleans a text to. -/
theorem clean_ok {s : List UInt8} {G : T (T AV)} (h : s.length < 2 ^ 29) : Goal P 0 6 (fun v _ => v = tup (cl s)) (startM P 6 [.str s] G) :=
  Obl.goal (K := Goal P 0 6 _) mix (fun _ h => h) (cast (clean_start (Qf (fo [] (sp s []))) s G _).symm ((clean_loop (s.length + 1) s (Nat.lt_succ_self _) h).1 s))

end Go.Proofs.Ytdpgaemeapeilaa.pth
