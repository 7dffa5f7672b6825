/- The document's answer: what its pieces are, what it cleans a text to, whether a text is a path. -/
import Derived.Test.YtdpgaemeapeilaaPaG
set_option maxRecDepth 100000
set_option linter.unusedVariables false
namespace Go.Proofs.Ytdpgaemeapeilaa.pth
open Go Ev

/-! ## Pieces -/

def atL (L : List (List UInt8)) : Nat → List UInt8 := fun k => L.getD k []
theorem atL_at (L : List (List UInt8)) : ∀ k x, L[k]? = some x → atL L k = x := fun k x h => by
  unfold atL
  simp [List.getD, h]

noncomputable def rowH (L : List (List UInt8)) (G : T (T AV)) : AHeap := ⟨.node .leaf (some (.cells (.fn fun k => some (.str (atL L k))) L.length 9 0 0 1 0 false .leaf)) .leaf, 1, G⟩

theorem at_byte {s : List UInt8} {i : Nat} (h : i < s.length) : s.drop i = s.getD i 0 :: s.drop (i + 1) := getD_drop0 h

theorem one_byte {s : List UInt8} {i : Nat} (h : i < s.length) : List.take (i + 1 - i) (List.drop i s) = [s.getD i 0] := by
  rw [at_byte h, show i + 1 - i = 1 by omega]
  rfl

theorem byte_eq {b : UInt8} : (((b.toNat : Int) == 47) = true) ↔ b = 47 := by
  rw [beq_iff_eq]
  constructor
  · intro h
    exact UInt8.toNat_inj.1 (by have : (47 : UInt8).toNat = 47 := rfl; omega)
  · rintro rfl
    rfl

theorem last_tells {g : Nat → List UInt8} {l : List (List UInt8)} {p : List UInt8} (hg : ∀ k x, l[k]? = some x → g k = x) :
    Tells (l.length + 1) (.fn fun k => some (.str (atL (l ++ [p]) k))) (.fn fun k => bif (0 + l.length * 1).ble k && k.blt (0 + l.length * 1 + 1 * 1) then (fun k => (T.leaf.node (some (AV.str p)) T.leaf).get (0 + k)) (k - (0 + l.length * 1)) else (T.fn fun k => some (AV.str (g k))).get k) := by
  intro k v hk e
  refine put_tells (z := l.length + 1) k v hk ?_
  cases e
  show some (AV.str (put g l.length p k)) = some (AV.str (atL (l ++ [p]) k))
  have hlt : k < (l ++ [p]).length := by rw [List.length_append, List.length_singleton]; exact hk
  rw [put_at hg p k _ (List.getElem?_eq_getElem hlt), atL_at _ k _ (List.getElem?_eq_getElem hlt)]

theorem pieces_loop {G : T (T AV)} {s : List UInt8} {L : List (List UInt8)} (hs : s.length < 2 ^ 29) : ∀ (n i : Nat) (a : List UInt8) (l : List (List UInt8)), i + n = s.length → a.length ≤ i → l.length ≤ i → l ++ sp (s.drop i) a = L →
    (l = [] → Goal P 0 16 (fun v h => v = .slg 0 0 0 L.length 0 ∧ h = rowH L G) (Ra s a i G)) ∧
    (∀ g, (∀ k x, l[k]? = some x → g k = x) → Goal P 0 16 (fun v h => v = .slg 0 0 0 L.length 0 ∧ h = rowH L G) (Rb s a i g l.length G))
  | 0, i, a, l, hn, ha, hl, hL => by
    have hd : s.drop i = [] := List.drop_eq_nil_of_le (by omega)
    rw [hd] at hL
    have hL : l ++ [a] = L := hL
    subst hL
    have hlen : (l ++ [a]).length = l.length + 1 := by rw [List.length_append, List.length_singleton]
    refine ⟨fun e => ?_, fun g hg => ?_⟩
    · subst e
      refine Obl.goal (K := fun _ => False) mix (fun _ h => h.elim) (cast (raE (fun v h => v = .slg 0 0 0 ([] ++ [a]).length 0 ∧ h = rowH ([] ++ [a]) G) s a i (atL ([] ++ [a])) G _).symm ⟨decide_eq_false (by omega), ?_, rfl, plain_row _, rfl, rfl⟩)
      intro k v hk e
      obtain rfl : k = 0 := by omega
      exact e
    · refine Obl.goal (K := fun _ => False) mix (fun _ h => h.elim) (cast (rbE (fun v h => v = .slg 0 0 0 (l ++ [a]).length 0 ∧ h = rowH (l ++ [a]) G) s a i g (atL (l ++ [a])) l.length G _).symm ⟨decide_eq_false (by omega), ⟨⟨by omega, one_str⟩, by omega, by omega, by omega, by omega, room16 (by omega), by omega⟩, last_tells hg, by omega, plain_row _, ?_⟩)
      unfold rowH
      rw [hlen]
      exact ⟨rfl, rfl⟩
  | n + 1, i, a, l, hn, ha, hl, hL => by
    have hi : i < s.length := by omega
    have hw : IntKind.i64.wrap ((i : Int) + 1) = ((i + 1 : Nat) : Int) := by rw [wi (by omega)]; rfl
    rw [at_byte hi] at hL
    by_cases hc : s.getD i 0 = 47
    · have hL : (l ++ [a]) ++ sp (s.drop (i + 1)) [] = L := by
        rw [← hL, hc, List.append_assoc, sp.eq_def (47 :: _)]
        simp
      have hlen : (l ++ [a]).length = l.length + 1 := by rw [List.length_append, List.length_singleton]
      have ih := (pieces_loop (G := G) hs n (i + 1) [] (l ++ [a]) (by omega) (by simp) (by omega) hL).2
      have hb : ((((s.getD (i : Int).toNat 0).toNat : Int) == 47) = true) := byte_eq.2 hc
      refine ⟨fun e => ?_, fun g hg => ?_⟩
      · subst e
        refine Obl.goal (K := Goal P 0 16 _) mix (fun _ h => h) (cast (raS _ s a i (fun _ => a) G _).symm ⟨decide_eq_true (by omega), ⟨by omega, by omega⟩, hb, one_tells, rfl, plain_row _, ?_⟩)
        rw [hw]
        exact ih (fun _ => a) fun k x e => by
          cases k with
          | zero => simpa using e
          | succ k => simp at e
      · refine Obl.goal (K := Goal P 0 16 _) mix (fun _ h => h) (cast (rbS _ s a i g (put g l.length a) l.length G _).symm ⟨decide_eq_true (by omega), ⟨by omega, by omega⟩, hb, ⟨⟨by omega, one_str⟩, by omega, by omega, by omega, by omega, room16 (by omega), by omega⟩, put_tells, by omega, plain_row _, ?_⟩)
        rw [hw, ← hlen]
        exact ih _ (put_at hg a)
    · have hL : l ++ sp (s.drop (i + 1)) (a ++ [s.getD i 0]) = L := by
        rw [← hL, sp.eq_def (_ :: _)]
        simp only
        rw [if_neg hc]
      have ih := pieces_loop (G := G) hs n (i + 1) (a ++ [s.getD i 0]) l (by omega) (by rw [List.length_append, List.length_singleton]; omega) (by omega) hL
      have hb : ((((s.getD (i : Int).toNat 0).toNat : Int) == 47) = false) := by
        rw [Bool.eq_false_iff]
        exact fun h => hc (byte_eq.1 h)
      have hone : List.take ((((i + 1 : Nat) : Int)).toNat - ((i : Int)).toNat) (List.drop ((i : Int)).toNat s) = [s.getD i 0] := by
        rw [Int.toNat_natCast, Int.toNat_natCast]
        exact one_byte hi
      refine ⟨fun e => ?_, fun g hg => ?_⟩
      · refine Obl.goal (K := Goal P 0 16 _) mix (fun _ h => h) (cast (raC _ s a i G _).symm ?_)
        rw [hw, hone]
        exact ⟨decide_eq_true (by omega), ⟨by omega, by omega⟩, hb, ⟨⟨by omega, by omega⟩, by omega, by omega⟩, by rw [List.length_singleton]; omega, ih.1 e⟩
      · refine Obl.goal (K := Goal P 0 16 _) mix (fun _ h => h) (cast (rbC _ s a i g l.length G _).symm ?_)
        rw [hw, hone]
        exact ⟨decide_eq_true (by omega), ⟨by omega, by omega⟩, hb, ⟨⟨by omega, by omega⟩, by omega, by omega⟩, by rw [List.length_singleton]; omega, plain_row _, ih.2 g hg⟩

theorem pieces_ok {s : List UInt8} {G : T (T AV)} (hs : s.length < 2 ^ 29) : Goal P 0 16 (fun v h => v = .slg 0 0 0 (sp s []).length 0 ∧ h = rowH (sp s []) G) (startM P 16 [.str s] G) :=
  Obl.goal (K := Goal P 0 16 _) mix (fun _ h => h) (cast (rp0 _ s G _).symm ((pieces_loop (L := sp s []) hs s.length 0 [] [] (by omega) (by simp) (by simp) (by simp)).1 rfl))

end Go.Proofs.Ytdpgaemeapeilaa.pth
