/- QueuePlays: what is there, and how it changes. -/
import Derived.Test.YtijkclfajopjkaaQh
import Derived.Test.YtijkclfajopjkaaQf
set_option maxRecDepth 100000
set_option linter.unusedVariables false
namespace Go.Proofs.Ytijkclfajopjkaa.qo
open Go Ev

abbrev GP (m : AM) : Prop := Goal P 0 3 (fun v _ => v = AV.bool true) m

/-- A request, by numbers and texts. -/
abbrev Md := Int × List UInt8 × List UInt8 × Int × Bool
/-- As it comes in, and as it waits. -/
def mrow (q : Md) : List AV := [.int .i64 q.1, .str q.2.1, .str q.2.2.1, .int .u64 q.2.2.2.1, .bool q.2.2.2.2]
def irow (q : Md) : List AV := [.int .i64 q.1, .str q.2.1, .int .u64 q.2.2.2.1, .str q.2.2.1, .bool q.2.2.2.2]
def mcell (md : Nat → Md) (j : Nat) : AV := (mrow (md (j / 5))).getD (j % 5) undefA
def iq (md : Nat → Md) (n m u : Nat) : AV := (irow (md (m % n))).getD u undefA

def Lv (p t ri : Nat) : AV := if p = 0 then .nils 0 0 else .slg ri (p - 1) t (p - t) t
def nums (k : Nat) : AV := .int .i64 (k : Int)

def RefR (O : T AObj) (L : List Nat) (p t ri : Nat) : Prop := t ≤ p ∧ Row O 3 1 (fun _ => Lv p t ri) ∧ (p ≠ 0 → ri ∈ L ∧ ri ≠ 3 ∧ ri ≠ 0 ∧ ri ≠ 1 ∧ GRow O ri p nums)

/-- What is there: the queue, the document's, and what came in. -/
def QI (O0 : T AObj) (md : Nat → Md) (n : Nat) (L : List Nat) (O : T AObj) (N p t p' t' ri : Nat) : Prop :=
  Rep (iq md n) 2 (· ∈ L) O N p t ∧ (0 ∈ L ∧ 1 ∈ L ∧ 3 ∈ L) ∧ RefR O L p' t' ri ∧ O.get 0 = O0.get 0 ∧ O.get 1 = O0.get 1

theorem Rep.out {I : Nat → Nat → AV} {qi N N' p t : Nat} {X X' : Nat → Prop} {O O' : T AObj} (h : Rep I qi X O N p t) (e : ∀ j, j < N → ¬ X j → O'.get j = O.get j) (hN : N ≤ N') (hX : ∀ j, X' j → (X j ∨ N ≤ j) ∧ j < N') : Rep I qi X' O' N' p t := by
  obtain ⟨h1, h2, h3, h4⟩ := h
  have hq : ∀ j, j < N → ¬ X j → ¬ X' j := fun j hj hx hx' => by rcases (hX j hx').1 with a | a; exact hx a; omega
  refine ⟨by omega, hq _ h1 h2, fun j hj => (hX j hj).2, ?_⟩
  rcases h4 with ⟨rfl, la, lb, fr, hr⟩ | ⟨htp, fr, nb, ids, F, g1, g2, g3, g4, g5, g6, g7, g8⟩
  · exact .inl ⟨rfl, la, lb, fr, hr.same (e _ h1 h2)⟩
  · refine .inr ⟨htp, fr, nb, ids, F, g1, g2, g3, g4.same (e _ h1 h2), fun j hj => ?_, g6, g7, g8⟩
    obtain ⟨k1, k2, k3, k4⟩ := g5 j hj
    exact ⟨by omega, k2, hq _ k1 k3, k4.same (e _ k1 k3)⟩

theorem GRow.same {O O' : T AObj} {ri p : Nat} {f : Nat → AV} (h : GRow O ri p f) (e : O'.get ri = O.get ri) : GRow O' ri p f := by
  obtain ⟨c, sg, ex, h0, h1, h2⟩ := h
  exact ⟨c, sg, ex, h0, e.trans h1, h2⟩

variable {O0 : T AObj} {md : Nat → Md} {n : Nat} {L L' : List Nat} {O O' : T AObj} {N N' p t p' t' ri : Nat} {G : T (T AV)}

theorem QI.lt (h : QI O0 md n L O N p t p' t' ri) {j : Nat} (hj : j ∈ L) : j < N := h.1.2.2.1 j hj

/-- Some that are named change, and what is new. -/
theorem QI.chg (h : QI O0 md n L O N p t p' t' ri) (A : List Nat) (hA : ∀ j ∈ A, j ∈ L ∧ j ≠ 0 ∧ j ≠ 1 ∧ j ≠ 3 ∧ (p' ≠ 0 → j ≠ ri)) (e : ∀ j, j < N → j ∉ A → O'.get j = O.get j) (hN : N ≤ N')
    (hL : ∀ j ∈ L', (j ∈ L ∨ N ≤ j) ∧ j < N') (hk : 0 ∈ L' ∧ 1 ∈ L' ∧ 3 ∈ L') (hr : p' ≠ 0 → ri ∈ L') : QI O0 md n L' O' N' p t p' t' ri := by
  obtain ⟨h1, h2, ⟨h3, h4, h5⟩, h6, h7⟩ := h
  have hn : ∀ x, x ∈ L → (∀ j ∈ A, j ≠ x) → O'.get x = O.get x := fun x hx ha => e x (h1.2.2.1 x hx) (fun hm => ha x hm rfl)
  refine ⟨h1.out (fun j hj hx => e j hj fun hm => hx (hA j hm).1) hN hL, hk, ⟨h3, h4.same (hn 3 h2.2.2 fun j hj => (hA j hj).2.2.2.1), fun hp => ?_⟩, (hn 0 h2.1 fun j hj => (hA j hj).2.1).trans h6, (hn 1 h2.2.1 fun j hj => (hA j hj).2.2.1).trans h7⟩
  obtain ⟨k1, k2, k3, k4, k5⟩ := h5 hp
  exact ⟨hr hp, k2, k3, k4, k5.same (hn ri k1 fun j hj => (hA j hj).2.2.2.2 hp)⟩

/-- Nothing that was there changes. -/
theorem QI.garb (h : QI O0 md n L O N p t p' t' ri) (e : ∀ j, j < N → O'.get j = O.get j) (hN : N ≤ N') (hL : ∀ j ∈ L', (j ∈ L ∨ N ≤ j) ∧ j < N') (hk : 0 ∈ L' ∧ 1 ∈ L' ∧ 3 ∈ L') (hr : p' ≠ 0 → ri ∈ L') : QI O0 md n L' O' N' p t p' t' ri :=
  h.chg [] (fun j hj => absurd hj List.not_mem_nil) (fun j hj _ => e j hj) hN hL hk hr

/-- The queue changes alone. -/
theorem QI.rep {q s : Nat} (h : QI O0 md n L O N p t p' t' ri) (hR : Rep (iq md n) 2 (· ∈ L) O' N' q s) (e : ∀ j, j ∈ L → O'.get j = O.get j) : QI O0 md n L O' N' q s p' t' ri := by
  obtain ⟨h1, h2, ⟨h3, h4, h5⟩, h6, h7⟩ := h
  refine ⟨hR, h2, ⟨h3, h4.same (e 3 h2.2.2), fun hp => ?_⟩, (e 0 h2.1).trans h6, (e 1 h2.2.1).trans h7⟩
  obtain ⟨k1, k2, k3, k4, k5⟩ := h5 hp
  exact ⟨k1, k2, k3, k4, k5.same (e ri k1)⟩

theorem QI.load3 (h : QI O0 md n L O N p t p' t' ri) : loadCellsA ⟨O, N, G⟩ 3 0 0 1 = some [Lv p' t' ri] := h.2.2.1.2.1.load1 (by omega)

theorem boxes2 (O : T AObj) (N : Nat) (G : T (T AV)) : ∃ O1 O2 O3 O4,
    T.set (some (.cells (.node .leaf (some (.nils 0 0)) .leaf) 1 29 0 0 1 0 false .leaf)) O N = O1 ∧
    T.set (some (.cells (.node (.node (.node .leaf (some (.str [])) .leaf) (some (.str [])) .leaf) (some (.int .i64 0)) (.node (.node .leaf (some (.bool false)) .leaf) (some (.int .u64 0)) .leaf)) 5 32 0 0 1 0 false .leaf)) O1 (N + 1) = O2 ∧
    storeCellsA ⟨O2, N + 2, G⟩ N 0 0 [.nils 0 0] = some ⟨O3, N + 2, G⟩ ∧ storeCellsA ⟨O3, N + 2, G⟩ (N + 1) 0 0 zits = some ⟨O4, N + 2, G⟩ ∧
    Row O4 N 1 (fun _ => .nils 0 0) ∧ Row O4 (N + 1) 5 (i5 zits) ∧ ∀ j, j < N → O4.get j = O.get j := by
  obtain ⟨O1, e1, r1, f1⟩ := Row.mk (n := 1) (f := fun _ => .nils 0 0) (c := .node .leaf (some (.nils 0 0)) .leaf) (el := 29) O N (fun k hk => by rcases k with _ | k <;> first | rfl | (exact absurd hk (by simp)))
  obtain ⟨O2, e2, r2, f2⟩ := Row.mk (n := 5) (f := i5 zits) (c := (.node (.node (.node .leaf (some (.str [])) .leaf) (some (.str [])) .leaf) (some (.int .i64 0)) (.node (.node .leaf (some (.bool false)) .leaf) (some (.int .u64 0)) .leaf))) (el := 32) O1 (N + 1) (fun k hk => by rcases k with _ | _ | _ | _ | _ | k <;> first | rfl | omega)
  have r3 := r1.fr f2 (by omega)
  obtain ⟨O3, e3, r4, f3⟩ := r3.store (N + 2) G (off := 0) (vs := [.nils 0 0]) rfl (by decide)
  have r5 := r2.fr f3 (by omega)
  obtain ⟨O4, e4, r6, f4⟩ := r5.store (N + 2) G (off := 0) (vs := zits) rfl (by decide)
  have r7 := r4.fr f4 (show N ≠ N + 1 by omega)
  refine ⟨O1, O2, O3, O4, e1, e2, e3, e4, r7.to (g := fun _ => .nils 0 0) (fun k hk => ?_), r6.to (g := i5 zits) (upd_i5 (vs := zits)), fun j hj => (f4 j (by omega)).trans ((f3 j (by omega)).trans ((f2 j (by omega)).trans (f1 j (by omega))))⟩
  obtain rfl : k = 0 := by omega
  rfl

/-- A number is put behind none, in a variable of its own. -/
theorem atput {a : Nat} (h : Row O a 1 (fun _ => .nils 0 0)) (ha : a < N) (y : Int) (G : T (T AV)) : ∃ O1 O2 O3,
    loadCellsA ⟨O, N, G⟩ a 0 0 1 = some [.nils 0 0] ∧ buildSliceA P ⟨O, N, G⟩ 27 1 [(0, .int .i64 y)] = some (.slc N 0 0 1 1, ⟨O1, N + 1, G⟩) ∧
    builtinE P ⟨O1, N + 1, G⟩ .append (some 27) (some 27) [.nils 0 0, .slc N 0 0 1 1] = some (.val (.slg (N + 1) 0 0 1 0) ⟨O2, N + 2, G⟩) ∧
    storeCellsA ⟨O2, N + 2, G⟩ a 0 0 [.slg (N + 1) 0 0 1 0] = some ⟨O3, N + 2, G⟩ ∧ Row O3 a 1 (fun _ => .slg (N + 1) 0 0 1 0) ∧ Row O3 (N + 1) 1 (fun _ => .int .i64 y) ∧ ∀ j, j < N → j ≠ a → O3.get j = O.get j := by
  obtain ⟨O1, e1, r1, f1⟩ := lit_ok O N G y
  obtain ⟨O2, e2, r2, _, f2⟩ := app_nils (M := N + 1) (G := G) r1 (by omega) rfl
  obtain ⟨O3, e3, r3, f3⟩ := ((h.fr f1 (by omega)).fr f2 (by omega)).store (N + 2) G (off := 0) (vs := [.slg (N + 1) 0 0 1 0]) rfl (by simp)
  refine ⟨O1, O2, O3, h.load1 (by omega), e1, e2, e3, r3.to (fun k hk => ?_), r2.fr f3 (by omega), fun j hj hn => (f3 j hn).trans ((f2 j (by omega)).trans (f1 j (by omega)))⟩
  obtain rfl : k = 0 := by omega
  rfl

theorem rput_nil (h : QI O0 md n L O N p t 0 0 ri) (G : T (T AV)) : ∃ O1 O2 O3,
    loadCellsA ⟨O, N, G⟩ 3 0 0 1 = some [.nils 0 0] ∧ buildSliceA P ⟨O, N, G⟩ 27 1 [(0, .int .i64 ((0 : Nat) : Int))] = some (.slc N 0 0 1 1, ⟨O1, N + 1, G⟩) ∧
    builtinE P ⟨O1, N + 1, G⟩ .append (some 27) (some 27) [.nils 0 0, .slc N 0 0 1 1] = some (.val (.slg (N + 1) 0 0 1 0) ⟨O2, N + 2, G⟩) ∧
    storeCellsA ⟨O2, N + 2, G⟩ 3 0 0 [.slg (N + 1) 0 0 1 0] = some ⟨O3, N + 2, G⟩ ∧ QI O0 md n (L ++ [N + 1]) O3 (N + 2) p t 1 0 (N + 1) ∧ ∀ j, j < N → j ≠ 3 → O3.get j = O.get j := by
  have h3 := h.lt h.2.1.2.2
  obtain ⟨O1, e1, r1, f1⟩ := lit_ok O N G ((0 : Nat) : Int)
  obtain ⟨O2, e2, r2, g2, f2⟩ := app_nils (M := N + 1) (G := G) r1 (by omega) rfl
  obtain ⟨h1, h2, ⟨_, h4, _⟩, h6, h7⟩ := h
  obtain ⟨O3, e3, r3, f3⟩ := ((h4.fr f1 (by omega)).fr f2 (by omega)).store (N + 2) G (off := 0) (vs := [.slg (N + 1) 0 0 1 0]) rfl (by simp)
  have hk : ∀ j, j < N → j ≠ 3 → O3.get j = O.get j := fun j hj hn => (f3 j hn).trans ((f2 j (by omega)).trans (f1 j (by omega)))
  have h0 := h1.2.2.1 0 h2.1
  have h1' := h1.2.2.1 1 h2.2.1
  refine ⟨O1, O2, O3, h4.load1 (by omega), e1, e2, e3, ⟨h1.out (fun j hj hx => hk j hj fun e => hx (e ▸ h2.2.2)) (by omega) (fun j hj => ?_), ⟨List.mem_append_left _ h2.1, List.mem_append_left _ h2.2.1, List.mem_append_left _ h2.2.2⟩, ⟨by omega, r3.to (fun k hk => ?_), fun _ => ⟨by simp, by omega, by omega, by omega, ?_⟩⟩, (hk 0 h0 (by omega)).trans h6, (hk 1 h1' (by omega)).trans h7⟩, hk⟩
  · rcases List.mem_append.1 hj with a | a
    · exact ⟨.inl a, by have := h1.2.2.1 j a; omega⟩
    · obtain rfl := List.mem_singleton.1 a
      exact ⟨.inr (by omega), by omega⟩
  · obtain rfl : k = 0 := by omega
    rfl
  · obtain ⟨c, sg, ex, q0, q1, q2⟩ := g2.same (f3 (N + 1) (by omega))
    exact ⟨c, sg, ex, q0, q1, fun k hk => by
      obtain rfl : k = 0 := by omega
      exact q2 0 hk⟩

theorem rput_slg (h : QI O0 md n L O N p t p' t' ri) (h0 : p' ≠ 0) (hp : p' < 1000000000) (G : T (T AV)) : ∃ O1 O2 O3,
    loadCellsA ⟨O, N, G⟩ 3 0 0 1 = some [.slg ri (p' - 1) t' (p' - t') t'] ∧ buildSliceA P ⟨O, N, G⟩ 27 1 [(0, .int .i64 (p' : Int))] = some (.slc N 0 0 1 1, ⟨O1, N + 1, G⟩) ∧
    builtinE P ⟨O1, N + 1, G⟩ .append (some 27) (some 27) [.slg ri (p' - 1) t' (p' - t') t', .slc N 0 0 1 1] = some (.val (.slg ri (p' - 1 + 1) t' (p' - t' + 1) t') ⟨O2, N + 1, G⟩) ∧
    storeCellsA ⟨O2, N + 1, G⟩ 3 0 0 [.slg ri (p' - 1 + 1) t' (p' - t' + 1) t'] = some ⟨O3, N + 1, G⟩ ∧ QI O0 md n L O3 (N + 1) p t (p' + 1) t' ri ∧ ∀ j, j < N → j ≠ 3 → j ≠ ri → O3.get j = O.get j := by
  have h3 := h.lt h.2.1.2.2
  obtain ⟨h1, h2, ⟨ht, h4, h5⟩, h6, h7⟩ := h
  obtain ⟨k1, k2, k3, k4, k5⟩ := h5 h0
  have hri := h1.2.2.1 ri k1
  obtain ⟨O1, e1, r1, f1⟩ := lit_ok O N G (p' : Int)
  obtain ⟨O2, e2, g2, f2⟩ := app_slg (M := N + 1) (G := G) r1 (k5.same (f1 ri (by omega))) (by omega) ht hp rfl
  obtain ⟨O3, e3, r3, f3⟩ := ((h4.fr f1 (by omega)).fr f2 (by omega)).store (N + 1) G (off := 0) (vs := [.slg ri (p' - 1 + 1) t' (p' - t' + 1) t']) rfl (by simp)
  have hk : ∀ j, j < N → j ≠ 3 → j ≠ ri → O3.get j = O.get j := fun j hj hn hm => (f3 j hn).trans ((f2 j hm).trans (f1 j (by omega)))
  have hl : Lv p' t' ri = .slg ri (p' - 1) t' (p' - t') t' := by unfold Lv; rw [if_neg h0]
  have h00 := h1.2.2.1 0 h2.1
  have h1' := h1.2.2.1 1 h2.2.1
  refine ⟨O1, O2, O3, by rw [← hl]; exact h4.load1 (by omega), e1, e2, e3, ⟨h1.out (fun j hj hx => hk j hj (fun e => hx (e ▸ h2.2.2)) (fun e => hx (e ▸ k1))) (by omega) (fun j hj => ⟨.inl hj, by have := h1.2.2.1 j hj; omega⟩), h2, ⟨by omega, r3.to (fun k hk => ?_), fun _ => ⟨k1, k2, k3, k4, ?_⟩⟩, (hk 0 h00 (by omega) (by omega)).trans h6, (hk 1 h1' (by omega) (by omega)).trans h7⟩, hk⟩
  · obtain rfl : k = 0 := by omega
    show AV.slg ri (p' - 1 + 1) t' (p' - t' + 1) t' = Lv (p' + 1) t' ri
    unfold Lv
    rw [if_neg (by omega), show p' - 1 + 1 = p' + 1 - 1 by omega, show p' - t' + 1 = p' + 1 - t' by omega]
  · obtain ⟨c, sg, ex, q0, q1, q2⟩ := g2.same (f3 ri (by omega))
    exact ⟨c, sg, ex, q0, q1, fun k hk => by
      rw [q2 k hk]
      show some (if k = p' then AV.int .i64 (p' : Int) else nums k) = some (nums k)
      by_cases e : k = p'
      · subst e; rw [if_pos rfl]; rfl
      · rw [if_neg e]⟩

/-- The document's queue gives up its first. -/
theorem rtake (h : QI O0 md n L O N p t p' t' ri) (h0 : t' < p') (G : T (T AV)) : ∃ O1,
    storeCellsA ⟨O, N, G⟩ 3 0 0 [.slg ri (p' - 1) (t' + 1) (p' - t' - 1) (t' + 1)] = some ⟨O1, N, G⟩ ∧ QI O0 md n L O1 N p t p' (t' + 1) ri ∧ ∀ j, j ≠ 3 → O1.get j = O.get j := by
  have h3 := h.lt h.2.1.2.2
  obtain ⟨h1, h2, ⟨ht, h4, h5⟩, h6, h7⟩ := h
  obtain ⟨k1, k2, k3, k4, k5⟩ := h5 (by omega)
  obtain ⟨O1, e1, r1, f1⟩ := h4.store N G (off := 0) (vs := [.slg ri (p' - 1) (t' + 1) (p' - t' - 1) (t' + 1)]) rfl (by simp)
  refine ⟨O1, e1, ⟨h1.out (fun j hj hx => f1 j fun e => hx (e ▸ h2.2.2)) (Nat.le_refl _) (fun j hj => ⟨.inl hj, h1.2.2.1 j hj⟩), h2, ⟨by omega, r1.to (fun k hk => ?_), fun _ => ⟨k1, k2, k3, k4, k5.same (f1 ri (by omega))⟩⟩, (f1 0 (by omega)).trans h6, (f1 1 (by omega)).trans h7⟩, f1⟩
  obtain rfl : k = 0 := by omega
  show AV.slg ri (p' - 1) (t' + 1) (p' - t' - 1) (t' + 1) = Lv p' (t' + 1) ri
  unfold Lv
  rw [if_neg (by omega), show p' - t' - 1 = p' - (t' + 1) by omega]

/-- The first of a queue that is not empty. -/
theorem first_rep {I : Nat → Nat → AV} {qi : Nat} {X : Nat → Prop} (h : Rep I qi X O N p t) (ht : t < p) : ∃ (fr : Int) (b : Nat), (((p - t : Nat) : Int) == (0 : Int)) = false ∧ ((0 : Int) ≤ fr ∧ fr < ((16 : Nat) : Int)) ∧
    ∀ (O' : T AObj) (N' : Nat) (G : T (T AV)), (∀ j, j < N → O'.get j = O.get j) → loadCellsA ⟨O', N', G⟩ qi 0 3 1 = some [.int .i64 ((p - t : Nat) : Int)] ∧ loadCellsA ⟨O', N', G⟩ qi 0 0 1 = some [.ptr b 0 0] ∧ loadCellsA ⟨O', N', G⟩ qi 0 2 1 = some [.int .i64 fr] ∧
      loadCellsA ⟨O', N', G⟩ b 0 (0 + fr.toNat * 5) 5 = some [I t 0, I t 1, I t 2, I t 3, I t 4] := by
  obtain ⟨h1, h2, h3, h4⟩ := h
  rcases h4 with ⟨rfl, _⟩ | ⟨htp, fr, nb, ids, F, g1, g2, g3, g4, g5, g6, g7, g8⟩
  · omega
  obtain ⟨b1, b2, b3, b4⟩ := g5 0 (Nat.zero_le _)
  refine ⟨(fr : Int), ids 0, by rw [beq_eq_false_iff_ne]; omega, by omega, fun O' N' G e => ⟨(g4.same (e _ h1)).load1 (by omega), (g4.same (e _ h1)).load1 (by omega), (g4.same (e _ h1)).load1 (by omega), ?_⟩⟩
  have hof : ∀ u, u < 5 → F 0 (0 + ((fr : Int)).toNat * 5 + u) = I t u := fun u hu => by
    have := g8 0 (by omega) u hu
    rw [show (fr + 0) / 16 = 0 by omega, show (fr + 0) % 16 * 5 + u = 0 + ((fr : Int)).toNat * 5 + u by omega] at this
    exact this
  rw [(b4.same (e _ b1)).load5 (by omega), ← hof 0 (by omega), ← hof 1 (by omega), ← hof 2 (by omega), ← hof 3 (by omega), ← hof 4 (by omega)]
  rfl

theorem ro_load5 {c : T AV} {id lo m off : Nat} {v0 v1 v2 v3 v4 : AV} (h : O.get id = some (.ro c lo m)) (h0 : lo ≤ off) (h1 : off + 5 ≤ m) (e0 : c.get off = some v0) (e1 : c.get (off + 1) = some v1) (e2 : c.get (off + 2) = some v2) (e3 : c.get (off + 3) = some v3) (e4 : c.get (off + 4) = some v4) :
    loadCellsA ⟨O, N, G⟩ id 0 off 5 = some [v0, v1, v2, v3, v4] := by
  unfold loadCellsA
  show (match O.get id with | some (.cells c n _ lo hi _ _ _ ex) => _ | some (.ro c lo n) => _ | _ => _) = _
  rw [h]
  show (if 0 = 0 ∧ lo ≤ off ∧ off + 5 ≤ m then loadList c off 5 else none) = _
  rw [if_pos ⟨rfl, h0, h1⟩]
  unfold loadList loadG
  simp only [e4]
  unfold loadG
  simp only [e3]
  unfold loadG
  simp only [e2]
  unfold loadG
  simp only [e1]
  unfold loadG
  simp only [Nat.add_zero, e0]
  rfl

theorem load_md {lo cap k : Nat} (h : O.get 0 = some (.ro (.fn fun j => some (mcell md (j - lo))) lo (lo + cap * 5))) (hk : k < cap) : loadCellsA ⟨O, N, G⟩ 0 0 (lo + k * 5) 5 = some (mrow (md k)) := by
  have key : ∀ u, u < 5 → (T.fn (fun j => some (mcell md (j - lo)))).get (lo + k * 5 + u) = some ((mrow (md k)).getD u undefA) := fun u hu => by
    show some (mcell md (lo + k * 5 + u - lo)) = _
    unfold mcell
    rw [show (lo + k * 5 + u - lo) / 5 = k by omega, show (lo + k * 5 + u - lo) % 5 = u by omega]
  exact ro_load5 h (by omega) (by omega) (key 0 (by omega)) (key 1 (by omega)) (key 2 (by omega)) (key 3 (by omega)) (key 4 (by omega))

theorem itm_way (R : AV → Prop) (c0 : Int) (s1 s2 : List UInt8) (z0 : Int) (bb : Bool) (G : T (T AV)) (_K : AM → Prop) : Obl P 7 (fun v _ => R v) 0 _K [.run 21, .done] ((startM P 7 [.agg [.int .i64 c0, .str s1, .str s2, .int .u64 z0, .bool bb]] G)) = ((R (.agg [.int .i64 c0, .str s1, .int .u64 z0, .str s2, .bool bb]))) := by kernel_rfl

theorem item_ok (q : Md) : Goal P 0 7 (fun x _ => x = AV.agg (irow q)) (startM P 7 [.agg (mrow q)] G) :=
  Obl.goal (K := fun _ => False) mix (fun _ h => h.elim) (cast (itm_way _ q.1 q.2.1 q.2.2.1 q.2.2.2.1 q.2.2.2.2 G _).symm rfl)

theorem bin32 (h : AHeap) (b : Bool) (q : Md) : binA P h .neq 32 b (.agg (irow q)) (.agg (irow q)) = some (.bool false) := by
  have key : binA P h .neq 32 b (.agg (irow q)) (.agg (irow q)) = (match (match some (q.1 == q.1) with
        | some true => (match some (q.2.1 == q.2.1) with
          | some true => (match some (q.2.2.2.1 == q.2.2.2.1) with
            | some true => (match some (q.2.2.1 == q.2.2.1) with
              | some true => (match some (q.2.2.2.2 == q.2.2.2.2) with
                | some true => some true
                | some false => some false
                | none => none)
              | some false => some false
              | none => none)
            | some false => some false
            | none => none)
          | some false => some false
          | none => none)
        | some false => some false
        | none => none) with
      | none => none
      | some b => some (AV.bool (!b))) := by kernel_rfl
  rw [key]
  simp only [beq_self_eq_true]
  rfl

end Go.Proofs.Ytijkclfajopjkaa.qo
