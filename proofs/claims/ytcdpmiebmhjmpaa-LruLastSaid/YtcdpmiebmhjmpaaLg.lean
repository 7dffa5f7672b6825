/- Keys and ints, wherever they are called; slices; what is kept by stores of two capacities. -/
import Derived.Test.YtcdpmiebmhjmpaaLf
set_option maxRecDepth 100000
set_option linter.unusedVariables false
namespace Go.Proofs.Ytcdpmiebmhjmpaa.lr
open Go Ev

variable {O O' O0 : T AObj} {N N0 l mi cap : Nat} {G : T (T AV)} {L : List Ent} {k v : Int}

theorem KV.to {O O' : T AObj} {lo hi hi' : Nat} {zs : List Int} {ks : AV} (h : KV O lo hi zs ks) (e : ∀ j, lo ≤ j → j < hi → O'.get j = O.get j) (hh : hi ≤ hi') : KV O' lo hi' zs ks := by
  rcases h with h | ⟨ri, q, a, b, c, d, g⟩
  · exact .inl h
  · exact .inr ⟨ri, q, a, b, by omega, d, g.same (e ri b c)⟩

theorem keys_ok (h : LR O l mi cap L) (hl : l < N) (hx : ∀ x ∈ L, x.1 < N) (hc : cap < 1000000000) {keep : Nat} {f0 : FuncId} {Q : AV → AHeap → Prop} {rest : List AFrame}
    (hK : ∀ (O' : T AObj) (N' : Nat) (ks : AV) (td : List AItem), N ≤ N' → (∀ j, j < N → O'.get j = O.get j) → KV O' N N' (L.map (·.2.1)) ks → Goal P keep f0 Q (AM.mk (RF 12 35 (.node .leaf none (.node .leaf (some ks) .leaf)) td) rest ⟨O', N', G⟩)) :
    Goal P keep f0 Q (AM.mk (enF 12 [.ptr l 0 0]) rest ⟨O, N, G⟩) := by
  obtain ⟨c, B, hB⟩ : ∃ c B, (L.map (·.1)).map nd ++ [((l, 3) : Ev.Node)] = c :: B := by
    cases L with
    | nil => exact ⟨_, _, rfl⟩
    | cons a r => exact ⟨_, _, rfl⟩
  have hr := h.2.2.2.2.1
  unfold Ring at hr
  rw [hB, Lk.two] at hr
  exact (Obl.goal mix (K := Goal P keep f0 Q) (fun _ h => h) (cast (q_kst Q keep f0 rest O N l (c.1) (c.2) G ((Goal P keep f0 Q))).symm ⟨hr.1.1.load _ _, keys_loop h hl hx hc hK L [] c B O N _ rfl hB hr.2 (Nat.le_refl _) (fun _ _ => rfl) (.inl ⟨rfl, rfl⟩)⟩))

theorem grow_at {O : T AObj} {ri q : Nat} {f : Nat → AV} (hg : GRow O ri (q + 1) f) {i : Nat} (hi : i < q + 1) (N : Nat) (G : T (T AV)) : loadCellsA ⟨O, N, G⟩ ri q (0 + ((i : Nat) : Int).toNat * 1) 1 = some [f i] := by
  have := grow_load (M := N) (G := G) hg hi
  rw [show 0 + ((i : Nat) : Int).toNat * 1 = i by omega]
  exact this

theorem ints_loop {ri q rj qj : Nat} {f g : Nat → Int} {n : Nat} (h1 : GRow O ri (q + 1) (fun i => kAV (f i))) (h2 : GRow O rj (qj + 1) (fun i => kAV (g i))) (hn1 : n ≤ q + 1) (hn2 : n ≤ qj + 1) (hfg : ∀ i, i < n → f i = g i) (hb : n < 1000000001) {keep : Nat} {f0 : FuncId} {Q : AV → AHeap → Prop} {rest : List AFrame}
    (hK : ∀ td, Goal P keep f0 Q (AM.mk (RF 13 26 (.node .leaf none (.node (.node .leaf (some (.bool true)) .leaf) none .leaf)) td) rest ⟨O, N, G⟩)) :
    ∀ (d i : Nat), i + d = n → Goal P keep f0 Q (IL ri q rj qj n ((i : Nat) : Int) rest O N G)
  | 0, i, hi => (Obl.goal mix (K := Goal P keep f0 Q) (fun _ h => h) (cast (q_ie Q keep f0 rest O N q ri n rj qj (((i : Nat) : Int)) G ((Goal P keep f0 Q))).symm ⟨decide_eq_false (by omega), hK _⟩))
  | d + 1, i, hi => by
    have w : IntKind.i64.wrap (((i : Nat) : Int) + (1 : Int)) = ((i + 1 : Nat) : Int) := by rw [IntKind.wrap_i64]; omega
    have ih := ints_loop h1 h2 hn1 hn2 hfg hb hK d (i + 1) (by omega)
    exact (Obl.goal mix (K := Goal P keep f0 Q) (fun _ h => h) (cast (q_ib Q keep f0 rest (f i) O N q ri n rj qj (((i : Nat) : Int)) G ((Goal P keep f0 Q))).symm ⟨decide_eq_true (by omega), ⟨by omega, by omega⟩, grow_at h1 (by omega) N G, ⟨by omega, by omega⟩, (grow_at h2 (by omega) N G).trans (by rw [hfg i (by omega)]; rfl), by simp, by rw [w]; exact ih⟩))

theorem ints_ok {ri q rj qj : Nat} {f g : Nat → Int} {n : Nat} (h1 : GRow O ri (q + 1) (fun i => kAV (f i))) (h2 : GRow O rj (qj + 1) (fun i => kAV (g i))) (hn1 : n ≤ q + 1) (hn2 : n ≤ qj + 1) (hfg : ∀ i, i < n → f i = g i) (hb : n < 1000000001) {keep : Nat} {f0 : FuncId} {Q : AV → AHeap → Prop} {rest : List AFrame}
    (hK : ∀ td, Goal P keep f0 Q (AM.mk (RF 13 26 (.node .leaf none (.node (.node .leaf (some (.bool true)) .leaf) none .leaf)) td) rest ⟨O, N, G⟩)) :
    Goal P keep f0 Q (AM.mk (enF 13 [.slg ri q 0 n 0, .slg rj qj 0 n 0]) rest ⟨O, N, G⟩) :=
  (Obl.goal mix (K := Goal P keep f0 Q) (fun _ h => h) (cast (q_ist Q keep f0 rest O N q ri n rj qj G ((Goal P keep f0 Q))).symm ⟨by simp, ints_loop h1 h2 hn1 hn2 hfg hb hK n 0 (by omega)⟩))

theorem slc_keys (h : AHeap) {kj z km kn : Nat} (p : kn ≤ km) : sliceH P h 32 (.slg kj z 0 km 0) none (some ((kn : Nat) : Int)) none = some (.slg kj z 0 kn 0) := by
  have e : sliceH P h 32 (.slg kj z 0 km 0) none (some ((kn : Nat) : Int)) none = (match slgOf kj z 0 km 0 1 none (boundsA km km none (some ((kn : Nat) : Int)) none) with | some v => some v | none => sliceX P h 32 (.slg kj z 0 km 0) none (some ((kn : Nat) : Int)) none) := by kernel_rfl
  rw [e]
  have e2 : boundsA km km none (some ((kn : Nat) : Int)) none = some (0, kn, km) := by
    have g1 : boundA ((kn : Nat) : Int) km = some kn := by
      unfold boundA
      rw [if_pos (by omega)]
      rfl
    show (match boundA ((kn : Nat) : Int) km with | none => none | some h => match boundsLo none h with | none => none | some l => some (l, h, km)) = _
    rw [g1]
    rfl
  rw [e2]
  rfl

theorem take_filt {k : Int} : ∀ (ps : List (Int × Int)) (n : Nat), (ps.map (·.1)).Nodup → ((ps.take (n + 1)).filter fun q => !(q.1 == k)).take n = (ps.filter fun q => !(q.1 == k)).take n
  | [], n, _ => rfl
  | q :: r, n, hn => by
    rw [List.map_cons, List.nodup_cons] at hn
    rw [List.take_succ_cons, List.filter_cons, List.filter_cons]
    by_cases hq : q.1 = k
    · have hr : ∀ x ∈ r, x.1 ≠ k := fun x hx e => hn.1 (by rw [hq, ← e]; exact List.mem_map_of_mem hx)
      have hb : (!(q.1 == k)) = false := by rw [hq, beq_self_eq_true]; rfl
      rw [hb, filt_none hr, filt_none fun x hx => hr x (List.mem_of_mem_take hx)]
      simp [List.take_take]
    · have hb : (!(q.1 == k)) = true := by rw [beq_eq_false_iff_ne.2 hq]; rfl
      rw [hb, if_pos rfl, if_pos rfl]
      cases n with
      | zero => rfl
      | succ n => rw [List.take_succ_cons, List.take_succ_cons, take_filt r n hn.2]

/-- What is kept by a store of less capacity is the first of what is kept by one of more. -/
theorem putP_take {n m : Nat} {ps : List (Int × Int)} (hnm : n ≤ m) (hn : (ps.map (·.1)).Nodup) : putP n k v (ps.take n) = (putP m k v ps).take n := by
  unfold putP
  cases n with
  | zero => rw [if_pos rfl, List.take_zero, List.take_zero]
  | succ n =>
    rw [if_neg (Nat.succ_ne_zero n), if_neg (by omega), List.take_succ_cons, Nat.add_sub_cancel, take_filt ps n hn, List.take_take, Nat.min_eq_left (by omega)]

end Go.Proofs.Ytcdpmiebmhjmpaa.lr
