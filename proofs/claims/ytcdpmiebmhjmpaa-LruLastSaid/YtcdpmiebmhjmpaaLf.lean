/- What Keys does, wherever it is called; and two rows of numbers compared. -/
import Derived.Test.YtcdpmiebmhjmpaaLe
set_option maxRecDepth 100000
set_option linter.unusedVariables false
namespace Go.Proofs.Ytcdpmiebmhjmpaa.lr
open Go Ev

noncomputable def KL (l : Nat) (ks : AV) (a ao : Nat) (rest : List AFrame) (O : T AObj) (N : Nat) (G : T (T AV)) : AM := ⟨⟨12, 35, (.node (.node (.node .leaf (some ks) .leaf) none .leaf) (some (.ptr l 0 0)) (.node (.node .leaf (some (.ptr a 0 ao)) .leaf) none .leaf)),
   [.code (cd P 12 [1, 1, 1, 0, 1, 0, 0]), .inLoop (cd P 12 [1, 1, 1, 0, 1, 0, 0]), .inBlock 0, .code (cd P 12 [1, 1, 1, 1])], [], .run, CallKind.normal, none⟩,
  rest,
  ⟨O, N, G⟩⟩

noncomputable def IL (ki y kj z kn : Nat) (i : Int) (rest : List AFrame) (O : T AObj) (N : Nat) (G : T (T AV)) : AM := ⟨⟨13, 26, (.node (.node .leaf (some (.slg kj z 0 kn 0)) (.node .leaf (some (.int .i64 i)) .leaf)) (some (.slg ki y 0 kn 0)) .leaf),
   [.code (cd P 13 [1, 1, 0, 1, 0, 0]), .inLoop (cd P 13 [1, 1, 0, 1, 0, 0]), .inBlock 0, .code (cd P 13 [1, 1, 1])], [], .run, CallKind.normal, none⟩,
  rest,
  ⟨O, N, G⟩⟩

theorem q_kst (R : AV → AHeap → Prop) (keep : Nat) (f0 : FuncId) (rest : List AFrame) (O : T AObj) (N : Nat) (l : Nat) (a : Nat) (ao : Nat) (G : T (T AV)) (K : AM → Prop) : Obl P f0 (fun v h => R v h) keep K [.run 24, .hop (.ptr a 0 ao) O, .run 4, .keep [0, 3, 4]] ((AM.mk (enF 12 [.ptr l 0 0]) rest ⟨O, N, G⟩)) = ((loadCellsA (⟨O, N, G⟩) (l) (0) (4) (1) = (some [.ptr a 0 ao])) ∧ K (KL l (AV.nils (0) (0)) a ao rest O N G)) := by kernel_rfl

theorem q_kn (R : AV → AHeap → Prop) (keep : Nat) (f0 : FuncId) (rest : List AFrame) (k : Int) (O : T AObj) (O1 : T AObj) (O2 : T AObj) (N : Nat) (l : Nat) (a : Nat) (ao : Nat) (e : Nat) (eo : Nat) (G : T (T AV)) (K : AM → Prop) : Obl P f0 (fun v h => R v h) keep K [.run 10, .hop (.bool true) O, .run 11, .hop (.int .i64 k) O, .hopn (.slc N 0 0 1 1) O1 (N + 1), .hopn (.slg (N + 1) 0 0 1 0) O2 (N + 2), .run 8, .hop (.ptr e 0 eo) O2, .run 3, .keep [0, 3, 4]] ((KL l (.nils 0 0) a ao rest O N G)) = ((binA P (⟨O, N, G⟩) (BinOp.neq) (45) (false) (.ptr a 0 ao) (.ptr l 0 3) = (some (.bool true))) ∧ (loadCellsA (⟨O, N, G⟩) (a) (0) (ao + 2) (1) = (some [.int .i64 k])) ∧ (buildSliceA P (⟨O, N, G⟩) (32) (1) ([(0, .int .i64 k)]) = (some (.slc N 0 0 1 1, ⟨O1, N + 1, G⟩))) ∧ (builtinE P (⟨O1, N + 1, G⟩) (Builtin.append) ((some 32)) ((some 32)) ([.nils 0 0, .slc N 0 0 1 1]) = (some (.val (.slg (N + 1) 0 0 1 0) ⟨O2, N + 2, G⟩))) ∧ (loadCellsA (⟨O2, N + 2, G⟩) (a) (0) (ao + 1) (1) = (some [.ptr e 0 eo])) ∧ K (KL l (AV.slg (N + 1) (0) (0) (1) (0)) e eo rest O2 (N + 2) G)) := by kernel_rfl

theorem q_ks (R : AV → AHeap → Prop) (keep : Nat) (f0 : FuncId) (rest : List AFrame) (k : Int) (O : T AObj) (O1 : T AObj) (O2 : T AObj) (N : Nat) (l : Nat) (a : Nat) (ao : Nat) (e : Nat) (eo : Nat) (y : Nat) (ki : Nat) (kn : Nat) (G : T (T AV)) (K : AM → Prop) : Obl P f0 (fun v h => R v h) keep K [.run 10, .hop (.bool true) O, .run 11, .hop (.int .i64 k) O, .hopn (.slc N 0 0 1 1) O1 (N + 1), .hop (.slg ki (y + 1) 0 (kn + 1) 0) O2, .run 8, .hop (.ptr e 0 eo) O2, .run 3, .keep [0, 3, 4]] ((KL l (.slg ki y 0 kn 0) a ao rest O N G)) = ((binA P (⟨O, N, G⟩) (BinOp.neq) (45) (false) (.ptr a 0 ao) (.ptr l 0 3) = (some (.bool true))) ∧ (loadCellsA (⟨O, N, G⟩) (a) (0) (ao + 2) (1) = (some [.int .i64 k])) ∧ (buildSliceA P (⟨O, N, G⟩) (32) (1) ([(0, .int .i64 k)]) = (some (.slc N 0 0 1 1, ⟨O1, N + 1, G⟩))) ∧ (builtinE P (⟨O1, N + 1, G⟩) (Builtin.append) ((some 32)) ((some 32)) ([.slg ki y 0 kn 0, .slc N 0 0 1 1]) = (some (.val (.slg ki (y + 1) 0 (kn + 1) 0) ⟨O2, N + 1, G⟩))) ∧ (loadCellsA (⟨O2, N + 1, G⟩) (a) (0) (ao + 1) (1) = (some [.ptr e 0 eo])) ∧ K (KL l (AV.slg ki (y + 1) (0) (kn + 1) (0)) e eo rest O2 (N + 1) G)) := by kernel_rfl

theorem q_ke (R : AV → AHeap → Prop) (keep : Nat) (f0 : FuncId) (rest : List AFrame) (O : T AObj) (N : Nat) (l : Nat) (a : Nat) (ao : Nat) (ks : AV) (G : T (T AV)) (K : AM → Prop) : Obl P f0 (fun v h => R v h) keep K [.run 10, .hop (.bool false) O, .run 10, .keep [2]] ((KL l ks a ao rest O N G)) = ((binA P (⟨O, N, G⟩) (BinOp.neq) (45) (false) (.ptr a 0 ao) (.ptr l 0 3) = (some (.bool false))) ∧ K ({ top := RF 12 35 (T.leaf.node none (T.leaf.node (some ks) T.leaf)) [AItem.code (cd P 12 [1, 0, 1, 0, 1])], rest := rest, heap := { objs := O, next := N, glob := G } })) := by kernel_rfl

theorem q_ist (R : AV → AHeap → Prop) (keep : Nat) (f0 : FuncId) (rest : List AFrame) (O : T AObj) (N : Nat) (y : Nat) (ki : Nat) (kn : Nat) (kj : Nat) (z : Nat) (G : T (T AV)) (K : AM → Prop) : Obl P f0 (fun v h => R v h) keep K [.run 13, .know 10 false, .run 9, .keep [0, 1, 5]] ((AM.mk (enF 13 [.slg ki y 0 kn 0, .slg kj z 0 kn 0]) rest ⟨O, N, G⟩)) = ((((↑kn : Int) != (↑kn : Int)) = false) ∧ K (IL ki y kj z kn (0) rest O N G)) := by kernel_rfl

theorem q_ib (R : AV → AHeap → Prop) (keep : Nat) (f0 : FuncId) (rest : List AFrame) (k : Int) (O : T AObj) (N : Nat) (y : Nat) (ki : Nat) (kn : Nat) (kj : Nat) (z : Nat) (i : Int) (G : T (T AV)) (K : AM → Prop) : Obl P f0 (fun v h => R v h) keep K [.run 8, .know 14 true, .run 8, .op, .hop (.int .i64 k) O, .run 2, .op, .hop (.int .i64 k) O, .run 2, .know 25 false, .run 9, .keep [0, 1, 5]] ((IL ki y kj z kn i rest O N G)) = ((decide (i < (↑kn : Int)) = true) ∧ ((0 : Int) ≤ i ∧ i < (↑kn : Int)) ∧ (loadCellsA (⟨O, N, G⟩) (ki) (y) (0 + i.toNat * 1) (1) = (some [.int .i64 k])) ∧ ((0 : Int) ≤ i ∧ i < (↑kn : Int)) ∧ (loadCellsA (⟨O, N, G⟩) (kj) (z) (0 + i.toNat * 1) (1) = (some [.int .i64 k])) ∧ ((k != k) = false) ∧ K (IL ki y kj z kn (IntKind.i64.wrap (i + (1 : Int))) rest O N G)) := by kernel_rfl

theorem q_ie (R : AV → AHeap → Prop) (keep : Nat) (f0 : FuncId) (rest : List AFrame) (O : T AObj) (N : Nat) (y : Nat) (ki : Nat) (kn : Nat) (kj : Nat) (z : Nat) (i : Int) (G : T (T AV)) (K : AM → Prop) : Obl P f0 (fun v h => R v h) keep K [.run 8, .know 14 false, .run 7, .keep [4]] ((IL ki y kj z kn i rest O N G)) = ((decide (i < (↑kn : Int)) = false) ∧ K ({ top := RF 13 26 (T.leaf.node none ((T.leaf.node (some (AV.bool true)) T.leaf).node none T.leaf)) [AItem.code (cd P 13 [1, 0, 1, 0, 1])], rest := rest, heap := { objs := O, next := N, glob := G } })) := by kernel_rfl

theorem cver {O : T AObj} {id k : Nat} {v : AV} (h : Cell O id k v) (N : Nat) (G : T (T AV)) : verOk ⟨O, N, G⟩ id 0 = true ∧ plainFz ⟨O, N, G⟩ id = true := by
  obtain ⟨n, f, ⟨c, el, h1, h2⟩, _⟩ := h
  constructor
  · unfold verOk
    show (match O.get id with | some (.cells _ n _ lo hi _ _ _ ex) => _ | _ => _) = _
    rw [h1]
    rfl
  · unfold plainFz
    show (match O.get id with | some (.cells _ _ _ _ _ _ fz sg _) => _ | _ => _) = _
    rw [h1]
    rfl

theorem neq_p (h : AHeap) (i o j q : Nat) : binA P h .neq 45 false (.ptr i 0 o) (.ptr j 0 q) = (match samePtrA h i 0 o j 0 q with | none => none | some b => some (.bool (!b))) := by kernel_rfl

theorem neq_nd {O : T AObj} {x l k k' : Nat} {v v' : AV} (hx : Cell O x k v) (hl : Cell O l k' v') (hne : x ≠ l) (N : Nat) (G : T (T AV)) : binA P ⟨O, N, G⟩ .neq 45 false (.ptr x 0 0) (.ptr l 0 3) = some (.bool true) := by
  rw [neq_p]
  unfold samePtrA
  rw [if_neg hne, (cver hx N G).1, (cver hx N G).2, (cver hl N G).1, (cver hl N G).2]
  rfl

theorem neq_ring {O : T AObj} {l k : Nat} {v : AV} (hl : Cell O l k v) (N : Nat) (G : T (T AV)) : binA P ⟨O, N, G⟩ .neq 45 false (.ptr l 0 3) (.ptr l 0 3) = some (.bool false) := by
  rw [neq_p]
  unfold samePtrA
  rw [if_pos rfl, if_pos ⟨rfl, (cver hl N G).1⟩]
  rfl

theorem int_info : ∃ i, P.info? 3 = some i ∧ i.size = 1 ∧ i.bytes = 8 := by
  cases h : P.info? 3 with
  | none => exact absurd (show (P.info? 3).isSome = true by kernel_rfl) (by rw [h]; decide)
  | some i =>
    refine ⟨i, rfl, ?_, ?_⟩
    · have : (P.info? 3).map (·.size) = some 1 := by kernel_rfl
      rw [h] at this
      exact Option.some.inj this
    · have : (P.info? 3).map (·.bytes) = some 8 := by kernel_rfl
      rw [h] at this
      exact Option.some.inj this
theorem int_zero : zeroA P 3 = some (.int .i64 0) := by kernel_rfl
theorem int_und : P.underlying 32 = some (.slice 3) := by kernel_rfl
theorem int_isInt : isIntT P 32 = some false := by kernel_rfl

/-- A row whose last version it is, of numbers. -/
def GRow (O : T AObj) (ri p : Nat) (f : Nat → AV) : Prop := ∃ c sg ex, 0 < p ∧ O.get ri = some (.cells c p 3 0 (p - 1) p 0 sg ex) ∧ ∀ k, k < p → c.get k = some (f k)

theorem app_base {h : AHeap} {s x : AV} {y : AV} {sl : Nat} (hs : lenSlice s = some sl) (hc : countA x = some 1) (hx : firstA h 1 1 x = some [y]) (hy : AV.one y = true) :
    builtinE P h .append (some 32) (some 32) [s, x] = valH (appendTo h 3 1 8 sl 1 s [y]) := by
  obtain ⟨i, h1, h2, h3⟩ := int_info
  show (match isIntT P 32 with | none => none | some z => match two1 [s, x] with | none => none | some (s, x) => valH (appendA P h 32 z s x)) = _
  rw [int_isInt]
  show valH (appendA P h 32 false s x) = _
  congr 1
  unfold appendA
  rw [int_und]
  show appendEl P h 3 false s x = _
  unfold appendEl
  rw [h1, int_zero]
  simp only [hs, h2, h3]
  unfold appended
  simp only [hc, hx]
  rw [if_pos ⟨Nat.zero_lt_one, rfl, rfl, by simp [hy], rfl, fun h => by cases h⟩]

theorem first_lit {O : T AObj} {K M : Nat} {G : T (T AV)} {y : AV} (h : Row O K 1 (fun _ => y)) : firstA ⟨O, M, G⟩ 1 1 (.slc K 0 0 1 1) = some [y] := by
  have := h.load1 (N := M) (G := G) (off := 0) (by omega)
  exact this

theorem app_nils {O : T AObj} {K M : Nat} {G : T (T AV)} {y : AV} (h : Row O K 1 (fun _ => y)) (hK : K < M) (hy : AV.one y = true) :
    ∃ O', builtinE P ⟨O, M, G⟩ .append (some 32) (some 32) [.nils 0 0, .slc K 0 0 1 1] = some (.val (.slg M 0 0 1 0) ⟨O', M + 1, G⟩) ∧ Row O' M 1 (fun _ => y) ∧ GRow O' M 1 (fun _ => y) ∧ Frm O O' M := by
  refine ⟨O.set (some (.cells (storeList .leaf 0 [y]) 1 3 0 0 1 0 false .leaf)) M, ?_, ⟨_, _, by rw [T.get_set, if_pos rfl], fun k hk => ?_⟩, ⟨_, _, _, Nat.zero_lt_one, by rw [T.get_set, if_pos rfl], fun k hk => ?_⟩, fun j hj => by rw [T.get_set, if_neg hj]⟩
  · rw [app_base (sl := 0) rfl rfl (first_lit h) hy]
    show valH (appendFresh ⟨O, M, G⟩ 3 1 8 0 (0 + 1) (.nils 0 0) [y]) = _
    unfold appendFresh
    rw [if_pos (by decide)]
    show valH (match some ([] : List AV) with | none => none | some old => if old.all AV.one = true ∧ old.length = 0 * 1 then some (.slg M 0 0 1 0, newCells ⟨O, M, G⟩ 3 (old ++ [y]) false) else none) = _
    simp only
    rw [if_pos ⟨rfl, rfl⟩]
    rfl
  · obtain rfl : k = 0 := by omega
    rw [storeList_get]; rfl
  · obtain rfl : k = 0 := by omega
    rw [storeList_get]; rfl

theorem app_slg {O : T AObj} {K M ri p t : Nat} {G : T (T AV)} {y : AV} {f : Nat → AV} (h : Row O K 1 (fun _ => y)) (hg : GRow O ri p f) (hK : K ≠ ri) (ht : t ≤ p) (hp : p < 1000000000) (hy : AV.one y = true) :
    ∃ O', builtinE P ⟨O, M, G⟩ .append (some 32) (some 32) [.slg ri (p - 1) t (p - t) t, .slc K 0 0 1 1] = some (.val (.slg ri (p - 1 + 1) t (p - t + 1) t) ⟨O', M, G⟩) ∧ GRow O' ri (p + 1) (fun k => if k = p then y else f k) ∧ Frm O O' ri := by
  obtain ⟨c, sg, ex, h0, h1, h2⟩ := hg
  refine ⟨O.set (some (.cells (storeList c p [y]) (p + 1) 3 0 p (p + 1) 0 sg (ex.set (some p) (p - 1)))) ri, ?_, ⟨_, _, _, by omega, by rw [T.get_set, if_pos rfl]; rfl, fun k hk => ?_⟩, fun j hj => by rw [T.get_set, if_neg hj]⟩
  · rw [app_base (sl := p - t) rfl rfl (first_lit h) hy]
    show valH (match appendKnown ⟨O, M, G⟩ 3 1 ri (p - 1) t t (p - t) (p - t + 1) [y] with | some r => some r | none => appendGrow ⟨O, M, G⟩ 3 1 8 ri (p - 1) t t (p - t) (p - t + 1) [y]) = _
    have hext : extOf ex p (p - 1) (p - 1) = some p := by unfold extOf; rw [if_pos rfl]
    have k1 : appendKnown ⟨O, M, G⟩ 3 1 ri (p - 1) t t (p - t) (p - t + 1) [y] = none := by
      unfold appendKnown
      show (match O.get ri with | some (.cells _ m el' lo hi _ _ _ ex) => _ | _ => _) = _
      rw [h1]
      simp only [hext]
      rw [if_neg (by omega)]
    rw [k1]
    simp only
    unfold appendGrow
    show valH (match O.get ri with | some (.cells c m el' lo hi nv fz sg ex) => _ | _ => _) = _
    rw [h1]
    simp only [hext]
    have hroom : roomA (p - t + 1) 8 = true := by
      unfold roomA
      rw [Bool.and_eq_true]
      exact ⟨Nat.ble_eq_true_of_le (by omega), Nat.ble_eq_true_of_le (show p - t + 1 + 1 ≤ 2 ^ 60 by omega)⟩
    rw [if_pos ⟨by omega, by omega, by omega, by omega, trivial, by omega, by omega, hroom⟩, if_pos ⟨by omega, by omega⟩, T.seq_eq, T.seq_eq]
    have e1 : t + (p - t) * 1 = p := by omega
    have e2 : p - 1 + 1 = p := by omega
    rw [e1, e2]
    rfl
  · rw [storeList_get]
    by_cases e : k = p
    · subst e
      rw [if_pos ⟨Nat.le_refl _, by simp⟩, Nat.sub_self]
      show some y = some (if k = k then y else f k)
      rw [if_pos rfl]
    · rw [if_neg (by simp; omega)]
      show c.get k = some (if k = p then y else f k)
      rw [if_neg e]
      exact h2 k (by omega)

theorem grow_load {O : T AObj} {ri p M : Nat} {G : T (T AV)} {f : Nat → AV} (hg : GRow O ri p f) {k : Nat} (hk : k < p) : loadCellsA ⟨O, M, G⟩ ri (p - 1) k 1 = some [f k] := by
  obtain ⟨c, sg, ex, h0, h1, h2⟩ := hg
  unfold loadCellsA
  show (match O.get ri with | some (.cells c n _ lo hi _ _ _ ex) => _ | some (.ro c lo n) => _ | _ => _) = _
  rw [h1]
  have hext : extOf ex p (p - 1) (p - 1) = some p := by unfold extOf; rw [if_pos rfl]
  simp only [hext]
  rw [if_pos ⟨Nat.zero_le _, Nat.le_refl _, by omega⟩]
  show (match c.get (k + 0) with | none => none | some v => some [v]) = _
  rw [Nat.add_zero, h2 k hk]

theorem lit_ok (O : T AObj) (M : Nat) (G : T (T AV)) (n : Int) : ∃ O', buildSliceA P ⟨O, M, G⟩ 32 1 [(0, .int .i64 n)] = some (.slc M 0 0 1 1, ⟨O', M + 1, G⟩) ∧ Row O' M 1 (fun _ => .int .i64 n) ∧ Frm O O' M := by
  refine ⟨O.set (some (.cells (storeList .leaf 0 [.int .i64 n]) 1 3 0 0 1 0 false .leaf)) M, by kernel_rfl, ⟨_, _, by rw [T.get_set, if_pos rfl], fun k hk => ?_⟩, fun j hj => by rw [T.get_set, if_neg hj]⟩
  obtain rfl : k = 0 := by omega
  rw [storeList_get]; rfl

/-- Numbers in a row that has grown. -/
def KV (O : T AObj) (lo hi : Nat) (zs : List Int) (ks : AV) : Prop := (ks = .nils 0 0 ∧ zs = []) ∨ ∃ ri q, ks = .slg ri q 0 (q + 1) 0 ∧ lo ≤ ri ∧ ri < hi ∧ q + 1 = zs.length ∧ GRow O ri (q + 1) (fun i => kAV (zs.getD i 0))

theorem GRow.same {O O' : T AObj} {ri p : Nat} {f : Nat → AV} (h : GRow O ri p f) (e : O'.get ri = O.get ri) : GRow O' ri p f := by
  obtain ⟨c, sg, ex, h0, h1, h2⟩ := h
  exact ⟨c, sg, ex, h0, e.trans h1, h2⟩

theorem GRow.to {O : T AObj} {ri p : Nat} {f g : Nat → AV} (h : GRow O ri p f) (e : ∀ k, k < p → f k = g k) : GRow O ri p g := by
  obtain ⟨c, sg, ex, h0, h1, h2⟩ := h
  exact ⟨c, sg, ex, h0, h1, fun k hk => by rw [h2 k hk, e k hk]⟩

variable {O O' O0 : T AObj} {N N0 l mi cap : Nat} {G : T (T AV)} {L : List Ent} {k v : Int}

theorem LR.same (h : LR O l mi cap L) (e : ∀ j, j = l ∨ j = mi ∨ (∃ x ∈ L, x.1 = j) → O'.get j = O.get j) : LR O' l mi cap L := by
  obtain ⟨h0, h1, h2, h3, h4, h5, h6, h7, h8, h9⟩ := h
  have el := e l (.inl rfl)
  refine ⟨h0, h1.same el, h2.same el, h3.same el, ring_same h4 fun i hi => ?_, fun x hx => ?_, h6, h7, h8.same (e mi (.inr (.inl rfl))), h9⟩
  · rcases hi with rfl | hi
    · exact el
    · obtain ⟨x, hx, rfl⟩ := List.mem_map.1 hi
      exact e _ (.inr (.inr ⟨x, hx, rfl⟩))
  · obtain ⟨a, b, c, d⟩ := h5 x hx
    have ex := e x.1 (.inr (.inr ⟨x, hx, rfl⟩))
    exact ⟨a, b, c.same ex, d.same ex⟩

theorem keys_loop (h : LR O0 l mi cap L) (hl : l < N0) (hx : ∀ x ∈ L, x.1 < N0) (hc : cap < 1000000000) {keep : Nat} {f0 : FuncId} {Q : AV → AHeap → Prop} {rest : List AFrame}
    (hK : ∀ (O' : T AObj) (N' : Nat) (ks : AV) (td : List AItem), N0 ≤ N' → (∀ j, j < N0 → O'.get j = O0.get j) → KV O' N0 N' (L.map (·.2.1)) ks → Goal P keep f0 Q (AM.mk (RF 12 35 (.node .leaf none (.node .leaf (some ks) .leaf)) td) rest ⟨O', N', G⟩)) :
    ∀ (w u : List Ent) (c : Ev.Node) (B : List Ev.Node) (O : T AObj) (N : Nat) (ks : AV), L = u ++ w → (w.map (·.1)).map nd ++ [((l, 3) : Ev.Node)] = c :: B → Lk O0 (c :: B) → N0 ≤ N → (∀ j, j < N0 → O.get j = O0.get j) → KV O N0 N (u.map (·.2.1)) ks →
      Goal P keep f0 Q (KL l ks c.1 c.2 rest O N G)
  | [], u, c, B, O, N, ks, hL, hB, hk, hN, hO, hv => by
    obtain rfl : c = (l, 3) := (List.cons.inj hB).1.symm
    have hl2 := (h.2.1).same (hO l hl)
    rw [List.append_nil] at hL
    exact (Obl.goal mix (K := Goal P keep f0 Q) (fun _ h => h) (cast (q_ke Q keep f0 rest O N l l 3 ks G ((Goal P keep f0 Q))).symm ⟨neq_ring hl2 N G, hK O N ks _ hN hO (by rw [hL]; exact hv)⟩))
  | x :: w, u, c, B, O, N, ks, hL, hB, hk, hN, hO, hv => by
    obtain ⟨e, B', hB'⟩ : ∃ e B', (w.map (·.1)).map nd ++ [((l, 3) : Ev.Node)] = e :: B' := by
      cases w with
      | nil => exact ⟨_, _, rfl⟩
      | cons a r => exact ⟨_, _, rfl⟩
    have hB2 : nd x.1 :: e :: B' = c :: B := by rw [← hB, ← hB']; rfl
    obtain ⟨rfl, rfl⟩ := List.cons.inj hB2
    rw [Lk.two] at hk
    obtain ⟨⟨k1, _⟩, k2⟩ := hk
    have hxm : x ∈ L := by rw [hL]; simp
    obtain ⟨p1, p2, p3, p4⟩ := h.2.2.2.2.2.1 x hxm
    have hxN := hx x hxm
    have ox := hO x.1 hxN
    have hlen : u.length < cap := by
      have := h.2.2.2.2.2.2.2.2.2
      rw [hL, List.length_append, List.length_cons] at this
      omega
    have hneq := neq_nd (p3.same ox) ((h.2.1).same (hO l hl)) p1 N G
    have hkey := (p3.same ox).load N G
    obtain ⟨O1, e1, r1, f1⟩ := lit_ok O N G x.2.1
    have hL' : L = (u ++ [x]) ++ w := by rw [hL, List.append_assoc]; rfl
    rcases hv with ⟨rfl, hz⟩ | ⟨ri, q, rfl, g1, g2, g3, g4⟩
    · obtain ⟨O2, e2, r2, gr2, f2⟩ := app_nils (M := N + 1) (G := G) r1 (Nat.lt_succ_self _) rfl
      have hO2 : ∀ j, j < N0 → O2.get j = O0.get j := fun j hj => (f2 j (by omega)).trans ((f1 j (by omega)).trans (hO j hj))
      have hu : u = [] := by cases u with | nil => rfl | cons a r => cases hz
      subst hu
      refine (Obl.goal mix (K := Goal P keep f0 Q) (fun _ h => h) (cast (q_kn Q keep f0 rest (x.2.1) O O1 O2 N l (x.1) 0 (e.1) (e.2) G ((Goal P keep f0 Q))).symm ⟨hneq, hkey, e1, e2, (k1.same (hO2 x.1 hxN)).load _ _, keys_loop h hl hx hc hK w [x] e B' O2 (N + 2) _ hL' hB' k2 (by omega) hO2 (.inr ⟨N + 1, 0, rfl, by omega, by omega, rfl, gr2.to fun k hk => ?_⟩)⟩))
      obtain rfl : k = 0 := by omega
      rfl
    · obtain ⟨O2, e2, gr2, f2⟩ := app_slg (M := N + 1) (G := G) (t := 0) r1 (g4.same (f1 ri (by omega))) (by omega) (Nat.zero_le _) (by rw [List.length_map] at g3; omega) rfl
      have hO2 : ∀ j, j < N0 → O2.get j = O0.get j := fun j hj => (f2 j (by omega)).trans ((f1 j (by omega)).trans (hO j hj))
      refine (Obl.goal mix (K := Goal P keep f0 Q) (fun _ h => h) (cast (q_ks Q keep f0 rest (x.2.1) O O1 O2 N l (x.1) 0 (e.1) (e.2) q ri (q + 1) G ((Goal P keep f0 Q))).symm ⟨hneq, hkey, e1, e2, (k1.same (hO2 x.1 hxN)).load _ _, keys_loop h hl hx hc hK w (u ++ [x]) e B' O2 (N + 1) _ hL' hB' k2 (by omega) hO2 (.inr ⟨ri, q + 1, rfl, g1, by omega, by rw [List.length_map] at g3 ⊢; rw [List.length_append, ← g3]; rfl, gr2.to fun k hk => ?_⟩)⟩))
      rw [List.map_append]
      by_cases hkq : k = q + 1
      · subst hkq
        rw [if_pos rfl, List.getD_eq_getElem?_getD, List.getElem?_append_right (by omega), ← g3, Nat.sub_self]
        rfl
      · rw [if_neg hkq, List.getD_eq_getElem?_getD, List.getD_eq_getElem?_getD, List.getElem?_append_left (by omega)]

end Go.Proofs.Ytcdpmiebmhjmpaa.lr
