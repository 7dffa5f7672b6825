/- What the evaluator's operations say is what the model's do: appends, whole. -/
import Derived.Test.YtcdpmiebmhjmpaaEvM
namespace Go.Proofs.Ytcdpmiebmhjmpaa.Ev
open Go

section
variable {P : Program} {B : Base} {R : Bij} {h : AHeap} {w : World}

theorem zeroCells_size (zero : Array Value) (n : Nat) : (Builtin.zeroCells zero n).size = n * zero.size := by simp [Builtin.zeroCells]

/-- A slice that grew, in a new block. -/
theorem new_grown (k : HRel P B R h w) (hB : B.n ≤ w.heap.size) {el : TypeId} {l : List AV} {vs : List Value} {need newCap : Nat} {zs : Array Value} {inf : TypeInfo} (hi : P.info? el = some inf)
    (hr : VRels R l vs) (hl : l.length = need * inf.size) (hz : zs.size = (newCap - need) * inf.size) (hle : need ≤ newCap) (hcb : newCap ≤ 9223372036854775807) :
    HRel P B (R.upd h.next 0 ⟨w.heap.size, 0, newCap⟩) (newCells h el l false) (w.drew.alloc (.cells (vs.toArray ++ zs) el)) ∧
      Keeps R w (R.upd h.next 0 ⟨w.heap.size, 0, newCap⟩) (w.drew.alloc (.cells (vs.toArray ++ zs) el)) := by
  have hfree := k.fresh h.next (Nat.le_refl _)
  have hvl := hr.length
  have hmul : (newCap - need) * inf.size + need * inf.size = newCap * inf.size := by rw [← Nat.add_mul]; congr 1; omega
  refine k.new hB _ (.cells (vs.toArray ++ zs) el) ⟨w.heap.size, 0, newCap⟩ rfl rfl rfl rfl rfl ?_
  refine ⟨Nat.le_refl _, by omega, fun r hr' => ?_, fun r e h1 h2 h3 => ?_, fun r e h1 h2 h3 => ?_⟩
  rotate_left 2
  · obtain rfl : r = 0 := by omega
    simp [extOf] at h3; omega
  · rw [R.upd_other _ (by omega)]; exact hfree r
  · obtain rfl : r = 0 := by omega
    simp [extOf] at h3; subst h3
    refine ⟨_, R.upd_same _ _ _, vs.toArray ++ zs, 0, 0, ?_, by simp; omega, ?_, ⟨⟨Nat.le_refl _, fun _ => Nat.le_trans hcb (Nat.le_add_left _ _)⟩, fun j a b => by omega⟩, fun j x a _ c => ?_⟩
    · show (w.heap.push _)[w.heap.size]? = _; simp
    · rw [cellsOf_info hi]; simp; omega
    · rw [storeList_get] at c
      simp only [Nat.zero_le, true_and, Nat.zero_add, Nat.sub_zero] at c ⊢
      rw [if_pos a] at c
      obtain ⟨y, hy, hyr⟩ := hr.get j x c
      refine ⟨y, ?_, VRel.mono (R.le_upd _ (hfree 0)) _ _ hyr⟩
      rw [Array.getElem?_append, if_pos (by simp; omega)]
      simpa using hy

theorem appendNone_sound {s v : AV} {h' : AHeap} {s' : Value} (e : appendNone h s = some (v, h')) (hs : VRel R s s') : v = s ∧ h' = h ∧ ∃ b l c, s' = .slice b l c ∧ l ≤ c := by
  unfold appendNone at e
  split at e
  · split at e
    · cases e; cases hs; exact ⟨rfl, rfl, _, _, _, rfl, by assumption⟩
    · cases e
  · split at e
    · cases e; obtain ⟨L, _, _, rfl⟩ := hs; exact ⟨rfl, rfl, _, _, _, rfl, by assumption⟩
    · cases e
  · cases e; obtain ⟨L, a, _, _, hk, rfl, _⟩ := hs; exact ⟨rfl, rfl, _, _, _, rfl, by omega⟩
  · cases e

/-- Nothing is appended to a nil slice. -/
theorem append_nil {argTypes : Array TypeId} {ty t u el : TypeId} {ud : TypeDesc} {inf : TypeInfo} {zv x' : Value} {sLen sCap : Nat}
    (ht : argTypes[0]? = some t) (hu : argTypes[1]? = some u) (htd : P.underlying t = some (.slice el)) (hud : P.underlying u = some ud) (hi : P.info? el = some inf) (_hz : inf.zero = some zv)
    (ha : Apd P w el inf zv ud x' 0 []) (hle : sLen ≤ sCap) :
    (Builtin.append_ argTypes ty #[.slice none sLen sCap, x']).run P w = .ok (.slice none sLen sCap) w := by
  by_cases hk : ∃ k, ud = .int k
  · obtain ⟨k, l, rfl, h0, h1, hn, hb, _⟩ := ha.more hk
    obtain ⟨k', rfl⟩ := hk
    have hw := wrap_small h0 h1
    have hneg : ¬ l < 0 := by omega
    have hbig : ¬ l * (inf.bytes : Int) > 2 ^ 48 := by omega
    simp only [Builtin.append_, ht, hu, List.getElem?_toArray, List.getElem?_cons_zero, List.getElem?_cons_succ, Sem.run_bind, r_underlying w htd, r_underlying w hud, Result.andThen_ok, r_sizeOf w hi, Sem.run_pure, if_true, asInt, asIntOf, hw, hneg, if_false, r_typeInfo w hi, hbig, ← hn, Nat.add_zero, hle, Nat.zero_mul]
    rfl
  · obtain ⟨h1, h2⟩ := ha.plain (fun k e => hk ⟨k, e⟩)
    simp only [Builtin.append_, ht, hu, List.getElem?_toArray, List.getElem?_cons_zero, List.getElem?_cons_succ, Sem.run_bind, r_underlying w htd, r_underlying w hud, Result.andThen_ok, r_sizeOf w hi, Sem.run_pure]
    cases ud <;> first
      | exact absurd ⟨_, rfl⟩ hk
      | (simp only [Bool.false_eq_true, if_false, Sem.run_bind, Result.andThen_ok, h1, Nat.add_zero, hle, if_true, Bool.not_false, h2, Sem.run_pure])

/-- A slice whose capacity nobody knows: it grows, where it lies or elsewhere. -/
theorem appendGrow_sound (k : HRel P B R h w) (hB : B.n ≤ w.heap.size) {argTypes : Array TypeId} {ty t u el : TypeId} {ud : TypeDesc} {inf : TypeInfo} {zv x' s' : Value} {i r off st sLen n : Nat} {new : List AV} {vs : List Value} {v : AV} {h' : AHeap}
    (ht : argTypes[0]? = some t) (hu : argTypes[1]? = some u) (htd : P.underlying t = some (.slice el)) (hud : P.underlying u = some ud) (hi : P.info? el = some inf) (hz : inf.zero = some zv) (hzs : zv.cells.size = inf.size) (hs0 : 0 < inf.size)
    (ha : ∀ w', w'.heap = w.heap → Apd P w' el inf zv ud x' n vs) (hnew : VRels R new vs) (hone : new.all AV.one = true) (hnl : new.length = n * inf.size) (hn0 : 0 < n)
    (hs : VRel R (.slg i r off sLen st) s') (e : appendGrow h el inf.size inf.bytes i r off st sLen (sLen + n) new = some (v, h')) :
    Made P B R w (Builtin.append_ argTypes ty #[s', x']) v h' := by
  obtain ⟨L, a, hL, hm, hk, rfl, haddr⟩ := hs
  unfold appendGrow at e
  simp only [T.seq_eq] at e
  split at e
  · rename_i c m el' lo hi' nv fz sg ex ho
    split at e
    · cases e
    · rename_i ee he
      split at e
      · rename_i hc
        obtain ⟨c1, c2, c3, c4, rfl, c6, c7, c8⟩ := hc
        obtain ⟨L', hL', cs, f0, f1, g1, g2, g3, g4, g5⟩ := k.ver hL ho c1 c2 he
        rw [hL] at hL'; cases hL'
        have hob := k.obj' hL ho
        obtain ⟨o1, o2, o3, o4, o5⟩ := hob
        have hcell := cellsOf_info hi
        rw [hcell] at g3
        have hlt := heap_lt g1
        have hnv : R i nv = none := o3 nv (Nat.le_refl _)
        have hvl := hnew.length
        have hinext : i < h.next := by
          rcases Nat.lt_or_ge i h.next with h1 | h1
          · exact h1
          · rw [k.fresh i h1] at hL; cases hL
        have hat : off + sLen * inf.size = (st + sLen) * inf.size := by rw [c6, Nat.add_mul]
        have hend : (st + sLen) * inf.size + n * inf.size = (st + (sLen + n)) * inf.size := by rw [← Nat.add_mul, Nat.add_assoc]
        -- the new object, whatever becomes of the older versions
        have fin : ∀ (R' : Bij) (w' : World) (L1 : Loc), R' = R.upd i nv L1 → R.le R' → (∀ b, ¬ B.may b → w'.heap[b]? = w.heap[b]?) → (B.may L1.block ∨ B.ro i) → L1.block < w'.heap.size → w.heap.size ≤ w'.heap.size →
            (∀ j r' M, j ≠ i → R j r' = some M → M.block ≠ L1.block) → (∀ j r' M, j ≠ i → R j r' = some M → w'.heap[M.block]? = w.heap[M.block]?) →
            (∀ r' M, R i r' = some M → M.block = L1.block → M.minus = L1.minus) →
            VerRel P R' w' (storeList c (off + sLen * inf.size) new) el' fz sg (off + sLen * inf.size + new.length) L1 →
            (m ≤ off + sLen * inf.size → ∀ r' e', lo ≤ r' → r' ≤ hi' → extOf ex m hi' r' = some e' → ∃ M, R i r' = some M ∧ VerRel P R' w' (storeList c (off + sLen * inf.size) new) el' fz sg e' M) →
            v = .slg i nv off (sLen + n) st ∧ HRel P B R' h' w' := by
          intro R' w' L1 hR' hle b0 b1 b2 b3 b4 b5 b6 b7 b8
          have hother : ∀ j s, j ≠ i → R' j s = R j s := fun j s hj => by rw [hR']; exact R.upd_other L1 (fun e => hj e.1)
          have hnewL : ∀ s M, R' i s = some M → (s = nv ∧ M = L1) ∨ (s ≠ nv ∧ R i s = some M) := by
            intro s M hM
            rw [hR'] at hM
            by_cases hs : s = nv
            · subst hs; rw [R.upd_same] at hM; cases hM; exact .inl ⟨rfl, rfl⟩
            · rw [R.upd_other L1 (fun e => hs e.2)] at hM; exact .inr ⟨hs, hM⟩
          have nvfree : ∀ r', nv + 1 ≤ r' → R' i r' = none := fun r' hr => by
            rw [hR', R.upd_other L1 (by omega)]; exact o3 r' (by omega)
          have common : ∀ (o : AObj), ObjRel P R' w' i o → HRel P B R' (h.put i o) w' := fun o hobj =>
            k.touch i o (k.live hL) hle (by rw [next_put]; exact Nat.le_refl _) (by rw [next_put]; exact hinext) (fun j => get_put h i j _) (fun j s hj => hother j s hj) b5 hobj b3
              (fun s M hM => by
                rcases hnewL s M hM with ⟨_, rfl⟩ | ⟨_, hM⟩
                · exact ⟨b1, b2, fun j r' M' hj e' => b4 j r' M' hj e'⟩
                · exact ⟨(k.place i s M hM).1, Nat.lt_of_lt_of_le (k.place i s M hM).2 b3, fun j r' M' hj e' hb => hj (k.apart _ _ _ _ _ _ e' hM hb (.inr (k.notRo ho rfl)))⟩)
              (fun s s' M M' hM hM' hb => by
                rcases hnewL s M hM with ⟨_, rfl⟩ | ⟨_, hM⟩
                · rcases hnewL s' M' hM' with ⟨_, rfl⟩ | ⟨_, hM'⟩
                  · rfl
                  · exact (b6 s' M' hM' hb.symm).symm
                · rcases hnewL s' M' hM' with ⟨_, rfl⟩ | ⟨_, hM'⟩
                  · exact b6 s M hM hb
                  · exact k.same i s s' M M' hM hM' hb) (glob_put _ _ _) b0 (k.notRo ho rfl)
          split at e
          · rename_i hkeep
            cases e
            refine ⟨rfl, common _ ⟨by omega, by omega, nvfree, fun r' e' a1 a2 a3 => ?_, fun r' e' a1 a2 a3 => ?_⟩⟩
            · by_cases hr : r' = nv
              · subst hr
                simp [extOf] at a3; subst a3
                exact ⟨L1, by rw [hR']; exact R.upd_same _ _ _, b7⟩
              · have hold : extOf ex m hi' r' = some e' := by
                  simp only [extOf, if_neg hr] at a3
                  simp only [extOf]
                  rw [T.get_set] at a3
                  exact a3
                obtain ⟨M, hM, hv⟩ := b8 hkeep.1 r' e' a1 (by omega) hold
                exact ⟨M, hle _ _ _ hM, hv⟩
            · by_cases hr : r' = nv
              · subst hr; simp [extOf] at a3; omega
              · have hold : extOf ex m hi' r' = some e' := by
                  simp only [extOf, if_neg hr] at a3
                  simp only [extOf]
                  rw [T.get_set] at a3
                  exact a3
                have := o5 r' e' a1 (by omega) hold
                omega
          · cases e
            refine ⟨rfl, common _ ⟨Nat.le_refl _, by omega, nvfree, fun r' e' a1 a2 a3 => ?_, fun r' e' a1 a2 a3 => ?_⟩⟩
            · obtain rfl : r' = nv := by omega
              simp [extOf] at a3; subst a3
              exact ⟨L1, by rw [hR']; exact R.upd_same _ _ _, b7⟩
            · obtain rfl : r' = nv := by omega
              simp [extOf] at a3; omega
        by_cases hcap : sLen + n ≤ L.kap - st
        · -- there is room
          have hst : st < L.kap := by omega
          obtain rfl := haddr hst
          have hbound : (st + (sLen + n)) * inf.size ≤ cs.size + L.minus := by
            rw [← g3.1]; exact Nat.mul_le_mul_right _ (by omega)
          have hrun := run_storeRow P L.block (off - L.minus + sLen * inf.size) el' f0 f1 vs 0 w cs g1 (AV_all_one hnew hone) (by omega) (fun j a1 a2 hj => by
            rcases g4.2 j hj.1 hj.2 with h1 | h1
            · omega
            · omega)
          have happ := append_in (argTypes := argTypes) (ty := ty) (a := ⟨L.block, off - L.minus, none⟩) ht hu htd hud hi hz hzs hs0 (ha w rfl) hcap (by rw [add_plain]; exact hrun)
          have hle := R.le_upd (i := i) (r := nv) L hnv
          have hidx : off - L.minus + sLen * inf.size + 0 = off + sLen * inf.size - L.minus := by omega
          rw [hidx] at hrun happ
          have hself := putRow_self w L.block (updL cs (off + sLen * inf.size - L.minus) vs) el' (f0, f1) hlt
          have upd_rel : ∀ e', (∀ k, off + sLen * inf.size ≤ k → k < e' → k < off + sLen * inf.size + new.length) → (∀ k v, k < e' → k < off + sLen * inf.size → L.minus ≤ k → c.get k = some v → ∃ x, cs[k - L.minus]? = some x ∧ VRel R v x) → e' ≤ cs.size + L.minus →
              VerRel P (R.upd i nv L) (putRow w L.block (updL cs (off + sLen * inf.size - L.minus) vs) el' (f0, f1)) (storeList c (off + sLen * inf.size) new) el' fz sg e' L := by
            intro e' q1 q2 q3
            refine ⟨_, f0, f1, hself, by rw [updL_size]; exact q3, by rw [updL_size, hcell]; exact g3, ⟨g4.1, fun j a b => by rw [updL_size]; exact g4.2 j a b⟩, fun j x a1 a2 a3 => ?_⟩
            rw [storeList_get] at a3
            rw [updL_get _ _ _ _ (by omega), hvl]
            split at a3
            · rename_i hj
              rw [if_pos (by omega)]
              obtain ⟨y, hy, hyr⟩ := hnew.get _ x a3
              exact ⟨y, by rw [← hy]; congr 1; omega, VRel.mono hle _ _ hyr⟩
            · rename_i hj
              have hjlt : j < off + sLen * inf.size := by
                rcases Nat.lt_or_ge j (off + sLen * inf.size) with h1 | h1
                · exact h1
                · exact absurd ⟨h1, q1 j h1 a1⟩ hj
              rw [if_neg (by omega)]
              obtain ⟨y, hy, hyr⟩ := q2 j x a1 hjlt a2 a3
              exact ⟨y, hy, VRel.mono hle _ _ hyr⟩
          obtain ⟨hv, hH⟩ := fin (R.upd i nv L) (putRow w L.block (updL cs (off + sLen * inf.size - L.minus) vs) el' (f0, f1)) L rfl hle (fun b hb => putRow_other w _ _ _ (k.off hL (k.notRo ho rfl) hb)) (k.place i r L hL).1 (by rw [putRow_size]; exact hlt) (by rw [putRow_size]; exact Nat.le_refl _)
            (fun j r' M hj e hb => hj (k.apart _ _ _ _ _ _ e hL hb (.inr (k.notRo ho rfl)))) (fun j r' M hj e => putRow_other w _ _ _ (fun hb => hj (k.apart _ _ _ _ _ _ e hL hb (.inr (k.notRo ho rfl)))))
            (fun r' M e hb => k.same i r' r M L e hL hb)
            (upd_rel _ (fun k a b => by omega) (fun k v a b c d => g5 k v (by omega) c d) (by omega))
            (fun hkeep r' e' a1 a2 a3 => by
              obtain ⟨M, hM, hv⟩ := o4 r' e' a1 a2 a3
              have he' := o5 r' e' a1 a2 a3
              refine ⟨M, hM, ?_⟩
              by_cases hb : M.block = L.block
              · obtain ⟨cs2, q0, q1, q2, q3, q4, q5, q6⟩ := hv
                have hmin := k.same i r' r M L hM hL hb
                rw [hb, g1] at q2
                cases q2
                obtain ⟨cs3, z0, z1, z2, z3, z4, z5, z6⟩ := upd_rel e' (fun k a b => by omega) (fun k v a b c d => by rw [← hmin] at c ⊢; exact q6 k v a c d) (by omega)
                rw [hself] at z2; cases z2
                exact ⟨_, f0, f1, by rw [hb]; exact hself, by omega, by rw [updL_size]; exact q4, ⟨q5.1, fun j a b => by rw [updL_size]; exact q5.2 j a b⟩, fun k v a b c => by rw [hmin] at b ⊢; exact z6 k v a b c⟩
              · have hold := hv.mono (w' := putRow w L.block (updL cs (off + sLen * inf.size - L.minus) vs) el' (f0, f1)) hle (putRow_other w _ _ _ hb)
                obtain ⟨cs2, q0, q1, q2, q3, q4, q5, q6⟩ := hold
                refine ⟨cs2, q0, q1, q2, q3, q4, q5, fun k v a b c => ?_⟩
                rw [storeList_get, if_neg (by omega)] at c
                exact q6 k v a b c)
          subst hv
          refine ⟨_, _, _, happ, ⟨L, _, R.upd_same _ _ _, hm, by omega, rfl, fun _ => rfl⟩, hH, ⟨rfl, rfl, rfl, by rw [putRow_size]; exact Nat.le_refl _, hle, fun b hb hn => ⟨putRow_other w _ _ _ (fun e => hn i r L hL e.symm), fun j s M hM => ?_⟩, Nat.le_refl _⟩⟩
          by_cases hc : j = i ∧ s = nv
          · rw [hc.1, hc.2, R.upd_same] at hM; cases hM; exact hn i r L hL
          · rw [R.upd_other L hc] at hM; exact hn j s M hM
        · -- there is none: a new block
          have hold : ∀ w', w'.heap = w.heap → (Builtin.firstCells inf.size sLen (.slice (some a) sLen (L.kap - st))).run P w' = .ok ((cs.extract (off - L.minus) (off - L.minus + sLen * inf.size)).toList.toArray) w' := by
            intro w' hw'
            simp only [Builtin.firstCells, Array.toArray_toList]
            by_cases hst : st < L.kap
            · obtain rfl := haddr hst
              have := run_loadRow P L.block (off - L.minus) el' (f0, f1) w' cs (by rw [hw']; exact g1) (sLen * inf.size) 0 #[] (by omega)
              rw [loadCells, this, Array.empty_append]; rfl
            · have hl0 : sLen = 0 := by omega
              subst hl0
              simp [loadCells, loadCellsFrom]
              exact Nat.min_le_left _ _
          obtain ⟨newCap, ⟨hge, hcb⟩, happ⟩ := append_fresh (argTypes := argTypes) (ty := ty) ht hu htd hud hi hz hzs hs0 ha (by omega) c8 hold
          have kapb : newCap + st ≤ off + 9223372036854775807 := by have := Nat.le_mul_of_pos_right st hs0; omega
          have hle := R.le_upd (i := i) (r := nv) ⟨w.heap.size, off, newCap + st⟩ hnv
          have hosz : (cs.extract (off - L.minus) (off - L.minus + sLen * inf.size)).toList.length = sLen * inf.size := by simp; omega
          have hzsz : (Builtin.zeroCells zv.cells (newCap - (sLen + n))).size = (newCap - (sLen + n)) * inf.size := by rw [zeroCells_size, hzs]
          have hmul : sLen * inf.size + n * inf.size + (newCap - (sLen + n)) * inf.size = newCap * inf.size := by rw [← Nat.add_mul, ← Nat.add_mul]; congr 1; omega
          generalize hrow : ((cs.extract (off - L.minus) (off - L.minus + sLen * inf.size)).toList.toArray ++ vs.toArray ++ Builtin.zeroCells zv.cells (newCap - (sLen + n))) = row at happ
          have hrs : row.size = newCap * inf.size := by rw [← hrow]; simp only [Array.size_append, List.size_toArray, hosz, hzsz]; omega
          have hbnew : (w.drew.alloc (.cells row el')).heap[w.heap.size]? = some (.cells row el' (0, 0)) := by show (w.heap.push _)[w.heap.size]? = _; simp
          have hbold : ∀ b, b < w.heap.size → (w.drew.alloc (.cells row el')).heap[b]? = w.heap[b]? := fun b hb => by show (w.heap.push _)[b]? = _; rw [Array.getElem?_push, if_neg (by omega)]
          have hsz : (w.drew.alloc (.cells row el')).heap.size = w.heap.size + 1 := by show (w.heap.push _).size = _; simp
          obtain ⟨hv, hH⟩ := fin (R.upd i nv ⟨w.heap.size, off, newCap + st⟩) (w.drew.alloc (.cells row el')) ⟨w.heap.size, off, newCap + st⟩ rfl hle (fun b hb => hbold b (Nat.lt_of_lt_of_le (Base.low_lt hb) hB)) (.inl (.inl hB)) (by rw [hsz]; exact Nat.lt_succ_self _) (by rw [hsz]; omega)
            (fun j r' M hj e hb => by have := (k.place j r' M e).2; simp only at hb; omega) (fun j r' M hj e => hbold _ (k.place j r' M e).2)
            (fun r' M e hb => by have := (k.place i r' M e).2; simp only at hb; omega)
            ⟨row, 0, 0, hbnew, by simp only; omega, ⟨by simp only; rw [hcell, hrs, Nat.add_mul, ← c6], by simp only; rw [hcell, c6]; exact Nat.dvd_mul_left _ _⟩, ⟨⟨Nat.le_refl _, fun _ => kapb⟩, fun j a b => by omega⟩, fun j x a1 a2 a3 => by
              simp only at a2
              rw [storeList_get] at a3
              split at a3
              · rename_i hj
                obtain ⟨y, hy, hyr⟩ := hnew.get _ x a3
                refine ⟨y, (?_ : row[j - off]? = some y), VRel.mono hle _ _ hyr⟩
                rw [← hrow, Array.getElem?_append, if_pos (by simp only [Array.size_append, List.size_toArray, hosz]; omega), Array.getElem?_append, if_neg (by simp only [List.size_toArray, hosz]; omega)]
                simp only [List.size_toArray, hosz, List.getElem?_toArray]
                rw [← hy]; congr 1; omega
              · rename_i hj
                obtain ⟨y, hy, hyr⟩ := g5 j x (by omega) (by omega) a3
                refine ⟨y, (?_ : row[j - off]? = some y), VRel.mono hle _ _ hyr⟩
                rw [← hrow, Array.getElem?_append, if_pos (by simp only [Array.size_append, List.size_toArray, hosz]; omega), Array.getElem?_append, if_pos (by simp only [List.size_toArray, hosz]; omega)]
                rw [Array.toArray_toList, Array.getElem?_extract, if_pos (by omega), ← hy]
                congr 1; omega⟩
            (fun hkeep r' e' a1 a2 a3 => by
              obtain ⟨M, hM, hv⟩ := o4 r' e' a1 a2 a3
              have he' := o5 r' e' a1 a2 a3
              refine ⟨M, hM, ?_⟩
              obtain ⟨cs2, q0, q1, q2, q3, q4, q5, q6⟩ := hv.mono (w' := w.drew.alloc (.cells row el')) hle (hbold _ (k.place i r' M hM).2)
              refine ⟨cs2, q0, q1, q2, q3, q4, q5, fun k v a b c => ?_⟩
              rw [storeList_get, if_neg (by omega)] at c
              exact q6 k v a b c)
          subst hv
          refine ⟨_, _, _, happ, ⟨_, _, R.upd_same _ _ _, Nat.le_refl _, by simp only; omega, by simp only; congr 1; omega, fun _ => by simp⟩, hH, ⟨rfl, rfl, rfl, by rw [hsz]; omega, hle, fun b hb hn => ⟨hbold b hb, fun j s M hM => ?_⟩, Nat.le_succ _⟩⟩
          by_cases hc : j = i ∧ s = nv
          · rw [hc.1, hc.2, R.upd_same] at hM; cases hM; simp only; omega
          · rw [R.upd_other _ hc] at hM; exact hn j s M hM
      · cases e
  · cases e


/-- What a slice's cells are hangs on the heap alone. -/
theorem load_same {w w' : World} {a : Addr} (hw : w'.heap = w.heap) (hrow : ∃ cs el fz, w.heap[a.block]? = some (.cells cs el fz)) : ∀ (m i : Nat) (acc r : Array Value) (w2 : World),
    (loadCellsFrom a i m acc).run P w = .ok r w2 → (loadCellsFrom a i m acc).run P w' = .ok r w'
  | 0, i, acc, r, w2, hr => by simp [loadCellsFrom] at hr ⊢; exact hr.1
  | m + 1, i, acc, r, w2, hr => by
    simp only [loadCellsFrom, Sem.run_bind, run_load] at hr ⊢
    have hce : w'.cell? (a.add i) = w.cell? (a.add i) := by simp only [World.cell?, hw]
    rw [hce]
    cases hcc : w.cell? (a.add i) with
    | some x => rw [hcc] at hr; simp only [Result.andThen_ok] at hr ⊢; exact load_same hw hrow m _ _ _ _ hr
    | none =>
      rw [hcc] at hr
      obtain ⟨cs, el, fz, hb⟩ := hrow
      have hblk : (a.add i).block = a.block := by simp only [Addr.add]; split <;> rfl
      simp only [World.farLoad, hblk, hb] at hr
      cases hr

theorem slc_row (k : HRel P B R h w) {s : AV} {a : Addr} {l c size n : Nat} {old : List AV} (hs : VRel R s (.slice (some a) l c)) (hns : ∀ i r o len st, s ≠ .slg i r o len st) (hsl : s ≠ .sle) (e : firstA h size n s = some old) :
    ∃ cs el fz, w.heap[a.block]? = some (.cells cs el fz) := by
  unfold firstA at e
  split at e
  · cases hs
  · obtain ⟨L, hL, hm, hh⟩ := hs
    cases hh
    unfold loadCellsA at e
    split at e
    · rename_i c m el lo hi nv fz sg ex ho
      split at e
      · cases e
      · rename_i e' he
        split at e
        · rename_i hc
          obtain ⟨L', hL', cs, f0, f1, g1, _⟩ := k.ver hL ho hc.1 hc.2.1 he
          rw [hL] at hL'; cases hL'
          exact ⟨_, _, _, g1⟩
        · cases e
    · rename_i c lo m ho
      split at e
      · rename_i hc
        obtain ⟨L', cs, el, fz, hL', q1, q2, q3, q4⟩ := k.obj' hL ho
        rw [hc.1, hL'] at hL; cases hL
        exact ⟨_, _, _, q2⟩
      · cases e
    · cases e
  · exact absurd rfl (hns _ _ _ _ _)
  · cases hs
  · exact absurd rfl hsl
  · cases e

theorem appendFresh_sound (k : HRel P B R h w) (hB : B.n ≤ w.heap.size) {argTypes : Array TypeId} {ty t u el : TypeId} {ud : TypeDesc} {inf : TypeInfo} {zv x' : Value} {b : Option Addr} {sLen sCap n : Nat} {s : AV} {new : List AV} {vs : List Value} {v : AV} {h' : AHeap}
    (ht : argTypes[0]? = some t) (hu : argTypes[1]? = some u) (htd : P.underlying t = some (.slice el)) (hud : P.underlying u = some ud) (hi : P.info? el = some inf) (hz : inf.zero = some zv) (hzs : zv.cells.size = inf.size) (hs0 : 0 < inf.size)
    (ha : ∀ w', w'.heap = w.heap → Apd P w' el inf zv ud x' n vs) (hnew : VRels R new vs) (hnl : new.length = n * inf.size) (hgt : sCap < sLen + n)
    (hs : VRel R s (.slice b sLen sCap)) (hns : ∀ i r o len st, s ≠ .slg i r o len st) (hsl : s ≠ .sle) (e : appendFresh h el inf.size inf.bytes sLen (sLen + n) s new = some (v, h')) :
    Made P B R w (Builtin.append_ argTypes ty #[.slice b sLen sCap, x']) v h' := by
  unfold appendFresh at e
  split at e
  · rename_i hroom
    split at e
    · cases e
    · rename_i old hold
      split at e
      · rename_i hc
        cases e
        obtain ⟨ovs, f1, f2⟩ := firstA_sound k hold hs (fun i r o len st hh => absurd hh (hns _ _ _ _ _))
        have hold' : ∀ w', w'.heap = w.heap → (Builtin.firstCells inf.size sLen (.slice b sLen sCap)).run P w' = .ok ovs.toArray w' := by
          intro w' hw'
          cases b with
          | none => simp [Builtin.firstCells] at f1 ⊢; exact f1
          | some a => simp only [Builtin.firstCells] at f1 ⊢; exact load_same hw' (slc_row k hs hns hsl hold) _ _ _ _ _ f1
        obtain ⟨newCap, ⟨hge, hcb⟩, happ⟩ := append_fresh (argTypes := argTypes) (ty := ty) ht hu htd hud hi hz hzs hs0 ha hgt hroom hold'
        have hl : (old ++ new).length = (sLen + n) * inf.size := by rw [List.length_append, hc.2, hnl, Nat.add_mul]
        obtain ⟨g1, g2⟩ := new_grown k hB hi (f2.append hnew) hl (zs := Builtin.zeroCells zv.cells (newCap - (sLen + n))) (by rw [zeroCells_size, hzs]) hge hcb
        refine ⟨_, _, _, happ, new_slg R hge, ?_, ?_⟩
        · simpa using g1
        · simpa using g2
      · cases e
  · cases e

end

end Go.Proofs.Ytcdpmiebmhjmpaa.Ev
