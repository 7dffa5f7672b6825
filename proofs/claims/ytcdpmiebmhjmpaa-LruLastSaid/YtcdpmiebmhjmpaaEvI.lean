/- What the evaluator's operations say is what the model's do: assertions, methods, what makes memory. -/
import Derived.Test.YtcdpmiebmhjmpaaEvH
namespace Go.Proofs.Ytcdpmiebmhjmpaa.Ev
open Go

section
variable {P : Program} {B : Base} {R : Bij} {h : AHeap} {w : World}

theorem failsA_sound {t : TypeId} {ok : Bool} {v : AV} (R : Bij) (_w : World) (e : failsA P t ok = some v) :
    ok = true ∧ ∃ i z, P.info? t = some i ∧ i.zero = some z ∧ VRel R v (.tuple #[z, .bool false]) := by
  unfold failsA at e
  split at e
  · cases e
  · split at e
    · cases e
    · rename_i z hz
      cases e
      obtain ⟨inf, zv, hi, hzv, hzr⟩ := zeroA_sound R hz
      exact ⟨rfl, inf, zv, hi, hzv, [zv, .bool false], rfl, .cons hzr (.cons rfl .nil)⟩

theorem least_cons (s : String) (l : List String) : ∃ m, Instr.least (s :: l) = some m := ⟨_, rfl⟩

theorem miss_filter (want : Array (String × TypeId)) (got : Array Method) : (want.toList.filter fun (x : String × TypeId) => !got.any fun m => m.name == x.1 && m.sig == x.2) = want.toList.filter fun p => !(got.toList.any fun m => m.name == p.1 && m.sig == p.2) := by
  congr 1
  funext p
  rw [Array.any_toList]

theorem miss_none {want : Array (String × TypeId)} {got : Array Method} (h : missA want got = false) : Instr.missingMethod want got = none := by
  have he : (want.toList.filter fun (x : String × TypeId) => !got.any fun m => m.name == x.1 && m.sig == x.2) = [] := by
    rw [miss_filter, List.filter_eq_nil_iff]
    intro p hp
    unfold missA at h
    rw [List.any_eq_false] at h
    exact h p hp
  unfold Instr.missingMethod
  simp only [he, List.map_nil, List.partition_eq_filter_filter, List.filter_nil]
  rfl

theorem miss_some {want : Array (String × TypeId)} {got : Array Method} (h : missA want got = true) : ∃ m, Instr.missingMethod want got = some m := by
  have hne : ((want.toList.filter fun (x : String × TypeId) => !got.any fun m => m.name == x.1 && m.sig == x.2).map (·.1)) ≠ [] := by
    rw [miss_filter]
    unfold missA at h
    rw [List.any_eq_true] at h
    obtain ⟨p, hp, hq⟩ := h
    intro e
    have : p ∈ want.toList.filter fun p => !(got.toList.any fun m => m.name == p.1 && m.sig == p.2) := List.mem_filter.2 ⟨hp, hq⟩
    rw [List.map_eq_nil_iff] at e
    rw [e] at this
    cases this
  unfold Instr.missingMethod
  generalize ((want.toList.filter fun (x : String × TypeId) => !got.any fun m => m.name == x.1 && m.sig == x.2).map (·.1)) = l at hne ⊢
  simp only [List.partition_eq_filter_filter]
  cases h1 : l.filter (fun x => !x.contains (Char.ofNat 46)) with
  | cons a r =>
    have h2 : List.filter (not ∘ fun x => x.contains (Char.ofNat 46)) l = a :: r := h1
    rw [h2]
    exact ⟨_, rfl⟩
  | nil =>
    have h2 : List.filter (not ∘ fun x => x.contains (Char.ofNat 46)) l = [] := h1
    rw [h2]
    cases h3 : l.filter (fun x => x.contains (Char.ofNat 46)) with
    | cons a r =>
      exact ⟨_, rfl⟩
    | nil =>
      exfalso
      cases l with
      | nil => exact hne rfl
      | cons a r =>
        have e1 := List.filter_eq_nil_iff.1 h1 a List.mem_cons_self
        have e2 := List.filter_eq_nil_iff.1 h3 a List.mem_cons_self
        cases h : a.contains (Char.ofNat 46) with
        | true => exact e2 h
        | false =>
          rw [h] at e1
          exact e1 rfl
theorem assertA_sound {x v : AV} {x' : Value} {xt t : TypeId} {ok : Bool} (w : World) (e : assertA P x t ok = some v) (hx : VRel R x x') :
    ∃ v', (Instr.typeAssert x' xt t ok).run P w = .ok v' w ∧ VRel R v v' := by
  unfold assertA at e
  split at e
  · cases e
  · rename_i u hu
    split at e
    · cases hx
      obtain ⟨rfl, i, z, hi, hz, hr⟩ := failsA_sound R w e
      refine ⟨_, ?_, hr⟩
      cases u <;> simp [Instr.typeAssert, r_underlying w hu, r_zeroValue w hi hz]
    · rename_i ti y
      obtain ⟨y', rfl, hy⟩ := hx
      split at e
      · rename_i want
        unfold assertI at e
        split at e
        · cases e
        · rename_i inf hinf
          split at e
          · rename_i hmm
            refine ⟨_, ?_, okOf_sound e (show VRel R (.ifc ti y) (.iface ti y') from ⟨y', rfl, hy⟩)⟩
            simp [Instr.typeAssert, r_underlying w hu, r_typeInfo w hinf, miss_none hmm]
          · rename_i hmm
            obtain ⟨s, hmm⟩ := miss_some hmm
            obtain ⟨rfl, i, z, hi, hz, hr⟩ := failsA_sound R w e
            refine ⟨_, ?_, hr⟩
            simp [Instr.typeAssert, r_underlying w hu, r_typeInfo w hinf, hmm, r_zeroValue w hi hz]
      · rename_i hni
        split at e
        · rename_i ht
          subst ht
          refine ⟨_, ?_, okOf_sound e hy⟩
          cases u <;> first | exact absurd rfl (hni _) | simp [Instr.typeAssert, r_underlying w hu]
        · rename_i ht
          obtain ⟨rfl, i, z, hi, hz, hr⟩ := failsA_sound R w e
          refine ⟨_, ?_, hr⟩
          cases u <;> first | exact absurd rfl (hni _) | simp [Instr.typeAssert, r_underlying w hu, ht, r_zeroValue w hi hz]
    · cases e

theorem mkIfaceA_sound {t : TypeId} {x v : AV} {x' : Value} (w : World) (e : mkIfaceA P t x = some v) (hx : VRel R x x') :
    ∃ v', (Instr.makeInterface t x').run P w = .ok v' w ∧ VRel R v v' := by
  unfold mkIfaceA at e
  split at e
  · cases e
  · rename_i u hu
    split at e
    · cases e
    · rename_i hni
      cases e
      refine ⟨.iface t x', ?_, x', rfl, hx⟩
      cases u <;> first | exact absurd rfl (hni _) | simp [Instr.makeInterface, r_underlying w hu]

theorem isPtrT_some {t e : TypeId} (h : isPtrT P t = some e) : P.underlying t = some (.pointer e) := by
  unfold isPtrT at h
  split at h
  · rename_i x hx; cases h; exact hx
  · cases h
theorem isPtrT_none {t : TypeId} {u : TypeDesc} (h : isPtrT P t = none) (hu : P.underlying t = some u) : ∀ e, u ≠ .pointer e := by
  intro e he; subst he; simp [isPtrT, hu] at h

theorem wrapNil {argTypes : Array TypeId} {t : TypeId} {a : Addr} {x y : ByteArray} (w : World) :
    (Builtin.ssaWrapNilChk_ argTypes t #[.pointer (some a), .string x, .string y]).run P w = .ok (.pointer (some a)) w := rfl

theorem methodA_sound (k : HRel P B R h w) {t : TypeId} {v r : AV} {v' : Value} {name : String} {f : FuncId} (e : methodA P h t v name = some (f, r)) (hv : VRel R v v') (n : Nat) :
    ∃ r', (method (n + 1) t v' name).run P w = .ok (f, r') w ∧ VRel R r r' := by
  unfold methodA at e
  split at e
  · cases e
  · rename_i inf hinf
    split at e
    · cases e
    · rename_i m hm
      split at e
      · rename_i hp
        split at e
        · cases e
        · rename_i g isPtr hf
          split at e
          · cases e
          · rename_i u hu
            unfold recvOf at e
            split at e
            · rename_i el hel
              have hptr := isPtrT_some hel
              rw [hu] at hptr; cases hptr
              split at e
              · cases e
                refine ⟨v', ?_, hv⟩
                simp [method, r_typeInfo w hinf, hm, hp, follow, hf, receiverAt, r_underlying w hu, Place.get]
              · split at e
                · rename_i i0 r0 o0
                  split at e
                  · cases e
                  · rename_i x hl
                    cases e
                    have hv0 := hv
                    obtain ⟨L, hL, hmm, rfl⟩ := hv
                    obtain ⟨x', e1, e2⟩ := loadA_sound k hl hv0
                    refine ⟨x', ?_, e2⟩
                    have e1' : (loadVar el ⟨L.block, o0 - L.minus, none⟩).run P w = .ok x' w := by simpa [Instr.loadAt, Instr.sureAddr] using e1
                    have hpe : m.path = #[] := by apply Array.ext'; simpa using hp
                    simp [method, r_typeInfo w hinf, hm, follow, hf, receiverAt, r_underlying w hu, Place.get, hpe, strVal, wrapNil, asAddr, e1']
                · cases e
            · rename_i hel
              have hnp := isPtrT_none hel hu
              split at e
              · cases e
              · cases e
                refine ⟨v', ?_, hv⟩
                cases u <;> first | exact absurd rfl (hnp _) | simp [method, r_typeInfo w hinf, hm, hp, follow, hf, receiverAt, r_underlying w hu, Place.get]
      · rename_i s rest hp
        split at e
        · cases e
        · split at e
          · cases e
          · rename_i g isPtr hf
            unfold hopA at e
            split at e
            · cases e
            · rename_i hd
              split at e
              · rename_i fs hs
                split at e
                · cases e
                · rename_i fl hfl
                  split at e
                  · cases e
                  · rename_i u hu
                    split at e
                    · cases e
                    · rename_i hnp
                      split at e
                      · rename_i i0 r0 o0
                        obtain ⟨L, hL, hmm, rfl⟩ := hv
                        unfold hopTo fieldPtr at e
                        simp only at e
                        split at e
                        · cases e
                        · rename_i q hq
                          split at hq
                          · cases hq
                          · cases hq
                          · rename_i sz hsz
                            cases hq
                            obtain ⟨inf2, hi2, hsz2⟩ := sizeT_info hsz
                            have hfp : (fieldPlace ⟨L.block, o0 - L.minus, none⟩ fl).run P w = .ok ⟨L.block, o0 + fl.offset - L.minus, none⟩ w := by
                              have : inf2.size ≠ 0 := by omega
                              simp [fieldPlace, r_sizeOf w hi2, this, add_plain]
                              omega
                            have hq : VRel R (.ptr i0 r0 (o0 + fl.offset)) (.pointer (some ⟨L.block, o0 + fl.offset - L.minus, none⟩)) := ⟨L, hL, by omega, rfl⟩
                            split at e
                            · cases e
                              refine ⟨_, ?_, hq⟩
                              cases u <;> first | exact absurd rfl (hnp _) | simp [method, r_typeInfo w hinf, hm, hp, follow, r_underlying w hs, hfl, hd, Place.get, asAddr, hfp, hf, receiverAt, r_underlying w hu]
                            · split at e
                              · cases e
                              · rename_i x hl
                                cases e
                                obtain ⟨x', e1, e2⟩ := loadA_sound k hl hq
                                have e1' : (loadVar fl.type ⟨L.block, o0 + fl.offset - L.minus, none⟩).run P w = .ok x' w := by simpa [Instr.loadAt, Instr.sureAddr] using e1
                                refine ⟨x', ?_, e2⟩
                                cases u <;> first | exact absurd rfl (hnp _) | simp [method, r_typeInfo w hinf, hm, hp, follow, r_underlying w hs, hfl, hd, Place.get, asAddr, hfp, hf, receiverAt, r_underlying w hu, e1']
                      · cases e
              · cases e


/-! ## Memory that is made -/

theorem loc_kap {n s : Nat} (_hs : 0 < s) (h : s ∣ n) : n / s * s = n := Nat.div_mul_cancel h

theorem len_small {len s : Nat} (h : len * s ≤ 2 ^ 24) (h0 : 0 < s) : len ≤ 9223372036854775807 := by
  have h1 := Nat.le_mul_of_pos_right len h0
  have h2 := Nat.le_trans h1 h
  clear h h1 h0
  omega

/-- A block of known cells, made. -/
theorem new_cells (k : HRel P B R h w) (hB : B.n ≤ w.heap.size) {el : TypeId} {l : List AV} {vs : List Value} {kap : Nat} {w' : World} (hr : VRels R l vs) (hk : kap * P.cellsOf el = l.length) (hkb : kap ≤ 9223372036854775807)
    (hh : w'.heap = w.heap.push (.cells vs.toArray el)) (hos : w'.os = w.os) (ht : w'.tape = w.tape) (hout : w'.output = w.output) (hdr : w.drawn ≤ w'.drawn := by first | exact Nat.le_refl _ | exact Nat.le_succ _ | assumption) :
    HRel P B (R.upd h.next 0 ⟨w.heap.size, 0, kap⟩) (newCells h el l false) w' ∧ Keeps R w (R.upd h.next 0 ⟨w.heap.size, 0, kap⟩) w' := by
  have hfree := k.fresh h.next (Nat.le_refl _)
  refine k.new hB _ _ ⟨w.heap.size, 0, kap⟩ rfl hh hos ht hout ?_
  refine ⟨Nat.le_refl _, by omega, fun r hr' => ?_, fun r e h1 h2 h3 => ?_, fun r e h1 h2 h3 => ?_⟩
  rotate_left 2
  · obtain rfl : r = 0 := by omega
    simp [extOf] at h3; omega
  · rw [R.upd_other _ (by omega)]; exact hfree r
  · obtain rfl : r = 0 := by omega
    simp [extOf] at h3; subst h3
    refine ⟨_, R.upd_same _ _ _, vs.toArray, 0, 0, ?_, by simp [hr.length], by simp [hr.length, hk], ⟨⟨Nat.le_refl _, fun _ => Nat.le_trans hkb (Nat.le_add_left _ _)⟩, fun j a b => by omega⟩, fun j x a _ c => ?_⟩
    · rw [hh]; simp
    · rw [storeList_get] at c
      simp only [Nat.zero_le, true_and, Nat.zero_add, Nat.sub_zero] at c ⊢
      rw [if_pos a] at c
      obtain ⟨y, hy, hyr⟩ := hr.get j x c
      exact ⟨y, by simpa using hy, VRel.mono (R.le_upd _ (hfree 0)) _ _ hyr⟩

theorem new_ptr {kap n : Nat} {i : Nat} (R : Bij) : VRel (R.upd i 0 ⟨n, 0, kap⟩) (.ptr i 0 0) (.pointer (some ⟨n, 0, none⟩)) :=
  ⟨⟨n, 0, kap⟩, R.upd_same _ _ _, by simp, by simp⟩


/-- What an operation of the evaluator says of the model's. -/
def OpRel (P : Program) (B : Base) (R : Bij) (w : World) (s : Sem Next) : AR → Prop
  | .val v h' => ∃ R' v' w', s.run P w = .ok (.value v') w' ∧ VRel R' v v' ∧ HRel P B R' h' w' ∧ Keeps R w R' w'
  | .skip h' => ∃ R' w', s.run P w = .ok .skip w' ∧ HRel P B R' h' w' ∧ Keeps R w R' w'
  | .enter f args h' => ∃ (as : List Value), s.run P w = .ok (.enter f as.toArray) w ∧ VRels R args as ∧ HRel P B R h' w
  | .round i args => ∃ (L : Loc) (as : List Value), R i 0 = some L ∧ VRels R args as ∧ s.run P w = (Instr.yield L.block as.toArray).run P w
  | .dfr d => ∃ d', s.run P w = .ok (.defer d') w ∧ DefRel R d d'
  | .recover => s.run P w = .ok .recover w
  | .panic v => ∃ v', s.run P w = .halt (.panic v') w ∧ VRel R v v'

theorem opRel_val (k : HRel P B R h w) {s : Sem Value} {v : AV} (e : ∃ v', s.run P w = .ok v' w ∧ VRel R v v') : OpRel P B R w (do pure (.value (← s))) (.val v h) := by
  obtain ⟨v', e1, e2⟩ := e
  exact ⟨R, v', w, by simp [e1], e2, k, Keeps.refl _ _⟩

theorem AV_all_one {l : List AV} {vs : List Value} (hr : VRels R l vs) (ho : l.all AV.one = true) : ∀ v ∈ vs, v.oneCell' = true := by
  intro v hv
  obtain ⟨i, hi, rfl⟩ := List.getElem_of_mem hv
  have hl : i < l.length := by rw [← hr.length]; exact hi
  obtain ⟨y, hy, hyr⟩ := hr.get i l[i] (List.getElem?_eq_getElem hl)
  rw [List.getElem?_eq_getElem hi] at hy; cases hy
  exact hyr.one (by rw [List.all_eq_true] at ho; exact ho _ (List.getElem_mem hl))

theorem boxA_sound (k : HRel P B R h w) (hB : B.n ≤ w.heap.size) {t : TypeId} {x v : AV} {h' : AHeap} {x' : Value} (e : boxA P h t x = some (v, h')) (hx : VRel R x x') :
    ∃ R' v' w', (newVar t x').run P w = .ok v' w' ∧ VRel R' v (.pointer (some v')) ∧ HRel P B R' h' w' ∧ Keeps R w R' w' := by
  unfold boxA at e
  split at e
  · rename_i hc
    cases e
    have hcx := hx.cells
    have hkap : 1 * P.cellsOf t = x.cells.length := by
      obtain ⟨inf, hi, hs⟩ := sizeT_info hc.2
      rw [cellsOf_info hi, hs, Nat.one_mul]
    obtain ⟨g1, g2⟩ := new_cells (w' := w.alloc (.cells x'.cells t)) k hB hcx hkap (by decide) (by show w.heap.push (.cells x'.cells t) = w.heap.push (.cells x'.cells.toList.toArray t); simp) rfl rfl rfl
    exact ⟨_, ⟨w.heap.size, 0, none⟩, w.alloc (.cells x'.cells t), by simp [newVar, newRow], new_ptr R, g1, g2⟩
  · cases e


theorem heap_lt {w : World} {b : Nat} {o : Obj} (e : w.heap[b]? = some o) : b < w.heap.size := by
  rcases Nat.lt_or_ge b w.heap.size with h' | h'
  · exact h'
  · rw [Array.getElem?_eq_none h'] at e; cases e

/-- Cells stored into a version: the others are there no more. -/
theorem storeCellsA_sound (k : HRel P B R h w) {i r off : Nat} {vs : List AV} {h' : AHeap} {L : Loc} {vs' : List Value} (e : storeCellsA h i r off vs = some h') (hL : R i r = some L) (hm : L.minus ≤ off) (hr : VRels R vs vs') :
    ∃ w', (storeCells ⟨L.block, off - L.minus, none⟩ vs' 0).run P w = .ok () w' ∧ HRel P B R h' w' ∧ Keeps R w R w' := by
  unfold storeCellsA at e
  simp only [T.seq_eq] at e
  split at e
  · rename_i c n el lo hi nv fz sg ex ho
    split at e
    · cases e
    · rename_i ee he
      split at e
      · rename_i hc
        obtain ⟨c1, c2, c3, c4, c5⟩ := hc
        cases e
        obtain ⟨L', hL', cs, f0, f1, g1, g2, g3, g4, g5⟩ := k.ver hL ho c1 c2 he
        rw [hL] at hL'; cases hL'
        have hlen := hr.length
        have hrun := run_storeRow P L.block (off - L.minus) el f0 f1 vs' 0 w cs g1 (AV_all_one hr c5) (by omega) (fun j a b hj => by
          rcases g4.2 j hj.1 hj.2 with h1 | h1
          · omega
          · omega)
        have hlt := heap_lt g1
        have hob := k.obj' hL ho
        refine ⟨_, hrun, ?_, ?_⟩
        · refine k.touch i _ (k.live hL) R.le_refl (by rw [next_put]; exact Nat.le_refl _) ?_ (fun j => get_put h i j _) (fun _ _ _ => rfl) (fun j r' M hj e => putRow_other w _ _ _ ?_) ?_ (by rw [putRow_size]; exact Nat.le_refl _) (fun r' M e => ⟨(k.place i r' M e).1, by rw [putRow_size]; exact (k.place i r' M e).2, fun j r'' M' hj e' hb => hj (k.apart _ _ _ _ _ _ e' e hb (.inr (k.notRo ho rfl)))⟩) (k.same i) (glob_put _ _ _) (fun b hb => putRow_other w _ _ _ (k.off hL (k.notRo ho rfl) hb)) (k.notRo ho rfl)
          · rw [next_put]
            rcases Nat.lt_or_ge i h.next with h1 | h1
            · exact h1
            · rw [k.fresh i h1] at hL; cases hL
          · exact fun hb => hj (k.apart _ _ _ _ _ _ e hL hb (.inr (k.notRo ho rfl)))
          · refine ⟨Nat.le_refl _, by have := hob.2.1; omega, hob.2.2.1, fun r' e' a1 a2 a3 => ?_, fun r' e' a1 a2 a3 => by
              obtain rfl : r' = r := by omega
              simp [extOf] at a3; omega⟩
            obtain rfl : r' = r := by omega
            simp [extOf] at a3; subst a3
            refine ⟨L, hL, updL cs (off - L.minus + 0) vs', f0, f1, putRow_self w _ _ _ _ hlt, by rw [updL_size]; exact g2, by rw [updL_size]; exact g3, ⟨g4.1, fun j a b => by rw [updL_size]; exact g4.2 j a b⟩, fun j v a1 a2 a3 => ?_⟩
            rw [storeList_get] at a3
            rw [updL_get _ _ _ _ (by omega), hlen]
            split at a3
            · rename_i hj
              rw [if_pos (by omega)]
              obtain ⟨y, hy, hyr⟩ := hr.get _ v a3
              exact ⟨y, by rw [← hy]; congr 1; omega, hyr⟩
            · rename_i hj
              rw [if_neg (by omega)]
              exact g5 j v a1 a2 a3
        · exact ⟨rfl, rfl, rfl, by rw [putRow_size]; exact Nat.le_refl _, R.le_refl, fun b hb hn => ⟨putRow_other w _ _ _ (fun e => hn i r L hL e.symm), hn⟩, Nat.le_refl _⟩
      · cases e
  · cases e

theorem storeA_sound (k : HRel P B R h w) {t : TypeId} {p v : AV} {h' : AHeap} {p' v' : Value} (e : storeA P h t p v = some h') (hp : VRel R p p') (hv : VRel R v v') :
    ∃ w', (Instr.storeAt t p' v').run P w = .ok () w' ∧ HRel P B R h' w' ∧ Keeps R w R w' := by
  unfold storeA at e
  split at e
  · rename_i i r off
    obtain ⟨L, hL, hm, rfl⟩ := hp
    split at e
    · cases e
    · rename_i inf hi
      split at e
      · rename_i hs
        have hcv := hv.cells
        obtain ⟨w', e1, e2, e3⟩ := storeCellsA_sound k e hL hm hcv
        refine ⟨w', ?_, e2, e3⟩
        have hsz : v'.cells.size = inf.size := by have := hcv.length; rw [← hs, ← this]; simp
        simp [Instr.storeAt, Instr.sureAddr, storeVar, r_sizeOf w hi, hsz, e1]
      · cases e
  · cases e

theorem repeatL_length (l : List AV) : ∀ n, (repeatL l n).length = n * l.length
  | 0 => by simp [repeatL]
  | n + 1 => by simp [repeatL, repeatL_length l n, Nat.succ_mul]; omega

theorem repeatL_get (l : List AV) : ∀ (n i : Nat), i < n * l.length → (repeatL l n)[i]? = l[i % l.length]?
  | 0, i, h => by simp at h
  | n + 1, i, h => by
    rw [repeatL, List.getElem?_append]
    rw [Nat.succ_mul] at h
    by_cases hi : i < l.length
    · rw [if_pos hi, Nat.mod_eq_of_lt hi]
    · rw [if_neg hi, repeatL_get l n (i - l.length) (by omega)]
      congr 1
      rw [Nat.mod_eq_sub_mod (by omega : i ≥ l.length)]

theorem zeros_rel {z : AV} {zv : Value} (hz : VRel R z zv) (n : Nat) : VRels R (repeatL z.cells n) ((Array.range (n * zv.cells.size)).map (zv.cells[· % zv.cells.size]!)).toList := by
  have hc := hz.cells
  have hl : zv.cells.size = z.cells.length := by have := hc.length; simpa using this
  refine .of_get (by simp [repeatL_length, hl]) fun i x e => ?_
  have hi : i < n * z.cells.length := by
    rw [← repeatL_length]
    rcases Nat.lt_or_ge i (repeatL z.cells n).length with h1 | h1
    · exact h1
    · rw [List.getElem?_eq_none h1] at e; cases e
  rw [repeatL_get _ _ _ hi] at e
  obtain ⟨y, hy, hyr⟩ := hc.get _ x e
  refine ⟨y, ?_, hyr⟩
  have hpos : 0 < z.cells.length := by
    rcases Nat.eq_zero_or_pos z.cells.length with h0 | h0
    · rw [h0] at hi; omega
    · exact h0
  have hmod : i % zv.cells.size < zv.cells.size := Nat.mod_lt _ (by omega)
  simp only [Array.getElem?_toList, Array.getElem?_map]
  rw [Array.getElem?_range, if_pos (by rw [hl]; exact hi)]
  simp only [Option.map_some]
  rw [Array.getElem?_toList] at hy
  rw [← hl] at hy
  rw [Array.getElem!_eq_getD, Array.getD_eq_getD_getElem?, hy]
  rfl

theorem repeatL_one {l : List AV} (h : l.all AV.one = true) (n : Nat) : (repeatL l n).all AV.one = true := by
  induction n with
  | zero => rfl
  | succ n ih => simp only [repeatL, List.all_append, h, ih, Bool.and_self]

end

end Go.Proofs.Ytcdpmiebmhjmpaa.Ev
