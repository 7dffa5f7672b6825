/- What the evaluator's operations say is what the model's do: maps that are written, copies, appends. -/
import Derived.Test.YtcdpmiebmhjmpaaEvJ
namespace Go.Proofs.Ytcdpmiebmhjmpaa.Ev
open Go

mutual
theorem sameAV_eq : ∀ (n : Nat) (x y : AV), sameAV n x y = true → x = y
  | 0, _, _, h => by simp [sameAV] at h
  | n + 1, x, y, h => by
    cases x <;> cases y <;> simp only [sameAV, Bool.and_eq_true, decide_eq_true_eq, beq_iff_eq, Bool.false_eq_true] at h
    all_goals first
      | rfl
      | (obtain ⟨⟨rfl, h1⟩, h2⟩ := h; rw [sameAL_eq n _ _ h1, sameAL_eq n _ _ h2])
      | (rw [sameAL_eq n _ _ h])
      | (obtain ⟨e0, h1⟩ := h; have e1 := sameAV_eq n _ _ h1; simp_all; done)
      | (simp_all; done)
theorem sameAL_eq : ∀ (n : Nat) (x y : List AV), sameAL n x y = true → x = y
  | 0, _, _, h => by simp [sameAL] at h
  | n + 1, x, y, h => by
    cases x <;> cases y <;> simp only [sameAL, Bool.and_eq_true, Bool.false_eq_true] at h
    · rfl
    · rw [sameAV_eq n _ _ h.1, sameAL_eq n _ _ h.2]
end

section
variable {P : Program} {B : Base} {R : Bij} {h : AHeap} {w : World}

theorem HRel.heap_eq {w' : World} (k : HRel P B R h w) (e : w'.heap = w.heap) : HRel P B R h w' where
  fresh := k.fresh
  pend := k.pend
  obj i o ho hp := (k.obj i o ho hp).mono R.le_refl (fun _ => rfl) (fun _ _ _ => by rw [e])
  place i r L hL := by rw [e]; exact k.place i r L hL
  apart := k.apart
  same := k.same
  glob g c hg := by rw [e]; exact k.glob g c hg
  rd := k.rd
  rp := k.rp
  rol := k.rol
  pin := k.pin
  low b hb := by rw [e]; exact k.low b hb

theorem keyStays (P : Program) (old new : Value) (w : World) : ∃ v w', (Instr.keyThatStays old new).run P w = .ok v w' ∧ (v = old ∨ v = new) ∧ w'.heap = w.heap ∧ w'.os = w.os ∧ w'.tape = w.tape ∧ w'.output = w.output ∧ w.drawn ≤ w'.drawn := by
  unfold Instr.keyThatStays
  split
  · exact ⟨new, w, rfl, .inr rfl, rfl, rfl, rfl, rfl, Nat.le_refl _⟩
  · have hf : (Question.extern "map.whichKeyStays" 2).forced = false := rfl
    refine ⟨if (Question.extern "map.whichKeyStays" 2).cut (w.tape w.drawn (Question.extern "map.whichKeyStays" 2)) = 0 then new else old, w.drew, ?_, by split <;> simp, rfl, rfl, rfl, rfl, Nat.le_succ _⟩
    simp [hf]

theorem mapPutA_sound (k : HRel P B R h w) {t : TypeId} {m key v : AV} {h' : AHeap} {m' key' v' : Value} (e : mapPutA P h t m key v = some h') (hm : VRel R m m') (hk : VRel R key key') (hv : VRel R v v') :
    ∃ w', (Instr.mapUpdate t m' key' v').run P w = .ok () w' ∧ HRel P B R h' w' ∧ Keeps R w R w' := by
  unfold mapPutA at e
  split at e
  · cases e
  · rename_i kt el hmo
    have hmap := mapOf_sound hmo
    split at e
    · rename_i i
      obtain ⟨L, hL, rfl⟩ := hm
      split at e
      · cases e
      · rename_i r hr
        unfold findIn at hr
        split at hr
        · rename_i hko
          split at hr
          · cases hr
          · rename_i es hes
            unfold entriesOf at hes
            simp only [] at hes
            unfold putEntry at e
            split at e
            · rename_i es0 clock ho
              rw [ho] at hes; cases hes
              obtain ⟨L', es', hL', hh, hrel⟩ := k.obj' hL ho
              rw [hL] at hL'; cases hL'
              obtain ⟨u, hu⟩ := keyOk_und hko
              obtain ⟨r', e1, e2⟩ := findKey_sound k hk hu hr hrel
              have hck := keyOk_sound w false 9991 hko hk
              have hg : (getObj L.block).run P w = .ok (.map es' clock) w := by simp [getObj, Sem.run, hh]
              split at e
              · rename_i j a
                obtain ⟨b, _, g1, g2, rfl, g4⟩ := e2
                simp only [Nat.sub_zero] at g1 g2
                split at e
                · rename_i hsame
                  cases e
                  have heq := sameAV_eq _ _ _ hsame
                  obtain ⟨b', hb', hab⟩ := hrel.get j a g1
                  rw [g2] at hb'; cases hb'
                  obtain ⟨kk, w1, s1, s2, s3, s4, s5, s6, s7⟩ := keyStays P b.key key' w
                  have hkk : VRel R key kk := by
                    rcases s2 with rfl | rfl
                    · rw [heq]; exact hab.1
                    · exact hk
                  have hg2 : es'[j]? = some b := by simpa using g2
                  have hh1 : w1.heap[L.block]? = some (.map es' clock) := by rw [s3]; exact hh
                  have hj : j < es.length := (List.getElem?_eq_some_iff.1 g1).1
                  have hj' : j < es'.size := by have := hrel.length; simp at this; omega
                  have hs := run_setObj P (ob := .map (es'.modify j fun e => { e with key := kk, val := v' }) clock) hh1 (by simp)
                  obtain ⟨p1, p2⟩ := put_other (k.heap_eq s3) hL (k.notRo ho rfl) (.map (es.take j ++ { key := key, val := v, born := a.born } :: es.drop (j + 1)) clock) (.map (es'.modify j fun e => { e with key := kk, val := v' }) clock)
                    ⟨L, _, hL, setBlk_self w1 _ _ (heap_lt hh1), by
                      have : (es'.modify j fun e => { e with key := kk, val := v' }).toList = es'.toList.take j ++ { b with key := kk, val := v' } :: es'.toList.drop (j + 1) := by
                        rw [Array.toList_modify, List.modify_eq_take_cons_drop (by simpa using hj')]
                        congr 2
                        have : es'.toList[j] = b := by
                          have := (List.getElem?_eq_some_iff.1 g2).2; exact this
                        rw [this]
                      rw [this]
                      exact (hrel.take j).append ⟨_, _, rfl, ⟨hkk, hv, hab.2.2⟩, hrel.drop (j + 1)⟩⟩
                  refine ⟨_, ?_, p1, (⟨s4, s5, s6, by rw [s3]; exact Nat.le_refl _, R.le_refl, fun b hb hn => ⟨by rw [s3], hn⟩, s7⟩ : Keeps R w R w1).trans p2⟩
                  simp only [Instr.mapUpdate, Sem.run_bind, r_underlying w hmap, Result.andThen_ok, hg, hck, e1, hg2, Option.map_some, Option.getD_some, s1, hs]
                · cases e
              · cases e2
                cases e
                have hs := run_setObj P (ob := .map (es'.push { key := key', val := v', born := clock }) (clock + 1)) hh (by simp)
                obtain ⟨p1, p2⟩ := put_other k hL (k.notRo ho rfl) (.map (es ++ [{ key := key, val := v, born := clock }]) (clock + 1)) (.map (es'.push { key := key', val := v', born := clock }) (clock + 1))
                  ⟨L, _, hL, setBlk_self w _ _ (heap_lt hh), by rw [Array.toList_push]; exact hrel.append ⟨_, _, rfl, ⟨hk, hv, rfl⟩, rfl⟩⟩
                refine ⟨_, ?_, p1, p2⟩
                simp only [Instr.mapUpdate, Sem.run_bind, r_underlying w hmap, Result.andThen_ok, hg, hck, e1, hs]
            · cases e
        · cases hr
    · cases e

theorem bornAt_sound : ∀ {es : List AEntry} {es' : List MapEntry} {n i j : Nat}, All2 (ERel R) es es' → bornAt n es i = some j →
    i ≤ j ∧ es'.findIdx? (fun e => (e.born : Int) == (n : Int)) = some (j - i)
  | [], _, _, _, _, _, e => by simp [bornAt] at e
  | a :: r, es', n, i, j, h, e => by
    obtain ⟨b, bs, rfl, hab, hr⟩ := h
    unfold bornAt at e
    split at e
    · rename_i hb
      cases e
      have : a.born = n := Nat.eq_of_beq_eq_true hb
      refine ⟨Nat.le_refl _, ?_⟩
      rw [List.findIdx?_cons, ← hab.2.2, this]
      simp
    · rename_i hb
      have hne : a.born ≠ n := Nat.ne_of_beq_eq_false hb
      obtain ⟨h1, h2⟩ := bornAt_sound hr e
      refine ⟨by omega, ?_⟩
      have hf : ((b.born : Int) == (n : Int)) = false := by
        rw [← hab.2.2]; simp; omega
      rw [List.findIdx?_cons, hf, h2]
      simp only [Bool.false_eq_true, if_false, Option.map_some, Option.some.injEq]
      omega

theorem mapEntryA_sound (k : HRel P B R h w) {t : TypeId} {m key v : AV} {h' : AHeap} {m' key' : Value} (e : mapEntryA P h t m key = some (v, h')) (hm : VRel R m m') (hk : VRel R key key') :
    Made P B R w (Instr.mapEntry t m' key') v h' := by
  unfold mapEntryA at e
  split at e
  · cases e
  · rename_i kt el hmo
    have hmap := mapOf_sound hmo
    split at e
    · rename_i i
      obtain ⟨L, hL, rfl⟩ := hm
      split at e
      · cases e
      · rename_i r hr
        unfold findIn at hr
        split at hr
        · rename_i hko
          split at hr
          · cases hr
          · rename_i es hes
            unfold entriesOf at hes
            simp only [] at hes
            unfold entryAt at e
            split at e
            · rename_i es0 clock ho
              rw [ho] at hes; cases hes
              obtain ⟨L', es', hL', hh, hrel⟩ := k.obj' hL ho
              rw [hL] at hL'; cases hL'
              obtain ⟨u, hu⟩ := keyOk_und hko
              obtain ⟨r', e1, e2⟩ := findKey_sound k hk hu hr hrel
              have hck := keyOk_sound w false 9991 hko hk
              have hg : (getObj L.block).run P w = .ok (.map es' clock) w := by simp [getObj, Sem.run, hh]
              split at e
              · rename_i j a
                obtain ⟨b, _, g1, g2, rfl, g4⟩ := e2
                simp only [Nat.sub_zero] at g1 g2
                split at e
                · rename_i hsame
                  cases e
                  have heq := sameAV_eq _ _ _ hsame
                  obtain ⟨b', hb', hab⟩ := hrel.get j a g1
                  rw [g2] at hb'; cases hb'
                  obtain ⟨kk, w1, s1, s2, s3, s4, s5, s6, s7⟩ := keyStays P b.key key' w
                  have hkk : VRel R a.key kk := by
                    rcases s2 with rfl | rfl
                    · exact hab.1
                    · rw [← heq]; exact hk
                  have hg2 : es'[j]? = some b := by simpa using g2
                  have hh1 : w1.heap[L.block]? = some (.map es' clock) := by rw [s3]; exact hh
                  have hj : j < es.length := (List.getElem?_eq_some_iff.1 g1).1
                  have hj' : j < es'.size := by have := hrel.length; simp at this; omega
                  have hs := run_setObj P (ob := .map (es'.modify j fun e => { e with key := kk }) clock) hh1 (by simp)
                  have hes : es = es.take j ++ a :: es.drop (j + 1) := by
                    have : es[j] = a := (List.getElem?_eq_some_iff.1 g1).2
                    rw [← this]; simp
                  obtain ⟨p1, p2⟩ := put_other (k.heap_eq s3) hL (k.notRo ho rfl) (.map es clock) (.map (es'.modify j fun e => { e with key := kk }) clock)
                    ⟨L, _, hL, setBlk_self w1 _ _ (heap_lt hh1), by
                      have : (es'.modify j fun e => { e with key := kk }).toList = es'.toList.take j ++ { b with key := kk } :: es'.toList.drop (j + 1) := by
                        rw [Array.toList_modify, List.modify_eq_take_cons_drop (by simpa using hj')]
                        congr 2
                        have : es'.toList[j] = b := by
                          have := (List.getElem?_eq_some_iff.1 g2).2; exact this
                        rw [this]
                      rw [this, hes]
                      have hlen : (es.take j).length = j := by simp; omega
                      exact (hrel.take j).append ⟨_, _, rfl, ⟨hkk, hab.2.1, hab.2.2⟩, hrel.drop (j + 1)⟩⟩
                  refine ⟨R, .tuple #[b.val, goInt b.born], _, ?_, ?_, p1, (⟨s4, s5, s6, by rw [s3]; exact Nat.le_refl _, R.le_refl, fun b hb hn => ⟨by rw [s3], hn⟩, s7⟩ : Keeps R w R w1).trans p2⟩
                  · simp only [Instr.mapEntry, Sem.run_bind, r_underlying w hmap, Result.andThen_ok, hg, hck, e1, hg2, Option.map_some, Option.getD_some, s1, hs, Sem.run_pure]
                  · refine ⟨[_, _], rfl, _, _, rfl, hab.2.1, _, _, rfl, ?_, rfl⟩
                    rw [hab.2.2]; rfl
                · cases e
              · cases e2
                unfold entryNew at e
                split at e
                · cases e
                rename_i z hz
                cases e
                obtain ⟨inf, zv, hinf, hzv, hzr⟩ := zeroA_sound R hz
                have hs := run_setObj P (ob := .map (es'.push { key := key', val := zv, born := clock }) (clock + 1)) hh (by simp)
                obtain ⟨p1, p2⟩ := put_other k hL (k.notRo ho rfl) (.map (es ++ [{ key := key, val := z, born := clock }]) (clock + 1)) (.map (es'.push { key := key', val := zv, born := clock }) (clock + 1))
                  ⟨L, _, hL, setBlk_self w _ _ (heap_lt hh), by rw [Array.toList_push]; exact hrel.append ⟨_, _, rfl, ⟨hk, hzr, rfl⟩, rfl⟩⟩
                refine ⟨R, .tuple #[zv, goInt clock], _, ?_, ?_, p1, p2⟩
                · simp only [Instr.mapEntry, Sem.run_bind, r_underlying w hmap, Result.andThen_ok, hg, hck, e1, r_zeroValue w hinf hzv, hs, Sem.run_pure]
                · exact ⟨[_, _], rfl, _, _, rfl, hzr, _, _, rfl, rfl, rfl⟩
            · cases e
        · cases hr
    · cases e

theorem entryStoreA_sound (k : HRel P B R h w) {t : TypeId} {m s v : AV} {h' : AHeap} {m' s' v' : Value} (e : entryStoreA h m s v = some h') (hm : VRel R m m') (hs : VRel R s s') (hv : VRel R v v') :
    ∃ w', (Instr.entryStore t m' s' v').run P w = .ok () w' ∧ HRel P B R h' w' ∧ Keeps R w R w' := by
  unfold entryStoreA at e
  split at e
  · rename_i i
    obtain ⟨L, hL, rfl⟩ := hm
    split at e
    · rename_i kk nn
      cases hs
      split at e
      · rename_i n
        unfold entryPut at e
        split at e
        · rename_i es clock ho
          obtain ⟨L', es', hL', hh, hrel⟩ := k.obj' hL ho
          rw [hL] at hL'; cases hL'
          have hg : (getObj L.block).run P w = .ok (.map es' clock) w := by simp [getObj, Sem.run, hh]
          split at e
          · cases e
          · rename_i j hj
            obtain ⟨_, hfi⟩ := bornAt_sound hrel hj
            rw [Nat.sub_zero] at hfi
            split at e
            · cases e
            · rename_i a g1
              cases e
              obtain ⟨b, g2, hab⟩ := hrel.get j a g1
              have hj' : j < es'.size := by simpa using (List.getElem?_eq_some_iff.1 g2).1
              have hfa : es'.findIdx? (fun e => (e.born : Int) == Int.ofNat n) = some j := by
                rw [show es' = es'.toList.toArray from Array.toArray_toList.symm, List.findIdx?_toArray]; exact hfi
              have hso := run_setObj P (ob := .map (es'.modify j fun e => { e with val := v' }) clock) hh (by simp)
              obtain ⟨p1, p2⟩ := put_other k hL (k.notRo ho rfl) (.map (es.take j ++ { key := a.key, val := v, born := a.born } :: es.drop (j + 1)) clock) (.map (es'.modify j fun e => { e with val := v' }) clock)
                ⟨L, _, hL, setBlk_self w _ _ (heap_lt hh), by
                  have : (es'.modify j fun e => { e with val := v' }).toList = es'.toList.take j ++ { b with val := v' } :: es'.toList.drop (j + 1) := by
                    rw [Array.toList_modify, List.modify_eq_take_cons_drop (by simpa using hj')]
                    congr 2
                    have : es'.toList[j] = b := (List.getElem?_eq_some_iff.1 g2).2
                    rw [this]
                  rw [this]
                  exact (hrel.take j).append ⟨_, _, rfl, ⟨hab.1, hv, hab.2.2⟩, hrel.drop (j + 1)⟩⟩
              have hai : (asInt (.int kk (Int.ofNat n))).run P w = .ok (Int.ofNat n) w := rfl
              refine ⟨_, ?_, p1, p2⟩
              simp only [Instr.entryStore, Sem.run_bind, hg, Result.andThen_ok, hai, hfa, hso]
        · cases e
      · cases e
    · cases e
  · cases e

theorem deleteA_sound (k : HRel P B R h w) {t : TypeId} {m key : AV} {h' : AHeap} {m' key' : Value} {argTypes : Array TypeId} {ty : TypeId} (e : deleteA P h t m key = some h') (hm : VRel R m m') (hk : VRel R key key') (ht : argTypes[0]? = some t) :
    ∃ w', (Builtin.delete_ argTypes ty #[m', key']).run P w = .ok (.tuple #[]) w' ∧ HRel P B R h' w' ∧ Keeps R w R w' := by
  unfold deleteA at e
  split at e
  · cases e
  · rename_i kt el hmo
    have hmap := mapOf_sound hmo
    split at e
    · cases e
    · rename_i r hr
      unfold findIn at hr
      split at hr
      · rename_i hko
        split at hr
        · cases hr
        · rename_i es hes
          split at e
          · cases e
            cases hm
            have hck := keyOk_sound w true 9991 hko hk
            exact ⟨w, by simp [Builtin.delete_, ht, r_underlying w hmap, hck], k, Keeps.refl _ _⟩
          · rename_i i
            obtain ⟨L, hL, rfl⟩ := hm
            unfold entriesOf at hes
            simp only [] at hes
            unfold dropEntry at e
            split at e
            · rename_i es0 clock ho
              rw [ho] at hes; cases hes
              obtain ⟨L', es', hL', hh, hrel⟩ := k.obj' hL ho
              rw [hL] at hL'; cases hL'
              obtain ⟨u, hu⟩ := keyOk_und hko
              obtain ⟨r', e1, e2⟩ := findKey_sound k hk hu hr hrel
              have hck := keyOk_sound w es'.isEmpty 9991 hko hk
              have hg : (getObj L.block).run P w = .ok (.map es' clock) w := by simp [getObj, Sem.run, hh]
              split at e
              · rename_i j a
                obtain ⟨b, _, g1, g2, rfl, g4⟩ := e2
                simp only [Nat.sub_zero] at g1 g2
                cases e
                have hs := run_setObj P (ob := .map (es'.eraseIdxIfInBounds j) clock) hh (by simp)
                obtain ⟨p1, p2⟩ := put_other k hL (k.notRo ho rfl) (.map (es.take j ++ es.drop (j + 1)) clock) (.map (es'.eraseIdxIfInBounds j) clock)
                  ⟨L, _, hL, setBlk_self w _ _ (heap_lt hh), by
                    have : (es'.eraseIdxIfInBounds j).toList = es'.toList.take j ++ es'.toList.drop (j + 1) := by
                      rw [Array.toList_eraseIdxIfInBounds, List.eraseIdx_eq_take_drop_succ]
                    rw [this]
                    exact (hrel.take j).append (hrel.drop (j + 1))⟩
                refine ⟨_, ?_, p1, p2⟩
                simp [Builtin.delete_, ht, r_underlying w hmap, hg, hck, e1, hs]
              · cases e2
                cases e
                have hs := run_setObj P (ob := .map es' clock) hh (by simp)
                have hsame : (setBlk w L.block (.map es' clock)).heap = w.heap := by
                  simp only [setBlk]
                  apply Array.ext_getElem?
                  intro j
                  rw [Array.getElem?_setIfInBounds]
                  by_cases hj : L.block = j
                  · subst hj; rw [if_pos rfl, if_pos (heap_lt hh), hh]
                  · rw [if_neg hj]
                refine ⟨_, ?_, k.heap_eq hsame, ⟨rfl, rfl, rfl, by rw [hsame]; exact Nat.le_refl _, R.le_refl, fun b hb hn => ⟨by rw [hsame], hn⟩, Nat.le_refl _⟩⟩
                simp [Builtin.delete_, ht, r_underlying w hmap, hg, hck, e1, hs]
            · cases e
          · cases e
      · cases hr

end

end Go.Proofs.Ytcdpmiebmhjmpaa.Ev
