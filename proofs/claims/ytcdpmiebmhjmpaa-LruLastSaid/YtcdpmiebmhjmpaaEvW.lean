/- A frame that waited for a value gets it. -/
import Derived.Test.YtcdpmiebmhjmpaaEvV
namespace Go.Proofs.Ytcdpmiebmhjmpaa.Ev
open Go

section
variable {P : Program} {B : Base} {R : Bij} {d : Nat} {h : AHeap}

theorem putT_get {t t' : T AV} {n : Nat} {u : Option Nat} {v : AV} (e : putT t n u v = some t') : t' = setD t u v ∧ ∀ x, u = some x → x < n := by
  unfold putT at e
  split at e
  · cases e; exact ⟨rfl, fun x hx => by cases hx⟩
  · split at e
    · rename_i hb
      simp only [Option.some.injEq] at e
      subst e
      exact ⟨rfl, fun x hx => by cases hx; rw [Nat.blt_eq] at hb; exact hb⟩
    · cases e

def putS (a : Array Value) (u : Option Nat) (x : Value) : Array Value := match u with
  | some d => a.setIfInBounds d x
  | none => a

theorem putS_size (a : Array Value) (u : Option Nat) (x : Value) : (putS a u x).size = a.size := by
  cases u <;> simp [putS]

theorem putS_get {a : Array Value} {u : Option Nat} {x : Value} (i : Nat) (hu : ∀ y, u = some y → y < a.size) : (putS a u x)[i]? = if u = some i then some x else a[i]? := by
  cases u with
  | none => simp [putS]
  | some y =>
    have := hu y rfl
    simp only [putS, Option.some.injEq, Array.getElem?_setIfInBounds]
    by_cases hy : y = i
    · subst hy; simp [this]
    · simp [hy]

theorem setT_get {t : T AV} {u : Option Nat} {v : AV} (i : Nat) : (setD t u v).get i = if u = some i then some v else t.get i := by
  cases u with
  | none => simp [setD]
  | some y =>
    simp only [setD]
    rw [T.get_set]
    by_cases hy : i = y
    · subst hy; simp
    · rw [if_neg hy, if_neg (fun e => hy (Option.some.inj e).symm)]

theorem todo_plain {sus : Bool} {h : AHeap} {k : List AItem} {k' : List Item} {t : T AV} {a : Array Value} (hk : All2 (ItemRel R) k k') (hs : Slots R t a) : TodoRel P B R d sus h k t k' a := by
  unfold TodoRel
  split
  · obtain ⟨b, bs, _, h1, _⟩ := hk
    exact absurd h1 (fun e => e)
  · exact ⟨hk, hs⟩

theorem Slots.put {t t' : T AV} {a : Array Value} {n : Nat} {u : Option Nat} {v : AV} {x : Value} (k : Slots R t a) (hs : a.size = n) (e : putT t n u v = some t') (hv : VRel R v x) : Slots R t' (putS a u x) := by
  obtain ⟨rfl, hu⟩ := putT_get e
  intro i y hy
  rw [setT_get] at hy
  rw [putS_get i (fun y hy => by rw [hs]; exact hu y hy)]
  split at hy
  · rename_i hi; cases hy; rw [if_pos hi]; exact ⟨x, rfl, hv⟩
  · rename_i hi; rw [if_neg hi]; exact k i y hy

/-- The operation that the region waited for. -/
theorem Drw.finish {all : Array Oper} {i : Nat} {l dn : List Nat} {t t' : T AV} {h0 h : AHeap} {a : Array Value} {s : List Nat} {n : Nat} {o : Oper} {v : AV} {x : Value} (k : Drw P B R d true all (i :: l) dn t h0 a s) (ho : all[i]? = some o)
    (hs : a.size = n) (e : putT t n o.dst v = some t') (hv : VRel R v x) (hr : recheck P all.toList ((planOf P all.toList).anc.getD i 0) t' h dn = true) :
    ∃ s', s = i :: s' ∧ Drw P B R d false all l (i :: dn) t' h (putS a o.dst x) s' := by
  obtain ⟨⟨s', rfl⟩, hem⟩ := k.head rfl i l rfl
  obtain ⟨f1, f2, f3, f4, f5, _⟩ := k.facts
  obtain ⟨t1, t2, t3⟩ := k.topo
  have hidn : i ∉ dn := fun hi => by
    have := List.nodup_append.1 f5
    exact this.2.2 i (by simpa using hi) i List.mem_cons_self rfl
  have hil : i ∉ l := (List.nodup_cons.1 (List.nodup_append.1 f5).2.1).1
  obtain ⟨rfl, hu⟩ := putT_get e
  refine ⟨s', rfl, ⟨k.plan, ?_, t3, fun j hj => ?_, fun j hj => k.own j (List.mem_cons_of_mem _ hj), fun j hj hje => ?_, fun hh => (by cases hh), fun u y hy => ?_, fun p hp hps q hq => ?_, fun p hp q u hq hqu => ?_⟩⟩
  · rw [← k.split]; simp
  · rcases List.mem_cons.1 (k.rest j (List.mem_cons_of_mem _ hj)) with e | e
    · rw [e] at hj; exact absurd hj hil
    · exact e
  · rcases List.mem_cons.1 hj with e | e
    · rw [e]; exact t2
    · exact fun hh => k.effs j e hje (List.mem_cons_of_mem _ hh)
  · rw [setT_get] at hy
    rw [putS_get u (fun y hy => by rw [hs]; exact hu y hy)]
    split at hy
    · rename_i hi; cases hy; rw [if_pos hi]; exact .inr ⟨x, rfl, hv⟩
    · rename_i hi
      rw [if_neg hi]
      rcases k.slots u y hy with ⟨q, g1, g2, g3⟩ | g
      · refine .inl ⟨q, List.mem_cons_of_mem _ g1, ?_, g3⟩
        rcases List.mem_cons.1 g2 with e | e
        · rw [e] at g1; exact absurd g1 hidn
        · exact e
      · exact .inr g
  · rcases List.mem_cons.1 hp with e | hp
    · rw [e] at hps; exact absurd hps t2
    · have hpe : (planOf P all.toList).em.testBit p = false := by
        cases hb : (planOf P all.toList).em.testBit p with
        | false => rfl
        | true => exact absurd (List.mem_cons_of_mem _ hps) (k.effs p hp hb)
      have hanc : ((planOf P all.toList).anc.getD i 0).testBit p = false := t1 p (List.mem_cons_of_mem _ hps)
      refine (k.pend p hp (List.mem_cons_of_mem _ hps) q hq).again rfl (fun y hy => k.apart ho hy hidn hp hq hpe fun _ => hanc) fun h1 _ _ => ?_
      have := recheck_get hr p hp
      rw [show all.toList[p]? = some q by simpa using hq] at this
      simp only [recheckO, h1, hanc, Bool.not_false, Bool.and_self] at this
      exact this
  · rw [putS_size]
    rcases List.mem_cons.1 hp with e | hp
    · rw [e, ho] at hq; cases hq; rw [hs]; exact hu u hqu
    · exact k.bound p hp q u hq hqu

/-- What a frame is that waited, when it has its value. -/
theorem finish_sound {af af' : AFrame} {fr : Frame} {h0 : AHeap} {v : AV} {x : Value} (k : FrameRel P B R d true h0 af fr) (hm : af.mode = .run) (e : finishA P af h v = some af') (hv : VRel R v x) : FrameRel P B R d false h af' (fr.finish x) := by
  obtain ⟨fn, n, t, todo, ds, mode, kind, round⟩ := af
  simp only at hm
  subst hm
  obtain ⟨k1, k2, k3, k4, k5, k6, k7, k8, k9⟩ := k
  have k9 : TodoRel P B R d true h0 todo t fr.todo fr.tmps := k9
  unfold finishA at e
  simp only at e
  split at e
  · cases e
  · rename_i it kk _
    split at e
    · rename_i all l
      split at e
      · cases e
      · rename_i o l'
        unfold finOps at e
        split at e
        · cases e
        · rename_i t' ht
          cases e
          obtain ⟨k9, k10⟩ := k9
          obtain ⟨it', r', hfr, ⟨ops, ctodo, rfl, rfl, hmap⟩, hk⟩ := k9
          cases ctodo with
          | nil => simp at hmap
          | cons i ctodo =>
            simp only [List.map_cons, List.cons.injEq] at hmap
            have hfin : fr.finish x = { fr with tmps := putS fr.tmps o.dst x, todo := .inRegion ops ctodo :: r' } := by
              simp only [Frame.finish, hfr, ← hmap.1, Option.bind_some, putS]
              cases o.dst <;> rfl
            rw [hfin]
            exact ⟨k1, k2, k3, k4, k5, k6, k7, by rw [putS_size]; exact k8, todo_plain (P := P) (B := B) (d := d) (sus := false) (h := h) (k := .ops ops.toList l' :: kk) (k' := .inRegion ops ctodo :: r') ⟨_, _, rfl, ⟨ops, ctodo, rfl, rfl, hmap.2⟩, hk⟩ (k10.put k8 ht hv)⟩
    · rename_i all dn _ _
      split at e
      · cases e
      · rename_i i l' _
        split at e
        · cases e
        · rename_i o ho
          unfold finDrw at e
          split at e
          · cases e
          · rename_i t' ht
            split at e
            · cases e
            · rename_i hre
              cases e
              obtain ⟨s, k', hfr, hk, hd⟩ := k9
              have hem := (hd.head rfl i l' rfl).2
              have heff : isEff P o = true := by rw [← hd.plan.em i o ho]; exact hem
              obtain ⟨s', rfl, hd'⟩ := hd.finish ho k8 ht hv (by simpa [heff] using hre)
              have hfin : fr.finish x = { fr with tmps := putS fr.tmps o.dst x, todo := .inRegion all s' :: k' } := by
                simp only [Frame.finish, hfr, ho, Option.bind_some, putS]
                cases o.dst <;> rfl
              rw [hfin]
              exact ⟨k1, k2, k3, k4, k5, k6, k7, by rw [putS_size]; exact k8, ⟨s', k', rfl, hk, hd'⟩⟩
    · rename_i l _
      cases e
      obtain ⟨k9, k10⟩ := k9
      obtain ⟨it', r', hfr, ⟨L, hL, rfl⟩, hk⟩ := k9
      have hfin : fr.finish x = { fr with todo := .endRangeFunc L.block :: r' } := by simp only [Frame.finish, hfr]
      rw [hfin]
      exact ⟨k1, k2, k3, k4, k5, k6, k7, k8, todo_plain (P := P) (B := B) (d := d) (sus := false) (h := h) (k := .endRange l :: kk) (k' := .endRangeFunc L.block :: r') ⟨_, _, rfl, ⟨L, hL, rfl⟩, hk⟩ k10⟩
    · cases e
      obtain ⟨k9, k10⟩ := k9
      obtain ⟨it', r', hfr, rfl, hk⟩ := k9
      have hfin : fr.finish x = { fr with todo := r' } := by simp only [Frame.finish, hfr]
      rw [hfin]
      exact ⟨k1, k2, k3, k4, k5, k6, k7, k8, todo_plain hk k10⟩
    · cases e

end

end Go.Proofs.Ytcdpmiebmhjmpaa.Ev
