/- slices.Insert of texts ahead of others: a call of which all is known, where it stays and where it goes elsewhere. -/
import Derived.Test.YthengnnefeiimaaEvXa
import Derived.Shelf.Spec.SlicesInsertGrow
import Derived.Laws.AppendOwn
namespace Go.Proofs.Ythengnnefeiimaa.Ev
open Go Go.RowKit Go.Shelf

theorem setCells_row (b : Nat) : ∀ (vs : List Value) (o : Nat) (w : World) (cs : Array Value) (el : TypeId) (fz : Nat × Nat), w.heap[b]? = some (.cells cs el fz) →
    (w.setCells b o vs).heap[b]? = some (.cells (updL cs o vs) el fz) ∧ (∀ j, j ≠ b → (w.setCells b o vs).heap[j]? = w.heap[j]?) ∧ (w.setCells b o vs).heap.size = w.heap.size ∧
      (w.setCells b o vs).os = w.os ∧ (w.setCells b o vs).tape = w.tape ∧ (w.setCells b o vs).output = w.output
  | [], _, _, _, _, _, h => ⟨h, fun _ _ => rfl, rfl, rfl, rfl, rfl⟩
  | v :: r, o, w, cs, el, fz, h => by
    rw [World.setCells, setCell_putRow w b o v h]
    have hlt := heap_lt h
    obtain ⟨g1, g2, g3, g4, g5, g6⟩ := setCells_row b r (o + 1) (putRow w b (cs.setIfInBounds o v) el fz) (cs.setIfInBounds o v) el fz (putRow_self w _ _ _ _ hlt)
    exact ⟨g1, fun j hj => (g2 j hj).trans (putRow_other w _ _ _ hj), g3.trans (putRow_size w _ _ _ _), g4, g5, g6⟩

section
variable {P : Program} {B : Base} {R : Bij} {h : AHeap} {w w' : World}

/-- A new version of an object; the older ones are not told of any more. -/
theorem HRel.version (k : HRel P B R h w) {i r : Nat} {L L1 : Loc} {c c' : T AV} {m m' el lo hi nv fz : Nat} {sg : Bool} {ex : T Nat} (hL : R i r = some L) (ho : h.get i = some (.cells c m el lo hi nv fz sg ex))
    (b0 : ∀ b, ¬ B.may b → w'.heap[b]? = w.heap[b]?) (b1 : B.may L1.block ∨ B.ro i) (b2 : L1.block < w'.heap.size) (b3 : w.heap.size ≤ w'.heap.size)
    (b4 : ∀ j r' M, j ≠ i → R j r' = some M → M.block ≠ L1.block) (b5 : ∀ j r' M, j ≠ i → R j r' = some M → w'.heap[M.block]? = w.heap[M.block]?)
    (b6 : ∀ r' M, R i r' = some M → M.block = L1.block → M.minus = L1.minus) (b7 : VerRel P (R.upd i nv L1) w' c' el fz sg m' L1) :
    R.le (R.upd i nv L1) ∧ HRel P B (R.upd i nv L1) (h.put i (.cells c' m' el nv nv (nv + 1) fz sg ex)) w' := by
  obtain ⟨o1, o2, o3, o4, o5⟩ := k.obj' hL ho
  have hnv : R i nv = none := o3 nv (Nat.le_refl _)
  have hle := R.le_upd (i := i) (r := nv) L1 hnv
  have hinext : i < h.next := by
    rcases Nat.lt_or_ge i h.next with h1 | h1
    · exact h1
    · rw [k.fresh i h1] at hL; cases hL
  have hother : ∀ j s, j ≠ i → R.upd i nv L1 j s = R j s := fun j s hj => R.upd_other L1 (fun e => hj e.1)
  have hnewL : ∀ s M, R.upd i nv L1 i s = some M → (s = nv ∧ M = L1) ∨ (s ≠ nv ∧ R i s = some M) := by
    intro s M hM
    by_cases hs : s = nv
    · subst hs; rw [R.upd_same] at hM; cases hM; exact .inl ⟨rfl, rfl⟩
    · rw [R.upd_other L1 (fun e => hs e.2)] at hM; exact .inr ⟨hs, hM⟩
  refine ⟨hle, k.touch i _ (k.live hL) hle (by rw [next_put]; exact Nat.le_refl _) (by rw [next_put]; exact hinext) (fun j => get_put h i j _) (fun j s hj => hother j s hj) b5 ?_ b3
    (fun s M hM => by
      rcases hnewL s M hM with ⟨_, rfl⟩ | ⟨_, hM⟩
      · exact ⟨b1, b2, fun j r' M' hj e' => b4 j r' M' hj e'⟩
      · exact ⟨(k.place i s M hM).1, Nat.lt_of_lt_of_le (k.place i s M hM).2 b3, fun j r' M' hj e' hb => hj (k.apart _ _ _ _ _ _ e' hM hb (.inr (k.notRo ho rfl)))⟩)
    (fun s s' M M' hM hM' hb => by
      rcases hnewL s M hM with ⟨_, rfl⟩ | ⟨_, hM⟩
      · rcases hnewL s' M' hM' with ⟨_, rfl⟩ | ⟨_, hM'⟩
        · rfl
        · exact (b6 s' M' hM' hb.symm).symm
      · rcases hnewL s' M' hM' with ⟨_, e1⟩ | ⟨_, hM'⟩
        · rw [e1] at hb ⊢; exact b6 s M hM hb
        · exact k.same i s s' M M' hM hM' hb) (glob_put _ _ _) b0 (k.notRo ho rfl)⟩
  refine ⟨Nat.le_refl _, by omega, fun r' hr' => ?_, fun r' e' a1 a2 a3 => ?_, fun r' e' a1 a2 a3 => ?_⟩
  · rw [R.upd_other L1 (by omega)]; exact o3 r' (by omega)
  · obtain rfl : r' = nv := by omega
    simp [extOf] at a3; subst a3
    exact ⟨L1, R.upd_same _ _ _, b7⟩
  · obtain rfl : r' = nv := by omega
    simp [extOf] at a3; omega

end

noncomputable def insertAt (h : AHeap) (K id ver off len st i m : Nat) (cs vs : List AV) : Option (AV × T AObj × Nat) := match h.get id with
  | some (.cells c n el lo hi nv fz sg ex) => match extOf ex n hi ver with
    | none => none
    | some e =>
      if lo ≤ ver ∧ ver ≤ hi ∧ off + len ≤ e ∧ fz = 0 ∧ el = K ∧ off = st ∧ hi < nv ∧ sg = false ∧ len + m < 2 ^ 40 ∧ cs.all AV.one = true ∧ vs.all AV.one = true then
        (storeList c off (cs.take i ++ vs ++ cs.drop i)).seq fun c => match h.put id (.cells c (off + (len + m)) el nv nv (nv + 1) fz sg ex) with
          | ⟨o, k, _⟩ => some (.slg id nv off (len + m) st, o, k)
      else none
  | _ => none

/-- slices.Insert, known: ahead of others, of texts in a row of their own. -/
noncomputable def insertF (K : Nat) (h : AHeap) (args : List AV) : Option (AV × T AObj × Nat) := match args with
  | [.slg id ver off len st, .int k0 (.ofNat i), .slc jd jv jo m _] => match Nat.blt i len && Nat.blt 0 m && !(Nat.beq id jd) && verOk h jd jv && plainFz h jd && decide (k0 = .i64) with
    | false => none
    | true => match loadCellsA h id ver off len with
      | none => none
      | some cs => match loadCellsA h jd jv jo m with
        | none => none
        | some vs => insertAt h K id ver off len st i m cs vs
  | _ => none

theorem rowGet (a b c : List Value) (k : Nat) : (a ++ b ++ c)[k]? = if k < a.length then a[k]? else if k < a.length + b.length then b[k - a.length]? else c[k - (a.length + b.length)]? := by
  by_cases h1 : k < a.length
  · rw [if_pos h1, List.append_assoc, List.getElem?_append_left h1]
  · rw [if_neg h1]
    by_cases h2 : k < a.length + b.length
    · rw [if_pos h2, List.append_assoc, List.getElem?_append_right (by omega), List.getElem?_append_left (by omega)]
    · rw [if_neg h2, List.getElem?_append_right (by rw [List.length_append]; omega), List.length_append]

section
variable {P : Program} {ρ : Ren}

theorem VRels.mid {R : Bij} {l bs : List AV} {cs vs : List Value} (h1 : VRels R l cs) (h2 : VRels R bs vs) (i : Nat) : VRels R (l.take i ++ bs ++ l.drop i) (cs.take i ++ vs ++ cs.drop i) :=
  ((h1.take i).append h2).append (h1.drop i)

/-- Cells that are loaded, as they lie. -/
theorem cells_of_load {B : Base} {R : Bij} {h : AHeap} {w : World} (k : HRel P B R h w) {i r off n : Nat} {l : List AV} (e : loadCellsA h i r off n = some l) {L : Loc} (hL : R i r = some L) (h2 : L.minus ≤ off) (hv : verOk h i r = true) :
    ∃ (cs : Array Value) (el : TypeId) (fz : Nat × Nat) (vs : List Value), w.heap[L.block]? = some (.cells cs el fz) ∧ vs.length = n ∧ (∀ j v, vs[j]? = some v → cs[off - L.minus + j]? = some v) ∧ VRels R l vs ∧ off - L.minus + n ≤ cs.size := by
  unfold verOk at hv
  unfold loadCellsA at e
  split at hv
  rotate_left
  · cases hv
  rename_i c m el lo hi nv fz sg ex ho
  rw [ho] at e
  simp only at e
  split at e
  · cases e
  · rename_i e' he
    split at e
    · rename_i hc
      obtain ⟨L', hL', cs, a, b, v1, v2, _, _, v5⟩ := k.ver hL ho hc.1 hc.2.1 he
      rw [hL] at hL'; cases hL'
      obtain ⟨l1, l2⟩ := loadList_get e
      have hsz : off - L.minus + n ≤ cs.size := by omega
      have hget : ∀ j, j < n → (cs.extract (off - L.minus) (off - L.minus + n)).toList[j]? = cs[off - L.minus + j]? := fun j hj => by
        rw [Array.getElem?_toList, Array.getElem?_extract, if_pos (by omega)]
      have hlen : (cs.extract (off - L.minus) (off - L.minus + n)).toList.length = n := by simp; omega
      refine ⟨cs, el, (a, b), (cs.extract (off - L.minus) (off - L.minus + n)).toList, v1, hlen, fun j v hj => ?_, .of_get (by rw [hlen, l1]) fun j x hj => ?_, hsz⟩
      · have : j < n := by
          rcases Nat.lt_or_ge j n with h | h
          · exact h
          · rw [List.getElem?_eq_none (by omega)] at hj; cases hj
        rw [← hget j this]; exact hj
      · have hjn : j < n := by
          rcases Nat.lt_or_ge j n with h | h
          · exact h
          · rw [List.getElem?_eq_none (by omega)] at hj; cases hj
        obtain ⟨y, hy, hr⟩ := v5 (off + j) x (by omega) (by omega) (l2 j x hj)
        exact ⟨y, by rw [hget j hjn, ← hy]; congr 1; omega, hr⟩
    · cases e

theorem insert_ok (L : Lays2.n22 P ρ) : XOk P (ρ.f 22) (insertF (ρ.t 9)) := by
  intro B R h w args args' v o n e k hB ha
  unfold insertF at e
  split at e
  rotate_left
  · cases e
  rename_i id ver off len st k0 i jd jv jo m mc
  split at e
  · cases e
  rename_i hc
  simp only [Bool.and_eq_true, Bool.not_eq_true', decide_eq_true_eq, Nat.blt_eq] at hc
  obtain ⟨⟨⟨⟨⟨hi, hm⟩, hne⟩, hvo⟩, hpf⟩, rfl⟩ := hc
  have hne : id ≠ jd := fun e => by rw [e, Nat.beq_refl] at hne; cases hne
  split at e
  · cases e
  rename_i cs hcs
  split at e
  · cases e
  rename_i vs hvs
  unfold insertAt at e
  split at e
  rotate_left
  · cases e
  rename_i c nn el lo hi' nv fz sg ex ho
  split at e
  · cases e
  rename_i ee he
  split at e
  rotate_left
  · cases e
  rename_i hcond
  obtain ⟨c1, c2, c3, rfl, rfl, rfl, c7, rfl, c9, c10, c11⟩ := hcond
  rw [T.seq_eq] at e
  have hcel : P.cellsOf (ρ.t 9) = 1 := by
    have := L.i9
    cases hinf : P.info? (ρ.t 9) with
    | none => rw [hinf] at this; cases this
    | some i => rw [hinf] at this; simp only [Option.map_some, Option.some.injEq, Prod.mk.injEq] at this; rw [cellsOf_info hinf]; exact this.2.1
  obtain ⟨x, xs, rfl, hx, y, ys, rfl, hy, z, zs, rfl, hz, hnil⟩ := ha
  cases hnil
  cases hy
  obtain ⟨L0, a, hL, hmn, hkap, rfl, haddr⟩ := hx
  obtain ⟨M, hM, hMm, rfl⟩ := hz
  obtain rfl := haddr (by omega)
  have hvi : verOk h id ver = true := by simp [verOk, ho, he, c1, c2]
  have hpi : plainFz h id = true := by simp [plainFz, ho]
  obtain ⟨L', hL', cs0, f0, f1, g1, g2, g3, g4, g5⟩ := k.ver hL ho c1 c2 he
  rw [hL] at hL'; cases hL'
  rw [hcel, Nat.mul_one] at g3
  have g3 := g3.1
  obtain ⟨cs1, el1, fz1, csV, s1, s2, s3, s4, s5⟩ := cells_of_load k hcs hL hmn hvi
  rw [g1] at s1; cases s1
  obtain ⟨csM, elM, fzM, vsV, t1, t2, t3, t4, t5⟩ := cells_of_load k hvs hM hMm hvo
  have hmid := s4.mid t4 i
  have hcsl : cs.length = len := by rw [← s4.length, s2]
  have hvsl : vs.length = m := by rw [← t4.length, t2]
  have hll : (cs.take i ++ vs ++ cs.drop i).length = len + m := by simp only [List.length_append, List.length_take, List.length_drop]; omega
  have hblk : M.block ≠ L0.block := fun hb => hne (k.apart _ _ _ _ _ _ hL hM hb.symm (.inl (k.notRo ho rfl)))
  have hfI : ∀ j, w.frozen? ⟨L0.block, j, none⟩ = false := (k.plain hL hvi hpi).choose_spec.choose_spec.2
  have hfM : ∀ j, w.frozen? ⟨M.block, j, none⟩ = false := (k.plain hM hvo hpf).choose_spec.choose_spec.2
  have hlt := heap_lt g1
  have gI : ∀ q u, (csV.take i ++ vsV ++ csV.drop i)[q]? = some u → q < len + m := fun q u hq => by
    rcases Nat.lt_or_ge q (len + m) with h | h
    · exact h
    · rw [List.getElem?_eq_none (by simp only [List.length_append, List.length_take, List.length_drop]; omega)] at hq; cases hq
  cases e
  by_cases hroom : len + m ≤ L0.kap - off
  · -- there is room
    have hbnd := g4.1.2 rfl
    refine (Any2.slices_Insert_string_shift L L0.block (off - L0.minus) len (L0.kap - off) i M.block (jo - M.minus) m mc csV vsV w hi hm hroom (by omega) hblk s2 t2
      (fun j u hj => by rw [cell?_row _ _ _ g1]; exact s3 j u hj) (fun j hj => by rw [cell?_row _ _ _ g1, Array.getElem?_eq_getElem (by omega)]; rfl) (fun j _ => hfI _)
      (fun j u hj => by rw [cell?_row _ _ _ t1]; exact t3 j u hj) (AV_all_one s4 c10) (AV_all_one t4 c11) elM (ρ.t 9) csM.size cs0.size (by simp [World.shape?, t1]) (by simp [World.shape?, g1]) (by omega) (hfM _) (hfM _)).mono ?_
    rintro ev w' ⟨rfl, rfl⟩
    obtain ⟨q1, q2, q3, q4, q5, q6⟩ := setCells_row L0.block (csV.drop i) (off - L0.minus + (i + m)) w.drew cs0 (ρ.t 9) (f0, f1) g1
    obtain ⟨r1, r2, r3, r4, r5, r6⟩ := setCells_row L0.block vsV (off - L0.minus + i) _ _ (ρ.t 9) (f0, f1) q1
    have hsame : ∀ j, j ≠ L0.block → ((w.drew.setCells L0.block (off - L0.minus + (i + m)) (csV.drop i)).setCells L0.block (off - L0.minus + i) vsV).heap[j]? = w.heap[j]? := fun j hj => (r2 j hj).trans (q2 j hj)
    have hsize : ((w.drew.setCells L0.block (off - L0.minus + (i + m)) (csV.drop i)).setCells L0.block (off - L0.minus + i) vsV).heap.size = w.heap.size := r3.trans q3
    have hus : (updL cs0 (off - L0.minus + (i + m)) (csV.drop i)).size = cs0.size := updL_size _ _ _
    have hdl : (csV.drop i).length = len - i := by rw [List.length_drop, s2]
    obtain ⟨hle, hH⟩ := k.version (w' := (w.drew.setCells L0.block (off - L0.minus + (i + m)) (csV.drop i)).setCells L0.block (off - L0.minus + i) vsV) (L1 := L0) (c' := storeList c off (cs.take i ++ vs ++ cs.drop i)) (m' := off + (len + m)) hL ho
      (fun b hb => hsame b (k.off hL (k.notRo ho rfl) hb)) (k.place id ver L0 hL).1 (by rw [hsize]; exact hlt) (by rw [hsize]; exact Nat.le_refl _)
      (fun j r' N hj e hb => hj (k.apart _ _ _ _ _ _ e hL hb (.inr (k.notRo ho rfl)))) (fun j r' N hj e => hsame _ (fun hb => hj (k.apart _ _ _ _ _ _ e hL hb (.inr (k.notRo ho rfl)))))
      (fun r' N e hb => k.same id r' ver N L0 e hL hb)
      ⟨_, f0, f1, r1, by rw [updL_size, hus]; omega, by rw [updL_size, hus, hcel]; exact ⟨by omega, Nat.one_dvd _⟩, ⟨g4.1, fun j p q => by rw [updL_size, hus]; exact g4.2 j p q⟩, fun kk u hk hmin hu => by
        have hle := R.le_upd (i := id) (r := nv) L0 ((k.obj' hL ho).2.2.1 nv (Nat.le_refl _))
        rw [updL_get _ _ _ _ (by omega), updL_get _ _ _ _ (by omega), t2, hdl]
        rw [storeList_get, hll] at hu
        split at hu
        · rename_i hkk
          obtain ⟨y, hy, hyr⟩ := hmid.get _ u hu
          refine ⟨y, ?_, VRel.mono hle _ _ hyr⟩
          rw [rowGet, List.length_take, s2, Nat.min_eq_left (Nat.le_of_lt hi), t2] at hy
          split at hy
          · rw [if_neg (by omega), if_neg (by omega)]
            rw [List.getElem?_take, if_pos (by assumption)] at hy
            rw [← s3 _ _ hy]; congr 1; omega
          · split at hy
            · rw [if_pos (by omega), ← hy]; congr 1; omega
            · rw [if_neg (by omega), if_pos (by omega), ← hy]; congr 1; omega
        · rename_i hkk
          rw [if_neg (by omega), if_neg (by omega)]
          obtain ⟨y, hy, hyr⟩ := g5 kk u (by omega) hmin hu
          exact ⟨y, hy, VRel.mono hle _ _ hyr⟩⟩
    refine ⟨_, _, rfl, ⟨L0, _, R.upd_same _ _ _, hmn, by omega, rfl, fun _ => rfl⟩, ?_, r4.trans q4, r5.trans q5, r6.trans q6, by rw [hsize]; exact Nat.le_refl _, hle, fun b hb hn => ⟨hsame b (fun e => hn id ver L0 hL e.symm), fun j r' N e => ?_⟩⟩
    · exact hH
    · by_cases hjr : j = id ∧ r' = nv
      · rw [hjr.1, hjr.2, R.upd_same] at e; cases e; exact hn id ver L0 hL
      · rw [R.upd_other L0 hjr] at e; exact hn j r' N e
  · -- it goes elsewhere
    refine (Any2.slices_Insert_string_grow L L0.block (off - L0.minus) len (L0.kap - off) i M.block (jo - M.minus) m mc csV vsV w hi hm (by omega) (by omega) (by omega) s2 t2
      (fun j u hj => by rw [cell?_row _ _ _ g1]; exact s3 j u hj) (fun j u hj => by rw [cell?_row _ _ _ t1]; exact t3 j u hj) (AV_all_one s4 c10) (AV_all_one t4 c11)).mono ?_
    have hgc := grownCap_ge w (len + m) (L0.kap - off) (ρ.t 9)
    have hgb := grownCap_le_maxLen w (len + m) (L0.kap - off) (ρ.t 9) (by unfold maxLen; omega)
    generalize grownCap w (len + m) (L0.kap - off) (ρ.t 9) = gc at hgc hgb ⊢
    generalize hr0 : (csV.take i).toArray ++ Builtin.zeroCells (Value.string ⟨#[]⟩).cells (len + m - i) ++ Builtin.zeroCells (Value.string ⟨#[]⟩).cells (gc - (len + m)) = row0
    have hz1 : (Value.string ⟨#[]⟩).cells.size = 1 := rfl
    have hrs : row0.size = gc := by
      rw [← hr0]
      simp only [Array.size_append, List.size_toArray, List.length_take, zeroCells_size, hz1, s2]
      omega
    have hrget : ∀ q, q < i → row0[q]? = csV[q]? := fun q hq => by
      rw [← hr0, Array.getElem?_append_left (by simp only [Array.size_append, List.size_toArray, List.length_take, zeroCells_size, hz1, s2]; omega), Array.getElem?_append_left (by simp only [List.size_toArray, List.length_take, s2]; omega)]
      rw [List.getElem?_toArray, List.getElem?_take, if_pos hq]
    rintro ev w' ⟨rfl, rfl⟩
    have a1 : (w.alloc (.cells row0 (ρ.t 9))).drew.heap[w.heap.size]? = some (.cells row0 (ρ.t 9) (0, 0)) := heap_alloc_new w _
    obtain ⟨q1, q2, q3, q4, q5, q6⟩ := setCells_row w.heap.size vsV i _ _ (ρ.t 9) (0, 0) a1
    have q1' : ((w.alloc (.cells row0 (ρ.t 9))).drew.setCells w.heap.size i vsV).drew.heap[w.heap.size]? = some (.cells (updL row0 i vsV) (ρ.t 9) (0, 0)) := q1
    obtain ⟨r1, r2, r3, r4, r5, r6⟩ := setCells_row w.heap.size (csV.drop i) (i + m) _ _ (ρ.t 9) (0, 0) q1'
    generalize hW : ((w.alloc (.cells row0 (ρ.t 9))).drew.setCells w.heap.size i vsV).drew.setCells w.heap.size (i + m) (csV.drop i) = W at r1 r2 r3 r4 r5 r6 ⊢
    have hsame : ∀ j, j < w.heap.size → W.heap[j]? = w.heap[j]? := fun j hj => (r2 j (by omega)).trans ((q2 j (by omega)).trans (heap_alloc_lt w _ hj))
    have hsize : W.heap.size = w.heap.size + 1 := by
      rw [r3]
      show ((w.alloc (.cells row0 (ρ.t 9))).drew.setCells w.heap.size i vsV).heap.size = _
      rw [q3]
      show (w.heap.push _).size = _
      simp
    have hus : (updL row0 i vsV).size = gc := (updL_size _ _ _).trans hrs
    have hdl : (csV.drop i).length = len - i := by rw [List.length_drop, s2]
    obtain ⟨hle, hH⟩ := k.version (w' := W) (L1 := ⟨w.heap.size, off, gc + off⟩) (c' := storeList c off (cs.take i ++ vs ++ cs.drop i)) (m' := off + (len + m)) hL ho
      (fun b hb => hsame b (Nat.lt_of_lt_of_le (Base.low_lt hb) hB)) (.inl (.inl hB)) (by rw [hsize]; exact Nat.lt_succ_self _) (by rw [hsize]; omega)
      (fun j r' N hj e hb => by have := (k.place j r' N e).2; simp only at hb; omega) (fun j r' N hj e => hsame _ (k.place j r' N e).2)
      (fun r' N e hb => by have := (k.place id r' N e).2; simp only at hb; omega)
      ⟨_, 0, 0, r1, by rw [updL_size, hus]; simp only; omega, by rw [updL_size, hus, hcel]; exact ⟨by simp only; omega, Nat.one_dvd _⟩, ⟨⟨Nat.le_refl _, fun _ => by simp only; unfold maxLen at hgb; omega⟩, fun j p q => absurd q (Nat.not_lt_zero _)⟩, fun kk u hk hmin hu => by
        have hle := R.le_upd (i := id) (r := nv) ⟨w.heap.size, off, gc + off⟩ ((k.obj' hL ho).2.2.1 nv (Nat.le_refl _))
        simp only at hmin ⊢
        rw [updL_get _ _ _ _ (by rw [hus, hdl]; omega), updL_get _ _ _ _ (by rw [hrs, t2]; omega), t2, hdl]
        rw [storeList_get, hll, if_pos ⟨hmin, hk⟩] at hu
        obtain ⟨y, hy, hyr⟩ := hmid.get _ u hu
        refine ⟨y, ?_, VRel.mono hle _ _ hyr⟩
        rw [rowGet, List.length_take, s2, Nat.min_eq_left (Nat.le_of_lt hi), t2] at hy
        split at hy
        · rw [if_neg (by omega), if_neg (by omega), hrget _ (by omega)]
          rw [List.getElem?_take, if_pos (by assumption)] at hy
          exact hy
        · split at hy
          · rw [if_neg (by omega), if_pos (by omega)]; exact hy
          · rw [if_pos (by omega)]; exact hy⟩
    refine ⟨_, _, rfl, ⟨⟨w.heap.size, off, gc + off⟩, ⟨w.heap.size, 0, none⟩, R.upd_same _ _ _, Nat.le_refl _, by simp only; omega, by simp only; rw [Nat.add_sub_cancel], fun _ => by simp only; rw [Nat.sub_self]⟩, ?_, r4.trans q4, r5.trans q5, r6.trans q6, by rw [hsize]; omega, hle, fun b hb hn => ⟨hsame b hb, fun j r' N e => ?_⟩⟩
    · exact hH
    · by_cases hjr : j = id ∧ r' = nv
      · rw [hjr.1, hjr.2, R.upd_same] at e; cases e; simp only; omega
      · rw [R.upd_other _ hjr] at e; exact hn j r' N e

end

end Go.Proofs.Ythengnnefeiimaa.Ev
