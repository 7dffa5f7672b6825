/- Known calls that hand back a new row; a map's keys, sorted. -/
import Derived.Test.YtfimobbjldemeaaGreatDoorEvXa
import Derived.Sort.KeysCollected
import Derived.Maps.Own
import Derived.Laws.AppendOwn
import Derived.StringKeys
namespace Go.Proofs.YtfimobbjldemeaaGreatDoor.Ev
open Go
open Go.WideElems (Fit rd rg pl)
open Go.Proofs (encStr)
open Go.RowKit
section
variable {P : Program} {B : Base} {R : Bij} {h : AHeap} {w w' : World}

/-- A new object in a new block, among others that nobody names. -/
theorem HRel.newAt (k : HRel P B R h w) (hB : B.n ≤ w.heap.size) (o : AObj) (L : Loc) (hL : w.heap.size ≤ L.block) (hL2 : L.block < w'.heap.size)
    (hb : Below w.heap.size w w') (ho : ObjRel P (R.upd h.next 0 L) w' h.next o) : HRel P B (R.upd h.next 0 L) (h.new o) w' ∧ Keeps R w (R.upd h.next 0 L) w' := by
  have hfree := k.fresh h.next (Nat.le_refl _)
  have hle := R.le_upd (i := h.next) (r := 0) L (hfree 0)
  have hpn : B.pend h.next = none := by
    cases hp : B.pend h.next with
    | none => rfl
    | some o => exact absurd (k.pend _ _ hp).1 (Nat.lt_irrefl _)
  refine ⟨k.touch h.next o hpn hle (by rw [next_new]; omega) (by rw [next_new]; omega) (fun j => get_new h j o)
    (fun j r hj => R.upd_other L (by intro e; exact hj e.1)) (fun j r M _ e => hb.block _ (k.place j r M e).2) ho hb.size ?_ ?_ (glob_new h o) (fun b hb' => hb.block b (Nat.lt_of_lt_of_le (Base.low_lt hb') hB)) (k.newRo (Nat.le_refl _)), ?_⟩
  · intro r M e
    by_cases hr : r = 0
    · subst hr; rw [R.upd_same] at e; cases e
      exact ⟨.inl (.inl (by omega)), by omega, fun j r' M' _ e' he => by have := (k.place j r' M' e').2; omega⟩
    · rw [R.upd_other L (by intro e; exact hr e.2), hfree] at e; cases e
  · intro r r' M M' e e' _
    have : ∀ {r M}, R.upd h.next 0 L h.next r = some M → M = L := by
      intro r M e
      by_cases hr : r = 0
      · subst hr; rw [R.upd_same] at e; cases e; rfl
      · rw [R.upd_other L (by intro e; exact hr e.2), hfree] at e; cases e
    rw [this e, this e']
  · refine ⟨hb.os, hb.tape, hb.output, hb.size, hle, fun b hb' hn => ⟨hb.block b hb', fun j r M e => ?_⟩⟩
    by_cases hc : j = h.next ∧ r = 0
    · rw [hc.1, hc.2, R.upd_same] at e; cases e; omega
    · rw [R.upd_other L hc] at e; exact hn j r M e

/-- A new row, of which the first elements are known. -/
theorem HRel.row (k : HRel P B R h w) (hB : B.n ≤ w.heap.size) (hb : Below w.heap.size w w') {el n sz : Nat} {v : Value} {xs : List Value} {l : List AV} (hsz : P.cellsOf el = sz)
    (hrow : w'.ownsRow w.heap.size el sz v n xs) (hv : v ≠ .slice none 0 0) (hl : VRels R l xs) :
    ∃ R', VRel R' (.slg h.next 0 0 n 0) v ∧ HRel P B R' (newCells h el l false) w' ∧ Keeps R w R' w' := by
  obtain ⟨hlen, hr⟩ := hrow
  rcases hr with ⟨e, _⟩ | ⟨g, cap, cur, rfl, hg, hcell, hn, hcm, hcs, htake⟩
  · exact absurd e hv
  have hgl : g < w'.heap.size := (Array.getElem?_eq_some_iff.1 hcell).1
  have hle := R.le_upd (i := h.next) (r := 0) ⟨g, 0, cap⟩ (k.fresh h.next (Nat.le_refl _) 0)
  have hll : l.length = n * sz := by rw [← hl.length, hlen]
  refine ⟨R.upd h.next 0 ⟨g, 0, cap⟩, ⟨⟨g, 0, cap⟩, ⟨g, 0, none⟩, R.upd_same _ _ _, Nat.le_refl _, by simpa using hn, by simp, fun _ => rfl⟩, ?_⟩
  refine k.newAt hB _ ⟨g, 0, cap⟩ hg hgl hb ⟨Nat.le_refl _, Nat.lt_succ_self _, fun r hr => ?_, fun r e _ hr he => ?_, fun r e _ hr he => ?_⟩
  · rw [R.upd_other _ (by omega)]; exact k.fresh _ (Nat.le_refl _) r
  · obtain rfl : r = 0 := by omega
    rw [extOf, if_pos rfl] at he
    cases he
    refine ⟨_, R.upd_same _ _ _, cur, 0, 0, hcell, ?_, ⟨by rw [hsz, hcs]; rfl, Nat.dvd_zero _⟩, ⟨⟨Nat.le_refl _, fun _ => Nat.le_trans hcm (Nat.le_trans (by unfold maxLen; decide) (Nat.le_add_left _ _))⟩, fun j _ hj => absurd hj (Nat.not_lt_zero _)⟩, ?_⟩
    · rw [hll, hcs]; exact Nat.mul_le_mul_right _ hn
    · intro i u hi _ hu
      rw [storeList_get] at hu
      rw [if_pos (by omega)] at hu
      obtain ⟨x, hx, hxr⟩ := (hl.mono hle).get _ u hu
      refine ⟨x, ?_, hxr⟩
      rw [← htake] at hx
      rw [List.getElem?_take] at hx
      split at hx
      · simpa using hx
      · cases hx
  · obtain rfl : r = 0 := by omega
    rw [extOf, if_pos rfl] at he
    cases he
    exact Nat.le_refl _

end

/-! ## Texts in order -/

/-- Does one come ahead of the other, or are they the same? -/
def leS : List UInt8 → List UInt8 → Bool
  | [], _ => true
  | a :: r, t => match t with
    | [] => false
    | b :: s => match Nat.blt a.toNat b.toNat with
      | true => true
      | false => match Nat.blt b.toNat a.toNat with
        | true => false
        | false => leS r s

theorem leS_eq : ∀ (a b : List UInt8), leS a b = decide (a ≤ b)
  | [], b => by simp [leS]
  | a :: r, [] => by simp [leS]
  | a :: r, b :: s => by
    have ih := leS_eq r s
    have hlt : ∀ x y : UInt8, Nat.blt x.toNat y.toNat = decide (x < y) := fun x y => by
      have e := UInt8.lt_iff_toNat_lt (a := x) (b := y)
      cases h : Nat.blt x.toNat y.toNat with
      | true => exact (decide_eq_true (e.2 (by simpa using h))).symm
      | false =>
        refine (decide_eq_false fun g => ?_).symm
        have h2 : Nat.blt x.toNat y.toNat = true := by simpa using e.1 g
        rw [h] at h2; cases h2
    rw [leS, hlt, hlt]
    simp only [List.cons_le_cons_iff]
    by_cases h1 : a < b
    · simp [h1]
    · rw [decide_eq_false h1]
      by_cases h2 : b < a
      · rw [decide_eq_true h2]
        have : a ≠ b := fun e => by subst e; exact h1 h2
        simp [h1, this]
      · rw [decide_eq_false h2]
        have : a = b := by
          rw [UInt8.lt_iff_toNat_lt] at h1 h2
          exact UInt8.toNat_inj.1 (by omega)
        simp [this, ih]

def insS (x : List UInt8) : List (List UInt8) → List (List UInt8)
  | [] => [x]
  | y :: r => match leS x y with
    | true => x :: y :: r
    | false => y :: insS x r

def sortS : List (List UInt8) → List (List UInt8)
  | [] => []
  | x :: r => insS x (sortS r)

theorem insS_perm (x : List UInt8) : ∀ l, (insS x l).Perm (x :: l)
  | [] => .refl _
  | y :: r => by
    unfold insS
    split
    · exact .refl _
    · exact ((insS_perm x r).cons y).trans (List.Perm.swap x y r)

theorem sortS_perm : ∀ l, (sortS l).Perm l
  | [] => .refl _
  | x :: r => (insS_perm x _).trans ((sortS_perm r).cons x)

theorem leS_tot {a b : List UInt8} (h : leS a b = false) : leS b a = true := by
  rw [leS_eq] at h ⊢
  simp only [decide_eq_false_iff_not, decide_eq_true_eq] at *
  rcases List.le_total a b with h' | h'
  · exact absurd h' h
  · exact h'

theorem leS_trans {a b c : List UInt8} (h : leS a b = true) (h' : leS b c = true) : leS a c = true := by
  rw [leS_eq] at *
  simp only [decide_eq_true_eq] at *
  exact List.le_trans h h'

theorem insS_pair (x : List UInt8) : ∀ l, l.Pairwise (fun a b => leS a b = true) → (insS x l).Pairwise (fun a b => leS a b = true)
  | [], _ => by simp [insS]
  | y :: r, hp => by
    rw [List.pairwise_cons] at hp
    unfold insS
    split
    · rename_i hx
      refine List.pairwise_cons.2 ⟨fun z hz => ?_, List.pairwise_cons.2 hp⟩
      rcases List.mem_cons.1 hz with rfl | hz
      · exact hx
      · exact leS_trans hx (hp.1 z hz)
    · rename_i hx
      refine List.pairwise_cons.2 ⟨fun z hz => ?_, insS_pair x r hp.2⟩
      rcases List.mem_cons.1 ((insS_perm x r).subset hz) with rfl | hz
      · exact leS_tot hx
      · exact hp.1 z hz

theorem sortS_pair : ∀ l, (sortS l).Pairwise (fun a b => leS a b = true)
  | [] => .nil
  | x :: r => insS_pair x _ (sortS_pair r)

theorem sortS_eq {l ss : List (List UInt8)} (h : ss.Perm l) : ss.mergeSort (fun x y => decide (x ≤ y)) = sortS l := by
  have tr : ∀ a b c : List UInt8, leB a b = true → leB b c = true → leB a c = true := fun a b c h1 h2 => by simp only [leB, decide_eq_true_eq] at *; exact List.le_trans h1 h2
  have to : ∀ a b : List UInt8, (leB a b || leB b a) = true := fun a b => by simp only [leB, Bool.or_eq_true, decide_eq_true_eq]; exact List.le_total a b
  refine List.Perm.eq_of_pairwise (le := fun a b => leB a b = true) (fun a b _ _ h1 h2 => ?_) (List.pairwise_mergeSort tr to ss) ((sortS_pair l).imp fun {a b} h => by rw [leS_eq] at h; exact h) (((List.mergeSort_perm ss leB).trans h).trans (sortS_perm l).symm)
  simp only [leB, decide_eq_true_eq] at h1 h2
  exact List.le_antisymm h1 h2

/-! ## The keys of a map -/

def strK (e : AEntry) : Option (List UInt8) := match e.key with
  | .str s => some s
  | _ => none

def keysS (es : List AEntry) : Option (List (List UInt8)) := mapO strK es

def nodupS : List (List UInt8) → Bool
  | [] => true
  | x :: r => !(r.any fun y => decide (x = y)) && nodupS r

def nodupN : List Nat → Bool
  | [] => true
  | x :: r => !(r.any fun y => Nat.beq x y) && nodupN r

theorem nodupS_ok : ∀ {l}, nodupS l = true → l.Nodup
  | [], _ => .nil
  | x :: r, h => by
    simp only [nodupS, Bool.and_eq_true, Bool.not_eq_true', List.any_eq_false, decide_eq_true_eq] at h
    exact List.nodup_cons.2 ⟨fun hx => h.1 x hx rfl, nodupS_ok h.2⟩

theorem nodupN_ok : ∀ {l}, nodupN l = true → l.Nodup
  | [], _ => .nil
  | x :: r, h => by
    simp only [nodupN, Bool.and_eq_true, Bool.not_eq_true', List.any_eq_false] at h
    exact List.nodup_cons.2 ⟨fun hx => h.1 x hx (Nat.beq_refl x), nodupN_ok h.2⟩

def okStr (s : List UInt8) : Bool := Nat.blt s.length (2 ^ 40)

/-- What is asked of a map: few entries, of keys that are not like one another. -/
def okMap (es : List AEntry) (clock : Nat) (ks : List (List UInt8)) : Bool :=
  Nat.blt es.length (2 ^ 20) && es.all (fun e => Nat.blt e.born clock) && nodupN (es.map (·.born)) && nodupS ks && ks.all okStr

/-- A new row, as a known call's answer. -/
noncomputable def rowX (h : AHeap) (el n : Nat) (l : List AV) : AV × T AObj × Nat := match l with
  | [] => (.nils 0 0, h.objs, h.next)
  | l => match newCells h el l false with
    | ⟨o, m, _⟩ => (.slg h.next 0 0 n 0, o, m)

noncomputable def sortedAt (h : AHeap) (K : Nat) (o : Option AObj) : Option (AV × T AObj × Nat) := match o with
  | some (.map es clock) => match keysS es with
    | none => none
    | some ks => match okMap es clock ks with
      | false => none
      | true => some (rowX h K es.length ((sortS ks).map .str))
  | _ => none

/-- slices.Sorted of maps.Keys, known. -/
noncomputable def sortedF (g K : Nat) (h : AHeap) (args : List AV) : Option (AV × T AObj × Nat) := match args with
  | [.fn (.func g') [] [.ptr i ver off]] => match Nat.beq g' g && Nat.beq off 0 with
    | false => none
    | true => match loadCellsA h i ver off 1 with
      | some [.mp j] => sortedAt h K (h.get j)
      | _ => none
  | _ => none

/-- What is asked of the program: what it hands back at a map that is not nil. -/
def SortsKeys (P : Program) (f g K : Nat) : Prop :=
  ∀ (Bm b nn : Nat) (D : DataW Nat) (R : Value → Option (DataW Nat × List MemPlace)) (w : World), w.cell? ⟨Bm, 0, none⟩ = some (.map (some b)) → w.ownsMap P K R b nn D → Maps.size D ≤ maxLen → Maps.size D * 16 ≤ 140737488355328 →
    Calls P f #[.func (.func g) #[] #[.pointer (some ⟨Bm, 0, none⟩)]] w fun e w' => ∃ (v : Value) (ss : List (List UInt8)), e = .returned v ∧ ss.Perm (strKeys D) ∧
      w'.ownsRow w.heap.size K 1 v ss.length ((ss.mergeSort (fun x y => decide (x ≤ y))).map encStr) ∧ (v = .slice none 0 0 ↔ ss = []) ∧ Below w.heap.size w w'

theorem insert_perm {H : Type} (x : Lit × DataW H) : ∀ l, (DataW.insert x l).Perm (x :: l)
  | [] => .refl _
  | y :: r => by
    unfold DataW.insert
    split
    · exact .refl _
    · exact ((insert_perm x r).cons y).trans (List.Perm.swap x y r)

theorem foldr_insert_perm {H : Type} : ∀ l : List (Lit × DataW H), (l.foldr DataW.insert []).Perm l
  | [] => .refl _
  | x :: r => (insert_perm x _).trans ((foldr_insert_perm r).cons x)

section
variable {P : Program} {R : Bij}

theorem keysS_get {es : List AEntry} {es' : List MapEntry} {ks : List (List UInt8)} (hk : keysS es = some ks) (hr : All2 (ERel R) es es') :
    es'.map (·.key) = ks.map encStr ∧ es'.map (·.born) = es.map (·.born) := by
  obtain ⟨h1, h2⟩ := mapO_some hk
  have hl := hr.length
  constructor
  · refine List.ext_getElem? fun i => ?_
    rw [List.getElem?_map, List.getElem?_map]
    cases hi : es[i]? with
    | none =>
      have : es.length ≤ i := List.getElem?_eq_none_iff.1 hi
      rw [List.getElem?_eq_none (by omega), List.getElem?_eq_none (by omega)]; rfl
    | some e =>
      obtain ⟨s, hs, hf⟩ := h2 i e hi
      obtain ⟨e', he', r1, _, _⟩ := hr.get i e hi
      rw [hs, he']
      unfold strK at hf
      split at hf
      · rename_i s' hs'
        cases hf
        rw [hs'] at r1
        show some e'.key = some (encStr _)
        rw [show e'.key = _ from r1, encStr]
      · cases hf
  · refine List.ext_getElem? fun i => ?_
    rw [List.getElem?_map, List.getElem?_map]
    cases hi : es[i]? with
    | none =>
      have : es.length ≤ i := List.getElem?_eq_none_iff.1 hi
      rw [List.getElem?_eq_none (by omega)]; rfl
    | some e =>
      obtain ⟨e', he', _, _, r3⟩ := hr.get i e hi
      rw [he']
      show some e'.born = some e.born
      rw [r3]

/-- A map of such entries, as the guide's laws want it. -/
theorem owns_keys {K : Nat} (hK : P.underlying K = some .string) {es : List AEntry} {es' : Array MapEntry} {clock : Nat} {ks : List (List UInt8)} (hk : keysS es = some ks) (ho : okMap es clock ks = true) (hr : All2 (ERel R) es es'.toList)
    {w : World} {b : Nat} (hb : w.heap[b]? = some (.map es' clock)) :
    ∃ D : DataW Nat, w.ownsMap P K (fun _ => some (.nil, [])) b es'.size D ∧ (strKeys D).Perm ks ∧ Maps.size D = es.length := by
  simp only [okMap, Bool.and_eq_true, List.all_eq_true] at ho
  obtain ⟨⟨⟨⟨o1, o2⟩, o3⟩, o4⟩, o5⟩ := ho
  obtain ⟨k1, k2⟩ := keysS_get hk hr
  have hlen : es'.toList.length = es.length := hr.length
  have hes : es.length < 2 ^ 20 := by simpa using o1
  have hkey : ∀ x ∈ es'.toList, ∃ s ∈ ks, x.key = encStr s := fun x hx => by
    have : x.key ∈ es'.toList.map (·.key) := List.mem_map_of_mem hx
    rw [k1] at this
    obtain ⟨s, hs, e⟩ := List.mem_map.1 this
    exact ⟨s, hs, e.symm⟩
  have hrd : ∀ x ∈ es'.toList, ∃ s, x.key = encStr s ∧ rd P K (fun _ => some ((.nil : DataW Nat), [])) x = some (.string s, .nil) := fun x hx => by
    obtain ⟨s, hs, e⟩ := hkey x hx
    have hs2 : s.length ≤ maxLen := by
      have := o5 s hs
      have h3 : s.length < 2 ^ 40 := by simpa [okStr] using this
      unfold maxLen; omega
    refine ⟨s, e, ?_⟩
    unfold rd
    rw [e, encStr, WideMaps.keyOf_string_mk hK (show s.toArray.size ≤ maxLen by simpa using hs2)]
    simp
  have hfit : Fit P K (fun _ => some ((.nil : DataW Nat), [])) es' clock := by
    refine ⟨?_, ⟨?_, ?_, ?_⟩, fun x hx => ?_⟩
    · rw [← Array.length_toList, hlen]; unfold maxLen; omega
    · intro x hx
      have : x.born ∈ es'.toList.map (·.born) := List.mem_map_of_mem hx
      rw [k2] at this
      obtain ⟨e, he, e2⟩ := List.mem_map.1 this
      have := o2 e he
      rw [← e2]; simpa using this
    · rw [k2]; exact nodupN_ok o3
    · rw [k1]
      refine List.pairwise_map.2 ((nodupS_ok o4).imp fun {a b} hab e => hab (encStr_inj e))
    · obtain ⟨s, _, e⟩ := hrd x hx; exact ⟨_, e⟩
  refine ⟨_, ⟨es', clock, hb, hfit, Nat.le_refl _, rfl⟩, ?_, ?_⟩
  · show (List.map (fun p : Lit × DataW Nat => Go.strOf p.1) _).Perm ks
    refine ((foldr_insert_perm _).map _).trans ?_
    rw [List.map_map]
    have : es'.toList.map ((fun p : Lit × DataW Nat => Go.strOf p.1) ∘ rg P K fun _ => some ((.nil : DataW Nat), [])) = ks := by
      refine List.ext_getElem? fun i => ?_
      rw [List.getElem?_map]
      have g := congrArg (fun l => l[i]?) k1
      simp only [List.getElem?_map] at g
      cases hi : es'.toList[i]? with
      | none =>
        rw [hi] at g
        cases hks : ks[i]? with
        | none => rfl
        | some s => rw [hks] at g; cases g
      | some x =>
        rw [hi] at g
        obtain ⟨s, e, hx⟩ := hrd x (List.mem_of_getElem? hi)
        cases hks : ks[i]? with
        | none => rw [hks] at g; cases g
        | some s' =>
          rw [hks] at g
          have g' : x.key = encStr s' := Option.some.inj g
          obtain rfl := encStr_inj (e.symm.trans g')
          show some (Go.strOf (rg P K _ x).1) = some s
          rw [WideElems.rg_of hx]; rfl
    rw [this]
  · show List.length _ = _
    rw [(foldr_insert_perm _).length_eq, List.length_map, hlen]

theorem VRels.strs : ∀ (l : List (List UInt8)), VRels R (l.map .str) (l.map encStr)
  | [] => .nil
  | _ :: r => .cons rfl (VRels.strs r)

/-- One cell that is loaded. -/
theorem cell_of_load {B : Base} {h : AHeap} {w : World} (k : HRel P B R h w) {i r off : Nat} {v : AV} (e : loadCellsA h i r off 1 = some [v]) {L : Loc} (hL : R i r = some L) (h2 : L.minus ≤ off) :
    ∃ x, w.cell? ⟨L.block, off - L.minus, none⟩ = some x ∧ VRel R v x := by
  unfold loadCellsA at e
  split at e
  · rename_i c m el lo hi nv fz sg ex ho
    split at e
    · cases e
    · rename_i e' he
      split at e
      · rename_i hc
        obtain ⟨L', hL', cs, a, b, v1, _, _, _, v5⟩ := k.ver hL ho hc.1 hc.2.1 he
        rw [hL] at hL'; cases hL'
        have g := (loadList_get e).2 0 v rfl
        obtain ⟨x, hx, hr⟩ := v5 off v (by omega) h2 (by simpa using g)
        exact ⟨x, by rw [cell?_row _ _ _ v1]; exact hx, hr⟩
      · cases e
  · rename_i c lo m ho
    split at e
    · rename_i hc
      obtain ⟨L', cs, el, fz, hL', q1, q2, q3, q4⟩ := k.obj' hL ho
      rw [hc.1, hL'] at hL; cases hL
      have g := (loadList_get e).2 0 v rfl
      obtain ⟨x, hx, hr⟩ := q4 off v hc.2.1 (by omega) (by simpa using g)
      exact ⟨x, by rw [q1, Nat.sub_zero, cell?_row _ _ _ q2]; exact hx, VRel.mono (fun _ _ _ e => by cases e) _ _ hr⟩
    · cases e
  · cases e

theorem sorted_ok {f g K : Nat} (hK : P.underlying K = some .string) (hc : P.cellsOf K = 1) (hC : SortsKeys P f g K) : XOk P f (sortedF g K) := by
  intro B R h w args args' v o n e k hB ha
  unfold sortedF at e
  split at e
  rotate_left
  · cases e
  rename_i g' i ver off
  split at e
  · cases e
  rename_i hc2
  simp only [Bool.and_eq_true] at hc2
  obtain rfl := Nat.eq_of_beq_eq_true hc2.1
  obtain rfl := Nat.eq_of_beq_eq_true hc2.2
  split at e
  rotate_left
  · cases e
  rename_i j hld
  unfold sortedAt at e
  split at e
  rotate_left
  · cases e
  rename_i es clock hj
  split at e
  · cases e
  rename_i ks hks
  split at e
  · cases e
  rename_i hok
  obtain ⟨x, xs, rfl, hx, hxs⟩ := ha
  cases hxs
  obtain ⟨hny, a1, b1, rfl, hfs, hcs⟩ := hx
  cases hfs
  obtain ⟨y, ys, rfl, hy, hys⟩ := hcs
  cases hys
  obtain ⟨L, hL, hm, rfl⟩ := hy
  obtain ⟨M, hMb, hcell⟩ : ∃ M, R j 0 = some M ∧ w.cell? ⟨L.block, 0, none⟩ = some (.map (some M.block)) := by
    obtain ⟨x, hx, M, hM, rfl⟩ := cell_of_load k hld hL hm
    rw [Nat.zero_sub] at hx
    exact ⟨M, hM, hx⟩
  obtain ⟨M', es', hM', hb, hr⟩ := k.obj' hMb hj
  rw [hMb] at hM'; cases hM'
  obtain ⟨D, hown, hperm, hsize⟩ := owns_keys hK hks hok hr hb
  have hes : es.length < 2 ^ 20 := by
    simp only [okMap, Bool.and_eq_true] at hok
    simpa using hok.1.1.1.1
  rw [Nat.zero_sub]
  refine (hC L.block M.block es'.size D _ w hcell hown (by rw [hsize]; unfold maxLen; omega) (by rw [hsize]; omega)).mono ?_
  rintro ev w' ⟨u, ss, rfl, hss, hrow, hnil, hbel⟩
  have hkl : ks.length = es.length := (mapO_some hks).1
  have hsort := sortS_eq (hss.trans hperm)
  have hlen : ss.length = es.length := by rw [(hss.trans hperm).length_eq, hkl]
  rw [hsort] at hrow
  cases hl : (sortS ks).map AV.str with
  | nil =>
    rw [hl] at e
    simp only [rowX] at e
    cases e
    have : ss = [] := by
      have h1 : (sortS ks).length = 0 := by have := congrArg List.length hl; simpa using this
      rw [(sortS_perm ks).length_eq, hkl, ← hlen] at h1
      exact List.eq_nil_of_length_eq_zero h1
    refine ⟨R, u, rfl, hnil.2 this, k.garbage hB hbel.size hbel.block (Nat.le_refl _), keeps_garbage hbel.size hbel.block hbel.os hbel.tape hbel.output⟩
  | cons x0 r0 =>
    have hne : u ≠ .slice none 0 0 := fun hu => by
      have h1 := hnil.1 hu
      have h2 : (sortS ks).length = 0 := by rw [(sortS_perm ks).length_eq, hkl, ← hlen, h1]; rfl
      have h3 := congrArg List.length hl
      rw [List.length_map, h2] at h3
      cases h3
    obtain ⟨R', q1, q2, q3⟩ := k.row hB hbel hc hrow hne (VRels.strs (sortS ks))
    rw [hlen] at q1
    rw [hl] at e q2
    simp only [rowX, newCells, AHeap.new] at e q2
    cases e
    exact ⟨R', u, rfl, q1, q2, q3⟩
end

end Go.Proofs.YtfimobbjldemeaaGreatDoor.Ev
