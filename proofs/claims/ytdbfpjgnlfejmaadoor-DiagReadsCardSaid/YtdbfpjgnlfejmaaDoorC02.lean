import Derived.Orders
import Derived.Calls
import Derived.WalkKit
import Derived.ProofKit
import Derived.OpenShut
import Derived.Test.YtdbfpjgnlfejmaaDoorC00
import Derived.Test.YtdbfpjgnlfejmaaDoorC01
section
namespace Go.Proofs.YtdbfpjgnlfejmaaDoor.Ev
open Go
def Base.drop (B : Base) (id : Nat) : Base := { B with pend := fun j => if j = id then none else B.pend j }
def Base.add (B : Base) (id : Nat) (o : AObj) : Base := { B with pend := fun j => if j = id then some o else B.pend j }
section
variable {P : Program} {B : Base} {R : Bij} {h : AHeap} {w : World}
theorem HRel.ahead (k : HRel P B R h w) (o : AObj) : HRel P (B.add h.next o) R (h.new o) w where
 fresh i hi r := k.fresh i (by rw [wR] at hi; omega) r
 pend i o' e := by
  simp only [Base.add] at e
  split at e
  · rename_i hi
    cases e; subst hi
    exact ⟨by rw [wR]; omega, by rw [zam, if_pos rfl], fun r => k.fresh _ (Nat.le_refl _) r⟩
  · obtain ⟨e1, e2, e3⟩ := k.pend i o' e
    exact ⟨by rw [wR]; omega, by rw [zam, if_neg (by omega)]; exact e2, e3⟩
 obj i o' e hp := by
  simp only [Base.add] at hp
  split at hp
  · cases hp
  · rename_i hi
    rw [zam, if_neg hi] at e
    exact k.obj i o' e hp
 place := k.place
 apart := k.apart
 same := k.same
 glob g c hg := k.glob g c (by rwa [zgc] at hg)
 low := k.low
 rp i hi := by
  have hlt := (k.rd i hi).1
  simp only [Base.add]
  rw [if_neg (by omega)]; exact k.rp i hi
 rol := k.rol
 pin := k.pin
 rd i hi := by
  have hlt := (k.rd i hi).1
  refine ⟨by rw [wR]; omega, fun o' e => ?_⟩
  rw [zam, if_neg (by omega)] at e
  exact (k.rd i hi).2 o' e
def zmP (P : Program) (R : Bij) (w : World) (s : Sem Value) (vf : Nat → AV) (ob : AObj) : Prop :=
 ∃ blk L v', L.block = w.heap.size ∧ s.run P w = .ok v' (w.alloc blk) ∧ ∀ id, (∀ r, R id r = none) → zl (R.upd id 0 L) (vf id) v' ∧ xd P (R.upd id 0 L) (w.alloc blk) id ob
theorem HRel.adopt (k : HRel P B R h w) (hB : B.n ≤ w.heap.size) {id : Nat} {ob : AObj} {s : Sem Value} {vf : Nat → AV} (hp : B.pend id = some ob) (hl : zmP P R w s vf ob) :
 ∃ R' v' w', s.run P w = .ok v' w' ∧ zl R' (vf id) v' ∧ HRel P (B.drop id) R' h w' ∧ Keeps R w R' w' := by
 obtain ⟨blk, L, v', hL, hrun, hid⟩ := hl
 obtain ⟨p1, p2, p3⟩ := k.pend id ob hp
 obtain ⟨g1, g2⟩ := hid id p3
 have hle := R.le_upd (i := id) (r := 0) L (p3 0)
 have hsz : (w.alloc blk).heap.size = w.heap.size + 1 := by show (w.heap.push _).size = _; simp
 have hidR : ∀ {r M}, R.upd id 0 L id r = some M → M = L := by
  intro r M e
  by_cases hr : r = 0
  · subst hr; rw [R.upd_same] at e; cases e; rfl
  · rw [R.upd_other L (by intro e; exact hr e.2), p3] at e; cases e
 have hoth : ∀ {j r}, j ≠ id → R.upd id 0 L j r = R j r := fun hj => R.upd_other L (fun e => hj e.1)
 refine ⟨R.upd id 0 L, v', w.alloc blk, hrun, g1, ⟨?_, ?_, ?_, ?_, fun i hi => k.rd i hi, fun i hi => ?_, fun i r M hi e => ?_, fun b hb => (yx w blk (Nat.lt_of_lt_of_le (Base.low_lt (B := B) hb) hB)).trans (k.low b hb), fun i r M e => hle _ _ _ (k.pin i r M e), ?_, ?_, fun g c hg => ?_⟩, ⟨rfl, rfl, rfl, by omega, hle, fun b hb hn => ⟨yx w blk hb, fun j r M e => ?_⟩, Nat.le_refl _⟩⟩
 · intro i hi r
   rw [hoth (by omega)]; exact k.fresh i hi r
 · intro i o e hpi
   by_cases hi : i = id
   · subst hi; rw [p2] at e; cases e; exact g2
   · simp only [Base.drop, if_neg hi] at hpi
     exact (k.obj i o e hpi).mono hle (fun r => hoth hi) (fun r M e => yx w blk (k.place i r M e).2)
 · intro i o e
   simp only [Base.drop] at e
   split at e
   · cases e
   · rename_i hi
     obtain ⟨e1, e2, e3⟩ := k.pend i o e
     exact ⟨e1, e2, fun r => by rw [hoth hi]; exact e3 r⟩
 · intro i r M e
   by_cases hi : i = id
   · subst hi; rw [hidR e]; exact ⟨.inl (.inl (by show B.n ≤ _; omega)), by omega⟩
   · rw [hoth hi] at e
     have := k.place i r M e
     exact ⟨this.1, by omega⟩
 · simp only [Base.drop]
   split
   · rfl
   · exact k.rp i hi
 · by_cases hj : i = id
   · subst hj
     rw [k.rp i hi] at hp; cases hp
   · rw [hoth hj] at e
     exact k.rol i r M hi e
 · intro i r i' r' M M' e e' hb hor
   by_cases hi : i = id
   · subst hi
     rw [hidR e] at hb
     by_cases hi' : i' = i
     · exact hi'.symm
     · rw [hoth hi'] at e'; have := (k.place i' r' M' e').2; omega
   · rw [hoth hi] at e
     by_cases hi' : i' = id
     · subst hi'; rw [hidR e'] at hb; have := (k.place i r M e).2; omega
     · rw [hoth hi'] at e'; exact k.apart i r i' r' M M' e e' hb hor
 · intro i r r' M M' e e' hb
   by_cases hi : i = id
   · subst hi; rw [hidR e, hidR e']
   · rw [hoth hi] at e e'; exact k.same i r r' M M' e e' hb
 · obtain ⟨e1, cs, el, fz, e2, e3⟩ := k.glob g c hg
   exact ⟨e1, cs, el, fz, (yx w blk (Nat.lt_of_lt_of_le (Base.low_lt e1) hB)).trans e2, e3⟩
 · by_cases hc : j = id ∧ r = 0
   · rw [hc.1, hc.2, R.upd_same] at e; cases e; omega
   · rw [R.upd_other L hc] at e; exact hn j r M e
noncomputable def xW (el : TypeId) (l : List AV) : AObj := .cells (zA .leaf 0 l) l.length el 0 0 1 0 false .leaf
theorem zao (h : AHeap) (el : TypeId) (l : List AV) : xV h el l false = h.new (xW el l) := rfl
theorem zaQ {el : TypeId} {l : List AV} {vs : List Value} {kap : Nat} (hr : zm R l vs) (hk : kap * P.cellsOf el = l.length) (hkb : kap ≤ 9223372036854775807) {id : Nat} (hfree : ∀ r, R id r = none) :
 xd P (R.upd id 0 ⟨w.heap.size, 0, kap⟩) (w.alloc (.cells vs.toArray el)) id (xW el l) := by
 refine ⟨Nat.le_refl _, by omega, fun r hr' => ?_, fun r e h1 h2 h3 => ?_, fun r e h1 h2 h3 => ?_⟩
 rotate_left 2
 · obtain rfl : r = 0 := by omega
   simp [zJ] at h3; omega
 · rw [R.upd_other _ (by omega)]; exact hfree r
 · obtain rfl : r = 0 := by omega
   simp [zJ] at h3; subst h3
   refine ⟨_, R.upd_same _ _ _, vs.toArray, 0, 0, ?_, by simp [hr.length], by simp [hr.length, hk], ⟨⟨Nat.le_refl _, fun _ => Nat.le_trans hkb (Nat.le_add_left _ _)⟩, fun j a b => by omega⟩, fun j x a _ c => ?_⟩
   · exact xx w _
   · rw [zr] at c
     simp only [Nat.zero_le, true_and, Nat.zero_add, Nat.sub_zero] at c ⊢
     rw [if_pos a] at c
     obtain ⟨y, hy, hyr⟩ := hr.get j x c
     exact ⟨y, by simpa using hy, zl.mono (R.le_upd _ (hfree 0)) _ _ hyr⟩
def zl1 (P : Program) (ρ : Operand → Option AV) (op : Op) (vf : Nat → AV) (ob : AObj) : Prop :=
 (∀ h, opA P ρ h op = some (.val (vf h.next) (h.new ob))) ∧
 ∀ (R : Bij) (w : World) (ρ' : Operand → Value) (o : Oper), o.op = op → (∀ x v, ρ x = some v → zl R v (ρ' x)) →
  ∃ s, execOp ρ' o = (do pure (.value (← s))) ∧ zmP P R w s vf ob
theorem wT {t : TypeId} {x v : AV} {h' : AHeap} (e : zk5 P h t x = some (v, h')) :
 (∀ h, zk5 P h t x = some (.ptr h.next 0 0, h.new (xW t x.cells))) ∧
 ∀ (R : Bij) (w : World) (x' : Value) (f : Sem Value), zl R x x' → f.run P w = (do pure (.pointer (some (← newVar t x'))) : Sem Value).run P w → zmP P R w f (fun id => .ptr id 0 0) (xW t x.cells) := by
 unfold zk5 at e
 split at e
 · rename_i hc
   refine ⟨fun h => by simp only [zk5, hc, and_self, if_true]; rfl, fun R w x' f hx hf => ?_⟩
   have hcx := hx.cells
   have hkap : 1 * P.cellsOf t = x.cells.length := by
    obtain ⟨inf, hi, hs⟩ := zC hc.2
    rw [zG hi, hs, Nat.one_mul]
   refine ⟨.cells x'.cells t, ⟨w.heap.size, 0, 1⟩, .pointer (some ⟨w.heap.size, 0, none⟩), rfl, by rw [hf]; simp [newVar, newRow], fun id hid => ⟨zja R, ?_⟩⟩
   have := zaQ (P := P) (w := w) hcx hkap (by decide) hid
   simpa using this
 · cases e
theorem qD {t : TypeId} {len : Nat} {parts : List (Nat × AV)} {v : AV} {h' : AHeap} (e : x0 P h t len parts = some (v, h')) :
 ∃ el cells, (∀ h, x0 P h t len parts = some (.slc h.next 0 0 len len, h.new (xW el cells))) ∧
 ∀ (R : Bij) (w : World) (parts' : Array (Nat × Value)), xU (zm3 R) parts parts'.toList → zmP P R w (Instr.buildSlice t len parts') (fun id => .slc id 0 0 len len) (xW el cells) := by
 unfold x0 at e
 split at e
 · rename_i el hu
   split at e
   · cases e
   · rename_i inf hi
     split at e
     · rename_i hsz
       split at e
       · cases e
       · rename_i z hz
         split at e
         · rename_i hc
           split at e
           · cases e
           · rename_i cells hf
             split at e
             · rename_i hall
               refine ⟨el, cells, fun h => ?_, fun R w parts' hp => ?_⟩
               · simp only [x0, hu, hi, if_pos hsz, hz, if_pos hc, hf, hall, if_true, zao]
               · obtain ⟨inf', zv, hi', hzv, hzr⟩ := zV R hz
                 rw [hi] at hi'; cases hi'
                 have hzl : zv.cells.size = inf.size := by have := hzr.cells.length; rw [← hc.1, ← this]; simp
                 have hzeros := qn hzr len
                 rw [hzl] at hzeros
                 obtain ⟨r', e1, e2, e3⟩ := yW (place' := fun i => some (i * inf.size, inf.size)) (fun i r h => h) hf hp hzeros
                 have hkap : len * P.cellsOf el = cells.length := by rw [zG hi, e3, zH, hc.1]
                 refine ⟨.cells r' el, ⟨w.heap.size, 0, len⟩, .slice (some ⟨w.heap.size, 0, none⟩) len len, rfl, ?_, fun id hid => ⟨zcS R, by simpa using zaQ (P := P) (w := w) e2 hkap (zdy hsz hc.2) hid⟩⟩
                 by_cases h0 : len * inf.size = 0
                 · have hl0 : len = 0 := by rcases Nat.mul_eq_zero.1 h0 with h | h <;> omega
                   subst hl0
                   have hr0 : Array.range 0 = #[] := rfl
                   simp only [Nat.zero_mul, hr0, Array.map_empty] at e1
                   simp [Instr.buildSlice, za w hu, zp w hi, hr0, e1, newRow]
                 · have : ¬ (2 ^ 24 < len * inf.size) := by omega
                   simp only [Instr.buildSlice, za w hu, zp w hi, zx w hi hzv, Sem.run_bind, Result.andThen_ok, Sem.run_ite, gt_iff_lt, this, if_false, h0, Sem.run_pure, hzl, e1, newRow, run_newObj, World.alloc_eq]
             · cases e
         · cases e
     · cases e
 · cases e
theorem qZ {t : TypeId} {l c v : AV} {h' : AHeap} (e : xI P h t l c = some (v, h')) :
 ∃ el cells n m, (∀ h, xI P h t l c = some (.slc h.next 0 0 n m, h.new (xW el cells))) ∧
 ∀ (R : Bij) (w : World) (l' c' : Value), zl R l l' → zl R c c' → zmP P R w (Instr.makeSlice t l' c') (fun id => .slc id 0 0 n m) (xW el cells) := by
 unfold xI at e
 split at e
 · rename_i el hu
   split at e
   · rename_i k1 l0
     split at e
     · rename_i k2 c0
       unfold qA at e
       split at e
       · cases e
       · rename_i inf hi
         split at e
         · cases e
         · rename_i z hz
           split at e
           · rename_i hcond
             refine ⟨el, zZ z.cells c0.toNat, l0.toNat, c0.toNat, fun h => ?_, fun R w l' c' hl hc => ?_⟩
             · simp only [xI, hu, qA, hi, hz, if_pos hcond, zao]
             · obtain ⟨c1, c2, c3, c4, c5, c6, c7⟩ := hcond
               cases hl; cases hc
               obtain ⟨inf', zv, hi', hzv, hzr⟩ := zV R hz
               rw [hi] at hi'; cases hi'
               have hzl : zv.cells.size = inf.size := by have := hzr.cells.length; rw [← c5, ← this]; simp
               have hzeros := qn hzr c0.toNat
               rw [hzl] at hzeros
               have hkap : c0.toNat * P.cellsOf el = (zZ z.cells c0.toNat).length := by rw [zG hi, zH, c5]
               refine ⟨.cells ((Array.range (c0.toNat * inf.size)).map (zv.cells[· % inf.size]!)) el, ⟨w.heap.size, 0, c0.toNat⟩, .slice (some ⟨w.heap.size, 0, none⟩) l0.toNat c0.toNat, rfl, ?_, fun id hid => ⟨zcS R, by
                have := zaQ (P := P) (w := w) hzeros hkap (by omega) hid
                rw [Array.toArray_toList] at this
                exact this⟩⟩
               have w1 : IntKind.i64.wrap l0 = l0 := by simp only [IntKind.wrap, IntKind.bits, IntKind.signed]; simp; omega
               have w2 : IntKind.i64.wrap c0 = c0 := by simp only [IntKind.wrap, IntKind.bits, IntKind.signed]; simp; omega
               have b1 : (decide (c0 < 0) || decide ((inf.bytes : Int) * c0 > 2 ^ 48)) = false := by simp; omega
               have b2 : decide (l0 < 0) = false := by simp; omega
               have b3 : decide (l0 > c0) = false := by simp; omega
               simp only [Instr.makeSlice, Sem.run_bind, za w hu, Result.andThen_ok, asInt, asIntOf, Sem.run_pure, zN w hi, w1, w2, b1, b2, b3, Bool.or_self, Bool.false_eq_true, if_false, run_askRoom, zp w hi]
               by_cases h0 : c0.toNat * inf.size = 0
               · have hc0 : c0.toNat = 0 := by rcases Nat.mul_eq_zero.1 h0 with h | h <;> omega
                 have hr0 : Array.range 0 = #[] := rfl
                 simp [hc0, newRow, hr0]
               · simp only [h0, if_false, Sem.run_bind, zx w hi hzv, Result.andThen_ok, Sem.run_pure, hzl, newRow, run_newObj, World.alloc_eq]
           · cases e
     · cases e
   · cases e
 · cases e
theorem zhD {ρ : Operand → Option AV} {op : Op} {r : AR} (hf : xy op = true) (e : opA P ρ h op = some r) : ∃ vf ob, zl1 P ρ op vf ob := by
 cases op with
 | alloc t =>
  change yC P t ρ h = some r at e
  unfold yC zaE at e
  split at e
  · cases e
  · rename_i z hz
    obtain ⟨v, h', e1, rfl⟩ := xb e
    obtain ⟨b1, b2⟩ := wT e1
    refine ⟨fun id => .ptr id 0 0, xW t z.cells, fun h => ?_, fun R w ρ' o ho hρ => ?_⟩
    · show yC P t ρ h = _
      unfold yC zaE
      rw [hz]; simp only [b1, zbH]
    · obtain ⟨inf, zv, hi, hzv, hzr⟩ := zV R hz
      refine ⟨Instr.alloc t true (.tuple #[]), by simp only [execOp, ho], b2 R w zv _ hzr ?_⟩
      simp [Instr.alloc, zx w hi hzv]
 | box t x =>
  change zbo P t x ρ h = some r at e
  obtain ⟨a, ha, e⟩ := zu e
  obtain ⟨v, h', e1, rfl⟩ := xb e
  obtain ⟨b1, b2⟩ := wT e1
  refine ⟨fun id => .ptr id 0 0, xW t a.cells, fun h => ?_, fun R w ρ' o ho hρ => ?_⟩
  · show zbo P t x ρ h = _
    simp only [zbo, wb, ha, b1, zbH]
  · refine ⟨Instr.box t (ρ' x), by simp only [execOp, ho], b2 R w _ _ (hρ _ _ ha) ?_⟩
    simp [Instr.box]
 | buildSlice t n parts =>
  change zX P t n parts ρ h = some r at e
  unfold zX xF at e
  split at e
  · cases e
  · rename_i l hl
    obtain ⟨v, h', e1, rfl⟩ := xb e
    obtain ⟨el, cells, b1, b2⟩ := qD e1
    refine ⟨fun id => .slc id 0 0 n n, xW el cells, fun h => ?_, fun R w ρ' o ho hρ => ?_⟩
    · show zX P t n parts ρ h = _
      unfold zX xF
      rw [hl]; simp only [b1, zbH]
    · refine ⟨Instr.buildSlice t n (parts.map fun (i, x) => (i, ρ' x)), by simp only [execOp, ho], b2 R w _ ?_⟩
      rw [qT]; exact kS hρ hl
 | makeSlice t l c =>
  change xn P t l c ρ h = some r at e
  obtain ⟨a, b, ha, hb, e⟩ := xr e
  obtain ⟨v, h', e1, rfl⟩ := xb e
  obtain ⟨el, cells, n, m, b1, b2⟩ := qZ e1
  refine ⟨fun id => .slc id 0 0 n m, xW el cells, fun h => ?_, fun R w ρ' o ho hρ => ?_⟩
  · show xn P t l c ρ h = _
    simp only [xn, two, ha, hb, b1, zbH]
  · exact ⟨Instr.makeSlice t (ρ' l) (ρ' c), by simp only [execOp, ho], b2 R w _ _ (hρ _ _ ha) (hρ _ _ hb)⟩
 | makeMap t r' =>
  cases r' with
  | none =>
   refine ⟨fun id => .mp id, .map [] 0, fun h => rfl, fun R w ρ' o ho hρ => ⟨Instr.makeMap t none, by simp only [execOp, ho, Option.map_none], .map #[] 0, ⟨w.heap.size, 0, 0⟩, .map (some w.heap.size), rfl, by simp [Instr.makeMap], fun id hid => ?_⟩⟩
   exact ⟨⟨_, R.upd_same _ _ _, rfl⟩, _, #[], R.upd_same _ _ _, xx w _, rfl⟩
  | some x => cases hf
 | _ => cases hf
end
end Go.Proofs.YtdbfpjgnlfejmaaDoor.Ev
end
section
namespace Go.Proofs.YtdbfpjgnlfejmaaDoor.Ev
open Go
section
variable {P : Program} {ρ ρ' : Operand → Option AV} {h : AHeap}
theorem yF {α β : Type} {f g : α → Option β} : ∀ {l : List α}, (∀ x ∈ l, f x = g x) → qE f l = qE g l
 | [], _ => rfl
 | a :: r, e => by
  simp only [qo, e a (List.mem_cons_self), yF (l := r) (fun x hx => e x (List.mem_cons_of_mem _ hx))]
theorem xe {x : Operand} {f : AV → Option AR} (e : ρ x = ρ' x) : wb ρ x f = wb ρ' x f := by simp only [wb, e]
theorem yI {x y : Operand} {f : AV → AV → Option AR} (e : ρ x = ρ' x) (e' : ρ y = ρ' y) : two ρ x y f = two ρ' x y f := by simp only [two, e, e']
theorem zgI {c : Call} (hl : ∀ x ∈ c.operands, ρ x = ρ' x) : x8 P ρ h c = x8 P ρ' h c := by
 have h1 : qE ρ c.args.toList = qE ρ' c.args.toList := yF fun x hx => hl x (by simp only [Call.operands, Array.mem_append]; exact .inr (by simpa using hx))
 unfold x8
 rw [h1]
 cases hc : c.callee with
 | builtin b => rfl
 | invoke r name =>
  have := hl r (by simp [Call.operands, hc])
  simp only [this]
 | value f =>
  have := hl f (by simp [Call.operands, hc])
  simp only [this]
theorem zeA {c : Call} (hl : ∀ x ∈ c.operands, ρ x = ρ' x) : js ρ c = js ρ' c := by
 have h1 : qE ρ c.args.toList = qE ρ' c.args.toList := yF fun x hx => hl x (by simp only [Call.operands, Array.mem_append]; exact .inr (by simpa using hx))
 unfold js
 rw [h1]
 cases hc : c.callee with
 | builtin b => rfl
 | invoke r name =>
  have := hl r (by simp [Call.operands, hc])
  simp only [this]
 | value f =>
  have := hl f (by simp [Call.operands, hc])
  simp only [this]
theorem zal {l : List (Nat × Operand)} (hl : ∀ x ∈ l.map (·.2), ρ x = ρ' x) : vV ρ l = vV ρ' l :=
 yF fun p hp => by rw [hl p.2 (List.mem_map_of_mem hp)]
theorem vC {o : Option Operand} (hl : ∀ x ∈ o, ρ x = ρ' x) : qF ρ o = qF ρ' o := by
 cases o with
 | none => rfl
 | some x => simp only [qF, hl x rfl]
theorem kw {op : Op} (hl : ∀ x ∈ op.operands, ρ x = ρ' x) : opA P ρ h op = opA P ρ' h op := by
 cases op with
 | move x => exact congrArg (qi h) (hl x (by simp [Op.operands]))
 | assign x => exact congrArg (qi h) (hl x (by simp [Op.operands]))
 | pick c a b =>
  show zan P c a b ρ h = zan P c a b ρ' h
  simp only [zan, zlw, hl c (by simp [Op.operands]), hl a (by simp [Op.operands]), hl b (by simp [Op.operands])]
 | alloc t => rfl
 | box t x => exact xe (hl x (by simp [Op.operands]))
 | build t parts => exact congrArg (vQ P h t) (zal fun x hx => hl x (by simpa [Op.operands] using hx))
 | buildSlice t n parts => exact congrArg (xF P h t n) (zal fun x hx => hl x (by simpa [Op.operands] using hx))
 | insert t m k x =>
  show qq P t m k x ρ h = qq P t m k x ρ' h
  simp only [qq, qh, hl m (by simp [Op.operands]), hl k (by simp [Op.operands]), hl x (by simp [Op.operands])]
 | load t a => exact xe (hl a (by simp [Op.operands]))
 | store t a x => exact yI (hl a (by simp [Op.operands])) (hl x (by simp [Op.operands]))
 | ready g => rfl
 | waits g => rfl
 | nilCheck x => exact xe (hl x (by simp [Op.operands]))
 | binOp op t x y u => exact yI (hl x (by simp [Op.operands])) (hl y (by simp [Op.operands]))
 | unOp op t x => exact xe (hl x (by simp [Op.operands]))
 | convert s d x => exact xe (hl x (by simp [Op.operands]))
 | sliceToArrayPointer t x => rfl
 | makeInterface t x => exact xe (hl x (by simp [Op.operands]))
 | makeFunc f first cap =>
  show yO P f first cap ρ h = yO P f first cap ρ' h
  have h1 : qE ρ first.toList = qE ρ' first.toList := yF fun x hx => hl x (by simp only [Op.operands, Array.mem_append]; exact .inl (by simpa using hx))
  have h2 : qE ρ cap.toList = qE ρ' cap.toList := yF fun x hx => hl x (by simp only [Op.operands, Array.mem_append]; exact .inr (by simpa using hx))
  simp only [yO, zeJ, h1, h2]
 | makeMap t r =>
  cases r with
  | none => rfl
  | some x =>
   show yH P t (some x) ρ h = yH P t (some x) ρ' h
   simp only [yH, zdI, hl x (by simp [Op.operands])]
 | makeChan t s => rfl
 | makeSlice t l c => exact yI (hl l (by simp [Op.operands])) (hl c (by simp [Op.operands]))
 | slice t x lo hi mx =>
  show qR P t x lo hi mx ρ h = qR P t x lo hi mx ρ' h
  have h1 : qF ρ lo = qF ρ' lo := vC fun y hy => hl y (by have := Option.mem_def.1 hy; simp [Op.operands, this])
  have h2 : qF ρ hi = qF ρ' hi := vC fun y hy => hl y (by have := Option.mem_def.1 hy; simp [Op.operands, this])
  have h3 : qF ρ mx = qF ρ' mx := vC fun y hy => hl y (by have := Option.mem_def.1 hy; simp [Op.operands, this])
  simp only [qR, vF, h1, h2, h3, hl x (by simp [Op.operands])]
 | fieldAddr s x f => exact xe (hl x (by simp [Op.operands]))
 | field t x f => exact xe (hl x (by simp [Op.operands]))
 | indexAddr t x ix => exact yI (hl x (by simp [Op.operands])) (hl ix (by simp [Op.operands]))
 | index t x ix => exact yI (hl x (by simp [Op.operands])) (hl ix (by simp [Op.operands]))
 | lookup t m k ok => exact yI (hl m (by simp [Op.operands])) (hl k (by simp [Op.operands]))
 | mapUpdate t m k x =>
  show x6 P t m k x ρ h = x6 P t m k x ρ' h
  simp only [x6, qh, hl m (by simp [Op.operands]), hl k (by simp [Op.operands]), hl x (by simp [Op.operands])]
 | mapEntry t m k => exact yI (hl m (by simp [Op.operands])) (hl k (by simp [Op.operands]))
 | entryStore t m s x =>
  show xL P t m s x ρ h = xL P t m s x ρ' h
  simp only [xL, wA, hl m (by simp [Op.operands]), hl s (by simp [Op.operands]), hl x (by simp [Op.operands])]
 | range t x => exact xe (hl x (by simp [Op.operands]))
 | next it s => exact xe (hl it (by simp [Op.operands]))
 | entry it => rfl
 | typeAssert x u t ok => exact xe (hl x (by simp [Op.operands]))
 | extract x i =>
  show qm P x i ρ h = qm P x i ρ' h
  simp only [qm, hl x (by simp [Op.operands])]
 | call c => exact zgI hl
 | go c => rfl
 | «defer» c => exact zeA hl
 | panic x => exact xe (hl x (by simp [Op.operands]))
 | send a b => rfl
 | recv a b c => rfl
 | select a b => rfl
theorem zjH {op : Op} {r : AR} (hp : vY op = true) (e : opA P ρ h op = some r) : ∃ v, r = .val v h ∧ ∀ h', opA P ρ h' op = some (.val v h') := by
 have base : ∀ {f : Option AV}, qi h f = some r → ∃ v, r = .val v h ∧ ∀ h', qi h' f = some (.val v h') := by
  intro f e
  obtain ⟨v, rfl, rfl⟩ := zK e
  exact ⟨v, rfl, fun _ => rfl⟩
 have b1 : ∀ {x : Operand} {f : AV → Option AV}, wb ρ x (fun v => qi h (f v)) = some r → ∃ v, r = .val v h ∧ ∀ h', wb ρ x (fun v => qi h' (f v)) = some (.val v h') := by
  intro x f e
  obtain ⟨a, ha, e⟩ := zu e
  obtain ⟨v, e1, e2⟩ := base e
  exact ⟨v, e1, fun h' => by simp only [wb, ha]; exact e2 h'⟩
 have b2 : ∀ {x y : Operand} {f : AV → AV → Option AV}, two ρ x y (fun v u => qi h (f v u)) = some r → ∃ v, r = .val v h ∧ ∀ h', two ρ x y (fun v u => qi h' (f v u)) = some (.val v h') := by
  intro x y f e
  obtain ⟨a, b, ha, hb, e⟩ := xr e
  obtain ⟨v, e1, e2⟩ := base e
  exact ⟨v, e1, fun h' => by simp only [two, ha, hb]; exact e2 h'⟩
 cases op with
 | move x => exact base e
 | assign x => exact base e
 | pick c a b => exact base e
 | build t parts =>
  change vQ P h t (vV ρ parts.toList) = some r at e
  unfold vQ at e
  split at e
  · cases e
  · rename_i l hl
    obtain ⟨v, e1, e2⟩ := base e
    exact ⟨v, e1, fun h' => by show vQ P h' t (vV ρ parts.toList) = _; simp only [vQ, hl]; exact e2 h'⟩
 | nilCheck x => exact b1 e
 | unOp op t x => exact b1 e
 | makeInterface t x => exact b1 e
 | makeFunc f first cap => exact base e
 | fieldAddr s x f => exact b1 e
 | field t x f => exact b1 e
 | indexAddr t x ix => exact b2 e
 | index t x ix => exact b2 e
 | typeAssert x u t ok => exact b1 e
 | extract x i => exact base e
 | _ => cases hp
theorem zgj {op : Op} {r : AR} (hp : yP P op = true) (e : opA P ρ h op = some r) : ∃ v, r = .val v h := by
 have base : ∀ {f : Option AV}, qi h f = some r → ∃ v, r = .val v h := by
  intro f e
  obtain ⟨v, rfl, rfl⟩ := zK e
  exact ⟨v, rfl⟩
 cases op with
 | load t a => obtain ⟨p, hp, e⟩ := zu e; exact base e
 | binOp op t x y u => obtain ⟨a, b, ha, hb, e⟩ := xr e; exact base e
 | lookup t m k ok => obtain ⟨a, b, ha, hb, e⟩ := xr e; exact base e
 | slice t x lo hi mx => exact base e
 | convert s d x =>
  obtain ⟨a, ha, e⟩ := zu e
  simp only [yP, Bool.not_eq_true'] at hp
  simp only [zfl, hp] at e
  exact base e
 | call c =>
  change x8 P ρ h c = some r at e
  unfold x8 at e
  split at e
  · cases e
  · split at e
    · rename_i b hc
      simp only [yP, hc] at hp
      simp only [yD, hp] at e
      exact base e
    · rename_i hc; simp [yP, hc] at hp
    · rename_i hc; simp [yP, hc] at hp
 | _ => cases hp
noncomputable def zg2 (ρ : Operand → Option AV) (op : Op) : Operand → Option AV := fun x => open Classical in if x ∈ op.operands then ρ x else none
theorem zfr {op : Op} {x : Operand} (hx : x ∈ op.operands) : zg2 ρ op x = ρ x := by unfold zg2; rw [if_pos hx]
theorem wZ {op : Op} {x : Operand} {v : AV} (e : zg2 ρ op x = some v) : x ∈ op.operands ∧ ρ x = some v := by
 unfold zg2 at e
 split at e
 · exact ⟨by assumption, e⟩
 · cases e
theorem zgd {B : Base} {R : Bij} {w : World} (k : HRel P B R h w) (hB : B.n ≤ w.heap.size) {ρ'' : Operand → Value} {o : Oper} {r : AR} (hρ : ∀ x ∈ o.op.operands, ∀ v, ρ x = some v → zl R v (ρ'' x)) (e : opA P ρ h o.op = some r) :
 xM P B R w (execOp ρ'' o) r :=
 zjn (ρ := zg2 ρ o.op) k hB (fun x v hv => hρ x (wZ hv).1 v (wZ hv).2) ((kw fun _x hx => zfr hx).trans e)
def yf (P : Program) (ρ : Operand → Option AV) (op : Op) (vf : Nat → AV) (ob : AObj) : Prop :=
 (∀ h, opA P ρ h op = some (.val (vf h.next) (h.new ob))) ∧
 ∀ (R : Bij) (w : World) (ρ' : Operand → Value) (o : Oper), o.op = op → (∀ x ∈ op.operands, ∀ v, ρ x = some v → zl R v (ρ' x)) →
  ∃ s, execOp ρ' o = (do pure (.value (← s))) ∧ zmP P R w s vf ob
theorem zkt {op : Op} {r : AR} (hf : xy op = true) (e : opA P ρ h op = some r) : ∃ vf ob, yf P ρ op vf ob := by
 have loc : ∀ h, opA P (zg2 ρ op) h op = opA P ρ h op := fun h => kw fun x hx => zfr hx
 obtain ⟨vf, ob, k1, k2⟩ := zhD hf ((loc h).trans e)
 exact ⟨vf, ob, fun h => (loc h).symm.trans (k1 h), fun R w ρ' o ho hρ => k2 R w ρ' o ho fun x v hv => hρ x (wZ hv).1 v (wZ hv).2⟩
theorem yf.congr {op : Op} {vf : Nat → AV} {ob : AObj} (hl : ∀ x ∈ op.operands, ρ' x = ρ x) (k : yf P ρ op vf ob) : yf P ρ' op vf ob :=
 ⟨fun h => (kw hl).trans (k.1 h), fun R w ρ'' o ho hρ => k.2 R w ρ'' o ho fun x hx v hv => hρ x hx v ((hl x hx).trans hv)⟩
end
end Go.Proofs.YtdbfpjgnlfejmaaDoor.Ev
end
section
namespace Go.Proofs.YtdbfpjgnlfejmaaDoor.Ev
open Go
theorem ye {α : Type} {f : Nat → α → Bool} : ∀ {l : List α} {i : Nat}, kg f l i = true → ∀ k a, l[k]? = some a → f (i + k) a = true
 | [], _, _, k, a, e => by simp at e
 | x :: r, i, h, k, a, e => by
  simp only [kg, Bool.and_eq_true] at h
  cases k with
  | zero => simp at e; subst e; exact h.1
  | succ k =>
   have := ye h.2 k a (by simpa using e)
   rw [show i + (k + 1) = i + 1 + k by omega]; exact this
theorem zaW {a b : Nat} (h : wu a b = true) {i : Nat} (hi : a.testBit i = true) : b.testBit i = true := by
 unfold wu at h
 have e := Nat.eq_of_beq_eq_true h
 have : (a &&& b).testBit i = true := by
  show (Nat.land a b).testBit i = true
  rw [e]; exact hi
 rw [Nat.testBit_and, hi] at this
 simpa using this
theorem zel {a b : Nat} (h : wu a b = false) : ∃ i, a.testBit i = true ∧ b.testBit i = false := by
 apply Classical.byContradiction
 intro hn
 have : a &&& b = a := by
  apply Nat.eq_of_testBit_eq
  intro i
  rw [Nat.testBit_and]
  cases ha : a.testBit i with
  | false => rfl
  | true =>
   cases hb : b.testBit i with
   | true => rfl
   | false => exact absurd ⟨i, ha, hb⟩ hn
 unfold wu at h
 have h2 : Nat.land a b = a := this
 rw [h2, Nat.beq_refl] at h
 cases h
theorem zgi (a b i : Nat) : (Nat.land a b).testBit i = (a.testBit i && b.testBit i) := Nat.testBit_and a b i
theorem wn (a b i : Nat) : (Nat.lor a b).testBit i = (a.testBit i || b.testBit i) := Nat.testBit_or a b i
theorem zaD (anc : List Nat) (i : Nat) : ∀ (l : List Edge) (s : Nat),
 (l.foldl (fun s e => if Region.binds .any e then Nat.lor s (Nat.lor (2 ^ e.on) (anc.getD e.on 0)) else s) s).testBit i = true ↔
  s.testBit i = true ∨ ∃ e ∈ l, Region.binds .any e = true ∧ (i = e.on ∨ (anc.getD e.on 0).testBit i = true)
 | [], s => by simp
 | x :: r, s => by
  rw [List.foldl_cons, zaD anc i r]
  by_cases hb : Region.binds .any x = true
  · simp only [hb, if_true, wn, Bool.or_eq_true, Nat.testBit_two_pow, decide_eq_true_eq, List.mem_cons, exists_eq_or_imp, true_and]
    constructor
    · rintro ((h | h | h) | h)
      · exact .inl h
      · exact .inr (.inl (.inl h.symm))
      · exact .inr (.inl (.inr h))
      · exact .inr (.inr h)
    · rintro (h | (h | h) | h)
      · exact .inl (.inl h)
      · exact .inl (.inr (.inl h.symm))
      · exact .inl (.inr (.inr h))
      · exact .inr h
  · simp only [hb, Bool.false_eq_true, if_false, List.mem_cons, exists_eq_or_imp, false_and, false_or]
theorem zdx {anc : List Nat} {o : Oper} {i : Nat} : (zhg anc o).testBit i = true ↔ ∃ e ∈ o.after, Region.binds .any e = true ∧ (i = e.on ∨ (anc.getD e.on 0).testBit i = true) := by
 unfold zhg
 rw [zaD]
 simp
structure PlanIs (P : Program) (all : Array Oper) (pl : Plan) : Prop where
 len : pl.ord.length = all.size
 anc : ∀ j o, all[j]? = some o → pl.anc.getD j 0 = zhg pl.anc o
 em : ∀ j o, all[j]? = some o → pl.em.testBit j = yY P o
 ord : yi all.toList pl.anc pl.em pl.ord 0 = true
 guards : ∀ j o g w, all[j]? = some o → o.guard = some (g, w) → (pl.anc.getD j 0).testBit g = true
 slots : ∀ i o j q, all[i]? = some o → all[j]? = some q → wG P all.toList pl.anc i o j q = true
theorem ziV {P : Program} {all : Array Oper} {pl : Plan} (h : zfY P all.toList pl = true) : PlanIs P all pl := by
 unfold zfY at h
 simp only [Bool.and_eq_true] at h
 obtain ⟨⟨⟨⟨⟨h1, h2⟩, h3⟩, h4⟩, h5⟩, h6⟩ := h
 have toL : ∀ {j : Nat} {o : Oper}, all[j]? = some o → all.toList[j]? = some o := fun e => by simpa using e
 refine ⟨by have := Nat.eq_of_beq_eq_true h1; simpa using this, fun j o e => ?_, fun j o e => ?_, h4, fun j o g w e eg => ?_, fun i o j q ei ej => ?_⟩
 · have := ye h2 j o (toL e)
   rw [Nat.zero_add] at this
   exact Nat.eq_of_beq_eq_true this
 · have := ye h3 j o (toL e)
   rw [Nat.zero_add] at this
   simpa using this
 · have := ye h5 j o (toL e)
   rw [Nat.zero_add] at this
   simpa [eg] using this
 · have := ye h6 i o (toL ei)
   have := ye this j q (toL ej)
   simpa using this
def Topo (anc : List Nat) : List Nat → Prop
 | [] => True
 | i :: s => (∀ a ∈ i :: s, (anc.getD i 0).testBit a = false) ∧ i ∉ s ∧ Topo anc s
theorem ym {ops : List Oper} {anc : List Nat} {em j done : Nat} {r : List Nat} (h : yi ops anc em (j :: r) done = true) :
 j < ops.length ∧ done.testBit j = false ∧ (∀ a, (anc.getD j 0).testBit a = true → done.testBit a = true) ∧
 (em.testBit j = true → (∀ a, em.testBit a = true → done.testBit a = true → (anc.getD j 0).testBit a = true) ∧
  (∀ p, p < ops.length → em.testBit p = false → done.testBit p = false → (anc.getD p 0).testBit j = false → ∃ q, (anc.getD p 0).testBit q = true ∧ em.testBit q = true ∧ done.testBit q = false)) ∧
 yi ops anc em r (Nat.lor done (2 ^ j)) = true := by
 simp only [yi, Bool.and_eq_true, Bool.not_eq_true'] at h
 obtain ⟨⟨⟨⟨h1, h2⟩, h3⟩, h4⟩, h5⟩ := h
 refine ⟨by simpa [Nat.blt_eq] using h1, h2, fun a ha => zaW h3 ha, fun he => ?_, h5⟩
 rw [if_pos he, Bool.and_eq_true] at h4
 refine ⟨fun a ha hd => zaW h4.1 (by rw [zgi, ha, hd]; rfl), fun p hp hpe hpd hpj => ?_⟩
 have := ye h4.2 p ops[p] (List.getElem?_eq_getElem hp)
 rw [Nat.zero_add] at this
 unfold zkY at this
 rw [hpe, hpd, hpj] at this
 simp only [Bool.false_or, Bool.not_eq_true'] at this
 obtain ⟨q, q1, q2⟩ := zel this
 rw [zgi, Bool.and_eq_true] at q1
 exact ⟨q, q1.1, q1.2, q2⟩
theorem qV {ops : List Oper} {anc : List Nat} {em : Nat} : ∀ {l : List Nat} {done : Nat}, yi ops anc em l done = true →
 (∀ i, i < ops.length → done.testBit i = true ∨ i ∈ l) ∧ (∀ i ∈ l, i < ops.length ∧ done.testBit i = false) ∧ l.Nodup
 | [], done, h => by
  simp only [yi] at h
  have := Nat.eq_of_beq_eq_true h
  refine ⟨fun i hi => .inl ?_, fun i hi => absurd hi List.not_mem_nil, List.nodup_nil⟩
  have e : done = 2 ^ ops.length - 1 := this
  rw [e, Nat.testBit_two_pow_sub_one]
  exact decide_eq_true hi
 | j :: r, done, h => by
  obtain ⟨h1, h2, h3, h4, h5⟩ := ym h
  obtain ⟨g1, g2, g3⟩ := qV h5
  refine ⟨fun i hi => ?_, fun i hi => ?_, ?_⟩
  · rcases g1 i hi with e | e
    · rw [wn, Nat.testBit_two_pow, Bool.or_eq_true, decide_eq_true_eq] at e
      rcases e with e | e
      · exact .inl e
      · exact .inr (by rw [e]; exact List.mem_cons_self)
    · exact .inr (List.mem_cons_of_mem _ e)
  · rcases List.mem_cons.1 hi with e | e
    · rw [e]; exact ⟨h1, h2⟩
    · have := g2 i e
      rw [wn, Bool.or_eq_false_iff] at this
      exact ⟨this.1, this.2.1⟩
  · refine List.nodup_cons.2 ⟨fun e => ?_, g3⟩
    have := (g2 j e).2
    rw [wn, Nat.testBit_two_pow] at this
    simp at this
theorem kv {ops : List Oper} {anc : List Nat} {em : Nat} {L : Nat → Prop} : ∀ {l : List Nat} {done : Nat}, yi ops anc em l done = true → (∀ a, done.testBit a = true → L a) → (∃ j ∈ l, ¬ L j) →
 ∃ j ∈ l, ¬ L j ∧ ∀ a, (anc.getD j 0).testBit a = true → L a
 | [], _, _, _, ⟨j, hj, _⟩ => absurd hj List.not_mem_nil
 | j :: r, done, h, hd, ⟨i, hi, hni⟩ => by
  obtain ⟨h1, h2, h3, h4, h5⟩ := ym h
  by_cases hj : L j
  · have hi' : i ∈ r := by
     rcases List.mem_cons.1 hi with e | e
     · rw [e] at hni; exact absurd hj hni
     · exact e
    obtain ⟨q, q1, q2, q3⟩ := kv h5 (fun a ha => by
     rw [wn, Nat.testBit_two_pow, Bool.or_eq_true, decide_eq_true_eq] at ha
     rcases ha with e | e
     · exact hd a e
     · rw [← e]; exact hj) ⟨i, hi', hni⟩
    exact ⟨q, List.mem_cons_of_mem _ q1, q2, q3⟩
  · exact ⟨j, List.mem_cons_self, hj, fun a ha => hd a (h3 a ha)⟩
theorem zdo {p q : Nat → Bool} (h : ∀ j, q j = true → p j = true) : ∀ l : List Nat, (l.filter q).length ≤ (l.filter p).length
 | [] => Nat.le_refl _
 | x :: r => by
  have := zdo h r
  rw [List.filter_cons, List.filter_cons]
  by_cases hq : q x = true
  · rw [if_pos hq, if_pos (h x hq)]; simpa using this
  · rw [if_neg hq]
    split
    · rw [List.length_cons]; omega
    · exact this
theorem zdU {p q : Nat → Bool} (h : ∀ j, q j = true → p j = true) {i : Nat} (hp : p i = true) (hq : q i = false) : ∀ l : List Nat, i ∈ l → (l.filter q).length < (l.filter p).length
 | [], hi => absurd hi List.not_mem_nil
 | x :: r, hi => by
  have hle := zdo h r
  rw [List.filter_cons, List.filter_cons]
  by_cases hx : x = i
  · subst hx
    rw [if_pos hp, if_neg (by rw [hq]; exact Bool.false_ne_true), List.length_cons]; omega
  · have := zdU h hp hq r (by
     rcases List.mem_cons.1 hi with e | e
     · exact absurd e.symm hx
     · exact e)
    by_cases hqx : q x = true
    · rw [if_pos hqx, if_pos (h x hqx)]; simpa using this
    · rw [if_neg hqx]
      split
      · rw [List.length_cons]; omega
      · exact this
theorem kN {P : Program} {all : Array Oper} {pl : Plan} (pi : PlanIs P all pl) : ∀ (fuel t : Nat) (listed : Array Bool), listed.size = all.size → (∀ i, listed[i]? = some true → ∀ a, (pl.anc.getD i 0).testBit a = true → listed[a]? = some true) →
 ((List.range all.size).filter fun i => listed[i]? == some false).length ≤ fuel →
 Topo pl.anc (Region.linearise.go .any all fuel t listed []) ∧ ∀ i, i ∈ Region.linearise.go .any all fuel t listed [] ↔ listed[i]? = some false := by
 intro fuel
 induction fuel with
 | zero =>
  intro t listed hs hcl hf
  refine ⟨trivial, fun i => ⟨fun hi => absurd hi List.not_mem_nil, fun hi => ?_⟩⟩
  have : i ∈ (List.range all.size).filter fun i => listed[i]? == some false := List.mem_filter.2 ⟨List.mem_range.2 (by rw [← hs]; exact (Array.getElem?_eq_some_iff.1 hi).1), by simp [hi]⟩
  rw [List.length_eq_zero_iff.1 (Nat.le_zero.1 hf)] at this
  exact absurd this List.not_mem_nil
 | succ fuel ih =>
  intro t listed hs hcl hf
  have hready : ∀ i, i ∈ ((List.range all.size).filter fun i => !listed.getD i true && ((all[i]?).map (·.after.all fun e => !Region.binds .any e || listed.getD e.on false)).getD false) ↔
   (listed[i]? = some false ∧ ∀ a, (pl.anc.getD i 0).testBit a = true → listed[a]? = some true) := by
   intro i
   rw [List.mem_filter, List.mem_range]
   constructor
   · rintro ⟨h1, h2⟩
     rw [Bool.and_eq_true] at h2
     obtain ⟨h2, h3⟩ := h2
     have hlt : i < listed.size := by omega
     have hl : listed[i]? = some false := by
      rw [Array.getElem?_eq_getElem hlt]
      simpa [Array.getD, hlt] using h2
     refine ⟨hl, fun a ha => ?_⟩
     obtain ⟨o, ho⟩ : ∃ o, all[i]? = some o := ⟨_, Array.getElem?_eq_getElem h1⟩
     rw [ho] at h3
     simp only [Option.map_some, Option.getD_some, Array.all_eq_true'] at h3
     rw [pi.anc i o ho, zdx] at ha
     obtain ⟨e, he, hb, hor⟩ := ha
     have := h3 e he
     rw [hb] at this
     simp only [Bool.not_true, Bool.false_or] at this
     have hon : listed[e.on]? = some true := by
      unfold Array.getD at this
      split at this
      · rename_i hlt
        rw [Array.getElem?_eq_getElem hlt, ← this]; rfl
      · cases this
     rcases hor with rfl | h
     · exact hon
     · exact hcl _ hon a h
   · rintro ⟨h1, h2⟩
     have hlt : i < listed.size := (Array.getElem?_eq_some_iff.1 h1).1
     refine ⟨by omega, ?_⟩
     rw [Bool.and_eq_true]
     obtain ⟨o, ho⟩ : ∃ o, all[i]? = some o := ⟨_, Array.getElem?_eq_getElem (by omega)⟩
     refine ⟨by rw [Array.getElem?_eq_getElem hlt] at h1; simp only [Option.some.injEq] at h1; simp [Array.getD, hlt, h1], ?_⟩
     rw [ho]
     simp only [Option.map_some, Option.getD_some, Array.all_eq_true']
     intro e he
     cases hb : Region.binds .any e with
     | false => rfl
     | true =>
      have := h2 e.on (by rw [pi.anc i o ho, zdx]; exact ⟨e, he, hb, .inl rfl⟩)
      have hlt' := (Array.getElem?_eq_some_iff.1 this).1
      rw [Array.getElem?_eq_getElem hlt'] at this
      simp only [Option.some.injEq] at this
      simp [Array.getD, hlt', this]
  simp only [Region.linearise.go]
  generalize hrs : ((List.range all.size).filter fun i => !listed.getD i true && ((all[i]?).map (·.after.all fun e => !Region.binds .any e || listed.getD e.on false)).getD false) = rs at hready ⊢
  split
  · rename_i i hi
    have him : i ∈ rs := List.mem_of_getElem? hi
    obtain ⟨h1, h2⟩ := (hready i).1 him
    have hlt : i < listed.size := (Array.getElem?_eq_some_iff.1 h1).1
    have hget : ∀ j, (listed.setIfInBounds i true)[j]? = if j = i then some true else listed[j]? := by
     intro j
     rw [Array.getElem?_setIfInBounds]
     by_cases hj : i = j
     · subst hj; simp [hlt]
     · rw [if_neg hj, if_neg (fun e => hj e.symm)]
    have hcl' : ∀ k, (listed.setIfInBounds i true)[k]? = some true → ∀ a, (pl.anc.getD k 0).testBit a = true → (listed.setIfInBounds i true)[a]? = some true := by
     intro k hk a ha
     rw [hget] at hk ⊢
     by_cases hai : a = i
     · rw [if_pos hai]
     · rw [if_neg hai]
       by_cases hki : k = i
       · subst hki; exact h2 a ha
       · rw [if_neg hki] at hk; exact hcl k hk a ha
    have hlen : ((List.range all.size).filter fun j => (listed.setIfInBounds i true)[j]? == some false).length ≤ fuel := by
     refine Nat.le_of_lt_succ (Nat.lt_of_lt_of_le (zdU (p := fun j => listed[j]? == some false) (i := i) (fun j hj => ?_) (by simp [h1]) ?_ _ (List.mem_range.2 (by omega))) hf)
     · rw [hget] at hj
       split at hj
       · simp at hj
       · exact hj
     · simp [hget]
    obtain ⟨g1, g2⟩ := ih (t / rs.length) (listed.setIfInBounds i true) (by simpa using hs) hcl' hlen
    rw [linearise_go_acc, List.reverse_singleton, List.singleton_append]
    refine ⟨⟨fun a ha => ?_, fun hmem => ?_, g1⟩, fun j => ?_⟩
    · cases hb : (pl.anc.getD i 0).testBit a with
      | false => rfl
      | true =>
       have hla := h2 a hb
       rcases List.mem_cons.1 ha with e | e
       · rw [e, h1] at hla; cases hla
       · have := (g2 a).1 e
         rw [hget] at this
         split at this
         · cases this
         · rw [hla] at this; cases this
    · have := (g2 i).1 hmem
      rw [hget, if_pos rfl] at this; cases this
    · rw [List.mem_cons, g2, hget]
      by_cases hj : j = i
      · subst hj; simp [h1]
      · simp [hj]
  · rename_i hnone
    have hempty : rs = [] := by
     cases rs with
     | nil => rfl
     | cons x r =>
      have : t % (x :: r).length < (x :: r).length := Nat.mod_lt _ (by simp)
      rw [List.getElem?_eq_getElem this] at hnone; cases hnone
    refine ⟨trivial, fun i => ⟨fun hi => absurd hi List.not_mem_nil, fun hi => ?_⟩⟩
    exfalso
    have hlt : i < all.size := by rw [← hs]; exact (Array.getElem?_eq_some_iff.1 hi).1
    obtain ⟨a1, a2, a3⟩ := qV pi.ord
    have him : i ∈ pl.ord := by
     rcases a1 i (by simpa using hlt) with e | e
     · simp at e
     · exact e
    obtain ⟨j, j1, j2, j3⟩ := kv (L := fun a => listed[a]? = some true) pi.ord (fun a ha => by simp at ha) ⟨i, him, by simp [hi]⟩
    have hj : j < listed.size := by rw [hs]; have := (a2 j j1).1; simpa using this
    have : j ∈ rs := (hready j).2 ⟨by
     rw [Array.getElem?_eq_getElem hj] at j2 ⊢
     cases hb : listed[j] with
     | false => rfl
     | true => rw [hb] at j2; exact absurd rfl j2, j3⟩
    rw [hempty] at this
    exact absurd this List.not_mem_nil
theorem zbb {P : Program} {all : Array Oper} {pl : Plan} (pi : PlanIs P all pl) (t : Nat) : Topo pl.anc (Region.linearise .any all t) ∧ ∀ i, i ∈ Region.linearise .any all t ↔ i < all.size := by
 obtain ⟨g1, g2⟩ := kN pi all.size t (Array.replicate all.size false) (by simp) (fun i hi => by
  rw [Array.getElem?_replicate] at hi; split at hi <;> simp at hi) (by
  refine Nat.le_trans (List.length_filter_le _ _) (by simp))
 refine ⟨g1, fun i => ?_⟩
 show i ∈ Region.linearise.go .any all all.size t (Array.replicate all.size false) [] ↔ _
 rw [g2, Array.getElem?_replicate]
 split <;> simp [*]
end Go.Proofs.YtdbfpjgnlfejmaaDoor.Ev
end
section
namespace Go.Proofs.YtdbfpjgnlfejmaaDoor.Ev
open Go
def zP (R : Bij) : AItem → Item → Prop
 | .code c, it => it = .code c
 | .inBlock i, it => it = .inBlock i
 | .inLoop b, it => it = .inLoop b
 | .inScope b, it => it = .inScope b
 | .ops all l, it => ∃ ops todo, it = .inRegion ops todo ∧ ops.toList = all ∧ l.map some = todo.map (fun i => ops[i]?)
 | .drw _ _ _, _ => False
 | .inRange i, it => ∃ L, R i 0 = some L ∧ it = .inRangeFunc L.block
 | .endRange i, it => ∃ L, R i 0 = some L ∧ it = .endRangeFunc L.block
 | .beginRound, it => it = .beginRound
theorem zP.mono {R R' : Bij} (h : R.le R') {a : AItem} {b : Item} (k : zP R a b) : zP R' a b := by
 cases a with
 | inRange i => obtain ⟨L, e, r⟩ := k; exact ⟨L, h _ _ _ e, r⟩
 | endRange i => obtain ⟨L, e, r⟩ := k; exact ⟨L, h _ _ _ e, r⟩
 | _ => exact k
def zfG (R : Bij) (a : AV × Bool) (e : PanicEntry) : Prop := zl R a.1 e.v ∧ e.recovered = a.2 ∧ e.goexit = false
def jd (R : Bij) : AMode → FrameMode → Prop
 | .run, m => m = .run
 | .returning, m => m = .returning
 | .panicking c, m => ∃ c', m = .panicking c' ∧ xU (zfG R) c c'
theorem jd.mono {R R' : Bij} (h : R.le R') {a : AMode} {b : FrameMode} (k : jd R a b) : jd R' a b := by
 cases a with
 | panicking c => obtain ⟨c', e, r⟩ := k; exact ⟨c', e, r.mono fun _ _ q => ⟨zl.mono h _ _ q.1, q.2⟩⟩
 | _ => exact k
def wO (R : Bij) : Option Nat → Option Nat → Prop
 | none, r => r = none
 | some l, r => ∃ L, R l 0 = some L ∧ r = some L.block
theorem wO.mono {R R' : Bij} (h : R.le R') {a b : Option Nat} (k : wO R a b) : wO R' a b := by
 cases a with
 | none => exact k
 | some l => obtain ⟨L, e, r⟩ := k; exact ⟨L, h _ _ _ e, r⟩
def z8 (R : Bij) (t : T AV) (a : Array Value) : Prop := ∀ u v, t.get u = some v → ∃ x, a[u]? = some x ∧ zl R v x
theorem z8.mono {R R' : Bij} (h : R.le R') {t : T AV} {a : Array Value} (k : z8 R t a) : z8 R' t a := fun u v e => by
 obtain ⟨x, e1, e2⟩ := k u v e
 exact ⟨x, e1, zl.mono h _ _ e2⟩
def kW (P : Program) (B : Base) (d : Nat) (sus : Bool) (all : Array Oper) (t : T AV) (h : AHeap) (p : Nat) (o : Oper) : Prop :=
 ∃ wt, zW all.toList t o.guard = some wt ∧
  (wt = false → ∀ u, o.dst = some u → t.get u = some vi) ∧
  (wt = true →
   (xy o.op = true ∧ ∃ vf ob id, yf P (ev t) o.op vf ob ∧ B.pend id = some ob ∧ B.tag id = (d, p) ∧ ∀ u, o.dst = some u → t.get u = some (vf id)) ∨
   (xy o.op = false ∧ vY o.op = true ∧ ∃ v, (∀ h, opA P (ev t) h o.op = some (.val v h)) ∧ ∀ u, o.dst = some u → t.get u = some v) ∨
   (xy o.op = false ∧ vY o.op = false ∧ yP P o.op = true ∧ (sus = true ∨ ∃ v, opA P (ev t) h o.op = some (.val v h) ∧ ∀ u, o.dst = some u → t.get u = some v)))
structure Drw (P : Program) (B : Base) (R : Bij) (d : Nat) (sus : Bool) (all : Array Oper) (todo dn : List Nat) (t : T AV) (h : AHeap) (a : Array Value) (s : List Nat) : Prop where
 plan : PlanIs P all (zS P all.toList)
 split : dn.reverse ++ todo = (zS P all.toList).ord
 topo : Topo (zS P all.toList).anc s
 rest : ∀ i ∈ todo, i ∈ s
 own : ∀ i ∈ s, i < all.size
 effs : ∀ i ∈ dn, (zS P all.toList).em.testBit i = true → i ∉ s
 head : sus = true → ∀ i l, todo = i :: l → (∃ s', s = i :: s') ∧ (zS P all.toList).em.testBit i = true
 slots : ∀ u v, t.get u = some v → (∃ q ∈ dn, q ∈ s ∧ (all[q]?).bind (·.dst) = some u) ∨ ∃ x, a[u]? = some x ∧ zl R v x
 pend : ∀ p ∈ dn, p ∈ s → ∀ o, all[p]? = some o → kW P B d sus all t h p o
 bound : ∀ p ∈ dn, ∀ o u, all[p]? = some o → o.dst = some u → u < a.size
def Base.keeps (B B' : Base) (D : Nat) : Prop := B'.env = B.env ∧ ∀ id ob, B.pend id = some ob → (B.tag id).1 < D → B'.pend id = some ob ∧ B'.tag id = B.tag id
theorem kW.mono {P : Program} {B B' : Base} {d D : Nat} {all : Array Oper} {t : T AV} {h h' : AHeap} {p : Nat} {o : Oper} (hb : B.keeps B' D) (hd : d < D) (k : kW P B d true all t h p o) : kW P B' d true all t h' p o := by
 obtain ⟨wt, k1, k2, k3⟩ := k
 refine ⟨wt, k1, k2, fun hw => ?_⟩
 rcases k3 hw with ⟨f1, vf, ob, id, f2, f3, f4, f5⟩ | ⟨f1, f2, v, f3, f4⟩ | ⟨f1, f2, f3, _⟩
 · obtain ⟨g1, g2⟩ := hb.2 id ob f3 (by rw [f4]; exact hd)
   exact .inl ⟨f1, vf, ob, id, f2, g1, g2.trans f4, f5⟩
 · exact .inr (.inl ⟨f1, f2, v, f3, f4⟩)
 · exact .inr (.inr ⟨f1, f2, f3, .inl rfl⟩)
theorem Drw.mono {P : Program} {B B' : Base} {R R' : Bij} {d D : Nat} {all : Array Oper} {todo dn : List Nat} {t : T AV} {h h' : AHeap} {a : Array Value} {s : List Nat} (hle : R.le R') (hb : B.keeps B' D) (hd : d < D)
 (k : Drw P B R d true all todo dn t h a s) : Drw P B' R' d true all todo dn t h' a s where
 plan := k.plan
 split := k.split
 topo := k.topo
 rest := k.rest
 own := k.own
 effs := k.effs
 head := k.head
 slots u v e := by
  rcases k.slots u v e with g | ⟨x, e1, e2⟩
  · exact .inl g
  · exact .inr ⟨x, e1, zl.mono hle _ _ e2⟩
 pend p h1 h2 o ho := (k.pend p h1 h2 o ho).mono hb hd
 bound := k.bound
def zQ (P : Program) (B : Base) (R : Bij) (d : Nat) (sus : Bool) (h : AHeap) (todo : List AItem) (t : T AV) (ctodo : List Item) (a : Array Value) : Prop := match todo with
 | .drw all l dn :: k => ∃ s k', ctodo = .inRegion all s :: k' ∧ xU (zP R) k k' ∧ Drw P B R d sus all l dn t h a s
 | todo => xU (zP R) todo ctodo ∧ z8 R t a
def zdb (P : Program) (B : Base) (R : Bij) (d : Nat) (sus : Bool) (h : AHeap) (mode : AMode) (todo : List AItem) (t : T AV) (ctodo : List Item) (a : Array Value) : Prop := match mode with
 | .run => zQ P B R d sus h todo t ctodo a
 | _ => z8 R t a
structure FrameRel (P : Program) (B : Base) (R : Bij) (d : Nat) (sus : Bool) (h : AHeap) (af : AFrame) (fr : Frame) : Prop where
 fn : fr.fn = af.fn
 fnOk : ∃ f, P.funcs[af.fn]? = some f
 kind : fr.kind = af.kind
 kindOk : af.kind = .normal ∨ af.kind = .deferred
 round : wO R af.round fr.roundOf
 defers : xU (yL R) af.defers fr.defers
 mode : jd R af.mode fr.mode
 size : fr.tmps.size = af.n
 top : zdb P B R d sus h af.mode af.todo af.tmps fr.todo fr.tmps
theorem zQ.mono {P : Program} {B B' : Base} {R R' : Bij} {d D : Nat} {h h' : AHeap} {todo : List AItem} {t : T AV} {ctodo : List Item} {a : Array Value} (hle : R.le R') (hb : B.keeps B' D) (hd : d < D)
 (k : zQ P B R d true h todo t ctodo a) : zQ P B' R' d true h' todo t ctodo a := by
 unfold zQ at k ⊢
 split at k
 · obtain ⟨s, k', e1, e2, e3⟩ := k
   exact ⟨s, k', e1, e2.mono fun _ _ q => q.mono hle, e3.mono hle hb hd⟩
 · rename_i hn
   exact ⟨k.1.mono fun _ _ q => q.mono hle, k.2.mono hle⟩
theorem FrameRel.mono {P : Program} {B B' : Base} {R R' : Bij} {d D : Nat} {h h' : AHeap} {af : AFrame} {fr : Frame} (hle : R.le R') (hb : B.keeps B' D) (hd : d < D) (k : FrameRel P B R d true h af fr) :
 FrameRel P B' R' d true h' af fr where
 fn := k.fn
 fnOk := k.fnOk
 kind := k.kind
 kindOk := k.kindOk
 round := k.round.mono hle
 defers := k.defers.mono fun _ _ q => q.mono hle
 mode := k.mode.mono hle
 size := k.size
 top := by
  have := k.top
  unfold zdb at this ⊢
  split at this
  · exact this.mono hle hb hd
  · exact this.mono hle
def zy (P : Program) (B : Base) (R : Bij) (h : AHeap) : List AFrame → List Frame → Prop
 | [], fs => fs = []
 | a :: as, fs => ∃ f r, fs = f :: r ∧ FrameRel P B R as.length true h a f ∧ zy P B R h as r
theorem zy.mono {P : Program} {B B' : Base} {R R' : Bij} {D : Nat} {h h' : AHeap} (hle : R.le R') (hb : B.keeps B' D) : ∀ {as : List AFrame} {fs : List Frame}, as.length ≤ D → zy P B R h as fs → zy P B' R' h' as fs
 | [], _, _, k => k
 | a :: as, fs, hd, ⟨f, r, e, k1, k2⟩ => ⟨f, r, e, k1.mono hle hb (by simp at hd; omega), k2.mono hle hb (by simp at hd; omega)⟩
structure Old (w0 w : World) : Prop where
 os : w.os = w0.os
 tape : w.tape = w0.tape
 output : w.output = w0.output
 size : w0.heap.size ≤ w.heap.size
 other : ∀ b, b < w0.heap.size → w.heap[b]? = w0.heap[b]?
 drawn : w0.drawn ≤ w.drawn
structure Old0 (w0 w : World) : Prop where
 os : w.os = w0.os
 tape : w.tape = w0.tape
 output : w.output = w0.output
 size : w0.heap.size ≤ w.heap.size
 drawn : w0.drawn ≤ w.drawn
theorem Old0.keeps {P : Program} {B : Base} {R R' : Bij} {h : AHeap} {w0 : Env} {w w' : World} (k : Old0 w0.toWorld w) (_ : B.env = w0) (_ : HRel P B R h w) (q : Keeps R w R' w') : Old0 w0.toWorld w' where
 os := q.os.trans k.os
 tape := q.tape.trans k.tape
 output := q.output.trans k.output
 size := Nat.le_trans k.size q.size
 drawn := Nat.le_trans k.drawn q.drawn
structure OldX (w0 : Env) (w : World) : Prop extends Old0 w0.toWorld w where
 other : ∀ b, b < w0.heap.size → ¬ w0.own b → w.heap[b]? = w0.heap[b]?
theorem Old0.all {P : Program} {B : Base} {R : Bij} {h : AHeap} {w0 : Env} {w : World} (k : Old0 w0.toWorld w) (hB : B.env = w0) (kh : HRel P B R h w) : OldX w0 w :=
 ⟨k, fun b hb hn => by
  subst hB
  exact kh.low b (fun e => e.elim (fun e => absurd hb (Nat.not_lt.2 e)) hn)⟩
theorem OldX.old {w0 : Env} {w : World} (k : OldX w0 w) (h : ∀ b, ¬ w0.own b) : Old w0.toWorld w := ⟨k.os, k.tape, k.output, k.size, fun b hb => k.other b hb (h b), k.drawn⟩
def Sim (P : Program) (w0 : Env) (base : List Frame) (m : AM) (fr : Frame) (cs : List Frame) (w : World) : Prop :=
 ∃ B R fs, cs = fs ++ base ∧ B.env = w0 ∧ HRel P B R m.heap w ∧ Old0 w0.toWorld w ∧ FrameRel P B R m.rest.length false m.heap m.top fr ∧ zy P B R m.heap m.rest fs
end Go.Proofs.YtdbfpjgnlfejmaaDoor.Ev
end
section
namespace Go.Proofs.YtdbfpjgnlfejmaaDoor.Ev
open Go
theorem qP {ops : List Oper} {anc : List Nat} {em : Nat} : ∀ {l1 l2 : List Nat} {done : Nat}, yi ops anc em (l1 ++ l2) done = true →
 ∃ done', yi ops anc em l2 done' = true ∧ (∀ a, done'.testBit a = true ↔ (done.testBit a = true ∨ a ∈ l1)) ∧ ∀ p ∈ l1, ∀ a, (anc.getD p 0).testBit a = true → done.testBit a = true ∨ a ∈ l1
 | [], l2, done, h => ⟨done, h, fun a => by simp, fun p hp => absurd hp List.not_mem_nil⟩
 | j :: l1, l2, done, h => by
  obtain ⟨h1, h2, h3, h4, h5⟩ := ym h
  obtain ⟨d', g1, g2, g3⟩ := qP h5
  have hb : ∀ a, (Nat.lor done (2 ^ j)).testBit a = true ↔ (done.testBit a = true ∨ a = j) := fun a => by
   rw [wn, Nat.testBit_two_pow, Bool.or_eq_true, decide_eq_true_eq]
   exact or_congr Iff.rfl eq_comm
  refine ⟨d', g1, fun a => by rw [g2, hb, List.mem_cons, or_assoc], fun p hp a ha => ?_⟩
  rcases List.mem_cons.1 hp with e | e
  · rw [e] at ha; exact .inl (h3 a ha)
  · rcases g3 p e a ha with q | q
    · rcases (hb a).1 q with q | q
      · exact .inl q
      · exact .inr (by rw [q]; exact List.mem_cons_self)
    · exact .inr (List.mem_cons_of_mem _ q)
section
variable {P : Program} {B : Base} {R : Bij} {d : Nat} {sus : Bool} {all : Array Oper} {todo dn : List Nat} {t : T AV} {h : AHeap} {a : Array Value} {s : List Nat}
theorem Drw.facts (k : Drw P B R d sus all todo dn t h a s) :
 (∀ p ∈ dn, ∀ x, ((zS P all.toList).anc.getD p 0).testBit x = true → x ∈ dn) ∧
 (∀ i, i < all.size → i ∈ dn ∨ i ∈ todo) ∧ (∀ i ∈ dn, i < all.size) ∧ (∀ i ∈ todo, i < all.size) ∧ (dn.reverse ++ todo).Nodup ∧
 ∃ done, yi all.toList (zS P all.toList).anc (zS P all.toList).em todo done = true ∧ ∀ x, done.testBit x = true ↔ x ∈ dn := by
 have ho := k.plan.ord
 rw [← k.split] at ho
 obtain ⟨a1, a2, a3⟩ := qV ho
 obtain ⟨d', g1, g2, g3⟩ := qP ho
 refine ⟨fun p hp x hx => ?_, fun i hi => ?_, fun i hi => ?_, fun i hi => ?_, a3, d', g1, fun x => ?_⟩
 · rcases g3 p (by simpa using hp) x hx with q | q
   · simp at q
   · simpa using q
 · rcases a1 i (by simpa using hi) with q | q
   · simp at q
   · simpa using q
 · have := (a2 i (by simp [hi])).1; simpa using this
 · have := (a2 i (by simp [hi])).1; simpa using this
 · rw [g2]; simp
theorem zkR {t : T AV} {u : Nat} {v : Option AV} {x : Operand} (hx : x ≠ .tmp u) : ev (t.set v u) x = ev t x := by
 cases x with
 | tmp i => show (t.set v u).get i = t.get i; exact T.get_set_other _ _ (fun e => hx (by rw [e]))
 | const c => rfl
 | global g => rfl
 | func f => rfl
theorem xu {ops : List Oper} {o : Oper} {u : Nat} (hx : Operand.tmp u ∈ o.op.operands) : (xc ops o).contains u = true := by
 rw [List.contains_iff_mem]
 unfold xc
 refine List.mem_append_left _ (List.mem_filterMap.2 ⟨.tmp u, by simpa using hx, rfl⟩)
theorem yk {ops : List Oper} {o q : Oper} {g u : Nat} {b : Bool} (hg : o.guard = some (g, b)) (hq : ops[g]? = some q) (hu : q.dst = some u) : (xc ops o).contains u = true := by
 rw [List.contains_iff_mem]
 unfold xc
 refine List.mem_append_right _ ?_
 rw [hg]
 simp [hq, hu]
theorem zeW {o : Oper} {u : Nat} {v : Option AV} (ops : List Oper) (hm : (xc ops o).contains u = false) (h : AHeap) : opA P (ev (t.set v u)) h o.op = opA P (ev t) h o.op :=
 kw fun x hx => zkR fun e => by rw [e] at hx; rw [xu hx] at hm; cases hm
theorem vB {ops : List Oper} {o : Oper} {u : Nat} {v : Option AV} (hm : (xc ops o).contains u = false) : zW ops (t.set v u) o.guard = zW ops t o.guard := by
 cases hg : o.guard with
 | none => rfl
 | some gb =>
  obtain ⟨g, b⟩ := gb
  simp only [zW]
  cases hq : ops[g]? with
  | none => rfl
  | some q =>
   cases hu : q.dst with
   | none => simp only [zhn, hu, zed]
   | some u' =>
    simp only [zhn, hu, zed]
    rw [T.get_set_other]
    intro e
    have := yk hg hq hu
    rw [e, hm] at this; cases this
theorem yf.set {o : Oper} {u : Nat} {v : Option AV} {vf : Nat → AV} {ob : AObj} (ops : List Oper) (hm : (xc ops o).contains u = false) (k : yf P (ev t) o.op vf ob) : yf P (ev (t.set v u)) o.op vf ob :=
 k.congr fun x hx => zkR fun e => by rw [e] at hx; rw [xu hx] at hm; cases hm
theorem Drw.apart (k : Drw P B R d sus all todo dn t h a s) {i p u : Nat} {o q : Oper} (hi : all[i]? = some o) (hu : o.dst = some u) (hin : i ∉ dn) (hp : p ∈ dn) (hq : all[p]? = some q)
 (hpe : (zS P all.toList).em.testBit p = false) (hanc : (zS P all.toList).em.testBit i = true → ((zS P all.toList).anc.getD i 0).testBit p = false) :
 (xc all.toList q).contains u = false ∧ q.dst ≠ some u := by
 obtain ⟨f1, f2, f3, f4, f5, _⟩ := k.facts
 have hne : i ≠ p := fun e => hin (by rw [e]; exact hp)
 have hpi : ((zS P all.toList).anc.getD p 0).testBit i = false := by
  cases hb : ((zS P all.toList).anc.getD p 0).testBit i with
  | false => rfl
  | true => exact absurd (f1 p hp i hb) hin
 have h1 := k.plan.slots i o p q hi hq
 have h2 := k.plan.slots p q i o hq hi
 have hqe : yY P q = false := by rw [← k.plan.em p q hq]; exact hpe
 have hbe : Nat.beq i p = false := by
  cases hb : Nat.beq i p with
  | false => rfl
  | true => exact absurd (Nat.eq_of_beq_eq_true hb) hne
 have hbe' : Nat.beq p i = false := by
  cases hb : Nat.beq p i with
  | false => rfl
  | true => exact absurd (Nat.eq_of_beq_eq_true hb).symm hne
 have hdst : q.dst ≠ some u := by
  intro e
  simp only [wG, e, hbe', hqe, Bool.false_eq_true, if_false, hu, beq_self_eq_true, Bool.not_true, Bool.false_and] at h2
 refine ⟨?_, hdst⟩
 cases hm : (xc all.toList q).contains u with
 | false => rfl
 | true =>
  simp only [wG, hu, hbe, Bool.false_eq_true, if_false, hm, Bool.true_or, if_true, hpi, Bool.false_or] at h1
  split at h1
  · rename_i he
    rw [hanc (by rw [k.plan.em i o hi]; exact he)] at h1; cases h1
  · simp at h1
theorem zgz {u v : Option AV} (e : zmL u v = true) : ∃ x, u = some x ∧ v = some x := by
 unfold zmL at e
 split at e
 · cases e
 · split at e
   · cases e
   · rename_i x _ y
     exact ⟨x, rfl, by rw [wB _ _ _ e]⟩
theorem zbK {ρ : Operand → Option AV} {o : Op} {v : AV} (hr : yP P o = true) (e : qy P ρ h o = some v) : opA P ρ h o = some (.val v h) := by
 unfold qy at e
 split at e
 · rename_i w' h' ho
   cases e
   obtain ⟨v', e1⟩ := zgj hr ho
   rw [ho, e1]
   cases e1; rfl
 · cases e
theorem vH {l : List Oper} {anc : Nat} : ∀ {dn : List Nat}, qU P l anc t h dn = true → ∀ p ∈ dn, ki P l anc t h p l[p]? = true
 | [], _, p, hp => absurd hp List.not_mem_nil
 | q :: r, e, p, hp => by
  simp only [qU, Bool.and_eq_true] at e
  rcases List.mem_cons.1 hp with rfl | hp
  · exact e.1
  · exact vH e.2 p hp
noncomputable def zgO (t : T AV) (u : Option Nat) (v : AV) : T AV := match u with
 | none => t
 | some u => t.set (some v) u
theorem kW.again {p : Nat} {o : Oper} {u : Option Nat} {v : AV} {t' : T AV} {h' : AHeap} (k : kW P B d true all t h p o) (ht : t' = zgO t u v)
 (hm : ∀ x, u = some x → (xc all.toList o).contains x = false ∧ o.dst ≠ some x)
 (hr : yP P o.op = true → vY o.op = false → xy o.op = false → kG P all.toList t' h' o = true) : kW P B d false all t' h' p o := by
 have hop : ∀ h, opA P (ev t') h o.op = opA P (ev t) h o.op := fun h => by
  subst ht
  cases u with
  | none => rfl
  | some u => exact zeW all.toList (hm u rfl).1 h
 have hw : zW all.toList t' o.guard = zW all.toList t o.guard := by
  subst ht
  cases u with
  | none => rfl
  | some u => exact vB (hm u rfl).1
 have hd : ∀ x, o.dst = some x → t'.get x = t.get x := fun x hx => by
  subst ht
  cases u with
  | none => rfl
  | some u => exact T.get_set_other _ _ fun e => (hm u rfl).2 (by rw [hx, e])
 have hfl : ∀ {vf ob}, yf P (ev t) o.op vf ob → yf P (ev t') o.op vf ob := fun k => by
  subst ht
  cases u with
  | none => exact k
  | some u => exact k.set all.toList (hm u rfl).1
 obtain ⟨wt, k1, k2, k3⟩ := k
 refine ⟨wt, by rw [hw]; exact k1, fun hf x hx => by rw [hd x hx]; exact k2 hf x hx, fun ht' => ?_⟩
 rcases k3 ht' with ⟨f1, vf, ob, id, f2, f3, f4, f5⟩ | ⟨f1, f2, v', f3, f4⟩ | ⟨f1, f2, f3, _⟩
 · exact .inl ⟨f1, vf, ob, id, hfl f2, f3, f4, fun x hx => by rw [hd x hx]; exact f5 x hx⟩
 · exact .inr (.inl ⟨f1, f2, v', fun h => by rw [hop]; exact f3 h, fun x hx => by rw [hd x hx]; exact f4 x hx⟩)
 · refine .inr (.inr ⟨f1, f2, f3, .inr ?_⟩)
   have hrr := hr f3 f2 f1
   unfold kG at hrr
   rw [hw, k1] at hrr
   subst ht'
   simp only [] at hrr
   cases hdst : o.dst with
   | none =>
    rw [hdst] at hrr
    simp only [] at hrr
    obtain ⟨v', hv'⟩ := Option.isSome_iff_exists.1 hrr
    exact ⟨v', zbK f3 hv', fun x hx => by cases hx⟩
   | some dd =>
    rw [hdst] at hrr
    simp only [] at hrr
    obtain ⟨v', g1, g2⟩ := zgz hrr
    exact ⟨v', zbK f3 g1, fun x hx => by cases hx; exact g2⟩
end
end Go.Proofs.YtdbfpjgnlfejmaaDoor.Ev
end
section
namespace Go.Proofs.YtdbfpjgnlfejmaaDoor.Ev
open Go
section
variable {P : Program} {B : Base} {R : Bij} {d : Nat} {h : AHeap}
theorem j8 {t t' : T AV} {n : Nat} {u : Option Nat} {v : AV} (e : zjx t n u v = some t') : t' = zgO t u v ∧ ∀ x, u = some x → x < n := by
 unfold zjx at e
 split at e
 · cases e; exact ⟨rfl, fun x hx => by cases hx⟩
 · split at e
   · rename_i hb
     simp only [Option.some.injEq] at e
     subst e
     exact ⟨rfl, fun x hx => by cases hx; rw [Nat.blt_eq] at hb; exact hb⟩
   · cases e
def zfH (a : Array Value) (u : Option Nat) (x : Value) : Array Value := match u with
 | some d => a.setIfInBounds d x
 | none => a
theorem wx (a : Array Value) (u : Option Nat) (x : Value) : (zfH a u x).size = a.size := by
 cases u <;> simp [zfH]
theorem zcK {a : Array Value} {u : Option Nat} {x : Value} (i : Nat) (hu : ∀ y, u = some y → y < a.size) : (zfH a u x)[i]? = if u = some i then some x else a[i]? := by
 cases u with
 | none => simp [zfH]
 | some y =>
  have := hu y rfl
  simp only [zfH, Option.some.injEq, Array.getElem?_setIfInBounds]
  by_cases hy : y = i
  · subst hy; simp [this]
  · simp [hy]
theorem jQ {t : T AV} {u : Option Nat} {v : AV} (i : Nat) : (zgO t u v).get i = if u = some i then some v else t.get i := by
 cases u with
 | none => simp [zgO]
 | some y =>
  simp only [zgO]
  rw [T.get_set]
  by_cases hy : i = y
  · subst hy; simp
  · rw [if_neg hy, if_neg (fun e => hy (Option.some.inj e).symm)]
theorem x5 {sus : Bool} {h : AHeap} {k : List AItem} {k' : List Item} {t : T AV} {a : Array Value} (hk : xU (zP R) k k') (hs : z8 R t a) : zQ P B R d sus h k t k' a := by
 unfold zQ
 split
 · obtain ⟨b, bs, _, h1, _⟩ := hk
   exact absurd h1 (fun e => e)
 · exact ⟨hk, hs⟩
theorem z8.put {t t' : T AV} {a : Array Value} {n : Nat} {u : Option Nat} {v : AV} {x : Value} (k : z8 R t a) (hs : a.size = n) (e : zjx t n u v = some t') (hv : zl R v x) : z8 R t' (zfH a u x) := by
 obtain ⟨rfl, hu⟩ := j8 e
 intro i y hy
 rw [jQ] at hy
 rw [zcK i (fun y hy => by rw [hs]; exact hu y hy)]
 split at hy
 · rename_i hi; cases hy; rw [if_pos hi]; exact ⟨x, rfl, hv⟩
 · rename_i hi; rw [if_neg hi]; exact k i y hy
theorem Drw.finish {all : Array Oper} {i : Nat} {l dn : List Nat} {t t' : T AV} {h0 h : AHeap} {a : Array Value} {s : List Nat} {n : Nat} {o : Oper} {v : AV} {x : Value} (k : Drw P B R d true all (i :: l) dn t h0 a s) (ho : all[i]? = some o)
 (hs : a.size = n) (e : zjx t n o.dst v = some t') (hv : zl R v x) (hr : qU P all.toList ((zS P all.toList).anc.getD i 0) t' h dn = true) :
 ∃ s', s = i :: s' ∧ Drw P B R d false all l (i :: dn) t' h (zfH a o.dst x) s' := by
 obtain ⟨⟨s', rfl⟩, hem⟩ := k.head rfl i l rfl
 obtain ⟨f1, f2, f3, f4, f5, _⟩ := k.facts
 obtain ⟨t1, t2, t3⟩ := k.topo
 have hidn : i ∉ dn := fun hi => by
  have := List.nodup_append.1 f5
  exact this.2.2 i (by simpa using hi) i List.mem_cons_self rfl
 have hil : i ∉ l := (List.nodup_cons.1 (List.nodup_append.1 f5).2.1).1
 obtain ⟨rfl, hu⟩ := j8 e
 refine ⟨s', rfl, ⟨k.plan, ?_, t3, fun j hj => ?_, fun j hj => k.own j (List.mem_cons_of_mem _ hj), fun j hj hje => ?_, fun hh => (by cases hh), fun u y hy => ?_, fun p hp hps q hq => ?_, fun p hp q u hq hqu => ?_⟩⟩
 · rw [← k.split]; simp
 · rcases List.mem_cons.1 (k.rest j (List.mem_cons_of_mem _ hj)) with e | e
   · rw [e] at hj; exact absurd hj hil
   · exact e
 · rcases List.mem_cons.1 hj with e | e
   · rw [e]; exact t2
   · exact fun hh => k.effs j e hje (List.mem_cons_of_mem _ hh)
 · rw [jQ] at hy
   rw [zcK u (fun y hy => by rw [hs]; exact hu y hy)]
   split at hy
   · rename_i hi; cases hy; rw [if_pos hi]; exact .inr ⟨x, rfl, hv⟩
   · rename_i hi
     rw [if_neg hi]
     rcases k.slots u y hy with ⟨q, g1, g2, g3⟩ | g
     · refine .inl ⟨q, List.mem_cons_of_mem _ g1, ?_, g3⟩
       rcases List.mem_cons.1 g2 with e | e
       · rw [e] at g1; exact absurd g1 hidn
       · exact e
     · exact .inr g
 · rcases List.mem_cons.1 hp with e | hp
   · rw [e] at hps; exact absurd hps t2
   · have hpe : (zS P all.toList).em.testBit p = false := by
      cases hb : (zS P all.toList).em.testBit p with
      | false => rfl
      | true => exact absurd (List.mem_cons_of_mem _ hps) (k.effs p hp hb)
     have hanc : ((zS P all.toList).anc.getD i 0).testBit p = false := t1 p (List.mem_cons_of_mem _ hps)
     refine (k.pend p hp (List.mem_cons_of_mem _ hps) q hq).again rfl (fun y hy => k.apart ho hy hidn hp hq hpe fun _ => hanc) fun h1 _ _ => ?_
     have := vH hr p hp
     rw [show all.toList[p]? = some q by simpa using hq] at this
     simp only [ki, h1, hanc, Bool.not_false, Bool.and_self] at this
     exact this
 · rw [wx]
   rcases List.mem_cons.1 hp with e | hp
   · rw [e, ho] at hq; cases hq; rw [hs]; exact hu u hqu
   · exact k.bound p hp q u hq hqu
theorem xH {af af' : AFrame} {fr : Frame} {h0 : AHeap} {v : AV} {x : Value} (k : FrameRel P B R d true h0 af fr) (hm : af.mode = .run) (e : xm P af h v = some af') (hv : zl R v x) : FrameRel P B R d false h af' (fr.finish x) := by
 obtain ⟨fn, n, t, todo, ds, mode, kind, round⟩ := af
 simp only at hm
 subst hm
 obtain ⟨k1, k2, k3, k4, k5, k6, k7, k8, k9⟩ := k
 have k9 : zQ P B R d true h0 todo t fr.todo fr.tmps := k9
 unfold xm at e
 simp only at e
 split at e
 · cases e
 · rename_i it kk _
   split at e
   · rename_i all l
     split at e
     · cases e
     · rename_i o l'
       unfold zk3 at e
       split at e
       · cases e
       · rename_i t' ht
         cases e
         obtain ⟨k9, k10⟩ := k9
         obtain ⟨it', r', hfr, ⟨ops, ctodo, rfl, rfl, hmap⟩, hk⟩ := k9
         cases ctodo with
         | nil => simp at hmap
         | cons i ctodo =>
          simp only [List.map_cons, List.cons.injEq] at hmap
          have hfin : fr.finish x = { fr with tmps := zfH fr.tmps o.dst x, todo := .inRegion ops ctodo :: r' } := by
           simp only [Frame.finish, hfr, ← hmap.1, Option.bind_some, zfH]
           cases o.dst <;> rfl
          rw [hfin]
          exact ⟨k1, k2, k3, k4, k5, k6, k7, by rw [wx]; exact k8, x5 (P := P) (B := B) (d := d) (sus := false) (h := h) (k := .ops ops.toList l' :: kk) (k' := .inRegion ops ctodo :: r') ⟨_, _, rfl, ⟨ops, ctodo, rfl, rfl, hmap.2⟩, hk⟩ (k10.put k8 ht hv)⟩
   · rename_i all dn _ _
     split at e
     · cases e
     · rename_i i l' _
       split at e
       · cases e
       · rename_i o ho
         unfold zde at e
         split at e
         · cases e
         · rename_i t' ht
           split at e
           · cases e
           · rename_i hre
             cases e
             obtain ⟨s, k', hfr, hk, hd⟩ := k9
             have hem := (hd.head rfl i l' rfl).2
             have heff : yY P o = true := by rw [← hd.plan.em i o ho]; exact hem
             obtain ⟨s', rfl, hd'⟩ := hd.finish ho k8 ht hv (by simpa [heff] using hre)
             have hfin : fr.finish x = { fr with tmps := zfH fr.tmps o.dst x, todo := .inRegion all s' :: k' } := by
              simp only [Frame.finish, hfr, ho, Option.bind_some, zfH]
              cases o.dst <;> rfl
             rw [hfin]
             exact ⟨k1, k2, k3, k4, k5, k6, k7, by rw [wx]; exact k8, ⟨s', k', rfl, hk, hd'⟩⟩
   · rename_i l _
     cases e
     obtain ⟨k9, k10⟩ := k9
     obtain ⟨it', r', hfr, ⟨L, hL, rfl⟩, hk⟩ := k9
     have hfin : fr.finish x = { fr with todo := .endRangeFunc L.block :: r' } := by simp only [Frame.finish, hfr]
     rw [hfin]
     exact ⟨k1, k2, k3, k4, k5, k6, k7, k8, x5 (P := P) (B := B) (d := d) (sus := false) (h := h) (k := .endRange l :: kk) (k' := .endRangeFunc L.block :: r') ⟨_, _, rfl, ⟨L, hL, rfl⟩, hk⟩ k10⟩
   · cases e
     obtain ⟨k9, k10⟩ := k9
     obtain ⟨it', r', hfr, rfl, hk⟩ := k9
     have hfin : fr.finish x = { fr with todo := r' } := by simp only [Frame.finish, hfr]
     rw [hfin]
     exact ⟨k1, k2, k3, k4, k5, k6, k7, k8, x5 hk k10⟩
   · cases e
end
end Go.Proofs.YtdbfpjgnlfejmaaDoor.Ev
end
section
namespace Go.Proofs.YtdbfpjgnlfejmaaDoor.Ev
open Go
section
variable {P : Program} {B : Base} {R : Bij} {d : Nat} {h : AHeap} {w : World}
theorem zdA {ops : List Oper} {anc : List Nat} {em i p : Nat} : ∀ {l : List Nat} {done : Nat}, yi ops anc em l done = true → done.testBit i = true → em.testBit i = true → p ∈ l → em.testBit p = true → (anc.getD p 0).testBit i = true
 | [], _, _, _, _, hp, _ => absurd hp List.not_mem_nil
 | j :: r, done, ho, hd, hi, hp, hpe => by
  obtain ⟨h1, h2, h3, h4, h5⟩ := ym ho
  rcases List.mem_cons.1 hp with e | e
  · rw [e] at hpe ⊢
    exact (h4 hpe).1 i hi hd
  · exact zdA h5 (by rw [wn, hd]; rfl) hi e hpe
theorem jm {ops : Array Oper} {t : T AV} {a : Array Value} {o : Oper} {wt : Bool} (e : zW ops.toList t o.guard = some wt)
 (hs : ∀ g b q u v, o.guard = some (g, b) → ops[g]? = some q → q.dst = some u → t.get u = some v → ∃ x, a[u]? = some x ∧ zl R v x) : Region.wanted o (yielded ops a) = wt := by
 unfold zW at e
 unfold Region.wanted
 cases hg : o.guard with
 | none => rw [hg] at e; cases e; rfl
 | some gb =>
  obtain ⟨g, b⟩ := gb
  rw [hg] at e
  simp only [] at e ⊢
  rw [show ops.toList[g]? = ops[g]? by simp] at e
  cases hq : ops[g]? with
  | none => rw [hq] at e; cases e
  | some q =>
   rw [hq] at e
   cases hu : q.dst with
   | none => simp only [zhn, hu, zed] at e; cases e
   | some u =>
    simp only [zhn, hu, zed] at e
    cases hv : t.get u with
    | none => rw [hv] at e; cases e
    | some v =>
     obtain ⟨x, hx, hxr⟩ := hs g b q u v hg hq hu hv
     rw [hv] at e
     cases v with
     | bool c =>
      cases hxr
      have hy : yielded ops a g = some c := by simp only [yielded, hq, Option.bind_some, hu, hx]
      rw [hy]
      simp only [zep, zis, Option.some.injEq] at e
      rw [← e]
      cases c <;> cases b <;> rfl
     | tup l =>
      cases l with
      | nil =>
       obtain ⟨as, rfl, hn⟩ := hxr
       cases hn
       have hy : yielded ops a g = none := by simp only [yielded, hq, Option.bind_some, hu, hx]
       rw [hy]
       simp only [zep, zis, Option.some.injEq] at e
       rw [← e]
       rfl
      | cons y ys => cases e
     | _ => cases e
theorem vW {fr : Frame} {cs : List Frame} {ops : Array Oper} {i : Nat} {s : List Nat} {k : List Item} {o : Oper} (hm : fr.mode = .run) (ht : fr.todo = .inRegion ops (i :: s) :: k) (ho : ops[i]? = some o)
 (hw : Region.wanted o (yielded ops fr.tmps) = false) : step P (lone fr cs w) = .next (lone (fr.finish undef) cs w) :=
 step_lone_go (by simp [stepG, stepG.exec, hm, ht, ho, hw])
theorem kV {fr : Frame} {cs : List Frame} {ops : Array Oper} {i : Nat} {s : List Nat} {k : List Item} {o : Oper} {v : Value} {w' : World} (hm : fr.mode = .run) (ht : fr.todo = .inRegion ops (i :: s) :: k) (ho : ops[i]? = some o)
 (hw : Region.wanted o (yielded ops fr.tmps) = true) (hd : ∀ c, o.op ≠ .defer c) (hr : (execOp fr.eval o).run P w = .ok (.value v) w') : step P (lone fr cs w) = .next (lone (fr.finish v) cs w') := by
 have : stepG P true { frame := fr, callers := cs, status := .running, dying := none } w = stepG.apply P true fr cs none (execOp fr.eval o) w := by
  simp only [stepG, stepG.exec, hm, ht, ho, hw, Option.map_some, Option.getD_some, if_true, stepG.oper, Frame.oper?]
  split
  · rename_i c _ _ hc
    exact absurd hc (hd _)
  · rfl
 refine step_lone_go ?_
 rw [this]
 simp [stepG.apply, Sem.runT_eq, hr]
theorem vq {fr : Frame} {t : T AV} {x : Operand} {v : AV} (hs : ∀ u, x = .tmp u → t.get u = some v → ∃ y, fr.tmps[u]? = some y ∧ zl R v y) (e : ev t x = some v) : zl R v (fr.eval x) := by
 cases x with
 | tmp u =>
  obtain ⟨y, h1, h2⟩ := hs u rfl e
  show zl R v (fr.tmps.getD u undef)
  rw [show fr.tmps.getD u undef = y by
   obtain ⟨hl, hg⟩ := Array.getElem?_eq_some_iff.1 h1
   simp [Array.getD, hl, hg]]
  exact h2
 | const c => exact jP R 9 c v e
 | global g => cases e; rfl
 | func f => cases e; exact ⟨fun l hl => (by cases hl), [], [], rfl, rfl, rfl⟩
theorem Base.keeps_refl (B : Base) (D : Nat) : B.keeps B D := ⟨rfl, fun _ _ h _ => ⟨h, rfl⟩⟩
theorem Base.keeps_drop {B : Base} {id : Nat} {D p : Nat} (h : B.tag id = (D, p)) : B.keeps (B.drop id) D :=
 ⟨rfl, fun j ob hj hd => ⟨by
  simp only [Base.drop]
  rw [if_neg]; exact hj
  intro e; rw [e, h] at hd; exact Nat.lt_irrefl _ hd, rfl⟩⟩
theorem Base.keeps_trans {B B' B'' : Base} {D : Nat} (h : B.keeps B' D) (k : B'.keeps B'' D) : B.keeps B'' D :=
 ⟨k.1.trans h.1, fun id ob e hd => by
  obtain ⟨e1, e2⟩ := h.2 id ob e hd
  obtain ⟨e3, e4⟩ := k.2 id ob e1 (by rw [e2]; exact hd)
  exact ⟨e3, e4.trans e2⟩⟩
theorem Drw.catch1 (kh : HRel P B R h w) (hB : B.n ≤ w.heap.size) {fr : Frame} (hm : fr.mode = .run) {all : Array Oper} {p : Nat} {s' todo dn : List Nat} {k' : List Item} {t : T AV} (hf : fr.todo = .inRegion all (p :: s') :: k')
 (k : Drw P B R d false all todo dn t h fr.tmps (p :: s')) (hp : p ∈ dn) (cs : List Frame) :
 ∃ B' R' w' a', step P (lone fr cs w) = .next (lone { fr with tmps := a', todo := .inRegion all s' :: k' } cs w') ∧ a'.size = fr.tmps.size ∧ B.keeps B' d ∧ R.le R' ∧ HRel P B' R' h w' ∧ Keeps R w R' w' ∧
  Drw P B' R' d false all todo dn t h a' s' := by
 obtain ⟨f1, f2, f3, f4, f5, _⟩ := k.facts
 obtain ⟨t1, t2, t3⟩ := k.topo
 have hpa := f3 p hp
 obtain ⟨o, ho⟩ : ∃ o, all[p]? = some o := ⟨_, Array.getElem?_eq_getElem hpa⟩
 have hpe : yY P o = false := by
  rw [← k.plan.em p o ho]
  cases hb : (zS P all.toList).em.testBit p with
  | false => rfl
  | true => exact absurd List.mem_cons_self (k.effs p hp hb)
 have hfin : ∀ x, fr.finish x = { fr with tmps := zfH fr.tmps o.dst x, todo := .inRegion all s' :: k' } := fun x => by
  simp only [Frame.finish, hf, ho, Option.bind_some, zfH]
  cases o.dst <;> rfl
 have hslot : ∀ u v, (xc all.toList o).contains u = true → t.get u = some v → ∃ y, fr.tmps[u]? = some y ∧ zl R v y := by
  intro u v hu hv
  rcases k.slots u v hv with ⟨q, g1, g2, g3⟩ | g
  · exfalso
    cases hq : all[q]? with
    | none => rw [hq] at g3; cases g3
    | some oq =>
     rw [hq] at g3
     simp only [Option.bind_some] at g3
     have hs := k.plan.slots q oq p o hq ho
     have hqe : yY P oq = false := by
      rw [← k.plan.em q oq hq]
      cases hb : (zS P all.toList).em.testBit q with
      | false => rfl
      | true => exact absurd g2 (k.effs q g1 hb)
     by_cases hqp : q = p
     · subst hqp
       rw [ho] at hq; cases hq
       simp only [wG, g3, Nat.beq_refl, if_true, hpe, Bool.false_or, hu, Bool.not_true] at hs
       cases hs
     · have hbe : Nat.beq q p = false := by
        cases hb : Nat.beq q p with
        | false => rfl
        | true => exact absurd (Nat.eq_of_beq_eq_true hb) hqp
       simp only [wG, g3, hbe, hqe, Bool.false_eq_true, if_false, hu, if_true, Bool.and_eq_true] at hs
       have := t1 q g2
       rw [this] at hs; cases hs.2
  · exact g
 have hops : ∀ x ∈ o.op.operands, ∀ v, ev t x = some v → zl R v (fr.eval x) := fun x hx v hv =>
  vq (fun u hu he => hslot u v (by rw [hu] at hx; exact xu hx) he) hv
 have hgu : ∀ g b q u v, o.guard = some (g, b) → all[g]? = some q → q.dst = some u → t.get u = some v → ∃ x, fr.tmps[u]? = some x ∧ zl R v x := fun g b q u v hg hq hu hv =>
  hslot u v (yk hg (by simpa using hq) hu) hv
 have fin : ∀ {B' : Base} {R' : Bij} {w' : World} {x : Value}, step P (lone fr cs w) = .next (lone (fr.finish x) cs w') → B.keeps B' d → R.le R' → HRel P B' R' h w' → Keeps R w R' w' →
  (∀ u, o.dst = some u → ∃ v, t.get u = some v ∧ zl R' v x) → (∀ q ∈ dn, q ∈ s' → ∀ oq, all[q]? = some oq → kW P B' d false all t h q oq) →
  ∃ B' R' w' a', step P (lone fr cs w) = .next (lone { fr with tmps := a', todo := .inRegion all s' :: k' } cs w') ∧ a'.size = fr.tmps.size ∧ B.keeps B' d ∧ R.le R' ∧ HRel P B' R' h w' ∧ Keeps R w R' w' ∧
   Drw P B' R' d false all todo dn t h a' s' := by
  intro B' R' w' x hst hb hle hh hk hdst hpend
  refine ⟨B', R', w', zfH fr.tmps o.dst x, by rw [hst, hfin], wx _ _ _, hb, hle, hh, hk, ⟨k.plan, k.split, t3, fun j hj => ?_, fun j hj => k.own j (List.mem_cons_of_mem _ hj), fun j hj hje hh => k.effs j hj hje (List.mem_cons_of_mem _ hh),
   fun hh => (by cases hh), fun u v hv => ?_, hpend, fun q hq oq u hoq hu => by rw [wx]; exact k.bound q hq oq u hoq hu⟩⟩
  · rcases List.mem_cons.1 (k.rest j hj) with e | e
    · rw [e] at hj
      exact absurd rfl ((List.nodup_append.1 f5).2.2 p (by simpa using hp) p hj)
    · exact e
  · rw [zcK u (fun y hy => k.bound p hp o y ho hy)]
    by_cases hu : o.dst = some u
    · rw [if_pos hu]
      obtain ⟨v', hv', hr⟩ := hdst u hu
      rw [hv] at hv'; cases hv'
      exact .inr ⟨x, rfl, hr⟩
    · rw [if_neg hu]
      rcases k.slots u v hv with ⟨q, g1, g2, g3⟩ | ⟨y, g1, g2⟩
      · refine .inl ⟨q, g1, ?_, g3⟩
        rcases List.mem_cons.1 g2 with e | e
        · rw [e, ho] at g3; exact absurd g3 hu
        · exact e
      · exact .inr ⟨y, g1, zl.mono hle _ _ g2⟩
 obtain ⟨wt, k1, k2, k3⟩ := k.pend p hp List.mem_cons_self o ho
 have hwant := jm k1 hgu
 have hdef : ∀ c, o.op ≠ .defer c := fun c hc => by
  simp [yY, hc, vY, yP, xy] at hpe
 cases wt with
 | false =>
  refine fin (vW hm hf ho hwant) (B.keeps_refl d) R.le_refl kh (Keeps.refl _ _) (fun u hu => ⟨vi, k2 rfl u hu, ⟨[], rfl, rfl⟩⟩) fun q hq hqs oq hoq => k.pend q hq (List.mem_cons_of_mem _ hqs) oq hoq
 | true =>
  rcases k3 rfl with ⟨g1, vf, ob, id, g2, g3, g4, g5⟩ | ⟨g1, g2, v, g3, g4⟩ | ⟨g1, g2, g3, g4⟩
  · obtain ⟨sm, e1, e2⟩ := g2.2 R w fr.eval o rfl hops
    obtain ⟨R', v', w', r1, r2, r3, r4⟩ := kh.adopt hB g3 e2
    refine fin (kV (v := v') (w' := w') hm hf ho hwant hdef (by rw [e1]; simp [r1])) (Base.keeps_drop g4) r4.le r3 r4 (fun u hu => ⟨_, g5 u hu, r2⟩) fun q hq hqs oq hoq => ?_
    obtain ⟨wt, q1, q2, q3⟩ := k.pend q hq (List.mem_cons_of_mem _ hqs) oq hoq
    refine ⟨wt, q1, q2, fun hw => ?_⟩
    rcases q3 hw with ⟨a1, vf', ob', id', a2, a3, a4, a5⟩ | a | a
    · refine .inl ⟨a1, vf', ob', id', a2, ?_, a4, a5⟩
      simp only [Base.drop]
      rw [if_neg]
      · exact a3
      · intro e
        rw [e, g4] at a4
        cases a4
        exact t2 hqs
    · exact .inr (.inl a)
    · exact .inr (.inr a)
  · obtain ⟨R', v', w', r1, r2, r3, r4⟩ := zgd kh hB hops (g3 h)
    refine fin (kV (v := v') (w' := w') hm hf ho hwant hdef r1) (B.keeps_refl d) r4.le r3 r4 (fun u hu => ⟨v, g4 u hu, r2⟩) fun q hq hqs oq hoq => k.pend q hq (List.mem_cons_of_mem _ hqs) oq hoq
  · rcases g4 with g4 | ⟨v, g4, g5⟩
    · cases g4
    · obtain ⟨R', v', w', r1, r2, r3, r4⟩ := zgd kh hB hops g4
      refine fin (kV (v := v') (w' := w') hm hf ho hwant hdef r1) (B.keeps_refl d) r4.le r3 r4 (fun u hu => ⟨v, g5 u hu, r2⟩) fun q hq hqs oq hoq => k.pend q hq (List.mem_cons_of_mem _ hqs) oq hoq
theorem Drw.catch_up {all : Array Oper} {i : Nat} {l dn : List Nat} {k' : List Item} {t : T AV} (hem : (zS P all.toList).em.testBit i = true) : ∀ (s : List Nat) {B : Base} {R : Bij} {w : World} {fr : Frame}, HRel P B R h w → B.n ≤ w.heap.size → fr.mode = .run → fr.todo = .inRegion all s :: k' →
 Drw P B R d false all (i :: l) dn t h fr.tmps s → ∀ (cs : List Frame),
 ∃ B' R' w' a' s', Steps P (lone fr cs w) (lone { fr with tmps := a', todo := .inRegion all (i :: s') :: k' } cs w') ∧ a'.size = fr.tmps.size ∧ B.keeps B' d ∧ R.le R' ∧ HRel P B' R' h w' ∧ Keeps R w R' w' ∧
  Drw P B' R' d false all (i :: l) dn t h a' (i :: s') := by
 intro s
 induction s with
 | nil => intro B R w fr kh hB hm hf k cs; exact absurd (k.rest i List.mem_cons_self) List.not_mem_nil
 | cons p s ih =>
  intro B R w fr kh hB hm hf k cs
  by_cases hpi : p = i
  · subst hpi
    exact ⟨B, R, w, fr.tmps, s, by rw [show ({ fr with tmps := fr.tmps, todo := .inRegion all (p :: s) :: k' } : Frame) = fr by rw [← hf]]; exact Steps.refl _ _, rfl, B.keeps_refl d, R.le_refl, kh, Keeps.refl _ _, k⟩
  · obtain ⟨f1, f2, f3, f4, f5, done, f6, f7⟩ := k.facts
    obtain ⟨t1, t2, t3⟩ := k.topo
    have hord := k.plan.ord
    rw [← k.split] at hord
    have hpa := k.own p List.mem_cons_self
    have his : i ∈ p :: s := k.rest i List.mem_cons_self
    have hpanc : ((zS P all.toList).anc.getD p 0).testBit i = false := t1 i his
    obtain ⟨h1, h2, h3, h4, h5⟩ := ym f6
    have hp : p ∈ dn := by
     rcases f2 p hpa with e | e
     · exact e
     · exfalso
       have hpl : p ∈ l := by
        rcases List.mem_cons.1 e with e | e
        · exact absurd e hpi
        · exact e
       have hpd : p ∉ dn := fun hh => (List.nodup_append.1 f5).2.2 p (by simpa using hh) p e rfl
       cases hpe : (zS P all.toList).em.testBit p with
       | true =>
        have := zdA h5 (by rw [wn, Nat.testBit_two_pow]; simp) hem hpl hpe
        rw [this] at hpanc; cases hpanc
       | false =>
        obtain ⟨q, q1, q2, q3⟩ := (h4 hem).2 p (by simpa using hpa) hpe (by
         cases hb : done.testBit p with
         | false => rfl
         | true => exact absurd ((f7 p).1 hb) hpd) hpanc
        have hqd : q ∉ dn := fun hh => by rw [(f7 q).2 hh] at q3; cases q3
        obtain ⟨d', g1, g2, g3⟩ := qP (l1 := dn.reverse ++ i :: l) (l2 := []) (by rw [List.append_nil]; exact hord)
        have hq : q ∈ i :: l := by
         rcases g3 p (List.mem_append_right _ e) q q1 with e' | e'
         · simp at e'
         · rcases List.mem_append.1 e' with e' | e'
           · exact absurd (by simpa using e') hqd
           · exact e'
        have := t1 q (k.rest q hq)
        rw [this] at q1; cases q1
    obtain ⟨B1, R1, w1, a1, g1, g2, g3, g4, g5, g6, g7⟩ := k.catch1 kh hB hm hf hp cs
    obtain ⟨B2, R2, w2, a2, s2, j1, j2, j3, j4, j5, j6, j7⟩ := ih (fr := { fr with tmps := a1, todo := .inRegion all s :: k' }) g5 (by show B1.env.heap.size ≤ _; rw [g3.1]; exact Nat.le_trans hB g6.size) hm rfl g7 cs
    exact ⟨B2, R2, w2, a2, s2, .head g1 j1, j2.trans g2, Base.keeps_trans g3 j3, Bij.le_trans g4 j4, j5, g6.trans j6, j7⟩
theorem Drw.run_out {all : Array Oper} {dn : List Nat} {k' : List Item} {t : T AV} : ∀ (s : List Nat) {B : Base} {R : Bij} {w : World} {fr : Frame}, HRel P B R h w → B.n ≤ w.heap.size → fr.mode = .run → fr.todo = .inRegion all s :: k' →
 Drw P B R d false all [] dn t h fr.tmps s → ∀ (cs : List Frame),
 ∃ B' R' w' a', Steps P (lone fr cs w) (lone { fr with tmps := a', todo := .inRegion all [] :: k' } cs w') ∧ a'.size = fr.tmps.size ∧ B.keeps B' d ∧ R.le R' ∧ HRel P B' R' h w' ∧ Keeps R w R' w' ∧ z8 R' t a' := by
 intro s
 induction s with
 | nil =>
  intro B R w fr kh hB hm hf k cs
  refine ⟨B, R, w, fr.tmps, by rw [show ({ fr with tmps := fr.tmps, todo := .inRegion all [] :: k' } : Frame) = fr by rw [← hf]]; exact Steps.refl _ _, rfl, B.keeps_refl d, R.le_refl, kh, Keeps.refl _ _, fun u v hv => ?_⟩
  rcases k.slots u v hv with ⟨q, _, g, _⟩ | g
  · exact absurd g List.not_mem_nil
  · exact g
 | cons p s ih =>
  intro B R w fr kh hB hm hf k cs
  have hp : p ∈ dn := by
   rcases k.facts.2.1 p (k.own p List.mem_cons_self) with e | e
   · exact e
   · exact absurd e List.not_mem_nil
  obtain ⟨B1, R1, w1, a1, g1, g2, g3, g4, g5, g6, g7⟩ := k.catch1 kh hB hm hf hp cs
  obtain ⟨B2, R2, w2, a2, j1, j2, j3, j4, j5, j6, j7⟩ := ih (fr := { fr with tmps := a1, todo := .inRegion all s :: k' }) g5 (by show B1.env.heap.size ≤ _; rw [g3.1]; exact Nat.le_trans hB g6.size) hm rfl g7 cs
  exact ⟨B2, R2, w2, a2, .head g1 j1, j2.trans g2, Base.keeps_trans g3 j3, Bij.le_trans g4 j4, j5, g6.trans j6, j7⟩
end
end Go.Proofs.YtdbfpjgnlfejmaaDoor.Ev
end
section
namespace Go.Proofs.YtdbfpjgnlfejmaaDoor.Ev
open Go
section
variable {P : Program} {B : Base} {R : Bij} {d : Nat} {h : AHeap} {w : World}
theorem Drw.ahead {all : Array Oper} {i : Nat} {l dn : List Nat} {t t' : T AV} {a : Array Value} {s : List Nat} {n : Nat} {o : Oper} {v : AV} {B' : Base} {h' : AHeap} (k : Drw P B R d false all (i :: l) dn t h a s) (ho : all[i]? = some o)
 (hem : yY P o = false) (hs : a.size = n) (e : zjx t n o.dst v = some t')
 (hold : ∀ p ∈ dn, p ∈ s → ∀ q, all[p]? = some q → kW P B d false all t h p q → kW P B' d false all t' h' p q) (hnew : kW P B' d false all t' h' i o) :
 Drw P B' R d false all l (i :: dn) t' h' a s := by
 obtain ⟨f1, f2, f3, f4, f5, _⟩ := k.facts
 have hidn : i ∉ dn := fun hi => (List.nodup_append.1 f5).2.2 i (by simpa using hi) i List.mem_cons_self rfl
 obtain ⟨rfl, hu⟩ := j8 e
 have heb : (zS P all.toList).em.testBit i = false := by rw [k.plan.em i o ho]; exact hem
 refine ⟨k.plan, ?_, k.topo, fun j hj => k.rest j (List.mem_cons_of_mem _ hj), k.own, fun j hj hje => ?_, fun hh => (by cases hh), fun u y hy => ?_, fun p hp hps q hq => ?_, fun p hp q u hq hqu => ?_⟩
 · rw [← k.split]; simp
 · rcases List.mem_cons.1 hj with e | e
   · rw [e, heb] at hje; cases hje
   · exact k.effs j e hje
 · rw [jQ] at hy
   split at hy
   · rename_i hi
     exact .inl ⟨i, List.mem_cons_self, k.rest i List.mem_cons_self, by rw [ho]; exact hi⟩
   · rcases k.slots u y hy with ⟨q, g1, g2, g3⟩ | g
     · exact .inl ⟨q, List.mem_cons_of_mem _ g1, g2, g3⟩
     · exact .inr g
 · rcases List.mem_cons.1 hp with e | hp
   · rw [e, ho] at hq; cases hq; rw [e]; exact hnew
   · exact hold p hp hps q hq (k.pend p hp hps q hq)
 · rcases List.mem_cons.1 hp with e | hp
   · rw [e, ho] at hq; cases hq; rw [hs]; exact hu u hqu
   · exact k.bound p hp q u hq hqu
theorem kW.other {all : Array Oper} {t t' : T AV} {p : Nat} {o : Oper} {u : Option Nat} {v : AV} (k : kW P B d false all t h p o) (ht : t' = zgO t u v) (hm : ∀ x, u = some x → (xc all.toList o).contains x = false ∧ o.dst ≠ some x) :
 kW P B d false all t' h p o := by
 have hop : ∀ h, opA P (ev t') h o.op = opA P (ev t) h o.op := fun h => by
  subst ht
  cases u with
  | none => rfl
  | some u => exact zeW all.toList (hm u rfl).1 h
 have hw : zW all.toList t' o.guard = zW all.toList t o.guard := by
  subst ht
  cases u with
  | none => rfl
  | some u => exact vB (hm u rfl).1
 have hd : ∀ x, o.dst = some x → t'.get x = t.get x := fun x hx => by
  subst ht
  cases u with
  | none => rfl
  | some u => exact T.get_set_other _ _ fun e => (hm u rfl).2 (by rw [hx, e])
 have hfl : ∀ {vf ob}, yf P (ev t) o.op vf ob → yf P (ev t') o.op vf ob := fun k => by
  subst ht
  cases u with
  | none => exact k
  | some u => exact k.set all.toList (hm u rfl).1
 obtain ⟨wt, k1, k2, k3⟩ := k
 refine ⟨wt, by rw [hw]; exact k1, fun hf x hx => by rw [hd x hx]; exact k2 hf x hx, fun ht' => ?_⟩
 rcases k3 ht' with ⟨f1, vf, ob, id, f2, f3, f4, f5⟩ | ⟨f1, f2, v', f3, f4⟩ | ⟨f1, f2, f3, f4⟩
 · exact .inl ⟨f1, vf, ob, id, hfl f2, f3, f4, fun x hx => by rw [hd x hx]; exact f5 x hx⟩
 · exact .inr (.inl ⟨f1, f2, v', fun h => by rw [hop]; exact f3 h, fun x hx => by rw [hd x hx]; exact f4 x hx⟩)
 · rcases f4 with f4 | ⟨v', g1, g2⟩
   · cases f4
   · exact .inr (.inr ⟨f1, f2, f3, .inr ⟨v', by rw [hop]; exact g1, fun x hx => by rw [hd x hx]; exact g2 x hx⟩⟩)
theorem kW.base {B' : Base} {sus : Bool} {all : Array Oper} {t : T AV} {p : Nat} {o : Oper} (hb : ∀ id ob, B.pend id = some ob → B'.pend id = some ob ∧ B'.tag id = B.tag id) (k : kW P B d sus all t h p o) : kW P B' d sus all t h p o := by
 obtain ⟨wt, k1, k2, k3⟩ := k
 refine ⟨wt, k1, k2, fun hw => ?_⟩
 rcases k3 hw with ⟨f1, vf, ob, id, f2, f3, f4, f5⟩ | f | f
 · obtain ⟨g1, g2⟩ := hb id ob f3
   exact .inl ⟨f1, vf, ob, id, f2, g1, g2.trans f4, f5⟩
 · exact .inr (.inl f)
 · exact .inr (.inr f)
theorem kW.suspend {sus : Bool} {all : Array Oper} {t : T AV} {p : Nat} {o : Oper} (k : kW P B d sus all t h p o) : kW P B d true all t h p o := by
 obtain ⟨wt, k1, k2, k3⟩ := k
 refine ⟨wt, k1, k2, fun hw => ?_⟩
 rcases k3 hw with f | f | ⟨f1, f2, f3, _⟩
 · exact .inl f
 · exact .inr (.inl f)
 · exact .inr (.inr ⟨f1, f2, f3, .inl rfl⟩)
theorem Drw.suspend {all : Array Oper} {i : Nat} {l dn : List Nat} {t : T AV} {a : Array Value} {s : List Nat} (k : Drw P B R d false all (i :: l) dn t h a (i :: s)) (hem : (zS P all.toList).em.testBit i = true) :
 Drw P B R d true all (i :: l) dn t h a (i :: s) where
 plan := k.plan
 split := k.split
 topo := k.topo
 rest := k.rest
 own := k.own
 effs := k.effs
 head _ j l' e := by cases e; exact ⟨⟨s, rfl⟩, hem⟩
 slots := k.slots
 pend p h1 h2 o ho := (k.pend p h1 h2 o ho).suspend
 bound := k.bound
def Base.mark (B : Base) (id : Nat) (o : AObj) (g : Nat × Nat) : Base := { B with pend := fun j => if j = id then some o else B.pend j, tag := fun j => if j = id then g else B.tag j }
theorem HRel.mark (k : HRel P B R h w) (o : AObj) (g : Nat × Nat) : HRel P (B.mark h.next o g) R (h.new o) w := by
 have := k.ahead o
 exact ⟨this.fresh, this.obj, this.pend, this.place, this.rd, this.rp, this.rol, this.low, this.pin, this.apart, this.same, this.glob⟩
theorem zbA (k : HRel P B R h w) (o : AObj) (g : Nat × Nat) : ∀ id ob, B.pend id = some ob → (B.mark h.next o g).pend id = some ob ∧ (B.mark h.next o g).tag id = B.tag id := fun id ob e => by
 have := (k.pend id ob e).1
 simp only [Base.mark]
 rw [if_neg (by omega), if_neg (by omega)]
 exact ⟨e, rfl⟩
theorem Drw.reads {sus : Bool} {all : Array Oper} {p : Nat} {s' todo dn : List Nat} {t : T AV} {a : Array Value} {o : Oper} (k : Drw P B R d sus all todo dn t h a (p :: s')) (ho : all[p]? = some o) (hp : p ∉ dn) :
 ∀ u v, (xc all.toList o).contains u = true → t.get u = some v → ∃ y, a[u]? = some y ∧ zl R v y := by
 obtain ⟨t1, t2, t3⟩ := k.topo
 intro u v hu hv
 rcases k.slots u v hv with ⟨q, g1, g2, g3⟩ | g
 · exfalso
   cases hq : all[q]? with
   | none => rw [hq] at g3; cases g3
   | some oq =>
    rw [hq] at g3
    simp only [Option.bind_some] at g3
    have hs := k.plan.slots q oq p o hq ho
    have hqe : yY P oq = false := by
     rw [← k.plan.em q oq hq]
     cases hb : (zS P all.toList).em.testBit q with
     | false => rfl
     | true => exact absurd g2 (k.effs q g1 hb)
    by_cases hqp : q = p
    · subst hqp; exact hp g1
    · have hbe : Nat.beq q p = false := by
       cases hb : Nat.beq q p with
       | false => rfl
       | true => exact absurd (Nat.eq_of_beq_eq_true hb) hqp
      simp only [wG, g3, hbe, hqe, Bool.false_eq_true, if_false, hu, if_true, Bool.and_eq_true] at hs
      have := t1 q g2
      rw [this] at hs; cases hs.2
 · exact g
theorem Drw.own_dst {sus : Bool} {all : Array Oper} {i : Nat} {s todo dn : List Nat} {t : T AV} {a : Array Value} {o : Oper} (k : Drw P B R d sus all todo dn t h a s) (ho : all[i]? = some o) (he : yY P o = false) :
 ∀ x, o.dst = some x → (xc all.toList o).contains x = false := by
 intro x hx
 have hs := k.plan.slots i o i o ho ho
 simp only [wG, hx, Nat.beq_refl, if_true, he, Bool.false_or] at hs
 simpa using hs
end
end Go.Proofs.YtdbfpjgnlfejmaaDoor.Ev
end
section
namespace Go.Proofs.YtdbfpjgnlfejmaaDoor.Ev
open Go
structure Wait (P : Program) (w0 : Env) (base : List Frame) (B : Base) (R : Bij) (af : AFrame) (rest : List AFrame) (h : AHeap) (fr : Frame) (fs : List Frame) (w : World) : Prop where
 heap : HRel P B R h w
 base : B.env = w0
 old : Old0 w0.toWorld w
 top : FrameRel P B R rest.length true h af fr
 run : af.mode = .run
 below : zy P B R h rest fs
section
variable {P : Program} {w0 : Env} {base : List Frame} {B : Base} {R : Bij} {af : AFrame} {rest : List AFrame} {h : AHeap} {fr : Frame} {fs : List Frame} {w : World}
theorem Wait.room (k : Wait P w0 base B R af rest h fr fs w) : B.n ≤ w.heap.size := by show B.env.heap.size ≤ _; rw [k.base]; exact k.old.size
theorem ya {rest : List AFrame} {h : AHeap} {o : Option AFrame} {m : AM} (e : jM rest h o = some m) : ∃ a, o = some a ∧ m = ⟨a, rest, h⟩ := by
 unfold jM at e
 split at e
 · cases e
 · cases e; exact ⟨_, rfl, rfl⟩
theorem Wait.got (k : Wait P w0 base B R af rest h fr fs w) {R' : Bij} {h' : AHeap} {w' : World} {v : AV} {x : Value} {m : AM} (hv : zl R' v x) (hh : HRel P B R' h' w') (hk : Keeps R w R' w')
 (e : jM rest h' (xm P af h' v) = some m) : Sim P w0 base m (fr.finish x) (fs ++ base) w' := by
 obtain ⟨a, e1, rfl⟩ := ya e
 have hb := B.keeps_refl (rest.length + 1)
 exact ⟨B, R', fs, rfl, k.base, hh, k.old.keeps k.base k.heap hk, xH (k.top.mono (h' := h') hk.le hb (Nat.lt_succ_self _)) k.run e1 hv, k.below.mono hk.le hb (Nat.le_succ _)⟩
theorem zac : ∀ (l : List AV) (i : Nat) (t : T AV) (u : Nat), (zap l i t).get u = if i ≤ u ∧ u < i + l.length then l[u - i]? else t.get u
 | [], i, t, u => by simp [zap]; omega
 | v :: r, i, t, u => by
  rw [zap, zac r (i + 1), T.get_set]
  by_cases h1 : u = i
  · subst h1; rw [if_neg (by omega), if_pos rfl, if_pos (by simp)]; simp
  · by_cases h2 : i + 1 ≤ u ∧ u < i + 1 + r.length
    · rw [if_pos h2, if_pos (by simp; omega)]
      obtain ⟨q, rfl⟩ : ∃ q, u = i + 1 + q := ⟨u - (i + 1), by omega⟩
      rw [show i + 1 + q - (i + 1) = q by omega, show i + 1 + q - i = q + 1 by omega]
      simp
    · rw [if_neg h2, if_neg h1, if_neg (by simp; omega)]
theorem we {f : FuncId} {args : List AV} {as : List Value} {kind : CallKind} {a : AFrame} {d : Nat} (e : qY P f args kind = some a) (hr : zm R args as) (hk : kind = .normal ∨ kind = .deferred) : FrameRel P B R d false h a (Frame.enter P f as.toArray kind) := by
 unfold qY at e
 split at e
 · cases e
 · rename_i fn hfn
   split at e
   · cases e
   · rename_i c hc
     cases e
     have hlen := hr.length
     refine ⟨rfl, ⟨fn, hfn⟩, rfl, hk, rfl, rfl, rfl, ?_, ?_⟩
     · simp [Frame.enter, hfn, hlen]; omega
     · refine ⟨⟨_, _, rfl, ?_, rfl⟩, ?_⟩
       · simp [hfn, hc, zP]
       · intro u v hv
         rw [zac] at hv
         split at hv
         · rename_i hu
           obtain ⟨y, hy, hyr⟩ := hr.get _ v hv
           refine ⟨y, ?_, hyr⟩
           simp only [Frame.enter]
           rw [Array.getElem?_append_left (by simp; omega)]
           simpa using hy
         · cases hv
theorem Wait.entered (k : Wait P w0 base B R af rest h fr fs w) {h' : AHeap} {f : FuncId} {args : List AV} {as : List Value} {m : AM} (hr : zm R args as) (hh : HRel P B R h' w) (e : jM (af :: rest) h' (qY P f args .normal) = some m) :
 Sim P w0 base m (Frame.enter P f as.toArray .normal) (fr :: (fs ++ base)) w := by
 obtain ⟨a, e1, rfl⟩ := ya e
 have hb := B.keeps_refl (rest.length + 1)
 exact ⟨B, R, fr :: fs, rfl, k.base, hh, k.old, we e1 hr (.inl rfl), fr, fs, rfl, k.top.mono R.le_refl hb (Nat.lt_succ_self _), k.below.mono R.le_refl hb (Nat.le_succ _)⟩
theorem yw : ∀ (l : List Oper) (t : T AV) {u : Nat} {v : AV}, (qr t l).get u = some v → t.get u = some v ∧ ∀ o ∈ l, o.dst ≠ some u
 | [], _, _, _, e => ⟨e, fun o ho => absurd ho List.not_mem_nil⟩
 | o :: r, t, u, v, e => by
  unfold qr at e
  split at e
  · rename_i hd
    obtain ⟨g1, g2⟩ := yw r t e
    refine ⟨g1, fun q hq => ?_⟩
    rcases List.mem_cons.1 hq with rfl | hq
    · rw [hd]; simp
    · exact g2 q hq
  · rename_i x hd
    obtain ⟨g1, g2⟩ := yw r _ e
    rw [T.get_set] at g1
    split at g1
    · cases g1
    · rename_i hx
      refine ⟨g1, fun q hq => ?_⟩
      rcases List.mem_cons.1 hq with rfl | hq
      · rw [hd]; intro e; exact hx (Option.some.inj e).symm
      · exact g2 q hq
theorem zeh {d : Nat} {sus : Bool} {h : AHeap} {mode : AMode} {todo : List AItem} {t : T AV} {ct : List Item} {a : Array Value} (k : zdb P B R d sus h mode todo t ct a) : z8 R (zey t todo) a := by
 have weak : ∀ {l : List Oper}, z8 R t a → z8 R (qr t l) a := fun k u v e => k u v (yw _ _ e).1
 unfold zey
 unfold zdb at k
 split at k
 · unfold zQ at k
   split at k
   · obtain ⟨s, k', _, _, hd⟩ := k
     simp only []
     intro u v e
     obtain ⟨e1, e2⟩ := yw _ _ e
     rcases hd.slots u v e1 with ⟨q, _, _, g⟩ | g
     · exfalso
       cases hq : (_ : Array Oper)[q]? with
       | none => rw [hq] at g; cases g
       | some o =>
        rw [hq] at g
        exact e2 o (by have := Array.mem_of_getElem? hq; simpa using this) g
     · exact g
   · split
     · exact weak k.2
     · exact k.2
 · split
   · exact weak k
   · exact k
theorem zdX {d d' : Nat} {sus sus' : Bool} {h h' : AHeap} {a : AFrame} {f : Frame} {c : List (AV × Bool)} {c' : List PanicEntry} (k : FrameRel P B R d sus h a f) (hc : xU (zfG R) c c') : FrameRel P B R d' sus' h' (zfF a c) (f.raise c') := by
 have hs := zeh k.top
 obtain ⟨fn, n, t, todo, ds, mode, kind, round⟩ := a
 obtain ⟨k1, k2, k3, k4, k5, k6, k7, k8, k9⟩ := k
 cases mode with
 | run =>
  have e : f.raise c' = { f with mode := .panicking c' } := by simp only [Frame.raise, show f.mode = .run from k7]
  rw [e]
  exact ⟨k1, k2, k3, k4, k5, k6, ⟨c', rfl, by simpa [zfj] using hc⟩, k8, hs⟩
 | returning =>
  have e : f.raise c' = { f with mode := .panicking c' } := by simp only [Frame.raise, show f.mode = .returning from k7]
  rw [e]
  exact ⟨k1, k2, k3, k4, k5, k6, ⟨c', rfl, by simpa [zfj] using hc⟩, k8, hs⟩
 | panicking ch =>
  obtain ⟨ch', hm, hch⟩ := k7
  have e : f.raise c' = { f with mode := .panicking (c' ++ ch') } := by simp only [Frame.raise, hm]
  rw [e]
  exact ⟨k1, k2, k3, k4, k5, k6, ⟨c' ++ ch', rfl, hc.append hch⟩, k8, hs⟩
theorem zi9 (k : Wait P w0 base B R af rest h fr fs w) {c : List (AV × Bool)} {c' : List PanicEntry} (hc : xU (zfG R) c c') : Sim P w0 base ⟨zfF af c, rest, h⟩ (fr.raise c') (fs ++ base) w :=
 ⟨B, R, fs, rfl, k.base, k.heap, k.old, zdX k.top hc, k.below⟩
def XOk (P : Program) (f : FuncId) (F : AHeap → List AV → Option (AV × T AObj × Nat)) : Prop :=
 ∀ (B : Base) (R : Bij) (h : AHeap) (w : World) (args : List AV) (args' : List Value) (v : AV) (o : T AObj) (n : Nat), F h args = some (v, o, n) → HRel P B R h w → B.n ≤ w.heap.size → zm R args args' →
  Calls P f args'.toArray w fun e w' => ∃ R' v', e = .returned v' ∧ zl R' v v' ∧ HRel P B R' ⟨o, n, h.glob⟩ w' ∧ Keeps R w R' w'
class XTOk (P : Program) [XT P] : Prop where
 ok : ∀ f F, XT.tab (P := P) f = some F → XOk P f F
instance (priority := 10) noXTOk : @XTOk P (noXT P) := @XTOk.mk P (noXT P) fun _ _ e => by cases e
theorem wN [XT P] [XTOk P] (k : Wait P w0 base B R af rest h fr fs w) {s : Sem Next} {r : AR} {m : AM} (hop : xM P B R w s r) (hr : ∀ i as, r ≠ .round i as) (hd : ∀ d, r ≠ .dfr d) (hc : r ≠ .recover)
 (hst : (stepG P true { frame := fr, callers := fs ++ base, status := .running, dying := none } w).bare = (stepG.apply P true fr (fs ++ base) none s w).bare)
 (ht : ∃ ops i s' k', fr.todo = .inRegion ops (i :: s') :: k') (e : zk4 P af rest h r = some m) : ∃ fr' cs' w', Steps P (lone fr (fs ++ base) w) (lone fr' cs' w') ∧ Sim P w0 base m fr' cs' w' := by
 obtain ⟨ops, i, s', k', ht⟩ := ht
 cases r with
 | val v h' =>
  obtain ⟨R', v', w', r1, r2, r3, r4⟩ := hop
  exact ⟨_, _, _, .one (step_lone_go (by rw [hst]; simp [stepG.apply, Sem.runT_eq, r1])), k.got r2 r3 r4 e⟩
 | skip h' =>
  obtain ⟨R', w', r1, r3, r4⟩ := hop
  exact ⟨_, _, _, .one (step_lone_go (by rw [hst]; simp [stepG.apply, Sem.runT_eq, r1])), k.got (v := vi) (x := undef) ⟨[], rfl, rfl⟩ r3 r4 e⟩
 | enter f args h' =>
  obtain ⟨as, r1, r2, r3⟩ := hop
  have s1 : step P (lone fr (fs ++ base) w) = .next (lone (Frame.enter P f as.toArray .normal) (fr :: (fs ++ base)) w) := step_lone_go (by rw [hst]; simp [stepG.apply, Sem.runT_eq, r1, ht])
  change zir P af rest h' f args = some m at e
  unfold zir at e
  split at e
  · exact ⟨_, _, _, .one s1, k.entered r2 r3 e⟩
  · rename_i v h2 hx
    unfold zbZ at hx
    split at hx
    · cases hx
    · rename_i F hF
      split at hx
      · cases hx
      · rename_i v0 o n hv
        cases hx
        obtain ⟨en, w', fr', ⟨R', v', rfl, q1, q2, q3⟩, q4, q5, q6⟩ := XTOk.ok (P := P) f F hF B R h' w args as v o n hv r3 k.room r2 (fr :: (fs ++ base))
        exact ⟨_, _, _, (Steps.one s1).trans ((show Steps P _ _ from q4).trans (.one (step_leave_returned q6))), k.got q1 q2 q3 e⟩
 | round i as => exact absurd rfl (hr _ _)
 | dfr dd => exact absurd rfl (hd _)
 | recover => exact absurd rfl hc
 | panic v =>
  obtain ⟨v', r1, r2⟩ := hop
  cases e
  exact ⟨_, _, _, .one (step_lone_go (by rw [hst]; simp [stepG.apply, Sem.runT_eq, r1])), zi9 k (c' := [{ v := v', recovered := false }]) ⟨_, [], rfl, ⟨r2, rfl, rfl⟩, rfl⟩⟩
end
end Go.Proofs.YtdbfpjgnlfejmaaDoor.Ev
end
section
namespace Go.Proofs.YtdbfpjgnlfejmaaDoor.Ev
open Go
section
variable {P : Program} {w0 : Env} {base : List Frame} {B : Base} {R : Bij} {af : AFrame} {rest : List AFrame} {h : AHeap} {fr : Frame} {fs : List Frame} {w : World}
def zcm (P : Program) (w0 : Env) (base : List Frame) (m' : AM) (fr : Frame) (cs : List Frame) (w : World) : Prop :=
 ∃ fr' cs' w', Steps P (lone fr cs w) (lone fr' cs' w') ∧ Sim P w0 base m' fr' cs' w'
structure Plain (P : Program) (w0 : Env) (base : List Frame) (B : Base) (R : Bij) (af : AFrame) (rest : List AFrame) (h : AHeap) (fr : Frame) (fs : List Frame) (w : World) : Prop where
 heap : HRel P B R h w
 base : B.env = w0
 old : Old0 w0.toWorld w
 top : FrameRel P B R rest.length false h af fr
 run : af.mode = .run
 below : zy P B R h rest fs
theorem zlh (k : Plain P w0 base B R af rest h fr fs w) : fr.mode = .run := by
 have := k.top.mode
 rw [k.run] at this; exact this
theorem Plain.to (k : Plain P w0 base B R af rest h fr fs w) {todo : List AItem} {todo' : List Item} (hs : z8 R af.tmps fr.tmps) (ht : xU (zP R) todo todo') {m : AM} (e : toA af rest h todo = some m)
 (hst : step P (lone fr (fs ++ base) w) = .next (lone { fr with todo := todo' } (fs ++ base) w)) : zcm P w0 base m fr (fs ++ base) w := by
 cases e
 refine ⟨_, _, _, .one hst, B, R, fs, rfl, k.base, k.heap, k.old, ?_, k.below⟩
 obtain ⟨k1, k2, k3, k4, k5, k6, k7, k8, k9⟩ := k.top
 have hm := k.run
 obtain ⟨fn, n, t, td, ds, mode, kind, round⟩ := af
 simp only at hm; subst hm
 exact ⟨k1, k2, k3, k4, k5, k6, k7, k8, x5 ht hs⟩
theorem zfK : ∀ {k : List AItem} {k' : List Item} {id : Nat}, xU (zP R) k k' → (∀ q, zdP id k = some q → ∃ q', exitTo id k' = some q' ∧ xU (zP R) q q') ∧ (zdP id k = none → exitTo id k' = none)
 | [], k', id, hk => by
  cases hk
  exact ⟨fun q e => (by cases e), fun _ => rfl⟩
 | it :: k, k', id, ⟨b, r, e, h1, h2⟩ => by
  subst e
  obtain ⟨g1, g2⟩ := zfK (id := id) h2
  cases it with
  | inBlock j =>
   cases h1
   simp only [zdP, exitTo]
   cases hb : Nat.beq j id with
   | true =>
    have := Nat.eq_of_beq_eq_true hb
    rw [if_pos (by simpa using this)]
    exact ⟨fun q e => by cases e; exact ⟨r, rfl, h2⟩, fun e => by cases e⟩
   | false =>
    have : j ≠ id := fun e => by rw [e, Nat.beq_refl] at hb; cases hb
    rw [if_neg (by simpa using this)]
    exact ⟨g1, g2⟩
  | code c => cases h1; exact ⟨g1, g2⟩
  | inLoop c => cases h1; exact ⟨g1, g2⟩
  | inScope c => cases h1; exact ⟨g1, g2⟩
  | ops a l => obtain ⟨_, _, rfl, _⟩ := h1; exact ⟨g1, g2⟩
  | drw a b c => exact absurd h1 (fun e => e)
  | inRange i => obtain ⟨_, _, rfl⟩ := h1; exact ⟨g1, g2⟩
  | endRange i => obtain ⟨_, _, rfl⟩ := h1; exact ⟨g1, g2⟩
  | beginRound => cases h1; exact ⟨g1, g2⟩
theorem zfB : ∀ {k : List AItem} {k' : List Item} {l : Nat}, xU (zP R) k k' → (∀ q, zdY l k = some q → ∃ q', gotoIn l k' = some q' ∧ xU (zP R) q q') ∧ (zdY l k = none → gotoIn l k' = none)
 | [], k', l, hk => by
  cases hk
  exact ⟨fun q e => (by cases e), fun _ => rfl⟩
 | it :: k, k', l, ⟨b, r, e, h1, h2⟩ => by
  subst e
  obtain ⟨g1, g2⟩ := zfB (l := l) h2
  cases it with
  | inScope c =>
   cases h1
   simp only [zdY, gotoIn]
   cases hf : findLabel c l with
   | some q => exact ⟨fun p e => by cases e; exact ⟨_, rfl, _, _, rfl, rfl, _, _, rfl, rfl, h2⟩, fun e => by cases e⟩
   | none => exact ⟨g1, g2⟩
  | code c => cases h1; exact ⟨g1, g2⟩
  | inLoop c => cases h1; exact ⟨g1, g2⟩
  | inBlock c => cases h1; exact ⟨g1, g2⟩
  | ops a l => obtain ⟨_, _, rfl, _⟩ := h1; exact ⟨g1, g2⟩
  | drw a b c => exact absurd h1 (fun e => e)
  | inRange i => obtain ⟨_, _, rfl⟩ := h1; exact ⟨g1, g2⟩
  | endRange i => obtain ⟨_, _, rfl⟩ := h1; exact ⟨g1, g2⟩
  | beginRound => cases h1; exact ⟨g1, g2⟩
end
end Go.Proofs.YtdbfpjgnlfejmaaDoor.Ev
end
section
namespace Go.Proofs.YtdbfpjgnlfejmaaDoor.Ev
open Go
section
variable {P : Program} {w0 : Env} {base : List Frame} {B : Base} {R : Bij} {af : AFrame} {rest : List AFrame} {h : AHeap} {fr : Frame} {fs : List Frame} {w : World}
theorem zab (kh : HRel P B R h w) (hb : B.env = w0) (ho : Old0 w0.toWorld w) (hk : af.kind = .normal ∨ af.kind = .deferred) (hkf : fr.kind = af.kind) (kb : zy P B R h rest fs) {v : AV} {v' : Value} (hv : zl R v v') {m : AM} (e : zct P af.kind rest h v = some m) :
 ∃ fr' cs', (doReturn P true fr (fs ++ base) none v' w).bare = .go { frame := fr', callers := cs', status := .running, dying := none } w ∧ Sim P w0 base m fr' cs' w := by
 cases rest with
 | nil => cases e
 | cons c r =>
  obtain ⟨f, fs', rfl, kf, kr⟩ := kb
  rcases hk with hk | hk
  · rw [hk] at hkf e
    change (match c.mode with | .run => jM r h (xm P c h v) | _ => none) = some m at e
    split at e
    · rename_i hm
      obtain ⟨a, e1, rfl⟩ := ya e
      exact ⟨f.finish v', fs' ++ base, by simp [doReturn, hkf], B, R, fs', rfl, hb, kh, ho, xH kf hm e1 hv, kr⟩
    · cases e
  · rw [hk] at hkf e
    change (match c.mode with | .run => none | _ => some ⟨zih c, r, h⟩ : Option AM) = some m at e
    split at e
    · cases e
    · rename_i hm
      cases e
      obtain ⟨fn, n, t, td, ds, mode, kind, round⟩ := c
      obtain ⟨k1, k2, k3, k4, k5, k6, k7, k8, k9⟩ := kf
      cases mode with
      | run => exact absurd rfl hm
      | returning =>
       have hfm : f.mode = .returning := k7
       exact ⟨f, fs' ++ base, by simp [doReturn, hkf, hfm], B, R, fs', rfl, hb, kh, ho, ⟨k1, k2, k3, k4, k5, k6, k7, k8, k9⟩, kr⟩
      | panicking ch =>
       obtain ⟨ch', hfm, hc⟩ := k7
       cases ch with
       | nil =>
        cases hc
        exact ⟨f, fs' ++ base, by simp [doReturn, hkf, hfm], B, R, fs', rfl, hb, kh, ho, ⟨k1, k2, k3, k4, k5, k6, ⟨[], hfm, rfl⟩, k8, k9⟩, kr⟩
       | cons x older =>
        obtain ⟨x', older', rfl, hx, hold⟩ := hc
        obtain ⟨x1, x2⟩ := x
        obtain ⟨y1, y2, y3⟩ := x'
        obtain ⟨hx1, hx2, hx3⟩ := hx
        simp only at hx2 hx3
        subst hx2 hx3
        cases y2 with
        | false => exact ⟨f, fs' ++ base, by simp [doReturn, hkf, hfm], B, R, fs', rfl, hb, kh, ho, ⟨k1, k2, k3, k4, k5, k6, ⟨_, hfm, _, _, rfl, ⟨hx1, rfl, rfl⟩, hold⟩, k8, k9⟩, kr⟩
        | true =>
         have hdrop : ∀ {o : List (AV × Bool)} {o' : List PanicEntry}, xU (zfG R) o o' → o'.dropWhile (fun e => !e.goexit) = [] := by
          intro o
          induction o with
          | nil => intro o' h; cases h; rfl
          | cons a o ih =>
           intro o' h
           obtain ⟨b, bs, rfl, h1, h2⟩ := h
           rw [List.dropWhile_cons, if_pos (by rw [h1.2.2]; rfl)]
           exact ih h2
         exact ⟨{ f with mode := .returning }, fs' ++ base, by simp [doReturn, hkf, hfm, hdrop hold], B, R, fs', rfl, hb, kh, ho, ⟨k1, k2, k3, k4, k5, k6, rfl, k8, k9⟩, kr⟩
theorem zaV (k : HRel P B R h w) {l : Nat} {lp : ALoop} (e : h.get l = some (.loop lp)) {L : Loc} (hL : R l 0 = some L) : ∃ lp', w.heap[L.block]? = some (.loop lp') ∧ LoopRel R lp lp' := by
 obtain ⟨L', lp', h1, h2, h3⟩ := k.obj' hL e
 rw [hL] at h1; cases h1
 exact ⟨lp', h2, h3⟩
theorem yQ {b : Nat} {lp : Loop} (e : w.heap[b]? = some (.loop lp)) : (Instr.getLoop b).run P w = .ok lp w := by
 simp [Instr.getLoop, getObj, Sem.run, e]
theorem vJ {b : Nat} {lp lp' : Loop} (e : w.heap[b]? = some (.loop lp)) : (setObj b (.loop lp')).run P w = .ok () (xE w b (.loop lp')) := xk P e (by simp)
theorem zb8 (k : HRel P B R h w) {l : Nat} {L : Loc} (hL : R l 0 = some L) (hnr : ¬ B.ro l) {lp : ALoop} {lp' : Loop} (hr : LoopRel R lp lp') :
 HRel P B R (h.put l (.loop lp)) (xE w L.block (.loop lp')) ∧ Keeps R w R (xE w L.block (.loop lp')) :=
 xT k hL hnr _ _ ⟨L, lp', hL, xi w _ _ (k.place _ _ _ hL).2, hr⟩
theorem yN {l : Nat} {lp : ALoop} (e : zdd h l = some lp) : h.get l = some (.loop lp) := by
 unfold zdd at e
 split at e
 · cases e; assumption
 · cases e
theorem zaO {l : Nat} {ds : List ADef} (e : zf2 h l = some ds) : h.get l = some (.dfrd (some ds)) := by
 unfold zf2 at e
 split at e
 · cases e; assumption
 · cases e
theorem vj (k : Plain P w0 base B R af rest h fr fs w) {l : Nat} (hl : af.round = some l) {jump : Option Code} {m : AM} (e : jb P af.kind rest h l jump = some m)
 (hst : ∀ b, fr.roundOf = some b → (stepG P true { frame := fr, callers := fs ++ base, status := .running, dying := none } w).bare = (match (Instr.endRound b jump).run P w with
  | .ok v w => (doReturn P true fr (fs ++ base) none v w).bare
  | .halt _ w => (GStep.ended (.stuck "range over a function: no such loop" (fr.pos P)) w).bare)) : zcm P w0 base m fr (fs ++ base) w := by
 have hround := k.top.round
 rw [hl] at hround
 obtain ⟨L, hL, hfl⟩ := hround
 have hst := hst _ hfl
 unfold jb at e
 split at e
 · rename_i lp ho
   obtain ⟨lp', g1, g2⟩ := zaV k.heap ho hL
   obtain ⟨st, pe, fn, n, t, ps, asg, body, df⟩ := lp
   simp only at e
   obtain ⟨g3, g4⟩ := zb8 k.heap hL (k.heap.notRo ho rfl) (lp := ⟨if jump.isNone then .ready else .done, jump, fn, n, t, ps, asg, body, df⟩) (lp' := { lp' with state := if jump.isNone then .ready else .done, pending := jump })
    ⟨rfl, rfl, g2.fn, g2.tmps, g2.params, g2.assign, g2.body, g2.defers⟩
   have hrun : (Instr.endRound L.block jump).run P w = .ok (.bool jump.isNone) (xE w L.block (.loop { lp' with state := if jump.isNone then .ready else .done, pending := jump })) := by
    simp only [Instr.endRound, Sem.run_bind, yQ g1, Result.andThen_ok, vJ g1, Sem.run_pure]
   rw [hrun] at hst
   simp only at hst
   obtain ⟨fr', cs', q1, q2⟩ := zab (fr := fr) (base := base) (v' := .bool jump.isNone) g3 k.base (k.old.keeps k.base k.heap g4) k.top.kindOk k.top.kind (k.below.mono (h' := h.put l (.loop ⟨if jump.isNone then .ready else .done, jump, fn, n, t, ps, asg, body, df⟩)) g4.le (B.keeps_refl (rest.length)) (Nat.le_refl _)) (v := .bool jump.isNone) rfl e
   exact ⟨fr', cs', _, .one (step_lone_go (hst.trans q1)), q2⟩
 · cases e
theorem wp : ∀ {ps : List Tmp} {args : List AV} {as : List Value} {t : T AV} {a : Array Value}, z8 R t a → zm R args as → (∀ p ∈ ps, p < a.size) → args.length = ps.length →
 z8 R (kI ps args t) ((ps.zip as).foldl (fun x (p : Tmp × Value) => x.setIfInBounds p.1 p.2) a) ∧ ((ps.zip as).foldl (fun x (p : Tmp × Value) => x.setIfInBounds p.1 p.2) a).size = a.size
 | [], args, as, t, a, hs, _, _, _ => by simpa [kI] using hs
 | p :: ps, [], as, t, a, hs, _, _, hl => by simp at hl
 | p :: ps, x :: args, as, t, a, hs, hv, hp, hl => by
  obtain ⟨y, ys, rfl, h1, h2⟩ := hv
  have hp0 := hp p List.mem_cons_self
  have hs' : z8 R (t.set (some x) p) (a.setIfInBounds p y) := by
   intro u v e
   rw [T.get_set] at e
   rw [Array.getElem?_setIfInBounds]
   by_cases hu : u = p
   · subst hu
     rw [if_pos rfl] at e; cases e
     rw [if_pos rfl, if_pos hp0]
     exact ⟨y, rfl, h1⟩
   · rw [if_neg hu] at e
     rw [if_neg (fun q => hu q.symm)]
     exact hs u v e
  obtain ⟨g1, g2⟩ := wp (ps := ps) hs' h2 (fun q hq => by rw [Array.size_setIfInBounds]; exact hp q (List.mem_cons_of_mem _ hq)) (by simpa using hl)
  exact ⟨g1, by rw [List.zip_cons_cons, List.foldl_cons]; exact g2.trans (Array.size_setIfInBounds ..)⟩
theorem zi7 (k : Wait P w0 base B R af rest h fr fs w) {s : Sem Next} {i : Nat} {args : List AV} {m : AM} (hop : xM P B R w s (.round i args))
 (hst : (stepG P true { frame := fr, callers := fs ++ base, status := .running, dying := none } w).bare = (stepG.apply P true fr (fs ++ base) none s w).bare) (e : zht P af rest h i args = some m) : zcm P w0 base m fr (fs ++ base) w := by
 obtain ⟨L, as, hL, hv, hrun⟩ := hop
 unfold zht at e
 split at e
 · rename_i lp ho
   obtain ⟨lp', g1, g2⟩ := zaV k.heap ho hL
   obtain ⟨st, pe, fn, n, t, ps, asg, body, df⟩ := lp
   simp only at e
   split at e
   · rename_i hc
     obtain ⟨c1, c2, c3⟩ := hc
     cases e
     obtain ⟨a1, a2⟩ := g2.tmps
     simp only at a1 a2
     have hps : lp'.params = ps := g2.params
     have hall : ∀ p ∈ ps.toList, p < lp'.tmps.size := fun p hp => by
      rw [List.all_eq_true] at c2
      rw [a1]; exact of_decide_eq_true (c2 p hp)
     obtain ⟨s1, s2⟩ := wp (R := R) (ps := ps.toList) (a := lp'.tmps) a2 hv hall (by simpa using c1)
     have hlen : ¬ as.toArray.size ≠ lp'.params.size := by rw [hps, List.size_toArray, hv.length, c1]; exact fun hh => hh rfl
     have hy : (Instr.yield L.block as.toArray).run P w = .ok (.round L.block lp'.fn ((ps.toList.zip as).foldl (fun x (p : Tmp × Value) => x.setIfInBounds p.1 p.2) lp'.tmps) lp'.assign lp'.body) w := by
      simp only [Instr.yield, Sem.run_bind, yQ g1, Result.andThen_ok, hlen, if_false, Sem.run_pure]
      rw [hps, ← Array.foldl_toList, Array.toList_zip]
     refine ⟨_, _, _, .one (step_lone_go (fr' := Frame.round L.block lp'.fn ((ps.toList.zip as).foldl (fun x (p : Tmp × Value) => x.setIfInBounds p.1 p.2) lp'.tmps) lp'.assign lp'.body .normal) (cs' := fr :: (fs ++ base)) (w' := w) ?_), B, R, fr :: fs, rfl, k.base, k.heap, k.old, ?_, fr, fs, rfl, k.top, k.below⟩
     · rw [hst]
       simp [stepG.apply, Sem.runT_eq, hrun, hy]
     · refine ⟨g2.fn, ?_, rfl, .inl rfl, ⟨L, hL, rfl⟩, rfl, rfl, s2.trans a1, ⟨_, _, rfl, ?_, _, _, rfl, rfl, _, _, rfl, ?_, rfl⟩, s1⟩
       · obtain ⟨f, hf⟩ := Option.isSome_iff_exists.1 c3
         exact ⟨f, hf⟩
       · show Item.code lp'.assign = Item.code asg
         rw [show lp'.assign = asg from g2.assign]
       · show Item.code lp'.body = Item.code body
         rw [show lp'.body = body from g2.body]
   · cases e
 · cases e
theorem zjj (k : Plain P w0 base B R af rest h fr fs w) (hs : z8 R af.tmps fr.tmps) {kk : List AItem} {kk' : List Item} (hfr : fr.todo = .beginRound :: kk') (hk : xU (zP R) kk kk')
 {m : AM} (e : zi1 af rest h kk = some m) : zcm P w0 base m fr (fs ++ base) w := by
 have hm := zlh k
 have hround := k.top.round
 unfold zi1 at e
 split at e
 · cases e
 · rename_i l hl
   rw [hl] at hround
   obtain ⟨L, hL, hfl⟩ := hround
   split at e
   · cases e
   · rename_i st pe fn n t ps asg body df ho
     obtain ⟨lp', g1, g2⟩ := zaV k.heap (yN ho) hL
     split at e
     · cases e
       obtain ⟨g3, g4⟩ := zb8 k.heap hL (k.heap.notRo (yN ho) rfl) (lp := ⟨.busy, pe, fn, n, t, ps, asg, body, df⟩) (lp' := { lp' with state := .busy })
        ⟨rfl, g2.pending, g2.fn, g2.tmps, g2.params, g2.assign, g2.body, g2.defers⟩
       have hrun : (Instr.beginRound L.block).run P w = .ok () (xE w L.block (.loop { lp' with state := .busy })) := by
        simp only [Instr.beginRound, Sem.run_bind, yQ g1, Result.andThen_ok, vJ g1, show lp'.state = .ready from g2.state, Sem.run_pure]
       refine ⟨_, _, _, .one (step_lone_go (fr' := { fr with todo := kk' }) (cs' := fs ++ base) (w' := xE w L.block (.loop { lp' with state := .busy })) ?_), B, R, fs, rfl, k.base, g3, k.old.keeps k.base k.heap g4, ?_, k.below.mono g4.le (B.keeps_refl (rest.length)) (Nat.le_refl _)⟩
       · simp [stepG, stepG.exec, hm, hfr, hfl, stepG.apply, Sem.runT_eq, hrun, Frame.finish]
       · obtain ⟨k1, k2, k3, k4, k5, k6, k7, k8, k9⟩ := k.top
         have hrm := k.run
         obtain ⟨fn, n, t, td, ds, mode, kind, round⟩ := af
         simp only at hrm; subst hrm
         exact ⟨k1, k2, k3, k4, k5, k6, k7, k8, x5 hk hs⟩
     · cases e
theorem zdK (k : Plain P w0 base B R af rest h fr fs w) (hs : z8 R af.tmps fr.tmps) {l : Nat} {L : Loc} (hL : R l 0 = some L) {kk : List AItem} {kk' : List Item} (hfr : fr.todo = .endRangeFunc L.block :: kk') (hk : xU (zP R) kk kk')
 {m : AM} (e : za5 af rest h l kk = some m) : zcm P w0 base m fr (fs ++ base) w := by
 have hm := zlh k
 unfold za5 at e
 split at e
 · cases e
 · rename_i st pe fn n t ps asg body df ho
   obtain ⟨lp', g1, g2⟩ := zaV k.heap (yN ho) hL
   split at e
   · cases e
   · rename_i hbusy
     cases e
     obtain ⟨g3, g4⟩ := zb8 k.heap hL (k.heap.notRo (yN ho) rfl) (lp := ⟨.exhausted, pe, fn, n, t, ps, asg, body, df⟩) (lp' := { lp' with state := .exhausted })
      ⟨rfl, g2.pending, g2.fn, g2.tmps, g2.params, g2.assign, g2.body, g2.defers⟩
     have hst : lp'.state = st := g2.state
     have hpe : lp'.pending = pe := g2.pending
     have hnb : (lp'.state == LoopState.busy) = false := by
      rw [hst]
      cases st <;> first | rfl | exact absurd rfl hbusy
     have hrun : (Instr.endLoop L.block).run P w = .ok pe (xE w L.block (.loop { lp' with state := .exhausted })) := by
      simp only [Instr.endLoop, Sem.run_bind, yQ g1, Result.andThen_ok, hnb, Bool.false_eq_true, if_false, Sem.run_pure, vJ g1, hpe]
     refine ⟨_, _, _, .one (step_lone_go (fr' := { fr with todo := (pe.map Item.code).toList ++ kk' }) (cs' := fs ++ base) (w' := xE w L.block (.loop { lp' with state := .exhausted })) ?_), B, R, fs, rfl, k.base, g3, k.old.keeps k.base k.heap g4, ?_, k.below.mono g4.le (B.keeps_refl (rest.length)) (Nat.le_refl _)⟩
     · simp [stepG, stepG.exec, hm, hfr, Sem.runT_eq, hrun]
     · obtain ⟨k1, k2, k3, k4, k5, k6, k7, k8, k9⟩ := k.top
       have hrm := k.run
       obtain ⟨fn, n, t, td, ds, mode, kind, round⟩ := af
       simp only at hrm; subst hrm
       refine ⟨k1, k2, k3, k4, k5, k6, k7, k8, x5 ?_ hs⟩
       cases pe with
       | none => exact hk
       | some c => exact ⟨_, _, rfl, rfl, hk⟩
theorem zb7 (k : Plain P w0 base B R af rest h fr fs w) (hs : z8 R af.tmps fr.tmps) {f : Operand} {params : Array Tmp} {assign body : Code} {kk : List AItem} {kk' : List Item} (hfr : fr.todo = .code (.rangeFunc f params assign body) :: kk') (hk : xU (zP R) kk kk')
 {m : AM} (e : jf P af rest h params assign body kk (ev af.tmps f) = some m) : zcm P w0 base m fr (fs ++ base) w := by
 have hm := zlh k
 have hroom : B.n ≤ w.heap.size := by show B.env.heap.size ≤ _; rw [k.base]; exact k.old.size
 unfold jf at e
 split at e
 · cases e
 · rename_i fv hf
   have hfv : zl R fv (fr.eval f) := vq (R := R) (fun u _ hu => hs u _ hu) hf
   split at e
   · cases e
   · rename_i d h1 mark hmark
     have first : ∃ (R1 : Bij) (w1 : World) (Ld : Loc) (mark' : List Deferred), HRel P B R1 h1 w1 ∧ Keeps R w R1 w1 ∧ R1 d 0 = some Ld ∧ xU (yL R1) mark mark' ∧
      (Instr.enterLoop fr.fn fr.tmps params assign body fr.roundOf).run P w = .ok (w1.heap.size, mark') (w1.alloc (.loop { state := .ready, pending := none, fn := fr.fn, tmps := fr.tmps, params, assign, body, defers := Ld.block })) := by
      have hround := k.top.round
      unfold znH at hmark
      split at hmark
      · rename_i l hl
        rw [hl] at hround
        obtain ⟨L, hL, hfl⟩ := hround
        split at hmark
        · cases hmark
        · rename_i lp ho
          cases hmark
          obtain ⟨lp', g1, g2⟩ := zaV k.heap (yN ho) hL
          obtain ⟨Ld, d1, d2⟩ := g2.defers
          refine ⟨R, w, Ld, [], k.heap, Keeps.refl _ _, d1, rfl, ?_⟩
          simp only [Instr.enterLoop, hfl, Sem.run_bind, yQ g1, Result.andThen_ok, Sem.run_pure, run_newObj, World.alloc_eq, d2]
      · rename_i hl
        rw [hl] at hround
        cases hmark
        obtain ⟨g1, g2⟩ := kH k.heap hroom (.dfrd (some [])) (.deferred (some [])) (fun R' _ e => ⟨_, some [], e, xx w _, [], rfl, rfl⟩)
        refine ⟨_, _, ⟨w.heap.size, 0, 0⟩, [{ target := .collected w.heap.size, args := #[] }], g1, g2, R.upd_same _ _ _, ⟨_, [], rfl, ⟨⟨_, R.upd_same _ _ _, rfl⟩, rfl⟩, rfl⟩, ?_⟩
        simp only [Instr.enterLoop, show fr.roundOf = none from hround, Sem.run_bind, run_newObj, World.alloc_eq, Result.andThen_ok, Sem.run_pure]
     obtain ⟨R1, w1, Ld, mark', p1, p2, p3, p4, p5⟩ := first
     have hroom1 : B.n ≤ w1.heap.size := Nat.le_trans hroom p2.size
     obtain ⟨k1, k2, k3, k4, k5, k6, k7, k8, k9⟩ := k.top
     obtain ⟨q1, q2⟩ := kH p1 hroom1 (.loop ⟨.ready, none, af.fn, af.n, af.tmps, params, assign, body, d⟩) (.loop { state := .ready, pending := none, fn := fr.fn, tmps := fr.tmps, params, assign, body, defers := Ld.block })
      (fun R' hle e => ⟨_, _, e, xx w1 _, ⟨rfl, rfl, k1, ⟨k8, (hs.mono p2.le).mono hle⟩, rfl, rfl, rfl, ⟨Ld, hle _ _ _ p3, rfl⟩⟩⟩)
     have hyl : R1.upd h1.next 0 ⟨w1.heap.size, 0, 0⟩ h1.next 0 = some ⟨w1.heap.size, 0, 0⟩ := R1.upd_same _ _ _
     have hkeep := p2.trans q2
     have hroom2 : B.n ≤ (w1.alloc (.loop { state := .ready, pending := none, fn := fr.fn, tmps := fr.tmps, params, assign, body, defers := Ld.block })).heap.size := Nat.le_trans hroom1 q2.size
     unfold ziC zbp at e
     split at e
     · rename_i g args h3 hcall
       obtain ⟨as, r1, r2, r3⟩ := zaB (f' := fr.eval f) (args' := [.func (.yield w1.heap.size) #[] #[]]) q1 hroom2 hcall (zl.mono hkeep.le _ _ hfv) (.cons ⟨_, hyl, rfl⟩ .nil)
       have hres : (do let d ← resolve fr.eval { callee := .value f, args := #[.const (.func (.yield w1.heap.size) #[] #[])], argTypes := #[] } 0; invoke d.target d.args : Sem Next).run P (w1.alloc (.loop { state := .ready, pending := none, fn := fr.fn, tmps := fr.tmps, params, assign, body, defers := Ld.block })) = .ok (.enter g as.toArray) (w1.alloc (.loop { state := .ready, pending := none, fn := fr.fn, tmps := fr.tmps, params, assign, body, defers := Ld.block })) := by
        refine (congrArg (fun q : Sem Next => q.run P _) ?_).trans r1
        show (do let d ← Deferred.ofValue (fr.eval f) ((#[Operand.const (.func (.yield w1.heap.size) #[] #[])] : Array Operand).map fr.eval); invoke d.target d.args : Sem Next) = _
        rw [xC fr.eval]
        rfl
       have hm' := k.run
       obtain ⟨fn, n, t, td, ds, mode, kind, round⟩ := af
       simp only at hm' e; subst hm'
       obtain ⟨a, e1, rfl⟩ := ya e
       refine ⟨_, _, _, .one (step_lone_go (fr' := Frame.enter P g as.toArray .normal) (cs' := { fr with todo := .inRangeFunc w1.heap.size :: kk', defers := mark' ++ fr.defers } :: (fs ++ base)) (w' := w1.alloc (.loop { state := .ready, pending := none, fn := fr.fn, tmps := fr.tmps, params, assign, body, defers := Ld.block })) ?_),
        B, _, { fr with todo := .inRangeFunc w1.heap.size :: kk', defers := mark' ++ fr.defers } :: fs, rfl, k.base, r3, k.old.keeps k.base k.heap hkeep, we e1 r2 (.inl rfl), _, _, rfl, ?_, k.below.mono hkeep.le (B.keeps_refl (rest.length)) (Nat.le_refl _)⟩
       · have happ : (stepG.apply P true { fr with todo := .inRangeFunc w1.heap.size :: kk', defers := mark' ++ fr.defers } (fs ++ base) none (do let d ← resolve fr.eval { callee := .value f, args := #[.const (.func (.yield w1.heap.size) #[] #[])], argTypes := #[] } 0; invoke d.target d.args)
          (w1.alloc (.loop { state := .ready, pending := none, fn := fr.fn, tmps := fr.tmps, params, assign, body, defers := Ld.block }))).bare = .go { frame := Frame.enter P g as.toArray .normal, callers := { fr with todo := .inRangeFunc w1.heap.size :: kk', defers := mark' ++ fr.defers } :: (fs ++ base), status := .running, dying := none }
          (w1.alloc (.loop { state := .ready, pending := none, fn := fr.fn, tmps := fr.tmps, params, assign, body, defers := Ld.block })) := by
          simp only [stepG.apply, Sem.runT_eq, hres]
          simp
         refine Eq.trans ?_ happ
         simp only [stepG, stepG.exec, hm, hfr, Sem.runT_eq, p5, GStep.bare_after]
         rfl
       · refine ⟨k1, k2, k3, k4, k5.mono hkeep.le, (p4.mono fun _ _ q => q.mono q2.le).append (k6.mono fun _ _ q => q.mono hkeep.le), k7, k8, x5 (P := P) (B := B) (d := rest.length) (sus := true) (h := h3) (k := .inRange h1.next :: kk) (k' := .inRangeFunc w1.heap.size :: kk') ⟨_, _, rfl, ⟨_, hyl, rfl⟩, hk.mono fun _ _ q => q.mono hkeep.le⟩ (hs.mono hkeep.le)⟩
     · cases e
theorem zcM (kh : HRel P B R h w) (hb : B.env = w0) (ho : Old0 w0.toWorld w) (kt : FrameRel P B R rest.length false h af fr) (hr : af.mode ≠ .run) (kb : zy P B R h rest fs) (hslots : z8 R af.tmps fr.tmps) {id : Nat} {args : List AV} {ds : List ADef} (hdef : af.defers = ⟨.collected id, args⟩ :: ds)
 (hst : stepG P true { frame := fr, callers := fs ++ base, status := .running, dying := none } w = unwind P true fr (fs ++ base) none w) {cs : List ADef} (hcs : zf2 h id = some cs) {m : AM} (e : (some ⟨af.withDefers (cs ++ ds), rest, h.put id (.dfrd none)⟩ : Option AM) = some m) : zcm P w0 base m fr (fs ++ base) w := by
 cases e
 have hd := kt.defers
 rw [hdef] at hd
 obtain ⟨d', ds', hfd, hd1, hd2⟩ := hd
 obtain ⟨L, hL, htg⟩ := hd1.1
 obtain ⟨tg, as⟩ := d'
 simp only at htg; subst htg
 obtain ⟨L', ds0, g1, g2, g3⟩ := kh.obj' hL (zaO hcs)
 rw [hL] at g1; cases g1
 obtain ⟨l, rfl, g4⟩ := g3
 obtain ⟨g5, g6⟩ := xT kh hL (kh.notRo (zaO hcs) rfl) (.dfrd none) (.deferred none) ⟨L, none, hL, xi w _ _ (kh.place _ _ _ hL).2, rfl⟩
 have hrun : (Instr.takeDeferred L.block).run P w = .ok l (xE w L.block (.deferred none)) := by
  have hg : (getObj L.block).run P w = .ok (.deferred (some l)) w := by simp [getObj, Sem.run, g2]
  simp only [Instr.takeDeferred, Sem.run_bind, hg, Result.andThen_ok, xk P (ob := .deferred none) g2 (by simp), Sem.run_pure]
 refine ⟨_, _, _, .one (step_lone_go (fr' := { fr with defers := l ++ ds' }) (cs' := fs ++ base) (w' := xE w L.block (.deferred none)) ?_), B, R, fs, rfl, hb, g5, ho.keeps hb kh g6, ?_, kb.mono g6.le (B.keeps_refl (rest.length)) (Nat.le_refl _)⟩
 · rw [hst]
   simp [unwind, hfd, Sem.runT_eq, hrun]
 · obtain ⟨k1, k2, k3, k4, k5, k6, k7, k8, k9⟩ := kt
   obtain ⟨fn, n, t, td, ds1, mode, kind, round⟩ := af
   cases mode with
   | run => exact absurd rfl hr
   | returning => exact ⟨k1, k2, k3, k4, k5, g4.append hd2, k7, k8, hslots⟩
   | panicking c => exact ⟨k1, k2, k3, k4, k5, g4.append hd2, k7, k8, hslots⟩
end
end Go.Proofs.YtdbfpjgnlfejmaaDoor.Ev
end
section
namespace Go.Proofs.YtdbfpjgnlfejmaaDoor.Ev
open Go
section
variable {P : Program} {w0 : Env} {base : List Frame} {B : Base} {R : Bij} {af : AFrame} {rest : List AFrame} {h : AHeap} {fr : Frame} {fs : List Frame} {w : World}
theorem Plain.ends (k : Plain P w0 base B R af rest h fr fs w) (hs : z8 R af.tmps fr.tmps) {m : AM} (e : (some ⟨af.withMode .returning, rest, h⟩ : Option AM) = some m)
 (hst : step P (lone fr (fs ++ base) w) = .next (lone { fr with mode := .returning } (fs ++ base) w)) : zcm P w0 base m fr (fs ++ base) w := by
 cases e
 refine ⟨_, _, _, .one hst, B, R, fs, rfl, k.base, k.heap, k.old, ?_, k.below⟩
 obtain ⟨k1, k2, k3, k4, k5, k6, k7, k8, k9⟩ := k.top
 obtain ⟨fn, n, t, td, ds, mode, kind, round⟩ := af
 exact ⟨k1, k2, k3, k4, k5, k6, rfl, k8, hs⟩
theorem zku (hmix : P.follows .mixedOrders = true) (k : Plain P w0 base B R af rest h fr fs w) (hs : z8 R af.tmps fr.tmps) {c : Code} {kk : List AItem} {kk' : List Item} (hfr : fr.todo = .code c :: kk') (hk : xU (zP R) kk kk')
 {m : AM} (e : znR P af rest h c kk = some m) : zcm P w0 base m fr (fs ++ base) w := by
 have hm := zlh k
 have cons : ∀ {a : AItem} {b : Item} {as : List AItem} {bs : List Item}, zP R a b → xU (zP R) as bs → xU (zP R) (a :: as) (b :: bs) := fun h1 h2 => ⟨_, _, rfl, h1, h2⟩
 have hround := k.top.round
 have leave : ∀ {jump : Option Code}, ve P af rest h jump = some m →
  (fr.roundOf = none → (jump = none ∨ jump = some .ret) → (stepG P true { frame := fr, callers := fs ++ base, status := .running, dying := none } w).bare = .go { frame := { fr with mode := .returning }, callers := fs ++ base, status := .running, dying := none } w) →
  (∀ l, fr.roundOf = some l → (stepG P true { frame := fr, callers := fs ++ base, status := .running, dying := none } w).bare = (match (Instr.endRound l jump).run P w with
   | .ok v w => (doReturn P true fr (fs ++ base) none v w).bare
   | .halt _ w => (GStep.ended (.stuck "range over a function: no such loop" (fr.pos P)) w).bare)) → zcm P w0 base m fr (fs ++ base) w := by
  intro jump e h1 h2
  unfold ve at e
  split at e
  · rename_i hr
    rw [hr] at hround
    split at e
    · exact k.ends hs e (step_lone_go (h1 hround (.inl rfl)))
    · exact k.ends hs e (step_lone_go (h1 hround (.inr rfl)))
    · cases e
  · rename_i l hr
    exact vj k hr e h2
 cases c with
 | skip => exact k.to hs hk e (step_lone_go (by simp [stepG, stepG.exec, hm, hfr]))
 | label l => exact k.to hs hk e (step_lone_go (by simp [stepG, stepG.exec, hm, hfr]))
 | seq a b => exact k.to (todo := .code a :: .code b :: kk) (todo' := .code a :: .code b :: kk') hs (cons rfl (cons rfl hk)) e (step_lone_go (by simp [stepG, stepG.exec, hm, hfr]))
 | cond c a b =>
  change zkl af rest h a b kk (ev af.tmps c) = some m at e
  unfold zkl at e
  split at e
  · rename_i t hc
    have hv : fr.eval c = .bool t := vq (R := R) (fun u _ hu => hs u _ hu) hc
    cases t with
    | true => exact k.to (todo := .code a :: kk) (todo' := .code a :: kk') hs (cons rfl hk) e (step_lone_go (by simp [stepG, stepG.exec, hm, hfr, hv]))
    | false => exact k.to (todo := .code b :: kk) (todo' := .code b :: kk') hs (cons rfl hk) e (step_lone_go (by simp [stepG, stepG.exec, hm, hfr, hv]))
  · cases e
 | block id b => exact k.to (todo := .code b :: .inBlock id :: kk) (todo' := .code b :: .inBlock id :: kk') hs (cons rfl (cons rfl hk)) e (step_lone_go (by simp [stepG, stepG.exec, hm, hfr]))
 | loop b => exact k.to (todo := .code b :: .inLoop b :: kk) (todo' := .code b :: .inLoop b :: kk') hs (cons rfl (cons rfl hk)) e (step_lone_go (by simp [stepG, stepG.exec, hm, hfr]))
 | scope b => exact k.to (todo := .code b :: .inScope b :: kk) (todo' := .code b :: .inScope b :: kk') hs (cons rfl (cons rfl hk)) e (step_lone_go (by simp [stepG, stepG.exec, hm, hfr]))
 | ret =>
  change ve P af rest h (some .ret) = some m at e
  refine leave e (fun hr _ => by simp [stepG, stepG.exec, hm, hfr, hr]) fun l hr => ?_
  simp only [stepG, stepG.exec, hm, hfr, hr, Sem.runT_eq]
  cases (Instr.endRound l (some .ret)).run P w <;> simp
 | exit id =>
  change (match zdP id kk with | some k => toA af rest h k | none => ve P af rest h (some (.exit id))) = some m at e
  obtain ⟨x1, x2⟩ := zfK (id := id) hk
  cases hx : zdP id kk with
  | some q =>
   rw [hx] at e
   obtain ⟨q', g1, g2⟩ := x1 q hx
   exact k.to hs g2 e (step_lone_go (by simp [stepG, stepG.exec, hm, hfr, g1]))
  | none =>
   rw [hx] at e
   have g := x2 hx
   refine leave e (fun hr hj => by rcases hj with hj | hj <;> cases hj) fun l hr => ?_
   simp only [stepG, stepG.exec, hm, hfr, hr, Sem.runT_eq, g, Option.elim_none]
   cases (Instr.endRound l (some (.exit id))).run P w <;> simp
 | goto l =>
  change (match zdY l kk with | some k => toA af rest h k | none => ve P af rest h (some (.goto l))) = some m at e
  obtain ⟨x1, x2⟩ := zfB (l := l) hk
  cases hx : zdY l kk with
  | some q =>
   rw [hx] at e
   obtain ⟨q', g1, g2⟩ := x1 q hx
   exact k.to hs g2 e (step_lone_go (by simp [stepG, stepG.exec, hm, hfr, g1]))
  | none =>
   rw [hx] at e
   have g := x2 hx
   refine leave e (fun hr hj => by rcases hj with hj | hj <;> cases hj) fun l' hr => ?_
   simp only [stepG, stepG.exec, hm, hfr, hr, Sem.runT_eq, g, Option.elim_none]
   cases (Instr.endRound l' (some (.goto l))).run P w <;> simp
 | region id ops draw =>
  change zhH P af rest h ops draw kk = some m at e
  cases draw with
  | false =>
   refine k.to (todo := .ops ops.toList ops.toList :: kk) (todo' := .inRegion ops (List.range ops.size) :: kk') hs (cons ⟨ops, _, rfl, rfl, ?_⟩ hk) e (step_lone_go (by simp [stepG, stepG.exec, hm, hfr]))
   apply List.ext_getElem?
   intro i
   simp only [List.getElem?_map]
   by_cases hi : i < ops.size
   · rw [List.getElem?_range hi]; simp [hi]
   · rw [List.getElem?_eq_none (by simpa using hi), List.getElem?_eq_none (by simpa using hi)]; rfl
  | true =>
   change (match zfY P ops.toList (zS P ops.toList) with | false => none | true => toA af rest h (.drw ops (zS P ops.toList).ord [] :: kk)) = some m at e
   split at e
   · cases e
   · rename_i hp
     cases e
     have pi := ziV hp
     obtain ⟨g1, g2⟩ := zbb pi (w.tape w.drawn (.order fr.fn id))
     refine ⟨_, _, _, .one (step_lone_go (fr' := { fr with todo := .inRegion ops (Region.linearise .any ops (w.tape w.drawn (.order fr.fn id))) :: kk' }) (cs' := fs ++ base) (w' := w.drew) ?_), B, R, fs, rfl, k.base, k.heap.heap_eq rfl, ⟨k.old.os, k.old.tape, k.old.output, k.old.size, Nat.le_succ_of_le k.old.drawn⟩, ?_, k.below⟩
     · simp [stepG, stepG.exec, hm, hfr, choose, Sem.run, Question.forced, Question.cut, Region.schedule, hmix]
     · obtain ⟨k1, k2, k3, k4, k5, k6, k7, k8, k9⟩ := k.top
       have hrun := k.run
       obtain ⟨fn, n, t, td, ds, mode, kind, round⟩ := af
       simp only at hrun; subst hrun
       obtain ⟨a1, a2, a3⟩ := qV pi.ord
       exact ⟨k1, k2, k3, k4, k5, k6, k7, k8, _, kk', rfl, hk, ⟨pi, rfl, g1, fun i hi => (g2 i).2 (by have := (a2 i hi).1; simpa using this), fun i hi => (g2 i).1 hi, fun i hi => absurd hi List.not_mem_nil, fun hh => (by cases hh), fun u v hv => .inr (hs u v hv), fun p hp => absurd hp List.not_mem_nil, fun p hp => absurd hp List.not_mem_nil⟩⟩
 | rangeFunc f params assign body => exact zb7 k hs hfr hk e
 | refuse why => cases e
end
end Go.Proofs.YtdbfpjgnlfejmaaDoor.Ev
end
section
namespace Go.Proofs.YtdbfpjgnlfejmaaDoor.Ev
open Go
section
variable {P : Program} {w0 : Env} {base : List Frame} {B : Base} {R : Bij} {af : AFrame} {rest : List AFrame} {h : AHeap} {fr : Frame} {fs : List Frame} {w : World}
theorem wrun (k : Wait P w0 base B R af rest h fr fs w) : fr.mode = .run := by
 have := k.top.mode
 rw [k.run] at this; exact this
theorem zhG {ρ : Operand → Option AV} {c : Call} {r : AR} (e : opA P ρ h (.defer c) = some r) : ∃ d, r = .dfr d := by
 change js ρ c = some r at e
 unfold js at e
 split at e
 · cases e
 · split at e
   · split at e
     · cases e; exact ⟨_, rfl⟩
     · cases e
   · split at e
     · cases e
     · cases e; exact ⟨_, rfl⟩
   · cases e
theorem zT {v : Option AV} {d : ADef} (e : qi h v = some (.dfr d)) : False := by obtain ⟨x, _, e2⟩ := zK e; cases e2
theorem qH {v : Option (AV × AHeap)} {d : ADef} (e : zbH v = some (.dfr d)) : False := by obtain ⟨x, y, _, e2⟩ := xb e; cases e2
theorem kB {v : Option AHeap} {d : ADef} (e : zfk v = some (.dfr d)) : False := by obtain ⟨x, _, e2⟩ := wi e; cases e2
theorem zhS {v : Option AHeap} {d : ADef} (e : zg4 v = some (.dfr d)) : False := by obtain ⟨x, _, e2⟩ := zaH e; cases e2
theorem zdV {f : FuncId} {args : List AV} {d : ADef} (e : zdn P h f args = some (.dfr d)) : False := by
 unfold zdn at e
 split at e
 · cases e
 · split at e
   · split at e <;> cases e
   · unfold jn vw zil wD zcF yz zaG qS zcn ze7 zcz zhd zhW wk zaz zak at e
     repeat' split at e
     all_goals cases e
theorem wI {x : AV} {name : String} {args : List AV} {d : ADef} (e : xZ P h x name args = some (.dfr d)) : False := by
 unfold xZ at e
 split at e
 · split at e
   · cases e
   · exact zdV e
 · cases e
theorem zdG {b : Builtin} {ats : Array TypeId} {args : List AV} {d : ADef} (e : yD P h b ats args = some (.dfr d)) : False := by
 unfold yD at e
 split at e
 · exact zT e
 · unfold yA zbY zjR zfP ze0 zb5 at e
   repeat' split at e
   all_goals first
    | cases e; done
    | exact qH e
    | exact zhS e
theorem zeV {ρ : Operand → Option AV} {c : Call} {d : ADef} (e : x8 P ρ h c = some (.dfr d)) : False := by
 unfold x8 at e
 split at e
 · cases e
 · split at e
   · exact zdG e
   · split at e
     · cases e
     · exact wI e
   · split at e
     · cases e
     · unfold zjo at e
       split at e
       · unfold qx at e
         repeat' split at e
         all_goals first
          | exact zdV e
          | exact wI e
          | cases e
       · cases e
       · cases e
theorem zlT {ρ : Operand → Option AV} {op : Op} {d : ADef} (e : opA P ρ h op = some (.dfr d)) : ∃ c, op = .defer c := by
 cases op with
 | «defer» c => exact ⟨c, rfl⟩
 | call c => exact absurd (zeV (show x8 P ρ h c = _ from e)) id
 | next it s =>
  exfalso
  obtain ⟨a, _, e⟩ := zu (show wb ρ it _ = _ from e)
  unfold zj5 zjm at e
  repeat' split at e
  all_goals cases e
 | range t x =>
  exfalso
  obtain ⟨a, _, e⟩ := zu (show wb ρ x _ = _ from e)
  unfold zfI at e
  repeat' split at e
  all_goals cases e
 | panic x =>
  exfalso
  obtain ⟨a, _, e⟩ := zu (show wb ρ x _ = _ from e)
  unfold zik at e
  split at e <;> cases e
 | makeMap t r =>
  exfalso
  change zdI P ρ h t r = _ at e
  unfold zdI at e
  repeat' split at e
  all_goals cases e
 | convert s d x =>
  exfalso
  obtain ⟨a, _, e⟩ := zu (show wb ρ x _ = _ from e)
  unfold zfl at e
  split at e
  · exact qH e
  · exact zT e
 | alloc t =>
  exfalso
  change zaE P h t (wJ P t) = _ at e
  unfold zaE at e
  split at e
  · cases e
  · exact qH e
 | build t parts =>
  exfalso
  change vQ P h t (vV ρ parts.toList) = _ at e
  unfold vQ at e
  split at e
  · cases e
  · exact zT e
 | buildSlice t n parts =>
  exfalso
  change xF P h t n (vV ρ parts.toList) = _ at e
  unfold xF at e
  split at e
  · cases e
  · exact qH e
 | insert t m k x =>
  exfalso
  change qh P ρ h t m k x = _ at e
  unfold qh at e
  repeat' split at e
  all_goals first | exact kB e | cases e
 | mapUpdate t m k x =>
  exfalso
  change qh P ρ h t m k x = _ at e
  unfold qh at e
  repeat' split at e
  all_goals first | exact kB e | cases e
 | entryStore t m s x =>
  exfalso
  change wA ρ h m s x = _ at e
  unfold wA at e
  repeat' split at e
  all_goals first | exact kB e | cases e
 | mapEntry t x y => obtain ⟨a, b, _, _, e⟩ := xr (show two ρ x y _ = _ from e); exact absurd (qH e) id
 | move x => exact absurd (zT (show qi h _ = _ from e)) id
 | assign x => exact absurd (zT (show qi h _ = _ from e)) id
 | pick c a b => exact absurd (zT (show qi h _ = _ from e)) id
 | makeFunc f a b => exact absurd (zT (show qi h _ = _ from e)) id
 | slice t x a b c => exact absurd (zT (show qi h _ = _ from e)) id
 | extract x i => exact absurd (zT (show qi h _ = _ from e)) id
 | box t x => obtain ⟨a, _, e⟩ := zu (show wb ρ x _ = _ from e); exact absurd (qH e) id
 | load t x => obtain ⟨a, _, e⟩ := zu (show wb ρ x _ = _ from e); exact absurd (zT e) id
 | nilCheck x => obtain ⟨a, _, e⟩ := zu (show wb ρ x _ = _ from e); exact absurd (zT e) id
 | unOp o t x => obtain ⟨a, _, e⟩ := zu (show wb ρ x _ = _ from e); exact absurd (zT e) id
 | makeInterface t x => obtain ⟨a, _, e⟩ := zu (show wb ρ x _ = _ from e); exact absurd (zT e) id
 | fieldAddr t x f => obtain ⟨a, _, e⟩ := zu (show wb ρ x _ = _ from e); exact absurd (zT e) id
 | field t x f => obtain ⟨a, _, e⟩ := zu (show wb ρ x _ = _ from e); exact absurd (zT e) id
 | typeAssert x t u k => obtain ⟨a, _, e⟩ := zu (show wb ρ x _ = _ from e); exact absurd (zT e) id
 | store t x y => obtain ⟨a, b, _, _, e⟩ := xr (show two ρ x y _ = _ from e); exact absurd (kB e) id
 | binOp o t x y u => obtain ⟨a, b, _, _, e⟩ := xr (show two ρ x y _ = _ from e); exact absurd (zT e) id
 | makeSlice t x y => obtain ⟨a, b, _, _, e⟩ := xr (show two ρ x y _ = _ from e); exact absurd (qH e) id
 | indexAddr t x y => obtain ⟨a, b, _, _, e⟩ := xr (show two ρ x y _ = _ from e); exact absurd (zT e) id
 | index t x y => obtain ⟨a, b, _, _, e⟩ := xr (show two ρ x y _ = _ from e); exact absurd (zT e) id
 | lookup t x y k => obtain ⟨a, b, _, _, e⟩ := xr (show two ρ x y _ = _ from e); exact absurd (zT e) id
 | _ => cases (show (none : Option AR) = _ from e)
theorem zeO (k : Wait P w0 base B R af rest h fr fs w) {s : Sem Next} {m : AM} (hop : xM P B R w s .recover)
 (hst : (stepG P true { frame := fr, callers := fs ++ base, status := .running, dying := none } w).bare = (stepG.apply P true fr (fs ++ base) none s w).bare) (e : zcp P af rest h = some m) : zcm P w0 base m fr (fs ++ base) w := by
 have hop : s.run P w = .ok .recover w := hop
 unfold zcp at e
 split at e
 · cases e
 · rename_i hrd
   have hfr : fr.roundOf = none := by have := k.top.round; rw [hrd] at this; exact this
   split at e
   · rename_i hkd
     have hkf : fr.kind = .deferred := k.top.kind.trans hkd
     split at e
     · cases e
     · rename_i c r
       obtain ⟨f, fs', rfl, kf, kr⟩ := k.below
       unfold zd5 at e
       split at e
       · rename_i v older hm
         obtain ⟨a, e1, rfl⟩ := ya e
         have hmode := kf.mode
         rw [hm] at hmode
         obtain ⟨ch', hfm, x', older', rfl, hx, hold⟩ := hmode
         obtain ⟨y1, y2, y3⟩ := x'
         obtain ⟨hx1, hx2, hx3⟩ := hx
         simp only at hx1 hx2 hx3
         subst hx2 hx3
         refine ⟨_, _, _, .one (step_lone_go (fr' := fr.finish y1) (cs' := { f with mode := .panicking ({ v := y1, recovered := true } :: older') } :: (fs' ++ base)) (w' := w) ?_), B, R, { f with mode := .panicking ({ v := y1, recovered := true } :: older') } :: fs', rfl, k.base, k.heap, k.old, xH k.top k.run e1 hx1, _, _, rfl, ?_, kr⟩
         · rw [hst]
           simp [stepG.apply, Sem.runT_eq, hop, hfr, tryRecover, hkf, hfm]
         · obtain ⟨k1, k2, k3, k4, k5, k6, k7, k8, k9⟩ := kf
           obtain ⟨fn, n, t, td, ds0, mode, kind, round⟩ := c
           simp only at hm; subst hm
           exact ⟨k1, k2, k3, k4, k5, k6, ⟨_, rfl, _, _, rfl, ⟨hx1, rfl, rfl⟩, hold⟩, k8, k9⟩
       · rename_i hno
         obtain ⟨a, e1, rfl⟩ := ya e
         have hmode := kf.mode
         have hnone : tryRecover fr (f :: (fs' ++ base)) = none := by
          unfold tryRecover
          rw [hkf]
          simp only []
          cases hm : c.mode with
          | run => rw [hm] at hmode; rw [show f.mode = .run from hmode]
          | returning => rw [hm] at hmode; rw [show f.mode = .returning from hmode]
          | panicking ch =>
           rw [hm] at hmode
           obtain ⟨ch', hfm, hc⟩ := hmode
           rw [hfm]
           cases ch with
           | nil => cases hc; rfl
           | cons x older =>
            obtain ⟨x', older', rfl, hx, hold⟩ := hc
            obtain ⟨x1, x2⟩ := x
            cases x2 with
            | false => exact absurd hm (hno _ _)
            | true =>
             obtain ⟨y1, y2, y3⟩ := x'
             obtain ⟨hx1, hx2, hx3⟩ := hx
             simp only at hx2 hx3
             subst hx2 hx3
             rfl
         refine ⟨_, _, _, .one (step_lone_go (fr' := fr.finish .nilIface) (cs' := f :: (fs' ++ base)) (w' := w) ?_), B, R, f :: fs', rfl, k.base, k.heap, k.old, xH k.top k.run e1 rfl, f, fs', rfl, kf, kr⟩
         rw [hst]
         simp [stepG.apply, Sem.runT_eq, hop, hfr, hnone]
   · cases e
theorem zfs [XT P] [XTOk P] (k : Wait P w0 base B R af rest h fr fs w) {ops : Array Oper} {i : Nat} {s' : List Nat} {k' : List Item} (ht : fr.todo = .inRegion ops (i :: s') :: k') {o : Oper} (ho : ops[i]? = some o)
 (hops : ∀ x ∈ o.op.operands, ∀ v, ev af.tmps x = some v → zl R v (fr.eval x))
 (hgu : ∀ g b q u v, o.guard = some (g, b) → ops[g]? = some q → q.dst = some u → af.tmps.get u = some v → ∃ x, fr.tmps[u]? = some x ∧ zl R v x)
 {m : AM} (e : vD P af rest h ops.toList o = some m) : zcm P w0 base m fr (fs ++ base) w := by
 have hm := wrun k
 unfold vD at e
 split at e
 · cases e
 · rename_i wt hwt
   have hw := jm hwt hgu
   split at e
   · exact ⟨_, _, _, .one (vW hm ht ho hw), k.got (v := vi) (x := undef) ⟨[], rfl, rfl⟩ k.heap (Keeps.refl _ _) e⟩
   · unfold zbd at e
     split at e
     · cases e
     · rename_i r hr
       have hop := zgd k.heap k.room hops hr
       have hoper : (stepG P true { frame := fr, callers := fs ++ base, status := .running, dying := none } w) = stepG.oper P true fr (fs ++ base) none w := by
        simp only [stepG, stepG.exec, hm, ht, ho, hw, Option.map_some, Option.getD_some, if_true]
       by_cases hdf : ∃ c, o.op = .defer c
       · obtain ⟨c, hc⟩ := hdf
         obtain ⟨d, rfl⟩ := zhG (by rw [hc] at hr; exact hr)
         change zeC P af rest h d = some m at e
         unfold zeC at e
         split at e
         · rename_i hrd
           have hfr : fr.roundOf = none := by have := k.top.round; rw [hrd] at this; exact this
           obtain ⟨d', r1, r2⟩ := hop
           have hst : (stepG P true { frame := fr, callers := fs ++ base, status := .running, dying := none } w) = stepG.apply P true fr (fs ++ base) none (execOp fr.eval o) w := by
            rw [hoper]
            simp only [stepG.oper, Frame.oper?, ht, ho, hfr]
           obtain ⟨a, e1, rfl⟩ := ya e
           refine ⟨_, _, _, .one (step_lone_go (fr' := ({ fr with defers := d' :: fr.defers } : Frame).finish undef) (cs' := fs ++ base) (w' := w) (by rw [hst]; simp [stepG.apply, Sem.runT_eq, r1])), B, R, fs, rfl, k.base, k.heap, k.old, ?_, k.below⟩
           refine xH (h0 := h) (v := vi) ?_ ?_ e1 ⟨[], rfl, rfl⟩
           · obtain ⟨k1, k2, k3, k4, k5, k6, k7, k8, k9⟩ := k.top
             obtain ⟨fn, n, t, td, ds, mode, kind, round⟩ := af
             exact ⟨k1, k2, k3, k4, k5, ⟨_, _, rfl, r2, k6⟩, k7, k8, k9⟩
           · have := k.run
             obtain ⟨fn, n, t, td, ds, mode, kind, round⟩ := af
             exact this
         · cases e
       · have hst : (stepG P true { frame := fr, callers := fs ++ base, status := .running, dying := none } w) = stepG.apply P true fr (fs ++ base) none (execOp fr.eval o) w := by
          rw [hoper]
          simp only [stepG.oper, Frame.oper?, ht, ho]
          split
          · rename_i _ c _ hc
            exact absurd ⟨c, hc⟩ hdf
          · rfl
         cases r with
         | round l args => exact zi7 k hop (by rw [hst]) e
         | dfr d =>
          exact absurd (zlT hr) hdf
         | recover => exact zeO k hop (by rw [hst]) e
         | val v h' => obtain ⟨a, b, c, h1, h2⟩ := wN k hop (by simp) (by simp) (by simp) (by rw [hst]) ⟨_, _, _, _, ht⟩ e; exact ⟨a, b, c, h1, h2⟩
         | skip h' => obtain ⟨a, b, c, h1, h2⟩ := wN k hop (by simp) (by simp) (by simp) (by rw [hst]) ⟨_, _, _, _, ht⟩ e; exact ⟨a, b, c, h1, h2⟩
         | enter f as h' => obtain ⟨a, b, c, h1, h2⟩ := wN k hop (by simp) (by simp) (by simp) (by rw [hst]) ⟨_, _, _, _, ht⟩ e; exact ⟨a, b, c, h1, h2⟩
         | panic v => obtain ⟨a, b, c, h1, h2⟩ := wN k hop (by simp) (by simp) (by simp) (by rw [hst]) ⟨_, _, _, _, ht⟩ e; exact ⟨a, b, c, h1, h2⟩
end
end Go.Proofs.YtdbfpjgnlfejmaaDoor.Ev
end
section
namespace Go.Proofs.YtdbfpjgnlfejmaaDoor.Ev
open Go
section
variable {P : Program} {w0 : Env} {base : List Frame} {B : Base} {R : Bij} {af : AFrame} {rest : List AFrame} {h : AHeap} {fr : Frame} {fs : List Frame} {w : World}
theorem zhy {ρ : Operand → Option AV} {o : Oper} {r : AR} (he : yY P o = false) (e : opA P ρ h o.op = some r) : ∃ v h', r = .val v h' ∧
 ((xy o.op = true ∧ ∃ vf ob, yf P ρ o.op vf ob ∧ v = vf h.next ∧ h' = h.new ob) ∨ (xy o.op = false ∧ vY o.op = true ∧ h' = h ∧ ∀ h, opA P ρ h o.op = some (.val v h)) ∨
  (xy o.op = false ∧ vY o.op = false ∧ yP P o.op = true ∧ h' = h)) := by
 cases hf : xy o.op with
 | true =>
  obtain ⟨vf, ob, k⟩ := zkt hf e
  have := k.1 h
  rw [e] at this
  cases this
  exact ⟨_, _, rfl, .inl ⟨rfl, vf, ob, k, rfl, rfl⟩⟩
 | false =>
  cases hp : vY o.op with
  | true =>
   obtain ⟨v, rfl, k⟩ := zjH hp e
   exact ⟨_, _, rfl, .inr (.inl ⟨rfl, rfl, rfl, k⟩)⟩
  | false =>
   have hr : yP P o.op = true := by
    cases hr : yP P o.op with
    | true => rfl
    | false =>
     exfalso
     unfold yY at he
     cases hop : o.op <;> simp [hop] at he <;> simp [hop] at hf hp hr <;> simp [hf, hp, hr] at he
   obtain ⟨v, rfl⟩ := zgj hr e
   exact ⟨_, _, rfl, .inr (.inr ⟨rfl, rfl, hr, rfl⟩)⟩
theorem zlI {fn : FuncId} {n : Nat} {t : T AV} {all : Array Oper} {i : Nat} {l dn : List Nat} {kk : List AItem} {ds : List ADef} {mode : AMode} {kind : CallKind} {round : Option Nat} {o : Oper} {v : AV} {h' : AHeap} {m : AM} (ho : all[i]? = some o) (he : yY P o = false)
 (e : jM rest h' (xm P ⟨fn, n, t, .drw all (i :: l) dn :: kk, ds, mode, kind, round⟩ h' v) = some m) :
 ∃ t', zjx t n o.dst v = some t' ∧ (xy o.op = true → qU P all.toList 0 t' h' dn = true) ∧ m = ⟨⟨fn, n, t', .drw all l (i :: dn) :: kk, ds, mode, kind, round⟩, rest, h'⟩ := by
 obtain ⟨a, e1, rfl⟩ := ya e
 change (match all[i]? with | none => none | some o => zde P ⟨fn, n, t, .drw all (i :: l) dn :: kk, ds, mode, kind, round⟩ h' all i o l dn kk (zjx t n o.dst v)) = some a at e1
 rw [ho] at e1
 simp only [] at e1
 unfold zde at e1
 split at e1
 · cases e1
 · rename_i t' ht
   split at e1
   · cases e1
   · rename_i hre
     cases e1
     exact ⟨t', ht, fun hf => by simpa [hf, he] using hre, rfl⟩
theorem zmu [XT P] [XTOk P] (k : Plain P w0 base B R af rest h fr fs w) {all : Array Oper} {l dn : List Nat} {kk : List AItem} (ht : af.todo = .drw all l dn :: kk) {s : List Nat} {k' : List Item} (hfr : fr.todo = .inRegion all s :: k') (hk : xU (zP R) kk k')
 (hd : Drw P B R rest.length false all l dn af.tmps h fr.tmps s) {m : AM} (e : zli P all l dn af rest h kk = some m) : zcm P w0 base m fr (fs ++ base) w := by
 have hm := zlh k
 have hroom : B.n ≤ w.heap.size := by show B.env.heap.size ≤ _; rw [k.base]; exact k.old.size
 have hrun := k.run
 obtain ⟨fn, n, t, td, ds, mode, kind, round⟩ := af
 simp only at ht hrun hd; subst ht; subst hrun
 cases l with
 | nil =>
  change toA _ rest h kk = some m at e
  cases e
  obtain ⟨B', R', w', a', g1, g2, g3, g4, g5, g6, g7⟩ := hd.run_out s k.heap hroom hm hfr (fs ++ base)
  have st : step P (lone { fr with tmps := a', todo := .inRegion all [] :: k' } (fs ++ base) w') = .next (lone { fr with tmps := a', todo := k' } (fs ++ base) w') :=
   step_lone_go (by simp [stepG, stepG.exec, hm])
  refine ⟨_, _, _, g1.trans (.one st), B', R', fs, rfl, g3.1.trans k.base, g5, k.old.keeps k.base k.heap g6, ?_, k.below.mono g4 g3 (Nat.le_refl _)⟩
  obtain ⟨k1, k2, k3, k4, k5, k6, k7, k8, k9⟩ := k.top
  exact ⟨k1, k2, k3, k4, k5.mono g4, k6.mono fun _ _ q => q.mono g4, k7.mono g4, g2.trans k8, x5 (hk.mono fun _ _ q => q.mono g4) g7⟩
 | cons i l =>
  have hin := hd.facts.2.2.2.1 i List.mem_cons_self
  obtain ⟨o, ho⟩ : ∃ o, all[i]? = some o := ⟨_, Array.getElem?_eq_getElem hin⟩
  change zlF P _ rest h all.toList all[i]? = some m at e
  rw [ho] at e
  change vD P _ rest h all.toList o = some m at e
  have hidn : i ∉ dn := fun hi => (List.nodup_append.1 hd.facts.2.2.2.2.1).2.2 i (by simpa using hi) i List.mem_cons_self rfl
  obtain ⟨k1, k2, k3, k4, k5, k6, k7, k8, k9⟩ := k.top
  cases he : yY P o with
  | true =>
   have hem : (zS P all.toList).em.testBit i = true := by rw [hd.plan.em i o ho]; exact he
   obtain ⟨B', R', w', a', s', g1, g2, g3, g4, g5, g6, g7⟩ := hd.catch_up hem s k.heap hroom hm hfr (fs ++ base)
   have hw : Wait P w0 base B' R' ⟨fn, n, t, .drw all (i :: l) dn :: kk, ds, .run, kind, round⟩ rest h { fr with tmps := a', todo := .inRegion all (i :: s') :: k' } fs w' :=
    ⟨g5, g3.1.trans k.base, k.old.keeps k.base k.heap g6, ⟨k1, k2, k3, k4, k5.mono g4, k6.mono fun _ _ q => q.mono g4, k7.mono g4, g2.trans k8, i :: s', k', rfl, hk.mono fun _ _ q => q.mono g4, g7.suspend hem⟩, rfl, k.below.mono g4 g3 (Nat.le_refl _)⟩
   have hreads := g7.reads ho hidn
   obtain ⟨fr', cs', w2, s1, s2⟩ := zfs hw rfl ho (fun x hx v hv => vq (fun u hu he => hreads u v (by rw [hu] at hx; exact xu hx) he) hv)
    (fun g b q u v hg hq hu hv => hreads u v (yk hg (by simpa using hq) hu) hv) e
   exact ⟨fr', cs', w2, g1.trans s1, s2⟩
  | false =>
   have hem : (zS P all.toList).em.testBit i = false := by rw [hd.plan.em i o ho]; exact he
   have hown := hd.own_dst ho he
   have hap : ∀ p ∈ dn, p ∈ s → ∀ q, all[p]? = some q → ∀ x, o.dst = some x → (xc all.toList q).contains x = false ∧ q.dst ≠ some x := fun p hp hps q hq x hx =>
    hd.apart ho hx hidn hp hq (by
     cases hb : (zS P all.toList).em.testBit p with
     | false => rfl
     | true => exact absurd hps (hd.effs p hp hb)) (fun hh => by rw [hem] at hh; cases hh)
   have hop : ∀ {v : AV} {t' : T AV}, t' = zgO t o.dst v → ∀ h, opA P (ev t') h o.op = opA P (ev t) h o.op := fun {v t'} ht' h => by
    subst ht'
    unfold zgO
    split
    · rfl
    · rename_i u hu; exact zeW all.toList (hown u hu) h
   have hwg : ∀ {v : AV} {t' : T AV}, t' = zgO t o.dst v → zW all.toList t' o.guard = zW all.toList t o.guard := fun {v t'} ht' => by
    subst ht'
    unfold zgO
    split
    · rfl
    · rename_i u hu; exact vB (hown u hu)
   have hget : ∀ {v : AV} {t' : T AV}, t' = zgO t o.dst v → ∀ u, o.dst = some u → t'.get u = some v := fun {v t'} ht' u hu => by
    subst ht'; rw [jQ, if_pos hu]
   have goes : ∀ {B' : Base} {h' : AHeap} {v : AV}, jM rest h' (xm P ⟨fn, n, t, .drw all (i :: l) dn :: kk, ds, .run, kind, round⟩ h' v) = some m → HRel P B' R h' w → B.keeps B' rest.length →
    (∀ t', t' = zgO t o.dst v → (xy o.op = true → qU P all.toList 0 t' h' dn = true) → (∀ p ∈ dn, p ∈ s → ∀ q, all[p]? = some q → kW P B rest.length false all t h p q → kW P B' rest.length false all t' h' p q) ∧ kW P B' rest.length false all t' h' i o) →
    zcm P w0 base m fr (fs ++ base) w := by
    intro B' h' v e hh hb hp
    obtain ⟨t', f1, f2, rfl⟩ := zlI ho he e
    obtain ⟨q1, q2⟩ := hp t' (j8 f1).1 f2
    exact ⟨_, _, _, Steps.refl _ _, B', R, fs, rfl, hb.1.trans k.base, hh, k.old, ⟨k1, k2, k3, k4, k5, k6, k7, k8, s, k', hfr, hk, hd.ahead ho he k8 f1 q1 q2⟩, k.below.mono R.le_refl hb (Nat.le_refl _)⟩
   unfold vD at e
   split at e
   · cases e
   · rename_i wt hwt
     split at e
     · refine goes e k.heap (B.keeps_refl _) fun t' ht' _ => ⟨fun p hp hps q hq hpe => hpe.other ht' (hap p hp hps q hq), false, by rw [hwg ht']; exact hwt, fun _ u hu => hget ht' u hu, fun hh => (by cases hh)⟩
     · unfold zbd at e
       split at e
       · cases e
       · rename_i r hr
         obtain ⟨v, h', rfl, hcase⟩ := zhy he hr
         change jM rest h' (xm P _ h' v) = some m at e
         rcases hcase with ⟨c1, vf, ob, c2, rfl, rfl⟩ | ⟨c1, c2, rfl, c3⟩ | ⟨c1, c2, c3, rfl⟩
         · refine goes (B' := B.mark h.next ob (rest.length, i)) e (k.heap.mark ob _) ⟨rfl, fun id ob' e1 _ => zbA k.heap ob _ id ob' e1⟩ fun t' ht' hre => ⟨fun p hp hps q hq hpe => ?_, true, by rw [hwg ht']; exact hwt, fun hh => (by cases hh), fun _ => .inl ⟨c1, vf, ob, h.next, ?_, ?_, ?_, fun u hu => hget ht' u hu⟩⟩
           · refine (kW.base (zbA k.heap ob _) hpe).suspend.again ht' (hap p hp hps q hq) fun h1 h2 h3 => ?_
             have hanc : (0 : Nat).testBit p = false := Nat.zero_testBit p
             have := vH (hre c1) p hp
             rw [show all.toList[p]? = some q by simpa using hq] at this
             simp only [ki, h1, hanc, Bool.not_false, Bool.and_self] at this
             exact this
           · subst ht'
             unfold zgO
             split
             · exact c2
             · rename_i u hu; exact c2.set all.toList (hown u hu)
           · simp [Base.mark]
           · simp [Base.mark]
         · refine goes e k.heap (B.keeps_refl _) fun t' ht' _ => ⟨fun p hp hps q hq hpe => hpe.other ht' (hap p hp hps q hq), true, by rw [hwg ht']; exact hwt, fun hh => (by cases hh), fun _ => .inr (.inl ⟨c1, c2, v, fun h => by rw [hop ht']; exact c3 h, fun u hu => hget ht' u hu⟩)⟩
         · refine goes e k.heap (B.keeps_refl _) fun t' ht' _ => ⟨fun p hp hps q hq hpe => hpe.other ht' (hap p hp hps q hq), true, by rw [hwg ht']; exact hwt, fun hh => (by cases hh), fun _ => .inr (.inr ⟨c1, c2, c3, .inr ⟨v, by rw [hop ht']; exact hr, fun u hu => hget ht' u hu⟩⟩)⟩
theorem zjM [XT P] [XTOk P] (hmix : P.follows .mixedOrders = true) (k : Plain P w0 base B R af rest h fr fs w) {it : AItem} {kk : List AItem} (ht : af.todo = it :: kk) {m : AM} (e : znc P af rest h it kk = some m) : zcm P w0 base m fr (fs ++ base) w := by
 have hm := zlh k
 have htop : zQ P B R rest.length false h af.todo af.tmps fr.todo fr.tmps := by
  have := k.top.top
  rw [k.run] at this; exact this
 rw [ht] at htop
 cases it with
 | drw all l dn =>
  obtain ⟨s, k', hfr, hk, hd⟩ := htop
  exact zmu k ht hfr hk hd e
 | code c =>
  obtain ⟨⟨_, kk', hfr, rfl, hk⟩, hs⟩ := htop
  exact zku hmix k hs hfr hk e
 | inBlock i =>
  obtain ⟨⟨_, kk', hfr, rfl, hk⟩, hs⟩ := htop
  exact k.to hs hk e (step_lone_go (by simp [stepG, stepG.exec, hm, hfr]))
 | inLoop b =>
  obtain ⟨⟨_, kk', hfr, rfl, hk⟩, hs⟩ := htop
  exact k.to (todo := .code b :: .inLoop b :: kk) (todo' := .code b :: .inLoop b :: kk') hs ⟨_, _, rfl, rfl, _, _, rfl, rfl, hk⟩ e (step_lone_go (by simp [stepG, stepG.exec, hm, hfr]))
 | inScope b =>
  obtain ⟨⟨_, kk', hfr, rfl, hk⟩, hs⟩ := htop
  exact k.to hs hk e (step_lone_go (by simp [stepG, stepG.exec, hm, hfr]))
 | ops all l =>
  obtain ⟨⟨_, kk', hfr, ⟨ops, todo, rfl, rfl, hmap⟩, hk⟩, hs⟩ := htop
  cases l with
  | nil =>
   have : todo = [] := by simpa using hmap.symm
   subst this
   exact k.to hs hk e (step_lone_go (by simp [stepG, stepG.exec, hm, hfr]))
  | cons o l =>
   cases todo with
   | nil => simp at hmap
   | cons i todo =>
    simp only [List.map_cons, List.cons.injEq] at hmap
    change vD P af rest h ops.toList o = some m at e
    have hw : Wait P w0 base B R af rest h fr fs w := ⟨k.heap, k.base, k.old, by
     obtain ⟨k1, k2, k3, k4, k5, k6, k7, k8, k9⟩ := k.top
     refine ⟨k1, k2, k3, k4, k5, k6, k7, k8, ?_⟩
     have hr := k.run
     obtain ⟨fn, n, t, td, ds, mode, kind, round⟩ := af
     simp only at hr ht; subst hr; subst ht
     exact ⟨⟨_, kk', hfr, ⟨ops, _, rfl, rfl, by simp only [List.map_cons, List.cons.injEq]; exact hmap⟩, hk⟩, hs⟩, k.run, k.below⟩
    exact zfs hw hfr hmap.1.symm (fun x _ v hv => vq (fun u _ hu => hs u v hu) hv) (fun g b q u v _ _ _ hv => hs u v hv) e
 | inRange i => cases e
 | endRange i =>
  obtain ⟨⟨_, kk', hfr, ⟨L, hL, rfl⟩, hk⟩, hs⟩ := htop
  exact zdK k hs hL hfr hk e
 | beginRound =>
  obtain ⟨⟨_, kk', hfr, rfl, hk⟩, hs⟩ := htop
  exact zjj k hs hfr hk e
def resF (a : Array Value) : ResultVar → Sem Value
 | .tmp t => pure (a.getD t undef)
 | .cell x t => do loadVar t (← asAddr (a.getD x undef))
theorem zgU (fn : Func) (a : Array Value) : results fn a = (do let vs ← fn.results.mapM (resF a); pure (if h : vs.size = 1 then vs[0] else .tuple vs)) := by
 unfold results
 first
  | rfl
  | (congr 1; done)
  | (congr 1; funext x; cases x <;> rfl)
  | (congr 1; congr 1; funext x; cases x <;> rfl)
theorem qW (kh : HRel P B R h w) {t : T AV} {a : Array Value} (hs : z8 R t a) : ∀ {l : List ResultVar} {vs : List AV}, jY P h t l = some vs →
 ∃ vs', (l.mapM (resF a)).run P w = .ok vs' w ∧ zm R vs vs'
 | [], vs, e => by cases e; exact ⟨[], by simp, rfl⟩
 | r :: l, vs, e => by
  have getD : ∀ {u : Nat} {v : AV}, t.get u = some v → zl R v (a.getD u undef) := fun {u v} hv => by
   obtain ⟨y, h1, h2⟩ := hs u v hv
   rw [show a.getD u undef = y by
    obtain ⟨hl, hg⟩ := Array.getElem?_eq_some_iff.1 h1
    simp [Array.getD, hl, hg]]
   exact h2
  have consO_some : ∀ {x : Option AV} {y : Option (List AV)}, zkj x y = some vs → ∃ v r, x = some v ∧ y = some r ∧ vs = v :: r := fun {x y} e => by
   unfold zkj at e
   split at e
   · cases e
   · split at e
     · cases e
     · cases e; exact ⟨_, _, rfl, rfl, rfl⟩
  cases r with
  | tmp u =>
   obtain ⟨v, r, h1, h2, rfl⟩ := consO_some e
   obtain ⟨vs', g1, g2⟩ := qW kh hs h2
   exact ⟨a.getD u undef :: vs', by simp only [List.mapM_cons, resF, Sem.run_bind, Sem.run_pure, Result.andThen_ok, g1], _, _, rfl, getD h1, g2⟩
  | cell u ty =>
   obtain ⟨v, r, h1, h2, rfl⟩ := consO_some e
   obtain ⟨vs', g1, g2⟩ := qW kh hs h2
   unfold zno at h1
   split at h1
   · cases h1
   · rename_i p hp
     have hpv := getD hp
     obtain ⟨v', q1, q2⟩ := qJ kh h1 hpv
     have hpp : ∃ ad, a.getD u undef = .pointer (some ad) := by
      unfold zb9 at h1
      split at h1
      · obtain ⟨L, _, _, hh⟩ := hpv; exact ⟨_, hh⟩
      · exact ⟨_, hpv⟩
      · cases h1
     obtain ⟨ad, had⟩ := hpp
     rw [had] at q1
     have q3 : (loadVar ty ad).run P w = .ok v' w := by simpa [Instr.loadAt, Instr.sureAddr] using q1
     exact ⟨v' :: vs', by simp only [List.mapM_cons, resF, Sem.run_bind, Sem.run_pure, Result.andThen_ok, had, asAddr, q3, g1], _, _, rfl, q2, g2⟩
theorem zdQ (kh : HRel P B R h w) (hs : z8 R af.tmps fr.tmps) (hfn : fr.fn = af.fn) {v : AV} (e : znM P af h = some v) : ∃ fn v', P.funcs[fr.fn]? = some fn ∧ (results fn fr.tmps).run P w = .ok v' w ∧ zl R v v' := by
 unfold znM at e
 split at e
 · cases e
 · rename_i fn hf
   unfold znJ at e
   split at e
   · cases e
   · rename_i l hl
     obtain ⟨vs, g1, g2⟩ := qW kh hs hl
     refine ⟨fn, if h : vs.toArray.size = 1 then vs.toArray[0] else .tuple vs.toArray, by rw [hfn]; exact hf, ?_, ?_⟩
     · rw [zgU, Array.mapM_eq_mapM_toList]
       simp only [Sem.run_bind, Sem.run_map, g1, Result.andThen_ok, Sem.run_pure]
     · split at e
       · cases e
         obtain ⟨y, ys, rfl, hy, hr⟩ := g2
         cases hr
         simpa using hy
       · rename_i hn
         cases e
         rw [dif_neg]
         · exact ⟨vs, rfl, g2⟩
         · intro hsz
           have := g2.length
           simp at hsz
           rw [hsz] at this
           match l, this, hn with
           | [x], _, hn => exact hn x rfl
theorem zmW {f : Fn} {cap : List AV} {d' : Deferred} {args : List AV} (k : yL R ⟨.fn f cap, args⟩ d') : ∃ c as : List Value, d' = ⟨.fn f c.toArray, as.toArray⟩ ∧ zm R cap c ∧ zm R args as := by
 obtain ⟨⟨_, c, h1, h2⟩, h3⟩ := k
 obtain ⟨t, a⟩ := d'
 simp only at h1 h3
 exact ⟨c, a.toList, by rw [h1], h2, h3⟩
theorem zgS (kh : HRel P B R h w) (hb : B.env = w0) (ho : Old0 w0.toWorld w) (kt : FrameRel P B R rest.length false h af fr) (hr : af.mode ≠ .run) (kb : zy P B R h rest fs) {m : AM} (e : zav P af rest h = some m) : zcm P w0 base m fr (fs ++ base) w := by
 have hslots : z8 R af.tmps fr.tmps := by
  have := kt.top
  unfold zdb at this
  split at this
  · exact absurd ‹_› hr
  · exact this
 have hst : stepG P true { frame := fr, callers := fs ++ base, status := .running, dying := none } w = unwind P true fr (fs ++ base) none w := by
  have := kt.mode
  cases hm : af.mode with
  | run => exact absurd hm hr
  | returning => rw [hm] at this; have hf : fr.mode = .returning := this; simp only [stepG, hf]
  | panicking c => rw [hm] at this; obtain ⟨c', hf, _⟩ := this; simp only [stepG, hf]
 have hroom : B.n ≤ w.heap.size := by show B.env.heap.size ≤ _; rw [hb]; exact ho.size
 unfold zav at e
 split at e
 · rename_i d ds hdef
   have hd := kt.defers
   rw [hdef] at hd
   obtain ⟨d', ds', hfd, hd1, hd2⟩ := hd
   obtain ⟨tgt, args⟩ := d
   unfold zc8 at e
   simp only at e
   split at e
   · rename_i id
     split at e
     · cases e
     · rename_i cs hcs
       exact zcM kh hb ho kt hr kb hslots hdef hst hcs e
   · rename_i f cap
     obtain ⟨c, as, rfl, h1, h2⟩ := zmW hd1
     unfold zdh at e
     split at e
     · rename_i g args2 h2' hinv
       obtain ⟨a, e1, rfl⟩ := ya e
       have hop := ww kh hroom hinv h2 h1
       obtain ⟨as2, r1, r2, r3⟩ := hop
       refine ⟨_, _, _, .one (step_lone_go (fr' := Frame.enter P g as2.toArray .deferred) (cs' := { fr with defers := ds' } :: (fs ++ base)) (w' := w) ?_), B, R, { fr with defers := ds' } :: fs, rfl, hb, r3, ho, we e1 r2 (.inr rfl), _, _, rfl, ?_, kb.mono R.le_refl (B.keeps_refl (rest.length)) (Nat.le_refl _)⟩
       · rw [hst]
         simp [unwind, hfd, callDeferred, Sem.runT_eq, r1]
       · obtain ⟨k1, k2, k3, k4, k5, k6, k7, k8, k9⟩ := kt
         obtain ⟨fn, n, t, td, ds0, mode, kind, round⟩ := af
         cases mode with
         | run => exact absurd rfl hr
         | returning => exact ⟨k1, k2, k3, k4, k5, hd2, k7, k8, hslots⟩
         | panicking c => exact ⟨k1, k2, k3, k4, k5, hd2, k7, k8, hslots⟩
     · cases e
   · cases e
 · rename_i hdef
   have hfd : fr.defers = [] := by have := kt.defers; rw [hdef] at this; exact this
   have hmode := kt.mode
   split at e
   · cases e
   · rename_i chain hm
     rw [hm] at hmode
     obtain ⟨c', hfm, hc⟩ := hmode
     cases rest with
     | nil => cases e
     | cons c r =>
      obtain ⟨f, fs', rfl, kf, kr⟩ := kb
      cases e
      obtain ⟨fn, hfn⟩ := kt.fnOk
      have hcat : fr.catches P = false := by simp only [Frame.catches, kt.fn, hfn]
      exact ⟨_, _, _, .one (step_lone_go (fr' := f.raise c') (cs' := fs' ++ base) (w' := w) (by rw [hst]; simp [unwind, hfd, hfm, hcat])), B, R, fs', rfl, hb, kh, ho, zdX kf hc, kr⟩
   · rename_i hm
     rw [hm] at hmode
     have hfm : fr.mode = .returning := hmode
     unfold zeG at e
     split at e
     · cases e
     · rename_i v hv
       obtain ⟨fn, v', r1, r2, r3⟩ := zdQ kh hslots kt.fn hv
       obtain ⟨fr', cs', q1, q2⟩ := zab (fr := fr) (base := base) kh hb ho kt.kindOk kt.kind kb r3 e
       exact ⟨fr', cs', w, .one (step_lone_go (by rw [hst]; simp only [unwind, hfd, hfm, r1, Sem.runT_eq, r2]; simpa using q1)), q2⟩
theorem zkF [XT P] [XTOk P] (hmix : P.follows .mixedOrders = true) {m m' : AM} {fr : Frame} {cs : List Frame} {w : World} (k : Sim P w0 base m fr cs w) (e : zdj P m = some m') : zcm P w0 base m' fr cs w := by
 obtain ⟨af, rest, h⟩ := m
 obtain ⟨B, R, fs, rfl, hb, kh, ho, kt, kb⟩ := k
 change (match af.mode with | .run => zi4 P af rest h af.todo | _ => zav P af rest h) = some m' at e
 split at e
 · rename_i hrun
   have hp : Plain P w0 base B R af rest h fr fs w := ⟨kh, hb, ho, kt, hrun, kb⟩
   unfold zi4 at e
   split at e
   · rename_i hnil
     have htop : zQ P B R rest.length false h af.todo af.tmps fr.todo fr.tmps := by
      have := kt.top
      rw [hrun] at this; exact this
     rw [hnil] at htop
     obtain ⟨h1, hs⟩ := htop
     have hfr : fr.todo = [] := h1
     have hm := zlh hp
     have hround := kt.round
     unfold ve at e
     split at e
     · rename_i hr
       rw [hr] at hround
       exact hp.ends hs e (step_lone_go (by simp [stepG, stepG.exec, hm, hfr, show fr.roundOf = none from hround]))
     · rename_i l hr
       refine vj hp hr e fun b hb => ?_
       simp only [stepG, stepG.exec, hm, hfr, hb, Sem.runT_eq]
       cases (Instr.endRound b none).run P w <;> simp
   · rename_i it kk hcons
     exact zjM hmix hp hcons e
 · rename_i hr
   exact zgS kh hb ho kt (fun hh => hr hh) kb e
def zg9 (G : T (T AV)) (w : World) : Prop := ∀ g c, G.get g = some c → g < w.heap.size ∧ ∃ cs el fz, w.heap[g]? = some (.cells cs el fz) ∧ ∀ k v, c.get k = some v → ∃ x, cs[k]? = some x ∧ zl (fun _ _ => none) v x
def Env.of (w : World) : Env := { w with own := fun _ => False, rob := fun _ => False, pin := fun _ _ => none }
def Base.of (w : World) : Base := ⟨Env.of w, fun _ => False, fun _ => none, fun _ => (0, 0)⟩
theorem HRel.start {P : Program} {G : T (T AV)} {w : World} (hG : zg9 G w) : HRel P (Base.of w) (fun _ _ => none) ⟨.leaf, 0, G⟩ w where
 fresh _ _ _ := rfl
 obj i o e := by cases e
 pend i o e := by cases e
 place i r L e := by cases e
 rd i hi := hi.elim
 low b _ := rfl
 rp i hi := hi.elim
 rol i r L hi := hi.elim
 pin i r L e := by cases e
 apart i r i' r' L L' e := by cases e
 same i r r' L L' e := by cases e
 glob g c e := ⟨fun hm => hm.elim (fun hl => absurd (hG g c e).1 (Nat.not_lt.2 hl)) id, (hG g c e).2⟩
theorem Old0.start (w : World) : Old0 (Env.of w).toWorld w := ⟨rfl, rfl, rfl, Nat.le_refl _, Nat.le_refl _⟩
end
end Go.Proofs.YtdbfpjgnlfejmaaDoor.Ev
end
section
namespace Go.Proofs.YtdbfpjgnlfejmaaDoor.Ev
open Go Go.ChangeShapes Go.WideShapes
theorem Old.kept {w w' : World} (k : Old w w') (may : MemPlace → Prop) : w.keptBut w' may :=
 ⟨k.os, k.output, fun i hi => by rw [k.other i hi]; exact (World.keptBut_refl w may).2.2 i hi⟩
end Go.Proofs.YtdbfpjgnlfejmaaDoor.Ev
end
section
namespace Go.Proofs.YtdbfpjgnlfejmaaDoor.Ev
open Go
noncomputable section
variable (P : Program)
def runN [XT P] : Nat → AM → Option AM
 | 0, m => some m
 | n + 1, m => match zdj P m with
  | none => none
  | some m => runN n m
def zgv {α : Type} (t : T α) : List Nat → T α → T α
 | [], acc => acc
 | i :: r, acc => (acc.set (t.get i) i).seq fun acc => zgv t r acc
def ze9 (us : List Nat) (fr : AFrame) : AFrame := match fr with
 | ⟨fn, n, t, todo, ds, mode, kind, round⟩ => ⟨fn, n, zgv t us .leaf, todo, ds, mode, kind, round⟩
def vh : List (List Nat) → List AFrame → List AFrame
 | us :: r, f :: fs => ze9 us f :: vh r fs
 | [], fs => fs
 | _ :: _, [] => []
def zkg (us : List Nat) (fr : AFrame) : AFrame := match fr.todo with
 | .drw _ _ _ :: _ => fr
 | _ => ze9 us fr
def zar : List (List Nat) → List AFrame → List AFrame
 | us :: r, f :: fs => zkg us f :: zar r fs
 | [], fs => fs
 | _ :: _, [] => []
def AV.ref : AV → Option Nat
 | .ptr i _ _ => some i
 | .slc i _ _ _ _ => some i
 | .mp i => some i
 | _ => none
def znK (objs : T AObj) (v : AV) : Bool := match v.ref with
 | none => true
 | some i => match objs.get i with
  | none => false
  | some _ => true
def zlY (objs : T AObj) (t : T AV) (o : Oper) : Bool := match xy o.op with
 | false => true
 | true => match o.dst with
  | none => false
  | some u => match t.get u with
   | none => false
   | some v => znK objs v
def znG (objs : T AObj) (t : T AV) (o : Option Oper) : Bool := match o with
 | none => true
 | some o => zlY objs t o
def zm6 (objs : T AObj) (fr : AFrame) : Bool := match fr.todo with
 | .drw all _ dn :: _ => dn.all fun p => znG objs fr.tmps all[p]?
 | _ => true
def zjI : List Nat → T AV → T AV
 | [], t => t
 | u :: r, t => zjI r (t.set none u)
def zhe (us : List Nat) (fr : AFrame) : AFrame := match fr with
 | ⟨fn, n, t, todo, ds, mode, kind, round⟩ => ⟨fn, n, zjI us t, todo, ds, mode, kind, round⟩
def vk : List (List Nat) → List AFrame → List AFrame
 | us :: r, f :: fs => zhe us f :: vk r fs
 | [], fs => fs
 | _ :: _, [] => []
def zeb (fr : AFrame) : Bool := match fr.todo with
 | .drw _ _ _ :: _ => false
 | _ => true
def zlX : List Nat → Code → Code
 | [], c => c
 | d :: p, c => match c with
  | .seq a b => zlX p (bif Nat.beq d 0 then a else b)
  | .cond _ a b => zlX p (bif Nat.beq d 0 then a else b)
  | .rangeFunc _ _ a b => zlX p (bif Nat.beq d 0 then a else b)
  | .block _ b => zlX p b
  | .loop b => zlX p b
  | .scope b => zlX p b
  | c => c
def cd (f : FuncId) (p : List Nat) : Code := match P.funcs[f]? with
 | none => .skip
 | some fn => match fn.body with
  | none => .skip
  | some c => zlX p c
def rg (f : FuncId) (p : List Nat) : Array Oper := match cd P f p with
 | .region _ ops _ => ops
 | _ => #[]
end
section
variable {P : Program} {w0 : Env} {base : List Frame}
theorem zf9 {α : Type} {t : T α} : ∀ {ids : List Nat} {acc : T α}, (∀ i o, acc.get i = some o → t.get i = some o) → ∀ i o, (zgv t ids acc).get i = some o → t.get i = some o
 | [], _, h => h
 | j :: r, acc, h => by
  intro i o e
  rw [zgv, T.seq_eq] at e
  refine zf9 (acc := acc.set (t.get j) j) (fun i o e => ?_) i o e
  rw [T.get_set] at e
  by_cases hi : i = j
  · subst hi; rwa [if_pos rfl] at e
  · rw [if_neg hi] at e; exact h i o e
noncomputable def Base.only (B : Base) (h : AHeap) : Base := { B with pend := fun i => match h.get i with
 | none => none
 | some _ => B.pend i }
theorem z8.drop {R : Bij} {a : Array Value} : ∀ {us : List Nat} {t : T AV}, z8 R t a → z8 R (zjI us t) a
 | [], _, k => k
 | u :: r, t, k => z8.drop (us := r) (t := t.set none u) fun x v e => by
  rw [T.get_set] at e
  split at e
  · cases e
  · exact k x v e
theorem FrameRel.plain {B B' : Base} {R : Bij} {d : Nat} {sus : Bool} {h h' : AHeap} {af : AFrame} {fr : Frame} {us : List Nat} (hp : zeb (zhe us af) = true) (k : FrameRel P B R d sus h af fr) : FrameRel P B' R d sus h' (zhe us af) fr := by
 obtain ⟨fn, n, t, todo, ds, mode, kind, round⟩ := af
 obtain ⟨k1, k2, k3, k4, k5, k6, k7, k8, k9⟩ := k
 refine ⟨k1, k2, k3, k4, k5, k6, k7, k8, ?_⟩
 cases mode with
 | run =>
  have k9 : zQ P B R d sus h todo t fr.todo fr.tmps := k9
  show zQ P B' R d sus h' todo (zjI us t) fr.todo fr.tmps
  cases todo with
  | nil => exact ⟨k9.1, k9.2.drop⟩
  | cons it kk =>
   cases it with
   | drw a b c => cases hp
   | _ => exact ⟨k9.1, k9.2.drop⟩
 | returning => exact z8.drop k9
 | panicking c => exact z8.drop k9
theorem ka (af : AFrame) : zhe [] af = af := by cases af; rfl
theorem kA : ∀ (dr : List (List Nat)) (as : List AFrame), (vk dr as).length = as.length
 | [], as => by cases as <;> rfl
 | _ :: _, [] => rfl
 | us :: dr, a :: as => by simp [vk, kA dr as]
theorem zy.plain {B B' : Base} {R : Bij} {h h' : AHeap} : ∀ {dr : List (List Nat)} {as : List AFrame} {fs : List Frame}, (vk dr as).all zeb = true → zy P B R h as fs → zy P B' R h' (vk dr as) fs
 | [], [], _, _, k => k
 | _ :: _, [], _, _, k => k
 | [], a :: as, fs, hp, ⟨f, r, e, k1, k2⟩ => by
  rw [show vk [] (a :: as) = a :: as from rfl, List.all_cons, Bool.and_eq_true] at hp
  have g1 : FrameRel P B' R as.length true h' a f := by
   have := k1.plain (B' := B') (h' := h') (us := []) (by rw [ka]; exact hp.1)
   rwa [ka] at this
  have g2 := zy.plain (B' := B') (h' := h') (dr := []) (as := as) (by rw [show vk [] as = as by cases as <;> rfl]; exact hp.2) k2
  rw [show vk [] as = as by cases as <;> rfl] at g2
  exact ⟨f, r, e, g1, g2⟩
 | us :: dr, a :: as, fs, hp, ⟨f, r, e, k1, k2⟩ => by
  rw [show vk (us :: dr) (a :: as) = zhe us a :: vk dr as from rfl, List.all_cons, Bool.and_eq_true] at hp
  exact ⟨f, r, e, by rw [kA]; exact k1.plain hp.1, zy.plain hp.2 k2⟩
theorem z8.keep {R : Bij} {a : Array Value} {us : List Nat} {t : T AV} (k : z8 R t a) : z8 R (zgv t us .leaf) a := fun u v e =>
 k u v (zf9 (acc := .leaf) (fun _ _ e => by cases e) u v e)
theorem FrameRel.plainK {B B' : Base} {R : Bij} {d : Nat} {sus : Bool} {h h' : AHeap} {af : AFrame} {fr : Frame} {us : List Nat} (hp : zeb (ze9 us af) = true) (k : FrameRel P B R d sus h af fr) : FrameRel P B' R d sus h' (ze9 us af) fr := by
 obtain ⟨fn, n, t, todo, ds, mode, kind, round⟩ := af
 obtain ⟨k1, k2, k3, k4, k5, k6, k7, k8, k9⟩ := k
 refine ⟨k1, k2, k3, k4, k5, k6, k7, k8, ?_⟩
 cases mode with
 | run =>
  have k9 : zQ P B R d sus h todo t fr.todo fr.tmps := k9
  show zQ P B' R d sus h' todo (zgv t us .leaf) fr.todo fr.tmps
  cases todo with
  | nil => exact ⟨k9.1, k9.2.keep⟩
  | cons it kk =>
   cases it with
   | drw a b c => cases hp
   | _ => exact ⟨k9.1, k9.2.keep⟩
 | returning => exact z8.keep k9
 | panicking c => exact z8.keep k9
theorem ku : ∀ (dr : List (List Nat)) (as : List AFrame), (vh dr as).length = as.length
 | [], as => by cases as <;> rfl
 | _ :: _, [] => rfl
 | us :: dr, a :: as => by simp [vh, ku dr as]
theorem zy.plainK {B B' : Base} {R : Bij} {h h' : AHeap} : ∀ {dr : List (List Nat)} {as : List AFrame} {fs : List Frame}, (vh dr as).all zeb = true → zy P B R h as fs → zy P B' R h' (vh dr as) fs
 | [], [], _, _, k => k
 | _ :: _, [], _, _, k => k
 | [], a :: as, fs, hp, ⟨f, r, e, k1, k2⟩ => by
  rw [show vh [] (a :: as) = a :: as from rfl, List.all_cons, Bool.and_eq_true] at hp
  have g1 : FrameRel P B' R as.length true h' a f := by
   have := k1.plain (B' := B') (h' := h') (us := []) (by rw [ka]; exact hp.1)
   rwa [ka] at this
  have g2 := zy.plainK (B' := B') (h' := h') (dr := []) (as := as) (by rw [show vh [] as = as by cases as <;> rfl]; exact hp.2) k2
  rw [show vh [] as = as by cases as <;> rfl] at g2
  exact ⟨f, r, e, g1, g2⟩
 | us :: dr, a :: as, fs, hp, ⟨f, r, e, k1, k2⟩ => by
  rw [show vh (us :: dr) (a :: as) = ze9 us a :: vh dr as from rfl, List.all_cons, Bool.and_eq_true] at hp
  exact ⟨f, r, e, by rw [ku]; exact k1.plainK hp.1, zy.plainK hp.2 k2⟩
theorem zjf {ρ : Operand → Option AV} {h h' : AHeap} {op : Op} {v : AV} (hf : xy op = true) (e : opA P ρ h op = some (.val v h')) : v.ref = some h.next := by
 cases op with
 | alloc t =>
  change yC P t ρ h = some _ at e
  unfold yC zaE at e
  split at e
  · cases e
  · obtain ⟨v', h2, e1, e2⟩ := xb e
    cases e2
    have := (wT e1).1 h
    rw [e1] at this; cases this; rfl
 | box t x =>
  change zbo P t x ρ h = some _ at e
  obtain ⟨a, ha, e⟩ := zu e
  obtain ⟨v', h2, e1, e2⟩ := xb e
  cases e2
  have := (wT e1).1 h
  rw [e1] at this; cases this; rfl
 | buildSlice t n parts =>
  change zX P t n parts ρ h = some _ at e
  unfold zX xF at e
  split at e
  · cases e
  · obtain ⟨v', h2, e1, e2⟩ := xb e
    cases e2
    obtain ⟨el, cells, b1, _⟩ := qD e1
    have := b1 h
    rw [e1] at this; cases this; rfl
 | makeSlice t l c =>
  change xn P t l c ρ h = some _ at e
  obtain ⟨a, b, ha, hb, e⟩ := xr e
  obtain ⟨v', h2, e1, e2⟩ := xb e
  cases e2
  obtain ⟨el, cells, n, m, b1, _⟩ := qZ e1
  have := b1 h
  rw [e1] at this; cases this; rfl
 | makeMap t r' =>
  cases r' with
  | none =>
   change some _ = some _ at e
   cases e; rfl
  | some x => cases hf
 | _ => cases hf
theorem kW.only {B : Base} {d : Nat} {all : Array Oper} {t : T AV} {h h' h'' : AHeap} {p : Nat} {o : Oper} (hh : zlY h'.objs t o = true) (k : kW P B d true all t h p o) : kW P (B.only h') d true all t h'' p o := by
 obtain ⟨wt, k1, k2, k3⟩ := k
 refine ⟨wt, k1, k2, fun hw => ?_⟩
 rcases k3 hw with ⟨f1, vf, ob, id, f2, f3, f4, f5⟩ | ⟨f1, f2, v, f3, f4⟩ | ⟨f1, f2, f3, _⟩
 · refine .inl ⟨f1, vf, ob, id, f2, ?_, f4, f5⟩
   unfold zlY at hh
   rw [f1] at hh
   simp only at hh
   split at hh
   · cases hh
   · rename_i u hu
     have hr : (vf id).ref = some id := by
      have := zjf f1 (f2.1 ⟨.leaf, id, .leaf⟩)
      exact this
     rw [f5 u hu] at hh
     simp only [znK, hr] at hh
     simp only [Base.only]
     show (match h'.objs.get id with | none => none | some _ => B.pend id) = some ob
     split at hh
     · cases hh
     · rename_i q hq
       exact f3
 · exact .inr (.inl ⟨f1, f2, v, f3, f4⟩)
 · exact .inr (.inr ⟨f1, f2, f3, .inl rfl⟩)
theorem FrameRel.held {B : Base} {R : Bij} {d : Nat} {h h' h'' : AHeap} {af : AFrame} {fr : Frame} {us : List Nat} (hp : zm6 h'.objs (zkg us af) = true) (k : FrameRel P B R d true h af fr) : FrameRel P (B.only h') R d true h'' (zkg us af) fr := by
 obtain ⟨fn, n, t, todo, ds, mode, kind, round⟩ := af
 have plain : zeb (ze9 us ⟨fn, n, t, todo, ds, mode, kind, round⟩) = true → FrameRel P (B.only h') R d true h'' (ze9 us ⟨fn, n, t, todo, ds, mode, kind, round⟩) fr := fun hp => k.plainK hp
 cases todo with
 | nil => exact plain rfl
 | cons it kk =>
  cases it with
  | drw all l dn =>
   obtain ⟨k1, k2, k3, k4, k5, k6, k7, k8, k9⟩ := k
   refine ⟨k1, k2, k3, k4, k5, k6, k7, k8, ?_⟩
   cases mode with
   | run =>
    obtain ⟨s, k', e1, e2, e3⟩ := (show ∃ s k', fr.todo = .inRegion all s :: k' ∧ xU (zP R) kk k' ∧ Drw P B R d true all l dn t h fr.tmps s from k9)
    refine ⟨s, k', e1, e2, ⟨e3.plan, e3.split, e3.topo, e3.rest, e3.own, e3.effs, e3.head, e3.slots, fun p h1 h2 o ho => ?_, e3.bound⟩⟩
    refine (e3.pend p h1 h2 o ho).only ?_
    have := List.all_eq_true.1 (show (dn.all fun p => znG h'.objs t all[p]?) = true from hp) p h1
    rw [ho] at this
    exact this
   | returning => exact k9
   | panicking c => exact k9
  | _ => exact plain rfl
theorem kx : ∀ (dr : List (List Nat)) (as : List AFrame), (zar dr as).length = as.length
 | [], as => by cases as <;> rfl
 | _ :: _, [] => rfl
 | us :: dr, a :: as => by simp [zar, kx dr as]
theorem zy.held {B : Base} {R : Bij} {h h' h'' : AHeap} : ∀ {dr : List (List Nat)} {as : List AFrame} {fs : List Frame}, dr.length = as.length → (zar dr as).all (zm6 h'.objs) = true → zy P B R h as fs → zy P (B.only h') R h'' (zar dr as) fs
 | [], [], _, _, _, k => k
 | _ :: _, [], _, e, _, _ => by cases e
 | [], _ :: _, _, e, _, _ => by cases e
 | us :: dr, a :: as, fs, hl, hp, ⟨f, r, e, k1, k2⟩ => by
  rw [show zar (us :: dr) (a :: as) = zkg us a :: zar dr as from rfl, List.all_cons, Bool.and_eq_true] at hp
  exact ⟨f, r, e, by rw [kx]; exact k1.held hp.1, zy.held (by simpa using hl) hp.2 k2⟩
end
end Go.Proofs.YtdbfpjgnlfejmaaDoor.Ev
end
