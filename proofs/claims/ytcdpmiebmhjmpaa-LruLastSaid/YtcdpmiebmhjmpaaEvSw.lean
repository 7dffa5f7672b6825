/- Operations on rows of open length: what they come to, their rows told by functions. -/
import Derived.Test.YtcdpmiebmhjmpaaEvSd
namespace Go.Proofs.Ytcdpmiebmhjmpaa.Ev
open Go

noncomputable section
variable (P : Program)

/-- n cells from off on are what f tells; others are as they were. -/
def overT (c : T AV) (off n : Nat) (f : Nat → Option AV) : T AV := .fn fun k => bif Nat.ble off k && Nat.blt k (off + n) then f (k - off) else c.get k

def srcRow (h : AHeap) (id ver off n size : Nat) : Option ((Nat → Option AV) × Prop) := match h.get id with
  | some (.ro c lo m) => bif Nat.beq ver 0 then some (fun k => c.get (off + k), (lo ≤ off ∧ off + n * size ≤ m) ∧ ∀ k, k < n * size → ∃ v, c.get (off + k) = some v ∧ AV.one v = true) else none
  | some (.cells c m _ lo hi _ _ _ ex) => match extOf ex m hi ver with
    | none => none
    | some e => bif Nat.ble lo ver && Nat.ble ver hi then some (fun k => c.get (off + k), off + n * size ≤ e ∧ ∀ k, k < n * size → ∃ v, c.get (off + k) = some v ∧ AV.one v = true) else none
  | _ => none

/-- The first n elements of what is taken, told by a function. -/
def srcFirst (h : AHeap) (size n : Nat) (x : AV) : Option ((Nat → Option AV) × Prop) := match x with
  | .str s => bif Nat.beq size 1 then some (fun k => some (.int .u8 (s.getD k 0).toNat), n ≤ s.length) else none
  | .slc id ver off _ _ => srcRow h id ver off n size
  | .slg id ver off _ _ => srcRow h id ver off n size
  | _ => none

/-- What is appended. -/
def srcW (h : AHeap) (size bytes : Nat) (z : AV) (zeros : Bool) (x : AV) : Option (Nat × (Nat → Option AV) × Prop) := match zeros with
  | true => match x with
    | .int _ l => bif Nat.beq size 1 then some (l.toNat, fun _ => z.cells.head?, (0 ≤ l ∧ l < 2 ^ 40) ∧ l.toNat * bytes ≤ 2 ^ 48) else none
    | _ => none
  | false => match countA x with
    | none => none
    | some n => match srcFirst h size n x with
      | none => none
      | some (f, p) => some (n, f, p)

def rowW (h : AHeap) (v : AV) (id : Nat) (o : AObj) (p : Prop) : Option (AR × Prop) := some (.val v (h.put id o), p)

def inPlaceW (h : AHeap) (size id ver off sLen cap n : Nat) (f : Nat → Option AV) (p : Prop) : Option (AR × Prop) := match h.get id with
  | some (.cells c m el lo hi nv fz sg ex) => match extOf ex m hi ver with
    | none => none
    | some e => bif Nat.ble lo ver && Nat.ble ver hi then
        some (.val (.slc id ver off (sLen + n) cap) (h.put id (.cells (overT c (off + sLen * size) (n * size) f) e el ver ver nv fz sg ex)),
          p ∧ sLen + n ≤ cap ∧ off + sLen * size + n * size ≤ e ∧ fz ≤ off + sLen * size ∧ match Nat.beq lo ver && Nat.beq hi ver with
            | true => True
            | false => 0 < n)
      else none
  | _ => none

def freshW (h : AHeap) (el : TypeId) (bytes size n : Nat) (f : Nat → Option AV) (p : Prop) : Option (AR × Prop) :=
  some (.val (.slg h.next 0 0 n 0) (h.new (.cells (.fn f) (n * size) el 0 0 1 0 false .leaf)), p ∧ 0 < n ∧ roomA n bytes = true)

def movedW (h : AHeap) (el : TypeId) (bytes size id ver off sLen cap n : Nat) (f : Nat → Option AV) (p : Prop) : Option (AR × Prop) := match srcRow h id ver off sLen size with
  | none => none
  | some (g, q) => some (.val (.slg h.next 0 0 (sLen + n) 0) (h.new (.cells (.fn fun k => bif Nat.blt k (sLen * size) then g k else f (k - sLen * size)) (sLen * size + n * size) el 0 0 1 0 false .leaf)),
      p ∧ q ∧ 0 < n ∧ cap < sLen + n ∧ roomA (sLen + n) bytes = true)

def growW (h : AHeap) (el : TypeId) (bytes size id ver off sLen st n : Nat) (f : Nat → Option AV) (p : Prop) : Option (AR × Prop) := match h.get id with
  | some (.cells c m el' lo hi nv fz sg ex) => match extOf ex m hi ver with
    | none => none
    | some e => bif Nat.ble lo ver && Nat.ble ver hi && Nat.beq el' el && Nat.blt hi nv then
        some (.val (.slg id nv off (sLen + n) st) (h.put id (.cells (overT c (off + sLen * size) (n * size) f) (off + sLen * size + n * size) el nv nv (nv + 1) fz sg ex)),
          p ∧ 0 < n ∧ off + sLen * size ≤ e ∧ fz ≤ off + sLen * size ∧ off = st * size ∧ roomA (sLen + n) bytes = true ∧ e < off + (sLen + n) * size)
      else none
  | _ => none

/-- Within what is known to be there. -/
def knownW (h : AHeap) (el : TypeId) (size id ver off sLen st n : Nat) (f : Nat → Option AV) (p : Prop) : Option (AR × Prop) := match h.get id with
  | some (.cells c m el' lo hi nv fz sg ex) => match extOf ex m hi ver with
    | none => none
    | some e => bif Nat.ble lo ver && Nat.ble ver hi && Nat.beq el' el then
        some (.val (.slg id ver off (sLen + n) st) (h.put id (.cells (overT c (off + sLen * size) (n * size) f) e el' ver ver nv fz sg ex)),
          p ∧ 0 < n ∧ off + (sLen + n) * size ≤ e ∧ off + sLen * size + n * size ≤ e ∧ fz ≤ off + sLen * size ∧ off = st * size)
      else none
  | _ => none

def appendW (moved : Bool) (h : AHeap) (t : TypeId) (zeros : Bool) (s x : AV) : Option (AR × Prop) := match P.underlying t with
  | some (.slice el) => match P.info? el with
    | none => none
    | some i => match zeroA P el with
      | none => none
      | some z => match Nat.blt 0 i.size && Nat.beq z.cells.length i.size && z.cells.all AV.one with
        | false => none
        | true => match srcW h i.size i.bytes z zeros x with
          | none => none
          | some (n, f, p) => match s with
            | .nils 0 0 => freshW h el i.bytes i.size n f p
            | .slc id ver off sLen cap => match moved with
              | false => inPlaceW h i.size id ver off sLen cap n f p
              | true => movedW h el i.bytes i.size id ver off sLen cap n f p
            | .slg id ver off sLen st => match moved with
              | false => growW h el i.bytes i.size id ver off sLen st n f p
              | true => knownW h el i.size id ver off sLen st n f p
            | _ => none
  | _ => none

def storeW (h : AHeap) (id ver off : Nat) (n : Nat) (f : Nat → Option AV) (r : AHeap → AR) (p : Prop) : Option (AR × Prop) := match h.get id with
  | some (.cells c m el lo hi nv fz sg ex) => match extOf ex m hi ver with
    | none => none
    | some e => bif Nat.ble lo ver && Nat.ble ver hi then
        some (r (h.put id (.cells (overT c off n f) e el ver ver nv fz sg ex)), p ∧ off + n ≤ e ∧ fz ≤ off)
      else none
  | _ => none

/-- One cell. -/
def putW (h : AHeap) (id ver off : Nat) (v : AV) : Option (AR × Prop) := match h.get id with
  | some (.cells c m el lo hi nv fz sg ex) => match extOf ex m hi ver with
    | none => none
    | some e => bif Nat.ble lo ver && Nat.ble ver hi then
        some (.skip (h.put id (.cells (.fn fun k => bif Nat.beq k off then some v else c.get k) e el ver ver nv fz sg ex)), off + 1 ≤ e ∧ fz ≤ off)
      else none
  | _ => none

def storeOpW (h : AHeap) (t : TypeId) (p v : AV) : Option (AR × Prop) := match p with
  | .ptr id ver off => match P.info? t with
    | none => none
    | some i => match Nat.beq v.cells.length i.size && v.cells.all AV.one with
      | false => none
      | true => match v.cells with
        | [x] => putW h id ver off x
        | l => storeW h id ver off l.length (fun k => l[k]?) .skip True
  | _ => none

def copyW (h : AHeap) (t : TypeId) (dst src : AV) : Option (AR × Prop) := match P.underlying t with
  | some (.slice el) => match sizeT P el with
    | none => none
    | some s => match lenSlice dst with
      | none => none
      | some dn => match countA src with
        | none => none
        | some sn => match srcFirst h s (Nat.min sn dn) src with
          | none => none
          | some (f, p) => match dst with
            | .slc id ver off _ _ => storeW h id ver off (Nat.min sn dn * s) f (fun h => .val (.int .i64 (Nat.min sn dn : Nat)) h) p
            | .slg id ver off _ _ => storeW h id ver off (Nat.min sn dn * s) f (fun h => .val (.int .i64 (Nat.min sn dn : Nat)) h) p
            | _ => none
  | _ => none

def makeW (h : AHeap) (t : TypeId) (len cap : AV) : Option (AR × Prop) := match P.underlying t with
  | some (.slice el) => match len with
    | .int _ l => match cap with
      | .int _ c => match P.info? el with
        | none => none
        | some i => match zeroA P el with
          | none => none
          | some z => match Nat.beq i.size 1 && Nat.beq z.cells.length 1 && z.cells.all AV.one with
            | false => none
            | true => some (.val (.slc h.next 0 0 l.toNat c.toNat) (h.new (.cells (.fn fun _ => z.cells.head?) c.toNat el 0 0 1 0 false .leaf)), 0 ≤ l ∧ l ≤ c ∧ c < 2 ^ 40 ∧ i.bytes * c ≤ 2 ^ 48)
      | _ => none
    | _ => none
  | _ => none

/-- Some elements are made zero. -/
def clearW (h : AHeap) (t : TypeId) (x : AV) : Option (AR × Prop) := match P.underlying t with
  | some (.slice el) => match zeroA P el with
    | none => none
    | some z => match z.cells.all AV.one with
      | false => none
      | true => match x with
        | .slc id ver off n _ => storeW h id ver off (n * z.cells.length) (fun k => z.cells[k % z.cells.length]?) (fun h => .val (.tup []) h) (0 < n)
        | .slg id ver off n _ => storeW h id ver off (n * z.cells.length) (fun k => z.cells[k % z.cells.length]?) (fun h => .val (.tup []) h) (0 < n)
        | _ => none
  | _ => none

/-- An operation on rows of open length; 'moved': what is appended to has no room. -/
def opW (moved : Bool) (ρ : Operand → Option AV) (h : AHeap) (o : Op) : Option (AR × Prop) := match o with
  | .store t a x => two' ρ a x fun p v => storeOpW P h t p v
  | .makeSlice t l c => two' ρ l c fun a b => makeW P h t a b
  | .call c => match mapO ρ c.args.toList with
    | none => none
    | some args => match c.callee with
      | .builtin b => match b with
        | .append => match c.argTypes[0]? with
          | none => none
          | some t => match c.argTypes[1]? with
            | none => none
            | some u => match isIntT P u with
              | none => none
              | some z => match two1 args with
                | none => none
                | some (s, x) => appendW P moved h t z s x
        | .copy => match c.argTypes[0]? with
          | none => none
          | some t => match two1 args with
            | none => none
            | some (d, s) => copyW P h t d s
        | .clear => match c.argTypes[0]? with
          | none => none
          | some t => match args with
            | [x] => clearW P h t x
            | _ => none
        | _ => none
      | _ => none
  | _ => none

/-- In a region whose order is drawn, it must act. -/
def actsIn (fr : AFrame) (o : Oper) : Bool := match fr.todo with
  | .drw _ _ _ :: _ => isEff P o
  | _ => true

def notDefer (o : Op) : Bool := match o with
  | .defer _ => false
  | _ => true

def OpWK [XT P] (moved : Bool) (m : AM) (K : AM → Prop) : Prop := match m with
  | ⟨fr, rest, h⟩ => match fr.mode with
    | .run => match topOp fr with
      | none => False
      | some (all, o) => match wantedA all fr.tmps o.guard with
        | some true => match actsIn P fr o with
          | false => False
          | true => match opW P moved (ev fr.tmps) h o.op with
            | none => False
            | some (r, p) => p ∧ Upon P fr rest h r K
        | _ => False
    | _ => False

end

section
variable {P : Program}

/-- A heap of which less is told: of one object. -/
def LessH (P : Program) (id : Nat) (hE hW : AHeap) : Prop := ∃ (oE oW : AObj), hE.get id = some oE ∧ hW.next = hE.next ∧ hW.glob = hE.glob ∧ (∀ i, hW.get i = if i = id then some oW else hE.get i) ∧
  oE.isRo = false ∧ oW.isRo = false ∧ ∀ (R : Bij) (w : World), ObjRel P R w id oE → ObjRel P R w id oW

theorem HRel.less {B : Base} {R : Bij} {w : World} {id : Nat} {hE hW : AHeap} (e : LessH P id hE hW) (hp : B.pend id = none) (kh : HRel P B R hE w) : HRel P B R hW w := by
  obtain ⟨o, o', hobj, hnext, hglob, hget, hro, hro', hsw⟩ := e
  refine ⟨fun i hi => kh.fresh i (by rw [← hnext]; exact hi), fun i x eo hpe => ?_, fun i x eo => ?_, kh.place, fun i hi => ⟨by rw [hnext]; exact (kh.rd i hi).1, fun x eo => ?_⟩, kh.rp, kh.rol, kh.low, kh.pin, kh.apart, kh.same, fun g c e => kh.glob g c (by rw [← hglob]; exact e)⟩
  · rw [hget] at eo
    split at eo
    · rename_i hi
      subst hi
      cases eo
      exact hsw R w (kh.obj i _ hobj hpe)
    · exact kh.obj i x eo hpe
  · obtain ⟨h1, h2, h3⟩ := kh.pend i x eo
    refine ⟨by rw [hnext]; exact h1, ?_, h3⟩
    rw [hget, if_neg (fun h => by rw [h, hp] at eo; cases eo)]
    exact h2
  · rw [hget] at eo
    split at eo
    · rename_i hi'
      subst hi'
      cases eo
      have := (kh.rd i hi).2 _ hobj
      rw [hro] at this; cases this
    · exact (kh.rd i hi).2 x eo

theorem LessH.put {h : AHeap} {id : Nat} {oE oW : AObj} (h1 : oE.isRo = false) (h2 : oW.isRo = false) (hsw : ∀ (R : Bij) (w : World), ObjRel P R w id oE → ObjRel P R w id oW) : LessH P id (h.put id oE) (h.put id oW) := by
  obtain ⟨objs, next, glob⟩ := h
  refine ⟨oE, oW, ?_, rfl, rfl, fun i => ?_, h1, h2, hsw⟩
  · show (objs.set (some oE) id).get id = _
    rw [T.get_set, if_pos rfl]
  · show (objs.set (some oW) id).get i = if i = id then some oW else (objs.set (some oE) id).get i
    rw [T.get_set, T.get_set]
    split <;> rfl

theorem LessH.new {h : AHeap} {oE oW : AObj} (h1 : oE.isRo = false) (h2 : oW.isRo = false) (hsw : ∀ (R : Bij) (w : World), ObjRel P R w h.next oE → ObjRel P R w h.next oW) : LessH P h.next (h.new oE) (h.new oW) := by
  obtain ⟨objs, next, glob⟩ := h
  refine ⟨oE, oW, ?_, rfl, rfl, fun i => ?_, h1, h2, hsw⟩
  · show (objs.set (some oE) next).get next = _
    rw [T.get_set, if_pos rfl]
  · show (objs.set (some oW) next).get i = if i = next then some oW else (objs.set (some oE) next).get i
    rw [T.get_set, T.get_set]
    split <;> rfl

theorem cells_less {i : Nat} {cE cW : T AV} {n : Nat} {el : TypeId} {lo lo' hi nv fz : Nat} {sg : Bool} {ex ex' : T Nat} (hle : ∀ k v, k < n → cW.get k = some v → cE.get k = some v) (h1 : lo ≤ lo') (h2 : lo' ≤ hi)
    (hx : ∀ r e, lo' ≤ r → r ≤ hi → extOf ex' n hi r = some e → extOf ex n hi r = some e) (R : Bij) (w : World) (k : ObjRel P R w i (.cells cE n el lo hi nv fz sg ex)) : ObjRel P R w i (.cells cW n el lo' hi nv fz sg ex') := by
  obtain ⟨a1, a2, a3, a4, a5⟩ := k
  refine ⟨h2, a2, a3, fun r e b1 b2 b3 => ?_, fun r e b1 b2 b3 => a5 r e (Nat.le_trans h1 b1) b2 (hx r e b1 b2 b3)⟩
  have b3' := hx r e b1 b2 b3
  obtain ⟨L, g1, cs, a, b, c1, c2, c3, c4, c5⟩ := a4 r e (Nat.le_trans h1 b1) b2 b3'
  exact ⟨L, g1, cs, a, b, c1, c2, c3, c4, fun q v q1 q2 q3 => c5 q v q1 q2 (hle q v (Nat.lt_of_lt_of_le q1 (a5 r e (Nat.le_trans h1 b1) b2 b3')) q3)⟩

theorem cells_less' {i : Nat} {cE cW : T AV} {n : Nat} {el : TypeId} {lo hi nv fz : Nat} {sg : Bool} {ex : T Nat} (hle : ∀ k v, k < n → cW.get k = some v → cE.get k = some v) (R : Bij) (w : World) (k : ObjRel P R w i (.cells cE n el lo hi nv fz sg ex)) : ObjRel P R w i (.cells cW n el lo hi nv fz sg ex) :=
  cells_less hle (Nat.le_refl _) k.1 (fun _ _ _ _ e => e) R w k

/-- An object is new, or some value leads to it. -/
def Lives (h : AHeap) (vs : List AV) (id : Nat) : Prop := id = h.next ∨ ∃ v ∈ vs, headId v = some id

/-- What an operation comes to, and less told of it. -/
def LessR (P : Program) (h : AHeap) (vs : List AV) (rE r : AR) : Prop := ∃ id, Lives h vs id ∧ ((∃ v hE hW, rE = .val v hE ∧ r = .val v hW ∧ LessH P id hE hW) ∨ ∃ hE hW, rE = .skip hE ∧ r = .skip hW ∧ LessH P id hE hW)

theorem loadG_some {c : T AV} {off : Nat} : ∀ {n : Nat} {acc : List AV}, (∀ k, k < n → ∃ v, c.get (off + k) = some v ∧ AV.one v = true) → acc.all AV.one = true → ∃ l, loadG c off n acc = some l ∧ l.all AV.one = true
  | 0, acc, _, ha => ⟨acc, rfl, ha⟩
  | n + 1, acc, h, ha => by
    obtain ⟨v, hv, ho⟩ := h n (Nat.lt_succ_self n)
    unfold loadG
    rw [hv]
    exact loadG_some (fun k hk => h k (Nat.lt_succ_of_lt hk)) (by simp [ho, ha])

theorem loadList_some {c : T AV} {off n : Nat} (h : ∀ k, k < n → ∃ v, c.get (off + k) = some v ∧ AV.one v = true) : ∃ l, loadList c off n = some l ∧ l.all AV.one = true ∧ l.length = n ∧ ∀ k v, k < n → c.get (off + k) = some v → l[k]? = some v := by
  obtain ⟨l, h1, h2⟩ := loadG_some (acc := []) h rfl
  obtain ⟨g1, g2⟩ := loadList_get h1
  refine ⟨l, h1, h2, g1, fun k v hk hv => ?_⟩
  have hlt : k < l.length := by omega
  have := g2 k l[k] (List.getElem?_eq_getElem hlt)
  rw [hv] at this
  rw [List.getElem?_eq_getElem hlt]
  exact this.symm

theorem srcRow_ok {h : AHeap} {id ver off n size : Nat} {f : Nat → Option AV} {p : Prop} (e : srcRow h id ver off n size = some (f, p)) (hp : p) :
    ∃ l, loadCellsA h id ver off (n * size) = some l ∧ l.all AV.one = true ∧ l.length = n * size ∧ ∀ k v, k < n * size → f k = some v → l[k]? = some v := by
  unfold srcRow at e
  unfold loadCellsA
  split at e
  · rename_i c lo m ho
    cases hb : Nat.beq ver 0 with
    | false => rw [hb] at e; cases e
    | true =>
      rw [hb] at e
      simp only [cond_true, Option.some.injEq, Prod.mk.injEq] at e
      obtain ⟨rfl, rfl⟩ := e
      obtain ⟨l, h1, h2, h3, h4⟩ := loadList_some hp.2
      refine ⟨l, ?_, h2, h3, h4⟩
      simp only [ho]
      rw [if_pos ⟨Nat.eq_of_beq_eq_true hb, hp.1⟩, h1]
  · rename_i c m el lo hi nv fz sg ex ho
    split at e
    · cases e
    · rename_i e0 he
      cases hb : (Nat.ble lo ver && Nat.ble ver hi) with
      | false => rw [hb] at e; cases e
      | true =>
        rw [hb] at e
        simp only [cond_true, Option.some.injEq, Prod.mk.injEq] at e
        obtain ⟨rfl, rfl⟩ := e
        rw [Bool.and_eq_true] at hb
        obtain ⟨l, h1, h2, h3, h4⟩ := loadList_some hp.2
        refine ⟨l, ?_, h2, h3, h4⟩
        simp only [ho, he]
        rw [if_pos ⟨Nat.le_of_ble_eq_true hb.1, Nat.le_of_ble_eq_true hb.2, hp.1⟩, h1]
  · cases e

theorem srcFirst_ok {h : AHeap} {size n : Nat} {x : AV} {f : Nat → Option AV} {p : Prop} (e : srcFirst h size n x = some (f, p)) (hp : p) :
    ∃ l, firstA h size n x = some l ∧ l.all AV.one = true ∧ l.length = n * size ∧ ∀ k v, k < n * size → f k = some v → l[k]? = some v := by
  unfold srcFirst at e
  split at e
  · rename_i s
    cases hb : Nat.beq size 1 with
    | false => rw [hb] at e; cases e
    | true =>
      rw [hb] at e
      simp only [cond_true, Option.some.injEq, Prod.mk.injEq] at e
      obtain ⟨rfl, rfl⟩ := e
      obtain rfl := Nat.eq_of_beq_eq_true hb
      refine ⟨_, rfl, (List.all_eq_true.2 fun x hx => by obtain ⟨b, _, rfl⟩ := List.mem_map.1 hx; rfl), by simp [byteCells]; omega, fun k v hk hv => ?_⟩
      rw [Nat.mul_one] at hk
      cases hv
      have hs : k < s.length := by omega
      simp [byteCells, hk, hs]
  · exact srcRow_ok e hp
  · exact srcRow_ok e hp
  · cases e

theorem repeatL_get1 (v : AV) : ∀ n k, k < n → (repeatL [v] n)[k]? = some v
  | 0, k, h => by omega
  | n + 1, 0, _ => rfl
  | n + 1, k + 1, h => by
    show (repeatL [v] n)[k]? = _
    exact repeatL_get1 v n k (by omega)

theorem srcW_ok {h : AHeap} {size bytes : Nat} {z : AV} {zeros : Bool} {x : AV} {n : Nat} {f : Nat → Option AV} {p : Prop} (hz : z.cells.length = size) (hz1 : z.cells.all AV.one = true) (e : srcW h size bytes z zeros x = some (n, f, p)) (hp : p) :
    ∃ new, appended h size z zeros x = some (n, new) ∧ new.all AV.one = true ∧ new.length = n * size ∧ (zeros = true → Nat.ble (n * bytes) (2 ^ 48) = true) ∧ ∀ k v, k < n * size → f k = some v → new[k]? = some v := by
  unfold srcW at e
  unfold appended
  split at e
  · split at e
    · rename_i k l
      cases hb : Nat.beq size 1 with
      | false => rw [hb] at e; cases e
      | true =>
        rw [hb] at e
        simp only [cond_true, Option.some.injEq, Prod.mk.injEq] at e
        obtain ⟨rfl, rfl, rfl⟩ := e
        obtain rfl := Nat.eq_of_beq_eq_true hb
        simp only
        refine ⟨_, by rw [if_pos hp.1], repeatL_one hz1 _, by rw [repeatL_length, hz], fun _ => Nat.ble_eq_true_of_le hp.2, fun k v hk hv => ?_⟩
        rw [Nat.mul_one] at hk
        match hc : z.cells, hz with
        | [y], _ =>
          rw [hc] at hv
          cases hv
          exact repeatL_get1 _ _ _ hk
    · cases e
  · split at e
    · cases e
    · rename_i n' hn
      split at e
      · cases e
      · rename_i f' p' hf
        cases e
        obtain ⟨l, h1, h2, h3, h4⟩ := srcFirst_ok hf hp
        exact ⟨l, by simp only [hn, h1], h2, h3, fun h => (by cases h), h4⟩

theorem over_le {c : T AV} {off n : Nat} {f : Nat → Option AV} {vs : List AV} (hl : vs.length = n) (hf : ∀ k v, k < n → f k = some v → vs[k]? = some v) (k : Nat) (v : AV) (e : (overT c off n f).get k = some v) : (storeList c off vs).get k = some v := by
  rw [storeList_get, hl]
  change (bif Nat.ble off k && Nat.blt k (off + n) then f (k - off) else c.get k) = some v at e
  cases hb : (Nat.ble off k && Nat.blt k (off + n)) with
  | true =>
    rw [hb] at e
    rw [Bool.and_eq_true] at hb
    have h1 := Nat.le_of_ble_eq_true hb.1
    have h2 : k < off + n := Nat.le_of_ble_eq_true hb.2
    rw [if_pos ⟨h1, h2⟩]
    exact hf _ _ (by omega) e
  | false =>
    rw [hb] at e
    rw [if_neg]
    · exact e
    · rintro ⟨h1, h2⟩
      rw [Nat.ble_eq_true_of_le h1, show Nat.blt k (off + n) = true from Nat.ble_eq_true_of_le h2] at hb
      cases hb

theorem ext_self {ex : T Nat} {m hi ver e : Nat} (_he : extOf ex m hi ver = some e) (r e' : Nat) (_h1 : ver ≤ r) (_h2 : r ≤ ver) (h3 : extOf ex e ver r = some e') : extOf ex e ver r = some e' := h3

theorem storeCells_W {h : AHeap} {id ver off n : Nat} {f : Nat → Option AV} {c : T AV} {m : Nat} {el : TypeId} {lo hi nv fz : Nat} {sg : Bool} {ex : T Nat} {e : Nat} (ho : h.get id = some (.cells c m el lo hi nv fz sg ex)) (he : extOf ex m hi ver = some e) (h1 : lo ≤ ver) (h2 : ver ≤ hi)
    (h3 : off + n ≤ e) (h4 : fz ≤ off) {vs : List AV} (hl : vs.length = n) (ha : vs.all AV.one = true) (hf : ∀ k v, k < n → f k = some v → vs[k]? = some v) :
    storeCellsA h id ver off vs = some (h.put id (.cells (storeList c off vs) e el ver ver nv fz sg ex)) ∧ LessH P id (h.put id (.cells (storeList c off vs) e el ver ver nv fz sg ex)) (h.put id (.cells (overT c off n f) e el ver ver nv fz sg ex)) := by
  refine ⟨?_, .put rfl rfl (cells_less' fun k v _ e => over_le hl hf k v e)⟩
  unfold storeCellsA
  rw [ho]
  simp only [he]
  rw [if_pos ⟨h1, h2, by omega, h4, ha⟩, T.seq_eq]

theorem ble2 {a b c : Nat} (h : (Nat.ble a b && Nat.ble b c) = true) : a ≤ b ∧ b ≤ c := by
  rw [Bool.and_eq_true] at h
  exact ⟨Nat.le_of_ble_eq_true h.1, Nat.le_of_ble_eq_true h.2⟩

theorem storeW_ok {h : AHeap} {id ver off n : Nat} {f : Nat → Option AV} {mk : AHeap → AR} {p0 p : Prop} {r : AR} (e : storeW h id ver off n f mk p0 = some (r, p)) (hp : p) {vs : List AV} (hl : vs.length = n) (ha : vs.all AV.one = true) (hf : ∀ k v, k < n → f k = some v → vs[k]? = some v) :
    ∃ hE hW, storeCellsA h id ver off vs = some hE ∧ r = mk hW ∧ LessH P id hE hW := by
  unfold storeW at e
  split at e
  rotate_left
  · cases e
  rename_i c m el lo hi nv fz sg ex ho
  split at e
  · cases e
  rename_i e0 he
  cases hb : (Nat.ble lo ver && Nat.ble ver hi) with
  | false => rw [hb] at e; cases e
  | true =>
    rw [hb] at e
    simp only [cond_true, Option.some.injEq, Prod.mk.injEq] at e
    obtain ⟨rfl, rfl⟩ := e
    obtain ⟨b1, b2⟩ := ble2 hb
    obtain ⟨g1, g2⟩ := storeCells_W (P := P) ho he b1 b2 hp.2.1 hp.2.2 hl ha hf
    exact ⟨_, _, g1, rfl, g2⟩

theorem storeW_p {h : AHeap} {id ver off n : Nat} {f : Nat → Option AV} {mk : AHeap → AR} {p0 p : Prop} {r : AR} (e : storeW h id ver off n f mk p0 = some (r, p)) (hp : p) : p0 := by
  unfold storeW at e
  split at e
  rotate_left
  · cases e
  rename_i c m el lo hi nv fz sg ex ho
  split at e
  · cases e
  rename_i e0 he
  cases hb : (Nat.ble lo ver && Nat.ble ver hi) with
  | false => rw [hb] at e; cases e
  | true =>
    rw [hb] at e
    simp only [cond_true, Option.some.injEq, Prod.mk.injEq] at e
    obtain ⟨rfl, rfl⟩ := e
    exact hp.1

theorem putW_ok {h : AHeap} {id ver off : Nat} {v : AV} {p : Prop} {r : AR} (e : putW h id ver off v = some (r, p)) (hp : p) (ha : AV.one v = true) :
    ∃ hE hW, storeCellsA h id ver off [v] = some hE ∧ r = .skip hW ∧ LessH P id hE hW := by
  unfold putW at e
  split at e
  rotate_left
  · cases e
  rename_i c m el lo hi nv fz sg ex ho
  split at e
  · cases e
  rename_i e0 he
  cases hb : (Nat.ble lo ver && Nat.ble ver hi) with
  | false => rw [hb] at e; cases e
  | true =>
    rw [hb] at e
    simp only [cond_true, Option.some.injEq, Prod.mk.injEq] at e
    obtain ⟨rfl, rfl⟩ := e
    obtain ⟨b1, b2⟩ := ble2 hb
    refine ⟨h.put id (.cells (storeList c off [v]) e0 el ver ver nv fz sg ex), _, ?_, rfl, .put rfl rfl (cells_less' fun k x _ e => ?_)⟩
    · unfold storeCellsA
      rw [ho]
      simp only [he]
      rw [if_pos ⟨b1, b2, hp.1, hp.2, by simp [ha]⟩, T.seq_eq]
    · rw [storeList_get]
      change (bif Nat.beq k off then some v else c.get k) = some x at e
      cases hq : Nat.beq k off with
      | true =>
        rw [hq] at e
        obtain rfl := Nat.eq_of_beq_eq_true hq
        rw [if_pos ⟨Nat.le_refl _, Nat.lt_succ_self _⟩]
        simpa using e
      | false =>
        rw [hq] at e
        rw [if_neg]
        · exact e
        · rintro ⟨h1, h2⟩
          have : k = off := by simp at h2; omega
          rw [this, Nat.beq_refl] at hq
          cases hq

theorem storeOpW_ok {h : AHeap} {t : TypeId} {a v : AV} {r : AR} {p : Prop} (e : storeOpW P h t a v = some (r, p)) (hp : p) : ∃ id hE hW, storeA P h t a v = some hE ∧ r = .skip hW ∧ LessH P id hE hW ∧ headId a = some id := by
  unfold storeOpW at e
  unfold storeA
  split at e
  rotate_left
  · cases e
  split at e
  · cases e
  rename_i i hi
  split at e
  · cases e
  rename_i hb
  rw [Bool.and_eq_true] at hb
  have hs := Nat.eq_of_beq_eq_true hb.1
  simp only [hi, if_pos hs]
  split at e
  · rename_i x hx
    rw [hx] at hb ⊢
    obtain ⟨hE, hW, g1, g2, g3⟩ := putW_ok (P := P) e hp (by simpa using hb.2)
    exact ⟨_, hE, hW, g1, g2, g3, rfl⟩
  · obtain ⟨hE, hW, g1, g2, g3⟩ := storeW_ok (P := P) e hp rfl hb.2 fun k v _ e => e
    exact ⟨_, hE, hW, g1, g2, g3, rfl⟩

theorem copyW_ok {h : AHeap} {t : TypeId} {d s : AV} {r : AR} {p : Prop} (e : copyW P h t d s = some (r, p)) (hp : p) : ∃ id v hE hW, copyA P h t d s = some (v, hE) ∧ r = .val v hW ∧ LessH P id hE hW ∧ headId d = some id := by
  unfold copyW at e
  unfold copyA
  split at e
  rotate_left
  · cases e
  rename_i el hu
  simp only [hu]
  unfold copyEl
  split at e
  · cases e
  rename_i sz hsz
  split at e
  · cases e
  rename_i dn hdn
  split at e
  · cases e
  rename_i sn hsn
  split at e
  · cases e
  rename_i f p' hf
  simp only [hsz, hdn, hsn]
  split at e
  · obtain ⟨l, h1, h2, h3, h4⟩ := srcFirst_ok hf (storeW_p e hp)
    obtain ⟨hE, hW, g1, g2, g3⟩ := storeW_ok (P := P) e hp h3 h2 h4
    simp only [h1, copyTo, g1]
    exact ⟨_, _, _, hW, rfl, g2, g3, rfl⟩
  · obtain ⟨l, h1, h2, h3, h4⟩ := srcFirst_ok hf (storeW_p e hp)
    obtain ⟨hE, hW, g1, g2, g3⟩ := storeW_ok (P := P) e hp h3 h2 h4
    simp only [h1, copyTo, g1]
    exact ⟨_, _, _, hW, rfl, g2, g3, rfl⟩
  · cases e

theorem row_less {vs : List AV} {n : Nat} {f : Nat → Option AV} (hl : vs.length = n) (hf : ∀ k v, k < n → f k = some v → vs[k]? = some v) (k : Nat) (v : AV) (hk : k < n) (e : (T.fn f).get k = some v) : (storeList .leaf 0 vs).get k = some v := by
  rw [storeList_get, if_pos ⟨Nat.zero_le _, by omega⟩, Nat.sub_zero]
  exact hf k v hk e

theorem makeW_ok {h : AHeap} {t : TypeId} {a b : AV} {r : AR} {p : Prop} (e : makeW P h t a b = some (r, p)) (hp : p) : ∃ v hE hW, makeSliceA P h t a b = some (v, hE) ∧ r = .val v hW ∧ LessH P h.next hE hW := by
  unfold makeW at e
  unfold makeSliceA
  split at e
  rotate_left
  · cases e
  rename_i el hu
  split at e
  rotate_left
  · cases e
  split at e
  rotate_left
  · cases e
  rename_i k1 l k2 c
  split at e
  · cases e
  rename_i i hi
  split at e
  · cases e
  rename_i z hz
  split at e
  · cases e
  rename_i hb
  rw [Bool.and_eq_true, Bool.and_eq_true] at hb
  cases e
  have h1 := Nat.eq_of_beq_eq_true hb.1.1
  have h2 := Nat.eq_of_beq_eq_true hb.1.2
  have hlen : (repeatL z.cells c.toNat).length = c.toNat := by rw [repeatL_length, h2, Nat.mul_one]
  refine ⟨_, newCells h el (repeatL z.cells c.toNat) false, _, ?_, rfl, ?_⟩
  · simp only [hu, makeSliceN, hi, hz]
    rw [if_pos ⟨hp.1, hp.2.1, hp.2.2.1, hp.2.2.2, by omega, by omega, hb.2⟩]
  · unfold newCells
    rw [hlen]
    refine .new rfl rfl (cells_less' fun k v hk e => row_less hlen (fun k v hk e => ?_) k v hk e)
    match hc : z.cells, h2 with
    | [y], _ =>
      rw [hc] at e
      cases e
      exact repeatL_get1 _ _ _ hk

theorem put_same {h : AHeap} {id : Nat} {o : AObj} (e : h.get id = some o) : h.put id o = h := by
  obtain ⟨objs, next, glob⟩ := h
  show AHeap.mk (objs.set (some o) id) next glob = _
  rw [T.set_same' e]

theorem appendW_ok {moved : Bool} {h : AHeap} {t : TypeId} {zeros : Bool} {s x : AV} {r : AR} {p : Prop} (e : appendW P moved h t zeros s x = some (r, p)) (hp : p) : ∃ id v hE hW, appendA P h t zeros s x = some (v, hE) ∧ r = .val v hW ∧ LessH P id hE hW ∧ (id = h.next ∨ headId s = some id) := by
  unfold appendW at e
  unfold appendA
  split at e
  rotate_left
  · cases e
  rename_i el hu
  simp only [hu]
  unfold appendEl
  split at e
  · cases e
  rename_i i hi
  split at e
  · cases e
  rename_i z hz
  split at e
  · cases e
  rename_i hb
  rw [Bool.and_eq_true, Bool.and_eq_true] at hb
  have hs0 : 0 < i.size := Nat.le_of_ble_eq_true hb.1.1
  have hz1 := Nat.eq_of_beq_eq_true hb.1.2
  split at e
  · cases e
  rename_i n f q hsrc
  simp only [hi, hz]
  split at e
  · -- nothing is there
    unfold freshW at e
    cases e
    obtain ⟨new, h1, h2, h3, h4, h5⟩ := srcW_ok hz1 hb.2 hsrc hp.1
    simp only [lenSlice, h1]
    rw [if_pos ⟨hs0, hz1, hb.2, h2, h3, h4⟩]
    obtain ⟨n, rfl⟩ : ∃ k, n = k + 1 := ⟨n - 1, by have := hp.2.1; omega⟩
    simp only [appendTo, appendFresh, Nat.zero_add, firstA]
    rw [if_pos hp.2.2, if_pos ⟨rfl, by simp⟩]
    refine ⟨_, _, _, _, rfl, rfl, ?_, .inl rfl⟩
    unfold newCells
    rw [List.nil_append, h3]
    exact .new rfl rfl (cells_less' fun k v hk e => row_less h3 h5 k v hk e)
  · rename_i id ver off sLen cap
    split at e
    · -- in place
      unfold inPlaceW at e
      split at e
      rotate_left
      · cases e
      rename_i c m el' lo hi' nv fz sg ex ho
      split at e
      · cases e
      rename_i e0 he
      cases hb' : (Nat.ble lo ver && Nat.ble ver hi') with
      | false => rw [hb'] at e; cases e
      | true =>
        rw [hb'] at e
        simp only [cond_true, Option.some.injEq, Prod.mk.injEq] at e
        obtain ⟨rfl, rfl⟩ := e
        obtain ⟨b1, b2⟩ := ble2 hb'
        obtain ⟨p1, p2, p3, p4, p5⟩ := hp
        obtain ⟨new, h1, h2, h3, h4, h5⟩ := srcW_ok hz1 hb.2 hsrc p1
        simp only [lenSlice, h1]
        rw [if_pos ⟨hs0, hz1, hb.2, h2, h3, h4⟩]
        cases n with
        | zero =>
          have hv : lo = ver ∧ hi' = ver := by
            revert p5
            cases hq : (Nat.beq lo ver && Nat.beq hi' ver) with
            | true =>
              intro _
              rw [Bool.and_eq_true] at hq
              exact ⟨Nat.eq_of_beq_eq_true hq.1, Nat.eq_of_beq_eq_true hq.2⟩
            | false => exact fun h => absurd h (Nat.lt_irrefl 0)
          obtain ⟨rfl, rfl⟩ := hv
          have hm : m = e0 := by
            unfold extOf at he
            rw [if_pos rfl] at he
            exact Option.some.inj he
          subst hm
          simp only [appendNone]
          rw [if_pos (by omega)]
          refine ⟨id, _, _, _, rfl, rfl, ?_, .inr rfl⟩
          have hl : LessH P id (h.put id (.cells c m el' hi' hi' nv fz sg ex)) (h.put id (.cells (overT c (off + sLen * i.size) (0 * i.size) f) m el' hi' hi' nv fz sg ex)) := by
            refine .put rfl rfl (cells_less' fun k v _ e => ?_)
            have := over_le (vs := []) (by simp) (fun k v hk => by simp at hk) k v e
            rwa [storeList] at this
          rwa [put_same ho] at hl
        | succ n =>
          obtain ⟨g1, g2⟩ := storeCells_W (P := P) ho he b1 b2 p3 p4 h3 h2 h5
          simp only [appendTo, if_pos p2, appendIn, g1]
          exact ⟨_, _, _, _, rfl, rfl, g2, .inr rfl⟩
    · -- moved
      unfold movedW at e
      split at e
      · cases e
      rename_i g q' hrow
      cases e
      obtain ⟨p1, p2, p3, p4, p5⟩ := hp
      obtain ⟨new, h1, h2, h3, h4, h5⟩ := srcW_ok hz1 hb.2 hsrc p1
      obtain ⟨old, o1, o2, o3, o4⟩ := srcRow_ok hrow p2
      simp only [lenSlice, h1]
      rw [if_pos ⟨hs0, hz1, hb.2, h2, h3, h4⟩]
      obtain ⟨n, rfl⟩ : ∃ k, n = k + 1 := ⟨n - 1, by omega⟩
      simp only [appendTo, if_neg (Nat.not_le.2 p4), appendFresh, firstA, o1]
      rw [if_pos p5, if_pos ⟨o2, o3⟩]
      refine ⟨_, _, _, _, rfl, rfl, ?_, .inl rfl⟩
      unfold newCells
      rw [List.length_append, o3, h3]
      refine .new rfl rfl (cells_less' fun k v hk e => row_less (by rw [List.length_append, o3, h3]) (fun k v hk e => ?_) k v hk e)
      cases hq : Nat.blt k (sLen * i.size) with
      | true =>
        rw [hq] at e
        have hlt : k < sLen * i.size := Nat.le_of_ble_eq_true hq
        rw [List.getElem?_append_left (by omega)]
        exact o4 k v hlt e
      | false =>
        rw [hq] at e
        have hge : ¬ k < sLen * i.size := fun h => by rw [show Nat.blt k (sLen * i.size) = true from Nat.ble_eq_true_of_le h] at hq; cases hq
        rw [List.getElem?_append_right (by omega), o3]
        exact h5 _ v (by omega) e
  · rename_i id ver off sLen st
    split at e
    · -- it grows
      unfold growW at e
      split at e
      rotate_left
      · cases e
      rename_i c m el' lo hi' nv fz sg ex ho
      split at e
      · cases e
      rename_i e0 he
      cases hb' : (Nat.ble lo ver && Nat.ble ver hi' && Nat.beq el' el && Nat.blt hi' nv) with
      | false => rw [hb'] at e; cases e
      | true =>
        rw [hb'] at e
        simp only [cond_true, Option.some.injEq, Prod.mk.injEq] at e
        obtain ⟨rfl, rfl⟩ := e
        rw [Bool.and_eq_true, Bool.and_eq_true] at hb'
        obtain ⟨⟨hb1, hb2⟩, hb3⟩ := hb'
        obtain ⟨b1, b2⟩ := ble2 hb1
        have b3 := Nat.eq_of_beq_eq_true hb2
        have b4 : hi' < nv := Nat.le_of_ble_eq_true hb3
        obtain ⟨p1, p2, p3, p4, p5, p6, p7⟩ := hp
        obtain ⟨new, h1, h2, h3, h4, h5⟩ := srcW_ok hz1 hb.2 hsrc p1
        simp only [lenSlice, h1]
        rw [if_pos ⟨hs0, hz1, hb.2, h2, h3, h4⟩]
        obtain ⟨n, rfl⟩ : ∃ k, n = k + 1 := ⟨n - 1, by omega⟩
        have hkn : appendKnown h el i.size id ver off st sLen (sLen + (n + 1)) new = none := by
          simp only [appendKnown, ho, he]
          rw [if_neg (fun hc => by have := hc.1; omega)]
        simp only [appendTo, hkn]
        simp only [appendGrow, ho, he]
        rw [if_pos ⟨b1, b2, p3, p4, b3, p5, b4, p6⟩]
        split
        · rename_i hc
          rw [T.seq_eq, T.seq_eq]
          refine ⟨id, _, _, _, rfl, rfl, ?_, .inr rfl⟩
          rw [h3]
          refine .put rfl rfl (cells_less (fun k v _ e => over_le h3 h5 k v e) (by omega) (Nat.le_refl _) fun r e q1 q2 q3 => ?_)
          obtain rfl : r = nv := by omega
          unfold extOf at q3 ⊢
          rw [if_pos rfl] at q3 ⊢
          exact q3
        · rw [T.seq_eq]
          refine ⟨id, _, _, _, rfl, rfl, ?_, .inr rfl⟩
          rw [h3]
          exact .put rfl rfl (cells_less' fun k v _ e => over_le h3 h5 k v e)
    · -- within what is there
      unfold knownW at e
      split at e
      rotate_left
      · cases e
      rename_i c m el' lo hi' nv fz sg ex ho
      split at e
      · cases e
      rename_i e0 he
      cases hb' : (Nat.ble lo ver && Nat.ble ver hi' && Nat.beq el' el) with
      | false => rw [hb'] at e; cases e
      | true =>
        rw [hb'] at e
        simp only [cond_true, Option.some.injEq, Prod.mk.injEq] at e
        obtain ⟨rfl, rfl⟩ := e
        rw [Bool.and_eq_true] at hb'
        obtain ⟨hb1, hb2⟩ := hb'
        obtain ⟨b1, b2⟩ := ble2 hb1
        obtain rfl := Nat.eq_of_beq_eq_true hb2
        obtain ⟨p1, p2, p3, p4, p5, p6⟩ := hp
        obtain ⟨new, h1, h2, h3, h4, h5⟩ := srcW_ok hz1 hb.2 hsrc p1
        simp only [lenSlice, h1]
        rw [if_pos ⟨hs0, hz1, hb.2, h2, h3, h4⟩]
        obtain ⟨n, rfl⟩ : ∃ k, n = k + 1 := ⟨n - 1, by omega⟩
        obtain ⟨g1, g2⟩ := storeCells_W (P := P) ho he b1 b2 p4 p5 h3 h2 h5
        simp only [appendTo, appendKnown, ho, he]
        rw [if_pos ⟨p3, b1, b2, trivial, p6⟩]
        simp only [g1]
        exact ⟨id, _, _, _, rfl, rfl, g2, .inr rfl⟩
  · cases e

theorem clearW_ok {h : AHeap} {t : TypeId} {x : AV} {r : AR} {p : Prop} (e : clearW P h t x = some (r, p)) (hp : p) : ∃ id hE hW, clearA P h t x = some hE ∧ r = .val (.tup []) hW ∧ LessH P id hE hW ∧ headId x = some id := by
  unfold clearW at e
  split at e
  rotate_left
  · cases e
  rename_i el hu
  split at e
  · cases e
  rename_i z hz
  split at e
  · cases e
  rename_i ha
  have hez : elemZero P t = some z := by unfold elemZero; rw [hu]; exact hz
  have key : ∀ {id ver off n : Nat}, storeW h id ver off (n * z.cells.length) (fun k => z.cells[k % z.cells.length]?) (fun h => .val (.tup []) h) (0 < n) = some (r, p) →
      ∃ hE hW, clearSl h (elemZero P t) id ver off n = some hE ∧ r = .val (.tup []) hW ∧ LessH P id hE hW := by
    intro id ver off n e
    obtain ⟨hE, hW, g1, g2, g3⟩ := storeW_ok (P := P) e hp (vs := repeatL z.cells n) (repeatL_length _ _) (repeatL_one ha n) (fun k v hk hf => by rw [repeatL_get _ _ _ hk]; exact hf)
    have hn := storeW_p e hp
    obtain ⟨m, rfl⟩ : ∃ m, n = m + 1 := ⟨n - 1, by omega⟩
    refine ⟨hE, hW, ?_, g2, g3⟩
    unfold clearSl
    rw [hez]
    exact g1
  unfold clearA
  simp only [hu]
  split at e
  · rename_i id ver off n c
    obtain ⟨hE, hW, g1, g2, g3⟩ := key e
    exact ⟨id, hE, hW, g1, g2, g3, rfl⟩
  · rename_i id ver off n c
    obtain ⟨hE, hW, g1, g2, g3⟩ := key e
    exact ⟨id, hE, hW, g1, g2, g3, rfl⟩
  · cases e

/-- The values of an operation's operands. -/
def valsOf (ρ : Operand → Option AV) (o : Op) : List AV := o.operands.toList.filterMap ρ

theorem valsOf_mem {ρ : Operand → Option AV} {o : Op} {x : Operand} {v : AV} (hx : x ∈ o.operands) (hv : ρ x = some v) : v ∈ valsOf ρ o :=
  List.mem_filterMap.2 ⟨x, by simpa using hx, hv⟩

theorem call_vals {ρ : Operand → Option AV} {c : Call} {args : List AV} (ha : mapO ρ c.args.toList = some args) {v : AV} (hv : v ∈ args) : v ∈ valsOf ρ (.call c) := by
  obtain ⟨h1, h2⟩ := mapO_some ha
  obtain ⟨i, hi, rfl⟩ := List.getElem_of_mem hv
  have hlt : i < c.args.toList.length := by omega
  obtain ⟨b, hb1, hb2⟩ := h2 i _ (List.getElem?_eq_getElem hlt)
  rw [List.getElem?_eq_getElem hi] at hb1
  cases hb1
  refine valsOf_mem (x := c.args.toList[i]) ?_ hb2
  show _ ∈ c.operands
  unfold Call.operands
  exact Array.mem_append.2 (.inr (by simp))

theorem opW_ok {moved : Bool} {ρ : Operand → Option AV} {h : AHeap} {o : Op} {r : AR} {p : Prop} (e : opW P moved ρ h o = some (r, p)) (hp : p) : (∀ c, o ≠ .defer c) ∧ ∃ rE, opA P ρ h o = some rE ∧ LessR P h (valsOf ρ o) rE r := by
  unfold opW at e
  split at e
  · rename_i t a x
    unfold two' at e
    split at e
    · cases e
    rename_i v1 h1
    split at e
    · cases e
    rename_i v2 h2
    obtain ⟨id, hE, hW, g1, g2, g3, g4⟩ := storeOpW_ok e hp
    refine ⟨fun c h => (by cases h), .skip hE, ?_, id, .inr ⟨v1, valsOf_mem (x := a) (by simp [Op.operands]) h1, g4⟩, .inr ⟨_, _, rfl, g2, g3⟩⟩
    show op_store P t a x ρ h = _
    simp only [op_store, two, h1, h2, g1, skipH]
  · rename_i t l c
    unfold two' at e
    split at e
    · cases e
    rename_i v1 h1
    split at e
    · cases e
    rename_i v2 h2
    obtain ⟨v, hE, hW, g1, g2, g3⟩ := makeW_ok e hp
    refine ⟨fun c h => (by cases h), .val v hE, ?_, _, .inl rfl, .inl ⟨_, _, _, rfl, g2, g3⟩⟩
    show op_makeSlice P t l c ρ h = _
    simp only [op_makeSlice, two, h1, h2, g1, valH]
  · rename_i c
    refine ⟨fun c h => (by cases h), ?_⟩
    split at e
    · cases e
    rename_i args ha
    split at e
    rotate_left
    · cases e
    rename_i b hc
    show ∃ rE, op_call P c ρ h = some rE ∧ _
    simp only [op_call, callOpA, ha, hc]
    split at e
    · split at e
      · cases e
      rename_i t ht
      split at e
      · cases e
      rename_i u hu
      split at e
      · cases e
      rename_i z hz
      split at e
      · cases e
      rename_i s x hx
      obtain ⟨id, v, hE, hW, g1, g2, g3, g4⟩ := appendW_ok e hp
      refine ⟨.val v hE, ?_, id, g4.imp (fun h => h) (fun h => ⟨s, call_vals ha (by rw [two1_inv hx]; simp), h⟩), .inl ⟨_, _, _, rfl, g2, g3⟩⟩
      simp only [builtinA, isBuiltinR, builtinE, appendE, ht, hu, hz, hx, g1, valH]
    · split at e
      · cases e
      rename_i t ht
      split at e
      · cases e
      rename_i d s hx
      obtain ⟨id, v, hE, hW, g1, g2, g3, g4⟩ := copyW_ok e hp
      refine ⟨.val v hE, ?_, id, .inr ⟨d, call_vals ha (by rw [two1_inv hx]; simp), g4⟩, .inl ⟨_, _, _, rfl, g2, g3⟩⟩
      simp only [builtinA, isBuiltinR, builtinE, copyE, ht, hx, g1, valH]
    · split at e
      · cases e
      rename_i t ht
      split at e
      rotate_left
      · cases e
      rename_i x
      obtain ⟨id, hE, hW, g1, g2, g3, g4⟩ := clearW_ok e hp
      refine ⟨.val (.tup []) hE, ?_, id, .inr ⟨x, call_vals ha (by simp), g4⟩, .inl ⟨_, _, _, rfl, g2, g3⟩⟩
      simp only [builtinA, isBuiltinR, builtinE, clearE, one1, ht, g1, unitH]
    · cases e
  · cases e

theorem OpRel.less {B : Base} {R : Bij} {h : AHeap} {w : World} {s : Sem Next} {ρ : Operand → Option AV} {ρ' : Operand → Value} {o : Op} {rE r : AR} (k : HRel P B R h w) (hρ : ∀ x ∈ o.operands, ∀ v, ρ x = some v → VRel R v (ρ' x)) (hl : LessR P h (valsOf ρ o) rE r) (e : OpRel P B R w s rE) : OpRel P B R w s r := by
  obtain ⟨id, hid, hl⟩ := hl
  have hp : B.pend id = none := by
    cases hb : B.pend id with
    | none => rfl
    | some x =>
      obtain ⟨h1, _, h3⟩ := k.pend id x hb
      rcases hid with rfl | ⟨v, hv, hd⟩
      · exact absurd h1 (Nat.lt_irrefl _)
      · obtain ⟨y, hy, hyv⟩ := List.mem_filterMap.1 hv
        obtain ⟨r, L, hL⟩ := headId_live (hρ y (by simpa using hy) v hyv) hd
        rw [h3 r] at hL
        cases hL
  rcases hl with ⟨v, hE, hW, rfl, rfl, hless⟩ | ⟨hE, hW, rfl, rfl, hless⟩
  · obtain ⟨R', v', w', r1, r2, r3, r4⟩ := e
    exact ⟨R', v', w', r1, r2, r3.less hless hp, r4⟩
  · obtain ⟨R', w', r1, r3, r4⟩ := e
    exact ⟨R', w', r1, r3.less hless hp, r4⟩

end

section
variable {P : Program} {w0 : Env} {base : List Frame} {B : Base} {R : Bij} {af : AFrame} {rest : List AFrame} {h : AHeap} {fr : Frame} {fs : List Frame} {w : World}

theorem operW_sim [XT P] [XTOk P] (k : Wait P w0 base B R af rest h fr fs w) {ops : Array Oper} {i : Nat} {s' : List Nat} {k' : List Item} (ht : fr.todo = .inRegion ops (i :: s') :: k') {o : Oper} (ho : ops[i]? = some o)
    (hops : ∀ x ∈ o.op.operands, ∀ v, ev af.tmps x = some v → VRel R v (fr.eval x))
    (hgu : ∀ g b q u v, o.guard = some (g, b) → ops[g]? = some q → q.dst = some u → af.tmps.get u = some v → ∃ x, fr.tmps[u]? = some x ∧ VRel R v x)
    (hwt : wantedA ops.toList af.tmps o.guard = some true) (hnd : ∀ c, o.op ≠ .defer c) {rE r : AR} (hE : opA P (ev af.tmps) h o.op = some rE) (hl : LessR P h (valsOf (ev af.tmps) o.op) rE r)
    {m : AM} (e : upon P af rest h r = some m) : Goes P w0 base m fr (fs ++ base) w := by
  have hm := wrun k
  have hw := wanted_rel hwt hgu
  have hop := OpRel.less k.heap hops hl (opA_at k.heap k.room hops hE)
  have hoper : (stepG P true { frame := fr, callers := fs ++ base, status := .running, dying := none } w) = stepG.oper P true fr (fs ++ base) none w := by
    simp only [stepG, stepG.exec, hm, ht, ho, hw, Option.map_some, Option.getD_some, if_true]
  have hst : (stepG P true { frame := fr, callers := fs ++ base, status := .running, dying := none } w) = stepG.apply P true fr (fs ++ base) none (execOp fr.eval o) w := by
    rw [hoper]
    simp only [stepG.oper, Frame.oper?, ht, ho]
    split
    · rename_i _ c _ hc
      exact absurd hc (hnd c)
    · rfl
  obtain ⟨id, hid, hl⟩ := hl
  rcases hl with ⟨v, hE, hW, rfl, rfl, hless⟩ | ⟨hE, hW, rfl, rfl, hless⟩
  · obtain ⟨a, b, c, h1, h2⟩ := upon_sim k hop (by simp) (by simp) (by simp) (by rw [hst]) ⟨_, _, _, _, ht⟩ e
    exact ⟨a, b, c, h1, h2⟩
  · obtain ⟨a, b, c, h1, h2⟩ := upon_sim k hop (by simp) (by simp) (by simp) (by rw [hst]) ⟨_, _, _, _, ht⟩ e
    exact ⟨a, b, c, h1, h2⟩

theorem weak_step [XT P] [XTOk P] {all : List Oper} {o : Oper} (k : Plain P w0 base B R af rest h fr fs w) (hto : topOp af = some (all, o)) (hac : actsIn P af o = true) (hwt : wantedA all af.tmps o.guard = some true) (hnd : ∀ c, o.op ≠ .defer c) {rE r : AR}
    (hE : opA P (ev af.tmps) h o.op = some rE) (hl : LessR P h (valsOf (ev af.tmps) o.op) rE r) {m : AM} (e : upon P af rest h r = some m) : Goes P w0 base m fr (fs ++ base) w := by
  have hm := frun k
  have htop : TodoRel P B R rest.length false h af.todo af.tmps fr.todo fr.tmps := by
    have := k.top.top
    rw [k.run] at this; exact this
  unfold topOp at hto
  split at hto
  · rename_i all' o' l kk htodo
    cases hto
    rw [htodo] at htop
    obtain ⟨⟨_, kk', hfr, ⟨ops, todo, rfl, rfl, hmap⟩, hk⟩, hs⟩ := htop
    cases todo with
    | nil => simp at hmap
    | cons i todo =>
      simp only [List.map_cons, List.cons.injEq] at hmap
      have hw : Wait P w0 base B R af rest h fr fs w := ⟨k.heap, k.base, k.old, by
        obtain ⟨k1, k2, k3, k4, k5, k6, k7, k8, k9⟩ := k.top
        refine ⟨k1, k2, k3, k4, k5, k6, k7, k8, ?_⟩
        have hr := k.run
        obtain ⟨fn, n, t, td, ds, mode, kind, round⟩ := af
        simp only at hr htodo; subst hr; subst htodo
        exact ⟨⟨_, kk', hfr, ⟨ops, _, rfl, rfl, by simp only [List.map_cons, List.cons.injEq]; exact hmap⟩, hk⟩, hs⟩, k.run, k.below⟩
      exact operW_sim hw hfr hmap.1.symm (fun x _ v hv => ev_eval (fun u _ hu => hs u v hu) hv) (fun g b q u v _ _ _ hv => hs u v hv) hwt hnd hE hl e
  · rename_i all' i l dn kk htodo
    split at hto
    · cases hto
    rename_i o' ho
    cases hto
    rw [htodo] at htop
    obtain ⟨s, k', hfr, hk, hd⟩ := htop
    unfold actsIn at hac
    rw [htodo] at hac
    have hroom : B.n ≤ w.heap.size := by show B.env.heap.size ≤ _; rw [k.base]; exact k.old.size
    have hrun := k.run
    have htopf := k.top
    obtain ⟨fn, n, t, td, ds, mode, kind, round⟩ := af
    simp only at htodo hrun hd; subst htodo; subst hrun
    have hidn : i ∉ dn := fun hi => (List.nodup_append.1 hd.facts.2.2.2.2.1).2.2 i (by simpa using hi) i List.mem_cons_self rfl
    obtain ⟨k1, k2, k3, k4, k5, k6, k7, k8, k9⟩ := htopf
    have hem : (planOf P all'.toList).em.testBit i = true := by rw [hd.plan.em i o ho]; exact hac
    obtain ⟨B', R', w', a', s', g1, g2, g3, g4, g5, g6, g7⟩ := hd.catch_up hem s k.heap hroom hm hfr (fs ++ base)
    have hw : Wait P w0 base B' R' ⟨fn, n, t, .drw all' (i :: l) dn :: kk, ds, .run, kind, round⟩ rest h { fr with tmps := a', todo := .inRegion all' (i :: s') :: k' } fs w' :=
      ⟨g5, g3.1.trans k.base, k.old.keeps k.base k.heap g6, ⟨k1, k2, k3, k4, k5.mono g4, k6.mono fun _ _ q => q.mono g4, k7.mono g4, g2.trans k8, i :: s', k', rfl, hk.mono fun _ _ q => q.mono g4, g7.suspend hem⟩, rfl, k.below.mono g4 g3 (Nat.le_refl _)⟩
    have hreads := g7.reads ho hidn
    obtain ⟨fr', cs', w2, s1, s2⟩ := operW_sim hw rfl ho (fun x hx v hv => ev_eval (fun u hu he => hreads u v (by rw [hu] at hx; exact mentions_operand hx) he) hv)
      (fun g b q u v hg hq hu hv => hreads u v (mentions_guard hg (by simpa using hq) hu) hv) hwt hnd hE hl e
    exact ⟨fr', cs', w2, g1.trans s1, s2⟩
  · cases hto

end

section
variable {P : Program}

theorem OpWK_goal [XT P] [XTOk P] {keep : Nat} {f0 : FuncId} {Q : AV → AHeap → Prop} {moved : Bool} {m : AM} {K : AM → Prop} (e : OpWK P moved m K) (hK : ∀ m, K m → Goal P keep f0 Q m) : Goal P keep f0 Q m := by
  intro w0 base cfr cs w hk s
  obtain ⟨fr, rest, h⟩ := m
  unfold OpWK at e
  simp only at e
  split at e
  rotate_left
  · exact e.elim
  rename_i hm
  split at e
  · exact e.elim
  rename_i all o ho
  split at e
  rotate_left
  · exact e.elim
  rename_i hw
  split at e
  · exact e.elim
  rename_i hac
  split at e
  · exact e.elim
  rename_i r p hop
  obtain ⟨hp, e⟩ := e
  obtain ⟨hnd, rE, g1, g2⟩ := opW_ok hop hp
  obtain ⟨m', h1, h2⟩ := Upon_some e
  obtain ⟨B, R, fs, rfl, hb, kh, ho', kt, kb⟩ := s
  obtain ⟨fr1, cs1, w1, s1, k1⟩ := weak_step (af := fr) (rest := rest) (h := h) ⟨kh, hb, ho', kt, hm, kb⟩ ho hac hw hnd g1 g2 h1
  obtain ⟨fr', w', B, R, v, v', h', s2, g⟩ := hK _ h2 w0 base fr1 cs1 w1 hk k1
  exact ⟨fr', w', B, R, v, v', h', s1.trans s2, g⟩

end

end Go.Proofs.Ytcdpmiebmhjmpaa.Ev
