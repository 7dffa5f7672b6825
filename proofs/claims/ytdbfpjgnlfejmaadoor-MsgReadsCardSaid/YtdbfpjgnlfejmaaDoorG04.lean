import Derived.Carry
import Derived.ChangeSlices
import Derived.SliceStrings
import Derived.Deep.Slices
import Derived.OpenShut
import Derived.FnData
import Derived.Test.YtdbfpjgnlfejmaaDoorRows
import Derived.MakeChecks
import Derived.ProofKit
import Derived.LaidMore
import Derived.Stop.Joined
import Derived.IntWalk
import Derived.Sort.Statements
import Derived.Shelf.SlSortCmp.Insertion
import Derived.Shelf.SlSortCmp.WholeK
import Derived.Ground.SlsfProg
import Derived.Test.YtdbfpjgnlfejmaaDoorProg
import Derived.Test.YtdbfpjgnlfejmaaDoorG00
import Derived.Test.YtdbfpjgnlfejmaaDoorG01
import Derived.Test.YtdbfpjgnlfejmaaDoorG02
import Derived.Test.YtdbfpjgnlfejmaaDoorG03
section
namespace Go.Proofs.YtdbfpjgnlfejmaaDoor.Ev
open Go
noncomputable section
variable (P:Program)
def ze8 (c:T AV) (off n:Nat) (f:Nat→Option AV):T AV:=.fn fun k=>bif Nat.ble off k&&Nat.blt k (off+n) then f (k - off) else c.get k
def zdO (h:AHeap) (id ver off n size:Nat):Option ((Nat→Option AV) × Prop):=match h.get id with
 | some (.ro c lo m)=>bif Nat.beq ver 0 then some (fun k=>c.get (off+k),(lo≤off∧off+n*size≤m)∧∀ k,k<n*size→∃ v,c.get (off+k)=some v∧AV.one v=true) else none
 | some (.cells c m _ lo hi _ _ _ ex)=>match zI ex m hi ver with
  | none=>none
  | some e=>bif Nat.ble lo ver&&Nat.ble ver hi then some (fun k=>c.get (off+k),off+n*size≤e∧∀ k,k<n*size→∃ v,c.get (off+k)=some v∧AV.one v=true) else none
 | _=>none
def jS (h:AHeap) (size n:Nat) (x:AV):Option ((Nat→Option AV) × Prop):=match x with
 | .str s=>bif Nat.beq size 1 then some (fun k=>some (.int .u8 (s.getD k 0).toNat),n≤s.length) else none
 | .slc id ver off _ _=>zdO h id ver off n size
 | .slg id ver off _ _=>zdO h id ver off n size
 | _=>none
def srcW (h:AHeap) (size bytes:Nat) (z:AV) (zeros:Bool) (x:AV):Option (Nat × (Nat→Option AV) × Prop):=match zeros with
 | true=>match x with
  | .int _ l=>bif Nat.beq size 1 then some (l.toNat,fun _=>z.cells.head?,(0≤l∧l<2 ^ 40)∧l.toNat*bytes≤2 ^ 48) else none
  | _=>none
 | false=>match za9 x with
  | none=>none
  | some n=>match jS h size n x with
   | none=>none
   | some (f,p)=>some (n,f,p)
def zgm (h:AHeap) (size id ver off sLen cap n:Nat) (f:Nat→Option AV) (p:Prop):Option (AR × Prop):=match h.get id with
 | some (.cells c m el lo hi nv fz sg ex)=>match zI ex m hi ver with
  | none=>none
  | some e=>bif Nat.ble lo ver&&Nat.ble ver hi then
   some (.val (.slc id ver off (sLen+n) cap) (h.put id (.cells (ze8 c (off+sLen*size) (n*size) f) e el ver ver nv fz sg ex)),
    p∧sLen+n≤cap∧off+sLen*size+n*size≤e∧fz≤off+sLen*size∧match Nat.beq lo ver&&Nat.beq hi ver with
     | true=>True
     | false=>0<n)
   else none
 | _=>none
def zmt (h:AHeap) (el:TypeId) (bytes size n:Nat) (f:Nat→Option AV) (p:Prop):Option (AR × Prop) :=
 some (.val (.slg h.next 0 0 n 0) (h.new (.cells (.fn f) (n*size) el 0 0 1 0 false .leaf)),p∧0<n∧xz n bytes=true)
def zmy (h:AHeap) (el:TypeId) (bytes size id ver off sLen cap n:Nat) (f:Nat→Option AV) (p:Prop):Option (AR × Prop):=match zdO h id ver off sLen size with
 | none=>none
 | some (g,q)=>some (.val (.slg h.next 0 0 (sLen+n) 0) (h.new (.cells (.fn fun k=>bif Nat.blt k (sLen*size) then g k else f (k - sLen*size)) (sLen*size+n*size) el 0 0 1 0 false .leaf)),
  p∧q∧0<n∧cap<sLen+n∧xz (sLen+n) bytes=true)
def zov (h:AHeap) (el:TypeId) (bytes size id ver off sLen st n:Nat) (f:Nat→Option AV) (p:Prop):Option (AR × Prop):=match h.get id with
 | some (.cells c m el' lo hi nv fz sg ex)=>match zI ex m hi ver with
  | none=>none
  | some e=>bif Nat.ble lo ver&&Nat.ble ver hi&&Nat.beq el' el&&Nat.blt hi nv then
   some (.val (.slg id nv off (sLen+n) st) (h.put id (.cells (ze8 c (off+sLen*size) (n*size) f) (off+sLen*size+n*size) el nv nv (nv+1) fz sg ex)),
    p∧0<n∧off+sLen*size≤e∧fz≤off+sLen*size∧off=st*size∧xz (sLen+n) bytes=true∧e<off+(sLen+n)*size)
   else none
 | _=>none
def zmm (h:AHeap) (el:TypeId) (size id ver off sLen st n:Nat) (f:Nat→Option AV) (p:Prop):Option (AR × Prop):=match h.get id with
 | some (.cells c m el' lo hi nv fz sg ex)=>match zI ex m hi ver with
  | none=>none
  | some e=>bif Nat.ble lo ver&&Nat.ble ver hi&&Nat.beq el' el then
   some (.val (.slg id ver off (sLen+n) st) (h.put id (.cells (ze8 c (off+sLen*size) (n*size) f) e el' ver ver nv fz sg ex)),
    p∧0<n∧off+(sLen+n)*size≤e∧off+sLen*size+n*size≤e∧fz≤off+sLen*size∧off=st*size)
   else none
 | _=>none
def zeF (moved:Bool) (h:AHeap) (t:TypeId) (zeros:Bool) (s x:AV):Option (AR × Prop):=match P.underlying t with
 | some (.slice el)=>match P.info? el with
  | none=>none
  | some i=>match wf P el with
   | none=>none
   | some z=>match Nat.blt 0 i.size&&Nat.beq z.cells.length i.size&&z.cells.all AV.one with
    | false=>none
    | true=>match srcW h i.size i.bytes z zeros x with
     | none=>none
     | some (n,f,p)=>match s with
      | .nils 0 0=>zmt h el i.bytes i.size n f p
      | .slc id ver off sLen cap=>match moved with
       | false=>zgm h i.size id ver off sLen cap n f p
       | true=>zmy h el i.bytes i.size id ver off sLen cap n f p
      | .slg id ver off sLen st=>match moved with
       | false=>zov h el i.bytes i.size id ver off sLen st n f p
       | true=>zmm h el i.size id ver off sLen st n f p
      | _=>none
 | _=>none
def wZ (h:AHeap) (id ver off:Nat) (n:Nat) (f:Nat→Option AV) (r:AHeap→AR) (p:Prop):Option (AR × Prop):=match h.get id with
 | some (.cells c m el lo hi nv fz sg ex)=>match zI ex m hi ver with
  | none=>none
  | some e=>bif Nat.ble lo ver&&Nat.ble ver hi then
   some (r (h.put id (.cells (ze8 c off n f) e el ver ver nv fz sg ex)),p∧off+n≤e∧fz≤off)
   else none
 | _=>none
def putW (h:AHeap) (id ver off:Nat) (v:AV):Option (AR × Prop):=match h.get id with
 | some (.cells c m el lo hi nv fz sg ex)=>match zI ex m hi ver with
  | none=>none
  | some e=>bif Nat.ble lo ver&&Nat.ble ver hi then
   some (.skip (h.put id (.cells (.fn fun k=>bif Nat.beq k off then some v else c.get k) e el ver ver nv fz sg ex)),off+1≤e∧fz≤off)
   else none
 | _=>none
def zcm (h:AHeap) (t:TypeId) (p v:AV):Option (AR × Prop):=match p with
 | .ptr id ver off=>match P.info? t with
  | none=>none
  | some i=>match Nat.beq v.cells.length i.size&&v.cells.all AV.one with
   | false=>none
   | true=>match v.cells with
    | [x]=>putW h id ver off x
    | l=>wZ h id ver off l.length (fun k=>l[k]?) .skip True
 | _=>none
def znR (h:AHeap) (t:TypeId) (dst src:AV):Option (AR × Prop):=match P.underlying t with
 | some (.slice el)=>match yj P el with
  | none=>none
  | some s=>match xJ dst with
   | none=>none
   | some dn=>match za9 src with
    | none=>none
    | some sn=>match jS h s (Nat.min sn dn) src with
     | none=>none
     | some (f,p)=>match dst with
      | .slc id ver off _ _=>wZ h id ver off (Nat.min sn dn*s) f (fun h=>.val (.int .i64 (Nat.min sn dn:Nat)) h) p
      | .slg id ver off _ _=>wZ h id ver off (Nat.min sn dn*s) f (fun h=>.val (.int .i64 (Nat.min sn dn:Nat)) h) p
      | _=>none
 | _=>none
def zmQ (h:AHeap) (t:TypeId) (len cap:AV):Option (AR × Prop):=match P.underlying t with
 | some (.slice el)=>match len with
  | .int _ l=>match cap with
   | .int _ c=>match P.info? el with
    | none=>none
    | some i=>match wf P el with
     | none=>none
     | some z=>match Nat.beq i.size 1&&Nat.beq z.cells.length 1&&z.cells.all AV.one with
      | false=>none
      | true=>some (.val (.slc h.next 0 0 l.toNat c.toNat) (h.new (.cells (.fn fun _=>z.cells.head?) c.toNat el 0 0 1 0 false .leaf)),0≤l∧l≤c∧c<2 ^ 40∧i.bytes*c≤2 ^ 48)
   | _=>none
  | _=>none
 | _=>none
def zkr (h:AHeap) (t:TypeId) (x:AV):Option (AR × Prop):=match P.underlying t with
 | some (.slice el)=>match wf P el with
  | none=>none
  | some z=>match z.cells.all AV.one with
   | false=>none
   | true=>match x with
    | .slc id ver off n _=>wZ h id ver off (n*z.cells.length) (fun k=>z.cells[k % z.cells.length]?) (fun h=>.val (.tup []) h) (0<n)
    | .slg id ver off n _=>wZ h id ver off (n*z.cells.length) (fun k=>z.cells[k % z.cells.length]?) (fun h=>.val (.tup []) h) (0<n)
    | _=>none
 | _=>none
def opW (moved:Bool) (ρ:Operand→Option AV) (h:AHeap) (o:Op):Option (AR × Prop):=match o with
 | .store t a x=>zku ρ a x fun p v=>zcm P h t p v
 | .makeSlice t l c=>zku ρ l c fun a b=>zmQ P h t a b
 | .call c=>match qw ρ c.args.toList with
  | none=>none
  | some args=>match c.callee with
   | .builtin b=>match b with
    | .append=>match c.argTypes[0]? with
     | none=>none
     | some t=>match c.argTypes[1]? with
      | none=>none
      | some u=>match jr P u with
       | none=>none
       | some z=>match zkB args with
        | none=>none
        | some (s,x)=>zeF P moved h t z s x
    | .copy=>match c.argTypes[0]? with
     | none=>none
     | some t=>match zkB args with
      | none=>none
      | some (d,s)=>znR P h t d s
    | .clear=>match c.argTypes[0]? with
     | none=>none
     | some t=>match args with
      | [x]=>zkr P h t x
      | _=>none
    | _=>none
   | _=>none
 | _=>none
def ziT (fr:AFrame) (o:Oper):Bool:=match fr.todo with
 | .drw _ _ _::_=>yR P o
 | _=>true
def OpWK [XT P] (moved:Bool) (m:AM) (K:AM→Prop):Prop:=match m with
 | ⟨fr,rest,h⟩=>match fr.mode with
  | .run=>match jE fr with
   | none=>False
   | some (all,o)=>match zS all fr.tmps o.guard with
    | some true=>match ziT P fr o with
     | false=>False
     | true=>match opW P moved (ev fr.tmps) h o.op with
      | none=>False
      | some (r,p)=>p∧zkz P fr rest h r K
    | _=>False
  | _=>False
end
section
variable {P:Program}
def LessH (P:Program) (id:Nat) (hE hW:AHeap):Prop:=∃ (oE oW:AObj),hE.get id=some oE∧hW.next=hE.next∧hW.glob=hE.glob∧(∀ i,hW.get i=if i=id then some oW else hE.get i) ∧
 oE.isRo=false∧oW.isRo=false∧∀ (R:Bij) (w:World),ObjRel P R w id oE→ObjRel P R w id oW
theorem HRel.less {B:Base}{R:Bij}{w:World}{id:Nat}{hE hW:AHeap}(e:LessH P id hE hW)(hp:B.pend id=none)(kh:HRel P B R hE w):HRel P B R hW w:=by
 obtain ⟨o,o',hobj,hnext,hglob,hget,hro,hro',hsw⟩:=e
 refine ⟨fun i hi=>kh.fresh i (by rw [← hnext]; exact hi),fun i x eo hpe=>?_,fun i x eo=>?_,kh.place,fun i hi=>⟨by rw [hnext]; exact (kh.rd i hi).1,fun x eo=>?_⟩,kh.rp,kh.rol,kh.low,kh.pin,kh.apart,kh.same,fun g c e=>kh.glob g c (by rw [← hglob]; exact e)⟩
 · rw [hget] at eo
   split at eo
   · rename_i hi
     subst hi
     cases eo
     exact hsw R w (kh.obj i _ hobj hpe)
   · exact kh.obj i x eo hpe
 · obtain ⟨h1,h2,h3⟩:=kh.pend i x eo
   refine ⟨by rw [hnext]; exact h1,?_,h3⟩
   rw [hget,if_neg (fun h=>by rw [h,hp] at eo; cases eo)]
   exact h2
 · rw [hget] at eo
   split at eo
   · rename_i hi'
     subst hi'
     cases eo
     have:=(kh.rd i hi).2 _ hobj
     rw [hro] at this; cases this
   · exact (kh.rd i hi).2 x eo
theorem LessH.put {h:AHeap}{id:Nat}{oE oW:AObj}(h1:oE.isRo=false)(h2:oW.isRo=false)(hsw:∀ (R:Bij) (w:World),ObjRel P R w id oE→ObjRel P R w id oW):LessH P id (h.put id oE) (h.put id oW):=by
 obtain ⟨objs,next,glob⟩:=h
 refine ⟨oE,oW,?_,rfl,rfl,fun i=>?_,h1,h2,hsw⟩
 · show (objs.set (some oE) id).get id=_
   rw [T.get_set,if_pos rfl]
 · show (objs.set (some oW) id).get i=if i=id then some oW else (objs.set (some oE) id).get i
   rw [T.get_set,T.get_set]
   split <;> rfl
theorem LessH.new {h:AHeap}{oE oW:AObj}(h1:oE.isRo=false)(h2:oW.isRo=false)(hsw:∀ (R:Bij) (w:World),ObjRel P R w h.next oE→ObjRel P R w h.next oW):LessH P h.next (h.new oE) (h.new oW):=by
 obtain ⟨objs,next,glob⟩:=h
 refine ⟨oE,oW,?_,rfl,rfl,fun i=>?_,h1,h2,hsw⟩
 · show (objs.set (some oE) next).get next=_
   rw [T.get_set,if_pos rfl]
 · show (objs.set (some oW) next).get i=if i=next then some oW else (objs.set (some oE) next).get i
   rw [T.get_set,T.get_set]
   split <;> rfl
theorem zbF {i:Nat}{cE cW:T AV}{n:Nat}{el:TypeId}{lo lo' hi nv fz:Nat}{sg:Bool}{ex ex':T Nat}(hle:∀ k v,k<n→cW.get k=some v→cE.get k=some v)(h1:lo≤lo')(h2:lo'≤hi)
 (hx:∀ r e,lo'≤r→r≤hi→zI ex' n hi r=some e→zI ex n hi r=some e) (R:Bij) (w:World) (k:ObjRel P R w i (.cells cE n el lo hi nv fz sg ex)):ObjRel P R w i (.cells cW n el lo' hi nv fz sg ex'):=by
 obtain ⟨a1,a2,a3,a4,a5⟩:=k
 refine ⟨h2,a2,a3,fun r e b1 b2 b3=>?_,fun r e b1 b2 b3=>a5 r e (Nat.le_trans h1 b1) b2 (hx r e b1 b2 b3)⟩
 have b3':=hx r e b1 b2 b3
 obtain ⟨L,g1,cs,a,b,c1,c2,c3,c4,c5⟩:=a4 r e (Nat.le_trans h1 b1) b2 b3'
 exact ⟨L,g1,cs,a,b,c1,c2,c3,c4,fun q v q1 q2 q3=>c5 q v q1 q2 (hle q v (Nat.lt_of_lt_of_le q1 (a5 r e (Nat.le_trans h1 b1) b2 b3')) q3)⟩
theorem xB {i:Nat}{cE cW:T AV}{n:Nat}{el:TypeId}{lo hi nv fz:Nat}{sg:Bool}{ex:T Nat}(hle:∀ k v,k<n→cW.get k=some v→cE.get k=some v)(R:Bij)(w:World)(k:ObjRel P R w i (.cells cE n el lo hi nv fz sg ex)):ObjRel P R w i (.cells cW n el lo hi nv fz sg ex) :=
 zbF hle (Nat.le_refl _) k.1 (fun _ _ _ _ e=>e) R w k
def Lives (h:AHeap) (vs:List AV) (id:Nat):Prop:=id=h.next∨∃ v∈vs,vV v=some id
def zld (P:Program) (h:AHeap) (vs:List AV) (rE r:AR):Prop:=∃ id,Lives h vs id∧((∃ v hE hW,rE=.val v hE∧r=.val v hW∧LessH P id hE hW)∨∃ hE hW,rE=.skip hE∧r=.skip hW∧LessH P id hE hW)
theorem zbK {c:T AV}{off:Nat}:∀ {n:Nat} {acc:List AV},(∀ k,k<n→∃ v,c.get (off+k)=some v∧AV.one v=true)→acc.all AV.one=true→∃ l,zaZ c off n acc=some l∧l.all AV.one=true
 | 0,acc,_,ha=>⟨acc,rfl,ha⟩
 | n+1,acc,h,ha=>by
  obtain ⟨v,hv,ho⟩:=h n (Nat.lt_succ_self n)
  unfold zaZ
  rw [hv]
  exact zbK (fun k hk=>h k (Nat.lt_succ_of_lt hk)) (by simp [ho,ha])
theorem qI {c:T AV}{off n:Nat}(h:∀ k,k<n→∃ v,c.get (off+k)=some v∧AV.one v=true):∃ l,zG c off n=some l∧l.all AV.one=true∧l.length=n∧∀ k v,k<n→c.get (off+k)=some v→l[k]?=some v:=by
 obtain ⟨l,h1,h2⟩:=zbK (acc:=[]) h rfl
 obtain ⟨g1,g2⟩:=xb h1
 refine ⟨l,h1,h2,g1,fun k v hk hv=>?_⟩
 have hlt:k<l.length:=by omega
 have:=g2 k l[k] (List.getElem?_eq_getElem hlt)
 rw [hv] at this
 rw [List.getElem?_eq_getElem hlt]
 exact this.symm
theorem zaE {h:AHeap}{id ver off n size:Nat}{f:Nat→Option AV}{p:Prop}(e:zdO h id ver off n size=some (f,p))(hp:p) :
 ∃ l,zj h id ver off (n*size)=some l∧l.all AV.one=true∧l.length=n*size∧∀ k v,k<n*size→f k=some v→l[k]?=some v:=by
 unfold zdO at e
 unfold zj
 split at e
 · rename_i c lo m ho
   cases hb:Nat.beq ver 0 with
   | false=>rw [hb] at e; cases e
   | true =>
    rw [hb] at e
    simp only [cond_true,Option.some.injEq,Prod.mk.injEq] at e
    obtain ⟨rfl,rfl⟩:=e
    obtain ⟨l,h1,h2,h3,h4⟩:=qI hp.2
    refine ⟨l,?_,h2,h3,h4⟩
    simp only [ho]
    rw [if_pos ⟨Nat.eq_of_beq_eq_true hb,hp.1⟩,h1]
 · rename_i c m el lo hi nv fz sg ex ho
   split at e
   · cases e
   · rename_i e0 he
     cases hb:(Nat.ble lo ver&&Nat.ble ver hi) with
     | false=>rw [hb] at e; cases e
     | true =>
      rw [hb] at e
      simp only [cond_true,Option.some.injEq,Prod.mk.injEq] at e
      obtain ⟨rfl,rfl⟩:=e
      rw [Bool.and_eq_true] at hb
      obtain ⟨l,h1,h2,h3,h4⟩:=qI hp.2
      refine ⟨l,?_,h2,h3,h4⟩
      simp only [ho,he]
      rw [if_pos ⟨Nat.le_of_ble_eq_true hb.1,Nat.le_of_ble_eq_true hb.2,hp.1⟩,h1]
 · cases e
theorem vw {h:AHeap}{size n:Nat}{x:AV}{f:Nat→Option AV}{p:Prop}(e:jS h size n x=some (f,p))(hp:p) :
 ∃ l,yY h size n x=some l∧l.all AV.one=true∧l.length=n*size∧∀ k v,k<n*size→f k=some v→l[k]?=some v:=by
 unfold jS at e
 split at e
 · rename_i s
   cases hb:Nat.beq size 1 with
   | false=>rw [hb] at e; cases e
   | true =>
    rw [hb] at e
    simp only [cond_true,Option.some.injEq,Prod.mk.injEq] at e
    obtain ⟨rfl,rfl⟩:=e
    obtain rfl:=Nat.eq_of_beq_eq_true hb
    refine ⟨_,rfl,(List.all_eq_true.2 fun x hx=>by obtain ⟨b,_,rfl⟩:=List.mem_map.1 hx; rfl),by simp [zr]; omega,fun k v hk hv=>?_⟩
    rw [Nat.mul_one] at hk
    cases hv
    have hs:k<s.length:=by omega
    simp [zr,hk,hs]
 · exact zaE e hp
 · exact zaE e hp
 · cases e
theorem wE (v:AV):∀ n k,k<n→(zX [v] n)[k]?=some v
 | 0,k,h=>by omega
 | n+1,0,_=>rfl
 | n+1,k+1,h=>by
  show (zX [v] n)[k]?=_
  exact wE v n k (by omega)
theorem zaW {h:AHeap}{size bytes:Nat}{z:AV}{zeros:Bool}{x:AV}{n:Nat}{f:Nat→Option AV}{p:Prop}(hz:z.cells.length=size)(hz1:z.cells.all AV.one=true)(e:srcW h size bytes z zeros x=some (n,f,p))(hp:p) :
 ∃ new,ku h size z zeros x=some (n,new)∧new.all AV.one=true∧new.length=n*size∧(zeros=true→Nat.ble (n*bytes) (2 ^ 48)=true)∧∀ k v,k<n*size→f k=some v→new[k]?=some v:=by
 unfold srcW at e
 unfold ku
 split at e
 · split at e
   · rename_i k l
     cases hb:Nat.beq size 1 with
     | false=>rw [hb] at e; cases e
     | true =>
      rw [hb] at e
      simp only [cond_true,Option.some.injEq,Prod.mk.injEq] at e
      obtain ⟨rfl,rfl,rfl⟩:=e
      obtain rfl:=Nat.eq_of_beq_eq_true hb
      simp only
      refine ⟨_,by rw [if_pos hp.1],za0 hz1 _,by rw [zD,hz],fun _=>Nat.ble_eq_true_of_le hp.2,fun k v hk hv=>?_⟩
      rw [Nat.mul_one] at hk
      match hc:z.cells,hz with
      | [y],_ =>
       rw [hc] at hv
       cases hv
       exact wE _ _ _ hk
   · cases e
 · split at e
   · cases e
   · rename_i n' hn
     split at e
     · cases e
     · rename_i f' p' hf
       cases e
       obtain ⟨l,h1,h2,h3,h4⟩:=vw hf hp
       exact ⟨l,by simp only [hn,h1],h2,h3,fun h=>(by cases h),h4⟩
theorem zcF {c:T AV}{off n:Nat}{f:Nat→Option AV}{vs:List AV}(hl:vs.length=n)(hf:∀ k v,k<n→f k=some v→vs[k]?=some v)(k:Nat)(v:AV)(e:(ze8 c off n f).get k=some v):(zy c off vs).get k=some v:=by
 rw [zn,hl]
 change (bif Nat.ble off k&&Nat.blt k (off+n) then f (k - off) else c.get k)=some v at e
 cases hb:(Nat.ble off k&&Nat.blt k (off+n)) with
 | true =>
  rw [hb] at e
  rw [Bool.and_eq_true] at hb
  have h1:=Nat.le_of_ble_eq_true hb.1
  have h2:k<off+n:=Nat.le_of_ble_eq_true hb.2
  rw [if_pos ⟨h1,h2⟩]
  exact hf _ _ (by omega) e
 | false =>
  rw [hb] at e
  rw [if_neg]
  · exact e
  · rintro ⟨h1,h2⟩
    rw [Nat.ble_eq_true_of_le h1,show Nat.blt k (off+n)=true from Nat.ble_eq_true_of_le h2] at hb
    cases hb
theorem wH {h:AHeap}{id ver off n:Nat}{f:Nat→Option AV}{c:T AV}{m:Nat}{el:TypeId}{lo hi nv fz:Nat}{sg:Bool}{ex:T Nat}{e:Nat}(ho:h.get id=some (.cells c m el lo hi nv fz sg ex))(he:zI ex m hi ver=some e)(h1:lo≤ver)(h2:ver≤hi)
 (h3:off+n≤e) (h4:fz≤off) {vs:List AV} (hl:vs.length=n) (ha:vs.all AV.one=true) (hf:∀ k v,k<n→f k=some v→vs[k]?=some v) :
 zF h id ver off vs=some (h.put id (.cells (zy c off vs) e el ver ver nv fz sg ex))∧LessH P id (h.put id (.cells (zy c off vs) e el ver ver nv fz sg ex)) (h.put id (.cells (ze8 c off n f) e el ver ver nv fz sg ex)):=by
 refine ⟨?_,.put rfl rfl (xB fun k v _ e=>zcF hl hf k v e)⟩
 unfold zF
 rw [ho]
 simp only [he]
 rw [if_pos ⟨h1,h2,by omega,h4,ha⟩,T.seq_eq]
theorem zpt {a b c:Nat}(h:(Nat.ble a b&&Nat.ble b c)=true):a≤b∧b≤c:=by
 rw [Bool.and_eq_true] at h
 exact ⟨Nat.le_of_ble_eq_true h.1,Nat.le_of_ble_eq_true h.2⟩
theorem vZ {h:AHeap}{id ver off n:Nat}{f:Nat→Option AV}{mk:AHeap→AR}{p0 p:Prop}{r:AR}(e:wZ h id ver off n f mk p0=some (r,p))(hp:p){vs:List AV}(hl:vs.length=n)(ha:vs.all AV.one=true)(hf:∀ k v,k<n→f k=some v→vs[k]?=some v) :
 ∃ hE hW,zF h id ver off vs=some hE∧r=mk hW∧LessH P id hE hW:=by
 unfold wZ at e
 split at e
 rotate_left
 · cases e
 rename_i c m el lo hi nv fz sg ex ho
 split at e
 · cases e
 rename_i e0 he
 cases hb:(Nat.ble lo ver&&Nat.ble ver hi) with
 | false=>rw [hb] at e; cases e
 | true =>
  rw [hb] at e
  simp only [cond_true,Option.some.injEq,Prod.mk.injEq] at e
  obtain ⟨rfl,rfl⟩:=e
  obtain ⟨b1,b2⟩:=zpt hb
  obtain ⟨g1,g2⟩:=wH (P:=P) ho he b1 b2 hp.2.1 hp.2.2 hl ha hf
  exact ⟨_,_,g1,rfl,g2⟩
theorem zb1 {h:AHeap}{id ver off n:Nat}{f:Nat→Option AV}{mk:AHeap→AR}{p0 p:Prop}{r:AR}(e:wZ h id ver off n f mk p0=some (r,p))(hp:p):p0:=by
 unfold wZ at e
 split at e
 rotate_left
 · cases e
 rename_i c m el lo hi nv fz sg ex ho
 split at e
 · cases e
 rename_i e0 he
 cases hb:(Nat.ble lo ver&&Nat.ble ver hi) with
 | false=>rw [hb] at e; cases e
 | true =>
  rw [hb] at e
  simp only [cond_true,Option.some.injEq,Prod.mk.injEq] at e
  obtain ⟨rfl,rfl⟩:=e
  exact hp.1
theorem zmZ {h:AHeap}{id ver off:Nat}{v:AV}{p:Prop}{r:AR}(e:putW h id ver off v=some (r,p))(hp:p)(ha:AV.one v=true) :
 ∃ hE hW,zF h id ver off [v]=some hE∧r=.skip hW∧LessH P id hE hW:=by
 unfold putW at e
 split at e
 rotate_left
 · cases e
 rename_i c m el lo hi nv fz sg ex ho
 split at e
 · cases e
 rename_i e0 he
 cases hb:(Nat.ble lo ver&&Nat.ble ver hi) with
 | false=>rw [hb] at e; cases e
 | true =>
  rw [hb] at e
  simp only [cond_true,Option.some.injEq,Prod.mk.injEq] at e
  obtain ⟨rfl,rfl⟩:=e
  obtain ⟨b1,b2⟩:=zpt hb
  refine ⟨h.put id (.cells (zy c off [v]) e0 el ver ver nv fz sg ex),_,?_,rfl,.put rfl rfl (xB fun k x _ e=>?_)⟩
  · unfold zF
    rw [ho]
    simp only [he]
    rw [if_pos ⟨b1,b2,hp.1,hp.2,by simp [ha]⟩,T.seq_eq]
  · rw [zn]
    change (bif Nat.beq k off then some v else c.get k)=some x at e
    cases hq:Nat.beq k off with
    | true =>
     rw [hq] at e
     obtain rfl:=Nat.eq_of_beq_eq_true hq
     rw [if_pos ⟨Nat.le_refl _,Nat.lt_succ_self _⟩]
     simpa using e
    | false =>
     rw [hq] at e
     rw [if_neg]
     · exact e
     · rintro ⟨h1,h2⟩
       have:k=off:=by simp at h2; omega
       rw [this,Nat.beq_refl] at hq
       cases hq
theorem zfe {h:AHeap}{t:TypeId}{a v:AV}{r:AR}{p:Prop}(e:zcm P h t a v=some (r,p))(hp:p):∃ id hE hW,zdl P h t a v=some hE∧r=.skip hW∧LessH P id hE hW∧vV a=some id:=by
 unfold zcm at e
 unfold zdl
 split at e
 rotate_left
 · cases e
 split at e
 · cases e
 rename_i i hi
 split at e
 · cases e
 rename_i hb
 rw [Bool.and_eq_true] at hb
 have hs:=Nat.eq_of_beq_eq_true hb.1
 simp only [hi,if_pos hs]
 split at e
 · rename_i x hx
   rw [hx] at hb ⊢
   obtain ⟨hE,hW,g1,g2,g3⟩:=zmZ (P:=P) e hp (by simpa using hb.2)
   exact ⟨_,hE,hW,g1,g2,g3,rfl⟩
 · obtain ⟨hE,hW,g1,g2,g3⟩:=vZ (P:=P) e hp rfl hb.2 fun k v _ e=>e
   exact ⟨_,hE,hW,g1,g2,g3,rfl⟩
theorem zlF {h:AHeap}{t:TypeId}{d s:AV}{r:AR}{p:Prop}(e:znR P h t d s=some (r,p))(hp:p):∃ id v hE hW,zij P h t d s=some (v,hE)∧r=.val v hW∧LessH P id hE hW∧vV d=some id:=by
 unfold znR at e
 unfold zij
 split at e
 rotate_left
 · cases e
 rename_i el hu
 simp only [hu]
 unfold zif
 split at e
 · cases e
 rename_i sz hsz
 split at e
 · cases e
 rename_i dn hdn
 split at e
 · cases e
 rename_i sn hsn
 split at e
 · cases e
 rename_i f p' hf
 simp only [hsz,hdn,hsn]
 split at e
 · obtain ⟨l,h1,h2,h3,h4⟩:=vw hf (zb1 e hp)
   obtain ⟨hE,hW,g1,g2,g3⟩:=vZ (P:=P) e hp h3 h2 h4
   simp only [h1,zf3,g1]
   exact ⟨_,_,_,hW,rfl,g2,g3,rfl⟩
 · obtain ⟨l,h1,h2,h3,h4⟩:=vw hf (zb1 e hp)
   obtain ⟨hE,hW,g1,g2,g3⟩:=vZ (P:=P) e hp h3 h2 h4
   simp only [h1,zf3,g1]
   exact ⟨_,_,_,hW,rfl,g2,g3,rfl⟩
 · cases e
theorem zce {vs:List AV}{n:Nat}{f:Nat→Option AV}(hl:vs.length=n)(hf:∀ k v,k<n→f k=some v→vs[k]?=some v)(k:Nat)(v:AV)(hk:k<n)(e:(T.fn f).get k=some v):(zy .leaf 0 vs).get k=some v:=by
 rw [zn,if_pos ⟨Nat.zero_le _,by omega⟩,Nat.sub_zero]
 exact hf k v hk e
theorem zlt {h:AHeap}{t:TypeId}{a b:AV}{r:AR}{p:Prop}(e:zmQ P h t a b=some (r,p))(hp:p):∃ v hE hW,xL P h t a b=some (v,hE)∧r=.val v hW∧LessH P h.next hE hW:=by
 unfold zmQ at e
 unfold xL
 split at e
 rotate_left
 · cases e
 rename_i el hu
 split at e
 rotate_left
 · cases e
 split at e
 rotate_left
 · cases e
 rename_i k1 l k2 c
 split at e
 · cases e
 rename_i i hi
 split at e
 · cases e
 rename_i z hz
 split at e
 · cases e
 rename_i hb
 rw [Bool.and_eq_true,Bool.and_eq_true] at hb
 cases e
 have h1:=Nat.eq_of_beq_eq_true hb.1.1
 have h2:=Nat.eq_of_beq_eq_true hb.1.2
 have hlen:(zX z.cells c.toNat).length=c.toNat:=by rw [zD,h2,Nat.mul_one]
 refine ⟨_,newCells h el (zX z.cells c.toNat) false,_,?_,rfl,?_⟩
 · simp only [hu,qu,hi,hz]
   rw [if_pos ⟨hp.1,hp.2.1,hp.2.2.1,hp.2.2.2,by omega,by omega,hb.2⟩]
 · unfold newCells
   rw [hlen]
   refine .new rfl rfl (xB fun k v hk e=>zce hlen (fun k v hk e=>?_) k v hk e)
   match hc:z.cells,h2 with
   | [y],_ =>
    rw [hc] at e
    cases e
    exact wE _ _ _ hk
theorem zkE {h:AHeap}{id:Nat}{o:AObj}(e:h.get id=some o):h.put id o=h:=by
 obtain ⟨objs,next,glob⟩:=h
 show AHeap.mk (objs.set (some o) id) next glob=_
 rw [T.set_same' e]
theorem zg1 {moved:Bool}{h:AHeap}{t:TypeId}{zeros:Bool}{s x:AV}{r:AR}{p:Prop}(e:zeF P moved h t zeros s x=some (r,p))(hp:p):∃ id v hE hW,wu P h t zeros s x=some (v,hE)∧r=.val v hW∧LessH P id hE hW∧(id=h.next∨vV s=some id):=by
 unfold zeF at e
 unfold wu
 split at e
 rotate_left
 · cases e
 rename_i el hu
 simp only [hu]
 unfold zc1
 split at e
 · cases e
 rename_i i hi
 split at e
 · cases e
 rename_i z hz
 split at e
 · cases e
 rename_i hb
 rw [Bool.and_eq_true,Bool.and_eq_true] at hb
 have hs0:0<i.size:=Nat.le_of_ble_eq_true hb.1.1
 have hz1:=Nat.eq_of_beq_eq_true hb.1.2
 split at e
 · cases e
 rename_i n f q hsrc
 simp only [hi,hz]
 split at e
 ·
  unfold zmt at e
  cases e
  obtain ⟨new,h1,h2,h3,h4,h5⟩:=zaW hz1 hb.2 hsrc hp.1
  simp only [xJ,h1]
  rw [if_pos ⟨hs0,hz1,hb.2,h2,h3,h4⟩]
  obtain ⟨n,rfl⟩:∃ k,n=k+1:=⟨n - 1,by have:=hp.2.1; omega⟩
  simp only [yZ,x7,Nat.zero_add,yY]
  rw [if_pos hp.2.2,if_pos ⟨rfl,by simp⟩]
  refine ⟨_,_,_,_,rfl,rfl,?_,.inl rfl⟩
  unfold newCells
  rw [List.nil_append,h3]
  exact .new rfl rfl (xB fun k v hk e=>zce h3 h5 k v hk e)
 · rename_i id ver off sLen cap
   split at e
   ·
    unfold zgm at e
    split at e
    rotate_left
    · cases e
    rename_i c m el' lo hi' nv fz sg ex ho
    split at e
    · cases e
    rename_i e0 he
    cases hb':(Nat.ble lo ver&&Nat.ble ver hi') with
    | false=>rw [hb'] at e; cases e
    | true =>
     rw [hb'] at e
     simp only [cond_true,Option.some.injEq,Prod.mk.injEq] at e
     obtain ⟨rfl,rfl⟩:=e
     obtain ⟨b1,b2⟩:=zpt hb'
     obtain ⟨p1,p2,p3,p4,p5⟩:=hp
     obtain ⟨new,h1,h2,h3,h4,h5⟩:=zaW hz1 hb.2 hsrc p1
     simp only [xJ,h1]
     rw [if_pos ⟨hs0,hz1,hb.2,h2,h3,h4⟩]
     cases n with
     | zero =>
      have hv:lo=ver∧hi'=ver:=by
       revert p5
       cases hq:(Nat.beq lo ver&&Nat.beq hi' ver) with
       | true =>
        intro _
        rw [Bool.and_eq_true] at hq
        exact ⟨Nat.eq_of_beq_eq_true hq.1,Nat.eq_of_beq_eq_true hq.2⟩
       | false=>exact fun h=>absurd h (Nat.lt_irrefl 0)
      obtain ⟨rfl,rfl⟩:=hv
      have hm:m=e0:=by
       unfold zI at he
       rw [if_pos rfl] at he
       exact Option.some.inj he
      subst hm
      simp only [qg]
      rw [if_pos (by omega)]
      refine ⟨id,_,_,_,rfl,rfl,?_,.inr rfl⟩
      have hl:LessH P id (h.put id (.cells c m el' hi' hi' nv fz sg ex)) (h.put id (.cells (ze8 c (off+sLen*i.size) (0*i.size) f) m el' hi' hi' nv fz sg ex)):=by
       refine .put rfl rfl (xB fun k v _ e=>?_)
       have:=zcF (vs:=[]) (by simp) (fun k v hk=>by simp at hk) k v e
       rwa [zy] at this
      rwa [zkE ho] at hl
     | succ n =>
      obtain ⟨g1,g2⟩:=wH (P:=P) ho he b1 b2 p3 p4 h3 h2 h5
      simp only [yZ,if_pos p2,zc8,g1]
      exact ⟨_,_,_,_,rfl,rfl,g2,.inr rfl⟩
   ·
    unfold zmy at e
    split at e
    · cases e
    rename_i g q' hrow
    cases e
    obtain ⟨p1,p2,p3,p4,p5⟩:=hp
    obtain ⟨new,h1,h2,h3,h4,h5⟩:=zaW hz1 hb.2 hsrc p1
    obtain ⟨old,o1,o2,o3,o4⟩:=zaE hrow p2
    simp only [xJ,h1]
    rw [if_pos ⟨hs0,hz1,hb.2,h2,h3,h4⟩]
    obtain ⟨n,rfl⟩:∃ k,n=k+1:=⟨n - 1,by omega⟩
    simp only [yZ,if_neg (Nat.not_le.2 p4),x7,yY,o1]
    rw [if_pos p5,if_pos ⟨o2,o3⟩]
    refine ⟨_,_,_,_,rfl,rfl,?_,.inl rfl⟩
    unfold newCells
    rw [List.length_append,o3,h3]
    refine .new rfl rfl (xB fun k v hk e=>zce (by rw [List.length_append,o3,h3]) (fun k v hk e=>?_) k v hk e)
    cases hq:Nat.blt k (sLen*i.size) with
    | true =>
     rw [hq] at e
     have hlt:k<sLen*i.size:=Nat.le_of_ble_eq_true hq
     rw [List.getElem?_append_left (by omega)]
     exact o4 k v hlt e
    | false =>
     rw [hq] at e
     have hge:¬ k<sLen*i.size:=fun h=>by rw [show Nat.blt k (sLen*i.size)=true from Nat.ble_eq_true_of_le h] at hq; cases hq
     rw [List.getElem?_append_right (by omega),o3]
     exact h5 _ v (by omega) e
 · rename_i id ver off sLen st
   split at e
   ·
    unfold zov at e
    split at e
    rotate_left
    · cases e
    rename_i c m el' lo hi' nv fz sg ex ho
    split at e
    · cases e
    rename_i e0 he
    cases hb':(Nat.ble lo ver&&Nat.ble ver hi'&&Nat.beq el' el&&Nat.blt hi' nv) with
    | false=>rw [hb'] at e; cases e
    | true =>
     rw [hb'] at e
     simp only [cond_true,Option.some.injEq,Prod.mk.injEq] at e
     obtain ⟨rfl,rfl⟩:=e
     rw [Bool.and_eq_true,Bool.and_eq_true] at hb'
     obtain ⟨⟨hb1,hb2⟩,hb3⟩:=hb'
     obtain ⟨b1,b2⟩:=zpt hb1
     have b3:=Nat.eq_of_beq_eq_true hb2
     have b4:hi'<nv:=Nat.le_of_ble_eq_true hb3
     obtain ⟨p1,p2,p3,p4,p5,p6,p7⟩:=hp
     obtain ⟨new,h1,h2,h3,h4,h5⟩:=zaW hz1 hb.2 hsrc p1
     simp only [xJ,h1]
     rw [if_pos ⟨hs0,hz1,hb.2,h2,h3,h4⟩]
     obtain ⟨n,rfl⟩:∃ k,n=k+1:=⟨n - 1,by omega⟩
     have hkn:x9 h el i.size id ver off st sLen (sLen+(n+1)) new=none:=by
      simp only [x9,ho,he]
      rw [if_neg (fun hc=>by have:=hc.1; omega)]
     simp only [yZ,hkn]
     simp only [wK,ho,he]
     rw [if_pos ⟨b1,b2,p3,p4,b3,p5,b4,p6⟩]
     split
     · rename_i hc
       rw [T.seq_eq,T.seq_eq]
       refine ⟨id,_,_,_,rfl,rfl,?_,.inr rfl⟩
       rw [h3]
       refine .put rfl rfl (zbF (fun k v _ e=>zcF h3 h5 k v e) (by omega) (Nat.le_refl _) fun r e q1 q2 q3=>?_)
       obtain rfl:r=nv:=by omega
       unfold zI at q3 ⊢
       rw [if_pos rfl] at q3 ⊢
       exact q3
     · rw [T.seq_eq]
       refine ⟨id,_,_,_,rfl,rfl,?_,.inr rfl⟩
       rw [h3]
       exact .put rfl rfl (xB fun k v _ e=>zcF h3 h5 k v e)
   ·
    unfold zmm at e
    split at e
    rotate_left
    · cases e
    rename_i c m el' lo hi' nv fz sg ex ho
    split at e
    · cases e
    rename_i e0 he
    cases hb':(Nat.ble lo ver&&Nat.ble ver hi'&&Nat.beq el' el) with
    | false=>rw [hb'] at e; cases e
    | true =>
     rw [hb'] at e
     simp only [cond_true,Option.some.injEq,Prod.mk.injEq] at e
     obtain ⟨rfl,rfl⟩:=e
     rw [Bool.and_eq_true] at hb'
     obtain ⟨hb1,hb2⟩:=hb'
     obtain ⟨b1,b2⟩:=zpt hb1
     obtain rfl:=Nat.eq_of_beq_eq_true hb2
     obtain ⟨p1,p2,p3,p4,p5,p6⟩:=hp
     obtain ⟨new,h1,h2,h3,h4,h5⟩:=zaW hz1 hb.2 hsrc p1
     simp only [xJ,h1]
     rw [if_pos ⟨hs0,hz1,hb.2,h2,h3,h4⟩]
     obtain ⟨n,rfl⟩:∃ k,n=k+1:=⟨n - 1,by omega⟩
     obtain ⟨g1,g2⟩:=wH (P:=P) ho he b1 b2 p4 p5 h3 h2 h5
     simp only [yZ,x9,ho,he]
     rw [if_pos ⟨p3,b1,b2,trivial,p6⟩]
     simp only [g1]
     exact ⟨id,_,_,_,rfl,rfl,g2,.inr rfl⟩
 · cases e
theorem zki {h:AHeap}{t:TypeId}{x:AV}{r:AR}{p:Prop}(e:zkr P h t x=some (r,p))(hp:p):∃ id hE hW,zdR P h t x=some hE∧r=.val (.tup []) hW∧LessH P id hE hW∧vV x=some id:=by
 unfold zkr at e
 split at e
 rotate_left
 · cases e
 rename_i el hu
 split at e
 · cases e
 rename_i z hz
 split at e
 · cases e
 rename_i ha
 have hez:qT P t=some z:=by unfold qT; rw [hu]; exact hz
 have key:∀ {id ver off n:Nat},wZ h id ver off (n*z.cells.length) (fun k=>z.cells[k % z.cells.length]?) (fun h=>.val (.tup []) h) (0<n)=some (r,p) →
  ∃ hE hW,vI h (qT P t) id ver off n=some hE∧r=.val (.tup []) hW∧LessH P id hE hW:=by
  intro id ver off n e
  obtain ⟨hE,hW,g1,g2,g3⟩:=vZ (P:=P) e hp (vs:=zX z.cells n) (zD _ _) (za0 ha n) (fun k v hk hf=>by rw [vn _ _ _ hk]; exact hf)
  have hn:=zb1 e hp
  obtain ⟨m,rfl⟩:∃ m,n=m+1:=⟨n - 1,by omega⟩
  refine ⟨hE,hW,?_,g2,g3⟩
  unfold vI
  rw [hez]
  exact g1
 unfold zdR
 simp only [hu]
 split at e
 · rename_i id ver off n c
   obtain ⟨hE,hW,g1,g2,g3⟩:=key e
   exact ⟨id,hE,hW,g1,g2,g3,rfl⟩
 · rename_i id ver off n c
   obtain ⟨hE,hW,g1,g2,g3⟩:=key e
   exact ⟨id,hE,hW,g1,g2,g3,rfl⟩
 · cases e
def zbJ (ρ:Operand→Option AV) (o:Op):List AV:=o.operands.toList.filterMap ρ
theorem zbB {ρ:Operand→Option AV}{o:Op}{x:Operand}{v:AV}(hx:x∈o.operands)(hv:ρ x=some v):v∈zbJ ρ o :=
 List.mem_filterMap.2 ⟨x,by simpa using hx,hv⟩
theorem zbb {ρ:Operand→Option AV}{c:Call}{args:List AV}(ha:qw ρ c.args.toList=some args){v:AV}(hv:v∈args):v∈zbJ ρ (.call c):=by
 obtain ⟨h1,h2⟩:=we ha
 obtain ⟨i,hi,rfl⟩:=List.getElem_of_mem hv
 have hlt:i<c.args.toList.length:=by omega
 obtain ⟨b,hb1,hb2⟩:=h2 i _ (List.getElem?_eq_getElem hlt)
 rw [List.getElem?_eq_getElem hi] at hb1
 cases hb1
 refine zbB (x:=c.args.toList[i]) ?_ hb2
 show _∈c.operands
 unfold Call.operands
 exact Array.mem_append.2 (.inr (by simp))
theorem zpI {moved:Bool}{ρ:Operand→Option AV}{h:AHeap}{o:Op}{r:AR}{p:Prop}(e:opW P moved ρ h o=some (r,p))(hp:p):(∀ c,o≠.defer c)∧∃ rE,opA P ρ h o=some rE∧zld P h (zbJ ρ o) rE r:=by
 unfold opW at e
 split at e
 · rename_i t a x
   unfold zku at e
   split at e
   · cases e
   rename_i v1 h1
   split at e
   · cases e
   rename_i v2 h2
   obtain ⟨id,hE,hW,g1,g2,g3,g4⟩:=zfe e hp
   refine ⟨fun c h=>(by cases h),.skip hE,?_,id,.inr ⟨v1,zbB (x:=a) (by simp [Op.operands]) h1,g4⟩,.inr ⟨_,_,rfl,g2,g3⟩⟩
   show jU P t a x ρ h=_
   simp only [jU,two,h1,h2,g1,zft]
 · rename_i t l c
   unfold zku at e
   split at e
   · cases e
   rename_i v1 h1
   split at e
   · cases e
   rename_i v2 h2
   obtain ⟨v,hE,hW,g1,g2,g3⟩:=zlt e hp
   refine ⟨fun c h=>(by cases h),.val v hE,?_,_,.inl rfl,.inl ⟨_,_,_,rfl,g2,g3⟩⟩
   show xj P t l c ρ h=_
   simp only [xj,two,h1,h2,g1,zbU]
 · rename_i c
   refine ⟨fun c h=>(by cases h),?_⟩
   split at e
   · cases e
   rename_i args ha
   split at e
   rotate_left
   · cases e
   rename_i b hc
   show ∃ rE,zb9 P c ρ h=some rE∧_
   simp only [zb9,xY,ha,hc]
   split at e
   · split at e
     · cases e
     rename_i t ht
     split at e
     · cases e
     rename_i u hu
     split at e
     · cases e
     rename_i z hz
     split at e
     · cases e
     rename_i s x hx
     obtain ⟨id,v,hE,hW,g1,g2,g3,g4⟩:=zg1 e hp
     refine ⟨.val v hE,?_,id,g4.imp (fun h=>h) (fun h=>⟨s,zbb ha (by rw [wQ hx]; simp),h⟩),.inl ⟨_,_,_,rfl,g2,g3⟩⟩
     simp only [yt,qv,yu,zco,ht,hu,hz,hx,g1,zbU]
   · split at e
     · cases e
     rename_i t ht
     split at e
     · cases e
     rename_i d s hx
     obtain ⟨id,v,hE,hW,g1,g2,g3,g4⟩:=zlF e hp
     refine ⟨.val v hE,?_,id,.inr ⟨d,zbb ha (by rw [wQ hx]; simp),g4⟩,.inl ⟨_,_,_,rfl,g2,g3⟩⟩
     simp only [yt,qv,yu,zkO,ht,hx,g1,zbU]
   · split at e
     · cases e
     rename_i t ht
     split at e
     rotate_left
     · cases e
     rename_i x
     obtain ⟨id,hE,hW,g1,g2,g3,g4⟩:=zki e hp
     refine ⟨.val (.tup []) hE,?_,id,.inr ⟨x,zbb ha (by simp),g4⟩,.inl ⟨_,_,_,rfl,g2,g3⟩⟩
     simp only [yt,qv,yu,zfJ,zd8,ht,g1,zgU]
   · cases e
 · cases e
theorem OpRel.less {B:Base}{R:Bij}{h:AHeap}{w:World}{s:Sem Next}{ρ:Operand→Option AV}{ρ':Operand→Value}{o:Op}{rE r:AR}(k:HRel P B R h w)(hρ:∀ x∈o.operands,∀ v,ρ x=some v→VRel R v (ρ' x))(hl:zld P h (zbJ ρ o) rE r)(e:OpRel P B R w s rE):OpRel P B R w s r:=by
 obtain ⟨id,hid,hl⟩:=hl
 have hp:B.pend id=none:=by
  cases hb:B.pend id with
  | none=>rfl
  | some x =>
   obtain ⟨h1,_,h3⟩:=k.pend id x hb
   rcases hid with rfl | ⟨v,hv,hd⟩
   · exact absurd h1 (Nat.lt_irrefl _)
   · obtain ⟨y,hy,hyv⟩:=List.mem_filterMap.1 hv
     obtain ⟨r,L,hL⟩:=vE (hρ y (by simpa using hy) v hyv) hd
     rw [h3 r] at hL
     cases hL
 rcases hl with ⟨v,hE,hW,rfl,rfl,hless⟩ | ⟨hE,hW,rfl,rfl,hless⟩
 · obtain ⟨R',v',w',r1,r2,r3,r4⟩:=e
   exact ⟨R',v',w',r1,r2,r3.less hless hp,r4⟩
 · obtain ⟨R',w',r1,r3,r4⟩:=e
   exact ⟨R',w',r1,r3.less hless hp,r4⟩
end
section
variable {P:Program} {w0:Env} {base:List Frame} {B:Base} {R:Bij} {af:AFrame} {rest:List AFrame} {h:AHeap} {fr:Frame} {fs:List Frame} {w:World}
theorem zdh [XT P] [XTOk P] (k:Wait P w0 base B R af rest h fr fs w){ops:Array Oper}{i:Nat}{s':List Nat}{k':List Item}(ht:fr.todo=.inRegion ops (i::s')::k'){o:Oper}(ho:ops[i]?=some o)
 (hops:∀ x∈o.op.operands,∀ v,ev af.tmps x=some v→VRel R v (fr.eval x))
 (hgu:∀ g b q u v,o.guard=some (g,b)→ops[g]?=some q→q.dst=some u→af.tmps.get u=some v→∃ x,fr.tmps[u]?=some x∧VRel R v x)
 (hwt:zS ops.toList af.tmps o.guard=some true) (hnd:∀ c,o.op≠.defer c) {rE r:AR} (hE:opA P (ev af.tmps) h o.op=some rE) (hl:zld P h (zbJ (ev af.tmps) o.op) rE r)
 {m:AM} (e:zmb P af rest h r=some m):zcj P w0 base m fr (fs++base) w:=by
 have hm:=wrun k
 have hw:=jp hwt hgu
 have hop:=OpRel.less k.heap hops hl (zgl k.heap k.room hops hE)
 have hoper:(stepG P true { frame:=fr,callers:=fs++base,status:=.running,dying:=none } w)=stepG.oper P true fr (fs++base) none w:=by
  simp only [stepG,stepG.exec,hm,ht,ho,hw,Option.map_some,Option.getD_some,if_true]
 have hst:(stepG P true { frame:=fr,callers:=fs++base,status:=.running,dying:=none } w)=stepG.apply P true fr (fs++base) none (execOp fr.eval o) w:=by
  rw [hoper]
  simp only [stepG.oper,Frame.oper?,ht,ho]
  split
  · rename_i _ c _ hc
    exact absurd hc (hnd c)
  · rfl
 obtain ⟨id,hid,hl⟩:=hl
 rcases hl with ⟨v,hE,hW,rfl,rfl,hless⟩ | ⟨hE,hW,rfl,rfl,hless⟩
 · obtain ⟨a,b,c,h1,h2⟩:=wO k hop (by simp) (by simp) (by simp) (by rw [hst]) ⟨_,_,_,_,ht⟩ e
   exact ⟨a,b,c,h1,h2⟩
 · obtain ⟨a,b,c,h1,h2⟩:=wO k hop (by simp) (by simp) (by simp) (by rw [hst]) ⟨_,_,_,_,ht⟩ e
   exact ⟨a,b,c,h1,h2⟩
theorem zkg [XT P] [XTOk P] {all:List Oper}{o:Oper}(k:Plain P w0 base B R af rest h fr fs w)(hto:jE af=some (all,o))(hac:ziT P af o=true)(hwt:zS all af.tmps o.guard=some true)(hnd:∀ c,o.op≠.defer c){rE r:AR}
 (hE:opA P (ev af.tmps) h o.op=some rE) (hl:zld P h (zbJ (ev af.tmps) o.op) rE r) {m:AM} (e:zmb P af rest h r=some m):zcj P w0 base m fr (fs++base) w:=by
 have hm:=zmE k
 have htop:TodoRel P B R rest.length false h af.todo af.tmps fr.todo fr.tmps:=by
  have:=k.top.top
  rw [k.run] at this; exact this
 unfold jE at hto
 split at hto
 · rename_i all' o' l kk htodo
   cases hto
   rw [htodo] at htop
   obtain ⟨⟨_,kk',hfr,⟨ops,todo,rfl,rfl,hmap⟩,hk⟩,hs⟩:=htop
   cases todo with
   | nil=>simp at hmap
   | cons i todo =>
    simp only [List.map_cons,List.cons.injEq] at hmap
    have hw:Wait P w0 base B R af rest h fr fs w:=⟨k.heap,k.base,k.old,by
     obtain ⟨k1,k2,k3,k4,k5,k6,k7,k8,k9⟩:=k.top
     refine ⟨k1,k2,k3,k4,k5,k6,k7,k8,?_⟩
     have hr:=k.run
     obtain ⟨fn,n,t,td,ds,mode,kind,round⟩:=af
     simp only at hr htodo; subst hr; subst htodo
     exact ⟨⟨_,kk',hfr,⟨ops,_,rfl,rfl,by simp only [List.map_cons,List.cons.injEq]; exact hmap⟩,hk⟩,hs⟩,k.run,k.below⟩
    exact zdh hw hfr hmap.1.symm (fun x _ v hv=>vt (fun u _ hu=>hs u v hu) hv) (fun g b q u v _ _ _ hv=>hs u v hv) hwt hnd hE hl e
 · rename_i all' i l dn kk htodo
   split at hto
   · cases hto
   rename_i o' ho
   cases hto
   rw [htodo] at htop
   obtain ⟨s,k',hfr,hk,hd⟩:=htop
   unfold ziT at hac
   rw [htodo] at hac
   have hroom:B.n≤w.heap.size:=by show B.env.heap.size≤_; rw [k.base]; exact k.old.size
   have hrun:=k.run
   have htopf:=k.top
   obtain ⟨fn,n,t,td,ds,mode,kind,round⟩:=af
   simp only at htodo hrun hd; subst htodo; subst hrun
   have hidn:i ∉ dn:=fun hi=>(List.nodup_append.1 hd.facts.2.2.2.2.1).2.2 i (by simpa using hi) i List.mem_cons_self rfl
   obtain ⟨k1,k2,k3,k4,k5,k6,k7,k8,k9⟩:=htopf
   have hem:(zN P all'.toList).em.testBit i=true:=by rw [hd.plan.em i o ho]; exact hac
   obtain ⟨B',R',w',a',s',g1,g2,g3,g4,g5,g6,g7⟩:=hd.catch_up hem s k.heap hroom hm hfr (fs++base)
   have hw:Wait P w0 base B' R' ⟨fn,n,t,.drw all' (i::l) dn::kk,ds,.run,kind,round⟩ rest h { fr with tmps:=a',todo:=.inRegion all' (i::s')::k' } fs w' :=
    ⟨g5,g3.1.trans k.base,k.old.keeps k.base k.heap g6,⟨k1,k2,k3,k4,k5.mono g4,k6.mono fun _ _ q=>q.mono g4,k7.mono g4,g2.trans k8,i::s',k',rfl,hk.mono fun _ _ q=>q.mono g4,g7.suspend hem⟩,rfl,k.below.mono g4 g3 (Nat.le_refl _)⟩
   have hreads:=g7.reads ho hidn
   obtain ⟨fr',cs',w2,s1,s2⟩:=zdh hw rfl ho (fun x hx v hv=>vt (fun u hu he=>hreads u v (by rw [hu] at hx; exact xq hx) he) hv)
    (fun g b q u v hg hq hu hv=>hreads u v (yc hg (by simpa using hq) hu) hv) hwt hnd hE hl e
   exact ⟨fr',cs',w2,g1.trans s1,s2⟩
 · cases hto
end
section
variable {P:Program}
theorem ziO [XT P] [XTOk P] {keep:Nat}{f0:FuncId}{Q:AV→AHeap→Prop}{moved:Bool}{m:AM}{K:AM→Prop}(e:OpWK P moved m K)(hK:∀ m,K m→Goal P keep f0 Q m):Goal P keep f0 Q m:=by
 intro w0 base cfr cs w hk s
 obtain ⟨fr,rest,h⟩:=m
 unfold OpWK at e
 simp only at e
 split at e
 rotate_left
 · exact e.elim
 rename_i hm
 split at e
 · exact e.elim
 rename_i all o ho
 split at e
 rotate_left
 · exact e.elim
 rename_i hw
 split at e
 · exact e.elim
 rename_i hac
 split at e
 · exact e.elim
 rename_i r p hop
 obtain ⟨hp,e⟩:=e
 obtain ⟨hnd,rE,g1,g2⟩:=zpI hop hp
 obtain ⟨m',h1,h2⟩:=ye e
 obtain ⟨B,R,fs,rfl,hb,kh,ho',kt,kb⟩:=s
 obtain ⟨fr1,cs1,w1,s1,k1⟩:=zkg (af:=fr) (rest:=rest) (h:=h) ⟨kh,hb,ho',kt,hm,kb⟩ ho hac hw hnd g1 g2 h1
 obtain ⟨fr',w',B,R,v,v',h',s2,g⟩:=hK _ h2 w0 base fr1 cs1 w1 hk k1
 exact ⟨fr',w',B,R,v,v',h',s1.trans s2,g⟩
end
end Go.Proofs.YtdbfpjgnlfejmaaDoor.Ev
end
section
namespace Go.Proofs.YtdbfpjgnlfejmaaDoor.Ev
open Go
noncomputable section
variable (P:Program)
def xZ (n:Nat) (c' c:T AV):Prop:=∀ k v,k<n→c'.get k=some v→c.get k=some v
def znL (id:Nat) (c':T AV) (z':Nat) (m:AM) (K:AM→Prop):Prop:=match m with
 | ⟨⟨fn,n,t,todo,ds,mode,kind,round⟩,rest,⟨objs,next,glob⟩⟩=>match rest with
  | _::_=>False
  | []=>match todo with
   | .drw _ _ _::_=>False
   | todo=>match objs.get id with
    | some (.cells c z el lo hi nv fz sg ex)=>xZ z' c' c∧z'=z∧K ⟨⟨fn,n,t,todo,ds,mode,kind,round⟩,[],⟨objs.set (some (.cells c' z' el lo hi nv fz sg ex)) id,next,glob⟩⟩
    | _=>False
def ziP (u:Nat) (p:List Nat) (id:Nat) (c':T AV) (z':Nat) (m:AM) (K:AM→Prop):Prop:=match m with
 | ⟨⟨fn,n,t,todo,ds,mode,kind,round⟩,rest,⟨objs,next,glob⟩⟩=>match mode with
  | .run=>match todo with
   | .drw _ _ _::_=>False
   | todo=>match t.get u with
    | none=>False
    | some v0=>match wit ⟨objs,next,glob⟩ p v0 with
     | none=>False
     | some v=>match vV v with
      | none=>False
      | some j=>match Nat.beq j id with
       | false=>False
       | true=>match objs.get id with
        | some (.cells c z el lo hi nv fz sg ex)=>xZ z' c' c∧z'=z∧K ⟨⟨fn,n,t,todo,ds,.run,kind,round⟩,rest,⟨objs.set (some (.cells c' z' el lo hi nv fz sg ex)) id,next,glob⟩⟩
        | _=>False
  | _=>False
def zck (h:AHeap) (id ver off k:Nat) (l:List UInt8):Option Prop:=match h.get id with
 | some (.cells c n _ lo hi _ _ _ ex)=>match zI ex n hi ver with
  | some e=>bif Nat.ble lo ver&&Nat.ble ver hi then some (off+k≤e∧zT (zG c off k)=some (.str l)) else none
  | none=>none
 | _=>none
def zl9 (h:AHeap) (l:List UInt8) (v:AV):Option Prop:=match v with
 | .slc id ver off len _=>zck h id ver off len l
 | .slg id ver off len _=>zck h id ver off len l
 | _=>none
def ze6 (ρ:Operand→Option AV) (h:AHeap) (l:List UInt8) (o:Op):Option Prop:=match o with
 | .convert s d x=>match P.underlying s with
  | none=>none
  | some _=>match P.underlying d with
   | some .string=>match kB P d with
    | true=>none
    | false=>match yK P s with
     | false=>none
     | true=>match ρ x with
      | none=>none
      | some v=>zl9 h l v
   | _=>none
 | _=>none
def zjx [XT P] (l:List UInt8) (m:AM) (K:AM→Prop):Prop:=match m with
 | ⟨fr,rest,h⟩=>match fr.mode with
  | .run=>match jE fr with
   | none=>False
   | some (all,o)=>match zS all fr.tmps o.guard with
    | some true=>zjT (ze6 P (ev fr.tmps) h l o.op) fun p=>p∧zkz P fr rest h (.val (.str l) h) K
    | _=>False
  | _=>False
def binV (ρ:Operand→Option AV) (b:AV) (o:Op):Option Prop:=match o with
 | .binOp op t x y _=>match ρ x with
  | none=>none
  | some v=>match ρ y with
   | none=>none
   | some w=>some (∀ h:AHeap,vd P h op t (zi x || zi y) v w=some b)
 | _=>none
def zmS [XT P] (v:AV) (m:AM) (K:AM→Prop):Prop:=match m with
 | ⟨fr,rest,h⟩=>match fr.mode with
  | .run=>match jE fr with
   | none=>False
   | some (all,o)=>match zS all fr.tmps o.guard with
    | some true=>zjT (binV P (ev fr.tmps) v o.op) fun p=>p∧zkz P fr rest h (.val v h) K
    | _=>False
  | _=>False
def mnzE (h : AHeap) (fn : Func) (args : List AV) : Option (AR × Prop) := match fn.origin == "" with
 | false=>none
 | true => match fn.name == "internal/abi.NoEscape" with
  | true=>none
  | false => match fn.name == "internal/bytealg.abigen_runtime_cmpstring" with
   | true=>none
   | false => match fn.name == "internal/bytealg.IndexByteString" with
    | true=>none
    | false => match fn.name == "internal/bytealg.CountString" with
     | true=>none
     | false => match fn.name == "internal/bytealg.MakeNoZero" with
      | false=>none
      | true=>match fn.resultTypes[0]? with
       | none=>none
       | some t=>match P.underlying t with
        | some (.slice el)=>match args with
         | [.int .i64 n]=>some (.val (.slg h.next 0 0 n.toNat 0) (h.new (.cells .leaf n.toNat el 0 0 1 0 false .leaf)),0≤n∧n<2 ^ 40∧P.cellsOf el=1)
         | _=>none
        | _=>none
def zoi (h:AHeap) (u:TypeId) (l:List UInt8) (p n:AV):Option (AR × Prop):=match n with
 | .int .i64 k=>match p with
  | .ptr id ver off=>match h.get id with
   | some (.cells c m el lo hi nv fz sg ex)=>match zI ex m hi ver with
    | none=>none
    | some e=>match Nat.ble lo ver&&Nat.ble ver hi with
     | false=>none
     | true=>match Nat.beq off 0&&Nat.beq el u&&!sg with
      | false=>none
      | true=>some (.val (.str l) (h.put id (.cells c m el lo hi nv (max fz k.toNat) sg ex)),0<k∧k<2 ^ 40∧k.toNat≤e∧P.cellsOf el=1∧zT (zG c 0 k.toNat)=some (.str l))
   | _=>none
  | _=>none
 | _=>none
def extW (ρ:Operand→Option AV) (h:AHeap) (l:List UInt8) (o:Op):Option (AR × Prop):=match o with
 | .call c=>match qw ρ c.args.toList with
  | none=>none
  | some args=>match c.callee with
   | .value f=>match ρ f with
    | some (.fn (.func g) first cap)=>match P.funcs[g]? with
     | none=>none
     | some fn=>match fn.body with
      | some _=>none
      | none=>mnzE P h fn ((first++args)++cap)
    | _=>none
   | .builtin .unsafeString=>match c.argTypes[0]? with
    | none=>none
    | some t=>match vk P t with
     | none=>none
     | some el=>match kR P el with
      | false=>none
      | true=>match zkB args with
       | none=>none
       | some (p,n)=>zoi P h el l p n
   | _=>none
 | _=>none
def ExtK [XT P] (l:List UInt8) (m:AM) (K:AM→Prop):Prop:=match m with
 | ⟨fr,rest,h⟩=>match fr.mode with
  | .run=>match jE fr with
   | none=>False
   | some (all,o)=>match zS all fr.tmps o.guard with
    | some true=>match extW P (ev fr.tmps) h l o.op with
     | none=>False
     | some (r,p)=>p∧zkz P fr rest h r K
    | _=>False
  | _=>False
def zlA (f:FuncId) (args:List AV) (h:AHeap) (v:AV) (H:AHeap):Prop :=
 ∀ (B:Base) (R:Bij) (w:World) (args':List Value),HRel P B R h w→B.n≤w.heap.size→VRels R args args' →
  Calls P f args'.toArray w fun e w'=>∃ R' v',e=.returned v'∧VRel R' v v'∧HRel P B R' ⟨H.objs,H.next,h.glob⟩ w'∧Keeps R w R' w'
def AskK [XT P] (v:AV) (H:AHeap) (m:AM) (K:AM→Prop):Prop:=match m with
 | ⟨fr,rest,h⟩=>match fr.mode with
  | .run=>match jE fr with
   | none=>False
   | some (all,op)=>match zS all fr.tmps op.guard with
    | some true=>match opA P (ev fr.tmps) h op.op with
     | some (.enter f args h0)=>zlA P f args h0 v H∧zkz P fr rest h (.val v ⟨H.objs,H.next,h0.glob⟩) K
     | _=>False
    | _=>False
  | _=>False
def CapK (id k:Nat) (m:AM) (K:AM→Prop):Prop:=match m with
 | ⟨⟨fn,n,t,todo,ds,mode,kind,round⟩,rest,⟨objs,next,glob⟩⟩=>match rest with
  | _::_=>False
  | []=>match todo with
   | .drw _ _ _::_=>False
   | todo=>match objs.get id with
    | some (.cells c z el lo hi nv fz sg ex)=>match c.get k with
     | some (.slg i r o l _st)=>0<l∧∀ cap,l≤cap→K ⟨⟨fn,n,t,todo,ds,mode,kind,round⟩,[],⟨objs.set (some (.cells (c.set (some (.slc i r o l cap)) k) z el lo hi nv fz sg ex)) id,next,glob⟩⟩
     | _=>False
    | _=>False
def ze (f:FuncId) (args:List AV) (H:AHeap):AM:=match qZ P f args .normal with
 | some a=>⟨a,[],H⟩
 | none=>⟨⟨0,0,.leaf,[],[],.run,.normal,none⟩,[],H⟩
inductive Cmd where
 | run (n:Nat)
 | br (b:Bool)
 | know (u:Nat) (b:Bool)
 | slot (u:Nat) (v:AV)
 | op
 | res (r:AR)
 | step
 | can (keep:Nat) (ids us:List Nat) (uss:List (List Nat))
 | keep (us:List Nat)
 | call (us:List Nat) (Q:AV→Prop)
 | callv (us:List Nat) (v:AV)
 | callh (l:List (Nat × Nat × List Nat)) (us:List Nat) (v:AV) (H:AHeap)
 | told (id:Nat) (c:T AV) (n:Nat)
 | tolds (u:Nat) (p:List Nat) (id:Nat) (c:T AV) (n:Nat)
 | cap (id k:Nat)
 | bytes (l:List UInt8)
 | ext (l:List UInt8)
 | isv (v:AV)
 | ask (v:AV) (H:AHeap)
 | opw (moved:Bool)
 | done
def cmdK [XT P] (f0:FuncId) (Q:AV→AHeap→Prop) (keep:Nat) (c:Cmd) (m:AM) (K:AM→Prop):Prop:=match c with
 | .run n=>zjT (runN P n m) K
 | .br b=>Br b m K
 | .know u b=>Know u b m K
 | .slot u v=>Slot u v m K
 | .op=>OpK P m K
 | .res x=>ResK P x m K
 | .step=>zmI P m K
 | .keep us=>zmV us m K
 | .can k ids us uss=>bif Nat.ble keep k then CanP k ids us uss m K else False
 | .call us q=>zjd P us q m K
 | .callv us v=>zn1 P us v m K
 | .callh l us v H=>znF P l us v H m K
 | .told id c n=>znL id c n m K
 | .tolds u p id c n=>ziP u p id c n m K
 | .cap id k=>CapK id k m K
 | .bytes l=>zjx P l m K
 | .isv v=>zmS P v m K
 | .ext l=>ExtK P l m K
 | .opw b=>OpWK P b m K
 | .ask v H=>AskK P v H m K
 | .done=>zoJ P f0 Q m
def Obl [XT P] (f0:FuncId) (Q:AV→AHeap→Prop) (keep:Nat) (K:AM→Prop) (l:List Cmd):AM→Prop :=
 List.rec (motive:=fun _=>AM→Prop) K (fun c _ ih m=>cmdK P f0 Q keep c m ih) l
end
section
variable {P:Program}
theorem zhg {keep:Nat}{f0:FuncId}{Q:AV→AHeap→Prop}{id:Nat}{c':T AV}{z':Nat}{m:AM}{K:AM→Prop}(e:znL id c' z' m K)(hK:∀ m,K m→Goal P keep f0 Q m):Goal P keep f0 Q m:=by
 intro w0 base fr cs w hk s
 obtain ⟨⟨fn,n,t,todo,ds,mode,kind,round⟩,rest,⟨objs,next,glob⟩⟩:=m
 unfold znL at e
 simp only at e
 split at e
 · exact e.elim
 split at e
 · exact e.elim
 rename_i hn
 split at e
 rotate_left
 · exact e.elim
 rename_i c z el lo hi nv fz sg ex hobj
 obtain ⟨hle,rfl,e⟩:=e
 obtain ⟨B,R,fs,hc,hb,kh,ho,kt,kb⟩:=s
 generalize ho':AObj.cells c' z' el lo hi nv fz sg ex=o' at e
 let h':AHeap:=⟨objs.set (some o') id,next,glob⟩
 let B':Base:={ B with pend:=fun i=>match B.pend i with
  | none=>none
  | some _=>h'.get i }
 have hget:∀ i,h'.get i=if i=id then some o' else objs.get i:=fun i=>T.get_set ..
 have hpn:∀ i,B.pend i=none ↔ B'.pend i=none:=by
  intro i
  show _ ↔ (match B.pend i with
   | none=>none
   | some _=>h'.get i)=none
  cases hp:B.pend i with
  | none=>simp
  | some o =>
   have:=(kh.pend i o hp).2.1
   refine ⟨fun h=>(by cases h),fun h=>?_⟩
   simp only at h
   rw [hget] at h
   split at h
   · cases h
   · change objs.get i=some o at this; rw [this] at h; cases h
 refine hK _ e w0 base fr cs w hk ⟨B',R,fs,hc,hb,?_,ho,?_,kb⟩
 · refine ⟨kh.fresh,fun i o eo hpe=>?_,fun i o eo=>?_,kh.place,fun i hi=>⟨(kh.rd i hi).1,fun o eo=>?_⟩,fun i hi=>(hpn i).1 (kh.rp i hi),kh.rol,kh.low,kh.pin,kh.apart,kh.same,kh.glob⟩
   · have eo':h'.get i=some o:=eo
     rw [hget] at eo'
     split at eo'
     · rename_i hi
       subst hi
       cases eo'
       obtain ⟨a1,a2,a3,a4,a5⟩:ObjRel P R w i (.cells c z' el lo hi nv fz sg ex):=kh.obj i _ hobj ((hpn i).2 hpe)
       subst ho'
       refine ⟨a1,a2,a3,fun r e b1 b2 b3=>?_,a5⟩
       obtain ⟨L,h1,cs,a,b,g1,g2,g3,g4,g5⟩:=a4 r e b1 b2 b3
       exact ⟨L,h1,cs,a,b,g1,g2,g3,g4,fun q v q1 q2 q3=>g5 q v q1 q2 (hle q v (Nat.lt_of_lt_of_le q1 (a5 r e b1 b2 b3)) q3)⟩
     · exact kh.obj i o eo' ((hpn i).2 hpe)
   · change (match B.pend i with
      | none=>none
      | some _=>h'.get i)=some o at eo
     cases hp:B.pend i with
     | none=>rw [hp] at eo; cases eo
     | some o0 =>
      rw [hp] at eo
      exact ⟨(kh.pend i o0 hp).1,eo,(kh.pend i o0 hp).2.2⟩
   · have eo':h'.get i=some o:=eo
     rw [hget] at eo'
     split at eo'
     · rename_i hi'
       subst hi'
       have:=(kh.rd i hi).2 _ hobj
       cases this
     · exact (kh.rd i hi).2 o eo'
 · obtain ⟨k1,k2,k3,k4,k5,k6,k7,k8,k9⟩:=kt
   refine ⟨k1,k2,k3,k4,k5,k6,k7,k8,?_⟩
   cases mode with
   | run =>
    change TodoRel P B R 0 false _ todo t fr.todo fr.tmps at k9
    show TodoRel P B' R 0 false h' todo t fr.todo fr.tmps
    cases todo with
    | nil=>exact k9
    | cons it kk =>
     cases it with
     | drw a b c=>exact absurd rfl (hn a b c kk)
     | _=>exact k9
   | returning=>exact k9
   | panicking c=>exact k9
theorem zeX {keep:Nat}{f0:FuncId}{Q:AV→AHeap→Prop}{u:Nat}{p:List Nat}{id:Nat}{c':T AV}{z':Nat}{m:AM}{K:AM→Prop}(e:ziP u p id c' z' m K)(hK:∀ m,K m→Goal P keep f0 Q m):Goal P keep f0 Q m:=by
 intro w0 base fr cs w hk s
 obtain ⟨⟨fn,n,t,todo,ds,mode,kind,round⟩,rest,⟨objs,next,glob⟩⟩:=m
 unfold ziP at e
 simp only at e
 split at e
 rotate_left
 · exact e.elim
 split at e
 · exact e.elim
 rename_i hn
 split at e
 · exact e.elim
 rename_i v0 hv0
 split at e
 · exact e.elim
 rename_i v hv
 split at e
 · exact e.elim
 rename_i j hj
 split at e
 · exact e.elim
 rename_i hji
 split at e
 rotate_left
 · exact e.elim
 rename_i c z el lo hi nv fz sg ex hobj
 obtain ⟨hle,rfl,e⟩:=e
 obtain rfl:=Nat.eq_of_beq_eq_true hji
 obtain ⟨B,R,fs,hc,hb,kh,ho,kt,kb⟩:=s
 obtain ⟨k1,k2,k3,k4,k5,k6,k7,k8,k9⟩:=kt
 change TodoRel P B R rest.length false _ todo t fr.todo fr.tmps at k9
 have hs:All2 (ItemRel R) todo fr.todo∧Slots R t fr.tmps:=by
  cases todo with
  | nil=>exact k9
  | cons it kk =>
   cases it with
   | drw a b c=>exact absurd rfl (hn a b c kk)
   | _=>exact k9
 obtain ⟨x,_,hx⟩:=hs.2 u v0 hv0
 obtain ⟨x',hx'⟩:=qD kh hv hx
 obtain ⟨r,L,hL⟩:=vE hx' hj
 have hp:B.pend j=none:=by
  cases hpj:B.pend j with
  | none=>rfl
  | some o=>have:=(kh.pend j o hpj).2.2 r; rw [this] at hL; cases hL
 have hless:LessH P j ⟨objs,next,glob⟩ ⟨objs.set (some (.cells c' z' el lo hi nv fz sg ex)) j,next,glob⟩ :=
  ⟨.cells c z' el lo hi nv fz sg ex,.cells c' z' el lo hi nv fz sg ex,hobj,rfl,rfl,fun i=>T.get_set ..,rfl,rfl,xB hle⟩
 refine hK _ e w0 base fr cs w hk ⟨B,R,fs,hc,hb,kh.less hless hp,ho,⟨k1,k2,k3,k4,k5,k6,k7,k8,?_⟩,kb.mono (fun _ _ _ h=>h) ⟨rfl,fun _ _ h _=>⟨h,rfl⟩⟩ (Nat.le_refl _)⟩
 show TodoRel P B R rest.length false _ todo t fr.todo fr.tmps
 cases todo with
 | nil=>exact hs
 | cons it kk =>
  cases it with
  | drw a b c=>exact absurd rfl (hn a b c kk)
  | _=>exact hs
theorem zgT {ρ:Operand→Option AV}{h:AHeap}{l:List UInt8}{o:Op}{p:Prop}(e:ze6 P ρ h l o=some p)(hp:p):opA P ρ h o=some (.val (.str l) h):=by
 unfold ze6 at e
 split at e
 rotate_left
 · cases e
 rename_i s d x
 split at e
 · cases e
 rename_i us hs
 split at e
 rotate_left
 · cases e
 rename_i hd
 split at e
 · cases e
 rename_i hsl
 split at e
 · cases e
 rename_i hb
 split at e
 · cases e
 rename_i v hv
 have key:∀ id ver off k,zck h id ver off k l=some p→zT (zj h id ver off k)=some (.str l):=by
  intro id ver off k e
  unfold zck at e
  split at e
  rotate_left
  · cases e
  rename_i c n el lo hi nv fz sg ex ho
  split at e
  rotate_left
  · cases e
  rename_i ee he
  cases hc:(Nat.ble lo ver&&Nat.ble ver hi) with
  | false=>rw [hc] at e; cases e
  | true =>
   rw [hc] at e
   simp only [cond_true,Option.some.injEq] at e
   subst e
   simp only [Bool.and_eq_true,Nat.ble_eq] at hc
   unfold zj
   rw [ho]
   simp only [he]
   rw [if_pos ⟨hc.1,hc.2,hp.1⟩]
   exact hp.2
 have conv:zgS P h s d v=some (.str l):=by
  unfold zgS
  rw [hs,hd]
  simp only [hb]
  unfold zl9 at e
  split at e
  · rename_i id ver off len c
    show zT (zj h id ver off len)=_
    exact key _ _ _ _ e
  · rename_i id ver off len st
    show zT (zj h id ver off len)=_
    exact key _ _ _ _ e
  · cases e
 show wa ρ x (fun v=>zeU P h s d v)=_
 unfold wa
 rw [hv]
 show zeU P h s d v=_
 unfold zeU
 rw [hsl]
 show qd h (zgS P h s d v)=_
 rw [conv]
 rfl
theorem zmP {h:AHeap}{fn:Func}{args:List AV}{r:AR}{p:Prop}(e:mnzE P h fn args=some (r,p))(hp:p):kU P h fn args=some r:=by
 unfold mnzE at e
 unfold kU
 split at e
 · cases e
 rename_i h0
 simp only [h0]
 split at e
 · cases e
 rename_i h1
 simp only [h1]
 split at e
 · cases e
 rename_i h2
 simp only [h2]
 split at e
 · cases e
 rename_i h3
 simp only [h3]
 split at e
 · cases e
 rename_i h4
 simp only [h4]
 split at e
 · cases e
 rename_i h5
 simp only [h5]
 unfold yq
 split at e
 · cases e
 rename_i t ht
 simp only [ht]
 split at e
 rotate_left
 · cases e
 rename_i el hu
 simp only [hu]
 split at e
 rotate_left
 · cases e
 cases e
 simp only
 rw [if_pos hp]
theorem zlL {h:AHeap}{u:TypeId}{l:List UInt8}{v n:AV}{r:AR}{p:Prop}(e:zoi P h u l v n=some (r,p))(hp:p):zbU (qq P h u v n)=some r:=by
 unfold zoi at e
 split at e
 rotate_left
 · cases e
 rename_i k
 split at e
 rotate_left
 · cases e
 rename_i id ver off
 split at e
 rotate_left
 · cases e
 rename_i c m el lo hi nv fz sg ex ho
 split at e
 · cases e
 rename_i e0 he
 split at e
 · cases e
 rename_i hb
 split at e
 · cases e
 rename_i hq
 cases e
 simp only [Bool.and_eq_true,Nat.ble_eq] at hb
 rw [Bool.and_eq_true,Bool.and_eq_true] at hq
 obtain ⟨⟨q1,q2⟩,q3⟩:=hq
 have q1:=Nat.eq_of_beq_eq_true q1
 have q2:=Nat.eq_of_beq_eq_true q2
 have q3:sg=false:=by cases sg; rfl; cases q3
 obtain ⟨p1,p2,p3,p4,p5⟩:=hp
 unfold zT at p5
 split at p5
 · cases p5
 rename_i ls hls
 unfold zjp at p5
 split at p5
 · cases p5
 rename_i s hs
 cases p5
 unfold qq
 simp only
 rw [if_neg (by omega),if_pos ⟨p1,p2⟩]
 unfold zcA
 rw [ho]
 simp only [he]
 rw [if_pos ⟨hb.1,hb.2,p3,q1,q2,q3,p4⟩]
 simp only [hls,hs]
 rfl
theorem zm8 {ρ:Operand→Option AV}{h:AHeap}{l:List UInt8}{o:Op}{r:AR}{p:Prop}(e:extW P ρ h l o=some (r,p))(hp:p):opA P ρ h o=some r:=by
 unfold extW at e
 split at e
 rotate_left
 · cases e
 rename_i c
 split at e
 · cases e
 rename_i args ha
 show xY P ρ h c=some r
 unfold xY
 simp only [ha]
 split at e
 · rename_i f hc
   rw [hc]
   simp only
   split at e
   rotate_left
   · cases e
   rename_i g first cap hf
   rw [hf]
   show qi P h (.func g) (first++args) cap=some r
   show zdP P h g ((first++args)++cap)=some r
   unfold zdP
   split at e
   · cases e
   rename_i fn hfn
   simp only [hfn]
   split at e
   · cases e
   rename_i hbody
   simp only [hbody]
   exact zmP e hp
 · rename_i hc
   rw [hc]
   simp only
   split at e
   · cases e
   rename_i t ht
   split at e
   · cases e
   rename_i el hel
   split at e
   · cases e
   rename_i hby
   split at e
   · cases e
   rename_i v n htw
   show yu P h .unsafeString c.argTypes[0]? c.argTypes[1]? args=some r
   unfold yu
   simp only [ht]
   unfold zcI
   simp only [hel,hby,htw]
   exact zlL e hp
 · cases e
theorem zkd {keep:Nat}{f0:FuncId}{Q:AV→AHeap→Prop}{id:Nat}{fn n:Nat}{t:T AV}{todo:List AItem}{ds:List ADef}{mode:AMode}{kind:CallKind}{round:Option Nat}{objs:T AObj}{next:Nat}{glob:T (T AV)}{o:AObj}
 (hn:∀ a b c k,todo≠.drw a b c::k) (hobj:objs.get id=some o) (hro:o.isRo=false)
 (hany:∃ o':AObj,o'.isRo=false∧Goal P keep f0 Q ⟨⟨fn,n,t,todo,ds,mode,kind,round⟩,[],⟨objs.set (some o') id,next,glob⟩⟩)
 (hsw:∀ (R:Bij) (w:World),ObjRel P R w id o→∃ o':AObj,o'.isRo=false∧ObjRel P R w id o'∧Goal P keep f0 Q ⟨⟨fn,n,t,todo,ds,mode,kind,round⟩,[],⟨objs.set (some o') id,next,glob⟩⟩) :
 Goal P keep f0 Q ⟨⟨fn,n,t,todo,ds,mode,kind,round⟩,[],⟨objs,next,glob⟩⟩:=by
 intro w0 base fr cs w hk s
 obtain ⟨B,R,fs,hc,hb,kh,ho,kt,kb⟩:=s
 obtain ⟨o',hro',hobj',hG⟩:∃ o':AObj,o'.isRo=false∧(B.pend id=none→ObjRel P R w id o')∧Goal P keep f0 Q ⟨⟨fn,n,t,todo,ds,mode,kind,round⟩,[],⟨objs.set (some o') id,next,glob⟩⟩:=by
  cases hp:B.pend id with
  | none =>
   obtain ⟨o',h1,h2,h3⟩:=hsw R w (kh.obj id _ hobj hp)
   exact ⟨o',h1,fun _=>h2,h3⟩
  | some x =>
   obtain ⟨o',h1,h3⟩:=hany
   exact ⟨o',h1,(fun h=>by cases h),h3⟩
 let h':AHeap:=⟨objs.set (some o') id,next,glob⟩
 let B':Base:={ B with pend:=fun i=>match B.pend i with
  | none=>none
  | some _=>h'.get i }
 have hget:∀ i,h'.get i=if i=id then some o' else objs.get i:=fun i=>T.get_set ..
 have hpn:∀ i,B.pend i=none ↔ B'.pend i=none:=by
  intro i
  show _ ↔ (match B.pend i with
   | none=>none
   | some _=>h'.get i)=none
  cases hp:B.pend i with
  | none=>simp
  | some o =>
   have:=(kh.pend i o hp).2.1
   refine ⟨fun h=>(by cases h),fun h=>?_⟩
   simp only at h
   rw [hget] at h
   split at h
   · cases h
   · change objs.get i=some o at this; rw [this] at h; cases h
 refine hG w0 base fr cs w hk ⟨B',R,fs,hc,hb,?_,ho,?_,kb⟩
 · refine ⟨kh.fresh,fun i o eo hpe=>?_,fun i o eo=>?_,kh.place,fun i hi=>⟨(kh.rd i hi).1,fun o eo=>?_⟩,fun i hi=>(hpn i).1 (kh.rp i hi),kh.rol,kh.low,kh.pin,kh.apart,kh.same,kh.glob⟩
   · have eo':h'.get i=some o:=eo
     rw [hget] at eo'
     split at eo'
     · rename_i hi
       subst hi
       cases eo'
       exact hobj' ((hpn i).2 hpe)
     · exact kh.obj i o eo' ((hpn i).2 hpe)
   · change (match B.pend i with
      | none=>none
      | some _=>h'.get i)=some o at eo
     cases hp:B.pend i with
     | none=>rw [hp] at eo; cases eo
     | some o0 =>
      rw [hp] at eo
      exact ⟨(kh.pend i o0 hp).1,eo,(kh.pend i o0 hp).2.2⟩
   · have eo':h'.get i=some o:=eo
     rw [hget] at eo'
     split at eo'
     · rename_i hi'
       subst hi'
       have:=(kh.rd i hi).2 _ hobj
       rw [hro] at this; cases this
     · exact (kh.rd i hi).2 o eo'
 · obtain ⟨k1,k2,k3,k4,k5,k6,k7,k8,k9⟩:=kt
   refine ⟨k1,k2,k3,k4,k5,k6,k7,k8,?_⟩
   cases mode with
   | run =>
    change TodoRel P B R 0 false _ todo t fr.todo fr.tmps at k9
    show TodoRel P B' R 0 false h' todo t fr.todo fr.tmps
    cases todo with
    | nil=>exact k9
    | cons it kk =>
     cases it with
     | drw a b c=>exact absurd rfl (hn a b c kk)
     | _=>exact k9
   | returning=>exact k9
   | panicking c=>exact k9
theorem zh2 {keep:Nat}{f0:FuncId}{Q:AV→AHeap→Prop}{id k:Nat}{m:AM}{K:AM→Prop}(e:CapK id k m K)(hK:∀ m,K m→Goal P keep f0 Q m):Goal P keep f0 Q m:=by
 obtain ⟨⟨fn,n,t,todo,ds,mode,kind,round⟩,rest,⟨objs,next,glob⟩⟩:=m
 unfold CapK at e
 simp only at e
 split at e
 · exact e.elim
 split at e
 · exact e.elim
 rename_i hn
 split at e
 rotate_left
 · exact e.elim
 rename_i c z el lo hi nv fz sg ex hobj
 split at e
 rotate_left
 · exact e.elim
 rename_i i r o l st hc
 obtain ⟨hl,e⟩:=e
 refine zkd hn hobj rfl ⟨_,rfl,hK _ (e l (Nat.le_refl _))⟩ fun R w hrel=>?_
 obtain ⟨a1,a2,a3,a4,a5⟩:=hrel
 generalize hcap:max l (((R i r).elim 0 Loc.kap) - st)=cap
 refine ⟨.cells (c.set (some (.slc i r o l cap)) k) z el lo hi nv fz sg ex,rfl,?_,hK _ (e cap (by omega))⟩
 refine ⟨a1,a2,a3,fun r' e' b1 b2 b3=>?_,a5⟩
 obtain ⟨L,h1,cs,a,b,g1,g2,g3,g4,g5⟩:=a4 r' e' b1 b2 b3
 refine ⟨L,h1,cs,a,b,g1,g2,g3,g4,fun q v q1 q2 q3=>?_⟩
 rw [T.get_set] at q3
 split at q3
 · rename_i hq
   subst hq
   cases q3
   obtain ⟨x,hx,M,ad,hM,m1,m2,rfl,m3⟩:=g5 q _ q1 q2 hc
   refine ⟨_,hx,M,hM,m1,?_⟩
   have hc2:cap=M.kap - st:=by
    rw [← hcap,hM]
    simp only [Option.elim]
    omega
   rw [m3 (by omega),hc2]
 · exact g5 q v q1 q2 q3
open Classical in
noncomputable def zkw (f:FuncId) (args:List AV) (h:AHeap) (v:AV) (H:AHeap):FuncId→Option (AHeap→List AV→Option (AV × T AObj × Nat)) :=
 fun g=>if g=f then some (fun h' a=>if h'=h∧a=args then some (v,H.objs,H.next) else none) else none
theorem ziQ {f:FuncId}{args:List AV}{h:AHeap}{v:AV}{H:AHeap}(k:zlA P f args h v H):@XTOk P ⟨zkw f args h v H⟩ :=
 @XTOk.mk P ⟨zkw f args h v H⟩ fun g F e=>by
  change zkw f args h v H g=some F at e
  unfold zkw at e
  split at e
  · rename_i hg
    cases e
    subst hg
    intro B R h' w a a' v' o' n' e hh hB ha
    dsimp only at e
    split at e
    · rename_i hc
      obtain ⟨rfl,rfl⟩:=hc
      cases e
      exact k B R w a' hh hB ha
    · cases e
  · cases e
open Classical in
theorem zhA [XT P] [XTOk P] (hmix:P.follows .mixedOrders=true){keep:Nat}{f0:FuncId}{Q:AV→AHeap→Prop}{v:AV}{H:AHeap}{m:AM}{K:AM→Prop}(e:AskK P v H m K)(hK:∀ m,K m→Goal P keep f0 Q m):Goal P keep f0 Q m:=by
 obtain ⟨fr,rest,h⟩:=m
 unfold AskK at e
 simp only at e
 split at e
 rotate_left
 · exact e.elim
 rename_i hm
 split at e
 · exact e.elim
 rename_i all op ho
 split at e
 rotate_left
 · exact e.elim
 rename_i hw
 split at e
 rotate_left
 · exact e.elim
 rename_i f args h0 hop
 obtain ⟨k,e⟩:=e
 obtain ⟨m',h1,h2⟩:=ye e
 refine @Goal.step P ⟨zkw f args h0 v H⟩ (ziQ k) hmix keep f0 Q _ m' ?_ (hK _ h2)
 rw [@x8 P ⟨zkw f args h0 v H⟩ (ziQ k) fr rest h all op hm ho]
 simp only [vm,hw,hop,zbj]
 change jP rest _ (xh P fr _ v)=some m' at h1
 have ht:zkw f args h0 v H f=some (fun h' a=>if h'=h0∧a=args then some (v,H.objs,H.next) else none):=if_pos rfl
 have hx:@zcX P ⟨zkw f args h0 v H⟩ h0 f args=some (v,⟨H.objs,H.next,h0.glob⟩):=by
  show (match zkw f args h0 v H f with
   | none=>none
   | some F=>match F h0 args with
    | none=>none
    | some (v,o,n)=>some (v,(⟨o,n,h0.glob⟩:AHeap)))=_
  rw [ht]
  simp only [and_self,if_true]
 show (match @zcX P ⟨zkw f args h0 v H⟩ h0 f args with
  | none=>jP (fr::rest) h0 (qZ P f args .normal)
  | some (v,h')=>jP rest h' (xh P fr h' v))=some m'
 rw [hx]
 exact h1
theorem Obl.goal [XT P] [XTOk P] (hmix:P.follows .mixedOrders=true){f0:FuncId}{Q:AV→AHeap→Prop}{keep:Nat}{K:AM→Prop}(hK:∀ m,K m→Goal P keep f0 Q m):∀ {l:List Cmd} {m:AM},Obl P f0 Q keep K l m→Goal P keep f0 Q m
 | [],m,e=>hK m e
 | c::r,m,e=>by
  have ih:=fun m (e:Obl P f0 Q keep K r m)=>Obl.goal hmix hK (l:=r) (m:=m) e
  cases c with
  | run n =>
   obtain ⟨m',h1,h2⟩:=yg e
   exact .runN hmix h1 (ih _ h2)
  | br b =>
   obtain ⟨fr,rest,h⟩:=m
   change Br b ⟨fr,rest,h⟩ (Obl P f0 Q keep K r) at e
   unfold Br at e
   simp only at e
   split at e
   rotate_left
   · exact e.elim
   rename_i hm
   split at e
   rotate_left
   · exact e.elim
   rename_i c x y k htodo
   split at e
   rotate_left
   · exact e.elim
   rename_i t ht
   obtain ⟨rfl,e⟩:=e
   refine .step hmix ?_ (ih _ e)
   simp only [zef,hm,zke,htodo]
   show zlV fr rest h x y k (ev fr.tmps c)=_
   rw [ht]
   cases t <;> rfl
  | know u b =>
   obtain ⟨⟨fn,n,t,todo,ds,mode,kind,round⟩,rest,h⟩:=m
   change Know u b ⟨⟨fn,n,t,todo,ds,mode,kind,round⟩,rest,h⟩ (Obl P f0 Q keep K r) at e
   unfold Know at e
   simp only at e
   split at e
   · rename_i c hc
     obtain ⟨rfl,e⟩:=e
     rw [T.set_same' hc] at e
     exact ih _ e
   · exact e.elim
  | slot u v =>
   obtain ⟨⟨fn,n,t,todo,ds,mode,kind,round⟩,rest,h⟩:=m
   change Slot u v ⟨⟨fn,n,t,todo,ds,mode,kind,round⟩,rest,h⟩ (Obl P f0 Q keep K r) at e
   unfold Slot at e
   simp only at e
   split at e
   · rename_i c hc
     obtain ⟨rfl,e⟩:=e
     rw [T.set_same' hc] at e
     exact ih _ e
   · exact e.elim
  | op =>
   obtain ⟨fr,rest,h⟩:=m
   change OpK P ⟨fr,rest,h⟩ (Obl P f0 Q keep K r) at e
   unfold OpK at e
   simp only at e
   split at e
   rotate_left
   · exact e.elim
   rename_i hm
   split at e
   · exact e.elim
   rename_i all o ho
   split at e
   rotate_left
   · exact e.elim
   rename_i hw
   split at e
   · exact e.elim
   rename_i ar p hop
   obtain ⟨hp,e⟩:=e
   obtain ⟨m',h1,h2⟩:=ye e
   refine .step hmix ?_ (ih _ h2)
   rw [x8 hm ho]
   simp only [vm,hw,zpf hop hp,zbj,h1]
  | res x =>
   obtain ⟨fr,rest,h⟩:=m
   change ResK P x ⟨fr,rest,h⟩ (Obl P f0 Q keep K r) at e
   unfold ResK at e
   simp only at e
   split at e
   rotate_left
   · exact e.elim
   rename_i hm
   split at e
   · exact e.elim
   rename_i all o ho
   split at e
   rotate_left
   · exact e.elim
   rename_i hw
   obtain ⟨hp,e⟩:=e
   obtain ⟨m',h1,h2⟩:=ye e
   refine .step hmix ?_ (ih _ h2)
   rw [x8 hm ho]
   simp only [vm,hw,hp,zbj,h1]
  | ext x =>
   obtain ⟨fr,rest,h⟩:=m
   change ExtK P x ⟨fr,rest,h⟩ (Obl P f0 Q keep K r) at e
   unfold ExtK at e
   simp only at e
   split at e
   rotate_left
   · exact e.elim
   rename_i hm
   split at e
   · exact e.elim
   rename_i all o ho
   split at e
   rotate_left
   · exact e.elim
   rename_i hw
   split at e
   · exact e.elim
   rename_i ar p hop
   obtain ⟨hp,e⟩:=e
   obtain ⟨m',h1,h2⟩:=ye e
   refine .step hmix ?_ (ih _ h2)
   rw [x8 hm ho]
   simp only [vm,hw,zm8 hop hp,zbj,h1]
  | isv x =>
   obtain ⟨fr,rest,h⟩:=m
   change zmS P x ⟨fr,rest,h⟩ (Obl P f0 Q keep K r) at e
   unfold zmS at e
   simp only at e
   split at e
   rotate_left
   · exact e.elim
   rename_i hm
   split at e
   · exact e.elim
   rename_i all o ho
   split at e
   rotate_left
   · exact e.elim
   rename_i hw
   obtain ⟨p,hpe,hp,e⟩:=yg e
   obtain ⟨m',h1,h2⟩:=ye e
   refine .step hmix ?_ (ih _ h2)
   rw [x8 hm ho]
   have hop:opA P (ev fr.tmps) h o.op=some (.val x h):=by
    unfold binV at hpe
    split at hpe
    rotate_left
    · cases hpe
    rename_i op t a b t' hoo
    split at hpe
    · cases hpe
    rename_i v1 hv1
    split at hpe
    · cases hpe
    rename_i v2 hv2
    cases hpe
    rw [hoo]
    show wU P op t a b t' (ev fr.tmps) h=_
    simp only [wU,two,hv1,hv2,hp h,qd]
   simp only [vm,hw,hop,zbj,h1]
  | step =>
   obtain ⟨fr,rest,h⟩:=m
   change zmI P ⟨fr,rest,h⟩ (Obl P f0 Q keep K r) at e
   unfold zmI at e
   simp only at e
   split at e
   · rename_i hm
     split at e
     · exact e.elim
     rename_i all o ho
     split at e
     rotate_left
     · exact e.elim
     rename_i hw
     obtain ⟨ar,hr,e⟩:=yg e
     obtain ⟨m',h1,h2⟩:=ye e
     refine .step hmix ?_ (ih _ h2)
     rw [x8 hm ho]
     simp only [vm,hw,hr,zbj,h1]
   · rename_i hm
     split at e
     rotate_left
     · exact e.elim
     rename_i hdef
     split at e
     rotate_left
     · exact e.elim
     rename_i hkind
     split at e
     · exact e.elim
     rename_i c r'
     split at e
     rotate_left
     · exact e.elim
     rename_i hcm
     obtain ⟨v,hv,e⟩:=yg e
     obtain ⟨c',h1,h2⟩:=kD e
     refine .step hmix ?_ (ih _ h2)
     simp only [zef,hm,za4,hdef,hv,zfs,hkind,zb0,hcm,h1,jP]
   · exact e.elim
  | keep us=>exact zhb e ih
  | can k ids us uss =>
   change (bif Nat.ble keep k then CanP k ids us uss m (Obl P f0 Q keep K r) else False) at e
   cases hb:Nat.ble keep k with
   | false=>rw [hb] at e; exact e.elim
   | true =>
    rw [hb] at e
    exact zka (Nat.le_of_ble_eq_true hb) e ih
  | call us q=>exact zbs e ih
  | callv us v=>exact zbs (zgO e) ih
  | callh l us v H=>exact zgJ e ih
  | told id c n=>exact zhg e ih
  | tolds u p id c n=>exact zeX e ih
  | cap id k=>exact zh2 e ih
  | bytes l =>
   obtain ⟨fr,rest,h⟩:=m
   change zjx P l ⟨fr,rest,h⟩ (Obl P f0 Q keep K r) at e
   unfold zjx at e
   simp only at e
   split at e
   rotate_left
   · exact e.elim
   rename_i hm
   split at e
   · exact e.elim
   rename_i all o ho
   split at e
   rotate_left
   · exact e.elim
   rename_i hw
   obtain ⟨p,hp,hp1,e⟩:=yg e
   obtain ⟨m',h1,h2⟩:=ye e
   refine .step hmix ?_ (ih _ h2)
   rw [x8 hm ho]
   simp only [vm,hw,zgT hp hp1,zbj,h1]
  | opw b=>exact ziO e ih
  | ask v H=>exact zhA hmix e ih
  | done=>exact zbt e
end
end Go.Proofs.YtdbfpjgnlfejmaaDoor.Ev
end
section
namespace Go.Proofs.YtdbfpjgnlfejmaaDoor.Ev
open Go Go.ChangeShapes Go.WideShapes
structure Inp where
 there:Bool
 block:Nat
 cells:T AV
 lo:Nat
 n:Nat
def Inp.holds (x:Inp) (w:World):Prop:=x.there=true→∃ cs el fz,w.heap[x.block]?=some (.cells cs el fz)∧x.n≤cs.size∧∀ k v,x.lo≤k→k<x.n→x.cells.get k=some v→∃ y,cs[k]?=some y∧VRel (fun _ _=>none) v y
def Inp.obj (x:Inp):Option AObj:=match x.there with
 | true=>some (.ro x.cells x.lo x.n)
 | false=>none
noncomputable def kY:List Inp→Nat→T AObj→T AObj
 | [],_,t=>t
 | x::r,i,t=>kY r (i+1) (t.set x.obj i)
noncomputable def zcb (l:List Inp) (G:T (T AV)):AHeap:=⟨kY l 0 .leaf,l.length,G⟩
def zaz (l:List Inp):Bij:=fun i r=>if r=0 then match l[i]? with
 | none=>none
 | some x=>match x.there with
  | true=>some ⟨x.block,0,0⟩
  | false=>none else none
theorem za1:∀ (l:List Inp) (i:Nat) (t:T AObj) (j:Nat),(kY l i t).get j=if i≤j∧j<i+l.length then (l[j - i]?).bind Inp.obj else t.get j
 | [],i,t,j=>by simp [kY]; omega
 | x::r,i,t,j=>by
  rw [kY,za1 r (i+1),T.get_set]
  by_cases h0:j=i
  · subst h0
    rw [if_neg (by omega),if_pos rfl,if_pos (by simp)]
    simp
  · by_cases h1:i+1≤j∧j<i+1+r.length
    · rw [if_pos h1,if_pos (by simp; omega)]
      rw [show j - i=(j - (i+1))+1 by omega,List.getElem?_cons_succ]
    · rw [if_neg h1,if_neg h0,if_neg (by simp; omega)]
def Env.inp (w:World) (l:List Inp):Env:={ Env.of w with rob:=fun b=>∃ x∈l,x.block=b }
def Base.inp (w:World) (l:List Inp):Base:=⟨Env.inp w l,fun i=>i<l.length,fun _=>none,fun _=>(0,0)⟩
theorem HRel.inp {P:Program}{G:T (T AV)}{w:World}{l:List Inp}(hG:zg6 G w)(hl:∀ x∈l,x.holds w):HRel P (Base.inp w l) (zaz l) (zcb l G) w:=by
 have hR:∀ {i r L},zaz l i r=some L→r=0∧∃ x,l[i]?=some x∧L=⟨x.block,0,0⟩∧i<l.length∧x.there=true:=by
  intro i r L e
  unfold zaz at e
  split at e
  · rename_i hr
    split at e
    · cases e
    · rename_i x hx
      split at e
      · rename_i ht; cases e; exact ⟨hr,x,hx,rfl,(List.getElem?_eq_some_iff.1 hx).1,ht⟩
      · cases e
  · cases e
 have hget:∀ {i o},(zcb l G).get i=some o→∃ x,l[i]?=some x∧o=.ro x.cells x.lo x.n∧x.there=true:=by
  intro i o e
  change (kY l 0 .leaf).get i=some o at e
  rw [za1] at e
  split at e
  · rw [Nat.sub_zero] at e
    cases hx:l[i]? with
    | none=>rw [hx] at e; cases e
    | some x =>
     rw [hx] at e
     change x.obj=some o at e
     unfold Inp.obj at e
     split at e
     · rename_i ht; cases e; exact ⟨x,rfl,rfl,ht⟩
     · cases e
  · cases e
 exact {
  fresh:=fun i hi r=>by
   cases h:zaz l i r with
   | none=>rfl
   | some L =>
    obtain ⟨_,x,_,_,h1,_⟩:=hR h
    exact absurd h1 (Nat.not_lt.2 hi)
  obj:=fun i o e _=>by
   obtain ⟨x,hx,rfl,ht⟩:=hget e
   obtain ⟨cs,el,fz,h1,h2,h3⟩:=hl x (List.mem_of_getElem? hx) ht
   exact ⟨⟨x.block,0,0⟩,cs,el,fz,by simp [zaz,hx,ht],rfl,h1,h2,h3⟩
  pend:=fun i o e=>by cases e
  place:=fun i r L e=>by
   obtain ⟨_,x,hx,rfl,h1,ht⟩:=hR e
   obtain ⟨cs,el,fz,h2,_⟩:=hl x (List.mem_of_getElem? hx) ht
   exact ⟨.inr h1,xm h2⟩
  rd:=fun i hi=>⟨hi,fun o e=>by obtain ⟨x,_,rfl,_⟩:=hget e; rfl⟩
  low:=fun b _=>rfl
  rp:=fun i _=>rfl
  rol:=fun i r L _ e=>by
   obtain ⟨_,x,hx,rfl,_⟩:=hR e
   exact ⟨x,List.mem_of_getElem? hx,rfl⟩
  pin:=fun i r L e=>by cases e
  apart:=fun i r i' r' L L' e e' _ hor=>by
   obtain ⟨_,_,_,_,h1,_⟩:=hR e
   obtain ⟨_,_,_,_,h2,_⟩:=hR e'
   rcases hor with h | h
   · exact absurd h1 h
   · exact absurd h2 h
  same:=fun i r r' L L' e e' _=>by
   obtain ⟨_,x,hx,rfl,_⟩:=hR e
   obtain ⟨_,x',hx',rfl,_⟩:=hR e'
   rfl
  glob:=fun g c e=>⟨fun hm=>hm.elim (fun hl=>absurd (hG g c e).1 (Nat.not_lt.2 hl)) id,(hG g c e).2⟩ }
theorem zjY {P:Program}{G:T (T AV)}{l:List Inp}{f:FuncId}{args:List AV}{vs:List Value}{a:AFrame}(ha:qZ P f args .normal=some a){w:World}(hG:zg6 G w)(hl:∀ x∈l,x.holds w)
 (hv:VRels (zaz l) args vs) (k:Goal P 0 f (fun v _=>v=.bool true) ⟨a,[],zcb l G⟩):Calls P f vs.toArray w fun r w'=>r=.returned (.bool true)∧Old w w':=by
 intro cs
 have hs:Sim P (Env.inp w l) cs ⟨a,[],zcb l G⟩ (Frame.enter P f vs.toArray .normal) cs w :=
  ⟨Base.inp w l,zaz l,[],rfl,rfl,.inp hG hl,.start w,wI ha hv (.inl rfl),rfl⟩
 obtain ⟨fr',w',B,R,v,v',h',s1,s2,s3,s4,s5,s6,s7,rfl⟩:=k (Env.inp w l) cs _ _ _ (fun i r L e=>by cases e) hs
 cases s4
 exact ⟨.returned (.bool true),w',fr',⟨rfl,(s7.all s5 s6).old fun _ e=>e⟩,s1,s3,s2⟩
theorem kz {H:Type}{enc:TypeId × Value→H}{P:Program}(hl:laidOutB P=true){W W':World}(hb:∀ b,b<W.heap.size→W'.heap[b]?=W.heap[b]?){sp:Nat→Bool} :
 ∀ {ts:List TypeId} {vs:List Value} {ds:List (DataW H)} {ps:List MemPlace},(ts.all fun t=>P.readableRec t&&decide (t<P.types.size))=true→DataW.TrodAll enc P W 0 (fun _=>true) true ts vs ds ps →
  (∀ x∈ps,x.block<W.heap.size)→(∀ x∈ps,sp x.block=true)→DataW.TrodAll enc P W' 0 sp true ts vs ds ps
 | [],vs,ds,ps,_,h,_,_=>by
  obtain ⟨rfl,rfl,rfl⟩:=trodAll_nil h
  exact trodAll_mk0
 | t::ts,vs,ds,ps,ht,h,hlt,hsp=>by
  obtain ⟨v,vs',d,ds',p,q,rfl,rfl,rfl,h1,h2⟩:=trodAll_cons h
  simp only [List.all_cons,Bool.and_eq_true,decide_eq_true_eq] at ht
  have hs:∀ x∈p,W.sameAt W' x:=fun x hx=>by
   have:=hlt x (List.mem_append_left _ hx)
   cases x with
   | cell b o=>exact World.cell?_of_block (w:=W) (hb b this)
   | map b=>exact hb b this
  exact trodAll_cons_mk (WideElems.Trod_stays hl ht.1.1 ht.1.2 h1 hs (fun x hx=>hsp x (List.mem_append_left _ hx)))
   (kz hl hb (by simpa using ht.2) h2 (fun x hx=>hlt x (List.mem_append_right _ hx)) (fun x hx=>hsp x (List.mem_append_right _ hx)))
theorem post_law {H:Type}{enc:TypeId × Value→H}{P:Program}{f:Func}{s:ChangeSpec}{apart fresh handsOn again:Bool}{W W':World}{args:Array Value}{ds gs:List (DataW H)}{before:List MemPlace}{tb:TypeId}
 (hl:laidOutB P=true) (ht:(f.params.toList.all fun t=>P.readableRec t&&decide (t<P.types.size))=true) (hr:f.resultTypes=#[tb]) (hbool:P.underlying tb=some .bool) (hvars:s.vars=[])
 (hW:DataW.Whole enc P f.params.toList s.vars apart W args.toList ds gs before) (hfn:s.fn H (ds++gs)={ results:=[.lit (.bool true)],args:=ds }) (k:Old W W') :
 s.post enc P f apart fresh handsOn again W args (.bool true) W':=by
 have hlt:=hW.lt
 have hW':=hW
 obtain ⟨p,q,hA,hV,hpq,hz,hn⟩:=hW
 rw [hvars] at hV
 have hgq:gs=[]∧q=[]:=by
  cases gs with
  | nil=>exact ⟨rfl,hV⟩
  | cons g r=>exact hV.elim
 obtain ⟨rfl,rfl⟩:=hgq
 rw [List.append_nil] at hpq
 subst hpq
 have hargs:∀ sp:Nat→Bool,(∀ x∈before,sp x.block=true)→DataW.TrodAll enc P W' 0 sp true f.params.toList args.toList ds before:=fun sp hsp=>kz hl k.other ht hA hlt hsp
 have hres:∀ (b:Nat) (sp:Nat→Bool) (hd:Bool),DataW.TrodAll enc P W' b sp hd f.resultTypes.toList ((Value.bool true).resultList f.resultTypes.size) [.lit (.bool true)] []:=fun b sp hd=>by
  rw [hr]
  exact trodAll_cons_mk (RowKit.shut_bool hbool true) trodAll_mk0
 have hold:∀ x∈before,(fun b=>decide (b<W.heap.size)) x.block=true:=fun x hx=>by simpa using hlt x hx
 refine ⟨ds,[],before,[],before,[],hW',?_,?_,?_,k.kept _,fun _=>?_⟩
 · rw [hfn]; exact hres _ _ _
 · rw [hfn]; exact hargs _ hold
 · rw [hvars,hfn]; rfl
 · refine ⟨RowKit.ok_one hr rfl (RowKit.okWide_bool_mk hbool true),[.lit (.bool true)]++ds,[],([]++before)++[],⟨[]++before,[],trodAll_append (hargs _ (fun _ _=>rfl)) (hres _ _ _),by rw [hvars]; rfl,rfl,?_,?_⟩,?_⟩
   · intro b off hp
     simp only [List.nil_append,List.append_nil] at hp
     have hb:b<W.heap.size:=hlt _ hp
     have:=hz b off hp
     simp only [World.frozen?,k.other b hb] at this ⊢
     exact this
   · intro ha
     simpa using hn ha
   · intro x hx _
     simpa using hx
end Go.Proofs.YtdbfpjgnlfejmaaDoor.Ev
end
section
namespace Go.Proofs.YtdbfpjgnlfejmaaDoor.Ev
open Go Go.ChangeShapes
def litV:Lit→Value
 | .string s=>.string ⟨s.toArray⟩
 | .int k n=>.int k n
 | _=>.tuple #[]
def litA:Lit→AV
 | .string s=>.str s
 | .int k n=>.int k n
 | _=>.tup []
theorem zkX (R:Bij)(l:Lit):VRel R (litA l) (litV l):=by
 cases l <;> first | rfl | exact ⟨[],rfl,rfl⟩
section
variable {H:Type} {enc:TypeId × Value→H} {P:Program} {w:World} {base:Nat} {sp:Nat→Bool} {held:Bool}
theorem zeB {t e:TypeId}{n fuel:Nat}{cs:List Value}{lits:List Lit}{p:List MemPlace}(ht:P.underlying t=some (.array n e))(he:P.underlying e=some .string∨∃ k,P.underlying e=some (.int k))
 (hce:P.cellsOf e=1) (hct:P.cellsOf t=n) (hd:DataW.trod enc P w base sp held fuel t cs=some (.agg (lits.map .lit),p)):cs=lits.map litV:=by
 obtain ⟨xs,m,rfl,hx,hlen,hxl,hel⟩:=DataW.trod_array ht hd
 simp only [Prod.mk.injEq,DataW.agg.injEq] at hx
 obtain ⟨hx,_⟩:=hx
 have hll:lits.length=n:=by
  have:=congrArg List.length hx
  simpa [hxl] using this
 apply List.ext_getElem?
 intro i
 by_cases hi:i<n
 · have h:=hel i hi
   have hxi:i<xs.length:=by omega
   have hci:i<cs.length:=by omega
   have hli:i<lits.length:=by omega
   have hone:(cs.drop (i*P.cellsOf e)).take (P.cellsOf e)=[cs[i]]:=by
    rw [hce,Nat.mul_one,List.drop_eq_getElem_cons hci]
    rfl
   rw [hone,List.getElem?_eq_getElem hxi] at h
   have hl:(xs[i]).1=.lit lits[i]:=by
    have:=congrArg (fun l=>l[i]?) hx
    simp only [List.getElem?_map,List.getElem?_eq_getElem hli,List.getElem?_eq_getElem hxi,Option.map_some,Option.some.injEq] at this
    exact this.symm
   rw [List.getElem?_eq_getElem hci,List.getElem?_map,List.getElem?_eq_getElem hli,Option.map_some]
   congr 1
   rcases he with he | ⟨k,he⟩
   · obtain ⟨s,h1,h2,_⟩:=DataW.trod_string he h
     rw [h2] at hl
     simp only [DataW.lit.injEq] at hl
     simp only [List.cons.injEq,and_true] at h1
     rw [h1,← hl]
     rfl
   · obtain ⟨s,h1,h2,_⟩:=DataW.trod_int he h
     rw [h2] at hl
     simp only [DataW.lit.injEq] at hl
     simp only [List.cons.injEq,and_true] at h1
     rw [h1,← hl]
     rfl
 · rw [List.getElem?_eq_none (by omega),List.getElem?_eq_none (by simp; omega)]
theorem zlk {n:String}{g:Nat}{cs:Array Value}(hg:P.globalNamed n=some g)(h:w.var? P n=some cs):∃ t fr,w.heap[g]?=some (.cells cs t fr):=by
 simp only [World.var?,hg,Option.bind_some] at h
 split at h
 · rename_i c t fr hb
   cases h
   exact ⟨_,_,hb⟩
 · cases h
noncomputable def zim (g:Nat) (lits:List Lit):T (T AV):=T.set (some (zy .leaf 0 (lits.map litA))) .leaf g
theorem zhB {name:String}{g:Nat}{cs:Array Value}{lits:List Lit}(hg:P.globalNamed name=some g)(hv:w.var? P name=some cs)(hcs:cs.toList=lits.map litV):zg6 (zim g lits) w:=by
 intro g' c e
 unfold zim at e
 rw [T.get_set] at e
 split at e
 · rename_i hgg
   subst hgg
   cases e
   obtain ⟨t,fr,hh⟩:=zlk hg hv
   refine ⟨xm hh,cs,t,fr,hh,fun k v hk=>?_⟩
   rw [zn] at hk
   split at hk
   · rename_i hlt
     rw [Nat.sub_zero,List.getElem?_map] at hk
     cases hl:lits[k]? with
     | none=>rw [hl] at hk; cases hk
     | some l =>
      rw [hl] at hk
      cases hk
      refine ⟨litV l,?_,zkX _ l⟩
      rw [← Array.getElem?_toList,hcs,List.getElem?_map,hl]
      rfl
   · cases hk
 · cases e
end
end Go.Proofs.YtdbfpjgnlfejmaaDoor.Ev
end
section
set_option maxRecDepth 100000
namespace Go.Proofs.YtdbfpjgnlfejmaaDoor.mq
open Ev
def lits:List Lit:=[.string [],.string [115,121,110,116,97,120],.string [99,121,99,108,101],.string [105,109,112,111,114,116],.string [116,119,105,99,101],.string [116,121,112,101],.string [110,97,109,101],.string [102,105,101,108,100],.string [97,114,105,116,121],.string [99,97,108,108],.string [119,114,111,110,103],.string [114,111,108,108],.string [115,105,122,101],.string [101,113,117,97,108]]
noncomputable def GW:T (T AV):=zim 0 lits
theorem gNum : Tryd.prog.globalNamed "lodger/diag.words" = some 0 := by kernel_rfl
theorem gType:(Tryd.prog.globals[0]?).map (·.type)=some 77:=by kernel_rfl
theorem zo4 {W : World}(h : laidMetH Tryd.prog [("lodger/diag.words", Rows.laid_lodger_diag_words)] W) : zg6 GW W := by
 rw [MakeChecks.laidMetH_plain _ _ _ (by kernel_rfl)] at h
 obtain ⟨ps,⟨g0,t0,cs0,f0,p0,q0,hg0,ht0,hv0,hd0,_⟩,_,_⟩:=h
 obtain rfl:=Option.some.inj (gNum.symm.trans hg0)
 obtain rfl:=Option.some.inj (gType.symm.trans ht0)
 exact zhB hg0 hv0 (zeB (lits:=lits) (n:=14) (e:=9) (by kernel_rfl) (.inl (by kernel_rfl)) (by kernel_rfl) (by kernel_rfl) hd0)
theorem zgr (os : Os)(args : Array Value) : laidMetH Tryd.prog [("lodger/diag.words", Rows.laid_lodger_diag_words)] ((World.doorLaid Tryd.prog 400 os).forCall (fun _ _ => 0) ⟨#[], args, []⟩).memory :=
 laidMetH_of_parts3 (fuel:=8) (laidMet_of_run' 8 (by kernel_rfl) (by kernel_rfl)) (by kernel_rfl) (by kernel_rfl)
end Go.Proofs.YtdbfpjgnlfejmaaDoor.mq
end
section
set_option maxRecDepth 100000
namespace Go.Proofs.YtdbfpjgnlfejmaaDoor.mq
open Go Ev
noncomputable abbrev P:Program:=Tryd.prog
section
set_option linter.unusedSectionVars false
variable (n:Int) (R:AV→Prop) (_K:AM→Prop)
include n R _K
theorem nby:Obl P 74 (fun v _=>R v) 0 _K [.run 44,.know 10 true,.run 152,.done] ((zb P 74 [.int .u64 n] GW))=((decide (n≤Int.ofNat 240)=true)∧(R (.str [UInt8.ofNat (IntKind.u8.wrap (Int.ofNat 0+IntKind.u8.wrap ((IntKind.u64.wrap (n - Int.ofNat 0)).fdiv (2 ^ min (Int.ofNat 0).toNat IntKind.u64.bits)))).toNat].reverse))):=by kernel_rfl
theorem nbny:Obl P 74 (fun v _=>R v) 0 _K [.run 44,.know 10 false,.run 27,.know 10 true,.run 223,.done] ((zb P 74 [.int .u64 n] GW))=((decide (n≤Int.ofNat 240)=false)∧(decide (n≤Int.ofNat 2287)=true)∧(R (.str [UInt8.ofNat (IntKind.u8.wrap ((IntKind.u64.wrap (n - Int.ofNat 240)).fdiv (2 ^ min (Int.ofNat 0).toNat IntKind.u64.bits))).toNat,UInt8.ofNat (IntKind.u8.wrap (Int.ofNat 241+IntKind.u8.wrap ((IntKind.u64.wrap (n - Int.ofNat 240)).fdiv (2 ^ min (Int.ofNat 8).toNat IntKind.u64.bits)))).toNat].reverse))):=by kernel_rfl
theorem nbnny:Obl P 74 (fun v _=>R v) 0 _K [.run 44,.know 10 false,.run 27,.know 10 false,.run 28,.know 10 true,.run 293,.done] ((zb P 74 [.int .u64 n] GW))=((decide (n≤Int.ofNat 240)=false)∧(decide (n≤Int.ofNat 2287)=false)∧(decide (n≤Int.ofNat 67823)=true)∧(R (.str [UInt8.ofNat (IntKind.u8.wrap ((IntKind.u64.wrap (n - Int.ofNat 2288)).fdiv (2 ^ min (Int.ofNat 0).toNat IntKind.u64.bits))).toNat,UInt8.ofNat (IntKind.u8.wrap ((IntKind.u64.wrap (n - Int.ofNat 2288)).fdiv (2 ^ min (Int.ofNat 8).toNat IntKind.u64.bits))).toNat,UInt8.ofNat (IntKind.u8.wrap (Int.ofNat 249+IntKind.u8.wrap ((IntKind.u64.wrap (n - Int.ofNat 2288)).fdiv (2 ^ min (Int.ofNat 16).toNat IntKind.u64.bits)))).toNat].reverse))):=by kernel_rfl
theorem zpC:Obl P 74 (fun v _=>R v) 0 _K [.run 44,.know 10 false,.run 27,.know 10 false,.run 28,.know 10 false,.run 67,.know 10 true,.run 368,.done] ((zb P 74 [.int .u64 n] GW))=((decide (n≤Int.ofNat 240)=false)∧(decide (n≤Int.ofNat 2287)=false)∧(decide (n≤Int.ofNat 67823)=false)∧(decide (n≤Int.ofNat 16777215)=true)∧(R (.str [UInt8.ofNat (IntKind.u8.wrap ((IntKind.u64.wrap (n - Int.ofNat 0)).fdiv (2 ^ min (Int.ofNat 0).toNat IntKind.u64.bits))).toNat,UInt8.ofNat (IntKind.u8.wrap ((IntKind.u64.wrap (n - Int.ofNat 0)).fdiv (2 ^ min (Int.ofNat 8).toNat IntKind.u64.bits))).toNat,UInt8.ofNat (IntKind.u8.wrap ((IntKind.u64.wrap (n - Int.ofNat 0)).fdiv (2 ^ min (Int.ofNat 16).toNat IntKind.u64.bits))).toNat,UInt8.ofNat (IntKind.u8.wrap (Int.ofNat 250+IntKind.u8.wrap ((IntKind.u64.wrap (n - Int.ofNat 0)).fdiv (2 ^ min (Int.ofNat 24).toNat IntKind.u64.bits)))).toNat].reverse))):=by kernel_rfl
theorem znl:Obl P 74 (fun v _=>R v) 0 _K [.run 44,.know 10 false,.run 27,.know 10 false,.run 28,.know 10 false,.run 67,.know 10 false,.run 68,.know 10 true,.run 444,.done] ((zb P 74 [.int .u64 n] GW))=((decide (n≤Int.ofNat 240)=false)∧(decide (n≤Int.ofNat 2287)=false)∧(decide (n≤Int.ofNat 67823)=false)∧(decide (n≤Int.ofNat 16777215)=false)∧(decide (n≤Int.ofNat 4294967295)=true)∧(R (.str [UInt8.ofNat (IntKind.u8.wrap ((IntKind.u64.wrap (n - Int.ofNat 0)).fdiv (2 ^ min (Int.ofNat 0).toNat IntKind.u64.bits))).toNat,UInt8.ofNat (IntKind.u8.wrap ((IntKind.u64.wrap (n - Int.ofNat 0)).fdiv (2 ^ min (Int.ofNat 8).toNat IntKind.u64.bits))).toNat,UInt8.ofNat (IntKind.u8.wrap ((IntKind.u64.wrap (n - Int.ofNat 0)).fdiv (2 ^ min (Int.ofNat 16).toNat IntKind.u64.bits))).toNat,UInt8.ofNat (IntKind.u8.wrap ((IntKind.u64.wrap (n - Int.ofNat 0)).fdiv (2 ^ min (Int.ofNat 24).toNat IntKind.u64.bits))).toNat,UInt8.ofNat (IntKind.u8.wrap (Int.ofNat 251+IntKind.u8.wrap ((IntKind.u64.wrap (n - Int.ofNat 0)).fdiv (2 ^ min (Int.ofNat 32).toNat IntKind.u64.bits)))).toNat].reverse))):=by kernel_rfl
theorem zlw:Obl P 74 (fun v _=>R v) 0 _K [.run 44,.know 10 false,.run 27,.know 10 false,.run 28,.know 10 false,.run 67,.know 10 false,.run 68,.know 10 false,.run 68,.know 10 true,.run 520,.done] ((zb P 74 [.int .u64 n] GW))=((decide (n≤Int.ofNat 240)=false)∧(decide (n≤Int.ofNat 2287)=false)∧(decide (n≤Int.ofNat 67823)=false)∧(decide (n≤Int.ofNat 16777215)=false)∧(decide (n≤Int.ofNat 4294967295)=false)∧(decide (n≤Int.ofNat 1099511627775)=true)∧(R (.str [UInt8.ofNat (IntKind.u8.wrap ((IntKind.u64.wrap (n - Int.ofNat 0)).fdiv (2 ^ min (Int.ofNat 0).toNat IntKind.u64.bits))).toNat,UInt8.ofNat (IntKind.u8.wrap ((IntKind.u64.wrap (n - Int.ofNat 0)).fdiv (2 ^ min (Int.ofNat 8).toNat IntKind.u64.bits))).toNat,UInt8.ofNat (IntKind.u8.wrap ((IntKind.u64.wrap (n - Int.ofNat 0)).fdiv (2 ^ min (Int.ofNat 16).toNat IntKind.u64.bits))).toNat,UInt8.ofNat (IntKind.u8.wrap ((IntKind.u64.wrap (n - Int.ofNat 0)).fdiv (2 ^ min (Int.ofNat 24).toNat IntKind.u64.bits))).toNat,UInt8.ofNat (IntKind.u8.wrap ((IntKind.u64.wrap (n - Int.ofNat 0)).fdiv (2 ^ min (Int.ofNat 32).toNat IntKind.u64.bits))).toNat,UInt8.ofNat (IntKind.u8.wrap (Int.ofNat 252+IntKind.u8.wrap ((IntKind.u64.wrap (n - Int.ofNat 0)).fdiv (2 ^ min (Int.ofNat 40).toNat IntKind.u64.bits)))).toNat].reverse))):=by kernel_rfl
theorem zkf:Obl P 74 (fun v _=>R v) 0 _K [.run 44,.know 10 false,.run 27,.know 10 false,.run 28,.know 10 false,.run 67,.know 10 false,.run 68,.know 10 false,.run 68,.know 10 false,.run 68,.know 10 true,.run 596,.done] ((zb P 74 [.int .u64 n] GW))=((decide (n≤Int.ofNat 240)=false)∧(decide (n≤Int.ofNat 2287)=false)∧(decide (n≤Int.ofNat 67823)=false)∧(decide (n≤Int.ofNat 16777215)=false)∧(decide (n≤Int.ofNat 4294967295)=false)∧(decide (n≤Int.ofNat 1099511627775)=false)∧(decide (n≤Int.ofNat 281474976710655)=true)∧(R (.str [UInt8.ofNat (IntKind.u8.wrap ((IntKind.u64.wrap (n - Int.ofNat 0)).fdiv (2 ^ min (Int.ofNat 0).toNat IntKind.u64.bits))).toNat,UInt8.ofNat (IntKind.u8.wrap ((IntKind.u64.wrap (n - Int.ofNat 0)).fdiv (2 ^ min (Int.ofNat 8).toNat IntKind.u64.bits))).toNat,UInt8.ofNat (IntKind.u8.wrap ((IntKind.u64.wrap (n - Int.ofNat 0)).fdiv (2 ^ min (Int.ofNat 16).toNat IntKind.u64.bits))).toNat,UInt8.ofNat (IntKind.u8.wrap ((IntKind.u64.wrap (n - Int.ofNat 0)).fdiv (2 ^ min (Int.ofNat 24).toNat IntKind.u64.bits))).toNat,UInt8.ofNat (IntKind.u8.wrap ((IntKind.u64.wrap (n - Int.ofNat 0)).fdiv (2 ^ min (Int.ofNat 32).toNat IntKind.u64.bits))).toNat,UInt8.ofNat (IntKind.u8.wrap ((IntKind.u64.wrap (n - Int.ofNat 0)).fdiv (2 ^ min (Int.ofNat 40).toNat IntKind.u64.bits))).toNat,UInt8.ofNat (IntKind.u8.wrap (Int.ofNat 253+IntKind.u8.wrap ((IntKind.u64.wrap (n - Int.ofNat 0)).fdiv (2 ^ min (Int.ofNat 48).toNat IntKind.u64.bits)))).toNat].reverse))):=by kernel_rfl
theorem zg9:Obl P 74 (fun v _=>R v) 0 _K [.run 44,.know 10 false,.run 27,.know 10 false,.run 28,.know 10 false,.run 67,.know 10 false,.run 68,.know 10 false,.run 68,.know 10 false,.run 68,.know 10 false,.run 68,.know 10 true,.run 672,.done] ((zb P 74 [.int .u64 n] GW))=((decide (n≤Int.ofNat 240)=false)∧(decide (n≤Int.ofNat 2287)=false)∧(decide (n≤Int.ofNat 67823)=false)∧(decide (n≤Int.ofNat 16777215)=false)∧(decide (n≤Int.ofNat 4294967295)=false)∧(decide (n≤Int.ofNat 1099511627775)=false)∧(decide (n≤Int.ofNat 281474976710655)=false)∧(decide (n≤Int.ofNat 72057594037927935)=true)∧(R (.str [UInt8.ofNat (IntKind.u8.wrap ((IntKind.u64.wrap (n - Int.ofNat 0)).fdiv (2 ^ min (Int.ofNat 0).toNat IntKind.u64.bits))).toNat,UInt8.ofNat (IntKind.u8.wrap ((IntKind.u64.wrap (n - Int.ofNat 0)).fdiv (2 ^ min (Int.ofNat 8).toNat IntKind.u64.bits))).toNat,UInt8.ofNat (IntKind.u8.wrap ((IntKind.u64.wrap (n - Int.ofNat 0)).fdiv (2 ^ min (Int.ofNat 16).toNat IntKind.u64.bits))).toNat,UInt8.ofNat (IntKind.u8.wrap ((IntKind.u64.wrap (n - Int.ofNat 0)).fdiv (2 ^ min (Int.ofNat 24).toNat IntKind.u64.bits))).toNat,UInt8.ofNat (IntKind.u8.wrap ((IntKind.u64.wrap (n - Int.ofNat 0)).fdiv (2 ^ min (Int.ofNat 32).toNat IntKind.u64.bits))).toNat,UInt8.ofNat (IntKind.u8.wrap ((IntKind.u64.wrap (n - Int.ofNat 0)).fdiv (2 ^ min (Int.ofNat 40).toNat IntKind.u64.bits))).toNat,UInt8.ofNat (IntKind.u8.wrap ((IntKind.u64.wrap (n - Int.ofNat 0)).fdiv (2 ^ min (Int.ofNat 48).toNat IntKind.u64.bits))).toNat,UInt8.ofNat (IntKind.u8.wrap (Int.ofNat 254+IntKind.u8.wrap ((IntKind.u64.wrap (n - Int.ofNat 0)).fdiv (2 ^ min (Int.ofNat 56).toNat IntKind.u64.bits)))).toNat].reverse))):=by kernel_rfl
theorem zfF:Obl P 74 (fun v _=>R v) 0 _K [.run 44,.know 10 false,.run 27,.know 10 false,.run 28,.know 10 false,.run 67,.know 10 false,.run 68,.know 10 false,.run 68,.know 10 false,.run 68,.know 10 false,.run 68,.know 10 false,.run 68,.know 10 true,.run 748,.done] ((zb P 74 [.int .u64 n] GW))=((decide (n≤Int.ofNat 240)=false)∧(decide (n≤Int.ofNat 2287)=false)∧(decide (n≤Int.ofNat 67823)=false)∧(decide (n≤Int.ofNat 16777215)=false)∧(decide (n≤Int.ofNat 4294967295)=false)∧(decide (n≤Int.ofNat 1099511627775)=false)∧(decide (n≤Int.ofNat 281474976710655)=false)∧(decide (n≤Int.ofNat 72057594037927935)=false)∧(decide (n≤Int.ofNat 18446744073709551615)=true)∧(R (.str [UInt8.ofNat (IntKind.u8.wrap ((IntKind.u64.wrap (n - Int.ofNat 0)).fdiv (2 ^ min (Int.ofNat 0).toNat IntKind.u64.bits))).toNat,UInt8.ofNat (IntKind.u8.wrap ((IntKind.u64.wrap (n - Int.ofNat 0)).fdiv (2 ^ min (Int.ofNat 8).toNat IntKind.u64.bits))).toNat,UInt8.ofNat (IntKind.u8.wrap ((IntKind.u64.wrap (n - Int.ofNat 0)).fdiv (2 ^ min (Int.ofNat 16).toNat IntKind.u64.bits))).toNat,UInt8.ofNat (IntKind.u8.wrap ((IntKind.u64.wrap (n - Int.ofNat 0)).fdiv (2 ^ min (Int.ofNat 24).toNat IntKind.u64.bits))).toNat,UInt8.ofNat (IntKind.u8.wrap ((IntKind.u64.wrap (n - Int.ofNat 0)).fdiv (2 ^ min (Int.ofNat 32).toNat IntKind.u64.bits))).toNat,UInt8.ofNat (IntKind.u8.wrap ((IntKind.u64.wrap (n - Int.ofNat 0)).fdiv (2 ^ min (Int.ofNat 40).toNat IntKind.u64.bits))).toNat,UInt8.ofNat (IntKind.u8.wrap ((IntKind.u64.wrap (n - Int.ofNat 0)).fdiv (2 ^ min (Int.ofNat 48).toNat IntKind.u64.bits))).toNat,UInt8.ofNat (IntKind.u8.wrap ((IntKind.u64.wrap (n - Int.ofNat 0)).fdiv (2 ^ min (Int.ofNat 56).toNat IntKind.u64.bits))).toNat,UInt8.ofNat (IntKind.u8.wrap (Int.ofNat 255+IntKind.u8.wrap ((IntKind.u64.wrap (n - Int.ofNat 0)).fdiv (2 ^ min (Int.ofNat 64).toNat IntKind.u64.bits)))).toNat].reverse))):=by kernel_rfl
end
section
set_option linter.unusedSectionVars false
variable (s:List UInt8) (n:Int) (R:AV→Prop) (_K:AM→Prop)
include s n R _K
theorem rpy:Obl P 51 (fun v _=>R v) 0 _K [.run 12,.know 6 true,.run 71,.op,.run 3,.done] ((zb P 51 [.str s,.int .u64 n] GW))=((decide (n≤240)=true)∧(s.length+([UInt8.ofNat (IntKind.u8.wrap (n.tmod 256)).toNat].reverse++[]).length<1099511627776)∧(R (.str (s++([UInt8.ofNat (IntKind.u8.wrap (n.tmod 256)).toNat].reverse++[]))))):=by kernel_rfl
theorem rpny:Obl P 51 (fun v _=>R v) 0 _K [.run 12,.know 6 false,.run 7,.know 13 true,.run 74,.op,.run 69,.op,.run 3,.done] ((zb P 51 [.str s,.int .u64 n] GW))=((decide (n≤240)=false)∧(decide (n≤2287)=true)∧(s.length+([UInt8.ofNat (IntKind.u8.wrap ((IntKind.u64.wrap (241+IntKind.u64.wrap ((IntKind.u64.wrap (n - 240)).tdiv 256))).tmod 256)).toNat].reverse++[]).length<1099511627776)∧((s++([UInt8.ofNat (IntKind.u8.wrap ((IntKind.u64.wrap (241+IntKind.u64.wrap ((IntKind.u64.wrap (n - 240)).tdiv 256))).tmod 256)).toNat].reverse++[])).length+([UInt8.ofNat (IntKind.u8.wrap (((IntKind.u64.wrap (n - 240)).tmod 256).tmod 256)).toNat].reverse++[]).length<1099511627776)∧(R (.str (s++([UInt8.ofNat (IntKind.u8.wrap ((IntKind.u64.wrap (241+IntKind.u64.wrap ((IntKind.u64.wrap (n - 240)).tdiv 256))).tmod 256)).toNat].reverse++[])++([UInt8.ofNat (IntKind.u8.wrap (((IntKind.u64.wrap (n - 240)).tmod 256).tmod 256)).toNat].reverse++[]))))):=by kernel_rfl
theorem rpnny:Obl P 51 (fun v _=>R v) 0 _K [.run 12,.know 6 false,.run 7,.know 13 false,.run 7,.know 28 true,.run 70,.op,.run 102,.op,.run 3,.done] ((zb P 51 [.str s,.int .u64 n] GW))=((decide (n≤240)=false)∧(decide (n≤2287)=false)∧(decide (n≤67823)=true)∧(s.length+1<1099511627776)∧((s++[UInt8.ofNat 249]).length+([UInt8.ofNat (IntKind.u8.wrap ((IntKind.u64.wrap ((IntKind.u64.wrap (n - 2288)).tdiv 256)).tmod 256)).toNat].reverse++([UInt8.ofNat (IntKind.u8.wrap ((IntKind.u64.wrap (n - 2288)).tmod 256)).toNat].reverse++[])).length<1099511627776)∧(R (.str (s++[UInt8.ofNat 249]++([UInt8.ofNat (IntKind.u8.wrap ((IntKind.u64.wrap ((IntKind.u64.wrap (n - 2288)).tdiv 256)).tmod 256)).toNat].reverse++([UInt8.ofNat (IntKind.u8.wrap ((IntKind.u64.wrap (n - 2288)).tmod 256)).toNat].reverse++[])))))):=by kernel_rfl
theorem zhv:Obl P 51 (fun v _=>R v) 0 _K [.run 12,.know 6 false,.run 7,.know 13 false,.run 7,.know 28 false,.run 23,.know 46 true,.run 23,.know 46 true,.run 23,.know 46 true,.run 23,.know 46 true,.run 23,.know 46 true,.run 97,.op,.run 306,.op,.run 3,.done] ((zb P 51 [.str s,.int .u64 n] GW))=((decide (n≤240)=false)∧(decide (n≤2287)=false)∧(decide (n≤67823)=false)∧(decide (n.fdiv (2 ^ min (Int.ofNat 24).toNat IntKind.u64.bits) > 0)=true)∧(decide (n.fdiv (2 ^ min (Int.ofNat 32).toNat IntKind.u64.bits) > 0)=true)∧(decide (n.fdiv (2 ^ min (Int.ofNat 40).toNat IntKind.u64.bits) > 0)=true)∧(decide (n.fdiv (2 ^ min (Int.ofNat 48).toNat IntKind.u64.bits) > 0)=true)∧(decide (n.fdiv (2 ^ min (Int.ofNat 56).toNat IntKind.u64.bits) > 0)=true)∧(s.length+1<1099511627776)∧((s++[UInt8.ofNat 255]).length+([UInt8.ofNat (IntKind.u8.wrap ((IntKind.u64.wrap ((IntKind.u64.wrap ((IntKind.u64.wrap ((IntKind.u64.wrap ((IntKind.u64.wrap ((IntKind.u64.wrap ((IntKind.u64.wrap (n.tdiv 256)).tdiv 256)).tdiv 256)).tdiv 256)).tdiv 256)).tdiv 256)).tdiv 256)).tmod 256)).toNat].reverse++([UInt8.ofNat (IntKind.u8.wrap ((IntKind.u64.wrap ((IntKind.u64.wrap ((IntKind.u64.wrap ((IntKind.u64.wrap ((IntKind.u64.wrap ((IntKind.u64.wrap (n.tdiv 256)).tdiv 256)).tdiv 256)).tdiv 256)).tdiv 256)).tdiv 256)).tmod 256)).toNat].reverse++([UInt8.ofNat (IntKind.u8.wrap ((IntKind.u64.wrap ((IntKind.u64.wrap ((IntKind.u64.wrap ((IntKind.u64.wrap ((IntKind.u64.wrap (n.tdiv 256)).tdiv 256)).tdiv 256)).tdiv 256)).tdiv 256)).tmod 256)).toNat].reverse++([UInt8.ofNat (IntKind.u8.wrap ((IntKind.u64.wrap ((IntKind.u64.wrap ((IntKind.u64.wrap ((IntKind.u64.wrap (n.tdiv 256)).tdiv 256)).tdiv 256)).tdiv 256)).tmod 256)).toNat].reverse++([UInt8.ofNat (IntKind.u8.wrap ((IntKind.u64.wrap ((IntKind.u64.wrap ((IntKind.u64.wrap (n.tdiv 256)).tdiv 256)).tdiv 256)).tmod 256)).toNat].reverse++([UInt8.ofNat (IntKind.u8.wrap ((IntKind.u64.wrap ((IntKind.u64.wrap (n.tdiv 256)).tdiv 256)).tmod 256)).toNat].reverse++([UInt8.ofNat (IntKind.u8.wrap ((IntKind.u64.wrap (n.tdiv 256)).tmod 256)).toNat].reverse++([UInt8.ofNat (IntKind.u8.wrap (n.tmod 256)).toNat].reverse++[])))))))).length<1099511627776)∧(R (.str (s++[UInt8.ofNat 255]++([UInt8.ofNat (IntKind.u8.wrap ((IntKind.u64.wrap ((IntKind.u64.wrap ((IntKind.u64.wrap ((IntKind.u64.wrap ((IntKind.u64.wrap ((IntKind.u64.wrap ((IntKind.u64.wrap (n.tdiv 256)).tdiv 256)).tdiv 256)).tdiv 256)).tdiv 256)).tdiv 256)).tdiv 256)).tmod 256)).toNat].reverse++([UInt8.ofNat (IntKind.u8.wrap ((IntKind.u64.wrap ((IntKind.u64.wrap ((IntKind.u64.wrap ((IntKind.u64.wrap ((IntKind.u64.wrap ((IntKind.u64.wrap (n.tdiv 256)).tdiv 256)).tdiv 256)).tdiv 256)).tdiv 256)).tdiv 256)).tmod 256)).toNat].reverse++([UInt8.ofNat (IntKind.u8.wrap ((IntKind.u64.wrap ((IntKind.u64.wrap ((IntKind.u64.wrap ((IntKind.u64.wrap ((IntKind.u64.wrap (n.tdiv 256)).tdiv 256)).tdiv 256)).tdiv 256)).tdiv 256)).tmod 256)).toNat].reverse++([UInt8.ofNat (IntKind.u8.wrap ((IntKind.u64.wrap ((IntKind.u64.wrap ((IntKind.u64.wrap ((IntKind.u64.wrap (n.tdiv 256)).tdiv 256)).tdiv 256)).tdiv 256)).tmod 256)).toNat].reverse++([UInt8.ofNat (IntKind.u8.wrap ((IntKind.u64.wrap ((IntKind.u64.wrap ((IntKind.u64.wrap (n.tdiv 256)).tdiv 256)).tdiv 256)).tmod 256)).toNat].reverse++([UInt8.ofNat (IntKind.u8.wrap ((IntKind.u64.wrap ((IntKind.u64.wrap (n.tdiv 256)).tdiv 256)).tmod 256)).toNat].reverse++([UInt8.ofNat (IntKind.u8.wrap ((IntKind.u64.wrap (n.tdiv 256)).tmod 256)).toNat].reverse++([UInt8.ofNat (IntKind.u8.wrap (n.tmod 256)).toNat].reverse++[])))))))))))):=by kernel_rfl
theorem zgF:Obl P 51 (fun v _=>R v) 0 _K [.run 12,.know 6 false,.run 7,.know 13 false,.run 7,.know 28 false,.run 23,.know 46 true,.run 23,.know 46 true,.run 23,.know 46 true,.run 23,.know 46 true,.run 23,.know 46 false,.run 74,.op,.run 272,.op,.run 3,.done] ((zb P 51 [.str s,.int .u64 n] GW))=((decide (n≤240)=false)∧(decide (n≤2287)=false)∧(decide (n≤67823)=false)∧(decide (n.fdiv (2 ^ min (Int.ofNat 24).toNat IntKind.u64.bits) > 0)=true)∧(decide (n.fdiv (2 ^ min (Int.ofNat 32).toNat IntKind.u64.bits) > 0)=true)∧(decide (n.fdiv (2 ^ min (Int.ofNat 40).toNat IntKind.u64.bits) > 0)=true)∧(decide (n.fdiv (2 ^ min (Int.ofNat 48).toNat IntKind.u64.bits) > 0)=true)∧(decide (n.fdiv (2 ^ min (Int.ofNat 56).toNat IntKind.u64.bits) > 0)=false)∧(s.length+1<1099511627776)∧((s++[UInt8.ofNat 254]).length+([UInt8.ofNat (IntKind.u8.wrap ((IntKind.u64.wrap ((IntKind.u64.wrap ((IntKind.u64.wrap ((IntKind.u64.wrap ((IntKind.u64.wrap ((IntKind.u64.wrap (n.tdiv 256)).tdiv 256)).tdiv 256)).tdiv 256)).tdiv 256)).tdiv 256)).tmod 256)).toNat].reverse++([UInt8.ofNat (IntKind.u8.wrap ((IntKind.u64.wrap ((IntKind.u64.wrap ((IntKind.u64.wrap ((IntKind.u64.wrap ((IntKind.u64.wrap (n.tdiv 256)).tdiv 256)).tdiv 256)).tdiv 256)).tdiv 256)).tmod 256)).toNat].reverse++([UInt8.ofNat (IntKind.u8.wrap ((IntKind.u64.wrap ((IntKind.u64.wrap ((IntKind.u64.wrap ((IntKind.u64.wrap (n.tdiv 256)).tdiv 256)).tdiv 256)).tdiv 256)).tmod 256)).toNat].reverse++([UInt8.ofNat (IntKind.u8.wrap ((IntKind.u64.wrap ((IntKind.u64.wrap ((IntKind.u64.wrap (n.tdiv 256)).tdiv 256)).tdiv 256)).tmod 256)).toNat].reverse++([UInt8.ofNat (IntKind.u8.wrap ((IntKind.u64.wrap ((IntKind.u64.wrap (n.tdiv 256)).tdiv 256)).tmod 256)).toNat].reverse++([UInt8.ofNat (IntKind.u8.wrap ((IntKind.u64.wrap (n.tdiv 256)).tmod 256)).toNat].reverse++([UInt8.ofNat (IntKind.u8.wrap (n.tmod 256)).toNat].reverse++[]))))))).length<1099511627776)∧(R (.str (s++[UInt8.ofNat 254]++([UInt8.ofNat (IntKind.u8.wrap ((IntKind.u64.wrap ((IntKind.u64.wrap ((IntKind.u64.wrap ((IntKind.u64.wrap ((IntKind.u64.wrap ((IntKind.u64.wrap (n.tdiv 256)).tdiv 256)).tdiv 256)).tdiv 256)).tdiv 256)).tdiv 256)).tmod 256)).toNat].reverse++([UInt8.ofNat (IntKind.u8.wrap ((IntKind.u64.wrap ((IntKind.u64.wrap ((IntKind.u64.wrap ((IntKind.u64.wrap ((IntKind.u64.wrap (n.tdiv 256)).tdiv 256)).tdiv 256)).tdiv 256)).tdiv 256)).tmod 256)).toNat].reverse++([UInt8.ofNat (IntKind.u8.wrap ((IntKind.u64.wrap ((IntKind.u64.wrap ((IntKind.u64.wrap ((IntKind.u64.wrap (n.tdiv 256)).tdiv 256)).tdiv 256)).tdiv 256)).tmod 256)).toNat].reverse++([UInt8.ofNat (IntKind.u8.wrap ((IntKind.u64.wrap ((IntKind.u64.wrap ((IntKind.u64.wrap (n.tdiv 256)).tdiv 256)).tdiv 256)).tmod 256)).toNat].reverse++([UInt8.ofNat (IntKind.u8.wrap ((IntKind.u64.wrap ((IntKind.u64.wrap (n.tdiv 256)).tdiv 256)).tmod 256)).toNat].reverse++([UInt8.ofNat (IntKind.u8.wrap ((IntKind.u64.wrap (n.tdiv 256)).tmod 256)).toNat].reverse++([UInt8.ofNat (IntKind.u8.wrap (n.tmod 256)).toNat].reverse++[]))))))))))):=by kernel_rfl
theorem zjL:Obl P 51 (fun v _=>R v) 0 _K [.run 12,.know 6 false,.run 7,.know 13 false,.run 7,.know 28 false,.run 23,.know 46 true,.run 23,.know 46 true,.run 23,.know 46 true,.run 23,.know 46 false,.run 74,.op,.run 238,.op,.run 3,.done] ((zb P 51 [.str s,.int .u64 n] GW))=((decide (n≤240)=false)∧(decide (n≤2287)=false)∧(decide (n≤67823)=false)∧(decide (n.fdiv (2 ^ min (Int.ofNat 24).toNat IntKind.u64.bits) > 0)=true)∧(decide (n.fdiv (2 ^ min (Int.ofNat 32).toNat IntKind.u64.bits) > 0)=true)∧(decide (n.fdiv (2 ^ min (Int.ofNat 40).toNat IntKind.u64.bits) > 0)=true)∧(decide (n.fdiv (2 ^ min (Int.ofNat 48).toNat IntKind.u64.bits) > 0)=false)∧(s.length+1<1099511627776)∧((s++[UInt8.ofNat 253]).length+([UInt8.ofNat (IntKind.u8.wrap ((IntKind.u64.wrap ((IntKind.u64.wrap ((IntKind.u64.wrap ((IntKind.u64.wrap ((IntKind.u64.wrap (n.tdiv 256)).tdiv 256)).tdiv 256)).tdiv 256)).tdiv 256)).tmod 256)).toNat].reverse++([UInt8.ofNat (IntKind.u8.wrap ((IntKind.u64.wrap ((IntKind.u64.wrap ((IntKind.u64.wrap ((IntKind.u64.wrap (n.tdiv 256)).tdiv 256)).tdiv 256)).tdiv 256)).tmod 256)).toNat].reverse++([UInt8.ofNat (IntKind.u8.wrap ((IntKind.u64.wrap ((IntKind.u64.wrap ((IntKind.u64.wrap (n.tdiv 256)).tdiv 256)).tdiv 256)).tmod 256)).toNat].reverse++([UInt8.ofNat (IntKind.u8.wrap ((IntKind.u64.wrap ((IntKind.u64.wrap (n.tdiv 256)).tdiv 256)).tmod 256)).toNat].reverse++([UInt8.ofNat (IntKind.u8.wrap ((IntKind.u64.wrap (n.tdiv 256)).tmod 256)).toNat].reverse++([UInt8.ofNat (IntKind.u8.wrap (n.tmod 256)).toNat].reverse++[])))))).length<1099511627776)∧(R (.str (s++[UInt8.ofNat 253]++([UInt8.ofNat (IntKind.u8.wrap ((IntKind.u64.wrap ((IntKind.u64.wrap ((IntKind.u64.wrap ((IntKind.u64.wrap ((IntKind.u64.wrap (n.tdiv 256)).tdiv 256)).tdiv 256)).tdiv 256)).tdiv 256)).tmod 256)).toNat].reverse++([UInt8.ofNat (IntKind.u8.wrap ((IntKind.u64.wrap ((IntKind.u64.wrap ((IntKind.u64.wrap ((IntKind.u64.wrap (n.tdiv 256)).tdiv 256)).tdiv 256)).tdiv 256)).tmod 256)).toNat].reverse++([UInt8.ofNat (IntKind.u8.wrap ((IntKind.u64.wrap ((IntKind.u64.wrap ((IntKind.u64.wrap (n.tdiv 256)).tdiv 256)).tdiv 256)).tmod 256)).toNat].reverse++([UInt8.ofNat (IntKind.u8.wrap ((IntKind.u64.wrap ((IntKind.u64.wrap (n.tdiv 256)).tdiv 256)).tmod 256)).toNat].reverse++([UInt8.ofNat (IntKind.u8.wrap ((IntKind.u64.wrap (n.tdiv 256)).tmod 256)).toNat].reverse++([UInt8.ofNat (IntKind.u8.wrap (n.tmod 256)).toNat].reverse++[])))))))))):=by kernel_rfl
theorem zlG:Obl P 51 (fun v _=>R v) 0 _K [.run 12,.know 6 false,.run 7,.know 13 false,.run 7,.know 28 false,.run 23,.know 46 true,.run 23,.know 46 true,.run 23,.know 46 false,.run 74,.op,.run 204,.op,.run 3,.done] ((zb P 51 [.str s,.int .u64 n] GW))=((decide (n≤240)=false)∧(decide (n≤2287)=false)∧(decide (n≤67823)=false)∧(decide (n.fdiv (2 ^ min (Int.ofNat 24).toNat IntKind.u64.bits) > 0)=true)∧(decide (n.fdiv (2 ^ min (Int.ofNat 32).toNat IntKind.u64.bits) > 0)=true)∧(decide (n.fdiv (2 ^ min (Int.ofNat 40).toNat IntKind.u64.bits) > 0)=false)∧(s.length+1<1099511627776)∧((s++[UInt8.ofNat 252]).length+([UInt8.ofNat (IntKind.u8.wrap ((IntKind.u64.wrap ((IntKind.u64.wrap ((IntKind.u64.wrap ((IntKind.u64.wrap (n.tdiv 256)).tdiv 256)).tdiv 256)).tdiv 256)).tmod 256)).toNat].reverse++([UInt8.ofNat (IntKind.u8.wrap ((IntKind.u64.wrap ((IntKind.u64.wrap ((IntKind.u64.wrap (n.tdiv 256)).tdiv 256)).tdiv 256)).tmod 256)).toNat].reverse++([UInt8.ofNat (IntKind.u8.wrap ((IntKind.u64.wrap ((IntKind.u64.wrap (n.tdiv 256)).tdiv 256)).tmod 256)).toNat].reverse++([UInt8.ofNat (IntKind.u8.wrap ((IntKind.u64.wrap (n.tdiv 256)).tmod 256)).toNat].reverse++([UInt8.ofNat (IntKind.u8.wrap (n.tmod 256)).toNat].reverse++[]))))).length<1099511627776)∧(R (.str (s++[UInt8.ofNat 252]++([UInt8.ofNat (IntKind.u8.wrap ((IntKind.u64.wrap ((IntKind.u64.wrap ((IntKind.u64.wrap ((IntKind.u64.wrap (n.tdiv 256)).tdiv 256)).tdiv 256)).tdiv 256)).tmod 256)).toNat].reverse++([UInt8.ofNat (IntKind.u8.wrap ((IntKind.u64.wrap ((IntKind.u64.wrap ((IntKind.u64.wrap (n.tdiv 256)).tdiv 256)).tdiv 256)).tmod 256)).toNat].reverse++([UInt8.ofNat (IntKind.u8.wrap ((IntKind.u64.wrap ((IntKind.u64.wrap (n.tdiv 256)).tdiv 256)).tmod 256)).toNat].reverse++([UInt8.ofNat (IntKind.u8.wrap ((IntKind.u64.wrap (n.tdiv 256)).tmod 256)).toNat].reverse++([UInt8.ofNat (IntKind.u8.wrap (n.tmod 256)).toNat].reverse++[]))))))))):=by kernel_rfl
theorem zn4:Obl P 51 (fun v _=>R v) 0 _K [.run 12,.know 6 false,.run 7,.know 13 false,.run 7,.know 28 false,.run 23,.know 46 true,.run 23,.know 46 false,.run 74,.op,.run 170,.op,.run 3,.done] ((zb P 51 [.str s,.int .u64 n] GW))=((decide (n≤240)=false)∧(decide (n≤2287)=false)∧(decide (n≤67823)=false)∧(decide (n.fdiv (2 ^ min (Int.ofNat 24).toNat IntKind.u64.bits) > 0)=true)∧(decide (n.fdiv (2 ^ min (Int.ofNat 32).toNat IntKind.u64.bits) > 0)=false)∧(s.length+1<1099511627776)∧((s++[UInt8.ofNat 251]).length+([UInt8.ofNat (IntKind.u8.wrap ((IntKind.u64.wrap ((IntKind.u64.wrap ((IntKind.u64.wrap (n.tdiv 256)).tdiv 256)).tdiv 256)).tmod 256)).toNat].reverse++([UInt8.ofNat (IntKind.u8.wrap ((IntKind.u64.wrap ((IntKind.u64.wrap (n.tdiv 256)).tdiv 256)).tmod 256)).toNat].reverse++([UInt8.ofNat (IntKind.u8.wrap ((IntKind.u64.wrap (n.tdiv 256)).tmod 256)).toNat].reverse++([UInt8.ofNat (IntKind.u8.wrap (n.tmod 256)).toNat].reverse++[])))).length<1099511627776)∧(R (.str (s++[UInt8.ofNat 251]++([UInt8.ofNat (IntKind.u8.wrap ((IntKind.u64.wrap ((IntKind.u64.wrap ((IntKind.u64.wrap (n.tdiv 256)).tdiv 256)).tdiv 256)).tmod 256)).toNat].reverse++([UInt8.ofNat (IntKind.u8.wrap ((IntKind.u64.wrap ((IntKind.u64.wrap (n.tdiv 256)).tdiv 256)).tmod 256)).toNat].reverse++([UInt8.ofNat (IntKind.u8.wrap ((IntKind.u64.wrap (n.tdiv 256)).tmod 256)).toNat].reverse++([UInt8.ofNat (IntKind.u8.wrap (n.tmod 256)).toNat].reverse++[])))))))):=by kernel_rfl
theorem zox:Obl P 51 (fun v _=>R v) 0 _K [.run 12,.know 6 false,.run 7,.know 13 false,.run 7,.know 28 false,.run 23,.know 46 false,.run 74,.op,.run 136,.op,.run 3,.done] ((zb P 51 [.str s,.int .u64 n] GW))=((decide (n≤240)=false)∧(decide (n≤2287)=false)∧(decide (n≤67823)=false)∧(decide (n.fdiv (2 ^ min (Int.ofNat 24).toNat IntKind.u64.bits) > 0)=false)∧(s.length+1<1099511627776)∧((s++[UInt8.ofNat 250]).length+([UInt8.ofNat (IntKind.u8.wrap ((IntKind.u64.wrap ((IntKind.u64.wrap (n.tdiv 256)).tdiv 256)).tmod 256)).toNat].reverse++([UInt8.ofNat (IntKind.u8.wrap ((IntKind.u64.wrap (n.tdiv 256)).tmod 256)).toNat].reverse++([UInt8.ofNat (IntKind.u8.wrap (n.tmod 256)).toNat].reverse++[]))).length<1099511627776)∧(R (.str (s++[UInt8.ofNat 250]++([UInt8.ofNat (IntKind.u8.wrap ((IntKind.u64.wrap ((IntKind.u64.wrap (n.tdiv 256)).tdiv 256)).tmod 256)).toNat].reverse++([UInt8.ofNat (IntKind.u8.wrap ((IntKind.u64.wrap (n.tdiv 256)).tmod 256)).toNat].reverse++([UInt8.ofNat (IntKind.u8.wrap (n.tmod 256)).toNat].reverse++[]))))))):=by kernel_rfl
end
theorem mix:P.follows .mixedOrders=true:=Checked.mixed Tryd.checked
theorem og {f:FuncId}{Q:AV→AHeap→Prop}{k:Nat}{l:List Cmd}{m:AM}{A:Prop}(e:A=Obl P f Q k (Goal P k f Q) l m)(h:A):Goal P k f Q m:=Obl.goal mix (fun _ h=>h) (cast e h)
theorem oh {f:FuncId}{Q:AV→AHeap→Prop}{k:Nat}{l:List Cmd}{m:AM}{A:Prop}(e:A=Obl P f Q k (fun _=>False) l m)(h:A):Goal P k f Q m:=Obl.goal mix (fun _ h=>h.elim) (cast e h)
def B (x:Int):UInt8:=UInt8.ofNat (x % 256).toNat
def row (n:Int):List UInt8 :=
 if n≤240 then [B n]
 else if n≤2287 then [B (241+(n - 240) / 256),B (n - 240)]
 else if n≤67823 then [249,B ((n - 2288) / 256),B (n - 2288)]
 else if n≤16777215 then [250,B (n / 65536),B (n / 256),B n]
 else if n≤4294967295 then [251,B (n / 16777216),B (n / 65536),B (n / 256),B n]
 else if n≤1099511627775 then [252,B (n / 4294967296),B (n / 16777216),B (n / 65536),B (n / 256),B n]
 else if n≤281474976710655 then [253,B (n / 1099511627776),B (n / 4294967296),B (n / 16777216),B (n / 65536),B (n / 256),B n]
 else if n≤72057594037927935 then [254,B (n / 281474976710656),B (n / 1099511627776),B (n / 4294967296),B (n / 16777216),B (n / 65536),B (n / 256),B n]
 else [255,B (n / 72057594037927936),B (n / 281474976710656),B (n / 1099511627776),B (n / 4294967296),B (n / 16777216),B (n / 65536),B (n / 256),B n]
theorem zu (n:Int):(row n).length≤9:=by
 unfold row
 repeat' split
 all_goals simp
theorem y7 (x:Int):UInt8.ofNat (IntKind.u8.wrap x).toNat=B x:=by rw [IntKind.wrap_u8]; rfl
theorem zb5 {x y:Int}(h:x % 256=y % 256):B x=B y:=by unfold B; rw [h]
theorem zfw {x:Int}{k:Nat}(h:x % 256=k):B x=UInt8.ofNat k:=by unfold B; rw [h]; rfl
theorem sh0 (x:Int):x.fdiv (2 ^ min (Int.ofNat 0).toNat IntKind.u64.bits)=x:=by
 have:(2 ^ min (Int.ofNat 0).toNat IntKind.u64.bits:Int)=1:=by decide
 rw [this,Int.fdiv_eq_ediv_of_nonneg _ (by decide),Int.ediv_one]
theorem sh8 (x:Int):x.fdiv (2 ^ min (Int.ofNat 8).toNat IntKind.u64.bits)=x / 256:=by
 have:(2 ^ min (Int.ofNat 8).toNat IntKind.u64.bits:Int)=256:=by decide
 rw [this,Int.fdiv_eq_ediv_of_nonneg _ (by decide)]
theorem zmM (x:Int):x.fdiv (2 ^ min (Int.ofNat 16).toNat IntKind.u64.bits)=x / 65536:=by
 have:(2 ^ min (Int.ofNat 16).toNat IntKind.u64.bits:Int)=65536:=by decide
 rw [this,Int.fdiv_eq_ediv_of_nonneg _ (by decide)]
theorem zhw (x:Int):x.fdiv (2 ^ min (Int.ofNat 24).toNat IntKind.u64.bits)=x / 16777216:=by
 have:(2 ^ min (Int.ofNat 24).toNat IntKind.u64.bits:Int)=16777216:=by decide
 rw [this,Int.fdiv_eq_ediv_of_nonneg _ (by decide)]
theorem zky (x:Int):x.fdiv (2 ^ min (Int.ofNat 32).toNat IntKind.u64.bits)=x / 4294967296:=by
 have:(2 ^ min (Int.ofNat 32).toNat IntKind.u64.bits:Int)=4294967296:=by decide
 rw [this,Int.fdiv_eq_ediv_of_nonneg _ (by decide)]
theorem zl5 (x:Int):x.fdiv (2 ^ min (Int.ofNat 40).toNat IntKind.u64.bits)=x / 1099511627776:=by
 have:(2 ^ min (Int.ofNat 40).toNat IntKind.u64.bits:Int)=1099511627776:=by decide
 rw [this,Int.fdiv_eq_ediv_of_nonneg _ (by decide)]
theorem zom (x:Int):x.fdiv (2 ^ min (Int.ofNat 48).toNat IntKind.u64.bits)=x / 281474976710656:=by
 have:(2 ^ min (Int.ofNat 48).toNat IntKind.u64.bits:Int)=281474976710656:=by decide
 rw [this,Int.fdiv_eq_ediv_of_nonneg _ (by decide)]
theorem sh56 (x:Int):x.fdiv (2 ^ min (Int.ofNat 56).toNat IntKind.u64.bits)=x / 72057594037927936:=by
 have:(2 ^ min (Int.ofNat 56).toNat IntKind.u64.bits:Int)=72057594037927936:=by decide
 rw [this,Int.fdiv_eq_ediv_of_nonneg _ (by decide)]
theorem sh64 (x:Int):x.fdiv (2 ^ min (Int.ofNat 64).toNat IntKind.u64.bits)=x / 18446744073709551616:=by
 have:(2 ^ min (Int.ofNat 64).toNat IntKind.u64.bits:Int)=18446744073709551616:=by decide
 rw [this,Int.fdiv_eq_ediv_of_nonneg _ (by decide)]
theorem nums (n:Int)(h0:0≤n)(h1:n≤18446744073709551615):Goal P 0 74 (fun x _=>x=.str (row n)) (zb P 74 [.int .u64 n] GW):=by
 have z0:IntKind.u64.wrap (n - Int.ofNat 0)=n:=by
  rw [show n - Int.ofNat 0=n by simp]; exact IntWalk.u64_in _ ⟨h0,h1⟩
 have goal:∀ {e:Prop},e=e→e→e:=fun _ h=>h
 by_cases c1:n≤240
 · refine (oh (nby n (fun x=>x=.str (row n)) _).symm ⟨decide_eq_true c1,?_⟩)
   simp only [z0,sh0,y7,row,if_pos c1,List.reverse_cons,List.reverse_nil,List.nil_append]
   congr 2
   refine zb5 ?_
   rw [IntKind.wrap_u8]
   first | (rw [z0]; show (0+_) % 256=_; omega) | (show (0+_) % 256=_; omega)
 by_cases c2:n≤2287
 · have z1:IntKind.u64.wrap (n - Int.ofNat 240)=n - 240:=IntWalk.u64_in _ (by show 0≤n - 240∧n - 240≤_; omega)
   refine (oh (nbny n (fun x=>x=.str (row n)) _).symm ⟨decide_eq_false c1,decide_eq_true c2,?_⟩)
   simp only [z1,sh0,sh8,y7,row,if_neg c1,if_pos c2,List.reverse_cons,List.reverse_nil,List.nil_append,List.cons_append]
   congr 2
   exact zb5 (by rw [IntKind.wrap_u8]; show (241+_) % 256=_; omega)
 by_cases c3:n≤67823
 · have z1:IntKind.u64.wrap (n - Int.ofNat 2288)=n - 2288:=IntWalk.u64_in _ (by show 0≤n - 2288∧n - 2288≤_; omega)
   refine (oh (nbnny n (fun x=>x=.str (row n)) _).symm ⟨decide_eq_false c1,decide_eq_false c2,decide_eq_true c3,?_⟩)
   simp only [z1,sh0,sh8,zmM,y7,row,if_neg c1,if_neg c2,if_pos c3,List.reverse_cons,List.reverse_nil,List.nil_append,List.cons_append]
   congr 2
   exact zfw (k:=249) (by rw [IntKind.wrap_u8]; show (249+_) % 256=_; omega)
 by_cases c4:n≤16777215
 · refine (oh (zpC n (fun x=>x=.str (row n)) _).symm ⟨decide_eq_false c1,decide_eq_false c2,decide_eq_false c3,decide_eq_true c4,?_⟩)
   simp only [z0,sh0,sh8,zmM,zhw,y7,row,if_neg c1,if_neg c2,if_neg c3,if_pos c4,List.reverse_cons,List.reverse_nil,List.nil_append,List.cons_append]
   congr 2
   exact zfw (k:=250) (by rw [IntKind.wrap_u8]; show (250+_) % 256=_; omega)
 by_cases c5:n≤4294967295
 · refine (oh (znl n (fun x=>x=.str (row n)) _).symm ⟨decide_eq_false c1,decide_eq_false c2,decide_eq_false c3,decide_eq_false c4,decide_eq_true c5,?_⟩)
   simp only [z0,sh0,sh8,zmM,zhw,zky,y7,row,if_neg c1,if_neg c2,if_neg c3,if_neg c4,if_pos c5,List.reverse_cons,List.reverse_nil,List.nil_append,List.cons_append]
   congr 2
   exact zfw (k:=251) (by rw [IntKind.wrap_u8]; show (251+_) % 256=_; omega)
 by_cases c6:n≤1099511627775
 · refine (oh (zlw n (fun x=>x=.str (row n)) _).symm ⟨decide_eq_false c1,decide_eq_false c2,decide_eq_false c3,decide_eq_false c4,decide_eq_false c5,decide_eq_true c6,?_⟩)
   simp only [z0,sh0,sh8,zmM,zhw,zky,zl5,y7,row,if_neg c1,if_neg c2,if_neg c3,if_neg c4,if_neg c5,if_pos c6,List.reverse_cons,List.reverse_nil,List.nil_append,List.cons_append]
   congr 2
   exact zfw (k:=252) (by rw [IntKind.wrap_u8]; show (252+_) % 256=_; omega)
 by_cases c7:n≤281474976710655
 · refine (oh (zkf n (fun x=>x=.str (row n)) _).symm ⟨decide_eq_false c1,decide_eq_false c2,decide_eq_false c3,decide_eq_false c4,decide_eq_false c5,decide_eq_false c6,decide_eq_true c7,?_⟩)
   simp only [z0,sh0,sh8,zmM,zhw,zky,zl5,zom,y7,row,if_neg c1,if_neg c2,if_neg c3,if_neg c4,if_neg c5,if_neg c6,if_pos c7,List.reverse_cons,List.reverse_nil,List.nil_append,List.cons_append]
   congr 2
   exact zfw (k:=253) (by rw [IntKind.wrap_u8]; show (253+_) % 256=_; omega)
 by_cases c8:n≤72057594037927935
 · refine (oh (zg9 n (fun x=>x=.str (row n)) _).symm ⟨decide_eq_false c1,decide_eq_false c2,decide_eq_false c3,decide_eq_false c4,decide_eq_false c5,decide_eq_false c6,decide_eq_false c7,decide_eq_true c8,?_⟩)
   simp only [z0,sh0,sh8,zmM,zhw,zky,zl5,zom,sh56,y7,row,if_neg c1,if_neg c2,if_neg c3,if_neg c4,if_neg c5,if_neg c6,if_neg c7,if_pos c8,List.reverse_cons,List.reverse_nil,List.nil_append,List.cons_append]
   congr 2
   exact zfw (k:=254) (by rw [IntKind.wrap_u8]; show (254+_) % 256=_; omega)
 · refine (oh (zfF n (fun x=>x=.str (row n)) _).symm ⟨decide_eq_false c1,decide_eq_false c2,decide_eq_false c3,decide_eq_false c4,decide_eq_false c5,decide_eq_false c6,decide_eq_false c7,decide_eq_false c8,decide_eq_true h1,?_⟩)
   simp only [z0,sh0,sh8,zmM,zhw,zky,zl5,zom,sh56,sh64,y7,row,if_neg c1,if_neg c2,if_neg c3,if_neg c4,if_neg c5,if_neg c6,if_neg c7,if_neg c8,List.reverse_cons,List.reverse_nil,List.nil_append,List.cons_append]
   congr 2
   exact zfw (k:=255) (by rw [IntKind.wrap_u8]; show (255+_) % 256=_; omega)
end Go.Proofs.YtdbfpjgnlfejmaaDoor.mq
end
section
set_option maxRecDepth 100000
namespace Go.Proofs.YtdbfpjgnlfejmaaDoor.mq
open Go Ev
theorem pn (s:List UInt8)(n:Int)(R:AV→Prop)(_K:AM→Prop):Obl P 48 (fun v _=>R v) 0 _K [.run 9,(.callv [0] (.str (row n))),.op,.run 3,.done] ((zb P 48 [.str s,.int .u64 n] GW))=((Goal P 0 74 (fun x _=>x=AV.str (row n)) (zb P 74 [.int .u64 n] GW))∧(s.length+(row n).length<1099511627776)∧(R (.str (s++row n)))):=by kernel_rfl
theorem pt (s t:List UInt8)(R:AV→Prop)(_K:AM→Prop):Obl P 49 (fun v _=>R v) 0 _K [.run 11,(.callv [0] (.str (row (IntKind.u64.wrap t.length)))),.op,.run 1,.op,.run 3,.done] ((zb P 49 [.str s,.str t] GW))=((Goal P 0 74 (fun x _=>x=AV.str (row (IntKind.u64.wrap ↑t.length))) (zb P 74 [.int .u64 (IntKind.u64.wrap ↑t.length)] GW))∧(s.length+(row (IntKind.u64.wrap ↑t.length)).length<1099511627776)∧((s++row (IntKind.u64.wrap ↑t.length)).length+t.length<1099511627776)∧(R (.str (s++row (IntKind.u64.wrap ↑t.length)++t)))):=by kernel_rfl
theorem rt (s t:List UInt8)(R:AV→Prop)(_K:AM→Prop):Obl P 52 (fun v _=>R v) 0 _K [.run 11,(.callv [0,1] (.str (s++row (IntKind.u64.wrap t.length)))),.run 1,.op,.run 3,.done] ((zb P 52 [.str s,.str t] GW))=((Goal P 0 51 (fun x _=>x=AV.str (s++row (IntKind.u64.wrap ↑t.length))) (zb P 51 [.str s,.int .u64 (IntKind.u64.wrap ↑t.length)] GW))∧((s++row (IntKind.u64.wrap ↑t.length)).length+t.length<1099511627776)∧(R (.str (s++row (IntKind.u64.wrap ↑t.length)++t)))):=by kernel_rfl
theorem rb (x:Int)(h:0≤x):UInt8.ofNat (IntKind.u8.wrap (x.tmod 256)).toNat=B x:=by
 rw [y7,Int.tmod_eq_emod_of_nonneg h]
 exact zb5 (by omega)
theorem zoF (s:List UInt8)(n:Int)(h0:0≤n)(h1:n≤18446744073709551615)(hs:s.length+9<1099511627776):Goal P 0 48 (fun x _=>x=.str (s++row n)) (zb P 48 [.str s,.int .u64 n] GW):=by
 have:=zu n
 exact (oh (pn s n (fun x=>x=.str (s++row n)) _).symm ⟨nums n h0 h1,by omega,rfl⟩)
theorem zj0 (t:List UInt8)(ht:t.length<1099511627776):IntKind.u64.wrap t.length=t.length:=IntWalk.u64_in _ (by omega)
theorem putt (s t:List UInt8)(hs:s.length+t.length+9<1099511627776):Goal P 0 49 (fun x _=>x=.str (s++row (IntKind.u64.wrap t.length)++t)) (zb P 49 [.str s,.str t] GW):=by
 have:=zu (IntKind.u64.wrap t.length)
 have hw:=zj0 t (by omega)
 refine (oh (pt s t (fun x=>x=.str (s++row (IntKind.u64.wrap t.length)++t)) _).symm ⟨nums _ (by rw [hw]; omega) (by rw [hw]; omega),by omega,?_,rfl⟩)
 rw [List.length_append]; omega
theorem zeP (s:List UInt8)(n:Int)(h0:0≤n)(h1:n≤18446744073709551615)(hs:s.length+9<1099511627776):Goal P 0 51 (fun x _=>x=.str (s++row n)) (zb P 51 [.str s,.int .u64 n] GW):=by
 have t1:IntKind.u64.wrap (n.tdiv 256)=n / 256:=IntWalk.u64_quo n 256 ⟨h0,h1,by decide⟩
 have t2:IntKind.u64.wrap ((n / 256).tdiv 256)=n / 65536:=by rw [IntWalk.u64_quo _ _ ⟨by omega,by omega,by decide⟩]; omega
 have t3:IntKind.u64.wrap ((n / 65536).tdiv 256)=n / 16777216:=by rw [IntWalk.u64_quo _ _ ⟨by omega,by omega,by decide⟩]; omega
 have t4:IntKind.u64.wrap ((n / 16777216).tdiv 256)=n / 4294967296:=by rw [IntWalk.u64_quo _ _ ⟨by omega,by omega,by decide⟩]; omega
 have t5:IntKind.u64.wrap ((n / 4294967296).tdiv 256)=n / 1099511627776:=by rw [IntWalk.u64_quo _ _ ⟨by omega,by omega,by decide⟩]; omega
 have t6:IntKind.u64.wrap ((n / 1099511627776).tdiv 256)=n / 281474976710656:=by rw [IntWalk.u64_quo _ _ ⟨by omega,by omega,by decide⟩]; omega
 have t7:IntKind.u64.wrap ((n / 281474976710656).tdiv 256)=n / 72057594037927936:=by rw [IntWalk.u64_quo _ _ ⟨by omega,by omega,by decide⟩]; omega
 have b0:=rb n h0
 have b1:=rb (n / 256) (by omega)
 have b2:=rb (n / 65536) (by omega)
 have b3:=rb (n / 16777216) (by omega)
 have b4:=rb (n / 4294967296) (by omega)
 have b5:=rb (n / 1099511627776) (by omega)
 have b6:=rb (n / 281474976710656) (by omega)
 have b7:=rb (n / 72057594037927936) (by omega)
 by_cases c1:n≤240
 · refine (oh (rpy s n (fun x=>x=.str (s++row n)) _).symm ⟨decide_eq_true c1,by simp; omega,?_⟩)
   simp only [b0,row,if_pos c1,List.reverse_cons,List.reverse_nil,List.nil_append,List.append_nil]
 by_cases c2:n≤2287
 · have z1:IntKind.u64.wrap (n - 240)=n - 240:=IntWalk.u64_in _ (by omega)
   have z2:IntKind.u64.wrap ((n - 240).tdiv 256)=(n - 240) / 256:=IntWalk.u64_quo _ _ ⟨by omega,by omega,by decide⟩
   have z3:IntKind.u64.wrap (241+(n - 240) / 256)=241+(n - 240) / 256:=IntWalk.u64_in _ (by omega)
   have z4:=rb (241+(n - 240) / 256) (by omega)
   have z5:(n - 240).tmod 256=(n - 240) % 256:=Int.tmod_eq_emod_of_nonneg (by omega)
   have z6:=rb ((n - 240) % 256) (by omega)
   have z7:B ((n - 240) % 256)=B (n - 240):=zb5 (by omega)
   refine (oh (rpny s n (fun x=>x=.str (s++row n)) _).symm ⟨decide_eq_false c1,decide_eq_true c2,by simp; omega,by simp; omega,?_⟩)
   simp only [z1,z2,z3,z4,z5,z6,z7,row,if_neg c1,if_pos c2,List.reverse_cons,List.reverse_nil,List.nil_append,List.append_nil,List.append_assoc,List.cons_append]
 by_cases c3:n≤67823
 · have z1:IntKind.u64.wrap (n - 2288)=n - 2288:=IntWalk.u64_in _ (by omega)
   have z2:IntKind.u64.wrap ((n - 2288).tdiv 256)=(n - 2288) / 256:=IntWalk.u64_quo _ _ ⟨by omega,by omega,by decide⟩
   have z4:=rb ((n - 2288) / 256) (by omega)
   have z6:=rb (n - 2288) (by omega)
   refine (oh (rpnny s n (fun x=>x=.str (s++row n)) _).symm ⟨decide_eq_false c1,decide_eq_false c2,decide_eq_true c3,by omega,by simp; omega,?_⟩)
   simp only [z1,z2,z4,z6,row,if_neg c1,if_neg c2,if_pos c3,List.reverse_cons,List.reverse_nil,List.nil_append,List.append_nil,List.append_assoc,List.cons_append]
   rfl
 by_cases c4:n≤16777215
 · refine (oh (zox s n (fun x=>x=.str (s++row n)) _).symm ⟨decide_eq_false c1,decide_eq_false c2,decide_eq_false c3,decide_eq_false (by rw [zhw]; omega),by omega,by simp; omega,?_⟩)
   simp only [t1,t2,b0,b1,b2,row,if_neg c1,if_neg c2,if_neg c3,if_pos c4,List.reverse_cons,List.reverse_nil,List.nil_append,List.append_nil,List.append_assoc,List.cons_append]
   rfl
 by_cases c5:n≤4294967295
 · refine (oh (zn4 s n (fun x=>x=.str (s++row n)) _).symm ⟨decide_eq_false c1,decide_eq_false c2,decide_eq_false c3,decide_eq_true (by rw [zhw]; omega),decide_eq_false (by rw [zky]; omega),by omega,by simp; omega,?_⟩)
   simp only [t1,t2,t3,b0,b1,b2,b3,row,if_neg c1,if_neg c2,if_neg c3,if_neg c4,if_pos c5,List.reverse_cons,List.reverse_nil,List.nil_append,List.append_nil,List.append_assoc,List.cons_append]
   rfl
 by_cases c6:n≤1099511627775
 · refine (oh (zlG s n (fun x=>x=.str (s++row n)) _).symm ⟨decide_eq_false c1,decide_eq_false c2,decide_eq_false c3,decide_eq_true (by rw [zhw]; omega),decide_eq_true (by rw [zky]; omega),decide_eq_false (by rw [zl5]; omega),by omega,by simp; omega,?_⟩)
   simp only [t1,t2,t3,t4,b0,b1,b2,b3,b4,row,if_neg c1,if_neg c2,if_neg c3,if_neg c4,if_neg c5,if_pos c6,List.reverse_cons,List.reverse_nil,List.nil_append,List.append_nil,List.append_assoc,List.cons_append]
   rfl
 by_cases c7:n≤281474976710655
 · refine (oh (zjL s n (fun x=>x=.str (s++row n)) _).symm ⟨decide_eq_false c1,decide_eq_false c2,decide_eq_false c3,decide_eq_true (by rw [zhw]; omega),decide_eq_true (by rw [zky]; omega),decide_eq_true (by rw [zl5]; omega),decide_eq_false (by rw [zom]; omega),by omega,by simp; omega,?_⟩)
   simp only [t1,t2,t3,t4,t5,b0,b1,b2,b3,b4,b5,row,if_neg c1,if_neg c2,if_neg c3,if_neg c4,if_neg c5,if_neg c6,if_pos c7,List.reverse_cons,List.reverse_nil,List.nil_append,List.append_nil,List.append_assoc,List.cons_append]
   rfl
 by_cases c8:n≤72057594037927935
 · refine (oh (zgF s n (fun x=>x=.str (s++row n)) _).symm ⟨decide_eq_false c1,decide_eq_false c2,decide_eq_false c3,decide_eq_true (by rw [zhw]; omega),decide_eq_true (by rw [zky]; omega),decide_eq_true (by rw [zl5]; omega),decide_eq_true (by rw [zom]; omega),decide_eq_false (by rw [sh56]; omega),by omega,by simp; omega,?_⟩)
   simp only [t1,t2,t3,t4,t5,t6,b0,b1,b2,b3,b4,b5,b6,row,if_neg c1,if_neg c2,if_neg c3,if_neg c4,if_neg c5,if_neg c6,if_neg c7,if_pos c8,List.reverse_cons,List.reverse_nil,List.nil_append,List.append_nil,List.append_assoc,List.cons_append]
   rfl
 · refine (oh (zhv s n (fun x=>x=.str (s++row n)) _).symm ⟨decide_eq_false c1,decide_eq_false c2,decide_eq_false c3,decide_eq_true (by rw [zhw]; omega),decide_eq_true (by rw [zky]; omega),decide_eq_true (by rw [zl5]; omega),decide_eq_true (by rw [zom]; omega),decide_eq_true (by rw [sh56]; omega),by omega,by simp; omega,?_⟩)
   simp only [t1,t2,t3,t4,t5,t6,t7,b0,b1,b2,b3,b4,b5,b6,b7,row,if_neg c1,if_neg c2,if_neg c3,if_neg c4,if_neg c5,if_neg c6,if_neg c7,if_neg c8,List.reverse_cons,List.reverse_nil,List.nil_append,List.append_nil,List.append_assoc,List.cons_append]
   rfl
theorem rputt (s t:List UInt8)(hs:s.length+t.length+9<1099511627776):Goal P 0 52 (fun x _=>x=.str (s++row (IntKind.u64.wrap t.length)++t)) (zb P 52 [.str s,.str t] GW):=by
 have:=zu (IntKind.u64.wrap t.length)
 have hw:=zj0 t (by omega)
 refine (oh (rt s t (fun x=>x=.str (s++row (IntKind.u64.wrap t.length)++t)) _).symm ⟨zeP s _ (by rw [hw]; omega) (by rw [hw]; omega) (by omega),?_,rfl⟩)
 rw [List.length_append]; omega
end Go.Proofs.YtdbfpjgnlfejmaaDoor.mq
end
section
set_option maxRecDepth 100000
set_option linter.unusedVariables false
namespace Go.Proofs.YtdbfpjgnlfejmaaDoor.dg
open Go Ev
abbrev Dg:=List UInt8 × Int × Int
def ci (a b:Int):Int:=if a<b then -1 else if a > b then 1 else 0
def cf (x y:Dg):Int:=if Lib.compareBytes x.1 y.1≠0 then Lib.compareBytes x.1 y.1 else if ci x.2.1 y.2.1≠0 then ci x.2.1 y.2.1 else ci x.2.2 y.2.2
def Lt (x y:Dg):Prop:=x.1<y.1∨x.1=y.1∧(x.2.1<y.2.1∨x.2.1=y.2.1∧x.2.2<y.2.2)
theorem zaJ (a:List UInt8):¬ a<a:=List.lt_irrefl a
theorem zkS {a b c:List UInt8}(h:a<b)(k:b<c):a<c:=List.lt_trans h k
theorem zfR:∀ a b:List UInt8,(Lib.compareBytes a b=-1∧a<b)∨(Lib.compareBytes a b=0∧a=b)∨(Lib.compareBytes a b=1∧b<a)
 | [],[]=>.inr (.inl ⟨rfl,rfl⟩)
 | [],_::_=>.inl ⟨rfl,List.nil_lt_cons _ _⟩
 | _::_,[]=>.inr (.inr ⟨rfl,List.nil_lt_cons _ _⟩)
 | x::a,y::b=>by
  have ih:=zfR a b
  unfold Lib.compareBytes
  by_cases h:x<y
  · rw [if_pos h]
    exact .inl ⟨rfl,List.cons_lt_cons_iff.2 (.inl h)⟩
  · rw [if_neg h]
    by_cases k:y<x
    · rw [if_pos k]
      exact .inr (.inr ⟨rfl,List.cons_lt_cons_iff.2 (.inl k)⟩)
    · rw [if_neg k]
      have e:x=y:=UInt8.toNat_inj.1 (by
       rw [UInt8.lt_iff_toNat_lt] at h k
       omega)
      subst e
      rcases ih with ⟨h1,h2⟩ | ⟨h1,h2⟩ | ⟨h1,h2⟩
      · exact .inl ⟨h1,List.cons_lt_cons_iff.2 (.inr ⟨rfl,h2⟩)⟩
      · exact .inr (.inl ⟨h1,by rw [h2]⟩)
      · exact .inr (.inr ⟨h1,List.cons_lt_cons_iff.2 (.inr ⟨rfl,h2⟩)⟩)
theorem zfI (a b:Int):(ci a b=-1∧a<b)∨(ci a b=0∧a=b)∨(ci a b=1∧b<a):=by
 unfold ci
 by_cases h:a<b
 · rw [if_pos h]; exact .inl ⟨rfl,h⟩
 · rw [if_neg h]
   by_cases k:a > b
   · rw [if_pos k]; exact .inr (.inr ⟨rfl,k⟩)
   · rw [if_neg k]; exact .inr (.inl ⟨rfl,by omega⟩)
theorem zge (x y:Dg):(cf x y=-1∧Lt x y)∨(cf x y=0∧x=y)∨(cf x y=1∧Lt y x):=by
 obtain ⟨p,a,c⟩:=x
 obtain ⟨q,b,d⟩:=y
 unfold cf Lt
 rcases zfR p q with ⟨h1,h2⟩ | ⟨h1,rfl⟩ | ⟨h1,h2⟩
 · simp only [h1]
   exact .inl ⟨rfl,.inl h2⟩
 · simp only [h1]
   rcases zfI a b with ⟨k1,k2⟩ | ⟨k1,rfl⟩ | ⟨k1,k2⟩
   · simp only [k1]
     exact .inl ⟨rfl,.inr ⟨trivial,.inl k2⟩⟩
   · simp only [k1]
     rcases zfI c d with ⟨l1,l2⟩ | ⟨l1,rfl⟩ | ⟨l1,l2⟩
     · simp only [l1]
       exact .inl ⟨rfl,.inr ⟨trivial,.inr ⟨trivial,l2⟩⟩⟩
     · simp [l1]
     · simp only [l1]
       exact .inr (.inr ⟨rfl,.inr ⟨trivial,.inr ⟨trivial,l2⟩⟩⟩)
   · simp only [k1]
     exact .inr (.inr ⟨rfl,.inr ⟨trivial,.inl k2⟩⟩)
 · simp only [h1]
   exact .inr (.inr ⟨rfl,.inl h2⟩)
theorem Lt.irrefl (x:Dg):¬ Lt x x:=by
 unfold Lt
 rintro (h | ⟨_,h | ⟨_,h⟩⟩)
 · exact zaJ _ h
 · omega
 · omega
theorem Lt.trans {x y z:Dg}(h:Lt x y)(k:Lt y z):Lt x z:=by
 unfold Lt at *
 rcases h with h | ⟨h0,h⟩ <;> rcases k with k | ⟨k0,k⟩
 · exact .inl (zkS h k)
 · exact .inl (k0▸h)
 · exact .inl (h0▸k)
 · refine .inr ⟨h0.trans k0,?_⟩
   omega
theorem Lt.asymm {x y:Dg}(h:Lt x y):¬ Lt y x:=fun k=>Lt.irrefl x (h.trans k)
theorem zgC (x y:Dg):ltOf cf x y=true ↔ Lt x y:=by
 unfold ltOf
 rw [decide_eq_true_iff]
 rcases zge x y with ⟨h1,h2⟩ | ⟨h1,rfl⟩ | ⟨h1,h2⟩
 · exact ⟨fun _=>h2,fun _=>by omega⟩
 · exact ⟨fun h=>by omega,fun h=>absurd h (Lt.irrefl _)⟩
 · exact ⟨fun h=>by omega,fun h=>absurd h h2.asymm⟩
theorem zen (x y:Dg):ltOf cf x y=false ↔ ¬ Lt x y:=by rw [← zgC,Bool.not_eq_true]
theorem Lt.tri (x y:Dg):Lt x y∨x=y∨Lt y x:=by
 rcases zge x y with ⟨_,h⟩ | ⟨_,h⟩ | ⟨_,h⟩
 · exact .inl h
 · exact .inr (.inl h)
 · exact .inr (.inr h)
theorem swo:Go.Sort.SWO (ltOf cf) where
 irrefl x:=(zen x x).2 (Lt.irrefl x)
 trans x y z h k:=(zgC x z).2 (((zgC x y).1 h).trans ((zgC y z).1 k))
 ntrans x y z h k:=(zen x z).2 (by
  have h:=(zen x y).1 h
  have k:=(zen y z).1 k
  intro l
  rcases Lt.tri y x with a | a | a
  · exact k (a.trans l)
  · subst a; exact k l
  · exact h a)
def Up (l:List Dg):Prop:=l.Pairwise fun x y=>¬ Lt y x
def Ups (l:List Dg):Prop:=l.Pairwise Lt
def dl:Dg→List Dg→List Dg
 | _,[]=>[]
 | p,x::r=>if x=p then dl x r else x::dl x r
def ded:List Dg→List Dg
 | []=>[]
 | x::r=>x::dl x r
theorem zmG:∀ (l:List Dg) (p x:Dg),(x=p∨x∈dl p l) ↔ (x=p∨x∈l)
 | [],p,x=>by simp [dl]
 | y::r,p,x=>by
  have ih:=zmG r y x
  unfold dl
  by_cases h:y=p
  · rw [if_pos h]
    subst h
    rw [ih,List.mem_cons]
    constructor
    · rintro (h | h)
      · exact .inl h
      · exact .inr (.inr h)
    · rintro (h | h | h)
      · exact .inl h
      · exact .inl h
      · exact .inr h
  · rw [if_neg h,List.mem_cons,List.mem_cons,ih]
theorem znt (l:List Dg)(x:Dg):x∈ded l ↔ x∈l:=by
 cases l with
 | nil=>exact Iff.rfl
 | cons y r =>
  unfold ded
  rw [List.mem_cons,List.mem_cons]
  exact zmG r y x
theorem zmB:∀ (l:List Dg) (p:Dg),Up (p::l)→Ups (p::dl p l)
 | [],p,_=>List.pairwise_singleton _ _
 | y::r,p,h=>by
  have h1:=List.pairwise_cons.1 h
  have ih:=zmB r y h1.2
  unfold dl
  by_cases e:y=p
  · rw [if_pos e]
    subst e
    exact ih
  · rw [if_neg e]
    refine List.pairwise_cons.2 ⟨fun z hz=>?_,ih⟩
    have hpy:Lt p y:=by
     rcases Lt.tri p y with a | a | a
     · exact a
     · exact absurd a.symm e
     · exact absurd a (h1.1 y (.head _))
    rcases List.mem_cons.1 hz with rfl | hz
    · exact hpy
    · exact hpy.trans ((List.pairwise_cons.1 ih).1 z hz)
theorem znq {l:List Dg}(h:Up l):Ups (ded l):=by
 cases l with
 | nil=>exact .nil
 | cons y r=>exact zmB r y h
theorem zjZ:∀ {l m:List Dg},Ups l→Ups m→(∀ x,x∈l ↔ x∈m)→l=m
 | [],[],_,_,_=>rfl
 | [],y::m,_,_,h=>absurd ((h y).2 (.head _)) (by simp)
 | x::l,[],_,_,h=>absurd ((h x).1 (.head _)) (by simp)
 | x::l,y::m,hl,hm,h=>by
  have h1:=List.pairwise_cons.1 hl
  have h2:=List.pairwise_cons.1 hm
  have e:x=y:=by
   rcases List.mem_cons.1 ((h x).1 (.head _)) with e | e
   · exact e
   · rcases List.mem_cons.1 ((h y).2 (.head _)) with e' | e'
     · exact e'.symm
     · exact absurd (h2.1 x e) (h1.1 y e').asymm
  subst e
  rw [zjZ h1.2 h2.2 fun z=>⟨fun hz=>?_,fun hz=>?_⟩]
  · rcases List.mem_cons.1 ((h z).1 (.tail _ hz)) with e | e
    · subst e; exact absurd (h1.1 z hz) (Lt.irrefl z)
    · exact e
  · rcases List.mem_cons.1 ((h z).2 (.tail _ hz)) with e | e
    · subst e; exact absurd (h2.1 z hz) (Lt.irrefl z)
    · exact e
def vL (d:Dg):Bool:=decide (1≤d.2.2∧d.2.2≤13∧0≤d.2.1∧d.2.1≤2147483647∧d.1.length≤200)
def So (l m:List Dg):Prop:=Ups m∧∀ x,x∈m ↔ x∈l∧vL x=true
theorem So.uniq {l l' m m':List Dg}(h:So l m)(h':So l' m')(e:∀ x,x∈l ↔ x∈l'):m=m' :=
 zjZ h.1 h'.1 fun x=>by rw [h.2,h'.2,e]
theorem So.self {l m:List Dg}(h:So l m):So m m:=⟨h.1,fun x=>⟨fun hx=>⟨hx,((h.2 x).1 hx).2⟩,fun hx=>hx.1⟩⟩
def el (f:Nat→Dg) (k:Nat):AV:=bif Nat.beq (k % 3) 0 then .str (f (k / 3)).1 else bif Nat.beq (k % 3) 1 then .int .i64 (f (k / 3)).2.1 else .int .i64 (f (k / 3)).2.2
def sc (d:Dg):List AV:=[.str d.1,.int .i64 d.2.1,.int .i64 d.2.2]
def upd {α:Type} (f:Nat→α) (i:Nat) (x:α) (j:Nat):α:=if j=i then x else f j
def clr {α:Type} (f:Nat→α) (i n:Nat) (x:α) (j:Nat):α:=if i≤j∧j<n then x else f j
def zd:Dg:=([],0,0)
theorem zh (f:Nat→Dg):za fun c=>some (el f c):=by
 intro k v h
 cases h
 unfold el
 cases Nat.beq (k % 3) 0 <;> cases Nat.beq (k % 3) 1 <;> rfl
theorem el0 (f:Nat→Dg)(u:Nat):el f (0+u*3)=.str (f u).1:=by
 unfold el
 rw [show (0+u*3) % 3=0 by omega,show (0+u*3) / 3=u by omega]
 rfl
theorem el1 (f:Nat→Dg)(u:Nat):el f (0+u*3+1)=.int .i64 (f u).2.1:=by
 unfold el
 rw [show (0+u*3+1) % 3=1 by omega,show (0+u*3+1) / 3=u by omega]
 rfl
theorem el2 (f:Nat→Dg)(u:Nat):el f (0+u*3+2)=.int .i64 (f u).2.2:=by
 unfold el
 rw [show (0+u*3+2) % 3=2 by omega,show (0+u*3+2) / 3=u by omega]
 rfl
theorem xy (f:Nat→Dg)(u:Nat):AV.agg [el f (0+u*3),el f (0+u*3+1),el f (0+u*3+2)]=AV.agg [.str (f u).1,.int .i64 (f u).2.1,.int .i64 (f u).2.2]:=by
 rw [el0,el1,el2]
theorem zeR (f:Nat→Dg)(k:Nat):(sc (f (k / 3)))[k % 3]?=some (el f k):=by
 have h:k % 3=0∨k % 3=1∨k % 3=2:=by omega
 unfold el sc
 rcases h with h | h | h <;> rw [h] <;> rfl
theorem zoS (f:Nat→Dg)(i:Nat)(d:Dg)(z:Nat) :
 xZ z (.fn fun k=>some (el (upd f i d) k)) (.fn fun k=>bif (0+i*3).ble k&&k.blt (0+i*3+(sc d).length) then (fun k=>(sc d)[k]?) (k - (0+i*3)) else (T.fn fun c=>some (el f c)).get k):=by
 intro k v hk h
 have h:some (el (upd f i d) k)=some v:=h
 rw [← h]
 show (bif (0+i*3).ble k&&k.blt (0+i*3+3) then (sc d)[k - (0+i*3)]? else some (el f k))=_
 by_cases hin:i*3≤k∧k<i*3+3
 · have e:((0+i*3).ble k&&k.blt (0+i*3+3))=true:=by
    rw [Bool.and_eq_true,Nat.ble_eq,Nat.blt_eq]; omega
   rw [e,cond_true,← zeR,show k / 3=i by omega,show k - (0+i*3)=k % 3 by omega]
   unfold upd
   rw [if_pos rfl]
 · have e:((0+i*3).ble k&&k.blt (0+i*3+3))=false:=by
    rw [← Bool.not_eq_true,Bool.and_eq_true,Nat.ble_eq,Nat.blt_eq]; omega
   rw [e,cond_false]
   have h1:¬ k / 3=i:=by omega
   unfold el upd
   rw [if_neg h1]
theorem zp1 (f:Nat→Dg)(i n:Nat)(z:Nat) :
 xZ z (.fn fun k=>some (el (clr f i n zd) k)) (.fn fun k=>bif (0+i*3).ble k&&k.blt (0+i*3+(n - i)*(sc zd).length) then (fun k=>(sc zd)[k % (sc zd).length]?) (k - (0+i*3)) else (T.fn fun c=>some (el f c)).get k):=by
 intro k v hk h
 have h:some (el (clr f i n zd) k)=some v:=h
 rw [← h]
 show (bif (0+i*3).ble k&&k.blt (0+i*3+(n - i)*3) then (sc zd)[(k - (0+i*3)) % 3]? else some (el f k))=_
 by_cases hin:i*3≤k∧k<i*3+(n - i)*3
 · have e:((0+i*3).ble k&&k.blt (0+i*3+(n - i)*3))=true:=by
    rw [Bool.and_eq_true,Nat.ble_eq,Nat.blt_eq]; omega
   rw [e,cond_true,← zeR,show (k - (0+i*3)) % 3=k % 3 by omega]
   unfold clr
   rw [if_pos (by omega)]
 · have e:((0+i*3).ble k&&k.blt (0+i*3+(n - i)*3))=false:=by
    rw [← Bool.not_eq_true,Bool.and_eq_true,Nat.ble_eq,Nat.blt_eq]; omega
   rw [e,cond_false]
   have h1:¬ (i≤k / 3∧k / 3<n):=by omega
   unfold el clr
   rw [if_neg h1]
theorem zdX (f:Nat→Dg)(m:Nat)(p:List UInt8)(a c:Int){s:Nat}(hs:s=3) :
 xZ (0+m*3+3) (.fn fun k=>some (el (upd f m (p,a,c)) k)) (.fn fun k=>bif (0+m*s).ble k&&k.blt (0+m*s+1*s) then (fun k=>((T.leaf.node (some (AV.int IntKind.i64 a)) T.leaf).node (some (AV.str p)) (T.leaf.node (some (AV.int IntKind.i64 c)) T.leaf)).get (0+k)) (k - (0+m*s)) else (T.fn fun c=>some (el f c)).get k):=by
 subst hs
 intro k v hk h
 have h:some (el (upd f m (p,a,c)) k)=some v:=h
 rw [← h]
 show (bif (0+m*3).ble k&&k.blt (0+m*3+1*3) then ((T.leaf.node (some (AV.int IntKind.i64 a)) T.leaf).node (some (AV.str p)) (T.leaf.node (some (AV.int IntKind.i64 c)) T.leaf)).get (0+(k - (0+m*3))) else some (el f k))=_
 by_cases hin:m*3≤k
 · have e:((0+m*3).ble k&&k.blt (0+m*3+1*3))=true:=by
    rw [Bool.and_eq_true,Nat.ble_eq,Nat.blt_eq]; omega
   rw [e,cond_true,← zeR,show k / 3=m by omega,show 0+(k - (0+m*3))=k % 3 by omega]
   unfold upd
   rw [if_pos rfl]
   have hr:k % 3=0∨k % 3=1∨k % 3=2:=by omega
   rcases hr with h | h | h <;> rw [h] <;> rfl
 · have e:((0+m*3).ble k&&k.blt (0+m*3+1*3))=false:=by
    rw [← Bool.not_eq_true,Bool.and_eq_true,Nat.ble_eq,Nat.blt_eq]; omega
   rw [e,cond_false]
   have h1:¬ k / 3=m:=by omega
   unfold el upd
   rw [if_neg h1]
theorem zbP (p:List UInt8)(a c:Int):xZ 3 (.fn fun k=>some (el (fun _=>(p,a,c)) k)) ((T.leaf.node (some (AV.int IntKind.i64 a)) T.leaf).node (some (AV.str p)) (T.leaf.node (some (AV.int IntKind.i64 c)) T.leaf)):=by
 intro k v hk h
 have h:some (el (fun _=>(p,a,c)) k)=some v:=h
 rw [← h]
 have hr:k=0∨k=1∨k=2:=by omega
 rcases hr with h | h | h <;> subst h <;> rfl
def sl {α:Type} (s:Nat→α):Nat→Nat→List α
 | _,0=>[]
 | j,r+1=>s j::sl s (j+1) r
theorem x6 {α:Type}(s:Nat→α):∀ r j,sl s j (r+1)=sl s j r++[s (j+r)]
 | 0,j=>rfl
 | r+1,j=>by
  show s j::sl s (j+1) (r+1)=(s j::sl s (j+1) r)++[s (j+(r+1))]
  rw [x6 s r (j+1),List.cons_append,show j+1+r=j+(r+1) by omega]
theorem xR {α:Type}{s s':Nat→α}:∀ r j,(∀ t,j≤t→t<j+r→s t=s' t)→sl s j r=sl s' j r
 | 0,_,_=>rfl
 | r+1,j,h=>by
  show s j::sl s (j+1) r=s' j::sl s' (j+1) r
  rw [h j (by omega) (by omega),xR r (j+1) fun t h1 h2=>h t (by omega) (by omega)]
theorem xO {α:Type}(s:Nat→α):∀ r j,(sl s j r).length=r
 | 0,_=>rfl
 | r+1,j=>by
  show (sl s (j+1) r).length+1=r+1
  rw [xO s r (j+1)]
theorem wB {α:Type}(s:Nat→α):∀ r j i,i<r→(sl s j r)[i]?=some (s (j+i))
 | 0,_,i,h=>by omega
 | r+1,j,0,_=>rfl
 | r+1,j,i+1,h=>by
  show (sl s (j+1) r)[i]?=_
  rw [wB s r (j+1) i (by omega),show j+1+i=j+(i+1) by omega]
theorem zjD {α:Type}{s:Nat→α}{x:α}:∀ r j,x∈sl s j r→∃ t,j≤t∧t<j+r∧s t=x
 | 0,_,h=>by cases h
 | r+1,j,h=>by
  rcases List.mem_cons.1 h with e | h
  · exact ⟨j,by omega,by omega,e.symm⟩
  · obtain ⟨t,h1,h2,h3⟩:=zjD r (j+1) h
    exact ⟨t,by omega,by omega,h3⟩
theorem vU {α:Type}(s:Nat→α):∀ r j t,j≤t→t<j+r→s t∈sl s j r
 | 0,j,t,h1,h2=>by omega
 | r+1,j,t,h1,h2=>by
  by_cases e:t=j
  · subst e; exact .head _
  · exact .tail _ (vU s r (j+1) t (by omega) (by omega))
end Go.Proofs.YtdbfpjgnlfejmaaDoor.dg
end
section
set_option maxRecDepth 100000
set_option linter.unusedVariables false
namespace Go.Proofs.YtdbfpjgnlfejmaaDoor.dg
open Go Ev mq
noncomputable abbrev P:Program:=Tryd.prog
theorem mix:P.follows .mixedOrders=true:=Checked.mixed Tryd.checked
noncomputable def DS:Nat:=P.types[35].size
theorem yM:DS=3:=by kernel_rfl
noncomputable def CoA (cell:Nat→AV) (k:Int) (m y:Nat) (G:T (T AV)):AM:=⟨⟨44,61,(.node (.node (.node .leaf (some (.int .i64 k)) .leaf) none .leaf) (some (.slg 0 0 0 m 0)) .leaf),
 [.code (cd P (44:Nat) [(1:Nat),(1:Nat),(0:Nat),(1:Nat),(0:Nat),(0:Nat)]),.inLoop (cd P (44:Nat) [(1:Nat),(1:Nat),(0:Nat),(1:Nat),(0:Nat),(0:Nat)]),.inBlock 0,.code (cd P (44:Nat) [(1:Nat),(1:Nat),(1:Nat)])],[],.run,CallKind.normal,none⟩,
 [],
 ⟨(.node .leaf (some (.cells (.fn fun c=>some (cell c)) y 35 0 0 1 0 false .leaf)) .leaf),1,G⟩⟩
noncomputable def CoB (cell:Nat→AV) (k k2:Int) (m y k0:Nat) (G:T (T AV)):AM:=⟨⟨44,61,(.node (.node (.node .leaf (some (.int .i64 k)) .leaf) none (.node .leaf (some (.int .i64 k2)) .leaf)) (some (.slg 0 0 0 m 0)) (.node (.node .leaf (some (.slg 0 0 (0+k0*3) (m - k0) (0+k0))) .leaf) none .leaf)),
 [.code (cd P (44:Nat) [(1:Nat),(1:Nat),(0:Nat),(1:Nat),(0:Nat),(0:Nat),(1:Nat),(0:Nat),(0:Nat),(1:Nat),(0:Nat),(1:Nat),(0:Nat),(1:Nat),(0:Nat),(0:Nat)]),.inLoop (cd P (44:Nat) [(1:Nat),(1:Nat),(0:Nat),(1:Nat),(0:Nat),(0:Nat),(1:Nat),(0:Nat),(0:Nat),(1:Nat),(0:Nat),(1:Nat),(0:Nat),(1:Nat),(0:Nat),(0:Nat)]),.inBlock 2,.code (cd P (44:Nat) [(1:Nat),(1:Nat),(0:Nat),(1:Nat),(0:Nat),(0:Nat),(1:Nat),(0:Nat),(0:Nat),(1:Nat),(0:Nat),(1:Nat),(1:Nat)]),.inBlock 1,.code (cd P (44:Nat) [(1:Nat),(1:Nat),(0:Nat),(1:Nat),(0:Nat),(0:Nat),(1:Nat),(1:Nat)]),.inLoop (cd P (44:Nat) [(1:Nat),(1:Nat),(0:Nat),(1:Nat),(0:Nat),(0:Nat)]),.inBlock 0,.code (cd P (44:Nat) [(1:Nat),(1:Nat),(1:Nat)])],[],.run,CallKind.normal,none⟩,
 [],
 ⟨(.node .leaf (some (.cells (.fn fun c=>some (cell c)) y 35 0 0 1 0 false .leaf)) .leaf),1,G⟩⟩
noncomputable def SCa (cell:Nat→AV) (i:Int) (n cp lo off z:Nat) (G:T (T AV)):AM:=⟨⟨12,23,(.node (.node (.node (.node .leaf (some (.int .i64 (↑n:Int))) .leaf) (some (.nils 0 0)) .leaf) none .leaf) none (.node (.node (.node .leaf (some (.int .i64 i)) .leaf) none .leaf) none (.node .leaf (some (.slg 0 0 0 n 0)) .leaf))),
 [.code (cd P (12:Nat) [(1:Nat),(1:Nat),(0:Nat),(1:Nat),(0:Nat),(0:Nat)]),.inLoop (cd P (12:Nat) [(1:Nat),(1:Nat),(0:Nat),(1:Nat),(0:Nat),(0:Nat)]),.inBlock 0,.code (cd P (12:Nat) [(1:Nat),(1:Nat),(1:Nat)])],[],.run,CallKind.normal,none⟩,
 [],
 ⟨(.node .leaf (some (.cells (.fn fun c=>some (cell c)) z 35 0 0 1 0 false .leaf)) .leaf),1,G⟩⟩
noncomputable def SCb (cell cell':Nat→AV) (i:Int) (n m cp lo off z y:Nat) (G:T (T AV)):AM:=⟨⟨12,23,(.node (.node (.node (.node .leaf (some (.int .i64 (↑n:Int))) .leaf) (some (.slg 1 0 0 m 0)) .leaf) none .leaf) none (.node (.node (.node .leaf (some (.int .i64 i)) .leaf) none .leaf) none (.node .leaf (some (.slg 0 0 0 n 0)) .leaf))),
 [.code (cd P (12:Nat) [(1:Nat),(1:Nat),(0:Nat),(1:Nat),(0:Nat),(0:Nat)]),.inLoop (cd P (12:Nat) [(1:Nat),(1:Nat),(0:Nat),(1:Nat),(0:Nat),(0:Nat)]),.inBlock 0,.code (cd P (12:Nat) [(1:Nat),(1:Nat),(1:Nat)])],[],.run,CallKind.normal,none⟩,
 [],
 ⟨(.node (.node .leaf (some (.cells (.fn fun c=>some (cell' c)) y 35 0 0 1 0 false .leaf)) .leaf) (some (.cells (.fn fun c=>some (cell c)) z 35 0 0 1 0 false .leaf)) .leaf),2,G⟩⟩
section
set_option linter.unusedSectionVars false
variable (R:AV→Prop) (p w:List UInt8) (a c:Int) (G:T (T AV)) (_K:AM→Prop)
include R p w a c G _K
theorem myyyy:Obl P 35 (fun v _=>R v) 0 _K [.run 10,(.callv [0] (.str w)),.run 2,.know 7 true,.run 5,.know 12 true,.run 5,.know 17 true,.run 8,.done] ((zb P 35 [.agg [.str p,.int .i64 a,.int .i64 c]] G))=((Goal P 0 16 (fun x _=>x=AV.str w) (zb P 16 [.int .i64 c] G))∧((!(w==([]:List UInt8)))=true)∧(decide ((0:Int)≤a)=true)∧(decide (a≤(2147483647:Int))=true)∧(R (.bool (decide ((↑p.length:Int)≤(200:Int)))))):=by kernel_rfl
theorem myyyn:Obl P 35 (fun v _=>R v) 0 _K [.run 10,(.callv [0] (.str w)),.run 2,.know 7 true,.run 5,.know 12 true,.run 5,.know 17 false,.run 8,.done] ((zb P 35 [.agg [.str p,.int .i64 a,.int .i64 c]] G))=((Goal P 0 16 (fun x _=>x=AV.str w) (zb P 16 [.int .i64 c] G))∧((!(w==([]:List UInt8)))=true)∧(decide ((0:Int)≤a)=true)∧(decide (a≤(2147483647:Int))=false)∧(R (.bool false))):=by kernel_rfl
theorem myyn:Obl P 35 (fun v _=>R v) 0 _K [.run 10,(.callv [0] (.str w)),.run 2,.know 7 true,.run 5,.know 12 false,.run 13,.done] ((zb P 35 [.agg [.str p,.int .i64 a,.int .i64 c]] G))=((Goal P 0 16 (fun x _=>x=AV.str w) (zb P 16 [.int .i64 c] G))∧((!(w==([]:List UInt8)))=true)∧(decide ((0:Int)≤a)=false)∧(R (.bool false))):=by kernel_rfl
theorem myn:Obl P 35 (fun v _=>R v) 0 _K [.run 10,(.callv [0] (.str w)),.run 2,.know 7 false,.run 18,.done] ((zb P 35 [.agg [.str p,.int .i64 a,.int .i64 c]] G))=((Goal P 0 16 (fun x _=>x=AV.str w) (zb P 16 [.int .i64 c] G))∧((!(w==([]:List UInt8)))=false)∧(R (.bool false))):=by kernel_rfl
end
theorem wdy (R:AV→Prop)(c:Int)(_K:AM→Prop):Obl P 16 (fun v _=>R v) 0 _K [.run 10,.know 5 true,.run 10,.done] ((zb P 16 [.int .i64 c] GW))=((decide (c<(0:Int))=true)∧(R (.str []))):=by kernel_rfl
theorem wdny (R:AV→Prop)(c:Int)(_K:AM→Prop):Obl P 16 (fun v _=>R v) 0 _K [.run 10,.know 5 false,.run 4,.know 8 true,.run 6,.done] ((zb P 16 [.int .i64 c] GW))=((decide (c<(0:Int))=false)∧(decide (c≥(14:Int))=true)∧(R (.str []))):=by kernel_rfl
section
set_option linter.unusedSectionVars false
variable (R:AV→Prop) (a c:Int) (_K:AM→Prop)
include R a c _K
theorem ciy:Obl P 42 (fun v _=>R v) 0 _K [.run 47,.know 11 false,.run 7,.know 13 false,.run 9,.know 16 true,.run 6,.done] ((zb P 42 [.int .i64 a,.int .i64 c] .leaf))=(((a != a)=false)∧((c != c)=false)∧(decide (a<c)=true)∧(R (.int .i64 (-1)))):=by kernel_rfl
theorem ciny:Obl P 42 (fun v _=>R v) 0 _K [.run 47,.know 11 false,.run 7,.know 13 false,.run 9,.know 16 false,.run 9,.know 19 true,.run 6,.done] ((zb P 42 [.int .i64 a,.int .i64 c] .leaf))=(((a != a)=false)∧((c != c)=false)∧(decide (a<c)=false)∧(decide (a > c)=true)∧(R (.int .i64 1))):=by kernel_rfl
theorem cinn:Obl P 42 (fun v _=>R v) 0 _K [.run 47,.know 11 false,.run 7,.know 13 false,.run 9,.know 16 false,.run 9,.know 19 false,.run 7,.done] ((zb P 42 [.int .i64 a,.int .i64 c] .leaf))=(((a != a)=false)∧((c != c)=false)∧(decide (a<c)=false)∧(decide (a > c)=false)∧(R (.int .i64 0))):=by kernel_rfl
end
section
set_option linter.unusedSectionVars false
variable (R:AV→Prop) (p q:List UInt8) (a b c d k2 k3:Int) (_K:AM→Prop)
include R p q a b c d k2 k3 _K
theorem cmy:Obl P 37 (fun v _=>R v) 0 _K [.run 93,.know 15 true,.run 11,.done] ((zb P 37 [.agg [.str p,.int .i64 a,.int .i64 c],.agg [.str q,.int .i64 b,.int .i64 d]] .leaf))=(((Lib.compareBytes p q != (0:Int))=true)∧(R (.int .i64 (Lib.compareBytes p q)))):=by kernel_rfl
theorem cmny:Obl P 37 (fun v _=>R v) 0 _K [.run 93,.know 15 false,.run 38,(.callv [0,1] (.int .i64 k2)),.run 11,.know 15 true,.run 11,.done] ((zb P 37 [.agg [.str p,.int .i64 a,.int .i64 c],.agg [.str q,.int .i64 b,.int .i64 d]] .leaf))=(((Lib.compareBytes p q != (0:Int))=false)∧(Goal P 0 42 (fun x _=>x=AV.int .i64 k2) (zb P 42 [.int .i64 a,.int .i64 b] .leaf))∧((k2 != (0:Int))=true)∧(R (.int .i64 k2))):=by kernel_rfl
theorem cmnn:Obl P 37 (fun v _=>R v) 0 _K [.run 93,.know 15 false,.run 38,(.callv [0,1] (.int .i64 k2)),.run 11,.know 15 false,.run 38,(.callv [0,1] (.int .i64 k3)),.run 11,.know 15 false,.run 24,.done] ((zb P 37 [.agg [.str p,.int .i64 a,.int .i64 c],.agg [.str q,.int .i64 b,.int .i64 d]] .leaf))=(((Lib.compareBytes p q != (0:Int))=false)∧(Goal P 0 42 (fun x _=>x=AV.int .i64 k2) (zb P 42 [.int .i64 a,.int .i64 b] .leaf))∧((k2 != (0:Int))=false)∧(Goal P 0 42 (fun x _=>x=AV.int .i64 k3) (zb P 42 [.int .i64 c,.int .i64 d] .leaf))∧((k3 != (0:Int))=false)∧(R (.int .i64 0))):=by kernel_rfl
end
theorem cay (R:AV→AHeap→Prop)(cell cell':Nat→AV)(p q:List UInt8)(a c e g k k2:Int)(m y k0:Nat)(b:Bool)(G:T (T AV))(_K:AM→Prop):Obl P 44 (fun v h=>R v h) 1 _K [.run 11,.know 8 true,.run 7,.done] ((ze P 44 [.slg 0 0 0 m 0] ⟨(.node .leaf (some (.cells (.fn fun c=>some (cell c)) y 35 0 0 1 0 false .leaf)) .leaf),1,G⟩))=((decide ((↑m:Int)<(2:Int))=true)∧(R (.slg 0 0 0 m 0) (⟨(.node .leaf (some (.cells (.fn fun c=>some (cell c)) y 35 0 0 1 0 false .leaf)) .leaf),1,G⟩))):=by kernel_rfl
theorem cbyn (R:AV→AHeap→Prop)(cell cell':Nat→AV)(p q:List UInt8)(a c e g k k2:Int)(m y k0:Nat)(b:Bool)(G:T (T AV))(K:AM→Prop):Obl P 44 (fun v h=>R v h) 1 K [.run 8,.know 13 true,.run 8,.op,.op,.slot 19 (.agg [.str p,.int .i64 a,.int .i64 c]),.run 3,.op,.op,.slot 24 (.agg [.str q,.int .i64 e,.int .i64 g]),.isv (.bool b),.run 1,.know 25 false,.run 9,.can 1 [0] [0,3] []] ((CoA cell k m y G))=((decide (k<(↑m:Int))=true)∧((0:Int)≤k∧k<(↑m:Int))∧(0+k.toNat*3+3≤y)∧(AV.agg [cell (0+k.toNat*3),cell (0+k.toNat*3+1),cell (0+k.toNat*3+2)]=AV.agg [AV.str p,AV.int .i64 a,AV.int .i64 c])∧((0:Int)≤IntKind.i64.wrap (k - (1:Int))∧IntKind.i64.wrap (k - (1:Int))<(↑m:Int))∧(0+(IntKind.i64.wrap (k - (1:Int))).toNat*3+3≤y)∧(AV.agg [cell (0+(IntKind.i64.wrap (k - (1:Int))).toNat*3),cell (0+(IntKind.i64.wrap (k - (1:Int))).toNat*3+1),cell (0+(IntKind.i64.wrap (k - (1:Int))).toNat*3+2)]=AV.agg [AV.str q,AV.int .i64 e,AV.int .i64 g])∧(∀ (h:AHeap),vd P h BinOp.eql 35 (zi (Operand.tmp 19) || zi (Operand.tmp 24)) (AV.agg [AV.str p,AV.int .i64 a,AV.int .i64 c]) (AV.agg [AV.str q,AV.int .i64 e,AV.int .i64 g])=some (AV.bool b))∧(b=false)∧(za fun c=>some (cell c))∧K (CoA cell (IntKind.i64.wrap (k+(1:Int))) m y G)):=by kernel_rfl
theorem cbn (R:AV→AHeap→Prop)(cell cell':Nat→AV)(p q:List UInt8)(a c e g k k2:Int)(m y k0:Nat)(b:Bool)(G:T (T AV))(_K:AM→Prop):Obl P 44 (fun v h=>R v h) 1 _K [.run 8,.know 13 false,.run 8,.done] ((CoA cell k m y G))=((decide (k<(↑m:Int))=false)∧(R (.slg 0 0 0 m 0) (⟨(.node .leaf (some (.cells (.fn fun c=>some (cell c)) y 35 0 0 1 0 false .leaf)) .leaf),1,G⟩))):=by kernel_rfl
theorem ccyy (R:AV→AHeap→Prop)(cell cell':Nat→AV)(p q:List UInt8)(a c e g k k2:Int)(m y k0:Nat)(b:Bool)(G:T (T AV))(K:AM→Prop):Obl P 44 (fun v h=>R v h) 1 K [.run 8,.know 32 true,.run 8,.op,.op,.slot 38 (.agg [.str p,.int .i64 a,.int .i64 c]),.run 3,.op,.op,.slot 43 (.agg [.str q,.int .i64 e,.int .i64 g]),.isv (.bool b),.run 1,.know 44 true,.run 7,.op,.op,.slot 50 (.agg [.str p,.int .i64 a,.int .i64 c]),.op,.opw false,.told 0 (.fn fun c=>some (cell' c)) y,.run 13,.can 1 [0] [0,3,4,5] []] ((CoB cell k k2 m y k0 G))=((decide (k2<(↑(m - k0):Int))=true)∧((0:Int)≤k2∧k2<(↑(m - k0):Int))∧(0+k0*3+k2.toNat*3+3≤y)∧(AV.agg [cell (0+k0*3+k2.toNat*3),cell (0+k0*3+k2.toNat*3+1),cell (0+k0*3+k2.toNat*3+2)]=AV.agg [AV.str p,AV.int .i64 a,AV.int .i64 c])∧((0:Int)≤IntKind.i64.wrap (k2 - (1:Int))∧IntKind.i64.wrap (k2 - (1:Int))<(↑(m - k0):Int))∧(0+k0*3+(IntKind.i64.wrap (k2 - (1:Int))).toNat*3+3≤y)∧(AV.agg [cell (0+k0*3+(IntKind.i64.wrap (k2 - (1:Int))).toNat*3),cell (0+k0*3+(IntKind.i64.wrap (k2 - (1:Int))).toNat*3+1),cell (0+k0*3+(IntKind.i64.wrap (k2 - (1:Int))).toNat*3+2)]=AV.agg [AV.str q,AV.int .i64 e,AV.int .i64 g])∧(∀ (h:AHeap),vd P h BinOp.neq 35 (zi (Operand.tmp 38) || zi (Operand.tmp 43)) (AV.agg [AV.str p,AV.int .i64 a,AV.int .i64 c]) (AV.agg [AV.str q,AV.int .i64 e,AV.int .i64 g])=some (AV.bool b))∧(b=true)∧((0:Int)≤k2∧k2<(↑(m - k0):Int))∧(0+k0*3+k2.toNat*3+3≤y)∧(AV.agg [cell (0+k0*3+k2.toNat*3),cell (0+k0*3+k2.toNat*3+1),cell (0+k0*3+k2.toNat*3+2)]=AV.agg [AV.str p,AV.int .i64 a,AV.int .i64 c])∧((0:Int)≤k∧k<(↑m:Int))∧(True∧0+k.toNat*3+(sc (p,a,c)).length≤y∧0≤0+k.toNat*3)∧(xZ (y) ((.fn fun c=>some (cell' c))) ((.fn fun j=>bif (0+k.toNat*3).ble j&&j.blt (0+k.toNat*3+(sc (p,a,c)).length) then (fun k=>(sc (p,a,c))[k]?) (j - (0+k.toNat*3)) else (T.fn fun c=>some (cell c)).get j)))∧(y=y)∧(za fun c=>some (cell' c))∧K (CoB cell' (IntKind.i64.wrap (k+(1:Int))) (IntKind.i64.wrap (k2+(1:Int))) m y k0 G)):=by kernel_rfl
theorem ccyn (R:AV→AHeap→Prop)(cell cell':Nat→AV)(p q:List UInt8)(a c e g k k2:Int)(m y k0:Nat)(b:Bool)(G:T (T AV))(K:AM→Prop):Obl P 44 (fun v h=>R v h) 1 K [.run 8,.know 32 true,.run 8,.op,.op,.slot 38 (.agg [.str p,.int .i64 a,.int .i64 c]),.run 3,.op,.op,.slot 43 (.agg [.str q,.int .i64 e,.int .i64 g]),.isv (.bool b),.run 1,.know 44 false,.run 9,.can 1 [0] [0,3,4,5] []] ((CoB cell k k2 m y k0 G))=((decide (k2<(↑(m - k0):Int))=true)∧((0:Int)≤k2∧k2<(↑(m - k0):Int))∧(0+k0*3+k2.toNat*3+3≤y)∧(AV.agg [cell (0+k0*3+k2.toNat*3),cell (0+k0*3+k2.toNat*3+1),cell (0+k0*3+k2.toNat*3+2)]=AV.agg [AV.str p,AV.int .i64 a,AV.int .i64 c])∧((0:Int)≤IntKind.i64.wrap (k2 - (1:Int))∧IntKind.i64.wrap (k2 - (1:Int))<(↑(m - k0):Int))∧(0+k0*3+(IntKind.i64.wrap (k2 - (1:Int))).toNat*3+3≤y)∧(AV.agg [cell (0+k0*3+(IntKind.i64.wrap (k2 - (1:Int))).toNat*3),cell (0+k0*3+(IntKind.i64.wrap (k2 - (1:Int))).toNat*3+1),cell (0+k0*3+(IntKind.i64.wrap (k2 - (1:Int))).toNat*3+2)]=AV.agg [AV.str q,AV.int .i64 e,AV.int .i64 g])∧(∀ (h:AHeap),vd P h BinOp.neq 35 (zi (Operand.tmp 38) || zi (Operand.tmp 43)) (AV.agg [AV.str p,AV.int .i64 a,AV.int .i64 c]) (AV.agg [AV.str q,AV.int .i64 e,AV.int .i64 g])=some (AV.bool b))∧(b=false)∧(za fun c=>some (cell c))∧K (CoB cell k (IntKind.i64.wrap (k2+(1:Int))) m y k0 G)):=by kernel_rfl
theorem cdn (R:AV→AHeap→Prop)(cell cell':Nat→AV)(p q:List UInt8)(a c e g k k2:Int)(m y k0:Nat)(b:Bool)(G:T (T AV))(_K:AM→Prop):Obl P 44 (fun v h=>R v h) 1 _K [.run 8,.know 32 false,.run 6,.op,.opw false,.told 0 (.fn fun c=>some (cell' c)) y,.run 5,.op,.run 3,.done] ((CoB cell k k2 m y k0 G))=((decide (k2<(↑(m - k0):Int))=false)∧((0:Int)≤k∧k≤(↑m:Int))∧(0<m - k.toNat∧0+k.toNat*3+(m - k.toNat)*3≤y∧0≤0+k.toNat*3)∧(xZ (y) ((.fn fun c=>some (cell' c))) ((.fn fun j=>bif (0+k.toNat*3).ble j&&j.blt (0+k.toNat*3+(m - k.toNat)*(sc zd).length) then (fun k=>(sc zd)[k % (sc zd).length]?) (j - (0+k.toNat*3)) else (T.fn fun c=>some (cell c)).get j)))∧(y=y)∧((0:Int)≤k∧k≤(↑m:Int))∧(R (.slg 0 0 0 (k.toNat - 0) 0) (⟨(.node .leaf (some (.cells (.fn fun c=>some (cell' c)) y 35 0 0 1 0 false .leaf)) .leaf),1,G⟩))):=by kernel_rfl
theorem can (R:AV→AHeap→Prop)(cell cell':Nat→AV)(p q:List UInt8)(a c e g k k2:Int)(m y k0:Nat)(b:Bool)(G:T (T AV))(K:AM→Prop):Obl P 44 (fun v h=>R v h) 1 K [.run 11,.know 8 false,.run 9,.can 1 [0] [0,3] []] ((ze P 44 [.slg 0 0 0 m 0] ⟨(.node .leaf (some (.cells (.fn fun c=>some (cell c)) y 35 0 0 1 0 false .leaf)) .leaf),1,G⟩))=((decide ((↑m:Int)<(2:Int))=false)∧(za fun c=>some (cell c))∧K (CoA cell (Int.ofNat 1) m y G)):=by kernel_rfl
theorem cbyy (R:AV→AHeap→Prop)(cell cell':Nat→AV)(p q:List UInt8)(a c e g k k2:Int)(m y k0:Nat)(b:Bool)(G:T (T AV))(K:AM→Prop):Obl P 44 (fun v h=>R v h) 1 K [.run 8,.know 13 true,.run 8,.op,.op,.slot 19 (.agg [.str p,.int .i64 a,.int .i64 c]),.run 3,.op,.op,.slot 24 (.agg [.str q,.int .i64 e,.int .i64 g]),.isv (.bool b),.run 1,.know 25 true,.run 5,.op,.run 9,.can 1 [0] [0,3,4,5] []] ((CoA cell k m y G))=((decide (k<(↑m:Int))=true)∧((0:Int)≤k∧k<(↑m:Int))∧(0+k.toNat*3+3≤y)∧(AV.agg [cell (0+k.toNat*3),cell (0+k.toNat*3+1),cell (0+k.toNat*3+2)]=AV.agg [AV.str p,AV.int .i64 a,AV.int .i64 c])∧((0:Int)≤IntKind.i64.wrap (k - (1:Int))∧IntKind.i64.wrap (k - (1:Int))<(↑m:Int))∧(0+(IntKind.i64.wrap (k - (1:Int))).toNat*3+3≤y)∧(AV.agg [cell (0+(IntKind.i64.wrap (k - (1:Int))).toNat*3),cell (0+(IntKind.i64.wrap (k - (1:Int))).toNat*3+1),cell (0+(IntKind.i64.wrap (k - (1:Int))).toNat*3+2)]=AV.agg [AV.str q,AV.int .i64 e,AV.int .i64 g])∧(∀ (h:AHeap),vd P h BinOp.eql 35 (zi (Operand.tmp 19) || zi (Operand.tmp 24)) (AV.agg [AV.str p,AV.int .i64 a,AV.int .i64 c]) (AV.agg [AV.str q,AV.int .i64 e,AV.int .i64 g])=some (AV.bool b))∧(b=true)∧((0:Int)≤k∧k≤(↑m:Int))∧(za fun c=>some (cell c))∧K (CoB cell k (Int.ofNat 1) m y k.toNat G)):=by kernel_rfl
theorem Cst (R:AV→AHeap→Prop)(cell cell' cell2 cell3:Nat→AV)(p:List UInt8)(a c i:Int)(n m cp lo off z y k:Nat)(b:Bool)(G:T (T AV))(K:AM→Prop):Obl P 12 (fun v h=>R v h) 1 K [.run 17,.can 1 [0] [3,6,7,8] []] ((ze P 12 [.slg 0 0 0 n 0] ⟨(.node .leaf (some (.cells (.fn fun c=>some (cell c)) z 35 0 0 1 0 false .leaf)) .leaf),1,G⟩))=((za fun c=>some (cell c))∧K (SCa cell (Int.ofNat 0) n cp lo off z G)):=by kernel_rfl
theorem Cayn (R:AV→AHeap→Prop)(cell cell' cell2 cell3:Nat→AV)(p:List UInt8)(a c i:Int)(n m cp lo off z y k:Nat)(b:Bool)(G:T (T AV))(K:AM→Prop):Obl P 12 (fun v h=>R v h) 1 K [.run 5,.know 9 true,.run 6,.op,.op,.slot 11 (.agg [.str p,.int .i64 a,.int .i64 c]),.run 7,(.callv [0] (.bool b)),.run 1,.know 13 false,.run 8,.can 1 [0] [3,6,7,8] []] ((SCa cell i n cp lo off z G))=((decide (i<(↑n:Int))=true)∧((0:Int)≤i∧i<(↑n:Int))∧(0+i.toNat*3+3≤z)∧(AV.agg [cell (0+i.toNat*3),cell (0+i.toNat*3+1),cell (0+i.toNat*3+2)]=AV.agg [AV.str p,AV.int .i64 a,AV.int .i64 c])∧(Goal P 0 35 (fun x _=>x=AV.bool b) (zb P 35 [.agg [.str p,.int .i64 a,.int .i64 c]] G))∧(b=false)∧(za fun c=>some (cell c))∧K (SCa cell (IntKind.i64.wrap (i+(1:Int))) n cp lo off z G)):=by kernel_rfl
theorem Can (R:AV→AHeap→Prop)(cell cell' cell2 cell3:Nat→AV)(p:List UInt8)(a c i:Int)(n m cp lo off z y k:Nat)(b:Bool)(G:T (T AV))(_K:AM→Prop):Obl P 12 (fun v h=>R v h) 1 _K [.run 5,.know 9 false,.run 159,.done] ((SCa cell i n cp lo off z G))=((decide (i<(↑n:Int))=false)∧(R (.nils 0 0) (⟨(.node .leaf (some (.cells (.fn fun c=>some (cell c)) z 35 0 0 1 0 false .leaf)) .leaf),1,G⟩))):=by kernel_rfl
section
set_option linter.unusedSectionVars false
variable (R:AV→AHeap→Prop) (cell cell' cell2 cell3:Nat→AV) (p:List UInt8) (a c i:Int) (n m cp lo off z y k:Nat) (b:Bool) (G:T (T AV)) (K:AM→Prop)
include R cell cell' cell2 cell3 p a c i n m cp lo off z y k b G K
theorem Cayy:Obl P 12 (fun v h=>R v h) 1 K [.run 5,.know 9 true,.run 6,.op,.op,.slot 11 (.agg [.str p,.int .i64 a,.int .i64 c]),.run 7,(.callv [0] (.bool b)),.run 1,.know 13 true,.run 14,.told 3 (.fn fun c=>some (cell' c)) 3,.can 1 [0,3] [3,6,7,8] []] ((SCa cell i n cp lo off z G))=((decide (i<(↑n:Int))=true)∧((0:Int)≤i∧i<(↑n:Int))∧(0+i.toNat*3+3≤z)∧(AV.agg [cell (0+i.toNat*3),cell (0+i.toNat*3+1),cell (0+i.toNat*3+2)]=AV.agg [AV.str p,AV.int .i64 a,AV.int .i64 c])∧(Goal P 0 35 (fun x _=>x=AV.bool b) (zb P 35 [.agg [.str p,.int .i64 a,.int .i64 c]] G))∧(b=true)∧(xZ 3 ((.fn fun c=>some (cell' c))) ((.node (.node .leaf (some (.int .i64 a)) .leaf) (some (.str p)) (.node .leaf (some (.int .i64 c)) .leaf))))∧(3=3)∧(za fun c=>some (cell c))∧(za fun c=>some (cell' c))∧K (SCb cell cell' (IntKind.i64.wrap (i+(1:Int))) n 1 cp lo off z 3 G)):=by kernel_rfl
theorem Cbyy:Obl P 12 (fun v h=>R v h) 1 K [.run 5,.know 9 true,.run 6,.op,.op,.slot 11 (.agg [.str p,.int .i64 a,.int .i64 c]),.run 7,(.callv [0] (.bool b)),.run 1,.know 13 true,.run 5,.opw false,.told 1 (.fn fun c=>some (cell2 c)) (0+m*3+3),.run 8,.can 1 [0,1] [3,6,7,8] []] ((SCb cell cell' i n m cp lo off z y G))=((decide (i<(↑n:Int))=true)∧((0:Int)≤i∧i<(↑n:Int))∧(0+i.toNat*3+3≤z)∧(AV.agg [cell (0+i.toNat*3),cell (0+i.toNat*3+1),cell (0+i.toNat*3+2)]=AV.agg [AV.str p,AV.int .i64 a,AV.int .i64 c])∧(Goal P 0 35 (fun x _=>x=AV.bool b) (zb P 35 [.agg [.str p,.int .i64 a,.int .i64 c]] G))∧(b=true)∧((0+1*DS≤3∧∀ (k:Nat),k<1*DS→∃ v,((T.leaf.node (some (AV.int .i64 a)) T.leaf).node (some (AV.str p)) (T.leaf.node (some (AV.int .i64 c)) T.leaf)).get (0+k)=some v∧v.one=true)∧0<1∧0+m*3≤y∧0≤0+m*3∧0=0*DS∧xz (m+1) 32=true∧y<0+(m+1)*3)∧(xZ (0+m*3+3) ((.fn fun c=>some (cell2 c))) ((.fn fun k=>bif (0+m*DS).ble k&&k.blt (0+m*DS+1*DS) then (fun k=>((T.leaf.node (some (AV.int .i64 a)) T.leaf).node (some (AV.str p)) (T.leaf.node (some (AV.int .i64 c)) T.leaf)).get (0+k)) (k - (0+m*DS)) else (T.fn fun c=>some (cell' c)).get k)))∧(0+m*3+3=0+m*3+3)∧(za fun c=>some (cell c))∧(za fun c=>some (cell2 c))∧K (SCb cell cell2 (IntKind.i64.wrap (i+(1:Int))) n (m+1) cp lo off z (0+m*3+3) G)):=by kernel_rfl
theorem Cbyn:Obl P 12 (fun v h=>R v h) 1 K [.run 5,.know 9 true,.run 6,.op,.op,.slot 11 (.agg [.str p,.int .i64 a,.int .i64 c]),.run 7,(.callv [0] (.bool b)),.run 1,.know 13 false,.run 8,.can 1 [0,1] [3,6,7,8] []] ((SCb cell cell' i n m cp lo off z y G))=((decide (i<(↑n:Int))=true)∧((0:Int)≤i∧i<(↑n:Int))∧(0+i.toNat*3+3≤z)∧(AV.agg [cell (0+i.toNat*3),cell (0+i.toNat*3+1),cell (0+i.toNat*3+2)]=AV.agg [AV.str p,AV.int .i64 a,AV.int .i64 c])∧(Goal P 0 35 (fun x _=>x=AV.bool b) (zb P 35 [.agg [.str p,.int .i64 a,.int .i64 c]] G))∧(b=false)∧(za fun c=>some (cell c))∧(za fun c=>some (cell' c))∧K (SCb cell cell' (IntKind.i64.wrap (i+(1:Int))) n m cp lo off z y G)):=by kernel_rfl
end
theorem Cbn (R:AV→AHeap→Prop)(cell cell' cell2 cell3:Nat→AV)(p:List UInt8)(a c i:Int)(n m cp lo off z y k:Nat)(b:Bool)(G:T (T AV))(_K:AM→Prop):Obl P 12 (fun v h=>R v h) 1 _K [.run 5,.know 9 false,.run 5,.ask (.tup []) ⟨(.node (.node .leaf (some (.cells (.fn fun c=>some (cell2 c)) y 35 0 0 1 0 false .leaf)) .leaf) (some (.cells (.fn fun c=>some (cell c)) z 35 0 0 1 0 false .leaf)) .leaf),2,G⟩,.run 5,(.callh [(1,0,[])] [0] (.slg 0 0 0 k 0) ⟨(.node .leaf (some (.cells (.fn fun c=>some (cell3 c)) y 35 0 0 1 0 false .leaf)) .leaf),1,G⟩),.run 3,.done] ((SCb cell cell' i n m cp lo off z y G))=((decide (i<(↑n:Int))=false)∧(zlA P 36 [.slg 1 0 0 m 0,.fn (Fn.func 37) [] []] ⟨(.node (.node .leaf (some (.cells (.fn fun c=>some (cell' c)) y 35 0 0 1 0 false .leaf)) .leaf) (some (.cells (.fn fun c=>some (cell c)) z 35 0 0 1 0 false .leaf)) .leaf),2,G⟩ (.tup []) ⟨(.node (.node .leaf (some (.cells (.fn fun c=>some (cell2 c)) y 35 0 0 1 0 false .leaf)) .leaf) (some (.cells (.fn fun c=>some (cell c)) z 35 0 0 1 0 false .leaf)) .leaf),2,G⟩)∧(za fun c=>some (cell2 c))∧(za fun c=>some (cell3 c))∧(Goal P 1 44 (fun x j=>x=AV.slg 0 0 0 k 0∧j={ objs:=T.leaf.node (some (AObj.cells (T.fn fun c=>some (cell3 c)) y 35 0 0 1 0 false T.leaf)) T.leaf,next:=1,glob:=G }) (ze P 44 [.slg 0 0 0 m 0] ⟨(.node .leaf (some (.cells (.fn fun c=>some (cell2 c)) y 35 0 0 1 0 false .leaf)) .leaf),1,G⟩))∧(R (.slg 1 0 0 k 0) (⟨(.node (.node .leaf (some (.cells (.fn fun c=>some (cell3 c)) y 35 0 0 1 0 false .leaf)) .leaf) (some (.cells (.fn fun c=>some (cell c)) z 35 0 0 1 0 false .leaf)) .leaf),2,G⟩))):=by kernel_rfl
theorem hn (R:AV→AHeap→Prop)(cell cell':Nat→AV)(p q:List UInt8)(a c e g i:Int)(n m cp z y lo off:Nat)(b:Bool)(G:T (T AV))(_K:AM→Prop):Obl P 22 (fun v h=>R v h) 0 _K [.run 27,.can 0 [] [4] [],.done] ((ze P 22 [.nils 0 0,.agg [.str p,.int .i64 a,.int .i64 c]] ⟨.leaf,0,G⟩))=((R (.bool false) (⟨.leaf,0,G⟩))):=by kernel_rfl
theorem cmnny (R:AV→Prop)(p q:List UInt8)(a b c d k2 k3:Int)(_K:AM→Prop):Obl P 37 (fun v _=>R v) 0 _K [.run 93,.know 15 false,.run 38,(.callv [0,1] (.int .i64 k2)),.run 11,.know 15 false,.run 38,(.callv [0,1] (.int .i64 k3)),.run 11,.know 15 true,.run 11,.done] ((zb P 37 [.agg [.str p,.int .i64 a,.int .i64 c],.agg [.str q,.int .i64 b,.int .i64 d]] .leaf))=(((Lib.compareBytes p q != (0:Int))=false)∧(Goal P 0 42 (fun x _=>x=AV.int .i64 k2) (zb P 42 [.int .i64 a,.int .i64 b] .leaf))∧((k2 != (0:Int))=false)∧(Goal P 0 42 (fun x _=>x=AV.int .i64 k3) (zb P 42 [.int .i64 c,.int .i64 d] .leaf))∧((k3 != (0:Int))=true)∧(R (.int .i64 k3))):=by kernel_rfl
theorem zo3 (p q:List UInt8)(a c e g:Int)(b:Bool)(h:AHeap):vd P h .eql 35 b (.agg [.str p,.int .i64 a,.int .i64 c]) (.agg [.str q,.int .i64 e,.int .i64 g])=some (.bool (decide ((p,a,c)=(q,e,g)))):=by
 have key:vd P h .eql 35 b (.agg [.str p,.int .i64 a,.int .i64 c]) (.agg [.str q,.int .i64 e,.int .i64 g])
  = (match (match some (p==q) with
   | some true=>(match some (a==e) with
    | some true=>(match some (c==g) with
     | some true=>some true
     | some false=>some false
     | none=>none)
    | some false=>some false
    | none=>none)
   | some false=>some false
   | none=>none) with
   | none=>none
   | some b=>some (.bool b)):=by kernel_rfl
 rw [key]
 have e3:decide ((p,a,c)=(q,e,g))=((p==q)&&((a==e)&&(c==g))):=by
  rw [Bool.eq_iff_iff]; simp
 rw [e3]
 generalize (p==q)=b1
 generalize (a==e)=b2
 generalize (c==g)=b3
 cases b1 <;> cases b2 <;> cases b3 <;> rfl
theorem ne35 (p q:List UInt8)(a c e g:Int)(b:Bool)(h:AHeap):vd P h .neq 35 b (.agg [.str p,.int .i64 a,.int .i64 c]) (.agg [.str q,.int .i64 e,.int .i64 g])=some (.bool (!decide ((p,a,c)=(q,e,g)))):=by
 have key:vd P h .neq 35 b (.agg [.str p,.int .i64 a,.int .i64 c]) (.agg [.str q,.int .i64 e,.int .i64 g])
  = (match (match some (p==q) with
   | some true=>(match some (a==e) with
    | some true=>(match some (c==g) with
     | some true=>some true
     | some false=>some false
     | none=>none)
    | some false=>some false
    | none=>none)
   | some false=>some false
   | none=>none) with
   | none=>none
   | some b=>some (.bool (!b))):=by kernel_rfl
 rw [key]
 have e3:decide ((p,a,c)=(q,e,g))=((p==q)&&((a==e)&&(c==g))):=by
  rw [Bool.eq_iff_iff]; simp
 rw [e3]
 generalize (p==q)=b1
 generalize (a==e)=b2
 generalize (c==g)=b3
 cases b1 <;> cases b2 <;> cases b3 <;> rfl
end Go.Proofs.YtdbfpjgnlfejmaaDoor.dg
end
section
namespace Go.Proofs
open Go.Shelf
def Tryd.sortL_ren:Go.Shelf.Ren:=⟨fun | 6=>36 | 15=>69 | 14=>68 | 28=>97 | 29=>98 | 20=>89 | 21=>90 | 22=>91 | 23=>92 | 24=>93 | 25=>94 | 26=>95 | 27=>96 | 46=>104 | 47=>105 | 48=>106 | 49=>107 | 50=>108 | 57=>110 | n=>n,fun | 22=>22 | 24=>35 | 25=>64 | 3=>3 | 39=>93 | 0=>0 | 53=>125 | 55=>43 | 4=>4 | 46=>118 | 45=>117 | 50=>122 | 5=>5 | 9=>9 | 66=>136 | 70=>139 | 76=>142 | 77=>143 | n=>n,fun | n=>n⟩
theorem Tryd.sortL:Go.Proofs.SlLaysF0.n6 Tryd.prog Tryd.sortL_ren:={
 mixed:=by kernel_rfl
 f6:=⟨Tryd.f36.name,by decide,Tryd.func36.trans (congrArg some (by kernel_rfl))⟩
 f14:=⟨Tryd.f68.name,by decide,Tryd.func68.trans (congrArg some (by kernel_rfl))⟩
 f15:=Tryd.func69.trans (congrArg some (by kernel_rfl))
 f20:=⟨Tryd.f89.name,by decide,Tryd.func89.trans (congrArg some (by kernel_rfl))⟩
 f21:=⟨Tryd.f90.name,by decide,Tryd.func90.trans (congrArg some (by kernel_rfl))⟩
 f22:=⟨Tryd.f91.name,by decide,Tryd.func91.trans (congrArg some (by kernel_rfl))⟩
 f23:=⟨Tryd.f92.name,by decide,Tryd.func92.trans (congrArg some (by kernel_rfl))⟩
 f24:=⟨Tryd.f93.name,by decide,Tryd.func93.trans (congrArg some (by kernel_rfl))⟩
 f25:=⟨Tryd.f94.name,by decide,Tryd.func94.trans (congrArg some (by kernel_rfl))⟩
 f26:=⟨Tryd.f95.name,by decide,Tryd.func95.trans (congrArg some (by kernel_rfl))⟩
 f27:=⟨Tryd.f96.name,by decide,Tryd.func96.trans (congrArg some (by kernel_rfl))⟩
 f28:=Tryd.func97.trans (congrArg some (by kernel_rfl))
 f29:=Tryd.func98.trans (congrArg some (by kernel_rfl))
 f46:=⟨Tryd.f104.name,by decide,Tryd.func104.trans (congrArg some (by kernel_rfl))⟩
 f47:=Tryd.func105.trans (congrArg some (by kernel_rfl))
 f48:=Tryd.func106.trans (congrArg some (by kernel_rfl))
 f49:=⟨Tryd.f107.name,by decide,Tryd.func107.trans (congrArg some (by kernel_rfl))⟩
 f50:=⟨Tryd.f108.name,by decide,Tryd.func108.trans (congrArg some (by kernel_rfl))⟩
 f57:=⟨Tryd.f110.name,by decide,Tryd.func110.trans (congrArg some (by kernel_rfl))⟩
 t0:=Tryd.underlying0
 a0:=Tryd.isAgg0
 z0:=Tryd.sizeOf0
 v0:=Tryd.zeroValue0
 t3:=Tryd.underlying3
 a3:=Tryd.isAgg3
 z3:=Tryd.sizeOf3
 v3:=Tryd.zeroValue3
 t4:=Tryd.underlying4
 a4:=Tryd.isAgg4
 z4:=Tryd.sizeOf4
 v4:=Tryd.zeroValue4
 t5:=Tryd.underlying5
 a5:=Tryd.isAgg5
 z5:=Tryd.sizeOf5
 v5:=Tryd.zeroValue5
 t9:=Tryd.underlying9
 a9:=Tryd.isAgg9
 z9:=Tryd.sizeOf9
 v9:=Tryd.zeroValue9
 t22:=Tryd.underlying22
 a22:=Tryd.isAgg22
 z22:=Tryd.sizeOf22
 v22:=Tryd.zeroValue22
 t25:=Tryd.underlying64
 a25:=Tryd.isAgg64
 z25:=Tryd.sizeOf64
 v25:=Tryd.zeroValue64
 t39:=Tryd.underlying93
 a39:=Tryd.isAgg93
 z39:=Tryd.sizeOf93
 v39:=Tryd.zeroValue93
 t45:=Tryd.underlying117
 a45:=Tryd.isAgg117
 z45:=Tryd.sizeOf117
 v45:=Tryd.zeroValue117
 t46:=Tryd.underlying118
 a46:=Tryd.isAgg118
 z46:=Tryd.sizeOf118
 v46:=Tryd.zeroValue118
 t50:=Tryd.underlying122
 a50:=Tryd.isAgg122
 z50:=Tryd.sizeOf122
 v50:=Tryd.zeroValue122
 t53:=Tryd.underlying125
 a53:=Tryd.isAgg125
 z53:=Tryd.sizeOf125
 v53:=Tryd.zeroValue125
 t55:=Tryd.underlying43
 a55:=Tryd.isAgg43
 z55:=Tryd.sizeOf43
 v55:=Tryd.zeroValue43
 t66:=Tryd.underlying136
 a66:=Tryd.isAgg136
 z66:=Tryd.sizeOf136
 v66:=Tryd.zeroValue136
 t70:=Tryd.underlying139
 a70:=Tryd.isAgg139
 z70:=Tryd.sizeOf139
 v70:=Tryd.zeroValue139
 t76:=Tryd.underlying142
 a76:=Tryd.isAgg142
 z76:=Tryd.sizeOf142
 v76:=Tryd.zeroValue142
 t77:=Tryd.underlying143
 a77:=Tryd.isAgg143
 z77:=Tryd.sizeOf143
 v77:=Tryd.zeroValue143 }
end Go.Proofs
end
