import Derived.Carry
import Derived.ChangeSlices
import Derived.SliceStrings
import Derived.Deep.Slices
import Derived.OpenShut
import Derived.FnData
import Derived.Test.YtdbfpjgnlfejmaaDoorRows
import Derived.MakeChecks
import Derived.ProofKit
import Derived.LaidMore
import Derived.Stop.Joined
import Derived.IntWalk
import Derived.Sort.Statements
import Derived.Shelf.SlSortCmp.Insertion
import Derived.Shelf.SlSortCmp.WholeK
import Derived.Ground.SlsfProg
import Derived.Test.YtdbfpjgnlfejmaaDoorProg
import Derived.Deep.Strs
import Derived.Test.YtdbfpjgnlfejmaaDoorF00
import Derived.Test.YtdbfpjgnlfejmaaDoorF01
import Derived.Test.YtdbfpjgnlfejmaaDoorF02
import Derived.Test.YtdbfpjgnlfejmaaDoorF03
section
namespace Go.Proofs.YtdbfpjgnlfejmaaDoor.Ev
open Go
noncomputable section
variable (P:Program)
def zeg (c:T AV) (off n:Nat) (f:Nat→Option AV):T AV:=.fn fun k=>bif Nat.ble off k&&Nat.blt k (off+n) then f (k - off) else c.get k
def zcJ (h:AHeap) (id ver off n size:Nat):Option ((Nat→Option AV) × Prop):=match h.get id with
 | some (.ro c lo m)=>bif Nat.beq ver 0 then some (fun k=>c.get (off+k),(lo≤off∧off+n*size≤m)∧∀ k,k<n*size→∃ v,c.get (off+k)=some v∧AV.one v=true) else none
 | some (.cells c m _ lo hi _ _ _ ex)=>match zF ex m hi ver with
  | none=>none
  | some e=>bif Nat.ble lo ver&&Nat.ble ver hi then some (fun k=>c.get (off+k),off+n*size≤e∧∀ k,k<n*size→∃ v,c.get (off+k)=some v∧AV.one v=true) else none
 | _=>none
def jJ (h:AHeap) (size n:Nat) (x:AV):Option ((Nat→Option AV) × Prop):=match x with
 | .str s=>bif Nat.beq size 1 then some (fun k=>some (.int .u8 (s.getD k 0).toNat),n≤s.length) else none
 | .slc id ver off _ _=>zcJ h id ver off n size
 | .slg id ver off _ _=>zcJ h id ver off n size
 | _=>none
def srcW (h:AHeap) (size bytes:Nat) (z:AV) (zeros:Bool) (x:AV):Option (Nat × (Nat→Option AV) × Prop):=match zeros with
 | true=>match x with
  | .int _ l=>bif Nat.beq size 1 then some (l.toNat,fun _=>z.cells.head?,(0≤l∧l<2 ^ 40)∧l.toNat*bytes≤2 ^ 48) else none
  | _=>none
 | false=>match zaF x with
  | none=>none
  | some n=>match jJ h size n x with
   | none=>none
   | some (f,p)=>some (n,f,p)
def ze5 (h:AHeap) (size id ver off sLen cap n:Nat) (f:Nat→Option AV) (p:Prop):Option (AR × Prop):=match h.get id with
 | some (.cells c m el lo hi nv fz sg ex)=>match zF ex m hi ver with
  | none=>none
  | some e=>bif Nat.ble lo ver&&Nat.ble ver hi then
   some (.val (.slc id ver off (sLen+n) cap) (h.put id (.cells (zeg c (off+sLen*size) (n*size) f) e el ver ver nv fz sg ex)),
    p∧sLen+n≤cap∧off+sLen*size+n*size≤e∧fz≤off+sLen*size∧match Nat.beq lo ver&&Nat.beq hi ver with
     | true=>True
     | false=>0<n)
   else none
 | _=>none
def zlZ (h:AHeap) (el:TypeId) (bytes size n:Nat) (f:Nat→Option AV) (p:Prop):Option (AR × Prop) :=
 some (.val (.slg h.next 0 0 n 0) (h.new (.cells (.fn f) (n*size) el 0 0 1 0 false .leaf)),p∧0<n∧zY n bytes=true)
def zmy (h:AHeap) (el:TypeId) (bytes size id ver off sLen cap n:Nat) (f:Nat→Option AV) (p:Prop):Option (AR × Prop):=match zcJ h id ver off sLen size with
 | none=>none
 | some (g,q)=>some (.val (.slg h.next 0 0 (sLen+n) 0) (h.new (.cells (.fn fun k=>bif Nat.blt k (sLen*size) then g k else f (k - sLen*size)) (sLen*size+n*size) el 0 0 1 0 false .leaf)),
  p∧q∧0<n∧cap<sLen+n∧zY (sLen+n) bytes=true)
def zoR (h:AHeap) (el:TypeId) (bytes size id ver off sLen st n:Nat) (f:Nat→Option AV) (p:Prop):Option (AR × Prop):=match h.get id with
 | some (.cells c m el' lo hi nv fz sg ex)=>match zF ex m hi ver with
  | none=>none
  | some e=>bif Nat.ble lo ver&&Nat.ble ver hi&&Nat.beq el' el&&Nat.blt hi nv then
   some (.val (.slg id nv off (sLen+n) st) (h.put id (.cells (zeg c (off+sLen*size) (n*size) f) (off+sLen*size+n*size) el nv nv (nv+1) fz sg ex)),
    p∧0<n∧off+sLen*size≤e∧fz≤off+sLen*size∧off=st*size∧zY (sLen+n) bytes=true∧e<off+(sLen+n)*size)
   else none
 | _=>none
def zmt (h:AHeap) (el:TypeId) (size id ver off sLen st n:Nat) (f:Nat→Option AV) (p:Prop):Option (AR × Prop):=match h.get id with
 | some (.cells c m el' lo hi nv fz sg ex)=>match zF ex m hi ver with
  | none=>none
  | some e=>bif Nat.ble lo ver&&Nat.ble ver hi&&Nat.beq el' el then
   some (.val (.slg id ver off (sLen+n) st) (h.put id (.cells (zeg c (off+sLen*size) (n*size) f) e el' ver ver nv fz sg ex)),
    p∧0<n∧off+(sLen+n)*size≤e∧off+sLen*size+n*size≤e∧fz≤off+sLen*size∧off=st*size)
   else none
 | _=>none
def zeS (moved:Bool) (h:AHeap) (t:TypeId) (zeros:Bool) (s x:AV):Option (AR × Prop):=match P.underlying t with
 | some (.slice el)=>match P.info? el with
  | none=>none
  | some i=>match we P el with
   | none=>none
   | some z=>match Nat.blt 0 i.size&&Nat.beq z.cells.length i.size&&z.cells.all AV.one with
    | false=>none
    | true=>match srcW h i.size i.bytes z zeros x with
     | none=>none
     | some (n,f,p)=>match s with
      | .nils 0 0=>zlZ h el i.bytes i.size n f p
      | .slc id ver off sLen cap=>match moved with
       | false=>ze5 h i.size id ver off sLen cap n f p
       | true=>zmy h el i.bytes i.size id ver off sLen cap n f p
      | .slg id ver off sLen st=>match moved with
       | false=>zoR h el i.bytes i.size id ver off sLen st n f p
       | true=>zmt h el i.size id ver off sLen st n f p
      | _=>none
 | _=>none
def wX (h:AHeap) (id ver off:Nat) (n:Nat) (f:Nat→Option AV) (r:AHeap→AR) (p:Prop):Option (AR × Prop):=match h.get id with
 | some (.cells c m el lo hi nv fz sg ex)=>match zF ex m hi ver with
  | none=>none
  | some e=>bif Nat.ble lo ver&&Nat.ble ver hi then
   some (r (h.put id (.cells (zeg c off n f) e el ver ver nv fz sg ex)),p∧off+n≤e∧fz≤off)
   else none
 | _=>none
def putW (h:AHeap) (id ver off:Nat) (v:AV):Option (AR × Prop):=match h.get id with
 | some (.cells c m el lo hi nv fz sg ex)=>match zF ex m hi ver with
  | none=>none
  | some e=>bif Nat.ble lo ver&&Nat.ble ver hi then
   some (.skip (h.put id (.cells (.fn fun k=>bif Nat.beq k off then some v else c.get k) e el ver ver nv fz sg ex)),off+1≤e∧fz≤off)
   else none
 | _=>none
def zce (h:AHeap) (t:TypeId) (p v:AV):Option (AR × Prop):=match p with
 | .ptr id ver off=>match P.info? t with
  | none=>none
  | some i=>match Nat.beq v.cells.length i.size&&v.cells.all AV.one with
   | false=>none
   | true=>match v.cells with
    | [x]=>putW h id ver off x
    | l=>wX h id ver off l.length (fun k=>l[k]?) .skip True
 | _=>none
def zoq (h:AHeap) (t:TypeId) (dst src:AV):Option (AR × Prop):=match P.underlying t with
 | some (.slice el)=>match yo P el with
  | none=>none
  | some s=>match xO dst with
   | none=>none
   | some dn=>match zaF src with
    | none=>none
    | some sn=>match jJ h s (Nat.min sn dn) src with
     | none=>none
     | some (f,p)=>match dst with
      | .slc id ver off _ _=>wX h id ver off (Nat.min sn dn*s) f (fun h=>.val (.int .i64 (Nat.min sn dn:Nat)) h) p
      | .slg id ver off _ _=>wX h id ver off (Nat.min sn dn*s) f (fun h=>.val (.int .i64 (Nat.min sn dn:Nat)) h) p
      | _=>none
 | _=>none
def znt (h:AHeap) (t:TypeId) (len cap:AV):Option (AR × Prop):=match P.underlying t with
 | some (.slice el)=>match len with
  | .int _ l=>match cap with
   | .int _ c=>match P.info? el with
    | none=>none
    | some i=>match we P el with
     | none=>none
     | some z=>match Nat.beq i.size 1&&Nat.beq z.cells.length 1&&z.cells.all AV.one with
      | false=>none
      | true=>some (.val (.slc h.next 0 0 l.toNat c.toNat) (h.new (.cells (.fn fun _=>z.cells.head?) c.toNat el 0 0 1 0 false .leaf)),0≤l∧l≤c∧c<2 ^ 40∧i.bytes*c≤2 ^ 48)
   | _=>none
  | _=>none
 | _=>none
def zgW (h:AHeap) (t:TypeId) (x:AV):Option (AR × Prop):=match P.underlying t with
 | some (.slice el)=>match we P el with
  | none=>none
  | some z=>match z.cells.all AV.one with
   | false=>none
   | true=>match x with
    | .slc id ver off n _=>wX h id ver off (n*z.cells.length) (fun k=>z.cells[k % z.cells.length]?) (fun h=>.val (.tup []) h) (0<n)
    | .slg id ver off n _=>wX h id ver off (n*z.cells.length) (fun k=>z.cells[k % z.cells.length]?) (fun h=>.val (.tup []) h) (0<n)
    | _=>none
 | _=>none
def opW (moved:Bool) (ρ:Operand→Option AV) (h:AHeap) (o:Op):Option (AR × Prop):=match o with
 | .store t a x=>zkd ρ a x fun p v=>zce P h t p v
 | .makeSlice t l c=>zkd ρ l c fun a b=>znt P h t a b
 | .call c=>match qn ρ c.args.toList with
  | none=>none
  | some args=>match c.callee with
   | .builtin b=>match b with
    | .append=>match c.argTypes[0]? with
     | none=>none
     | some t=>match c.argTypes[1]? with
      | none=>none
      | some u=>match je P u with
       | none=>none
       | some z=>match zlt args with
        | none=>none
        | some (s,x)=>zeS P moved h t z s x
    | .copy=>match c.argTypes[0]? with
     | none=>none
     | some t=>match zlt args with
      | none=>none
      | some (d,s)=>zoq P h t d s
    | .clear=>match c.argTypes[0]? with
     | none=>none
     | some t=>match args with
      | [x]=>zgW P h t x
      | _=>none
    | _=>none
   | _=>none
 | _=>none
def zhv (fr:AFrame) (o:Oper):Bool:=match fr.todo with
 | .drw _ _ _::_=>yR P o
 | _=>true
def OpWK [XT P] (moved:Bool) (m:AM) (K:AM→Prop):Prop:=match m with
 | ⟨fr,rest,h⟩=>match fr.mode with
  | .run=>match jw fr with
   | none=>False
   | some (all,o)=>match zU all fr.tmps o.guard with
    | some true=>match zhv P fr o with
     | false=>False
     | true=>match opW P moved (ev fr.tmps) h o.op with
      | none=>False
      | some (r,p)=>p∧zkf P fr rest h r K
    | _=>False
  | _=>False
end
section
variable {P:Program}
def LessH (P:Program) (id:Nat) (hE hW:AHeap):Prop:=∃ (oE oW:AObj),hE.get id=some oE∧hW.next=hE.next∧hW.glob=hE.glob∧(∀ i,hW.get i=if i=id then some oW else hE.get i) ∧
 oE.isRo=false∧oW.isRo=false∧∀ (R:Bij) (w:World),ObjRel P R w id oE→ObjRel P R w id oW
theorem HRel.less {B:Base}{R:Bij}{w:World}{id:Nat}{hE hW:AHeap}(e:LessH P id hE hW)(hp:B.pend id=none)(kh:HRel P B R hE w):HRel P B R hW w:=by
 obtain ⟨o,o',hobj,hnext,hglob,hget,hro,hro',hsw⟩:=e
 refine ⟨fun i hi=>kh.fresh i (by rw [← hnext]; exact hi),fun i x eo hpe=>?_,fun i x eo=>?_,kh.place,fun i hi=>⟨by rw [hnext]; exact (kh.rd i hi).1,fun x eo=>?_⟩,kh.rp,kh.rol,kh.low,kh.pin,kh.apart,kh.same,fun g c e=>kh.glob g c (by rw [← hglob]; exact e)⟩
 · rw [hget] at eo
   split at eo
   · rename_i hi
     subst hi
     cases eo
     exact hsw R w (kh.obj i _ hobj hpe)
   · exact kh.obj i x eo hpe
 · obtain ⟨h1,h2,h3⟩:=kh.pend i x eo
   refine ⟨by rw [hnext]; exact h1,?_,h3⟩
   rw [hget,if_neg (fun h=>by rw [h,hp] at eo; cases eo)]
   exact h2
 · rw [hget] at eo
   split at eo
   · rename_i hi'
     subst hi'
     cases eo
     have:=(kh.rd i hi).2 _ hobj
     rw [hro] at this; cases this
   · exact (kh.rd i hi).2 x eo
theorem LessH.put {h:AHeap}{id:Nat}{oE oW:AObj}(h1:oE.isRo=false)(h2:oW.isRo=false)(hsw:∀ (R:Bij) (w:World),ObjRel P R w id oE→ObjRel P R w id oW):LessH P id (h.put id oE) (h.put id oW):=by
 obtain ⟨objs,next,glob⟩:=h
 refine ⟨oE,oW,?_,rfl,rfl,fun i=>?_,h1,h2,hsw⟩
 · show (objs.set (some oE) id).get id=_
   rw [T.get_set,if_pos rfl]
 · show (objs.set (some oW) id).get i=if i=id then some oW else (objs.set (some oE) id).get i
   rw [T.get_set,T.get_set]
   split <;> rfl
theorem LessH.new {h:AHeap}{oE oW:AObj}(h1:oE.isRo=false)(h2:oW.isRo=false)(hsw:∀ (R:Bij) (w:World),ObjRel P R w h.next oE→ObjRel P R w h.next oW):LessH P h.next (h.new oE) (h.new oW):=by
 obtain ⟨objs,next,glob⟩:=h
 refine ⟨oE,oW,?_,rfl,rfl,fun i=>?_,h1,h2,hsw⟩
 · show (objs.set (some oE) next).get next=_
   rw [T.get_set,if_pos rfl]
 · show (objs.set (some oW) next).get i=if i=next then some oW else (objs.set (some oE) next).get i
   rw [T.get_set,T.get_set]
   split <;> rfl
theorem zbs {i:Nat} {cE cW:T AV} {n:Nat} {el:TypeId} {lo lo' hi nv fz:Nat} {sg:Bool} {ex ex':T Nat} (hle:∀ k v,k<n→cW.get k=some v→cE.get k=some v) (h1:lo≤lo') (h2:lo'≤hi)
 (hx:∀ r e,lo'≤r→r≤hi→zF ex' n hi r=some e→zF ex n hi r=some e) (R:Bij) (w:World) (k:ObjRel P R w i (.cells cE n el lo hi nv fz sg ex)):ObjRel P R w i (.cells cW n el lo' hi nv fz sg ex'):=by
 obtain ⟨a1,a2,a3,a4,a5⟩:=k
 refine ⟨h2,a2,a3,fun r e b1 b2 b3=>?_,fun r e b1 b2 b3=>a5 r e (Nat.le_trans h1 b1) b2 (hx r e b1 b2 b3)⟩
 have b3':=hx r e b1 b2 b3
 obtain ⟨L,g1,cs,a,b,c1,c2,c3,c4,c5⟩:=a4 r e (Nat.le_trans h1 b1) b2 b3'
 exact ⟨L,g1,cs,a,b,c1,c2,c3,c4,fun q v q1 q2 q3=>c5 q v q1 q2 (hle q v (Nat.lt_of_lt_of_le q1 (a5 r e (Nat.le_trans h1 b1) b2 b3')) q3)⟩
theorem xF {i:Nat}{cE cW:T AV}{n:Nat}{el:TypeId}{lo hi nv fz:Nat}{sg:Bool}{ex:T Nat}(hle:∀ k v,k<n→cW.get k=some v→cE.get k=some v)(R:Bij)(w:World)(k:ObjRel P R w i (.cells cE n el lo hi nv fz sg ex)):ObjRel P R w i (.cells cW n el lo hi nv fz sg ex) :=
 zbs hle (Nat.le_refl _) k.1 (fun _ _ _ _ e=>e) R w k
def Lives (h:AHeap) (vs:List AV) (id:Nat):Prop:=id=h.next∨∃ v∈vs,vZ v=some id
def zkk (P:Program) (h:AHeap) (vs:List AV) (rE r:AR):Prop:=∃ id,Lives h vs id∧((∃ v hE hW,rE=.val v hE∧r=.val v hW∧LessH P id hE hW)∨∃ hE hW,rE=.skip hE∧r=.skip hW∧LessH P id hE hW)
theorem zbn {c:T AV}{off:Nat}:∀ {n:Nat} {acc:List AV},(∀ k,k<n→∃ v,c.get (off+k)=some v∧AV.one v=true)→acc.all AV.one=true→∃ l,jT c off n acc=some l∧l.all AV.one=true
 | 0,acc,_,ha=>⟨acc,rfl,ha⟩
 | n+1,acc,h,ha=>by
  obtain ⟨v,hv,ho⟩:=h n (Nat.lt_succ_self n)
  unfold jT
  rw [hv]
  exact zbn (fun k hk=>h k (Nat.lt_succ_of_lt hk)) (by simp [ho,ha])
theorem qH {c:T AV}{off n:Nat}(h:∀ k,k<n→∃ v,c.get (off+k)=some v∧AV.one v=true):∃ l,zu c off n=some l∧l.all AV.one=true∧l.length=n∧∀ k v,k<n→c.get (off+k)=some v→l[k]?=some v:=by
 obtain ⟨l,h1,h2⟩:=zbn (acc:=[]) h rfl
 obtain ⟨g1,g2⟩:=xg h1
 refine ⟨l,h1,h2,g1,fun k v hk hv=>?_⟩
 have hlt:k<l.length:=by omega
 have:=g2 k l[k] (List.getElem?_eq_getElem hlt)
 rw [hv] at this
 rw [List.getElem?_eq_getElem hlt]
 exact this.symm
theorem zax {h:AHeap}{id ver off n size:Nat}{f:Nat→Option AV}{p:Prop}(e:zcJ h id ver off n size=some (f,p))(hp:p) :
 ∃ l,zl h id ver off (n*size)=some l∧l.all AV.one=true∧l.length=n*size∧∀ k v,k<n*size→f k=some v→l[k]?=some v:=by
 unfold zcJ at e
 unfold zl
 split at e
 · rename_i c lo m ho
   cases hb:Nat.beq ver 0 with
   | false=>rw [hb] at e; cases e
   | true =>
    rw [hb] at e
    simp only [cond_true,Option.some.injEq,Prod.mk.injEq] at e
    obtain ⟨rfl,rfl⟩:=e
    obtain ⟨l,h1,h2,h3,h4⟩:=qH hp.2
    refine ⟨l,?_,h2,h3,h4⟩
    simp only [ho]
    rw [if_pos ⟨Nat.eq_of_beq_eq_true hb,hp.1⟩,h1]
 · rename_i c m el lo hi nv fz sg ex ho
   split at e
   · cases e
   · rename_i e0 he
     cases hb:(Nat.ble lo ver&&Nat.ble ver hi) with
     | false=>rw [hb] at e; cases e
     | true =>
      rw [hb] at e
      simp only [cond_true,Option.some.injEq,Prod.mk.injEq] at e
      obtain ⟨rfl,rfl⟩:=e
      rw [Bool.and_eq_true] at hb
      obtain ⟨l,h1,h2,h3,h4⟩:=qH hp.2
      refine ⟨l,?_,h2,h3,h4⟩
      simp only [ho,he]
      rw [if_pos ⟨Nat.le_of_ble_eq_true hb.1,Nat.le_of_ble_eq_true hb.2,hp.1⟩,h1]
 · cases e
theorem vv {h:AHeap}{size n:Nat}{x:AV}{f:Nat→Option AV}{p:Prop}(e:jJ h size n x=some (f,p))(hp:p) :
 ∃ l,yX h size n x=some l∧l.all AV.one=true∧l.length=n*size∧∀ k v,k<n*size→f k=some v→l[k]?=some v:=by
 unfold jJ at e
 split at e
 · rename_i s
   cases hb:Nat.beq size 1 with
   | false=>rw [hb] at e; cases e
   | true =>
    rw [hb] at e
    simp only [cond_true,Option.some.injEq,Prod.mk.injEq] at e
    obtain ⟨rfl,rfl⟩:=e
    obtain rfl:=Nat.eq_of_beq_eq_true hb
    refine ⟨_,rfl,(List.all_eq_true.2 fun x hx=>by obtain ⟨b,_,rfl⟩:=List.mem_map.1 hx; rfl),by simp [zr]; omega,fun k v hk hv=>?_⟩
    rw [Nat.mul_one] at hk
    cases hv
    have hs:k<s.length:=by omega
    simp [zr,hk,hs]
 · exact zax e hp
 · exact zax e hp
 · cases e
theorem qY (v:AV):∀ n k,k<n→(zD [v] n)[k]?=some v
 | 0,k,h=>by omega
 | n+1,0,_=>rfl
 | n+1,k+1,h=>by
  show (zD [v] n)[k]?=_
  exact qY v n k (by omega)
theorem zad {h:AHeap}{size bytes:Nat}{z:AV}{zeros:Bool}{x:AV}{n:Nat}{f:Nat→Option AV}{p:Prop}(hz:z.cells.length=size)(hz1:z.cells.all AV.one=true)(e:srcW h size bytes z zeros x=some (n,f,p))(hp:p) :
 ∃ new,ku h size z zeros x=some (n,new)∧new.all AV.one=true∧new.length=n*size∧(zeros=true→Nat.ble (n*bytes) (2 ^ 48)=true)∧∀ k v,k<n*size→f k=some v→new[k]?=some v:=by
 unfold srcW at e
 unfold ku
 split at e
 · split at e
   · rename_i k l
     cases hb:Nat.beq size 1 with
     | false=>rw [hb] at e; cases e
     | true =>
      rw [hb] at e
      simp only [cond_true,Option.some.injEq,Prod.mk.injEq] at e
      obtain ⟨rfl,rfl,rfl⟩:=e
      obtain rfl:=Nat.eq_of_beq_eq_true hb
      simp only
      refine ⟨_,by rw [if_pos hp.1],zaB hz1 _,by rw [zE,hz],fun _=>Nat.ble_eq_true_of_le hp.2,fun k v hk hv=>?_⟩
      rw [Nat.mul_one] at hk
      match hc:z.cells,hz with
      | [y],_ =>
       rw [hc] at hv
       cases hv
       exact qY _ _ _ hk
   · cases e
 · split at e
   · cases e
   · rename_i n' hn
     split at e
     · cases e
     · rename_i f' p' hf
       cases e
       obtain ⟨l,h1,h2,h3,h4⟩:=vv hf hp
       exact ⟨l,by simp only [hn,h1],h2,h3,fun h=>(by cases h),h4⟩
theorem zbY {c:T AV}{off n:Nat}{f:Nat→Option AV}{vs:List AV}(hl:vs.length=n)(hf:∀ k v,k<n→f k=some v→vs[k]?=some v)(k:Nat)(v:AV)(e:(zeg c off n f).get k=some v):(zw c off vs).get k=some v:=by
 rw [zo,hl]
 change (bif Nat.ble off k&&Nat.blt k (off+n) then f (k - off) else c.get k)=some v at e
 cases hb:(Nat.ble off k&&Nat.blt k (off+n)) with
 | true =>
  rw [hb] at e
  rw [Bool.and_eq_true] at hb
  have h1:=Nat.le_of_ble_eq_true hb.1
  have h2:k<off+n:=Nat.le_of_ble_eq_true hb.2
  rw [if_pos ⟨h1,h2⟩]
  exact hf _ _ (by omega) e
 | false =>
  rw [hb] at e
  rw [if_neg]
  · exact e
  · rintro ⟨h1,h2⟩
    rw [Nat.ble_eq_true_of_le h1,show Nat.blt k (off+n)=true from Nat.ble_eq_true_of_le h2] at hb
    cases hb
theorem qS {h:AHeap} {id ver off n:Nat} {f:Nat→Option AV} {c:T AV} {m:Nat} {el:TypeId} {lo hi nv fz:Nat} {sg:Bool} {ex:T Nat} {e:Nat} (ho:h.get id=some (.cells c m el lo hi nv fz sg ex)) (he:zF ex m hi ver=some e) (h1:lo≤ver) (h2:ver≤hi)
 (h3:off+n≤e) (h4:fz≤off) {vs:List AV} (hl:vs.length=n) (ha:vs.all AV.one=true) (hf:∀ k v,k<n→f k=some v→vs[k]?=some v) :
 zL h id ver off vs=some (h.put id (.cells (zw c off vs) e el ver ver nv fz sg ex))∧LessH P id (h.put id (.cells (zw c off vs) e el ver ver nv fz sg ex)) (h.put id (.cells (zeg c off n f) e el ver ver nv fz sg ex)):=by
 refine ⟨?_,.put rfl rfl (xF fun k v _ e=>zbY hl hf k v e)⟩
 unfold zL
 rw [ho]
 simp only [he]
 rw [if_pos ⟨h1,h2,by omega,h4,ha⟩,T.seq_eq]
theorem zpc {a b c:Nat}(h:(Nat.ble a b&&Nat.ble b c)=true):a≤b∧b≤c:=by
 rw [Bool.and_eq_true] at h
 exact ⟨Nat.le_of_ble_eq_true h.1,Nat.le_of_ble_eq_true h.2⟩
theorem v6 {h:AHeap}{id ver off n:Nat}{f:Nat→Option AV}{mk:AHeap→AR}{p0 p:Prop}{r:AR}(e:wX h id ver off n f mk p0=some (r,p))(hp:p){vs:List AV}(hl:vs.length=n)(ha:vs.all AV.one=true)(hf:∀ k v,k<n→f k=some v→vs[k]?=some v) :
 ∃ hE hW,zL h id ver off vs=some hE∧r=mk hW∧LessH P id hE hW:=by
 unfold wX at e
 split at e
 rotate_left
 · cases e
 rename_i c m el lo hi nv fz sg ex ho
 split at e
 · cases e
 rename_i e0 he
 cases hb:(Nat.ble lo ver&&Nat.ble ver hi) with
 | false=>rw [hb] at e; cases e
 | true =>
  rw [hb] at e
  simp only [cond_true,Option.some.injEq,Prod.mk.injEq] at e
  obtain ⟨rfl,rfl⟩:=e
  obtain ⟨b1,b2⟩:=zpc hb
  obtain ⟨g1,g2⟩:=qS (P:=P) ho he b1 b2 hp.2.1 hp.2.2 hl ha hf
  exact ⟨_,_,g1,rfl,g2⟩
theorem zbO {h:AHeap}{id ver off n:Nat}{f:Nat→Option AV}{mk:AHeap→AR}{p0 p:Prop}{r:AR}(e:wX h id ver off n f mk p0=some (r,p))(hp:p):p0:=by
 unfold wX at e
 split at e
 rotate_left
 · cases e
 rename_i c m el lo hi nv fz sg ex ho
 split at e
 · cases e
 rename_i e0 he
 cases hb:(Nat.ble lo ver&&Nat.ble ver hi) with
 | false=>rw [hb] at e; cases e
 | true =>
  rw [hb] at e
  simp only [cond_true,Option.some.injEq,Prod.mk.injEq] at e
  obtain ⟨rfl,rfl⟩:=e
  exact hp.1
theorem zox {h:AHeap}{id ver off:Nat}{v:AV}{p:Prop}{r:AR}(e:putW h id ver off v=some (r,p))(hp:p)(ha:AV.one v=true) :
 ∃ hE hW,zL h id ver off [v]=some hE∧r=.skip hW∧LessH P id hE hW:=by
 unfold putW at e
 split at e
 rotate_left
 · cases e
 rename_i c m el lo hi nv fz sg ex ho
 split at e
 · cases e
 rename_i e0 he
 cases hb:(Nat.ble lo ver&&Nat.ble ver hi) with
 | false=>rw [hb] at e; cases e
 | true =>
  rw [hb] at e
  simp only [cond_true,Option.some.injEq,Prod.mk.injEq] at e
  obtain ⟨rfl,rfl⟩:=e
  obtain ⟨b1,b2⟩:=zpc hb
  refine ⟨h.put id (.cells (zw c off [v]) e0 el ver ver nv fz sg ex),_,?_,rfl,.put rfl rfl (xF fun k x _ e=>?_)⟩
  · unfold zL
    rw [ho]
    simp only [he]
    rw [if_pos ⟨b1,b2,hp.1,hp.2,by simp [ha]⟩,T.seq_eq]
  · rw [zo]
    change (bif Nat.beq k off then some v else c.get k)=some x at e
    cases hq:Nat.beq k off with
    | true =>
     rw [hq] at e
     obtain rfl:=Nat.eq_of_beq_eq_true hq
     rw [if_pos ⟨Nat.le_refl _,Nat.lt_succ_self _⟩]
     simpa using e
    | false =>
     rw [hq] at e
     rw [if_neg]
     · exact e
     · rintro ⟨h1,h2⟩
       have:k=off:=by simp at h2; omega
       rw [this,Nat.beq_refl] at hq
       cases hq
theorem zel {h:AHeap}{t:TypeId}{a v:AV}{r:AR}{p:Prop}(e:zce P h t a v=some (r,p))(hp:p):∃ id hE hW,zdJ P h t a v=some hE∧r=.skip hW∧LessH P id hE hW∧vZ a=some id:=by
 unfold zce at e
 unfold zdJ
 split at e
 rotate_left
 · cases e
 split at e
 · cases e
 rename_i i hi
 split at e
 · cases e
 rename_i hb
 rw [Bool.and_eq_true] at hb
 have hs:=Nat.eq_of_beq_eq_true hb.1
 simp only [hi,if_pos hs]
 split at e
 · rename_i x hx
   rw [hx] at hb ⊢
   obtain ⟨hE,hW,g1,g2,g3⟩:=zox (P:=P) e hp (by simpa using hb.2)
   exact ⟨_,hE,hW,g1,g2,g3,rfl⟩
 · obtain ⟨hE,hW,g1,g2,g3⟩:=v6 (P:=P) e hp rfl hb.2 fun k v _ e=>e
   exact ⟨_,hE,hW,g1,g2,g3,rfl⟩
theorem zli {h:AHeap}{t:TypeId}{d s:AV}{r:AR}{p:Prop}(e:zoq P h t d s=some (r,p))(hp:p):∃ id v hE hW,ziX P h t d s=some (v,hE)∧r=.val v hW∧LessH P id hE hW∧vZ d=some id:=by
 unfold zoq at e
 unfold ziX
 split at e
 rotate_left
 · cases e
 rename_i el hu
 simp only [hu]
 unfold ziD
 split at e
 · cases e
 rename_i sz hsz
 split at e
 · cases e
 rename_i dn hdn
 split at e
 · cases e
 rename_i sn hsn
 split at e
 · cases e
 rename_i f p' hf
 simp only [hsz,hdn,hsn]
 split at e
 · obtain ⟨l,h1,h2,h3,h4⟩:=vv hf (zbO e hp)
   obtain ⟨hE,hW,g1,g2,g3⟩:=v6 (P:=P) e hp h3 h2 h4
   simp only [h1,zfR,g1]
   exact ⟨_,_,_,hW,rfl,g2,g3,rfl⟩
 · obtain ⟨l,h1,h2,h3,h4⟩:=vv hf (zbO e hp)
   obtain ⟨hE,hW,g1,g2,g3⟩:=v6 (P:=P) e hp h3 h2 h4
   simp only [h1,zfR,g1]
   exact ⟨_,_,_,hW,rfl,g2,g3,rfl⟩
 · cases e
theorem zbZ {vs:List AV}{n:Nat}{f:Nat→Option AV}(hl:vs.length=n)(hf:∀ k v,k<n→f k=some v→vs[k]?=some v)(k:Nat)(v:AV)(hk:k<n)(e:(T.fn f).get k=some v):(zw .leaf 0 vs).get k=some v:=by
 rw [zo,if_pos ⟨Nat.zero_le _,by omega⟩,Nat.sub_zero]
 exact hf k v hk e
theorem zkx {h:AHeap}{t:TypeId}{a b:AV}{r:AR}{p:Prop}(e:znt P h t a b=some (r,p))(hp:p):∃ v hE hW,xL P h t a b=some (v,hE)∧r=.val v hW∧LessH P h.next hE hW:=by
 unfold znt at e
 unfold xL
 split at e
 rotate_left
 · cases e
 rename_i el hu
 split at e
 rotate_left
 · cases e
 split at e
 rotate_left
 · cases e
 rename_i k1 l k2 c
 split at e
 · cases e
 rename_i i hi
 split at e
 · cases e
 rename_i z hz
 split at e
 · cases e
 rename_i hb
 rw [Bool.and_eq_true,Bool.and_eq_true] at hb
 cases e
 have h1:=Nat.eq_of_beq_eq_true hb.1.1
 have h2:=Nat.eq_of_beq_eq_true hb.1.2
 have hlen:(zD z.cells c.toNat).length=c.toNat:=by rw [zE,h2,Nat.mul_one]
 refine ⟨_,newCells h el (zD z.cells c.toNat) false,_,?_,rfl,?_⟩
 · simp only [hu,qe,hi,hz]
   rw [if_pos ⟨hp.1,hp.2.1,hp.2.2.1,hp.2.2.2,by omega,by omega,hb.2⟩]
 · unfold newCells
   rw [hlen]
   refine .new rfl rfl (xF fun k v hk e=>zbZ hlen (fun k v hk e=>?_) k v hk e)
   match hc:z.cells,h2 with
   | [y],_ =>
    rw [hc] at e
    cases e
    exact qY _ _ _ hk
theorem zlG {h:AHeap}{id:Nat}{o:AObj}(e:h.get id=some o):h.put id o=h:=by
 obtain ⟨objs,next,glob⟩:=h
 show AHeap.mk (objs.set (some o) id) next glob=_
 rw [T.set_same' e]
theorem zgk {moved:Bool}{h:AHeap}{t:TypeId}{zeros:Bool}{s x:AV}{r:AR}{p:Prop}(e:zeS P moved h t zeros s x=some (r,p))(hp:p):∃ id v hE hW,zaI P h t zeros s x=some (v,hE)∧r=.val v hW∧LessH P id hE hW∧(id=h.next∨vZ s=some id):=by
 unfold zeS at e
 unfold zaI
 split at e
 rotate_left
 · cases e
 rename_i el hu
 simp only [hu]
 unfold zbN
 split at e
 · cases e
 rename_i i hi
 split at e
 · cases e
 rename_i z hz
 split at e
 · cases e
 rename_i hb
 rw [Bool.and_eq_true,Bool.and_eq_true] at hb
 have hs0:0<i.size:=Nat.le_of_ble_eq_true hb.1.1
 have hz1:=Nat.eq_of_beq_eq_true hb.1.2
 split at e
 · cases e
 rename_i n f q hsrc
 simp only [hi,hz]
 split at e
 ·
  unfold zlZ at e
  cases e
  obtain ⟨new,h1,h2,h3,h4,h5⟩:=zad hz1 hb.2 hsrc hp.1
  simp only [xO,h1]
  rw [if_pos ⟨hs0,hz1,hb.2,h2,h3,h4⟩]
  obtain ⟨n,rfl⟩:∃ k,n=k+1:=⟨n - 1,by have:=hp.2.1; omega⟩
  simp only [qs,x9,Nat.zero_add,yX]
  rw [if_pos hp.2.2,if_pos ⟨rfl,by simp⟩]
  refine ⟨_,_,_,_,rfl,rfl,?_,.inl rfl⟩
  unfold newCells
  rw [List.nil_append,h3]
  exact .new rfl rfl (xF fun k v hk e=>zbZ h3 h5 k v hk e)
 · rename_i id ver off sLen cap
   split at e
   ·
    unfold ze5 at e
    split at e
    rotate_left
    · cases e
    rename_i c m el' lo hi' nv fz sg ex ho
    split at e
    · cases e
    rename_i e0 he
    cases hb':(Nat.ble lo ver&&Nat.ble ver hi') with
    | false=>rw [hb'] at e; cases e
    | true =>
     rw [hb'] at e
     simp only [cond_true,Option.some.injEq,Prod.mk.injEq] at e
     obtain ⟨rfl,rfl⟩:=e
     obtain ⟨b1,b2⟩:=zpc hb'
     obtain ⟨p1,p2,p3,p4,p5⟩:=hp
     obtain ⟨new,h1,h2,h3,h4,h5⟩:=zad hz1 hb.2 hsrc p1
     simp only [xO,h1]
     rw [if_pos ⟨hs0,hz1,hb.2,h2,h3,h4⟩]
     cases n with
     | zero =>
      have hv:lo=ver∧hi'=ver:=by
       revert p5
       cases hq:(Nat.beq lo ver&&Nat.beq hi' ver) with
       | true =>
        intro _
        rw [Bool.and_eq_true] at hq
        exact ⟨Nat.eq_of_beq_eq_true hq.1,Nat.eq_of_beq_eq_true hq.2⟩
       | false=>exact fun h=>absurd h (Nat.lt_irrefl 0)
      obtain ⟨rfl,rfl⟩:=hv
      have hm:m=e0:=by
       unfold zF at he
       rw [if_pos rfl] at he
       exact Option.some.inj he
      subst hm
      simp only [wA]
      rw [if_pos (by omega)]
      refine ⟨id,_,_,_,rfl,rfl,?_,.inr rfl⟩
      have hl:LessH P id (h.put id (.cells c m el' hi' hi' nv fz sg ex)) (h.put id (.cells (zeg c (off+sLen*i.size) (0*i.size) f) m el' hi' hi' nv fz sg ex)):=by
       refine .put rfl rfl (xF fun k v _ e=>?_)
       have:=zbY (vs:=[]) (by simp) (fun k v hk=>by simp at hk) k v e
       rwa [zw] at this
      rwa [zlG ho] at hl
     | succ n =>
      obtain ⟨g1,g2⟩:=qS (P:=P) ho he b1 b2 p3 p4 h3 h2 h5
      simp only [qs,if_pos p2,zca,g1]
      exact ⟨_,_,_,_,rfl,rfl,g2,.inr rfl⟩
   ·
    unfold zmy at e
    split at e
    · cases e
    rename_i g q' hrow
    cases e
    obtain ⟨p1,p2,p3,p4,p5⟩:=hp
    obtain ⟨new,h1,h2,h3,h4,h5⟩:=zad hz1 hb.2 hsrc p1
    obtain ⟨old,o1,o2,o3,o4⟩:=zax hrow p2
    simp only [xO,h1]
    rw [if_pos ⟨hs0,hz1,hb.2,h2,h3,h4⟩]
    obtain ⟨n,rfl⟩:∃ k,n=k+1:=⟨n - 1,by omega⟩
    simp only [qs,if_neg (Nat.not_le.2 p4),x9,yX,o1]
    rw [if_pos p5,if_pos ⟨o2,o3⟩]
    refine ⟨_,_,_,_,rfl,rfl,?_,.inl rfl⟩
    unfold newCells
    rw [List.length_append,o3,h3]
    refine .new rfl rfl (xF fun k v hk e=>zbZ (by rw [List.length_append,o3,h3]) (fun k v hk e=>?_) k v hk e)
    cases hq:Nat.blt k (sLen*i.size) with
    | true =>
     rw [hq] at e
     have hlt:k<sLen*i.size:=Nat.le_of_ble_eq_true hq
     rw [List.getElem?_append_left (by omega)]
     exact o4 k v hlt e
    | false =>
     rw [hq] at e
     have hge:¬ k<sLen*i.size:=fun h=>by rw [show Nat.blt k (sLen*i.size)=true from Nat.ble_eq_true_of_le h] at hq; cases hq
     rw [List.getElem?_append_right (by omega),o3]
     exact h5 _ v (by omega) e
 · rename_i id ver off sLen st
   split at e
   ·
    unfold zoR at e
    split at e
    rotate_left
    · cases e
    rename_i c m el' lo hi' nv fz sg ex ho
    split at e
    · cases e
    rename_i e0 he
    cases hb':(Nat.ble lo ver&&Nat.ble ver hi'&&Nat.beq el' el&&Nat.blt hi' nv) with
    | false=>rw [hb'] at e; cases e
    | true =>
     rw [hb'] at e
     simp only [cond_true,Option.some.injEq,Prod.mk.injEq] at e
     obtain ⟨rfl,rfl⟩:=e
     rw [Bool.and_eq_true,Bool.and_eq_true] at hb'
     obtain ⟨⟨hb1,hb2⟩,hb3⟩:=hb'
     obtain ⟨b1,b2⟩:=zpc hb1
     have b3:=Nat.eq_of_beq_eq_true hb2
     have b4:hi'<nv:=Nat.le_of_ble_eq_true hb3
     obtain ⟨p1,p2,p3,p4,p5,p6,p7⟩:=hp
     obtain ⟨new,h1,h2,h3,h4,h5⟩:=zad hz1 hb.2 hsrc p1
     simp only [xO,h1]
     rw [if_pos ⟨hs0,hz1,hb.2,h2,h3,h4⟩]
     obtain ⟨n,rfl⟩:∃ k,n=k+1:=⟨n - 1,by omega⟩
     have hkn:ye h el i.size id ver off st sLen (sLen+(n+1)) new=none:=by
      simp only [ye,ho,he]
      rw [if_neg (fun hc=>by have:=hc.1; omega)]
     simp only [qs,hkn]
     simp only [wC,ho,he]
     rw [if_pos ⟨b1,b2,p3,p4,b3,p5,b4,p6⟩]
     split
     · rename_i hc
       rw [T.seq_eq,T.seq_eq]
       refine ⟨id,_,_,_,rfl,rfl,?_,.inr rfl⟩
       rw [h3]
       refine .put rfl rfl (zbs (fun k v _ e=>zbY h3 h5 k v e) (by omega) (Nat.le_refl _) fun r e q1 q2 q3=>?_)
       obtain rfl:r=nv:=by omega
       unfold zF at q3 ⊢
       rw [if_pos rfl] at q3 ⊢
       exact q3
     · rw [T.seq_eq]
       refine ⟨id,_,_,_,rfl,rfl,?_,.inr rfl⟩
       rw [h3]
       exact .put rfl rfl (xF fun k v _ e=>zbY h3 h5 k v e)
   ·
    unfold zmt at e
    split at e
    rotate_left
    · cases e
    rename_i c m el' lo hi' nv fz sg ex ho
    split at e
    · cases e
    rename_i e0 he
    cases hb':(Nat.ble lo ver&&Nat.ble ver hi'&&Nat.beq el' el) with
    | false=>rw [hb'] at e; cases e
    | true =>
     rw [hb'] at e
     simp only [cond_true,Option.some.injEq,Prod.mk.injEq] at e
     obtain ⟨rfl,rfl⟩:=e
     rw [Bool.and_eq_true] at hb'
     obtain ⟨hb1,hb2⟩:=hb'
     obtain ⟨b1,b2⟩:=zpc hb1
     obtain rfl:=Nat.eq_of_beq_eq_true hb2
     obtain ⟨p1,p2,p3,p4,p5,p6⟩:=hp
     obtain ⟨new,h1,h2,h3,h4,h5⟩:=zad hz1 hb.2 hsrc p1
     simp only [xO,h1]
     rw [if_pos ⟨hs0,hz1,hb.2,h2,h3,h4⟩]
     obtain ⟨n,rfl⟩:∃ k,n=k+1:=⟨n - 1,by omega⟩
     obtain ⟨g1,g2⟩:=qS (P:=P) ho he b1 b2 p4 p5 h3 h2 h5
     simp only [qs,ye,ho,he]
     rw [if_pos ⟨p3,b1,b2,trivial,p6⟩]
     simp only [g1]
     exact ⟨id,_,_,_,rfl,rfl,g2,.inr rfl⟩
 · cases e
theorem zhR {h:AHeap}{t:TypeId}{x:AV}{r:AR}{p:Prop}(e:zgW P h t x=some (r,p))(hp:p):∃ id hE hW,zdl P h t x=some hE∧r=.val (.tup []) hW∧LessH P id hE hW∧vZ x=some id:=by
 unfold zgW at e
 split at e
 rotate_left
 · cases e
 rename_i el hu
 split at e
 · cases e
 rename_i z hz
 split at e
 · cases e
 rename_i ha
 have hez:qr P t=some z:=by unfold qr; rw [hu]; exact hz
 have key:∀ {id ver off n:Nat},wX h id ver off (n*z.cells.length) (fun k=>z.cells[k % z.cells.length]?) (fun h=>.val (.tup []) h) (0<n)=some (r,p) →
  ∃ hE hW,vB h (qr P t) id ver off n=some hE∧r=.val (.tup []) hW∧LessH P id hE hW:=by
  intro id ver off n e
  obtain ⟨hE,hW,g1,g2,g3⟩:=v6 (P:=P) e hp (vs:=zD z.cells n) (zE _ _) (zaB ha n) (fun k v hk hf=>by rw [vz _ _ _ hk]; exact hf)
  have hn:=zbO e hp
  obtain ⟨m,rfl⟩:∃ m,n=m+1:=⟨n - 1,by omega⟩
  refine ⟨hE,hW,?_,g2,g3⟩
  unfold vB
  rw [hez]
  exact g1
 unfold zdl
 simp only [hu]
 split at e
 · rename_i id ver off n c
   obtain ⟨hE,hW,g1,g2,g3⟩:=key e
   exact ⟨id,hE,hW,g1,g2,g3,rfl⟩
 · rename_i id ver off n c
   obtain ⟨hE,hW,g1,g2,g3⟩:=key e
   exact ⟨id,hE,hW,g1,g2,g3,rfl⟩
 · cases e
def zbj (ρ:Operand→Option AV) (o:Op):List AV:=o.operands.toList.filterMap ρ
theorem zbv {ρ:Operand→Option AV}{o:Op}{x:Operand}{v:AV}(hx:x∈o.operands)(hv:ρ x=some v):v∈zbj ρ o :=
 List.mem_filterMap.2 ⟨x,by simpa using hx,hv⟩
theorem zaq {ρ:Operand→Option AV}{c:Call}{args:List AV}(ha:qn ρ c.args.toList=some args){v:AV}(hv:v∈args):v∈zbj ρ (.call c):=by
 obtain ⟨h1,h2⟩:=qX ha
 obtain ⟨i,hi,rfl⟩:=List.getElem_of_mem hv
 have hlt:i<c.args.toList.length:=by omega
 obtain ⟨b,hb1,hb2⟩:=h2 i _ (List.getElem?_eq_getElem hlt)
 rw [List.getElem?_eq_getElem hi] at hb1
 cases hb1
 refine zbv (x:=c.args.toList[i]) ?_ hb2
 show _∈c.operands
 unfold Call.operands
 exact Array.mem_append.2 (.inr (by simp))
theorem zph {moved:Bool}{ρ:Operand→Option AV}{h:AHeap}{o:Op}{r:AR}{p:Prop}(e:opW P moved ρ h o=some (r,p))(hp:p):(∀ c,o≠.defer c)∧∃ rE,opA P ρ h o=some rE∧zkk P h (zbj ρ o) rE r:=by
 unfold opW at e
 split at e
 · rename_i t a x
   unfold zkd at e
   split at e
   · cases e
   rename_i v1 h1
   split at e
   · cases e
   rename_i v2 h2
   obtain ⟨id,hE,hW,g1,g2,g3,g4⟩:=zel e hp
   refine ⟨fun c h=>(by cases h),.skip hE,?_,id,.inr ⟨v1,zbv (x:=a) (by simp [Op.operands]) h1,g4⟩,.inr ⟨_,_,rfl,g2,g3⟩⟩
   show jK P t a x ρ h=_
   simp only [jK,two,h1,h2,g1,zei]
 · rename_i t l c
   unfold zkd at e
   split at e
   · cases e
   rename_i v1 h1
   split at e
   · cases e
   rename_i v2 h2
   obtain ⟨v,hE,hW,g1,g2,g3⟩:=zkx e hp
   refine ⟨fun c h=>(by cases h),.val v hE,?_,_,.inl rfl,.inl ⟨_,_,_,rfl,g2,g3⟩⟩
   show xq P t l c ρ h=_
   simp only [xq,two,h1,h2,g1,za7]
 · rename_i c
   refine ⟨fun c h=>(by cases h),?_⟩
   split at e
   · cases e
   rename_i args ha
   split at e
   rotate_left
   · cases e
   rename_i b hc
   show ∃ rE,zch P c ρ h=some rE∧_
   simp only [zch,xZ,ha,hc]
   split at e
   · split at e
     · cases e
     rename_i t ht
     split at e
     · cases e
     rename_i u hu
     split at e
     · cases e
     rename_i z hz
     split at e
     · cases e
     rename_i s x hx
     obtain ⟨id,v,hE,hW,g1,g2,g3,g4⟩:=zgk e hp
     refine ⟨.val v hE,?_,id,g4.imp (fun h=>h) (fun h=>⟨s,zaq ha (by rw [wD hx]; simp),h⟩),.inl ⟨_,_,_,rfl,g2,g3⟩⟩
     simp only [yw,qk,yA,zb0,ht,hu,hz,hx,g1,za7]
   · split at e
     · cases e
     rename_i t ht
     split at e
     · cases e
     rename_i d s hx
     obtain ⟨id,v,hE,hW,g1,g2,g3,g4⟩:=zli e hp
     refine ⟨.val v hE,?_,id,.inr ⟨d,zaq ha (by rw [wD hx]; simp),g4⟩,.inl ⟨_,_,_,rfl,g2,g3⟩⟩
     simp only [yw,qk,yA,zkP,ht,hx,g1,za7]
   · split at e
     · cases e
     rename_i t ht
     split at e
     rotate_left
     · cases e
     rename_i x
     obtain ⟨id,hE,hW,g1,g2,g3,g4⟩:=zhR e hp
     refine ⟨.val (.tup []) hE,?_,id,.inr ⟨x,zaq ha (by simp),g4⟩,.inl ⟨_,_,_,rfl,g2,g3⟩⟩
     simp only [yw,qk,yA,zft,zdY,ht,g1,zgJ]
   · cases e
 · cases e
theorem OpRel.less {B:Base}{R:Bij}{h:AHeap}{w:World}{s:Sem Next}{ρ:Operand→Option AV}{ρ':Operand→Value}{o:Op}{rE r:AR}(k:HRel P B R h w)(hρ:∀ x∈o.operands,∀ v,ρ x=some v→VRel R v (ρ' x))(hl:zkk P h (zbj ρ o) rE r)(e:OpRel P B R w s rE):OpRel P B R w s r:=by
 obtain ⟨id,hid,hl⟩:=hl
 have hp:B.pend id=none:=by
  cases hb:B.pend id with
  | none=>rfl
  | some x =>
   obtain ⟨h1,_,h3⟩:=k.pend id x hb
   rcases hid with rfl | ⟨v,hv,hd⟩
   · exact absurd h1 (Nat.lt_irrefl _)
   · obtain ⟨y,hy,hyv⟩:=List.mem_filterMap.1 hv
     obtain ⟨r,L,hL⟩:=vj (hρ y (by simpa using hy) v hyv) hd
     rw [h3 r] at hL
     cases hL
 rcases hl with ⟨v,hE,hW,rfl,rfl,hless⟩ | ⟨hE,hW,rfl,rfl,hless⟩
 · obtain ⟨R',v',w',r1,r2,r3,r4⟩:=e
   exact ⟨R',v',w',r1,r2,r3.less hless hp,r4⟩
 · obtain ⟨R',w',r1,r3,r4⟩:=e
   exact ⟨R',w',r1,r3.less hless hp,r4⟩
end
section
variable {P:Program} {w0:Env} {base:List Frame} {B:Base} {R:Bij} {af:AFrame} {rest:List AFrame} {h:AHeap} {fr:Frame} {fs:List Frame} {w:World}
theorem zdy [XT P] [XTOk P] (k:Wait P w0 base B R af rest h fr fs w) {ops:Array Oper} {i:Nat} {s':List Nat} {k':List Item} (ht:fr.todo=.inRegion ops (i::s')::k') {o:Oper} (ho:ops[i]?=some o)
 (hops:∀ x∈o.op.operands,∀ v,ev af.tmps x=some v→VRel R v (fr.eval x))
 (hgu:∀ g b q u v,o.guard=some (g,b)→ops[g]?=some q→q.dst=some u→af.tmps.get u=some v→∃ x,fr.tmps[u]?=some x∧VRel R v x)
 (hwt:zU ops.toList af.tmps o.guard=some true) (hnd:∀ c,o.op≠.defer c) {rE r:AR} (hE:opA P (ev af.tmps) h o.op=some rE) (hl:zkk P h (zbj (ev af.tmps) o.op) rE r)
 {m:AM} (e:zlS P af rest h r=some m):zbQ P w0 base m fr (fs++base) w:=by
 have hm:=wrun k
 have hw:=kG hwt hgu
 have hop:=OpRel.less k.heap hops hl (zfA k.heap k.room hops hE)
 have hoper:(stepG P true { frame:=fr,callers:=fs++base,status:=.running,dying:=none } w)=stepG.oper P true fr (fs++base) none w:=by
  simp only [stepG,stepG.exec,hm,ht,ho,hw,Option.map_some,Option.getD_some,if_true]
 have hst:(stepG P true { frame:=fr,callers:=fs++base,status:=.running,dying:=none } w)=stepG.apply P true fr (fs++base) none (execOp fr.eval o) w:=by
  rw [hoper]
  simp only [stepG.oper,Frame.oper?,ht,ho]
  split
  · rename_i _ c _ hc
    exact absurd hc (hnd c)
  · rfl
 obtain ⟨id,hid,hl⟩:=hl
 rcases hl with ⟨v,hE,hW,rfl,rfl,hless⟩ | ⟨hE,hW,rfl,rfl,hless⟩
 · obtain ⟨a,b,c,h1,h2⟩:=wI k hop (by simp) (by simp) (by simp) (by rw [hst]) ⟨_,_,_,_,ht⟩ e
   exact ⟨a,b,c,h1,h2⟩
 · obtain ⟨a,b,c,h1,h2⟩:=wI k hop (by simp) (by simp) (by simp) (by rw [hst]) ⟨_,_,_,_,ht⟩ e
   exact ⟨a,b,c,h1,h2⟩
theorem ziU [XT P] [XTOk P] {all:List Oper} {o:Oper} (k:Plain P w0 base B R af rest h fr fs w) (hto:jw af=some (all,o)) (hac:zhv P af o=true) (hwt:zU all af.tmps o.guard=some true) (hnd:∀ c,o.op≠.defer c) {rE r:AR}
 (hE:opA P (ev af.tmps) h o.op=some rE) (hl:zkk P h (zbj (ev af.tmps) o.op) rE r) {m:AM} (e:zlS P af rest h r=some m):zbQ P w0 base m fr (fs++base) w:=by
 have hm:=zl9 k
 have htop:TodoRel P B R rest.length false h af.todo af.tmps fr.todo fr.tmps:=by
  have:=k.top.top
  rw [k.run] at this; exact this
 unfold jw at hto
 split at hto
 · rename_i all' o' l kk htodo
   cases hto
   rw [htodo] at htop
   obtain ⟨⟨_,kk',hfr,⟨ops,todo,rfl,rfl,hmap⟩,hk⟩,hs⟩:=htop
   cases todo with
   | nil=>simp at hmap
   | cons i todo =>
    simp only [List.map_cons,List.cons.injEq] at hmap
    have hw:Wait P w0 base B R af rest h fr fs w:=⟨k.heap,k.base,k.old,by
     obtain ⟨k1,k2,k3,k4,k5,k6,k7,k8,k9⟩:=k.top
     refine ⟨k1,k2,k3,k4,k5,k6,k7,k8,?_⟩
     have hr:=k.run
     obtain ⟨fn,n,t,td,ds,mode,kind,round⟩:=af
     simp only at hr htodo; subst hr; subst htodo
     exact ⟨⟨_,kk',hfr,⟨ops,_,rfl,rfl,by simp only [List.map_cons,List.cons.injEq]; exact hmap⟩,hk⟩,hs⟩,k.run,k.below⟩
    exact zdy hw hfr hmap.1.symm (fun x _ v hv=>vA (fun u _ hu=>hs u v hu) hv) (fun g b q u v _ _ _ hv=>hs u v hv) hwt hnd hE hl e
 · rename_i all' i l dn kk htodo
   split at hto
   · cases hto
   rename_i o' ho
   cases hto
   rw [htodo] at htop
   obtain ⟨s,k',hfr,hk,hd⟩:=htop
   unfold zhv at hac
   rw [htodo] at hac
   have hroom:B.n≤w.heap.size:=by show B.env.heap.size≤_; rw [k.base]; exact k.old.size
   have hrun:=k.run
   have htopf:=k.top
   obtain ⟨fn,n,t,td,ds,mode,kind,round⟩:=af
   simp only at htodo hrun hd; subst htodo; subst hrun
   have hidn:i ∉ dn:=fun hi=>(List.nodup_append.1 hd.facts.2.2.2.2.1).2.2 i (by simpa using hi) i List.mem_cons_self rfl
   obtain ⟨k1,k2,k3,k4,k5,k6,k7,k8,k9⟩:=htopf
   have hem:(zQ P all'.toList).em.testBit i=true:=by rw [hd.plan.em i o ho]; exact hac
   obtain ⟨B',R',w',a',s',g1,g2,g3,g4,g5,g6,g7⟩:=hd.catch_up hem s k.heap hroom hm hfr (fs++base)
   have hw:Wait P w0 base B' R' ⟨fn,n,t,.drw all' (i::l) dn::kk,ds,.run,kind,round⟩ rest h { fr with tmps:=a',todo:=.inRegion all' (i::s')::k' } fs w' :=
    ⟨g5,g3.1.trans k.base,k.old.keeps k.base k.heap g6,⟨k1,k2,k3,k4,k5.mono g4,k6.mono fun _ _ q=>q.mono g4,k7.mono g4,g2.trans k8,i::s',k',rfl,hk.mono fun _ _ q=>q.mono g4,g7.suspend hem⟩,rfl,k.below.mono g4 g3 (Nat.le_refl _)⟩
   have hreads:=g7.reads ho hidn
   obtain ⟨fr',cs',w2,s1,s2⟩:=zdy hw rfl ho (fun x hx v hv=>vA (fun u hu he=>hreads u v (by rw [hu] at hx; exact xx hx) he) hv)
    (fun g b q u v hg hq hu hv=>hreads u v (yf hg (by simpa using hq) hu) hv) hwt hnd hE hl e
   exact ⟨fr',cs',w2,g1.trans s1,s2⟩
 · cases hto
end
section
variable {P:Program}
theorem zhO [XT P] [XTOk P] {keep:Nat} {f0:FuncId} {Q:AV→AHeap→Prop} {moved:Bool} {m:AM} {K:AM→Prop} (e:OpWK P moved m K) (hK:∀ m,K m→Goal P keep f0 Q m):Goal P keep f0 Q m:=by
 intro w0 base cfr cs w hk s
 obtain ⟨fr,rest,h⟩:=m
 unfold OpWK at e
 simp only at e
 split at e
 rotate_left
 · exact e.elim
 rename_i hm
 split at e
 · exact e.elim
 rename_i all o ho
 split at e
 rotate_left
 · exact e.elim
 rename_i hw
 split at e
 · exact e.elim
 rename_i hac
 split at e
 · exact e.elim
 rename_i r p hop
 obtain ⟨hp,e⟩:=e
 obtain ⟨hnd,rE,g1,g2⟩:=zph hop hp
 obtain ⟨m',h1,h2⟩:=yk e
 obtain ⟨B,R,fs,rfl,hb,kh,ho',kt,kb⟩:=s
 obtain ⟨fr1,cs1,w1,s1,k1⟩:=ziU (af:=fr) (rest:=rest) (h:=h) ⟨kh,hb,ho',kt,hm,kb⟩ ho hac hw hnd g1 g2 h1
 obtain ⟨fr',w',B,R,v,v',h',s2,g⟩:=hK _ h2 w0 base fr1 cs1 w1 hk k1
 exact ⟨fr',w',B,R,v,v',h',s1.trans s2,g⟩
end
end Go.Proofs.YtdbfpjgnlfejmaaDoor.Ev
end
section
namespace Go.Proofs.YtdbfpjgnlfejmaaDoor.Ev
open Go
noncomputable section
variable (P:Program)
def xk (n:Nat) (c' c:T AV):Prop:=∀ k v,k<n→c'.get k=some v→c.get k=some v
def znq (id:Nat) (c':T AV) (z':Nat) (m:AM) (K:AM→Prop):Prop:=match m with
 | ⟨⟨fn,n,t,todo,ds,mode,kind,round⟩,rest,⟨objs,next,glob⟩⟩=>match rest with
  | _::_=>False
  | []=>match todo with
   | .drw _ _ _::_=>False
   | todo=>match objs.get id with
    | some (.cells c z el lo hi nv fz sg ex)=>xk z' c' c∧z'=z∧K ⟨⟨fn,n,t,todo,ds,mode,kind,round⟩,[],⟨objs.set (some (.cells c' z' el lo hi nv fz sg ex)) id,next,glob⟩⟩
    | _=>False
def zhd (u:Nat) (p:List Nat) (id:Nat) (c':T AV) (z':Nat) (m:AM) (K:AM→Prop):Prop:=match m with
 | ⟨⟨fn,n,t,todo,ds,mode,kind,round⟩,rest,⟨objs,next,glob⟩⟩=>match mode with
  | .run=>match todo with
   | .drw _ _ _::_=>False
   | todo=>match t.get u with
    | none=>False
    | some v0=>match wit ⟨objs,next,glob⟩ p v0 with
     | none=>False
     | some v=>match vZ v with
      | none=>False
      | some j=>match Nat.beq j id with
       | false=>False
       | true=>match objs.get id with
        | some (.cells c z el lo hi nv fz sg ex)=>xk z' c' c∧z'=z∧K ⟨⟨fn,n,t,todo,ds,.run,kind,round⟩,rest,⟨objs.set (some (.cells c' z' el lo hi nv fz sg ex)) id,next,glob⟩⟩
        | _=>False
  | _=>False
def zcg (h:AHeap) (id ver off k:Nat) (l:List UInt8):Option Prop:=match h.get id with
 | some (.cells c n _ lo hi _ _ _ ex)=>match zF ex n hi ver with
  | some e=>bif Nat.ble lo ver&&Nat.ble ver hi then some (off+k≤e∧zK (zu c off k)=some (.str l)) else none
  | none=>none
 | _=>none
def zmn (h:AHeap) (l:List UInt8) (v:AV):Option Prop:=match v with
 | .slc id ver off len _=>zcg h id ver off len l
 | .slg id ver off len _=>zcg h id ver off len l
 | _=>none
def zd8 (ρ:Operand→Option AV) (h:AHeap) (l:List UInt8) (o:Op):Option Prop:=match o with
 | .convert s d x=>match P.underlying s with
  | none=>none
  | some _=>match P.underlying d with
   | some .string=>match vV P d with
    | true=>none
    | false=>match yQ P s with
     | false=>none
     | true=>match ρ x with
      | none=>none
      | some v=>zmn h l v
   | _=>none
 | _=>none
def zj1 [XT P] (l:List UInt8) (m:AM) (K:AM→Prop):Prop:=match m with
 | ⟨fr,rest,h⟩=>match fr.mode with
  | .run=>match jw fr with
   | none=>False
   | some (all,o)=>match zU all fr.tmps o.guard with
    | some true=>zhP (zd8 P (ev fr.tmps) h l o.op) fun p=>p∧zkf P fr rest h (.val (.str l) h) K
    | _=>False
  | _=>False
def binV (ρ:Operand→Option AV) (b:AV) (o:Op):Option Prop:=match o with
 | .binOp op t x y _=>match ρ x with
  | none=>none
  | some v=>match ρ y with
   | none=>none
   | some w=>some (∀ h:AHeap,wO P h op t (zi x || zi y) v w=some b)
 | _=>none
def zmV [XT P] (v:AV) (m:AM) (K:AM→Prop):Prop:=match m with
 | ⟨fr,rest,h⟩=>match fr.mode with
  | .run=>match jw fr with
   | none=>False
   | some (all,o)=>match zU all fr.tmps o.guard with
    | some true=>zhP (binV P (ev fr.tmps) v o.op) fun p=>p∧zkf P fr rest h (.val v h) K
    | _=>False
  | _=>False
def mnzE (h : AHeap) (fn : Func) (args : List AV) : Option (AR × Prop) := match fn.origin == "" with
 | false=>none
 | true => match fn.name == "internal/abi.NoEscape" with
  | true=>none
  | false => match fn.name == "internal/bytealg.abigen_runtime_cmpstring" with
   | true=>none
   | false => match fn.name == "internal/bytealg.IndexByteString" with
    | true=>none
    | false => match fn.name == "internal/bytealg.CountString" with
     | true=>none
     | false => match fn.name == "internal/bytealg.MakeNoZero" with
      | false=>none
      | true=>match fn.resultTypes[0]? with
       | none=>none
       | some t=>match P.underlying t with
        | some (.slice el)=>match args with
         | [.int .i64 n]=>some (.val (.slg h.next 0 0 n.toNat 0) (h.new (.cells .leaf n.toNat el 0 0 1 0 false .leaf)),0≤n∧n<2 ^ 40∧P.cellsOf el=1)
         | _=>none
        | _=>none
def zn3 (h:AHeap) (u:TypeId) (l:List UInt8) (p n:AV):Option (AR × Prop):=match n with
 | .int .i64 k=>match p with
  | .ptr id ver off=>match h.get id with
   | some (.cells c m el lo hi nv fz sg ex)=>match zF ex m hi ver with
    | none=>none
    | some e=>match Nat.ble lo ver&&Nat.ble ver hi with
     | false=>none
     | true=>match Nat.beq off 0&&Nat.beq el u&&!sg with
      | false=>none
      | true=>some (.val (.str l) (h.put id (.cells c m el lo hi nv (max fz k.toNat) sg ex)),0<k∧k<2 ^ 40∧k.toNat≤e∧P.cellsOf el=1∧zK (zu c 0 k.toNat)=some (.str l))
   | _=>none
  | _=>none
 | _=>none
def extW (ρ:Operand→Option AV) (h:AHeap) (l:List UInt8) (o:Op):Option (AR × Prop):=match o with
 | .call c=>match qn ρ c.args.toList with
  | none=>none
  | some args=>match c.callee with
   | .value f=>match ρ f with
    | some (.fn (.func g) first cap)=>match P.funcs[g]? with
     | none=>none
     | some fn=>match fn.body with
      | some _=>none
      | none=>mnzE P h fn ((first++args)++cap)
    | _=>none
   | .builtin .unsafeString=>match c.argTypes[0]? with
    | none=>none
    | some t=>match wQ P t with
     | none=>none
     | some el=>match kM P el with
      | false=>none
      | true=>match zlt args with
       | none=>none
       | some (p,n)=>zn3 P h el l p n
   | _=>none
 | _=>none
def ExtK [XT P] (l:List UInt8) (m:AM) (K:AM→Prop):Prop:=match m with
 | ⟨fr,rest,h⟩=>match fr.mode with
  | .run=>match jw fr with
   | none=>False
   | some (all,o)=>match zU all fr.tmps o.guard with
    | some true=>match extW P (ev fr.tmps) h l o.op with
     | none=>False
     | some (r,p)=>p∧zkf P fr rest h r K
    | _=>False
  | _=>False
def zk2 (f:FuncId) (args:List AV) (h:AHeap) (v:AV) (H:AHeap):Prop :=
 ∀ (B:Base) (R:Bij) (w:World) (args':List Value),HRel P B R h w→B.n≤w.heap.size→VRels R args args' →
  Calls P f args'.toArray w fun e w'=>∃ R' v',e=.returned v'∧VRel R' v v'∧HRel P B R' ⟨H.objs,H.next,h.glob⟩ w'∧Keeps R w R' w'
def AskK [XT P] (v:AV) (H:AHeap) (m:AM) (K:AM→Prop):Prop:=match m with
 | ⟨fr,rest,h⟩=>match fr.mode with
  | .run=>match jw fr with
   | none=>False
   | some (all,op)=>match zU all fr.tmps op.guard with
    | some true=>match opA P (ev fr.tmps) h op.op with
     | some (.enter f args h0)=>zk2 P f args h0 v H∧zkf P fr rest h (.val v ⟨H.objs,H.next,h0.glob⟩) K
     | _=>False
    | _=>False
  | _=>False
def CapK (id k:Nat) (m:AM) (K:AM→Prop):Prop:=match m with
 | ⟨⟨fn,n,t,todo,ds,mode,kind,round⟩,rest,⟨objs,next,glob⟩⟩=>match rest with
  | _::_=>False
  | []=>match todo with
   | .drw _ _ _::_=>False
   | todo=>match objs.get id with
    | some (.cells c z el lo hi nv fz sg ex)=>match c.get k with
     | some (.slg i r o l _st)=>0<l∧∀ cap,l≤cap→K ⟨⟨fn,n,t,todo,ds,mode,kind,round⟩,[],⟨objs.set (some (.cells (c.set (some (.slc i r o l cap)) k) z el lo hi nv fz sg ex)) id,next,glob⟩⟩
     | _=>False
    | _=>False
def zf (f:FuncId) (args:List AV) (H:AHeap):AM:=match qK P f args .normal with
 | some a=>⟨a,[],H⟩
 | none=>⟨⟨0,0,.leaf,[],[],.run,.normal,none⟩,[],H⟩
inductive Cmd where
 | run (n:Nat)
 | br (b:Bool)
 | know (u:Nat) (b:Bool)
 | slot (u:Nat) (v:AV)
 | op
 | res (r:AR)
 | step
 | can (keep:Nat) (ids us:List Nat) (uss:List (List Nat))
 | keep (us:List Nat)
 | call (us:List Nat) (Q:AV→Prop)
 | callv (us:List Nat) (v:AV)
 | callh (l:List (Nat × Nat × List Nat)) (us:List Nat) (v:AV) (H:AHeap)
 | told (id:Nat) (c:T AV) (n:Nat)
 | tolds (u:Nat) (p:List Nat) (id:Nat) (c:T AV) (n:Nat)
 | cap (id k:Nat)
 | bytes (l:List UInt8)
 | ext (l:List UInt8)
 | isv (v:AV)
 | ask (v:AV) (H:AHeap)
 | opw (moved:Bool)
 | done
def cmdK [XT P] (f0:FuncId) (Q:AV→AHeap→Prop) (keep:Nat) (c:Cmd) (m:AM) (K:AM→Prop):Prop:=match c with
 | .run n=>zhP (runN P n m) K
 | .br b=>Br b m K
 | .know u b=>Know u b m K
 | .slot u v=>Slot u v m K
 | .op=>OpK P m K
 | .res x=>ResK P x m K
 | .step=>zmT P m K
 | .keep us=>znl us m K
 | .can k ids us uss=>bif Nat.ble keep k then CanP k ids us uss m K else False
 | .call us q=>zjH P us q m K
 | .callv us v=>zmJ P us v m K
 | .callh l us v H=>znF P l us v H m K
 | .told id c n=>znq id c n m K
 | .tolds u p id c n=>zhd u p id c n m K
 | .cap id k=>CapK id k m K
 | .bytes l=>zj1 P l m K
 | .isv v=>zmV P v m K
 | .ext l=>ExtK P l m K
 | .opw b=>OpWK P b m K
 | .ask v H=>AskK P v H m K
 | .done=>zpY P f0 Q m
def Obl [XT P] (f0:FuncId) (Q:AV→AHeap→Prop) (keep:Nat) (K:AM→Prop) (l:List Cmd):AM→Prop :=
 List.rec (motive:=fun _=>AM→Prop) K (fun c _ ih m=>cmdK P f0 Q keep c m ih) l
end
section
variable {P:Program}
theorem zf5 {keep:Nat}{f0:FuncId}{Q:AV→AHeap→Prop}{id:Nat}{c':T AV}{z':Nat}{m:AM}{K:AM→Prop}(e:znq id c' z' m K)(hK:∀ m,K m→Goal P keep f0 Q m):Goal P keep f0 Q m:=by
 intro w0 base fr cs w hk s
 obtain ⟨⟨fn,n,t,todo,ds,mode,kind,round⟩,rest,⟨objs,next,glob⟩⟩:=m
 unfold znq at e
 simp only at e
 split at e
 · exact e.elim
 split at e
 · exact e.elim
 rename_i hn
 split at e
 rotate_left
 · exact e.elim
 rename_i c z el lo hi nv fz sg ex hobj
 obtain ⟨hle,rfl,e⟩:=e
 obtain ⟨B,R,fs,hc,hb,kh,ho,kt,kb⟩:=s
 generalize ho':AObj.cells c' z' el lo hi nv fz sg ex=o' at e
 let h':AHeap:=⟨objs.set (some o') id,next,glob⟩
 let B':Base:={ B with pend:=fun i=>match B.pend i with
  | none=>none
  | some _=>h'.get i }
 have hget:∀ i,h'.get i=if i=id then some o' else objs.get i:=fun i=>T.get_set ..
 have hpn:∀ i,B.pend i=none ↔ B'.pend i=none:=by
  intro i
  show _ ↔ (match B.pend i with
   | none=>none
   | some _=>h'.get i)=none
  cases hp:B.pend i with
  | none=>simp
  | some o =>
   have:=(kh.pend i o hp).2.1
   refine ⟨fun h=>(by cases h),fun h=>?_⟩
   simp only at h
   rw [hget] at h
   split at h
   · cases h
   · change objs.get i=some o at this; rw [this] at h; cases h
 refine hK _ e w0 base fr cs w hk ⟨B',R,fs,hc,hb,?_,ho,?_,kb⟩
 · refine ⟨kh.fresh,fun i o eo hpe=>?_,fun i o eo=>?_,kh.place,fun i hi=>⟨(kh.rd i hi).1,fun o eo=>?_⟩,fun i hi=>(hpn i).1 (kh.rp i hi),kh.rol,kh.low,kh.pin,kh.apart,kh.same,kh.glob⟩
   · have eo':h'.get i=some o:=eo
     rw [hget] at eo'
     split at eo'
     · rename_i hi
       subst hi
       cases eo'
       obtain ⟨a1,a2,a3,a4,a5⟩:ObjRel P R w i (.cells c z' el lo hi nv fz sg ex):=kh.obj i _ hobj ((hpn i).2 hpe)
       subst ho'
       refine ⟨a1,a2,a3,fun r e b1 b2 b3=>?_,a5⟩
       obtain ⟨L,h1,cs,a,b,g1,g2,g3,g4,g5⟩:=a4 r e b1 b2 b3
       exact ⟨L,h1,cs,a,b,g1,g2,g3,g4,fun q v q1 q2 q3=>g5 q v q1 q2 (hle q v (Nat.lt_of_lt_of_le q1 (a5 r e b1 b2 b3)) q3)⟩
     · exact kh.obj i o eo' ((hpn i).2 hpe)
   · change (match B.pend i with
      | none=>none
      | some _=>h'.get i)=some o at eo
     cases hp:B.pend i with
     | none=>rw [hp] at eo; cases eo
     | some o0 =>
      rw [hp] at eo
      exact ⟨(kh.pend i o0 hp).1,eo,(kh.pend i o0 hp).2.2⟩
   · have eo':h'.get i=some o:=eo
     rw [hget] at eo'
     split at eo'
     · rename_i hi'
       subst hi'
       have:=(kh.rd i hi).2 _ hobj
       cases this
     · exact (kh.rd i hi).2 o eo'
 · obtain ⟨k1,k2,k3,k4,k5,k6,k7,k8,k9⟩:=kt
   refine ⟨k1,k2,k3,k4,k5,k6,k7,k8,?_⟩
   cases mode with
   | run =>
    change TodoRel P B R 0 false _ todo t fr.todo fr.tmps at k9
    show TodoRel P B' R 0 false h' todo t fr.todo fr.tmps
    cases todo with
    | nil=>exact k9
    | cons it kk =>
     cases it with
     | drw a b c=>exact absurd rfl (hn a b c kk)
     | _=>exact k9
   | returning=>exact k9
   | panicking c=>exact k9
theorem zd5 {keep:Nat}{f0:FuncId}{Q:AV→AHeap→Prop}{u:Nat}{p:List Nat}{id:Nat}{c':T AV}{z':Nat}{m:AM}{K:AM→Prop}(e:zhd u p id c' z' m K)(hK:∀ m,K m→Goal P keep f0 Q m):Goal P keep f0 Q m:=by
 intro w0 base fr cs w hk s
 obtain ⟨⟨fn,n,t,todo,ds,mode,kind,round⟩,rest,⟨objs,next,glob⟩⟩:=m
 unfold zhd at e
 simp only at e
 split at e
 rotate_left
 · exact e.elim
 split at e
 · exact e.elim
 rename_i hn
 split at e
 · exact e.elim
 rename_i v0 hv0
 split at e
 · exact e.elim
 rename_i v hv
 split at e
 · exact e.elim
 rename_i j hj
 split at e
 · exact e.elim
 rename_i hji
 split at e
 rotate_left
 · exact e.elim
 rename_i c z el lo hi nv fz sg ex hobj
 obtain ⟨hle,rfl,e⟩:=e
 obtain rfl:=Nat.eq_of_beq_eq_true hji
 obtain ⟨B,R,fs,hc,hb,kh,ho,kt,kb⟩:=s
 obtain ⟨k1,k2,k3,k4,k5,k6,k7,k8,k9⟩:=kt
 change TodoRel P B R rest.length false _ todo t fr.todo fr.tmps at k9
 have hs:All2 (ItemRel R) todo fr.todo∧Slots R t fr.tmps:=by
  cases todo with
  | nil=>exact k9
  | cons it kk =>
   cases it with
   | drw a b c=>exact absurd rfl (hn a b c kk)
   | _=>exact k9
 obtain ⟨x,_,hx⟩:=hs.2 u v0 hv0
 obtain ⟨x',hx'⟩:=qB kh hv hx
 obtain ⟨r,L,hL⟩:=vj hx' hj
 have hp:B.pend j=none:=by
  cases hpj:B.pend j with
  | none=>rfl
  | some o=>have:=(kh.pend j o hpj).2.2 r; rw [this] at hL; cases hL
 have hless:LessH P j ⟨objs,next,glob⟩ ⟨objs.set (some (.cells c' z' el lo hi nv fz sg ex)) j,next,glob⟩ :=
  ⟨.cells c z' el lo hi nv fz sg ex,.cells c' z' el lo hi nv fz sg ex,hobj,rfl,rfl,fun i=>T.get_set ..,rfl,rfl,xF hle⟩
 refine hK _ e w0 base fr cs w hk ⟨B,R,fs,hc,hb,kh.less hless hp,ho,⟨k1,k2,k3,k4,k5,k6,k7,k8,?_⟩,kb.mono (fun _ _ _ h=>h) ⟨rfl,fun _ _ h _=>⟨h,rfl⟩⟩ (Nat.le_refl _)⟩
 show TodoRel P B R rest.length false _ todo t fr.todo fr.tmps
 cases todo with
 | nil=>exact hs
 | cons it kk =>
  cases it with
  | drw a b c=>exact absurd rfl (hn a b c kk)
  | _=>exact hs
theorem zgu {ρ:Operand→Option AV}{h:AHeap}{l:List UInt8}{o:Op}{p:Prop}(e:zd8 P ρ h l o=some p)(hp:p):opA P ρ h o=some (.val (.str l) h):=by
 unfold zd8 at e
 split at e
 rotate_left
 · cases e
 rename_i s d x
 split at e
 · cases e
 rename_i us hs
 split at e
 rotate_left
 · cases e
 rename_i hd
 split at e
 · cases e
 rename_i hsl
 split at e
 · cases e
 rename_i hb
 split at e
 · cases e
 rename_i v hv
 have key:∀ id ver off k,zcg h id ver off k l=some p→zK (zl h id ver off k)=some (.str l):=by
  intro id ver off k e
  unfold zcg at e
  split at e
  rotate_left
  · cases e
  rename_i c n el lo hi nv fz sg ex ho
  split at e
  rotate_left
  · cases e
  rename_i ee he
  cases hc:(Nat.ble lo ver&&Nat.ble ver hi) with
  | false=>rw [hc] at e; cases e
  | true =>
   rw [hc] at e
   simp only [cond_true,Option.some.injEq] at e
   subst e
   simp only [Bool.and_eq_true,Nat.ble_eq] at hc
   unfold zl
   rw [ho]
   simp only [he]
   rw [if_pos ⟨hc.1,hc.2,hp.1⟩]
   exact hp.2
 have conv:zgb P h s d v=some (.str l):=by
  unfold zgb
  rw [hs,hd]
  simp only [hb]
  unfold zmn at e
  split at e
  · rename_i id ver off len c
    show zK (zl h id ver off len)=_
    exact key _ _ _ _ e
  · rename_i id ver off len st
    show zK (zl h id ver off len)=_
    exact key _ _ _ _ e
  · cases e
 show qR ρ x (fun v=>zeR P h s d v)=_
 unfold qR
 rw [hv]
 show zeR P h s d v=_
 unfold zeR
 rw [hsl]
 show y5 h (zgb P h s d v)=_
 rw [conv]
 rfl
theorem zow {h:AHeap}{fn:Func}{args:List AV}{r:AR}{p:Prop}(e:mnzE P h fn args=some (r,p))(hp:p):kI P h fn args=some r:=by
 unfold mnzE at e
 unfold kI
 split at e
 · cases e
 rename_i h0
 simp only [h0]
 split at e
 · cases e
 rename_i h1
 simp only [h1]
 split at e
 · cases e
 rename_i h2
 simp only [h2]
 split at e
 · cases e
 rename_i h3
 simp only [h3]
 split at e
 · cases e
 rename_i h4
 simp only [h4]
 split at e
 · cases e
 rename_i h5
 simp only [h5]
 unfold yu
 split at e
 · cases e
 rename_i t ht
 simp only [ht]
 split at e
 rotate_left
 · cases e
 rename_i el hu
 simp only [hu]
 split at e
 rotate_left
 · cases e
 cases e
 simp only
 rw [if_pos hp]
theorem zkw {h:AHeap}{u:TypeId}{l:List UInt8}{v n:AV}{r:AR}{p:Prop}(e:zn3 P h u l v n=some (r,p))(hp:p):za7 (ql P h u v n)=some r:=by
 unfold zn3 at e
 split at e
 rotate_left
 · cases e
 rename_i k
 split at e
 rotate_left
 · cases e
 rename_i id ver off
 split at e
 rotate_left
 · cases e
 rename_i c m el lo hi nv fz sg ex ho
 split at e
 · cases e
 rename_i e0 he
 split at e
 · cases e
 rename_i hb
 split at e
 · cases e
 rename_i hq
 cases e
 simp only [Bool.and_eq_true,Nat.ble_eq] at hb
 rw [Bool.and_eq_true,Bool.and_eq_true] at hq
 obtain ⟨⟨q1,q2⟩,q3⟩:=hq
 have q1:=Nat.eq_of_beq_eq_true q1
 have q2:=Nat.eq_of_beq_eq_true q2
 have q3:sg=false:=by cases sg; rfl; cases q3
 obtain ⟨p1,p2,p3,p4,p5⟩:=hp
 unfold zK at p5
 split at p5
 · cases p5
 rename_i ls hls
 unfold zit at p5
 split at p5
 · cases p5
 rename_i s hs
 cases p5
 unfold ql
 simp only
 rw [if_neg (by omega),if_pos ⟨p1,p2⟩]
 unfold zbD
 rw [ho]
 simp only [he]
 rw [if_pos ⟨hb.1,hb.2,p3,q1,q2,q3,p4⟩]
 simp only [hls,hs]
 rfl
theorem znr {ρ:Operand→Option AV}{h:AHeap}{l:List UInt8}{o:Op}{r:AR}{p:Prop}(e:extW P ρ h l o=some (r,p))(hp:p):opA P ρ h o=some r:=by
 unfold extW at e
 split at e
 rotate_left
 · cases e
 rename_i c
 split at e
 · cases e
 rename_i args ha
 show xZ P ρ h c=some r
 unfold xZ
 simp only [ha]
 split at e
 · rename_i f hc
   rw [hc]
   simp only
   split at e
   rotate_left
   · cases e
   rename_i g first cap hf
   rw [hf]
   show y8 P h (.func g) (first++args) cap=some r
   show zdo P h g ((first++args)++cap)=some r
   unfold zdo
   split at e
   · cases e
   rename_i fn hfn
   simp only [hfn]
   split at e
   · cases e
   rename_i hbody
   simp only [hbody]
   exact zow e hp
 · rename_i hc
   rw [hc]
   simp only
   split at e
   · cases e
   rename_i t ht
   split at e
   · cases e
   rename_i el hel
   split at e
   · cases e
   rename_i hby
   split at e
   · cases e
   rename_i v n htw
   show yA P h .unsafeString c.argTypes[0]? c.argTypes[1]? args=some r
   unfold yA
   simp only [ht]
   unfold zb9
   simp only [hel,hby,htw]
   exact zkw e hp
 · cases e
theorem ziP {keep:Nat} {f0:FuncId} {Q:AV→AHeap→Prop} {id:Nat} {fn n:Nat} {t:T AV} {todo:List AItem} {ds:List ADef} {mode:AMode} {kind:CallKind} {round:Option Nat} {objs:T AObj} {next:Nat} {glob:T (T AV)} {o:AObj}
 (hn:∀ a b c k,todo≠.drw a b c::k) (hobj:objs.get id=some o) (hro:o.isRo=false)
 (hany:∃ o':AObj,o'.isRo=false∧Goal P keep f0 Q ⟨⟨fn,n,t,todo,ds,mode,kind,round⟩,[],⟨objs.set (some o') id,next,glob⟩⟩)
 (hsw:∀ (R:Bij) (w:World),ObjRel P R w id o→∃ o':AObj,o'.isRo=false∧ObjRel P R w id o'∧Goal P keep f0 Q ⟨⟨fn,n,t,todo,ds,mode,kind,round⟩,[],⟨objs.set (some o') id,next,glob⟩⟩) :
 Goal P keep f0 Q ⟨⟨fn,n,t,todo,ds,mode,kind,round⟩,[],⟨objs,next,glob⟩⟩:=by
 intro w0 base fr cs w hk s
 obtain ⟨B,R,fs,hc,hb,kh,ho,kt,kb⟩:=s
 obtain ⟨o',hro',hobj',hG⟩:∃ o':AObj,o'.isRo=false∧(B.pend id=none→ObjRel P R w id o')∧Goal P keep f0 Q ⟨⟨fn,n,t,todo,ds,mode,kind,round⟩,[],⟨objs.set (some o') id,next,glob⟩⟩:=by
  cases hp:B.pend id with
  | none =>
   obtain ⟨o',h1,h2,h3⟩:=hsw R w (kh.obj id _ hobj hp)
   exact ⟨o',h1,fun _=>h2,h3⟩
  | some x =>
   obtain ⟨o',h1,h3⟩:=hany
   exact ⟨o',h1,(fun h=>by cases h),h3⟩
 let h':AHeap:=⟨objs.set (some o') id,next,glob⟩
 let B':Base:={ B with pend:=fun i=>match B.pend i with
  | none=>none
  | some _=>h'.get i }
 have hget:∀ i,h'.get i=if i=id then some o' else objs.get i:=fun i=>T.get_set ..
 have hpn:∀ i,B.pend i=none ↔ B'.pend i=none:=by
  intro i
  show _ ↔ (match B.pend i with
   | none=>none
   | some _=>h'.get i)=none
  cases hp:B.pend i with
  | none=>simp
  | some o =>
   have:=(kh.pend i o hp).2.1
   refine ⟨fun h=>(by cases h),fun h=>?_⟩
   simp only at h
   rw [hget] at h
   split at h
   · cases h
   · change objs.get i=some o at this; rw [this] at h; cases h
 refine hG w0 base fr cs w hk ⟨B',R,fs,hc,hb,?_,ho,?_,kb⟩
 · refine ⟨kh.fresh,fun i o eo hpe=>?_,fun i o eo=>?_,kh.place,fun i hi=>⟨(kh.rd i hi).1,fun o eo=>?_⟩,fun i hi=>(hpn i).1 (kh.rp i hi),kh.rol,kh.low,kh.pin,kh.apart,kh.same,kh.glob⟩
   · have eo':h'.get i=some o:=eo
     rw [hget] at eo'
     split at eo'
     · rename_i hi
       subst hi
       cases eo'
       exact hobj' ((hpn i).2 hpe)
     · exact kh.obj i o eo' ((hpn i).2 hpe)
   · change (match B.pend i with
      | none=>none
      | some _=>h'.get i)=some o at eo
     cases hp:B.pend i with
     | none=>rw [hp] at eo; cases eo
     | some o0 =>
      rw [hp] at eo
      exact ⟨(kh.pend i o0 hp).1,eo,(kh.pend i o0 hp).2.2⟩
   · have eo':h'.get i=some o:=eo
     rw [hget] at eo'
     split at eo'
     · rename_i hi'
       subst hi'
       have:=(kh.rd i hi).2 _ hobj
       rw [hro] at this; cases this
     · exact (kh.rd i hi).2 o eo'
 · obtain ⟨k1,k2,k3,k4,k5,k6,k7,k8,k9⟩:=kt
   refine ⟨k1,k2,k3,k4,k5,k6,k7,k8,?_⟩
   cases mode with
   | run =>
    change TodoRel P B R 0 false _ todo t fr.todo fr.tmps at k9
    show TodoRel P B' R 0 false h' todo t fr.todo fr.tmps
    cases todo with
    | nil=>exact k9
    | cons it kk =>
     cases it with
     | drw a b c=>exact absurd rfl (hn a b c kk)
     | _=>exact k9
   | returning=>exact k9
   | panicking c=>exact k9
theorem zh9 {keep:Nat}{f0:FuncId}{Q:AV→AHeap→Prop}{id k:Nat}{m:AM}{K:AM→Prop}(e:CapK id k m K)(hK:∀ m,K m→Goal P keep f0 Q m):Goal P keep f0 Q m:=by
 obtain ⟨⟨fn,n,t,todo,ds,mode,kind,round⟩,rest,⟨objs,next,glob⟩⟩:=m
 unfold CapK at e
 simp only at e
 split at e
 · exact e.elim
 split at e
 · exact e.elim
 rename_i hn
 split at e
 rotate_left
 · exact e.elim
 rename_i c z el lo hi nv fz sg ex hobj
 split at e
 rotate_left
 · exact e.elim
 rename_i i r o l st hc
 obtain ⟨hl,e⟩:=e
 refine ziP hn hobj rfl ⟨_,rfl,hK _ (e l (Nat.le_refl _))⟩ fun R w hrel=>?_
 obtain ⟨a1,a2,a3,a4,a5⟩:=hrel
 generalize hcap:max l (((R i r).elim 0 Loc.kap) - st)=cap
 refine ⟨.cells (c.set (some (.slc i r o l cap)) k) z el lo hi nv fz sg ex,rfl,?_,hK _ (e cap (by omega))⟩
 refine ⟨a1,a2,a3,fun r' e' b1 b2 b3=>?_,a5⟩
 obtain ⟨L,h1,cs,a,b,g1,g2,g3,g4,g5⟩:=a4 r' e' b1 b2 b3
 refine ⟨L,h1,cs,a,b,g1,g2,g3,g4,fun q v q1 q2 q3=>?_⟩
 rw [T.get_set] at q3
 split at q3
 · rename_i hq
   subst hq
   cases q3
   obtain ⟨x,hx,M,ad,hM,m1,m2,rfl,m3⟩:=g5 q _ q1 q2 hc
   refine ⟨_,hx,M,hM,m1,?_⟩
   have hc2:cap=M.kap - st:=by
    rw [← hcap,hM]
    simp only [Option.elim]
    omega
   rw [m3 (by omega),hc2]
 · exact g5 q v q1 q2 q3
open Classical in
noncomputable def zkc (f:FuncId) (args:List AV) (h:AHeap) (v:AV) (H:AHeap):FuncId→Option (AHeap→List AV→Option (AV × T AObj × Nat)) :=
 fun g=>if g=f then some (fun h' a=>if h'=h∧a=args then some (v,H.objs,H.next) else none) else none
theorem ziz {f:FuncId}{args:List AV}{h:AHeap}{v:AV}{H:AHeap}(k:zk2 P f args h v H):@XTOk P ⟨zkc f args h v H⟩ :=
 @XTOk.mk P ⟨zkc f args h v H⟩ fun g F e=>by
  change zkc f args h v H g=some F at e
  unfold zkc at e
  split at e
  · rename_i hg
    cases e
    subst hg
    intro B R h' w a a' v' o' n' e hh hB ha
    dsimp only at e
    split at e
    · rename_i hc
      obtain ⟨rfl,rfl⟩:=hc
      cases e
      exact k B R w a' hh hB ha
    · cases e
  · cases e
open Classical in
theorem zii [XT P] [XTOk P] (hmix:P.follows .mixedOrders=true) {keep:Nat} {f0:FuncId} {Q:AV→AHeap→Prop} {v:AV} {H:AHeap} {m:AM} {K:AM→Prop} (e:AskK P v H m K) (hK:∀ m,K m→Goal P keep f0 Q m):Goal P keep f0 Q m:=by
 obtain ⟨fr,rest,h⟩:=m
 unfold AskK at e
 simp only at e
 split at e
 rotate_left
 · exact e.elim
 rename_i hm
 split at e
 · exact e.elim
 rename_i all op ho
 split at e
 rotate_left
 · exact e.elim
 rename_i hw
 split at e
 rotate_left
 · exact e.elim
 rename_i f args h0 hop
 obtain ⟨k,e⟩:=e
 obtain ⟨m',h1,h2⟩:=yk e
 refine @Goal.step P ⟨zkc f args h0 v H⟩ (ziz k) hmix keep f0 Q _ m' ?_ (hK _ h2)
 rw [@ya P ⟨zkc f args h0 v H⟩ (ziz k) fr rest h all op hm ho]
 simp only [vh,hw,hop,zaZ]
 change jk rest _ (xn P fr _ v)=some m' at h1
 have ht:zkc f args h0 v H f=some (fun h' a=>if h'=h0∧a=args then some (v,H.objs,H.next) else none):=if_pos rfl
 have hx:@zbA P ⟨zkc f args h0 v H⟩ h0 f args=some (v,⟨H.objs,H.next,h0.glob⟩):=by
  show (match zkc f args h0 v H f with
   | none=>none
   | some F=>match F h0 args with
    | none=>none
    | some (v,o,n)=>some (v,(⟨o,n,h0.glob⟩:AHeap)))=_
  rw [ht]
  simp only [and_self,if_true]
 show (match @zbA P ⟨zkc f args h0 v H⟩ h0 f args with
  | none=>jk (fr::rest) h0 (qK P f args .normal)
  | some (v,h')=>jk rest h' (xn P fr h' v))=some m'
 rw [hx]
 exact h1
theorem Obl.goal [XT P] [XTOk P] (hmix:P.follows .mixedOrders=true) {f0:FuncId} {Q:AV→AHeap→Prop} {keep:Nat} {K:AM→Prop} (hK:∀ m,K m→Goal P keep f0 Q m):∀ {l:List Cmd} {m:AM},Obl P f0 Q keep K l m→Goal P keep f0 Q m
 | [],m,e=>hK m e
 | c::r,m,e=>by
  have ih:=fun m (e:Obl P f0 Q keep K r m)=>Obl.goal hmix hK (l:=r) (m:=m) e
  cases c with
  | run n =>
   obtain ⟨m',h1,h2⟩:=yl e
   exact .runN hmix h1 (ih _ h2)
  | br b =>
   obtain ⟨fr,rest,h⟩:=m
   change Br b ⟨fr,rest,h⟩ (Obl P f0 Q keep K r) at e
   unfold Br at e
   simp only at e
   split at e
   rotate_left
   · exact e.elim
   rename_i hm
   split at e
   rotate_left
   · exact e.elim
   rename_i c x y k htodo
   split at e
   rotate_left
   · exact e.elim
   rename_i t ht
   obtain ⟨rfl,e⟩:=e
   refine .step hmix ?_ (ih _ e)
   simp only [zdf,hm,zg3,htodo]
   show zk0 fr rest h x y k (ev fr.tmps c)=_
   rw [ht]
   cases t <;> rfl
  | know u b =>
   obtain ⟨⟨fn,n,t,todo,ds,mode,kind,round⟩,rest,h⟩:=m
   change Know u b ⟨⟨fn,n,t,todo,ds,mode,kind,round⟩,rest,h⟩ (Obl P f0 Q keep K r) at e
   unfold Know at e
   simp only at e
   split at e
   · rename_i c hc
     obtain ⟨rfl,e⟩:=e
     rw [T.set_same' hc] at e
     exact ih _ e
   · exact e.elim
  | slot u v =>
   obtain ⟨⟨fn,n,t,todo,ds,mode,kind,round⟩,rest,h⟩:=m
   change Slot u v ⟨⟨fn,n,t,todo,ds,mode,kind,round⟩,rest,h⟩ (Obl P f0 Q keep K r) at e
   unfold Slot at e
   simp only at e
   split at e
   · rename_i c hc
     obtain ⟨rfl,e⟩:=e
     rw [T.set_same' hc] at e
     exact ih _ e
   · exact e.elim
  | op =>
   obtain ⟨fr,rest,h⟩:=m
   change OpK P ⟨fr,rest,h⟩ (Obl P f0 Q keep K r) at e
   unfold OpK at e
   simp only at e
   split at e
   rotate_left
   · exact e.elim
   rename_i hm
   split at e
   · exact e.elim
   rename_i all o ho
   split at e
   rotate_left
   · exact e.elim
   rename_i hw
   split at e
   · exact e.elim
   rename_i ar p hop
   obtain ⟨hp,e⟩:=e
   obtain ⟨m',h1,h2⟩:=yk e
   refine .step hmix ?_ (ih _ h2)
   rw [ya hm ho]
   simp only [vh,hw,zoV hop hp,zaZ,h1]
  | res x =>
   obtain ⟨fr,rest,h⟩:=m
   change ResK P x ⟨fr,rest,h⟩ (Obl P f0 Q keep K r) at e
   unfold ResK at e
   simp only at e
   split at e
   rotate_left
   · exact e.elim
   rename_i hm
   split at e
   · exact e.elim
   rename_i all o ho
   split at e
   rotate_left
   · exact e.elim
   rename_i hw
   obtain ⟨hp,e⟩:=e
   obtain ⟨m',h1,h2⟩:=yk e
   refine .step hmix ?_ (ih _ h2)
   rw [ya hm ho]
   simp only [vh,hw,hp,zaZ,h1]
  | ext x =>
   obtain ⟨fr,rest,h⟩:=m
   change ExtK P x ⟨fr,rest,h⟩ (Obl P f0 Q keep K r) at e
   unfold ExtK at e
   simp only at e
   split at e
   rotate_left
   · exact e.elim
   rename_i hm
   split at e
   · exact e.elim
   rename_i all o ho
   split at e
   rotate_left
   · exact e.elim
   rename_i hw
   split at e
   · exact e.elim
   rename_i ar p hop
   obtain ⟨hp,e⟩:=e
   obtain ⟨m',h1,h2⟩:=yk e
   refine .step hmix ?_ (ih _ h2)
   rw [ya hm ho]
   simp only [vh,hw,znr hop hp,zaZ,h1]
  | isv x =>
   obtain ⟨fr,rest,h⟩:=m
   change zmV P x ⟨fr,rest,h⟩ (Obl P f0 Q keep K r) at e
   unfold zmV at e
   simp only at e
   split at e
   rotate_left
   · exact e.elim
   rename_i hm
   split at e
   · exact e.elim
   rename_i all o ho
   split at e
   rotate_left
   · exact e.elim
   rename_i hw
   obtain ⟨p,hpe,hp,e⟩:=yl e
   obtain ⟨m',h1,h2⟩:=yk e
   refine .step hmix ?_ (ih _ h2)
   rw [ya hm ho]
   have hop:opA P (ev fr.tmps) h o.op=some (.val x h):=by
    unfold binV at hpe
    split at hpe
    rotate_left
    · cases hpe
    rename_i op t a b t' hoo
    split at hpe
    · cases hpe
    rename_i v1 hv1
    split at hpe
    · cases hpe
    rename_i v2 hv2
    cases hpe
    rw [hoo]
    show wG P op t a b t' (ev fr.tmps) h=_
    simp only [wG,two,hv1,hv2,hp h,y5]
   simp only [vh,hw,hop,zaZ,h1]
  | step =>
   obtain ⟨fr,rest,h⟩:=m
   change zmT P ⟨fr,rest,h⟩ (Obl P f0 Q keep K r) at e
   unfold zmT at e
   simp only at e
   split at e
   · rename_i hm
     split at e
     · exact e.elim
     rename_i all o ho
     split at e
     rotate_left
     · exact e.elim
     rename_i hw
     obtain ⟨ar,hr,e⟩:=yl e
     obtain ⟨m',h1,h2⟩:=yk e
     refine .step hmix ?_ (ih _ h2)
     rw [ya hm ho]
     simp only [vh,hw,hr,zaZ,h1]
   · rename_i hm
     split at e
     rotate_left
     · exact e.elim
     rename_i hdef
     split at e
     rotate_left
     · exact e.elim
     rename_i hkind
     split at e
     · exact e.elim
     rename_i c r'
     split at e
     rotate_left
     · exact e.elim
     rename_i hcm
     obtain ⟨v,hv,e⟩:=yl e
     obtain ⟨c',h1,h2⟩:=vS e
     refine .step hmix ?_ (ih _ h2)
     simp only [zdf,hm,jV,hdef,hv,zeW,hkind,zb1,hcm,h1,jk]
   · exact e.elim
  | keep us=>exact zgA e ih
  | can k ids us uss =>
   change (bif Nat.ble keep k then CanP k ids us uss m (Obl P f0 Q keep K r) else False) at e
   cases hb:Nat.ble keep k with
   | false=>rw [hb] at e; exact e.elim
   | true =>
    rw [hb] at e
    exact zhV (Nat.le_of_ble_eq_true hb) e ih
  | call us q=>exact zbq e ih
  | callv us v=>exact zbq (zgq e) ih
  | callh l us v H=>exact zgv e ih
  | told id c n=>exact zf5 e ih
  | tolds u p id c n=>exact zd5 e ih
  | cap id k=>exact zh9 e ih
  | bytes l =>
   obtain ⟨fr,rest,h⟩:=m
   change zj1 P l ⟨fr,rest,h⟩ (Obl P f0 Q keep K r) at e
   unfold zj1 at e
   simp only at e
   split at e
   rotate_left
   · exact e.elim
   rename_i hm
   split at e
   · exact e.elim
   rename_i all o ho
   split at e
   rotate_left
   · exact e.elim
   rename_i hw
   obtain ⟨p,hp,hp1,e⟩:=yl e
   obtain ⟨m',h1,h2⟩:=yk e
   refine .step hmix ?_ (ih _ h2)
   rw [ya hm ho]
   simp only [vh,hw,zgu hp hp1,zaZ,h1]
  | opw b=>exact zhO e ih
  | ask v H=>exact zii hmix e ih
  | done=>exact zbw e
end
end Go.Proofs.YtdbfpjgnlfejmaaDoor.Ev
end
section
namespace Go.Proofs.YtdbfpjgnlfejmaaDoor.Ev
open Go Go.ChangeShapes Go.WideShapes
structure Inp where
 there:Bool
 block:Nat
 cells:T AV
 lo:Nat
 n:Nat
def Inp.holds (x:Inp) (w:World):Prop:=x.there=true→∃ cs el fz,w.heap[x.block]?=some (.cells cs el fz)∧x.n≤cs.size∧∀ k v,x.lo≤k→k<x.n→x.cells.get k=some v→∃ y,cs[k]?=some y∧VRel (fun _ _=>none) v y
def Inp.obj (x:Inp):Option AObj:=match x.there with
 | true=>some (.ro x.cells x.lo x.n)
 | false=>none
noncomputable def kO:List Inp→Nat→T AObj→T AObj
 | [],_,t=>t
 | x::r,i,t=>kO r (i+1) (t.set x.obj i)
noncomputable def zbx (l:List Inp) (G:T (T AV)):AHeap:=⟨kO l 0 .leaf,l.length,G⟩
def jS (l:List Inp):Bij:=fun i r=>if r=0 then match l[i]? with
 | none=>none
 | some x=>match x.there with
  | true=>some ⟨x.block,0,0⟩
  | false=>none else none
theorem zak:∀ (l:List Inp) (i:Nat) (t:T AObj) (j:Nat),(kO l i t).get j=if i≤j∧j<i+l.length then (l[j - i]?).bind Inp.obj else t.get j
 | [],i,t,j=>by simp [kO]; omega
 | x::r,i,t,j=>by
  rw [kO,zak r (i+1),T.get_set]
  by_cases h0:j=i
  · subst h0
    rw [if_neg (by omega),if_pos rfl,if_pos (by simp)]
    simp
  · by_cases h1:i+1≤j∧j<i+1+r.length
    · rw [if_pos h1,if_pos (by simp; omega)]
      rw [show j - i=(j - (i+1))+1 by omega,List.getElem?_cons_succ]
    · rw [if_neg h1,if_neg h0,if_neg (by simp; omega)]
def Env.inp (w:World) (l:List Inp):Env:={ Env.of w with rob:=fun b=>∃ x∈l,x.block=b }
def Base.inp (w:World) (l:List Inp):Base:=⟨Env.inp w l,fun i=>i<l.length,fun _=>none,fun _=>(0,0)⟩
theorem HRel.inp {P:Program}{G:T (T AV)}{w:World}{l:List Inp}(hG:zgt G w)(hl:∀ x∈l,x.holds w):HRel P (Base.inp w l) (jS l) (zbx l G) w:=by
 have hR:∀ {i r L},jS l i r=some L→r=0∧∃ x,l[i]?=some x∧L=⟨x.block,0,0⟩∧i<l.length∧x.there=true:=by
  intro i r L e
  unfold jS at e
  split at e
  · rename_i hr
    split at e
    · cases e
    · rename_i x hx
      split at e
      · rename_i ht; cases e; exact ⟨hr,x,hx,rfl,(List.getElem?_eq_some_iff.1 hx).1,ht⟩
      · cases e
  · cases e
 have hget:∀ {i o},(zbx l G).get i=some o→∃ x,l[i]?=some x∧o=.ro x.cells x.lo x.n∧x.there=true:=by
  intro i o e
  change (kO l 0 .leaf).get i=some o at e
  rw [zak] at e
  split at e
  · rw [Nat.sub_zero] at e
    cases hx:l[i]? with
    | none=>rw [hx] at e; cases e
    | some x =>
     rw [hx] at e
     change x.obj=some o at e
     unfold Inp.obj at e
     split at e
     · rename_i ht; cases e; exact ⟨x,rfl,rfl,ht⟩
     · cases e
  · cases e
 exact {
  fresh:=fun i hi r=>by
   cases h:jS l i r with
   | none=>rfl
   | some L =>
    obtain ⟨_,x,_,_,h1,_⟩:=hR h
    exact absurd h1 (Nat.not_lt.2 hi)
  obj:=fun i o e _=>by
   obtain ⟨x,hx,rfl,ht⟩:=hget e
   obtain ⟨cs,el,fz,h1,h2,h3⟩:=hl x (List.mem_of_getElem? hx) ht
   exact ⟨⟨x.block,0,0⟩,cs,el,fz,by simp [jS,hx,ht],rfl,h1,h2,h3⟩
  pend:=fun i o e=>by cases e
  place:=fun i r L e=>by
   obtain ⟨_,x,hx,rfl,h1,ht⟩:=hR e
   obtain ⟨cs,el,fz,h2,_⟩:=hl x (List.mem_of_getElem? hx) ht
   exact ⟨.inr h1,xv h2⟩
  rd:=fun i hi=>⟨hi,fun o e=>by obtain ⟨x,_,rfl,_⟩:=hget e; rfl⟩
  low:=fun b _=>rfl
  rp:=fun i _=>rfl
  rol:=fun i r L _ e=>by
   obtain ⟨_,x,hx,rfl,_⟩:=hR e
   exact ⟨x,List.mem_of_getElem? hx,rfl⟩
  pin:=fun i r L e=>by cases e
  apart:=fun i r i' r' L L' e e' _ hor=>by
   obtain ⟨_,_,_,_,h1,_⟩:=hR e
   obtain ⟨_,_,_,_,h2,_⟩:=hR e'
   rcases hor with h | h
   · exact absurd h1 h
   · exact absurd h2 h
  same:=fun i r r' L L' e e' _=>by
   obtain ⟨_,x,hx,rfl,_⟩:=hR e
   obtain ⟨_,x',hx',rfl,_⟩:=hR e'
   rfl
  glob:=fun g c e=>⟨fun hm=>hm.elim (fun hl=>absurd (hG g c e).1 (Nat.not_lt.2 hl)) id,(hG g c e).2⟩ }
theorem x5 {P:Program} {G:T (T AV)} {l:List Inp} {f:FuncId} {args:List AV} {vs:List Value} {a:AFrame} (ha:qK P f args .normal=some a) {w:World} (hG:zgt G w) (hl:∀ x∈l,x.holds w)
 (hv:VRels (jS l) args vs) (k:Goal P 0 f (fun v _=>v=.bool true) ⟨a,[],zbx l G⟩):Calls P f vs.toArray w fun r w'=>r=.returned (.bool true)∧Old w w':=by
 intro cs
 have hs:Sim P (Env.inp w l) cs ⟨a,[],zbx l G⟩ (Frame.enter P f vs.toArray .normal) cs w :=
  ⟨Base.inp w l,jS l,[],rfl,rfl,.inp hG hl,.start w,wm ha hv (.inl rfl),rfl⟩
 obtain ⟨fr',w',B,R,v,v',h',s1,s2,s3,s4,s5,s6,s7,rfl⟩:=k (Env.inp w l) cs _ _ _ (fun i r L e=>by cases e) hs
 cases s4
 exact ⟨.returned (.bool true),w',fr',⟨rfl,(s7.all s5 s6).old fun _ e=>e⟩,s1,s3,s2⟩
theorem zlR {w:World}{a:Addr}{n:Nat}{f:Nat→Value}{g:Nat→AV}(h:∀ i,i<n→w.cell? (a.add i)=some (f i))(hfg:∀ i,i<n→VRel (fun _ _=>none) (g i) (f i))(hp:0<n) :
 ∃ b off,a=⟨b,off,none⟩∧(Inp.mk true b (.fn fun j=>some (g (j - off))) off (off+n)).holds w:=by
 obtain ⟨b,off,spot⟩:=a
 have hspot:spot=none:=by simpa [Addr.add] using World.cell?_spot (h 0 hp)
 subst hspot
 have hc:∀ i,i<n→w.cell? ⟨b,off+i,none⟩=some (f i):=fun i hi=>by rw [← Go.WideShapes.add_plain]; exact h i hi
 have h0:=hc 0 hp
 cases hb:w.heap[b]? with
 | none=>rw [World.cell?] at h0; simp [hb] at h0
 | some o =>
  cases o with
  | cells cs el fz =>
   have hcell:∀ i,i<n→cs[off+i]?=some (f i):=fun i hi=>by
    have:=hc i hi
    rwa [cell?_row w b _ hb] at this
   refine ⟨b,off,rfl,fun _=>⟨cs,el,fz,hb,?_,fun k v h1 h2 e=>?_⟩⟩
   · have:=(Array.getElem?_eq_some_iff.1 (hcell (n - 1) (by omega))).1
     show off+n≤cs.size
     omega
   · cases e
     have hk:k - off<n:=by
      have:k<off+n:=h2
      omega
     have:=hcell (k - off) hk
     rw [show off+(k - off)=k by have:off≤k:=h1; omega] at this
     exact ⟨_,this,hfg _ hk⟩
  | _=>simp [World.cell?,hb] at h0
theorem zgC {H:Type} {enc:TypeId × Value→H} {P:Program} {w:World} {b0:Nat} {t e:TypeId} {v:Value} {d:DataW H} {ps:List MemPlace} (ht:P.underlying t=some (.slice e)) (he:P.underlying e=some .string) (hc:P.cellsOf e=1)
 (hv:Value.okWide P w .any b0 t v) (h:DataW.Trod enc P w 0 (fun _=>true) true t v d ps) :
 v=.slice none 0 0∨∃ (a:Addr) (len cap:Nat) (zs:List ByteArray),v=.slice (some a) len cap∧len≤cap∧cap≤maxLen∧zs.length=cap∧(∀ i,i<zs.length→w.cell? (a.add i)=some (.string (zs.getD i .empty)))∧(∀ s∈zs,s.size≤maxLen):=by
 obtain ⟨a,l,c,rfl⟩:=okWide_slice ht hv
 obtain ⟨fuel,h⟩:=h
 rcases open_strings ht he hc h with ⟨hcs,_⟩ | ⟨a,len,cap,zs,hcs,_,hl,hm,hz,_,hc,hwf⟩
 · simp only [Value.cells,List.cons.injEq,and_true] at hcs
   exact .inl hcs
 · simp only [Value.cells,List.cons.injEq,and_true] at hcs
   exact .inr ⟨a,len,cap,zs,hcs,hl,hm,by simpa using hz,hc,hwf⟩
theorem vT {H:Type}{enc:TypeId × Value→H}{P:Program}(hl:laidOutB P=true){W W':World}(hb:∀ b,b<W.heap.size→W'.heap[b]?=W.heap[b]?){sp:Nat→Bool} :
 ∀ {ts:List TypeId} {vs:List Value} {ds:List (DataW H)} {ps:List MemPlace},(ts.all fun t=>P.readableRec t&&decide (t<P.types.size))=true→DataW.TrodAll enc P W 0 (fun _=>true) true ts vs ds ps →
  (∀ x∈ps,x.block<W.heap.size)→(∀ x∈ps,sp x.block=true)→DataW.TrodAll enc P W' 0 sp true ts vs ds ps
 | [],vs,ds,ps,_,h,_,_=>by
  obtain ⟨rfl,rfl,rfl⟩:=trodAll_nil h
  exact trodAll_mk0
 | t::ts,vs,ds,ps,ht,h,hlt,hsp=>by
  obtain ⟨v,vs',d,ds',p,q,rfl,rfl,rfl,h1,h2⟩:=trodAll_cons h
  simp only [List.all_cons,Bool.and_eq_true,decide_eq_true_eq] at ht
  have hs:∀ x∈p,W.sameAt W' x:=fun x hx=>by
   have:=hlt x (List.mem_append_left _ hx)
   cases x with
   | cell b o=>exact World.cell?_of_block (w:=W) (hb b this)
   | map b=>exact hb b this
  exact trodAll_cons_mk (WideElems.Trod_stays hl ht.1.1 ht.1.2 h1 hs (fun x hx=>hsp x (List.mem_append_left _ hx)))
   (vT hl hb (by simpa using ht.2) h2 (fun x hx=>hlt x (List.mem_append_right _ hx)) (fun x hx=>hsp x (List.mem_append_right _ hx)))
theorem post_law {H:Type} {enc:TypeId × Value→H} {P:Program} {f:Func} {s:ChangeSpec} {apart fresh handsOn again:Bool} {W W':World} {args:Array Value} {ds gs:List (DataW H)} {before:List MemPlace} {tb:TypeId}
 (hl:laidOutB P=true) (ht:(f.params.toList.all fun t=>P.readableRec t&&decide (t<P.types.size))=true) (hr:f.resultTypes=#[tb]) (hbool:P.underlying tb=some .bool) (hvars:s.vars=[])
 (hW:DataW.Whole enc P f.params.toList s.vars apart W args.toList ds gs before) (hfn:s.fn H (ds++gs)={ results:=[.lit (.bool true)],args:=ds }) (k:Old W W') :
 s.post enc P f apart fresh handsOn again W args (.bool true) W':=by
 have hlt:=hW.lt
 have hW':=hW
 obtain ⟨p,q,hA,hV,hpq,hz,hn⟩:=hW
 rw [hvars] at hV
 have hgq:gs=[]∧q=[]:=by
  cases gs with
  | nil=>exact ⟨rfl,hV⟩
  | cons g r=>exact hV.elim
 obtain ⟨rfl,rfl⟩:=hgq
 rw [List.append_nil] at hpq
 subst hpq
 have hargs:∀ sp:Nat→Bool,(∀ x∈before,sp x.block=true)→DataW.TrodAll enc P W' 0 sp true f.params.toList args.toList ds before:=fun sp hsp=>vT hl k.other ht hA hlt hsp
 have hres:∀ (b:Nat) (sp:Nat→Bool) (hd:Bool),DataW.TrodAll enc P W' b sp hd f.resultTypes.toList ((Value.bool true).resultList f.resultTypes.size) [.lit (.bool true)] []:=fun b sp hd=>by
  rw [hr]
  exact trodAll_cons_mk (RowKit.shut_bool hbool true) trodAll_mk0
 have hold:∀ x∈before,(fun b=>decide (b<W.heap.size)) x.block=true:=fun x hx=>by simpa using hlt x hx
 refine ⟨ds,[],before,[],before,[],hW',?_,?_,?_,k.kept _,fun _=>?_⟩
 · rw [hfn]; exact hres _ _ _
 · rw [hfn]; exact hargs _ hold
 · rw [hvars,hfn]; rfl
 · refine ⟨RowKit.ok_one hr rfl (RowKit.okWide_bool_mk hbool true),[.lit (.bool true)]++ds,[],([]++before)++[],⟨[]++before,[],trodAll_append (hargs _ (fun _ _=>rfl)) (hres _ _ _),by rw [hvars]; rfl,rfl,?_,?_⟩,?_⟩
   · intro b off hp
     simp only [List.nil_append,List.append_nil] at hp
     have hb:b<W.heap.size:=hlt _ hp
     have:=hz b off hp
     simp only [World.frozen?,k.other b hb] at this ⊢
     exact this
   · intro ha
     simpa using hn ha
   · intro x hx _
     simpa using hx
end Go.Proofs.YtdbfpjgnlfejmaaDoor.Ev
end
section
namespace Go.Proofs.YtdbfpjgnlfejmaaDoor.Ev
open Go Go.ChangeShapes
def litV:Lit→Value
 | .string s=>.string ⟨s.toArray⟩
 | .int k n=>.int k n
 | _=>.tuple #[]
def litA:Lit→AV
 | .string s=>.str s
 | .int k n=>.int k n
 | _=>.tup []
theorem zlc (R:Bij)(l:Lit):VRel R (litA l) (litV l):=by
 cases l <;> first | rfl | exact ⟨[],rfl,rfl⟩
section
variable {H:Type} {enc:TypeId × Value→H} {P:Program} {w:World} {base:Nat} {sp:Nat→Bool} {held:Bool}
theorem ze2 {t e:TypeId} {n fuel:Nat} {cs:List Value} {lits:List Lit} {p:List MemPlace} (ht:P.underlying t=some (.array n e)) (he:P.underlying e=some .string∨∃ k,P.underlying e=some (.int k))
 (hce:P.cellsOf e=1) (hct:P.cellsOf t=n) (hd:DataW.trod enc P w base sp held fuel t cs=some (.agg (lits.map .lit),p)):cs=lits.map litV:=by
 obtain ⟨xs,m,rfl,hx,hlen,hxl,hel⟩:=DataW.trod_array ht hd
 simp only [Prod.mk.injEq,DataW.agg.injEq] at hx
 obtain ⟨hx,_⟩:=hx
 have hll:lits.length=n:=by
  have:=congrArg List.length hx
  simpa [hxl] using this
 apply List.ext_getElem?
 intro i
 by_cases hi:i<n
 · have h:=hel i hi
   have hxi:i<xs.length:=by omega
   have hci:i<cs.length:=by omega
   have hli:i<lits.length:=by omega
   have hone:(cs.drop (i*P.cellsOf e)).take (P.cellsOf e)=[cs[i]]:=by
    rw [hce,Nat.mul_one,List.drop_eq_getElem_cons hci]
    rfl
   rw [hone,List.getElem?_eq_getElem hxi] at h
   have hl:(xs[i]).1=.lit lits[i]:=by
    have:=congrArg (fun l=>l[i]?) hx
    simp only [List.getElem?_map,List.getElem?_eq_getElem hli,List.getElem?_eq_getElem hxi,Option.map_some,Option.some.injEq] at this
    exact this.symm
   rw [List.getElem?_eq_getElem hci,List.getElem?_map,List.getElem?_eq_getElem hli,Option.map_some]
   congr 1
   rcases he with he | ⟨k,he⟩
   · obtain ⟨s,h1,h2,_⟩:=DataW.trod_string he h
     rw [h2] at hl
     simp only [DataW.lit.injEq] at hl
     simp only [List.cons.injEq,and_true] at h1
     rw [h1,← hl]
     rfl
   · obtain ⟨s,h1,h2,_⟩:=DataW.trod_int he h
     rw [h2] at hl
     simp only [DataW.lit.injEq] at hl
     simp only [List.cons.injEq,and_true] at h1
     rw [h1,← hl]
     rfl
 · rw [List.getElem?_eq_none (by omega),List.getElem?_eq_none (by simp; omega)]
theorem zko {n:String}{g:Nat}{cs:Array Value}(hg:P.globalNamed n=some g)(h:w.var? P n=some cs):∃ t fr,w.heap[g]?=some (.cells cs t fr):=by
 simp only [World.var?,hg,Option.bind_some] at h
 split at h
 · rename_i c t fr hb
   cases h
   exact ⟨_,_,hb⟩
 · cases h
noncomputable def zh4 (g:Nat) (lits:List Lit):T (T AV):=T.set (some (zw .leaf 0 (lits.map litA))) .leaf g
theorem zjc {name:String}{g:Nat}{cs:Array Value}{lits:List Lit}(hg:P.globalNamed name=some g)(hv:w.var? P name=some cs)(hcs:cs.toList=lits.map litV):zgt (zh4 g lits) w:=by
 intro g' c e
 unfold zh4 at e
 rw [T.get_set] at e
 split at e
 · rename_i hgg
   subst hgg
   cases e
   obtain ⟨t,fr,hh⟩:=zko hg hv
   refine ⟨xv hh,cs,t,fr,hh,fun k v hk=>?_⟩
   rw [zo] at hk
   split at hk
   · rename_i hlt
     rw [Nat.sub_zero,List.getElem?_map] at hk
     cases hl:lits[k]? with
     | none=>rw [hl] at hk; cases hk
     | some l =>
      rw [hl] at hk
      cases hk
      refine ⟨litV l,?_,zlc _ l⟩
      rw [← Array.getElem?_toList,hcs,List.getElem?_map,hl]
      rfl
   · cases hk
 · cases e
end
end Go.Proofs.YtdbfpjgnlfejmaaDoor.Ev
end
section
set_option maxRecDepth 100000
namespace Go.Proofs.YtdbfpjgnlfejmaaDoor.mq
open Ev
def lits:List Lit:=[.string [],.string [115,121,110,116,97,120],.string [99,121,99,108,101],.string [105,109,112,111,114,116],.string [116,119,105,99,101],.string [116,121,112,101],.string [110,97,109,101],.string [102,105,101,108,100],.string [97,114,105,116,121],.string [99,97,108,108],.string [119,114,111,110,103],.string [114,111,108,108],.string [115,105,122,101],.string [101,113,117,97,108]]
noncomputable def GW:T (T AV):=zh4 0 lits
theorem gNum : Tryd.prog.globalNamed "lodger/diag.words" = some 0 := by kernel_rfl
theorem gType:(Tryd.prog.globals[0]?).map (·.type)=some 77:=by kernel_rfl
theorem zpw {W : World}(h : laidMetH Tryd.prog [("lodger/diag.words", Rows.laid_lodger_diag_words)] W) : zgt GW W := by
 rw [MakeChecks.laidMetH_plain _ _ _ (by kernel_rfl)] at h
 obtain ⟨ps,⟨g0,t0,cs0,f0,p0,q0,hg0,ht0,hv0,hd0,_⟩,_,_⟩:=h
 obtain rfl:=Option.some.inj (gNum.symm.trans hg0)
 obtain rfl:=Option.some.inj (gType.symm.trans ht0)
 exact zjc hg0 hv0 (ze2 (lits:=lits) (n:=14) (e:=9) (by kernel_rfl) (.inl (by kernel_rfl)) (by kernel_rfl) (by kernel_rfl) hd0)
theorem zfL (os : Os)(args : Array Value) : laidMetH Tryd.prog [("lodger/diag.words", Rows.laid_lodger_diag_words)] ((World.doorLaid Tryd.prog 400 os).forCall (fun _ _ => 0) ⟨#[], args, []⟩).memory :=
 laidMetH_of_parts3 (fuel:=8) (laidMet_of_run' 8 (by kernel_rfl) (by kernel_rfl)) (by kernel_rfl) (by kernel_rfl)
end Go.Proofs.YtdbfpjgnlfejmaaDoor.mq
end
section
set_option maxRecDepth 100000
namespace Go.Proofs.YtdbfpjgnlfejmaaDoor.mq
open Go Ev
noncomputable abbrev P:Program:=Tryd.prog
section
set_option linter.unusedSectionVars false
variable (n:Int) (R:AV→Prop) (_K:AM→Prop)
include n R _K
theorem nby:Obl P 74 (fun v _=>R v) 0 _K [.run 44,.know 10 true,.run 152,.done] ((zb P 74 [.int .u64 n] GW))=((decide (n≤Int.ofNat 240)=true)∧(R (.str [UInt8.ofNat (IntKind.u8.wrap (Int.ofNat 0+IntKind.u8.wrap ((IntKind.u64.wrap (n - Int.ofNat 0)).fdiv (2 ^ min (Int.ofNat 0).toNat IntKind.u64.bits)))).toNat].reverse))):=by kernel_rfl
theorem nbny:Obl P 74 (fun v _=>R v) 0 _K [.run 44,.know 10 false,.run 27,.know 10 true,.run 223,.done] ((zb P 74 [.int .u64 n] GW))=((decide (n≤Int.ofNat 240)=false)∧(decide (n≤Int.ofNat 2287)=true)∧(R (.str [UInt8.ofNat (IntKind.u8.wrap ((IntKind.u64.wrap (n - Int.ofNat 240)).fdiv (2 ^ min (Int.ofNat 0).toNat IntKind.u64.bits))).toNat,UInt8.ofNat (IntKind.u8.wrap (Int.ofNat 241+IntKind.u8.wrap ((IntKind.u64.wrap (n - Int.ofNat 240)).fdiv (2 ^ min (Int.ofNat 8).toNat IntKind.u64.bits)))).toNat].reverse))):=by kernel_rfl
theorem nbnny:Obl P 74 (fun v _=>R v) 0 _K [.run 44,.know 10 false,.run 27,.know 10 false,.run 28,.know 10 true,.run 293,.done] ((zb P 74 [.int .u64 n] GW))=((decide (n≤Int.ofNat 240)=false)∧(decide (n≤Int.ofNat 2287)=false)∧(decide (n≤Int.ofNat 67823)=true)∧(R (.str [UInt8.ofNat (IntKind.u8.wrap ((IntKind.u64.wrap (n - Int.ofNat 2288)).fdiv (2 ^ min (Int.ofNat 0).toNat IntKind.u64.bits))).toNat,UInt8.ofNat (IntKind.u8.wrap ((IntKind.u64.wrap (n - Int.ofNat 2288)).fdiv (2 ^ min (Int.ofNat 8).toNat IntKind.u64.bits))).toNat,UInt8.ofNat (IntKind.u8.wrap (Int.ofNat 249+IntKind.u8.wrap ((IntKind.u64.wrap (n - Int.ofNat 2288)).fdiv (2 ^ min (Int.ofNat 16).toNat IntKind.u64.bits)))).toNat].reverse))):=by kernel_rfl
theorem zpn:Obl P 74 (fun v _=>R v) 0 _K [.run 44,.know 10 false,.run 27,.know 10 false,.run 28,.know 10 false,.run 67,.know 10 true,.run 368,.done] ((zb P 74 [.int .u64 n] GW))=((decide (n≤Int.ofNat 240)=false)∧(decide (n≤Int.ofNat 2287)=false)∧(decide (n≤Int.ofNat 67823)=false)∧(decide (n≤Int.ofNat 16777215)=true)∧(R (.str [UInt8.ofNat (IntKind.u8.wrap ((IntKind.u64.wrap (n - Int.ofNat 0)).fdiv (2 ^ min (Int.ofNat 0).toNat IntKind.u64.bits))).toNat,UInt8.ofNat (IntKind.u8.wrap ((IntKind.u64.wrap (n - Int.ofNat 0)).fdiv (2 ^ min (Int.ofNat 8).toNat IntKind.u64.bits))).toNat,UInt8.ofNat (IntKind.u8.wrap ((IntKind.u64.wrap (n - Int.ofNat 0)).fdiv (2 ^ min (Int.ofNat 16).toNat IntKind.u64.bits))).toNat,UInt8.ofNat (IntKind.u8.wrap (Int.ofNat 250+IntKind.u8.wrap ((IntKind.u64.wrap (n - Int.ofNat 0)).fdiv (2 ^ min (Int.ofNat 24).toNat IntKind.u64.bits)))).toNat].reverse))):=by kernel_rfl
theorem znH:Obl P 74 (fun v _=>R v) 0 _K [.run 44,.know 10 false,.run 27,.know 10 false,.run 28,.know 10 false,.run 67,.know 10 false,.run 68,.know 10 true,.run 444,.done] ((zb P 74 [.int .u64 n] GW))=((decide (n≤Int.ofNat 240)=false)∧(decide (n≤Int.ofNat 2287)=false)∧(decide (n≤Int.ofNat 67823)=false)∧(decide (n≤Int.ofNat 16777215)=false)∧(decide (n≤Int.ofNat 4294967295)=true)∧(R (.str [UInt8.ofNat (IntKind.u8.wrap ((IntKind.u64.wrap (n - Int.ofNat 0)).fdiv (2 ^ min (Int.ofNat 0).toNat IntKind.u64.bits))).toNat,UInt8.ofNat (IntKind.u8.wrap ((IntKind.u64.wrap (n - Int.ofNat 0)).fdiv (2 ^ min (Int.ofNat 8).toNat IntKind.u64.bits))).toNat,UInt8.ofNat (IntKind.u8.wrap ((IntKind.u64.wrap (n - Int.ofNat 0)).fdiv (2 ^ min (Int.ofNat 16).toNat IntKind.u64.bits))).toNat,UInt8.ofNat (IntKind.u8.wrap ((IntKind.u64.wrap (n - Int.ofNat 0)).fdiv (2 ^ min (Int.ofNat 24).toNat IntKind.u64.bits))).toNat,UInt8.ofNat (IntKind.u8.wrap (Int.ofNat 251+IntKind.u8.wrap ((IntKind.u64.wrap (n - Int.ofNat 0)).fdiv (2 ^ min (Int.ofNat 32).toNat IntKind.u64.bits)))).toNat].reverse))):=by kernel_rfl
theorem zkU:Obl P 74 (fun v _=>R v) 0 _K [.run 44,.know 10 false,.run 27,.know 10 false,.run 28,.know 10 false,.run 67,.know 10 false,.run 68,.know 10 false,.run 68,.know 10 true,.run 520,.done] ((zb P 74 [.int .u64 n] GW))=((decide (n≤Int.ofNat 240)=false)∧(decide (n≤Int.ofNat 2287)=false)∧(decide (n≤Int.ofNat 67823)=false)∧(decide (n≤Int.ofNat 16777215)=false)∧(decide (n≤Int.ofNat 4294967295)=false)∧(decide (n≤Int.ofNat 1099511627775)=true)∧(R (.str [UInt8.ofNat (IntKind.u8.wrap ((IntKind.u64.wrap (n - Int.ofNat 0)).fdiv (2 ^ min (Int.ofNat 0).toNat IntKind.u64.bits))).toNat,UInt8.ofNat (IntKind.u8.wrap ((IntKind.u64.wrap (n - Int.ofNat 0)).fdiv (2 ^ min (Int.ofNat 8).toNat IntKind.u64.bits))).toNat,UInt8.ofNat (IntKind.u8.wrap ((IntKind.u64.wrap (n - Int.ofNat 0)).fdiv (2 ^ min (Int.ofNat 16).toNat IntKind.u64.bits))).toNat,UInt8.ofNat (IntKind.u8.wrap ((IntKind.u64.wrap (n - Int.ofNat 0)).fdiv (2 ^ min (Int.ofNat 24).toNat IntKind.u64.bits))).toNat,UInt8.ofNat (IntKind.u8.wrap ((IntKind.u64.wrap (n - Int.ofNat 0)).fdiv (2 ^ min (Int.ofNat 32).toNat IntKind.u64.bits))).toNat,UInt8.ofNat (IntKind.u8.wrap (Int.ofNat 252+IntKind.u8.wrap ((IntKind.u64.wrap (n - Int.ofNat 0)).fdiv (2 ^ min (Int.ofNat 40).toNat IntKind.u64.bits)))).toNat].reverse))):=by kernel_rfl
theorem zhS:Obl P 74 (fun v _=>R v) 0 _K [.run 44,.know 10 false,.run 27,.know 10 false,.run 28,.know 10 false,.run 67,.know 10 false,.run 68,.know 10 false,.run 68,.know 10 false,.run 68,.know 10 true,.run 596,.done] ((zb P 74 [.int .u64 n] GW))=((decide (n≤Int.ofNat 240)=false)∧(decide (n≤Int.ofNat 2287)=false)∧(decide (n≤Int.ofNat 67823)=false)∧(decide (n≤Int.ofNat 16777215)=false)∧(decide (n≤Int.ofNat 4294967295)=false)∧(decide (n≤Int.ofNat 1099511627775)=false)∧(decide (n≤Int.ofNat 281474976710655)=true)∧(R (.str [UInt8.ofNat (IntKind.u8.wrap ((IntKind.u64.wrap (n - Int.ofNat 0)).fdiv (2 ^ min (Int.ofNat 0).toNat IntKind.u64.bits))).toNat,UInt8.ofNat (IntKind.u8.wrap ((IntKind.u64.wrap (n - Int.ofNat 0)).fdiv (2 ^ min (Int.ofNat 8).toNat IntKind.u64.bits))).toNat,UInt8.ofNat (IntKind.u8.wrap ((IntKind.u64.wrap (n - Int.ofNat 0)).fdiv (2 ^ min (Int.ofNat 16).toNat IntKind.u64.bits))).toNat,UInt8.ofNat (IntKind.u8.wrap ((IntKind.u64.wrap (n - Int.ofNat 0)).fdiv (2 ^ min (Int.ofNat 24).toNat IntKind.u64.bits))).toNat,UInt8.ofNat (IntKind.u8.wrap ((IntKind.u64.wrap (n - Int.ofNat 0)).fdiv (2 ^ min (Int.ofNat 32).toNat IntKind.u64.bits))).toNat,UInt8.ofNat (IntKind.u8.wrap ((IntKind.u64.wrap (n - Int.ofNat 0)).fdiv (2 ^ min (Int.ofNat 40).toNat IntKind.u64.bits))).toNat,UInt8.ofNat (IntKind.u8.wrap (Int.ofNat 253+IntKind.u8.wrap ((IntKind.u64.wrap (n - Int.ofNat 0)).fdiv (2 ^ min (Int.ofNat 48).toNat IntKind.u64.bits)))).toNat].reverse))):=by kernel_rfl
theorem zge:Obl P 74 (fun v _=>R v) 0 _K [.run 44,.know 10 false,.run 27,.know 10 false,.run 28,.know 10 false,.run 67,.know 10 false,.run 68,.know 10 false,.run 68,.know 10 false,.run 68,.know 10 false,.run 68,.know 10 true,.run 672,.done] ((zb P 74 [.int .u64 n] GW))=((decide (n≤Int.ofNat 240)=false)∧(decide (n≤Int.ofNat 2287)=false)∧(decide (n≤Int.ofNat 67823)=false)∧(decide (n≤Int.ofNat 16777215)=false)∧(decide (n≤Int.ofNat 4294967295)=false)∧(decide (n≤Int.ofNat 1099511627775)=false)∧(decide (n≤Int.ofNat 281474976710655)=false)∧(decide (n≤Int.ofNat 72057594037927935)=true)∧(R (.str [UInt8.ofNat (IntKind.u8.wrap ((IntKind.u64.wrap (n - Int.ofNat 0)).fdiv (2 ^ min (Int.ofNat 0).toNat IntKind.u64.bits))).toNat,UInt8.ofNat (IntKind.u8.wrap ((IntKind.u64.wrap (n - Int.ofNat 0)).fdiv (2 ^ min (Int.ofNat 8).toNat IntKind.u64.bits))).toNat,UInt8.ofNat (IntKind.u8.wrap ((IntKind.u64.wrap (n - Int.ofNat 0)).fdiv (2 ^ min (Int.ofNat 16).toNat IntKind.u64.bits))).toNat,UInt8.ofNat (IntKind.u8.wrap ((IntKind.u64.wrap (n - Int.ofNat 0)).fdiv (2 ^ min (Int.ofNat 24).toNat IntKind.u64.bits))).toNat,UInt8.ofNat (IntKind.u8.wrap ((IntKind.u64.wrap (n - Int.ofNat 0)).fdiv (2 ^ min (Int.ofNat 32).toNat IntKind.u64.bits))).toNat,UInt8.ofNat (IntKind.u8.wrap ((IntKind.u64.wrap (n - Int.ofNat 0)).fdiv (2 ^ min (Int.ofNat 40).toNat IntKind.u64.bits))).toNat,UInt8.ofNat (IntKind.u8.wrap ((IntKind.u64.wrap (n - Int.ofNat 0)).fdiv (2 ^ min (Int.ofNat 48).toNat IntKind.u64.bits))).toNat,UInt8.ofNat (IntKind.u8.wrap (Int.ofNat 254+IntKind.u8.wrap ((IntKind.u64.wrap (n - Int.ofNat 0)).fdiv (2 ^ min (Int.ofNat 56).toNat IntKind.u64.bits)))).toNat].reverse))):=by kernel_rfl
theorem zeE:Obl P 74 (fun v _=>R v) 0 _K [.run 44,.know 10 false,.run 27,.know 10 false,.run 28,.know 10 false,.run 67,.know 10 false,.run 68,.know 10 false,.run 68,.know 10 false,.run 68,.know 10 false,.run 68,.know 10 false,.run 68,.know 10 true,.run 748,.done] ((zb P 74 [.int .u64 n] GW))=((decide (n≤Int.ofNat 240)=false)∧(decide (n≤Int.ofNat 2287)=false)∧(decide (n≤Int.ofNat 67823)=false)∧(decide (n≤Int.ofNat 16777215)=false)∧(decide (n≤Int.ofNat 4294967295)=false)∧(decide (n≤Int.ofNat 1099511627775)=false)∧(decide (n≤Int.ofNat 281474976710655)=false)∧(decide (n≤Int.ofNat 72057594037927935)=false)∧(decide (n≤Int.ofNat 18446744073709551615)=true)∧(R (.str [UInt8.ofNat (IntKind.u8.wrap ((IntKind.u64.wrap (n - Int.ofNat 0)).fdiv (2 ^ min (Int.ofNat 0).toNat IntKind.u64.bits))).toNat,UInt8.ofNat (IntKind.u8.wrap ((IntKind.u64.wrap (n - Int.ofNat 0)).fdiv (2 ^ min (Int.ofNat 8).toNat IntKind.u64.bits))).toNat,UInt8.ofNat (IntKind.u8.wrap ((IntKind.u64.wrap (n - Int.ofNat 0)).fdiv (2 ^ min (Int.ofNat 16).toNat IntKind.u64.bits))).toNat,UInt8.ofNat (IntKind.u8.wrap ((IntKind.u64.wrap (n - Int.ofNat 0)).fdiv (2 ^ min (Int.ofNat 24).toNat IntKind.u64.bits))).toNat,UInt8.ofNat (IntKind.u8.wrap ((IntKind.u64.wrap (n - Int.ofNat 0)).fdiv (2 ^ min (Int.ofNat 32).toNat IntKind.u64.bits))).toNat,UInt8.ofNat (IntKind.u8.wrap ((IntKind.u64.wrap (n - Int.ofNat 0)).fdiv (2 ^ min (Int.ofNat 40).toNat IntKind.u64.bits))).toNat,UInt8.ofNat (IntKind.u8.wrap ((IntKind.u64.wrap (n - Int.ofNat 0)).fdiv (2 ^ min (Int.ofNat 48).toNat IntKind.u64.bits))).toNat,UInt8.ofNat (IntKind.u8.wrap ((IntKind.u64.wrap (n - Int.ofNat 0)).fdiv (2 ^ min (Int.ofNat 56).toNat IntKind.u64.bits))).toNat,UInt8.ofNat (IntKind.u8.wrap (Int.ofNat 255+IntKind.u8.wrap ((IntKind.u64.wrap (n - Int.ofNat 0)).fdiv (2 ^ min (Int.ofNat 64).toNat IntKind.u64.bits)))).toNat].reverse))):=by kernel_rfl
end
theorem mix:P.follows .mixedOrders=true:=Checked.mixed Tryd.checked
theorem og {f:FuncId}{Q:AV→AHeap→Prop}{k:Nat}{l:List Cmd}{m:AM}{A:Prop}(e:A=Obl P f Q k (Goal P k f Q) l m)(h:A):Goal P k f Q m:=Obl.goal mix (fun _ h=>h) (cast e h)
theorem oh {f:FuncId}{Q:AV→AHeap→Prop}{k:Nat}{l:List Cmd}{m:AM}{A:Prop}(e:A=Obl P f Q k (fun _=>False) l m)(h:A):Goal P k f Q m:=Obl.goal mix (fun _ h=>h.elim) (cast e h)
def B (x:Int):UInt8:=UInt8.ofNat (x % 256).toNat
def row (n:Int):List UInt8 :=
 if n≤240 then [B n]
 else if n≤2287 then [B (241+(n - 240) / 256),B (n - 240)]
 else if n≤67823 then [249,B ((n - 2288) / 256),B (n - 2288)]
 else if n≤16777215 then [250,B (n / 65536),B (n / 256),B n]
 else if n≤4294967295 then [251,B (n / 16777216),B (n / 65536),B (n / 256),B n]
 else if n≤1099511627775 then [252,B (n / 4294967296),B (n / 16777216),B (n / 65536),B (n / 256),B n]
 else if n≤281474976710655 then [253,B (n / 1099511627776),B (n / 4294967296),B (n / 16777216),B (n / 65536),B (n / 256),B n]
 else if n≤72057594037927935 then [254,B (n / 281474976710656),B (n / 1099511627776),B (n / 4294967296),B (n / 16777216),B (n / 65536),B (n / 256),B n]
 else [255,B (n / 72057594037927936),B (n / 281474976710656),B (n / 1099511627776),B (n / 4294967296),B (n / 16777216),B (n / 65536),B (n / 256),B n]
theorem zh (n:Int):(row n).length≤9:=by
 unfold row
 repeat' split
 all_goals simp
theorem qF (x:Int):UInt8.ofNat (IntKind.u8.wrap x).toNat=B x:=by rw [IntKind.wrap_u8]; rfl
theorem zie {x y:Int}(h:x % 256=y % 256):B x=B y:=by unfold B; rw [h]
theorem zeO {x:Int}{k:Nat}(h:x % 256=k):B x=UInt8.ofNat k:=by unfold B; rw [h]; rfl
theorem sh0 (x:Int):x.fdiv (2 ^ min (Int.ofNat 0).toNat IntKind.u64.bits)=x:=by
 have:(2 ^ min (Int.ofNat 0).toNat IntKind.u64.bits:Int)=1:=by decide
 rw [this,Int.fdiv_eq_ediv_of_nonneg _ (by decide),Int.ediv_one]
theorem sh8 (x:Int):x.fdiv (2 ^ min (Int.ofNat 8).toNat IntKind.u64.bits)=x / 256:=by
 have:(2 ^ min (Int.ofNat 8).toNat IntKind.u64.bits:Int)=256:=by decide
 rw [this,Int.fdiv_eq_ediv_of_nonneg _ (by decide)]
theorem zmW (x:Int):x.fdiv (2 ^ min (Int.ofNat 16).toNat IntKind.u64.bits)=x / 65536:=by
 have:(2 ^ min (Int.ofNat 16).toNat IntKind.u64.bits:Int)=65536:=by decide
 rw [this,Int.fdiv_eq_ediv_of_nonneg _ (by decide)]
theorem zoJ (x:Int):x.fdiv (2 ^ min (Int.ofNat 24).toNat IntKind.u64.bits)=x / 16777216:=by
 have:(2 ^ min (Int.ofNat 24).toNat IntKind.u64.bits:Int)=16777216:=by decide
 rw [this,Int.fdiv_eq_ediv_of_nonneg _ (by decide)]
theorem zpW (x:Int):x.fdiv (2 ^ min (Int.ofNat 32).toNat IntKind.u64.bits)=x / 4294967296:=by
 have:(2 ^ min (Int.ofNat 32).toNat IntKind.u64.bits:Int)=4294967296:=by decide
 rw [this,Int.fdiv_eq_ediv_of_nonneg _ (by decide)]
theorem sh40 (x:Int):x.fdiv (2 ^ min (Int.ofNat 40).toNat IntKind.u64.bits)=x / 1099511627776:=by
 have:(2 ^ min (Int.ofNat 40).toNat IntKind.u64.bits:Int)=1099511627776:=by decide
 rw [this,Int.fdiv_eq_ediv_of_nonneg _ (by decide)]
theorem sh48 (x:Int):x.fdiv (2 ^ min (Int.ofNat 48).toNat IntKind.u64.bits)=x / 281474976710656:=by
 have:(2 ^ min (Int.ofNat 48).toNat IntKind.u64.bits:Int)=281474976710656:=by decide
 rw [this,Int.fdiv_eq_ediv_of_nonneg _ (by decide)]
theorem sh56 (x:Int):x.fdiv (2 ^ min (Int.ofNat 56).toNat IntKind.u64.bits)=x / 72057594037927936:=by
 have:(2 ^ min (Int.ofNat 56).toNat IntKind.u64.bits:Int)=72057594037927936:=by decide
 rw [this,Int.fdiv_eq_ediv_of_nonneg _ (by decide)]
theorem sh64 (x:Int):x.fdiv (2 ^ min (Int.ofNat 64).toNat IntKind.u64.bits)=x / 18446744073709551616:=by
 have:(2 ^ min (Int.ofNat 64).toNat IntKind.u64.bits:Int)=18446744073709551616:=by decide
 rw [this,Int.fdiv_eq_ediv_of_nonneg _ (by decide)]
theorem nums (n:Int)(h0:0≤n)(h1:n≤18446744073709551615):Goal P 0 74 (fun x _=>x=.str (row n)) (zb P 74 [.int .u64 n] GW):=by
 have z0:IntKind.u64.wrap (n - Int.ofNat 0)=n:=by
  rw [show n - Int.ofNat 0=n by simp]; exact IntWalk.u64_in _ ⟨h0,h1⟩
 have goal:∀ {e:Prop},e=e→e→e:=fun _ h=>h
 by_cases c1:n≤240
 · refine (oh (nby n (fun x=>x=.str (row n)) _).symm ⟨decide_eq_true c1,?_⟩)
   simp only [z0,sh0,qF,row,if_pos c1,List.reverse_cons,List.reverse_nil,List.nil_append]
   congr 2
   refine zie ?_
   rw [IntKind.wrap_u8]
   first | (rw [z0]; show (0+_) % 256=_; omega) | (show (0+_) % 256=_; omega)
 by_cases c2:n≤2287
 · have z1:IntKind.u64.wrap (n - Int.ofNat 240)=n - 240:=IntWalk.u64_in _ (by show 0≤n - 240∧n - 240≤_; omega)
   refine (oh (nbny n (fun x=>x=.str (row n)) _).symm ⟨decide_eq_false c1,decide_eq_true c2,?_⟩)
   simp only [z1,sh0,sh8,qF,row,if_neg c1,if_pos c2,List.reverse_cons,List.reverse_nil,List.nil_append,List.cons_append]
   congr 2
   exact zie (by rw [IntKind.wrap_u8]; show (241+_) % 256=_; omega)
 by_cases c3:n≤67823
 · have z1:IntKind.u64.wrap (n - Int.ofNat 2288)=n - 2288:=IntWalk.u64_in _ (by show 0≤n - 2288∧n - 2288≤_; omega)
   refine (oh (nbnny n (fun x=>x=.str (row n)) _).symm ⟨decide_eq_false c1,decide_eq_false c2,decide_eq_true c3,?_⟩)
   simp only [z1,sh0,sh8,zmW,qF,row,if_neg c1,if_neg c2,if_pos c3,List.reverse_cons,List.reverse_nil,List.nil_append,List.cons_append]
   congr 2
   exact zeO (k:=249) (by rw [IntKind.wrap_u8]; show (249+_) % 256=_; omega)
 by_cases c4:n≤16777215
 · refine (oh (zpn n (fun x=>x=.str (row n)) _).symm ⟨decide_eq_false c1,decide_eq_false c2,decide_eq_false c3,decide_eq_true c4,?_⟩)
   simp only [z0,sh0,sh8,zmW,zoJ,qF,row,if_neg c1,if_neg c2,if_neg c3,if_pos c4,List.reverse_cons,List.reverse_nil,List.nil_append,List.cons_append]
   congr 2
   exact zeO (k:=250) (by rw [IntKind.wrap_u8]; show (250+_) % 256=_; omega)
 by_cases c5:n≤4294967295
 · refine (oh (znH n (fun x=>x=.str (row n)) _).symm ⟨decide_eq_false c1,decide_eq_false c2,decide_eq_false c3,decide_eq_false c4,decide_eq_true c5,?_⟩)
   simp only [z0,sh0,sh8,zmW,zoJ,zpW,qF,row,if_neg c1,if_neg c2,if_neg c3,if_neg c4,if_pos c5,List.reverse_cons,List.reverse_nil,List.nil_append,List.cons_append]
   congr 2
   exact zeO (k:=251) (by rw [IntKind.wrap_u8]; show (251+_) % 256=_; omega)
 by_cases c6:n≤1099511627775
 · refine (oh (zkU n (fun x=>x=.str (row n)) _).symm ⟨decide_eq_false c1,decide_eq_false c2,decide_eq_false c3,decide_eq_false c4,decide_eq_false c5,decide_eq_true c6,?_⟩)
   simp only [z0,sh0,sh8,zmW,zoJ,zpW,sh40,qF,row,if_neg c1,if_neg c2,if_neg c3,if_neg c4,if_neg c5,if_pos c6,List.reverse_cons,List.reverse_nil,List.nil_append,List.cons_append]
   congr 2
   exact zeO (k:=252) (by rw [IntKind.wrap_u8]; show (252+_) % 256=_; omega)
 by_cases c7:n≤281474976710655
 · refine (oh (zhS n (fun x=>x=.str (row n)) _).symm ⟨decide_eq_false c1,decide_eq_false c2,decide_eq_false c3,decide_eq_false c4,decide_eq_false c5,decide_eq_false c6,decide_eq_true c7,?_⟩)
   simp only [z0,sh0,sh8,zmW,zoJ,zpW,sh40,sh48,qF,row,if_neg c1,if_neg c2,if_neg c3,if_neg c4,if_neg c5,if_neg c6,if_pos c7,List.reverse_cons,List.reverse_nil,List.nil_append,List.cons_append]
   congr 2
   exact zeO (k:=253) (by rw [IntKind.wrap_u8]; show (253+_) % 256=_; omega)
 by_cases c8:n≤72057594037927935
 · refine (oh (zge n (fun x=>x=.str (row n)) _).symm ⟨decide_eq_false c1,decide_eq_false c2,decide_eq_false c3,decide_eq_false c4,decide_eq_false c5,decide_eq_false c6,decide_eq_false c7,decide_eq_true c8,?_⟩)
   simp only [z0,sh0,sh8,zmW,zoJ,zpW,sh40,sh48,sh56,qF,row,if_neg c1,if_neg c2,if_neg c3,if_neg c4,if_neg c5,if_neg c6,if_neg c7,if_pos c8,List.reverse_cons,List.reverse_nil,List.nil_append,List.cons_append]
   congr 2
   exact zeO (k:=254) (by rw [IntKind.wrap_u8]; show (254+_) % 256=_; omega)
 · refine (oh (zeE n (fun x=>x=.str (row n)) _).symm ⟨decide_eq_false c1,decide_eq_false c2,decide_eq_false c3,decide_eq_false c4,decide_eq_false c5,decide_eq_false c6,decide_eq_false c7,decide_eq_false c8,decide_eq_true h1,?_⟩)
   simp only [z0,sh0,sh8,zmW,zoJ,zpW,sh40,sh48,sh56,sh64,qF,row,if_neg c1,if_neg c2,if_neg c3,if_neg c4,if_neg c5,if_neg c6,if_neg c7,if_neg c8,List.reverse_cons,List.reverse_nil,List.nil_append,List.cons_append]
   congr 2
   exact zeO (k:=255) (by rw [IntKind.wrap_u8]; show (255+_) % 256=_; omega)
end Go.Proofs.YtdbfpjgnlfejmaaDoor.mq
end
section
set_option maxRecDepth 100000
namespace Go.Proofs.YtdbfpjgnlfejmaaDoor.mq
open Go Ev
theorem pn (s:List UInt8)(n:Int)(R:AV→Prop)(_K:AM→Prop):Obl P 48 (fun v _=>R v) 0 _K [.run 9,(.callv [0] (.str (row n))),.op,.run 3,.done] ((zb P 48 [.str s,.int .u64 n] GW))=((Goal P 0 74 (fun x _=>x=AV.str (row n)) (zb P 74 [.int .u64 n] GW))∧(s.length+(row n).length<1099511627776)∧(R (.str (s++row n)))):=by kernel_rfl
theorem pt (s t:List UInt8)(R:AV→Prop)(_K:AM→Prop):Obl P 49 (fun v _=>R v) 0 _K [.run 11,(.callv [0] (.str (row (IntKind.u64.wrap t.length)))),.op,.run 1,.op,.run 3,.done] ((zb P 49 [.str s,.str t] GW))=((Goal P 0 74 (fun x _=>x=AV.str (row (IntKind.u64.wrap ↑t.length))) (zb P 74 [.int .u64 (IntKind.u64.wrap ↑t.length)] GW))∧(s.length+(row (IntKind.u64.wrap ↑t.length)).length<1099511627776)∧((s++row (IntKind.u64.wrap ↑t.length)).length+t.length<1099511627776)∧(R (.str (s++row (IntKind.u64.wrap ↑t.length)++t)))):=by kernel_rfl
theorem zcD (s:List UInt8)(n:Int)(h0:0≤n)(h1:n≤18446744073709551615)(hs:s.length+9<1099511627776):Goal P 0 48 (fun x _=>x=.str (s++row n)) (zb P 48 [.str s,.int .u64 n] GW):=by
 have:=zh n
 exact (oh (pn s n (fun x=>x=.str (s++row n)) _).symm ⟨nums n h0 h1,by omega,rfl⟩)
theorem znj (t:List UInt8)(ht:t.length<1099511627776):IntKind.u64.wrap t.length=t.length:=IntWalk.u64_in _ (by omega)
theorem zoG (s t:List UInt8)(hs:s.length+t.length+9<1099511627776):Goal P 0 49 (fun x _=>x=.str (s++row (IntKind.u64.wrap t.length)++t)) (zb P 49 [.str s,.str t] GW):=by
 have:=zh (IntKind.u64.wrap t.length)
 have hw:=znj t (by omega)
 refine (oh (pt s t (fun x=>x=.str (s++row (IntKind.u64.wrap t.length)++t)) _).symm ⟨nums _ (by rw [hw]; omega) (by rw [hw]; omega),by omega,?_,rfl⟩)
 rw [List.length_append]; omega
end Go.Proofs.YtdbfpjgnlfejmaaDoor.mq
end
section
set_option maxRecDepth 100000
set_option linter.unusedVariables false
namespace Go.Proofs.YtdbfpjgnlfejmaaDoor.dg
open Go Ev
abbrev Dg:=List UInt8 × Int × Int
def ci (a b:Int):Int:=if a<b then -1 else if a > b then 1 else 0
def cf (x y:Dg):Int:=if Lib.compareBytes x.1 y.1≠0 then Lib.compareBytes x.1 y.1 else if ci x.2.1 y.2.1≠0 then ci x.2.1 y.2.1 else ci x.2.2 y.2.2
def Lt (x y:Dg):Prop:=x.1<y.1∨x.1=y.1∧(x.2.1<y.2.1∨x.2.1=y.2.1∧x.2.2<y.2.2)
theorem zjk (a:List UInt8):¬ a<a:=List.lt_irrefl a
theorem zku {a b c:List UInt8}(h:a<b)(k:b<c):a<c:=List.lt_trans h k
theorem zfo:∀ a b:List UInt8,(Lib.compareBytes a b=-1∧a<b)∨(Lib.compareBytes a b=0∧a=b)∨(Lib.compareBytes a b=1∧b<a)
 | [],[]=>.inr (.inl ⟨rfl,rfl⟩)
 | [],_::_=>.inl ⟨rfl,List.nil_lt_cons _ _⟩
 | _::_,[]=>.inr (.inr ⟨rfl,List.nil_lt_cons _ _⟩)
 | x::a,y::b=>by
  have ih:=zfo a b
  unfold Lib.compareBytes
  by_cases h:x<y
  · rw [if_pos h]
    exact .inl ⟨rfl,List.cons_lt_cons_iff.2 (.inl h)⟩
  · rw [if_neg h]
    by_cases k:y<x
    · rw [if_pos k]
      exact .inr (.inr ⟨rfl,List.cons_lt_cons_iff.2 (.inl k)⟩)
    · rw [if_neg k]
      have e:x=y:=UInt8.toNat_inj.1 (by
       rw [UInt8.lt_iff_toNat_lt] at h k
       omega)
      subst e
      rcases ih with ⟨h1,h2⟩ | ⟨h1,h2⟩ | ⟨h1,h2⟩
      · exact .inl ⟨h1,List.cons_lt_cons_iff.2 (.inr ⟨rfl,h2⟩)⟩
      · exact .inr (.inl ⟨h1,by rw [h2]⟩)
      · exact .inr (.inr ⟨h1,List.cons_lt_cons_iff.2 (.inr ⟨rfl,h2⟩)⟩)
theorem zfp (a b:Int):(ci a b=-1∧a<b)∨(ci a b=0∧a=b)∨(ci a b=1∧b<a):=by
 unfold ci
 by_cases h:a<b
 · rw [if_pos h]; exact .inl ⟨rfl,h⟩
 · rw [if_neg h]
   by_cases k:a > b
   · rw [if_pos k]; exact .inr (.inr ⟨rfl,k⟩)
   · rw [if_neg k]; exact .inr (.inl ⟨rfl,by omega⟩)
theorem ze7 (x y:Dg):(cf x y=-1∧Lt x y)∨(cf x y=0∧x=y)∨(cf x y=1∧Lt y x):=by
 obtain ⟨p,a,c⟩:=x
 obtain ⟨q,b,d⟩:=y
 unfold cf Lt
 rcases zfo p q with ⟨h1,h2⟩ | ⟨h1,rfl⟩ | ⟨h1,h2⟩
 · simp only [h1]
   exact .inl ⟨rfl,.inl h2⟩
 · simp only [h1]
   rcases zfp a b with ⟨k1,k2⟩ | ⟨k1,rfl⟩ | ⟨k1,k2⟩
   · simp only [k1]
     exact .inl ⟨rfl,.inr ⟨trivial,.inl k2⟩⟩
   · simp only [k1]
     rcases zfp c d with ⟨l1,l2⟩ | ⟨l1,rfl⟩ | ⟨l1,l2⟩
     · simp only [l1]
       exact .inl ⟨rfl,.inr ⟨trivial,.inr ⟨trivial,l2⟩⟩⟩
     · simp [l1]
     · simp only [l1]
       exact .inr (.inr ⟨rfl,.inr ⟨trivial,.inr ⟨trivial,l2⟩⟩⟩)
   · simp only [k1]
     exact .inr (.inr ⟨rfl,.inr ⟨trivial,.inl k2⟩⟩)
 · simp only [h1]
   exact .inr (.inr ⟨rfl,.inl h2⟩)
theorem Lt.irrefl (x:Dg):¬ Lt x x:=by
 unfold Lt
 rintro (h | ⟨_,h | ⟨_,h⟩⟩)
 · exact zjk _ h
 · omega
 · omega
theorem Lt.trans {x y z:Dg}(h:Lt x y)(k:Lt y z):Lt x z:=by
 unfold Lt at *
 rcases h with h | ⟨h0,h⟩ <;> rcases k with k | ⟨k0,k⟩
 · exact .inl (zku h k)
 · exact .inl (k0▸h)
 · exact .inl (h0▸k)
 · refine .inr ⟨h0.trans k0,?_⟩
   omega
theorem Lt.asymm {x y:Dg}(h:Lt x y):¬ Lt y x:=fun k=>Lt.irrefl x (h.trans k)
theorem zf1 (x y:Dg):ltOf cf x y=true ↔ Lt x y:=by
 unfold ltOf
 rw [decide_eq_true_iff]
 rcases ze7 x y with ⟨h1,h2⟩ | ⟨h1,rfl⟩ | ⟨h1,h2⟩
 · exact ⟨fun _=>h2,fun _=>by omega⟩
 · exact ⟨fun h=>by omega,fun h=>absurd h (Lt.irrefl _)⟩
 · exact ⟨fun h=>by omega,fun h=>absurd h h2.asymm⟩
theorem zcG (x y:Dg):ltOf cf x y=false ↔ ¬ Lt x y:=by rw [← zf1,Bool.not_eq_true]
theorem Lt.tri (x y:Dg):Lt x y∨x=y∨Lt y x:=by
 rcases ze7 x y with ⟨_,h⟩ | ⟨_,h⟩ | ⟨_,h⟩
 · exact .inl h
 · exact .inr (.inl h)
 · exact .inr (.inr h)
theorem swo:Go.Sort.SWO (ltOf cf) where
 irrefl x:=(zcG x x).2 (Lt.irrefl x)
 trans x y z h k:=(zf1 x z).2 (((zf1 x y).1 h).trans ((zf1 y z).1 k))
 ntrans x y z h k:=(zcG x z).2 (by
  have h:=(zcG x y).1 h
  have k:=(zcG y z).1 k
  intro l
  rcases Lt.tri y x with a | a | a
  · exact k (a.trans l)
  · subst a; exact k l
  · exact h a)
def Up (l:List Dg):Prop:=l.Pairwise fun x y=>¬ Lt y x
def Ups (l:List Dg):Prop:=l.Pairwise Lt
def dl:Dg→List Dg→List Dg
 | _,[]=>[]
 | p,x::r=>if x=p then dl x r else x::dl x r
def ded:List Dg→List Dg
 | []=>[]
 | x::r=>x::dl x r
theorem zl2:∀ (l:List Dg) (p x:Dg),(x=p∨x∈dl p l) ↔ (x=p∨x∈l)
 | [],p,x=>by simp [dl]
 | y::r,p,x=>by
  have ih:=zl2 r y x
  unfold dl
  by_cases h:y=p
  · rw [if_pos h]
    subst h
    rw [ih,List.mem_cons]
    constructor
    · rintro (h | h)
      · exact .inl h
      · exact .inr (.inr h)
    · rintro (h | h | h)
      · exact .inl h
      · exact .inl h
      · exact .inr h
  · rw [if_neg h,List.mem_cons,List.mem_cons,ih]
theorem znm (l:List Dg)(x:Dg):x∈ded l ↔ x∈l:=by
 cases l with
 | nil=>exact Iff.rfl
 | cons y r =>
  unfold ded
  rw [List.mem_cons,List.mem_cons]
  exact zl2 r y x
theorem zlY:∀ (l:List Dg) (p:Dg),Up (p::l)→Ups (p::dl p l)
 | [],p,_=>List.pairwise_singleton _ _
 | y::r,p,h=>by
  have h1:=List.pairwise_cons.1 h
  have ih:=zlY r y h1.2
  unfold dl
  by_cases e:y=p
  · rw [if_pos e]
    subst e
    exact ih
  · rw [if_neg e]
    refine List.pairwise_cons.2 ⟨fun z hz=>?_,ih⟩
    have hpy:Lt p y:=by
     rcases Lt.tri p y with a | a | a
     · exact a
     · exact absurd a.symm e
     · exact absurd a (h1.1 y (.head _))
    rcases List.mem_cons.1 hz with rfl | hz
    · exact hpy
    · exact hpy.trans ((List.pairwise_cons.1 ih).1 z hz)
theorem znc {l:List Dg}(h:Up l):Ups (ded l):=by
 cases l with
 | nil=>exact .nil
 | cons y r=>exact zlY r y h
theorem zho:∀ {l m:List Dg},Ups l→Ups m→(∀ x,x∈l ↔ x∈m)→l=m
 | [],[],_,_,_=>rfl
 | [],y::m,_,_,h=>absurd ((h y).2 (.head _)) (by simp)
 | x::l,[],_,_,h=>absurd ((h x).1 (.head _)) (by simp)
 | x::l,y::m,hl,hm,h=>by
  have h1:=List.pairwise_cons.1 hl
  have h2:=List.pairwise_cons.1 hm
  have e:x=y:=by
   rcases List.mem_cons.1 ((h x).1 (.head _)) with e | e
   · exact e
   · rcases List.mem_cons.1 ((h y).2 (.head _)) with e' | e'
     · exact e'.symm
     · exact absurd (h2.1 x e) (h1.1 y e').asymm
  subst e
  rw [zho h1.2 h2.2 fun z=>⟨fun hz=>?_,fun hz=>?_⟩]
  · rcases List.mem_cons.1 ((h z).1 (.tail _ hz)) with e | e
    · subst e; exact absurd (h1.1 z hz) (Lt.irrefl z)
    · exact e
  · rcases List.mem_cons.1 ((h z).2 (.tail _ hz)) with e | e
    · subst e; exact absurd (h2.1 z hz) (Lt.irrefl z)
    · exact e
def zaP (d:Dg):Bool:=decide (1≤d.2.2∧d.2.2≤13∧0≤d.2.1∧d.2.1≤2147483647∧d.1.length≤200)
def So (l m:List Dg):Prop:=Ups m∧∀ x,x∈m ↔ x∈l∧zaP x=true
theorem So.uniq {l l' m m':List Dg}(h:So l m)(h':So l' m')(e:∀ x,x∈l ↔ x∈l'):m=m' :=
 zho h.1 h'.1 fun x=>by rw [h.2,h'.2,e]
theorem So.self {l m:List Dg}(h:So l m):So m m:=⟨h.1,fun x=>⟨fun hx=>⟨hx,((h.2 x).1 hx).2⟩,fun hx=>hx.1⟩⟩
def el (f:Nat→Dg) (k:Nat):AV:=bif Nat.beq (k % 3) 0 then .str (f (k / 3)).1 else bif Nat.beq (k % 3) 1 then .int .i64 (f (k / 3)).2.1 else .int .i64 (f (k / 3)).2.2
def sc (d:Dg):List AV:=[.str d.1,.int .i64 d.2.1,.int .i64 d.2.2]
def upd {α:Type} (f:Nat→α) (i:Nat) (x:α) (j:Nat):α:=if j=i then x else f j
def clr {α:Type} (f:Nat→α) (i n:Nat) (x:α) (j:Nat):α:=if i≤j∧j<n then x else f j
def zd:Dg:=([],0,0)
theorem ze (f:Nat→Dg):za fun c=>some (el f c):=by
 intro k v h
 cases h
 unfold el
 cases Nat.beq (k % 3) 0 <;> cases Nat.beq (k % 3) 1 <;> rfl
theorem el0 (f:Nat→Dg)(u:Nat):el f (0+u*3)=.str (f u).1:=by
 unfold el
 rw [show (0+u*3) % 3=0 by omega,show (0+u*3) / 3=u by omega]
 rfl
theorem el1 (f:Nat→Dg)(u:Nat):el f (0+u*3+1)=.int .i64 (f u).2.1:=by
 unfold el
 rw [show (0+u*3+1) % 3=1 by omega,show (0+u*3+1) / 3=u by omega]
 rfl
theorem el2 (f:Nat→Dg)(u:Nat):el f (0+u*3+2)=.int .i64 (f u).2.2:=by
 unfold el
 rw [show (0+u*3+2) % 3=2 by omega,show (0+u*3+2) / 3=u by omega]
 rfl
theorem yY (f:Nat→Dg)(u:Nat):AV.agg [el f (0+u*3),el f (0+u*3+1),el f (0+u*3+2)]=AV.agg [.str (f u).1,.int .i64 (f u).2.1,.int .i64 (f u).2.2]:=by
 rw [el0,el1,el2]
theorem zhw (f:Nat→Dg)(k:Nat):(sc (f (k / 3)))[k % 3]?=some (el f k):=by
 have h:k % 3=0∨k % 3=1∨k % 3=2:=by omega
 unfold el sc
 rcases h with h | h | h <;> rw [h] <;> rfl
theorem zpb (f:Nat→Dg)(i:Nat)(d:Dg)(z:Nat) :
 xk z (.fn fun k=>some (el (upd f i d) k)) (.fn fun k=>bif (0+i*3).ble k&&k.blt (0+i*3+(sc d).length) then (fun k=>(sc d)[k]?) (k - (0+i*3)) else (T.fn fun c=>some (el f c)).get k):=by
 intro k v hk h
 have h:some (el (upd f i d) k)=some v:=h
 rw [← h]
 show (bif (0+i*3).ble k&&k.blt (0+i*3+3) then (sc d)[k - (0+i*3)]? else some (el f k))=_
 by_cases hin:i*3≤k∧k<i*3+3
 · have e:((0+i*3).ble k&&k.blt (0+i*3+3))=true:=by
    rw [Bool.and_eq_true,Nat.ble_eq,Nat.blt_eq]; omega
   rw [e,cond_true,← zhw,show k / 3=i by omega,show k - (0+i*3)=k % 3 by omega]
   unfold upd
   rw [if_pos rfl]
 · have e:((0+i*3).ble k&&k.blt (0+i*3+3))=false:=by
    rw [← Bool.not_eq_true,Bool.and_eq_true,Nat.ble_eq,Nat.blt_eq]; omega
   rw [e,cond_false]
   have h1:¬ k / 3=i:=by omega
   unfold el upd
   rw [if_neg h1]
theorem zpS (f:Nat→Dg)(i n:Nat)(z:Nat) :
 xk z (.fn fun k=>some (el (clr f i n zd) k)) (.fn fun k=>bif (0+i*3).ble k&&k.blt (0+i*3+(n - i)*(sc zd).length) then (fun k=>(sc zd)[k % (sc zd).length]?) (k - (0+i*3)) else (T.fn fun c=>some (el f c)).get k):=by
 intro k v hk h
 have h:some (el (clr f i n zd) k)=some v:=h
 rw [← h]
 show (bif (0+i*3).ble k&&k.blt (0+i*3+(n - i)*3) then (sc zd)[(k - (0+i*3)) % 3]? else some (el f k))=_
 by_cases hin:i*3≤k∧k<i*3+(n - i)*3
 · have e:((0+i*3).ble k&&k.blt (0+i*3+(n - i)*3))=true:=by
    rw [Bool.and_eq_true,Nat.ble_eq,Nat.blt_eq]; omega
   rw [e,cond_true,← zhw,show (k - (0+i*3)) % 3=k % 3 by omega]
   unfold clr
   rw [if_pos (by omega)]
 · have e:((0+i*3).ble k&&k.blt (0+i*3+(n - i)*3))=false:=by
    rw [← Bool.not_eq_true,Bool.and_eq_true,Nat.ble_eq,Nat.blt_eq]; omega
   rw [e,cond_false]
   have h1:¬ (i≤k / 3∧k / 3<n):=by omega
   unfold el clr
   rw [if_neg h1]
theorem zbo (f:Nat→Dg)(m:Nat)(p:List UInt8)(a c:Int){s:Nat}(hs:s=3) :
 xk (0+m*3+3) (.fn fun k=>some (el (upd f m (p,a,c)) k)) (.fn fun k=>bif (0+m*s).ble k&&k.blt (0+m*s+1*s) then (fun k=>((T.leaf.node (some (AV.int IntKind.i64 a)) T.leaf).node (some (AV.str p)) (T.leaf.node (some (AV.int IntKind.i64 c)) T.leaf)).get (0+k)) (k - (0+m*s)) else (T.fn fun c=>some (el f c)).get k):=by
 subst hs
 intro k v hk h
 have h:some (el (upd f m (p,a,c)) k)=some v:=h
 rw [← h]
 show (bif (0+m*3).ble k&&k.blt (0+m*3+1*3) then ((T.leaf.node (some (AV.int IntKind.i64 a)) T.leaf).node (some (AV.str p)) (T.leaf.node (some (AV.int IntKind.i64 c)) T.leaf)).get (0+(k - (0+m*3))) else some (el f k))=_
 by_cases hin:m*3≤k
 · have e:((0+m*3).ble k&&k.blt (0+m*3+1*3))=true:=by
    rw [Bool.and_eq_true,Nat.ble_eq,Nat.blt_eq]; omega
   rw [e,cond_true,← zhw,show k / 3=m by omega,show 0+(k - (0+m*3))=k % 3 by omega]
   unfold upd
   rw [if_pos rfl]
   have hr:k % 3=0∨k % 3=1∨k % 3=2:=by omega
   rcases hr with h | h | h <;> rw [h] <;> rfl
 · have e:((0+m*3).ble k&&k.blt (0+m*3+1*3))=false:=by
    rw [← Bool.not_eq_true,Bool.and_eq_true,Nat.ble_eq,Nat.blt_eq]; omega
   rw [e,cond_false]
   have h1:¬ k / 3=m:=by omega
   unfold el upd
   rw [if_neg h1]
theorem za9 (p:List UInt8)(a c:Int):xk 3 (.fn fun k=>some (el (fun _=>(p,a,c)) k)) ((T.leaf.node (some (AV.int IntKind.i64 a)) T.leaf).node (some (AV.str p)) (T.leaf.node (some (AV.int IntKind.i64 c)) T.leaf)):=by
 intro k v hk h
 have h:some (el (fun _=>(p,a,c)) k)=some v:=h
 rw [← h]
 have hr:k=0∨k=1∨k=2:=by omega
 rcases hr with h | h | h <;> subst h <;> rfl
def sl {α:Type} (s:Nat→α):Nat→Nat→List α
 | _,0=>[]
 | j,r+1=>s j::sl s (j+1) r
theorem kX {α:Type}(s:Nat→α):∀ r j,sl s j (r+1)=sl s j r++[s (j+r)]
 | 0,j=>rfl
 | r+1,j=>by
  show s j::sl s (j+1) (r+1)=(s j::sl s (j+1) r)++[s (j+(r+1))]
  rw [kX s r (j+1),List.cons_append,show j+1+r=j+(r+1) by omega]
theorem xw {α:Type}{s s':Nat→α}:∀ r j,(∀ t,j≤t→t<j+r→s t=s' t)→sl s j r=sl s' j r
 | 0,_,_=>rfl
 | r+1,j,h=>by
  show s j::sl s (j+1) r=s' j::sl s' (j+1) r
  rw [h j (by omega) (by omega),xw r (j+1) fun t h1 h2=>h t (by omega) (by omega)]
theorem xl {α:Type}(s:Nat→α):∀ r j,(sl s j r).length=r
 | 0,_=>rfl
 | r+1,j=>by
  show (sl s (j+1) r).length+1=r+1
  rw [xl s r (j+1)]
theorem zbc {α:Type}(s:Nat→α):∀ r j i,i<r→(sl s j r)[i]?=some (s (j+i))
 | 0,_,i,h=>by omega
 | r+1,j,0,_=>rfl
 | r+1,j,i+1,h=>by
  show (sl s (j+1) r)[i]?=_
  rw [zbc s r (j+1) i (by omega),show j+1+i=j+(i+1) by omega]
theorem zmv {α:Type}{s:Nat→α}{x:α}:∀ r j,x∈sl s j r→∃ t,j≤t∧t<j+r∧s t=x
 | 0,_,h=>by cases h
 | r+1,j,h=>by
  rcases List.mem_cons.1 h with e | h
  · exact ⟨j,by omega,by omega,e.symm⟩
  · obtain ⟨t,h1,h2,h3⟩:=zmv r (j+1) h
    exact ⟨t,by omega,by omega,h3⟩
theorem zjC {α:Type}(s:Nat→α):∀ r j t,j≤t→t<j+r→s t∈sl s j r
 | 0,j,t,h1,h2=>by omega
 | r+1,j,t,h1,h2=>by
  by_cases e:t=j
  · subst e; exact .head _
  · exact .tail _ (zjC s r (j+1) t (by omega) (by omega))
end Go.Proofs.YtdbfpjgnlfejmaaDoor.dg
end
section
set_option maxRecDepth 100000
set_option linter.unusedVariables false
namespace Go.Proofs.YtdbfpjgnlfejmaaDoor.dg
open Go Ev mq
noncomputable abbrev P:Program:=Tryd.prog
theorem mix:P.follows .mixedOrders=true:=Checked.mixed Tryd.checked
noncomputable def DS:Nat:=P.types[35].size
theorem qQ:DS=3:=by kernel_rfl
noncomputable def CoA (cell:Nat→AV) (k:Int) (m y:Nat) (G:T (T AV)):AM:=⟨⟨44,61,(.node (.node (.node .leaf (some (.int .i64 k)) .leaf) none .leaf) (some (.slg 0 0 0 m 0)) .leaf),
 [.code (cd P (44:Nat) [(1:Nat),(1:Nat),(0:Nat),(1:Nat),(0:Nat),(0:Nat)]),.inLoop (cd P (44:Nat) [(1:Nat),(1:Nat),(0:Nat),(1:Nat),(0:Nat),(0:Nat)]),.inBlock 0,.code (cd P (44:Nat) [(1:Nat),(1:Nat),(1:Nat)])],[],.run,CallKind.normal,none⟩,
 [],
 ⟨(.node .leaf (some (.cells (.fn fun c=>some (cell c)) y 35 0 0 1 0 false .leaf)) .leaf),1,G⟩⟩
noncomputable def CoB (cell:Nat→AV) (k k2:Int) (m y k0:Nat) (G:T (T AV)):AM:=⟨⟨44,61,(.node (.node (.node .leaf (some (.int .i64 k)) .leaf) none (.node .leaf (some (.int .i64 k2)) .leaf)) (some (.slg 0 0 0 m 0)) (.node (.node .leaf (some (.slg 0 0 (0+k0*3) (m - k0) (0+k0))) .leaf) none .leaf)),
 [.code (cd P (44:Nat) [(1:Nat),(1:Nat),(0:Nat),(1:Nat),(0:Nat),(0:Nat),(1:Nat),(0:Nat),(0:Nat),(1:Nat),(0:Nat),(1:Nat),(0:Nat),(1:Nat),(0:Nat),(0:Nat)]),.inLoop (cd P (44:Nat) [(1:Nat),(1:Nat),(0:Nat),(1:Nat),(0:Nat),(0:Nat),(1:Nat),(0:Nat),(0:Nat),(1:Nat),(0:Nat),(1:Nat),(0:Nat),(1:Nat),(0:Nat),(0:Nat)]),.inBlock 2,.code (cd P (44:Nat) [(1:Nat),(1:Nat),(0:Nat),(1:Nat),(0:Nat),(0:Nat),(1:Nat),(0:Nat),(0:Nat),(1:Nat),(0:Nat),(1:Nat),(1:Nat)]),.inBlock 1,.code (cd P (44:Nat) [(1:Nat),(1:Nat),(0:Nat),(1:Nat),(0:Nat),(0:Nat),(1:Nat),(1:Nat)]),.inLoop (cd P (44:Nat) [(1:Nat),(1:Nat),(0:Nat),(1:Nat),(0:Nat),(0:Nat)]),.inBlock 0,.code (cd P (44:Nat) [(1:Nat),(1:Nat),(1:Nat)])],[],.run,CallKind.normal,none⟩,
 [],
 ⟨(.node .leaf (some (.cells (.fn fun c=>some (cell c)) y 35 0 0 1 0 false .leaf)) .leaf),1,G⟩⟩
noncomputable def SCa (cell:Nat→AV) (i:Int) (n cp lo off z:Nat) (G:T (T AV)):AM:=⟨⟨12,23,(.node (.node (.node (.node .leaf (some (.int .i64 (↑n:Int))) .leaf) (some (.nils 0 0)) .leaf) none .leaf) none (.node (.node (.node .leaf (some (.int .i64 i)) .leaf) none .leaf) none (.node .leaf (some (.slg 0 0 0 n 0)) .leaf))),
 [.code (cd P (12:Nat) [(1:Nat),(1:Nat),(0:Nat),(1:Nat),(0:Nat),(0:Nat)]),.inLoop (cd P (12:Nat) [(1:Nat),(1:Nat),(0:Nat),(1:Nat),(0:Nat),(0:Nat)]),.inBlock 0,.code (cd P (12:Nat) [(1:Nat),(1:Nat),(1:Nat)])],[],.run,CallKind.normal,none⟩,
 [],
 ⟨(.node .leaf (some (.cells (.fn fun c=>some (cell c)) z 35 0 0 1 0 false .leaf)) .leaf),1,G⟩⟩
noncomputable def SCb (cell cell':Nat→AV) (i:Int) (n m cp lo off z y:Nat) (G:T (T AV)):AM:=⟨⟨12,23,(.node (.node (.node (.node .leaf (some (.int .i64 (↑n:Int))) .leaf) (some (.slg 1 0 0 m 0)) .leaf) none .leaf) none (.node (.node (.node .leaf (some (.int .i64 i)) .leaf) none .leaf) none (.node .leaf (some (.slg 0 0 0 n 0)) .leaf))),
 [.code (cd P (12:Nat) [(1:Nat),(1:Nat),(0:Nat),(1:Nat),(0:Nat),(0:Nat)]),.inLoop (cd P (12:Nat) [(1:Nat),(1:Nat),(0:Nat),(1:Nat),(0:Nat),(0:Nat)]),.inBlock 0,.code (cd P (12:Nat) [(1:Nat),(1:Nat),(1:Nat)])],[],.run,CallKind.normal,none⟩,
 [],
 ⟨(.node (.node .leaf (some (.cells (.fn fun c=>some (cell' c)) y 35 0 0 1 0 false .leaf)) .leaf) (some (.cells (.fn fun c=>some (cell c)) z 35 0 0 1 0 false .leaf)) .leaf),2,G⟩⟩
section
set_option linter.unusedSectionVars false
variable (R:AV→Prop) (p w:List UInt8) (a c:Int) (G:T (T AV)) (_K:AM→Prop)
include R p w a c G _K
theorem myyyy:Obl P 35 (fun v _=>R v) 0 _K [.run 10,(.callv [0] (.str w)),.run 2,.know 7 true,.run 5,.know 12 true,.run 5,.know 17 true,.run 8,.done] ((zb P 35 [.agg [.str p,.int .i64 a,.int .i64 c]] G))=((Goal P 0 16 (fun x _=>x=AV.str w) (zb P 16 [.int .i64 c] G))∧((!(w==([]:List UInt8)))=true)∧(decide ((0:Int)≤a)=true)∧(decide (a≤(2147483647:Int))=true)∧(R (.bool (decide ((↑p.length:Int)≤(200:Int)))))):=by kernel_rfl
theorem myyyn:Obl P 35 (fun v _=>R v) 0 _K [.run 10,(.callv [0] (.str w)),.run 2,.know 7 true,.run 5,.know 12 true,.run 5,.know 17 false,.run 8,.done] ((zb P 35 [.agg [.str p,.int .i64 a,.int .i64 c]] G))=((Goal P 0 16 (fun x _=>x=AV.str w) (zb P 16 [.int .i64 c] G))∧((!(w==([]:List UInt8)))=true)∧(decide ((0:Int)≤a)=true)∧(decide (a≤(2147483647:Int))=false)∧(R (.bool false))):=by kernel_rfl
theorem myyn:Obl P 35 (fun v _=>R v) 0 _K [.run 10,(.callv [0] (.str w)),.run 2,.know 7 true,.run 5,.know 12 false,.run 13,.done] ((zb P 35 [.agg [.str p,.int .i64 a,.int .i64 c]] G))=((Goal P 0 16 (fun x _=>x=AV.str w) (zb P 16 [.int .i64 c] G))∧((!(w==([]:List UInt8)))=true)∧(decide ((0:Int)≤a)=false)∧(R (.bool false))):=by kernel_rfl
theorem myn:Obl P 35 (fun v _=>R v) 0 _K [.run 10,(.callv [0] (.str w)),.run 2,.know 7 false,.run 18,.done] ((zb P 35 [.agg [.str p,.int .i64 a,.int .i64 c]] G))=((Goal P 0 16 (fun x _=>x=AV.str w) (zb P 16 [.int .i64 c] G))∧((!(w==([]:List UInt8)))=false)∧(R (.bool false))):=by kernel_rfl
end
theorem wdy (R:AV→Prop)(c:Int)(_K:AM→Prop):Obl P 16 (fun v _=>R v) 0 _K [.run 10,.know 5 true,.run 10,.done] ((zb P 16 [.int .i64 c] GW))=((decide (c<(0:Int))=true)∧(R (.str []))):=by kernel_rfl
theorem wdny (R:AV→Prop)(c:Int)(_K:AM→Prop):Obl P 16 (fun v _=>R v) 0 _K [.run 10,.know 5 false,.run 4,.know 8 true,.run 6,.done] ((zb P 16 [.int .i64 c] GW))=((decide (c<(0:Int))=false)∧(decide (c≥(14:Int))=true)∧(R (.str []))):=by kernel_rfl
section
set_option linter.unusedSectionVars false
variable (R:AV→Prop) (a c:Int) (_K:AM→Prop)
include R a c _K
theorem ciy:Obl P 42 (fun v _=>R v) 0 _K [.run 47,.know 11 false,.run 7,.know 13 false,.run 9,.know 16 true,.run 6,.done] ((zb P 42 [.int .i64 a,.int .i64 c] .leaf))=(((a != a)=false)∧((c != c)=false)∧(decide (a<c)=true)∧(R (.int .i64 (-1)))):=by kernel_rfl
theorem ciny:Obl P 42 (fun v _=>R v) 0 _K [.run 47,.know 11 false,.run 7,.know 13 false,.run 9,.know 16 false,.run 9,.know 19 true,.run 6,.done] ((zb P 42 [.int .i64 a,.int .i64 c] .leaf))=(((a != a)=false)∧((c != c)=false)∧(decide (a<c)=false)∧(decide (a > c)=true)∧(R (.int .i64 1))):=by kernel_rfl
theorem cinn:Obl P 42 (fun v _=>R v) 0 _K [.run 47,.know 11 false,.run 7,.know 13 false,.run 9,.know 16 false,.run 9,.know 19 false,.run 7,.done] ((zb P 42 [.int .i64 a,.int .i64 c] .leaf))=(((a != a)=false)∧((c != c)=false)∧(decide (a<c)=false)∧(decide (a > c)=false)∧(R (.int .i64 0))):=by kernel_rfl
end
section
set_option linter.unusedSectionVars false
variable (R:AV→Prop) (p q:List UInt8) (a b c d k2 k3:Int) (_K:AM→Prop)
include R p q a b c d k2 k3 _K
theorem cmy:Obl P 37 (fun v _=>R v) 0 _K [.run 93,.know 15 true,.run 11,.done] ((zb P 37 [.agg [.str p,.int .i64 a,.int .i64 c],.agg [.str q,.int .i64 b,.int .i64 d]] .leaf))=(((Lib.compareBytes p q != (0:Int))=true)∧(R (.int .i64 (Lib.compareBytes p q)))):=by kernel_rfl
theorem cmny:Obl P 37 (fun v _=>R v) 0 _K [.run 93,.know 15 false,.run 38,(.callv [0,1] (.int .i64 k2)),.run 11,.know 15 true,.run 11,.done] ((zb P 37 [.agg [.str p,.int .i64 a,.int .i64 c],.agg [.str q,.int .i64 b,.int .i64 d]] .leaf))=(((Lib.compareBytes p q != (0:Int))=false)∧(Goal P 0 42 (fun x _=>x=AV.int .i64 k2) (zb P 42 [.int .i64 a,.int .i64 b] .leaf))∧((k2 != (0:Int))=true)∧(R (.int .i64 k2))):=by kernel_rfl
theorem cmnn:Obl P 37 (fun v _=>R v) 0 _K [.run 93,.know 15 false,.run 38,(.callv [0,1] (.int .i64 k2)),.run 11,.know 15 false,.run 38,(.callv [0,1] (.int .i64 k3)),.run 11,.know 15 false,.run 24,.done] ((zb P 37 [.agg [.str p,.int .i64 a,.int .i64 c],.agg [.str q,.int .i64 b,.int .i64 d]] .leaf))=(((Lib.compareBytes p q != (0:Int))=false)∧(Goal P 0 42 (fun x _=>x=AV.int .i64 k2) (zb P 42 [.int .i64 a,.int .i64 b] .leaf))∧((k2 != (0:Int))=false)∧(Goal P 0 42 (fun x _=>x=AV.int .i64 k3) (zb P 42 [.int .i64 c,.int .i64 d] .leaf))∧((k3 != (0:Int))=false)∧(R (.int .i64 0))):=by kernel_rfl
end
theorem cay (R:AV→AHeap→Prop)(cell cell':Nat→AV)(p q:List UInt8)(a c e g k k2:Int)(m y k0:Nat)(b:Bool)(G:T (T AV))(_K:AM→Prop):Obl P 44 (fun v h=>R v h) 1 _K [.run 11,.know 8 true,.run 7,.done] ((zf P 44 [.slg 0 0 0 m 0] ⟨(.node .leaf (some (.cells (.fn fun c=>some (cell c)) y 35 0 0 1 0 false .leaf)) .leaf),1,G⟩))=((decide ((↑m:Int)<(2:Int))=true)∧(R (.slg 0 0 0 m 0) (⟨(.node .leaf (some (.cells (.fn fun c=>some (cell c)) y 35 0 0 1 0 false .leaf)) .leaf),1,G⟩))):=by kernel_rfl
theorem cbyn (R:AV→AHeap→Prop)(cell cell':Nat→AV)(p q:List UInt8)(a c e g k k2:Int)(m y k0:Nat)(b:Bool)(G:T (T AV))(K:AM→Prop):Obl P 44 (fun v h=>R v h) 1 K [.run 8,.know 13 true,.run 8,.op,.op,.slot 19 (.agg [.str p,.int .i64 a,.int .i64 c]),.run 3,.op,.op,.slot 24 (.agg [.str q,.int .i64 e,.int .i64 g]),.isv (.bool b),.run 1,.know 25 false,.run 9,.can 1 [0] [0,3] []] ((CoA cell k m y G))=((decide (k<(↑m:Int))=true)∧((0:Int)≤k∧k<(↑m:Int))∧(0+k.toNat*3+3≤y)∧(AV.agg [cell (0+k.toNat*3),cell (0+k.toNat*3+1),cell (0+k.toNat*3+2)]=AV.agg [AV.str p,AV.int .i64 a,AV.int .i64 c])∧((0:Int)≤IntKind.i64.wrap (k - (1:Int))∧IntKind.i64.wrap (k - (1:Int))<(↑m:Int))∧(0+(IntKind.i64.wrap (k - (1:Int))).toNat*3+3≤y)∧(AV.agg [cell (0+(IntKind.i64.wrap (k - (1:Int))).toNat*3),cell (0+(IntKind.i64.wrap (k - (1:Int))).toNat*3+1),cell (0+(IntKind.i64.wrap (k - (1:Int))).toNat*3+2)]=AV.agg [AV.str q,AV.int .i64 e,AV.int .i64 g])∧(∀ (h:AHeap),wO P h BinOp.eql 35 (zi (Operand.tmp 19) || zi (Operand.tmp 24)) (AV.agg [AV.str p,AV.int .i64 a,AV.int .i64 c]) (AV.agg [AV.str q,AV.int .i64 e,AV.int .i64 g])=some (AV.bool b))∧(b=false)∧(za fun c=>some (cell c))∧K (CoA cell (IntKind.i64.wrap (k+(1:Int))) m y G)):=by kernel_rfl
theorem cbn (R:AV→AHeap→Prop)(cell cell':Nat→AV)(p q:List UInt8)(a c e g k k2:Int)(m y k0:Nat)(b:Bool)(G:T (T AV))(_K:AM→Prop):Obl P 44 (fun v h=>R v h) 1 _K [.run 8,.know 13 false,.run 8,.done] ((CoA cell k m y G))=((decide (k<(↑m:Int))=false)∧(R (.slg 0 0 0 m 0) (⟨(.node .leaf (some (.cells (.fn fun c=>some (cell c)) y 35 0 0 1 0 false .leaf)) .leaf),1,G⟩))):=by kernel_rfl
theorem ccyy (R:AV→AHeap→Prop)(cell cell':Nat→AV)(p q:List UInt8)(a c e g k k2:Int)(m y k0:Nat)(b:Bool)(G:T (T AV))(K:AM→Prop):Obl P 44 (fun v h=>R v h) 1 K [.run 8,.know 32 true,.run 8,.op,.op,.slot 38 (.agg [.str p,.int .i64 a,.int .i64 c]),.run 3,.op,.op,.slot 43 (.agg [.str q,.int .i64 e,.int .i64 g]),.isv (.bool b),.run 1,.know 44 true,.run 7,.op,.op,.slot 50 (.agg [.str p,.int .i64 a,.int .i64 c]),.op,.opw false,.told 0 (.fn fun c=>some (cell' c)) y,.run 13,.can 1 [0] [0,3,4,5] []] ((CoB cell k k2 m y k0 G))=((decide (k2<(↑(m - k0):Int))=true)∧((0:Int)≤k2∧k2<(↑(m - k0):Int))∧(0+k0*3+k2.toNat*3+3≤y)∧(AV.agg [cell (0+k0*3+k2.toNat*3),cell (0+k0*3+k2.toNat*3+1),cell (0+k0*3+k2.toNat*3+2)]=AV.agg [AV.str p,AV.int .i64 a,AV.int .i64 c])∧((0:Int)≤IntKind.i64.wrap (k2 - (1:Int))∧IntKind.i64.wrap (k2 - (1:Int))<(↑(m - k0):Int))∧(0+k0*3+(IntKind.i64.wrap (k2 - (1:Int))).toNat*3+3≤y)∧(AV.agg [cell (0+k0*3+(IntKind.i64.wrap (k2 - (1:Int))).toNat*3),cell (0+k0*3+(IntKind.i64.wrap (k2 - (1:Int))).toNat*3+1),cell (0+k0*3+(IntKind.i64.wrap (k2 - (1:Int))).toNat*3+2)]=AV.agg [AV.str q,AV.int .i64 e,AV.int .i64 g])∧(∀ (h:AHeap),wO P h BinOp.neq 35 (zi (Operand.tmp 38) || zi (Operand.tmp 43)) (AV.agg [AV.str p,AV.int .i64 a,AV.int .i64 c]) (AV.agg [AV.str q,AV.int .i64 e,AV.int .i64 g])=some (AV.bool b))∧(b=true)∧((0:Int)≤k2∧k2<(↑(m - k0):Int))∧(0+k0*3+k2.toNat*3+3≤y)∧(AV.agg [cell (0+k0*3+k2.toNat*3),cell (0+k0*3+k2.toNat*3+1),cell (0+k0*3+k2.toNat*3+2)]=AV.agg [AV.str p,AV.int .i64 a,AV.int .i64 c])∧((0:Int)≤k∧k<(↑m:Int))∧(True∧0+k.toNat*3+(sc (p,a,c)).length≤y∧0≤0+k.toNat*3)∧(xk (y) ((.fn fun c=>some (cell' c))) ((.fn fun j=>bif (0+k.toNat*3).ble j&&j.blt (0+k.toNat*3+(sc (p,a,c)).length) then (fun k=>(sc (p,a,c))[k]?) (j - (0+k.toNat*3)) else (T.fn fun c=>some (cell c)).get j)))∧(y=y)∧(za fun c=>some (cell' c))∧K (CoB cell' (IntKind.i64.wrap (k+(1:Int))) (IntKind.i64.wrap (k2+(1:Int))) m y k0 G)):=by kernel_rfl
theorem ccyn (R:AV→AHeap→Prop)(cell cell':Nat→AV)(p q:List UInt8)(a c e g k k2:Int)(m y k0:Nat)(b:Bool)(G:T (T AV))(K:AM→Prop):Obl P 44 (fun v h=>R v h) 1 K [.run 8,.know 32 true,.run 8,.op,.op,.slot 38 (.agg [.str p,.int .i64 a,.int .i64 c]),.run 3,.op,.op,.slot 43 (.agg [.str q,.int .i64 e,.int .i64 g]),.isv (.bool b),.run 1,.know 44 false,.run 9,.can 1 [0] [0,3,4,5] []] ((CoB cell k k2 m y k0 G))=((decide (k2<(↑(m - k0):Int))=true)∧((0:Int)≤k2∧k2<(↑(m - k0):Int))∧(0+k0*3+k2.toNat*3+3≤y)∧(AV.agg [cell (0+k0*3+k2.toNat*3),cell (0+k0*3+k2.toNat*3+1),cell (0+k0*3+k2.toNat*3+2)]=AV.agg [AV.str p,AV.int .i64 a,AV.int .i64 c])∧((0:Int)≤IntKind.i64.wrap (k2 - (1:Int))∧IntKind.i64.wrap (k2 - (1:Int))<(↑(m - k0):Int))∧(0+k0*3+(IntKind.i64.wrap (k2 - (1:Int))).toNat*3+3≤y)∧(AV.agg [cell (0+k0*3+(IntKind.i64.wrap (k2 - (1:Int))).toNat*3),cell (0+k0*3+(IntKind.i64.wrap (k2 - (1:Int))).toNat*3+1),cell (0+k0*3+(IntKind.i64.wrap (k2 - (1:Int))).toNat*3+2)]=AV.agg [AV.str q,AV.int .i64 e,AV.int .i64 g])∧(∀ (h:AHeap),wO P h BinOp.neq 35 (zi (Operand.tmp 38) || zi (Operand.tmp 43)) (AV.agg [AV.str p,AV.int .i64 a,AV.int .i64 c]) (AV.agg [AV.str q,AV.int .i64 e,AV.int .i64 g])=some (AV.bool b))∧(b=false)∧(za fun c=>some (cell c))∧K (CoB cell k (IntKind.i64.wrap (k2+(1:Int))) m y k0 G)):=by kernel_rfl
theorem cdn (R:AV→AHeap→Prop)(cell cell':Nat→AV)(p q:List UInt8)(a c e g k k2:Int)(m y k0:Nat)(b:Bool)(G:T (T AV))(_K:AM→Prop):Obl P 44 (fun v h=>R v h) 1 _K [.run 8,.know 32 false,.run 6,.op,.opw false,.told 0 (.fn fun c=>some (cell' c)) y,.run 5,.op,.run 3,.done] ((CoB cell k k2 m y k0 G))=((decide (k2<(↑(m - k0):Int))=false)∧((0:Int)≤k∧k≤(↑m:Int))∧(0<m - k.toNat∧0+k.toNat*3+(m - k.toNat)*3≤y∧0≤0+k.toNat*3)∧(xk (y) ((.fn fun c=>some (cell' c))) ((.fn fun j=>bif (0+k.toNat*3).ble j&&j.blt (0+k.toNat*3+(m - k.toNat)*(sc zd).length) then (fun k=>(sc zd)[k % (sc zd).length]?) (j - (0+k.toNat*3)) else (T.fn fun c=>some (cell c)).get j)))∧(y=y)∧((0:Int)≤k∧k≤(↑m:Int))∧(R (.slg 0 0 0 (k.toNat - 0) 0) (⟨(.node .leaf (some (.cells (.fn fun c=>some (cell' c)) y 35 0 0 1 0 false .leaf)) .leaf),1,G⟩))):=by kernel_rfl
theorem can (R:AV→AHeap→Prop)(cell cell':Nat→AV)(p q:List UInt8)(a c e g k k2:Int)(m y k0:Nat)(b:Bool)(G:T (T AV))(K:AM→Prop):Obl P 44 (fun v h=>R v h) 1 K [.run 11,.know 8 false,.run 9,.can 1 [0] [0,3] []] ((zf P 44 [.slg 0 0 0 m 0] ⟨(.node .leaf (some (.cells (.fn fun c=>some (cell c)) y 35 0 0 1 0 false .leaf)) .leaf),1,G⟩))=((decide ((↑m:Int)<(2:Int))=false)∧(za fun c=>some (cell c))∧K (CoA cell (Int.ofNat 1) m y G)):=by kernel_rfl
theorem cbyy (R:AV→AHeap→Prop)(cell cell':Nat→AV)(p q:List UInt8)(a c e g k k2:Int)(m y k0:Nat)(b:Bool)(G:T (T AV))(K:AM→Prop):Obl P 44 (fun v h=>R v h) 1 K [.run 8,.know 13 true,.run 8,.op,.op,.slot 19 (.agg [.str p,.int .i64 a,.int .i64 c]),.run 3,.op,.op,.slot 24 (.agg [.str q,.int .i64 e,.int .i64 g]),.isv (.bool b),.run 1,.know 25 true,.run 5,.op,.run 9,.can 1 [0] [0,3,4,5] []] ((CoA cell k m y G))=((decide (k<(↑m:Int))=true)∧((0:Int)≤k∧k<(↑m:Int))∧(0+k.toNat*3+3≤y)∧(AV.agg [cell (0+k.toNat*3),cell (0+k.toNat*3+1),cell (0+k.toNat*3+2)]=AV.agg [AV.str p,AV.int .i64 a,AV.int .i64 c])∧((0:Int)≤IntKind.i64.wrap (k - (1:Int))∧IntKind.i64.wrap (k - (1:Int))<(↑m:Int))∧(0+(IntKind.i64.wrap (k - (1:Int))).toNat*3+3≤y)∧(AV.agg [cell (0+(IntKind.i64.wrap (k - (1:Int))).toNat*3),cell (0+(IntKind.i64.wrap (k - (1:Int))).toNat*3+1),cell (0+(IntKind.i64.wrap (k - (1:Int))).toNat*3+2)]=AV.agg [AV.str q,AV.int .i64 e,AV.int .i64 g])∧(∀ (h:AHeap),wO P h BinOp.eql 35 (zi (Operand.tmp 19) || zi (Operand.tmp 24)) (AV.agg [AV.str p,AV.int .i64 a,AV.int .i64 c]) (AV.agg [AV.str q,AV.int .i64 e,AV.int .i64 g])=some (AV.bool b))∧(b=true)∧((0:Int)≤k∧k≤(↑m:Int))∧(za fun c=>some (cell c))∧K (CoB cell k (Int.ofNat 1) m y k.toNat G)):=by kernel_rfl
theorem Cst (R:AV→AHeap→Prop)(cell cell' cell2 cell3:Nat→AV)(p:List UInt8)(a c i:Int)(n m cp lo off z y k:Nat)(b:Bool)(G:T (T AV))(K:AM→Prop):Obl P 12 (fun v h=>R v h) 1 K [.run 17,.can 1 [0] [3,6,7,8] []] ((zf P 12 [.slg 0 0 0 n 0] ⟨(.node .leaf (some (.cells (.fn fun c=>some (cell c)) z 35 0 0 1 0 false .leaf)) .leaf),1,G⟩))=((za fun c=>some (cell c))∧K (SCa cell (Int.ofNat 0) n cp lo off z G)):=by kernel_rfl
theorem Cayn (R:AV→AHeap→Prop)(cell cell' cell2 cell3:Nat→AV)(p:List UInt8)(a c i:Int)(n m cp lo off z y k:Nat)(b:Bool)(G:T (T AV))(K:AM→Prop):Obl P 12 (fun v h=>R v h) 1 K [.run 5,.know 9 true,.run 6,.op,.op,.slot 11 (.agg [.str p,.int .i64 a,.int .i64 c]),.run 7,(.callv [0] (.bool b)),.run 1,.know 13 false,.run 8,.can 1 [0] [3,6,7,8] []] ((SCa cell i n cp lo off z G))=((decide (i<(↑n:Int))=true)∧((0:Int)≤i∧i<(↑n:Int))∧(0+i.toNat*3+3≤z)∧(AV.agg [cell (0+i.toNat*3),cell (0+i.toNat*3+1),cell (0+i.toNat*3+2)]=AV.agg [AV.str p,AV.int .i64 a,AV.int .i64 c])∧(Goal P 0 35 (fun x _=>x=AV.bool b) (zb P 35 [.agg [.str p,.int .i64 a,.int .i64 c]] G))∧(b=false)∧(za fun c=>some (cell c))∧K (SCa cell (IntKind.i64.wrap (i+(1:Int))) n cp lo off z G)):=by kernel_rfl
theorem Can (R:AV→AHeap→Prop)(cell cell' cell2 cell3:Nat→AV)(p:List UInt8)(a c i:Int)(n m cp lo off z y k:Nat)(b:Bool)(G:T (T AV))(_K:AM→Prop):Obl P 12 (fun v h=>R v h) 1 _K [.run 5,.know 9 false,.run 159,.done] ((SCa cell i n cp lo off z G))=((decide (i<(↑n:Int))=false)∧(R (.nils 0 0) (⟨(.node .leaf (some (.cells (.fn fun c=>some (cell c)) z 35 0 0 1 0 false .leaf)) .leaf),1,G⟩))):=by kernel_rfl
section
set_option linter.unusedSectionVars false
variable (R:AV→AHeap→Prop) (cell cell' cell2 cell3:Nat→AV) (p:List UInt8) (a c i:Int) (n m cp lo off z y k:Nat) (b:Bool) (G:T (T AV)) (K:AM→Prop)
include R cell cell' cell2 cell3 p a c i n m cp lo off z y k b G K
theorem Cayy:Obl P 12 (fun v h=>R v h) 1 K [.run 5,.know 9 true,.run 6,.op,.op,.slot 11 (.agg [.str p,.int .i64 a,.int .i64 c]),.run 7,(.callv [0] (.bool b)),.run 1,.know 13 true,.run 14,.told 3 (.fn fun c=>some (cell' c)) 3,.can 1 [0,3] [3,6,7,8] []] ((SCa cell i n cp lo off z G))=((decide (i<(↑n:Int))=true)∧((0:Int)≤i∧i<(↑n:Int))∧(0+i.toNat*3+3≤z)∧(AV.agg [cell (0+i.toNat*3),cell (0+i.toNat*3+1),cell (0+i.toNat*3+2)]=AV.agg [AV.str p,AV.int .i64 a,AV.int .i64 c])∧(Goal P 0 35 (fun x _=>x=AV.bool b) (zb P 35 [.agg [.str p,.int .i64 a,.int .i64 c]] G))∧(b=true)∧(xk 3 ((.fn fun c=>some (cell' c))) ((.node (.node .leaf (some (.int .i64 a)) .leaf) (some (.str p)) (.node .leaf (some (.int .i64 c)) .leaf))))∧(3=3)∧(za fun c=>some (cell c))∧(za fun c=>some (cell' c))∧K (SCb cell cell' (IntKind.i64.wrap (i+(1:Int))) n 1 cp lo off z 3 G)):=by kernel_rfl
theorem Cbyy:Obl P 12 (fun v h=>R v h) 1 K [.run 5,.know 9 true,.run 6,.op,.op,.slot 11 (.agg [.str p,.int .i64 a,.int .i64 c]),.run 7,(.callv [0] (.bool b)),.run 1,.know 13 true,.run 5,.opw false,.told 1 (.fn fun c=>some (cell2 c)) (0+m*3+3),.run 8,.can 1 [0,1] [3,6,7,8] []] ((SCb cell cell' i n m cp lo off z y G))=((decide (i<(↑n:Int))=true)∧((0:Int)≤i∧i<(↑n:Int))∧(0+i.toNat*3+3≤z)∧(AV.agg [cell (0+i.toNat*3),cell (0+i.toNat*3+1),cell (0+i.toNat*3+2)]=AV.agg [AV.str p,AV.int .i64 a,AV.int .i64 c])∧(Goal P 0 35 (fun x _=>x=AV.bool b) (zb P 35 [.agg [.str p,.int .i64 a,.int .i64 c]] G))∧(b=true)∧((0+1*DS≤3∧∀ (k:Nat),k<1*DS→∃ v,((T.leaf.node (some (AV.int .i64 a)) T.leaf).node (some (AV.str p)) (T.leaf.node (some (AV.int .i64 c)) T.leaf)).get (0+k)=some v∧v.one=true)∧0<1∧0+m*3≤y∧0≤0+m*3∧0=0*DS∧zY (m+1) 32=true∧y<0+(m+1)*3)∧(xk (0+m*3+3) ((.fn fun c=>some (cell2 c))) ((.fn fun k=>bif (0+m*DS).ble k&&k.blt (0+m*DS+1*DS) then (fun k=>((T.leaf.node (some (AV.int .i64 a)) T.leaf).node (some (AV.str p)) (T.leaf.node (some (AV.int .i64 c)) T.leaf)).get (0+k)) (k - (0+m*DS)) else (T.fn fun c=>some (cell' c)).get k)))∧(0+m*3+3=0+m*3+3)∧(za fun c=>some (cell c))∧(za fun c=>some (cell2 c))∧K (SCb cell cell2 (IntKind.i64.wrap (i+(1:Int))) n (m+1) cp lo off z (0+m*3+3) G)):=by kernel_rfl
theorem Cbyn:Obl P 12 (fun v h=>R v h) 1 K [.run 5,.know 9 true,.run 6,.op,.op,.slot 11 (.agg [.str p,.int .i64 a,.int .i64 c]),.run 7,(.callv [0] (.bool b)),.run 1,.know 13 false,.run 8,.can 1 [0,1] [3,6,7,8] []] ((SCb cell cell' i n m cp lo off z y G))=((decide (i<(↑n:Int))=true)∧((0:Int)≤i∧i<(↑n:Int))∧(0+i.toNat*3+3≤z)∧(AV.agg [cell (0+i.toNat*3),cell (0+i.toNat*3+1),cell (0+i.toNat*3+2)]=AV.agg [AV.str p,AV.int .i64 a,AV.int .i64 c])∧(Goal P 0 35 (fun x _=>x=AV.bool b) (zb P 35 [.agg [.str p,.int .i64 a,.int .i64 c]] G))∧(b=false)∧(za fun c=>some (cell c))∧(za fun c=>some (cell' c))∧K (SCb cell cell' (IntKind.i64.wrap (i+(1:Int))) n m cp lo off z y G)):=by kernel_rfl
end
theorem Cbn (R:AV→AHeap→Prop)(cell cell' cell2 cell3:Nat→AV)(p:List UInt8)(a c i:Int)(n m cp lo off z y k:Nat)(b:Bool)(G:T (T AV))(_K:AM→Prop):Obl P 12 (fun v h=>R v h) 1 _K [.run 5,.know 9 false,.run 5,.ask (.tup []) ⟨(.node (.node .leaf (some (.cells (.fn fun c=>some (cell2 c)) y 35 0 0 1 0 false .leaf)) .leaf) (some (.cells (.fn fun c=>some (cell c)) z 35 0 0 1 0 false .leaf)) .leaf),2,G⟩,.run 5,(.callh [(1,0,[])] [0] (.slg 0 0 0 k 0) ⟨(.node .leaf (some (.cells (.fn fun c=>some (cell3 c)) y 35 0 0 1 0 false .leaf)) .leaf),1,G⟩),.run 3,.done] ((SCb cell cell' i n m cp lo off z y G))=((decide (i<(↑n:Int))=false)∧(zk2 P 36 [.slg 1 0 0 m 0,.fn (Fn.func 37) [] []] ⟨(.node (.node .leaf (some (.cells (.fn fun c=>some (cell' c)) y 35 0 0 1 0 false .leaf)) .leaf) (some (.cells (.fn fun c=>some (cell c)) z 35 0 0 1 0 false .leaf)) .leaf),2,G⟩ (.tup []) ⟨(.node (.node .leaf (some (.cells (.fn fun c=>some (cell2 c)) y 35 0 0 1 0 false .leaf)) .leaf) (some (.cells (.fn fun c=>some (cell c)) z 35 0 0 1 0 false .leaf)) .leaf),2,G⟩)∧(za fun c=>some (cell2 c))∧(za fun c=>some (cell3 c))∧(Goal P 1 44 (fun x j=>x=AV.slg 0 0 0 k 0∧j={ objs:=T.leaf.node (some (AObj.cells (T.fn fun c=>some (cell3 c)) y 35 0 0 1 0 false T.leaf)) T.leaf,next:=1,glob:=G }) (zf P 44 [.slg 0 0 0 m 0] ⟨(.node .leaf (some (.cells (.fn fun c=>some (cell2 c)) y 35 0 0 1 0 false .leaf)) .leaf),1,G⟩))∧(R (.slg 1 0 0 k 0) (⟨(.node (.node .leaf (some (.cells (.fn fun c=>some (cell3 c)) y 35 0 0 1 0 false .leaf)) .leaf) (some (.cells (.fn fun c=>some (cell c)) z 35 0 0 1 0 false .leaf)) .leaf),2,G⟩))):=by kernel_rfl
theorem hn (R:AV→AHeap→Prop)(cell cell':Nat→AV)(p q:List UInt8)(a c e g i:Int)(n m cp z y lo off:Nat)(b:Bool)(G:T (T AV))(_K:AM→Prop):Obl P 22 (fun v h=>R v h) 0 _K [.run 27,.can 0 [] [4] [],.done] ((zf P 22 [.nils 0 0,.agg [.str p,.int .i64 a,.int .i64 c]] ⟨.leaf,0,G⟩))=((R (.bool false) (⟨.leaf,0,G⟩))):=by kernel_rfl
theorem cmnny (R:AV→Prop)(p q:List UInt8)(a b c d k2 k3:Int)(_K:AM→Prop):Obl P 37 (fun v _=>R v) 0 _K [.run 93,.know 15 false,.run 38,(.callv [0,1] (.int .i64 k2)),.run 11,.know 15 false,.run 38,(.callv [0,1] (.int .i64 k3)),.run 11,.know 15 true,.run 11,.done] ((zb P 37 [.agg [.str p,.int .i64 a,.int .i64 c],.agg [.str q,.int .i64 b,.int .i64 d]] .leaf))=(((Lib.compareBytes p q != (0:Int))=false)∧(Goal P 0 42 (fun x _=>x=AV.int .i64 k2) (zb P 42 [.int .i64 a,.int .i64 b] .leaf))∧((k2 != (0:Int))=false)∧(Goal P 0 42 (fun x _=>x=AV.int .i64 k3) (zb P 42 [.int .i64 c,.int .i64 d] .leaf))∧((k3 != (0:Int))=true)∧(R (.int .i64 k3))):=by kernel_rfl
theorem eq35 (p q:List UInt8)(a c e g:Int)(b:Bool)(h:AHeap):wO P h .eql 35 b (.agg [.str p,.int .i64 a,.int .i64 c]) (.agg [.str q,.int .i64 e,.int .i64 g])=some (.bool (decide ((p,a,c)=(q,e,g)))):=by
 have key:wO P h .eql 35 b (.agg [.str p,.int .i64 a,.int .i64 c]) (.agg [.str q,.int .i64 e,.int .i64 g])
  = (match (match some (p==q) with
   | some true=>(match some (a==e) with
    | some true=>(match some (c==g) with
     | some true=>some true
     | some false=>some false
     | none=>none)
    | some false=>some false
    | none=>none)
   | some false=>some false
   | none=>none) with
   | none=>none
   | some b=>some (.bool b)):=by kernel_rfl
 rw [key]
 have e3:decide ((p,a,c)=(q,e,g))=((p==q)&&((a==e)&&(c==g))):=by
  rw [Bool.eq_iff_iff]; simp
 rw [e3]
 generalize (p==q)=b1
 generalize (a==e)=b2
 generalize (c==g)=b3
 cases b1 <;> cases b2 <;> cases b3 <;> rfl
theorem ne35 (p q:List UInt8)(a c e g:Int)(b:Bool)(h:AHeap):wO P h .neq 35 b (.agg [.str p,.int .i64 a,.int .i64 c]) (.agg [.str q,.int .i64 e,.int .i64 g])=some (.bool (!decide ((p,a,c)=(q,e,g)))):=by
 have key:wO P h .neq 35 b (.agg [.str p,.int .i64 a,.int .i64 c]) (.agg [.str q,.int .i64 e,.int .i64 g])
  = (match (match some (p==q) with
   | some true=>(match some (a==e) with
    | some true=>(match some (c==g) with
     | some true=>some true
     | some false=>some false
     | none=>none)
    | some false=>some false
    | none=>none)
   | some false=>some false
   | none=>none) with
   | none=>none
   | some b=>some (.bool (!b))):=by kernel_rfl
 rw [key]
 have e3:decide ((p,a,c)=(q,e,g))=((p==q)&&((a==e)&&(c==g))):=by
  rw [Bool.eq_iff_iff]; simp
 rw [e3]
 generalize (p==q)=b1
 generalize (a==e)=b2
 generalize (c==g)=b3
 cases b1 <;> cases b2 <;> cases b3 <;> rfl
end Go.Proofs.YtdbfpjgnlfejmaaDoor.dg
end
section
namespace Go.Proofs
open Go.Shelf
def Tryd.sortL_ren:Go.Shelf.Ren:=⟨fun | 6=>36 | 15=>69 | 14=>68 | 28=>97 | 29=>98 | 20=>89 | 21=>90 | 22=>91 | 23=>92 | 24=>93 | 25=>94 | 26=>95 | 27=>96 | 46=>104 | 47=>105 | 48=>106 | 49=>107 | 50=>108 | 57=>110 | n=>n,fun | 22=>22 | 24=>35 | 25=>64 | 3=>3 | 39=>93 | 0=>0 | 53=>125 | 55=>43 | 4=>4 | 46=>118 | 45=>117 | 50=>122 | 5=>5 | 9=>9 | 66=>136 | 70=>139 | 76=>142 | 77=>143 | n=>n,fun | n=>n⟩
theorem Tryd.sortL:Go.Proofs.SlLaysF0.n6 Tryd.prog Tryd.sortL_ren:={
 mixed:=by kernel_rfl
 f6:=⟨Tryd.f36.name,by decide,Tryd.func36.trans (congrArg some (by kernel_rfl))⟩
 f14:=⟨Tryd.f68.name,by decide,Tryd.func68.trans (congrArg some (by kernel_rfl))⟩
 f15:=Tryd.func69.trans (congrArg some (by kernel_rfl))
 f20:=⟨Tryd.f89.name,by decide,Tryd.func89.trans (congrArg some (by kernel_rfl))⟩
 f21:=⟨Tryd.f90.name,by decide,Tryd.func90.trans (congrArg some (by kernel_rfl))⟩
 f22:=⟨Tryd.f91.name,by decide,Tryd.func91.trans (congrArg some (by kernel_rfl))⟩
 f23:=⟨Tryd.f92.name,by decide,Tryd.func92.trans (congrArg some (by kernel_rfl))⟩
 f24:=⟨Tryd.f93.name,by decide,Tryd.func93.trans (congrArg some (by kernel_rfl))⟩
 f25:=⟨Tryd.f94.name,by decide,Tryd.func94.trans (congrArg some (by kernel_rfl))⟩
 f26:=⟨Tryd.f95.name,by decide,Tryd.func95.trans (congrArg some (by kernel_rfl))⟩
 f27:=⟨Tryd.f96.name,by decide,Tryd.func96.trans (congrArg some (by kernel_rfl))⟩
 f28:=Tryd.func97.trans (congrArg some (by kernel_rfl))
 f29:=Tryd.func98.trans (congrArg some (by kernel_rfl))
 f46:=⟨Tryd.f104.name,by decide,Tryd.func104.trans (congrArg some (by kernel_rfl))⟩
 f47:=Tryd.func105.trans (congrArg some (by kernel_rfl))
 f48:=Tryd.func106.trans (congrArg some (by kernel_rfl))
 f49:=⟨Tryd.f107.name,by decide,Tryd.func107.trans (congrArg some (by kernel_rfl))⟩
 f50:=⟨Tryd.f108.name,by decide,Tryd.func108.trans (congrArg some (by kernel_rfl))⟩
 f57:=⟨Tryd.f110.name,by decide,Tryd.func110.trans (congrArg some (by kernel_rfl))⟩
 t0:=Tryd.underlying0
 a0:=Tryd.isAgg0
 z0:=Tryd.sizeOf0
 v0:=Tryd.zeroValue0
 t3:=Tryd.underlying3
 a3:=Tryd.isAgg3
 z3:=Tryd.sizeOf3
 v3:=Tryd.zeroValue3
 t4:=Tryd.underlying4
 a4:=Tryd.isAgg4
 z4:=Tryd.sizeOf4
 v4:=Tryd.zeroValue4
 t5:=Tryd.underlying5
 a5:=Tryd.isAgg5
 z5:=Tryd.sizeOf5
 v5:=Tryd.zeroValue5
 t9:=Tryd.underlying9
 a9:=Tryd.isAgg9
 z9:=Tryd.sizeOf9
 v9:=Tryd.zeroValue9
 t22:=Tryd.underlying22
 a22:=Tryd.isAgg22
 z22:=Tryd.sizeOf22
 v22:=Tryd.zeroValue22
 t25:=Tryd.underlying64
 a25:=Tryd.isAgg64
 z25:=Tryd.sizeOf64
 v25:=Tryd.zeroValue64
 t39:=Tryd.underlying93
 a39:=Tryd.isAgg93
 z39:=Tryd.sizeOf93
 v39:=Tryd.zeroValue93
 t45:=Tryd.underlying117
 a45:=Tryd.isAgg117
 z45:=Tryd.sizeOf117
 v45:=Tryd.zeroValue117
 t46:=Tryd.underlying118
 a46:=Tryd.isAgg118
 z46:=Tryd.sizeOf118
 v46:=Tryd.zeroValue118
 t50:=Tryd.underlying122
 a50:=Tryd.isAgg122
 z50:=Tryd.sizeOf122
 v50:=Tryd.zeroValue122
 t53:=Tryd.underlying125
 a53:=Tryd.isAgg125
 z53:=Tryd.sizeOf125
 v53:=Tryd.zeroValue125
 t55:=Tryd.underlying43
 a55:=Tryd.isAgg43
 z55:=Tryd.sizeOf43
 v55:=Tryd.zeroValue43
 t66:=Tryd.underlying136
 a66:=Tryd.isAgg136
 z66:=Tryd.sizeOf136
 v66:=Tryd.zeroValue136
 t70:=Tryd.underlying139
 a70:=Tryd.isAgg139
 z70:=Tryd.sizeOf139
 v70:=Tryd.zeroValue139
 t76:=Tryd.underlying142
 a76:=Tryd.isAgg142
 z76:=Tryd.sizeOf142
 v76:=Tryd.zeroValue142
 t77:=Tryd.underlying143
 a77:=Tryd.isAgg143
 z77:=Tryd.sizeOf143
 v77:=Tryd.zeroValue143 }
end Go.Proofs
end
section
set_option maxRecDepth 100000
set_option linter.unusedVariables false
namespace Go.Proofs.YtdbfpjgnlfejmaaDoor.dg
open Go Ev mq Go.Sort Go.Shelf
theorem zg7 (a c:Int):Goal P 0 42 (fun v _=>v=.int .i64 (ci a c)) (zb P 42 [.int .i64 a,.int .i64 c] .leaf):=by
 have h1:∀ x:Int,(x != x)=false:=fun x=>by simp
 unfold ci
 by_cases h:a<c
 · rw [if_pos h]
   exact (og (ciy (fun v=>v=.int .i64 (-1)) _ _ _).symm ⟨h1 _,h1 _,decide_eq_true h,rfl⟩)
 · rw [if_neg h]
   by_cases k:a > c
   · rw [if_pos k]
     exact (og (ciny (fun v=>v=.int .i64 1) _ _ _).symm ⟨h1 _,h1 _,decide_eq_false h,decide_eq_true k,rfl⟩)
   · rw [if_neg k]
     exact (og (cinn (fun v=>v=.int .i64 0) _ _ _).symm ⟨h1 _,h1 _,decide_eq_false h,decide_eq_false k,rfl⟩)
theorem zd6 {a:Int}(h:a≠0):(a != 0)=true:=by simp [h]
theorem wE {a:Int}(h:¬ a≠0):(a != 0)=false:=by simp at h; simp [h]
theorem zp2 (x y:Dg):Goal P 0 37 (fun v _=>v=.int .i64 (cf x y)) (zb P 37 [.agg [.str x.1,.int .i64 x.2.1,.int .i64 x.2.2],.agg [.str y.1,.int .i64 y.2.1,.int .i64 y.2.2]] .leaf):=by
 unfold cf
 by_cases h1:Lib.compareBytes x.1 y.1≠0
 · rw [if_pos h1]
   exact (og (cmy (fun v=>v=.int .i64 (Lib.compareBytes x.1 y.1)) _ _ _ _ _ _ 0 0 _).symm ⟨zd6 h1,rfl⟩)
 · rw [if_neg h1]
   by_cases h2:ci x.2.1 y.2.1≠0
   · rw [if_pos h2]
     exact (og (cmny (fun v=>v=.int .i64 (ci x.2.1 y.2.1)) _ _ _ _ _ _ (ci x.2.1 y.2.1) 0 _).symm ⟨wE h1,zg7 _ _,zd6 h2,rfl⟩)
   · rw [if_neg h2]
     by_cases h3:ci x.2.2 y.2.2≠0
     · exact (og (cmnny (fun v=>v=.int .i64 (ci x.2.2 y.2.2)) _ _ _ _ _ _ (ci x.2.1 y.2.1) (ci x.2.2 y.2.2) _).symm ⟨wE h1,zg7 _ _,wE h2,zg7 _ _,zd6 h3,rfl⟩)
     · have e:ci x.2.2 y.2.2=0:=Decidable.not_not.1 h3
       exact (og (cmnn (fun v=>v=.int .i64 (ci x.2.2 y.2.2)) _ _ _ _ _ _ (ci x.2.1 y.2.1) (ci x.2.2 y.2.2) _).symm ⟨wE h1,zg7 _ _,wE h2,zg7 _ _,wE h3,by rw [e]⟩)
theorem zgR {f:FuncId} {args:List AV} {vs:List Value} {a:AFrame} {Q:AV→Prop} (ha:qK P f args .normal=some a) (w:World) (hv:VRels (fun _ _=>none) args vs)
 (k:Goal P 0 f (fun v _=>Q v) ⟨a,[],⟨.leaf,0,.leaf⟩⟩):Calls P f vs.toArray w fun r w'=>∃ v v' R,Q v∧VRel R v v'∧r=.returned v'∧Old w w':=by
 intro cs
 have hs:Sim P (Env.of w) cs ⟨a,[],⟨.leaf,0,.leaf⟩⟩ (Frame.enter P f vs.toArray .normal) cs w :=
  ⟨Base.of w,_,[],rfl,rfl,.start (fun g c h=>by cases h),.start w,wm ha hv (.inl rfl),rfl⟩
 obtain ⟨fr',w',B,R,v,v',h',s1,s2,s3,s4,s5,s6,s7,s8⟩:=k (Env.of w) cs _ _ _ (fun i r L e=>by cases e) hs
 exact ⟨.returned v',w',fr',⟨v,v',R,s8,s4,rfl,(s7.all s5 s6).old fun _ e=>e⟩,s1,s3,s2⟩
theorem zlA {w w':World}(h:Old w w'):∃ q os',w'=grow (w.drewN q) os':=by
 refine ⟨w'.drawn - w.drawn,w'.heap.extract w.heap.size w'.heap.size,?_⟩
 have hd:w.drawn+(w'.drawn - w.drawn)=w'.drawn:=Nat.add_sub_cancel' h.drawn
 obtain ⟨heap',tape',drawn',os',output'⟩:=w'
 have e1:os'=w.os:=h.os
 have e2:tape'=w.tape:=h.tape
 have e3:output'=w.output:=h.output
 have hs:w.heap.size≤heap'.size:=h.size
 have hb:∀ k,k<w.heap.size→heap'[k]?=w.heap[k]?:=h.other
 have eh:heap'=w.heap++heap'.extract w.heap.size heap'.size:=by
  apply Array.ext_getElem?
  intro k
  by_cases hk:k<w.heap.size
  · rw [Array.getElem?_append_left hk]; exact hb k hk
  · rw [Array.getElem?_append_right (by omega),Array.getElem?_extract]
    by_cases hk2:k<heap'.size
    · rw [if_pos (by omega)]; congr 1; omega
    · rw [if_neg (by omega),Array.getElem?_eq_none (by omega)]
 subst e1 e2 e3
 show _=({ w.drewN (drawn' - w.drawn) with heap:=w.heap++heap'.extract w.heap.size heap'.size }:World)
 rw [← eh]
 show _=({ heap:=heap',tape:=w.tape,drawn:=w.drawn+(drawn' - w.drawn),os:=w.os,output:=w.output }:World)
 rw [hd]
def enc (d:Dg):List Value:=[.string ⟨d.1.toArray⟩,.int .i64 d.2.1,.int .i64 d.2.2]
theorem ziB (R:Bij)(d:Dg):VRels R (sc d) (enc d):=.cons rfl (.cons rfl (.cons rfl .nil))
theorem zk5 (blk off size:Nat)(w:World):CmpLays P 37 #[] enc 3 cf blk off size w:=by
 intro m os dk _ x y
 have ha:qK P 37 [.agg [.str x.1,.int .i64 x.2.1,.int .i64 x.2.2],.agg [.str y.1,.int .i64 y.2.1,.int .i64 y.2.2]] .normal=some (zb P 37 [.agg [.str x.1,.int .i64 x.2.1,.int .i64 x.2.2],.agg [.str y.1,.int .i64 y.2.1,.int .i64 y.2.2]] .leaf).top:=by kernel_rfl
 have h:=zgR (vs:=[.agg (enc x).toArray,.agg (enc y).toArray]) ha (sortWorldK enc 3 w blk off m dk os) (.cons ⟨enc x,rfl,ziB _ x⟩ (.cons ⟨enc y,rfl,ziB _ y⟩ .nil)) (zp2 x y)
 refine (show Calls P 37 (#[.agg (enc x).toArray,.agg (enc y).toArray]++#[]) _ _ from h).mono ?_
 rintro e w' ⟨v,v',R,rfl,rfl,rfl,hold⟩
 exact ⟨rfl,zlA hold⟩
theorem rerow {B:Base} {R:Bij} {h:AHeap} {w W:World} (k:HRel P B R h w) (hB:B.n≤w.heap.size) {i r:Nat} {c c':T AV} {n el lo hi nv fz:Nat} {sg:Bool} {ex:T Nat} {e:Nat} {L:Ev.Loc} {cs cs':Array Value} {f0 f1:Nat}
 (hL:R i r=some L) (ho:h.get i=some (.cells c n el lo hi nv fz sg ex)) (c1:lo≤r) (c2:r≤hi) (he:zF ex n hi r=some e)
 (g1:w.heap[L.block]?=some (.cells cs el (f0,f1))) (G1:W.heap[L.block]?=some (.cells cs' el (f0,f1))) (hsz:cs'.size=cs.size)
 (hs:w.heap.size≤W.heap.size) (hoth:∀ b,b<w.heap.size→b≠L.block→W.heap[b]?=w.heap[b]?)
 (hos:W.os=w.os) (ht:W.tape=w.tape) (hout:W.output=w.output) (hd:w.drawn≤W.drawn)
 (hc:∀ j v,j<e→L.minus≤j→c'.get j=some v→∃ x,cs'[j - L.minus]?=some x∧VRel R v x) :
 HRel P B R (h.put i (.cells c' e el r r nv fz sg ex)) W∧Keeps R w R W:=by
 obtain ⟨L',hL',cs0,a0,b0,g1',g2,g3,g4,g5⟩:=k.ver hL ho c1 c2 he
 rw [hL] at hL'; cases hL'
 rw [g1] at g1'
 cases g1'
 have hob:=k.obj' hL ho
 have hlt:=xv g1
 refine ⟨?_,⟨hos,ht,hout,hs,R.le_refl,fun b hb hn=>⟨hoth b hb (fun e=>hn i r L hL e.symm),hn⟩,hd⟩⟩
 refine k.touch i _ (k.live hL) R.le_refl (by rw [yg]; exact Nat.le_refl _) ?_ (fun j=>zay h i j _) (fun _ _ _=>rfl) (fun j r' M hj e=>hoth _ (k.place j r' M e).2 ?_) ?_ hs (fun r' M e=>⟨(k.place i r' M e).1,Nat.lt_of_lt_of_le (k.place i r' M e).2 hs,fun j r'' M' hj e' hb=>hj (k.apart _ _ _ _ _ _ e' e hb (.inr (k.notRo ho rfl)))⟩) (k.same i) (vY _ _ _) (fun b hb=>hoth b (Nat.lt_of_lt_of_le (Base.low_lt hb) hB) (fun e=>(k.off hL (k.notRo ho rfl) hb) e)) (k.notRo ho rfl)
 · rw [yg]
   rcases Nat.lt_or_ge i h.next with h1 | h1
   · exact h1
   · rw [k.fresh i h1] at hL; cases hL
 · exact fun hb=>hj (k.apart _ _ _ _ _ _ e hL hb (.inr (k.notRo ho rfl)))
 · refine ⟨Nat.le_refl _,by have:=hob.2.1; omega,hob.2.2.1,fun r' e' a1 a2 a3=>?_,fun r' e' a1 a2 a3=>by
    obtain rfl:r'=r:=by omega
    simp [zF] at a3; omega⟩
   obtain rfl:r'=r:=by omega
   simp [zF] at a3; subst a3
   exact ⟨L,hL,cs',f0,f1,G1,by rw [hsz]; exact g2,by rw [hsz]; exact g3,⟨g4.1,fun j a b=>by rw [hsz]; exact g4.2 j a b⟩,fun j v a1 a2 a3=>hc j v a1 a2 a3⟩
theorem sizeOf35 (w:World):(Go.sizeOf 35).run P w=.ok 3 w:=Tryd.sizeOf35 w
theorem isAgg35 (w:World):(isAgg 35).run P w=.ok true w:=Tryd.isAgg35 w
theorem zlE:∀ args w,(callFunc 37 args).run P w=.ok (.enter 37 args) w:=enters_of Tryd.func37 (by kernel_rfl) rfl
theorem zpE (a:Array Dg):a.toList=sl (fun i=>a[i]!) 0 a.size:=by
 refine List.ext_getElem? fun i=>?_
 rcases Nat.lt_or_ge i a.size with h | h
 · rw [zbc _ _ _ _ h,Nat.zero_add,Array.getElem?_toList,Array.getElem?_eq_getElem h,getElem!_pos a i h]
 · rw [List.getElem?_eq_none (by simpa using h),List.getElem?_eq_none (by rw [xl]; exact h)]
theorem zmb (R:Bij)(f:Nat→Dg)(j:Nat)(d:Dg)(hd:f (j / 3)=d):VRel R (el f j) (enc d)[j % 3]!:=by
 subst hd
 have h:=zhw f j
 have hr:j % 3=0∨j % 3=1∨j % 3=2:=by omega
 rcases hr with e | e | e <;> rw [e] at h ⊢ <;> rw [← Option.some.inj h] <;> rfl
theorem zoX {R:Bij}{f:Nat→Dg}{j:Nat}{x:Value}(h:VRel R (el f j) x):x=(enc (f (j / 3)))[j % 3]!:=by
 have h2:=zhw f j
 have hr:j % 3=0∨j % 3=1∨j % 3=2:=by omega
 rcases hr with e | e | e <;> rw [e] at h2 ⊢ <;> rw [← Option.some.inj h2] at h <;> exact h
theorem zld {f g:Nat→Dg}{j:Nat}(h:f (j / 3)=g (j / 3)):el f j=el g j:=by
 unfold el
 rw [h]
theorem zk9 (f:Nat→Dg) (n z:Nat) (h0:0<n) (hz:n*3≤z) (hn:n<1000000) (h:AHeap) (oid:Nat) (ho:h.get oid=some (.cells (.fn fun c=>some (el f c)) z 35 0 0 1 0 false .leaf)) :
 ∃ f',Up (sl f' 0 n)∧(∀ x,x∈sl f' 0 n ↔ x∈sl f 0 n)∧zk2 P 36 [.slg oid 0 0 n 0,.fn (.func 37) [] []] h (.tup []) (h.put oid (.cells (.fn fun c=>some (el f' c)) z 35 0 0 1 0 false .leaf)):=by
 generalize hdd:(sl f 0 n).toArray=d
 have hsz:d.size=n:=by rw [← hdd]; simp [xl]
 have hget:∀ i,i<n→d[i]! =f i:=fun i hi=>by
  rw [getElem!_pos d i (by omega)]
  have h1:=zbc f n 0 i hi
  have h2:d[i]?=some (f i):=by rw [← hdd]; simpa using h1
  rw [Array.getElem?_eq_getElem (by omega)] at h2
  exact Option.some.inj h2
 obtain ⟨hp,hs⟩:=pdq_sorts (ltOf cf) swo d 0 d.size (Lib.bitLen d.size) true true (Nat.zero_le _) (Nat.le_refl _) (Or.inl rfl)
 have hask:=fun (B:Base) (R:Bij) (w:World) (blk cap:Nat) (hH:HoldsK enc 3 w blk 0 d) (hblk:blk<w.heap.size) =>
  AnyQ.slices_SortFunc_eq Tryd.sortL 3 isAgg35 sizeOf35 enc (fun _=>rfl) (fun x v hv=>by simp [enc] at hv; rcases hv with rfl | rfl | rfl <;> rfl) cf swo 37 #[] blk 0 cap d w zlE (zk5 blk 0 d.size w) hH hblk (by omega)
 generalize pdq (ltOf cf) d 0 d.size (Lib.bitLen d.size) true true=d' at hp hs hask
 have hsz':d'.size=n:=by rw [hp.1,hsz]
 have hsl:sl (fun i=>if i<n then d'[i]! else f i) 0 n=d'.toList:=by
  rw [zpE,hsz']
  exact xw n 0 fun t _ ht=>if_pos (by omega)
 refine ⟨fun i=>if i<n then d'[i]! else f i,?_,fun x=>?_,?_⟩
 · rw [hsl]
   refine List.pairwise_iff_getElem.2 fun i j hi hj hij=>?_
   have hi':i<d'.size:=by simpa using hi
   have hj':j<d'.size:=by simpa using hj
   have:=hs i j (Nat.zero_le _) hij (by omega)
   rw [getElem!_pos d' j hj',getElem!_pos d' i hi'] at this
   rw [Array.getElem_toList,Array.getElem_toList]
   exact (zcG _ _).1 this
 · rw [hsl]
   have hperm:=hp.2.2
   rw [show d'.extract 0 d.size=d' by rw [← hp.1]; exact Array.extract_size,Array.extract_size] at hperm
   rw [hperm.mem_iff,← hdd]
 · obtain ⟨objs,next,glob⟩:=h
   intro B R w args' hh hB ha
   obtain ⟨v1,r1,rfl,h1,h2⟩:=ha
   obtain ⟨v2,r2,rfl,h2,h3⟩:=h2
   cases h3
   obtain ⟨L,a,hL,hm,hkap,rfl,haddr⟩:=h1
   obtain ⟨_,a1,b1,rfl,hf1,hc1⟩:=h2
   cases hf1
   cases hc1
   have hm0:L.minus=0:=by omega
   obtain rfl:=haddr (by omega)
   rw [hm0]
   obtain ⟨L',hL',cs,f0,f1,g1,g2,g3,g4,g5⟩:=hh.ver hL ho (Nat.le_refl _) (Nat.le_refl _) (e:=z) rfl
   rw [hL] at hL'
   cases hL'
   rw [hm0] at g2 g3 g4 g5
   have hlt:=xv g1
   have hfr:∀ j:Nat,(decide (f0≤j)&&decide (j<f1))=false:=fun j=>by
    cases hd:(decide (f0≤j)&&decide (j<f1)) with
    | false=>rfl
    | true =>
     simp only [Bool.and_eq_true,decide_eq_true_eq] at hd
     rcases g4.2 j hd.1 hd.2 with h1 | h1
     · omega
     · exact absurd h1.1 (by simp)
   have hH:HoldsK enc 3 w L.block 0 d:=by
    intro j hj
    rw [size_flatK,hsz] at hj
    obtain ⟨x,hx,hr⟩:=g5 j (el f j) (by omega) (Nat.zero_le _) rfl
    rw [Nat.sub_zero] at hx
    constructor
    · rw [get_flatK _ _ _ _ (by rw [hsz]; exact hj),hget _ (by omega)]
      simp only [World.cell?,g1,Nat.zero_add]
      show cs[j]?=_
      rw [hx,zoX hr]
      rfl
    · simp only [World.frozen?,g1,Nat.zero_add]
      exact hfr j
   refine (show Calls P 36 #[.slice (some ⟨L.block,0,none⟩) n (L.kap - 0),.func (.func 37) #[] #[]] w _ from hsz▸hask B R w L.block (L.kap - 0) hH hlt).mono ?_
   rintro e w' ⟨rfl,q,os,rfl⟩
   have hheap:(sortWorldK enc 3 w L.block 0 q d' os).heap=w.heap.modify L.block (onCells (putCells id 0 (flatK enc 3 d')))++os:=rfl
   have hrr:=rerow (W:=sortWorldK enc 3 w L.block 0 q d' os) (c':=.fn fun c=>some (el (fun i=>if i<n then d'[i]! else f i) c)) (cs':=putCells id 0 (flatK enc 3 d') cs) hh hB hL ho (Nat.le_refl _) (Nat.le_refl _) (e:=z) rfl g1
    (by rw [hheap,Array.getElem?_append_left (by simpa using hlt),Array.getElem?_modify,if_pos rfl,g1]; rfl)
    (by simp [putCells]) (by rw [hheap]; simp) (fun b hb hne=>by rw [hheap,Array.getElem?_append_left (by simpa using hb),Array.getElem?_modify,if_neg (fun e=>hne e.symm)])
    rfl rfl rfl (Nat.le_add_right _ _) (fun j v hj _ hv=>by
     rw [hm0,Nat.sub_zero]
     have hv:some (el (fun i=>if i<n then d'[i]! else f i) j)=some v:=hv
     cases hv
     obtain ⟨x,hx,hr⟩:=g5 j (el f j) hj (Nat.zero_le _) rfl
     rw [Nat.sub_zero] at hx
     have hput:(putCells id 0 (flatK enc 3 d') cs)[j]?=some (if 0≤j∧j<0+(flatK enc 3 d').size then id (flatK enc 3 d')[j - 0]! else x):=by
      simp only [putCells,Array.getElem?_mapIdx,hx,Option.map_some]
     rw [hput,size_flatK,hsz',Nat.sub_zero]
     by_cases hj3:j<n*3
     · rw [if_pos ⟨Nat.zero_le _,by omega⟩]
       refine ⟨_,rfl,?_⟩
       show VRel R _ (flatK enc 3 d')[j]!
       rw [get_flatK _ _ _ _ (by rw [hsz']; exact hj3)]
       exact zmb R _ j _ (if_pos (by omega))
     · rw [if_neg (by omega)]
       refine ⟨_,rfl,?_⟩
       have e:el (fun i=>if i<n then d'[i]! else f i) j=el f j:=zld (if_neg (show ¬ j / 3<n by omega))
       rw [e]
       exact hr)
   exact ⟨R,.tuple #[],rfl,⟨[],rfl,rfl⟩,hrr.1,hrr.2⟩
end Go.Proofs.YtdbfpjgnlfejmaaDoor.dg
end
section
set_option maxRecDepth 100000
namespace Go.Proofs.YtdbfpjgnlfejmaaDoor.dg
open Go Ev mq Go.ChangeShapes Go.WideShapes Go.Deep
def elo (f:Nat→Dg) (off c:Nat):AV:=el f (c - off)
theorem wd (f:Nat→Dg)(off u:Nat):AV.agg [elo f off (off+u*3),elo f off (off+u*3+1),elo f off (off+u*3+2)]=AV.agg [.str (f u).1,.int .i64 (f u).2.1,.int .i64 (f u).2.2]:=by
 unfold elo
 rw [show off+u*3 - off=0+u*3 by omega,show off+u*3+1 - off=0+u*3+1 by omega,show off+u*3+2 - off=0+u*3+2 by omega]
 exact yY f u
theorem zlf {H:Type}{enc':TypeId × Value→H}{w:World}{b0:Nat}{v:Value}{d:DataW H}{ps:List MemPlace}(hv:Value.okWide P w .any b0 22 v)(h:DataW.Trod enc' P w 0 (fun _=>true) true 22 v d ps) :
 v=.slice none 0 0∨∃ (a:Addr) (len cap:Nat) (f:Nat→Dg),v=.slice (some a) len cap∧len≤cap∧cap≤maxLen∧∀ i,i<cap*3→w.cell? (a.add i)=some (enc (f (i / 3)))[i % 3]!:=by
 have u22:P.underlying 22=some (.slice 35):=by kernel_rfl
 have u3:P.underlying 3=some (.int .i64):=by kernel_rfl
 have u9:P.underlying 9=some .string:=by kernel_rfl
 have c35:P.cellsOf 35=3:=by kernel_rfl
 have c3:P.cellsOf 3=1:=by kernel_rfl
 have c9:P.cellsOf 9=1:=by kernel_rfl
 obtain ⟨fs,u35,f0,f1,f2⟩:∃ fs:Array Field,P.underlying 35=some (.struct fs)∧(fs[0]?.map fun f=>(f.type,f.offset))=some (9,0)∧(fs[1]?.map fun f=>(f.type,f.offset))=some (3,1)∧(fs[2]?.map fun f=>(f.type,f.offset))=some (3,2) :=
  ⟨(match P.underlying 35 with | some (.struct fs)=>fs | _=>#[]),by kernel_rfl,by kernel_rfl,by kernel_rfl,by kernel_rfl⟩
 obtain ⟨a,l,c,rfl⟩:=okWide_slice u22 hv
 obtain ⟨fuel,h⟩:=h
 rcases Go.Deep.open_slice u22 h with ⟨hcs,_⟩ | ⟨a',len,cap,m,n,D,Pl,hcs,_,hl,hm,hmm,_,hx⟩
 · simp only [Value.cells,List.cons.injEq,and_true] at hcs
   exact .inl hcs
 simp only [Value.cells,List.cons.injEq,and_true] at hcs
 refine .inr ⟨a',len,cap,?_⟩
 have hmc:m=cap:=by simpa using hmm
 subst hmc
 have each:∀ i,i<m→∃ q:Dg,w.cell? (a'.add (i*3))=some (.string ⟨q.1.toArray⟩)∧w.cell? (a'.add (i*3+1))=some (.int .i64 q.2.1)∧w.cell? (a'.add (i*3+2))=some (.int .i64 q.2.2):=by
  intro i hi
  obtain ⟨cs',h1,h2⟩:=hx i hi
  rw [c35] at h1
  obtain ⟨_,hlen,hcell⟩:=World.cells?_some h1
  obtain ⟨xs,k,hk,hxy,_,hxl,hf⟩:=DataW.trod_struct u35 h2
  match cs',hlen with
  | [v0,v1,v2],_ =>
   obtain ⟨g0,q0,r0⟩:=Option.map_eq_some_iff.1 f0
   obtain ⟨g1,q1,r1⟩:=Option.map_eq_some_iff.1 f1
   obtain ⟨g2,q2,r2⟩:=Option.map_eq_some_iff.1 f2
   simp only [Prod.mk.injEq] at r0 r1 r2
   have hn:2<xs.length:=by
    rw [hxl]
    exact (Array.getElem?_eq_some_iff.1 q2).1
   have k0:=hf 0 g0 q0
   have k1:=hf 1 g1 q1
   have k2:=hf 2 g2 q2
   rw [r0.1,r0.2,c9,List.getElem?_eq_getElem (by omega)] at k0
   rw [r1.1,r1.2,c3,List.getElem?_eq_getElem (by omega)] at k1
   rw [r2.1,r2.2,c3,List.getElem?_eq_getElem (by omega)] at k2
   obtain ⟨n0,e0,_,_⟩:=DataW.trod_string u9 k0
   obtain ⟨n1,e1,_,_⟩:=DataW.trod_int u3 k1
   obtain ⟨n2,e2,_,_⟩:=DataW.trod_int u3 k2
   obtain rfl:v0=Value.string n0:=(List.cons.inj (show [v0]=[Value.string n0] from e0)).1
   obtain rfl:v1=Value.int .i64 n1:=(List.cons.inj (show [v1]=[Value.int .i64 n1] from e1)).1
   obtain rfl:v2=Value.int .i64 n2:=(List.cons.inj (show [v2]=[Value.int .i64 n2] from e2)).1
   have t0:=hcell 0 (by omega)
   have t1:=hcell 1 (by omega)
   have t2:=hcell 2 (by omega)
   rw [add_add] at t0 t1 t2
   refine ⟨(n0.data.toList,n1,n2),?_,by simpa using t1,by simpa using t2⟩
   rw [Array.toArray_toList]
   simpa using t0
 obtain ⟨q,hq⟩:=Go.Deep.choose_lt each
 refine ⟨q,hcs,hl,hm,fun i hi=>?_⟩
 obtain ⟨g0,g1,g2⟩:=hq (i / 3) (by omega)
 have hr:i % 3=0∨i % 3=1∨i % 3=2:=by omega
 rcases hr with e | e | e
 · rw [show i / 3*3=i by omega] at g0
   rw [g0,e]; rfl
 · rw [show i / 3*3+1=i by omega] at g1
   rw [g1,e]; rfl
 · rw [show i / 3*3+2=i by omega] at g2
   rw [g2,e]; rfl
theorem zgF {w:World} {v:Value} (h:v=.slice none 0 0∨∃ (a:Addr) (len cap:Nat) (f:Nat→Dg),v=.slice (some a) len cap∧len≤cap∧cap≤maxLen∧∀ i,i<cap*3→w.cell? (a.add i)=some (enc (f (i / 3)))[i % 3]!) :
 v=.slice none 0 0∨(∃ a,v=.slice (some a) 0 0)∨∃ (b off len cap:Nat) (f:Nat→Dg),v=.slice (some ⟨b,off,none⟩) len cap∧len≤cap∧(Inp.mk true b (.fn fun j=>some (elo f off j)) off (off+cap*3)).holds w:=by
 rcases h with h | ⟨a,len,cap,f,rfl,hl,hm,hc⟩
 · exact .inl h
 by_cases h0:cap=0
 · subst h0
   obtain rfl:len=0:=by omega
   exact .inr (.inl ⟨a,rfl⟩)
 · obtain ⟨b,off,rfl,hi⟩:=zlR (g:=fun i=>el f i) hc (fun i _=>zmb _ f i _ rfl) (by omega)
   exact .inr (.inr ⟨b,off,len,cap,f,rfl,hl,hi⟩)
end Go.Proofs.YtdbfpjgnlfejmaaDoor.dg
end
