import Derived.Carry
import Derived.ChangeSlices
import Derived.SliceStrings
import Derived.Deep.Slices
import Derived.Test.YtcdpmiebmhjmpaaProg
import Derived.Test.YtcdpmiebmhjmpaaChecked
import Derived.Test.YtcdpmiebmhjmpaaP00
import Derived.Test.YtcdpmiebmhjmpaaP01
import Derived.Test.YtcdpmiebmhjmpaaP02
import Derived.Test.YtcdpmiebmhjmpaaP03
section
namespace Go.Proofs.Ytcdpmiebmhjmpaa.Ev
open Go
noncomputable section
variable (P:Program)
def zdT (c:T AV) (off n:Nat) (f:Nat→Option AV):T AV:=.fn fun k=>bif Nat.ble off k&&Nat.blt k (off+n) then f (k - off) else c.get k
def zcP (h:AHeap) (id ver off n size:Nat):Option ((Nat→Option AV) × Prop):=match h.get id with
 | some (.ro c lo m)=>bif Nat.beq ver 0 then some (fun k=>c.get (off+k),(lo≤off∧off+n*size≤m)∧∀ k,k<n*size→∃ v,c.get (off+k)=some v∧AV.one v=true) else none
 | some (.cells c m _ lo hi _ _ _ ex)=>match zj ex m hi ver with
  | none=>none
  | some e=>bif Nat.ble lo ver&&Nat.ble ver hi then some (fun k=>c.get (off+k),off+n*size≤e∧∀ k,k<n*size→∃ v,c.get (off+k)=some v∧AV.one v=true) else none
 | _=>none
def kW (h:AHeap) (size n:Nat) (x:AV):Option ((Nat→Option AV) × Prop):=match x with
 | .str s=>bif Nat.beq size 1 then some (fun k=>some (.int .u8 (s.getD k 0).toNat),n≤s.length) else none
 | .slc id ver off _ _=>zcP h id ver off n size
 | .slg id ver off _ _=>zcP h id ver off n size
 | _=>none
def srcW (h:AHeap) (size bytes:Nat) (z:AV) (zeros:Bool) (x:AV):Option (Nat × (Nat→Option AV) × Prop):=match zeros with
 | true=>match x with
  | .int _ l=>bif Nat.beq size 1 then some (l.toNat,fun _=>z.cells.head?,(0≤l∧l<2 ^ 40)∧l.toNat*bytes≤2 ^ 48) else none
  | _=>none
 | false=>match vF x with
  | none=>none
  | some n=>match kW h size n x with
   | none=>none
   | some (f,p)=>some (n,f,p)
def zeP (h:AHeap) (size id ver off sLen cap n:Nat) (f:Nat→Option AV) (p:Prop):Option (AR × Prop):=match h.get id with
 | some (.cells c m el lo hi nv fz sg ex)=>match zj ex m hi ver with
  | none=>none
  | some e=>bif Nat.ble lo ver&&Nat.ble ver hi then
   some (.val (.slc id ver off (sLen+n) cap) (h.put id (.cells (zdT c (off+sLen*size) (n*size) f) e el ver ver nv fz sg ex)),
    p∧sLen+n≤cap∧off+sLen*size+n*size≤e∧fz≤off+sLen*size∧match Nat.beq lo ver&&Nat.beq hi ver with
     | true=>True
     | false=>0<n)
   else none
 | _=>none
def ziT (h:AHeap) (el:TypeId) (bytes size n:Nat) (f:Nat→Option AV) (p:Prop):Option (AR × Prop) :=
 some (.val (.slg h.next 0 0 n 0) (h.new (.cells (.fn f) (n*size) el 0 0 1 0 false .leaf)),p∧0<n∧ve n bytes=true)
def ziW (h:AHeap) (el:TypeId) (bytes size id ver off sLen cap n:Nat) (f:Nat→Option AV) (p:Prop):Option (AR × Prop):=match zcP h id ver off sLen size with
 | none=>none
 | some (g,q)=>some (.val (.slg h.next 0 0 (sLen+n) 0) (h.new (.cells (.fn fun k=>bif Nat.blt k (sLen*size) then g k else f (k - sLen*size)) (sLen*size+n*size) el 0 0 1 0 false .leaf)),
  p∧q∧0<n∧cap<sLen+n∧ve (sLen+n) bytes=true)
def zj5 (h:AHeap) (el:TypeId) (bytes size id ver off sLen st n:Nat) (f:Nat→Option AV) (p:Prop):Option (AR × Prop):=match h.get id with
 | some (.cells c m el' lo hi nv fz sg ex)=>match zj ex m hi ver with
  | none=>none
  | some e=>bif Nat.ble lo ver&&Nat.ble ver hi&&Nat.beq el' el&&Nat.blt hi nv then
   some (.val (.slg id nv off (sLen+n) st) (h.put id (.cells (zdT c (off+sLen*size) (n*size) f) (off+sLen*size+n*size) el nv nv (nv+1) fz sg ex)),
    p∧0<n∧off+sLen*size≤e∧fz≤off+sLen*size∧off=st*size∧ve (sLen+n) bytes=true∧e<off+(sLen+n)*size)
   else none
 | _=>none
def ziP (h:AHeap) (el:TypeId) (size id ver off sLen st n:Nat) (f:Nat→Option AV) (p:Prop):Option (AR × Prop):=match h.get id with
 | some (.cells c m el' lo hi nv fz sg ex)=>match zj ex m hi ver with
  | none=>none
  | some e=>bif Nat.ble lo ver&&Nat.ble ver hi&&Nat.beq el' el then
   some (.val (.slg id ver off (sLen+n) st) (h.put id (.cells (zdT c (off+sLen*size) (n*size) f) e el' ver ver nv fz sg ex)),
    p∧0<n∧off+(sLen+n)*size≤e∧off+sLen*size+n*size≤e∧fz≤off+sLen*size∧off=st*size)
   else none
 | _=>none
def zdx (moved:Bool) (h:AHeap) (t:TypeId) (zeros:Bool) (s x:AV):Option (AR × Prop):=match P.underlying t with
 | some (.slice el)=>match P.info? el with
  | none=>none
  | some i=>match yr P el with
   | none=>none
   | some z=>match Nat.blt 0 i.size&&Nat.beq z.cells.length i.size&&z.cells.all AV.one with
    | false=>none
    | true=>match srcW h i.size i.bytes z zeros x with
     | none=>none
     | some (n,f,p)=>match s with
      | .nils 0 0=>ziT h el i.bytes i.size n f p
      | .slc id ver off sLen cap=>match moved with
       | false=>zeP h i.size id ver off sLen cap n f p
       | true=>ziW h el i.bytes i.size id ver off sLen cap n f p
      | .slg id ver off sLen st=>match moved with
       | false=>zj5 h el i.bytes i.size id ver off sLen st n f p
       | true=>ziP h el i.size id ver off sLen st n f p
      | _=>none
 | _=>none
def wi (h:AHeap) (id ver off:Nat) (n:Nat) (f:Nat→Option AV) (r:AHeap→AR) (p:Prop):Option (AR × Prop):=match h.get id with
 | some (.cells c m el lo hi nv fz sg ex)=>match zj ex m hi ver with
  | none=>none
  | some e=>bif Nat.ble lo ver&&Nat.ble ver hi then
   some (r (h.put id (.cells (zdT c off n f) e el ver ver nv fz sg ex)),p∧off+n≤e∧fz≤off)
   else none
 | _=>none
def putW (h:AHeap) (id ver off:Nat) (v:AV):Option (AR × Prop):=match h.get id with
 | some (.cells c m el lo hi nv fz sg ex)=>match zj ex m hi ver with
  | none=>none
  | some e=>bif Nat.ble lo ver&&Nat.ble ver hi then
   some (.skip (h.put id (.cells (.fn fun k=>bif Nat.beq k off then some v else c.get k) e el ver ver nv fz sg ex)),off+1≤e∧fz≤off)
   else none
 | _=>none
def zbo (h:AHeap) (t:TypeId) (p v:AV):Option (AR × Prop):=match p with
 | .ptr id ver off=>match P.info? t with
  | none=>none
  | some i=>match Nat.beq v.cells.length i.size&&v.cells.all AV.one with
   | false=>none
   | true=>match v.cells with
    | [x]=>putW h id ver off x
    | l=>wi h id ver off l.length (fun k=>l[k]?) .skip True
 | _=>none
def zjE (h:AHeap) (t:TypeId) (dst src:AV):Option (AR × Prop):=match P.underlying t with
 | some (.slice el)=>match xW P el with
  | none=>none
  | some s=>match zF dst with
   | none=>none
   | some dn=>match vF src with
    | none=>none
    | some sn=>match kW h s (Nat.min sn dn) src with
     | none=>none
     | some (f,p)=>match dst with
      | .slc id ver off _ _=>wi h id ver off (Nat.min sn dn*s) f (fun h=>.val (.int .i64 (Nat.min sn dn:Nat)) h) p
      | .slg id ver off _ _=>wi h id ver off (Nat.min sn dn*s) f (fun h=>.val (.int .i64 (Nat.min sn dn:Nat)) h) p
      | _=>none
 | _=>none
def zi7 (h:AHeap) (t:TypeId) (len cap:AV):Option (AR × Prop):=match P.underlying t with
 | some (.slice el)=>match len with
  | .int _ l=>match cap with
   | .int _ c=>match P.info? el with
    | none=>none
    | some i=>match yr P el with
     | none=>none
     | some z=>match Nat.beq i.size 1&&Nat.beq z.cells.length 1&&z.cells.all AV.one with
      | false=>none
      | true=>some (.val (.slc h.next 0 0 l.toNat c.toNat) (h.new (.cells (.fn fun _=>z.cells.head?) c.toNat el 0 0 1 0 false .leaf)),0≤l∧l≤c∧c<2 ^ 40∧i.bytes*c≤2 ^ 48)
   | _=>none
  | _=>none
 | _=>none
def zhK (h:AHeap) (t:TypeId) (x:AV):Option (AR × Prop):=match P.underlying t with
 | some (.slice el)=>match yr P el with
  | none=>none
  | some z=>match z.cells.all AV.one with
   | false=>none
   | true=>match x with
    | .slc id ver off n _=>wi h id ver off (n*z.cells.length) (fun k=>z.cells[k % z.cells.length]?) (fun h=>.val (.tup []) h) (0<n)
    | .slg id ver off n _=>wi h id ver off (n*z.cells.length) (fun k=>z.cells[k % z.cells.length]?) (fun h=>.val (.tup []) h) (0<n)
    | _=>none
 | _=>none
def opW (moved:Bool) (ρ:Operand→Option AV) (h:AHeap) (o:Op):Option (AR × Prop):=match o with
 | .store t a x=>zhL ρ a x fun p v=>zbo P h t p v
 | .makeSlice t l c=>zhL ρ l c fun a b=>zi7 P h t a b
 | .call c=>match yE ρ c.args.toList with
  | none=>none
  | some args=>match c.callee with
   | .builtin b=>match b with
    | .append=>match c.argTypes[0]? with
     | none=>none
     | some t=>match c.argTypes[1]? with
      | none=>none
      | some u=>match yt P u with
       | none=>none
       | some z=>match ze1 args with
        | none=>none
        | some (s,x)=>zdx P moved h t z s x
    | .copy=>match c.argTypes[0]? with
     | none=>none
     | some t=>match ze1 args with
      | none=>none
      | some (d,s)=>zjE P h t d s
    | .clear=>match c.argTypes[0]? with
     | none=>none
     | some t=>match args with
      | [x]=>zhK P h t x
      | _=>none
    | _=>none
   | _=>none
 | _=>none
def zgy (fr:AFrame) (o:Oper):Bool:=match fr.todo with
 | .drw _ _ _::_=>x5 P o
 | _=>true
def OpWK [XT P] (moved:Bool) (m:AM) (K:AM→Prop):Prop:=match m with
 | ⟨fr,rest,h⟩=>match fr.mode with
  | .run=>match w3 fr with
   | none=>False
   | some (all,o)=>match zw all fr.tmps o.guard with
    | some true=>match zgy P fr o with
     | false=>False
     | true=>match opW P moved (ev fr.tmps) h o.op with
      | none=>False
      | some (r,p)=>p∧zhP P fr rest h r K
    | _=>False
  | _=>False
end
section
variable {P:Program}
def LessH (P:Program) (id:Nat) (hE hW:AHeap):Prop:=∃ (oE oW:AObj),hE.get id=some oE∧hW.next=hE.next∧hW.glob=hE.glob∧(∀ i,hW.get i=if i=id then some oW else hE.get i) ∧
 oE.isRo=false∧oW.isRo=false∧∀ (R:Bij) (w:World),ObjRel P R w id oE→ObjRel P R w id oW
theorem HRel.less {B:Base}{R:Bij}{w:World}{id:Nat}{hE hW:AHeap}(e:LessH P id hE hW)(hp:B.pend id=none)(kh:HRel P B R hE w):HRel P B R hW w:=by
 obtain ⟨o,o',hobj,hnext,hglob,hget,hro,hro',hsw⟩:=e
 refine ⟨fun i hi=>kh.fresh i (by rw [← hnext]; exact hi),fun i x eo hpe=>?_,fun i x eo=>?_,kh.place,fun i hi=>⟨by rw [hnext]; exact (kh.rd i hi).1,fun x eo=>?_⟩,kh.rp,kh.rol,kh.low,kh.pin,kh.apart,kh.same,fun g c e=>kh.glob g c (by rw [← hglob]; exact e)⟩
 · rw [hget] at eo
   split at eo
   · rename_i hi
     subst hi
     cases eo
     exact hsw R w (kh.obj i _ hobj hpe)
   · exact kh.obj i x eo hpe
 · obtain ⟨h1,h2,h3⟩:=kh.pend i x eo
   refine ⟨by rw [hnext]; exact h1,?_,h3⟩
   rw [hget,if_neg (fun h=>by rw [h,hp] at eo; cases eo)]
   exact h2
 · rw [hget] at eo
   split at eo
   · rename_i hi'
     subst hi'
     cases eo
     have:=(kh.rd i hi).2 _ hobj
     rw [hro] at this; cases this
   · exact (kh.rd i hi).2 x eo
theorem LessH.put {h:AHeap}{id:Nat}{oE oW:AObj}(h1:oE.isRo=false)(h2:oW.isRo=false)(hsw:∀ (R:Bij) (w:World),ObjRel P R w id oE→ObjRel P R w id oW):LessH P id (h.put id oE) (h.put id oW):=by
 obtain ⟨objs,next,glob⟩:=h
 refine ⟨oE,oW,?_,rfl,rfl,fun i=>?_,h1,h2,hsw⟩
 · show (objs.set (some oE) id).get id=_
   rw [T.get_set,if_pos rfl]
 · show (objs.set (some oW) id).get i=if i=id then some oW else (objs.set (some oE) id).get i
   rw [T.get_set,T.get_set]
   split <;> rfl
theorem LessH.new {h:AHeap}{oE oW:AObj}(h1:oE.isRo=false)(h2:oW.isRo=false)(hsw:∀ (R:Bij) (w:World),ObjRel P R w h.next oE→ObjRel P R w h.next oW):LessH P h.next (h.new oE) (h.new oW):=by
 obtain ⟨objs,next,glob⟩:=h
 refine ⟨oE,oW,?_,rfl,rfl,fun i=>?_,h1,h2,hsw⟩
 · show (objs.set (some oE) next).get next=_
   rw [T.get_set,if_pos rfl]
 · show (objs.set (some oW) next).get i=if i=next then some oW else (objs.set (some oE) next).get i
   rw [T.get_set,T.get_set]
   split <;> rfl
theorem zaR {i:Nat}{cE cW:T AV}{n:Nat}{el:TypeId}{lo lo' hi nv fz:Nat}{sg:Bool}{ex ex':T Nat}(hle:∀ k v,k<n→cW.get k=some v→cE.get k=some v)(h1:lo≤lo')(h2:lo'≤hi)
 (hx:∀ r e,lo'≤r→r≤hi→zj ex' n hi r=some e→zj ex n hi r=some e) (R:Bij) (w:World) (k:ObjRel P R w i (.cells cE n el lo hi nv fz sg ex)):ObjRel P R w i (.cells cW n el lo' hi nv fz sg ex'):=by
 obtain ⟨a1,a2,a3,a4,a5⟩:=k
 refine ⟨h2,a2,a3,fun r e b1 b2 b3=>?_,fun r e b1 b2 b3=>a5 r e (Nat.le_trans h1 b1) b2 (hx r e b1 b2 b3)⟩
 have b3':=hx r e b1 b2 b3
 obtain ⟨L,g1,cs,a,b,c1,c2,c3,c4,c5⟩:=a4 r e (Nat.le_trans h1 b1) b2 b3'
 exact ⟨L,g1,cs,a,b,c1,c2,c3,c4,fun q v q1 q2 q3=>c5 q v q1 q2 (hle q v (Nat.lt_of_lt_of_le q1 (a5 r e (Nat.le_trans h1 b1) b2 b3')) q3)⟩
theorem xg {i:Nat}{cE cW:T AV}{n:Nat}{el:TypeId}{lo hi nv fz:Nat}{sg:Bool}{ex:T Nat}(hle:∀ k v,k<n→cW.get k=some v→cE.get k=some v)(R:Bij)(w:World)(k:ObjRel P R w i (.cells cE n el lo hi nv fz sg ex)):ObjRel P R w i (.cells cW n el lo hi nv fz sg ex) :=
 zaR hle (Nat.le_refl _) k.1 (fun _ _ _ _ e=>e) R w k
def Lives (h:AHeap) (vs:List AV) (id:Nat):Prop:=id=h.next∨∃ v∈vs,w6 v=some id
def zh8 (P:Program) (h:AHeap) (vs:List AV) (rE r:AR):Prop:=∃ id,Lives h vs id∧((∃ v hE hW,rE=.val v hE∧r=.val v hW∧LessH P id hE hW)∨∃ hE hW,rE=.skip hE∧r=.skip hW∧LessH P id hE hW)
theorem zaX {c:T AV}{off:Nat}:∀ {n:Nat} {acc:List AV},(∀ k,k<n→∃ v,c.get (off+k)=some v∧AV.one v=true)→acc.all AV.one=true→∃ l,kp c off n acc=some l∧l.all AV.one=true
 | 0,acc,_,ha=>⟨acc,rfl,ha⟩
 | n+1,acc,h,ha=>by
  obtain ⟨v,hv,ho⟩:=h n (Nat.lt_succ_self n)
  unfold kp
  rw [hv]
  exact zaX (fun k hk=>h k (Nat.lt_succ_of_lt hk)) (by simp [ho,ha])
theorem y7 {c:T AV}{off n:Nat}(h:∀ k,k<n→∃ v,c.get (off+k)=some v∧AV.one v=true):∃ l,zy c off n=some l∧l.all AV.one=true∧l.length=n∧∀ k v,k<n→c.get (off+k)=some v→l[k]?=some v:=by
 obtain ⟨l,h1,h2⟩:=zaX (acc:=[]) h rfl
 obtain ⟨g1,g2⟩:=zO h1
 refine ⟨l,h1,h2,g1,fun k v hk hv=>?_⟩
 have hlt:k<l.length:=by omega
 have:=g2 k l[k] (List.getElem?_eq_getElem hlt)
 rw [hv] at this
 rw [List.getElem?_eq_getElem hlt]
 exact this.symm
theorem jR {h:AHeap}{id ver off n size:Nat}{f:Nat→Option AV}{p:Prop}(e:zcP h id ver off n size=some (f,p))(hp:p) :
 ∃ l,za h id ver off (n*size)=some l∧l.all AV.one=true∧l.length=n*size∧∀ k v,k<n*size→f k=some v→l[k]?=some v:=by
 unfold zcP at e
 unfold za
 split at e
 · rename_i c lo m ho
   cases hb:Nat.beq ver 0 with
   | false=>rw [hb] at e; cases e
   | true =>
    rw [hb] at e
    simp only [cond_true,Option.some.injEq,Prod.mk.injEq] at e
    obtain ⟨rfl,rfl⟩:=e
    obtain ⟨l,h1,h2,h3,h4⟩:=y7 hp.2
    refine ⟨l,?_,h2,h3,h4⟩
    simp only [ho]
    rw [if_pos ⟨Nat.eq_of_beq_eq_true hb,hp.1⟩,h1]
 · rename_i c m el lo hi nv fz sg ex ho
   split at e
   · cases e
   · rename_i e0 he
     cases hb:(Nat.ble lo ver&&Nat.ble ver hi) with
     | false=>rw [hb] at e; cases e
     | true =>
      rw [hb] at e
      simp only [cond_true,Option.some.injEq,Prod.mk.injEq] at e
      obtain ⟨rfl,rfl⟩:=e
      rw [Bool.and_eq_true] at hb
      obtain ⟨l,h1,h2,h3,h4⟩:=y7 hp.2
      refine ⟨l,?_,h2,h3,h4⟩
      simp only [ho,he]
      rw [if_pos ⟨Nat.le_of_ble_eq_true hb.1,Nat.le_of_ble_eq_true hb.2,hp.1⟩,h1]
 · cases e
theorem wI {h:AHeap}{size n:Nat}{x:AV}{f:Nat→Option AV}{p:Prop}(e:kW h size n x=some (f,p))(hp:p) :
 ∃ l,xJ h size n x=some l∧l.all AV.one=true∧l.length=n*size∧∀ k v,k<n*size→f k=some v→l[k]?=some v:=by
 unfold kW at e
 split at e
 · rename_i s
   cases hb:Nat.beq size 1 with
   | false=>rw [hb] at e; cases e
   | true =>
    rw [hb] at e
    simp only [cond_true,Option.some.injEq,Prod.mk.injEq] at e
    obtain ⟨rfl,rfl⟩:=e
    obtain rfl:=Nat.eq_of_beq_eq_true hb
    refine ⟨_,rfl,(List.all_eq_true.2 fun x hx=>by obtain ⟨b,_,rfl⟩:=List.mem_map.1 hx; rfl),by simp [xv]; omega,fun k v hk hv=>?_⟩
    rw [Nat.mul_one] at hk
    cases hv
    have hs:k<s.length:=by omega
    simp [xv,hk,hs]
 · exact jR e hp
 · exact jR e hp
 · cases e
theorem qM (v:AV):∀ n k,k<n→(zH [v] n)[k]?=some v
 | 0,k,h=>by omega
 | n+1,0,_=>rfl
 | n+1,k+1,h=>by
  show (zH [v] n)[k]?=_
  exact qM v n k (by omega)
theorem zag {h:AHeap}{size bytes:Nat}{z:AV}{zeros:Bool}{x:AV}{n:Nat}{f:Nat→Option AV}{p:Prop}(hz:z.cells.length=size)(hz1:z.cells.all AV.one=true)(e:srcW h size bytes z zeros x=some (n,f,p))(hp:p) :
 ∃ new,xI h size z zeros x=some (n,new)∧new.all AV.one=true∧new.length=n*size∧(zeros=true→Nat.ble (n*bytes) (2 ^ 48)=true)∧∀ k v,k<n*size→f k=some v→new[k]?=some v:=by
 unfold srcW at e
 unfold xI
 split at e
 · split at e
   · rename_i k l
     cases hb:Nat.beq size 1 with
     | false=>rw [hb] at e; cases e
     | true =>
      rw [hb] at e
      simp only [cond_true,Option.some.injEq,Prod.mk.injEq] at e
      obtain ⟨rfl,rfl,rfl⟩:=e
      obtain rfl:=Nat.eq_of_beq_eq_true hb
      simp only
      refine ⟨_,by rw [if_pos hp.1],zaj hz1 _,by rw [zp,hz],fun _=>Nat.ble_eq_true_of_le hp.2,fun k v hk hv=>?_⟩
      rw [Nat.mul_one] at hk
      match hc:z.cells,hz with
      | [y],_ =>
       rw [hc] at hv
       cases hv
       exact qM _ _ _ hk
   · cases e
 · split at e
   · cases e
   · rename_i n' hn
     split at e
     · cases e
     · rename_i f' p' hf
       cases e
       obtain ⟨l,h1,h2,h3,h4⟩:=wI hf hp
       exact ⟨l,by simp only [hn,h1],h2,h3,fun h=>(by cases h),h4⟩
theorem zbD {c:T AV}{off n:Nat}{f:Nat→Option AV}{vs:List AV}(hl:vs.length=n)(hf:∀ k v,k<n→f k=some v→vs[k]?=some v)(k:Nat)(v:AV)(e:(zdT c off n f).get k=some v):(zf c off vs).get k=some v:=by
 rw [zd,hl]
 change (bif Nat.ble off k&&Nat.blt k (off+n) then f (k - off) else c.get k)=some v at e
 cases hb:(Nat.ble off k&&Nat.blt k (off+n)) with
 | true =>
  rw [hb] at e
  rw [Bool.and_eq_true] at hb
  have h1:=Nat.le_of_ble_eq_true hb.1
  have h2:k<off+n:=Nat.le_of_ble_eq_true hb.2
  rw [if_pos ⟨h1,h2⟩]
  exact hf _ _ (by omega) e
 | false =>
  rw [hb] at e
  rw [if_neg]
  · exact e
  · rintro ⟨h1,h2⟩
    rw [Nat.ble_eq_true_of_le h1,show Nat.blt k (off+n)=true from Nat.ble_eq_true_of_le h2] at hb
    cases hb
theorem qQ {h:AHeap}{id ver off n:Nat}{f:Nat→Option AV}{c:T AV}{m:Nat}{el:TypeId}{lo hi nv fz:Nat}{sg:Bool}{ex:T Nat}{e:Nat}(ho:h.get id=some (.cells c m el lo hi nv fz sg ex))(he:zj ex m hi ver=some e)(h1:lo≤ver)(h2:ver≤hi)
 (h3:off+n≤e) (h4:fz≤off) {vs:List AV} (hl:vs.length=n) (ha:vs.all AV.one=true) (hf:∀ k v,k<n→f k=some v→vs[k]?=some v) :
 zc h id ver off vs=some (h.put id (.cells (zf c off vs) e el ver ver nv fz sg ex))∧LessH P id (h.put id (.cells (zf c off vs) e el ver ver nv fz sg ex)) (h.put id (.cells (zdT c off n f) e el ver ver nv fz sg ex)):=by
 refine ⟨?_,.put rfl rfl (xg fun k v _ e=>zbD hl hf k v e)⟩
 unfold zc
 rw [ho]
 simp only [he]
 rw [if_pos ⟨h1,h2,by omega,h4,ha⟩,T.seq_eq]
theorem zkw {a b c:Nat}(h:(Nat.ble a b&&Nat.ble b c)=true):a≤b∧b≤c:=by
 rw [Bool.and_eq_true] at h
 exact ⟨Nat.le_of_ble_eq_true h.1,Nat.le_of_ble_eq_true h.2⟩
theorem va {h:AHeap}{id ver off n:Nat}{f:Nat→Option AV}{mk:AHeap→AR}{p0 p:Prop}{r:AR}(e:wi h id ver off n f mk p0=some (r,p))(hp:p){vs:List AV}(hl:vs.length=n)(ha:vs.all AV.one=true)(hf:∀ k v,k<n→f k=some v→vs[k]?=some v) :
 ∃ hE hW,zc h id ver off vs=some hE∧r=mk hW∧LessH P id hE hW:=by
 unfold wi at e
 split at e
 rotate_left
 · cases e
 rename_i c m el lo hi nv fz sg ex ho
 split at e
 · cases e
 rename_i e0 he
 cases hb:(Nat.ble lo ver&&Nat.ble ver hi) with
 | false=>rw [hb] at e; cases e
 | true =>
  rw [hb] at e
  simp only [cond_true,Option.some.injEq,Prod.mk.injEq] at e
  obtain ⟨rfl,rfl⟩:=e
  obtain ⟨b1,b2⟩:=zkw hb
  obtain ⟨g1,g2⟩:=qQ (P:=P) ho he b1 b2 hp.2.1 hp.2.2 hl ha hf
  exact ⟨_,_,g1,rfl,g2⟩
theorem za8 {h:AHeap}{id ver off n:Nat}{f:Nat→Option AV}{mk:AHeap→AR}{p0 p:Prop}{r:AR}(e:wi h id ver off n f mk p0=some (r,p))(hp:p):p0:=by
 unfold wi at e
 split at e
 rotate_left
 · cases e
 rename_i c m el lo hi nv fz sg ex ho
 split at e
 · cases e
 rename_i e0 he
 cases hb:(Nat.ble lo ver&&Nat.ble ver hi) with
 | false=>rw [hb] at e; cases e
 | true =>
  rw [hb] at e
  simp only [cond_true,Option.some.injEq,Prod.mk.injEq] at e
  obtain ⟨rfl,rfl⟩:=e
  exact hp.1
theorem zjb {h:AHeap}{id ver off:Nat}{v:AV}{p:Prop}{r:AR}(e:putW h id ver off v=some (r,p))(hp:p)(ha:AV.one v=true) :
 ∃ hE hW,zc h id ver off [v]=some hE∧r=.skip hW∧LessH P id hE hW:=by
 unfold putW at e
 split at e
 rotate_left
 · cases e
 rename_i c m el lo hi nv fz sg ex ho
 split at e
 · cases e
 rename_i e0 he
 cases hb:(Nat.ble lo ver&&Nat.ble ver hi) with
 | false=>rw [hb] at e; cases e
 | true =>
  rw [hb] at e
  simp only [cond_true,Option.some.injEq,Prod.mk.injEq] at e
  obtain ⟨rfl,rfl⟩:=e
  obtain ⟨b1,b2⟩:=zkw hb
  refine ⟨h.put id (.cells (zf c off [v]) e0 el ver ver nv fz sg ex),_,?_,rfl,.put rfl rfl (xg fun k x _ e=>?_)⟩
  · unfold zc
    rw [ho]
    simp only [he]
    rw [if_pos ⟨b1,b2,hp.1,hp.2,by simp [ha]⟩,T.seq_eq]
  · rw [zd]
    change (bif Nat.beq k off then some v else c.get k)=some x at e
    cases hq:Nat.beq k off with
    | true =>
     rw [hq] at e
     obtain rfl:=Nat.eq_of_beq_eq_true hq
     rw [if_pos ⟨Nat.le_refl _,Nat.lt_succ_self _⟩]
     simpa using e
    | false =>
     rw [hq] at e
     rw [if_neg]
     · exact e
     · rintro ⟨h1,h2⟩
       have:k=off:=by simp at h2; omega
       rw [this,Nat.beq_refl] at hq
       cases hq
theorem zdY {h:AHeap}{t:TypeId}{a v:AV}{r:AR}{p:Prop}(e:zbo P h t a v=some (r,p))(hp:p):∃ id hE hW,ky P h t a v=some hE∧r=.skip hW∧LessH P id hE hW∧w6 a=some id:=by
 unfold zbo at e
 unfold ky
 split at e
 rotate_left
 · cases e
 split at e
 · cases e
 rename_i i hi
 split at e
 · cases e
 rename_i hb
 rw [Bool.and_eq_true] at hb
 have hs:=Nat.eq_of_beq_eq_true hb.1
 simp only [hi,if_pos hs]
 split at e
 · rename_i x hx
   rw [hx] at hb ⊢
   obtain ⟨hE,hW,g1,g2,g3⟩:=zjb (P:=P) e hp (by simpa using hb.2)
   exact ⟨_,hE,hW,g1,g2,g3,rfl⟩
 · obtain ⟨hE,hW,g1,g2,g3⟩:=va (P:=P) e hp rfl hb.2 fun k v _ e=>e
   exact ⟨_,hE,hW,g1,g2,g3,rfl⟩
theorem zio {h:AHeap}{t:TypeId}{d s:AV}{r:AR}{p:Prop}(e:zjE P h t d s=some (r,p))(hp:p):∃ id v hE hW,zf7 P h t d s=some (v,hE)∧r=.val v hW∧LessH P id hE hW∧w6 d=some id:=by
 unfold zjE at e
 unfold zf7
 split at e
 rotate_left
 · cases e
 rename_i el hu
 simp only [hu]
 unfold zf4
 split at e
 · cases e
 rename_i sz hsz
 split at e
 · cases e
 rename_i dn hdn
 split at e
 · cases e
 rename_i sn hsn
 split at e
 · cases e
 rename_i f p' hf
 simp only [hsz,hdn,hsn]
 split at e
 · obtain ⟨l,h1,h2,h3,h4⟩:=wI hf (za8 e hp)
   obtain ⟨hE,hW,g1,g2,g3⟩:=va (P:=P) e hp h3 h2 h4
   simp only [h1,zev,g1]
   exact ⟨_,_,_,hW,rfl,g2,g3,rfl⟩
 · obtain ⟨l,h1,h2,h3,h4⟩:=wI hf (za8 e hp)
   obtain ⟨hE,hW,g1,g2,g3⟩:=va (P:=P) e hp h3 h2 h4
   simp only [h1,zev,g1]
   exact ⟨_,_,_,hW,rfl,g2,g3,rfl⟩
 · cases e
theorem zbg {vs:List AV}{n:Nat}{f:Nat→Option AV}(hl:vs.length=n)(hf:∀ k v,k<n→f k=some v→vs[k]?=some v)(k:Nat)(v:AV)(hk:k<n)(e:(T.fn f).get k=some v):(zf .leaf 0 vs).get k=some v:=by
 rw [zd,if_pos ⟨Nat.zero_le _,by omega⟩,Nat.sub_zero]
 exact hf k v hk e
theorem zig {h:AHeap}{t:TypeId}{a b:AV}{r:AR}{p:Prop}(e:zi7 P h t a b=some (r,p))(hp:p):∃ v hE hW,zT P h t a b=some (v,hE)∧r=.val v hW∧LessH P h.next hE hW:=by
 unfold zi7 at e
 unfold zT
 split at e
 rotate_left
 · cases e
 rename_i el hu
 split at e
 rotate_left
 · cases e
 split at e
 rotate_left
 · cases e
 rename_i k1 l k2 c
 split at e
 · cases e
 rename_i i hi
 split at e
 · cases e
 rename_i z hz
 split at e
 · cases e
 rename_i hb
 rw [Bool.and_eq_true,Bool.and_eq_true] at hb
 cases e
 have h1:=Nat.eq_of_beq_eq_true hb.1.1
 have h2:=Nat.eq_of_beq_eq_true hb.1.2
 have hlen:(zH z.cells c.toNat).length=c.toNat:=by rw [zp,h2,Nat.mul_one]
 refine ⟨_,xd h el (zH z.cells c.toNat) false,_,?_,rfl,?_⟩
 · simp only [hu,yU,hi,hz]
   rw [if_pos ⟨hp.1,hp.2.1,hp.2.2.1,hp.2.2.2,by omega,by omega,hb.2⟩]
 · unfold xd
   rw [hlen]
   refine .new rfl rfl (xg fun k v hk e=>zbg hlen (fun k v hk e=>?_) k v hk e)
   match hc:z.cells,h2 with
   | [y],_ =>
    rw [hc] at e
    cases e
    exact qM _ _ _ hk
theorem zhV {h:AHeap}{id:Nat}{o:AObj}(e:h.get id=some o):h.put id o=h:=by
 obtain ⟨objs,next,glob⟩:=h
 show AHeap.mk (objs.set (some o) id) next glob=_
 rw [T.set_same' e]
theorem zfk {moved:Bool}{h:AHeap}{t:TypeId}{zeros:Bool}{s x:AV}{r:AR}{p:Prop}(e:zdx P moved h t zeros s x=some (r,p))(hp:p):∃ id v hE hW,xb P h t zeros s x=some (v,hE)∧r=.val v hW∧LessH P id hE hW∧(id=h.next∨w6 s=some id):=by
 unfold zdx at e
 unfold xb
 split at e
 rotate_left
 · cases e
 rename_i el hu
 simp only [hu]
 unfold xL
 split at e
 · cases e
 rename_i i hi
 split at e
 · cases e
 rename_i z hz
 split at e
 · cases e
 rename_i hb
 rw [Bool.and_eq_true,Bool.and_eq_true] at hb
 have hs0:0<i.size:=Nat.le_of_ble_eq_true hb.1.1
 have hz1:=Nat.eq_of_beq_eq_true hb.1.2
 split at e
 · cases e
 rename_i n f q hsrc
 simp only [hi,hz]
 split at e
 ·
  unfold ziT at e
  cases e
  obtain ⟨new,h1,h2,h3,h4,h5⟩:=zag hz1 hb.2 hsrc hp.1
  simp only [zF,h1]
  rw [if_pos ⟨hs0,hz1,hb.2,h2,h3,h4⟩]
  obtain ⟨n,rfl⟩:∃ k,n=k+1:=⟨n - 1,by have:=hp.2.1; omega⟩
  simp only [xR,zD,Nat.zero_add,xJ]
  rw [if_pos hp.2.2,if_pos ⟨rfl,by simp⟩]
  refine ⟨_,_,_,_,rfl,rfl,?_,.inl rfl⟩
  unfold xd
  rw [List.nil_append,h3]
  exact .new rfl rfl (xg fun k v hk e=>zbg h3 h5 k v hk e)
 · rename_i id ver off sLen cap
   split at e
   ·
    unfold zeP at e
    split at e
    rotate_left
    · cases e
    rename_i c m el' lo hi' nv fz sg ex ho
    split at e
    · cases e
    rename_i e0 he
    cases hb':(Nat.ble lo ver&&Nat.ble ver hi') with
    | false=>rw [hb'] at e; cases e
    | true =>
     rw [hb'] at e
     simp only [cond_true,Option.some.injEq,Prod.mk.injEq] at e
     obtain ⟨rfl,rfl⟩:=e
     obtain ⟨b1,b2⟩:=zkw hb'
     obtain ⟨p1,p2,p3,p4,p5⟩:=hp
     obtain ⟨new,h1,h2,h3,h4,h5⟩:=zag hz1 hb.2 hsrc p1
     simp only [zF,h1]
     rw [if_pos ⟨hs0,hz1,hb.2,h2,h3,h4⟩]
     cases n with
     | zero =>
      have hv:lo=ver∧hi'=ver:=by
       revert p5
       cases hq:(Nat.beq lo ver&&Nat.beq hi' ver) with
       | true =>
        intro _
        rw [Bool.and_eq_true] at hq
        exact ⟨Nat.eq_of_beq_eq_true hq.1,Nat.eq_of_beq_eq_true hq.2⟩
       | false=>exact fun h=>absurd h (Nat.lt_irrefl 0)
      obtain ⟨rfl,rfl⟩:=hv
      have hm:m=e0:=by
       unfold zj at he
       rw [if_pos rfl] at he
       exact Option.some.inj he
      subst hm
      simp only [qS]
      rw [if_pos (by omega)]
      refine ⟨id,_,_,_,rfl,rfl,?_,.inr rfl⟩
      have hl:LessH P id (h.put id (.cells c m el' hi' hi' nv fz sg ex)) (h.put id (.cells (zdT c (off+sLen*i.size) (0*i.size) f) m el' hi' hi' nv fz sg ex)):=by
       refine .put rfl rfl (xg fun k v _ e=>?_)
       have:=zbD (vs:=[]) (by simp) (fun k v hk=>by simp at hk) k v e
       rwa [zf] at this
      rwa [zhV ho] at hl
     | succ n =>
      obtain ⟨g1,g2⟩:=qQ (P:=P) ho he b1 b2 p3 p4 h3 h2 h5
      simp only [xR,if_pos p2,zb7,g1]
      exact ⟨_,_,_,_,rfl,rfl,g2,.inr rfl⟩
   ·
    unfold ziW at e
    split at e
    · cases e
    rename_i g q' hrow
    cases e
    obtain ⟨p1,p2,p3,p4,p5⟩:=hp
    obtain ⟨new,h1,h2,h3,h4,h5⟩:=zag hz1 hb.2 hsrc p1
    obtain ⟨old,o1,o2,o3,o4⟩:=jR hrow p2
    simp only [zF,h1]
    rw [if_pos ⟨hs0,hz1,hb.2,h2,h3,h4⟩]
    obtain ⟨n,rfl⟩:∃ k,n=k+1:=⟨n - 1,by omega⟩
    simp only [xR,if_neg (Nat.not_le.2 p4),zD,xJ,o1]
    rw [if_pos p5,if_pos ⟨o2,o3⟩]
    refine ⟨_,_,_,_,rfl,rfl,?_,.inl rfl⟩
    unfold xd
    rw [List.length_append,o3,h3]
    refine .new rfl rfl (xg fun k v hk e=>zbg (by rw [List.length_append,o3,h3]) (fun k v hk e=>?_) k v hk e)
    cases hq:Nat.blt k (sLen*i.size) with
    | true =>
     rw [hq] at e
     have hlt:k<sLen*i.size:=Nat.le_of_ble_eq_true hq
     rw [List.getElem?_append_left (by omega)]
     exact o4 k v hlt e
    | false =>
     rw [hq] at e
     have hge:¬ k<sLen*i.size:=fun h=>by rw [show Nat.blt k (sLen*i.size)=true from Nat.ble_eq_true_of_le h] at hq; cases hq
     rw [List.getElem?_append_right (by omega),o3]
     exact h5 _ v (by omega) e
 · rename_i id ver off sLen st
   split at e
   ·
    unfold zj5 at e
    split at e
    rotate_left
    · cases e
    rename_i c m el' lo hi' nv fz sg ex ho
    split at e
    · cases e
    rename_i e0 he
    cases hb':(Nat.ble lo ver&&Nat.ble ver hi'&&Nat.beq el' el&&Nat.blt hi' nv) with
    | false=>rw [hb'] at e; cases e
    | true =>
     rw [hb'] at e
     simp only [cond_true,Option.some.injEq,Prod.mk.injEq] at e
     obtain ⟨rfl,rfl⟩:=e
     rw [Bool.and_eq_true,Bool.and_eq_true] at hb'
     obtain ⟨⟨hb1,hb2⟩,hb3⟩:=hb'
     obtain ⟨b1,b2⟩:=zkw hb1
     have b3:=Nat.eq_of_beq_eq_true hb2
     have b4:hi'<nv:=Nat.le_of_ble_eq_true hb3
     obtain ⟨p1,p2,p3,p4,p5,p6,p7⟩:=hp
     obtain ⟨new,h1,h2,h3,h4,h5⟩:=zag hz1 hb.2 hsrc p1
     simp only [zF,h1]
     rw [if_pos ⟨hs0,hz1,hb.2,h2,h3,h4⟩]
     obtain ⟨n,rfl⟩:∃ k,n=k+1:=⟨n - 1,by omega⟩
     have hkn:zE h el i.size id ver off st sLen (sLen+(n+1)) new=none:=by
      simp only [zE,ho,he]
      rw [if_neg (fun hc=>by have:=hc.1; omega)]
     simp only [xR,hkn]
     simp only [xA,ho,he]
     rw [if_pos ⟨b1,b2,p3,p4,b3,p5,b4,p6⟩]
     split
     · rename_i hc
       rw [T.seq_eq,T.seq_eq]
       refine ⟨id,_,_,_,rfl,rfl,?_,.inr rfl⟩
       rw [h3]
       refine .put rfl rfl (zaR (fun k v _ e=>zbD h3 h5 k v e) (by omega) (Nat.le_refl _) fun r e q1 q2 q3=>?_)
       obtain rfl:r=nv:=by omega
       unfold zj at q3 ⊢
       rw [if_pos rfl] at q3 ⊢
       exact q3
     · rw [T.seq_eq]
       refine ⟨id,_,_,_,rfl,rfl,?_,.inr rfl⟩
       rw [h3]
       exact .put rfl rfl (xg fun k v _ e=>zbD h3 h5 k v e)
   ·
    unfold ziP at e
    split at e
    rotate_left
    · cases e
    rename_i c m el' lo hi' nv fz sg ex ho
    split at e
    · cases e
    rename_i e0 he
    cases hb':(Nat.ble lo ver&&Nat.ble ver hi'&&Nat.beq el' el) with
    | false=>rw [hb'] at e; cases e
    | true =>
     rw [hb'] at e
     simp only [cond_true,Option.some.injEq,Prod.mk.injEq] at e
     obtain ⟨rfl,rfl⟩:=e
     rw [Bool.and_eq_true] at hb'
     obtain ⟨hb1,hb2⟩:=hb'
     obtain ⟨b1,b2⟩:=zkw hb1
     obtain rfl:=Nat.eq_of_beq_eq_true hb2
     obtain ⟨p1,p2,p3,p4,p5,p6⟩:=hp
     obtain ⟨new,h1,h2,h3,h4,h5⟩:=zag hz1 hb.2 hsrc p1
     simp only [zF,h1]
     rw [if_pos ⟨hs0,hz1,hb.2,h2,h3,h4⟩]
     obtain ⟨n,rfl⟩:∃ k,n=k+1:=⟨n - 1,by omega⟩
     obtain ⟨g1,g2⟩:=qQ (P:=P) ho he b1 b2 p4 p5 h3 h2 h5
     simp only [xR,zE,ho,he]
     rw [if_pos ⟨p3,b1,b2,trivial,p6⟩]
     simp only [g1]
     exact ⟨id,_,_,_,rfl,rfl,g2,.inr rfl⟩
 · cases e
theorem zhB {h:AHeap}{t:TypeId}{x:AV}{r:AR}{p:Prop}(e:zhK P h t x=some (r,p))(hp:p):∃ id hE hW,zcS P h t x=some hE∧r=.val (.tup []) hW∧LessH P id hE hW∧w6 x=some id:=by
 unfold zhK at e
 split at e
 rotate_left
 · cases e
 rename_i el hu
 split at e
 · cases e
 rename_i z hz
 split at e
 · cases e
 rename_i ha
 have hez:qh P t=some z:=by unfold qh; rw [hu]; exact hz
 have key:∀ {id ver off n:Nat},wi h id ver off (n*z.cells.length) (fun k=>z.cells[k % z.cells.length]?) (fun h=>.val (.tup []) h) (0<n)=some (r,p) →
  ∃ hE hW,wT h (qh P t) id ver off n=some hE∧r=.val (.tup []) hW∧LessH P id hE hW:=by
  intro id ver off n e
  obtain ⟨hE,hW,g1,g2,g3⟩:=va (P:=P) e hp (vs:=zH z.cells n) (zp _ _) (zaj ha n) (fun k v hk hf=>by rw [wC _ _ _ hk]; exact hf)
  have hn:=za8 e hp
  obtain ⟨m,rfl⟩:∃ m,n=m+1:=⟨n - 1,by omega⟩
  refine ⟨hE,hW,?_,g2,g3⟩
  unfold wT
  rw [hez]
  exact g1
 unfold zcS
 simp only [hu]
 split at e
 · rename_i id ver off n c
   obtain ⟨hE,hW,g1,g2,g3⟩:=key e
   exact ⟨id,hE,hW,g1,g2,g3,rfl⟩
 · rename_i id ver off n c
   obtain ⟨hE,hW,g1,g2,g3⟩:=key e
   exact ⟨id,hE,hW,g1,g2,g3,rfl⟩
 · cases e
def zaV (ρ:Operand→Option AV) (o:Op):List AV:=o.operands.toList.filterMap ρ
theorem zaN {ρ:Operand→Option AV}{o:Op}{x:Operand}{v:AV}(hx:x∈o.operands)(hv:ρ x=some v):v∈zaV ρ o :=
 List.mem_filterMap.2 ⟨x,by simpa using hx,hv⟩
theorem zaq {ρ:Operand→Option AV}{c:Call}{args:List AV}(ha:yE ρ c.args.toList=some args){v:AV}(hv:v∈args):v∈zaV ρ (.call c):=by
 obtain ⟨h1,h2⟩:=wZ ha
 obtain ⟨i,hi,rfl⟩:=List.getElem_of_mem hv
 have hlt:i<c.args.toList.length:=by omega
 obtain ⟨b,hb1,hb2⟩:=h2 i _ (List.getElem?_eq_getElem hlt)
 rw [List.getElem?_eq_getElem hi] at hb1
 cases hb1
 refine zaN (x:=c.args.toList[i]) ?_ hb2
 show _∈c.operands
 unfold Call.operands
 exact Array.mem_append.2 (.inr (by simp))
theorem zkB {moved:Bool}{ρ:Operand→Option AV}{h:AHeap}{o:Op}{r:AR}{p:Prop}(e:opW P moved ρ h o=some (r,p))(hp:p):(∀ c,o≠.defer c)∧∃ rE,opA P ρ h o=some rE∧zh8 P h (zaV ρ o) rE r:=by
 unfold opW at e
 split at e
 · rename_i t a x
   unfold zhL at e
   split at e
   · cases e
   rename_i v1 h1
   split at e
   · cases e
   rename_i v2 h2
   obtain ⟨id,hE,hW,g1,g2,g3,g4⟩:=zdY e hp
   refine ⟨fun c h=>(by cases h),.skip hE,?_,id,.inr ⟨v1,zaN (x:=a) (by simp [Op.operands]) h1,g4⟩,.inr ⟨_,_,rfl,g2,g3⟩⟩
   show kY P t a x ρ h=_
   simp only [kY,two,h1,h2,g1,zbT]
 · rename_i t l c
   unfold zhL at e
   split at e
   · cases e
   rename_i v1 h1
   split at e
   · cases e
   rename_i v2 h2
   obtain ⟨v,hE,hW,g1,g2,g3⟩:=zig e hp
   refine ⟨fun c h=>(by cases h),.val v hE,?_,_,.inl rfl,.inl ⟨_,_,_,rfl,g2,g3⟩⟩
   show zV P t l c ρ h=_
   simp only [zV,two,h1,h2,g1,yD]
 · rename_i c
   refine ⟨fun c h=>(by cases h),?_⟩
   split at e
   · cases e
   rename_i args ha
   split at e
   rotate_left
   · cases e
   rename_i b hc
   show ∃ rE,zbe P c ρ h=some rE∧_
   simp only [zbe,xa,ha,hc]
   split at e
   · split at e
     · cases e
     rename_i t ht
     split at e
     · cases e
     rename_i u hu
     split at e
     · cases e
     rename_i z hz
     split at e
     · cases e
     rename_i s x hx
     obtain ⟨id,v,hE,hW,g1,g2,g3,g4⟩:=zfk e hp
     refine ⟨.val v hE,?_,id,g4.imp (fun h=>h) (fun h=>⟨s,zaq ha (by rw [qX hx]; simp),h⟩),.inl ⟨_,_,_,rfl,g2,g3⟩⟩
     simp only [xK,xP,zg,zbq,ht,hu,hz,hx,g1,yD]
   · split at e
     · cases e
     rename_i t ht
     split at e
     · cases e
     rename_i d s hx
     obtain ⟨id,v,hE,hW,g1,g2,g3,g4⟩:=zio e hp
     refine ⟨.val v hE,?_,id,.inr ⟨d,zaq ha (by rw [qX hx]; simp),g4⟩,.inl ⟨_,_,_,rfl,g2,g3⟩⟩
     simp only [xK,xP,zg,zhY,ht,hx,g1,yD]
   · split at e
     · cases e
     rename_i t ht
     split at e
     rotate_left
     · cases e
     rename_i x
     obtain ⟨id,hE,hW,g1,g2,g3,g4⟩:=zhB e hp
     refine ⟨.val (.tup []) hE,?_,id,.inr ⟨x,zaq ha (by simp),g4⟩,.inl ⟨_,_,_,rfl,g2,g3⟩⟩
     simp only [xK,xP,zg,zeh,zjN,ht,g1,zcA]
   · cases e
 · cases e
theorem OpRel.less {B:Base}{R:Bij}{h:AHeap}{w:World}{s:Sem Next}{ρ:Operand→Option AV}{ρ':Operand→Value}{o:Op}{rE r:AR}(k:HRel P B R h w)(hρ:∀ x∈o.operands,∀ v,ρ x=some v→VRel R v (ρ' x))(hl:zh8 P h (zaV ρ o) rE r)(e:OpRel P B R w s rE):OpRel P B R w s r:=by
 obtain ⟨id,hid,hl⟩:=hl
 have hp:B.pend id=none:=by
  cases hb:B.pend id with
  | none=>rfl
  | some x =>
   obtain ⟨h1,_,h3⟩:=k.pend id x hb
   rcases hid with rfl | ⟨v,hv,hd⟩
   · exact absurd h1 (Nat.lt_irrefl _)
   · obtain ⟨y,hy,hyv⟩:=List.mem_filterMap.1 hv
     obtain ⟨r,L,hL⟩:=wP (hρ y (by simpa using hy) v hyv) hd
     rw [h3 r] at hL
     cases hL
 rcases hl with ⟨v,hE,hW,rfl,rfl,hless⟩ | ⟨hE,hW,rfl,rfl,hless⟩
 · obtain ⟨R',v',w',r1,r2,r3,r4⟩:=e
   exact ⟨R',v',w',r1,r2,r3.less hless hp,r4⟩
 · obtain ⟨R',w',r1,r3,r4⟩:=e
   exact ⟨R',w',r1,r3.less hless hp,r4⟩
end
section
variable {P:Program} {w0:Env} {base:List Frame} {B:Base} {R:Bij} {af:AFrame} {rest:List AFrame} {h:AHeap} {fr:Frame} {fs:List Frame} {w:World}
theorem zck [XT P] [XTOk P] (k:Wait P w0 base B R af rest h fr fs w){ops:Array Oper}{i:Nat}{s':List Nat}{k':List Item}(ht:fr.todo=.inRegion ops (i::s')::k'){o:Oper}(ho:ops[i]?=some o)
 (hops:∀ x∈o.op.operands,∀ v,ev af.tmps x=some v→VRel R v (fr.eval x))
 (hgu:∀ g b q u v,o.guard=some (g,b)→ops[g]?=some q→q.dst=some u→af.tmps.get u=some v→∃ x,fr.tmps[u]?=some x∧VRel R v x)
 (hwt:zw ops.toList af.tmps o.guard=some true) (hnd:∀ c,o.op≠.defer c) {rE r:AR} (hE:opA P (ev af.tmps) h o.op=some rE) (hl:zh8 P h (zaV (ev af.tmps) o.op) rE r)
 {m:AM} (e:zfH P af rest h r=some m):zbm P w0 base m fr (fs++base) w:=by
 have hm:=wrun k
 have hw:=kw hwt hgu
 have hop:=OpRel.less k.heap hops hl (zeO k.heap k.room hops hE)
 have hoper:(stepG P true { frame:=fr,callers:=fs++base,status:=.running,dying:=none } w)=stepG.oper P true fr (fs++base) none w:=by
  simp only [stepG,stepG.exec,hm,ht,ho,hw,Option.map_some,Option.getD_some,if_true]
 have hst:(stepG P true { frame:=fr,callers:=fs++base,status:=.running,dying:=none } w)=stepG.apply P true fr (fs++base) none (execOp fr.eval o) w:=by
  rw [hoper]
  simp only [stepG.oper,Frame.oper?,ht,ho]
  split
  · rename_i _ c _ hc
    exact absurd hc (hnd c)
  · rfl
 obtain ⟨id,hid,hl⟩:=hl
 rcases hl with ⟨v,hE,hW,rfl,rfl,hless⟩ | ⟨hE,hW,rfl,rfl,hless⟩
 · obtain ⟨a,b,c,h1,h2⟩:=qV k hop (by simp) (by simp) (by simp) (by rw [hst]) ⟨_,_,_,_,ht⟩ e
   exact ⟨a,b,c,h1,h2⟩
 · obtain ⟨a,b,c,h1,h2⟩:=qV k hop (by simp) (by simp) (by simp) (by rw [hst]) ⟨_,_,_,_,ht⟩ e
   exact ⟨a,b,c,h1,h2⟩
theorem zhx [XT P] [XTOk P] {all:List Oper}{o:Oper}(k:Plain P w0 base B R af rest h fr fs w)(hto:w3 af=some (all,o))(hac:zgy P af o=true)(hwt:zw all af.tmps o.guard=some true)(hnd:∀ c,o.op≠.defer c){rE r:AR}
 (hE:opA P (ev af.tmps) h o.op=some rE) (hl:zh8 P h (zaV (ev af.tmps) o.op) rE r) {m:AM} (e:zfH P af rest h r=some m):zbm P w0 base m fr (fs++base) w:=by
 have hm:=ziZ k
 have htop:TodoRel P B R rest.length false h af.todo af.tmps fr.todo fr.tmps:=by
  have:=k.top.top
  rw [k.run] at this; exact this
 unfold w3 at hto
 split at hto
 · rename_i all' o' l kk htodo
   cases hto
   rw [htodo] at htop
   obtain ⟨⟨_,kk',hfr,⟨ops,todo,rfl,rfl,hmap⟩,hk⟩,hs⟩:=htop
   cases todo with
   | nil=>simp at hmap
   | cons i todo =>
    simp only [List.map_cons,List.cons.injEq] at hmap
    have hw:Wait P w0 base B R af rest h fr fs w:=⟨k.heap,k.base,k.old,by
     obtain ⟨k1,k2,k3,k4,k5,k6,k7,k8,k9⟩:=k.top
     refine ⟨k1,k2,k3,k4,k5,k6,k7,k8,?_⟩
     have hr:=k.run
     obtain ⟨fn,n,t,td,ds,mode,kind,round⟩:=af
     simp only at hr htodo; subst hr; subst htodo
     exact ⟨⟨_,kk',hfr,⟨ops,_,rfl,rfl,by simp only [List.map_cons,List.cons.injEq]; exact hmap⟩,hk⟩,hs⟩,k.run,k.below⟩
    exact zck hw hfr hmap.1.symm (fun x _ v hv=>wG (fun u _ hu=>hs u v hu) hv) (fun g b q u v _ _ _ hv=>hs u v hv) hwt hnd hE hl e
 · rename_i all' i l dn kk htodo
   split at hto
   · cases hto
   rename_i o' ho
   cases hto
   rw [htodo] at htop
   obtain ⟨s,k',hfr,hk,hd⟩:=htop
   unfold zgy at hac
   rw [htodo] at hac
   have hroom:B.n≤w.heap.size:=by show B.env.heap.size≤_; rw [k.base]; exact k.old.size
   have hrun:=k.run
   have htopf:=k.top
   obtain ⟨fn,n,t,td,ds,mode,kind,round⟩:=af
   simp only at htodo hrun hd; subst htodo; subst hrun
   have hidn:i ∉ dn:=fun hi=>(List.nodup_append.1 hd.facts.2.2.2.2.1).2.2 i (by simpa using hi) i List.mem_cons_self rfl
   obtain ⟨k1,k2,k3,k4,k5,k6,k7,k8,k9⟩:=htopf
   have hem:(zx P all'.toList).em.testBit i=true:=by rw [hd.plan.em i o ho]; exact hac
   obtain ⟨B',R',w',a',s',g1,g2,g3,g4,g5,g6,g7⟩:=hd.catch_up hem s k.heap hroom hm hfr (fs++base)
   have hw:Wait P w0 base B' R' ⟨fn,n,t,.drw all' (i::l) dn::kk,ds,.run,kind,round⟩ rest h { fr with tmps:=a',todo:=.inRegion all' (i::s')::k' } fs w' :=
    ⟨g5,g3.1.trans k.base,k.old.keeps k.base k.heap g6,⟨k1,k2,k3,k4,k5.mono g4,k6.mono fun _ _ q=>q.mono g4,k7.mono g4,g2.trans k8,i::s',k',rfl,hk.mono fun _ _ q=>q.mono g4,g7.suspend hem⟩,rfl,k.below.mono g4 g3 (Nat.le_refl _)⟩
   have hreads:=g7.reads ho hidn
   obtain ⟨fr',cs',w2,s1,s2⟩:=zck hw rfl ho (fun x hx v hv=>wG (fun u hu he=>hreads u v (by rw [hu] at hx; exact z8 hx) he) hv)
    (fun g b q u v hg hq hu hv=>hreads u v (xQ hg (by simpa using hq) hu) hv) hwt hnd hE hl e
   exact ⟨fr',cs',w2,g1.trans s1,s2⟩
 · cases hto
end
section
variable {P:Program}
theorem zgs [XT P] [XTOk P] {keep:Nat}{f0:FuncId}{Q:AV→AHeap→Prop}{moved:Bool}{m:AM}{K:AM→Prop}(e:OpWK P moved m K)(hK:∀ m,K m→Goal P keep f0 Q m):Goal P keep f0 Q m:=by
 intro w0 base cfr cs w hk s
 obtain ⟨fr,rest,h⟩:=m
 unfold OpWK at e
 simp only at e
 split at e
 rotate_left
 · exact e.elim
 rename_i hm
 split at e
 · exact e.elim
 rename_i all o ho
 split at e
 rotate_left
 · exact e.elim
 rename_i hw
 split at e
 · exact e.elim
 rename_i hac
 split at e
 · exact e.elim
 rename_i r p hop
 obtain ⟨hp,e⟩:=e
 obtain ⟨hnd,rE,g1,g2⟩:=zkB hop hp
 obtain ⟨m',h1,h2⟩:=xT e
 obtain ⟨B,R,fs,rfl,hb,kh,ho',kt,kb⟩:=s
 obtain ⟨fr1,cs1,w1,s1,k1⟩:=zhx (af:=fr) (rest:=rest) (h:=h) ⟨kh,hb,ho',kt,hm,kb⟩ ho hac hw hnd g1 g2 h1
 obtain ⟨fr',w',B,R,v,v',h',s2,g⟩:=hK _ h2 w0 base fr1 cs1 w1 hk k1
 exact ⟨fr',w',B,R,v,v',h',s1.trans s2,g⟩
end
end Go.Proofs.Ytcdpmiebmhjmpaa.Ev
end
section
namespace Go.Proofs.Ytcdpmiebmhjmpaa.Ev
open Go
noncomputable section
variable (P:Program)
def zkh (n:Nat) (c' c:T AV):Prop:=∀ k v,k<n→c'.get k=some v→c.get k=some v
def zjy (id:Nat) (c':T AV) (z':Nat) (m:AM) (K:AM→Prop):Prop:=match m with
 | ⟨⟨fn,n,t,todo,ds,mode,kind,round⟩,rest,⟨objs,next,glob⟩⟩=>match rest with
  | _::_=>False
  | []=>match todo with
   | .drw _ _ _::_=>False
   | todo=>match objs.get id with
    | some (.cells c z el lo hi nv fz sg ex)=>zkh z' c' c∧z'=z∧K ⟨⟨fn,n,t,todo,ds,mode,kind,round⟩,[],⟨objs.set (some (.cells c' z' el lo hi nv fz sg ex)) id,next,glob⟩⟩
    | _=>False
def zgt (u:Nat) (p:List Nat) (id:Nat) (c':T AV) (z':Nat) (m:AM) (K:AM→Prop):Prop:=match m with
 | ⟨⟨fn,n,t,todo,ds,mode,kind,round⟩,rest,⟨objs,next,glob⟩⟩=>match mode with
  | .run=>match todo with
   | .drw _ _ _::_=>False
   | todo=>match t.get u with
    | none=>False
    | some v0=>match wit ⟨objs,next,glob⟩ p v0 with
     | none=>False
     | some v=>match w6 v with
      | none=>False
      | some j=>match Nat.beq j id with
       | false=>False
       | true=>match objs.get id with
        | some (.cells c z el lo hi nv fz sg ex)=>zkh z' c' c∧z'=z∧K ⟨⟨fn,n,t,todo,ds,.run,kind,round⟩,rest,⟨objs.set (some (.cells c' z' el lo hi nv fz sg ex)) id,next,glob⟩⟩
        | _=>False
  | _=>False
def zbn (h:AHeap) (id ver off k:Nat) (l:List UInt8):Option Prop:=match h.get id with
 | some (.cells c n _ lo hi _ _ _ ex)=>match zj ex n hi ver with
  | some e=>bif Nat.ble lo ver&&Nat.ble ver hi then some (off+k≤e∧xx (zy c off k)=some (.str l)) else none
  | none=>none
 | _=>none
def ziH (h:AHeap) (l:List UInt8) (v:AV):Option Prop:=match v with
 | .slc id ver off len _=>zbn h id ver off len l
 | .slg id ver off len _=>zbn h id ver off len l
 | _=>none
def zdS (ρ:Operand→Option AV) (h:AHeap) (l:List UInt8) (o:Op):Option Prop:=match o with
 | .convert s d x=>match P.underlying s with
  | none=>none
  | some _=>match P.underlying d with
   | some .string=>match we P d with
    | true=>none
    | false=>match yk P s with
     | false=>none
     | true=>match ρ x with
      | none=>none
      | some v=>ziH h l v
   | _=>none
 | _=>none
def zg2 [XT P] (l:List UInt8) (m:AM) (K:AM→Prop):Prop:=match m with
 | ⟨fr,rest,h⟩=>match fr.mode with
  | .run=>match w3 fr with
   | none=>False
   | some (all,o)=>match zw all fr.tmps o.guard with
    | some true=>zb8 (zdS P (ev fr.tmps) h l o.op) fun p=>p∧zhP P fr rest h (.val (.str l) h) K
    | _=>False
  | _=>False
def binV (ρ:Operand→Option AV) (b:AV) (o:Op):Option Prop:=match o with
 | .binOp op t x y _=>match ρ x with
  | none=>none
  | some v=>match ρ y with
   | none=>none
   | some w=>some (∀ h:AHeap,zcM P h op t (xp x || xp y) v w=some b)
 | _=>none
def zi8 [XT P] (v:AV) (m:AM) (K:AM→Prop):Prop:=match m with
 | ⟨fr,rest,h⟩=>match fr.mode with
  | .run=>match w3 fr with
   | none=>False
   | some (all,o)=>match zw all fr.tmps o.guard with
    | some true=>zb8 (binV P (ev fr.tmps) v o.op) fun p=>p∧zhP P fr rest h (.val v h) K
    | _=>False
  | _=>False
def mnzE (h : AHeap) (fn : Func) (args : List AV) : Option (AR × Prop) := match fn.origin == "" with
 | false=>none
 | true => match fn.name == "internal/abi.NoEscape" with
  | true=>none
  | false => match fn.name == "internal/bytealg.abigen_runtime_cmpstring" with
   | true=>none
   | false => match fn.name == "internal/bytealg.IndexByteString" with
    | true=>none
    | false => match fn.name == "internal/bytealg.CountString" with
     | true=>none
     | false => match fn.name == "internal/bytealg.MakeNoZero" with
      | false=>none
      | true=>match fn.resultTypes[0]? with
       | none=>none
       | some t=>match P.underlying t with
        | some (.slice el)=>match args with
         | [.int .i64 n]=>some (.val (.slg h.next 0 0 n.toNat 0) (h.new (.cells .leaf n.toNat el 0 0 1 0 false .leaf)),0≤n∧n<2 ^ 40∧P.cellsOf el=1)
         | _=>none
        | _=>none
def zjY (h:AHeap) (u:TypeId) (l:List UInt8) (p n:AV):Option (AR × Prop):=match n with
 | .int .i64 k=>match p with
  | .ptr id ver off=>match h.get id with
   | some (.cells c m el lo hi nv fz sg ex)=>match zj ex m hi ver with
    | none=>none
    | some e=>match Nat.ble lo ver&&Nat.ble ver hi with
     | false=>none
     | true=>match Nat.beq off 0&&Nat.beq el u&&!sg with
      | false=>none
      | true=>some (.val (.str l) (h.put id (.cells c m el lo hi nv (max fz k.toNat) sg ex)),0<k∧k<2 ^ 40∧k.toNat≤e∧P.cellsOf el=1∧xx (zy c 0 k.toNat)=some (.str l))
   | _=>none
  | _=>none
 | _=>none
def extW (ρ:Operand→Option AV) (h:AHeap) (l:List UInt8) (o:Op):Option (AR × Prop):=match o with
 | .call c=>match yE ρ c.args.toList with
  | none=>none
  | some args=>match c.callee with
   | .value f=>match ρ f with
    | some (.fn (.func g) first cap)=>match P.funcs[g]? with
     | none=>none
     | some fn=>match fn.body with
      | some _=>none
      | none=>mnzE P h fn ((first++args)++cap)
    | _=>none
   | .builtin .unsafeString=>match c.argTypes[0]? with
    | none=>none
    | some t=>match wz P t with
     | none=>none
     | some el=>match vN P el with
      | false=>none
      | true=>match ze1 args with
       | none=>none
       | some (p,n)=>zjY P h el l p n
   | _=>none
 | _=>none
def ExtK [XT P] (l:List UInt8) (m:AM) (K:AM→Prop):Prop:=match m with
 | ⟨fr,rest,h⟩=>match fr.mode with
  | .run=>match w3 fr with
   | none=>False
   | some (all,o)=>match zw all fr.tmps o.guard with
    | some true=>match extW P (ev fr.tmps) h l o.op with
     | none=>False
     | some (r,p)=>p∧zhP P fr rest h r K
    | _=>False
  | _=>False
def ldW (h:AHeap) (t:TypeId) (v p:AV):Option (AR × Prop):=match p with
 | .ptr id ver off=>match zhU P t with
  | none=>none
  | some true=>match v with
   | .agg l=>match P.info? t with
    | none=>none
    | some i=>some (.val (.agg l) h,za h id ver off i.size=some l)
   | _=>none
  | some false=>some (.val v h,za h id ver off 1=some [v])
 | _=>none
def stW (h:AHeap) (t:TypeId) (O:T AObj) (p v:AV):Option (AR × Prop):=match p with
 | .ptr id ver off=>match P.info? t with
  | none=>none
  | some i=>match Nat.beq v.cells.length i.size with
   | false=>none
   | true=>some (.skip ⟨O,h.next,h.glob⟩,zc h id ver off v.cells=some ⟨O,h.next,h.glob⟩)
 | _=>none
def nwW (h:AHeap) (t:TypeId) (O:T AObj) (z:AV):Option (AR × Prop):=match xW P t with
 | none=>none
 | some n=>match Nat.beq n z.cells.length&&z.cells.all AV.one with
  | false=>none
  | true=>some (.val (.ptr h.next 0 0) ⟨O,h.next+1,h.glob⟩,h.objs.set (some (.cells (zf .leaf 0 z.cells) z.cells.length t 0 0 1 0 false .leaf)) h.next=O)
def hopW (ρ:Operand→Option AV) (h:AHeap) (v:AV) (O:T AObj) (o:Op):Option (AR × Prop):=match o with
 | .load t a=>match ρ a with
  | none=>none
  | some p=>ldW P h t v p
 | .store t a x=>match ρ a with
  | none=>none
  | some p=>match ρ x with
   | none=>none
   | some x=>stW P h t O p x
 | .alloc t=>match yr P t with
  | none=>none
  | some z=>nwW P h t O z
 | .box t x=>match ρ x with
  | none=>none
  | some z=>nwW P h t O z
 | .lookup t m k ok=>match ρ m with
  | none=>none
  | some a=>match ρ k with
   | none=>none
   | some b=>some (.val v h,xG P h t a b ok=some v)
 | .mapUpdate t m k x=>match ρ m with
  | none=>none
  | some a=>match ρ k with
   | none=>none
   | some b=>match ρ x with
    | none=>none
    | some c=>some (.skip ⟨O,h.next,h.glob⟩,yX P h t a b c=some ⟨O,h.next,h.glob⟩)
 | .binOp op t x y _=>match ρ x with
  | none=>none
  | some a=>match ρ y with
   | none=>none
   | some b=>some (.val v h,zcM P h op t (xp x || xp y) a b=some v)
 | .slice t x lo hi mx=>match ρ x with
  | none=>none
  | some a=>match yO ρ lo with
   | none=>none
   | some l=>match yO ρ hi with
    | none=>none
    | some hh=>match yO ρ mx with
     | none=>none
     | some m=>some (.val v h,kH P h t a l hh m=some v)
 | .call c=>match yE ρ c.args.toList with
  | none=>none
  | some args=>match c.callee with
   | .builtin b=>match xP b with
    | true=>none
    | false=>some (.val v ⟨O,h.next,h.glob⟩,zg P h b c.argTypes[0]? c.argTypes[1]? args=some (.val v ⟨O,h.next,h.glob⟩))
   | _=>none
 | _=>none
def zha (ρ:Operand→Option AV) (h:AHeap) (o:Op) (v:AV) (K:Prop):Prop:=match o with
 | .load t a=>match ρ a with
  | some (.ptr id ver off)=>match ldW P h t v (.ptr id ver off) with
   | none=>False
   | some (_,q)=>q∧K
  | _=>wA P ρ h (.load t a)=some v∧K
 | o=>wA P ρ h o=some v∧K
def zgL (all:List Oper) (t:T AV) (h:AHeap) (o:Oper) (K:Prop):Prop:=match zw all t o.guard with
 | none=>False
 | some w=>match w with
  | false=>K
  | true=>match o.dst with
   | none=>(wA P (ev t) h o.op).isSome=true∧K
   | some d=>match t.get d with
    | none=>False
    | some v=>zha P (ev t) h o.op v (zh9 (okD 300 v) K)
def zfl (all:List Oper) (anc:Nat) (t:T AV) (h:AHeap):List Nat→Prop→Prop
 | [],K=>K
 | p::r,K=>match all[p]? with
  | none=>zfl all anc t h r K
  | some o=>match x3 P o.op&&!(anc.testBit p) with
   | false=>zfl all anc t h r K
   | true=>zgL P all t h o (zfl all anc t h r K)
def zgB (fr:AFrame) (h:AHeap) (all:Array Oper) (i:Nat) (o:Oper) (l dn:List Nat) (k:List AItem) (t:Option (T AV)) (K:AFrame→Prop):Prop:=match t with
 | none=>False
 | some t=>match fr with
  | ⟨fn,n,_,_,ds,mode,kind,round⟩=>match x5 P o || zX o.op with
   | false=>K ⟨fn,n,t,.drw all l (i::dn)::k,ds,mode,kind,round⟩
   | true=>zfl P all.toList (bif x5 P o then (zx P all.toList).anc.getD i 0 else 0) t h dn (K ⟨fn,n,t,.drw all l (i::dn)::k,ds,mode,kind,round⟩)
def zkG (fr:AFrame) (h:AHeap) (v:AV) (K:AFrame→Prop):Prop:=match fr.todo with
 | .drw all (i::l) dn::k=>match all[i]? with
  | none=>False
  | some o=>zgB P fr h all i o l dn k (zfM fr.tmps fr.n o.dst v) K
 | _=>zb8 (zI P fr h v) K
def zhQ [XT P] (fr:AFrame) (rest:List AFrame) (heap:AHeap) (r:AR) (K:AM→Prop):Prop:=match r with
 | .val v h=>zkG P fr h v fun fr=>K ⟨fr,rest,h⟩
 | .skip h=>zkG P fr h xH fun fr=>K ⟨fr,rest,h⟩
 | r=>zb8 (zfH P fr rest heap r) K
def HopK [XT P] (v:AV) (O:T AObj) (m:AM) (K:AM→Prop):Prop:=match m with
 | ⟨fr,rest,h⟩=>match fr.mode with
  | .run=>match w3 fr with
   | none=>False
   | some (all,o)=>match zw all fr.tmps o.guard with
    | some true=>match hopW P (ev fr.tmps) h v O o.op with
     | none=>False
     | some (r,p)=>p∧zhQ P fr rest h r K
    | _=>False
  | _=>False
def zjU (ρ:Operand→Option AV) (h:AHeap) (v:AV) (O:T AObj) (n:Nat) (o:Op):Option (AR × Prop):=match o with
 | .call c=>match yE ρ c.args.toList with
  | none=>none
  | some args=>match c.callee with
   | .builtin b=>match xP b with
    | true=>none
    | false=>some (.val v ⟨O,n,h.glob⟩,zg P h b c.argTypes[0]? c.argTypes[1]? args=some (.val v ⟨O,n,h.glob⟩))
   | _=>none
 | .makeMap _ r=>match r with
  | none=>some (.val (.mp h.next) ⟨O,h.next+1,h.glob⟩,h.objs.set (some (.map [] 0)) h.next=O)
  | some _=>none
 | .buildSlice t k parts=>match qu ρ parts.toList with
  | none=>none
  | some l=>some (.val v ⟨O,n,h.glob⟩,zh P h t k l=some (v,⟨O,n,h.glob⟩))
 | .makeSlice t l c=>match ρ l with
  | none=>none
  | some a=>match ρ c with
   | none=>none
   | some b=>some (.val v ⟨O,n,h.glob⟩,zT P h t a b=some (v,⟨O,n,h.glob⟩))
 | .convert s d x=>match we P d with
  | false=>none
  | true=>match ρ x with
   | none=>none
   | some a=>some (.val v ⟨O,n,h.glob⟩,jk P h s d a=some (v,⟨O,n,h.glob⟩))
 | _=>none
def zjL [XT P] (v:AV) (O:T AObj) (n:Nat) (m:AM) (K:AM→Prop):Prop:=match m with
 | ⟨fr,rest,h⟩=>match fr.mode with
  | .run=>match w3 fr with
   | none=>False
   | some (all,o)=>match zw all fr.tmps o.guard with
    | some true=>match zjU P (ev fr.tmps) h v O n o.op with
     | none=>False
     | some (r,p)=>p∧zhQ P fr rest h r K
    | _=>False
  | _=>False
def zko (h:AHeap) (t:T AV):List ResultVar→List AV→Option (List AV × Prop)
 | [],_=>some ([],True)
 | x::r,vs=>match vs with
  | []=>none
  | v::vs=>match zko h t r vs with
   | none=>none
   | some (l,q)=>match x with
    | .tmp i=>match t.get i with
     | none=>none
     | some u=>some (u::l,q)
    | .cell a ty=>match t.get a with
     | none=>none
     | some p=>match ldW P h ty v p with
      | some (.val u _,p')=>some (u::l,p'∧q)
      | _=>none
def zjF (vs:List AV) (m:AM) (K:AM→Prop):Prop:=match m with
 | ⟨fr,rest,h⟩=>match fr.mode with
  | .returning=>match fr.defers with
   | []=>match fr.kind with
    | .normal=>match rest with
     | []=>False
     | c::r=>match c.mode with
      | .run=>match P.funcs[fr.fn]? with
       | none=>False
       | some fn=>match zko P h fr.tmps fn.results.toList vs with
        | none=>False
        | some (l,q)=>q∧zb8 (zjX (some l)) fun v=>zkG P c h v fun c=>K ⟨c,r,h⟩
      | _=>False
    | _=>False
   | _::_=>False
  | _=>False
def zkA (f:FuncId) (args:List AV) (h:AHeap) (v:AV) (H:AHeap):Prop :=
 ∀ (B:Base) (R:Bij) (w:World) (args':List Value),HRel P B R h w→B.n≤w.heap.size→VRels R args args' →
  Calls P f args'.toArray w fun e w'=>∃ R' v',e=.returned v'∧VRel R' v v'∧HRel P B R' ⟨H.objs,H.next,h.glob⟩ w'∧Keeps R w R' w'
def AskK [XT P] (v:AV) (H:AHeap) (m:AM) (K:AM→Prop):Prop:=match m with
 | ⟨fr,rest,h⟩=>match fr.mode with
  | .run=>match w3 fr with
   | none=>False
   | some (all,op)=>match zw all fr.tmps op.guard with
    | some true=>match opA P (ev fr.tmps) h op.op with
     | some (.enter f args h0)=>zkA P f args h0 v H∧zhP P fr rest h (.val v ⟨H.objs,H.next,h0.glob⟩) K
     | _=>False
    | _=>False
  | _=>False
def CapK (id k:Nat) (m:AM) (K:AM→Prop):Prop:=match m with
 | ⟨⟨fn,n,t,todo,ds,mode,kind,round⟩,rest,⟨objs,next,glob⟩⟩=>match rest with
  | _::_=>False
  | []=>match todo with
   | .drw _ _ _::_=>False
   | todo=>match objs.get id with
    | some (.cells c z el lo hi nv fz sg ex)=>match c.get k with
     | some (.slg i r o l _st)=>0<l∧∀ cap,l≤cap→K ⟨⟨fn,n,t,todo,ds,mode,kind,round⟩,[],⟨objs.set (some (.cells (c.set (some (.slc i r o l cap)) k) z el lo hi nv fz sg ex)) id,next,glob⟩⟩
     | _=>False
    | _=>False
inductive Cmd where
 | run (n:Nat)
 | br (b:Bool)
 | know (u:Nat) (b:Bool)
 | slot (u:Nat) (v:AV)
 | op
 | res (r:AR)
 | step
 | can (keep:Nat) (ids us:List Nat) (uss:List (List Nat))
 | keep (us:List Nat)
 | call (us:List Nat) (Q:AV→Prop)
 | callv (us:List Nat) (v:AV)
 | callh (l:List (Nat × Nat × List Nat)) (us:List Nat) (v:AV) (H:AHeap)
 | told (id:Nat) (c:T AV) (n:Nat)
 | tolds (u:Nat) (p:List Nat) (id:Nat) (c:T AV) (n:Nat)
 | cap (id k:Nat)
 | bytes (l:List UInt8)
 | ext (l:List UInt8)
 | isv (v:AV)
 | ask (v:AV) (H:AHeap)
 | opw (moved:Bool)
 | hop (v:AV) (O:T AObj)
 | hopn (v:AV) (O:T AObj) (n:Nat)
 | hret (vs:List AV)
 | done
def cmdK [XT P] (f0:FuncId) (Q:AV→AHeap→Prop) (keep:Nat) (c:Cmd) (m:AM) (K:AM→Prop):Prop:=match c with
 | .run n=>zb8 (runN P n m) K
 | .br b=>Br b m K
 | .know u b=>Know u b m K
 | .slot u v=>Slot u v m K
 | .op=>OpK P m K
 | .res x=>ResK P x m K
 | .step=>zi3 P m K
 | .keep us=>zi9 us m K
 | .can k ids us uss=>bif Nat.ble keep k then CanP k ids us uss m K else False
 | .call us q=>zgO P us q m K
 | .callv us v=>zjM P us v m K
 | .callh l us v H=>zjv P l us v H m K
 | .told id c n=>zjy id c n m K
 | .tolds u p id c n=>zgt u p id c n m K
 | .cap id k=>CapK id k m K
 | .bytes l=>zg2 P l m K
 | .isv v=>zi8 P v m K
 | .ext l=>ExtK P l m K
 | .opw b=>OpWK P b m K
 | .ask v H=>AskK P v H m K
 | .hop v O=>HopK P v O m K
 | .hopn v O n=>zjL P v O n m K
 | .hret vs=>zjF P vs m K
 | .done=>zka P f0 Q m
def Obl [XT P] (f0:FuncId) (Q:AV→AHeap→Prop) (keep:Nat) (K:AM→Prop) (l:List Cmd):AM→Prop :=
 List.rec (motive:=fun _=>AM→Prop) K (fun c _ ih m=>cmdK P f0 Q keep c m ih) l
end
section
variable {P:Program}
theorem zfu {keep:Nat}{f0:FuncId}{Q:AV→AHeap→Prop}{id:Nat}{c':T AV}{z':Nat}{m:AM}{K:AM→Prop}(e:zjy id c' z' m K)(hK:∀ m,K m→Goal P keep f0 Q m):Goal P keep f0 Q m:=by
 intro w0 base fr cs w hk s
 obtain ⟨⟨fn,n,t,todo,ds,mode,kind,round⟩,rest,⟨objs,next,glob⟩⟩:=m
 unfold zjy at e
 simp only at e
 split at e
 · exact e.elim
 split at e
 · exact e.elim
 rename_i hn
 split at e
 rotate_left
 · exact e.elim
 rename_i c z el lo hi nv fz sg ex hobj
 obtain ⟨hle,rfl,e⟩:=e
 obtain ⟨B,R,fs,hc,hb,kh,ho,kt,kb⟩:=s
 generalize ho':AObj.cells c' z' el lo hi nv fz sg ex=o' at e
 let h':AHeap:=⟨objs.set (some o') id,next,glob⟩
 let B':Base:={ B with pend:=fun i=>match B.pend i with
  | none=>none
  | some _=>h'.get i }
 have hget:∀ i,h'.get i=if i=id then some o' else objs.get i:=fun i=>T.get_set ..
 have hpn:∀ i,B.pend i=none ↔ B'.pend i=none:=by
  intro i
  show _ ↔ (match B.pend i with
   | none=>none
   | some _=>h'.get i)=none
  cases hp:B.pend i with
  | none=>simp
  | some o =>
   have:=(kh.pend i o hp).2.1
   refine ⟨fun h=>(by cases h),fun h=>?_⟩
   simp only at h
   rw [hget] at h
   split at h
   · cases h
   · change objs.get i=some o at this; rw [this] at h; cases h
 refine hK _ e w0 base fr cs w hk ⟨B',R,fs,hc,hb,?_,ho,?_,kb⟩
 · refine ⟨kh.fresh,fun i o eo hpe=>?_,fun i o eo=>?_,kh.place,fun i hi=>⟨(kh.rd i hi).1,fun o eo=>?_⟩,fun i hi=>(hpn i).1 (kh.rp i hi),kh.rol,kh.low,kh.pin,kh.apart,kh.same,kh.glob⟩
   · have eo':h'.get i=some o:=eo
     rw [hget] at eo'
     split at eo'
     · rename_i hi
       subst hi
       cases eo'
       obtain ⟨a1,a2,a3,a4,a5⟩:ObjRel P R w i (.cells c z' el lo hi nv fz sg ex):=kh.obj i _ hobj ((hpn i).2 hpe)
       subst ho'
       refine ⟨a1,a2,a3,fun r e b1 b2 b3=>?_,a5⟩
       obtain ⟨L,h1,cs,a,b,g1,g2,g3,g4,g5⟩:=a4 r e b1 b2 b3
       exact ⟨L,h1,cs,a,b,g1,g2,g3,g4,fun q v q1 q2 q3=>g5 q v q1 q2 (hle q v (Nat.lt_of_lt_of_le q1 (a5 r e b1 b2 b3)) q3)⟩
     · exact kh.obj i o eo' ((hpn i).2 hpe)
   · change (match B.pend i with
      | none=>none
      | some _=>h'.get i)=some o at eo
     cases hp:B.pend i with
     | none=>rw [hp] at eo; cases eo
     | some o0 =>
      rw [hp] at eo
      exact ⟨(kh.pend i o0 hp).1,eo,(kh.pend i o0 hp).2.2⟩
   · have eo':h'.get i=some o:=eo
     rw [hget] at eo'
     split at eo'
     · rename_i hi'
       subst hi'
       have:=(kh.rd i hi).2 _ hobj
       cases this
     · exact (kh.rd i hi).2 o eo'
 · obtain ⟨k1,k2,k3,k4,k5,k6,k7,k8,k9⟩:=kt
   refine ⟨k1,k2,k3,k4,k5,k6,k7,k8,?_⟩
   cases mode with
   | run =>
    change TodoRel P B R 0 false _ todo t fr.todo fr.tmps at k9
    show TodoRel P B' R 0 false h' todo t fr.todo fr.tmps
    cases todo with
    | nil=>exact k9
    | cons it kk =>
     cases it with
     | drw a b c=>exact absurd rfl (hn a b c kk)
     | _=>exact k9
   | returning=>exact k9
   | panicking c=>exact k9
theorem zdJ {keep:Nat}{f0:FuncId}{Q:AV→AHeap→Prop}{u:Nat}{p:List Nat}{id:Nat}{c':T AV}{z':Nat}{m:AM}{K:AM→Prop}(e:zgt u p id c' z' m K)(hK:∀ m,K m→Goal P keep f0 Q m):Goal P keep f0 Q m:=by
 intro w0 base fr cs w hk s
 obtain ⟨⟨fn,n,t,todo,ds,mode,kind,round⟩,rest,⟨objs,next,glob⟩⟩:=m
 unfold zgt at e
 simp only at e
 split at e
 rotate_left
 · exact e.elim
 split at e
 · exact e.elim
 rename_i hn
 split at e
 · exact e.elim
 rename_i v0 hv0
 split at e
 · exact e.elim
 rename_i v hv
 split at e
 · exact e.elim
 rename_i j hj
 split at e
 · exact e.elim
 rename_i hji
 split at e
 rotate_left
 · exact e.elim
 rename_i c z el lo hi nv fz sg ex hobj
 obtain ⟨hle,rfl,e⟩:=e
 obtain rfl:=Nat.eq_of_beq_eq_true hji
 obtain ⟨B,R,fs,hc,hb,kh,ho,kt,kb⟩:=s
 obtain ⟨k1,k2,k3,k4,k5,k6,k7,k8,k9⟩:=kt
 change TodoRel P B R rest.length false _ todo t fr.todo fr.tmps at k9
 have hs:All2 (ItemRel R) todo fr.todo∧Slots R t fr.tmps:=by
  cases todo with
  | nil=>exact k9
  | cons it kk =>
   cases it with
   | drw a b c=>exact absurd rfl (hn a b c kk)
   | _=>exact k9
 obtain ⟨x,_,hx⟩:=hs.2 u v0 hv0
 obtain ⟨x',hx'⟩:=yY kh hv hx
 obtain ⟨r,L,hL⟩:=wP hx' hj
 have hp:B.pend j=none:=by
  cases hpj:B.pend j with
  | none=>rfl
  | some o=>have:=(kh.pend j o hpj).2.2 r; rw [this] at hL; cases hL
 have hless:LessH P j ⟨objs,next,glob⟩ ⟨objs.set (some (.cells c' z' el lo hi nv fz sg ex)) j,next,glob⟩ :=
  ⟨.cells c z' el lo hi nv fz sg ex,.cells c' z' el lo hi nv fz sg ex,hobj,rfl,rfl,fun i=>T.get_set ..,rfl,rfl,xg hle⟩
 refine hK _ e w0 base fr cs w hk ⟨B,R,fs,hc,hb,kh.less hless hp,ho,⟨k1,k2,k3,k4,k5,k6,k7,k8,?_⟩,kb.mono (fun _ _ _ h=>h) ⟨rfl,fun _ _ h _=>⟨h,rfl⟩⟩ (Nat.le_refl _)⟩
 show TodoRel P B R rest.length false _ todo t fr.todo fr.tmps
 cases todo with
 | nil=>exact hs
 | cons it kk =>
  cases it with
  | drw a b c=>exact absurd rfl (hn a b c kk)
  | _=>exact hs
theorem zff {ρ:Operand→Option AV}{h:AHeap}{l:List UInt8}{o:Op}{p:Prop}(e:zdS P ρ h l o=some p)(hp:p):opA P ρ h o=some (.val (.str l) h):=by
 unfold zdS at e
 split at e
 rotate_left
 · cases e
 rename_i s d x
 split at e
 · cases e
 rename_i us hs
 split at e
 rotate_left
 · cases e
 rename_i hd
 split at e
 · cases e
 rename_i hsl
 split at e
 · cases e
 rename_i hb
 split at e
 · cases e
 rename_i v hv
 have key:∀ id ver off k,zbn h id ver off k l=some p→xx (za h id ver off k)=some (.str l):=by
  intro id ver off k e
  unfold zbn at e
  split at e
  rotate_left
  · cases e
  rename_i c n el lo hi nv fz sg ex ho
  split at e
  rotate_left
  · cases e
  rename_i ee he
  cases hc:(Nat.ble lo ver&&Nat.ble ver hi) with
  | false=>rw [hc] at e; cases e
  | true =>
   rw [hc] at e
   simp only [cond_true,Option.some.injEq] at e
   subst e
   simp only [Bool.and_eq_true,Nat.ble_eq] at hc
   unfold za
   rw [ho]
   simp only [he]
   rw [if_pos ⟨hc.1,hc.2,hp.1⟩]
   exact hp.2
 have conv:zfe P h s d v=some (.str l):=by
  unfold zfe
  rw [hs,hd]
  simp only [hb]
  unfold ziH at e
  split at e
  · rename_i id ver off len c
    show xx (za h id ver off len)=_
    exact key _ _ _ _ e
  · rename_i id ver off len st
    show xx (za h id ver off len)=_
    exact key _ _ _ _ e
  · cases e
 show yz ρ x (fun v=>zbp P h s d v)=_
 unfold yz
 rw [hv]
 show zbp P h s d v=_
 unfold zbp
 rw [hsl]
 show x4 h (zfe P h s d v)=_
 rw [conv]
 rfl
theorem zi6 {h:AHeap}{fn:Func}{args:List AV}{r:AR}{p:Prop}(e:mnzE P h fn args=some (r,p))(hp:p):vQ P h fn args=some r:=by
 unfold mnzE at e
 unfold vQ
 split at e
 · cases e
 rename_i h0
 simp only [h0]
 split at e
 · cases e
 rename_i h1
 simp only [h1]
 split at e
 · cases e
 rename_i h2
 simp only [h2]
 split at e
 · cases e
 rename_i h3
 simp only [h3]
 split at e
 · cases e
 rename_i h4
 simp only [h4]
 split at e
 · cases e
 rename_i h5
 simp only [h5]
 unfold x8
 split at e
 · cases e
 rename_i t ht
 simp only [ht]
 split at e
 rotate_left
 · cases e
 rename_i el hu
 simp only [hu]
 split at e
 rotate_left
 · cases e
 cases e
 simp only
 rw [if_pos hp]
theorem zis {h:AHeap}{u:TypeId}{l:List UInt8}{v n:AV}{r:AR}{p:Prop}(e:zjY P h u l v n=some (r,p))(hp:p):yD (yQ P h u v n)=some r:=by
 unfold zjY at e
 split at e
 rotate_left
 · cases e
 rename_i k
 split at e
 rotate_left
 · cases e
 rename_i id ver off
 split at e
 rotate_left
 · cases e
 rename_i c m el lo hi nv fz sg ex ho
 split at e
 · cases e
 rename_i e0 he
 split at e
 · cases e
 rename_i hb
 split at e
 · cases e
 rename_i hq
 cases e
 simp only [Bool.and_eq_true,Nat.ble_eq] at hb
 rw [Bool.and_eq_true,Bool.and_eq_true] at hq
 obtain ⟨⟨q1,q2⟩,q3⟩:=hq
 have q1:=Nat.eq_of_beq_eq_true q1
 have q2:=Nat.eq_of_beq_eq_true q2
 have q3:sg=false:=by cases sg; rfl; cases q3
 obtain ⟨p1,p2,p3,p4,p5⟩:=hp
 unfold xx at p5
 split at p5
 · cases p5
 rename_i ls hls
 unfold zjJ at p5
 split at p5
 · cases p5
 rename_i s hs
 cases p5
 unfold yQ
 simp only
 rw [if_neg (by omega),if_pos ⟨p1,p2⟩]
 unfold zbz
 rw [ho]
 simp only [he]
 rw [if_pos ⟨hb.1,hb.2,p3,q1,q2,q3,p4⟩]
 simp only [hls,hs]
 rfl
theorem zjf {ρ:Operand→Option AV}{h:AHeap}{l:List UInt8}{o:Op}{r:AR}{p:Prop}(e:extW P ρ h l o=some (r,p))(hp:p):opA P ρ h o=some r:=by
 unfold extW at e
 split at e
 rotate_left
 · cases e
 rename_i c
 split at e
 · cases e
 rename_i args ha
 show xa P ρ h c=some r
 unfold xa
 simp only [ha]
 split at e
 · rename_i f hc
   rw [hc]
   simp only
   split at e
   rotate_left
   · cases e
   rename_i g first cap hf
   rw [hf]
   show yI P h (.func g) (first++args) cap=some r
   show zcQ P h g ((first++args)++cap)=some r
   unfold zcQ
   split at e
   · cases e
   rename_i fn hfn
   simp only [hfn]
   split at e
   · cases e
   rename_i hbody
   simp only [hbody]
   exact zi6 e hp
 · rename_i hc
   rw [hc]
   simp only
   split at e
   · cases e
   rename_i t ht
   split at e
   · cases e
   rename_i el hel
   split at e
   · cases e
   rename_i hby
   split at e
   · cases e
   rename_i v n htw
   show zg P h .unsafeString c.argTypes[0]? c.argTypes[1]? args=some r
   unfold zg
   simp only [ht]
   unfold zbG
   simp only [hel,hby,htw]
   exact zis e hp
 · cases e
theorem zhv {keep:Nat}{f0:FuncId}{Q:AV→AHeap→Prop}{id:Nat}{fn n:Nat}{t:T AV}{todo:List AItem}{ds:List ADef}{mode:AMode}{kind:CallKind}{round:Option Nat}{objs:T AObj}{next:Nat}{glob:T (T AV)}{o:AObj}
 (hn:∀ a b c k,todo≠.drw a b c::k) (hobj:objs.get id=some o) (hro:o.isRo=false)
 (hany:∃ o':AObj,o'.isRo=false∧Goal P keep f0 Q ⟨⟨fn,n,t,todo,ds,mode,kind,round⟩,[],⟨objs.set (some o') id,next,glob⟩⟩)
 (hsw:∀ (R:Bij) (w:World),ObjRel P R w id o→∃ o':AObj,o'.isRo=false∧ObjRel P R w id o'∧Goal P keep f0 Q ⟨⟨fn,n,t,todo,ds,mode,kind,round⟩,[],⟨objs.set (some o') id,next,glob⟩⟩) :
 Goal P keep f0 Q ⟨⟨fn,n,t,todo,ds,mode,kind,round⟩,[],⟨objs,next,glob⟩⟩:=by
 intro w0 base fr cs w hk s
 obtain ⟨B,R,fs,hc,hb,kh,ho,kt,kb⟩:=s
 obtain ⟨o',hro',hobj',hG⟩:∃ o':AObj,o'.isRo=false∧(B.pend id=none→ObjRel P R w id o')∧Goal P keep f0 Q ⟨⟨fn,n,t,todo,ds,mode,kind,round⟩,[],⟨objs.set (some o') id,next,glob⟩⟩:=by
  cases hp:B.pend id with
  | none =>
   obtain ⟨o',h1,h2,h3⟩:=hsw R w (kh.obj id _ hobj hp)
   exact ⟨o',h1,fun _=>h2,h3⟩
  | some x =>
   obtain ⟨o',h1,h3⟩:=hany
   exact ⟨o',h1,(fun h=>by cases h),h3⟩
 let h':AHeap:=⟨objs.set (some o') id,next,glob⟩
 let B':Base:={ B with pend:=fun i=>match B.pend i with
  | none=>none
  | some _=>h'.get i }
 have hget:∀ i,h'.get i=if i=id then some o' else objs.get i:=fun i=>T.get_set ..
 have hpn:∀ i,B.pend i=none ↔ B'.pend i=none:=by
  intro i
  show _ ↔ (match B.pend i with
   | none=>none
   | some _=>h'.get i)=none
  cases hp:B.pend i with
  | none=>simp
  | some o =>
   have:=(kh.pend i o hp).2.1
   refine ⟨fun h=>(by cases h),fun h=>?_⟩
   simp only at h
   rw [hget] at h
   split at h
   · cases h
   · change objs.get i=some o at this; rw [this] at h; cases h
 refine hG w0 base fr cs w hk ⟨B',R,fs,hc,hb,?_,ho,?_,kb⟩
 · refine ⟨kh.fresh,fun i o eo hpe=>?_,fun i o eo=>?_,kh.place,fun i hi=>⟨(kh.rd i hi).1,fun o eo=>?_⟩,fun i hi=>(hpn i).1 (kh.rp i hi),kh.rol,kh.low,kh.pin,kh.apart,kh.same,kh.glob⟩
   · have eo':h'.get i=some o:=eo
     rw [hget] at eo'
     split at eo'
     · rename_i hi
       subst hi
       cases eo'
       exact hobj' ((hpn i).2 hpe)
     · exact kh.obj i o eo' ((hpn i).2 hpe)
   · change (match B.pend i with
      | none=>none
      | some _=>h'.get i)=some o at eo
     cases hp:B.pend i with
     | none=>rw [hp] at eo; cases eo
     | some o0 =>
      rw [hp] at eo
      exact ⟨(kh.pend i o0 hp).1,eo,(kh.pend i o0 hp).2.2⟩
   · have eo':h'.get i=some o:=eo
     rw [hget] at eo'
     split at eo'
     · rename_i hi'
       subst hi'
       have:=(kh.rd i hi).2 _ hobj
       rw [hro] at this; cases this
     · exact (kh.rd i hi).2 o eo'
 · obtain ⟨k1,k2,k3,k4,k5,k6,k7,k8,k9⟩:=kt
   refine ⟨k1,k2,k3,k4,k5,k6,k7,k8,?_⟩
   cases mode with
   | run =>
    change TodoRel P B R 0 false _ todo t fr.todo fr.tmps at k9
    show TodoRel P B' R 0 false h' todo t fr.todo fr.tmps
    cases todo with
    | nil=>exact k9
    | cons it kk =>
     cases it with
     | drw a b c=>exact absurd rfl (hn a b c kk)
     | _=>exact k9
   | returning=>exact k9
   | panicking c=>exact k9
theorem zfV {keep:Nat}{f0:FuncId}{Q:AV→AHeap→Prop}{id k:Nat}{m:AM}{K:AM→Prop}(e:CapK id k m K)(hK:∀ m,K m→Goal P keep f0 Q m):Goal P keep f0 Q m:=by
 obtain ⟨⟨fn,n,t,todo,ds,mode,kind,round⟩,rest,⟨objs,next,glob⟩⟩:=m
 unfold CapK at e
 simp only at e
 split at e
 · exact e.elim
 split at e
 · exact e.elim
 rename_i hn
 split at e
 rotate_left
 · exact e.elim
 rename_i c z el lo hi nv fz sg ex hobj
 split at e
 rotate_left
 · exact e.elim
 rename_i i r o l st hc
 obtain ⟨hl,e⟩:=e
 refine zhv hn hobj rfl ⟨_,rfl,hK _ (e l (Nat.le_refl _))⟩ fun R w hrel=>?_
 obtain ⟨a1,a2,a3,a4,a5⟩:=hrel
 generalize hcap:max l (((R i r).elim 0 Loc.kap) - st)=cap
 refine ⟨.cells (c.set (some (.slc i r o l cap)) k) z el lo hi nv fz sg ex,rfl,?_,hK _ (e cap (by omega))⟩
 refine ⟨a1,a2,a3,fun r' e' b1 b2 b3=>?_,a5⟩
 obtain ⟨L,h1,cs,a,b,g1,g2,g3,g4,g5⟩:=a4 r' e' b1 b2 b3
 refine ⟨L,h1,cs,a,b,g1,g2,g3,g4,fun q v q1 q2 q3=>?_⟩
 rw [T.get_set] at q3
 split at q3
 · rename_i hq
   subst hq
   cases q3
   obtain ⟨x,hx,M,ad,hM,m1,m2,rfl,m3⟩:=g5 q _ q1 q2 hc
   refine ⟨_,hx,M,hM,m1,?_⟩
   have hc2:cap=M.kap - st:=by
    rw [← hcap,hM]
    simp only [Option.elim]
    omega
   rw [m3 (by omega),hc2]
 · exact g5 q v q1 q2 q3
open Classical in
noncomputable def zhN (f:FuncId) (args:List AV) (h:AHeap) (v:AV) (H:AHeap):FuncId→Option (AHeap→List AV→Option (AV × T AObj × Nat)) :=
 fun g=>if g=f then some (fun h' a=>if h'=h∧a=args then some (v,H.objs,H.next) else none) else none
theorem zgu {f:FuncId}{args:List AV}{h:AHeap}{v:AV}{H:AHeap}(k:zkA P f args h v H):@XTOk P ⟨zhN f args h v H⟩ :=
 @XTOk.mk P ⟨zhN f args h v H⟩ fun g F e=>by
  change zhN f args h v H g=some F at e
  unfold zhN at e
  split at e
  · rename_i hg
    cases e
    subst hg
    intro B R h' w a a' v' o' n' e hh hB ha
    dsimp only at e
    split at e
    · rename_i hc
      obtain ⟨rfl,rfl⟩:=hc
      cases e
      exact k B R w a' hh hB ha
    · cases e
  · cases e
open Classical in
theorem zfK [XT P] [XTOk P] (hmix:P.follows .mixedOrders=true){keep:Nat}{f0:FuncId}{Q:AV→AHeap→Prop}{v:AV}{H:AHeap}{m:AM}{K:AM→Prop}(e:AskK P v H m K)(hK:∀ m,K m→Goal P keep f0 Q m):Goal P keep f0 Q m:=by
 obtain ⟨fr,rest,h⟩:=m
 unfold AskK at e
 simp only at e
 split at e
 rotate_left
 · exact e.elim
 rename_i hm
 split at e
 · exact e.elim
 rename_i all op ho
 split at e
 rotate_left
 · exact e.elim
 rename_i hw
 split at e
 rotate_left
 · exact e.elim
 rename_i f args h0 hop
 obtain ⟨k,e⟩:=e
 obtain ⟨m',h1,h2⟩:=xT e
 refine @Goal.step P ⟨zhN f args h0 v H⟩ (zgu k) hmix keep f0 Q _ m' ?_ (hK _ h2)
 rw [@xn P ⟨zhN f args h0 v H⟩ (zgu k) fr rest h all op hm ho]
 simp only [qw,hw,hop,kN]
 change vI rest _ (zI P fr _ v)=some m' at h1
 have ht:zhN f args h0 v H f=some (fun h' a=>if h'=h0∧a=args then some (v,H.objs,H.next) else none):=if_pos rfl
 have hx:@zbX P ⟨zhN f args h0 v H⟩ h0 f args=some (v,⟨H.objs,H.next,h0.glob⟩):=by
  show (match zhN f args h0 v H f with
   | none=>none
   | some F=>match F h0 args with
    | none=>none
    | some (v,o,n)=>some (v,(⟨o,n,h0.glob⟩:AHeap)))=_
  rw [ht]
  simp only [and_self,if_true]
 show (match @zbX P ⟨zhN f args h0 v H⟩ h0 f args with
  | none=>vI (fr::rest) h0 (qO P f args .normal)
  | some (v,h')=>vI rest h' (zI P fr h' v))=some m'
 rw [hx]
 exact h1
theorem zhu {h:AHeap}{t:TypeId}{v p:AV}{r:AR}{q:Prop}(e:ldW P h t v p=some (r,q))(hq:q):x4 h (kT P h t p)=some r:=by
 unfold ldW at e
 split at e
 rotate_left
 · cases e
 unfold kT
 simp only
 split at e
 · cases e
 · rename_i ht
   simp only [ht]
   split at e
   rotate_left
   · cases e
   split at e
   · cases e
   rename_i i hi
   cases e
   simp only [hi,hq]
   rfl
 · rename_i ht
   simp only [ht]
   cases e
   rw [hq]
   rfl
theorem zkk {h:AHeap}{t:TypeId}{O:T AObj}{p v:AV}{r:AR}{q:Prop}(e:stW P h t O p v=some (r,q))(hq:q):zbT (ky P h t p v)=some r:=by
 unfold stW at e
 split at e
 rotate_left
 · cases e
 unfold ky
 simp only
 split at e
 · cases e
 rename_i i hi
 simp only [hi]
 split at e
 · cases e
 rename_i hn
 cases e
 rw [if_pos (Nat.eq_of_beq_eq_true hn),hq]
 rfl
theorem ziB {h:AHeap}{t:TypeId}{O:T AObj}{z:AV}{r:AR}{q:Prop}(e:nwW P h t O z=some (r,q))(hq:q):yD (zhy P h t z)=some r:=by
 unfold nwW at e
 split at e
 · cases e
 rename_i n hn
 split at e
 · cases e
 rename_i hb
 cases e
 rw [Bool.and_eq_true] at hb
 unfold zhy
 rw [if_pos ⟨hb.2,by rw [hn,Nat.eq_of_beq_eq_true hb.1]⟩]
 subst hq
 rfl
theorem zjG {h h':AHeap}{t:TypeId}{v p u:AV}{r:AR}{q:Prop}(e:ldW P h t v p=some (r,q))(hr:r=.val u h'):u=v:=by
 subst hr
 unfold ldW at e
 split at e
 rotate_left
 · cases e
 split at e
 · cases e
 · split at e
   rotate_left
   · cases e
   split at e
   · cases e
   cases e
   rfl
 · cases e
   rfl
theorem zgb {ρ:Operand→Option AV}{h:AHeap}{o:Op}{v:AV}{K:Prop}(e:zha P ρ h o v K):wA P ρ h o=some v∧K:=by
 unfold zha at e
 split at e
 · rename_i t a
   split at e
   · rename_i id ver off ha
     split at e
     · exact e.elim
     · rename_i r q hq
       obtain ⟨hp,hk⟩:=e
       refine ⟨?_,hk⟩
       have:=zhu hq hp
       unfold x4 at this
       split at this
       · cases this
       rename_i u hu
       cases this
       obtain rfl:=zjG hq rfl
       unfold wA
       show (match qD P t a ρ h with | some (.val v _)=>some v | _=>none)=_
       simp only [qD,yz,ha,hu,x4]
   · exact e
 · exact e
theorem zgU {all:List Oper}{t:T AV}{h:AHeap}{o:Oper}{K:Prop}(e:zgL P all t h o K):qa P all t h o=true∧K:=by
 unfold zgL at e
 unfold qa
 split at e
 · exact e.elim
 · rename_i w hw
   rw [hw]
   split at e
   · exact ⟨rfl,e⟩
   · split at e
     · rename_i hd; simp only [hd]; exact e
     · rename_i d hd
       simp only [hd]
       split at e
       · exact e.elim
       · rename_i v hv
         obtain ⟨h1,h2⟩:=zgb e
         obtain ⟨h3,h4⟩:=ka h2
         rw [hv,h1]
         exact ⟨kV 300 v h3,h4⟩
theorem jj {all:List Oper}{anc:Nat}{t:T AV}{h:AHeap}:∀ {dn:List Nat} {K:Prop},zfl P all anc t h dn K→yo P all anc t h dn=true∧K
 | [],K,e=>⟨rfl,e⟩
 | p::r,K,e=>by
  unfold zfl at e
  unfold yo
  rw [Bool.and_eq_true]
  split at e
  · rename_i hp
    obtain ⟨g1,g2⟩:=jj e
    rw [hp]
    exact ⟨⟨rfl,g1⟩,g2⟩
  · rename_i o hp
    rw [hp]
    unfold wf
    simp only
    split at e
    · rename_i hr
      obtain ⟨g1,g2⟩:=jj e
      rw [hr]
      exact ⟨⟨rfl,g1⟩,g2⟩
    · rename_i hr
      obtain ⟨q1,q2⟩:=zgU e
      obtain ⟨g1,g2⟩:=jj q2
      rw [hr]
      exact ⟨⟨q1,g1⟩,g2⟩
theorem zal {fr:AFrame}{h:AHeap}{v:AV}{K:AFrame→Prop}(e:zkG P fr h v K):∃ a,zI P fr h v=some a∧K a:=by
 unfold zkG at e
 split at e
 · rename_i all i l dn k htodo
   split at e
   · exact e.elim
   · rename_i o ho
     unfold zI
     rw [htodo]
     simp only [ho]
     unfold zgB at e
     unfold za4
     split at e
     · exact e.elim
     · rename_i t ht
       rw [ht]
       obtain ⟨fn,n,t0,td,ds,mode,kind,round⟩:=fr
       simp only at e ⊢
       split at e
       · rename_i hf
         rw [hf]
         exact ⟨_,rfl,e⟩
       · rename_i hf
         obtain ⟨g1,g2⟩:=jj e
         rw [hf,g1]
         exact ⟨_,rfl,g2⟩
 · exact z7 e
theorem zaW [XT P] [XTOk P] {fr:AFrame}{rest:List AFrame}{heap:AHeap}{r:AR}{K:AM→Prop}(e:zhQ P fr rest heap r K):∃ m,zfH P fr rest heap r=some m∧K m:=by
 unfold zhQ at e
 split at e
 · obtain ⟨a,h1,h2⟩:=zal e
   exact ⟨_,by simp only [zfH,h1,vI],h2⟩
 · obtain ⟨a,h1,h2⟩:=zal e
   exact ⟨_,by simp only [zfH,h1,vI],h2⟩
 · exact z7 e
theorem zhR {ρ:Operand→Option AV}{h:AHeap}{v:AV}{O:T AObj}{n:Nat}{o:Op}{r:AR}{p:Prop}(e:zjU P ρ h v O n o=some (r,p))(hp:p):opA P ρ h o=some r:=by
 unfold zjU at e
 split at e
 · rename_i c
   split at e
   · cases e
   rename_i args ha
   split at e
   · rename_i b hb
     split at e
     · cases e
     rename_i hr
     cases e
     show xa P ρ h c=_
     unfold xa
     simp only [ha,hb]
     unfold xK
     simp only [hr,hp]
   · cases e
 · split at e
   · cases e
     subst hp
     rfl
   · cases e
 · rename_i t k parts
   split at e
   · cases e
   rename_i l hl
   cases e
   show zR P h t k (qu ρ parts.toList)=_
   unfold zR
   simp only [hl,hp]
   rfl
 · rename_i t l c
   split at e
   · cases e
   rename_i a ha
   split at e
   · cases e
   rename_i b hb
   cases e
   show two ρ l c (fun a b=>yD (zT P h t a b))=_
   unfold two
   simp only [ha,hb,hp]
   rfl
 · rename_i s d x
   split at e
   · cases e
   rename_i hd
   split at e
   · cases e
   rename_i a ha
   cases e
   show yz ρ x (fun v=>zbp P h s d v)=_
   unfold yz zbp
   simp only [ha,hd,hp]
   rfl
 · cases e
theorem zdB {h:AHeap}{t:T AV}:∀ {rs:List ResultVar} {vs l:List AV} {q:Prop},zko P h t rs vs=some (l,q)→q→wa P h t rs=some l
 | [],_,_,_,e,_=>by
  unfold zko at e
  cases e
  rfl
 | x::r,vs,l,q,e,hq=>by
  unfold zko at e
  split at e
  · cases e
  rename_i v vs
  split at e
  · cases e
  rename_i l' q' hr
  unfold wa
  split at e
  · split at e
    · cases e
    rename_i u hu
    cases e
    simp only [hu,zdB hr hq]
    rfl
  · split at e
    · cases e
    rename_i p hp
    split at e
    rotate_left
    · cases e
    rename_i u h' p' hl
    cases e
    have:=zhu hl hq.1
    simp only [hp,zdB hr hq.2]
    unfold x4 at this
    split at this
    · cases this
    rename_i u' hu'
    cases this
    unfold zjZ
    simp only [hu']
    rfl
theorem zjj {ρ:Operand→Option AV}{h:AHeap}{v:AV}{O:T AObj}{o:Op}{r:AR}{p:Prop}(e:hopW P ρ h v O o=some (r,p))(hp:p):opA P ρ h o=some r:=by
 unfold hopW at e
 split at e
 · rename_i t a
   split at e
   · cases e
   rename_i q hq
   show yz ρ a (fun p=>x4 h (kT P h t p))=some r
   unfold yz
   simp only [hq]
   exact zhu e hp
 · rename_i t a x
   split at e
   · cases e
   rename_i q hq
   split at e
   · cases e
   rename_i y hy
   show two ρ a x (fun p v=>zbT (ky P h t p v))=some r
   unfold two
   simp only [hq,hy]
   exact zkk e hp
 · rename_i t
   split at e
   · cases e
   rename_i z hz
   show vn P h t (yr P t)=some r
   unfold vn
   simp only [hz]
   exact ziB e hp
 · rename_i t x
   split at e
   · cases e
   rename_i z hz
   show yz ρ x (fun v=>yD (zhy P h t v))=some r
   unfold yz
   simp only [hz]
   exact ziB e hp
 · rename_i t m k ok
   split at e
   · cases e
   rename_i a ha
   split at e
   · cases e
   rename_i b hb
   cases e
   show two ρ m k (fun a b=>x4 h (xG P h t a b ok))=_
   unfold two
   simp only [ha,hb,hp]
   rfl
 · rename_i t m k x
   split at e
   · cases e
   rename_i a ha
   split at e
   · cases e
   rename_i b hb
   split at e
   · cases e
   rename_i c hc
   cases e
   show xY P ρ h t m k x=_
   unfold xY
   simp only [ha,hb,hc,hp]
   rfl
 · rename_i op t x y u
   split at e
   · cases e
   rename_i a ha
   split at e
   · cases e
   rename_i b hb
   cases e
   show two ρ x y (fun a b=>x4 h (zcM P h op t (xp x || xp y) a b))=_
   unfold two
   simp only [ha,hb,hp]
   rfl
 · rename_i t x lo hi mx
   split at e
   · cases e
   rename_i a ha
   split at e
   · cases e
   rename_i l hl
   split at e
   · cases e
   rename_i hh hhh
   split at e
   · cases e
   rename_i m hm
   cases e
   show x4 h (vV P ρ h t x lo hi mx)=_
   unfold vV
   simp only [ha,hl,hhh,hm,hp]
   rfl
 · rename_i c
   split at e
   · cases e
   rename_i args ha
   split at e
   · rename_i b hb
     split at e
     · cases e
     rename_i hr
     cases e
     show xa P ρ h c=_
     unfold xa
     simp only [ha,hb]
     unfold xK
     simp only [hr,hp]
   · cases e
 · cases e
theorem Obl.goal [XT P] [XTOk P] (hmix:P.follows .mixedOrders=true){f0:FuncId}{Q:AV→AHeap→Prop}{keep:Nat}{K:AM→Prop}(hK:∀ m,K m→Goal P keep f0 Q m):∀ {l:List Cmd} {m:AM},Obl P f0 Q keep K l m→Goal P keep f0 Q m
 | [],m,e=>hK m e
 | c::r,m,e=>by
  have ih:=fun m (e:Obl P f0 Q keep K r m)=>Obl.goal hmix hK (l:=r) (m:=m) e
  cases c with
  | run n =>
   obtain ⟨m',h1,h2⟩:=z7 e
   exact .runN hmix h1 (ih _ h2)
  | br b =>
   obtain ⟨fr,rest,h⟩:=m
   change Br b ⟨fr,rest,h⟩ (Obl P f0 Q keep K r) at e
   unfold Br at e
   simp only at e
   split at e
   rotate_left
   · exact e.elim
   rename_i hm
   split at e
   rotate_left
   · exact e.elim
   rename_i c x y k htodo
   split at e
   rotate_left
   · exact e.elim
   rename_i t ht
   obtain ⟨rfl,e⟩:=e
   refine .step hmix ?_ (ih _ e)
   simp only [zbR,hm,zhw,htodo]
   show zix fr rest h x y k (ev fr.tmps c)=_
   rw [ht]
   cases t <;> rfl
  | know u b =>
   obtain ⟨⟨fn,n,t,todo,ds,mode,kind,round⟩,rest,h⟩:=m
   change Know u b ⟨⟨fn,n,t,todo,ds,mode,kind,round⟩,rest,h⟩ (Obl P f0 Q keep K r) at e
   unfold Know at e
   simp only at e
   split at e
   · rename_i c hc
     obtain ⟨rfl,e⟩:=e
     rw [T.set_same' hc] at e
     exact ih _ e
   · exact e.elim
  | slot u v =>
   obtain ⟨⟨fn,n,t,todo,ds,mode,kind,round⟩,rest,h⟩:=m
   change Slot u v ⟨⟨fn,n,t,todo,ds,mode,kind,round⟩,rest,h⟩ (Obl P f0 Q keep K r) at e
   unfold Slot at e
   simp only at e
   split at e
   · rename_i c hc
     obtain ⟨rfl,e⟩:=e
     rw [T.set_same' hc] at e
     exact ih _ e
   · exact e.elim
  | op =>
   obtain ⟨fr,rest,h⟩:=m
   change OpK P ⟨fr,rest,h⟩ (Obl P f0 Q keep K r) at e
   unfold OpK at e
   simp only at e
   split at e
   rotate_left
   · exact e.elim
   rename_i hm
   split at e
   · exact e.elim
   rename_i all o ho
   split at e
   rotate_left
   · exact e.elim
   rename_i hw
   split at e
   · exact e.elim
   rename_i ar p hop
   obtain ⟨hp,e⟩:=e
   obtain ⟨m',h1,h2⟩:=xT e
   refine .step hmix ?_ (ih _ h2)
   rw [xn hm ho]
   simp only [qw,hw,zkq hop hp,kN,h1]
  | res x =>
   obtain ⟨fr,rest,h⟩:=m
   change ResK P x ⟨fr,rest,h⟩ (Obl P f0 Q keep K r) at e
   unfold ResK at e
   simp only at e
   split at e
   rotate_left
   · exact e.elim
   rename_i hm
   split at e
   · exact e.elim
   rename_i all o ho
   split at e
   rotate_left
   · exact e.elim
   rename_i hw
   obtain ⟨hp,e⟩:=e
   obtain ⟨m',h1,h2⟩:=xT e
   refine .step hmix ?_ (ih _ h2)
   rw [xn hm ho]
   simp only [qw,hw,hp,kN,h1]
  | ext x =>
   obtain ⟨fr,rest,h⟩:=m
   change ExtK P x ⟨fr,rest,h⟩ (Obl P f0 Q keep K r) at e
   unfold ExtK at e
   simp only at e
   split at e
   rotate_left
   · exact e.elim
   rename_i hm
   split at e
   · exact e.elim
   rename_i all o ho
   split at e
   rotate_left
   · exact e.elim
   rename_i hw
   split at e
   · exact e.elim
   rename_i ar p hop
   obtain ⟨hp,e⟩:=e
   obtain ⟨m',h1,h2⟩:=xT e
   refine .step hmix ?_ (ih _ h2)
   rw [xn hm ho]
   simp only [qw,hw,zjf hop hp,kN,h1]
  | hop x y =>
   obtain ⟨fr,rest,h⟩:=m
   change HopK P x y ⟨fr,rest,h⟩ (Obl P f0 Q keep K r) at e
   unfold HopK at e
   simp only at e
   split at e
   rotate_left
   · exact e.elim
   rename_i hm
   split at e
   · exact e.elim
   rename_i all o ho
   split at e
   rotate_left
   · exact e.elim
   rename_i hw
   split at e
   · exact e.elim
   rename_i ar p hop
   obtain ⟨hp,e⟩:=e
   obtain ⟨m',h1,h2⟩:=zaW e
   refine .step hmix ?_ (ih _ h2)
   rw [xn hm ho]
   simp only [qw,hw,zjj hop hp,kN,h1]
  | hopn x y z =>
   obtain ⟨fr,rest,h⟩:=m
   change zjL P x y z ⟨fr,rest,h⟩ (Obl P f0 Q keep K r) at e
   unfold zjL at e
   simp only at e
   split at e
   rotate_left
   · exact e.elim
   rename_i hm
   split at e
   · exact e.elim
   rename_i all o ho
   split at e
   rotate_left
   · exact e.elim
   rename_i hw
   split at e
   · exact e.elim
   rename_i ar p hop
   obtain ⟨hp,e⟩:=e
   obtain ⟨m',h1,h2⟩:=zaW e
   refine .step hmix ?_ (ih _ h2)
   rw [xn hm ho]
   simp only [qw,hw,zhR hop hp,kN,h1]
  | isv x =>
   obtain ⟨fr,rest,h⟩:=m
   change zi8 P x ⟨fr,rest,h⟩ (Obl P f0 Q keep K r) at e
   unfold zi8 at e
   simp only at e
   split at e
   rotate_left
   · exact e.elim
   rename_i hm
   split at e
   · exact e.elim
   rename_i all o ho
   split at e
   rotate_left
   · exact e.elim
   rename_i hw
   obtain ⟨p,hpe,hp,e⟩:=z7 e
   obtain ⟨m',h1,h2⟩:=xT e
   refine .step hmix ?_ (ih _ h2)
   rw [xn hm ho]
   have hop:opA P (ev fr.tmps) h o.op=some (.val x h):=by
    unfold binV at hpe
    split at hpe
    rotate_left
    · cases hpe
    rename_i op t a b t' hoo
    split at hpe
    · cases hpe
    rename_i v1 hv1
    split at hpe
    · cases hpe
    rename_i v2 hv2
    cases hpe
    rw [hoo]
    show q9 P op t a b t' (ev fr.tmps) h=_
    simp only [q9,two,hv1,hv2,hp h,x4]
   simp only [qw,hw,hop,kN,h1]
  | step =>
   obtain ⟨fr,rest,h⟩:=m
   change zi3 P ⟨fr,rest,h⟩ (Obl P f0 Q keep K r) at e
   unfold zi3 at e
   simp only at e
   split at e
   · rename_i hm
     split at e
     · exact e.elim
     rename_i all o ho
     split at e
     rotate_left
     · exact e.elim
     rename_i hw
     obtain ⟨ar,hr,e⟩:=z7 e
     obtain ⟨m',h1,h2⟩:=xT e
     refine .step hmix ?_ (ih _ h2)
     rw [xn hm ho]
     simp only [qw,hw,hr,kN,h1]
   · rename_i hm
     split at e
     rotate_left
     · exact e.elim
     rename_i hdef
     split at e
     rotate_left
     · exact e.elim
     rename_i hkind
     split at e
     · exact e.elim
     rename_i c r'
     split at e
     rotate_left
     · exact e.elim
     rename_i hcm
     obtain ⟨v,hv,e⟩:=z7 e
     obtain ⟨c',h1,h2⟩:=vz e
     refine .step hmix ?_ (ih _ h2)
     simp only [zbR,hm,ku,hdef,hv,zbS,hkind,js,hcm,h1,vI]
   · exact e.elim
  | hret vs =>
   obtain ⟨fr,rest,h⟩:=m
   change zjF P vs ⟨fr,rest,h⟩ (Obl P f0 Q keep K r) at e
   unfold zjF at e
   simp only at e
   split at e
   rotate_left
   · exact e.elim
   rename_i hm
   split at e
   rotate_left
   · exact e.elim
   rename_i hdef
   split at e
   rotate_left
   · exact e.elim
   rename_i hkind
   split at e
   · exact e.elim
   rename_i c r'
   split at e
   rotate_left
   · exact e.elim
   rename_i hcm
   split at e
   · exact e.elim
   rename_i fn hfn
   split at e
   · exact e.elim
   rename_i l q hl
   obtain ⟨hq,e⟩:=e
   obtain ⟨v,hv,e⟩:=z7 e
   obtain ⟨c',h1,h2⟩:=zal e
   have hres:zjk P fr h=some v:=by
    unfold zjk
    simp only [hfn,zdB hl hq,hv]
   refine .step hmix ?_ (ih _ h2)
   simp only [zbR,hm,ku,hdef,hres,zbS,hkind,js,hcm,h1,vI]
  | keep us=>exact zfr e ih
  | can k ids us uss =>
   change (bif Nat.ble keep k then CanP k ids us uss m (Obl P f0 Q keep K r) else False) at e
   cases hb:Nat.ble keep k with
   | false=>rw [hb] at e; exact e.elim
   | true =>
    rw [hb] at e
    exact zhs (Nat.le_of_ble_eq_true hb) e ih
  | call us q=>exact zaG e ih
  | callv us v=>exact zaG (zfc e) ih
  | callh l us v H=>exact ze8 e ih
  | told id c n=>exact zfu e ih
  | tolds u p id c n=>exact zdJ e ih
  | cap id k=>exact zfV e ih
  | bytes l =>
   obtain ⟨fr,rest,h⟩:=m
   change zg2 P l ⟨fr,rest,h⟩ (Obl P f0 Q keep K r) at e
   unfold zg2 at e
   simp only at e
   split at e
   rotate_left
   · exact e.elim
   rename_i hm
   split at e
   · exact e.elim
   rename_i all o ho
   split at e
   rotate_left
   · exact e.elim
   rename_i hw
   obtain ⟨p,hp,hp1,e⟩:=z7 e
   obtain ⟨m',h1,h2⟩:=xT e
   refine .step hmix ?_ (ih _ h2)
   rw [xn hm ho]
   simp only [qw,hw,zff hp hp1,kN,h1]
  | opw b=>exact zgs e ih
  | ask v H=>exact zfK hmix e ih
  | done=>exact zaI e
end
end Go.Proofs.Ytcdpmiebmhjmpaa.Ev
end
section
namespace Go.Proofs.Ytcdpmiebmhjmpaa.Ev
open Go Go.ChangeShapes Go.WideShapes
structure Inp where
 there:Bool
 block:Nat
 cells:T AV
 lo:Nat
 n:Nat
def Inp.holds (x:Inp) (w:World):Prop:=x.there=true→∃ cs el fz,w.heap[x.block]?=some (.cells cs el fz)∧x.n≤cs.size∧∀ k v,x.lo≤k→k<x.n→x.cells.get k=some v→∃ y,cs[k]?=some y∧VRel (fun _ _=>none) v y
def Inp.obj (x:Inp):Option AObj:=match x.there with
 | true=>some (.ro x.cells x.lo x.n)
 | false=>none
noncomputable def vU:List Inp→Nat→T AObj→T AObj
 | [],_,t=>t
 | x::r,i,t=>vU r (i+1) (t.set x.obj i)
noncomputable def jz (l:List Inp) (G:T (T AV)):AHeap:=⟨vU l 0 .leaf,l.length,G⟩
def kB (l:List Inp):Bij:=fun i r=>if r=0 then match l[i]? with
 | none=>none
 | some x=>match x.there with
  | true=>some ⟨x.block,0,0⟩
  | false=>none else none
theorem zak:∀ (l:List Inp) (i:Nat) (t:T AObj) (j:Nat),(vU l i t).get j=if i≤j∧j<i+l.length then (l[j - i]?).bind Inp.obj else t.get j
 | [],i,t,j=>by simp [vU]; omega
 | x::r,i,t,j=>by
  rw [vU,zak r (i+1),T.get_set]
  by_cases h0:j=i
  · subst h0
    rw [if_neg (by omega),if_pos rfl,if_pos (by simp)]
    simp
  · by_cases h1:i+1≤j∧j<i+1+r.length
    · rw [if_pos h1,if_pos (by simp; omega)]
      rw [show j - i=(j - (i+1))+1 by omega,List.getElem?_cons_succ]
    · rw [if_neg h1,if_neg h0,if_neg (by simp; omega)]
def Env.inp (w:World) (l:List Inp):Env:={ Env.of w with rob:=fun b=>∃ x∈l,x.block=b }
def Base.inp (w:World) (l:List Inp):Base:=⟨Env.inp w l,fun i=>i<l.length,fun _=>none,fun _=>(0,0)⟩
theorem HRel.inp {P:Program}{G:T (T AV)}{w:World}{l:List Inp}(hG:zgV G w)(hl:∀ x∈l,x.holds w):HRel P (Base.inp w l) (kB l) (jz l G) w:=by
 have hR:∀ {i r L},kB l i r=some L→r=0∧∃ x,l[i]?=some x∧L=⟨x.block,0,0⟩∧i<l.length∧x.there=true:=by
  intro i r L e
  unfold kB at e
  split at e
  · rename_i hr
    split at e
    · cases e
    · rename_i x hx
      split at e
      · rename_i ht; cases e; exact ⟨hr,x,hx,rfl,(List.getElem?_eq_some_iff.1 hx).1,ht⟩
      · cases e
  · cases e
 have hget:∀ {i o},(jz l G).get i=some o→∃ x,l[i]?=some x∧o=.ro x.cells x.lo x.n∧x.there=true:=by
  intro i o e
  change (vU l 0 .leaf).get i=some o at e
  rw [zak] at e
  split at e
  · rw [Nat.sub_zero] at e
    cases hx:l[i]? with
    | none=>rw [hx] at e; cases e
    | some x =>
     rw [hx] at e
     change x.obj=some o at e
     unfold Inp.obj at e
     split at e
     · rename_i ht; cases e; exact ⟨x,rfl,rfl,ht⟩
     · cases e
  · cases e
 exact {
  fresh:=fun i hi r=>by
   cases h:kB l i r with
   | none=>rfl
   | some L =>
    obtain ⟨_,x,_,_,h1,_⟩:=hR h
    exact absurd h1 (Nat.not_lt.2 hi)
  obj:=fun i o e _=>by
   obtain ⟨x,hx,rfl,ht⟩:=hget e
   obtain ⟨cs,el,fz,h1,h2,h3⟩:=hl x (List.mem_of_getElem? hx) ht
   exact ⟨⟨x.block,0,0⟩,cs,el,fz,by simp [kB,hx,ht],rfl,h1,h2,h3⟩
  pend:=fun i o e=>by cases e
  place:=fun i r L e=>by
   obtain ⟨_,x,hx,rfl,h1,ht⟩:=hR e
   obtain ⟨cs,el,fz,h2,_⟩:=hl x (List.mem_of_getElem? hx) ht
   exact ⟨.inr h1,xq h2⟩
  rd:=fun i hi=>⟨hi,fun o e=>by obtain ⟨x,_,rfl,_⟩:=hget e; rfl⟩
  low:=fun b _=>rfl
  rp:=fun i _=>rfl
  rol:=fun i r L _ e=>by
   obtain ⟨_,x,hx,rfl,_⟩:=hR e
   exact ⟨x,List.mem_of_getElem? hx,rfl⟩
  pin:=fun i r L e=>by cases e
  apart:=fun i r i' r' L L' e e' _ hor=>by
   obtain ⟨_,_,_,_,h1,_⟩:=hR e
   obtain ⟨_,_,_,_,h2,_⟩:=hR e'
   rcases hor with h | h
   · exact absurd h1 h
   · exact absurd h2 h
  same:=fun i r r' L L' e e' _=>by
   obtain ⟨_,x,hx,rfl,_⟩:=hR e
   obtain ⟨_,x',hx',rfl,_⟩:=hR e'
   rfl
  glob:=fun g c e=>⟨fun hm=>hm.elim (fun hl=>absurd (hG g c e).1 (Nat.not_lt.2 hl)) id,(hG g c e).2⟩ }
noncomputable def zc4 (P:Program) (f:FuncId) (args:List AV) (l:List Inp) (G:T (T AV)):Option AM:=match qO P f args .normal with
 | none=>none
 | some a=>some ⟨a,[],jz l G⟩
theorem zhm {P:Program}{G:T (T AV)}{l:List Inp}{f:FuncId}{args:List AV}{vs:List Value}{a:AFrame}(ha:qO P f args .normal=some a){w:World}(hG:zgV G w)(hl:∀ x∈l,x.holds w)
 (hv:VRels (kB l) args vs) (k:Goal P 0 f (fun v _=>v=.bool true) ⟨a,[],jz l G⟩):Calls P f vs.toArray w fun r w'=>r=.returned (.bool true)∧Old w w':=by
 intro cs
 have hs:Sim P (Env.inp w l) cs ⟨a,[],jz l G⟩ (Frame.enter P f vs.toArray .normal) cs w :=
  ⟨Base.inp w l,kB l,[],rfl,rfl,.inp hG hl,.start w,vG ha hv (.inl rfl),rfl⟩
 obtain ⟨fr',w',B,R,v,v',h',s1,s2,s3,s4,s5,s6,s7,rfl⟩:=k (Env.inp w l) cs _ _ _ (fun i r L e=>by cases e) hs
 cases s4
 exact ⟨.returned (.bool true),w',fr',⟨rfl,(s7.all s5 s6).old fun _ e=>e⟩,s1,s3,s2⟩
theorem zkM {w:World}{a:Addr}{n:Nat}{f:Nat→Value}{g:Nat→AV}(h:∀ i,i<n→w.cell? (a.add i)=some (f i))(hfg:∀ i,i<n→VRel (fun _ _=>none) (g i) (f i))(hp:0<n) :
 ∃ b off,a=⟨b,off,none⟩∧(Inp.mk true b (.fn fun j=>some (g (j - off))) off (off+n)).holds w:=by
 obtain ⟨b,off,spot⟩:=a
 have hspot:spot=none:=by simpa [Addr.add] using World.cell?_spot (h 0 hp)
 subst hspot
 have hc:∀ i,i<n→w.cell? ⟨b,off+i,none⟩=some (f i):=fun i hi=>by rw [← Go.WideShapes.add_plain]; exact h i hi
 have h0:=hc 0 hp
 cases hb:w.heap[b]? with
 | none=>rw [World.cell?] at h0; simp [hb] at h0
 | some o =>
  cases o with
  | cells cs el fz =>
   have hcell:∀ i,i<n→cs[off+i]?=some (f i):=fun i hi=>by
    have:=hc i hi
    rwa [cell?_row w b _ hb] at this
   refine ⟨b,off,rfl,fun _=>⟨cs,el,fz,hb,?_,fun k v h1 h2 e=>?_⟩⟩
   · have:=(Array.getElem?_eq_some_iff.1 (hcell (n - 1) (by omega))).1
     show off+n≤cs.size
     omega
   · cases e
     have hk:k - off<n:=by
      have:k<off+n:=h2
      omega
     have:=hcell (k - off) hk
     rw [show off+(k - off)=k by have:off≤k:=h1; omega] at this
     exact ⟨_,this,hfg _ hk⟩
  | _=>simp [World.cell?,hb] at h0
theorem zhF {P:Program} [XT P] [XTOk P] (hmix:P.follows .mixedOrders=true){G:T (T AV)}{l:List Inp}{f:FuncId}{args:List AV}{vs:List Value}{cmds:List Cmd}{K:AM→Prop}(e:zb8 (zc4 P f args l G) (Obl P f (fun v _=>v=.bool true) 0 K cmds))
 (hK:∀ m,K m→Goal P 0 f (fun v _=>v=.bool true) m) {w:World} (hG:zgV G w) (hl:∀ x∈l,x.holds w) (hv:VRels (kB l) args vs):Calls P f vs.toArray w fun r w'=>r=.returned (.bool true)∧Old w w':=by
 obtain ⟨m,h1,h2⟩:=z7 e
 unfold zc4 at h1
 split at h1
 · cases h1
 · rename_i a ha
   cases h1
   exact zhm ha hG hl hv (Obl.goal hmix hK h2)
theorem vt {H:Type}{enc:TypeId × Value→H}{P:Program}(hl:laidOutB P=true){W W':World}(hb:∀ b,b<W.heap.size→W'.heap[b]?=W.heap[b]?){sp:Nat→Bool} :
 ∀ {ts:List TypeId} {vs:List Value} {ds:List (DataW H)} {ps:List MemPlace},(ts.all fun t=>P.readableRec t&&decide (t<P.types.size))=true→DataW.TrodAll enc P W 0 (fun _=>true) true ts vs ds ps →
  (∀ x∈ps,x.block<W.heap.size)→(∀ x∈ps,sp x.block=true)→DataW.TrodAll enc P W' 0 sp true ts vs ds ps
 | [],vs,ds,ps,_,h,_,_=>by
  obtain ⟨rfl,rfl,rfl⟩:=trodAll_nil h
  exact trodAll_mk0
 | t::ts,vs,ds,ps,ht,h,hlt,hsp=>by
  obtain ⟨v,vs',d,ds',p,q,rfl,rfl,rfl,h1,h2⟩:=trodAll_cons h
  simp only [List.all_cons,Bool.and_eq_true,decide_eq_true_eq] at ht
  have hs:∀ x∈p,W.sameAt W' x:=fun x hx=>by
   have:=hlt x (List.mem_append_left _ hx)
   cases x with
   | cell b o=>exact World.cell?_of_block (w:=W) (hb b this)
   | map b=>exact hb b this
  exact trodAll_cons_mk (WideElems.Trod_stays hl ht.1.1 ht.1.2 h1 hs (fun x hx=>hsp x (List.mem_append_left _ hx)))
   (vt hl hb (by simpa using ht.2) h2 (fun x hx=>hlt x (List.mem_append_right _ hx)) (fun x hx=>hsp x (List.mem_append_right _ hx)))
theorem post_law {H:Type}{enc:TypeId × Value→H}{P:Program}{f:Func}{s:ChangeSpec}{apart fresh handsOn again:Bool}{W W':World}{args:Array Value}{ds gs:List (DataW H)}{before:List MemPlace}{tb:TypeId}
 (hl:laidOutB P=true) (ht:(f.params.toList.all fun t=>P.readableRec t&&decide (t<P.types.size))=true) (hr:f.resultTypes=#[tb]) (hbool:P.underlying tb=some .bool) (hvars:s.vars=[])
 (hW:DataW.Whole enc P f.params.toList s.vars apart W args.toList ds gs before) (hfn:s.fn H (ds++gs)={ results:=[.lit (.bool true)],args:=ds }) (k:Old W W') :
 s.post enc P f apart fresh handsOn again W args (.bool true) W':=by
 have hlt:=hW.lt
 have hW':=hW
 obtain ⟨p,q,hA,hV,hpq,hz,hn⟩:=hW
 rw [hvars] at hV
 have hgq:gs=[]∧q=[]:=by
  cases gs with
  | nil=>exact ⟨rfl,hV⟩
  | cons g r=>exact hV.elim
 obtain ⟨rfl,rfl⟩:=hgq
 rw [List.append_nil] at hpq
 subst hpq
 have hargs:∀ sp:Nat→Bool,(∀ x∈before,sp x.block=true)→DataW.TrodAll enc P W' 0 sp true f.params.toList args.toList ds before:=fun sp hsp=>vt hl k.other ht hA hlt hsp
 have hres:∀ (b:Nat) (sp:Nat→Bool) (hd:Bool),DataW.TrodAll enc P W' b sp hd f.resultTypes.toList ((Value.bool true).resultList f.resultTypes.size) [.lit (.bool true)] []:=fun b sp hd=>by
  rw [hr]
  exact trodAll_cons_mk (RowKit.shut_bool hbool true) trodAll_mk0
 have hold:∀ x∈before,(fun b=>decide (b<W.heap.size)) x.block=true:=fun x hx=>by simpa using hlt x hx
 refine ⟨ds,[],before,[],before,[],hW',?_,?_,?_,k.kept _,fun _=>?_⟩
 · rw [hfn]; exact hres _ _ _
 · rw [hfn]; exact hargs _ hold
 · rw [hvars,hfn]; rfl
 · refine ⟨RowKit.ok_one hr rfl (RowKit.okWide_bool_mk hbool true),[.lit (.bool true)]++ds,[],([]++before)++[],⟨[]++before,[],trodAll_append (hargs _ (fun _ _=>rfl)) (hres _ _ _),by rw [hvars]; rfl,rfl,?_,?_⟩,?_⟩
   · intro b off hp
     simp only [List.nil_append,List.append_nil] at hp
     have hb:b<W.heap.size:=hlt _ hp
     have:=hz b off hp
     simp only [World.frozen?,k.other b hb] at this ⊢
     exact this
   · intro ha
     simpa using hn ha
   · intro x hx _
     simpa using hx
end Go.Proofs.Ytcdpmiebmhjmpaa.Ev
end
section
set_option maxRecDepth 100000
namespace Go.Proofs.Ytcdpmiebmhjmpaa.Ev
open Go
def Row (O:T AObj) (id n:Nat) (f:Nat→AV):Prop:=∃ c el,O.get id=some (.cells c n el 0 0 1 0 false .leaf)∧∀ k,k<n→c.get k=some (f k)
def Frm (O O':T AObj) (id:Nat):Prop:=∀ j,j≠id→O'.get j=O.get j
def upd (f:Nat→AV) (off:Nat) (vs:List AV) (k:Nat):AV:=if off≤k∧k<off+vs.length then vs.getD (k - off) xH else f k
variable {O O':T AObj} {N id n off:Nat} {G:T (T AV)} {f:Nat→AV}
theorem Row.same (h:Row O id n f)(e:O'.get id=O.get id):Row O' id n f:=by
 obtain ⟨c,el,h1,h2⟩:=h
 exact ⟨c,el,e.trans h1,h2⟩
theorem Row.fr {i:Nat}(h:Row O id n f)(e:Frm O O' i)(hi:id≠i):Row O' id n f:=h.same (e id hi)
theorem Row.to {g:Nat→AV}(h:Row O id n f)(e:∀ k,k<n→f k=g k):Row O id n g:=by
 obtain ⟨c,el,h1,h2⟩:=h
 exact ⟨c,el,h1,fun k hk=>by rw [h2 k hk,e k hk]⟩
theorem zeN {c:T AV}{el:TypeId}(h:O.get id=some (.cells c n el 0 0 1 0 false .leaf)){k:Nat}{l:List AV}(hk:off+k≤n)(hl:zy c off k=some l):za ⟨O,N,G⟩ id 0 off k=some l:=by
 unfold za
 show (match O.get id with | some (.cells c n _ lo hi _ _ _ ex)=>_ | some (.ro c lo n)=>_ | _=>_)=_
 rw [h]
 show (if 0≤0∧0≤0∧off+k≤n then zy c off k else none)=_
 rw [if_pos ⟨Nat.le_refl _,Nat.le_refl _,hk⟩,hl]
theorem Row.load1 (h:Row O id n f)(hk:off+1≤n):za ⟨O,N,G⟩ id 0 off 1=some [f off]:=by
 obtain ⟨c,el,h1,h2⟩:=h
 refine zeN h1 hk ?_
 show (match c.get (off+0) with | none=>none | some v=>some [v])=_
 rw [h2 (off+0) (by omega)]
 rfl
theorem Row.store (h:Row O id n f)(N:Nat)(G:T (T AV)){vs:List AV}(hv:vs.all AV.one=true)(ho:off+vs.length≤n) :
 ∃ O',zc ⟨O,N,G⟩ id 0 off vs=some ⟨O',N,G⟩∧Row O' id n (upd f off vs)∧Frm O O' id:=by
 obtain ⟨c,el,h1,h2⟩:=h
 refine ⟨O.set (some (.cells (zf c off vs) n el 0 0 1 0 false .leaf)) id,?_,⟨zf c off vs,el,?_,fun k hk=>?_⟩,fun j hj=>?_⟩
 · unfold zc
   show (match O.get id with | some (.cells c n el lo hi nv fz sg ex)=>_ | _=>_)=_
   rw [h1]
   show (if 0≤0∧0≤0∧off+vs.length≤n∧0≤off∧vs.all AV.one=true then (zf c off vs).seq fun c=>some (AHeap.put ⟨O,N,G⟩ id (.cells c n el 0 0 1 0 false .leaf)) else none)=_
   rw [if_pos ⟨Nat.le_refl _,Nat.le_refl _,ho,Nat.zero_le _,hv⟩,T.seq_eq]
   rfl
 · rw [T.get_set,if_pos rfl]
 · rw [zd]
   unfold upd
   split
   · rename_i hk'
     rw [List.getD_eq_getElem?_getD]
     rw [List.getElem?_eq_getElem (by omega)]
     rfl
   · exact h2 k hk
 · rw [T.get_set,if_neg hj]
theorem Row.mk {c:T AV}{el:TypeId}(O:T AObj)(N:Nat)(hc:∀ k,k<n→c.get k=some (f k)):∃ O',T.set (some (.cells c n el 0 0 1 0 false .leaf)) O N=O'∧Row O' N n f∧Frm O O' N :=
 ⟨_,rfl,⟨c,el,by rw [T.get_set,if_pos rfl],hc⟩,fun j hj=>by rw [T.get_set,if_neg hj]⟩
theorem zjK {c:T AV}{lo:Nat}{v:AV}(h:O.get id=some (.ro c lo n))(h0:lo≤off)(h1:off+1≤n)(hv:c.get off=some v):za ⟨O,N,G⟩ id 0 off 1=some [v]:=by
 unfold za
 show (match O.get id with | some (.cells c n _ lo hi _ _ _ ex)=>_ | some (.ro c lo n)=>_ | _=>_)=_
 rw [h]
 show (if 0=0∧lo≤off∧off+1≤n then zy c off 1 else none)=_
 rw [if_pos ⟨rfl,h0,h1⟩]
 show (match c.get (off+0) with | none=>none | some v=>some [v])=_
 rw [Nat.add_zero,hv]
def q4 (a b c d:AV):Nat→AV
 | 0=>a
 | 1=>b
 | 2=>c
 | _=>d
theorem zkE {vs:List AV}{u:Nat}(hu:u<vs.length):upd f off vs (off+u)=vs.getD u xH:=by
 unfold upd
 rw [if_pos (by omega),Nat.add_sub_cancel_left]
theorem zjr {vs:List AV}{k:Nat}(h:k<off∨off+vs.length≤k):upd f off vs k=f k:=by
 unfold upd
 rw [if_neg (by omega)]
end Go.Proofs.Ytcdpmiebmhjmpaa.Ev
end
section
set_option maxRecDepth 100000
set_option linter.unusedVariables false
namespace Go.Proofs.Ytcdpmiebmhjmpaa.Ev
open Go
def Cell (O:T AObj) (id k:Nat) (v:AV):Prop:=∃ n f,Row O id n f∧k<n∧f k=v
variable {O O':T AObj} {id k:Nat} {v w:AV}
theorem Cell.same (h:Cell O id k v)(e:O'.get id=O.get id):Cell O' id k v:=by
 obtain ⟨n,f,h1,h2,h3⟩:=h
 exact ⟨n,f,h1.same e,h2,h3⟩
theorem Cell.load (h:Cell O id k v)(N:Nat)(G:T (T AV)):za ⟨O,N,G⟩ id 0 k 1=some [v]:=by
 obtain ⟨n,f,h1,h2,h3⟩:=h
 rw [h1.load1 (by omega),h3]
theorem Row.cell {n:Nat}{f:Nat→AV}(h:Row O id n f)(hk:k<n):Cell O id k (f k):=⟨n,f,h,hk,rfl⟩
def But (O O':T AObj) (id k:Nat):Prop:=(∀ i j u,(i≠id∨j≠k)→Cell O i j u→Cell O' i j u)∧Frm O O' id
theorem Cell.store (h:Cell O id k w)(hv:AV.one v=true)(N:Nat)(G:T (T AV)):∃ O',zc ⟨O,N,G⟩ id 0 k [v]=some ⟨O',N,G⟩∧Cell O' id k v∧But O O' id k:=by
 obtain ⟨n,f,h1,h2,h3⟩:=h
 obtain ⟨O',e,r,fr⟩:=h1.store N G (off:=k) (vs:=[v]) (by simp [hv]) (by show k+1≤n; omega)
 refine ⟨O',e,⟨n,_,r,h2,?_⟩,fun i j u hne hc=>?_,fr⟩
 · exact (zkE (f:=f) (off:=k) (vs:=[v]) (u:=0) Nat.zero_lt_one)
 · by_cases hi:i=id
   · subst hi
     obtain ⟨n',f',g1,g2,g3⟩:=hc
     obtain ⟨c,el,q1,q2⟩:=h1
     obtain ⟨c',el',q3,q4⟩:=g1
     rw [q1] at q3
     cases q3
     refine ⟨n,_,r,g2,?_⟩
     rw [zjr (by show _∨k+1≤j; omega)]
     have a:=q2 j g2
     have b:=q4 j g2
     rw [a] at b
     rw [Option.some.inj b,g3]
   · exact hc.same (fr i hi)
abbrev Node:=Nat × Nat
def pt (x:Node):AV:=.ptr x.1 0 x.2
def Lk (O:T AObj):List Node→Prop
 | []=>True
 | a::r=>(match r with
  | []=>True
  | b::_=>Cell O a.1 (a.2+1) (pt b)∧Cell O b.1 b.2 (pt a))∧Lk O r
theorem Lk.two {a b:Node}{r:List Node}:Lk O (a::b::r) ↔ (Cell O a.1 (a.2+1) (pt b)∧Cell O b.1 b.2 (pt a))∧Lk O (b::r):=Iff.rfl
theorem Lk.one (a:Node):Lk O [a]:=⟨trivial,trivial⟩
theorem Lk.app:∀ {u:List Node} {a:Node} {v:List Node},Lk O (u++a::v) ↔ Lk O (u++[a])∧Lk O (a::v)
 | [],a,v=>⟨fun h=>⟨Lk.one a,h⟩,fun h=>h.2⟩
 | [x],a,v=>by
  show Lk O (x::a::v) ↔ Lk O (x::a::[])∧_
  rw [Lk.two,Lk.two]
  exact ⟨fun h=>⟨⟨h.1,Lk.one a⟩,h.2⟩,fun h=>⟨h.1.1,h.2⟩⟩
 | x::y::u,a,v=>by
  show Lk O (x::y::(u++a::v)) ↔ Lk O (x::y::(u++[a]))∧_
  rw [Lk.two,Lk.two]
  have ih:=Lk.app (u:=y::u) (a:=a) (v:=v)
  simp only [List.cons_append] at ih
  rw [ih]
  exact ⟨fun h=>⟨⟨h.1,h.2.1⟩,h.2.2⟩,fun h=>⟨h.1.1,h.1.2,h.2⟩⟩
theorem Lk.mono:∀ {L:List Node},(∀ x∈L.dropLast,∀ u,Cell O x.1 (x.2+1) u→Cell O' x.1 (x.2+1) u)→(∀ x∈L.tail,∀ u,Cell O x.1 x.2 u→Cell O' x.1 x.2 u)→Lk O L→Lk O' L
 | [],_,_,_=>trivial
 | [a],_,_,_=>Lk.one a
 | a::b::r,h1,h2,h=>by
  rw [Lk.two] at h ⊢
  refine ⟨⟨h1 a (by simp) _ h.1.1,h2 b (by simp) _ h.1.2⟩,Lk.mono (fun x hx=>h1 x (by simp only [List.dropLast_cons_cons,List.mem_cons]; exact .inr hx)) (fun x hx=>h2 x ?_) h.2⟩
  simp only [List.tail_cons] at hx ⊢
  exact List.mem_cons_of_mem _ hx
def nd (x:Nat):Node:=(x,0)
def Ring (O:T AObj) (l:Nat) (xs:List Nat):Prop:=Lk O ((l,3)::(xs.map nd++[(l,3)]))
theorem zho {l:Nat}{x y:Node}(hx:x=(l,3)∨∃ i,i≠l∧x=nd i)(hy:y=(l,3)∨∃ i,i≠l∧y=nd i):x.1≠y.1∨x.2+1≠y.2:=by
 rcases hx with rfl | ⟨i,hi,rfl⟩ <;> rcases hy with rfl | ⟨j,hj,rfl⟩
 · right; simp
 · right; simp [nd]
 · left; exact hi
 · right; simp [nd]
theorem zih {l:Nat}{x y:Node}(hx:x=(l,3)∨∃ i,i≠l∧x=nd i)(hy:y=(l,3)∨∃ i,i≠l∧y=nd i)(h:x≠y):x.1≠y.1:=by
 rcases hx with rfl | ⟨i,hi,rfl⟩ <;> rcases hy with rfl | ⟨j,hj,rfl⟩
 · exact absurd rfl h
 · exact fun e=>hj e.symm
 · exact hi
 · exact fun e=>h (by show nd i=nd j; rw [show i=j from e])
theorem zaH {α:Type}:∀ (a:α) (u:List α),∃ (A:List α) (n:α),a::u=A++[n]∧n∈a::u
 | a,[]=>⟨[],a,rfl,by simp⟩
 | a,b::u=>by
  obtain ⟨A,n,h1,h2⟩:=zaH b u
  exact ⟨a::A,n,by rw [h1]; rfl,List.mem_cons_of_mem _ h2⟩
theorem Ring.leave {l p:Nat}{u v:List Nat}(h:Ring O l (u++p::v))(hn:(u++p::v).Nodup)(hl:∀ x∈u++p::v,x≠l)(N:Nat)(G:T (T AV)) :
 ∃ (e n:Node) (O1 O2:T AObj),(e=(l,3)∨∃ i,i∈v∧e=nd i)∧(n=(l,3)∨∃ i,i∈u∧n=nd i)∧Cell O p 1 (pt e)∧Cell O p 0 (pt n) ∧
  zc ⟨O,N,G⟩ e.1 0 e.2 [pt n]=some ⟨O1,N,G⟩∧zc ⟨O1,N,G⟩ n.1 0 (n.2+1) [pt e]=some ⟨O2,N,G⟩∧Ring O2 l (u++v)∧But O O1 e.1 e.2∧But O1 O2 n.1 (n.2+1):=by
 obtain ⟨A,n,hA,hnA⟩:=zaH ((l,3):Node) (u.map nd)
 obtain ⟨e,B,hB⟩:∃ e B,v.map nd++[((l,3):Node)]=e::B:=by
  cases v with
  | nil=>exact ⟨_,_,rfl⟩
  | cons a r=>exact ⟨_,_,rfl⟩
 have heB:e∈v.map nd++[((l,3):Node)]:=by rw [hB]; simp
 unfold Ring at h
 have hsplit:(((l,3):Node)::((u++p::v).map nd++[(l,3)]))=A++n::nd p::e::B:=by
  rw [List.map_append,List.map_cons,List.append_assoc,List.cons_append,← hB,← List.cons_append,hA]
  simp
 rw [hsplit,Lk.app,Lk.two,Lk.two] at h
 obtain ⟨k1,⟨k2,k3⟩,⟨k4,k5⟩,k6⟩:=h
 have he:e=(l,3)∨∃ i,i∈v∧e=nd i:=by
  rcases List.mem_append.1 heB with a | a
  · obtain ⟨i,hi,rfl⟩:=List.mem_map.1 a
    exact .inr ⟨i,hi,rfl⟩
  · exact .inl (List.mem_singleton.1 a)
 have hnn:n=(l,3)∨∃ i,i∈u∧n=nd i:=by
  rcases List.mem_cons.1 hnA with a | a
  · exact .inl a
  · obtain ⟨i,hi,rfl⟩:=List.mem_map.1 a
    exact .inr ⟨i,hi,rfl⟩
 have hul:∀ x∈u,x≠l:=fun x hx=>hl x (List.mem_append_left _ hx)
 have hvl:∀ x∈v,x≠l:=fun x hx=>hl x (List.mem_append_right _ (List.mem_cons_of_mem _ hx))
 have ge:e=(l,3)∨∃ i,i≠l∧e=nd i:=he.imp id fun ⟨i,hi,h⟩=>⟨i,hvl i hi,h⟩
 have gn:n=(l,3)∨∃ i,i≠l∧n=nd i:=hnn.imp id fun ⟨i,hi,h⟩=>⟨i,hul i hi,h⟩
 obtain ⟨hn1,hn2,hn3⟩:=List.nodup_append.1 hn
 have hdis:∀ x∈u,∀ y∈v,x≠y:=fun x hx y hy=>hn3 x hx y (List.mem_cons_of_mem _ hy)
 obtain ⟨O1,s1,c1,b1⟩:=k5.store (v:=pt n) rfl N G
 have k2':Cell O1 n.1 (n.2+1) (pt (nd p)):=b1.1 _ _ _ (zho gn ge) k2
 obtain ⟨O2,s2,c2,b2⟩:=k2'.store (v:=pt e) rfl N G
 refine ⟨e,n,O1,O2,he,hnn,k4,k3,s1,s2,?_,b1,b2⟩
 have stay_el:∀ x:Node,(x=(l,3)∨∃ i,i≠l∧x=nd i)→x≠n→∀ w,Cell O x.1 (x.2+1) w→Cell O2 x.1 (x.2+1) w:=fun x gx hx w hc =>
  b2.1 _ _ _ (.inl (zih gx gn hx)) (b1.1 _ _ _ (zho gx ge) hc)
 have stay_nw:∀ x:Node,(x=(l,3)∨∃ i,i≠l∧x=nd i)→x≠e→∀ w,Cell O x.1 x.2 w→Cell O2 x.1 x.2 w:=fun x gx hx w hc =>
  b2.1 _ _ _ ((zho gn gx).imp Ne.symm Ne.symm) (b1.1 _ _ _ (.inl (zih gx ge hx)) hc)
 unfold Ring
 have hsplit2:(((l,3):Node)::((u++v).map nd++[(l,3)]))=A++n::e::B:=by
  rw [List.map_append,List.append_assoc,hB,← List.cons_append,hA]
  simp
 rw [hsplit2,Lk.app,Lk.two]
 have hnu:∀ x∈A,x≠n:=by
  have hnd:(((l,3):Node)::u.map nd).Nodup:=by
   rw [List.nodup_cons]
   refine ⟨fun hm=>?_,?_⟩
   · obtain ⟨i,hi,h⟩:=List.mem_map.1 hm
     exact hul i hi (congrArg Prod.fst h)
   · exact hn1.map (f:=nd) (fun a b hab h=>hab (congrArg Prod.fst h))
  rw [hA] at hnd
  intro x hx h
  exact (List.nodup_append.1 hnd).2.2 x hx n (by simp) h
 have gA:∀ x∈A++[n],x=(l,3)∨∃ i,i≠l∧x=nd i:=fun x hx=>by
  rw [← hA] at hx
  rcases List.mem_cons.1 hx with a | a
  · exact .inl a
  · obtain ⟨i,hi,rfl⟩:=List.mem_map.1 a
    exact .inr ⟨i,hul i hi,rfl⟩
 refine ⟨k1.mono (fun x hx=>?_) (fun x hx=>?_),⟨c2,b2.1 _ _ _ ((zho gn ge).imp Ne.symm Ne.symm) c1⟩,k6.mono (fun x hx=>?_) (fun x hx=>?_)⟩
 · rw [List.dropLast_concat] at hx
   exact stay_el x (gA x (List.mem_append_left _ hx)) (hnu x hx)
 · rw [← hA,List.tail_cons] at hx
   obtain ⟨i,hi,rfl⟩:=List.mem_map.1 hx
   refine stay_nw _ (.inr ⟨i,hul i hi,rfl⟩) fun h=>?_
   rcases he with h' | ⟨j,hj,h'⟩
   · rw [h'] at h; exact hul i hi (congrArg Prod.fst h)
   · rw [h'] at h; exact hdis i hi j hj (congrArg Prod.fst h)
 · rw [← hB,List.dropLast_concat] at hx
   obtain ⟨i,hi,rfl⟩:=List.mem_map.1 hx
   refine stay_el _ (.inr ⟨i,hvl i hi,rfl⟩) fun h=>?_
   rcases hnn with h' | ⟨j,hj,h'⟩
   · rw [h'] at h; exact hvl i hi (congrArg Prod.fst h)
   · rw [h'] at h; exact hdis j hj i hi (congrArg Prod.fst h).symm
 · have hndB:(v.map nd++[((l,3):Node)]).Nodup:=by
    rw [List.nodup_append]
    refine ⟨(List.nodup_cons.1 hn2).2.map (f:=nd) (fun a b hab h=>hab (congrArg Prod.fst h)),by simp,fun a ha b hb h=>?_⟩
    obtain ⟨i,hi,rfl⟩:=List.mem_map.1 ha
    rw [List.mem_singleton.1 hb] at h
    exact hvl i hi (congrArg Prod.fst h)
   rw [List.tail_cons] at hx
   have hxm:x∈v.map nd++[((l,3):Node)]:=by rw [hB]; exact List.mem_cons_of_mem _ hx
   have gx:x=(l,3)∨∃ i,i≠l∧x=nd i:=by
    rcases List.mem_append.1 hxm with a | a
    · obtain ⟨i,hi,rfl⟩:=List.mem_map.1 a
      exact .inr ⟨i,hvl i hi,rfl⟩
    · exact .inl (List.mem_singleton.1 a)
   rw [hB] at hndB
   exact stay_nw x gx (fun h=>(List.nodup_cons.1 hndB).1 (h▸hx))
theorem Ring.enter {l p:Nat}{xs:List Nat}(h:Ring O l xs)(hl:∀ x∈xs,x≠l)(hp:p ∉ xs)(hpl:p≠l){w0 w1:AV}(c0:Cell O p 0 w0)(c1:Cell O p 1 w1)(hn:xs.Nodup)(N:Nat)(G:T (T AV)) :
 ∃ (a:Node) (O1 O2 O3 O4:T AObj),(a=(l,3)∨∃ i,i∈xs∧a=nd i)∧Cell O l 4 (pt a)∧zc ⟨O,N,G⟩ p 0 0 [pt (l,3)]=some ⟨O1,N,G⟩∧zc ⟨O1,N,G⟩ p 0 1 [pt a]=some ⟨O2,N,G⟩∧Cell O2 p 1 (pt a) ∧
  zc ⟨O2,N,G⟩ a.1 0 a.2 [pt (nd p)]=some ⟨O3,N,G⟩∧zc ⟨O3,N,G⟩ l 0 4 [pt (nd p)]=some ⟨O4,N,G⟩∧Ring O4 l (p::xs)∧But O O1 p 0∧But O1 O2 p 1∧But O2 O3 a.1 a.2∧But O3 O4 l 4:=by
 obtain ⟨a,B,hB⟩:∃ e B,xs.map nd++[((l,3):Node)]=e::B:=by
  cases xs with
  | nil=>exact ⟨_,_,rfl⟩
  | cons a r=>exact ⟨_,_,rfl⟩
 have haB:a∈xs.map nd++[((l,3):Node)]:=by rw [hB]; simp
 have ha:a=(l,3)∨∃ i,i∈xs∧a=nd i:=by
  rcases List.mem_append.1 haB with x | x
  · obtain ⟨i,hi,rfl⟩:=List.mem_map.1 x
    exact .inr ⟨i,hi,rfl⟩
  · exact .inl (List.mem_singleton.1 x)
 have ga:a=(l,3)∨∃ i,i≠l∧a=nd i:=ha.imp id fun ⟨i,hi,h⟩=>⟨i,hl i hi,h⟩
 have hap:a.1≠p:=by
  rcases ha with rfl | ⟨i,hi,rfl⟩
  · exact Ne.symm hpl
  · exact fun h=>hp (h▸hi)
 unfold Ring at h
 rw [hB,Lk.two] at h
 obtain ⟨⟨k1,k2⟩,k3⟩:=h
 obtain ⟨O1,s1,d1,b1⟩:=c0.store (v:=pt (l,3)) rfl N G
 obtain ⟨O2,s2,d2,b2⟩:=(b1.1 _ _ _ (.inr (by omega)) c1).store (v:=pt a) rfl N G
 have k2':Cell O2 a.1 a.2 (pt (l,3)):=b2.1 _ _ _ (.inl hap) (b1.1 _ _ _ (.inl hap) k2)
 obtain ⟨O3,s3,d3,b3⟩:=k2'.store (v:=pt (nd p)) rfl N G
 have hl4:l≠a.1∨4≠a.2:=by
  rcases ha with rfl | ⟨i,hi,rfl⟩
  · right; simp
  · left; exact Ne.symm (hl i hi)
 have k1':Cell O3 l 4 (pt a):=b3.1 _ _ _ hl4 (b2.1 _ _ _ (.inl (Ne.symm hpl)) (b1.1 _ _ _ (.inl (Ne.symm hpl)) k1))
 obtain ⟨O4,s4,d4,b4⟩:=k1'.store (v:=pt (nd p)) rfl N G
 refine ⟨a,O1,O2,O3,O4,ha,k1,s1,s2,d2,s3,s4,?_,b1,b2,b3,b4⟩
 unfold Ring
 rw [List.map_cons,List.cons_append,hB,Lk.two,Lk.two]
 have e1:Cell O4 a.1 a.2 (pt (nd p)):=b4.1 _ _ _ (by rcases hl4 with h | h; exact .inl (Ne.symm h); exact .inr (Ne.symm h)) d3
 have e2:Cell O4 p 1 (pt a):=b4.1 _ _ _ (.inl hpl) (b3.1 _ _ _ (.inl (Ne.symm hap)) d2)
 have e3:Cell O4 p 0 (pt (l,3)):=b4.1 _ _ _ (.inl hpl) (b3.1 _ _ _ (.inl (Ne.symm hap)) (b2.1 _ _ _ (.inr (by omega)) d1))
 refine ⟨⟨d4,e3⟩,⟨e2,e1⟩,k3.mono (fun x hx=>?_) (fun x hx=>?_)⟩
 · rw [← hB,List.dropLast_concat] at hx
   obtain ⟨i,hi,rfl⟩:=List.mem_map.1 hx
   intro w hc
   have hip:i≠p:=fun h=>hp (h▸hi)
   exact b4.1 _ _ _ (.inl (hl i hi)) (b3.1 _ _ _ (zho (.inr ⟨i,hl i hi,rfl⟩) ga) (b2.1 _ _ _ (.inl hip) (b1.1 _ _ _ (.inl hip) hc)))
 · have hndB:(xs.map nd++[((l,3):Node)]).Nodup:=by
    rw [List.nodup_append]
    refine ⟨hn.map (f:=nd) (fun a b hab h=>hab (congrArg Prod.fst h)),by simp,fun a ha b hb h=>?_⟩
    obtain ⟨i,hi,rfl⟩:=List.mem_map.1 ha
    rw [List.mem_singleton.1 hb] at h
    exact hl i hi (congrArg Prod.fst h)
   rw [List.tail_cons] at hx
   have hxm:x∈xs.map nd++[((l,3):Node)]:=by rw [hB]; exact List.mem_cons_of_mem _ hx
   rw [hB] at hndB
   have hxa:x≠a:=fun h=>(List.nodup_cons.1 hndB).1 (h▸hx)
   intro w hc
   rcases List.mem_append.1 hxm with y | y
   · obtain ⟨i,hi,rfl⟩:=List.mem_map.1 y
     have hip:i≠p:=fun h=>hp (h▸hi)
     exact b4.1 _ _ _ (.inl (hl i hi)) (b3.1 _ _ _ (.inl (zih (.inr ⟨i,hl i hi,rfl⟩) ga hxa)) (b2.1 _ _ _ (.inl hip) (b1.1 _ _ _ (.inl hip) hc)))
   · obtain rfl:=List.mem_singleton.1 y
     exact b4.1 _ _ _ (.inr (by simp)) (b3.1 _ _ _ (.inl (zih (.inl rfl) ga hxa)) (b2.1 _ _ _ (.inl (Ne.symm hpl)) (b1.1 _ _ _ (.inl (Ne.symm hpl)) hc)))
end Go.Proofs.Ytcdpmiebmhjmpaa.Ev
end
section
set_option maxRecDepth 100000
set_option linter.unusedVariables false
namespace Go.Proofs.Ytcdpmiebmhjmpaa.lr
open Go Ev
noncomputable abbrev P:Program:=Try.prog
abbrev Ent:=Nat × Int × Int
def kAV (k:Int):AV:=.int .i64 k
def MapOk (O:T AObj) (mi:Nat) (L:List Ent):Prop:=∃ es clock,O.get mi=some (.map es clock)∧(∀ e∈es,∃ x∈L,e.key=kAV x.2.1∧e.val=.ptr x.1 0 0) ∧
 (∀ x∈L,∃ e∈es,e.key=kAV x.2.1)∧es.Pairwise fun a b=>a.key≠b.key
theorem zeJ:zdj P 44=some (3,45):=by kernel_rfl
theorem zje:yr P 45=some .nilp:=by kernel_rfl
theorem zkd (k:Int):vK P 9 3 (.int .i64 k)=true:=by kernel_rfl
theorem zkC (h:AHeap)(a b:Int):eqA P h 9 3 (.int .i64 a) (.int .i64 b)=some (a==b):=by kernel_rfl
theorem ji {h:AHeap}{k:Int}:∀ {es:List AEntry} {i:Nat},(∀ e∈es,∃ a,e.key=kAV a) →
 (∃ j e,es[j]?=some e∧e.key=kAV k∧vY (eqA P h 9 3) (.int .i64 k) es i=some (some (i+j,e)))∨((∀ e∈es,e.key≠kAV k)∧vY (eqA P h 9 3) (.int .i64 k) es i=some none)
 | [],i,_=>.inr ⟨fun e he=>absurd he List.not_mem_nil,rfl⟩
 | e::r,i,hk=>by
  obtain ⟨a,ha⟩:=hk e (by simp)
  have hb:eqA P h 9 3 (.int .i64 k) e.key=some (k==a):=by rw [ha]; exact zkC h k a
  unfold vY
  rw [hb]
  by_cases hka:k=a
  · subst hka
    refine .inl ⟨0,e,rfl,ha,?_⟩
    simp only [beq_self_eq_true]
    rfl
  · have hf:(k==a)=false:=by rw [beq_eq_false_iff_ne]; exact hka
    simp only [hf]
    rcases ji (h:=h) (k:=k) (es:=r) (i:=i+1) (fun e he=>hk e (List.mem_cons_of_mem _ he)) with ⟨j,e',h1,h2,h3⟩ | ⟨h1,h2⟩
    · refine .inl ⟨j+1,e',by simpa using h1,h2,?_⟩
      rw [h3,show i+1+j=i+(j+1) by omega]
    · refine .inr ⟨fun e' he=>?_,h2⟩
      rcases List.mem_cons.1 he with rfl | he
      · rw [ha]
        intro h
        exact hka (by cases h; rfl)
      · exact h1 e' he
variable {O O':T AObj} {N mi:Nat} {G:T (T AV)} {L:List Ent} {k:Int}
theorem MapOk.same (h:MapOk O mi L)(e:O'.get mi=O.get mi):MapOk O' mi L:=by
 obtain ⟨es,clock,h1,h2⟩:=h
 exact ⟨es,clock,e.trans h1,h2⟩
theorem MapOk.keys (h:MapOk O mi L):∀ (es:List AEntry) (clock:Nat),O.get mi=some (.map es clock)→∀ e∈es,∃ a,e.key=kAV a:=by
 obtain ⟨es,clock,h1,h2,h3,h4⟩:=h
 intro es' clock' h' e he
 rw [h1] at h'
 cases h'
 obtain ⟨x,_,hx,_⟩:=h2 e he
 exact ⟨_,hx⟩
theorem zdO {es:List AEntry}{clock:Nat}(h1:O.get mi=some (.map es clock)):yx P ⟨O,N,G⟩ 3 (.int .i64 k) (.mp mi)=vY (eqA P ⟨O,N,G⟩ 9 3) (.int .i64 k) es 0:=by
 unfold yx
 rw [if_pos (zkd k)]
 have:xE ⟨O,N,G⟩ (.mp mi)=some es:=by
  unfold xE
  show (match O.get mi with | some (.map es _)=>some es | _=>none)=_
  rw [h1]
 rw [this]
theorem zbx {a b:Int}(h:kAV a=kAV b):a=b:=by cases h; rfl
theorem MapOk.hit (h:MapOk O mi L){x:Ent}(hx:x∈L)(hk:x.2.1=k)(hd:∀ y∈L,y.2.1=x.2.1→y=x):xG P ⟨O,N,G⟩ 44 (.mp mi) (.int .i64 k) false=some (.ptr x.1 0 0):=by
 have hkeys:=h.keys
 obtain ⟨es,clock,h1,h2,h3,h4⟩:=h
 unfold xG
 rw [zeJ]
 simp only [zdO h1]
 rcases ji (h:=⟨O,N,G⟩) (k:=k) (es:=es) (i:=0) (hkeys _ _ h1) with ⟨j,e,q1,q2,q3⟩ | ⟨q1,_⟩
 · rw [q3]
   obtain ⟨y,hy,y1,y2⟩:=h2 e (List.mem_of_getElem? q1)
   have:y=x:=hd y hy (by rw [hk]; exact zbx (y1.symm.trans q2))
   subst this
   simp only [y2]
   rfl
 · obtain ⟨e,he,hek⟩:=h3 x hx
   exact absurd (hek.trans (by rw [hk])) (q1 e he)
theorem MapOk.miss (h:MapOk O mi L)(hk:∀ x∈L,x.2.1≠k):xG P ⟨O,N,G⟩ 44 (.mp mi) (.int .i64 k) false=some .nilp ∧
 yx P ⟨O,N,G⟩ 3 (.int .i64 k) (.mp mi)=some none:=by
 have hkeys:=h.keys
 obtain ⟨es,clock,h1,h2,h3,h4⟩:=h
 have hn:yx P ⟨O,N,G⟩ 3 (.int .i64 k) (.mp mi)=some none:=by
  rw [zdO h1]
  rcases ji (h:=⟨O,N,G⟩) (k:=k) (es:=es) (i:=0) (hkeys _ _ h1) with ⟨j,e,q1,q2,q3⟩ | ⟨_,q2⟩
  · obtain ⟨y,hy,y1,y2⟩:=h2 e (List.mem_of_getElem? q1)
    exact absurd (zbx (y1.symm.trans q2)) (hk y hy)
  · exact q2
 refine ⟨?_,hn⟩
 unfold xG
 rw [zeJ]
 simp only [hn,zje]
 rfl
theorem MapOk.put (h:MapOk O mi L)(hk:∀ x∈L,x.2.1≠k)(p:Nat)(v:Int):∃ O',yX P ⟨O,N,G⟩ 44 (.mp mi) (.int .i64 k) (.ptr p 0 0)=some ⟨O',N,G⟩∧MapOk O' mi ((p,k,v)::L)∧Frm O O' mi:=by
 have hn:=(h.miss (N:=N) (G:=G) hk).2
 obtain ⟨es,clock,h1,h2,h3,h4⟩:=h
 refine ⟨O.set (some (.map (es++[{ key:=.int .i64 k,val:=.ptr p 0 0,born:=clock }]) (clock+1))) mi,?_,⟨_,_,by rw [T.get_set,if_pos rfl],fun e he=>?_,fun x hx=>?_,?_⟩,fun j hj=>by rw [T.get_set,if_neg hj]⟩
 · unfold yX
   rw [zeJ]
   simp only [hn]
   unfold zbH
   show (match O.get mi with | some (.map es clock)=>_ | _=>_)=_
   rw [h1]
   rfl
 · rcases List.mem_append.1 he with a | a
   · obtain ⟨x,hx,e1,e2⟩:=h2 e a
     exact ⟨x,List.mem_cons_of_mem _ hx,e1,e2⟩
   · obtain rfl:=List.mem_singleton.1 a
     exact ⟨_,List.mem_cons_self,rfl,rfl⟩
 · rcases List.mem_cons.1 hx with rfl | hx
   · exact ⟨_,List.mem_append_right _ (List.mem_singleton_self _),rfl⟩
   · obtain ⟨e,he,hek⟩:=h3 x hx
     exact ⟨e,List.mem_append_left _ he,hek⟩
 · rw [List.pairwise_append]
   refine ⟨h4,by simp,fun a ha b hb=>?_⟩
   obtain rfl:=List.mem_singleton.1 hb
   obtain ⟨x,hx,e1,_⟩:=h2 a ha
   rw [e1]
   exact fun h=>hk x hx (zbx h)
theorem MapOk.del (u w:List Ent){x:Ent}(h:MapOk O mi (u++x::w))(hd:∀ y∈u++w,y.2.1≠x.2.1)(hp:∀ y∈u++x::w,y.1=x.1→y=x):∃ O',zg P ⟨O,N,G⟩ .delete (some 44) (some 3) [.mp mi,.int .i64 x.2.1]=some (.val (.tup []) ⟨O',N,G⟩)∧MapOk O' mi (u++w)∧Frm O O' mi:=by
 have hkeys:=h.keys
 obtain ⟨es,clock,h1,h2,h3,h4⟩:=h
 rcases ji (h:=⟨O,N,G⟩) (k:=x.2.1) (es:=es) (i:=0) (hkeys _ _ h1) with ⟨j,e,q1,q2,q3⟩ | ⟨q1,_⟩
 rotate_left
 · obtain ⟨e,he,hek⟩:=h3 x (by simp)
   exact absurd hek (q1 e he)
 have hj:j<es.length:=(List.getElem?_eq_some_iff.1 q1).1
 have hsplit:es=es.take j++e::es.drop (j+1):=by
  have:es.drop j=e::es.drop (j+1):=by
   rw [List.drop_eq_getElem_cons hj]
   rw [(List.getElem?_eq_some_iff.1 q1).2]
  rw [← this,List.take_append_drop]
 have hmem:∀ a,a∈es.take j++es.drop (j+1)→a∈es∧a.key≠e.key:=by
  intro a ha
  rw [hsplit,List.pairwise_append,List.pairwise_cons] at h4
  rcases List.mem_append.1 ha with b | b
  · exact ⟨List.mem_of_mem_take b,h4.2.2 a b e (by simp)⟩
  · exact ⟨List.mem_of_mem_drop b,Ne.symm (h4.2.1.1 a b)⟩
 refine ⟨O.set (some (.map (es.take j++es.drop (j+1)) clock)) mi,?_,⟨_,_,by rw [T.get_set,if_pos rfl],fun a ha=>?_,fun y hy=>?_,?_⟩,fun j hj=>by rw [T.get_set,if_neg hj]⟩
 · show zaa P ⟨O,N,G⟩ 44 [.mp mi,.int .i64 x.2.1]=_
   unfold zaa
   show zcA (jP P ⟨O,N,G⟩ 44 (.mp mi) (.int .i64 x.2.1))=_
   unfold jP
   rw [zeJ]
   simp only [zdO h1,q3]
   unfold jI
   show zcA (match O.get mi with | some (.map es clock)=>_ | _=>_)=_
   rw [h1]
   simp only [Nat.zero_add]
   rfl
 · obtain ⟨m1,m2⟩:=hmem a ha
   obtain ⟨y,hy,e1,e2⟩:=h2 a m1
   refine ⟨y,?_,e1,e2⟩
   rcases List.mem_append.1 hy with b | b
   · exact List.mem_append_left _ b
   · rcases List.mem_cons.1 b with rfl | b
     · exact absurd (e1.trans q2.symm) m2
     · exact List.mem_append_right _ b
 · have hy':y∈u++x::w:=by
    rcases List.mem_append.1 hy with b | b
    · exact List.mem_append_left _ b
    · exact List.mem_append_right _ (List.mem_cons_of_mem _ b)
   obtain ⟨a,ha,hak⟩:=h3 y hy'
   refine ⟨a,?_,hak⟩
   rw [hsplit] at ha
   rcases List.mem_append.1 ha with b | b
   · exact List.mem_append_left _ b
   · rcases List.mem_cons.1 b with rfl | b
     · exact absurd (zbx (hak.symm.trans q2)) (hd y hy)
     · exact List.mem_append_right _ b
 · rw [hsplit,List.pairwise_append,List.pairwise_cons] at h4
   rw [List.pairwise_append]
   exact ⟨h4.1,h4.2.1.2,fun a ha b hb=>h4.2.2 a ha b (List.mem_cons_of_mem _ hb)⟩
end Go.Proofs.Ytcdpmiebmhjmpaa.lr
end
section
set_option maxRecDepth 100000
set_option linter.unusedVariables false
namespace Go.Proofs.Ytcdpmiebmhjmpaa.lr
open Go Ev
theorem mix:P.follows .mixedOrders=true:=Checked.mixed Try.checked
theorem og {f:FuncId}{Q:AV→AHeap→Prop}{k:Nat}{l:List Cmd}{m:AM}{A:Prop}(e:A=Obl P f Q k (Goal P k f Q) l m)(h:A):Goal P k f Q m:=Obl.goal mix (fun _ h=>h) (cast e h)
theorem oh {f:FuncId}{Q:AV→AHeap→Prop}{k:Nat}{l:List Cmd}{m:AM}{A:Prop}(e:A=Obl P f Q k (fun _=>False) l m)(h:A):Goal P k f Q m:=Obl.goal mix (fun _ h=>h.elim) (cast e h)
noncomputable def enF (f:FuncId) (args:List AV):AFrame:=match qO P f args .normal with
 | some a=>a
 | none=>⟨0,0,.leaf,[],[],.run,.normal,none⟩
noncomputable def RF (f n:Nat) (t:T AV) (td:List AItem):AFrame:=⟨f,n,t,td,[],.returning,CallKind.normal,none⟩
theorem q_cbf (R:AV→Prop)(k:Int)(G:T (T AV))(_K:AM→Prop):Obl P 25 (fun v _=>R v) 0 _K [.run 32,.done] ((ym P 25 [.int .i64 k] G))=((R (.bool (k==k)))):=by kernel_rfl
theorem q_pz (R:AV→AHeap→Prop)(keep:Nat)(f0:FuncId)(rest:List AFrame)(k:Int)(v:Int)(cap:Int)(O:T AObj)(N:Nat)(l:Nat)(G:T (T AV))(K:AM→Prop):Obl P f0 (fun v h=>R v h) keep K [.run 9,.hop (.int .i64 cap) O,.run 3,.know 15 true,.run 2,.keep []] ((AM.mk (enF 10 [.ptr l 0 0,.int .i64 k,.int .i64 v]) rest ⟨O,N,G⟩))=((za (⟨O,N,G⟩) (l) 0 0 1=(some [.int .i64 cap]))∧((cap==(0:Int))=true)∧K ({ top:=RF 10 53 T.leaf [AItem.code (cd P 10 [0,1,0]),AItem.code (cd P 10 [1])],rest:=rest,heap:={ objs:=O,next:=N,glob:=G } })):=by kernel_rfl
theorem q_ph (R:AV→AHeap→Prop)(keep:Nat)(f0:FuncId)(rest:List AFrame)(k:Int)(v:Int)(cap:Int)(O:T AObj)(O1:T AObj)(O2:T AObj)(O3:T AObj)(O4:T AObj)(O5:T AObj)(O6:T AObj)(O7:T AObj)(N:Nat)(l:Nat)(p:Nat)(a:Nat)(ao:Nat)(e:Nat)(eo:Nat)(h:Nat)(ho:Nat)(mi:Nat)(G:T (T AV))(K:AM→Prop):Obl P f0 (fun v h=>R v h) keep K [.run 9,.hop (.int .i64 cap) O,.run 3,.know 15 false,.run 7,.run 9,.callv [0] (.bool true),.run 9,.hop (.mp mi) O,.run 1,.hop (.ptr p 0 0) O,.run 19,.hop .nilp O1,.run 5,.run 5,.hop (.ptr e 0 eo) O1,.run 4,.hop (.ptr h 0 ho) O1,.run 4,.hop (.ptr h 0 ho) O1,.run 4,.hop (.ptr e 0 eo) O1,.run 3,.hop .nilp O2,.run 3,.hop .nilp O3,.run 9,.run 12,.hop (.ptr a 0 ao) O3,.run 3,.hop .nilp O4,.run 3,.hop .nilp O5,.run 6,.hop (.ptr a 0 ao) O5,.run 6,.hop .nilp O6,.run 4,.hop .nilp O7,.run 5,.keep []] ((AM.mk (enF 10 [.ptr l 0 0,.int .i64 k,.int .i64 v]) rest ⟨O,N,G⟩))=((za (⟨O,N,G⟩) (l) 0 0 1=(some [.int .i64 cap]))∧((cap==(0:Int))=false)∧(Goal P 0 25 (fun x x_1=>x=AV.bool true) (ym P 25 [.int .i64 k] G))∧(za (⟨O,N,G⟩) (l) 0 2 1=(some [.mp mi]))∧(xG P (⟨O,N,G⟩) 44 (.mp mi) (.int .i64 k) (false)=(some (.ptr p 0 0)))∧(zc (⟨O,N,G⟩) (p) 0 3 ([.int .i64 v])=(some ⟨O1,N,G⟩))∧(za (⟨O1,N,G⟩) (p) 0 1 1=(some [.ptr e 0 eo]))∧(za (⟨O1,N,G⟩) (p) 0 0 1=(some [.ptr h 0 ho]))∧(za (⟨O1,N,G⟩) (p) 0 0 1=(some [.ptr h 0 ho]))∧(za (⟨O1,N,G⟩) (p) 0 1 1=(some [.ptr e 0 eo]))∧(zc (⟨O1,N,G⟩) (e) 0 (eo) ([.ptr h 0 ho])=(some ⟨O2,N,G⟩))∧(zc (⟨O2,N,G⟩) (h) 0 (ho+1) ([.ptr e 0 eo])=(some ⟨O3,N,G⟩))∧(za (⟨O3,N,G⟩) (l) 0 4 1=(some [.ptr a 0 ao]))∧(zc (⟨O3,N,G⟩) (p) 0 0 ([.ptr l 0 3])=(some ⟨O4,N,G⟩))∧(zc (⟨O4,N,G⟩) (p) 0 1 ([.ptr a 0 ao])=(some ⟨O5,N,G⟩))∧(za (⟨O5,N,G⟩) (p) 0 1 1=(some [.ptr a 0 ao]))∧(zc (⟨O5,N,G⟩) (a) 0 (ao) ([.ptr p 0 0])=(some ⟨O6,N,G⟩))∧(zc (⟨O6,N,G⟩) (l) 0 4 ([.ptr p 0 0])=(some ⟨O7,N,G⟩))∧K ({ top:=RF 10 53 T.leaf [AItem.code (cd P 10 [0,1,0]),AItem.code (cd P 10 [1,1,1])],rest:=rest,heap:={ objs:=O7,next:=N,glob:=G } })):=by kernel_rfl
theorem q_pr (R:AV→AHeap→Prop)(keep:Nat)(f0:FuncId)(rest:List AFrame)(k:Int)(v:Int)(cap:Int)(kept:Int)(O:T AObj)(O1:T AObj)(O2:T AObj)(O3:T AObj)(O4:T AObj)(O5:T AObj)(O6:T AObj)(O7:T AObj)(N:Nat)(l:Nat)(a:Nat)(ao:Nat)(mi:Nat)(G:T (T AV))(K:AM→Prop):Obl P f0 (fun v h=>R v h) keep K [.run 9,.hop (.int .i64 cap) O,.run 3,.know 15 false,.run 7,.run 9,.callv [0] (.bool true),.run 9,.hop (.mp mi) O,.run 1,.hop (.nilp) O,.run 20,.hop (.int .i64 kept) O,.run 3,.hop (.int .i64 cap) O,.run 2,.know 38 false,.run 7,.hop .nilp O1,.run 1,.run 6,.hop (.int .i64 k) O1,.run 1,.callv [0] (.bool true),.run 6,.hop (.mp mi) O1,.run 3,.hop (.int .i64 k) O1,.run 1,.hop .nilp O2,.run 6,.hop (.int .i64 (kept)) O2,.run 3,.hop .nilp O3,.run 5,.run 12,.hop (.ptr a 0 ao) O3,.run 3,.hop .nilp O4,.run 3,.hop .nilp O5,.run 6,.hop (.ptr a 0 ao) O5,.run 6,.hop .nilp O6,.run 4,.hop .nilp O7,.run 8,.keep []] ((AM.mk (enF 10 [.ptr l 0 0,.int .i64 k,.int .i64 v]) rest ⟨O,N,G⟩))=((za (⟨O,N,G⟩) (l) 0 0 1=(some [.int .i64 cap]))∧((cap==(0:Int))=false)∧(Goal P 0 25 (fun x x_1=>x=AV.bool true) (ym P 25 [.int .i64 k] G))∧(za (⟨O,N,G⟩) (l) 0 2 1=(some [.mp mi]))∧(xG P (⟨O,N,G⟩) 44 (.mp mi) (.int .i64 k) (false)=(some .nilp))∧(za (⟨O,N,G⟩) (l) 0 1 1=(some [.int .i64 kept]))∧(za (⟨O,N,G⟩) (l) 0 0 1=(some [.int .i64 cap]))∧(decide (kept≥cap)=false)∧(T.set ((some (.cells (.node (.node (.node .leaf (some (.int .i64 v)) .leaf) (some .nilp) .leaf) (some .nilp) (.node .leaf (some (.int .i64 k)) .leaf)) 4 49 0 0 1 0 false .leaf))) (O) (N)=O1)∧(za (⟨O1,N+1,G⟩) (N) 0 2 1=(some [.int .i64 k]))∧(Goal P 0 25 (fun x x_1=>x=AV.bool true) (ym P 25 [.int .i64 k] G))∧(za (⟨O1,N+1,G⟩) (l) 0 2 1=(some [.mp mi]))∧(za (⟨O1,N+1,G⟩) (N) 0 2 1=(some [.int .i64 k]))∧(yX P (⟨O1,N+1,G⟩) 44 (.mp mi) (.int .i64 k) (.ptr N 0 0)=(some ⟨O2,N+1,G⟩))∧(za (⟨O2,N+1,G⟩) (l) 0 1 1=(some [.int .i64 kept]))∧(zc (⟨O2,N+1,G⟩) (l) 0 1 ([.int .i64 (IntKind.i64.wrap (kept+(1:Int)))])=(some ⟨O3,N+1,G⟩))∧(za (⟨O3,N+1,G⟩) (l) 0 4 1=(some [.ptr a 0 ao]))∧(zc (⟨O3,N+1,G⟩) (N) 0 0 ([.ptr l 0 3])=(some ⟨O4,N+1,G⟩))∧(zc (⟨O4,N+1,G⟩) (N) 0 1 ([.ptr a 0 ao])=(some ⟨O5,N+1,G⟩))∧(za (⟨O5,N+1,G⟩) (N) 0 1 1=(some [.ptr a 0 ao]))∧(zc (⟨O5,N+1,G⟩) (a) 0 (ao) ([.ptr N 0 0])=(some ⟨O6,N+1,G⟩))∧(zc (⟨O6,N+1,G⟩) (l) 0 4 ([.ptr N 0 0])=(some ⟨O7,N+1,G⟩))∧K ({ top:=RF 10 53 T.leaf [],rest:=rest,heap:={ objs:=O7,next:=N+1,glob:=G } })):=by kernel_rfl
theorem q_pe (R:AV→AHeap→Prop)(keep:Nat)(f0:FuncId)(rest:List AFrame)(k:Int)(v:Int)(cap:Int)(kept:Int)(k2:Int)(O:T AObj)(O1:T AObj)(O2:T AObj)(O3:T AObj)(O4:T AObj)(O5:T AObj)(O6:T AObj)(O7:T AObj)(O8:T AObj)(O9:T AObj)(O10:T AObj)(O11:T AObj)(N:Nat)(l:Nat)(a:Nat)(ao:Nat)(e:Nat)(eo:Nat)(h:Nat)(ho:Nat)(mi:Nat)(y:Nat)(G:T (T AV))(K:AM→Prop):Obl P f0 (fun v h=>R v h) keep K [.run 9,.hop (.int .i64 cap) O,.run 3,.know 15 false,.run 7,.run 9,.callv [0] (.bool true),.run 9,.hop (.mp mi) O,.run 1,.hop (.nilp) O,.run 20,.hop (.int .i64 kept) O,.run 3,.hop (.int .i64 cap) O,.run 2,.know 38 true,.run 8,.hop (.ptr y 0 0) O,.run 1,.run 6,.hop (.int .i64 k2) O,.run 1,.callv [0] (.bool true),.run 6,.hop (.mp mi) O,.run 3,.hop (.int .i64 k2) O,.hop (.tup []) O1,.run 6,.hop (.int .i64 kept) O1,.run 3,.hop .nilp O2,.run 4,.run 5,.hop (.ptr e 0 eo) O2,.run 4,.hop (.ptr h 0 ho) O2,.run 4,.hop (.ptr h 0 ho) O2,.run 4,.hop (.ptr e 0 eo) O2,.run 3,.hop .nilp O3,.run 3,.hop .nilp O4,.run 12,.hop .nilp O5,.run 1,.run 6,.hop (.int .i64 k) O5,.run 1,.callv [0] (.bool true),.run 6,.hop (.mp mi) O5,.run 3,.hop (.int .i64 k) O5,.run 1,.hop .nilp O6,.run 6,.hop (.int .i64 (IntKind.i64.wrap (kept - 1))) O6,.run 3,.hop .nilp O7,.run 5,.run 12,.hop (.ptr a 0 ao) O7,.run 3,.hop .nilp O8,.run 3,.hop .nilp O9,.run 6,.hop (.ptr a 0 ao) O9,.run 6,.hop .nilp O10,.run 4,.hop .nilp O11,.run 8,.keep []] ((AM.mk (enF 10 [.ptr l 0 0,.int .i64 k,.int .i64 v]) rest ⟨O,N,G⟩))=((za (⟨O,N,G⟩) (l) 0 0 1=(some [.int .i64 cap]))∧((cap==(0:Int))=false)∧(Goal P 0 25 (fun x x_1=>x=AV.bool true) (ym P 25 [.int .i64 k] G))∧(za (⟨O,N,G⟩) (l) 0 2 1=(some [.mp mi]))∧(xG P (⟨O,N,G⟩) 44 (.mp mi) (.int .i64 k) (false)=(some .nilp))∧(za (⟨O,N,G⟩) (l) 0 1 1=(some [.int .i64 kept]))∧(za (⟨O,N,G⟩) (l) 0 0 1=(some [.int .i64 cap]))∧(decide (kept≥cap)=true)∧(za (⟨O,N,G⟩) (l) 0 3 1=(some [.ptr y 0 0]))∧(za (⟨O,N,G⟩) (y) 0 2 1=(some [.int .i64 k2]))∧(Goal P 0 25 (fun x x_1=>x=AV.bool true) (ym P 25 [.int .i64 k2] G))∧(za (⟨O,N,G⟩) (l) 0 2 1=(some [.mp mi]))∧(za (⟨O,N,G⟩) (y) 0 2 1=(some [.int .i64 k2]))∧(zg P (⟨O,N,G⟩) (Builtin.delete) ((some 44)) ((some 3)) ([.mp mi,.int .i64 k2])=(some (.val (.tup []) ⟨O1,N,G⟩)))∧(za (⟨O1,N,G⟩) (l) 0 1 1=(some [.int .i64 kept]))∧(zc (⟨O1,N,G⟩) (l) 0 1 ([.int .i64 (IntKind.i64.wrap (kept - (1:Int)))])=(some ⟨O2,N,G⟩))∧(za (⟨O2,N,G⟩) (y) 0 1 1=(some [.ptr e 0 eo]))∧(za (⟨O2,N,G⟩) (y) 0 0 1=(some [.ptr h 0 ho]))∧(za (⟨O2,N,G⟩) (y) 0 0 1=(some [.ptr h 0 ho]))∧(za (⟨O2,N,G⟩) (y) 0 1 1=(some [.ptr e 0 eo]))∧(zc (⟨O2,N,G⟩) (e) 0 (eo) ([.ptr h 0 ho])=(some ⟨O3,N,G⟩))∧(zc (⟨O3,N,G⟩) (h) 0 (ho+1) ([.ptr e 0 eo])=(some ⟨O4,N,G⟩))∧(T.set ((some (.cells (.node (.node (.node .leaf (some (.int .i64 v)) .leaf) (some .nilp) .leaf) (some .nilp) (.node .leaf (some (.int .i64 k)) .leaf)) 4 49 0 0 1 0 false .leaf))) (O4) (N)=O5)∧(za (⟨O5,N+1,G⟩) (N) 0 2 1=(some [.int .i64 k]))∧(Goal P 0 25 (fun x x_1=>x=AV.bool true) (ym P 25 [.int .i64 k] G))∧(za (⟨O5,N+1,G⟩) (l) 0 2 1=(some [.mp mi]))∧(za (⟨O5,N+1,G⟩) (N) 0 2 1=(some [.int .i64 k]))∧(yX P (⟨O5,N+1,G⟩) 44 (.mp mi) (.int .i64 k) (.ptr N 0 0)=(some ⟨O6,N+1,G⟩))∧(za (⟨O6,N+1,G⟩) (l) 0 1 1=(some [.int .i64 (IntKind.i64.wrap (kept - (1:Int)))]))∧(zc (⟨O6,N+1,G⟩) (l) 0 1 ([.int .i64 (IntKind.i64.wrap (IntKind.i64.wrap (kept - (1:Int))+(1:Int)))])=(some ⟨O7,N+1,G⟩))∧(za (⟨O7,N+1,G⟩) (l) 0 4 1=(some [.ptr a 0 ao]))∧(zc (⟨O7,N+1,G⟩) (N) 0 0 ([.ptr l 0 3])=(some ⟨O8,N+1,G⟩))∧(zc (⟨O8,N+1,G⟩) (N) 0 1 ([.ptr a 0 ao])=(some ⟨O9,N+1,G⟩))∧(za (⟨O9,N+1,G⟩) (N) 0 1 1=(some [.ptr a 0 ao]))∧(zc (⟨O9,N+1,G⟩) (a) 0 (ao) ([.ptr N 0 0])=(some ⟨O10,N+1,G⟩))∧(zc (⟨O10,N+1,G⟩) (l) 0 4 ([.ptr N 0 0])=(some ⟨O11,N+1,G⟩))∧K ({ top:=RF 10 53 T.leaf [],rest:=rest,heap:={ objs:=O11,next:=N+1,glob:=G } })):=by kernel_rfl
theorem kA {k:Int}{G:T (T AV)}:Goal P 0 25 (fun x _=>x=AV.bool true) (ym P 25 [.int .i64 k] G) :=
 (oh (q_cbf (fun v=>v=.bool true) k G _).symm (by rw [beq_self_eq_true]))
def LR (O:T AObj) (l mi cap:Nat) (L:List Ent):Prop :=
 mi≠l∧Cell O l 0 (.int .i64 (cap:Int))∧Cell O l 1 (.int .i64 ((L.length:Nat):Int))∧Cell O l 2 (.mp mi)∧Ring O l (L.map (·.1)) ∧
 (∀ x∈L,x.1≠l∧x.1≠mi∧Cell O x.1 2 (.int .i64 x.2.1)∧Cell O x.1 3 (.int .i64 x.2.2))∧(L.map (·.1)).Nodup∧(L.map (·.2.1)).Nodup∧MapOk O mi L∧L.length≤cap
abbrev gd (l:Nat) (x:Ev.Node):Prop:=x=(l,3)∨∃ i,i≠l∧x=nd i
def dat (l i j:Nat):Prop:=(i=l∧j≤2)∨(i≠l∧2≤j)
variable {O O' O1 O2:T AObj} {N l mi cap:Nat} {G:T (T AV)} {L u w:List Ent} {k v:Int} {x:Ev.Node}
theorem zaY (b:But O O' x.1 x.2)(gx:gd l x){i j:Nat}{c:AV}(h:dat l i j)(hc:Cell O i j c):Cell O' i j c:=by
 refine b.1 _ _ _ ?_ hc
 rcases gx with rfl | ⟨y,hy,rfl⟩ <;> rcases h with ⟨rfl,h⟩ | ⟨h1,h⟩
 · right; show j≠3; omega
 · left; exact h1
 · left; exact Ne.symm hy
 · right; show j≠0; omega
theorem za3 (b:But O O' x.1 (x.2+1))(gx:gd l x){i j:Nat}{c:AV}(h:dat l i j)(hc:Cell O i j c):Cell O' i j c:=by
 refine b.1 _ _ _ ?_ hc
 rcases gx with rfl | ⟨y,hy,rfl⟩ <;> rcases h with ⟨rfl,h⟩ | ⟨h1,h⟩
 · right; show j≠4; omega
 · left; exact h1
 · left; exact Ne.symm hy
 · right; show j≠1; omega
theorem ze2 {us:List Nat}(hx:x=(l,3)∨∃ i,i∈us∧x=nd i)(hl:∀ i∈us,i≠l):gd l x:=hx.imp id fun ⟨i,hi,h⟩=>⟨i,hl i hi,h⟩
theorem zce {us:List Nat}(hx:x=(l,3)∨∃ i,i∈us∧x=nd i){j:Nat}(hl:j≠l)(hu:∀ i∈us,i≠j):j≠x.1:=by
 rcases hx with rfl | ⟨i,hi,rfl⟩
 · exact hl
 · exact Ne.symm (hu i hi)
theorem MapOk.re {L':List Ent}(h:MapOk O mi L)(h1:∀ x∈L,∃ y∈L',y.1=x.1∧y.2.1=x.2.1)(h2:∀ y∈L',∃ x∈L,y.2.1=x.2.1):MapOk O mi L':=by
 obtain ⟨es,clock,e1,e2,e3,e4⟩:=h
 refine ⟨es,clock,e1,fun e he=>?_,fun y hy=>?_,e4⟩
 · obtain ⟨x,hx,q1,q2⟩:=e2 e he
   obtain ⟨y,hy,p1,p2⟩:=h1 x hx
   exact ⟨y,hy,by rw [q1,p2],by rw [q2,p1]⟩
 · obtain ⟨x,hx,q⟩:=h2 y hy
   obtain ⟨e,he,hek⟩:=e3 x hx
   exact ⟨e,he,by rw [hek,q]⟩
theorem zes {α β:Type}{f:α→β}:∀ {L:List α},(L.map f).Nodup→∀ x∈L,∀ y∈L,f y=f x→y=x
 | [],_,x,hx,_,_,_=>absurd hx List.not_mem_nil
 | a::r,h,x,hx,y,hy,e=>by
  rw [List.map_cons,List.nodup_cons] at h
  rcases List.mem_cons.1 hx with hxa | hx'
  · rcases List.mem_cons.1 hy with hya | hy'
    · rw [hxa,hya]
    · exact absurd (by rw [← hxa,← e]; exact List.mem_map_of_mem hy') h.1
  · rcases List.mem_cons.1 hy with hya | hy'
    · exact absurd (by rw [← hya,e]; exact List.mem_map_of_mem hx') h.1
    · exact zes h.2 x hx' y hy' e
theorem xU {α:Type}{a:α}{us ws:List α}(h:(us++a::ws).Nodup):(us++ws).Nodup∧a ∉ us++ws:=by
 rw [List.nodup_append,List.nodup_cons] at h
 obtain ⟨h1,⟨h2,h3⟩,h4⟩:=h
 refine ⟨List.nodup_append.2 ⟨h1,h3,fun x hx y hy=>h4 x hx y (List.mem_cons_of_mem _ hy)⟩,fun hm=>?_⟩
 rcases List.mem_append.1 hm with b | b
 · exact h4 a b a (by simp) rfl
 · exact h2 b
theorem move {p:Ent}(h:LR O l mi cap (u++p::w))(O1:T AObj)(b0:But O O1 p.1 3)(c0:Cell O1 p.1 3 (.int .i64 v))(N:Nat)(G:T (T AV)) :
 ∃ (e n a:Ev.Node) (O2 O3 O4 O5 O6 O7:T AObj),Cell O1 p.1 1 (pt e)∧Cell O1 p.1 0 (pt n) ∧
  zc ⟨O1,N,G⟩ e.1 0 e.2 [pt n]=some ⟨O2,N,G⟩∧zc ⟨O2,N,G⟩ n.1 0 (n.2+1) [pt e]=some ⟨O3,N,G⟩∧Cell O3 l 4 (pt a) ∧
  zc ⟨O3,N,G⟩ p.1 0 0 [pt (l,3)]=some ⟨O4,N,G⟩∧zc ⟨O4,N,G⟩ p.1 0 1 [pt a]=some ⟨O5,N,G⟩∧Cell O5 p.1 1 (pt a) ∧
  zc ⟨O5,N,G⟩ a.1 0 a.2 [pt (nd p.1)]=some ⟨O6,N,G⟩∧zc ⟨O6,N,G⟩ l 0 4 [pt (nd p.1)]=some ⟨O7,N,G⟩ ∧
  LR O7 l mi cap ((p.1,p.2.1,v)::(u++w))∧∀ j,j≠l→(∀ y∈u++p::w,y.1≠j)→O7.get j=O.get j:=by
 obtain ⟨h0,h1,h2,h3,h4,h5,h6,h7,h8,h9⟩:=h
 rw [List.map_append,List.map_cons] at h4 h6 h7
 have hne:∀ i∈u.map (·.1)++p.1::w.map (·.1),i≠l∧i≠mi:=by
  intro i hi
  rw [← List.map_cons,← List.map_append] at hi
  obtain ⟨y,hy,rfl⟩:=List.mem_map.1 hi
  exact ⟨(h5 y hy).1,(h5 y hy).2.1⟩
 obtain ⟨hpl,hpm⟩:=hne p.1 (by simp)
 have hR1:Ring O1 l (u.map (·.1)++p.1::w.map (·.1)):=by
  refine Lk.mono (fun y hy c hc=>b0.1 _ _ _ ?_ hc) (fun y hy c hc=>b0.1 _ _ _ ?_ hc) h4
  · have:y∈((l,3):Ev.Node)::(u.map (·.1)++p.1::w.map (·.1)).map nd:=by
     rw [← List.cons_append,List.dropLast_concat] at hy
     exact hy
    rcases List.mem_cons.1 this with rfl | hm
    · left; exact Ne.symm hpl
    · obtain ⟨i,_,rfl⟩:=List.mem_map.1 hm
      right; show (0+1:Nat)≠3; omega
  · rw [List.tail_cons] at hy
    rcases List.mem_append.1 hy with hm | hm
    · obtain ⟨i,_,rfl⟩:=List.mem_map.1 hm
      right; show (0:Nat)≠3; omega
    · obtain rfl:=List.mem_singleton.1 hm
      left; exact Ne.symm hpl
 obtain ⟨e,n,O2,O3,he,hn,c1,c2,s1,s2,hR3,b1,b2⟩:=hR1.leave h6 (fun i hi=>(hne i hi).1) N G
 obtain ⟨nd1,nd2⟩:=xU h6
 have hne':∀ i∈u.map (·.1)++w.map (·.1),i≠l∧i≠mi:=fun i hi=>hne i (by
  rcases List.mem_append.1 hi with a | a
  · exact List.mem_append_left _ a
  · exact List.mem_append_right _ (List.mem_cons_of_mem _ a))
 have hul:∀ i∈u.map (·.1),i≠l:=fun i hi=>(hne i (List.mem_append_left _ hi)).1
 have hwl:∀ i∈w.map (·.1),i≠l:=fun i hi=>(hne i (List.mem_append_right _ (List.mem_cons_of_mem _ hi))).1
 have ge:=ze2 he hwl
 have gn:=ze2 hn hul
 have hpu:∀ i∈u.map (·.1),i≠p.1:=fun i hi h=>nd2 (h▸List.mem_append_left _ hi)
 have hpw:∀ i∈w.map (·.1),i≠p.1:=fun i hi h=>nd2 (h▸List.mem_append_right _ hi)
 have pe:=zce he hpl hpw
 have pn:=zce hn hpl hpu
 have c1':Cell O3 p.1 1 (pt e):=b2.1 _ _ _ (.inl pn) (b1.1 _ _ _ (.inl pe) c1)
 have c2':Cell O3 p.1 0 (pt n):=b2.1 _ _ _ (.inl pn) (b1.1 _ _ _ (.inl pe) c2)
 obtain ⟨a,O4,O5,O6,O7,ha,c3,s3,s4,c4,s5,s6,hR7,b3,b4,b5,b6⟩:=hR3.enter (fun i hi=>(hne' i hi).1) nd2 hpl c2' c1' nd1 N G
 have ga:=ze2 ha fun i hi=>(hne' i hi).1
 have gp:gd l (nd p.1):=.inr ⟨p.1,hpl,rfl⟩
 have stay:∀ i j c,dat l i j→Cell O1 i j c→Cell O7 i j c:=fun i j c hd hc =>
  za3 (x:=(l,3)) b6 (.inl rfl) hd (zaY b5 ga hd (za3 (x:=nd p.1) b4 gp hd (zaY (x:=nd p.1) b3 gp hd (za3 b2 gn hd (zaY b1 ge hd hc)))))
 have stay0:∀ i j c,dat l i j→(i≠p.1∨j≠3)→Cell O i j c→Cell O7 i j c:=fun i j c hd hne hc=>stay i j c hd (b0.1 _ _ _ hne hc)
 have get:∀ j,j≠l→(∀ y∈u++p::w,y.1≠j)→O7.get j=O.get j:=fun j hj hy=>by
  have hju:∀ i∈u.map (·.1),i≠j:=fun i hi=>by obtain ⟨y,hm,rfl⟩:=List.mem_map.1 hi; exact hy y (by simp [hm])
  have hjw:∀ i∈w.map (·.1),i≠j:=fun i hi=>by obtain ⟨y,hm,rfl⟩:=List.mem_map.1 hi; exact hy y (by simp [hm])
  have hjp:j≠p.1:=Ne.symm (hy p (by simp))
  have hja:j≠a.1:=zce ha hj fun i hi=>by rcases List.mem_append.1 hi with b | b; exact hju i b; exact hjw i b
  exact (b6.2 j hj).trans ((b5.2 j hja).trans ((b4.2 j hjp).trans ((b3.2 j hjp).trans ((b2.2 j (zce hn hj hju)).trans ((b1.2 j (zce he hj hjw)).trans (b0.2 j hjp))))))
 have hlen:((p.1,p.2.1,v)::(u++w)).length=(u++p::w).length:=by simp only [List.length_cons,List.length_append]; omega
 refine ⟨e,n,a,O2,O3,O4,O5,O6,O7,c1,c2,s1,s2,c3,s3,s4,c4,s5,s6,⟨h0,stay0 _ _ _ (.inl ⟨rfl,by omega⟩) (.inl (Ne.symm hpl)) h1,?_,stay0 _ _ _ (.inl ⟨rfl,by omega⟩) (.inl (Ne.symm hpl)) h3,?_,fun y hy=>?_,?_,?_,?_,by rw [hlen]; exact h9⟩,get⟩
 · rw [hlen]
   exact stay0 _ _ _ (.inl ⟨rfl,by omega⟩) (.inl (Ne.symm hpl)) h2
 · rw [List.map_cons,List.map_append]
   exact hR7
 · rcases List.mem_cons.1 hy with rfl | hy
   · exact ⟨hpl,hpm,stay0 _ _ _ (.inr ⟨hpl,by omega⟩) (.inr (by omega)) (h5 p (by simp)).2.2.1,stay _ _ _ (.inr ⟨hpl,by omega⟩) c0⟩
   · have hy':y∈u++p::w:=by
      rcases List.mem_append.1 hy with b | b
      · exact List.mem_append_left _ b
      · exact List.mem_append_right _ (List.mem_cons_of_mem _ b)
     obtain ⟨q1,q2,q3,q4⟩:=h5 y hy'
     have hyp:y.1≠p.1:=by
      rcases List.mem_append.1 hy with b | b
      · exact hpu _ (List.mem_map_of_mem b)
      · exact hpw _ (List.mem_map_of_mem b)
     exact ⟨q1,q2,stay0 _ _ _ (.inr ⟨q1,by omega⟩) (.inl hyp) q3,stay0 _ _ _ (.inr ⟨q1,by omega⟩) (.inl hyp) q4⟩
 · rw [List.map_cons,List.map_append,List.nodup_cons]
   exact ⟨nd2,nd1⟩
 · obtain ⟨m1,m2⟩:=xU h7
   rw [List.map_cons,List.map_append,List.nodup_cons]
   exact ⟨m2,m1⟩
 · refine (h8.same (get mi h0 fun y hy=>(h5 y hy).2.1)).re (fun y hy=>?_) (fun y hy=>?_)
   · rcases List.mem_append.1 hy with b | b
     · exact ⟨y,by simp [b],rfl,rfl⟩
     · rcases List.mem_cons.1 b with rfl | b
       · exact ⟨(y.1,y.2.1,v),by simp,rfl,rfl⟩
       · exact ⟨y,by simp [b],rfl,rfl⟩
   · rcases List.mem_cons.1 hy with rfl | hy
     · exact ⟨p,by simp,rfl⟩
     · rcases List.mem_append.1 hy with b | b
       · exact ⟨y,by simp [b],rfl⟩
       · exact ⟨y,by simp [b],rfl⟩
end Go.Proofs.Ytcdpmiebmhjmpaa.lr
end
section
set_option maxRecDepth 100000
set_option linter.unusedVariables false
namespace Go.Proofs.Ytcdpmiebmhjmpaa.lr
open Go Ev
variable {O O' O1 O2:T AObj} {N l mi cap:Nat} {G:T (T AV)} {L u w:List Ent} {k v:Int}
theorem zez {c c':AV}{xs:List Nat}(h:Ring O l xs)(hl:∀ x∈xs,x≠l)(b:But O O' l 1):Ring O' l xs:=by
 refine Lk.mono (fun y hy c hc=>b.1 _ _ _ ?_ hc) (fun y hy c hc=>b.1 _ _ _ ?_ hc) h
 · rw [← List.cons_append,List.dropLast_concat] at hy
   rcases List.mem_cons.1 hy with rfl | hm
   · right; show (3+1:Nat)≠1; omega
   · obtain ⟨i,hi,rfl⟩:=List.mem_map.1 hm
     left; exact hl i hi
 · rw [List.tail_cons] at hy
   rcases List.mem_append.1 hy with hm | hm
   · obtain ⟨i,hi,rfl⟩:=List.mem_map.1 hm
     left; exact hl i hi
   · obtain rfl:=List.mem_singleton.1 hm
     right; show (3:Nat)≠1; omega
theorem jX {xs:List Nat}(h:Ring O l xs)(e:∀ i,i=l∨i∈xs→O'.get i=O.get i):Ring O' l xs:=by
 refine Lk.mono (fun y hy c hc=>hc.same ?_) (fun y hy c hc=>hc.same ?_) h
 · rw [← List.cons_append,List.dropLast_concat] at hy
   rcases List.mem_cons.1 hy with rfl | hm
   · exact e _ (.inl rfl)
   · obtain ⟨i,hi,rfl⟩:=List.mem_map.1 hm
     exact e _ (.inr hi)
 · rw [List.tail_cons] at hy
   rcases List.mem_append.1 hy with hm | hm
   · obtain ⟨i,hi,rfl⟩:=List.mem_map.1 hm
     exact e _ (.inr hi)
   · obtain rfl:=List.mem_singleton.1 hm
     exact e _ (.inl rfl)
theorem LR.ids (h:LR O l mi cap L):∀ i∈L.map (·.1),i≠l∧i≠mi:=fun i hi=>by
 obtain ⟨y,hy,rfl⟩:=List.mem_map.1 hi
 exact ⟨(h.2.2.2.2.2.1 y hy).1,(h.2.2.2.2.2.1 y hy).2.1⟩
theorem add (h:LR O l mi cap L)(hl:l<N)(hm:mi<N)(hx:∀ x∈L,x.1<N)(hk:∀ x∈L,x.2.1≠k)(hlen:L.length<cap)(hc:L.length<1000000000)(G:T (T AV)) :
 ∃ (a:Ev.Node) (O1 O2 O3 O4 O5 O6 O7:T AObj),T.set (some (.cells (.node (.node (.node .leaf (some (.int .i64 v)) .leaf) (some .nilp) .leaf) (some .nilp) (.node .leaf (some (.int .i64 k)) .leaf)) 4 49 0 0 1 0 false .leaf)) O N=O1∧Cell O1 N 2 (.int .i64 k)∧Cell O1 l 2 (.mp mi) ∧
  yX P ⟨O1,N+1,G⟩ 44 (.mp mi) (.int .i64 k) (.ptr N 0 0)=some ⟨O2,N+1,G⟩∧Cell O2 l 1 (.int .i64 ((L.length:Nat):Int))∧zc ⟨O2,N+1,G⟩ l 0 1 [.int .i64 ((L.length+1:Nat):Int)]=some ⟨O3,N+1,G⟩∧Cell O3 l 4 (pt a) ∧
  zc ⟨O3,N+1,G⟩ N 0 0 [pt (l,3)]=some ⟨O4,N+1,G⟩∧zc ⟨O4,N+1,G⟩ N 0 1 [pt a]=some ⟨O5,N+1,G⟩∧Cell O5 N 1 (pt a) ∧
  zc ⟨O5,N+1,G⟩ a.1 0 a.2 [pt (nd N)]=some ⟨O6,N+1,G⟩∧zc ⟨O6,N+1,G⟩ l 0 4 [pt (nd N)]=some ⟨O7,N+1,G⟩ ∧
  LR O7 l mi cap ((N,k,v)::L)∧∀ j,j≠N→j≠l→j≠mi→(∀ y∈L,y.1≠j)→O7.get j=O.get j:=by
 have hids:=h.ids
 obtain ⟨h0,h1,h2,h3,h4,h5,h6,h7,h8,h9⟩:=h
 have hxN:∀ i∈L.map (·.1),i<N:=fun i hi=>by obtain ⟨y,hy,rfl⟩:=List.mem_map.1 hi; exact hx y hy
 have hNx:N ∉ L.map (·.1):=fun hi=>by have:=hxN N hi; omega
 obtain ⟨O1,s1,r1,f1⟩:=Row.mk (n:=4) (f:=q4 .nilp .nilp (.int .i64 k) (.int .i64 v)) (c:=(.node (.node (.node .leaf (some (.int .i64 v)) .leaf) (some .nilp) .leaf) (some .nilp) (.node .leaf (some (.int .i64 k)) .leaf))) (el:=49) O N (fun j hj=>by rcases j with _ | _ | _ | _ | j <;> first | rfl | omega)
 have g1:∀ j,j≠N→O1.get j=O.get j:=f1
 obtain ⟨O2,s2,m2,f2⟩:=(h8.same (g1 mi (by omega))).put (N:=N+1) (G:=G) hk N v
 have hlm:l≠mi:=Ne.symm h0
 have c2:∀ i j c,i≠N→i≠mi→Cell O i j c→Cell O2 i j c:=fun i j c a b hc=>(hc.same (g1 i a)).same (f2 i b)
 have n2:∀ j c,Cell O1 N j c→Cell O2 N j c:=fun j c hc=>hc.same (f2 N (by omega))
 have hl2:=c2 l 1 _ (by omega) hlm h2
 obtain ⟨O3,s3,d3,b3⟩:=hl2.store (v:=.int .i64 ((L.length+1:Nat):Int)) rfl (N+1) G
 have hR2:Ring O2 l (L.map (·.1)):=jX h4 fun i hi=>by
  rcases hi with rfl | hi
  · exact (f2 _ hlm).trans (g1 _ (by omega))
  · exact (f2 _ (hids i hi).2).trans (g1 _ (by have:=hxN i hi; omega))
 have hR3:Ring O3 l (L.map (·.1)):=zez (c:=.nilp) (c':=.nilp) hR2 (fun i hi=>(hids i hi).1) b3
 have hNl:N≠l:=by omega
 have q0:Cell O3 N 0 .nilp:=b3.1 _ _ _ (.inl hNl) (n2 _ _ (r1.cell (by omega)))
 have q1:Cell O3 N 1 .nilp:=b3.1 _ _ _ (.inl hNl) (n2 _ _ (r1.cell (by omega)))
 obtain ⟨a,O4,O5,O6,O7,ha,c3,s4,s5,c4,s6,s7,hR7,b4,b5,b6,b7⟩:=hR3.enter (fun i hi=>(hids i hi).1) hNx hNl q0 q1 h6 (N+1) G
 have ga:=ze2 ha fun i hi=>(hids i hi).1
 have gp:gd l (nd N):=.inr ⟨N,hNl,rfl⟩
 have stay:∀ i j c,dat l i j→Cell O3 i j c→Cell O7 i j c:=fun i j c hd hc =>
  za3 (x:=(l,3)) b7 (.inl rfl) hd (zaY b6 ga hd (za3 (x:=nd N) b5 gp hd (zaY (x:=nd N) b4 gp hd hc)))
 have stay0:∀ i j c,dat l i j→i≠N→i≠mi→(i≠l∨j≠1)→Cell O i j c→Cell O7 i j c:=fun i j c hd e1 e2 e3 hc=>stay i j c hd (b3.1 _ _ _ e3 (c2 _ _ _ e1 e2 hc))
 have get:∀ j,j≠N→j≠l→(∀ y∈L,y.1≠j)→O7.get j=O2.get j:=fun j hj hjl hy=>by
  have hja:j≠a.1:=zce ha hjl fun i hi=>by obtain ⟨y,hm,rfl⟩:=List.mem_map.1 hi; exact hy y hm
  exact (b7.2 j hjl).trans ((b6.2 j hja).trans ((b5.2 j hj).trans ((b4.2 j hj).trans (b3.2 j hjl))))
 refine ⟨a,O1,O2,O3,O4,O5,O6,O7,s1,r1.cell (by omega),h3.same (g1 l (by omega)),s2,hl2,s3,c3,s4,s5,c4,s6,s7,⟨h0,stay0 _ _ _ (.inl ⟨rfl,by omega⟩) (by omega) hlm (.inr (by omega)) h1,stay _ _ _ (.inl ⟨rfl,by omega⟩) d3,stay0 _ _ _ (.inl ⟨rfl,by omega⟩) (by omega) hlm (.inr (by omega)) h3,hR7,fun y hy=>?_,?_,?_,?_,by show L.length+1≤cap; omega⟩,fun j e1 e2 e3 e4=>(get j e1 e2 e4).trans ((f2 j e3).trans (g1 j e1))⟩
 · rcases List.mem_cons.1 hy with rfl | hy
   · exact ⟨hNl,by show N≠mi; omega,stay _ _ _ (.inr ⟨hNl,by omega⟩) (b3.1 _ _ _ (.inl hNl) (n2 _ _ (r1.cell (by omega)))),stay _ _ _ (.inr ⟨hNl,by omega⟩) (b3.1 _ _ _ (.inl hNl) (n2 _ _ (r1.cell (by omega))))⟩
   · obtain ⟨p1,p2,p3,p4⟩:=h5 y hy
     have:=hx y hy
     exact ⟨p1,p2,stay0 _ _ _ (.inr ⟨p1,by omega⟩) (by omega) p2 (.inl p1) p3,stay0 _ _ _ (.inr ⟨p1,by omega⟩) (by omega) p2 (.inl p1) p4⟩
 · rw [List.map_cons,List.nodup_cons]
   exact ⟨hNx,h6⟩
 · rw [List.map_cons,List.nodup_cons]
   refine ⟨fun hm=>?_,h7⟩
   obtain ⟨y,hy,e⟩:=List.mem_map.1 hm
   exact hk y hy e
 · exact m2.same (get mi (by omega) h0 fun y hy=>(h5 y hy).2.1)
theorem zf2 {p:Nat}{us:List Nat}(h:Ring O l (us++[p])):Cell O l 3 (pt (nd p)):=by
 unfold Ring at h
 rw [List.map_append,List.append_assoc,← List.cons_append] at h
 have h':Lk O (((l,3)::us.map nd)++nd p::[(l,3)]):=h
 rw [Lk.app,Lk.two] at h'
 exact h'.2.1.2
theorem drop {y:Ent}(h:LR O l mi cap (u++[y]))(hc:(u++[y]).length<1000000000)(N:Nat)(G:T (T AV)) :
 ∃ (e n:Ev.Node) (O1 O2 O3 O4:T AObj),Cell O l 3 (pt (nd y.1))∧Cell O y.1 2 (.int .i64 y.2.1)∧zg P ⟨O,N,G⟩ .delete (some 44) (some 3) [.mp mi,.int .i64 y.2.1]=some (.val (.tup []) ⟨O1,N,G⟩) ∧
  Cell O1 l 1 (.int .i64 (((u++[y]).length:Nat):Int))∧zc ⟨O1,N,G⟩ l 0 1 [.int .i64 ((u.length:Nat):Int)]=some ⟨O2,N,G⟩∧Cell O2 y.1 1 (pt e)∧Cell O2 y.1 0 (pt n) ∧
  zc ⟨O2,N,G⟩ e.1 0 e.2 [pt n]=some ⟨O3,N,G⟩∧zc ⟨O3,N,G⟩ n.1 0 (n.2+1) [pt e]=some ⟨O4,N,G⟩∧LR O4 l mi cap u∧∀ j,j≠l→j≠mi→(∀ x∈u++[y],x.1≠j)→O4.get j=O.get j:=by
 have hids:=h.ids
 obtain ⟨h0,h1,h2,h3,h4,h5,h6,h7,h8,h9⟩:=h
 have h8':MapOk O mi (u++y::[]):=h8
 have hlm:l≠mi:=Ne.symm h0
 rw [List.map_append,List.map_cons,List.map_nil] at h4 h6 h7 hids
 obtain ⟨nd1,nd2⟩:=xU h6
 obtain ⟨nk1,nk2⟩:=xU h7
 rw [List.append_nil] at nd1 nd2 nk1 nk2
 obtain ⟨O1,s1,m1,f1⟩:=h8'.del (N:=N) (G:=G) u [] (fun z hz e=>nk2 (by rw [List.append_nil] at hz; rw [← e]; exact List.mem_map_of_mem hz)) (fun z hz e=>by
  rcases List.mem_append.1 hz with b | b
  · exact absurd (List.mem_map_of_mem b) (fun hh=>nd2 (e▸hh))
  · exact List.mem_singleton.1 b)
 rw [List.append_nil] at m1
 obtain ⟨y1,y2,y3,y4⟩:=h5 y (by simp)
 have c1:∀ i j c,i≠mi→Cell O i j c→Cell O1 i j c:=fun i j c a hc=>hc.same (f1 i a)
 have hl1:=c1 l 1 _ hlm h2
 obtain ⟨O2,s2,d2,b2⟩:=hl1.store (v:=.int .i64 ((u.length:Nat):Int)) rfl N G
 have hR1:Ring O1 l (u.map (·.1)++[y.1]):=jX h4 fun i hi=>by
  rcases hi with rfl | hi
  · exact f1 _ hlm
  · exact f1 _ (hids i hi).2
 have hR2:Ring O2 l (u.map (·.1)++y.1::[]):=zez (c:=.nilp) (c':=.nilp) hR1 (fun i hi=>(hids i hi).1) b2
 obtain ⟨e,n,O3,O4,he,hn,k1,k2,s3,s4,hR4,b3,b4⟩:=hR2.leave h6 (fun i hi=>(hids i hi).1) N G
 rw [List.append_nil] at hR4
 have hul:∀ i∈u.map (·.1),i≠l:=fun i hi=>(hids i (List.mem_append_left _ hi)).1
 have ge:gd l e:=ze2 he fun i hi=>absurd hi List.not_mem_nil
 have gn:=ze2 hn hul
 have stay:∀ i j c,dat l i j→Cell O2 i j c→Cell O4 i j c:=fun i j c hd hc=>za3 b4 gn hd (zaY b3 ge hd hc)
 have stay0:∀ i j c,dat l i j→i≠mi→(i≠l∨j≠1)→Cell O i j c→Cell O4 i j c:=fun i j c hd e2 e3 hc=>stay i j c hd (b2.1 _ _ _ e3 (c1 _ _ _ e2 hc))
 have get:∀ j,j≠l→(∀ x∈u++[y],x.1≠j)→O4.get j=O1.get j:=fun j hjl hx=>by
  have hjn:j≠n.1:=zce hn hjl fun i hi=>by obtain ⟨z,hm,rfl⟩:=List.mem_map.1 hi; exact hx z (by simp [hm])
  have hje:j≠e.1:=zce he hjl fun i hi=>absurd hi List.not_mem_nil
  exact (b4.2 j hjn).trans ((b3.2 j hje).trans (b2.2 j hjl))
 refine ⟨e,n,O1,O2,O3,O4,zf2 h4,y3,s1,hl1,s2,k1,k2,s3,s4,⟨h0,stay0 _ _ _ (.inl ⟨rfl,by omega⟩) hlm (.inr (by omega)) h1,stay _ _ _ (.inl ⟨rfl,by omega⟩) d2,stay0 _ _ _ (.inl ⟨rfl,by omega⟩) hlm (.inr (by omega)) h3,hR4,fun x hx=>?_,nd1,nk1,m1.same (get mi h0 fun x hx=>(h5 x hx).2.1),?_⟩,fun j e1 e2 e3=>(get j e1 e3).trans (f1 j e2)⟩
 · obtain ⟨p1,p2,p3,p4⟩:=h5 x (List.mem_append_left _ hx)
   exact ⟨p1,p2,stay0 _ _ _ (.inr ⟨p1,by omega⟩) p2 (.inl p1) p3,stay0 _ _ _ (.inr ⟨p1,by omega⟩) p2 (.inl p1) p4⟩
 · rw [List.length_append] at h9
   omega
end Go.Proofs.Ytcdpmiebmhjmpaa.lr
end
section
set_option maxRecDepth 100000
set_option linter.unusedVariables false
namespace Go.Proofs.Ytcdpmiebmhjmpaa.lr
open Go Ev
def zdE (cap:Nat) (k v:Int) (ps:List (Int × Int)):List (Int × Int):=if cap=0 then ps else (k,v)::(ps.filter fun q=>!(q.1==k)).take (cap - 1)
theorem zeF {k:Int}{us ws:List (Int × Int)}{q:Int × Int}(hq:q.1=k)(hu:∀ x∈us++ws,x.1≠k):(us++q::ws).filter (fun q=>!(q.1==k))=us++ws:=by
 have h1:∀ l:List (Int × Int),(∀ x∈l,x.1≠k)→l.filter (fun q=>!(q.1==k))=l:=fun l h=>List.filter_eq_self.2 fun x hx=>by
  have:=beq_eq_false_iff_ne.2 (h x hx)
  simp only [this,Bool.not_false]
 rw [List.filter_append,List.filter_cons,h1 us fun x hx=>hu x (List.mem_append_left _ hx),h1 ws fun x hx=>hu x (List.mem_append_right _ hx)]
 have:(q.1==k)=true:=by rw [hq,beq_self_eq_true]
 simp [this]
theorem yJ {k:Int}{l:List (Int × Int)}(h:∀ x∈l,x.1≠k):l.filter (fun q=>!(q.1==k))=l:=List.filter_eq_self.2 fun x hx=>by
 have:=beq_eq_false_iff_ne.2 (h x hx)
 simp only [this,Bool.not_false]
variable {O:T AObj} {N l mi cap:Nat} {G:T (T AV)} {L:List Ent} {k v:Int}
theorem zbW {x:Ent}:∀ {L:List Ent},x∈L→∃ u w,L=u++x::w
 | [],h=>absurd h List.not_mem_nil
 | a::r,h=>by
  rcases List.mem_cons.1 h with rfl | h
  · exact ⟨[],r,rfl⟩
  · obtain ⟨u,w,e⟩:=zbW h
    exact ⟨a::u,w,by rw [e]; rfl⟩
theorem zkf (h:LR O l mi cap L)(hl:l<N)(hm:mi<N)(hx:∀ x∈L,x.1<N)(hc:L.length<1000000000){keep:Nat}{f0:FuncId}{Q:AV→AHeap→Prop}{rest:List AFrame}
 (hK:∀ (O':T AObj) (N':Nat) (L':List Ent) (td:List AItem),LR O' l mi cap L'→N≤N'→(∀ x∈L',x.1<N'∧(x.1=N∨∃ y∈L,y.1=x.1))→L'.map (·.2)=zdE cap k v (L.map (·.2))→(∀ j,j<N→j≠l→j≠mi→(∀ y∈L,y.1≠j)→O'.get j=O.get j)→Goal P keep f0 Q (AM.mk (RF 10 53 .leaf td) rest ⟨O',N',G⟩)) :
 Goal P keep f0 Q (AM.mk (enF 10 [.ptr l 0 0,.int .i64 k,.int .i64 v]) rest ⟨O,N,G⟩):=by
 have h':=h
 obtain ⟨h0,h1,h2,h3,h4,h5,h6,h7,h8,h9⟩:=h
 by_cases hz:cap=0
 · subst hz
   have hL:L=[]:=List.eq_nil_of_length_eq_zero (by omega)
   subst hL
   exact (Obl.goal mix (K:=Goal P keep f0 Q) (fun _ h=>h) (cast (q_pz Q keep f0 rest k v (((0:Nat):Int)) O N l G ((Goal P keep f0 Q))).symm ⟨h1.load _ _,rfl,hK O N [] _ h' (Nat.le_refl _) (fun x hx=>absurd hx List.not_mem_nil) rfl (fun j _ _ _ _=>rfl)⟩))
 have hcz:(((cap:Nat):Int)==(0:Int))=false:=by rw [beq_eq_false_iff_ne]; omega
 by_cases hin:∃ x∈L,x.2.1=k
 · obtain ⟨p,hp,hpk⟩:=hin
   obtain ⟨u,w,rfl⟩:=zbW hp
   have hpl:=(h5 p hp).1
   obtain ⟨O1,s0,d0,b0⟩:=(h5 p hp).2.2.2.store (v:=.int .i64 v) rfl N G
   obtain ⟨e,n,a,O2,O3,O4,O5,O6,O7,c1,c2,s1,s2,c3,s3,s4,c4,s5,s6,hLR,hget⟩:=move h' O1 b0 d0 N G
   have hlook:=h8.hit (N:=N) (G:=G) hp hpk fun y hy e=>zes h7 p hp y hy e
   rw [List.map_append,List.map_cons] at h7
   obtain ⟨m1,m2⟩:=xU h7
   refine (Obl.goal mix (K:=Goal P keep f0 Q) (fun _ h=>h) (cast (q_ph Q keep f0 rest k v (((cap:Nat):Int)) O O1 O2 O3 O4 O5 O6 O7 N l (p.1) (a.1) (a.2) (e.1) (e.2) (n.1) (n.2) mi G ((Goal P keep f0 Q))).symm ⟨h1.load _ _,hcz,kA,h3.load _ _,hlook,s0,c1.load _ _,c2.load _ _,c2.load _ _,c1.load _ _,s1,s2,c3.load _ _,s3,s4,c4.load _ _,s5,s6,hK O7 N _ _ hLR (Nat.le_refl _) (fun x hx'=>?_) ?_ (fun j _ e1 _ e3=>hget j e1 e3)⟩))
   · have:∃ y∈u++p::w,y.1=x.1:=by
      rcases List.mem_cons.1 hx' with rfl | hx'
      · exact ⟨p,hp,rfl⟩
      · refine ⟨x,?_,rfl⟩
        rcases List.mem_append.1 hx' with b | b
        · exact List.mem_append_left _ b
        · exact List.mem_append_right _ (List.mem_cons_of_mem _ b)
     obtain ⟨y,hy,e⟩:=this
     exact ⟨by have:=hx y hy; omega,.inr ⟨y,hy,e⟩⟩
   · unfold zdE
     rw [if_neg hz,List.map_cons,List.map_append,List.map_append,List.map_cons,zeF hpk ?_]
     · rw [List.take_of_length_le,hpk]
       simp only [List.length_append,List.length_cons,List.length_map] at h9 ⊢
       omega
     · intro q hq
       rw [← List.map_append] at hq
       obtain ⟨z,hz,rfl⟩:=List.mem_map.1 hq
       intro hzk
       rw [← List.map_append] at m2
       exact m2 (by rw [← hpk] at hzk; exact hzk▸List.mem_map_of_mem (f:=fun x:Ent=>x.2.1) hz)
 · have hk:∀ x∈L,x.2.1≠k:=fun x hx e=>hin ⟨x,hx,e⟩
   have hlook:=(h8.miss (N:=N) (G:=G) hk).1
   have hkq:∀ q∈L.map (·.2),q.1≠k:=fun q hq=>by obtain ⟨z,hz,rfl⟩:=List.mem_map.1 hq; exact hk z hz
   by_cases hful:L.length<cap
   · obtain ⟨a,O1,O2,O3,O4,O5,O6,O7,s1,c1,c2,s2,c3,s3,c4,s4,s5,c5,s6,s7,hLR,hget⟩:=add (v:=v) h' hl hm hx hk hful hc G
     have wk:IntKind.i64.wrap (((L.length:Nat):Int)+(1:Int))=((L.length+1:Nat):Int):=by rw [IntKind.wrap_i64]; omega
     refine (Obl.goal mix (K:=Goal P keep f0 Q) (fun _ h=>h) (cast (q_pr Q keep f0 rest k v (((cap:Nat):Int)) (((L.length:Nat):Int)) O O1 O2 O3 O4 O5 O6 O7 N l (a.1) (a.2) mi G ((Goal P keep f0 Q))).symm ⟨h1.load _ _,hcz,kA,h3.load _ _,hlook,h2.load _ _,h1.load _ _,decide_eq_false (by omega),s1,c1.load _ _,kA,c2.load _ _,c1.load _ _,s2,c3.load _ _,by rw [wk]; exact s3,c4.load _ _,s4,s5,c5.load _ _,s6,s7,hK O7 (N+1) _ _ hLR (Nat.le_succ _) (fun x hx'=>?_) ?_ (fun j hj e1 e2 e3=>hget j (by omega) e1 e2 e3)⟩))
     · rcases List.mem_cons.1 hx' with rfl | hx'
       · exact ⟨Nat.lt_succ_self _,.inl rfl⟩
       · exact ⟨by have:=hx x hx'; omega,.inr ⟨x,hx',rfl⟩⟩
     · unfold zdE
       rw [if_neg hz,List.map_cons,yJ hkq,List.take_of_length_le]
       rw [List.length_map]
       omega
   · have hlen:L.length=cap:=by omega
     obtain ⟨u,y,rfl⟩:∃ u y,L=u++[y]:=⟨L.dropLast,L.getLast (fun e=>by rw [e] at hlen; exact hz hlen.symm),(List.dropLast_concat_getLast _).symm⟩
     obtain ⟨e,n,O1,O2,O3,O4,c1,c2,s1,c3,s2,c4,c5,s3,s4,hLR4,hget4⟩:=drop h' hc N G
     have hx4:∀ x∈u,x.1<N:=fun x hx'=>hx x (List.mem_append_left _ hx')
     have hul:u.length<cap:=by rw [List.length_append] at hlen; simp only [List.length_cons,List.length_nil] at hlen; omega
     obtain ⟨a,P1,P2,P3,P4,P5,P6,P7,t1,k1,k2,t2,k3,t3,k4,t4,t5,k5,t6,t7,hLR,hget⟩:=add (v:=v) hLR4 hl hm hx4 (fun x hx'=>hk x (List.mem_append_left _ hx')) hul (by rw [List.length_append] at hc; omega) G
     have e1:(((u++[y]).length:Nat):Int)=((u.length+1:Nat):Int):=by rw [List.length_append]; rfl
     have wd:IntKind.i64.wrap ((((u++[y]).length:Nat):Int) - (1:Int))=((u.length:Nat):Int):=by rw [e1,IntKind.wrap_i64]; omega
     have wk:IntKind.i64.wrap (((u.length:Nat):Int)+(1:Int))=((u.length+1:Nat):Int):=by rw [IntKind.wrap_i64]; omega
     refine (Obl.goal mix (K:=Goal P keep f0 Q) (fun _ h=>h) (cast (q_pe Q keep f0 rest k v (((cap:Nat):Int)) ((((u++[y]).length:Nat):Int)) (y.2.1) O O1 O2 O3 O4 P1 P2 P3 P4 P5 P6 P7 N l (a.1) (a.2) (e.1) (e.2) (n.1) (n.2) mi (y.1) G ((Goal P keep f0 Q))).symm ⟨h1.load _ _,hcz,kA,h3.load _ _,hlook,h2.load _ _,h1.load _ _,decide_eq_true (by omega),c1.load _ _,c2.load _ _,kA,h3.load _ _,c2.load _ _,s1,c3.load _ _,by rw [wd]; exact s2,c4.load _ _,c5.load _ _,c5.load _ _,c4.load _ _,s3,s4,t1,k1.load _ _,kA,k2.load _ _,k1.load _ _,t2,by rw [wd]; exact k3.load _ _,by rw [wd,wk]; exact t3,k4.load _ _,t4,t5,k5.load _ _,t6,t7,hK P7 (N+1) _ _ hLR (Nat.le_succ _) (fun x hx'=>?_) ?_ (fun j hj e1 e2 e3=>(hget j (by omega) e1 e2 (fun z hz=>e3 z (List.mem_append_left _ hz))).trans (hget4 j e1 e2 e3))⟩))
     · rcases List.mem_cons.1 hx' with rfl | hx'
       · exact ⟨Nat.lt_succ_self _,.inl rfl⟩
       · exact ⟨by have:=hx4 x hx'; omega,.inr ⟨x,List.mem_append_left _ hx',rfl⟩⟩
     · unfold zdE
       rw [if_neg hz,List.map_cons,yJ hkq,List.map_append,List.take_append_of_le_length,List.take_of_length_le]
       · rw [List.length_map]; omega
       · rw [List.length_map]; omega
end Go.Proofs.Ytcdpmiebmhjmpaa.lr
end
