import Derived.Carry
import Derived.ChangeSlices
import Derived.SliceStrings
import Derived.Deep.Slices
import Derived.Test.YtehelionjafnkaaChecked
import Derived.Test.YtehelionjafnkaaP00
import Derived.Test.YtehelionjafnkaaP01
import Derived.Test.YtehelionjafnkaaP02
import Derived.Test.YtehelionjafnkaaP03
section
namespace Go.Proofs.Ytehelionjafnkaa.Ev
open Go
noncomputable section
variable (P:Program)
def zf1 (c:T AV) (off n:Nat) (f:Nat→Option AV):T AV:=.fn fun k=>bif Nat.ble off k&&Nat.blt k (off+n) then f (k - off) else c.get k
def zeK (h:AHeap) (id ver off n size:Nat):Option ((Nat→Option AV) × Prop):=match h.get id with
 | some (.ro c lo m)=>bif Nat.beq ver 0 then some (fun k=>c.get (off+k),(lo≤off∧off+n*size≤m)∧∀ k,k<n*size→∃ v,c.get (off+k)=some v∧AV.one v=true) else none
 | some (.cells c m _ lo hi _ _ _ ex)=>match zm ex m hi ver with
  | none=>none
  | some e=>bif Nat.ble lo ver&&Nat.ble ver hi then some (fun k=>c.get (off+k),off+n*size≤e∧∀ k,k<n*size→∃ v,c.get (off+k)=some v∧AV.one v=true) else none
 | _=>none
def zaF (h:AHeap) (size n:Nat) (x:AV):Option ((Nat→Option AV) × Prop):=match x with
 | .str s=>bif Nat.beq size 1 then some (fun k=>some (.int .u8 (s.getD k 0).toNat),n≤s.length) else none
 | .slc id ver off _ _=>zeK h id ver off n size
 | .slg id ver off _ _=>zeK h id ver off n size
 | _=>none
def srcW (h:AHeap) (size bytes:Nat) (z:AV) (zeros:Bool) (x:AV):Option (Nat × (Nat→Option AV) × Prop):=match zeros with
 | true=>match x with
  | .int _ l=>bif Nat.beq size 1 then some (l.toNat,fun _=>z.cells.head?,(0≤l∧l<2 ^ 40)∧l.toNat*bytes≤2 ^ 48) else none
  | _=>none
 | false=>match zap x with
  | none=>none
  | some n=>match zaF h size n x with
   | none=>none
   | some (f,p)=>some (n,f,p)
def zg8 (h:AHeap) (size id ver off sLen cap n:Nat) (f:Nat→Option AV) (p:Prop):Option (AR × Prop):=match h.get id with
 | some (.cells c m el lo hi nv fz sg ex)=>match zm ex m hi ver with
  | none=>none
  | some e=>bif Nat.ble lo ver&&Nat.ble ver hi then
   some (.val (.slc id ver off (sLen+n) cap) (h.put id (.cells (zf1 c (off+sLen*size) (n*size) f) e el ver ver nv fz sg ex)),
    p∧sLen+n≤cap∧off+sLen*size+n*size≤e∧fz≤off+sLen*size∧match Nat.beq lo ver&&Nat.beq hi ver with
     | true=>True
     | false=>0<n)
   else none
 | _=>none
def zlE (h:AHeap) (el:TypeId) (bytes size n:Nat) (f:Nat→Option AV) (p:Prop):Option (AR × Prop) :=
 some (.val (.slg h.next 0 0 n 0) (h.new (.cells (.fn f) (n*size) el 0 0 1 0 false .leaf)),p∧0<n∧zdp n bytes=true)
def zlL (h:AHeap) (el:TypeId) (bytes size id ver off sLen cap n:Nat) (f:Nat→Option AV) (p:Prop):Option (AR × Prop):=match zeK h id ver off sLen size with
 | none=>none
 | some (g,q)=>some (.val (.slg h.next 0 0 (sLen+n) 0) (h.new (.cells (.fn fun k=>bif Nat.blt k (sLen*size) then g k else f (k - sLen*size)) (sLen*size+n*size) el 0 0 1 0 false .leaf)),
  p∧q∧0<n∧cap<sLen+n∧zdp (sLen+n) bytes=true)
def zm4 (h:AHeap) (el:TypeId) (bytes size id ver off sLen st n:Nat) (f:Nat→Option AV) (p:Prop):Option (AR × Prop):=match h.get id with
 | some (.cells c m el' lo hi nv fz sg ex)=>match zm ex m hi ver with
  | none=>none
  | some e=>bif Nat.ble lo ver&&Nat.ble ver hi&&Nat.beq el' el&&Nat.blt hi nv then
   some (.val (.slg id nv off (sLen+n) st) (h.put id (.cells (zf1 c (off+sLen*size) (n*size) f) (off+sLen*size+n*size) el nv nv (nv+1) fz sg ex)),
    p∧0<n∧off+sLen*size≤e∧fz≤off+sLen*size∧off=st*size∧zdp (sLen+n) bytes=true∧e<off+(sLen+n)*size)
   else none
 | _=>none
def zlA (h:AHeap) (el:TypeId) (size id ver off sLen st n:Nat) (f:Nat→Option AV) (p:Prop):Option (AR × Prop):=match h.get id with
 | some (.cells c m el' lo hi nv fz sg ex)=>match zm ex m hi ver with
  | none=>none
  | some e=>bif Nat.ble lo ver&&Nat.ble ver hi&&Nat.beq el' el then
   some (.val (.slg id ver off (sLen+n) st) (h.put id (.cells (zf1 c (off+sLen*size) (n*size) f) e el' ver ver nv fz sg ex)),
    p∧0<n∧off+(sLen+n)*size≤e∧off+sLen*size+n*size≤e∧fz≤off+sLen*size∧off=st*size)
   else none
 | _=>none
def zfz (moved:Bool) (h:AHeap) (t:TypeId) (zeros:Bool) (s x:AV):Option (AR × Prop):=match P.underlying t with
 | some (.slice el)=>match P.info? el with
  | none=>none
  | some i=>match yT P el with
   | none=>none
   | some z=>match Nat.blt 0 i.size&&Nat.beq z.cells.length i.size&&z.cells.all AV.one with
    | false=>none
    | true=>match srcW h i.size i.bytes z zeros x with
     | none=>none
     | some (n,f,p)=>match s with
      | .nils 0 0=>zlE h el i.bytes i.size n f p
      | .slc id ver off sLen cap=>match moved with
       | false=>zg8 h i.size id ver off sLen cap n f p
       | true=>zlL h el i.bytes i.size id ver off sLen cap n f p
      | .slg id ver off sLen st=>match moved with
       | false=>zm4 h el i.bytes i.size id ver off sLen st n f p
       | true=>zlA h el i.size id ver off sLen st n f p
      | _=>none
 | _=>none
def vj (h:AHeap) (id ver off:Nat) (n:Nat) (f:Nat→Option AV) (r:AHeap→AR) (p:Prop):Option (AR × Prop):=match h.get id with
 | some (.cells c m el lo hi nv fz sg ex)=>match zm ex m hi ver with
  | none=>none
  | some e=>bif Nat.ble lo ver&&Nat.ble ver hi then
   some (r (h.put id (.cells (zf1 c off n f) e el ver ver nv fz sg ex)),p∧off+n≤e∧fz≤off)
   else none
 | _=>none
def putW (h:AHeap) (id ver off:Nat) (v:AV):Option (AR × Prop):=match h.get id with
 | some (.cells c m el lo hi nv fz sg ex)=>match zm ex m hi ver with
  | none=>none
  | some e=>bif Nat.ble lo ver&&Nat.ble ver hi then
   some (.skip (h.put id (.cells (.fn fun k=>bif Nat.beq k off then some v else c.get k) e el ver ver nv fz sg ex)),off+1≤e∧fz≤off)
   else none
 | _=>none
def zdk (h:AHeap) (t:TypeId) (p v:AV):Option (AR × Prop):=match p with
 | .ptr id ver off=>match P.info? t with
  | none=>none
  | some i=>match Nat.beq v.cells.length i.size&&v.cells.all AV.one with
   | false=>none
   | true=>match v.cells with
    | [x]=>putW h id ver off x
    | l=>vj h id ver off l.length (fun k=>l[k]?) .skip True
 | _=>none
def zms (h:AHeap) (t:TypeId) (dst src:AV):Option (AR × Prop):=match P.underlying t with
 | some (.slice el)=>match xW P el with
  | none=>none
  | some s=>match zU dst with
   | none=>none
   | some dn=>match zap src with
    | none=>none
    | some sn=>match zaF h s (Nat.min sn dn) src with
     | none=>none
     | some (f,p)=>match dst with
      | .slc id ver off _ _=>vj h id ver off (Nat.min sn dn*s) f (fun h=>.val (.int .i64 (Nat.min sn dn:Nat)) h) p
      | .slg id ver off _ _=>vj h id ver off (Nat.min sn dn*s) f (fun h=>.val (.int .i64 (Nat.min sn dn:Nat)) h) p
      | _=>none
 | _=>none
def zlW (h:AHeap) (t:TypeId) (len cap:AV):Option (AR × Prop):=match P.underlying t with
 | some (.slice el)=>match len with
  | .int _ l=>match cap with
   | .int _ c=>match P.info? el with
    | none=>none
    | some i=>match yT P el with
     | none=>none
     | some z=>match Nat.beq i.size 1&&Nat.beq z.cells.length 1&&z.cells.all AV.one with
      | false=>none
      | true=>some (.val (.slc h.next 0 0 l.toNat c.toNat) (h.new (.cells (.fn fun _=>z.cells.head?) c.toNat el 0 0 1 0 false .leaf)),0≤l∧l≤c∧c<2 ^ 40∧i.bytes*c≤2 ^ 48)
   | _=>none
  | _=>none
 | _=>none
def zkh (h:AHeap) (t:TypeId) (x:AV):Option (AR × Prop):=match P.underlying t with
 | some (.slice el)=>match yT P el with
  | none=>none
  | some z=>match z.cells.all AV.one with
   | false=>none
   | true=>match x with
    | .slc id ver off n _=>vj h id ver off (n*z.cells.length) (fun k=>z.cells[k % z.cells.length]?) (fun h=>.val (.tup []) h) (0<n)
    | .slg id ver off n _=>vj h id ver off (n*z.cells.length) (fun k=>z.cells[k % z.cells.length]?) (fun h=>.val (.tup []) h) (0<n)
    | _=>none
 | _=>none
def opW (moved:Bool) (ρ:Operand→Option AV) (h:AHeap) (o:Op):Option (AR × Prop):=match o with
 | .store t a x=>zki ρ a x fun p v=>zdk P h t p v
 | .makeSlice t l c=>zki ρ l c fun a b=>zlW P h t a b
 | .call c=>match y9 ρ c.args.toList with
  | none=>none
  | some args=>match c.callee with
   | .builtin b=>match b with
    | .append=>match c.argTypes[0]? with
     | none=>none
     | some t=>match c.argTypes[1]? with
      | none=>none
      | some u=>match wg P u with
       | none=>none
       | some z=>match zib args with
        | none=>none
        | some (s,x)=>zfz P moved h t z s x
    | .copy=>match c.argTypes[0]? with
     | none=>none
     | some t=>match zib args with
      | none=>none
      | some (d,s)=>zms P h t d s
    | .clear=>match c.argTypes[0]? with
     | none=>none
     | some t=>match args with
      | [x]=>zkh P h t x
      | _=>none
    | _=>none
   | _=>none
 | _=>none
def zi5 (fr:AFrame) (o:Oper):Bool:=match fr.todo with
 | .drw _ _ _::_=>yh P o
 | _=>true
def OpWK [XT P] (moved:Bool) (m:AM) (K:AM→Prop):Prop:=match m with
 | ⟨fr,rest,h⟩=>match fr.mode with
  | .run=>match kG fr with
   | none=>False
   | some (all,o)=>match zB all fr.tmps o.guard with
    | some true=>match zi5 P fr o with
     | false=>False
     | true=>match opW P moved (ev fr.tmps) h o.op with
      | none=>False
      | some (r,p)=>p∧zkm P fr rest h r K
    | _=>False
  | _=>False
end
section
variable {P:Program}
def LessH (P:Program) (id:Nat) (hE hW:AHeap):Prop:=∃ (oE oW:AObj),hE.get id=some oE∧hW.next=hE.next∧hW.glob=hE.glob∧(∀ i,hW.get i=if i=id then some oW else hE.get i) ∧
 oE.isRo=false∧oW.isRo=false∧∀ (R:Bij) (w:World),ObjRel P R w id oE→ObjRel P R w id oW
theorem HRel.less {B:Base}{R:Bij}{w:World}{id:Nat}{hE hW:AHeap}(e:LessH P id hE hW)(hp:B.pend id=none)(kh:HRel P B R hE w):HRel P B R hW w:=by
 obtain ⟨o,o',hobj,hnext,hglob,hget,hro,hro',hsw⟩:=e
 refine ⟨fun i hi=>kh.fresh i (by rw [← hnext]; exact hi),fun i x eo hpe=>?_,fun i x eo=>?_,kh.place,fun i hi=>⟨by rw [hnext]; exact (kh.rd i hi).1,fun x eo=>?_⟩,kh.rp,kh.rol,kh.low,kh.pin,kh.apart,kh.same,fun g c e=>kh.glob g c (by rw [← hglob]; exact e)⟩
 · rw [hget] at eo
   split at eo
   · rename_i hi
     subst hi
     cases eo
     exact hsw R w (kh.obj i _ hobj hpe)
   · exact kh.obj i x eo hpe
 · obtain ⟨h1,h2,h3⟩:=kh.pend i x eo
   refine ⟨by rw [hnext]; exact h1,?_,h3⟩
   rw [hget,if_neg (fun h=>by rw [h,hp] at eo; cases eo)]
   exact h2
 · rw [hget] at eo
   split at eo
   · rename_i hi'
     subst hi'
     cases eo
     have:=(kh.rd i hi).2 _ hobj
     rw [hro] at this; cases this
   · exact (kh.rd i hi).2 x eo
theorem LessH.put {h:AHeap}{id:Nat}{oE oW:AObj}(h1:oE.isRo=false)(h2:oW.isRo=false)(hsw:∀ (R:Bij) (w:World),ObjRel P R w id oE→ObjRel P R w id oW):LessH P id (h.put id oE) (h.put id oW):=by
 obtain ⟨objs,next,glob⟩:=h
 refine ⟨oE,oW,?_,rfl,rfl,fun i=>?_,h1,h2,hsw⟩
 · show (objs.set (some oE) id).get id=_
   rw [T.get_set,if_pos rfl]
 · show (objs.set (some oW) id).get i=if i=id then some oW else (objs.set (some oE) id).get i
   rw [T.get_set,T.get_set]
   split <;> rfl
theorem LessH.new {h:AHeap}{oE oW:AObj}(h1:oE.isRo=false)(h2:oW.isRo=false)(hsw:∀ (R:Bij) (w:World),ObjRel P R w h.next oE→ObjRel P R w h.next oW):LessH P h.next (h.new oE) (h.new oW):=by
 obtain ⟨objs,next,glob⟩:=h
 refine ⟨oE,oW,?_,rfl,rfl,fun i=>?_,h1,h2,hsw⟩
 · show (objs.set (some oE) next).get next=_
   rw [T.get_set,if_pos rfl]
 · show (objs.set (some oW) next).get i=if i=next then some oW else (objs.set (some oE) next).get i
   rw [T.get_set,T.get_set]
   split <;> rfl
theorem zcG {i:Nat}{cE cW:T AV}{n:Nat}{el:TypeId}{lo lo' hi nv fz:Nat}{sg:Bool}{ex ex':T Nat}(hle:∀ k v,k<n→cW.get k=some v→cE.get k=some v)(h1:lo≤lo')(h2:lo'≤hi)
 (hx:∀ r e,lo'≤r→r≤hi→zm ex' n hi r=some e→zm ex n hi r=some e) (R:Bij) (w:World) (k:ObjRel P R w i (.cells cE n el lo hi nv fz sg ex)):ObjRel P R w i (.cells cW n el lo' hi nv fz sg ex'):=by
 obtain ⟨a1,a2,a3,a4,a5⟩:=k
 refine ⟨h2,a2,a3,fun r e b1 b2 b3=>?_,fun r e b1 b2 b3=>a5 r e (Nat.le_trans h1 b1) b2 (hx r e b1 b2 b3)⟩
 have b3':=hx r e b1 b2 b3
 obtain ⟨L,g1,cs,a,b,c1,c2,c3,c4,c5⟩:=a4 r e (Nat.le_trans h1 b1) b2 b3'
 exact ⟨L,g1,cs,a,b,c1,c2,c3,c4,fun q v q1 q2 q3=>c5 q v q1 q2 (hle q v (Nat.lt_of_lt_of_le q1 (a5 r e (Nat.le_trans h1 b1) b2 b3')) q3)⟩
theorem xl {i:Nat}{cE cW:T AV}{n:Nat}{el:TypeId}{lo hi nv fz:Nat}{sg:Bool}{ex:T Nat}(hle:∀ k v,k<n→cW.get k=some v→cE.get k=some v)(R:Bij)(w:World)(k:ObjRel P R w i (.cells cE n el lo hi nv fz sg ex)):ObjRel P R w i (.cells cW n el lo hi nv fz sg ex) :=
 zcG hle (Nat.le_refl _) k.1 (fun _ _ _ _ e=>e) R w k
def Lives (h:AHeap) (vs:List AV) (id:Nat):Prop:=id=h.next∨∃ v∈vs,kK v=some id
def zkI (P:Program) (h:AHeap) (vs:List AV) (rE r:AR):Prop:=∃ id,Lives h vs id∧((∃ v hE hW,rE=.val v hE∧r=.val v hW∧LessH P id hE hW)∨∃ hE hW,rE=.skip hE∧r=.skip hW∧LessH P id hE hW)
theorem zcN {c:T AV}{off:Nat}:∀ {n:Nat} {acc:List AV},(∀ k,k<n→∃ v,c.get (off+k)=some v∧AV.one v=true)→acc.all AV.one=true→∃ l,zbN c off n acc=some l∧l.all AV.one=true
 | 0,acc,_,ha=>⟨acc,rfl,ha⟩
 | n+1,acc,h,ha=>by
  obtain ⟨v,hv,ho⟩:=h n (Nat.lt_succ_self n)
  unfold zbN
  rw [hv]
  exact zcN (fun k hk=>h k (Nat.lt_succ_of_lt hk)) (by simp [ho,ha])
theorem kT {c:T AV}{off n:Nat}(h:∀ k,k<n→∃ v,c.get (off+k)=some v∧AV.one v=true):∃ l,zF c off n=some l∧l.all AV.one=true∧l.length=n∧∀ k v,k<n→c.get (off+k)=some v→l[k]?=some v:=by
 obtain ⟨l,h1,h2⟩:=zcN (acc:=[]) h rfl
 obtain ⟨g1,g2⟩:=zQ h1
 refine ⟨l,h1,h2,g1,fun k v hk hv=>?_⟩
 have hlt:k<l.length:=by omega
 have:=g2 k l[k] (List.getElem?_eq_getElem hlt)
 rw [hv] at this
 rw [List.getElem?_eq_getElem hlt]
 exact this.symm
theorem zbm {h:AHeap}{id ver off n size:Nat}{f:Nat→Option AV}{p:Prop}(e:zeK h id ver off n size=some (f,p))(hp:p) :
 ∃ l,za h id ver off (n*size)=some l∧l.all AV.one=true∧l.length=n*size∧∀ k v,k<n*size→f k=some v→l[k]?=some v:=by
 unfold zeK at e
 unfold za
 split at e
 · rename_i c lo m ho
   cases hb:Nat.beq ver 0 with
   | false=>rw [hb] at e; cases e
   | true =>
    rw [hb] at e
    simp only [cond_true,Option.some.injEq,Prod.mk.injEq] at e
    obtain ⟨rfl,rfl⟩:=e
    obtain ⟨l,h1,h2,h3,h4⟩:=kT hp.2
    refine ⟨l,?_,h2,h3,h4⟩
    simp only [ho]
    rw [if_pos ⟨Nat.eq_of_beq_eq_true hb,hp.1⟩,h1]
 · rename_i c m el lo hi nv fz sg ex ho
   split at e
   · cases e
   · rename_i e0 he
     cases hb:(Nat.ble lo ver&&Nat.ble ver hi) with
     | false=>rw [hb] at e; cases e
     | true =>
      rw [hb] at e
      simp only [cond_true,Option.some.injEq,Prod.mk.injEq] at e
      obtain ⟨rfl,rfl⟩:=e
      rw [Bool.and_eq_true] at hb
      obtain ⟨l,h1,h2,h3,h4⟩:=kT hp.2
      refine ⟨l,?_,h2,h3,h4⟩
      simp only [ho,he]
      rw [if_pos ⟨Nat.le_of_ble_eq_true hb.1,Nat.le_of_ble_eq_true hb.2,hp.1⟩,h1]
 · cases e
theorem v7 {h:AHeap}{size n:Nat}{x:AV}{f:Nat→Option AV}{p:Prop}(e:zaF h size n x=some (f,p))(hp:p) :
 ∃ l,ya h size n x=some l∧l.all AV.one=true∧l.length=n*size∧∀ k v,k<n*size→f k=some v→l[k]?=some v:=by
 unfold zaF at e
 split at e
 · rename_i s
   cases hb:Nat.beq size 1 with
   | false=>rw [hb] at e; cases e
   | true =>
    rw [hb] at e
    simp only [cond_true,Option.some.injEq,Prod.mk.injEq] at e
    obtain ⟨rfl,rfl⟩:=e
    obtain rfl:=Nat.eq_of_beq_eq_true hb
    refine ⟨_,rfl,(List.all_eq_true.2 fun x hx=>by obtain ⟨b,_,rfl⟩:=List.mem_map.1 hx; rfl),by simp [xJ]; omega,fun k v hk hv=>?_⟩
    rw [Nat.mul_one] at hk
    cases hv
    have hs:k<s.length:=by omega
    simp [xJ,hk,hs]
 · exact zbm e hp
 · exact zbm e hp
 · cases e
theorem wM (v:AV):∀ n k,k<n→(zt [v] n)[k]?=some v
 | 0,k,h=>by omega
 | n+1,0,_=>rfl
 | n+1,k+1,h=>by
  show (zt [v] n)[k]?=_
  exact wM v n k (by omega)
theorem zbK {h:AHeap}{size bytes:Nat}{z:AV}{zeros:Bool}{x:AV}{n:Nat}{f:Nat→Option AV}{p:Prop}(hz:z.cells.length=size)(hz1:z.cells.all AV.one=true)(e:srcW h size bytes z zeros x=some (n,f,p))(hp:p) :
 ∃ new,qC h size z zeros x=some (n,new)∧new.all AV.one=true∧new.length=n*size∧(zeros=true→Nat.ble (n*bytes) (2 ^ 48)=true)∧∀ k v,k<n*size→f k=some v→new[k]?=some v:=by
 unfold srcW at e
 unfold qC
 split at e
 · split at e
   · rename_i k l
     cases hb:Nat.beq size 1 with
     | false=>rw [hb] at e; cases e
     | true =>
      rw [hb] at e
      simp only [cond_true,Option.some.injEq,Prod.mk.injEq] at e
      obtain ⟨rfl,rfl,rfl⟩:=e
      obtain rfl:=Nat.eq_of_beq_eq_true hb
      simp only
      refine ⟨_,by rw [if_pos hp.1],zbO hz1 _,by rw [zl,hz],fun _=>Nat.ble_eq_true_of_le hp.2,fun k v hk hv=>?_⟩
      rw [Nat.mul_one] at hk
      match hc:z.cells,hz with
      | [y],_ =>
       rw [hc] at hv
       cases hv
       exact wM _ _ _ hk
   · cases e
 · split at e
   · cases e
   · rename_i n' hn
     split at e
     · cases e
     · rename_i f' p' hf
       cases e
       obtain ⟨l,h1,h2,h3,h4⟩:=v7 hf hp
       exact ⟨l,by simp only [hn,h1],h2,h3,fun h=>(by cases h),h4⟩
theorem zdC {c:T AV}{off n:Nat}{f:Nat→Option AV}{vs:List AV}(hl:vs.length=n)(hf:∀ k v,k<n→f k=some v→vs[k]?=some v)(k:Nat)(v:AV)(e:(zf1 c off n f).get k=some v):(ze c off vs).get k=some v:=by
 rw [zh,hl]
 change (bif Nat.ble off k&&Nat.blt k (off+n) then f (k - off) else c.get k)=some v at e
 cases hb:(Nat.ble off k&&Nat.blt k (off+n)) with
 | true =>
  rw [hb] at e
  rw [Bool.and_eq_true] at hb
  have h1:=Nat.le_of_ble_eq_true hb.1
  have h2:k<off+n:=Nat.le_of_ble_eq_true hb.2
  rw [if_pos ⟨h1,h2⟩]
  exact hf _ _ (by omega) e
 | false =>
  rw [hb] at e
  rw [if_neg]
  · exact e
  · rintro ⟨h1,h2⟩
    rw [Nat.ble_eq_true_of_le h1,show Nat.blt k (off+n)=true from Nat.ble_eq_true_of_le h2] at hb
    cases hb
theorem wS {h:AHeap}{id ver off n:Nat}{f:Nat→Option AV}{c:T AV}{m:Nat}{el:TypeId}{lo hi nv fz:Nat}{sg:Bool}{ex:T Nat}{e:Nat}(ho:h.get id=some (.cells c m el lo hi nv fz sg ex))(he:zm ex m hi ver=some e)(h1:lo≤ver)(h2:ver≤hi)
 (h3:off+n≤e) (h4:fz≤off) {vs:List AV} (hl:vs.length=n) (ha:vs.all AV.one=true) (hf:∀ k v,k<n→f k=some v→vs[k]?=some v) :
 zb h id ver off vs=some (h.put id (.cells (ze c off vs) e el ver ver nv fz sg ex))∧LessH P id (h.put id (.cells (ze c off vs) e el ver ver nv fz sg ex)) (h.put id (.cells (zf1 c off n f) e el ver ver nv fz sg ex)):=by
 refine ⟨?_,.put rfl rfl (xl fun k v _ e=>zdC hl hf k v e)⟩
 unfold zb
 rw [ho]
 simp only [he]
 rw [if_pos ⟨h1,h2,by omega,h4,ha⟩,T.seq_eq]
theorem znz {a b c:Nat}(h:(Nat.ble a b&&Nat.ble b c)=true):a≤b∧b≤c:=by
 rw [Bool.and_eq_true] at h
 exact ⟨Nat.le_of_ble_eq_true h.1,Nat.le_of_ble_eq_true h.2⟩
theorem kR {h:AHeap}{id ver off n:Nat}{f:Nat→Option AV}{mk:AHeap→AR}{p0 p:Prop}{r:AR}(e:vj h id ver off n f mk p0=some (r,p))(hp:p){vs:List AV}(hl:vs.length=n)(ha:vs.all AV.one=true)(hf:∀ k v,k<n→f k=some v→vs[k]?=some v) :
 ∃ hE hW,zb h id ver off vs=some hE∧r=mk hW∧LessH P id hE hW:=by
 unfold vj at e
 split at e
 rotate_left
 · cases e
 rename_i c m el lo hi nv fz sg ex ho
 split at e
 · cases e
 rename_i e0 he
 cases hb:(Nat.ble lo ver&&Nat.ble ver hi) with
 | false=>rw [hb] at e; cases e
 | true =>
  rw [hb] at e
  simp only [cond_true,Option.some.injEq,Prod.mk.injEq] at e
  obtain ⟨rfl,rfl⟩:=e
  obtain ⟨b1,b2⟩:=znz hb
  obtain ⟨g1,g2⟩:=wS (P:=P) ho he b1 b2 hp.2.1 hp.2.2 hl ha hf
  exact ⟨_,_,g1,rfl,g2⟩
theorem zc5 {h:AHeap}{id ver off n:Nat}{f:Nat→Option AV}{mk:AHeap→AR}{p0 p:Prop}{r:AR}(e:vj h id ver off n f mk p0=some (r,p))(hp:p):p0:=by
 unfold vj at e
 split at e
 rotate_left
 · cases e
 rename_i c m el lo hi nv fz sg ex ho
 split at e
 · cases e
 rename_i e0 he
 cases hb:(Nat.ble lo ver&&Nat.ble ver hi) with
 | false=>rw [hb] at e; cases e
 | true =>
  rw [hb] at e
  simp only [cond_true,Option.some.injEq,Prod.mk.injEq] at e
  obtain ⟨rfl,rfl⟩:=e
  exact hp.1
theorem zl1 {h:AHeap}{id ver off:Nat}{v:AV}{p:Prop}{r:AR}(e:putW h id ver off v=some (r,p))(hp:p)(ha:AV.one v=true) :
 ∃ hE hW,zb h id ver off [v]=some hE∧r=.skip hW∧LessH P id hE hW:=by
 unfold putW at e
 split at e
 rotate_left
 · cases e
 rename_i c m el lo hi nv fz sg ex ho
 split at e
 · cases e
 rename_i e0 he
 cases hb:(Nat.ble lo ver&&Nat.ble ver hi) with
 | false=>rw [hb] at e; cases e
 | true =>
  rw [hb] at e
  simp only [cond_true,Option.some.injEq,Prod.mk.injEq] at e
  obtain ⟨rfl,rfl⟩:=e
  obtain ⟨b1,b2⟩:=znz hb
  refine ⟨h.put id (.cells (ze c off [v]) e0 el ver ver nv fz sg ex),_,?_,rfl,.put rfl rfl (xl fun k x _ e=>?_)⟩
  · unfold zb
    rw [ho]
    simp only [he]
    rw [if_pos ⟨b1,b2,hp.1,hp.2,by simp [ha]⟩,T.seq_eq]
  · rw [zh]
    change (bif Nat.beq k off then some v else c.get k)=some x at e
    cases hq:Nat.beq k off with
    | true =>
     rw [hq] at e
     obtain rfl:=Nat.eq_of_beq_eq_true hq
     rw [if_pos ⟨Nat.le_refl _,Nat.lt_succ_self _⟩]
     simpa using e
    | false =>
     rw [hq] at e
     rw [if_neg]
     · exact e
     · rintro ⟨h1,h2⟩
       have:k=off:=by simp at h2; omega
       rw [this,Nat.beq_refl] at hq
       cases hq
theorem zf6 {h:AHeap}{t:TypeId}{a v:AV}{r:AR}{p:Prop}(e:zdk P h t a v=some (r,p))(hp:p):∃ id hE hW,wh P h t a v=some hE∧r=.skip hW∧LessH P id hE hW∧kK a=some id:=by
 unfold zdk at e
 unfold wh
 split at e
 rotate_left
 · cases e
 split at e
 · cases e
 rename_i i hi
 split at e
 · cases e
 rename_i hb
 rw [Bool.and_eq_true] at hb
 have hs:=Nat.eq_of_beq_eq_true hb.1
 simp only [hi,if_pos hs]
 split at e
 · rename_i x hx
   rw [hx] at hb ⊢
   obtain ⟨hE,hW,g1,g2,g3⟩:=zl1 (P:=P) e hp (by simpa using hb.2)
   exact ⟨_,hE,hW,g1,g2,g3,rfl⟩
 · obtain ⟨hE,hW,g1,g2,g3⟩:=kR (P:=P) e hp rfl hb.2 fun k v _ e=>e
   exact ⟨_,hE,hW,g1,g2,g3,rfl⟩
theorem zk8 {h:AHeap}{t:TypeId}{d s:AV}{r:AR}{p:Prop}(e:zms P h t d s=some (r,p))(hp:p):∃ id v hE hW,zdl P h t d s=some (v,hE)∧r=.val v hW∧LessH P id hE hW∧kK d=some id:=by
 unfold zms at e
 unfold zdl
 split at e
 rotate_left
 · cases e
 rename_i el hu
 simp only [hu]
 unfold zgH
 split at e
 · cases e
 rename_i sz hsz
 split at e
 · cases e
 rename_i dn hdn
 split at e
 · cases e
 rename_i sn hsn
 split at e
 · cases e
 rename_i f p' hf
 simp only [hsz,hdn,hsn]
 split at e
 · obtain ⟨l,h1,h2,h3,h4⟩:=v7 hf (zc5 e hp)
   obtain ⟨hE,hW,g1,g2,g3⟩:=kR (P:=P) e hp h3 h2 h4
   simp only [h1,zcv,g1]
   exact ⟨_,_,_,hW,rfl,g2,g3,rfl⟩
 · obtain ⟨l,h1,h2,h3,h4⟩:=v7 hf (zc5 e hp)
   obtain ⟨hE,hW,g1,g2,g3⟩:=kR (P:=P) e hp h3 h2 h4
   simp only [h1,zcv,g1]
   exact ⟨_,_,_,hW,rfl,g2,g3,rfl⟩
 · cases e
theorem zdd {vs:List AV}{n:Nat}{f:Nat→Option AV}(hl:vs.length=n)(hf:∀ k v,k<n→f k=some v→vs[k]?=some v)(k:Nat)(v:AV)(hk:k<n)(e:(T.fn f).get k=some v):(ze .leaf 0 vs).get k=some v:=by
 rw [zh,if_pos ⟨Nat.zero_le _,by omega⟩,Nat.sub_zero]
 exact hf k v hk e
theorem zkS {h:AHeap}{t:TypeId}{a b:AV}{r:AR}{p:Prop}(e:zlW P h t a b=some (r,p))(hp:p):∃ v hE hW,zj P h t a b=some (v,hE)∧r=.val v hW∧LessH P h.next hE hW:=by
 unfold zlW at e
 unfold zj
 split at e
 rotate_left
 · cases e
 rename_i el hu
 split at e
 rotate_left
 · cases e
 split at e
 rotate_left
 · cases e
 rename_i k1 l k2 c
 split at e
 · cases e
 rename_i i hi
 split at e
 · cases e
 rename_i z hz
 split at e
 · cases e
 rename_i hb
 rw [Bool.and_eq_true,Bool.and_eq_true] at hb
 cases e
 have h1:=Nat.eq_of_beq_eq_true hb.1.1
 have h2:=Nat.eq_of_beq_eq_true hb.1.2
 have hlen:(zt z.cells c.toNat).length=c.toNat:=by rw [zl,h2,Nat.mul_one]
 refine ⟨_,xx h el (zt z.cells c.toNat) false,_,?_,rfl,?_⟩
 · simp only [hu,yt,hi,hz]
   rw [if_pos ⟨hp.1,hp.2.1,hp.2.2.1,hp.2.2.2,by omega,by omega,hb.2⟩]
 · unfold xx
   rw [hlen]
   refine .new rfl rfl (xl fun k v hk e=>zdd hlen (fun k v hk e=>?_) k v hk e)
   match hc:z.cells,h2 with
   | [y],_ =>
    rw [hc] at e
    cases e
    exact wM _ _ _ hk
theorem zku {h:AHeap}{id:Nat}{o:AObj}(e:h.get id=some o):h.put id o=h:=by
 obtain ⟨objs,next,glob⟩:=h
 show AHeap.mk (objs.set (some o) id) next glob=_
 rw [T.set_same' e]
theorem zhH {moved:Bool}{h:AHeap}{t:TypeId}{zeros:Bool}{s x:AV}{r:AR}{p:Prop}(e:zfz P moved h t zeros s x=some (r,p))(hp:p):∃ id v hE hW,wF P h t zeros s x=some (v,hE)∧r=.val v hW∧LessH P id hE hW∧(id=h.next∨kK s=some id):=by
 unfold zfz at e
 unfold wF
 split at e
 rotate_left
 · cases e
 rename_i el hu
 simp only [hu]
 unfold jw
 split at e
 · cases e
 rename_i i hi
 split at e
 · cases e
 rename_i z hz
 split at e
 · cases e
 rename_i hb
 rw [Bool.and_eq_true,Bool.and_eq_true] at hb
 have hs0:0<i.size:=Nat.le_of_ble_eq_true hb.1.1
 have hz1:=Nat.eq_of_beq_eq_true hb.1.2
 split at e
 · cases e
 rename_i n f q hsrc
 simp only [hi,hz]
 split at e
 ·
  unfold zlE at e
  cases e
  obtain ⟨new,h1,h2,h3,h4,h5⟩:=zbK hz1 hb.2 hsrc hp.1
  simp only [zU,h1]
  rw [if_pos ⟨hs0,hz1,hb.2,h2,h3,h4⟩]
  obtain ⟨n,rfl⟩:∃ k,n=k+1:=⟨n - 1,by have:=hp.2.1; omega⟩
  simp only [yZ,xn,Nat.zero_add,ya]
  rw [if_pos hp.2.2,if_pos ⟨rfl,by simp⟩]
  refine ⟨_,_,_,_,rfl,rfl,?_,.inl rfl⟩
  unfold xx
  rw [List.nil_append,h3]
  exact .new rfl rfl (xl fun k v hk e=>zdd h3 h5 k v hk e)
 · rename_i id ver off sLen cap
   split at e
   ·
    unfold zg8 at e
    split at e
    rotate_left
    · cases e
    rename_i c m el' lo hi' nv fz sg ex ho
    split at e
    · cases e
    rename_i e0 he
    cases hb':(Nat.ble lo ver&&Nat.ble ver hi') with
    | false=>rw [hb'] at e; cases e
    | true =>
     rw [hb'] at e
     simp only [cond_true,Option.some.injEq,Prod.mk.injEq] at e
     obtain ⟨rfl,rfl⟩:=e
     obtain ⟨b1,b2⟩:=znz hb'
     obtain ⟨p1,p2,p3,p4,p5⟩:=hp
     obtain ⟨new,h1,h2,h3,h4,h5⟩:=zbK hz1 hb.2 hsrc p1
     simp only [zU,h1]
     rw [if_pos ⟨hs0,hz1,hb.2,h2,h3,h4⟩]
     cases n with
     | zero =>
      have hv:lo=ver∧hi'=ver:=by
       revert p5
       cases hq:(Nat.beq lo ver&&Nat.beq hi' ver) with
       | true =>
        intro _
        rw [Bool.and_eq_true] at hq
        exact ⟨Nat.eq_of_beq_eq_true hq.1,Nat.eq_of_beq_eq_true hq.2⟩
       | false=>exact fun h=>absurd h (Nat.lt_irrefl 0)
      obtain ⟨rfl,rfl⟩:=hv
      have hm:m=e0:=by
       unfold zm at he
       rw [if_pos rfl] at he
       exact Option.some.inj he
      subst hm
      simp only [xX]
      rw [if_pos (by omega)]
      refine ⟨id,_,_,_,rfl,rfl,?_,.inr rfl⟩
      have hl:LessH P id (h.put id (.cells c m el' hi' hi' nv fz sg ex)) (h.put id (.cells (zf1 c (off+sLen*i.size) (0*i.size) f) m el' hi' hi' nv fz sg ex)):=by
       refine .put rfl rfl (xl fun k v _ e=>?_)
       have:=zdC (vs:=[]) (by simp) (fun k v hk=>by simp at hk) k v e
       rwa [ze] at this
      rwa [zku ho] at hl
     | succ n =>
      obtain ⟨g1,g2⟩:=wS (P:=P) ho he b1 b2 p3 p4 h3 h2 h5
      simp only [yZ,if_pos p2,zd7,g1]
      exact ⟨_,_,_,_,rfl,rfl,g2,.inr rfl⟩
   ·
    unfold zlL at e
    split at e
    · cases e
    rename_i g q' hrow
    cases e
    obtain ⟨p1,p2,p3,p4,p5⟩:=hp
    obtain ⟨new,h1,h2,h3,h4,h5⟩:=zbK hz1 hb.2 hsrc p1
    obtain ⟨old,o1,o2,o3,o4⟩:=zbm hrow p2
    simp only [zU,h1]
    rw [if_pos ⟨hs0,hz1,hb.2,h2,h3,h4⟩]
    obtain ⟨n,rfl⟩:∃ k,n=k+1:=⟨n - 1,by omega⟩
    simp only [yZ,if_neg (Nat.not_le.2 p4),xn,ya,o1]
    rw [if_pos p5,if_pos ⟨o2,o3⟩]
    refine ⟨_,_,_,_,rfl,rfl,?_,.inl rfl⟩
    unfold xx
    rw [List.length_append,o3,h3]
    refine .new rfl rfl (xl fun k v hk e=>zdd (by rw [List.length_append,o3,h3]) (fun k v hk e=>?_) k v hk e)
    cases hq:Nat.blt k (sLen*i.size) with
    | true =>
     rw [hq] at e
     have hlt:k<sLen*i.size:=Nat.le_of_ble_eq_true hq
     rw [List.getElem?_append_left (by omega)]
     exact o4 k v hlt e
    | false =>
     rw [hq] at e
     have hge:¬ k<sLen*i.size:=fun h=>by rw [show Nat.blt k (sLen*i.size)=true from Nat.ble_eq_true_of_le h] at hq; cases hq
     rw [List.getElem?_append_right (by omega),o3]
     exact h5 _ v (by omega) e
 · rename_i id ver off sLen st
   split at e
   ·
    unfold zm4 at e
    split at e
    rotate_left
    · cases e
    rename_i c m el' lo hi' nv fz sg ex ho
    split at e
    · cases e
    rename_i e0 he
    cases hb':(Nat.ble lo ver&&Nat.ble ver hi'&&Nat.beq el' el&&Nat.blt hi' nv) with
    | false=>rw [hb'] at e; cases e
    | true =>
     rw [hb'] at e
     simp only [cond_true,Option.some.injEq,Prod.mk.injEq] at e
     obtain ⟨rfl,rfl⟩:=e
     rw [Bool.and_eq_true,Bool.and_eq_true] at hb'
     obtain ⟨⟨hb1,hb2⟩,hb3⟩:=hb'
     obtain ⟨b1,b2⟩:=znz hb1
     have b3:=Nat.eq_of_beq_eq_true hb2
     have b4:hi'<nv:=Nat.le_of_ble_eq_true hb3
     obtain ⟨p1,p2,p3,p4,p5,p6,p7⟩:=hp
     obtain ⟨new,h1,h2,h3,h4,h5⟩:=zbK hz1 hb.2 hsrc p1
     simp only [zU,h1]
     rw [if_pos ⟨hs0,hz1,hb.2,h2,h3,h4⟩]
     obtain ⟨n,rfl⟩:∃ k,n=k+1:=⟨n - 1,by omega⟩
     have hkn:xb h el i.size id ver off st sLen (sLen+(n+1)) new=none:=by
      simp only [xb,ho,he]
      rw [if_neg (fun hc=>by have:=hc.1; omega)]
     simp only [yZ,hkn]
     simp only [yo,ho,he]
     rw [if_pos ⟨b1,b2,p3,p4,b3,p5,b4,p6⟩]
     split
     · rename_i hc
       rw [T.seq_eq,T.seq_eq]
       refine ⟨id,_,_,_,rfl,rfl,?_,.inr rfl⟩
       rw [h3]
       refine .put rfl rfl (zcG (fun k v _ e=>zdC h3 h5 k v e) (by omega) (Nat.le_refl _) fun r e q1 q2 q3=>?_)
       obtain rfl:r=nv:=by omega
       unfold zm at q3 ⊢
       rw [if_pos rfl] at q3 ⊢
       exact q3
     · rw [T.seq_eq]
       refine ⟨id,_,_,_,rfl,rfl,?_,.inr rfl⟩
       rw [h3]
       exact .put rfl rfl (xl fun k v _ e=>zdC h3 h5 k v e)
   ·
    unfold zlA at e
    split at e
    rotate_left
    · cases e
    rename_i c m el' lo hi' nv fz sg ex ho
    split at e
    · cases e
    rename_i e0 he
    cases hb':(Nat.ble lo ver&&Nat.ble ver hi'&&Nat.beq el' el) with
    | false=>rw [hb'] at e; cases e
    | true =>
     rw [hb'] at e
     simp only [cond_true,Option.some.injEq,Prod.mk.injEq] at e
     obtain ⟨rfl,rfl⟩:=e
     rw [Bool.and_eq_true] at hb'
     obtain ⟨hb1,hb2⟩:=hb'
     obtain ⟨b1,b2⟩:=znz hb1
     obtain rfl:=Nat.eq_of_beq_eq_true hb2
     obtain ⟨p1,p2,p3,p4,p5,p6⟩:=hp
     obtain ⟨new,h1,h2,h3,h4,h5⟩:=zbK hz1 hb.2 hsrc p1
     simp only [zU,h1]
     rw [if_pos ⟨hs0,hz1,hb.2,h2,h3,h4⟩]
     obtain ⟨n,rfl⟩:∃ k,n=k+1:=⟨n - 1,by omega⟩
     obtain ⟨g1,g2⟩:=wS (P:=P) ho he b1 b2 p4 p5 h3 h2 h5
     simp only [yZ,xb,ho,he]
     rw [if_pos ⟨p3,b1,b2,trivial,p6⟩]
     simp only [g1]
     exact ⟨id,_,_,_,rfl,rfl,g2,.inr rfl⟩
 · cases e
theorem zka {h:AHeap}{t:TypeId}{x:AV}{r:AR}{p:Prop}(e:zkh P h t x=some (r,p))(hp:p):∃ id hE hW,zeO P h t x=some hE∧r=.val (.tup []) hW∧LessH P id hE hW∧kK x=some id:=by
 unfold zkh at e
 split at e
 rotate_left
 · cases e
 rename_i el hu
 split at e
 · cases e
 rename_i z hz
 split at e
 · cases e
 rename_i ha
 have hez:qF P t=some z:=by unfold qF; rw [hu]; exact hz
 have key:∀ {id ver off n:Nat},vj h id ver off (n*z.cells.length) (fun k=>z.cells[k % z.cells.length]?) (fun h=>.val (.tup []) h) (0<n)=some (r,p) →
  ∃ hE hW,kv h (qF P t) id ver off n=some hE∧r=.val (.tup []) hW∧LessH P id hE hW:=by
  intro id ver off n e
  obtain ⟨hE,hW,g1,g2,g3⟩:=kR (P:=P) e hp (vs:=zt z.cells n) (zl _ _) (zbO ha n) (fun k v hk hf=>by rw [vU _ _ _ hk]; exact hf)
  have hn:=zc5 e hp
  obtain ⟨m,rfl⟩:∃ m,n=m+1:=⟨n - 1,by omega⟩
  refine ⟨hE,hW,?_,g2,g3⟩
  unfold kv
  rw [hez]
  exact g1
 unfold zeO
 simp only [hu]
 split at e
 · rename_i id ver off n c
   obtain ⟨hE,hW,g1,g2,g3⟩:=key e
   exact ⟨id,hE,hW,g1,g2,g3,rfl⟩
 · rename_i id ver off n c
   obtain ⟨hE,hW,g1,g2,g3⟩:=key e
   exact ⟨id,hE,hW,g1,g2,g3,rfl⟩
 · cases e
def zcL (ρ:Operand→Option AV) (o:Op):List AV:=o.operands.toList.filterMap ρ
theorem zcC {ρ:Operand→Option AV}{o:Op}{x:Operand}{v:AV}(hx:x∈o.operands)(hv:ρ x=some v):v∈zcL ρ o :=
 List.mem_filterMap.2 ⟨x,by simpa using hx,hv⟩
theorem zbY {ρ:Operand→Option AV}{c:Call}{args:List AV}(ha:y9 ρ c.args.toList=some args){v:AV}(hv:v∈args):v∈zcL ρ (.call c):=by
 obtain ⟨h1,h2⟩:=kF ha
 obtain ⟨i,hi,rfl⟩:=List.getElem_of_mem hv
 have hlt:i<c.args.toList.length:=by omega
 obtain ⟨b,hb1,hb2⟩:=h2 i _ (List.getElem?_eq_getElem hlt)
 rw [List.getElem?_eq_getElem hi] at hb1
 cases hb1
 refine zcC (x:=c.args.toList[i]) ?_ hb2
 show _∈c.operands
 unfold Call.operands
 exact Array.mem_append.2 (.inr (by simp))
theorem znG {moved:Bool}{ρ:Operand→Option AV}{h:AHeap}{o:Op}{r:AR}{p:Prop}(e:opW P moved ρ h o=some (r,p))(hp:p):(∀ c,o≠.defer c)∧∃ rE,opA P ρ h o=some rE∧zkI P h (zcL ρ o) rE r:=by
 unfold opW at e
 split at e
 · rename_i t a x
   unfold zki at e
   split at e
   · cases e
   rename_i v1 h1
   split at e
   · cases e
   rename_i v2 h2
   obtain ⟨id,hE,hW,g1,g2,g3,g4⟩:=zf6 e hp
   refine ⟨fun c h=>(by cases h),.skip hE,?_,id,.inr ⟨v1,zcC (x:=a) (by simp [Op.operands]) h1,g4⟩,.inr ⟨_,_,rfl,g2,g3⟩⟩
   show zaH P t a x ρ h=_
   simp only [zaH,two,h1,h2,g1,zbQ]
 · rename_i t l c
   unfold zki at e
   split at e
   · cases e
   rename_i v1 h1
   split at e
   · cases e
   rename_i v2 h2
   obtain ⟨v,hE,hW,g1,g2,g3⟩:=zkS e hp
   refine ⟨fun c h=>(by cases h),.val v hE,?_,_,.inl rfl,.inl ⟨_,_,_,rfl,g2,g3⟩⟩
   show zZ P t l c ρ h=_
   simp only [zZ,two,h1,h2,g1,vd]
 · rename_i c
   refine ⟨fun c h=>(by cases h),?_⟩
   split at e
   · cases e
   rename_i args ha
   split at e
   rotate_left
   · cases e
   rename_i b hc
   show ∃ rE,zdc P c ρ h=some rE∧_
   simp only [zdc,zV,ha,hc]
   split at e
   · split at e
     · cases e
     rename_i t ht
     split at e
     · cases e
     rename_i u hu
     split at e
     · cases e
     rename_i z hz
     split at e
     · cases e
     rename_i s x hx
     obtain ⟨id,v,hE,hW,g1,g2,g3,g4⟩:=zhH e hp
     refine ⟨.val v hE,?_,id,g4.imp (fun h=>h) (fun h=>⟨s,zbY ha (by rw [wY hx]; simp),h⟩),.inl ⟨_,_,_,rfl,g2,g3⟩⟩
     simp only [xM,x3,zd,zdm,ht,hu,hz,hx,g1,vd]
   · split at e
     · cases e
     rename_i t ht
     split at e
     · cases e
     rename_i d s hx
     obtain ⟨id,v,hE,hW,g1,g2,g3,g4⟩:=zk8 e hp
     refine ⟨.val v hE,?_,id,.inr ⟨d,zbY ha (by rw [wY hx]; simp),g4⟩,.inl ⟨_,_,_,rfl,g2,g3⟩⟩
     simp only [xM,x3,zd,zky,ht,hx,g1,vd]
   · split at e
     · cases e
     rename_i t ht
     split at e
     rotate_left
     · cases e
     rename_i x
     obtain ⟨id,hE,hW,g1,g2,g3,g4⟩:=zka e hp
     refine ⟨.val (.tup []) hE,?_,id,.inr ⟨x,zbY ha (by simp),g4⟩,.inl ⟨_,_,_,rfl,g2,g3⟩⟩
     simp only [xM,x3,zd,zgr,zkl,ht,g1,zb6]
   · cases e
 · cases e
theorem OpRel.less {B:Base}{R:Bij}{h:AHeap}{w:World}{s:Sem Next}{ρ:Operand→Option AV}{ρ':Operand→Value}{o:Op}{rE r:AR}(k:HRel P B R h w)(hρ:∀ x∈o.operands,∀ v,ρ x=some v→VRel R v (ρ' x))(hl:zkI P h (zcL ρ o) rE r)(e:OpRel P B R w s rE):OpRel P B R w s r:=by
 obtain ⟨id,hid,hl⟩:=hl
 have hp:B.pend id=none:=by
  cases hb:B.pend id with
  | none=>rfl
  | some x =>
   obtain ⟨h1,_,h3⟩:=k.pend id x hb
   rcases hid with rfl | ⟨v,hv,hd⟩
   · exact absurd h1 (Nat.lt_irrefl _)
   · obtain ⟨y,hy,hyv⟩:=List.mem_filterMap.1 hv
     obtain ⟨r,L,hL⟩:=km (hρ y (by simpa using hy) v hyv) hd
     rw [h3 r] at hL
     cases hL
 rcases hl with ⟨v,hE,hW,rfl,rfl,hless⟩ | ⟨hE,hW,rfl,rfl,hless⟩
 · obtain ⟨R',v',w',r1,r2,r3,r4⟩:=e
   exact ⟨R',v',w',r1,r2,r3.less hless hp,r4⟩
 · obtain ⟨R',w',r1,r3,r4⟩:=e
   exact ⟨R',w',r1,r3.less hless hp,r4⟩
end
section
variable {P:Program} {w0:Env} {base:List Frame} {B:Base} {R:Bij} {af:AFrame} {rest:List AFrame} {h:AHeap} {fr:Frame} {fs:List Frame} {w:World}
theorem zeh [XT P] [XTOk P] (k:Wait P w0 base B R af rest h fr fs w){ops:Array Oper}{i:Nat}{s':List Nat}{k':List Item}(ht:fr.todo=.inRegion ops (i::s')::k'){o:Oper}(ho:ops[i]?=some o)
 (hops:∀ x∈o.op.operands,∀ v,ev af.tmps x=some v→VRel R v (fr.eval x))
 (hgu:∀ g b q u v,o.guard=some (g,b)→ops[g]?=some q→q.dst=some u→af.tmps.get u=some v→∃ x,fr.tmps[u]?=some x∧VRel R v x)
 (hwt:zB ops.toList af.tmps o.guard=some true) (hnd:∀ c,o.op≠.defer c) {rE r:AR} (hE:opA P (ev af.tmps) h o.op=some rE) (hl:zkI P h (zcL (ev af.tmps) o.op) rE r)
 {m:AM} (e:zh5 P af rest h r=some m):zdi P w0 base m fr (fs++base) w:=by
 have hm:=wrun k
 have hw:=zad hwt hgu
 have hop:=OpRel.less k.heap hops hl (zg7 k.heap k.room hops hE)
 have hoper:(stepG P true { frame:=fr,callers:=fs++base,status:=.running,dying:=none } w)=stepG.oper P true fr (fs++base) none w:=by
  simp only [stepG,stepG.exec,hm,ht,ho,hw,Option.map_some,Option.getD_some,if_true]
 have hst:(stepG P true { frame:=fr,callers:=fs++base,status:=.running,dying:=none } w)=stepG.apply P true fr (fs++base) none (execOp fr.eval o) w:=by
  rw [hoper]
  simp only [stepG.oper,Frame.oper?,ht,ho]
  split
  · rename_i _ c _ hc
    exact absurd hc (hnd c)
  · rfl
 obtain ⟨id,hid,hl⟩:=hl
 rcases hl with ⟨v,hE,hW,rfl,rfl,hless⟩ | ⟨hE,hW,rfl,rfl,hless⟩
 · obtain ⟨a,b,c,h1,h2⟩:=wW k hop (by simp) (by simp) (by simp) (by rw [hst]) ⟨_,_,_,_,ht⟩ e
   exact ⟨a,b,c,h1,h2⟩
 · obtain ⟨a,b,c,h1,h2⟩:=wW k hop (by simp) (by simp) (by simp) (by rw [hst]) ⟨_,_,_,_,ht⟩ e
   exact ⟨a,b,c,h1,h2⟩
theorem zj8 [XT P] [XTOk P] {all:List Oper}{o:Oper}(k:Plain P w0 base B R af rest h fr fs w)(hto:kG af=some (all,o))(hac:zi5 P af o=true)(hwt:zB all af.tmps o.guard=some true)(hnd:∀ c,o.op≠.defer c){rE r:AR}
 (hE:opA P (ev af.tmps) h o.op=some rE) (hl:zkI P h (zcL (ev af.tmps) o.op) rE r) {m:AM} (e:zh5 P af rest h r=some m):zdi P w0 base m fr (fs++base) w:=by
 have hm:=zlO k
 have htop:TodoRel P B R rest.length false h af.todo af.tmps fr.todo fr.tmps:=by
  have:=k.top.top
  rw [k.run] at this; exact this
 unfold kG at hto
 split at hto
 · rename_i all' o' l kk htodo
   cases hto
   rw [htodo] at htop
   obtain ⟨⟨_,kk',hfr,⟨ops,todo,rfl,rfl,hmap⟩,hk⟩,hs⟩:=htop
   cases todo with
   | nil=>simp at hmap
   | cons i todo =>
    simp only [List.map_cons,List.cons.injEq] at hmap
    have hw:Wait P w0 base B R af rest h fr fs w:=⟨k.heap,k.base,k.old,by
     obtain ⟨k1,k2,k3,k4,k5,k6,k7,k8,k9⟩:=k.top
     refine ⟨k1,k2,k3,k4,k5,k6,k7,k8,?_⟩
     have hr:=k.run
     obtain ⟨fn,n,t,td,ds,mode,kind,round⟩:=af
     simp only at hr htodo; subst hr; subst htodo
     exact ⟨⟨_,kk',hfr,⟨ops,_,rfl,rfl,by simp only [List.map_cons,List.cons.injEq]; exact hmap⟩,hk⟩,hs⟩,k.run,k.below⟩
    exact zeh hw hfr hmap.1.symm (fun x _ v hv=>vZ (fun u _ hu=>hs u v hu) hv) (fun g b q u v _ _ _ hv=>hs u v hv) hwt hnd hE hl e
 · rename_i all' i l dn kk htodo
   split at hto
   · cases hto
   rename_i o' ho
   cases hto
   rw [htodo] at htop
   obtain ⟨s,k',hfr,hk,hd⟩:=htop
   unfold zi5 at hac
   rw [htodo] at hac
   have hroom:B.n≤w.heap.size:=by show B.env.heap.size≤_; rw [k.base]; exact k.old.size
   have hrun:=k.run
   have htopf:=k.top
   obtain ⟨fn,n,t,td,ds,mode,kind,round⟩:=af
   simp only at htodo hrun hd; subst htodo; subst hrun
   have hidn:i ∉ dn:=fun hi=>(List.nodup_append.1 hd.facts.2.2.2.2.1).2.2 i (by simpa using hi) i List.mem_cons_self rfl
   obtain ⟨k1,k2,k3,k4,k5,k6,k7,k8,k9⟩:=htopf
   have hem:(zC P all'.toList).em.testBit i=true:=by rw [hd.plan.em i o ho]; exact hac
   obtain ⟨B',R',w',a',s',g1,g2,g3,g4,g5,g6,g7⟩:=hd.catch_up hem s k.heap hroom hm hfr (fs++base)
   have hw:Wait P w0 base B' R' ⟨fn,n,t,.drw all' (i::l) dn::kk,ds,.run,kind,round⟩ rest h { fr with tmps:=a',todo:=.inRegion all' (i::s')::k' } fs w' :=
    ⟨g5,g3.1.trans k.base,k.old.keeps k.base k.heap g6,⟨k1,k2,k3,k4,k5.mono g4,k6.mono fun _ _ q=>q.mono g4,k7.mono g4,g2.trans k8,i::s',k',rfl,hk.mono fun _ _ q=>q.mono g4,g7.suspend hem⟩,rfl,k.below.mono g4 g3 (Nat.le_refl _)⟩
   have hreads:=g7.reads ho hidn
   obtain ⟨fr',cs',w2,s1,s2⟩:=zeh hw rfl ho (fun x hx v hv=>vZ (fun u hu he=>hreads u v (by rw [hu] at hx; exact xf hx) he) hv)
    (fun g b q u v hg hq hu hv=>hreads u v (x5 hg (by simpa using hq) hu) hv) hwt hnd hE hl e
   exact ⟨fr',cs',w2,g1.trans s1,s2⟩
 · cases hto
end
section
variable {P:Program}
theorem zi0 [XT P] [XTOk P] {keep:Nat}{f0:FuncId}{Q:AV→AHeap→Prop}{moved:Bool}{m:AM}{K:AM→Prop}(e:OpWK P moved m K)(hK:∀ m,K m→Goal P keep f0 Q m):Goal P keep f0 Q m:=by
 intro w0 base cfr cs w hk s
 obtain ⟨fr,rest,h⟩:=m
 unfold OpWK at e
 simp only at e
 split at e
 rotate_left
 · exact e.elim
 rename_i hm
 split at e
 · exact e.elim
 rename_i all o ho
 split at e
 rotate_left
 · exact e.elim
 rename_i hw
 split at e
 · exact e.elim
 rename_i hac
 split at e
 · exact e.elim
 rename_i r p hop
 obtain ⟨hp,e⟩:=e
 obtain ⟨hnd,rE,g1,g2⟩:=znG hop hp
 obtain ⟨m',h1,h2⟩:=x8 e
 obtain ⟨B,R,fs,rfl,hb,kh,ho',kt,kb⟩:=s
 obtain ⟨fr1,cs1,w1,s1,k1⟩:=zj8 (af:=fr) (rest:=rest) (h:=h) ⟨kh,hb,ho',kt,hm,kb⟩ ho hac hw hnd g1 g2 h1
 obtain ⟨fr',w',B,R,v,v',h',s2,g⟩:=hK _ h2 w0 base fr1 cs1 w1 hk k1
 exact ⟨fr',w',B,R,v,v',h',s1.trans s2,g⟩
end
end Go.Proofs.Ytehelionjafnkaa.Ev
end
section
namespace Go.Proofs.Ytehelionjafnkaa.Ev
open Go
noncomputable section
variable (P:Program)
def znf (n:Nat) (c' c:T AV):Prop:=∀ k v,k<n→c'.get k=some v→c.get k=some v
def zmn (id:Nat) (c':T AV) (z':Nat) (m:AM) (K:AM→Prop):Prop:=match m with
 | ⟨⟨fn,n,t,todo,ds,mode,kind,round⟩,rest,⟨objs,next,glob⟩⟩=>match rest with
  | _::_=>False
  | []=>match todo with
   | .drw _ _ _::_=>False
   | todo=>match objs.get id with
    | some (.cells c z el lo hi nv fz sg ex)=>znf z' c' c∧z'=z∧K ⟨⟨fn,n,t,todo,ds,mode,kind,round⟩,[],⟨objs.set (some (.cells c' z' el lo hi nv fz sg ex)) id,next,glob⟩⟩
    | _=>False
def zi1 (u:Nat) (p:List Nat) (id:Nat) (c':T AV) (z':Nat) (m:AM) (K:AM→Prop):Prop:=match m with
 | ⟨⟨fn,n,t,todo,ds,mode,kind,round⟩,rest,⟨objs,next,glob⟩⟩=>match mode with
  | .run=>match todo with
   | .drw _ _ _::_=>False
   | todo=>match t.get u with
    | none=>False
    | some v0=>match wit ⟨objs,next,glob⟩ p v0 with
     | none=>False
     | some v=>match kK v with
      | none=>False
      | some j=>match Nat.beq j id with
       | false=>False
       | true=>match objs.get id with
        | some (.cells c z el lo hi nv fz sg ex)=>znf z' c' c∧z'=z∧K ⟨⟨fn,n,t,todo,ds,.run,kind,round⟩,rest,⟨objs.set (some (.cells c' z' el lo hi nv fz sg ex)) id,next,glob⟩⟩
        | _=>False
  | _=>False
def zdj (h:AHeap) (id ver off k:Nat) (l:List UInt8):Option Prop:=match h.get id with
 | some (.cells c n _ lo hi _ _ _ ex)=>match zm ex n hi ver with
  | some e=>bif Nat.ble lo ver&&Nat.ble ver hi then some (off+k≤e∧xw (zF c off k)=some (.str l)) else none
  | none=>none
 | _=>none
def zlr (h:AHeap) (l:List UInt8) (v:AV):Option Prop:=match v with
 | .slc id ver off len _=>zdj h id ver off len l
 | .slg id ver off len _=>zdj h id ver off len l
 | _=>none
def zfY (ρ:Operand→Option AV) (h:AHeap) (l:List UInt8) (o:Op):Option Prop:=match o with
 | .convert s d x=>match P.underlying s with
  | none=>none
  | some _=>match P.underlying d with
   | some .string=>match vb P d with
    | true=>none
    | false=>match yL P s with
     | false=>none
     | true=>match ρ x with
      | none=>none
      | some v=>zlr h l v
   | _=>none
 | _=>none
def zjB [XT P] (l:List UInt8) (m:AM) (K:AM→Prop):Prop:=match m with
 | ⟨fr,rest,h⟩=>match fr.mode with
  | .run=>match kG fr with
   | none=>False
   | some (all,o)=>match zB all fr.tmps o.guard with
    | some true=>zd8 (zfY P (ev fr.tmps) h l o.op) fun p=>p∧zkm P fr rest h (.val (.str l) h) K
    | _=>False
  | _=>False
def binV (ρ:Operand→Option AV) (b:AV) (o:Op):Option Prop:=match o with
 | .binOp op t x y _=>match ρ x with
  | none=>none
  | some v=>match ρ y with
   | none=>none
   | some w=>some (∀ h:AHeap,zgT P h op t (xE x || xE y) v w=some b)
 | _=>none
def zlX [XT P] (v:AV) (m:AM) (K:AM→Prop):Prop:=match m with
 | ⟨fr,rest,h⟩=>match fr.mode with
  | .run=>match kG fr with
   | none=>False
   | some (all,o)=>match zB all fr.tmps o.guard with
    | some true=>zd8 (binV P (ev fr.tmps) v o.op) fun p=>p∧zkm P fr rest h (.val v h) K
    | _=>False
  | _=>False
def mnzE (h : AHeap) (fn : Func) (args : List AV) : Option (AR × Prop) := match fn.origin == "" with
 | false=>none
 | true => match fn.name == "internal/abi.NoEscape" with
  | true=>none
  | false => match fn.name == "internal/bytealg.abigen_runtime_cmpstring" with
   | true=>none
   | false => match fn.name == "internal/bytealg.IndexByteString" with
    | true=>none
    | false => match fn.name == "internal/bytealg.CountString" with
     | true=>none
     | false => match fn.name == "internal/bytealg.MakeNoZero" with
      | false=>none
      | true=>match fn.resultTypes[0]? with
       | none=>none
       | some t=>match P.underlying t with
        | some (.slice el)=>match args with
         | [.int .i64 n]=>some (.val (.slg h.next 0 0 n.toNat 0) (h.new (.cells .leaf n.toNat el 0 0 1 0 false .leaf)),0≤n∧n<2 ^ 40∧P.cellsOf el=1)
         | _=>none
        | _=>none
def zmW (h:AHeap) (u:TypeId) (l:List UInt8) (p n:AV):Option (AR × Prop):=match n with
 | .int .i64 k=>match p with
  | .ptr id ver off=>match h.get id with
   | some (.cells c m el lo hi nv fz sg ex)=>match zm ex m hi ver with
    | none=>none
    | some e=>match Nat.ble lo ver&&Nat.ble ver hi with
     | false=>none
     | true=>match Nat.beq off 0&&Nat.beq el u&&!sg with
      | false=>none
      | true=>some (.val (.str l) (h.put id (.cells c m el lo hi nv (max fz k.toNat) sg ex)),0<k∧k<2 ^ 40∧k.toNat≤e∧P.cellsOf el=1∧xw (zF c 0 k.toNat)=some (.str l))
   | _=>none
  | _=>none
 | _=>none
def extW (ρ:Operand→Option AV) (h:AHeap) (l:List UInt8) (o:Op):Option (AR × Prop):=match o with
 | .call c=>match y9 ρ c.args.toList with
  | none=>none
  | some args=>match c.callee with
   | .value f=>match ρ f with
    | some (.fn (.func g) first cap)=>match P.funcs[g]? with
     | none=>none
     | some fn=>match fn.body with
      | some _=>none
      | none=>mnzE P h fn ((first++args)++cap)
    | _=>none
   | .builtin .unsafeString=>match c.argTypes[0]? with
    | none=>none
    | some t=>match vL P t with
     | none=>none
     | some el=>match jI P el with
      | false=>none
      | true=>match zib args with
       | none=>none
       | some (p,n)=>zmW P h el l p n
   | _=>none
 | _=>none
def ExtK [XT P] (l:List UInt8) (m:AM) (K:AM→Prop):Prop:=match m with
 | ⟨fr,rest,h⟩=>match fr.mode with
  | .run=>match kG fr with
   | none=>False
   | some (all,o)=>match zB all fr.tmps o.guard with
    | some true=>match extW P (ev fr.tmps) h l o.op with
     | none=>False
     | some (r,p)=>p∧zkm P fr rest h r K
    | _=>False
  | _=>False
def ldW (h:AHeap) (t:TypeId) (v p:AV):Option (AR × Prop):=match p with
 | .ptr id ver off=>match zkr P t with
  | none=>none
  | some true=>match v with
   | .agg l=>match P.info? t with
    | none=>none
    | some i=>some (.val (.agg l) h,za h id ver off i.size=some l)
   | _=>none
  | some false=>some (.val v h,za h id ver off 1=some [v])
 | _=>none
def stW (h:AHeap) (t:TypeId) (O:T AObj) (p v:AV):Option (AR × Prop):=match p with
 | .ptr id ver off=>match P.info? t with
  | none=>none
  | some i=>match Nat.beq v.cells.length i.size with
   | false=>none
   | true=>some (.skip ⟨O,h.next,h.glob⟩,zb h id ver off v.cells=some ⟨O,h.next,h.glob⟩)
 | _=>none
def nwW (h:AHeap) (t:TypeId) (O:T AObj) (z:AV):Option (AR × Prop):=match xW P t with
 | none=>none
 | some n=>match Nat.beq n z.cells.length&&z.cells.all AV.one with
  | false=>none
  | true=>some (.val (.ptr h.next 0 0) ⟨O,h.next+1,h.glob⟩,h.objs.set (some (.cells (ze .leaf 0 z.cells) z.cells.length t 0 0 1 0 false .leaf)) h.next=O)
def hopW (ρ:Operand→Option AV) (h:AHeap) (v:AV) (O:T AObj) (o:Op):Option (AR × Prop):=match o with
 | .load t a=>match ρ a with
  | none=>none
  | some p=>ldW P h t v p
 | .store t a x=>match ρ a with
  | none=>none
  | some p=>match ρ x with
   | none=>none
   | some x=>stW P h t O p x
 | .alloc t=>match yT P t with
  | none=>none
  | some z=>nwW P h t O z
 | .box t x=>match ρ x with
  | none=>none
  | some z=>nwW P h t O z
 | .lookup t m k ok=>match ρ m with
  | none=>none
  | some a=>match ρ k with
   | none=>none
   | some b=>some (.val v h,xV P h t a b ok=some v)
 | .mapUpdate t m k x=>match ρ m with
  | none=>none
  | some a=>match ρ k with
   | none=>none
   | some b=>match ρ x with
    | none=>none
    | some c=>some (.skip ⟨O,h.next,h.glob⟩,yE P h t a b c=some ⟨O,h.next,h.glob⟩)
 | .binOp op t x y _=>match ρ x with
  | none=>none
  | some a=>match ρ y with
   | none=>none
   | some b=>some (.val v h,zgT P h op t (xE x || xE y) a b=some v)
 | .slice t x lo hi mx=>match ρ x with
  | none=>none
  | some a=>match qi ρ lo with
   | none=>none
   | some l=>match qi ρ hi with
    | none=>none
    | some hh=>match qi ρ mx with
     | none=>none
     | some m=>some (.val v h,yY P h t a l hh m=some v)
 | .call c=>match y9 ρ c.args.toList with
  | none=>none
  | some args=>match c.callee with
   | .builtin b=>match x3 b with
    | true=>none
    | false=>some (.val v ⟨O,h.next,h.glob⟩,zd P h b c.argTypes[0]? c.argTypes[1]? args=some (.val v ⟨O,h.next,h.glob⟩))
   | _=>none
 | _=>none
def zjJ (ρ:Operand→Option AV) (h:AHeap) (o:Op) (v:AV) (K:Prop):Prop:=match o with
 | .load t a=>match ρ a with
  | some (.ptr id ver off)=>match ldW P h t v (.ptr id ver off) with
   | none=>False
   | some (_,q)=>q∧K
  | _=>vP P ρ h (.load t a)=some v∧K
 | o=>vP P ρ h o=some v∧K
def zji (all:List Oper) (t:T AV) (h:AHeap) (o:Oper) (K:Prop):Prop:=match zB all t o.guard with
 | none=>False
 | some w=>match w with
  | false=>K
  | true=>match o.dst with
   | none=>(vP P (ev t) h o.op).isSome=true∧K
   | some d=>match t.get d with
    | none=>False
    | some v=>zjJ P (ev t) h o.op v (zkJ (okD 300 v) K)
def zhI (all:List Oper) (anc:Nat) (t:T AV) (h:AHeap):List Nat→Prop→Prop
 | [],K=>K
 | p::r,K=>match all[p]? with
  | none=>zhI all anc t h r K
  | some o=>match yf P o.op&&!(anc.testBit p) with
   | false=>zhI all anc t h r K
   | true=>zji P all t h o (zhI all anc t h r K)
def zi8 (fr:AFrame) (h:AHeap) (all:Array Oper) (i:Nat) (o:Oper) (l dn:List Nat) (k:List AItem) (t:Option (T AV)) (K:AFrame→Prop):Prop:=match t with
 | none=>False
 | some t=>match fr with
  | ⟨fn,n,_,_,ds,mode,kind,round⟩=>match yh P o || z8 o.op with
   | false=>K ⟨fn,n,t,.drw all l (i::dn)::k,ds,mode,kind,round⟩
   | true=>zhI P all.toList (bif yh P o then (zC P all.toList).anc.getD i 0 else 0) t h dn (K ⟨fn,n,t,.drw all l (i::dn)::k,ds,mode,kind,round⟩)
def znK (fr:AFrame) (h:AHeap) (v:AV) (K:AFrame→Prop):Prop:=match fr.todo with
 | .drw all (i::l) dn::k=>match all[i]? with
  | none=>False
  | some o=>zi8 P fr h all i o l dn k (zic fr.tmps fr.n o.dst v) K
 | _=>zd8 (zJ P fr h v) K
def zkn [XT P] (fr:AFrame) (rest:List AFrame) (heap:AHeap) (r:AR) (K:AM→Prop):Prop:=match r with
 | .val v h=>znK P fr h v fun fr=>K ⟨fr,rest,h⟩
 | .skip h=>znK P fr h xd fun fr=>K ⟨fr,rest,h⟩
 | r=>zd8 (zh5 P fr rest heap r) K
def HopK [XT P] (v:AV) (O:T AObj) (m:AM) (K:AM→Prop):Prop:=match m with
 | ⟨fr,rest,h⟩=>match fr.mode with
  | .run=>match kG fr with
   | none=>False
   | some (all,o)=>match zB all fr.tmps o.guard with
    | some true=>match hopW P (ev fr.tmps) h v O o.op with
     | none=>False
     | some (r,p)=>p∧zkn P fr rest h r K
    | _=>False
  | _=>False
def stG (h:AHeap) (t:TypeId) (O:T AObj) (p v:AV):Option (AR × Prop):=match p with
 | .ptr id ver off=>match P.info? t with
  | none=>none
  | some i=>some (.skip ⟨O,h.next,h.glob⟩,Nat.beq v.cells.length i.size=true∧zb h id ver off v.cells=some ⟨O,h.next,h.glob⟩)
 | _=>none
def zmT (ρ:Operand→Option AV) (h:AHeap) (v:AV) (O:T AObj) (n:Nat) (o:Op):Option (AR × Prop):=match o with
 | .call c=>match y9 ρ c.args.toList with
  | none=>none
  | some args=>match c.callee with
   | .builtin b=>match x3 b with
    | true=>some (.val v h,xK P h b c.argTypes[0]? args=some v)
    | false=>some (.val v ⟨O,n,h.glob⟩,zd P h b c.argTypes[0]? c.argTypes[1]? args=some (.val v ⟨O,n,h.glob⟩))
   | _=>none
 | .makeMap _ r=>match r with
  | none=>some (.val (.mp h.next) ⟨O,h.next+1,h.glob⟩,h.objs.set (some (.map [] 0)) h.next=O)
  | some _=>none
 | .buildSlice t k parts=>match qG ρ parts.toList with
  | none=>none
  | some l=>some (.val v ⟨O,n,h.glob⟩,zg P h t k l=some (v,⟨O,n,h.glob⟩))
 | .makeSlice t l c=>match ρ l with
  | none=>none
  | some a=>match ρ c with
   | none=>none
   | some b=>some (.val v ⟨O,n,h.glob⟩,zj P h t a b=some (v,⟨O,n,h.glob⟩))
 | .convert s d x=>match vb P d with
  | false=>match ρ x with
   | none=>none
   | some a=>some (.val v h,zas P h s d a=some v)
  | true=>match ρ x with
   | none=>none
   | some a=>some (.val v ⟨O,n,h.glob⟩,zaR P h s d a=some (v,⟨O,n,h.glob⟩))
 | .build t parts=>match qG ρ parts.toList with
  | none=>none
  | some l=>some (.val v h,zgp P t l=some v)
 | .indexAddr t x ix=>match ρ x with
  | none=>none
  | some a=>match ρ ix with
   | none=>none
   | some b=>some (.val v h,zx P t a b=some v)
 | .box t x=>match ρ x with
  | none=>none
  | some z=>match xW P t with
   | none=>none
   | some n=>some (.val (.ptr h.next 0 0) ⟨O,h.next+1,h.glob⟩,(Nat.beq n z.cells.length&&z.cells.all AV.one)=true∧h.objs.set (some (.cells (ze .leaf 0 z.cells) z.cells.length t 0 0 1 0 false .leaf)) h.next=O)
 | .store t a x=>match ρ a with
  | none=>none
  | some p=>match ρ x with
   | none=>none
   | some x=>stG P h t O p x
 | _=>none
def zmD [XT P] (v:AV) (O:T AObj) (n:Nat) (m:AM) (K:AM→Prop):Prop:=match m with
 | ⟨fr,rest,h⟩=>match fr.mode with
  | .run=>match kG fr with
   | none=>False
   | some (all,o)=>match zB all fr.tmps o.guard with
    | some true=>match zmT P (ev fr.tmps) h v O n o.op with
     | none=>False
     | some (r,p)=>p∧zkn P fr rest h r K
    | _=>False
  | _=>False
def znr (h:AHeap) (t:T AV):List ResultVar→List AV→Option (List AV × Prop)
 | [],_=>some ([],True)
 | x::r,vs=>match vs with
  | []=>none
  | v::vs=>match znr h t r vs with
   | none=>none
   | some (l,q)=>match x with
    | .tmp i=>match t.get i with
     | none=>none
     | some u=>some (u::l,q)
    | .cell a ty=>match t.get a with
     | none=>none
     | some p=>match ldW P h ty v p with
      | some (.val u _,p')=>some (u::l,p'∧q)
      | _=>none
def zmt (vs:List AV) (m:AM) (K:AM→Prop):Prop:=match m with
 | ⟨fr,rest,h⟩=>match fr.mode with
  | .returning=>match fr.defers with
   | []=>match fr.kind with
    | .normal=>match rest with
     | []=>False
     | c::r=>match c.mode with
      | .run=>match P.funcs[fr.fn]? with
       | none=>False
       | some fn=>match znr P h fr.tmps fn.results.toList vs with
        | none=>False
        | some (l,q)=>q∧zd8 (zmV (some l)) fun v=>znK P c h v fun c=>K ⟨c,r,h⟩
      | _=>False
    | _=>False
   | _::_=>False
  | _=>False
def znF (f:FuncId) (args:List AV) (h:AHeap) (v:AV) (H:AHeap):Prop :=
 ∀ (B:Base) (R:Bij) (w:World) (args':List Value),HRel P B R h w→B.n≤w.heap.size→VRels R args args' →
  Calls P f args'.toArray w fun e w'=>∃ R' v',e=.returned v'∧VRel R' v v'∧HRel P B R' ⟨H.objs,H.next,h.glob⟩ w'∧Keeps R w R' w'
def AskK [XT P] (v:AV) (H:AHeap) (m:AM) (K:AM→Prop):Prop:=match m with
 | ⟨fr,rest,h⟩=>match fr.mode with
  | .run=>match kG fr with
   | none=>False
   | some (all,op)=>match zB all fr.tmps op.guard with
    | some true=>match opA P (ev fr.tmps) h op.op with
     | some (.enter f args h0)=>znF P f args h0 v H∧zkm P fr rest h (.val v ⟨H.objs,H.next,h0.glob⟩) K
     | _=>False
    | _=>False
  | _=>False
def CapK (id k:Nat) (m:AM) (K:AM→Prop):Prop:=match m with
 | ⟨⟨fn,n,t,todo,ds,mode,kind,round⟩,rest,⟨objs,next,glob⟩⟩=>match rest with
  | _::_=>False
  | []=>match todo with
   | .drw _ _ _::_=>False
   | todo=>match objs.get id with
    | some (.cells c z el lo hi nv fz sg ex)=>match c.get k with
     | some (.slg i r o l _st)=>0<l∧∀ cap,l≤cap→K ⟨⟨fn,n,t,todo,ds,mode,kind,round⟩,[],⟨objs.set (some (.cells (c.set (some (.slc i r o l cap)) k) z el lo hi nv fz sg ex)) id,next,glob⟩⟩
     | _=>False
    | _=>False
inductive Cmd where
 | run (n:Nat)
 | br (b:Bool)
 | know (u:Nat) (b:Bool)
 | slot (u:Nat) (v:AV)
 | op
 | res (r:AR)
 | step
 | can (keep:Nat) (ids us:List Nat) (uss:List (List Nat))
 | keep (us:List Nat)
 | call (us:List Nat) (Q:AV→Prop)
 | callv (us:List Nat) (v:AV)
 | callh (l:List (Nat × Nat × List Nat)) (us:List Nat) (v:AV) (H:AHeap)
 | told (id:Nat) (c:T AV) (n:Nat)
 | tolds (u:Nat) (p:List Nat) (id:Nat) (c:T AV) (n:Nat)
 | cap (id k:Nat)
 | bytes (l:List UInt8)
 | ext (l:List UInt8)
 | isv (v:AV)
 | ask (v:AV) (H:AHeap)
 | opw (moved:Bool)
 | hop (v:AV) (O:T AObj)
 | hopn (v:AV) (O:T AObj) (n:Nat)
 | hret (vs:List AV)
 | done
def cmdK [XT P] (f0:FuncId) (Q:AV→AHeap→Prop) (keep:Nat) (c:Cmd) (m:AM) (K:AM→Prop):Prop:=match c with
 | .run n=>zd8 (runN P n m) K
 | .br b=>Br b m K
 | .know u b=>Know u b m K
 | .slot u v=>Slot u v m K
 | .op=>OpK P m K
 | .res x=>ResK P x m K
 | .step=>zlR P m K
 | .keep us=>zlZ us m K
 | .can k ids us uss=>bif Nat.ble keep k then CanP k ids us uss m K else False
 | .call us q=>zjl P us q m K
 | .callv us v=>zmG P us v m K
 | .callh l us v H=>zmk P l us v H m K
 | .told id c n=>zmn id c n m K
 | .tolds u p id c n=>zi1 u p id c n m K
 | .cap id k=>CapK id k m K
 | .bytes l=>zjB P l m K
 | .isv v=>zlX P v m K
 | .ext l=>ExtK P l m K
 | .opw b=>OpWK P b m K
 | .ask v H=>AskK P v H m K
 | .hop v O=>HopK P v O m K
 | .hopn v O n=>zmD P v O n m K
 | .hret vs=>zmt P vs m K
 | .done=>zna P f0 Q m
def Obl [XT P] (f0:FuncId) (Q:AV→AHeap→Prop) (keep:Nat) (K:AM→Prop) (l:List Cmd):AM→Prop :=
 List.rec (motive:=fun _=>AM→Prop) K (fun c _ ih m=>cmdK P f0 Q keep c m ih) l
end
section
variable {P:Program}
theorem zhR {keep:Nat}{f0:FuncId}{Q:AV→AHeap→Prop}{id:Nat}{c':T AV}{z':Nat}{m:AM}{K:AM→Prop}(e:zmn id c' z' m K)(hK:∀ m,K m→Goal P keep f0 Q m):Goal P keep f0 Q m:=by
 intro w0 base fr cs w hk s
 obtain ⟨⟨fn,n,t,todo,ds,mode,kind,round⟩,rest,⟨objs,next,glob⟩⟩:=m
 unfold zmn at e
 simp only at e
 split at e
 · exact e.elim
 split at e
 · exact e.elim
 rename_i hn
 split at e
 rotate_left
 · exact e.elim
 rename_i c z el lo hi nv fz sg ex hobj
 obtain ⟨hle,rfl,e⟩:=e
 obtain ⟨B,R,fs,hc,hb,kh,ho,kt,kb⟩:=s
 generalize ho':AObj.cells c' z' el lo hi nv fz sg ex=o' at e
 let h':AHeap:=⟨objs.set (some o') id,next,glob⟩
 let B':Base:={ B with pend:=fun i=>match B.pend i with
  | none=>none
  | some _=>h'.get i }
 have hget:∀ i,h'.get i=if i=id then some o' else objs.get i:=fun i=>T.get_set ..
 have hpn:∀ i,B.pend i=none ↔ B'.pend i=none:=by
  intro i
  show _ ↔ (match B.pend i with
   | none=>none
   | some _=>h'.get i)=none
  cases hp:B.pend i with
  | none=>simp
  | some o =>
   have:=(kh.pend i o hp).2.1
   refine ⟨fun h=>(by cases h),fun h=>?_⟩
   simp only at h
   rw [hget] at h
   split at h
   · cases h
   · change objs.get i=some o at this; rw [this] at h; cases h
 refine hK _ e w0 base fr cs w hk ⟨B',R,fs,hc,hb,?_,ho,?_,kb⟩
 · refine ⟨kh.fresh,fun i o eo hpe=>?_,fun i o eo=>?_,kh.place,fun i hi=>⟨(kh.rd i hi).1,fun o eo=>?_⟩,fun i hi=>(hpn i).1 (kh.rp i hi),kh.rol,kh.low,kh.pin,kh.apart,kh.same,kh.glob⟩
   · have eo':h'.get i=some o:=eo
     rw [hget] at eo'
     split at eo'
     · rename_i hi
       subst hi
       cases eo'
       obtain ⟨a1,a2,a3,a4,a5⟩:ObjRel P R w i (.cells c z' el lo hi nv fz sg ex):=kh.obj i _ hobj ((hpn i).2 hpe)
       subst ho'
       refine ⟨a1,a2,a3,fun r e b1 b2 b3=>?_,a5⟩
       obtain ⟨L,h1,cs,a,b,g1,g2,g3,g4,g5⟩:=a4 r e b1 b2 b3
       exact ⟨L,h1,cs,a,b,g1,g2,g3,g4,fun q v q1 q2 q3=>g5 q v q1 q2 (hle q v (Nat.lt_of_lt_of_le q1 (a5 r e b1 b2 b3)) q3)⟩
     · exact kh.obj i o eo' ((hpn i).2 hpe)
   · change (match B.pend i with
      | none=>none
      | some _=>h'.get i)=some o at eo
     cases hp:B.pend i with
     | none=>rw [hp] at eo; cases eo
     | some o0 =>
      rw [hp] at eo
      exact ⟨(kh.pend i o0 hp).1,eo,(kh.pend i o0 hp).2.2⟩
   · have eo':h'.get i=some o:=eo
     rw [hget] at eo'
     split at eo'
     · rename_i hi'
       subst hi'
       have:=(kh.rd i hi).2 _ hobj
       cases this
     · exact (kh.rd i hi).2 o eo'
 · obtain ⟨k1,k2,k3,k4,k5,k6,k7,k8,k9⟩:=kt
   refine ⟨k1,k2,k3,k4,k5,k6,k7,k8,?_⟩
   cases mode with
   | run =>
    change TodoRel P B R 0 false _ todo t fr.todo fr.tmps at k9
    show TodoRel P B' R 0 false h' todo t fr.todo fr.tmps
    cases todo with
    | nil=>exact k9
    | cons it kk =>
     cases it with
     | drw a b c=>exact absurd rfl (hn a b c kk)
     | _=>exact k9
   | returning=>exact k9
   | panicking c=>exact k9
theorem zfQ {keep:Nat}{f0:FuncId}{Q:AV→AHeap→Prop}{u:Nat}{p:List Nat}{id:Nat}{c':T AV}{z':Nat}{m:AM}{K:AM→Prop}(e:zi1 u p id c' z' m K)(hK:∀ m,K m→Goal P keep f0 Q m):Goal P keep f0 Q m:=by
 intro w0 base fr cs w hk s
 obtain ⟨⟨fn,n,t,todo,ds,mode,kind,round⟩,rest,⟨objs,next,glob⟩⟩:=m
 unfold zi1 at e
 simp only at e
 split at e
 rotate_left
 · exact e.elim
 split at e
 · exact e.elim
 rename_i hn
 split at e
 · exact e.elim
 rename_i v0 hv0
 split at e
 · exact e.elim
 rename_i v hv
 split at e
 · exact e.elim
 rename_i j hj
 split at e
 · exact e.elim
 rename_i hji
 split at e
 rotate_left
 · exact e.elim
 rename_i c z el lo hi nv fz sg ex hobj
 obtain ⟨hle,rfl,e⟩:=e
 obtain rfl:=Nat.eq_of_beq_eq_true hji
 obtain ⟨B,R,fs,hc,hb,kh,ho,kt,kb⟩:=s
 obtain ⟨k1,k2,k3,k4,k5,k6,k7,k8,k9⟩:=kt
 change TodoRel P B R rest.length false _ todo t fr.todo fr.tmps at k9
 have hs:All2 (ItemRel R) todo fr.todo∧Slots R t fr.tmps:=by
  cases todo with
  | nil=>exact k9
  | cons it kk =>
   cases it with
   | drw a b c=>exact absurd rfl (hn a b c kk)
   | _=>exact k9
 obtain ⟨x,_,hx⟩:=hs.2 u v0 hv0
 obtain ⟨x',hx'⟩:=qr kh hv hx
 obtain ⟨r,L,hL⟩:=km hx' hj
 have hp:B.pend j=none:=by
  cases hpj:B.pend j with
  | none=>rfl
  | some o=>have:=(kh.pend j o hpj).2.2 r; rw [this] at hL; cases hL
 have hless:LessH P j ⟨objs,next,glob⟩ ⟨objs.set (some (.cells c' z' el lo hi nv fz sg ex)) j,next,glob⟩ :=
  ⟨.cells c z' el lo hi nv fz sg ex,.cells c' z' el lo hi nv fz sg ex,hobj,rfl,rfl,fun i=>T.get_set ..,rfl,rfl,xl hle⟩
 refine hK _ e w0 base fr cs w hk ⟨B,R,fs,hc,hb,kh.less hless hp,ho,⟨k1,k2,k3,k4,k5,k6,k7,k8,?_⟩,kb.mono (fun _ _ _ h=>h) ⟨rfl,fun _ _ h _=>⟨h,rfl⟩⟩ (Nat.le_refl _)⟩
 show TodoRel P B R rest.length false _ todo t fr.todo fr.tmps
 cases todo with
 | nil=>exact hs
 | cons it kk =>
  cases it with
  | drw a b c=>exact absurd rfl (hn a b c kk)
  | _=>exact hs
theorem zhz {ρ:Operand→Option AV}{h:AHeap}{l:List UInt8}{o:Op}{p:Prop}(e:zfY P ρ h l o=some p)(hp:p):opA P ρ h o=some (.val (.str l) h):=by
 unfold zfY at e
 split at e
 rotate_left
 · cases e
 rename_i s d x
 split at e
 · cases e
 rename_i us hs
 split at e
 rotate_left
 · cases e
 rename_i hd
 split at e
 · cases e
 rename_i hsl
 split at e
 · cases e
 rename_i hb
 split at e
 · cases e
 rename_i v hv
 have key:∀ id ver off k,zdj h id ver off k l=some p→xw (za h id ver off k)=some (.str l):=by
  intro id ver off k e
  unfold zdj at e
  split at e
  rotate_left
  · cases e
  rename_i c n el lo hi nv fz sg ex ho
  split at e
  rotate_left
  · cases e
  rename_i ee he
  cases hc:(Nat.ble lo ver&&Nat.ble ver hi) with
  | false=>rw [hc] at e; cases e
  | true =>
   rw [hc] at e
   simp only [cond_true,Option.some.injEq] at e
   subst e
   simp only [Bool.and_eq_true,Nat.ble_eq] at hc
   unfold za
   rw [ho]
   simp only [he]
   rw [if_pos ⟨hc.1,hc.2,hp.1⟩]
   exact hp.2
 have conv:zas P h s d v=some (.str l):=by
  unfold zas
  rw [hs,hd]
  simp only [hb]
  unfold zlr at e
  split at e
  · rename_i id ver off len c
    show xw (za h id ver off len)=_
    exact key _ _ _ _ e
  · rename_i id ver off len st
    show xw (za h id ver off len)=_
    exact key _ _ _ _ e
  · cases e
 show yv ρ x (fun v=>zba P h s d v)=_
 unfold yv
 rw [hv]
 show zba P h s d v=_
 unfold zba
 rw [hsl]
 show yg h (zas P h s d v)=_
 rw [conv]
 rfl
theorem zlV {h:AHeap}{fn:Func}{args:List AV}{r:AR}{p:Prop}(e:mnzE P h fn args=some (r,p))(hp:p):jL P h fn args=some r:=by
 unfold mnzE at e
 unfold jL
 split at e
 · cases e
 rename_i h0
 simp only [h0]
 split at e
 · cases e
 rename_i h1
 simp only [h1]
 split at e
 · cases e
 rename_i h2
 simp only [h2]
 split at e
 · cases e
 rename_i h3
 simp only [h3]
 split at e
 · cases e
 rename_i h4
 simp only [h4]
 split at e
 · cases e
 rename_i h5
 simp only [h5]
 unfold yl
 split at e
 · cases e
 rename_i t ht
 simp only [ht]
 split at e
 rotate_left
 · cases e
 rename_i el hu
 simp only [hu]
 split at e
 rotate_left
 · cases e
 cases e
 simp only
 rw [if_pos hp]
theorem zk9 {h:AHeap}{u:TypeId}{l:List UInt8}{v n:AV}{r:AR}{p:Prop}(e:zmW P h u l v n=some (r,p))(hp:p):vd (qk P h u v n)=some r:=by
 unfold zmW at e
 split at e
 rotate_left
 · cases e
 rename_i k
 split at e
 rotate_left
 · cases e
 rename_i id ver off
 split at e
 rotate_left
 · cases e
 rename_i c m el lo hi nv fz sg ex ho
 split at e
 · cases e
 rename_i e0 he
 split at e
 · cases e
 rename_i hb
 split at e
 · cases e
 rename_i hq
 cases e
 simp only [Bool.and_eq_true,Nat.ble_eq] at hb
 rw [Bool.and_eq_true,Bool.and_eq_true] at hq
 obtain ⟨⟨q1,q2⟩,q3⟩:=hq
 have q1:=Nat.eq_of_beq_eq_true q1
 have q2:=Nat.eq_of_beq_eq_true q2
 have q3:sg=false:=by cases sg; rfl; cases q3
 obtain ⟨p1,p2,p3,p4,p5⟩:=hp
 unfold xw at p5
 split at p5
 · cases p5
 rename_i ls hls
 unfold zmA at p5
 split at p5
 · cases p5
 rename_i s hs
 cases p5
 unfold qk
 simp only
 rw [if_neg (by omega),if_pos ⟨p1,p2⟩]
 unfold zdx
 rw [ho]
 simp only [he]
 rw [if_pos ⟨hb.1,hb.2,p3,q1,q2,q3,p4⟩]
 simp only [hls,hs]
 rfl
theorem zl5 {ρ:Operand→Option AV}{h:AHeap}{l:List UInt8}{o:Op}{r:AR}{p:Prop}(e:extW P ρ h l o=some (r,p))(hp:p):opA P ρ h o=some r:=by
 unfold extW at e
 split at e
 rotate_left
 · cases e
 rename_i c
 split at e
 · cases e
 rename_i args ha
 show zV P ρ h c=some r
 unfold zV
 simp only [ha]
 split at e
 · rename_i f hc
   rw [hc]
   simp only
   split at e
   rotate_left
   · cases e
   rename_i g first cap hf
   rw [hf]
   show qe P h (.func g) (first++args) cap=some r
   show zeM P h g ((first++args)++cap)=some r
   unfold zeM
   split at e
   · cases e
   rename_i fn hfn
   simp only [hfn]
   split at e
   · cases e
   rename_i hbody
   simp only [hbody]
   exact zlV e hp
 · rename_i hc
   rw [hc]
   simp only
   split at e
   · cases e
   rename_i t ht
   split at e
   · cases e
   rename_i el hel
   split at e
   · cases e
   rename_i hby
   split at e
   · cases e
   rename_i v n htw
   show zd P h .unsafeString c.argTypes[0]? c.argTypes[1]? args=some r
   unfold zd
   simp only [ht]
   unfold zdF
   simp only [hel,hby,htw]
   exact zk9 e hp
 · cases e
theorem zj3 {keep:Nat}{f0:FuncId}{Q:AV→AHeap→Prop}{id:Nat}{fn n:Nat}{t:T AV}{todo:List AItem}{ds:List ADef}{mode:AMode}{kind:CallKind}{round:Option Nat}{objs:T AObj}{next:Nat}{glob:T (T AV)}{o:AObj}
 (hn:∀ a b c k,todo≠.drw a b c::k) (hobj:objs.get id=some o) (hro:o.isRo=false)
 (hany:∃ o':AObj,o'.isRo=false∧Goal P keep f0 Q ⟨⟨fn,n,t,todo,ds,mode,kind,round⟩,[],⟨objs.set (some o') id,next,glob⟩⟩)
 (hsw:∀ (R:Bij) (w:World),ObjRel P R w id o→∃ o':AObj,o'.isRo=false∧ObjRel P R w id o'∧Goal P keep f0 Q ⟨⟨fn,n,t,todo,ds,mode,kind,round⟩,[],⟨objs.set (some o') id,next,glob⟩⟩) :
 Goal P keep f0 Q ⟨⟨fn,n,t,todo,ds,mode,kind,round⟩,[],⟨objs,next,glob⟩⟩:=by
 intro w0 base fr cs w hk s
 obtain ⟨B,R,fs,hc,hb,kh,ho,kt,kb⟩:=s
 obtain ⟨o',hro',hobj',hG⟩:∃ o':AObj,o'.isRo=false∧(B.pend id=none→ObjRel P R w id o')∧Goal P keep f0 Q ⟨⟨fn,n,t,todo,ds,mode,kind,round⟩,[],⟨objs.set (some o') id,next,glob⟩⟩:=by
  cases hp:B.pend id with
  | none =>
   obtain ⟨o',h1,h2,h3⟩:=hsw R w (kh.obj id _ hobj hp)
   exact ⟨o',h1,fun _=>h2,h3⟩
  | some x =>
   obtain ⟨o',h1,h3⟩:=hany
   exact ⟨o',h1,(fun h=>by cases h),h3⟩
 let h':AHeap:=⟨objs.set (some o') id,next,glob⟩
 let B':Base:={ B with pend:=fun i=>match B.pend i with
  | none=>none
  | some _=>h'.get i }
 have hget:∀ i,h'.get i=if i=id then some o' else objs.get i:=fun i=>T.get_set ..
 have hpn:∀ i,B.pend i=none ↔ B'.pend i=none:=by
  intro i
  show _ ↔ (match B.pend i with
   | none=>none
   | some _=>h'.get i)=none
  cases hp:B.pend i with
  | none=>simp
  | some o =>
   have:=(kh.pend i o hp).2.1
   refine ⟨fun h=>(by cases h),fun h=>?_⟩
   simp only at h
   rw [hget] at h
   split at h
   · cases h
   · change objs.get i=some o at this; rw [this] at h; cases h
 refine hG w0 base fr cs w hk ⟨B',R,fs,hc,hb,?_,ho,?_,kb⟩
 · refine ⟨kh.fresh,fun i o eo hpe=>?_,fun i o eo=>?_,kh.place,fun i hi=>⟨(kh.rd i hi).1,fun o eo=>?_⟩,fun i hi=>(hpn i).1 (kh.rp i hi),kh.rol,kh.low,kh.pin,kh.apart,kh.same,kh.glob⟩
   · have eo':h'.get i=some o:=eo
     rw [hget] at eo'
     split at eo'
     · rename_i hi
       subst hi
       cases eo'
       exact hobj' ((hpn i).2 hpe)
     · exact kh.obj i o eo' ((hpn i).2 hpe)
   · change (match B.pend i with
      | none=>none
      | some _=>h'.get i)=some o at eo
     cases hp:B.pend i with
     | none=>rw [hp] at eo; cases eo
     | some o0 =>
      rw [hp] at eo
      exact ⟨(kh.pend i o0 hp).1,eo,(kh.pend i o0 hp).2.2⟩
   · have eo':h'.get i=some o:=eo
     rw [hget] at eo'
     split at eo'
     · rename_i hi'
       subst hi'
       have:=(kh.rd i hi).2 _ hobj
       rw [hro] at this; cases this
     · exact (kh.rd i hi).2 o eo'
 · obtain ⟨k1,k2,k3,k4,k5,k6,k7,k8,k9⟩:=kt
   refine ⟨k1,k2,k3,k4,k5,k6,k7,k8,?_⟩
   cases mode with
   | run =>
    change TodoRel P B R 0 false _ todo t fr.todo fr.tmps at k9
    show TodoRel P B' R 0 false h' todo t fr.todo fr.tmps
    cases todo with
    | nil=>exact k9
    | cons it kk =>
     cases it with
     | drw a b c=>exact absurd rfl (hn a b c kk)
     | _=>exact k9
   | returning=>exact k9
   | panicking c=>exact k9
theorem zim {keep:Nat}{f0:FuncId}{Q:AV→AHeap→Prop}{id k:Nat}{m:AM}{K:AM→Prop}(e:CapK id k m K)(hK:∀ m,K m→Goal P keep f0 Q m):Goal P keep f0 Q m:=by
 obtain ⟨⟨fn,n,t,todo,ds,mode,kind,round⟩,rest,⟨objs,next,glob⟩⟩:=m
 unfold CapK at e
 simp only at e
 split at e
 · exact e.elim
 split at e
 · exact e.elim
 rename_i hn
 split at e
 rotate_left
 · exact e.elim
 rename_i c z el lo hi nv fz sg ex hobj
 split at e
 rotate_left
 · exact e.elim
 rename_i i r o l st hc
 obtain ⟨hl,e⟩:=e
 refine zj3 hn hobj rfl ⟨_,rfl,hK _ (e l (Nat.le_refl _))⟩ fun R w hrel=>?_
 obtain ⟨a1,a2,a3,a4,a5⟩:=hrel
 generalize hcap:max l (((R i r).elim 0 Loc.kap) - st)=cap
 refine ⟨.cells (c.set (some (.slc i r o l cap)) k) z el lo hi nv fz sg ex,rfl,?_,hK _ (e cap (by omega))⟩
 refine ⟨a1,a2,a3,fun r' e' b1 b2 b3=>?_,a5⟩
 obtain ⟨L,h1,cs,a,b,g1,g2,g3,g4,g5⟩:=a4 r' e' b1 b2 b3
 refine ⟨L,h1,cs,a,b,g1,g2,g3,g4,fun q v q1 q2 q3=>?_⟩
 rw [T.get_set] at q3
 split at q3
 · rename_i hq
   subst hq
   cases q3
   obtain ⟨x,hx,M,ad,hM,m1,m2,rfl,m3⟩:=g5 q _ q1 q2 hc
   refine ⟨_,hx,M,hM,m1,?_⟩
   have hc2:cap=M.kap - st:=by
    rw [← hcap,hM]
    simp only [Option.elim]
    omega
   rw [m3 (by omega),hc2]
 · exact g5 q v q1 q2 q3
open Classical in
noncomputable def zkk (f:FuncId) (args:List AV) (h:AHeap) (v:AV) (H:AHeap):FuncId→Option (AHeap→List AV→Option (AV × T AObj × Nat)) :=
 fun g=>if g=f then some (fun h' a=>if h'=h∧a=args then some (v,H.objs,H.next) else none) else none
theorem zi2 {f:FuncId}{args:List AV}{h:AHeap}{v:AV}{H:AHeap}(k:znF P f args h v H):@XTOk P ⟨zkk f args h v H⟩ :=
 @XTOk.mk P ⟨zkk f args h v H⟩ fun g F e=>by
  change zkk f args h v H g=some F at e
  unfold zkk at e
  split at e
  · rename_i hg
    cases e
    subst hg
    intro B R h' w a a' v' o' n' e hh hB ha
    dsimp only at e
    split at e
    · rename_i hc
      obtain ⟨rfl,rfl⟩:=hc
      cases e
      exact k B R w a' hh hB ha
    · cases e
  · cases e
open Classical in
theorem zh9 [XT P] [XTOk P] (hmix:P.follows .mixedOrders=true){keep:Nat}{f0:FuncId}{Q:AV→AHeap→Prop}{v:AV}{H:AHeap}{m:AM}{K:AM→Prop}(e:AskK P v H m K)(hK:∀ m,K m→Goal P keep f0 Q m):Goal P keep f0 Q m:=by
 obtain ⟨fr,rest,h⟩:=m
 unfold AskK at e
 simp only at e
 split at e
 rotate_left
 · exact e.elim
 rename_i hm
 split at e
 · exact e.elim
 rename_i all op ho
 split at e
 rotate_left
 · exact e.elim
 rename_i hw
 split at e
 rotate_left
 · exact e.elim
 rename_i f args h0 hop
 obtain ⟨k,e⟩:=e
 obtain ⟨m',h1,h2⟩:=x8 e
 refine @Goal.step P ⟨zkk f args h0 v H⟩ (zi2 k) hmix keep f0 Q _ m' ?_ (hK _ h2)
 rw [@xA P ⟨zkk f args h0 v H⟩ (zi2 k) fr rest h all op hm ho]
 simp only [wl,hw,hop,zaw]
 change jC rest _ (zJ P fr _ v)=some m' at h1
 have ht:zkk f args h0 v H f=some (fun h' a=>if h'=h0∧a=args then some (v,H.objs,H.next) else none):=if_pos rfl
 have hx:@zdW P ⟨zkk f args h0 v H⟩ h0 f args=some (v,⟨H.objs,H.next,h0.glob⟩):=by
  show (match zkk f args h0 v H f with
   | none=>none
   | some F=>match F h0 args with
    | none=>none
    | some (v,o,n)=>some (v,(⟨o,n,h0.glob⟩:AHeap)))=_
  rw [ht]
  simp only [and_self,if_true]
 show (match @zdW P ⟨zkk f args h0 v H⟩ h0 f args with
  | none=>jC (fr::rest) h0 (wP P f args .normal)
  | some (v,h')=>jC rest h' (zJ P fr h' v))=some m'
 rw [hx]
 exact h1
theorem zj2 {h:AHeap}{t:TypeId}{v p:AV}{r:AR}{q:Prop}(e:ldW P h t v p=some (r,q))(hq:q):yg h (zaC P h t p)=some r:=by
 unfold ldW at e
 split at e
 rotate_left
 · cases e
 unfold zaC
 simp only
 split at e
 · cases e
 · rename_i ht
   simp only [ht]
   split at e
   rotate_left
   · cases e
   split at e
   · cases e
   rename_i i hi
   cases e
   simp only [hi,hq]
   rfl
 · rename_i ht
   simp only [ht]
   cases e
   rw [hq]
   rfl
theorem znk {h:AHeap}{t:TypeId}{O:T AObj}{p v:AV}{r:AR}{q:Prop}(e:stW P h t O p v=some (r,q))(hq:q):zbQ (wh P h t p v)=some r:=by
 unfold stW at e
 split at e
 rotate_left
 · cases e
 unfold wh
 simp only
 split at e
 · cases e
 rename_i i hi
 simp only [hi]
 split at e
 · cases e
 rename_i hn
 cases e
 rw [if_pos (Nat.eq_of_beq_eq_true hn),hq]
 rfl
theorem zlf {h:AHeap}{t:TypeId}{O:T AObj}{z:AV}{r:AR}{q:Prop}(e:nwW P h t O z=some (r,q))(hq:q):vd (zhZ P h t z)=some r:=by
 unfold nwW at e
 split at e
 · cases e
 rename_i n hn
 split at e
 · cases e
 rename_i hb
 cases e
 rw [Bool.and_eq_true] at hb
 unfold zhZ
 rw [if_pos ⟨hb.2,by rw [hn,Nat.eq_of_beq_eq_true hb.1]⟩]
 subst hq
 rfl
theorem zmv {h h':AHeap}{t:TypeId}{v p u:AV}{r:AR}{q:Prop}(e:ldW P h t v p=some (r,q))(hr:r=.val u h'):u=v:=by
 subst hr
 unfold ldW at e
 split at e
 rotate_left
 · cases e
 split at e
 · cases e
 · split at e
   rotate_left
   · cases e
   split at e
   · cases e
   cases e
   rfl
 · cases e
   rfl
theorem ziF {ρ:Operand→Option AV}{h:AHeap}{o:Op}{v:AV}{K:Prop}(e:zjJ P ρ h o v K):vP P ρ h o=some v∧K:=by
 unfold zjJ at e
 split at e
 · rename_i t a
   split at e
   · rename_i id ver off ha
     split at e
     · exact e.elim
     · rename_i r q hq
       obtain ⟨hp,hk⟩:=e
       refine ⟨?_,hk⟩
       have:=zj2 hq hp
       unfold yg at this
       split at this
       · cases this
       rename_i u hu
       cases this
       obtain rfl:=zmv hq rfl
       unfold vP
       show (match wA P t a ρ h with | some (.val v _)=>some v | _=>none)=_
       simp only [wA,yv,ha,hu,yg]
   · exact e
 · exact e
theorem zjs {all:List Oper}{t:T AV}{h:AHeap}{o:Oper}{K:Prop}(e:zji P all t h o K):qx P all t h o=true∧K:=by
 unfold zji at e
 unfold qx
 split at e
 · exact e.elim
 · rename_i w hw
   rw [hw]
   split at e
   · exact ⟨rfl,e⟩
   · split at e
     · rename_i hd; simp only [hd]; exact e
     · rename_i d hd
       simp only [hd]
       split at e
       · exact e.elim
       · rename_i v hv
         obtain ⟨h1,h2⟩:=ziF e
         obtain ⟨h3,h4⟩:=jX h2
         rw [hv,h1]
         exact ⟨zaE 300 v h3,h4⟩
theorem zaQ {all:List Oper}{anc:Nat}{t:T AV}{h:AHeap}:∀ {dn:List Nat} {K:Prop},zhI P all anc t h dn K→yQ P all anc t h dn=true∧K
 | [],K,e=>⟨rfl,e⟩
 | p::r,K,e=>by
  unfold zhI at e
  unfold yQ
  rw [Bool.and_eq_true]
  split at e
  · rename_i hp
    obtain ⟨g1,g2⟩:=zaQ e
    rw [hp]
    exact ⟨⟨rfl,g1⟩,g2⟩
  · rename_i o hp
    rw [hp]
    unfold vc
    simp only
    split at e
    · rename_i hr
      obtain ⟨g1,g2⟩:=zaQ e
      rw [hr]
      exact ⟨⟨rfl,g1⟩,g2⟩
    · rename_i hr
      obtain ⟨q1,q2⟩:=zjs e
      obtain ⟨g1,g2⟩:=zaQ q2
      rw [hr]
      exact ⟨⟨q1,g1⟩,g2⟩
theorem zbR {fr:AFrame}{h:AHeap}{v:AV}{K:AFrame→Prop}(e:znK P fr h v K):∃ a,zJ P fr h v=some a∧K a:=by
 unfold znK at e
 split at e
 · rename_i all i l dn k htodo
   split at e
   · exact e.elim
   · rename_i o ho
     unfold zJ
     rw [htodo]
     simp only [ho]
     unfold zi8 at e
     unfold zc0
     split at e
     · exact e.elim
     · rename_i t ht
       rw [ht]
       obtain ⟨fn,n,t0,td,ds,mode,kind,round⟩:=fr
       simp only at e ⊢
       split at e
       · rename_i hf
         rw [hf]
         exact ⟨_,rfl,e⟩
       · rename_i hf
         obtain ⟨g1,g2⟩:=zaQ e
         rw [hf,g1]
         exact ⟨_,rfl,g2⟩
 · exact xe e
theorem zcM [XT P] [XTOk P] {fr:AFrame}{rest:List AFrame}{heap:AHeap}{r:AR}{K:AM→Prop}(e:zkn P fr rest heap r K):∃ m,zh5 P fr rest heap r=some m∧K m:=by
 unfold zkn at e
 split at e
 · obtain ⟨a,h1,h2⟩:=zbR e
   exact ⟨_,by simp only [zh5,h1,jC],h2⟩
 · obtain ⟨a,h1,h2⟩:=zbR e
   exact ⟨_,by simp only [zh5,h1,jC],h2⟩
 · exact xe e
theorem znI {h:AHeap}{t:TypeId}{O:T AObj}{p v:AV}{r:AR}{q:Prop}(e:stG P h t O p v=some (r,q))(hq:q):zbQ (wh P h t p v)=some r:=by
 unfold stG at e
 split at e
 rotate_left
 · cases e
 unfold wh
 simp only
 split at e
 · cases e
 rename_i i hi
 simp only [hi]
 cases e
 obtain ⟨h1,h2⟩:=hq
 rw [if_pos (Nat.eq_of_beq_eq_true h1),h2]
 rfl
theorem zko {ρ:Operand→Option AV}{h:AHeap}{v:AV}{O:T AObj}{n:Nat}{o:Op}{r:AR}{p:Prop}(e:zmT P ρ h v O n o=some (r,p))(hp:p):opA P ρ h o=some r:=by
 unfold zmT at e
 split at e
 · rename_i c
   split at e
   · cases e
   rename_i args ha
   split at e
   · rename_i b hb
     split at e
     · rename_i hr
       cases e
       show zV P ρ h c=_
       unfold zV
       simp only [ha,hb]
       unfold xM
       simp only [hr,hp]
       rfl
     rename_i hr
     cases e
     show zV P ρ h c=_
     unfold zV
     simp only [ha,hb]
     unfold xM
     simp only [hr,hp]
   · cases e
 · split at e
   · cases e
     subst hp
     rfl
   · cases e
 · rename_i t k parts
   split at e
   · cases e
   rename_i l hl
   cases e
   show zT P h t k (qG ρ parts.toList)=_
   unfold zT
   simp only [hl,hp]
   rfl
 · rename_i t l c
   split at e
   · cases e
   rename_i a ha
   split at e
   · cases e
   rename_i b hb
   cases e
   show two ρ l c (fun a b=>vd (zj P h t a b))=_
   unfold two
   simp only [ha,hb,hp]
   rfl
 · rename_i s d x
   split at e
   · rename_i hd
     split at e
     · cases e
     rename_i a ha
     cases e
     show yv ρ x (fun v=>zba P h s d v)=_
     unfold yv zba
     simp only [ha,hd,hp]
     rfl
   rename_i hd
   split at e
   · cases e
   rename_i a ha
   cases e
   show yv ρ x (fun v=>zba P h s d v)=_
   unfold yv zba
   simp only [ha,hd,hp]
   rfl
 · rename_i t parts
   split at e
   · cases e
   rename_i l hl
   cases e
   show kL P t parts ρ h=_
   simp only [kL,hl,vh,hp]
   rfl
 · rename_i t x ix
   split at e
   · cases e
   rename_i a ha
   split at e
   · cases e
   rename_i b hb
   cases e
   show xR P t x ix ρ h=_
   simp only [xR,two,ha,hb,hp]
   rfl
 · rename_i t x
   split at e
   · cases e
   rename_i z hz
   split at e
   · cases e
   rename_i n' hn
   cases e
   obtain ⟨h1,h2⟩:=hp
   rw [Bool.and_eq_true] at h1
   show yv ρ x (fun v=>vd (zhZ P h t v))=_
   unfold yv
   simp only [hz]
   unfold zhZ
   rw [if_pos ⟨h1.2,by rw [hn,Nat.eq_of_beq_eq_true h1.1]⟩]
   subst h2
   rfl
 · rename_i t a x
   split at e
   · cases e
   rename_i q hq
   split at e
   · cases e
   rename_i y hy
   show two ρ a x (fun p v=>zbQ (wh P h t p v))=some r
   unfold two
   simp only [hq,hy]
   exact znI e hp
 · cases e
theorem zfD {h:AHeap}{t:T AV}:∀ {rs:List ResultVar} {vs l:List AV} {q:Prop},znr P h t rs vs=some (l,q)→q→w6 P h t rs=some l
 | [],_,_,_,e,_=>by
  unfold znr at e
  cases e
  rfl
 | x::r,vs,l,q,e,hq=>by
  unfold znr at e
  split at e
  · cases e
  rename_i v vs
  split at e
  · cases e
  rename_i l' q' hr
  unfold w6
  split at e
  · split at e
    · cases e
    rename_i u hu
    cases e
    simp only [hu,zfD hr hq]
    rfl
  · split at e
    · cases e
    rename_i p hp
    split at e
    rotate_left
    · cases e
    rename_i u h' p' hl
    cases e
    have:=zj2 hl hq.1
    simp only [hp,zfD hr hq.2]
    unfold yg at this
    split at this
    · cases this
    rename_i u' hu'
    cases this
    unfold zmX
    simp only [hu']
    rfl
theorem zl9 {ρ:Operand→Option AV}{h:AHeap}{v:AV}{O:T AObj}{o:Op}{r:AR}{p:Prop}(e:hopW P ρ h v O o=some (r,p))(hp:p):opA P ρ h o=some r:=by
 unfold hopW at e
 split at e
 · rename_i t a
   split at e
   · cases e
   rename_i q hq
   show yv ρ a (fun p=>yg h (zaC P h t p))=some r
   unfold yv
   simp only [hq]
   exact zj2 e hp
 · rename_i t a x
   split at e
   · cases e
   rename_i q hq
   split at e
   · cases e
   rename_i y hy
   show two ρ a x (fun p v=>zbQ (wh P h t p v))=some r
   unfold two
   simp only [hq,hy]
   exact znk e hp
 · rename_i t
   split at e
   · cases e
   rename_i z hz
   show ji P h t (yT P t)=some r
   unfold ji
   simp only [hz]
   exact zlf e hp
 · rename_i t x
   split at e
   · cases e
   rename_i z hz
   show yv ρ x (fun v=>vd (zhZ P h t v))=some r
   unfold yv
   simp only [hz]
   exact zlf e hp
 · rename_i t m k ok
   split at e
   · cases e
   rename_i a ha
   split at e
   · cases e
   rename_i b hb
   cases e
   show two ρ m k (fun a b=>yg h (xV P h t a b ok))=_
   unfold two
   simp only [ha,hb,hp]
   rfl
 · rename_i t m k x
   split at e
   · cases e
   rename_i a ha
   split at e
   · cases e
   rename_i b hb
   split at e
   · cases e
   rename_i c hc
   cases e
   show yb P ρ h t m k x=_
   unfold yb
   simp only [ha,hb,hc,hp]
   rfl
 · rename_i op t x y u
   split at e
   · cases e
   rename_i a ha
   split at e
   · cases e
   rename_i b hb
   cases e
   show two ρ x y (fun a b=>yg h (zgT P h op t (xE x || xE y) a b))=_
   unfold two
   simp only [ha,hb,hp]
   rfl
 · rename_i t x lo hi mx
   split at e
   · cases e
   rename_i a ha
   split at e
   · cases e
   rename_i l hl
   split at e
   · cases e
   rename_i hh hhh
   split at e
   · cases e
   rename_i m hm
   cases e
   show yg h (jQ P ρ h t x lo hi mx)=_
   unfold jQ
   simp only [ha,hl,hhh,hm,hp]
   rfl
 · rename_i c
   split at e
   · cases e
   rename_i args ha
   split at e
   · rename_i b hb
     split at e
     · cases e
     rename_i hr
     cases e
     show zV P ρ h c=_
     unfold zV
     simp only [ha,hb]
     unfold xM
     simp only [hr,hp]
   · cases e
 · cases e
theorem Obl.goal [XT P] [XTOk P] (hmix:P.follows .mixedOrders=true){f0:FuncId}{Q:AV→AHeap→Prop}{keep:Nat}{K:AM→Prop}(hK:∀ m,K m→Goal P keep f0 Q m):∀ {l:List Cmd} {m:AM},Obl P f0 Q keep K l m→Goal P keep f0 Q m
 | [],m,e=>hK m e
 | c::r,m,e=>by
  have ih:=fun m (e:Obl P f0 Q keep K r m)=>Obl.goal hmix hK (l:=r) (m:=m) e
  cases c with
  | run n =>
   obtain ⟨m',h1,h2⟩:=xe e
   exact .runN hmix h1 (ih _ h2)
  | br b =>
   obtain ⟨fr,rest,h⟩:=m
   change Br b ⟨fr,rest,h⟩ (Obl P f0 Q keep K r) at e
   unfold Br at e
   simp only at e
   split at e
   rotate_left
   · exact e.elim
   rename_i hm
   split at e
   rotate_left
   · exact e.elim
   rename_i c x y k htodo
   split at e
   rotate_left
   · exact e.elim
   rename_i t ht
   obtain ⟨rfl,e⟩:=e
   refine .step hmix ?_ (ih _ e)
   simp only [zdQ,hm,zj7,htodo]
   show zle fr rest h x y k (ev fr.tmps c)=_
   rw [ht]
   cases t <;> rfl
  | know u b =>
   obtain ⟨⟨fn,n,t,todo,ds,mode,kind,round⟩,rest,h⟩:=m
   change Know u b ⟨⟨fn,n,t,todo,ds,mode,kind,round⟩,rest,h⟩ (Obl P f0 Q keep K r) at e
   unfold Know at e
   simp only at e
   split at e
   · rename_i c hc
     obtain ⟨rfl,e⟩:=e
     rw [T.set_same' hc] at e
     exact ih _ e
   · exact e.elim
  | slot u v =>
   obtain ⟨⟨fn,n,t,todo,ds,mode,kind,round⟩,rest,h⟩:=m
   change Slot u v ⟨⟨fn,n,t,todo,ds,mode,kind,round⟩,rest,h⟩ (Obl P f0 Q keep K r) at e
   unfold Slot at e
   simp only at e
   split at e
   · rename_i c hc
     obtain ⟨rfl,e⟩:=e
     rw [T.set_same' hc] at e
     exact ih _ e
   · exact e.elim
  | op =>
   obtain ⟨fr,rest,h⟩:=m
   change OpK P ⟨fr,rest,h⟩ (Obl P f0 Q keep K r) at e
   unfold OpK at e
   simp only at e
   split at e
   rotate_left
   · exact e.elim
   rename_i hm
   split at e
   · exact e.elim
   rename_i all o ho
   split at e
   rotate_left
   · exact e.elim
   rename_i hw
   split at e
   · exact e.elim
   rename_i ar p hop
   obtain ⟨hp,e⟩:=e
   obtain ⟨m',h1,h2⟩:=x8 e
   refine .step hmix ?_ (ih _ h2)
   rw [xA hm ho]
   simp only [wl,hw,znt hop hp,zaw,h1]
  | res x =>
   obtain ⟨fr,rest,h⟩:=m
   change ResK P x ⟨fr,rest,h⟩ (Obl P f0 Q keep K r) at e
   unfold ResK at e
   simp only at e
   split at e
   rotate_left
   · exact e.elim
   rename_i hm
   split at e
   · exact e.elim
   rename_i all o ho
   split at e
   rotate_left
   · exact e.elim
   rename_i hw
   obtain ⟨hp,e⟩:=e
   obtain ⟨m',h1,h2⟩:=x8 e
   refine .step hmix ?_ (ih _ h2)
   rw [xA hm ho]
   simp only [wl,hw,hp,zaw,h1]
  | ext x =>
   obtain ⟨fr,rest,h⟩:=m
   change ExtK P x ⟨fr,rest,h⟩ (Obl P f0 Q keep K r) at e
   unfold ExtK at e
   simp only at e
   split at e
   rotate_left
   · exact e.elim
   rename_i hm
   split at e
   · exact e.elim
   rename_i all o ho
   split at e
   rotate_left
   · exact e.elim
   rename_i hw
   split at e
   · exact e.elim
   rename_i ar p hop
   obtain ⟨hp,e⟩:=e
   obtain ⟨m',h1,h2⟩:=x8 e
   refine .step hmix ?_ (ih _ h2)
   rw [xA hm ho]
   simp only [wl,hw,zl5 hop hp,zaw,h1]
  | hop x y =>
   obtain ⟨fr,rest,h⟩:=m
   change HopK P x y ⟨fr,rest,h⟩ (Obl P f0 Q keep K r) at e
   unfold HopK at e
   simp only at e
   split at e
   rotate_left
   · exact e.elim
   rename_i hm
   split at e
   · exact e.elim
   rename_i all o ho
   split at e
   rotate_left
   · exact e.elim
   rename_i hw
   split at e
   · exact e.elim
   rename_i ar p hop
   obtain ⟨hp,e⟩:=e
   obtain ⟨m',h1,h2⟩:=zcM e
   refine .step hmix ?_ (ih _ h2)
   rw [xA hm ho]
   simp only [wl,hw,zl9 hop hp,zaw,h1]
  | hopn x y z =>
   obtain ⟨fr,rest,h⟩:=m
   change zmD P x y z ⟨fr,rest,h⟩ (Obl P f0 Q keep K r) at e
   unfold zmD at e
   simp only at e
   split at e
   rotate_left
   · exact e.elim
   rename_i hm
   split at e
   · exact e.elim
   rename_i all o ho
   split at e
   rotate_left
   · exact e.elim
   rename_i hw
   split at e
   · exact e.elim
   rename_i ar p hop
   obtain ⟨hp,e⟩:=e
   obtain ⟨m',h1,h2⟩:=zcM e
   refine .step hmix ?_ (ih _ h2)
   rw [xA hm ho]
   simp only [wl,hw,zko hop hp,zaw,h1]
  | isv x =>
   obtain ⟨fr,rest,h⟩:=m
   change zlX P x ⟨fr,rest,h⟩ (Obl P f0 Q keep K r) at e
   unfold zlX at e
   simp only at e
   split at e
   rotate_left
   · exact e.elim
   rename_i hm
   split at e
   · exact e.elim
   rename_i all o ho
   split at e
   rotate_left
   · exact e.elim
   rename_i hw
   obtain ⟨p,hpe,hp,e⟩:=xe e
   obtain ⟨m',h1,h2⟩:=x8 e
   refine .step hmix ?_ (ih _ h2)
   rw [xA hm ho]
   have hop:opA P (ev fr.tmps) h o.op=some (.val x h):=by
    unfold binV at hpe
    split at hpe
    rotate_left
    · cases hpe
    rename_i op t a b t' hoo
    split at hpe
    · cases hpe
    rename_i v1 hv1
    split at hpe
    · cases hpe
    rename_i v2 hv2
    cases hpe
    rw [hoo]
    show w5 P op t a b t' (ev fr.tmps) h=_
    simp only [w5,two,hv1,hv2,hp h,yg]
   simp only [wl,hw,hop,zaw,h1]
  | step =>
   obtain ⟨fr,rest,h⟩:=m
   change zlR P ⟨fr,rest,h⟩ (Obl P f0 Q keep K r) at e
   unfold zlR at e
   simp only at e
   split at e
   · rename_i hm
     split at e
     · exact e.elim
     rename_i all o ho
     split at e
     rotate_left
     · exact e.elim
     rename_i hw
     obtain ⟨ar,hr,e⟩:=xe e
     obtain ⟨m',h1,h2⟩:=x8 e
     refine .step hmix ?_ (ih _ h2)
     rw [xA hm ho]
     simp only [wl,hw,hr,zaw,h1]
   · rename_i hm
     split at e
     rotate_left
     · exact e.elim
     rename_i hdef
     split at e
     rotate_left
     · exact e.elim
     rename_i hkind
     split at e
     · exact e.elim
     rename_i c r'
     split at e
     rotate_left
     · exact e.elim
     rename_i hcm
     obtain ⟨v,hv,e⟩:=xe e
     obtain ⟨c',h1,h2⟩:=js e
     refine .step hmix ?_ (ih _ h2)
     simp only [zdQ,hm,zab,hdef,hv,zdR,hkind,zaZ,hcm,h1,jC]
   · exact e.elim
  | hret vs =>
   obtain ⟨fr,rest,h⟩:=m
   change zmt P vs ⟨fr,rest,h⟩ (Obl P f0 Q keep K r) at e
   unfold zmt at e
   simp only at e
   split at e
   rotate_left
   · exact e.elim
   rename_i hm
   split at e
   rotate_left
   · exact e.elim
   rename_i hdef
   split at e
   rotate_left
   · exact e.elim
   rename_i hkind
   split at e
   · exact e.elim
   rename_i c r'
   split at e
   rotate_left
   · exact e.elim
   rename_i hcm
   split at e
   · exact e.elim
   rename_i fn hfn
   split at e
   · exact e.elim
   rename_i l q hl
   obtain ⟨hq,e⟩:=e
   obtain ⟨v,hv,e⟩:=xe e
   obtain ⟨c',h1,h2⟩:=zbR e
   have hres:zma P fr h=some v:=by
    unfold zma
    simp only [hfn,zfD hl hq,hv]
   refine .step hmix ?_ (ih _ h2)
   simp only [zdQ,hm,zab,hdef,hres,zdR,hkind,zaZ,hcm,h1,jC]
  | keep us=>exact zhO e ih
  | can k ids us uss =>
   change (bif Nat.ble keep k then CanP k ids us uss m (Obl P f0 Q keep K r) else False) at e
   cases hb:Nat.ble keep k with
   | false=>rw [hb] at e; exact e.elim
   | true =>
    rw [hb] at e
    exact zjZ (Nat.le_of_ble_eq_true hb) e ih
  | call us q=>exact zcp e ih
  | callv us v=>exact zcp (zhx e) ih
  | callh l us v H=>exact zhs e ih
  | told id c n=>exact zhR e ih
  | tolds u p id c n=>exact zfQ e ih
  | cap id k=>exact zim e ih
  | bytes l =>
   obtain ⟨fr,rest,h⟩:=m
   change zjB P l ⟨fr,rest,h⟩ (Obl P f0 Q keep K r) at e
   unfold zjB at e
   simp only at e
   split at e
   rotate_left
   · exact e.elim
   rename_i hm
   split at e
   · exact e.elim
   rename_i all o ho
   split at e
   rotate_left
   · exact e.elim
   rename_i hw
   obtain ⟨p,hp,hp1,e⟩:=xe e
   obtain ⟨m',h1,h2⟩:=x8 e
   refine .step hmix ?_ (ih _ h2)
   rw [xA hm ho]
   simp only [wl,hw,zhz hp hp1,zaw,h1]
  | opw b=>exact zi0 e ih
  | ask v H=>exact zh9 hmix e ih
  | done=>exact zcs e
end
end Go.Proofs.Ytehelionjafnkaa.Ev
end
section
namespace Go.Proofs.Ytehelionjafnkaa.Ev
open Go Go.ChangeShapes Go.WideShapes
structure Inp where
 there:Bool
 block:Nat
 cells:T AV
 lo:Nat
 n:Nat
def Inp.holds (x:Inp) (w:World):Prop:=x.there=true→∃ cs el fz,w.heap[x.block]?=some (.cells cs el fz)∧x.n≤cs.size∧∀ k v,x.lo≤k→k<x.n→x.cells.get k=some v→∃ y,cs[k]?=some y∧VRel (fun _ _=>none) v y
def Inp.obj (x:Inp):Option AObj:=match x.there with
 | true=>some (.ro x.cells x.lo x.n)
 | false=>none
noncomputable def jP:List Inp→Nat→T AObj→T AObj
 | [],_,t=>t
 | x::r,i,t=>jP r (i+1) (t.set x.obj i)
noncomputable def za7 (l:List Inp) (G:T (T AV)):AHeap:=⟨jP l 0 .leaf,l.length,G⟩
def zah (l:List Inp):Bij:=fun i r=>if r=0 then match l[i]? with
 | none=>none
 | some x=>match x.there with
  | true=>some ⟨x.block,0,0⟩
  | false=>none else none
theorem zbP:∀ (l:List Inp) (i:Nat) (t:T AObj) (j:Nat),(jP l i t).get j=if i≤j∧j<i+l.length then (l[j - i]?).bind Inp.obj else t.get j
 | [],i,t,j=>by simp [jP]; omega
 | x::r,i,t,j=>by
  rw [jP,zbP r (i+1),T.get_set]
  by_cases h0:j=i
  · subst h0
    rw [if_neg (by omega),if_pos rfl,if_pos (by simp)]
    simp
  · by_cases h1:i+1≤j∧j<i+1+r.length
    · rw [if_pos h1,if_pos (by simp; omega)]
      rw [show j - i=(j - (i+1))+1 by omega,List.getElem?_cons_succ]
    · rw [if_neg h1,if_neg h0,if_neg (by simp; omega)]
def Env.inp (w:World) (l:List Inp):Env:={ Env.of w with rob:=fun b=>∃ x∈l,x.block=b }
def Base.inp (w:World) (l:List Inp):Base:=⟨Env.inp w l,fun i=>i<l.length,fun _=>none,fun _=>(0,0)⟩
theorem HRel.inp {P:Program}{G:T (T AV)}{w:World}{l:List Inp}(hG:zjt G w)(hl:∀ x∈l,x.holds w):HRel P (Base.inp w l) (zah l) (za7 l G) w:=by
 have hR:∀ {i r L},zah l i r=some L→r=0∧∃ x,l[i]?=some x∧L=⟨x.block,0,0⟩∧i<l.length∧x.there=true:=by
  intro i r L e
  unfold zah at e
  split at e
  · rename_i hr
    split at e
    · cases e
    · rename_i x hx
      split at e
      · rename_i ht; cases e; exact ⟨hr,x,hx,rfl,(List.getElem?_eq_some_iff.1 hx).1,ht⟩
      · cases e
  · cases e
 have hget:∀ {i o},(za7 l G).get i=some o→∃ x,l[i]?=some x∧o=.ro x.cells x.lo x.n∧x.there=true:=by
  intro i o e
  change (jP l 0 .leaf).get i=some o at e
  rw [zbP] at e
  split at e
  · rw [Nat.sub_zero] at e
    cases hx:l[i]? with
    | none=>rw [hx] at e; cases e
    | some x =>
     rw [hx] at e
     change x.obj=some o at e
     unfold Inp.obj at e
     split at e
     · rename_i ht; cases e; exact ⟨x,rfl,rfl,ht⟩
     · cases e
  · cases e
 exact {
  fresh:=fun i hi r=>by
   cases h:zah l i r with
   | none=>rfl
   | some L =>
    obtain ⟨_,x,_,_,h1,_⟩:=hR h
    exact absurd h1 (Nat.not_lt.2 hi)
  obj:=fun i o e _=>by
   obtain ⟨x,hx,rfl,ht⟩:=hget e
   obtain ⟨cs,el,fz,h1,h2,h3⟩:=hl x (List.mem_of_getElem? hx) ht
   exact ⟨⟨x.block,0,0⟩,cs,el,fz,by simp [zah,hx,ht],rfl,h1,h2,h3⟩
  pend:=fun i o e=>by cases e
  place:=fun i r L e=>by
   obtain ⟨_,x,hx,rfl,h1,ht⟩:=hR e
   obtain ⟨cs,el,fz,h2,_⟩:=hl x (List.mem_of_getElem? hx) ht
   exact ⟨.inr h1,xF h2⟩
  rd:=fun i hi=>⟨hi,fun o e=>by obtain ⟨x,_,rfl,_⟩:=hget e; rfl⟩
  low:=fun b _=>rfl
  rp:=fun i _=>rfl
  rol:=fun i r L _ e=>by
   obtain ⟨_,x,hx,rfl,_⟩:=hR e
   exact ⟨x,List.mem_of_getElem? hx,rfl⟩
  pin:=fun i r L e=>by cases e
  apart:=fun i r i' r' L L' e e' _ hor=>by
   obtain ⟨_,_,_,_,h1,_⟩:=hR e
   obtain ⟨_,_,_,_,h2,_⟩:=hR e'
   rcases hor with h | h
   · exact absurd h1 h
   · exact absurd h2 h
  same:=fun i r r' L L' e e' _=>by
   obtain ⟨_,x,hx,rfl,_⟩:=hR e
   obtain ⟨_,x',hx',rfl,_⟩:=hR e'
   rfl
  glob:=fun g c e=>⟨fun hm=>hm.elim (fun hl=>absurd (hG g c e).1 (Nat.not_lt.2 hl)) id,(hG g c e).2⟩ }
noncomputable def ze3 (P:Program) (f:FuncId) (args:List AV) (l:List Inp) (G:T (T AV)):Option AM:=match wP P f args .normal with
 | none=>none
 | some a=>some ⟨a,[],za7 l G⟩
theorem zjT {P:Program}{G:T (T AV)}{l:List Inp}{f:FuncId}{args:List AV}{vs:List Value}{a:AFrame}(ha:wP P f args .normal=some a){w:World}(hG:zjt G w)(hl:∀ x∈l,x.holds w)
 (hv:VRels (zah l) args vs) (k:Goal P 0 f (fun v _=>v=.bool true) ⟨a,[],za7 l G⟩):Calls P f vs.toArray w fun r w'=>r=.returned (.bool true)∧Old w w':=by
 intro cs
 have hs:Sim P (Env.inp w l) cs ⟨a,[],za7 l G⟩ (Frame.enter P f vs.toArray .normal) cs w :=
  ⟨Base.inp w l,zah l,[],rfl,rfl,.inp hG hl,.start w,jA ha hv (.inl rfl),rfl⟩
 obtain ⟨fr',w',B,R,v,v',h',s1,s2,s3,s4,s5,s6,s7,rfl⟩:=k (Env.inp w l) cs _ _ _ (fun i r L e=>by cases e) hs
 cases s4
 exact ⟨.returned (.bool true),w',fr',⟨rfl,(s7.all s5 s6).old fun _ e=>e⟩,s1,s3,s2⟩
theorem znW {w:World}{a:Addr}{n:Nat}{f:Nat→Value}{g:Nat→AV}(h:∀ i,i<n→w.cell? (a.add i)=some (f i))(hfg:∀ i,i<n→VRel (fun _ _=>none) (g i) (f i))(hp:0<n) :
 ∃ b off,a=⟨b,off,none⟩∧(Inp.mk true b (.fn fun j=>some (g (j - off))) off (off+n)).holds w:=by
 obtain ⟨b,off,spot⟩:=a
 have hspot:spot=none:=by simpa [Addr.add] using World.cell?_spot (h 0 hp)
 subst hspot
 have hc:∀ i,i<n→w.cell? ⟨b,off+i,none⟩=some (f i):=fun i hi=>by rw [← Go.WideShapes.add_plain]; exact h i hi
 have h0:=hc 0 hp
 cases hb:w.heap[b]? with
 | none=>rw [World.cell?] at h0; simp [hb] at h0
 | some o =>
  cases o with
  | cells cs el fz =>
   have hcell:∀ i,i<n→cs[off+i]?=some (f i):=fun i hi=>by
    have:=hc i hi
    rwa [cell?_row w b _ hb] at this
   refine ⟨b,off,rfl,fun _=>⟨cs,el,fz,hb,?_,fun k v h1 h2 e=>?_⟩⟩
   · have:=(Array.getElem?_eq_some_iff.1 (hcell (n - 1) (by omega))).1
     show off+n≤cs.size
     omega
   · cases e
     have hk:k - off<n:=by
      have:k<off+n:=h2
      omega
     have:=hcell (k - off) hk
     rw [show off+(k - off)=k by have:off≤k:=h1; omega] at this
     exact ⟨_,this,hfg _ hk⟩
  | _=>simp [World.cell?,hb] at h0
theorem zke {P:Program} [XT P] [XTOk P] (hmix:P.follows .mixedOrders=true){G:T (T AV)}{l:List Inp}{f:FuncId}{args:List AV}{vs:List Value}{cmds:List Cmd}{K:AM→Prop}(e:zd8 (ze3 P f args l G) (Obl P f (fun v _=>v=.bool true) 0 K cmds))
 (hK:∀ m,K m→Goal P 0 f (fun v _=>v=.bool true) m) {w:World} (hG:zjt G w) (hl:∀ x∈l,x.holds w) (hv:VRels (zah l) args vs):Calls P f vs.toArray w fun r w'=>r=.returned (.bool true)∧Old w w':=by
 obtain ⟨m,h1,h2⟩:=xe e
 unfold ze3 at h1
 split at h1
 · cases h1
 · rename_i a ha
   cases h1
   exact zjT ha hG hl hv (Obl.goal hmix hK h2)
theorem jp {H:Type}{enc:TypeId × Value→H}{P:Program}(hl:laidOutB P=true){W W':World}(hb:∀ b,b<W.heap.size→W'.heap[b]?=W.heap[b]?){sp:Nat→Bool} :
 ∀ {ts:List TypeId} {vs:List Value} {ds:List (DataW H)} {ps:List MemPlace},(ts.all fun t=>P.readableRec t&&decide (t<P.types.size))=true→DataW.TrodAll enc P W 0 (fun _=>true) true ts vs ds ps →
  (∀ x∈ps,x.block<W.heap.size)→(∀ x∈ps,sp x.block=true)→DataW.TrodAll enc P W' 0 sp true ts vs ds ps
 | [],vs,ds,ps,_,h,_,_=>by
  obtain ⟨rfl,rfl,rfl⟩:=trodAll_nil h
  exact trodAll_mk0
 | t::ts,vs,ds,ps,ht,h,hlt,hsp=>by
  obtain ⟨v,vs',d,ds',p,q,rfl,rfl,rfl,h1,h2⟩:=trodAll_cons h
  simp only [List.all_cons,Bool.and_eq_true,decide_eq_true_eq] at ht
  have hs:∀ x∈p,W.sameAt W' x:=fun x hx=>by
   have:=hlt x (List.mem_append_left _ hx)
   cases x with
   | cell b o=>exact World.cell?_of_block (w:=W) (hb b this)
   | map b=>exact hb b this
  exact trodAll_cons_mk (WideElems.Trod_stays hl ht.1.1 ht.1.2 h1 hs (fun x hx=>hsp x (List.mem_append_left _ hx)))
   (jp hl hb (by simpa using ht.2) h2 (fun x hx=>hlt x (List.mem_append_right _ hx)) (fun x hx=>hsp x (List.mem_append_right _ hx)))
theorem post_law {H:Type}{enc:TypeId × Value→H}{P:Program}{f:Func}{s:ChangeSpec}{apart fresh handsOn again:Bool}{W W':World}{args:Array Value}{ds gs:List (DataW H)}{before:List MemPlace}{tb:TypeId}
 (hl:laidOutB P=true) (ht:(f.params.toList.all fun t=>P.readableRec t&&decide (t<P.types.size))=true) (hr:f.resultTypes=#[tb]) (hbool:P.underlying tb=some .bool) (hvars:s.vars=[])
 (hW:DataW.Whole enc P f.params.toList s.vars apart W args.toList ds gs before) (hfn:s.fn H (ds++gs)={ results:=[.lit (.bool true)],args:=ds }) (k:Old W W') :
 s.post enc P f apart fresh handsOn again W args (.bool true) W':=by
 have hlt:=hW.lt
 have hW':=hW
 obtain ⟨p,q,hA,hV,hpq,hz,hn⟩:=hW
 rw [hvars] at hV
 have hgq:gs=[]∧q=[]:=by
  cases gs with
  | nil=>exact ⟨rfl,hV⟩
  | cons g r=>exact hV.elim
 obtain ⟨rfl,rfl⟩:=hgq
 rw [List.append_nil] at hpq
 subst hpq
 have hargs:∀ sp:Nat→Bool,(∀ x∈before,sp x.block=true)→DataW.TrodAll enc P W' 0 sp true f.params.toList args.toList ds before:=fun sp hsp=>jp hl k.other ht hA hlt hsp
 have hres:∀ (b:Nat) (sp:Nat→Bool) (hd:Bool),DataW.TrodAll enc P W' b sp hd f.resultTypes.toList ((Value.bool true).resultList f.resultTypes.size) [.lit (.bool true)] []:=fun b sp hd=>by
  rw [hr]
  exact trodAll_cons_mk (RowKit.shut_bool hbool true) trodAll_mk0
 have hold:∀ x∈before,(fun b=>decide (b<W.heap.size)) x.block=true:=fun x hx=>by simpa using hlt x hx
 refine ⟨ds,[],before,[],before,[],hW',?_,?_,?_,k.kept _,fun _=>?_⟩
 · rw [hfn]; exact hres _ _ _
 · rw [hfn]; exact hargs _ hold
 · rw [hvars,hfn]; rfl
 · refine ⟨RowKit.ok_one hr rfl (RowKit.okWide_bool_mk hbool true),[.lit (.bool true)]++ds,[],([]++before)++[],⟨[]++before,[],trodAll_append (hargs _ (fun _ _=>rfl)) (hres _ _ _),by rw [hvars]; rfl,rfl,?_,?_⟩,?_⟩
   · intro b off hp
     simp only [List.nil_append,List.append_nil] at hp
     have hb:b<W.heap.size:=hlt _ hp
     have:=hz b off hp
     simp only [World.frozen?,k.other b hb] at this ⊢
     exact this
   · intro ha
     simpa using hn ha
   · intro x hx _
     simpa using hx
end Go.Proofs.Ytehelionjafnkaa.Ev
end
section
set_option maxRecDepth 100000
namespace Go.Proofs.Ytehelionjafnkaa.Ev
open Go
def Row (O:T AObj) (id n:Nat) (f:Nat→AV):Prop:=∃ c el,O.get id=some (.cells c n el 0 0 1 0 false .leaf)∧∀ k,k<n→c.get k=some (f k)
def Frm (O O':T AObj) (id:Nat):Prop:=∀ j,j≠id→O'.get j=O.get j
def upd (f:Nat→AV) (off:Nat) (vs:List AV) (k:Nat):AV:=if off≤k∧k<off+vs.length then vs.getD (k - off) xd else f k
variable {O O':T AObj} {N id n off:Nat} {G:T (T AV)} {f:Nat→AV}
theorem Row.same (h:Row O id n f)(e:O'.get id=O.get id):Row O' id n f:=by
 obtain ⟨c,el,h1,h2⟩:=h
 exact ⟨c,el,e.trans h1,h2⟩
theorem Row.fr {i:Nat}(h:Row O id n f)(e:Frm O O' i)(hi:id≠i):Row O' id n f:=h.same (e id hi)
theorem Row.to {g:Nat→AV}(h:Row O id n f)(e:∀ k,k<n→f k=g k):Row O id n g:=by
 obtain ⟨c,el,h1,h2⟩:=h
 exact ⟨c,el,h1,fun k hk=>by rw [h2 k hk,e k hk]⟩
theorem zdL {c:T AV}{el:TypeId}(h:O.get id=some (.cells c n el 0 0 1 0 false .leaf)){k:Nat}{l:List AV}(hk:off+k≤n)(hl:zF c off k=some l):za ⟨O,N,G⟩ id 0 off k=some l:=by
 unfold za
 show (match O.get id with | some (.cells c n _ lo hi _ _ _ ex)=>_ | some (.ro c lo n)=>_ | _=>_)=_
 rw [h]
 show (if 0≤0∧0≤0∧off+k≤n then zF c off k else none)=_
 rw [if_pos ⟨Nat.le_refl _,Nat.le_refl _,hk⟩,hl]
theorem Row.load1 (h:Row O id n f)(hk:off+1≤n):za ⟨O,N,G⟩ id 0 off 1=some [f off]:=by
 obtain ⟨c,el,h1,h2⟩:=h
 refine zdL h1 hk ?_
 show (match c.get (off+0) with | none=>none | some v=>some [v])=_
 rw [h2 (off+0) (by omega)]
 rfl
theorem Row.store (h:Row O id n f)(N:Nat)(G:T (T AV)){vs:List AV}(hv:vs.all AV.one=true)(ho:off+vs.length≤n) :
 ∃ O',zb ⟨O,N,G⟩ id 0 off vs=some ⟨O',N,G⟩∧Row O' id n (upd f off vs)∧Frm O O' id:=by
 obtain ⟨c,el,h1,h2⟩:=h
 refine ⟨O.set (some (.cells (ze c off vs) n el 0 0 1 0 false .leaf)) id,?_,⟨ze c off vs,el,?_,fun k hk=>?_⟩,fun j hj=>?_⟩
 · unfold zb
   show (match O.get id with | some (.cells c n el lo hi nv fz sg ex)=>_ | _=>_)=_
   rw [h1]
   show (if 0≤0∧0≤0∧off+vs.length≤n∧0≤off∧vs.all AV.one=true then (ze c off vs).seq fun c=>some (AHeap.put ⟨O,N,G⟩ id (.cells c n el 0 0 1 0 false .leaf)) else none)=_
   rw [if_pos ⟨Nat.le_refl _,Nat.le_refl _,ho,Nat.zero_le _,hv⟩,T.seq_eq]
   rfl
 · rw [T.get_set,if_pos rfl]
 · rw [zh]
   unfold upd
   split
   · rename_i hk'
     rw [List.getD_eq_getElem?_getD]
     rw [List.getElem?_eq_getElem (by omega)]
     rfl
   · exact h2 k hk
 · rw [T.get_set,if_neg hj]
theorem Row.mk {c:T AV}{el:TypeId}(O:T AObj)(N:Nat)(hc:∀ k,k<n→c.get k=some (f k)):∃ O',T.set (some (.cells c n el 0 0 1 0 false .leaf)) O N=O'∧Row O' N n f∧Frm O O' N :=
 ⟨_,rfl,⟨c,el,by rw [T.get_set,if_pos rfl],hc⟩,fun j hj=>by rw [T.get_set,if_neg hj]⟩
theorem zmB {c:T AV}{lo:Nat}{v:AV}(h:O.get id=some (.ro c lo n))(h0:lo≤off)(h1:off+1≤n)(hv:c.get off=some v):za ⟨O,N,G⟩ id 0 off 1=some [v]:=by
 unfold za
 show (match O.get id with | some (.cells c n _ lo hi _ _ _ ex)=>_ | some (.ro c lo n)=>_ | _=>_)=_
 rw [h]
 show (if 0=0∧lo≤off∧off+1≤n then zF c off 1 else none)=_
 rw [if_pos ⟨rfl,h0,h1⟩]
 show (match c.get (off+0) with | none=>none | some v=>some [v])=_
 rw [Nat.add_zero,hv]
def q4 (a b c d:AV):Nat→AV
 | 0=>a
 | 1=>b
 | 2=>c
 | _=>d
theorem zlH {vs:List AV}{u:Nat}(hu:u<vs.length):upd f off vs (off+u)=vs.getD u xd:=by
 unfold upd
 rw [if_pos (by omega),Nat.add_sub_cancel_left]
theorem ziZ {vs:List AV}{k:Nat}(h:k<off∨off+vs.length≤k):upd f off vs k=f k:=by
 unfold upd
 rw [if_neg (by omega)]
end Go.Proofs.Ytehelionjafnkaa.Ev
end
section
set_option maxRecDepth 100000
set_option linter.unusedVariables false
namespace Go.Proofs.Ytehelionjafnkaa.Ev
open Go
def Cell (O:T AObj) (id k:Nat) (v:AV):Prop:=∃ n f,Row O id n f∧k<n∧f k=v
variable {O O':T AObj} {id k:Nat} {v w:AV}
theorem Cell.same (h:Cell O id k v)(e:O'.get id=O.get id):Cell O' id k v:=by
 obtain ⟨n,f,h1,h2,h3⟩:=h
 exact ⟨n,f,h1.same e,h2,h3⟩
theorem Cell.load (h:Cell O id k v)(N:Nat)(G:T (T AV)):za ⟨O,N,G⟩ id 0 k 1=some [v]:=by
 obtain ⟨n,f,h1,h2,h3⟩:=h
 rw [h1.load1 (by omega),h3]
theorem Row.cell {n:Nat}{f:Nat→AV}(h:Row O id n f)(hk:k<n):Cell O id k (f k):=⟨n,f,h,hk,rfl⟩
def But (O O':T AObj) (id k:Nat):Prop:=(∀ i j u,(i≠id∨j≠k)→Cell O i j u→Cell O' i j u)∧Frm O O' id
theorem Cell.store (h:Cell O id k w)(hv:AV.one v=true)(N:Nat)(G:T (T AV)):∃ O',zb ⟨O,N,G⟩ id 0 k [v]=some ⟨O',N,G⟩∧Cell O' id k v∧But O O' id k:=by
 obtain ⟨n,f,h1,h2,h3⟩:=h
 obtain ⟨O',e,r,fr⟩:=h1.store N G (off:=k) (vs:=[v]) (by simp [hv]) (by show k+1≤n; omega)
 refine ⟨O',e,⟨n,_,r,h2,?_⟩,fun i j u hne hc=>?_,fr⟩
 · exact (zlH (f:=f) (off:=k) (vs:=[v]) (u:=0) Nat.zero_lt_one)
 · by_cases hi:i=id
   · subst hi
     obtain ⟨n',f',g1,g2,g3⟩:=hc
     obtain ⟨c,el,q1,q2⟩:=h1
     obtain ⟨c',el',q3,q4⟩:=g1
     rw [q1] at q3
     cases q3
     refine ⟨n,_,r,g2,?_⟩
     rw [ziZ (by show _∨k+1≤j; omega)]
     have a:=q2 j g2
     have b:=q4 j g2
     rw [a] at b
     rw [Option.some.inj b,g3]
   · exact hc.same (fr i hi)
abbrev Node:=Nat × Nat
def pt (x:Node):AV:=.ptr x.1 0 x.2
def Lk (O:T AObj):List Node→Prop
 | []=>True
 | a::r=>(match r with
  | []=>True
  | b::_=>Cell O a.1 (a.2+1) (pt b)∧Cell O b.1 b.2 (pt a))∧Lk O r
theorem Lk.two {a b:Node}{r:List Node}:Lk O (a::b::r) ↔ (Cell O a.1 (a.2+1) (pt b)∧Cell O b.1 b.2 (pt a))∧Lk O (b::r):=Iff.rfl
theorem Lk.one (a:Node):Lk O [a]:=⟨trivial,trivial⟩
theorem Lk.app:∀ {u:List Node} {a:Node} {v:List Node},Lk O (u++a::v) ↔ Lk O (u++[a])∧Lk O (a::v)
 | [],a,v=>⟨fun h=>⟨Lk.one a,h⟩,fun h=>h.2⟩
 | [x],a,v=>by
  show Lk O (x::a::v) ↔ Lk O (x::a::[])∧_
  rw [Lk.two,Lk.two]
  exact ⟨fun h=>⟨⟨h.1,Lk.one a⟩,h.2⟩,fun h=>⟨h.1.1,h.2⟩⟩
 | x::y::u,a,v=>by
  show Lk O (x::y::(u++a::v)) ↔ Lk O (x::y::(u++[a]))∧_
  rw [Lk.two,Lk.two]
  have ih:=Lk.app (u:=y::u) (a:=a) (v:=v)
  simp only [List.cons_append] at ih
  rw [ih]
  exact ⟨fun h=>⟨⟨h.1,h.2.1⟩,h.2.2⟩,fun h=>⟨h.1.1,h.1.2,h.2⟩⟩
theorem Lk.mono:∀ {L:List Node},(∀ x∈L.dropLast,∀ u,Cell O x.1 (x.2+1) u→Cell O' x.1 (x.2+1) u)→(∀ x∈L.tail,∀ u,Cell O x.1 x.2 u→Cell O' x.1 x.2 u)→Lk O L→Lk O' L
 | [],_,_,_=>trivial
 | [a],_,_,_=>Lk.one a
 | a::b::r,h1,h2,h=>by
  rw [Lk.two] at h ⊢
  refine ⟨⟨h1 a (by simp) _ h.1.1,h2 b (by simp) _ h.1.2⟩,Lk.mono (fun x hx=>h1 x (by simp only [List.dropLast_cons_cons,List.mem_cons]; exact .inr hx)) (fun x hx=>h2 x ?_) h.2⟩
  simp only [List.tail_cons] at hx ⊢
  exact List.mem_cons_of_mem _ hx
def nd (x:Nat):Node:=(x,0)
def Ring (O:T AObj) (l:Nat) (xs:List Nat):Prop:=Lk O ((l,3)::(xs.map nd++[(l,3)]))
theorem zjV {l:Nat}{x y:Node}(hx:x=(l,3)∨∃ i,i≠l∧x=nd i)(hy:y=(l,3)∨∃ i,i≠l∧y=nd i):x.1≠y.1∨x.2+1≠y.2:=by
 rcases hx with rfl | ⟨i,hi,rfl⟩ <;> rcases hy with rfl | ⟨j,hj,rfl⟩
 · right; simp
 · right; simp [nd]
 · left; exact hi
 · right; simp [nd]
theorem zkU {l:Nat}{x y:Node}(hx:x=(l,3)∨∃ i,i≠l∧x=nd i)(hy:y=(l,3)∨∃ i,i≠l∧y=nd i)(h:x≠y):x.1≠y.1:=by
 rcases hx with rfl | ⟨i,hi,rfl⟩ <;> rcases hy with rfl | ⟨j,hj,rfl⟩
 · exact absurd rfl h
 · exact fun e=>hj e.symm
 · exact hi
 · exact fun e=>h (by show nd i=nd j; rw [show i=j from e])
theorem zcr {α:Type}:∀ (a:α) (u:List α),∃ (A:List α) (n:α),a::u=A++[n]∧n∈a::u
 | a,[]=>⟨[],a,rfl,by simp⟩
 | a,b::u=>by
  obtain ⟨A,n,h1,h2⟩:=zcr b u
  exact ⟨a::A,n,by rw [h1]; rfl,List.mem_cons_of_mem _ h2⟩
theorem Ring.leave {l p:Nat}{u v:List Nat}(h:Ring O l (u++p::v))(hn:(u++p::v).Nodup)(hl:∀ x∈u++p::v,x≠l)(N:Nat)(G:T (T AV)) :
 ∃ (e n:Node) (O1 O2:T AObj),(e=(l,3)∨∃ i,i∈v∧e=nd i)∧(n=(l,3)∨∃ i,i∈u∧n=nd i)∧Cell O p 1 (pt e)∧Cell O p 0 (pt n) ∧
  zb ⟨O,N,G⟩ e.1 0 e.2 [pt n]=some ⟨O1,N,G⟩∧zb ⟨O1,N,G⟩ n.1 0 (n.2+1) [pt e]=some ⟨O2,N,G⟩∧Ring O2 l (u++v)∧But O O1 e.1 e.2∧But O1 O2 n.1 (n.2+1):=by
 obtain ⟨A,n,hA,hnA⟩:=zcr ((l,3):Node) (u.map nd)
 obtain ⟨e,B,hB⟩:∃ e B,v.map nd++[((l,3):Node)]=e::B:=by
  cases v with
  | nil=>exact ⟨_,_,rfl⟩
  | cons a r=>exact ⟨_,_,rfl⟩
 have heB:e∈v.map nd++[((l,3):Node)]:=by rw [hB]; simp
 unfold Ring at h
 have hsplit:(((l,3):Node)::((u++p::v).map nd++[(l,3)]))=A++n::nd p::e::B:=by
  rw [List.map_append,List.map_cons,List.append_assoc,List.cons_append,← hB,← List.cons_append,hA]
  simp
 rw [hsplit,Lk.app,Lk.two,Lk.two] at h
 obtain ⟨k1,⟨k2,k3⟩,⟨k4,k5⟩,k6⟩:=h
 have he:e=(l,3)∨∃ i,i∈v∧e=nd i:=by
  rcases List.mem_append.1 heB with a | a
  · obtain ⟨i,hi,rfl⟩:=List.mem_map.1 a
    exact .inr ⟨i,hi,rfl⟩
  · exact .inl (List.mem_singleton.1 a)
 have hnn:n=(l,3)∨∃ i,i∈u∧n=nd i:=by
  rcases List.mem_cons.1 hnA with a | a
  · exact .inl a
  · obtain ⟨i,hi,rfl⟩:=List.mem_map.1 a
    exact .inr ⟨i,hi,rfl⟩
 have hul:∀ x∈u,x≠l:=fun x hx=>hl x (List.mem_append_left _ hx)
 have hvl:∀ x∈v,x≠l:=fun x hx=>hl x (List.mem_append_right _ (List.mem_cons_of_mem _ hx))
 have ge:e=(l,3)∨∃ i,i≠l∧e=nd i:=he.imp id fun ⟨i,hi,h⟩=>⟨i,hvl i hi,h⟩
 have gn:n=(l,3)∨∃ i,i≠l∧n=nd i:=hnn.imp id fun ⟨i,hi,h⟩=>⟨i,hul i hi,h⟩
 obtain ⟨hn1,hn2,hn3⟩:=List.nodup_append.1 hn
 have hdis:∀ x∈u,∀ y∈v,x≠y:=fun x hx y hy=>hn3 x hx y (List.mem_cons_of_mem _ hy)
 obtain ⟨O1,s1,c1,b1⟩:=k5.store (v:=pt n) rfl N G
 have k2':Cell O1 n.1 (n.2+1) (pt (nd p)):=b1.1 _ _ _ (zjV gn ge) k2
 obtain ⟨O2,s2,c2,b2⟩:=k2'.store (v:=pt e) rfl N G
 refine ⟨e,n,O1,O2,he,hnn,k4,k3,s1,s2,?_,b1,b2⟩
 have stay_el:∀ x:Node,(x=(l,3)∨∃ i,i≠l∧x=nd i)→x≠n→∀ w,Cell O x.1 (x.2+1) w→Cell O2 x.1 (x.2+1) w:=fun x gx hx w hc =>
  b2.1 _ _ _ (.inl (zkU gx gn hx)) (b1.1 _ _ _ (zjV gx ge) hc)
 have stay_nw:∀ x:Node,(x=(l,3)∨∃ i,i≠l∧x=nd i)→x≠e→∀ w,Cell O x.1 x.2 w→Cell O2 x.1 x.2 w:=fun x gx hx w hc =>
  b2.1 _ _ _ ((zjV gn gx).imp Ne.symm Ne.symm) (b1.1 _ _ _ (.inl (zkU gx ge hx)) hc)
 unfold Ring
 have hsplit2:(((l,3):Node)::((u++v).map nd++[(l,3)]))=A++n::e::B:=by
  rw [List.map_append,List.append_assoc,hB,← List.cons_append,hA]
  simp
 rw [hsplit2,Lk.app,Lk.two]
 have hnu:∀ x∈A,x≠n:=by
  have hnd:(((l,3):Node)::u.map nd).Nodup:=by
   rw [List.nodup_cons]
   refine ⟨fun hm=>?_,?_⟩
   · obtain ⟨i,hi,h⟩:=List.mem_map.1 hm
     exact hul i hi (congrArg Prod.fst h)
   · exact hn1.map (f:=nd) (fun a b hab h=>hab (congrArg Prod.fst h))
  rw [hA] at hnd
  intro x hx h
  exact (List.nodup_append.1 hnd).2.2 x hx n (by simp) h
 have gA:∀ x∈A++[n],x=(l,3)∨∃ i,i≠l∧x=nd i:=fun x hx=>by
  rw [← hA] at hx
  rcases List.mem_cons.1 hx with a | a
  · exact .inl a
  · obtain ⟨i,hi,rfl⟩:=List.mem_map.1 a
    exact .inr ⟨i,hul i hi,rfl⟩
 refine ⟨k1.mono (fun x hx=>?_) (fun x hx=>?_),⟨c2,b2.1 _ _ _ ((zjV gn ge).imp Ne.symm Ne.symm) c1⟩,k6.mono (fun x hx=>?_) (fun x hx=>?_)⟩
 · rw [List.dropLast_concat] at hx
   exact stay_el x (gA x (List.mem_append_left _ hx)) (hnu x hx)
 · rw [← hA,List.tail_cons] at hx
   obtain ⟨i,hi,rfl⟩:=List.mem_map.1 hx
   refine stay_nw _ (.inr ⟨i,hul i hi,rfl⟩) fun h=>?_
   rcases he with h' | ⟨j,hj,h'⟩
   · rw [h'] at h; exact hul i hi (congrArg Prod.fst h)
   · rw [h'] at h; exact hdis i hi j hj (congrArg Prod.fst h)
 · rw [← hB,List.dropLast_concat] at hx
   obtain ⟨i,hi,rfl⟩:=List.mem_map.1 hx
   refine stay_el _ (.inr ⟨i,hvl i hi,rfl⟩) fun h=>?_
   rcases hnn with h' | ⟨j,hj,h'⟩
   · rw [h'] at h; exact hvl i hi (congrArg Prod.fst h)
   · rw [h'] at h; exact hdis j hj i hi (congrArg Prod.fst h).symm
 · have hndB:(v.map nd++[((l,3):Node)]).Nodup:=by
    rw [List.nodup_append]
    refine ⟨(List.nodup_cons.1 hn2).2.map (f:=nd) (fun a b hab h=>hab (congrArg Prod.fst h)),by simp,fun a ha b hb h=>?_⟩
    obtain ⟨i,hi,rfl⟩:=List.mem_map.1 ha
    rw [List.mem_singleton.1 hb] at h
    exact hvl i hi (congrArg Prod.fst h)
   rw [List.tail_cons] at hx
   have hxm:x∈v.map nd++[((l,3):Node)]:=by rw [hB]; exact List.mem_cons_of_mem _ hx
   have gx:x=(l,3)∨∃ i,i≠l∧x=nd i:=by
    rcases List.mem_append.1 hxm with a | a
    · obtain ⟨i,hi,rfl⟩:=List.mem_map.1 a
      exact .inr ⟨i,hvl i hi,rfl⟩
    · exact .inl (List.mem_singleton.1 a)
   rw [hB] at hndB
   exact stay_nw x gx (fun h=>(List.nodup_cons.1 hndB).1 (h▸hx))
theorem Ring.enter {l p:Nat}{xs:List Nat}(h:Ring O l xs)(hl:∀ x∈xs,x≠l)(hp:p ∉ xs)(hpl:p≠l){w0 w1:AV}(c0:Cell O p 0 w0)(c1:Cell O p 1 w1)(hn:xs.Nodup)(N:Nat)(G:T (T AV)) :
 ∃ (a:Node) (O1 O2 O3 O4:T AObj),(a=(l,3)∨∃ i,i∈xs∧a=nd i)∧Cell O l 4 (pt a)∧zb ⟨O,N,G⟩ p 0 0 [pt (l,3)]=some ⟨O1,N,G⟩∧zb ⟨O1,N,G⟩ p 0 1 [pt a]=some ⟨O2,N,G⟩∧Cell O2 p 1 (pt a) ∧
  zb ⟨O2,N,G⟩ a.1 0 a.2 [pt (nd p)]=some ⟨O3,N,G⟩∧zb ⟨O3,N,G⟩ l 0 4 [pt (nd p)]=some ⟨O4,N,G⟩∧Ring O4 l (p::xs)∧But O O1 p 0∧But O1 O2 p 1∧But O2 O3 a.1 a.2∧But O3 O4 l 4:=by
 obtain ⟨a,B,hB⟩:∃ e B,xs.map nd++[((l,3):Node)]=e::B:=by
  cases xs with
  | nil=>exact ⟨_,_,rfl⟩
  | cons a r=>exact ⟨_,_,rfl⟩
 have haB:a∈xs.map nd++[((l,3):Node)]:=by rw [hB]; simp
 have ha:a=(l,3)∨∃ i,i∈xs∧a=nd i:=by
  rcases List.mem_append.1 haB with x | x
  · obtain ⟨i,hi,rfl⟩:=List.mem_map.1 x
    exact .inr ⟨i,hi,rfl⟩
  · exact .inl (List.mem_singleton.1 x)
 have ga:a=(l,3)∨∃ i,i≠l∧a=nd i:=ha.imp id fun ⟨i,hi,h⟩=>⟨i,hl i hi,h⟩
 have hap:a.1≠p:=by
  rcases ha with rfl | ⟨i,hi,rfl⟩
  · exact Ne.symm hpl
  · exact fun h=>hp (h▸hi)
 unfold Ring at h
 rw [hB,Lk.two] at h
 obtain ⟨⟨k1,k2⟩,k3⟩:=h
 obtain ⟨O1,s1,d1,b1⟩:=c0.store (v:=pt (l,3)) rfl N G
 obtain ⟨O2,s2,d2,b2⟩:=(b1.1 _ _ _ (.inr (by omega)) c1).store (v:=pt a) rfl N G
 have k2':Cell O2 a.1 a.2 (pt (l,3)):=b2.1 _ _ _ (.inl hap) (b1.1 _ _ _ (.inl hap) k2)
 obtain ⟨O3,s3,d3,b3⟩:=k2'.store (v:=pt (nd p)) rfl N G
 have hl4:l≠a.1∨4≠a.2:=by
  rcases ha with rfl | ⟨i,hi,rfl⟩
  · right; simp
  · left; exact Ne.symm (hl i hi)
 have k1':Cell O3 l 4 (pt a):=b3.1 _ _ _ hl4 (b2.1 _ _ _ (.inl (Ne.symm hpl)) (b1.1 _ _ _ (.inl (Ne.symm hpl)) k1))
 obtain ⟨O4,s4,d4,b4⟩:=k1'.store (v:=pt (nd p)) rfl N G
 refine ⟨a,O1,O2,O3,O4,ha,k1,s1,s2,d2,s3,s4,?_,b1,b2,b3,b4⟩
 unfold Ring
 rw [List.map_cons,List.cons_append,hB,Lk.two,Lk.two]
 have e1:Cell O4 a.1 a.2 (pt (nd p)):=b4.1 _ _ _ (by rcases hl4 with h | h; exact .inl (Ne.symm h); exact .inr (Ne.symm h)) d3
 have e2:Cell O4 p 1 (pt a):=b4.1 _ _ _ (.inl hpl) (b3.1 _ _ _ (.inl (Ne.symm hap)) d2)
 have e3:Cell O4 p 0 (pt (l,3)):=b4.1 _ _ _ (.inl hpl) (b3.1 _ _ _ (.inl (Ne.symm hap)) (b2.1 _ _ _ (.inr (by omega)) d1))
 refine ⟨⟨d4,e3⟩,⟨e2,e1⟩,k3.mono (fun x hx=>?_) (fun x hx=>?_)⟩
 · rw [← hB,List.dropLast_concat] at hx
   obtain ⟨i,hi,rfl⟩:=List.mem_map.1 hx
   intro w hc
   have hip:i≠p:=fun h=>hp (h▸hi)
   exact b4.1 _ _ _ (.inl (hl i hi)) (b3.1 _ _ _ (zjV (.inr ⟨i,hl i hi,rfl⟩) ga) (b2.1 _ _ _ (.inl hip) (b1.1 _ _ _ (.inl hip) hc)))
 · have hndB:(xs.map nd++[((l,3):Node)]).Nodup:=by
    rw [List.nodup_append]
    refine ⟨hn.map (f:=nd) (fun a b hab h=>hab (congrArg Prod.fst h)),by simp,fun a ha b hb h=>?_⟩
    obtain ⟨i,hi,rfl⟩:=List.mem_map.1 ha
    rw [List.mem_singleton.1 hb] at h
    exact hl i hi (congrArg Prod.fst h)
   rw [List.tail_cons] at hx
   have hxm:x∈xs.map nd++[((l,3):Node)]:=by rw [hB]; exact List.mem_cons_of_mem _ hx
   rw [hB] at hndB
   have hxa:x≠a:=fun h=>(List.nodup_cons.1 hndB).1 (h▸hx)
   intro w hc
   rcases List.mem_append.1 hxm with y | y
   · obtain ⟨i,hi,rfl⟩:=List.mem_map.1 y
     have hip:i≠p:=fun h=>hp (h▸hi)
     exact b4.1 _ _ _ (.inl (hl i hi)) (b3.1 _ _ _ (.inl (zkU (.inr ⟨i,hl i hi,rfl⟩) ga hxa)) (b2.1 _ _ _ (.inl hip) (b1.1 _ _ _ (.inl hip) hc)))
   · obtain rfl:=List.mem_singleton.1 y
     exact b4.1 _ _ _ (.inr (by simp)) (b3.1 _ _ _ (.inl (zkU (.inl rfl) ga hxa)) (b2.1 _ _ _ (.inl (Ne.symm hpl)) (b1.1 _ _ _ (.inl (Ne.symm hpl)) hc)))
end Go.Proofs.Ytehelionjafnkaa.Ev
end
section
set_option maxRecDepth 100000
set_option linter.unusedVariables false
set_option linter.unusedSectionVars false
namespace Go.Proofs.Ytehelionjafnkaa.gx
open Go Ev
noncomputable abbrev P:Program:=Try.prog
theorem mix:P.follows .mixedOrders=true:=Checked.mixed Try.checked
theorem og {f:FuncId}{Q:AV→AHeap→Prop}{k:Nat}{l:List Cmd}{m:AM}{A:Prop}(e:A=Obl P f Q k (Goal P k f Q) l m)(h:A):Goal P k f Q m:=Obl.goal mix (fun _ h=>h) (cast e h)
theorem oh {f:FuncId}{Q:AV→AHeap→Prop}{k:Nat}{l:List Cmd}{m:AM}{A:Prop}(e:A=Obl P f Q k (fun _=>False) l m)(h:A):Goal P k f Q m:=Obl.goal mix (fun _ h=>h.elim) (cast e h)
noncomputable def enF (f:FuncId) (args:List AV):AFrame:=match wP P f args .normal with
 | some a=>a
 | none=>⟨0,0,.leaf,[],[],.run,.normal,none⟩
noncomputable def RF (f n:Nat) (t:T AV) (td:List AItem):AFrame:=⟨f,n,t,td,[],.returning,CallKind.normal,none⟩
variable {O O':T AObj} {N:Nat} {G:T (T AV)}
def At (c:T AV) (off:Nat) (l:List AV):Prop:=∀ k,k<l.length→c.get (off+k)=l[k]?
theorem At.nil {c:T AV}{off:Nat}:At c off []:=fun k hk=>absurd hk (Nat.not_lt_zero k)
theorem zgW {c:T AV}{off:Nat}:∀ (k:Nat) (l acc:List AV),k=l.length→At c off l→zbN c off k acc=some (l++acc)
 | 0,l,acc,hk,_=>by rw [List.eq_nil_of_length_eq_zero hk.symm]; rfl
 | k+1,l,acc,hk,h=>by
  have hl:l=l.take k++[l[k]'(by omega)]:=by
   rw [← List.take_succ_eq_append_getElem (by omega),List.take_of_length_le (by omega)]
  have hc:=h k (by omega)
  rw [List.getElem?_eq_getElem (by omega)] at hc
  unfold zbN
  simp only [hc]
  rw [zgW k (l.take k) _ (by rw [List.length_take]; omega) fun j hj=>?_]
  · rw [← List.singleton_append,← List.append_assoc,← hl]
  · rw [List.length_take] at hj
    rw [h j (by omega),List.getElem?_take_of_lt (by omega)]
theorem At.load {c:T AV}{off:Nat}{l:List AV}(h:At c off l):zF c off l.length=some l:=by
 have:=zgW l.length l [] rfl h
 rw [List.append_nil] at this
 exact this
theorem At.sub {c:T AV}{off a n:Nat}{l:List AV}(h:At c off l)(hn:a+n≤l.length):At c (off+a) ((l.drop a).take n):=fun k hk=>by
 rw [List.length_take,List.length_drop] at hk
 rw [Nat.add_assoc,h (a+k) (by omega),List.getElem?_take_of_lt (by omega),List.getElem?_drop]
theorem At.app {c:T AV}{off:Nat}{l r:List AV}(h1:At c off l)(h2:At c (off+l.length) r):At c off (l++r):=fun k hk=>by
 by_cases hk1:k<l.length
 · rw [h1 k hk1,List.getElem?_append_left hk1]
 · rw [List.length_append] at hk
   have:=h2 (k - l.length) (by omega)
   rw [show off+l.length+(k - l.length)=off+k by omega] at this
   rw [this,List.getElem?_append_right (by omega)]
theorem At.store {c:T AV}{off o:Nat}{l vs:List AV}(h:At c off l)(hd:off+l.length≤o∨o+vs.length≤off):At (ze c o vs) off l:=fun k hk=>by
 rw [zh,if_neg (by omega),h k hk]
theorem At.stored (c:T AV)(o:Nat)(vs:List AV):At (ze c o vs) o vs:=fun k hk=>by
 rw [zh,if_pos ⟨by omega,by omega⟩,Nat.add_sub_cancel_left]
theorem At.set {c:T AV}{off a:Nat}{l vs:List AV}(h:At c off l)(ha:a+vs.length≤l.length):At (ze c (off+a) vs) off (l.take a++vs++l.drop (a+vs.length)):=fun k hk=>by
 rw [List.length_append,List.length_append,List.length_take,List.length_drop] at hk
 rw [zh]
 by_cases h1:k<a
 · rw [if_neg (by omega),h k (by omega),List.append_assoc,List.getElem?_append_left (by rw [List.length_take]; omega),List.getElem?_take_of_lt h1]
 · by_cases h2:k<a+vs.length
   · rw [if_pos (by omega),List.append_assoc,List.getElem?_append_right (by rw [List.length_take]; omega),List.getElem?_append_left (by rw [List.length_take]; omega),List.length_take]
     congr 1; omega
   · rw [if_neg (by omega),h k (by omega),List.getElem?_append_right (by rw [List.length_append,List.length_take]; omega),List.getElem?_drop,List.length_append,List.length_take]
     congr 1; omega
def Obj (O:T AObj) (id:Nat) (l:List AV):Prop:=Row O id l.length fun k=>l.getD k xd
theorem Obj.same {id:Nat}{l:List AV}(h:Obj O id l)(e:O'.get id=O.get id):Obj O' id l:=Row.same h e
theorem Obj.fr {id i:Nat}{l:List AV}(h:Obj O id l)(e:Frm O O' i)(hi:id≠i):Obj O' id l:=Row.fr h e hi
theorem Obj.loads {id:Nat}{l:List AV}(h:Obj O id l)(off n:Nat)(N:Nat)(G:T (T AV))(hn:off+n≤l.length):za ⟨O,N,G⟩ id 0 off n=some ((l.drop off).take n):=by
 obtain ⟨c,el,h1,h2⟩:=h
 refine zdL h1 hn ?_
 have hl:((l.drop off).take n).length=n:=by rw [List.length_take,List.length_drop]; omega
 have:=At.load (c:=c) (off:=off) (l:=(l.drop off).take n) fun k hk=>by
  rw [hl] at hk
  rw [h2 _ (by omega),List.getElem?_take_of_lt hk,List.getElem?_drop,List.getElem?_eq_getElem (by omega)]
  show some (l.getD (off+k) xd)=_
  rw [List.getD_eq_getElem?_getD,List.getElem?_eq_getElem (by omega)]
  rfl
 rw [hl] at this
 exact this
theorem Obj.load {id:Nat}{l:List AV}(h:Obj O id l)(off:Nat)(N:Nat)(G:T (T AV))(hn:off+1≤l.length):za ⟨O,N,G⟩ id 0 off 1=some [l.getD off xd]:=Row.load1 h hn
theorem Obj.store {id:Nat}{l:List AV}(h:Obj O id l)(off:Nat)(vs:List AV)(N:Nat)(G:T (T AV))(hn:off+vs.length≤l.length)(hv:vs.all AV.one=true) :
 ∃ O',zb ⟨O,N,G⟩ id 0 off vs=some ⟨O',N,G⟩∧Obj O' id (l.take off++vs++l.drop (off+vs.length))∧Frm O O' id:=by
 obtain ⟨O',e,r,f⟩:=Row.store h N G hv hn
 refine ⟨O',e,?_,f⟩
 have hl:(l.take off++vs++l.drop (off+vs.length)).length=l.length:=by rw [List.length_append,List.length_append,List.length_take,List.length_drop]; omega
 obtain ⟨c,el,h1,h2⟩:=r
 refine ⟨c,el,by rw [hl]; exact h1,fun k hk=>?_⟩
 rw [hl] at hk
 rw [h2 k hk]
 unfold upd
 show some (if off≤k∧k<off+vs.length then vs.getD (k - off) xd else l.getD k xd)=some ((l.take off++vs++l.drop (off+vs.length)).getD k xd)
 congr 1
 rw [List.getD_eq_getElem?_getD (l:=l.take off++vs++l.drop (off+vs.length))]
 by_cases h1:k<off
 · rw [if_neg (by omega),List.append_assoc,List.getElem?_append_left (by rw [List.length_take]; omega),List.getElem?_take_of_lt h1,List.getD_eq_getElem?_getD]
 · by_cases h2:k<off+vs.length
   · rw [if_pos (by omega),List.append_assoc,List.getElem?_append_right (by rw [List.length_take]; omega),List.getElem?_append_left (by rw [List.length_take]; omega),List.length_take,List.getD_eq_getElem?_getD,Nat.min_eq_left (by omega)]
   · rw [if_neg (by omega),List.getElem?_append_right (by rw [List.length_append,List.length_take]; omega),List.getElem?_drop,List.length_append,List.length_take,List.getD_eq_getElem?_getD]
     congr 2; omega
theorem Obj.mk {c:T AV}{el:TypeId}(l:List AV)(O:T AObj)(N:Nat)(n:Nat)(hn:n=l.length)(hc:∀ k,k<n→c.get k=some (l.getD k xd)):∃ O',T.set (some (.cells c n el 0 0 1 0 false .leaf)) O N=O'∧Obj O' N l∧Frm O O' N:=by
 subst hn
 exact Row.mk O N hc
theorem st1 {s:AV}(hs:s.cells=[s]){h:AHeap}{r:Option AHeap}{id ver off:Nat}(e:zb h id ver off [s]=r):Nat.beq s.cells.length 1=true∧zb h id ver off s.cells=r:=by
 rw [hs]
 exact ⟨rfl,e⟩
theorem zbZ {v:AV}(h:AV.one v=true):v.cells=[v]:=by
 cases v <;> first | rfl | cases h
theorem Obj.box {t:TypeId}(l:List AV)(hl:l.all AV.one=true)(O:T AObj)(N n:Nat)(hn:n=l.length):∃ O',((Nat.beq n (AV.agg l).cells.length&&(AV.agg l).cells.all AV.one)=true∧T.set (some (AObj.cells (ze T.leaf 0 (AV.agg l).cells) (AV.agg l).cells.length t 0 0 1 0 false T.leaf)) O N=O')∧Obj O' N l∧Frm O O' N:=by
 subst hn
 refine ⟨_,⟨?_,rfl⟩,⟨ze T.leaf 0 l,t,by rw [T.get_set,if_pos rfl]; rfl,fun k hk=>?_⟩,fun j hj=>by rw [T.get_set,if_neg hj]⟩
 · show (Nat.beq l.length l.length&&l.all AV.one)=true
   rw [hl,Nat.beq_refl]
   rfl
 · rw [zh,if_pos ⟨Nat.zero_le _,by omega⟩,Nat.sub_zero,List.getElem?_eq_getElem hk]
   show _=some (l.getD k xd)
   rw [List.getD_eq_getElem?_getD,List.getElem?_eq_getElem hk]
   rfl
structure Enc {α:Type} (sz:Nat) (enc:α→List AV):Prop where
 len:∀ a,(enc a).length=sz
 one:∀ a,(enc a).all AV.one=true
 pos:0<sz
section
variable {α:Type} {sz:Nat} {enc:α→List AV}
theorem Enc.flat (E:Enc sz enc):∀ xs:List α,(xs.flatMap enc).length=xs.length*sz
 | []=>by simp
 | a::r=>by rw [List.flatMap_cons,List.length_append,E.len,E.flat r,List.length_cons,Nat.add_mul]; omega
theorem Enc.ones (E:Enc sz enc):∀ xs:List α,(xs.flatMap enc).all AV.one=true
 | []=>rfl
 | a::r=>by rw [List.flatMap_cons,List.all_append,E.one,E.ones r]; rfl
theorem Enc.take (E:Enc sz enc):∀ (xs:List α) (n:Nat),n≤xs.length→(xs.flatMap enc).take (n*sz)=(xs.take n).flatMap enc
 | xs,0,_=>by simp
 | [],n+1,h=>by simp at h
 | a::r,n+1,h=>by
  rw [List.flatMap_cons,List.take_succ_cons,List.flatMap_cons,List.take_append,E.len,List.take_of_length_le (by rw [E.len,Nat.add_mul]; omega)]
  rw [show (n+1)*sz - sz=n*sz by rw [Nat.add_mul]; omega,E.take r n (by simpa using h)]
theorem Enc.drop (E:Enc sz enc):∀ (xs:List α) (n:Nat),(xs.flatMap enc).drop (n*sz)=(xs.drop n).flatMap enc
 | xs,0=>by simp
 | [],n+1=>by simp
 | a::r,n+1=>by
  rw [List.flatMap_cons,List.drop_succ_cons,List.drop_append,E.len,List.drop_of_length_le (by rw [E.len,Nat.add_mul]; omega),List.nil_append]
  rw [show (n+1)*sz - sz=n*sz by rw [Nat.add_mul]; omega,E.drop r n]
theorem Enc.nth (E:Enc sz enc){xs:List α}{j:Nat}{a:α}(h:xs[j]?=some a):((xs.flatMap enc).drop (j*sz)).take sz=enc a:=by
 obtain ⟨hj,ha⟩:=List.getElem?_eq_some_iff.1 h
 rw [E.drop,List.drop_eq_getElem_cons hj,ha,List.flatMap_cons,List.take_append_of_le_length (by rw [E.len]; exact Nat.le_refl _),List.take_of_length_le (by rw [E.len]; exact Nat.le_refl _)]
def Rd (O:T AObj) (ri z off:Nat) (l:List AV):Prop :=
 (∃ c m el lo hi nv fz sg ex e,O.get ri=some (.cells c m el lo hi nv fz sg ex)∧zm ex m hi z=some e∧lo≤z∧z≤hi∧off+l.length≤e∧At c off l) ∨
 ∃ c lo n,O.get ri=some (.ro c lo n)∧z=0∧lo≤off∧off+l.length≤n∧At c off l
theorem Rd.same {ri z off:Nat}{l:List AV}(h:Rd O ri z off l)(e:O'.get ri=O.get ri):Rd O' ri z off l:=by
 unfold Rd at h ⊢
 rw [e]
 exact h
theorem Rd.load {ri z off:Nat}{l:List AV}(h:Rd O ri z off l){n:Nat}(hn:n=l.length)(N:Nat)(G:T (T AV)):za ⟨O,N,G⟩ ri z off n=some l:=by
 subst hn
 rcases h with ⟨c,m,el,lo,hi,nv,fz,sg,ex,e,h1,h2,h3,h4,h5,h6⟩ | ⟨c,lo,n,h1,rfl,h3,h4,h5⟩
 · unfold za
   show (match O.get ri with | some (.cells c n _ lo hi _ _ _ ex)=>_ | some (.ro c lo n)=>_ | _=>_)=_
   rw [h1]
   simp only [h2]
   rw [if_pos ⟨h3,h4,h5⟩]
   exact h6.load
 · unfold za
   show (match O.get ri with | some (.cells c n _ lo hi _ _ _ ex)=>_ | some (.ro c lo n)=>_ | _=>_)=_
   rw [h1]
   show (if 0=0∧lo≤off∧off+l.length≤n then zF c off l.length else none)=_
   rw [if_pos ⟨rfl,h3,h4⟩]
   exact h5.load
theorem Rd.sub {ri z off a n:Nat}{l:List AV}(h:Rd O ri z off l)(hn:a+n≤l.length):Rd O ri z (off+a) ((l.drop a).take n):=by
 have hl:((l.drop a).take n).length=n:=by rw [List.length_take,List.length_drop]; omega
 rcases h with ⟨c,m,el,lo,hi,nv,fz,sg,ex,e,h1,h2,h3,h4,h5,h6⟩ | ⟨c,lo,m,h1,rfl,h3,h4,h5⟩
 · exact .inl ⟨c,m,el,lo,hi,nv,fz,sg,ex,e,h1,h2,h3,h4,by rw [hl]; omega,h6.sub hn⟩
 · exact .inr ⟨c,lo,m,h1,rfl,by omega,by rw [hl]; omega,h5.sub hn⟩
theorem Rd.elem (E:Enc sz enc){ri z off j:Nat}{xs:List α}{a:α}(h:Rd O ri z off (xs.flatMap enc))(ha:xs[j]?=some a):Rd O ri z (off+j*sz) (enc a):=by
 obtain ⟨hj,_⟩:=List.getElem?_eq_some_iff.1 ha
 have:=h.sub (a:=j*sz) (n:=sz) (by rw [E.flat]; calc j*sz+sz=(j+1)*sz:=by rw [Nat.add_mul]; omega
  _≤xs.length*sz:=Nat.mul_le_mul_right _ hj)
 rwa [E.nth ha] at this
theorem Rd.nth {ri z off u:Nat}{l:List AV}{v:AV}(h:Rd O ri z off l)(hu:l[u]?=some v)(N:Nat)(G:T (T AV)):za ⟨O,N,G⟩ ri z (off+u) 1=some [v]:=by
 obtain ⟨h1,h2⟩:=List.getElem?_eq_some_iff.1 hu
 have:=h.sub (a:=u) (n:=1) h1
 rw [List.drop_eq_getElem_cons h1,h2] at this
 exact this.load (n:=1) (by simp) N G
theorem Rd.ofRow {ri n:Nat}{f:Nat→AV}(h:Row O ri n f){l:List AV}(hl:l.length≤n)(e:∀ k,k<l.length→l[k]?=some (f k)):Rd O ri 0 0 l:=by
 obtain ⟨c,el,h1,h2⟩:=h
 refine .inl ⟨c,n,el,0,0,1,0,false,.leaf,n,h1,by unfold zm; rw [if_pos rfl],Nat.le_refl _,Nat.le_refl _,by omega,fun k hk=>?_⟩
 rw [Nat.zero_add,h2 k (by omega),e k hk]
structure SlT (st el:TypeId) (sz by':Nat):Prop where
 und:P.underlying st=some (.slice el)
 nint:wg P st=some false
 info:∃ i,P.info? el=some i∧i.size=sz∧i.bytes=by'
 size:xW P el=some sz
 zero:∃ z,yT P el=some z∧z.cells.length=sz∧z.cells.all AV.one=true
 pos:0<sz
 few:by'≤4096
theorem SlT.mk' {st el:TypeId}{sz by':Nat}(h1:P.underlying st=some (.slice el))(h2:wg P st=some false)(h3:(P.info? el).map (fun i=>(i.size,i.bytes))=some (sz,by'))(h4:xW P el=some sz)
 (h5:(yT P el).map (fun z=>(z.cells.length,z.cells.all AV.one))=some (sz,true)) (h6:Nat.blt 0 sz=true) (h7:Nat.ble by' 4096=true):SlT st el sz by':=by
 refine ⟨h1,h2,?_,h4,?_,?_,Nat.le_of_ble_eq_true h7⟩
 · obtain ⟨i,a,b⟩:=Option.map_eq_some_iff.1 h3
   rw [Prod.mk.injEq] at b
   exact ⟨i,a,b.1,b.2⟩
 · obtain ⟨i,a,b⟩:=Option.map_eq_some_iff.1 h5
   rw [Prod.mk.injEq] at b
   exact ⟨i,a,b.1,b.2⟩
 · exact Nat.lt_of_lt_of_le (Nat.lt_succ_self 0) (Nat.le_of_ble_eq_true h6)
def sid:AV→Nat
 | .slg i _ _ _ _=>i
 | .slc i _ _ _ _=>i
 | _=>0
def SV (O:T AObj) (sz:Nat) (enc:α→List AV) (lo hi:Nat) (xs:List α) (s:AV):Prop :=
 (s=.nils 0 0∧xs=[]) ∨
 (∃ ri z off cap,s=.slc ri z off xs.length cap∧xs.length≤cap∧lo≤ri∧ri<hi∧Rd O ri z off (xs.flatMap enc)) ∨
 ∃ ri z st,s=.slg ri z (st*sz) xs.length st∧lo≤ri∧ri<hi∧Rd O ri z (st*sz) (xs.flatMap enc)
theorem SV.same {lo hi lo' hi':Nat}{xs:List α}{s:AV}(h:SV O sz enc lo hi xs s)(e:s≠.nils 0 0→O'.get (sid s)=O.get (sid s))(h1:lo'≤lo)(h2:hi≤hi'):SV O' sz enc lo' hi' xs s:=by
 rcases h with h | ⟨ri,z,off,cap,rfl,hc,a,b,r⟩ | ⟨ri,z,st,rfl,a,b,r⟩
 · exact .inl h
 · exact .inr (.inl ⟨ri,z,off,cap,rfl,hc,by omega,by omega,r.same (e (by simp))⟩)
 · exact .inr (.inr ⟨ri,z,st,rfl,by omega,by omega,r.same (e (by simp))⟩)
theorem SV.sid_lt {lo hi:Nat}{xs:List α}{s:AV}(h:SV O sz enc lo hi xs s)(hn:s≠.nils 0 0):lo≤sid s∧sid s<hi:=by
 rcases h with h | ⟨ri,z,off,cap,rfl,hc,a,b,r⟩ | ⟨ri,z,st,rfl,a,b,r⟩
 · exact absurd h.1 hn
 · exact ⟨a,b⟩
 · exact ⟨a,b⟩
theorem SV.keep {lo hi lo' hi':Nat}{xs:List α}{s:AV}(h:SV O sz enc lo hi xs s)(e:∀ j,lo≤j→j<hi→O'.get j=O.get j)(h1:lo'≤lo)(h2:hi≤hi'):SV O' sz enc lo' hi' xs s :=
 h.same (fun hn=>e _ (h.sid_lt hn).1 (h.sid_lt hn).2) h1 h2
theorem SV.cells {lo hi:Nat}{xs:List α}{s:AV}(h:SV O sz enc lo hi xs s):s.cells=[s]:=by
 rcases h with ⟨rfl,_⟩ | ⟨ri,z,off,cap,rfl,_⟩ | ⟨ri,z,st,rfl,_⟩ <;> rfl
theorem SV.one {lo hi:Nat}{xs:List α}{s:AV}(h:SV O sz enc lo hi xs s):AV.one s=true:=by
 rcases h with ⟨rfl,_⟩ | ⟨ri,z,off,cap,rfl,_⟩ | ⟨ri,z,st,rfl,_⟩ <;> rfl
theorem SV.lens {lo hi:Nat}{xs:List α}{s:AV}(h:SV O sz enc lo hi xs s):zU s=some xs.length∧zap s=some xs.length:=by
 rcases h with ⟨rfl,rfl⟩ | ⟨ri,z,off,cap,rfl,_⟩ | ⟨ri,z,st,rfl,_⟩ <;> exact ⟨rfl,rfl⟩
theorem SV.len {st el:TypeId}{by' lo hi:Nat}(S:SlT st el sz by'){xs:List α}{s:AV}(h:SV O sz enc lo hi xs s)(N:Nat)(G:T (T AV)):xK P ⟨O,N,G⟩ .len (some st) [s]=some (.int .i64 ((xs.length:Nat):Int)):=by
 show zmZ P ⟨O,N,G⟩ st s=_
 unfold zmZ znh
 rw [S.und]
 simp only [h.lens.1]
theorem SV.at {st el:TypeId}{by' lo hi j:Nat}(S:SlT st el sz by')(E:Enc sz enc){xs:List α}{s:AV}{a:α}(h:SV O sz enc lo hi xs s)(ha:xs[j]?=some a) :
 ∃ ri z off,lo≤ri∧ri<hi∧zx P st s (.int .i64 ((j:Nat):Int))=some (.ptr ri z off)∧Rd O ri z off (enc a)∧ri=sid s:=by
 obtain ⟨hj,_⟩:=List.getElem?_eq_some_iff.1 ha
 have hx:∀ ri z off,yd ri z off xs.length sz ((j:Nat):Int)=some (.ptr ri z (off+j*sz)):=fun ri z off=>by
  unfold yd
  rw [if_pos ⟨by omega,by omega⟩]
  rfl
 rcases h with ⟨rfl,rfl⟩ | ⟨ri,z,off,cap,rfl,hc,g1,g2,r⟩ | ⟨ri,z,st',rfl,g1,g2,r⟩
 · cases ha
 · refine ⟨ri,z,off+j*sz,g1,g2,?_,r.elem E ha,rfl⟩
   unfold zx
   rw [S.und]
   simp only [S.size]
   exact hx ri z off
 · refine ⟨ri,z,st'*sz+j*sz,g1,g2,?_,r.elem E ha,rfl⟩
   unfold zx
   rw [S.und]
   simp only [S.size]
   exact hx ri z _
def GV (O:T AObj) (el:TypeId) (sz:Nat) (enc:α→List AV) (lo hi:Nat) (xs:List α) (s:AV):Prop :=
 (s=.nils 0 0∧xs=[]) ∨
 (∃ ri z off,s=.slc ri z off xs.length xs.length∧lo≤ri∧ri<hi∧Rd O ri z off (xs.flatMap enc)) ∨
 ∃ ri q st c l0 sg ex,s=.slg ri q (st*sz) xs.length st∧lo≤ri∧ri<hi∧l0≤q∧O.get ri=some (.cells c (st*sz+xs.length*sz) el l0 q (q+1) 0 sg ex)∧At c (st*sz) (xs.flatMap enc)
theorem GV.sv (E:Enc sz enc){el:TypeId}{lo hi:Nat}{xs:List α}{s:AV}(h:GV O el sz enc lo hi xs s):SV O sz enc lo hi xs s:=by
 rcases h with h | ⟨ri,z,off,rfl,a,b,r⟩ | ⟨ri,q,st,c,l0,sg,ex,rfl,a,b,d,e,f⟩
 · exact .inl h
 · exact .inr (.inl ⟨ri,z,off,_,rfl,Nat.le_refl _,a,b,r⟩)
 · exact .inr (.inr ⟨ri,q,st,rfl,a,b,.inl ⟨c,_,el,l0,q,q+1,0,sg,ex,_,e,by unfold zm; rw [if_pos rfl],d,Nat.le_refl _,by rw [E.flat]; exact Nat.le_refl _,f⟩⟩)
theorem GV.nil {el:TypeId}{lo hi:Nat}:GV O el sz enc lo hi ([]:List α) (.nils 0 0):=.inl ⟨rfl,rfl⟩
theorem SV.nil {lo hi:Nat}:SV O sz enc lo hi ([]:List α) (.nils 0 0):=.inl ⟨rfl,rfl⟩
theorem GV.same {el:TypeId}{lo hi lo' hi':Nat}{xs:List α}{s:AV}(h:GV O el sz enc lo hi xs s)(e:s≠.nils 0 0→O'.get (sid s)=O.get (sid s))(h1:lo'≤lo)(h2:hi≤hi'):GV O' el sz enc lo' hi' xs s:=by
 rcases h with h | ⟨ri,z,off,rfl,a,b,r⟩ | ⟨ri,q,st,c,l0,sg,ex,rfl,a,b,d,r,f⟩
 · exact .inl h
 · exact .inr (.inl ⟨ri,z,off,rfl,by omega,by omega,r.same (e (by simp))⟩)
 · exact .inr (.inr ⟨ri,q,st,c,l0,sg,ex,rfl,by omega,by omega,d,(e (by simp)).trans r,f⟩)
theorem GV.sid_lt {el:TypeId}{lo hi:Nat}{xs:List α}{s:AV}(h:GV O el sz enc lo hi xs s)(hn:s≠.nils 0 0):lo≤sid s∧sid s<hi:=by
 rcases h with h | ⟨ri,z,off,rfl,a,b,r⟩ | ⟨ri,q,st,c,l0,sg,ex,rfl,a,b,d,r,f⟩
 · exact absurd h.1 hn
 · exact ⟨a,b⟩
 · exact ⟨a,b⟩
theorem GV.keep {el:TypeId}{lo hi lo' hi':Nat}{xs:List α}{s:AV}(h:GV O el sz enc lo hi xs s)(e:∀ j,lo≤j→j<hi→O'.get j=O.get j)(h1:lo'≤lo)(h2:hi≤hi'):GV O' el sz enc lo' hi' xs s :=
 h.same (fun hn=>e _ (h.sid_lt hn).1 (h.sid_lt hn).2) h1 h2
theorem SV.first (E:Enc sz enc){lo hi:Nat}{xs:List α}{s:AV}(h:SV O sz enc lo hi xs s)(N:Nat)(G:T (T AV)):ya ⟨O,N,G⟩ sz xs.length s=some (xs.flatMap enc):=by
 rcases h with ⟨rfl,rfl⟩ | ⟨ri,z,off,cap,rfl,hc,g1,g2,r⟩ | ⟨ri,z,st',rfl,g1,g2,r⟩
 · rfl
 · exact r.load (E.flat xs).symm N G
 · exact r.load (E.flat xs).symm N G
theorem zk1 {st el:TypeId}{by' lo hi:Nat}(S:SlT st el sz by')(E:Enc sz enc){ys:List α}{s x:AV}{sl:Nat}(hs:zU s=some sl)(hx:SV O sz enc lo hi ys x)(N:Nat)(G:T (T AV)) :
 zd P ⟨O,N,G⟩ .append (some st) (some st) [s,x]=vd (match ys.length with
  | 0=>xX ⟨O,N,G⟩ s
  | n+1=>yZ ⟨O,N,G⟩ el sz by' sl (n+1) s (ys.flatMap enc)):=by
 obtain ⟨i,h1,h2,h3⟩:=S.info
 obtain ⟨z,z1,z2,z3⟩:=S.zero
 show (match wg P st with | none=>none | some z=>match zib [s,x] with | none=>none | some (s,x)=>vd (wF P ⟨O,N,G⟩ st z s x))=_
 rw [S.nint]
 show vd (wF P ⟨O,N,G⟩ st false s x)=_
 congr 1
 unfold wF
 rw [S.und]
 show jw P ⟨O,N,G⟩ el false s x=_
 unfold jw
 rw [h1,z1]
 have ha:qC ⟨O,N,G⟩ sz z false x=some (ys.length,ys.flatMap enc):=by
  unfold qC
  simp only [hx.lens.2,hx.first E N G]
 simp only [hs,h2,h3,ha]
 rw [if_pos ⟨S.pos,z2,z3,E.ones ys,E.flat ys,fun h=>by cases h⟩]
 cases ys.length <;> rfl
theorem GV.app2 {st el:TypeId}{by' lo lo2 hi2:Nat}(S:SlT st el sz by')(E:Enc sz enc){xs ys:List α}{s x:AV}(h:GV O el sz enc lo N xs s)(hx:SV O sz enc lo2 hi2 ys x)(hlo:lo≤N)(hn:xs.length+ys.length<1000000000)(G:T (T AV)) :
 ∃ O' N' s',zd P ⟨O,N,G⟩ .append (some st) (some st) [s,x]=some (.val s' ⟨O',N',G⟩)∧GV O' el sz enc lo N' (xs++ys) s'∧N≤N'∧N'≤N+1∧(∀ j,j<N→(s≠.nils 0 0→j≠sid s)→O'.get j=O.get j)∧(s'=.nils 0 0∨sid s'=N∨(s≠.nils 0 0∧sid s'=sid s))∧(ys≠[]→∃ ri q o n t,s'=.slg ri q o n t):=by
 have base:=zk1 S E (h.sv E).lens.1 hx N G
 have hroom:zdp (xs.length+ys.length) by'=true:=by
  have:=S.few
  unfold zdp
  rw [Bool.and_eq_true]
  refine ⟨Nat.ble_eq_true_of_le ?_,Nat.ble_eq_true_of_le (show xs.length+ys.length+1≤2 ^ 60 by omega)⟩
  calc (2*(xs.length+ys.length)+1000)*by'≤2000001000*4096:=Nat.mul_le_mul (by omega) this
   _≤2 ^ 48:=by decide
 cases hy:ys with
 | nil =>
  subst hy
  refine ⟨O,N,s,?_,by rw [List.append_nil]; exact h,Nat.le_refl _,Nat.le_succ _,fun _ _ _=>rfl,?_,fun h=>absurd rfl h⟩
  · rw [base]
    show vd (xX ⟨O,N,G⟩ s)=_
    rcases h with ⟨rfl,_⟩ | ⟨ri,z,off,rfl,_⟩ | ⟨ri,q,st',c,l0,sg,ex,rfl,_⟩
    · rfl
    · unfold xX
      simp only [Nat.le_refl,if_true]
      rfl
    · rfl
  · by_cases hs:s=.nils 0 0
    · exact .inl hs
    · exact .inr (.inr ⟨hs,rfl⟩)
 | cons y r =>
  have hlen:ys.length=r.length+1:=by rw [hy]; rfl
  rw [← hy]
  rw [hlen] at base
  simp only at base
  rw [show r.length+1=ys.length from hlen.symm] at base
  have fresh:ya ⟨O,N,G⟩ sz xs.length s=some (xs.flatMap enc)→zd P ⟨O,N,G⟩ .append (some st) (some st) [s,x]=vd (xn ⟨O,N,G⟩ el sz by' xs.length (xs.length+ys.length) s (ys.flatMap enc)) →
   ∃ O' N' s',zd P ⟨O,N,G⟩ .append (some st) (some st) [s,x]=some (.val s' ⟨O',N',G⟩)∧GV O' el sz enc lo N' (xs++ys) s'∧N≤N'∧N'≤N+1∧(∀ j,j<N→(s≠.nils 0 0→j≠sid s)→O'.get j=O.get j)∧(s'=.nils 0 0∨sid s'=N∨(s≠.nils 0 0∧sid s'=sid s))∧(ys≠[]→∃ ri q o n t,s'=.slg ri q o n t):=fun hf e=>by
   have hfl:(xs.flatMap enc++ys.flatMap enc)=(xs++ys).flatMap enc:=List.flatMap_append.symm
   refine ⟨O.set (some (.cells (ze .leaf 0 ((xs++ys).flatMap enc)) ((xs++ys).flatMap enc).length el 0 0 1 0 false .leaf)) N,N+1,.slg N 0 0 (xs.length+ys.length) 0,?_,.inr (.inr ⟨N,0,0,ze .leaf 0 ((xs++ys).flatMap enc),0,false,.leaf,by rw [List.length_append,Nat.zero_mul],hlo,Nat.lt_succ_self _,Nat.le_refl _,?_,?_⟩),Nat.le_succ _,Nat.le_refl _,fun j hj _=>by rw [T.get_set,if_neg (by omega)],.inr (.inl rfl),fun _=>⟨_,_,_,_,_,rfl⟩⟩
   · rw [e]
     unfold xn
     rw [if_pos hroom,hf]
     simp only
     rw [if_pos ⟨E.ones xs,E.flat xs⟩,hfl]
     rfl
   · rw [T.get_set,if_pos rfl,E.flat,Nat.zero_mul,Nat.zero_add]
   · rw [Nat.zero_mul]
     exact At.stored _ _ _
  rcases h with ⟨rfl,rfl⟩ | ⟨ri,z,off,rfl,g1,g2,rd⟩ | ⟨ri,q,st',c,l0,sg,ex,rfl,g1,g2,g3,g4,g5⟩
  · exact fresh rfl base
  · refine fresh (rd.load (E.flat xs).symm N G) (base.trans ?_)
    show vd (if xs.length+ys.length≤xs.length then _ else _)=_
    rw [if_neg (by omega)]
  · have hext:zm ex (st'*sz+xs.length*sz) q q=some (st'*sz+xs.length*sz):=by unfold zm; rw [if_pos rfl]
    have hpos:=S.pos
    have hmul:(xs.length+ys.length)*sz=xs.length*sz+ys.length*sz:=Nat.add_mul _ _ _
    have hyp:0<ys.length*sz:=Nat.mul_pos (by omega) hpos
    refine ⟨O.set (some (.cells (ze c (st'*sz+xs.length*sz) (ys.flatMap enc)) (st'*sz+xs.length*sz+(ys.flatMap enc).length) el l0 (q+1) (q+1+1) 0 sg (ex.set (some (st'*sz+xs.length*sz)) q))) ri,N,.slg ri (q+1) (st'*sz) (xs.length+ys.length) st',?_,.inr (.inr ⟨ri,q+1,st',ze c (st'*sz+xs.length*sz) (ys.flatMap enc),l0,sg,ex.set (some (st'*sz+xs.length*sz)) q,by rw [List.length_append],g1,g2,by omega,?_,?_⟩),Nat.le_refl _,Nat.le_succ _,fun j hj hne=>by rw [T.get_set,if_neg (show j≠ri from hne (by simp))],.inr (.inr ⟨by simp,rfl⟩),fun _=>⟨_,_,_,_,_,rfl⟩⟩
    · rw [base]
      show vd (match xb ⟨O,N,G⟩ el sz ri q (st'*sz) st' xs.length (xs.length+ys.length) (ys.flatMap enc) with | some r=>some r | none=>yo ⟨O,N,G⟩ el sz by' ri q (st'*sz) st' xs.length (xs.length+ys.length) (ys.flatMap enc))=_
      have k1:xb ⟨O,N,G⟩ el sz ri q (st'*sz) st' xs.length (xs.length+ys.length) (ys.flatMap enc)=none:=by
       unfold xb
       show (match O.get ri with | some (.cells _ m el' lo hi _ _ _ ex)=>_ | _=>_)=_
       rw [g4]
       simp only [hext]
       rw [if_neg (by omega)]
      rw [k1]
      simp only
      unfold yo
      show vd (match O.get ri with | some (.cells c m el' lo hi nv fz sg ex)=>_ | _=>_)=_
      rw [g4]
      simp only [hext]
      rw [if_pos ⟨g3,Nat.le_refl _,Nat.le_refl _,Nat.zero_le _,trivial,trivial,Nat.lt_succ_self _,hroom⟩,if_pos ⟨Nat.le_refl _,trivial⟩,T.seq_eq,T.seq_eq]
      rfl
    · rw [T.get_set,if_pos rfl,E.flat,List.length_append,hmul,Nat.add_assoc]
    · rw [List.flatMap_append]
      refine At.app (g5.store (.inl (by rw [E.flat]; exact Nat.le_refl _))) ?_
      rw [E.flat]
      exact At.stored _ _ _
theorem GV.app {st el:TypeId}{by' lo lo2 hi2:Nat}(S:SlT st el sz by')(E:Enc sz enc){xs ys:List α}{s x:AV}(h:GV O el sz enc lo N xs s)(hx:SV O sz enc lo2 hi2 ys x)(hlo:lo≤N)(hn:xs.length+ys.length<1000000000)(G:T (T AV)) :
 ∃ O' N' s',zd P ⟨O,N,G⟩ .append (some st) (some st) [s,x]=some (.val s' ⟨O',N',G⟩)∧GV O' el sz enc lo N' (xs++ys) s'∧N≤N'∧N'≤N+1∧(∀ j,j<N→(s≠.nils 0 0→j≠sid s)→O'.get j=O.get j)∧(s'=.nils 0 0∨sid s'=N∨(s≠.nils 0 0∧sid s'=sid s)):=by
 obtain ⟨O',N',s',e1,e2,e3,e4,e5,e6,_⟩:=GV.app2 S E h hx hlo hn G
 exact ⟨O',N',s',e1,e2,e3,e4,e5,e6⟩
theorem znl (E:Enc sz enc){el:TypeId}(a:α)(O:T AObj)(N:Nat):∃ O',O.set (some (.cells (ze .leaf 0 (enc a)) (enc a).length el 0 0 1 0 false .leaf)) N=O'∧SV O' sz enc N (N+1) [a] (.slc N 0 0 1 1)∧GV O' el sz enc N (N+1) [a] (.slc N 0 0 1 1)∧Frm O O' N:=by
 have hf:[a].flatMap enc=enc a:=by simp
 have rd:Rd (O.set (some (.cells (ze .leaf 0 (enc a)) (enc a).length el 0 0 1 0 false .leaf)) N) N 0 0 ([a].flatMap enc):=by
  rw [hf]
  exact .inl ⟨_,_,_,_,_,_,_,_,_,(enc a).length,by rw [T.get_set,if_pos rfl],by unfold zm; rw [if_pos rfl],Nat.le_refl _,Nat.le_refl _,by omega,At.stored _ _ _⟩
 exact ⟨_,rfl,.inr (.inl ⟨N,0,0,1,rfl,Nat.le_refl _,Nat.le_refl _,Nat.lt_succ_self _,rd⟩),.inr (.inl ⟨N,0,0,rfl,Nat.le_refl _,Nat.lt_succ_self _,rd⟩),fun j hj=>by rw [T.get_set,if_neg hj]⟩
theorem zcx (E:Enc sz enc){el:TypeId}(a:α)(O:T AObj)(N:Nat)(G:T (T AV)){st:TypeId}{v:AV}(hb:∀ h:AHeap,zg P h st 1 [(0,v)]=some (.slc h.next 0 0 1 1,xx h el (enc a) false)) :
 ∃ O',zg P ⟨O,N,G⟩ st 1 [(0,v)]=some (.slc N 0 0 1 1,⟨O',N+1,G⟩)∧SV O' sz enc N (N+1) [a] (.slc N 0 0 1 1)∧GV O' el sz enc N (N+1) [a] (.slc N 0 0 1 1)∧Frm O O' N:=by
 obtain ⟨O',e1,e2,e3,e4⟩:=znl E (el:=el) a O N
 refine ⟨O',?_,e2,e3,e4⟩
 rw [hb,← e1]
 rfl
theorem SV.sub {st el:TypeId}{by' lo hi a b:Nat}(S:SlT st el sz by')(E:Enc sz enc){xs:List α}{s:AV}(h:SV O sz enc lo hi xs s)(hab:a≤b)(hb:b≤xs.length)(l0:Option Int)(h0:Option Int)(e0:l0=some ((a:Nat):Int)∨l0=none∧a=0)(e1:h0=some ((b:Nat):Int)∨h0=none∧b=xs.length)(N:Nat)(G:T (T AV)) :
 ∃ s',yY P ⟨O,N,G⟩ st s l0 h0 none=some s'∧SV O sz enc lo hi ((xs.drop a).take (b - a)) s'∧(s≠.nils 0 0→s'≠.nils 0 0∧sid s'=sid s)∧(s=.nils 0 0→s'=.nils 0 0):=by
 have bnd:∀ cap,xs.length≤cap→zM xs.length cap l0 h0 none=some (a,b,cap):=fun cap hcap=>by
  unfold zM
  show (match xh xs.length cap false h0 with | none=>none | some h=>match z9 l0 h with | none=>none | some l=>some (l,h,cap))=_
  have h1:xh xs.length cap false h0=some b:=by
   rcases e1 with rfl | ⟨rfl,rfl⟩
   · show xj _ cap=_
     unfold xj
     rw [if_pos ⟨by omega,by omega⟩]
     rfl
   · rfl
  have h2:z9 l0 b=some a:=by
   rcases e0 with rfl | ⟨rfl,rfl⟩
   · show xj _ b=_
     unfold xj
     rw [if_pos ⟨by omega,by omega⟩]
     rfl
   · rfl
  rw [h1]
  simp only [h2]
 have hlen:((xs.drop a).take (b - a)).length=b - a:=by rw [List.length_take,List.length_drop]; omega
 have hfl:((xs.flatMap enc).drop (a*sz)).take ((b - a)*sz)=((xs.drop a).take (b - a)).flatMap enc:=by
  rw [E.drop,E.take _ _ (by rw [List.length_drop]; omega)]
 have hmul:a*sz+(b - a)*sz≤(xs.flatMap enc).length:=by
  rw [E.flat,← Nat.add_mul]
  exact Nat.mul_le_mul_right _ (by omega)
 have red:yY P ⟨O,N,G⟩ st s l0 h0 none=(match wy (some sz) s l0 h0 none with | some v=>some v | none=>zgt P ⟨O,N,G⟩ st s l0 h0 none):=by
  unfold yY zcn
  rw [S.und]
  simp only [S.size]
  cases wy (some sz) s l0 h0 none <;> rfl
 rw [red]
 rcases h with ⟨rfl,rfl⟩ | ⟨ri,z,off,cap,rfl,hc,g1,g2,r⟩ | ⟨ri,z,st',rfl,g1,g2,r⟩
 · refine ⟨.nils 0 0,?_,.inl ⟨rfl,by simp⟩,fun h=>absurd rfl h,fun _=>rfl⟩
   have:=bnd 0 (Nat.le_refl _)
   simp only [List.length_nil,Nat.le_zero] at hb this
   subst hb
   obtain rfl:a=0:=by omega
   unfold wy
   simp only [this]
   rfl
 · have:=r.sub hmul
   rw [hfl] at this
   refine ⟨.slc ri z (if cap=a then off else off+a*sz) (b - a) (cap - a),?_,.inr (.inl ⟨ri,z,_,cap - a,by rw [hlen],by rw [hlen]; omega,g1,g2,?_⟩),fun _=>⟨by simp,rfl⟩,fun h=>by cases h⟩
   · unfold wy
     simp only [bnd cap hc]
     rfl
   · split
     · have hz:b - a=0:=by omega
       have hxx:(xs.drop a).take (b - a)=[]:=by rw [hz]; simp
       rw [hxx] at this ⊢
       rcases this with ⟨c,m,el,lo,hi,nv,fz,sg,ex,e,h1,h2,h3,h4,h5,h6⟩ | ⟨c,lo,m,h1,h2,h3,h4,h5⟩
       · exact .inl ⟨c,m,el,lo,hi,nv,fz,sg,ex,e,h1,h2,h3,h4,by simp at h5 ⊢; omega,At.nil⟩
       · rcases r with ⟨c',m',el',lo',hi',nv',fz',sg',ex',e',q1,_⟩ | ⟨c',lo',m',q1,q2,q3,q4,q5⟩
         · rw [h1] at q1; cases q1
         · rw [h1] at q1; cases q1
           exact .inr ⟨c,lo,m,h1,h2,q3,by simp at h4 ⊢; omega,At.nil⟩
     · exact this
 · have:=r.sub hmul
   rw [hfl] at this
   refine ⟨.slg ri z (st'*sz+a*sz) (b - a) (st'+a),?_,.inr (.inr ⟨ri,z,st'+a,by rw [hlen,Nat.add_mul],g1,g2,by rw [Nat.add_mul]; exact this⟩),fun _=>⟨by simp,rfl⟩,fun h=>by cases h⟩
   unfold wy
   simp only [bnd xs.length (Nat.le_refl _)]
   rfl
theorem GV.put {st el:TypeId}{by' lo hi j:Nat}(S:SlT st el sz by')(E:Enc sz enc){xs:List α}{s:AV}{a b:α}(h:GV O el sz enc lo hi xs s)(hj:xs[j]?=some a)(hs:∃ ri q o n t,s=.slg ri q o n t)(N:Nat)(G:T (T AV)) :
 ∃ ri z off O',zx P st s (.int .i64 ((j:Nat):Int))=some (.ptr ri z off)∧zb ⟨O,N,G⟩ ri z off (enc b)=some ⟨O',N,G⟩∧SV O' sz enc lo hi (xs.set j b) s∧Frm O O' ri∧ri=sid s ∧
  ∃ ri q st c l0 nv sg ex,s=.slg ri q (st*sz) xs.length st∧l0≤q∧O'.get ri=some (.cells c (st*sz+xs.length*sz) el l0 q nv 0 sg ex):=by
 rcases h with ⟨rfl,rfl⟩ | ⟨ri,z,off,rfl,g1,g2,rd⟩ | ⟨ri,q,st',c,l0,sg,ex,rfl,g1,g2,g3,g4,g5⟩
 · cases hj
 · obtain ⟨_,_,_,_,_,h⟩:=hs
   cases h
 · obtain ⟨hjl,hja⟩:=List.getElem?_eq_some_iff.1 hj
   have hext:zm ex (st'*sz+xs.length*sz) q q=some (st'*sz+xs.length*sz):=by unfold zm; rw [if_pos rfl]
   have hb:j*sz+sz≤xs.length*sz:=by
    calc j*sz+sz=(j+1)*sz:=by rw [Nat.add_mul]; omega
     _≤xs.length*sz:=Nat.mul_le_mul_right _ hjl
   have hset:(xs.set j b).flatMap enc=(xs.flatMap enc).take (j*sz)++enc b++(xs.flatMap enc).drop (j*sz+(enc b).length):=by
    rw [E.len,E.take _ _ (by omega),show j*sz+sz=(j+1)*sz by rw [Nat.add_mul]; omega,E.drop]
    rw [List.set_eq_take_append_cons_drop,if_pos hjl,List.flatMap_append,List.flatMap_cons,List.append_assoc]
   refine ⟨ri,q,st'*sz+j*sz,O.set (some (.cells (ze c (st'*sz+j*sz) (enc b)) (st'*sz+xs.length*sz) el q q (q+1) 0 sg ex)) ri,?_,?_,.inr (.inr ⟨ri,q,st',by rw [List.length_set],g1,g2,.inl ⟨_,_,_,_,_,_,_,_,_,_,by rw [T.get_set,if_pos rfl],hext,Nat.le_refl _,Nat.le_refl _,?_,?_⟩⟩),fun j hj=>by rw [T.get_set,if_neg hj],rfl,⟨ri,q,st',_,q,q+1,sg,ex,rfl,Nat.le_refl _,by rw [T.get_set,if_pos rfl]⟩⟩
   · unfold zx
     rw [S.und]
     simp only [S.size]
     unfold zcX
     simp only
     unfold yd
     rw [if_pos ⟨by omega,by omega⟩]
     rfl
   · unfold zb
     show (match O.get ri with | some (.cells c n el lo hi nv fz sg ex)=>_ | _=>_)=_
     rw [g4]
     simp only [hext]
     rw [if_pos ⟨g3,Nat.le_refl _,by rw [E.len]; omega,Nat.zero_le _,E.one b⟩,T.seq_eq]
     rfl
   · rw [E.flat,List.length_set]; exact Nat.le_refl _
   · rw [hset]
     exact g5.set (by rw [E.len,E.flat]; exact hb)
end
section
variable {κ:Type} [BEq κ] [LawfulBEq κ] {kav:κ→AV}
structure MpT (mt kt el:TypeId) (kav:κ→AV) (z:AV):Prop where
 map:zfk P mt=some (kt,el)
 zero:yT P el=some z
 kok:∀ k,jE P 9 kt (kav k)=true
 keq:∀ h a b,eqA P h 9 kt (kav a) (kav b)=some (a==b)
 self:∀ k,qJ 300 (kav k) (kav k)=true
def MapIs (O:T AObj) (mi:Nat) (kav:κ→AV) (l:List (κ × AV)):Prop:=∃ es clock,O.get mi=some (.map es clock)∧es.map (fun e=>(e.key,e.val))=l.map fun p=>(kav p.1,p.2)
theorem MapIs.same {mi:Nat}{l:List (κ × AV)}(h:MapIs O mi kav l)(e:O'.get mi=O.get mi):MapIs O' mi kav l:=by
 obtain ⟨es,clock,h1,h2⟩:=h
 exact ⟨es,clock,e.trans h1,h2⟩
def ix (k:κ):List (κ × AV)→Nat→Option Nat
 | [],_=>none
 | p::r,i=>if (k==p.1)=true then some i else ix k r (i+1)
theorem zdt {mt kt el:TypeId}{z:AV}(M:MpT mt kt el kav z)(h:AHeap)(k:κ):∀ (es:List AEntry) (l:List (κ × AV)) (i:Nat),es.map (fun e=>(e.key,e.val))=l.map (fun p=>(kav p.1,p.2)) →
 (ix k l i=none∧wC (eqA P h 9 kt) (kav k) es i=some none∧∀ p∈l,p.1≠k) ∨
 ∃ j e p,ix k l i=some (i+j)∧wC (eqA P h 9 kt) (kav k) es i=some (some (i+j,e))∧es[j]?=some e∧l[j]?=some p∧p.1=k∧e.key=kav k∧e.val=p.2∧∀ q∈l.take j,q.1≠k
 | [],[],i,_=>.inl ⟨rfl,rfl,fun p hp=>absurd hp List.not_mem_nil⟩
 | [],p::r,i,e=>by cases e
 | e::r,[],i,h=>by cases h
 | e::es,p::l,i,he=>by
  rw [List.map_cons,List.map_cons,List.cons.injEq,Prod.mk.injEq] at he
  obtain ⟨⟨e1,e2⟩,e3⟩:=he
  have hq:=M.keq h k p.1
  rw [← e1] at hq
  unfold wC ix
  rw [hq]
  cases hb:(k==p.1) with
  | true =>
   have hk:=eq_of_beq hb
   exact .inr ⟨0,e,p,rfl,rfl,rfl,rfl,hk.symm,by rw [e1,hk],e2,fun q hq=>absurd hq (by simp)⟩
  | false =>
   have hk:p.1≠k:=fun h=>by rw [h,beq_self_eq_true] at hb; cases hb
   simp only [Bool.false_eq_true,if_false]
   rcases zdt M h k es l (i+1) e3 with ⟨h1,h2,h3⟩ | ⟨j,e',p',h1,h2,h3,h4,h5,h6,h7,h8⟩
   · refine .inl ⟨h1,h2,fun q hq=>?_⟩
     rcases List.mem_cons.1 hq with rfl | hq
     · exact hk
     · exact h3 q hq
   · refine .inr ⟨j+1,e',p',by rw [h1]; congr 1; omega,by rw [h2]; congr 3; omega,h3,h4,h5,h6,h7,fun q hq=>?_⟩
     rw [List.take_succ_cons] at hq
     rcases List.mem_cons.1 hq with rfl | hq
     · exact hk
     · exact h8 q hq
theorem zfU {mt kt el:TypeId}{z:AV}(M:MpT mt kt el kav z){mi:Nat}{es:List AEntry}{clock:Nat}{k:κ}(h1:O.get mi=some (.map es clock)):qL P ⟨O,N,G⟩ kt (kav k) (.mp mi)=wC (eqA P ⟨O,N,G⟩ 9 kt) (kav k) es 0:=by
 unfold qL
 rw [if_pos (M.kok k)]
 have:xT ⟨O,N,G⟩ (.mp mi)=some es:=by
  unfold xT
  show (match O.get mi with | some (.map es _)=>some es | _=>none)=_
  rw [h1]
 rw [this]
def val? (k:κ):List (κ × AV)→Option AV
 | []=>none
 | p::r=>if (k==p.1)=true then some p.2 else val? k r
theorem zd5 {k:κ}:∀ {l:List (κ × AV)},(∀ p∈l,p.1≠k)→val? k l=none
 | [],_=>rfl
 | p::r,h=>by
  unfold val?
  have:=h p List.mem_cons_self
  rw [if_neg (fun e=>this (eq_of_beq e).symm)]
  exact zd5 fun q hq=>h q (List.mem_cons_of_mem _ hq)
theorem zgQ {k:κ}{p:κ × AV}:∀ {l:List (κ × AV)} {j:Nat},l[j]?=some p→p.1=k→(∀ q∈l.take j,q.1≠k)→val? k l=some p.2
 | [],j,h,_,_=>by cases h
 | q::r,0,h,hk,_=>by
  cases h
  unfold val?
  rw [if_pos (by rw [hk]; exact beq_self_eq_true k)]
 | q::r,j+1,h,hk,hn=>by
  unfold val?
  have:=hn q (by simp)
  rw [if_neg (fun e=>this (eq_of_beq e).symm)]
  exact zgQ (l:=r) (j:=j) h hk fun x hx=>hn x (by rw [List.take_succ_cons]; exact List.mem_cons_of_mem _ hx)
theorem MapIs.look {mt kt el:TypeId}{z:AV}(M:MpT mt kt el kav z){mi:Nat}{l:List (κ × AV)}(h:MapIs O mi kav l)(k:κ)(ok:Bool)(N:Nat)(G:T (T AV)) :
 xV P ⟨O,N,G⟩ mt (.mp mi) (kav k) ok=zh6 ok ((val? k l).getD z) (val? k l).isSome:=by
 obtain ⟨es,clock,h1,h2⟩:=h
 unfold xV
 rw [M.map]
 simp only [zfU M h1]
 rcases zdt M ⟨O,N,G⟩ k es l 0 h2 with ⟨_,q2,q3⟩ | ⟨j,e,p,_,q2,q3,q4,q5,q6,q7,q8⟩
 · rw [q2]
   simp only [M.zero]
   rw [zd5 q3]
   rfl
 · rw [q2]
   simp only
   rw [zgQ q4 q5 q8,q7]
   rfl
def zb7 (k:κ) (v:AV) (l:List (κ × AV)):List (κ × AV):=match ix k l 0 with
 | some j=>l.set j (k,v)
 | none=>l++[(k,v)]
theorem MapIs.put {mt kt el:TypeId}{z:AV}(M:MpT mt kt el kav z){mi:Nat}{l:List (κ × AV)}(h:MapIs O mi kav l)(k:κ)(v:AV)(N:Nat)(G:T (T AV)) :
 ∃ O',yE P ⟨O,N,G⟩ mt (.mp mi) (kav k) v=some ⟨O',N,G⟩∧MapIs O' mi kav (zb7 k v l)∧Frm O O' mi:=by
 obtain ⟨es,clock,h1,h2⟩:=h
 have hp:yE P ⟨O,N,G⟩ mt (.mp mi) (kav k) v=(match wC (eqA P ⟨O,N,G⟩ 9 kt) (kav k) es 0 with | none=>none | some r=>jg ⟨O,N,G⟩ mi (kav k) v r):=by
  unfold yE
  rw [M.map]
  simp only [zfU M h1]
  cases wC (eqA P ⟨O,N,G⟩ 9 kt) (kav k) es 0 <;> rfl
 rw [hp]
 rcases zdt M ⟨O,N,G⟩ k es l 0 h2 with ⟨q1,q2,q3⟩ | ⟨j,e,p,q1,q2,q3,q4,q5,q6,q7,q8⟩
 · refine ⟨O.set (some (.map (es++[{ key:=kav k,val:=v,born:=clock }]) (clock+1))) mi,?_,⟨_,_,by rw [T.get_set,if_pos rfl],?_⟩,fun j hj=>by rw [T.get_set,if_neg hj]⟩
   · rw [q2]
     unfold jg
     show (match O.get mi with | some (.map es clock)=>_ | _=>_)=_
     rw [h1]
     rfl
   · unfold zb7
     rw [q1,List.map_append,h2,List.map_append]
     rfl
 · rw [Nat.zero_add] at q1 q2
   refine ⟨O.set (some (.map (es.take j++{ key:=kav k,val:=v,born:=e.born }::es.drop (j+1)) clock)) mi,?_,⟨_,_,by rw [T.get_set,if_pos rfl],?_⟩,fun j hj=>by rw [T.get_set,if_neg hj]⟩
   · rw [q2]
     unfold jg
     show (match O.get mi with | some (.map es clock)=>_ | _=>_)=_
     rw [h1]
     simp only [q6,M.self]
     rfl
   · unfold zb7
     rw [q1]
     show _=List.map _ (l.set j (k,v))
     have hj:j<l.length:=(List.getElem?_eq_some_iff.1 q4).1
     rw [List.set_eq_take_append_cons_drop,if_pos hj,List.map_append,List.map_cons,List.map_append,List.map_cons,List.map_take,List.map_drop,h2,List.map_take,List.map_drop]
theorem MapIs.del {mt kt el:TypeId}{z:AV}(M:MpT mt kt el kav z){mi:Nat}{l:List (κ × AV)}(h:MapIs O mi kav l)(hn:(l.map (·.1)).Nodup)(k:κ)(u:Option TypeId)(N:Nat)(G:T (T AV)) :
 ∃ O',zd P ⟨O,N,G⟩ .delete (some mt) u [.mp mi,kav k]=some (.val (.tup []) ⟨O',N,G⟩)∧MapIs O' mi kav (l.filter fun p=>!(p.1==k))∧Frm O O' mi:=by
 obtain ⟨es,clock,h1,h2⟩:=h
 have hd:zd P ⟨O,N,G⟩ .delete (some mt) u [.mp mi,kav k]=zb6 (match wC (eqA P ⟨O,N,G⟩ 9 kt) (kav k) es 0 with | none=>none | some r=>wB ⟨O,N,G⟩ mi r):=by
  show zbC P ⟨O,N,G⟩ mt [.mp mi,kav k]=_
  unfold zbC
  show zb6 (zbl P ⟨O,N,G⟩ mt (.mp mi) (kav k))=_
  unfold zbl
  rw [M.map]
  simp only [zfU M h1]
  cases wC (eqA P ⟨O,N,G⟩ 9 kt) (kav k) es 0 <;> rfl
 rw [hd]
 rcases zdt M ⟨O,N,G⟩ k es l 0 h2 with ⟨q1,q2,q3⟩ | ⟨j,e,p,q1,q2,q3,q4,q5,q6,q7,q8⟩
 · refine ⟨O,?_,⟨es,clock,h1,?_⟩,fun _ _=>rfl⟩
   · rw [q2]
     unfold wB
     show zb6 (match O.get mi with | some (.map es clock)=>_ | _=>_)=_
     rw [h1]
     rfl
   · rw [h2,List.filter_eq_self.2 fun p hp=>by simp [q3 p hp]]
 · rw [Nat.zero_add] at q2
   have hj:j<l.length:=(List.getElem?_eq_some_iff.1 q4).1
   have hsp:l=l.take j++p::l.drop (j+1):=by
    have:l.drop j=p::l.drop (j+1):=by rw [List.drop_eq_getElem_cons hj,(List.getElem?_eq_some_iff.1 q4).2]
    rw [← this,List.take_append_drop]
   have hrest:∀ q∈l.drop (j+1),q.1≠k:=fun q hq hqk=>by
    rw [hsp,List.map_append,List.map_cons,List.nodup_append,List.nodup_cons] at hn
    exact hn.2.1.1 (by rw [q5,← hqk]; exact List.mem_map_of_mem hq)
   refine ⟨O.set (some (.map (es.take j++es.drop (j+1)) clock)) mi,?_,⟨_,_,by rw [T.get_set,if_pos rfl],?_⟩,fun j hj=>by rw [T.get_set,if_neg hj]⟩
   · rw [q2]
     unfold wB
     show zb6 (match O.get mi with | some (.map es clock)=>_ | _=>_)=_
     rw [h1]
     rfl
   · have hf:(l.filter fun p=>!(p.1==k))=l.take j++l.drop (j+1):=by
      conv=>lhs; rw [hsp]
      rw [List.filter_append,List.filter_cons,if_neg (by simp [q5]),List.filter_eq_self.2 fun q hq=>by simp [q8 q hq],List.filter_eq_self.2 fun q hq=>by simp [hrest q hq]]
     rw [hf,List.map_append,List.map_append,List.map_take,List.map_drop,h2,List.map_take,List.map_drop]
theorem MapIs.len {mt kt el:TypeId}{z:AV}(M:MpT mt kt el kav z){mi:Nat}{l:List (κ × AV)}(h:MapIs O mi kav l)(hu:∃ a b,P.underlying mt=some (.map a b))(N:Nat)(G:T (T AV)):xK P ⟨O,N,G⟩ .len (some mt) [.mp mi]=some (.int .i64 ((l.length:Nat):Int)):=by
 obtain ⟨es,clock,h1,h2⟩:=h
 obtain ⟨a,b,hu⟩:=hu
 have hl:=congrArg List.length h2
 rw [List.length_map,List.length_map] at hl
 show zmZ P ⟨O,N,G⟩ mt (.mp mi)=_
 unfold zmZ znh
 rw [hu]
 have:ziV ⟨O,N,G⟩ (.mp mi)=some l.length:=by
  show zdT (O.get mi)=_
  rw [h1,← hl]
  rfl
 simp only [this]
end
end Go.Proofs.Ytehelionjafnkaa.gx
end
