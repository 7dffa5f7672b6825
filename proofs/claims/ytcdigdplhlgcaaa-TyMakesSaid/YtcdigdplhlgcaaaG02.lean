import Derived.Laws.IdiomStrings
import Derived.Laws.Externs
import Derived.Lib.Bytealg
import Derived.Lib.MakeNoZero
import Derived.Lib.UnsafeStr
import Derived.Orders
import Derived.Calls
import Derived.Test.YtcdigdplhlgcaaaG00
import Derived.Test.YtcdigdplhlgcaaaG01
section
namespace Go.Proofs.Ytcdigdplhlgcaaa.Ev
open Go
section
variable {P:Program} {B:Base} {R:Bij} {h:AHeap} {w:World}
theorem zz {v:Option AV}{r:AR}(e:yp h v=some r):∃ x,v=some x∧r=.val x h:=by
 unfold yp at e;split at e
 ·cases e
 ·cases e; exact ⟨_,rfl,rfl⟩
theorem zP {v:Option (AV × AHeap)}{r:AR}(e:wk v=some r):∃ x h',v=some (x,h')∧r=.val x h':=by
 unfold wk at e;split at e
 ·cases e
 ·cases e; exact ⟨_,_,rfl,rfl⟩
theorem wy {v:Option AHeap}{r:AR}(e:zcE v=some r):∃ h',v=some h'∧r=.skip h':=by
 unfold zcE at e;split at e
 ·cases e
 ·cases e; exact ⟨_,rfl,rfl⟩
theorem zba {v:Option AHeap}{r:AR}(e:zdA v=some r):∃ h',v=some h'∧r=.val (.tup []) h':=by
 unfold zdA at e;split at e
 ·cases e
 ·cases e; exact ⟨_,rfl,rfl⟩
theorem zm {ρ:Operand→Option AV}{x:Operand}{f:AV→Option AR}{r:AR}(e:y8 ρ x f=some r):∃ a,ρ x=some a∧f a=some r:=by
 unfold y8 at e;split at e
 ·cases e
 ·exact ⟨_,by assumption,e⟩
theorem xm {ρ:Operand→Option AV}{x y:Operand}{f:AV→AV→Option AR}{r:AR}(e:two ρ x y f=some r):∃ a b,ρ x=some a∧ρ y=some b∧f a b=some r:=by
 unfold two at e;split at e
 ·cases e
 ·split at e
  ·cases e
  ·exact ⟨_,_,by assumption,by assumption,e⟩
theorem zaR {l:List AV}{x:AV}(e:zrn l=some x):l=[x]:=by
 unfold zrn at e;split at e
 ·cases e; rfl
 ·cases e
theorem zaY {l:List AV}{x y:AV}(e:zoe l=some (x,y)):l=[x,y]:=by
 unfold zoe at e;split at e
 ·cases e; rfl
 ·cases e
theorem xe {s:Sem Value}{v:AV}{h':AHeap}(e:Made P B R w s v h'):OpRel P B R w (do pure (.value (← s))) (.val v h'):=by
 obtain ⟨R',v',w',e1,e2,e3,e4⟩:=e;exact ⟨R',v',w',by simp [e1],e2,e3,e4⟩
theorem vr {s:Sem Unit}{h':AHeap}(e:∃ w',s.run P w=.ok () w'∧HRel P B R h' w'∧Keeps R w R w'):OpRel P B R w (do s; pure .skip) (.skip h'):=by
 obtain ⟨w',e1,e2,e3⟩:=e;exact ⟨R,w',by simp [e1],e2,e3⟩
theorem zc0 {s:Sem Value}{h':AHeap}(e:∃ w',s.run P w=.ok (.tuple #[]) w'∧HRel P B R h' w'∧Keeps R w R w'):OpRel P B R w (do pure (.value (← s))) (.val (.tup []) h'):=by
 obtain ⟨w',e1,e2,e3⟩:=e;exact ⟨R,.tuple #[],w',by simp [e1],⟨[],rfl,rfl⟩,e2,e3⟩
theorem OpRel.congr {s s':Sem Next}{r:AR}(k:OpRel P B R w s' r)(e:s.run P w=s'.run P w):OpRel P B R w s r:=by
 cases r <;> simpa only [OpRel,e] using k
theorem za1 {ρ:Operand→Option AV}{ρ':Operand→Value}(hρ:∀ x v,ρ x=some v→VRel R v (ρ' x)){l:List Operand}{r:List AV}(e:qD ρ l=some r):VRels R r (l.map ρ') :=
 .of_mapO e fun x v hv=>hρ x v hv
theorem zy {fn : Func}{n : String}{e : Array Value → Sem Value}(hn : fn.name = n)(ho : fn.origin = "")(h1 : Extern.allGenericRows.lookup n = none)(h2 : Extern.allTypedRows.lookup n = none)(h3 : Extern.allRows.lookup n = some e)
 (h4 : Extern.allNextRows.lookup n = none) (h5 : Extern.allNextRows.lookup "" = none) : Extern.find fn = some e ∧ Extern.findNext fn = none := by
 constructor
 ·unfold Extern.find;simp only [hn,h1,h2,h3];rfl
 ·unfold Extern.findNext;simp only [hn,ho,h4,h5];rfl
theorem zjA {fn : Func}{n : String}{e : Array TypeId → Array TypeId → Array Value → Sem Value}(hn : fn.name = n)(ho : fn.origin = "")(h1 : Extern.allGenericRows.lookup n = none)(h2 : Extern.allTypedRows.lookup n = some e)
 (h4 : Extern.allNextRows.lookup n = none) (h5 : Extern.allNextRows.lookup "" = none) : Extern.find fn = some (e fn.params fn.resultTypes) ∧ Extern.findNext fn = none := by
 constructor
 ·unfold Extern.find;simp only [hn,h1,h2];rfl
 ·unfold Extern.findNext;simp only [hn,ho,h4,h5];rfl
theorem zjE (q:Question)(w:World):∃ n w',(choose q).run P w=.ok n w'∧w'.heap=w.heap∧w'.os=w.os∧w'.tape=w.tape∧w'.output=w.output∧w.drawn≤w'.drawn:=by
 rw [run_choose];split
 ·exact ⟨_,_,rfl,rfl,rfl,rfl,rfl,Nat.le_refl _⟩
 ·exact ⟨_,_,rfl,rfl,rfl,rfl,rfl,Nat.le_succ _⟩
theorem zcy (ps rs:Array TypeId)(n:Int):Extern.BytealgMakeNoZero.makeNoZero ps rs #[.int .i64 n] =
 (do
  let some t := rs[0]? | stuck "bytealg.MakeNoZero: no result type"
  let .slice elem ← underlying t | stuck "bytealg.MakeNoZero: slice type expected"
  if n < 0 || n > 2 ^ 48 then runtimePanic (.error "makeslice: len out of range")
  let cap ← choose (.appendCap n.toNat 0 elem)
  askRoom cap
  let bytes ← choose (.extern "internal/bytealg.MakeNoZero.bytes" 0)
  let a ← newRow elem (Extern.BytealgMakeNoZero.digits cap bytes #[])
  pure (.slice (some a) n.toNat cap)):=rfl
theorem zay (k:HRel P B R h w)(hB:B.n≤w.heap.size){t el:TypeId}{ps rs:Array TypeId}{n:Int}(ht:rs[0]?=some t)(hu:P.underlying t=some (.slice el))(h0:0≤n)(h1:n<2 ^ 40)(hc:P.cellsOf el=1) :
 Made P B R w (Extern.BytealgMakeNoZero.makeNoZero ps rs #[.int .i64 n]) (.slg h.next 0 0 n.toNat 0) (h.new (.cells .leaf n.toNat el 0 0 1 0 false .leaf)):=by
 have hf:(Question.appendCap n.toNat 0 el).forced=false:=rfl;have hcap:n.toNat≤(Question.appendCap n.toNat 0 el).cut (w.tape w.drawn (Question.appendCap n.toNat 0 el)):=by simp only [Question.cut]; omega
 have hcb:(Question.appendCap n.toNat 0 el).cut (w.tape w.drawn (Question.appendCap n.toNat 0 el))≤9223372036854775807:=by
  simp only [Question.cut];have:=Nat.mod_lt (w.tape w.drawn (Question.appendCap n.toNat 0 el)) (show 2 ^ 63 - n.toNat > 0 by omega);omega
 generalize hg:(Question.appendCap n.toNat 0 el).cut (w.tape w.drawn (Question.appendCap n.toNat 0 el))=cap at hcap hcb;obtain ⟨bs, w2, c1, c2, c3, c4, c5, c6⟩ := zjE (P := P) (.extern "internal/bytealg.MakeNoZero.bytes" 0) w.drew;have hsz:(Extern.BytealgMakeNoZero.digits cap bs #[]).size=cap:=by rw [Lib.size_digits]; simp
 have hneg:¬ n<0:=by omega
 have hbig:¬ n > 2 ^ 48:=by omega
 have hfree:=k.fresh h.next (Nat.le_refl _);have hheap:w2.heap=w.heap:=c2;have hn:=k.new hB (.cells .leaf n.toNat el 0 0 1 0 false .leaf) (.cells (Extern.BytealgMakeNoZero.digits cap bs #[]) el) ⟨w.heap.size,0,cap⟩ (w':=w2.alloc (.cells (Extern.BytealgMakeNoZero.digits cap bs #[]) el)) rfl
  (by show w2.heap.push _=_; rw [hheap]) c3 c4 c5 ?_ (hdr:=Nat.le_trans (Nat.le_succ _) c6)
 ·refine ⟨_,.slice (some ⟨w.heap.size,0,none⟩) n.toNat cap,_,?_,zgl R hcap,hn.1,hn.2⟩;rw [zcy];have hcr:(choose (.appendCap n.toNat 0 el)).run P w=.ok cap w.drew:=by simp only [run_choose,hf,Bool.false_eq_true,if_false,World.drew_eq,hg]
  simp only [ht,Sem.run_bind,za w hu,Result.andThen_ok,hneg,hbig,decide_false,Bool.or_self,Bool.false_eq_true,if_false,Sem.run_pure,hcr,run_askRoom,c1,newRow,run_newObj,World.alloc_eq,hheap]
 ·refine ⟨Nat.le_refl _,by omega,fun r hr'=>?_,fun r e h1 h2 h3=>?_,fun r e h1 h2 h3=>?_⟩;rotate_left 2
  ·obtain rfl:r=0:=by omega
   simp [zG] at h3; omega
  ·rw [R.upd_other _ (by omega)]; exact hfree r
  ·obtain rfl:r=0:=by omega
   simp [zG] at h3; subst h3;refine ⟨_,R.upd_same _ _ _,_,0,0,?_,by rw [hsz]; exact hcap,by rw [hc,hsz]; exact ⟨(by show cap*1=cap+0; omega),Nat.dvd_zero _⟩,⟨⟨Nat.le_refl _,fun _=>Nat.le_trans hcb (Nat.le_add_left _ _)⟩,fun j a b=>by omega⟩,fun j x a _ c=>?_⟩
   ·show (w2.heap.push _)[w.heap.size]?=_;rw [hheap]; simp
   ·cases c
theorem zi5 (t:TypeId)(v:Value):Extern.ReflectliteType.typeOf #[.iface t v]=Extern.ReflectliteType.toType t:=rfl
theorem zjF (f:TypeId→Sem Value)(x:Value):Extern.ReflectliteType.method f #[x]=(do f (← Extern.ReflectliteType.ofRtype x)):=rfl
theorem zha (h:Value):Extern.ReflectliteType.ofRtype (.agg #[h])=(do
 let t ← Extern.Rtype.ofHandle h
 Extern.Rtype.noPack "a Type asked or handed on" t
 pure t):=rfl
theorem ziT {t r:TypeId}{v:Value}(hr:zgw P=some r)(w:World):(Extern.ReflectliteType.typeOf #[.iface t v]).run P w=.ok (.iface r (.agg #[.pointer (some ⟨P.globals.size,t,none⟩)])) w:=by
 unfold zgw at hr;split at hr
 ·cases hr
 ·rename_i c hc;cases hr;simp only [zi5,Extern.ReflectliteType.toType,cutType,Extern.Rtype.handle,typeHandle,Sem.run_bind,run_program,Result.andThen_ok,hc,Sem.run_pure]
theorem zcD {t:TypeId}{i:TypeInfo}(h1:P.packed t=false)(h2:P.holdsPacked P.depth t=false)(hi:P.info? t=some i)(w:World) :
 ((Extern.ReflectliteType.method fun t => do Extern.Rtype.noPackHeld "Comparable" t; pure (.bool (← typeInfo t).comparable)) #[.agg #[.pointer (some ⟨P.globals.size, t, none⟩)]]).run P w = .ok (.bool i.comparable) w := by
 simp only [zjF,zha,Extern.Rtype.ofHandle,handleType,Extern.Rtype.noPack,Extern.Rtype.noPackHeld,Sem.run_bind,run_program,Result.andThen_ok,BEq.rfl,if_true,h1,h2,Bool.false_eq_true,if_false,Sem.run_pure,zA w hi]
theorem qM (k:HRel P B R h w){x:AV}{x':Value}{kd:IntKind}{n:Int}(hx:VRel R x x')(e:zjG h x=some (kd,n)) :
 ∃ a,x'=.pointer (some a)∧w.cell? a=some (.int kd n)∧(∃ cs el fz,w.heap[a.block]?=some (.cells cs el fz)):=by
 unfold zjG at e;split at e
 ·rename_i i r off;obtain ⟨L,hL,hm,rfl⟩:=hx;unfold zpi at e;split at e
  ·rename_i l hl;split at e
   ·rename_i v;unfold ztT at e;split at e
    ·cases e;refine ⟨_,rfl,?_⟩;unfold zb at hl;split at hl
     ·rename_i c m el lo hi nv fz sg ex ho;split at hl
      ·cases hl
      ·rename_i e' he;split at hl
       ·rename_i hc;obtain ⟨L',hL',cs,a,b,v1,_,_,_,v5⟩:=k.ver hL ho hc.1 hc.2.1 he;rw [hL] at hL'; cases hL';have g:=(xg hl).2 0 _ rfl;obtain ⟨x,hx,hr⟩:=v5 off _ (by omega) hm (by simpa using g)
        cases hr;exact ⟨by rw [cell?_row _ _ _ v1]; exact hx,_,_,_,v1⟩
       ·cases hl
     ·rename_i c lo m ho;split at hl
      ·rename_i hc;obtain ⟨L',cs,el,fz,hL',q1,q2,q3,q4⟩:=k.obj' hL ho;rw [hc.1,hL'] at hL; cases hL;have g:=(xg hl).2 0 _ rfl;obtain ⟨x,hx,hr⟩:=q4 off _ hc.2.1 (by omega) (by simpa using g)
       cases hr;exact ⟨by rw [q1,Nat.sub_zero,cell?_row _ _ _ q2]; exact hx,_,_,_,q2⟩
      ·cases hl
     ·cases hl
    ·cases e
   ·cases e
  ·cases e
 ·cases e
theorem kl (k:HRel P B R h w){x:AV}{a:Addr}{kd:IntKind}{n:Int}{h':AHeap}(hx:VRel R x (.pointer (some a)))(e:zq1 h x (.int kd n)=some h'){u:Value}(hc:w.cell? a=some u) :
 ∃ w',(store a (.int kd n) .atomic).run P w=.ok () w'∧w.frozen? a=false∧HRel P B R h' w'∧Keeps R w R w':=by
 unfold zq1 at e;split at e
 ·rename_i i r off;obtain ⟨L,hL,hm,hv⟩:=hx;cases hv;obtain ⟨w',s1,s2,s3⟩:=zu k e hL hm (.cons (y:=.int kd n) rfl .nil);have h1:=run_store P w ⟨L.block,off - L.minus,none⟩ (.int kd n) .plain rfl;have h2:=run_store P w ⟨L.block,off - L.minus,none⟩ (.int kd n) .atomic rfl;simp only [hc] at h1 h2;simp only [storeCells,add_plain,Nat.add_zero,Sem.run_bind,h1] at s1;split at s1
  ·cases s1
  ·rename_i hf;rw [if_neg hf] at h2;simp only [Result.andThen_ok,Sem.run_pure] at s1;cases s1;exact ⟨_,h2,by simpa using hf,s2,s3⟩
 ·cases e
theorem zk2 (t:Extern.Atomic.T)(x:Value):Extern.Atomic.loadT t #[x]=(do Extern.Atomic.read t (← asAddr x)):=rfl
theorem zjN (x v:Value):Extern.Atomic.storeT #[x,v]=(do
 store (← asAddr x) v .atomic
 pure Extern.Atomic.none_):=rfl
theorem znM (t:Extern.Atomic.T)(x o n:Value):Extern.Atomic.casT t #[x,o,n]=(do
 let a ← asAddr x
 if ← Extern.Atomic.touchesFrozen a then unsupported (.unsafePointer "a write to bytes that a string shares")
 let eq ← match t,← Extern.Atomic.read t a,o with
  | _,.int _ x,.int _ y=>pure (x==y)
  | .ptr,.pointer x,.pointer y=>samePointer x y
  | .int _,.pointer (some _),.int _ 0 | .int _,.int _ 0,.pointer (some _)=>pure false
  | .int _,.pointer (some _),_ | .int _,_,.pointer (some _)=>unsupported .addressObserved
  | _, _, _ => stuck "atomic.CompareAndSwap: old is no T"
 if eq then store a n .atomic
 pure (.bool eq)):=rfl
theorem zjr (op:IntKind→Int→Int→Sem Value)(k:IntKind)(r:Bool)(x y:Value):Extern.Atomic.update op k r #[x,y]=(do
 let a ← asAddr x
 let old ← Extern.Atomic.read (.int k) a
 let new ← op k (← asInt old) (← asInt y)
 store a new .atomic
 pure (if r then new else old)):=rfl
theorem zdU {kd:IntKind}{n:Int}{a:Addr}(hc:w.cell? a=some (.int kd n)):(Extern.Atomic.read (.int kd) a).run P w=.ok (.int kd n) w:=by
 simp only [Extern.Atomic.read,Sem.run_bind,run_load,hc,Result.andThen_ok,if_true,Sem.run_pure]
theorem zge {a:Addr}(hb:∃ cs el fz,w.heap[a.block]?=some (.cells cs el fz))(hf:w.frozen? a=false):(Extern.Atomic.touchesFrozen a).run P w=.ok false w:=by
 obtain ⟨cs,el,fz,hb⟩:=hb;simp only [Extern.Atomic.touchesFrozen,viewAt,Sem.run_bind,run_shape,Result.andThen_ok,World.shape?,hb,Option.isSome_some,if_true,Sem.run_pure,run_frozen,hf]
theorem zmg (k : HRel P B R h w){fn : Func}{f : FuncId}{args : List AV}{args' : List Value}{r : AR}{m : Addr → Mark}(hf : P.funcs[f]? = some fn)(hbn : fn.body.isNone = true)(hnm : (fn.name == "runtime.NumGoroutine") = false)
 (g1:Extern.find fn=some (Extern.Race.marked m)) (g2:Extern.findNext fn=none) (ha:VRels R args args') (e:wp h args=some r):OpRel P B R w (callFunc f args'.toArray) r:=by
 unfold wp at e;split at e
 ·cases e;obtain ⟨x',ys,rfl,hx,hys⟩:=ha;cases hys;obtain ⟨L,_,_,rfl⟩:=hx;refine ⟨R,Extern.Race.none_,w,?_,⟨[],rfl,rfl⟩,k,Keeps.refl _ _⟩;rw [run_callFunc_extern hf hnm hbn g2 g1];rfl
 ·cases e
theorem zsq (k : HRel P B R h w){fn : Func}{f : FuncId}{args : List AV}{args' : List Value}{r : AR}{m : Mark}(hf : P.funcs[f]? = some fn)(hbn : fn.body.isNone = true)(hnm : (fn.name == "runtime.NumGoroutine") = false)
 (g1:Extern.find fn=some (fun _=>do mark m; pure Extern.Race.none_)) (g2:Extern.findNext fn=none) (ha:VRels R args args') (e:zbX h args=some r):OpRel P B R w (callFunc f args'.toArray) r:=by
 unfold zbX at e;split at e
 ·cases e;cases ha;refine ⟨R,Extern.Race.none_,w,?_,⟨[],rfl,rfl⟩,k,Keeps.refl _ _⟩;rw [run_callFunc_extern hf hnm hbn g2 g1];rfl
 ·cases e
theorem zd8 (k : HRel P B R h w){fn : Func}{f : FuncId}{args : List AV}{args' : List Value}{r : AR}(hb : fn.body = none)(hf : P.funcs[f]? = some fn)(ho : fn.origin = "")
 (ha:VRels R args args') (e:zed h fn.name args=some r):OpRel P B R w (callFunc f args'.toArray) r:=by
 have hbn:fn.body.isNone=true:=by rw [hb]; rfl
 unfold zed at e;split at e
 ·rename_i hn;have hn:=eq_of_beq hn;obtain ⟨g1,g2⟩:=zy hn ho (by kernel_rfl) (by kernel_rfl) (show _=some (Extern.Atomic.loadT (.int .u32)) by kernel_rfl) (by kernel_rfl) (by kernel_rfl);unfold zgO at e;split at e
  ·rename_i x;obtain ⟨x',ys,rfl,hx,hys⟩:=ha;cases hys;split at e
   ·rename_i k' n hi;split at e
    ·rename_i hk;subst hk;cases e;obtain ⟨a,rfl,hc,_⟩:=qM k hx hi;refine ⟨R,.int .u32 n,w,?_,rfl,k,Keeps.refl _ _⟩;rw [run_callFunc_extern hf (by rw [hn]; decide) hbn g2 g1];simp only [zk2,asAddr,Sem.run_bind,Sem.run_pure,Result.andThen_ok,zdU hc]
    ·cases e
   ·cases e
  ·cases e
 ·split at e
  ·rename_i hn;have hn:=eq_of_beq hn;obtain ⟨g1,g2⟩:=zy hn ho (by kernel_rfl) (by kernel_rfl) (show _=some Extern.Atomic.storeT by kernel_rfl) (by kernel_rfl) (by kernel_rfl);unfold zdX at e;split at e
   ·rename_i x k' n;obtain ⟨x',ys,rfl,hx,y',zs,rfl,hy,hys⟩:=ha;cases hys; cases hy;split at e
    ·rename_i pr hi;obtain ⟨k1,n1⟩:=pr;split at e
     ·rename_i hk;subst hk;unfold zb1 at e;split at e
      ·cases e
      ·rename_i h2 hs;cases e;obtain ⟨a,rfl,hc,_⟩:=qM k hx hi;obtain ⟨w',s1,_,s3,s4⟩:=kl k hx hs hc;refine ⟨R,Extern.Atomic.none_,w',?_,⟨[],rfl,rfl⟩,s3,s4⟩;rw [run_callFunc_extern hf (by rw [hn]; decide) hbn g2 g1];simp only [zjN,asAddr,Sem.run_bind,Sem.run_pure,Result.andThen_ok,s1]
     ·cases e
    ·cases e
   ·cases e
  ·split at e
   ·rename_i hn;have hn:=eq_of_beq hn;obtain ⟨g1,g2⟩:=zy hn ho (by kernel_rfl) (by kernel_rfl) (show _=some (Extern.Atomic.casT (.int .i32)) by kernel_rfl) (by kernel_rfl) (by kernel_rfl);unfold zkS at e;split at e
    ·rename_i x ko o k' n;obtain ⟨x',ys,rfl,hx,y',zs,rfl,hy,z',us,rfl,hz,hys⟩:=ha;cases hys; cases hy; cases hz;split at e
     ·rename_i k1 m hi;split at e
      ·rename_i hk;obtain ⟨rfl,rfl,rfl⟩:=hk;unfold zb1 at e;split at e
       ·cases e
       ·rename_i h2 hs;cases e;obtain ⟨a,rfl,hc,hbk⟩:=qM k hx hi;obtain ⟨w',s1,s2,s3,s4⟩:=kl k hx hs hc;refine ⟨R,.bool true,w',?_,rfl,s3,s4⟩;rw [run_callFunc_extern hf (by rw [hn]; decide) hbn g2 g1];simp only [znM,asAddr,Sem.run_bind,Sem.run_pure,Result.andThen_ok,zge hbk s2,Bool.false_eq_true,if_false,zdU hc,BEq.rfl,if_true,s1]
      ·cases e
     ·cases e
    ·cases e
   ·split at e
    ·rename_i hn;have hn:=eq_of_beq hn;obtain ⟨g1,g2⟩:=zy hn ho (by kernel_rfl) (by kernel_rfl) (show _=some (Extern.Atomic.update (Op.intArith .add) .i32 true) by kernel_rfl) (by kernel_rfl) (by kernel_rfl);unfold zl2 at e;split at e
     ·rename_i x kd d;obtain ⟨x',ys,rfl,hx,y',zs,rfl,hy,hys⟩:=ha;cases hys; cases hy;split at e
      ·rename_i k1 m hi;split at e
       ·rename_i hk;subst hk;unfold zb1 at e;split at e
        ·cases e
        ·rename_i h2 hs;cases e;obtain ⟨a,rfl,hc,hbk⟩:=qM k hx hi;obtain ⟨w',s1,s2,s3,s4⟩:=kl k hx hs hc;refine ⟨R,.int .i32 (IntKind.i32.wrap (m+d)),w',?_,rfl,s3,s4⟩;rw [run_callFunc_extern hf (by rw [hn]; decide) hbn g2 g1];simp only [zjr,asAddr,asInt,asIntOf,Op.intArith,Sem.run_bind,Sem.run_pure,Result.andThen_ok,zdU hc,if_true,s1]
       ·cases e
      ·cases e
     ·cases e
    ·split at e
     ·rename_i hn;have hn:=eq_of_beq hn;obtain ⟨g1,g2⟩:=zy hn ho (by kernel_rfl) (by kernel_rfl) (show _=some (Extern.Race.marked .acquire) by kernel_rfl) (by kernel_rfl) (by kernel_rfl);exact zmg k hf hbn (by rw [hn]; decide) g1 g2 ha e
     ·split at e
      ·rename_i hn;have hn:=eq_of_beq hn;obtain ⟨g1,g2⟩:=zy hn ho (by kernel_rfl) (by kernel_rfl) (show _=some (Extern.Race.marked .releaseMerge) by kernel_rfl) (by kernel_rfl) (by kernel_rfl);exact zmg k hf hbn (by rw [hn]; decide) g1 g2 ha e
      ·split at e
       ·rename_i hn;have hn:=eq_of_beq hn;obtain ⟨g1,g2⟩:=zy hn ho (by kernel_rfl) (by kernel_rfl) (show _=some (fun _=>do mark .disable; pure Extern.Race.none_) by kernel_rfl) (by kernel_rfl) (by kernel_rfl)
        exact zsq k hf hbn (by rw [hn]; decide) g1 g2 ha e
       ·split at e
        ·rename_i hn;have hn:=eq_of_beq hn;obtain ⟨g1,g2⟩:=zy hn ho (by kernel_rfl) (by kernel_rfl) (show _=some (fun _=>do mark .enable; pure Extern.Race.none_) by kernel_rfl) (by kernel_rfl) (by kernel_rfl)
         exact zsq k hf hbn (by rw [hn]; decide) g1 g2 ha e
        ·cases e
theorem zdY (k:HRel P B R h w)(hB:B.n≤w.heap.size){fn:Func}{f:FuncId}{args:List AV}{args':List Value}{r:AR}(e:zdl P h fn args=some r)(hb:fn.body=none)(hf:P.funcs[f]?=some fn)
 (ha:VRels R args args'):OpRel P B R w (callFunc f args'.toArray) r:=by
 have hbn:fn.body.isNone=true:=by rw [hb]; rfl
 have strs:∀ {a:AV} {x:Value} {s:List UInt8},a=.str s→VRel R a x→x=.string ⟨s.toArray⟩:=fun h1 h2=>by subst h1; exact h2
 unfold zdl at e;split at e
 ·cases e
 ·rename_i ho;have ho:=eq_of_beq ho;split at e
  ·rename_i hn;have hn:=eq_of_beq hn;obtain ⟨g1,g2⟩:=zy hn ho (by kernel_rfl) (by kernel_rfl) (show _=some Extern.AbiNoEscape.same by kernel_rfl) (by kernel_rfl) (by kernel_rfl);unfold kc at e;split at e
   ·cases e;obtain ⟨x',ys,rfl,hx,hys⟩:=ha;cases hys;refine ⟨R,x',w,?_,hx,k,Keeps.refl _ _⟩;rw [run_callFunc_extern hf (by rw [hn]; decide) hbn g2 g1];rfl
   ·cases e
  ·split at e
   ·rename_i hn;have hn:=eq_of_beq hn;obtain ⟨g1,g2⟩:=zy hn ho (by kernel_rfl) (by kernel_rfl) (show _=some Extern.BytealgCompare.compare by kernel_rfl) (by kernel_rfl) (by kernel_rfl);unfold zlq at e;split at e
    ·rename_i a b;cases e;obtain ⟨x',ys,rfl,hx,y',zs,rfl,hy,hys⟩:=ha;cases hys; cases hx; cases hy;refine ⟨R,.int .i64 (Lib.compareBytes a b),w,?_,rfl,k,Keeps.refl _ _⟩;rw [run_callFunc_extern hf (by rw [hn]; decide) hbn g2 g1];show (((Extern.BytealgCompare.compare #[.string ⟨a.toArray⟩,.string ⟨b.toArray⟩]).run P w).andThen _)=_;rw [Lib.run_compareString];simp
    ·cases e
   ·split at e
    ·rename_i hn;have hn:=eq_of_beq hn;obtain ⟨g1,g2⟩:=zy hn ho (by kernel_rfl) (by kernel_rfl) (show _=some Extern.BytealgIndexByte.indexByte by kernel_rfl) (by kernel_rfl) (by kernel_rfl);unfold wZ at e;split at e
     ·rename_i s c;cases e;obtain ⟨x',ys,rfl,hx,y',zs,rfl,hy,hys⟩:=ha;cases hys; cases hx; cases hy;refine ⟨R,.int .i64 (Lib.indexByte s c.toNat.toUInt8),w,?_,rfl,k,Keeps.refl _ _⟩;rw [run_callFunc_extern hf (by rw [hn]; decide) hbn g2 g1];show (((Extern.BytealgIndexByte.indexByte #[.string ⟨s.toArray⟩,.int .u8 c]).run P w).andThen _)=_;rw [Lib.run_indexByteString];simp
     ·cases e
    ·split at e
     ·rename_i hn;have hn:=eq_of_beq hn;obtain ⟨g1,g2⟩:=zy hn ho (by kernel_rfl) (by kernel_rfl) (show _=some Extern.BytealgCount.count by kernel_rfl) (by kernel_rfl) (by kernel_rfl);unfold zea at e;split at e
      ·rename_i s c;cases e;obtain ⟨x',ys,rfl,hx,y',zs,rfl,hy,hys⟩:=ha;cases hys; cases hx; cases hy;refine ⟨R,.int .i64 (Lib.countByte s c.toNat.toUInt8),w,?_,rfl,k,Keeps.refl _ _⟩;rw [run_callFunc_extern hf (by rw [hn]; decide) hbn g2 g1];show (((Extern.BytealgCount.count #[.string ⟨s.toArray⟩,.int .u8 c]).run P w).andThen _)=_;rw [Lib.run_countString];simp
      ·cases e
     ·split at e
      ·rename_i hn;have hn:=eq_of_beq hn;obtain ⟨g1,g2⟩:=zjA hn ho (by kernel_rfl) (show _=some Extern.BytealgMakeNoZero.makeNoZero by kernel_rfl) (by kernel_rfl) (by kernel_rfl);unfold qT at e;split at e
       ·cases e
       ·rename_i t ht;split at e
        ·rename_i el hu;split at e
         ·rename_i n;split at e
          ·rename_i hc;cases e;obtain ⟨x',ys,rfl,hx,hys⟩:=ha;cases hys; cases hx;obtain ⟨R',v',w',q1,q2,q3,q4⟩:=zay (ps:=fn.params) k hB ht hu hc.1 hc.2.1 hc.2.2;refine ⟨R',v',w',?_,q2,q3,q4⟩;rw [run_callFunc_extern hf (by rw [hn]; decide) hbn g2 g1];show (((Extern.BytealgMakeNoZero.makeNoZero fn.params fn.resultTypes #[.int .i64 n]).run P w).andThen _)=_;rw [q1];simp
          ·cases e
         ·cases e
        ·cases e
      ·split at e
       ·rename_i hn;have hn:=eq_of_beq hn;obtain ⟨g1,g2⟩:=zy hn ho (by kernel_rfl) (by kernel_rfl) (show _=some Extern.ReflectliteType.typeOf by kernel_rfl) (by kernel_rfl) (by kernel_rfl);unfold zbu at e;split at e
        ·rename_i t v;split at e
         ·cases e
         ·rename_i r hr;cases e;obtain ⟨x',ys,rfl,hx,hys⟩:=ha;cases hys;obtain ⟨y,rfl,_⟩:=hx;refine ⟨R,.iface r (.agg #[.pointer (some ⟨P.globals.size,t,none⟩)]),w,?_,⟨_,rfl,[.pointer (some ⟨P.globals.size,t,none⟩)],rfl,_,_,rfl,rfl,rfl⟩,k,Keeps.refl _ _⟩;rw [run_callFunc_extern hf (by rw [hn]; decide) hbn g2 g1];show (((Extern.ReflectliteType.typeOf #[.iface t y]).run P w).andThen _)=_;rw [ziT hr];simp
        ·cases e
       ·split at e
        ·rename_i hn;have hn:=eq_of_beq hn;obtain ⟨g1, g2⟩ := zy hn ho (by kernel_rfl) (by kernel_rfl) (show _ = some (Extern.ReflectliteType.method fun t => do Extern.Rtype.noPackHeld "Comparable" t; pure (.bool (← typeInfo t).comparable)) by kernel_rfl) (by kernel_rfl) (by kernel_rfl)
         unfold qX at e;split at e
         ·rename_i g t;split at e
          ·rename_i hc;obtain ⟨rfl,c1,c2⟩:=hc;split at e
           ·cases e
           ·rename_i inf hi;cases e;obtain ⟨x',ys,rfl,hx,hys⟩:=ha;cases hys;obtain ⟨l,rfl,y,zs,rfl,hy,hz⟩:=hx;cases hz;cases hy;refine ⟨R,.bool inf.comparable,w,?_,rfl,k,Keeps.refl _ _⟩;rw [run_callFunc_extern hf (by rw [hn]; decide) hbn g2 g1];show (((Extern.ReflectliteType.method (fun t => do Extern.Rtype.noPackHeld "Comparable" t; pure (.bool (← typeInfo t).comparable)) #[.agg #[.pointer (some ⟨P.globals.size, t, none⟩)]]).run P w).andThen _) = _
            rw [zcD c1 c2 hi];simp
          ·cases e
         ·cases e
        ·exact zd8 k hb hf ho ha e
theorem zcf (k:HRel P B R h w)(hB:B.n≤w.heap.size){f:FuncId}{args:List AV}{args':List Value}{r:AR}(e:zjg P h f args=some r)(ha:VRels R args args'):OpRel P B R w (callFunc f args'.toArray) r:=by
 unfold zjg at e;split at e
 ·cases e
 ·rename_i fn hfn;split at e
  ·rename_i c hc;split at e
   ·cases e
   ·rename_i hn;cases e;refine ⟨args',?_,ha,k⟩;simp only [callFunc,Sem.run_bind,run_program,Result.andThen_ok,hfn,hn,Bool.false_eq_true,if_false,hc,Option.isNone_some,Sem.run_pure]
  ·rename_i hc;exact zdY k hB e hc hfn ha
theorem xB (k:HRel P B R h w)(hB:B.n≤w.heap.size){x:AV}{x':Value}{name:String}{args:List AV}{args':List Value}{r:AR}(e:xK P h x name args=some r)(hx:VRel R x x')(ha:VRels R args args') :
 OpRel P B R w (callMethod x' name args'.toArray) r:=by
 unfold xK at e;split at e
 ·rename_i t v;split at e
  ·cases e
  ·rename_i f rc hm;obtain ⟨v',rfl,hv⟩:=hx;obtain ⟨r',e1,e2⟩:=zdP k hm hv (P.types.size+Made.depth - 1);refine (zcf k hB e (.cons e2 ha)).congr ?_;have hd:P.types.size+Made.depth - 1+1=P.types.size+Made.depth:=by
    have:0<Made.depth:=by decide
    omega
   rw [hd] at e1;simp only [callMethod,Sem.run_bind,run_program,Result.andThen_ok,e1];congr 2;simp
 ·cases e
theorem wU (k:HRel P B R h w)(hB:B.n≤w.heap.size){f:Fn}{args cap:List AV}{args' cap':List Value}{r:AR}(e:wx P h f args cap=some r)(ha:VRels R args args')(hc:VRels R cap cap') :
 OpRel P B R w (invoke (.fn f cap'.toArray) args'.toArray) r:=by
 unfold wx at e;split at e
 ·refine (zcf k hB e (ha.append hc)).congr ?_;simp [invoke]
 ·split at e
  ·cases e
  ·obtain ⟨x',r',rfl,hx,hr⟩:=ha;refine (xB k hB e hx hr).congr ?_;simp [invoke]
 ·split at e
  ·cases e
  ·split at e
   ·cases e
   ·rename_i y hy;obtain ⟨x',r',rfl,hx,hr⟩:=ha;unfold zh5 at hy;split at hy
    ·cases hy
    ·rename_i u hu;split at hy
     ·cases hy;refine (xB k hB e hx hr).congr ?_;simp [invoke,za w hu]
     ·rename_i hni;cases hy;refine (xB k hB e ⟨x',rfl,hx⟩ hr).congr ?_;simp only [invoke,List.getElem?_toArray,List.getElem?_cons_zero,Sem.run_bind,za w hu,Result.andThen_ok];cases u <;> first
       | exact absurd rfl (hni _)
       | simp
 ·cases e
theorem zbB (k:HRel P B R h w)(hB:B.n≤w.heap.size){f:AV}{f':Value}{args:List AV}{args':List Value}{r:AR}(e:zlx P h f args=some r)(hf:VRel R f f')(ha:VRels R args args') :
 OpRel P B R w (do let d ← Deferred.ofValue f' args'.toArray; invoke d.target d.args) r:=by
 unfold zlx at e;split at e
 ·obtain ⟨hn,fs,cs,rfl,h1,h2⟩:=hf;refine (wU k hB e (h1.append ha) h2).congr ?_;simp [Deferred.ofValue]
 ·cases e;obtain ⟨L,hL,rfl⟩:=hf;refine ⟨L,args',hL,ha,?_⟩;simp [Deferred.ofValue,invoke]
 ·cases e
theorem zcB (k:HRel P B R h w){b:Builtin}{ats:Array TypeId}{ty:TypeId}{cs:Array Bool}{args:List AV}{args':List Value}{v:AV}(e:zL P h b ats[0]? args=some v)(ha:VRels R args args') :
 OpRel P B R w (builtin b ats ty cs args'.toArray) (.val v h):=by
 unfold zL at e;split at e
 ·split at e
  ·cases e
  ·rename_i t ht;split at e
   ·cases e
   ·rename_i x hx;obtain rfl:=zaR hx;obtain ⟨x',ys,rfl,hx',hr⟩:=ha;cases hr;unfold lenE at e;split at e
    ·cases e
    ·rename_i n hn;cases e;exact zt k ⟨_,zjT k hn hx' ht (by simp),rfl⟩
 ·split at e
  ·cases e
  ·rename_i t ht;split at e
   ·cases e
   ·rename_i x hx;obtain rfl:=zaR hx;obtain ⟨x',ys,rfl,hx',hr⟩:=ha;cases hr;exact zt k (zjB w e hx' ht)
 ·have:=zbY (P:=P) (ats:=ats) (ty:=ty) w e ha;simp only [if_true] at this;exact zt k this
 ·have:=zbY (P:=P) (ats:=ats) (ty:=ty) w e ha;simp only [Bool.false_eq_true,if_false] at this;exact zt k this
 ·split at e
  ·cases e
  ·rename_i x hx;obtain rfl:=zaR hx;obtain ⟨x',ys,rfl,hx',hr⟩:=ha;cases hr;exact zt k (zbe w e hx')
 ·cases e
theorem je {b:Nat}:∀ {l:List AV} {s:List UInt8} (o:Nat) (acc:ByteArray),vN l=some s→(∀ (j:Nat) v,l[j]?=some v→∃ y,w.cell? ⟨b,o+j,none⟩=some y∧VRel R v y) →
 (loadBytes ⟨b,o,none⟩ acc l.length).run P w=.ok ⟨acc.data++s.toArray⟩ w
 | [],s,o,acc,e,_=>by
  simp [vN,zef] at e;subst e;simp [loadBytes]
 | v::l,s,o,acc,e,h=>by
  simp only [vN,kQ] at e;cases hb:zcq v with
  | none=>simp [hb] at e
  | some b' =>
   rw [hb] at e;cases hl:qD zcq l with
   | none=>simp [hl] at e
   | some s' =>
    rw [hl] at e; simp at e; subst e;obtain ⟨y,hy,hyr⟩:=h 0 v rfl;obtain ⟨n,rfl,rfl⟩:=zfR hb hyr;rw [Nat.add_zero] at hy;have ih:=je (b:=b) (l:=l) (s:=s') (o+1) (acc.push (UInt8.ofNat n.toNat)) hl (fun j x hj=>by
     have:=h (j+1) x (by simpa using hj)
     rwa [show o+(j+1)=o+1+j by omega] at this)
    have hx:n.toNat.toUInt8=UInt8.ofNat n.toNat:=rfl;simp only [List.length_cons,loadBytes,Sem.run_bind,run_load,hy,Result.andThen,add_plain,hx];rw [ih];congr 1;apply ByteArray.ext;simp [ByteArray.push]
theorem zds {b n:Nat}{cs:Array Value}{el:TypeId}{f0 f1:Nat}(g:w.heap[b]?=some (.cells cs el (f0,f1)))(hn:0<n) :
 w.freeze ⟨b,0,none⟩ n=xP w b cs el (if f0==f1 then (0,n) else (min f0 0,max f1 n)):=by
 unfold World.freeze xP;rw [if_neg (by omega)];congr 1;apply Array.ext_getElem?;intro j;rw [Array.getElem?_modify,Array.getElem?_setIfInBounds];have hb:=xJ g
 by_cases hj:b=j
 ·subst hj;simp only [if_true,g,Option.map_some,hb,Nat.zero_add]
 ·simp only [hj,if_false]
theorem zfa (k:HRel P B R h w){i r n m:Nat}{c:T AV}{el:TypeId}{lo hi nv fz:Nat}{ex:T Nat}{L:Loc}(hL:R i r=some L)(ho:h.get i=some (.cells c m el lo hi nv fz false ex))(hm:L.minus=0)
 {cs:Array Value} {f0 f1:Nat} (g1:w.heap[L.block]?=some (.cells cs el (f0,f1))) (hf:f0≤f1) (hn:0<n) :
 HRel P B R (h.put i (.cells c m el lo hi nv (max fz n) false ex)) (w.freeze ⟨L.block,0,none⟩ n)∧Keeps R w R (w.freeze ⟨L.block,0,none⟩ n):=by
 have hi':i<h.next:=by
  rcases Nat.lt_or_ge i h.next with h1 | h1
  ·exact h1
  ·rw [k.fresh i h1] at hL; cases hL
 have hlt:=xJ g1;obtain ⟨o1,o2,o3,o4,o5⟩:=k.obj' hL ho;rw [zds g1 hn];obtain ⟨f0',f1',hff,hle,hin⟩:∃ f0' f1',(if f0==f1 then (0,n) else (min f0 0,max f1 n))=(f0',f1')∧f0'≤f1'∧∀ j,j<f1'→j<n∨(f0<f1∧j<f1):=by
  by_cases he:f0=f1
  ·exact ⟨0,n,by simp [he],by omega,fun j hj=>.inl hj⟩
  ·refine ⟨min f0 0,max f1 n,by simp [he],by omega,fun j hj=>?_⟩;rcases Nat.lt_or_ge j n with h1 | h1
   ·exact .inl h1
   ·exact .inr ⟨by omega,by omega⟩
 rw [hff];refine ⟨k.touch i _ (k.live hL) R.le_refl (by rw [qe]; exact Nat.le_refl _) (by rw [qe]; exact hi') (fun j=>zeh h i j _) (fun _ _ _=>rfl) (fun j r' M hj e=>zF w _ _ _ (fun hb=>hj (k.apart _ _ _ _ _ _ e hL hb (.inr (k.notRo ho rfl))))) ?_
  (by rw [xk]; exact Nat.le_refl _) (fun r' M e=>⟨(k.place i r' M e).1,by rw [xk]; exact (k.place i r' M e).2,fun j r'' M' hj e' hb=>hj (k.apart _ _ _ _ _ _ e' e hb (.inr (k.notRo ho rfl)))⟩) (k.same i) (zaT _ _ _) (fun b hb=>zF w _ _ _ (k.off hL (k.notRo ho rfl) hb)) (k.notRo ho rfl),?_⟩
 ·refine ⟨o1,o2,o3,fun r' e' a1 a2 a3=>?_,o5⟩;obtain ⟨M,hM,hv⟩:=o4 r' e' a1 a2 a3;refine ⟨M,hM,?_⟩
  by_cases hb:M.block=L.block
  ·obtain ⟨cs2,q0,q1,q2,q3,q4,q5,q6⟩:=hv;rw [hb,g1] at q2;cases q2;have hmin:=k.same i r' r M L hM hL hb;refine ⟨cs,f0',f1',by rw [hb]; exact qG w _ _ _ _ hlt,q3,q4,⟨⟨hle,q5.1.2⟩,fun j a b=>.inl ?_⟩,q6⟩;rw [hmin,hm];rcases hin j b with h1 | ⟨h1,h2⟩
   ·have:=Nat.le_max_right fz n; omega
   ·have h3:=q5.2 (f1 - 1) (by omega) (by omega);rw [hmin,hm] at h3;rcases h3 with h3 | h3
    ·have:=Nat.le_max_left fz n; omega
    ·exact absurd h3.1 (by simp)
  ·obtain ⟨cs2,q0,q1,q2,q3,q4,q5,q6⟩:=hv.mono (w':=xP w L.block cs el (f0',f1')) R.le_refl (zF w _ _ _ hb);exact ⟨cs2,q0,q1,q2,q3,q4,⟨q5.1,fun j a b=>(q5.2 j a b).imp (fun h=>Nat.lt_of_lt_of_le h (Nat.le_max_left _ _)) id⟩,q6⟩
 ·exact ⟨rfl,rfl,rfl,by rw [xk]; exact Nat.le_refl _,R.le_refl,fun b hb hn=>⟨zF w _ _ _ (fun e=>hn i r L hL e.symm),hn⟩,Nat.le_refl _⟩
theorem yo (ats:Array TypeId)(ty:TypeId)(q:Option Addr)(n:Int):Builtin.unsafeString_ ats ty #[.pointer q,.int .i64 n] =
 (do
  let n ← asInt (.int .i64 n)
  let some pt := ats[0]? | stuck "unsafe.String: no argument types"
  if n < 0 then runtimePanic (.error "unsafe.String: len out of range")
  if n > IntKind.i64.max then unsupported (.unsafePointer "String: a length above the largest int")
  match q with
  | none =>
   if n=0 then pure (.string .empty)
   else runtimePanic (.error "unsafe.String: ptr is nil and len is not zero")
  | some a =>
   if n=0 then pure (.string .empty)
   else if ← variablesAt a (← elemOf pt) n.toNat then do
    let s ← loadBytes a .empty n.toNat
    freeze a n.toNat
    pure (.string s)
   else unsupported (.unsafePointer "String: not so many bytes at ptr")) := rfl
theorem zaA (k:HRel P B R h w){t el ty:TypeId}{ats:Array TypeId}{p n v:AV}{p' n':Value}{h':AHeap}(e:qt P h el p n=some (v,h'))(ht:ats[0]?=some t)(hu:P.underlying t=some (.pointer el))
 (hp:VRel R p p') (hn:VRel R n n'):Made P B R w (Builtin.unsafeString_ ats ty #[p',n']) v h':=by
 have hmax:IntKind.i64.max=9223372036854775807:=rfl;unfold qt at e;split at e
 ·rename_i z;cases hn;split at e
  ·split at e
   ·rename_i hz;cases e; cases hp; subst hz;exact ⟨R,.string .empty,w,by simp [yo,ht,asInt,asIntOf,hmax],rfl,k,Keeps.refl _ _⟩
   ·cases e
  ·rename_i i r off;obtain ⟨L,hL,hm,rfl⟩:=hp;split at e
   ·rename_i hz;cases e; subst hz;exact ⟨R,.string .empty,w,by simp [yo,ht,asInt,asIntOf,hmax],rfl,k,Keeps.refl _ _⟩
   ·rename_i hz;split at e
    ·rename_i hb;obtain ⟨hb1,hb2⟩:=hb;unfold zdL at e;split at e
     ·rename_i c m el' lo hi nv fz sg ex ho;split at e
      ·cases e
      ·rename_i ee he;split at e
       ·rename_i hc;obtain ⟨c1,c2,c3,rfl,rfl,rfl,c7⟩:=hc;split at e
        ·cases e
        ·rename_i l hl;split at e
         ·cases e
         ·rename_i s hs;cases e;have hm0:L.minus=0:=by omega
          obtain ⟨L',hL',cs,f0,f1,g1,g2,g3,g4,g5⟩:=k.ver hL ho c1 c2 he;rw [hL] at hL'; cases hL';obtain ⟨gl1,gl2⟩:=xg hl;have hsh:w.shape? L.block=some (el',cs.size):=by unfold World.shape?; rw [g1]
          have hlies:=Go.Lib.liesAt_bytes (P:=P) c7 (cs.size / P.cellsOf el') z.toNat (by rw [c7,Nat.div_one]; omega);have hlb:=je (P:=P) (R:=R) (w:=w) (b:=L.block) 0 .empty hs (fun j x hj=>by
           have hjn:j<z.toNat:=by
            rw [← gl1]; rcases Nat.lt_or_ge j l.length with h | h
            ·exact h
            ·rw [List.getElem?_eq_none h] at hj; cases hj
           obtain ⟨y,hy,hyr⟩:=g5 j x (by omega) (by omega) (by have:=gl2 j x hj; rwa [Nat.zero_add] at this);rw [hm0,Nat.sub_zero] at hy;exact ⟨y,by rw [Nat.zero_add,cell?_row w _ _ g1]; exact hy,hyr⟩)
          rw [gl1] at hlb;obtain ⟨f1',f2'⟩:=zfa k hL ho hm0 g1 g4.1.1 (n:=z.toNat) (by omega);refine ⟨R,.string ⟨s.toArray⟩,_,?_,rfl,f1',f2'⟩;have hneg:¬ z<0:=by omega
          have hbig:¬ (9223372036854775807:Int)<z:=by omega
          simp [yo,ht,asInt,asIntOf,hmax,hneg,hbig,hz,variablesAt,hsh,elemOf,za w hu,hlies,hm0,hlb]
       ·cases e
     ·cases e
    ·cases e
  ·cases e
 ·cases e
theorem zcm (k:HRel P B R h w)(hB:B.n≤w.heap.size){b:Builtin}{ats:Array TypeId}{ty:TypeId}{cs:Array Bool}{args:List AV}{args':List Value}{r:AR}(e:zi P h b ats[0]? ats[1]? args=some r)(ha:VRels R args args') :
 OpRel P B R w (builtin b ats ty cs args'.toArray) r:=by
 unfold zi at e;split at e
 ·unfold zgA at e;split at e
  ·cases e
  ·rename_i t ht;split at e
   ·cases e
   ·rename_i u hu;split at e
    ·cases e
    ·rename_i z hz;split at e
     ·cases e
     ·rename_i s x hsx;obtain rfl:=zaY hsx;obtain ⟨s',ys,rfl,hs',x',zs,rfl,hx',hr⟩:=ha;cases hr;obtain ⟨v,h',e1,rfl⟩:=zP e;exact xe (zem k hB e1 ht hu hz hs' hx')
 ·split at e
  ·cases e; cases ha;simp only [OpRel,builtin,Sem.run_pure]
  ·cases e
 ·split at e
  ·cases e
  ·rename_i t ht;split at e
   ·unfold zp0 at e;split at e
    ·cases e
    ·rename_i s x hsx;obtain rfl:=zaY hsx;obtain ⟨s',ys,rfl,hs',x',zs,rfl,hx',hr⟩:=ha;cases hr;obtain ⟨v,h',e1,rfl⟩:=zP e;exact xe (zgS k e1 hs' hx' ht)
   ·unfold zj2 at e;split at e
    ·cases e
    ·rename_i x hx;obtain rfl:=zaR hx;obtain ⟨x',ys,rfl,hx',hr⟩:=ha;cases hr;obtain ⟨h',e1,rfl⟩:=zba e;exact zc0 (ze8 k e1 hx' ht)
   ·unfold zgV at e;split at e
    ·cases e
    ·rename_i s x hsx;obtain rfl:=zaY hsx;obtain ⟨s',ys,rfl,hs',x',zs,rfl,hx',hr⟩:=ha;cases hr;obtain ⟨h',e1,rfl⟩:=zba e;exact zc0 (zdj k e1 hs' hx' ht)
   ·unfold zbU at e;split at e
    ·cases e
    ·rename_i el hel;split at e
     ·cases e
     ·split at e
      ·cases e
      ·rename_i s x hsx;obtain rfl:=zaY hsx;obtain ⟨s',ys,rfl,hs',x',zs,rfl,hx',hr⟩:=ha;cases hr;obtain ⟨v,h',e1,rfl⟩:=zP e;have hu:P.underlying t=some (.pointer el):=by
        unfold vU at hel;split at hel
        ·cases hel; assumption
        ·cases hel
       exact xe (zaA k e1 ht hu hs' hx')
   ·cases e
theorem zcC (k:HRel P B R h w)(hB:B.n≤w.heap.size){b:Builtin}{ats:Array TypeId}{ty:TypeId}{cs:Array Bool}{args:List AV}{args':List Value}{r:AR}(e:yh P h b ats args=some r)(ha:VRels R args args') :
 OpRel P B R w (builtin b ats ty cs args'.toArray) r:=by
 unfold yh at e;split at e
 ·obtain ⟨v,e1,rfl⟩:=zz e;exact zcB k e1 ha
 ·exact zcm k hB e ha
theorem xw (f:Operand→Value)(a:Array Operand):a.map f=(a.toList.map f).toArray:=by rw [← Array.toList_map,Array.toArray_toList]
theorem zdr (k:HRel P B R h w)(hB:B.n≤w.heap.size){ρ:Operand→Option AV}{ρ':Operand→Value}(hρ:∀ x v,ρ x=some v→VRel R v (ρ' x)){c:Call}{ty:TypeId}{r:AR}(e:xi P ρ h c=some r) :
 OpRel P B R w (do let d ← resolve ρ' c ty; invoke d.target d.args) r:=by
 unfold xi at e;split at e
 ·cases e
 ·rename_i args ha;have ha:=za1 hρ ha;split at e
  ·rename_i b hc;refine (zcC (ty:=ty) (cs:=c.args.map fun | .const _=>true | _=>false) k hB e ha).congr ?_;simp only [resolve,hc,Sem.run_bind,Sem.run_pure,Result.andThen_ok,invoke,xw ρ'];rfl
  ·rename_i x name hc;split at e
   ·cases e
   ·rename_i v hv;refine (xB k hB e (hρ _ _ hv) ha).congr ?_;simp only [resolve,hc,Sem.run_bind,Sem.run_pure,Result.andThen_ok,invoke,xw ρ'];simp;rw [List.take_of_length_le (by simp)]
  ·rename_i f hc;split at e
   ·cases e
   ·rename_i v hv;refine (zbB k hB e (hρ _ _ hv) ha).congr ?_;simp only [resolve,hc,xw ρ']
theorem zco (k:HRel P B R h w)(hB:B.n≤w.heap.size){src dst:TypeId}{x v:AV}{x':Value}{h':AHeap}(e:qc P h src dst x=some (v,h'))(hx:VRel R x x'):Made P B R w (convert src dst x') v h':=by
 unfold qc at e;split at e
 ·rename_i hs;split at e
  ·rename_i el hd;unfold zii at e;split at e
   ·rename_i s;split at e
    ·rename_i hc;obtain ⟨hb,hone⟩:=hc;cases e;cases hx;have hfree:=k.fresh h.next (Nat.le_refl _);have hsz:(⟨s.toArray⟩:ByteArray).size=s.length:=by simp [ByteArray.size]
     have hrun:=run_bytes_of_string (P:=P) w src dst el ⟨s.toArray⟩ hs hd (jw hb);have hge:=grownCap_ge w (⟨s.toArray⟩:ByteArray).size 0 el;generalize hcap:grownCap w (⟨s.toArray⟩:ByteArray).size 0 el=cap at hrun hge;have hrow:(bytesRow ⟨s.toArray⟩ cap).size=cap:=by simp [bytesRow]; omega
     have hbl:(zU s).length=s.length:=by simp [zU]
     rw [hsz] at hge;have hn:=k.new hB (.cells (zd .leaf 0 (zU s)) (zU s).length el 0 0 1 0 true .leaf)
      (.cells (bytesRow ⟨s.toArray⟩ cap) el ((bytesRow ⟨s.toArray⟩ cap).size,(bytesRow ⟨s.toArray⟩ cap).size+1)) ⟨w.heap.size,0,cap⟩ (w':=w.drew.alloc (.cells (bytesRow ⟨s.toArray⟩ cap) el ((bytesRow ⟨s.toArray⟩ cap).size,(bytesRow ⟨s.toArray⟩ cap).size+1))) rfl rfl rfl rfl rfl ?_
     ·refine ⟨_,_,_,hrun,?_,hn.1,hn.2⟩;rw [hsz];exact zgl R hge
     ·refine ⟨Nat.le_refl _,by omega,fun r hr'=>?_,fun r e h1 h2 h3=>?_,fun r e h1 h2 h3=>?_⟩;rotate_left 2
      ·obtain rfl:r=0:=by omega
       simp [zG] at h3; omega
      ·rw [R.upd_other _ (by omega)]; exact hfree r
      ·obtain rfl:r=0:=by omega
       simp [zG] at h3; subst h3;refine ⟨_,R.upd_same _ _ _,bytesRow ⟨s.toArray⟩ cap,(bytesRow ⟨s.toArray⟩ cap).size,(bytesRow ⟨s.toArray⟩ cap).size+1,?_,by rw [hrow,hbl]; omega,?_,⟨⟨Nat.le_succ _,fun h=>by cases h⟩,fun j a b=>Or.inr ⟨rfl,by omega⟩⟩,fun j x a _ c=>?_⟩
       ·show (w.heap.push _)[w.heap.size]?=_; simp
       ·rw [hone,hrow]; exact ⟨(by show cap*1=cap+0; omega),Nat.dvd_zero _⟩
       ·rw [zk] at c;simp only [Nat.zero_le,true_and,Nat.zero_add,Nat.sub_zero] at c ⊢;rw [if_pos a] at c;have hj:j<s.length:=by omega
        simp only [zU,List.getElem?_map,List.getElem?_eq_getElem hj,Option.map_some,Option.some.injEq] at c;subst c;refine ⟨.int .u8 (s[j].toNat),?_,rfl⟩;rw [bytesRow,Array.getElem?_append,if_pos (by simpa using hj)]
        simp [hj]
    ·cases e
   ·cases e
  ·cases e
 ·cases e
theorem zeP {ρ:Operand→Option AV}{ρ':Operand→Value}(hρ:∀ x v,ρ x=some v→VRel R v (ρ' x)){c:Call}{ty:TypeId}{r:AR}(e:zav ρ c=some r) :
 OpRel P B R w (do pure (.defer (← resolve ρ' c ty))) r:=by
 unfold zav at e;split at e
 ·cases e
 ·rename_i args ha;have ha:=za1 hρ ha;split at e
  ·rename_i f hc;split at e
   ·rename_i f fs cap hv;cases e;obtain ⟨hn,a,b,hf,h1,h2⟩:=hρ _ _ hv;refine ⟨{ target:=.fn f b.toArray,args:=a.toArray++(c.args.toList.map ρ').toArray },?_,⟨hn,b,rfl,h2⟩,?_⟩
    ·simp only [resolve,hc,hf,Deferred.ofValue,Sem.run_bind,Sem.run_pure,Result.andThen_ok,xw ρ']
    ·simpa using h1.append ha
   ·cases e
  ·rename_i x name hc;split at e
   ·cases e
   ·rename_i v hv;cases e;refine ⟨{ target:=.fn (.method name) #[],args:=#[ρ' x]++(c.args.toList.map ρ').toArray },?_,⟨by simp,[],rfl,rfl⟩,?_⟩
    ·simp only [resolve,hc,Sem.run_bind,Sem.run_pure,Result.andThen_ok,xw ρ']
    ·simpa using VRels.cons (hρ _ _ hv) ha
  ·cases e
end
end Go.Proofs.Ytcdigdplhlgcaaa.Ev
end
section
namespace Go.Proofs.Ytcdigdplhlgcaaa.Ev
open Go
section
variable {P:Program} {B:Base} {R:Bij} {h:AHeap} {w:World}
theorem zc3 (k:HRel P B R h w){v:AV}{v':Value}(hv:VRel R v v'):OpRel P B R w (pure (.value v')) (.val v h):=⟨R,v',w,by simp,hv,k,Keeps.refl _ _⟩
theorem zbT {ρ:Operand→Option AV}{ρ':Operand→Value}(hρ:∀ x v,ρ x=some v→VRel R v (ρ' x)){o:Option Operand}{l:Option Int}(e:yR ρ o=some l):zje R l (o.map ρ'):=by
 unfold yR at e;split at e
 ·cases e; rfl
 ·split at e
  ·rename_i hx;cases e;exact ⟨_,by rw [Option.map_some,hρ _ _ hx]⟩
  ·cases e
theorem jP {ρ:Operand→Option AV}{ρ':Operand→Value}(hρ:∀ x v,ρ x=some v→VRel R v (ρ' x)){l:List (Nat × Operand)}{r:List (Nat × AV)}(e:q9 ρ l=some r) :
 All2 (zs3 R) r (l.map fun p=>(p.1,ρ' p.2)):=by
 obtain ⟨e1,e2⟩:=zbf e;refine .of_get (by simp [e1]) fun i x hx=>?_;have hi:i<l.length:=by
  have:=(List.getElem?_eq_some_iff.1 hx).1;omega
 obtain ⟨b,hb,hf⟩:=e2 i l[i] (List.getElem?_eq_getElem hi);rw [hx] at hb; cases hb;refine ⟨(l[i].1,ρ' l[i].2),by rw [List.getElem?_map,List.getElem?_eq_getElem hi]; rfl,?_⟩;split at hf
 ·cases hf
 ·rename_i v hv;cases hf;exact ⟨rfl,hρ _ _ hv⟩
theorem qJ (ρ':Operand→Value)(a:Array (Nat × Operand)):(a.map fun (i,x)=>(i,ρ' x)).toList=a.toList.map fun p=>(p.1,ρ' p.2):=by
 rw [Array.toList_map]
theorem zlI (k:HRel P B R h w)(hB:B.n≤w.heap.size){ρ:Operand→Option AV}{ρ':Operand→Value}(hρ:∀ x v,ρ x=some v→VRel R v (ρ' x)){o:Oper}{r:AR}(e:opA P ρ h o.op=some r) :
 OpRel P B R w (execOp ρ' o) r:=by
 unfold execOp;cases hop:o.op with
 | move x =>
  rw [hop] at e; change zk6 P x ρ h=some r at e;obtain ⟨v,e1,rfl⟩:=zz e;exact zc3 k (hρ _ _ e1)
 | assign x =>
  rw [hop] at e; change zfd P x ρ h=some r at e;obtain ⟨v,e1,rfl⟩:=zz e;exact zc3 k (hρ _ _ e1)
 | pick c a b =>
  rw [hop] at e; change zbg P c a b ρ h=some r at e;obtain ⟨v,e1,rfl⟩:=zz e;unfold zqw at e1;split at e1
  ·rename_i t hc;have hc:ρ' c=.bool t:=hρ _ _ hc;refine ⟨R,if t then ρ' a else ρ' b,w,by simp only [hc,asBool,Sem.run_bind,Sem.run_pure,Result.andThen_ok],?_,k,Keeps.refl _ _⟩
   cases t
   ·exact hρ _ _ e1
   ·exact hρ _ _ e1
  ·cases e1
 | alloc t =>
  rw [hop] at e; change yv P t ρ h=some r at e;unfold yv jg at e;split at e
  ·cases e
  ·rename_i z hz;obtain ⟨v,h',e1,rfl⟩:=zP e;obtain ⟨inf,zv,hi,hzv,hzr⟩:=zI R hz;obtain ⟨R',a',w',g1,g2,g3,g4⟩:=zcM k hB e1 hzr;exact xe ⟨R',.pointer (some a'),w',by simp [Instr.alloc,zo w hi hzv,g1],g2,g3,g4⟩
 | box t x =>
  rw [hop] at e; change zcZ P t x ρ h=some r at e;obtain ⟨a,ha,e⟩:=zm e;obtain ⟨v,h',e1,rfl⟩:=zP e;obtain ⟨R',a',w',g1,g2,g3,g4⟩:=zcM k hB e1 (hρ _ _ ha);exact xe ⟨R',.pointer (some a'),w',by simp [Instr.box,g1],g2,g3,g4⟩
 | build t parts =>
  rw [hop] at e; change kK P t parts ρ h=some r at e;unfold kK vE at e;split at e
  ·cases e
  ·rename_i l hl;obtain ⟨v,e1,rfl⟩:=zz e;refine zt k (zfh w e1 ?_);rw [qJ]; exact jP hρ hl
 | buildSlice t n parts =>
  rw [hop] at e; change zM P t n parts ρ h=some r at e;unfold zM zY at e;split at e
  ·cases e
  ·rename_i l hl;obtain ⟨v,h',e1,rfl⟩:=zP e;refine xe (jW k hB e1 ?_);rw [qJ]; exact jP hρ hl
 | insert t m key x =>
  rw [hop] at e; change qi P t m key x ρ h=some r at e;unfold qi yl at e;split at e
  ·cases e
  ·rename_i a ha;split at e
   ·cases e
   ·rename_i b hb;split at e
    ·cases e
    ·rename_i c hc;obtain ⟨h',e1,rfl⟩:=wy e;exact vr (jf k e1 (hρ _ _ ha) (hρ _ _ hb) (hρ _ _ hc))
 | load t a =>
  rw [hop] at e; change wH P t a ρ h=some r at e;obtain ⟨p,hp,e⟩:=zm e;obtain ⟨v,e1,rfl⟩:=zz e;exact zt k (qF k e1 (hρ _ _ hp))
 | store t a x =>
  rw [hop] at e; change zhP P t a x ρ h=some r at e;obtain ⟨p,v,hp,hv,e⟩:=xm e;obtain ⟨h',e1,rfl⟩:=wy e;exact vr (zfO k e1 (hρ _ _ hp) (hρ _ _ hv))
 | ready g=>rw [hop] at e; change (none:Option AR)=some r at e; cases e
 | waits g=>rw [hop] at e; change (none:Option AR)=some r at e; cases e
 | nilCheck x =>
  rw [hop] at e; change zbE P x ρ h=some r at e;obtain ⟨a,ha,e⟩:=zm e;obtain ⟨v,e1,rfl⟩:=zz e;have ha:=hρ _ _ ha;unfold zf9 at e1;split at e1
  ·cases e1;obtain ⟨L,hL,hm,hx⟩:=ha;refine ⟨R,ρ' x,w,?_,⟨L,hL,hm,hx⟩,k,Keeps.refl _ _⟩;simp only [hx,Sem.run_pure]
  ·cases e1;refine ⟨R,ρ' x,w,?_,ha,k,Keeps.refl _ _⟩;simp only [show ρ' x=.pointer (some ⟨_,_,none⟩) from ha,Sem.run_pure]
  ·split at e1
   ·cases e1;obtain ⟨hn,fs,cs,hx,h1,h2⟩:=ha;refine ⟨R,ρ' x,w,?_,⟨hn,fs,cs,hx,h1,h2⟩,k,Keeps.refl _ _⟩;simp only [hx,Sem.run_pure]
   ·cases e1
  ·cases e1;obtain ⟨y,hx,h1⟩:=ha;refine ⟨R,ρ' x,w,?_,⟨y,hx,h1⟩,k,Keeps.refl _ _⟩;simp only [hx,Sem.run_pure]
  ·cases e1;obtain ⟨L,hL,hx⟩:=ha;refine ⟨R,ρ' x,w,?_,⟨L,hL,hx⟩,k,Keeps.refl _ _⟩;simp only [hx,Sem.run_pure]
  ·cases e1
 | binOp op t x y u =>
  rw [hop] at e; change za2 P op t x y u ρ h=some r at e;obtain ⟨a,b,ha,hb,e⟩:=xm e;obtain ⟨v,e1,rfl⟩:=zz e;exact zt k (ziV k e1 (hρ _ _ ha) (hρ _ _ hb))
 | unOp op t x =>
  rw [hop] at e; change zlp P op t x ρ h=some r at e;obtain ⟨a,ha,e⟩:=zm e;obtain ⟨v,e1,rfl⟩:=zz e;exact zt k (zlP w e1 (hρ _ _ ha))
 | convert s d x =>
  rw [hop] at e; change zc2 P s d x ρ h=some r at e;obtain ⟨a,ha,e⟩:=zm e;unfold zeZ at e;split at e
  ·obtain ⟨v,h',e1,rfl⟩:=zP e;exact xe (zco k hB e1 (hρ _ _ ha))
  ·obtain ⟨v,e1,rfl⟩:=zz e;exact zt k (zgF k e1 (hρ _ _ ha))
 | sliceToArrayPointer t x=>rw [hop] at e; change (none:Option AR)=some r at e; cases e
 | makeInterface t x =>
  rw [hop] at e; change wc P t x ρ h=some r at e;obtain ⟨a,ha,e⟩:=zm e;obtain ⟨v,e1,rfl⟩:=zz e;exact zt k (zcs w e1 (hρ _ _ ha))
 | makeFunc f first cap =>
  rw [hop] at e; change yP P f first cap ρ h=some r at e
  obtain ⟨v,e1,rfl⟩:=zz e;unfold zgp at e1;split at e1
  ·cases e1
  ·rename_i hy;split at e1
   ·cases e1
   ·rename_i fs hfs;split at e1
    ·cases e1
    ·rename_i cs hcs;cases e1;refine zt k ⟨.func f (first.map ρ') (cap.map ρ'),by simp only [Instr.makeFunc,Sem.run_pure],fun l hl=>hy l hl,_,_,?_,za1 hρ hfs,za1 hρ hcs⟩;rw [xw ρ',xw ρ']
 | makeMap t r' =>
  rw [hop] at e; change yG P t r' ρ h=some r at e;unfold yG zfK at e;obtain ⟨R',g1,g2,g3⟩:=zfA k hB;split at e
  ·cases e;exact xe ⟨R',_,_,by simp [Instr.makeMap],g1,g2,g3⟩
  ·rename_i x;split at e
   ·rename_i kk n hx;split at e
    ·cases e
    ·rename_i kt hm;cases e;obtain ⟨kt,el⟩:=kt;have hu:=yJ hm;have hx:ρ' x=.int kk n:=hρ _ _ hx;exact xe ⟨R',_,_,by simp [Instr.makeMap,hx,za w hu,asInt,asIntOf],g1,g2,g3⟩
   ·cases e
 | makeChan t s=>rw [hop] at e; change (none:Option AR)=some r at e; cases e
 | makeSlice t l c =>
  rw [hop] at e; change xM P t l c ρ h=some r at e;obtain ⟨a,b,ha,hb,e⟩:=xm e;obtain ⟨v,h',e1,rfl⟩:=zP e;exact xe (zaB k hB e1 (hρ _ _ ha) (hρ _ _ hb))
 | slice t x lo hi mx =>
  rw [hop] at e; change qR P t x lo hi mx ρ h=some r at e;obtain ⟨v,e1,rfl⟩:=zz e;unfold wC at e1;split at e1
  ·cases e1
  ·rename_i a ha;split at e1
   ·cases e1
   ·rename_i l hl;split at e1
    ·cases e1
    ·rename_i hh hhi;split at e1
     ·cases e1
     ·rename_i m hm;exact zt k (zfn k e1 (hρ _ _ ha) (zbT hρ hl) (zbT hρ hhi) (zbT hρ hm))
 | fieldAddr s x f =>
  rw [hop] at e; change zas P s x f ρ h=some r at e;obtain ⟨a,ha,e⟩:=zm e;obtain ⟨v,e1,rfl⟩:=zz e;exact zt k (zaH w e1 (hρ _ _ ha))
 | field t x f =>
  rw [hop] at e; change zhR P t x f ρ h=some r at e;obtain ⟨a,ha,e⟩:=zm e;obtain ⟨v,e1,rfl⟩:=zz e;exact zt k (zfr w e1 (hρ _ _ ha))
 | indexAddr t x ix =>
  rw [hop] at e; change xR P t x ix ρ h=some r at e;obtain ⟨a,b,ha,hb,e⟩:=xm e;obtain ⟨v,e1,rfl⟩:=zz e;exact zt k (zaF w e1 (hρ _ _ ha) (hρ _ _ hb))
 | index t x ix =>
  rw [hop] at e; change zaU P t x ix ρ h=some r at e;obtain ⟨a,b,ha,hb,e⟩:=xm e;obtain ⟨v,e1,rfl⟩:=zz e;exact zt k (zet w e1 (hρ _ _ ha) (hρ _ _ hb))
 | lookup t m key ok =>
  rw [hop] at e; change zeS P t m key ok ρ h=some r at e;obtain ⟨a,b,ha,hb,e⟩:=xm e;obtain ⟨v,e1,rfl⟩:=zz e;exact zt k (zdg k e1 (hρ _ _ ha) (hρ _ _ hb))
 | mapUpdate t m key x =>
  rw [hop] at e; change xQ P t m key x ρ h=some r at e;unfold xQ yl at e;split at e
  ·cases e
  ·rename_i a ha;split at e
   ·cases e
   ·rename_i b hb;split at e
    ·cases e
    ·rename_i c hc;obtain ⟨h',e1,rfl⟩:=wy e;exact vr (jf k e1 (hρ _ _ ha) (hρ _ _ hb) (hρ _ _ hc))
 | mapEntry t m key =>
  rw [hop] at e; change zbR P t m key ρ h=some r at e;obtain ⟨a,b,ha,hb,e⟩:=xm e;obtain ⟨v,h',e1,rfl⟩:=zP e;exact xe (zbI k e1 (hρ _ _ ha) (hρ _ _ hb))
 | entryStore t m s x =>
  rw [hop] at e; change xC P t m s x ρ h=some r at e;unfold xC wM at e;split at e
  ·cases e
  ·rename_i a ha;split at e
   ·cases e
   ·rename_i b hb;split at e
    ·cases e
    ·rename_i c hc;obtain ⟨h',e1,rfl⟩:=wy e;exact vr (j8 k e1 (hρ _ _ ha) (hρ _ _ hb) (hρ _ _ hc))
 | range t x =>
  rw [hop] at e; change ziw P t x ρ h=some r at e;obtain ⟨a,ha,e⟩:=zm e;exact zfU k hB e (hρ _ _ ha)
 | next it s =>
  rw [hop] at e; change zlt P it s ρ h=some r at e;obtain ⟨a,ha,e⟩:=zm e;exact zgX k e (hρ _ _ ha)
 | entry it=>rw [hop] at e; change (none:Option AR)=some r at e; cases e
 | typeAssert x u t ok =>
  rw [hop] at e; change jn P x u t ok ρ h=some r at e;obtain ⟨a,ha,e⟩:=zm e;obtain ⟨v,e1,rfl⟩:=zz e;exact zt k (zdf w e1 (hρ _ _ ha))
 | extract x i =>
  rw [hop] at e; change ql P x i ρ h=some r at e;obtain ⟨v,e1,rfl⟩:=zz e;unfold zin at e1;split at e1
  ·rename_i vs hx;obtain ⟨vs',hv,hr⟩:=hρ _ _ hx;obtain ⟨y,hy,hyr⟩:=hr.get i v e1;refine zt k ⟨y,?_,hyr⟩;simp [Instr.extract,hv,hy]
  ·cases e1
 | call c =>
  rw [hop] at e; change zkp P c ρ h=some r at e;exact zdr k hB hρ e
 | go c=>rw [hop] at e; change (none:Option AR)=some r at e; cases e
 | «defer» c =>
  rw [hop] at e; change zh2 P c ρ h=some r at e;exact zeP hρ e
 | panic x =>
  rw [hop] at e; change ziH P x ρ h=some r at e;obtain ⟨a,ha,e⟩:=zm e;unfold zkh at e;split at e
  ·cases e;obtain ⟨y,hx,hy⟩:=hρ _ _ ha;refine ⟨.iface _ y,?_,y,rfl,hy⟩;simp only [Instr.panic,hx,goPanic,Sem.run_bind,Sem.run];rfl
  ·cases e
 | send a b=>rw [hop] at e; change (none:Option AR)=some r at e; cases e
 | recv a b c=>rw [hop] at e; change (none:Option AR)=some r at e; cases e
 | select a b=>rw [hop] at e; change (none:Option AR)=some r at e; cases e
end
end Go.Proofs.Ytcdigdplhlgcaaa.Ev
end
section
namespace Go.Proofs.Ytcdigdplhlgcaaa.Ev
open Go
def Base.drop (B:Base) (id:Nat):Base:={ B with pend:=fun j=>if j=id then none else B.pend j }
def Base.add (B:Base) (id:Nat) (o:AObj):Base:={ B with pend:=fun j=>if j=id then some o else B.pend j }
section
variable {P:Program} {B:Base} {R:Bij} {h:AHeap} {w:World}
theorem HRel.ahead (k:HRel P B R h w)(o:AObj):HRel P (B.add h.next o) R (h.new o) w where
 fresh i hi r:=k.fresh i (by rw [vm] at hi; omega) r
 pend i o' e:=by
  simp only [Base.add] at e;split at e
  ·rename_i hi;cases e; subst hi;exact ⟨by rw [vm]; omega,by rw [zbO,if_pos rfl],fun r=>k.fresh _ (Nat.le_refl _) r⟩
  ·obtain ⟨e1,e2,e3⟩:=k.pend i o' e;exact ⟨by rw [vm]; omega,by rw [zbO,if_neg (by omega)]; exact e2,e3⟩
 obj i o' e hp:=by
  simp only [Base.add] at hp;split at hp
  ·cases hp
  ·rename_i hi;rw [zbO,if_neg hi] at e;exact k.obj i o' e hp
 place:=k.place
 apart:=k.apart
 same:=k.same
 glob g c hg:=k.glob g c (by rwa [zid] at hg)
 low:=k.low
 rp i hi:=by
  have hlt:=(k.rd i hi).1;simp only [Base.add];rw [if_neg (by omega)]; exact k.rp i hi
 rol:=k.rol
 pin:=k.pin
 rd i hi:=by
  have hlt:=(k.rd i hi).1;refine ⟨by rw [vm]; omega,fun o' e=>?_⟩;rw [zbO,if_neg (by omega)] at e;exact (k.rd i hi).2 o' e
def zrk (P:Program) (R:Bij) (w:World) (s:Sem Value) (vf:Nat→AV) (ob:AObj):Prop :=
 ∃ blk L v',L.block=w.heap.size∧s.run P w=.ok v' (w.alloc blk)∧∀ id,(∀ r,R id r=none)→VRel (R.upd id 0 L) (vf id) v'∧ObjRel P (R.upd id 0 L) (w.alloc blk) id ob
theorem HRel.adopt (k:HRel P B R h w)(hB:B.n≤w.heap.size){id:Nat}{ob:AObj}{s:Sem Value}{vf:Nat→AV}(hp:B.pend id=some ob)(hl:zrk P R w s vf ob) :
 ∃ R' v' w',s.run P w=.ok v' w'∧VRel R' (vf id) v'∧HRel P (B.drop id) R' h w'∧Keeps R w R' w':=by
 obtain ⟨blk,L,v',hL,hrun,hid⟩:=hl;obtain ⟨p1,p2,p3⟩:=k.pend id ob hp;obtain ⟨g1,g2⟩:=hid id p3;have hle:=R.le_upd (i:=id) (r:=0) L (p3 0);have hsz:(w.alloc blk).heap.size=w.heap.size+1:=by show (w.heap.push _).size=_; simp
 have hidR:∀ {r M},R.upd id 0 L id r=some M→M=L:=by
  intro r M e
  by_cases hr:r=0
  ·subst hr; rw [R.upd_same] at e; cases e; rfl
  ·rw [R.upd_other L (by intro e; exact hr e.2),p3] at e; cases e
 have hoth:∀ {j r},j≠id→R.upd id 0 L j r=R j r:=fun hj=>R.upd_other L (fun e=>hj e.1);refine ⟨R.upd id 0 L,v',w.alloc blk,hrun,g1,⟨?_,?_,?_,?_,fun i hi=>k.rd i hi,fun i hi=>?_,fun i r M hi e=>?_,fun b hb=>(yA w blk (Nat.lt_of_lt_of_le (Base.low_lt (B:=B) hb) hB)).trans (k.low b hb),fun i r M e=>hle _ _ _ (k.pin i r M e),?_,?_,fun g c hg=>?_⟩,⟨rfl,rfl,rfl,by omega,hle,fun b hb hn=>⟨yA w blk hb,fun j r M e=>?_⟩,Nat.le_refl _⟩⟩
 ·intro i hi r;rw [hoth (by omega)]; exact k.fresh i hi r
 ·intro i o e hpi
  by_cases hi:i=id
  ·subst hi; rw [p2] at e; cases e; exact g2
  ·simp only [Base.drop,if_neg hi] at hpi;exact (k.obj i o e hpi).mono hle (fun r=>hoth hi) (fun r M e=>yA w blk (k.place i r M e).2)
 ·intro i o e;simp only [Base.drop] at e;split at e
  ·cases e
  ·rename_i hi;obtain ⟨e1,e2,e3⟩:=k.pend i o e;exact ⟨e1,e2,fun r=>by rw [hoth hi]; exact e3 r⟩
 ·intro i r M e
  by_cases hi:i=id
  ·subst hi; rw [hidR e]; exact ⟨.inl (.inl (by show B.n≤_; omega)),by omega⟩
  ·rw [hoth hi] at e;have:=k.place i r M e;exact ⟨this.1,by omega⟩
 ·simp only [Base.drop];split
  ·rfl
  ·exact k.rp i hi
 ·by_cases hj:i=id
  ·subst hj;rw [k.rp i hi] at hp; cases hp
  ·rw [hoth hj] at e;exact k.rol i r M hi e
 ·intro i r i' r' M M' e e' hb hor
  by_cases hi:i=id
  ·subst hi;rw [hidR e] at hb
   by_cases hi':i'=i
   ·exact hi'.symm
   ·rw [hoth hi'] at e'; have:=(k.place i' r' M' e').2; omega
  ·rw [hoth hi] at e
   by_cases hi':i'=id
   ·subst hi'; rw [hidR e'] at hb; have:=(k.place i r M e).2; omega
   ·rw [hoth hi'] at e'; exact k.apart i r i' r' M M' e e' hb hor
 ·intro i r r' M M' e e' hb
  by_cases hi:i=id
  ·subst hi; rw [hidR e,hidR e']
  ·rw [hoth hi] at e e'; exact k.same i r r' M M' e e' hb
 ·obtain ⟨e1,cs,el,fz,e2,e3⟩:=k.glob g c hg;exact ⟨e1,cs,el,fz,(yA w blk (Nat.lt_of_lt_of_le (Base.low_lt e1) hB)).trans e2,e3⟩
 ·by_cases hc:j=id∧r=0
  ·rw [hc.1,hc.2,R.upd_same] at e; cases e; omega
  ·rw [R.upd_other L hc] at e; exact hn j r M e
noncomputable def xH (el:TypeId) (l:List AV):AObj:=.cells (zd .leaf 0 l) l.length el 0 0 1 0 false .leaf
theorem zce (h:AHeap)(el:TypeId)(l:List AV):xu h el l false=h.new (xH el l):=rfl
theorem zby {el:TypeId}{l:List AV}{vs:List Value}{kap:Nat}(hr:VRels R l vs)(hk:kap*P.cellsOf el=l.length)(hkb:kap≤9223372036854775807){id:Nat}(hfree:∀ r,R id r=none) :
 ObjRel P (R.upd id 0 ⟨w.heap.size,0,kap⟩) (w.alloc (.cells vs.toArray el)) id (xH el l):=by
 refine ⟨Nat.le_refl _,by omega,fun r hr'=>?_,fun r e h1 h2 h3=>?_,fun r e h1 h2 h3=>?_⟩;rotate_left 2
 ·obtain rfl:r=0:=by omega
  simp [zG] at h3; omega
 ·rw [R.upd_other _ (by omega)]; exact hfree r
 ·obtain rfl:r=0:=by omega
  simp [zG] at h3; subst h3;refine ⟨_,R.upd_same _ _ _,vs.toArray,0,0,?_,by simp [hr.length],by simp [hr.length,hk],⟨⟨Nat.le_refl _,fun _=>Nat.le_trans hkb (Nat.le_add_left _ _)⟩,fun j a b=>by omega⟩,fun j x a _ c=>?_⟩
  ·exact xp w _
  ·rw [zk] at c;simp only [Nat.zero_le,true_and,Nat.zero_add,Nat.sub_zero] at c ⊢;rw [if_pos a] at c;obtain ⟨y,hy,hyr⟩:=hr.get j x c;exact ⟨y,by simpa using hy,VRel.mono (R.le_upd _ (hfree 0)) _ _ hyr⟩
def zp7 (P:Program) (ρ:Operand→Option AV) (op:Op) (vf:Nat→AV) (ob:AObj):Prop :=
 (∀ h,opA P ρ h op=some (.val (vf h.next) (h.new ob))) ∧
 ∀ (R:Bij) (w:World) (ρ':Operand→Value) (o:Oper),o.op=op→(∀ x v,ρ x=some v→VRel R v (ρ' x)) →
  ∃ s,execOp ρ' o=(do pure (.value (← s)))∧zrk P R w s vf ob
theorem vl {t:TypeId}{x v:AV}{h':AHeap}(e:zjL P h t x=some (v,h')) :
 (∀ h,zjL P h t x=some (.ptr h.next 0 0,h.new (xH t x.cells))) ∧
 ∀ (R:Bij) (w:World) (x':Value) (f:Sem Value),VRel R x x'→f.run P w=(do pure (.pointer (some (← newVar t x'))):Sem Value).run P w→zrk P R w f (fun id=>.ptr id 0 0) (xH t x.cells):=by
 unfold zjL at e;split at e
 ·rename_i hc;refine ⟨fun h=>by simp only [zjL,hc,and_self,if_true]; rfl,fun R w x' f hx hf=>?_⟩;have hcx:=hx.cells;have hkap:1*P.cellsOf t=x.cells.length:=by
   obtain ⟨inf,hi,hs⟩:=zw hc.2;rw [zx hi,hs,Nat.one_mul]
  refine ⟨.cells x'.cells t,⟨w.heap.size,0,1⟩,.pointer (some ⟨w.heap.size,0,none⟩),rfl,by rw [hf]; simp [newVar,newRow],fun id hid=>⟨zls R,?_⟩⟩;have:=zby (P:=P) (w:=w) hcx hkap (by decide) hid;simpa using this
 ·cases e
theorem qn {t:TypeId}{len:Nat}{parts:List (Nat × AV)}{v:AV}{h':AHeap}(e:zg P h t len parts=some (v,h')) :
 ∃ el cells,(∀ h,zg P h t len parts=some (.slc h.next 0 0 len len,h.new (xH el cells))) ∧
 ∀ (R:Bij) (w:World) (parts':Array (Nat × Value)),All2 (zs3 R) parts parts'.toList→zrk P R w (Instr.buildSlice t len parts') (fun id=>.slc id 0 0 len len) (xH el cells):=by
 unfold zg at e;split at e
 ·rename_i el hu;split at e
  ·cases e
  ·rename_i inf hi;split at e
   ·rename_i hsz;split at e
    ·cases e
    ·rename_i z hz;split at e
     ·rename_i hc;split at e
      ·cases e
      ·rename_i cells hf;split at e
       ·rename_i hall;refine ⟨el,cells,fun h=>?_,fun R w parts' hp=>?_⟩
        ·simp only [zg,hu,hi,if_pos hsz,hz,if_pos hc,hf,hall,if_true,zce]
        ·obtain ⟨inf',zv,hi',hzv,hzr⟩:=zI R hz;rw [hi] at hi'; cases hi';have hzl:zv.cells.size=inf.size:=by have:=hzr.cells.length; rw [← hc.1,← this]; simp
         have hzeros:=qo hzr len;rw [hzl] at hzeros;obtain ⟨r',e1,e2,e3⟩:=yH (place':=fun i=>some (i*inf.size,inf.size)) (fun i r h=>h) hf hp hzeros;have hkap:len*P.cellsOf el=cells.length:=by rw [zx hi,e3,zZ,hc.1]
         refine ⟨.cells r' el,⟨w.heap.size,0,len⟩,.slice (some ⟨w.heap.size,0,none⟩) len len,rfl,?_,fun id hid=>⟨zdz R,by simpa using zby (P:=P) (w:=w) e2 hkap (zga hsz hc.2) hid⟩⟩
         by_cases h0:len*inf.size=0
         ·have hl0:len=0:=by rcases Nat.mul_eq_zero.1 h0 with h | h <;> omega
          subst hl0;have hr0:Array.range 0=#[]:=rfl;simp only [Nat.zero_mul,hr0,Array.map_empty] at e1;simp [Instr.buildSlice,za w hu,zj w hi,hr0,e1,newRow]
         ·have:¬ (2 ^ 24<len*inf.size):=by omega
          simp only [Instr.buildSlice,za w hu,zj w hi,zo w hi hzv,Sem.run_bind,Result.andThen_ok,Sem.run_ite,gt_iff_lt,this,if_false,h0,Sem.run_pure,hzl,e1,newRow,run_newObj,World.alloc_eq]
       ·cases e
     ·cases e
   ·cases e
 ·cases e
theorem wg {t:TypeId}{l c v:AV}{h':AHeap}(e:zR P h t l c=some (v,h')) :
 ∃ el cells n m,(∀ h,zR P h t l c=some (.slc h.next 0 0 n m,h.new (xH el cells))) ∧
 ∀ (R:Bij) (w:World) (l' c':Value),VRel R l l'→VRel R c c'→zrk P R w (Instr.makeSlice t l' c') (fun id=>.slc id 0 0 n m) (xH el cells):=by
 unfold zR at e;split at e
 ·rename_i el hu;split at e
  ·rename_i k1 l0;split at e
   ·rename_i k2 c0;unfold yF at e;split at e
    ·cases e
    ·rename_i inf hi;split at e
     ·cases e
     ·rename_i z hz;split at e
      ·rename_i hcond;refine ⟨el,zC z.cells c0.toNat,l0.toNat,c0.toNat,fun h=>?_,fun R w l' c' hl hc=>?_⟩
       ·simp only [zR,hu,yF,hi,hz,if_pos hcond,zce]
       ·obtain ⟨c1,c2,c3,c4,c5,c6,c7⟩:=hcond;cases hl; cases hc;obtain ⟨inf',zv,hi',hzv,hzr⟩:=zI R hz;rw [hi] at hi'; cases hi';have hzl:zv.cells.size=inf.size:=by have:=hzr.cells.length; rw [← c5,← this]; simp
        have hzeros:=qo hzr c0.toNat
        rw [hzl] at hzeros;have hkap:c0.toNat*P.cellsOf el=(zC z.cells c0.toNat).length:=by rw [zx hi,zZ,c5]
        refine ⟨.cells ((Array.range (c0.toNat*inf.size)).map (zv.cells[· % inf.size]!)) el,⟨w.heap.size,0,c0.toNat⟩,.slice (some ⟨w.heap.size,0,none⟩) l0.toNat c0.toNat,rfl,?_,fun id hid=>⟨zdz R,by
         have:=zby (P:=P) (w:=w) hzeros hkap (by omega) hid;rw [Array.toArray_toList] at this;exact this⟩⟩
        have w1:IntKind.i64.wrap l0=l0:=by simp only [IntKind.wrap,IntKind.bits,IntKind.signed]; simp; omega
        have w2:IntKind.i64.wrap c0=c0:=by simp only [IntKind.wrap,IntKind.bits,IntKind.signed]; simp; omega
        have b1:(decide (c0<0) || decide ((inf.bytes:Int)*c0 > 2 ^ 48))=false:=by simp; omega
        have b2:decide (l0<0)=false:=by simp; omega
        have b3:decide (l0 > c0)=false:=by simp; omega
        simp only [Instr.makeSlice,Sem.run_bind,za w hu,Result.andThen_ok,asInt,asIntOf,Sem.run_pure,zA w hi,w1,w2,b1,b2,b3,Bool.or_self,Bool.false_eq_true,if_false,run_askRoom,zj w hi]
        by_cases h0:c0.toNat*inf.size=0
        ·have hc0:c0.toNat=0:=by rcases Nat.mul_eq_zero.1 h0 with h | h <;> omega
         have hr0:Array.range 0=#[]:=rfl;simp [hc0,newRow,hr0]
        ·simp only [h0,if_false,Sem.run_bind,zo w hi hzv,Result.andThen_ok,Sem.run_pure,hzl,newRow,run_newObj,World.alloc_eq]
      ·cases e
   ·cases e
  ·cases e
 ·cases e
theorem zlk {ρ:Operand→Option AV}{op:Op}{r:AR}(hf:xj op=true)(e:opA P ρ h op=some r):∃ vf ob,zp7 P ρ op vf ob:=by
 cases op with
 | alloc t =>
  change yv P t ρ h=some r at e;unfold yv jg at e;split at e
  ·cases e
  ·rename_i z hz;obtain ⟨v,h',e1,rfl⟩:=zP e;obtain ⟨b1,b2⟩:=vl e1;refine ⟨fun id=>.ptr id 0 0,xH t z.cells,fun h=>?_,fun R w ρ' o ho hρ=>?_⟩
   ·show yv P t ρ h=_;unfold yv jg;rw [hz]; simp only [b1,wk]
   ·obtain ⟨inf,zv,hi,hzv,hzr⟩:=zI R hz;refine ⟨Instr.alloc t true (.tuple #[]),by simp only [execOp,ho],b2 R w zv _ hzr ?_⟩;simp [Instr.alloc,zo w hi hzv]
 | box t x =>
  change zcZ P t x ρ h=some r at e;obtain ⟨a,ha,e⟩:=zm e;obtain ⟨v,h',e1,rfl⟩:=zP e;obtain ⟨b1,b2⟩:=vl e1;refine ⟨fun id=>.ptr id 0 0,xH t a.cells,fun h=>?_,fun R w ρ' o ho hρ=>?_⟩
  ·show zcZ P t x ρ h=_;simp only [zcZ,y8,ha,b1,wk]
  ·refine ⟨Instr.box t (ρ' x),by simp only [execOp,ho],b2 R w _ _ (hρ _ _ ha) ?_⟩;simp [Instr.box]
 | buildSlice t n parts =>
  change zM P t n parts ρ h=some r at e;unfold zM zY at e;split at e
  ·cases e
  ·rename_i l hl;obtain ⟨v,h',e1,rfl⟩:=zP e;obtain ⟨el,cells,b1,b2⟩:=qn e1;refine ⟨fun id=>.slc id 0 0 n n,xH el cells,fun h=>?_,fun R w ρ' o ho hρ=>?_⟩
   ·show zM P t n parts ρ h=_;unfold zM zY;rw [hl]; simp only [b1,wk]
   ·refine ⟨Instr.buildSlice t n (parts.map fun (i,x)=>(i,ρ' x)),by simp only [execOp,ho],b2 R w _ ?_⟩;rw [qJ]; exact jP hρ hl
 | makeSlice t l c =>
  change xM P t l c ρ h=some r at e;obtain ⟨a,b,ha,hb,e⟩:=xm e;obtain ⟨v,h',e1,rfl⟩:=zP e;obtain ⟨el,cells,n,m,b1,b2⟩:=wg e1;refine ⟨fun id=>.slc id 0 0 n m,xH el cells,fun h=>?_,fun R w ρ' o ho hρ=>?_⟩
  ·show xM P t l c ρ h=_;simp only [xM,two,ha,hb,b1,wk]
  ·exact ⟨Instr.makeSlice t (ρ' l) (ρ' c),by simp only [execOp,ho],b2 R w _ _ (hρ _ _ ha) (hρ _ _ hb)⟩
 | makeMap t r' =>
  cases r' with
  | none =>
   refine ⟨fun id=>.mp id,.map [] 0,fun h=>rfl,fun R w ρ' o ho hρ=>⟨Instr.makeMap t none,by simp only [execOp,ho,Option.map_none],.map #[] 0,⟨w.heap.size,0,0⟩,.map (some w.heap.size),rfl,by simp [Instr.makeMap],fun id hid=>?_⟩⟩;exact ⟨⟨_,R.upd_same _ _ _,rfl⟩,_,#[],R.upd_same _ _ _,xp w _,rfl⟩
  | some x=>cases hf
 | _=>cases hf
end
end Go.Proofs.Ytcdigdplhlgcaaa.Ev
end
section
namespace Go.Proofs.Ytcdigdplhlgcaaa.Ev
open Go
section
variable {P:Program} {ρ ρ':Operand→Option AV} {h:AHeap}
theorem yE {α β:Type}{f g:α→Option β}:∀ {l:List α},(∀ x∈l,f x=g x)→qD f l=qD g l
 | [],_=>rfl
 | a::r,e=>by
  simp only [kQ,e a (List.mem_cons_self),yE (l:=r) (fun x hx=>e x (List.mem_cons_of_mem _ hx))]
theorem zQ {x:Operand}{f:AV→Option AR}(e:ρ x=ρ' x):y8 ρ x f=y8 ρ' x f:=by simp only [y8,e]
theorem yX {x y:Operand}{f:AV→AV→Option AR}(e:ρ x=ρ' x)(e':ρ y=ρ' y):two ρ x y f=two ρ' x y f:=by simp only [two,e,e']
theorem zjS {c:Call}(hl:∀ x∈c.operands,ρ x=ρ' x):xi P ρ h c=xi P ρ' h c:=by
 have h1:qD ρ c.args.toList=qD ρ' c.args.toList:=yE fun x hx=>hl x (by simp only [Call.operands,Array.mem_append]; exact .inr (by simpa using hx))
 unfold xi;rw [h1];cases hc:c.callee with
 | builtin b=>rfl
 | invoke r name =>
  have:=hl r (by simp [Call.operands,hc]);simp only [this]
 | value f =>
  have:=hl f (by simp [Call.operands,hc]);simp only [this]
theorem zgd {c:Call}(hl:∀ x∈c.operands,ρ x=ρ' x):zav ρ c=zav ρ' c:=by
 have h1:qD ρ c.args.toList=qD ρ' c.args.toList:=yE fun x hx=>hl x (by simp only [Call.operands,Array.mem_append]; exact .inr (by simpa using hx))
 unfold zav;rw [h1];cases hc:c.callee with
 | builtin b=>rfl
 | invoke r name =>
  have:=hl r (by simp [Call.operands,hc]);simp only [this]
 | value f =>
  have:=hl f (by simp [Call.operands,hc]);simp only [this]
theorem zcg {l:List (Nat × Operand)}(hl:∀ x∈l.map (·.2),ρ x=ρ' x):q9 ρ l=q9 ρ' l :=
 yE fun p hp=>by rw [hl p.2 (List.mem_map_of_mem hp)]
theorem vW {o:Option Operand}(hl:∀ x∈o,ρ x=ρ' x):yR ρ o=yR ρ' o:=by
 cases o with
 | none=>rfl
 | some x=>simp only [yR,hl x rfl]
theorem jB {op:Op}(hl:∀ x∈op.operands,ρ x=ρ' x):opA P ρ h op=opA P ρ' h op:=by
 cases op with
 | move x=>exact congrArg (yp h) (hl x (by simp [Op.operands]))
 | assign x=>exact congrArg (yp h) (hl x (by simp [Op.operands]))
 | pick c a b =>
  show zbg P c a b ρ h=zbg P c a b ρ' h;simp only [zbg,zqw,hl c (by simp [Op.operands]),hl a (by simp [Op.operands]),hl b (by simp [Op.operands])]
 | alloc t=>rfl
 | box t x=>exact zQ (hl x (by simp [Op.operands]))
 | build t parts=>exact congrArg (vE P h t) (zcg fun x hx=>hl x (by simpa [Op.operands] using hx))
 | buildSlice t n parts=>exact congrArg (zY P h t n) (zcg fun x hx=>hl x (by simpa [Op.operands] using hx))
 | insert t m k x =>
  show qi P t m k x ρ h=qi P t m k x ρ' h;simp only [qi,yl,hl m (by simp [Op.operands]),hl k (by simp [Op.operands]),hl x (by simp [Op.operands])]
 | load t a=>exact zQ (hl a (by simp [Op.operands]))
 | store t a x=>exact yX (hl a (by simp [Op.operands])) (hl x (by simp [Op.operands]))
 | ready g=>rfl
 | waits g=>rfl
 | nilCheck x=>exact zQ (hl x (by simp [Op.operands]))
 | binOp op t x y u=>exact yX (hl x (by simp [Op.operands])) (hl y (by simp [Op.operands]))
 | unOp op t x=>exact zQ (hl x (by simp [Op.operands]))
 | convert s d x=>exact zQ (hl x (by simp [Op.operands]))
 | sliceToArrayPointer t x=>rfl
 | makeInterface t x=>exact zQ (hl x (by simp [Op.operands]))
 | makeFunc f first cap =>
  show yP P f first cap ρ h=yP P f first cap ρ' h
  have h1:qD ρ first.toList=qD ρ' first.toList:=yE fun x hx=>hl x (by simp only [Op.operands,Array.mem_append]; exact .inl (by simpa using hx))
  have h2:qD ρ cap.toList=qD ρ' cap.toList:=yE fun x hx=>hl x (by simp only [Op.operands,Array.mem_append]; exact .inr (by simpa using hx))
  simp only [yP,zgp,h1,h2]
 | makeMap t r =>
  cases r with
  | none=>rfl
  | some x =>
   show yG P t (some x) ρ h=yG P t (some x) ρ' h;simp only [yG,zfK,hl x (by simp [Op.operands])]
 | makeChan t s=>rfl
 | makeSlice t l c=>exact yX (hl l (by simp [Op.operands])) (hl c (by simp [Op.operands]))
 | slice t x lo hi mx =>
  show qR P t x lo hi mx ρ h=qR P t x lo hi mx ρ' h;have h1:yR ρ lo=yR ρ' lo:=vW fun y hy=>hl y (by have:=Option.mem_def.1 hy; simp [Op.operands,this]);have h2:yR ρ hi=yR ρ' hi:=vW fun y hy=>hl y (by have:=Option.mem_def.1 hy; simp [Op.operands,this]);have h3:yR ρ mx=yR ρ' mx:=vW fun y hy=>hl y (by have:=Option.mem_def.1 hy; simp [Op.operands,this]);simp only [qR,wC,h1,h2,h3,hl x (by simp [Op.operands])]
 | fieldAddr s x f=>exact zQ (hl x (by simp [Op.operands]))
 | field t x f=>exact zQ (hl x (by simp [Op.operands]))
 | indexAddr t x ix=>exact yX (hl x (by simp [Op.operands])) (hl ix (by simp [Op.operands]))
 | index t x ix=>exact yX (hl x (by simp [Op.operands])) (hl ix (by simp [Op.operands]))
 | lookup t m k ok=>exact yX (hl m (by simp [Op.operands])) (hl k (by simp [Op.operands]))
 | mapUpdate t m k x =>
  show xQ P t m k x ρ h=xQ P t m k x ρ' h;simp only [xQ,yl,hl m (by simp [Op.operands]),hl k (by simp [Op.operands]),hl x (by simp [Op.operands])]
 | mapEntry t m k=>exact yX (hl m (by simp [Op.operands])) (hl k (by simp [Op.operands]))
 | entryStore t m s x =>
  show xC P t m s x ρ h=xC P t m s x ρ' h;simp only [xC,wM,hl m (by simp [Op.operands]),hl s (by simp [Op.operands]),hl x (by simp [Op.operands])]
 | range t x=>exact zQ (hl x (by simp [Op.operands]))
 | next it s=>exact zQ (hl it (by simp [Op.operands]))
 | entry it=>rfl
 | typeAssert x u t ok=>exact zQ (hl x (by simp [Op.operands]))
 | extract x i =>
  show ql P x i ρ h=ql P x i ρ' h;simp only [ql,hl x (by simp [Op.operands])]
 | call c=>exact zjS hl
 | go c=>rfl
 | «defer» c=>exact zgd hl
 | panic x=>exact zQ (hl x (by simp [Op.operands]))
 | send a b=>rfl
 | recv a b c=>rfl
 | select a b=>rfl
theorem znZ {op:Op}{r:AR}(hp:jA op=true)(e:opA P ρ h op=some r):∃ v,r=.val v h∧∀ h',opA P ρ h' op=some (.val v h'):=by
 have base:∀ {f:Option AV},yp h f=some r→∃ v,r=.val v h∧∀ h',yp h' f=some (.val v h'):=by
  intro f e;obtain ⟨v,rfl,rfl⟩:=zz e;exact ⟨v,rfl,fun _=>rfl⟩
 have b1:∀ {x:Operand} {f:AV→Option AV},y8 ρ x (fun v=>yp h (f v))=some r→∃ v,r=.val v h∧∀ h',y8 ρ x (fun v=>yp h' (f v))=some (.val v h'):=by
  intro x f e;obtain ⟨a,ha,e⟩:=zm e;obtain ⟨v,e1,e2⟩:=base e;exact ⟨v,e1,fun h'=>by simp only [y8,ha]; exact e2 h'⟩
 have b2:∀ {x y:Operand} {f:AV→AV→Option AV},two ρ x y (fun v u=>yp h (f v u))=some r→∃ v,r=.val v h∧∀ h',two ρ x y (fun v u=>yp h' (f v u))=some (.val v h'):=by
  intro x y f e;obtain ⟨a,b,ha,hb,e⟩:=xm e;obtain ⟨v,e1,e2⟩:=base e;exact ⟨v,e1,fun h'=>by simp only [two,ha,hb]; exact e2 h'⟩
 cases op with
 | move x=>exact base e
 | assign x=>exact base e
 | pick c a b=>exact base e
 | build t parts =>
  change vE P h t (q9 ρ parts.toList)=some r at e;unfold vE at e;split at e
  ·cases e
  ·rename_i l hl;obtain ⟨v,e1,e2⟩:=base e;exact ⟨v,e1,fun h'=>by show vE P h' t (q9 ρ parts.toList)=_; simp only [vE,hl]; exact e2 h'⟩
 | nilCheck x=>exact b1 e
 | unOp op t x=>exact b1 e
 | makeInterface t x=>exact b1 e
 | makeFunc f first cap=>exact base e
 | fieldAddr s x f=>exact b1 e
 | field t x f=>exact b1 e
 | indexAddr t x ix=>exact b2 e
 | index t x ix=>exact b2 e
 | typeAssert x u t ok=>exact b1 e
 | extract x i=>exact base e
 | _=>cases hp
theorem zhV {op:Op}{r:AR}(hp:yq P op=true)(e:opA P ρ h op=some r):∃ v,r=.val v h:=by
 have base:∀ {f:Option AV},yp h f=some r→∃ v,r=.val v h:=by
  intro f e;obtain ⟨v,rfl,rfl⟩:=zz e;exact ⟨v,rfl⟩
 cases op with
 | load t a=>obtain ⟨p,hp,e⟩:=zm e; exact base e
 | binOp op t x y u=>obtain ⟨a,b,ha,hb,e⟩:=xm e; exact base e
 | lookup t m k ok=>obtain ⟨a,b,ha,hb,e⟩:=xm e; exact base e
 | slice t x lo hi mx=>exact base e
 | convert s d x =>
  obtain ⟨a,ha,e⟩:=zm e;simp only [yq,Bool.not_eq_true'] at hp;simp only [zeZ,hp] at e;exact base e
 | call c =>
  change xi P ρ h c=some r at e;unfold xi at e;split at e
  ·cases e
  ·split at e
   ·rename_i b hc;simp only [yq,hc] at hp;simp only [yh,hp] at e;exact base e
   ·rename_i hc; simp [yq,hc] at hp
   ·rename_i hc; simp [yq,hc] at hp
 | _=>cases hp
noncomputable def zjz (ρ:Operand→Option AV) (op:Op):Operand→Option AV:=fun x=>open Classical in if x∈op.operands then ρ x else none
theorem zhW {op:Op}{x:Operand}(hx:x∈op.operands):zjz ρ op x=ρ x:=by unfold zjz; rw [if_pos hx]
theorem vi {op:Op}{x:Operand}{v:AV}(e:zjz ρ op x=some v):x∈op.operands∧ρ x=some v:=by
 unfold zjz at e;split at e
 ·exact ⟨by assumption,e⟩
 ·cases e
theorem zlV {B:Base}{R:Bij}{w:World}(k:HRel P B R h w)(hB:B.n≤w.heap.size){ρ'':Operand→Value}{o:Oper}{r:AR}(hρ:∀ x∈o.op.operands,∀ v,ρ x=some v→VRel R v (ρ'' x))(e:opA P ρ h o.op=some r) :
 OpRel P B R w (execOp ρ'' o) r :=
 zlI (ρ:=zjz ρ o.op) k hB (fun x v hv=>hρ x (vi hv).1 v (vi hv).2) ((jB fun _x hx=>zhW hx).trans e)
def FloatAt (P:Program) (ρ:Operand→Option AV) (op:Op) (vf:Nat→AV) (ob:AObj):Prop :=
 (∀ h,opA P ρ h op=some (.val (vf h.next) (h.new ob))) ∧
 ∀ (R:Bij) (w:World) (ρ':Operand→Value) (o:Oper),o.op=op→(∀ x∈op.operands,∀ v,ρ x=some v→VRel R v (ρ' x)) →
  ∃ s,execOp ρ' o=(do pure (.value (← s)))∧zrk P R w s vf ob
theorem zm6 {op:Op}{r:AR}(hf:xj op=true)(e:opA P ρ h op=some r):∃ vf ob,FloatAt P ρ op vf ob:=by
 have loc:∀ h,opA P (zjz ρ op) h op=opA P ρ h op:=fun h=>jB fun x hx=>zhW hx;obtain ⟨vf,ob,k1,k2⟩:=zlk hf ((loc h).trans e);exact ⟨vf,ob,fun h=>(loc h).symm.trans (k1 h),fun R w ρ' o ho hρ=>k2 R w ρ' o ho fun x v hv=>hρ x (vi hv).1 v (vi hv).2⟩
theorem FloatAt.congr {op:Op}{vf:Nat→AV}{ob:AObj}(hl:∀ x∈op.operands,ρ' x=ρ x)(k:FloatAt P ρ op vf ob):FloatAt P ρ' op vf ob :=
 ⟨fun h=>(jB hl).trans (k.1 h),fun R w ρ'' o ho hρ=>k.2 R w ρ'' o ho fun x hx v hv=>hρ x hx v ((hl x hx).trans hv)⟩
end
end Go.Proofs.Ytcdigdplhlgcaaa.Ev
end
section
namespace Go.Proofs.Ytcdigdplhlgcaaa.Ev
open Go
theorem yd {α:Type}{f:Nat→α→Bool}:∀ {l:List α} {i:Nat},kN f l i=true→∀ k a,l[k]?=some a→f (i+k) a=true
 | [],_,_,k,a,e=>by simp at e
 | x::r,i,h,k,a,e=>by
  simp only [kN,Bool.and_eq_true] at h;cases k with
  | zero=>simp at e; subst e; exact h.1
  | succ k =>
   have:=yd h.2 k a (by simpa using e)
   rw [show i+(k+1)=i+1+k by omega]; exact this
theorem zbP {a b:Nat}(h:wP a b=true){i:Nat}(hi:a.testBit i=true):b.testBit i=true:=by
 unfold wP at h;have e:=Nat.eq_of_beq_eq_true h;have:(a &&& b).testBit i=true:=by
  show (Nat.land a b).testBit i=true;rw [e]; exact hi
 rw [Nat.testBit_and,hi] at this;simpa using this
theorem zhf {a b:Nat}(h:wP a b=false):∃ i,a.testBit i=true∧b.testBit i=false:=by
 apply Classical.byContradiction;intro hn;have:a &&& b=a:=by
  apply Nat.eq_of_testBit_eq;intro i;rw [Nat.testBit_and];cases ha:a.testBit i with
  | false=>rfl
  | true =>
   cases hb:b.testBit i with
   | true=>rfl
   | false=>exact absurd ⟨i,ha,hb⟩ hn
 unfold wP at h;have h2:Nat.land a b=a:=this;rw [h2,Nat.beq_refl] at h;cases h
theorem zig (a b i:Nat):(Nat.land a b).testBit i=(a.testBit i&&b.testBit i):=Nat.testBit_and a b i
theorem wu (a b i:Nat):(Nat.lor a b).testBit i=(a.testBit i || b.testBit i):=Nat.testBit_or a b i
theorem zbm (anc:List Nat)(i:Nat):∀ (l:List Edge) (s:Nat),
 (l.foldl (fun s e=>if Region.binds .any e then Nat.lor s (Nat.lor (2 ^ e.on) (anc.getD e.on 0)) else s) s).testBit i=true ↔
  s.testBit i=true∨∃ e∈l,Region.binds .any e=true∧(i=e.on∨(anc.getD e.on 0).testBit i=true)
 | [],s=>by simp
 | x::r,s=>by
  rw [List.foldl_cons,zbm anc i r]
  by_cases hb:Region.binds .any x=true
  ·simp only [hb,if_true,wu,Bool.or_eq_true,Nat.testBit_two_pow,decide_eq_true_eq,List.mem_cons,exists_eq_or_imp,true_and];constructor
   ·rintro ((h | h | h) | h)
    ·exact .inl h
    ·exact .inr (.inl (.inl h.symm))
    ·exact .inr (.inl (.inr h))
    ·exact .inr (.inr h)
   ·rintro (h | (h | h) | h)
    ·exact .inl (.inl h)
    ·exact .inl (.inr (.inl h.symm))
    ·exact .inl (.inr (.inr h))
    ·exact .inr h
  ·simp only [hb,Bool.false_eq_true,if_false,List.mem_cons,exists_eq_or_imp,false_and,false_or]
theorem zex {anc:List Nat}{o:Oper}{i:Nat}:(zl8 anc o).testBit i=true ↔ ∃ e∈o.after,Region.binds .any e=true∧(i=e.on∨(anc.getD e.on 0).testBit i=true):=by
 unfold zl8;rw [zbm];simp
structure PlanIs (P:Program) (all:Array Oper) (pl:Plan):Prop where
 len:pl.ord.length=all.size
 anc:∀ j o,all[j]?=some o→pl.anc.getD j 0=zl8 pl.anc o
 em:∀ j o,all[j]?=some o→pl.em.testBit j=yL P o
 ord:yc all.toList pl.anc pl.em pl.ord 0=true
 guards:∀ j o g w,all[j]?=some o→o.guard=some (g,w)→(pl.anc.getD j 0).testBit g=true
 slots:∀ i o j q,all[i]?=some o→all[j]?=some q→wW P all.toList pl.anc i o j q=true
theorem zj9 {P:Program}{all:Array Oper}{pl:Plan}(h:ziM P all.toList pl=true):PlanIs P all pl:=by
 unfold ziM at h;simp only [Bool.and_eq_true] at h;obtain ⟨⟨⟨⟨⟨h1,h2⟩,h3⟩,h4⟩,h5⟩,h6⟩:=h;have toL:∀ {j:Nat} {o:Oper},all[j]?=some o→all.toList[j]?=some o:=fun e=>by simpa using e
 refine ⟨by have:=Nat.eq_of_beq_eq_true h1; simpa using this,fun j o e=>?_,fun j o e=>?_,h4,fun j o g w e eg=>?_,fun i o j q ei ej=>?_⟩
 ·have:=yd h2 j o (toL e);rw [Nat.zero_add] at this;exact Nat.eq_of_beq_eq_true this
 ·have:=yd h3 j o (toL e);rw [Nat.zero_add] at this;simpa using this
 ·have:=yd h5 j o (toL e);rw [Nat.zero_add] at this;simpa [eg] using this
 ·have:=yd h6 i o (toL ei);have:=yd this j q (toL ej);simpa using this
def Topo (anc:List Nat):List Nat→Prop
 | []=>True
 | i::s=>(∀ a∈i::s,(anc.getD i 0).testBit a=false)∧i ∉ s∧Topo anc s
theorem yi {ops:List Oper}{anc:List Nat}{em j done:Nat}{r:List Nat}(h:yc ops anc em (j::r) done=true) :
 j<ops.length∧done.testBit j=false∧(∀ a,(anc.getD j 0).testBit a=true→done.testBit a=true) ∧
 (em.testBit j=true→(∀ a,em.testBit a=true→done.testBit a=true→(anc.getD j 0).testBit a=true) ∧
  (∀ p,p<ops.length→em.testBit p=false→done.testBit p=false→(anc.getD p 0).testBit j=false→∃ q,(anc.getD p 0).testBit q=true∧em.testBit q=true∧done.testBit q=false)) ∧
 yc ops anc em r (Nat.lor done (2 ^ j))=true:=by
 simp only [yc,Bool.and_eq_true,Bool.not_eq_true'] at h;obtain ⟨⟨⟨⟨h1,h2⟩,h3⟩,h4⟩,h5⟩:=h;refine ⟨by simpa [Nat.blt_eq] using h1,h2,fun a ha=>zbP h3 ha,fun he=>?_,h5⟩
 rw [if_pos he,Bool.and_eq_true] at h4;refine ⟨fun a ha hd=>zbP h4.1 (by rw [zig,ha,hd]; rfl),fun p hp hpe hpd hpj=>?_⟩;have:=yd h4.2 p ops[p] (List.getElem?_eq_getElem hp);rw [Nat.zero_add] at this;unfold zpF at this;rw [hpe,hpd,hpj] at this;simp only [Bool.false_or,Bool.not_eq_true'] at this;obtain ⟨q,q1,q2⟩:=zhf this;rw [zig,Bool.and_eq_true] at q1;exact ⟨q,q1.1,q1.2,q2⟩
theorem qP {ops:List Oper}{anc:List Nat}{em:Nat}:∀ {l:List Nat} {done:Nat},yc ops anc em l done=true →
 (∀ i,i<ops.length→done.testBit i=true∨i∈l)∧(∀ i∈l,i<ops.length∧done.testBit i=false)∧l.Nodup
 | [],done,h=>by
  simp only [yc] at h;have:=Nat.eq_of_beq_eq_true h;refine ⟨fun i hi=>.inl ?_,fun i hi=>absurd hi List.not_mem_nil,List.nodup_nil⟩;have e:done=2 ^ ops.length - 1:=this;rw [e,Nat.testBit_two_pow_sub_one];exact decide_eq_true hi
 | j::r,done,h=>by
  obtain ⟨h1,h2,h3,h4,h5⟩:=yi h;obtain ⟨g1,g2,g3⟩:=qP h5;refine ⟨fun i hi=>?_,fun i hi=>?_,?_⟩
  ·rcases g1 i hi with e | e
   ·rw [wu,Nat.testBit_two_pow,Bool.or_eq_true,decide_eq_true_eq] at e;rcases e with e | e
    ·exact .inl e
    ·exact .inr (by rw [e]; exact List.mem_cons_self)
   ·exact .inr (List.mem_cons_of_mem _ e)
  ·rcases List.mem_cons.1 hi with e | e
   ·rw [e]; exact ⟨h1,h2⟩
   ·have:=g2 i e;rw [wu,Bool.or_eq_false_iff] at this;exact ⟨this.1,this.2.1⟩
  ·refine List.nodup_cons.2 ⟨fun e=>?_,g3⟩;have:=(g2 j e).2;rw [wu,Nat.testBit_two_pow] at this;simp at this
theorem jx {ops:List Oper}{anc:List Nat}{em:Nat}{L:Nat→Prop}:∀ {l:List Nat} {done:Nat},yc ops anc em l done=true→(∀ a,done.testBit a=true→L a)→(∃ j∈l,¬ L j) →
 ∃ j∈l,¬ L j∧∀ a,(anc.getD j 0).testBit a=true→L a
 | [],_,_,_,⟨j,hj,_⟩=>absurd hj List.not_mem_nil
 | j::r,done,h,hd,⟨i,hi,hni⟩=>by
  obtain ⟨h1,h2,h3,h4,h5⟩:=yi h
  by_cases hj:L j
  ·have hi':i∈r:=by
    rcases List.mem_cons.1 hi with e | e
    ·rw [e] at hni; exact absurd hj hni
    ·exact e
   obtain ⟨q,q1,q2,q3⟩:=jx h5 (fun a ha=>by
    rw [wu,Nat.testBit_two_pow,Bool.or_eq_true,decide_eq_true_eq] at ha;rcases ha with e | e
    ·exact hd a e
    ·rw [← e]; exact hj) ⟨i,hi',hni⟩
   exact ⟨q,List.mem_cons_of_mem _ q1,q2,q3⟩
  ·exact ⟨j,List.mem_cons_self,hj,fun a ha=>hd a (h3 a ha)⟩
theorem zeA {p q:Nat→Bool}(h:∀ j,q j=true→p j=true):∀ l:List Nat,(l.filter q).length≤(l.filter p).length
 | []=>Nat.le_refl _
 | x::r=>by
  have:=zeA h r;rw [List.filter_cons,List.filter_cons]
  by_cases hq:q x=true
  ·rw [if_pos hq,if_pos (h x hq)]; simpa using this
  ·rw [if_neg hq];split
   ·rw [List.length_cons]; omega
   ·exact this
theorem zeR {p q:Nat→Bool}(h:∀ j,q j=true→p j=true){i:Nat}(hp:p i=true)(hq:q i=false):∀ l:List Nat,i∈l→(l.filter q).length<(l.filter p).length
 | [],hi=>absurd hi List.not_mem_nil
 | x::r,hi=>by
  have hle:=zeA h r;rw [List.filter_cons,List.filter_cons]
  by_cases hx:x=i
  ·subst hx;rw [if_pos hp,if_neg (by rw [hq]; exact Bool.false_ne_true),List.length_cons]; omega
  ·have:=zeR h hp hq r (by
    rcases List.mem_cons.1 hi with e | e
    ·exact absurd e.symm hx
    ·exact e)
   by_cases hqx:q x=true
   ·rw [if_pos hqx,if_pos (h x hqx)]; simpa using this
   ·rw [if_neg hqx];split
    ·rw [List.length_cons]; omega
    ·exact this
theorem zac {P:Program}{all:Array Oper}{pl:Plan}(pi:PlanIs P all pl):∀ (fuel t:Nat) (listed:Array Bool),listed.size=all.size→(∀ i,listed[i]?=some true→∀ a,(pl.anc.getD i 0).testBit a=true→listed[a]?=some true) →
 ((List.range all.size).filter fun i=>listed[i]?==some false).length≤fuel →
 Topo pl.anc (Region.linearise.go .any all fuel t listed [])∧∀ i,i∈Region.linearise.go .any all fuel t listed [] ↔ listed[i]?=some false:=by
 intro fuel
 induction fuel with
 | zero =>
  intro t listed hs hcl hf;refine ⟨trivial,fun i=>⟨fun hi=>absurd hi List.not_mem_nil,fun hi=>?_⟩⟩;have:i∈(List.range all.size).filter fun i=>listed[i]?==some false:=List.mem_filter.2 ⟨List.mem_range.2 (by rw [← hs]; exact (Array.getElem?_eq_some_iff.1 hi).1),by simp [hi]⟩;rw [List.length_eq_zero_iff.1 (Nat.le_zero.1 hf)] at this;exact absurd this List.not_mem_nil
 | succ fuel ih =>
  intro t listed hs hcl hf;have hready:∀ i,i∈((List.range all.size).filter fun i=>!listed.getD i true&&((all[i]?).map (·.after.all fun e=>!Region.binds .any e || listed.getD e.on false)).getD false) ↔
   (listed[i]?=some false∧∀ a,(pl.anc.getD i 0).testBit a=true→listed[a]?=some true):=by
   intro i;rw [List.mem_filter,List.mem_range];constructor
   ·rintro ⟨h1,h2⟩;rw [Bool.and_eq_true] at h2;obtain ⟨h2,h3⟩:=h2;have hlt:i<listed.size:=by omega
    have hl:listed[i]?=some false:=by
     rw [Array.getElem?_eq_getElem hlt];simpa [Array.getD,hlt] using h2
    refine ⟨hl,fun a ha=>?_⟩;obtain ⟨o,ho⟩:∃ o,all[i]?=some o:=⟨_,Array.getElem?_eq_getElem h1⟩;rw [ho] at h3;simp only [Option.map_some,Option.getD_some,Array.all_eq_true'] at h3;rw [pi.anc i o ho,zex] at ha;obtain ⟨e,he,hb,hor⟩:=ha;have:=h3 e he;rw [hb] at this;simp only [Bool.not_true,Bool.false_or] at this;have hon:listed[e.on]?=some true:=by
     unfold Array.getD at this;split at this
     ·rename_i hlt;rw [Array.getElem?_eq_getElem hlt,← this]; rfl
     ·cases this
    rcases hor with rfl | h
    ·exact hon
    ·exact hcl _ hon a h
   ·rintro ⟨h1,h2⟩;have hlt:i<listed.size:=(Array.getElem?_eq_some_iff.1 h1).1;refine ⟨by omega,?_⟩;rw [Bool.and_eq_true];obtain ⟨o,ho⟩:∃ o,all[i]?=some o:=⟨_,Array.getElem?_eq_getElem (by omega)⟩;refine ⟨by rw [Array.getElem?_eq_getElem hlt] at h1; simp only [Option.some.injEq] at h1; simp [Array.getD,hlt,h1],?_⟩;rw [ho];simp only [Option.map_some,Option.getD_some,Array.all_eq_true'];intro e he;cases hb:Region.binds .any e with
    | false=>rfl
    | true =>
     have:=h2 e.on (by rw [pi.anc i o ho,zex]; exact ⟨e,he,hb,.inl rfl⟩);have hlt':=(Array.getElem?_eq_some_iff.1 this).1;rw [Array.getElem?_eq_getElem hlt'] at this;simp only [Option.some.injEq] at this;simp [Array.getD,hlt',this]
  simp only [Region.linearise.go];generalize hrs:((List.range all.size).filter fun i=>!listed.getD i true&&((all[i]?).map (·.after.all fun e=>!Region.binds .any e || listed.getD e.on false)).getD false)=rs at hready ⊢;split
  ·rename_i i hi;have him:i∈rs:=List.mem_of_getElem? hi;obtain ⟨h1,h2⟩:=(hready i).1 him;have hlt:i<listed.size:=(Array.getElem?_eq_some_iff.1 h1).1;have hget:∀ j,(listed.setIfInBounds i true)[j]?=if j=i then some true else listed[j]?:=by
    intro j;rw [Array.getElem?_setIfInBounds]
    by_cases hj:i=j
    ·subst hj; simp [hlt]
    ·rw [if_neg hj,if_neg (fun e=>hj e.symm)]
   have hcl':∀ k,(listed.setIfInBounds i true)[k]?=some true→∀ a,(pl.anc.getD k 0).testBit a=true→(listed.setIfInBounds i true)[a]?=some true:=by
    intro k hk a ha;rw [hget] at hk ⊢
    by_cases hai:a=i
    ·rw [if_pos hai]
    ·rw [if_neg hai]
     by_cases hki:k=i
     ·subst hki; exact h2 a ha
     ·rw [if_neg hki] at hk; exact hcl k hk a ha
   have hlen:((List.range all.size).filter fun j=>(listed.setIfInBounds i true)[j]?==some false).length≤fuel:=by
    refine Nat.le_of_lt_succ (Nat.lt_of_lt_of_le (zeR (p:=fun j=>listed[j]?==some false) (i:=i) (fun j hj=>?_) (by simp [h1]) ?_ _ (List.mem_range.2 (by omega))) hf)
    ·rw [hget] at hj;split at hj
     ·simp at hj
     ·exact hj
    ·simp [hget]
   obtain ⟨g1,g2⟩:=ih (t / rs.length) (listed.setIfInBounds i true) (by simpa using hs) hcl' hlen
   rw [linearise_go_acc,List.reverse_singleton,List.singleton_append];refine ⟨⟨fun a ha=>?_,fun hmem=>?_,g1⟩,fun j=>?_⟩
   ·cases hb:(pl.anc.getD i 0).testBit a with
    | false=>rfl
    | true =>
     have hla:=h2 a hb;rcases List.mem_cons.1 ha with e | e
     ·rw [e,h1] at hla; cases hla
     ·have:=(g2 a).1 e;rw [hget] at this;split at this
      ·cases this
      ·rw [hla] at this; cases this
   ·have:=(g2 i).1 hmem;rw [hget,if_pos rfl] at this; cases this
   ·rw [List.mem_cons,g2,hget]
    by_cases hj:j=i
    ·subst hj; simp [h1]
    ·simp [hj]
  ·rename_i hnone;have hempty:rs=[]:=by
    cases rs with
    | nil=>rfl
    | cons x r =>
     have:t % (x::r).length<(x::r).length:=Nat.mod_lt _ (by simp);rw [List.getElem?_eq_getElem this] at hnone; cases hnone
   refine ⟨trivial,fun i=>⟨fun hi=>absurd hi List.not_mem_nil,fun hi=>?_⟩⟩;exfalso;have hlt:i<all.size:=by rw [← hs]; exact (Array.getElem?_eq_some_iff.1 hi).1
   obtain ⟨a1,a2,a3⟩:=qP pi.ord;have him:i∈pl.ord:=by
    rcases a1 i (by simpa using hlt) with e | e
    ·simp at e
    ·exact e
   obtain ⟨j,j1,j2,j3⟩:=jx (L:=fun a=>listed[a]?=some true) pi.ord (fun a ha=>by simp at ha) ⟨i,him,by simp [hi]⟩;have hj:j<listed.size:=by rw [hs]; have:=(a2 j j1).1; simpa using this
   have:j∈rs:=(hready j).2 ⟨by
    rw [Array.getElem?_eq_getElem hj] at j2 ⊢;cases hb:listed[j] with
    | false=>rfl
    | true=>rw [hb] at j2; exact absurd rfl j2,j3⟩
   rw [hempty] at this;exact absurd this List.not_mem_nil
theorem zcr {P:Program}{all:Array Oper}{pl:Plan}(pi:PlanIs P all pl)(t:Nat):Topo pl.anc (Region.linearise .any all t)∧∀ i,i∈Region.linearise .any all t ↔ i<all.size:=by
 obtain ⟨g1,g2⟩:=zac pi all.size t (Array.replicate all.size false) (by simp) (fun i hi=>by
  rw [Array.getElem?_replicate] at hi; split at hi <;> simp at hi) (by
  refine Nat.le_trans (List.length_filter_le _ _) (by simp))
 refine ⟨g1,fun i=>?_⟩;show i∈Region.linearise.go .any all all.size t (Array.replicate all.size false) [] ↔ _;rw [g2,Array.getElem?_replicate];split <;> simp [*]
end Go.Proofs.Ytcdigdplhlgcaaa.Ev
end
section
namespace Go.Proofs.Ytcdigdplhlgcaaa.Ev
open Go
def ItemRel (R:Bij):AItem→Item→Prop
 | .code c,it=>it=.code c
 | .inBlock i,it=>it=.inBlock i
 | .inLoop b,it=>it=.inLoop b
 | .inScope b,it=>it=.inScope b
 | .ops all l,it=>∃ ops todo,it=.inRegion ops todo∧ops.toList=all∧l.map some=todo.map (fun i=>ops[i]?)
 | .drw _ _ _,_=>False
 | .inRange i,it=>∃ L,R i 0=some L∧it=.inRangeFunc L.block
 | .endRange i,it=>∃ L,R i 0=some L∧it=.endRangeFunc L.block
 | .beginRound,it=>it=.beginRound
theorem ItemRel.mono {R R':Bij}(h:R.le R'){a:AItem}{b:Item}(k:ItemRel R a b):ItemRel R' a b:=by
 cases a with
 | inRange i=>obtain ⟨L,e,r⟩:=k; exact ⟨L,h _ _ _ e,r⟩
 | endRange i=>obtain ⟨L,e,r⟩:=k; exact ⟨L,h _ _ _ e,r⟩
 | _=>exact k
def zhY (R:Bij) (a:AV × Bool) (e:PanicEntry):Prop:=VRel R a.1 e.v∧e.recovered=a.2∧e.goexit=false
def ModeRel (R:Bij):AMode→FrameMode→Prop
 | .run,m=>m=.run
 | .returning,m=>m=.returning
 | .panicking c,m=>∃ c',m=.panicking c'∧All2 (zhY R) c c'
theorem ModeRel.mono {R R':Bij}(h:R.le R'){a:AMode}{b:FrameMode}(k:ModeRel R a b):ModeRel R' a b:=by
 cases a with
 | panicking c=>obtain ⟨c',e,r⟩:=k; exact ⟨c',e,r.mono fun _ _ q=>⟨VRel.mono h _ _ q.1,q.2⟩⟩
 | _=>exact k
def RoundRel (R:Bij):Option Nat→Option Nat→Prop
 | none,r=>r=none
 | some l,r=>∃ L,R l 0=some L∧r=some L.block
theorem RoundRel.mono {R R':Bij}(h:R.le R'){a b:Option Nat}(k:RoundRel R a b):RoundRel R' a b:=by
 cases a with
 | none=>exact k
 | some l=>obtain ⟨L,e,r⟩:=k; exact ⟨L,h _ _ _ e,r⟩
def Slots (R:Bij) (t:T AV) (a:Array Value):Prop:=∀ u v,t.get u=some v→∃ x,a[u]?=some x∧VRel R v x
theorem Slots.mono {R R':Bij}(h:R.le R'){t:T AV}{a:Array Value}(k:Slots R t a):Slots R' t a:=fun u v e=>by
 obtain ⟨x,e1,e2⟩:=k u v e;exact ⟨x,e1,VRel.mono h _ _ e2⟩
def Pend (P:Program) (B:Base) (d:Nat) (sus:Bool) (all:Array Oper) (t:T AV) (h:AHeap) (p:Nat) (o:Oper):Prop :=
 ∃ wt,xd all.toList t o.guard=some wt ∧
  (wt=false→∀ u,o.dst=some u→t.get u=some xE) ∧
  (wt=true →
   (xj o.op=true∧∃ vf ob id,FloatAt P (ev t) o.op vf ob∧B.pend id=some ob∧B.tag id=(d,p)∧∀ u,o.dst=some u→t.get u=some (vf id)) ∨
   (xj o.op=false∧jA o.op=true∧∃ v,(∀ h,opA P (ev t) h o.op=some (.val v h))∧∀ u,o.dst=some u→t.get u=some v) ∨
   (xj o.op=false∧jA o.op=false∧yq P o.op=true∧(sus=true∨∃ v,opA P (ev t) h o.op=some (.val v h)∧∀ u,o.dst=some u→t.get u=some v)))
structure Drw (P:Program) (B:Base) (R:Bij) (d:Nat) (sus:Bool) (all:Array Oper) (todo dn:List Nat) (t:T AV) (h:AHeap) (a:Array Value) (s:List Nat):Prop where
 plan:PlanIs P all (zE P all.toList)
 split:dn.reverse++todo=(zE P all.toList).ord
 topo:Topo (zE P all.toList).anc s
 rest:∀ i∈todo,i∈s
 own:∀ i∈s,i<all.size
 effs:∀ i∈dn,(zE P all.toList).em.testBit i=true→i ∉ s
 head:sus=true→∀ i l,todo=i::l→(∃ s',s=i::s')∧(zE P all.toList).em.testBit i=true
 slots:∀ u v,t.get u=some v→(∃ q∈dn,q∈s∧(all[q]?).bind (·.dst)=some u)∨∃ x,a[u]?=some x∧VRel R v x
 pend:∀ p∈dn,p∈s→∀ o,all[p]?=some o→Pend P B d sus all t h p o
 bound:∀ p∈dn,∀ o u,all[p]?=some o→o.dst=some u→u<a.size
def Base.keeps (B B':Base) (D:Nat):Prop:=B'.env=B.env∧∀ id ob,B.pend id=some ob→(B.tag id).1<D→B'.pend id=some ob∧B'.tag id=B.tag id
theorem Pend.mono {P:Program}{B B':Base}{d D:Nat}{all:Array Oper}{t:T AV}{h h':AHeap}{p:Nat}{o:Oper}(hb:B.keeps B' D)(hd:d<D)(k:Pend P B d true all t h p o):Pend P B' d true all t h' p o:=by
 obtain ⟨wt,k1,k2,k3⟩:=k;refine ⟨wt,k1,k2,fun hw=>?_⟩;rcases k3 hw with ⟨f1,vf,ob,id,f2,f3,f4,f5⟩ | ⟨f1,f2,v,f3,f4⟩ | ⟨f1,f2,f3,_⟩
 ·obtain ⟨g1,g2⟩:=hb.2 id ob f3 (by rw [f4]; exact hd);exact .inl ⟨f1,vf,ob,id,f2,g1,g2.trans f4,f5⟩
 ·exact .inr (.inl ⟨f1,f2,v,f3,f4⟩)
 ·exact .inr (.inr ⟨f1,f2,f3,.inl rfl⟩)
theorem Drw.mono {P:Program}{B B':Base}{R R':Bij}{d D:Nat}{all:Array Oper}{todo dn:List Nat}{t:T AV}{h h':AHeap}{a:Array Value}{s:List Nat}(hle:R.le R')(hb:B.keeps B' D)(hd:d<D)
 (k:Drw P B R d true all todo dn t h a s):Drw P B' R' d true all todo dn t h' a s where
 plan:=k.plan
 split:=k.split
 topo:=k.topo
 rest:=k.rest
 own:=k.own
 effs:=k.effs
 head:=k.head
 slots u v e:=by
  rcases k.slots u v e with g | ⟨x,e1,e2⟩
  ·exact .inl g
  ·exact .inr ⟨x,e1,VRel.mono hle _ _ e2⟩
 pend p h1 h2 o ho:=(k.pend p h1 h2 o ho).mono hb hd
 bound:=k.bound
def TodoRel (P:Program) (B:Base) (R:Bij) (d:Nat) (sus:Bool) (h:AHeap) (todo:List AItem) (t:T AV) (ctodo:List Item) (a:Array Value):Prop:=match todo with
 | .drw all l dn::k=>∃ s k',ctodo=.inRegion all s::k'∧All2 (ItemRel R) k k'∧Drw P B R d sus all l dn t h a s
 | todo=>All2 (ItemRel R) todo ctodo∧Slots R t a
def zfJ (P:Program) (B:Base) (R:Bij) (d:Nat) (sus:Bool) (h:AHeap) (mode:AMode) (todo:List AItem) (t:T AV) (ctodo:List Item) (a:Array Value):Prop:=match mode with
 | .run=>TodoRel P B R d sus h todo t ctodo a
 | _=>Slots R t a
structure FrameRel (P:Program) (B:Base) (R:Bij) (d:Nat) (sus:Bool) (h:AHeap) (af:AFrame) (fr:Frame):Prop where
 fn:fr.fn=af.fn
 fnOk:∃ f,P.funcs[af.fn]?=some f
 kind:fr.kind=af.kind
 kindOk:af.kind=.normal∨af.kind=.deferred
 round:RoundRel R af.round fr.roundOf
 defers:All2 (DefRel R) af.defers fr.defers
 mode:ModeRel R af.mode fr.mode
 size:fr.tmps.size=af.n
 top:zfJ P B R d sus h af.mode af.todo af.tmps fr.todo fr.tmps
theorem TodoRel.mono {P:Program}{B B':Base}{R R':Bij}{d D:Nat}{h h':AHeap}{todo:List AItem}{t:T AV}{ctodo:List Item}{a:Array Value}(hle:R.le R')(hb:B.keeps B' D)(hd:d<D)
 (k:TodoRel P B R d true h todo t ctodo a):TodoRel P B' R' d true h' todo t ctodo a:=by
 unfold TodoRel at k ⊢;split at k
 ·obtain ⟨s,k',e1,e2,e3⟩:=k;exact ⟨s,k',e1,e2.mono fun _ _ q=>q.mono hle,e3.mono hle hb hd⟩
 ·rename_i hn;exact ⟨k.1.mono fun _ _ q=>q.mono hle,k.2.mono hle⟩
theorem FrameRel.mono {P:Program}{B B':Base}{R R':Bij}{d D:Nat}{h h':AHeap}{af:AFrame}{fr:Frame}(hle:R.le R')(hb:B.keeps B' D)(hd:d<D)(k:FrameRel P B R d true h af fr) :
 FrameRel P B' R' d true h' af fr where
 fn:=k.fn
 fnOk:=k.fnOk
 kind:=k.kind
 kindOk:=k.kindOk
 round:=k.round.mono hle
 defers:=k.defers.mono fun _ _ q=>q.mono hle
 mode:=k.mode.mono hle
 size:=k.size
 top:=by
  have:=k.top;unfold zfJ at this ⊢;split at this
  ·exact this.mono hle hb hd
  ·exact this.mono hle
def StackRel (P:Program) (B:Base) (R:Bij) (h:AHeap):List AFrame→List Frame→Prop
 | [],fs=>fs=[]
 | a::aS,fs=>∃ f r,fs=f::r∧FrameRel P B R aS.length true h a f∧StackRel P B R h aS r
theorem StackRel.mono {P:Program}{B B':Base}{R R':Bij}{D:Nat}{h h':AHeap}(hle:R.le R')(hb:B.keeps B' D):∀ {aS:List AFrame} {fs:List Frame},aS.length≤D→StackRel P B R h aS fs→StackRel P B' R' h' aS fs
 | [],_,_,k=>k
 | a::aS,fs,hd,⟨f,r,e,k1,k2⟩=>⟨f,r,e,k1.mono hle hb (by simp at hd; omega),k2.mono hle hb (by simp at hd; omega)⟩
structure Old (w0 w:World):Prop where
 os:w.os=w0.os
 tape:w.tape=w0.tape
 output:w.output=w0.output
 size:w0.heap.size≤w.heap.size
 other:∀ b,b<w0.heap.size→w.heap[b]?=w0.heap[b]?
 drawn:w0.drawn≤w.drawn
structure Old0 (w0 w:World):Prop where
 os:w.os=w0.os
 tape:w.tape=w0.tape
 output:w.output=w0.output
 size:w0.heap.size≤w.heap.size
 drawn:w0.drawn≤w.drawn
theorem Old0.keeps {P:Program}{B:Base}{R R':Bij}{h:AHeap}{w0:Env}{w w':World}(k:Old0 w0.toWorld w)(_:B.env=w0)(_:HRel P B R h w)(q:Keeps R w R' w'):Old0 w0.toWorld w' where
 os:=q.os.trans k.os
 tape:=q.tape.trans k.tape
 output:=q.output.trans k.output
 size:=Nat.le_trans k.size q.size
 drawn:=Nat.le_trans k.drawn q.drawn
structure OldX (w0:Env) (w:World):Prop extends Old0 w0.toWorld w where
 other:∀ b,b<w0.heap.size→¬ w0.own b→w.heap[b]?=w0.heap[b]?
theorem Old0.all {P:Program}{B:Base}{R:Bij}{h:AHeap}{w0:Env}{w:World}(k:Old0 w0.toWorld w)(hB:B.env=w0)(kh:HRel P B R h w):OldX w0 w :=
 ⟨k,fun b hb hn=>by
  subst hB;exact kh.low b (fun e=>e.elim (fun e=>absurd hb (Nat.not_lt.2 e)) hn)⟩
theorem OldX.old {w0:Env}{w:World}(k:OldX w0 w)(h:∀ b,¬ w0.own b):Old w0.toWorld w:=⟨k.os,k.tape,k.output,k.size,fun b hb=>k.other b hb (h b),k.drawn⟩
def Sim (P:Program) (w0:Env) (base:List Frame) (m:AM) (fr:Frame) (cs:List Frame) (w:World):Prop :=
 ∃ B R fs,cs=fs++base∧B.env=w0∧HRel P B R m.heap w∧Old0 w0.toWorld w∧FrameRel P B R m.rest.length false m.heap m.top fr∧StackRel P B R m.heap m.rest fs
end Go.Proofs.Ytcdigdplhlgcaaa.Ev
end
section
namespace Go.Proofs.Ytcdigdplhlgcaaa.Ev
open Go
theorem qN {ops:List Oper}{anc:List Nat}{em:Nat}:∀ {l1 l2:List Nat} {done:Nat},yc ops anc em (l1++l2) done=true →
 ∃ done',yc ops anc em l2 done'=true∧(∀ a,done'.testBit a=true ↔ (done.testBit a=true∨a∈l1))∧∀ p∈l1,∀ a,(anc.getD p 0).testBit a=true→done.testBit a=true∨a∈l1
 | [],l2,done,h=>⟨done,h,fun a=>by simp,fun p hp=>absurd hp List.not_mem_nil⟩
 | j::l1,l2,done,h=>by
  obtain ⟨h1,h2,h3,h4,h5⟩:=yi h;obtain ⟨d',g1,g2,g3⟩:=qN h5;have hb:∀ a,(Nat.lor done (2 ^ j)).testBit a=true ↔ (done.testBit a=true∨a=j):=fun a=>by
   rw [wu,Nat.testBit_two_pow,Bool.or_eq_true,decide_eq_true_eq];exact or_congr Iff.rfl eq_comm
  refine ⟨d',g1,fun a=>by rw [g2,hb,List.mem_cons,or_assoc],fun p hp a ha=>?_⟩;rcases List.mem_cons.1 hp with e | e
  ·rw [e] at ha; exact .inl (h3 a ha)
  ·rcases g3 p e a ha with q | q
   ·rcases (hb a).1 q with q | q
    ·exact .inl q
    ·exact .inr (by rw [q]; exact List.mem_cons_self)
   ·exact .inr (List.mem_cons_of_mem _ q)
section
variable {P:Program} {B:Base} {R:Bij} {d:Nat} {sus:Bool} {all:Array Oper} {todo dn:List Nat} {t:T AV} {h:AHeap} {a:Array Value} {s:List Nat}
theorem Drw.facts (k:Drw P B R d sus all todo dn t h a s) :
 (∀ p∈dn,∀ x,((zE P all.toList).anc.getD p 0).testBit x=true→x∈dn) ∧
 (∀ i,i<all.size→i∈dn∨i∈todo)∧(∀ i∈dn,i<all.size)∧(∀ i∈todo,i<all.size)∧(dn.reverse++todo).Nodup ∧
 ∃ done,yc all.toList (zE P all.toList).anc (zE P all.toList).em todo done=true∧∀ x,done.testBit x=true ↔ x∈dn:=by
 have ho:=k.plan.ord;rw [← k.split] at ho;obtain ⟨a1,a2,a3⟩:=qP ho;obtain ⟨d',g1,g2,g3⟩:=qN ho;refine ⟨fun p hp x hx=>?_,fun i hi=>?_,fun i hi=>?_,fun i hi=>?_,a3,d',g1,fun x=>?_⟩
 ·rcases g3 p (by simpa using hp) x hx with q | q
  ·simp at q
  ·simpa using q
 ·rcases a1 i (by simpa using hi) with q | q
  ·simp at q
  ·simpa using q
 ·have:=(a2 i (by simp [hi])).1; simpa using this
 ·have:=(a2 i (by simp [hi])).1; simpa using this
 ·rw [g2]; simp
theorem zo1 {t:T AV}{u:Nat}{v:Option AV}{x:Operand}(hx:x≠.tmp u):ev (t.set v u) x=ev t x:=by
 cases x with
 | tmp i=>show (t.set v u).get i=t.get i; exact T.get_set_other _ _ (fun e=>hx (by rw [e]))
 | const c=>rfl
 | global g=>rfl
 | func f=>rfl
theorem xI {ops:List Oper}{o:Oper}{u:Nat}(hx:Operand.tmp u∈o.op.operands):(zO ops o).contains u=true:=by
 rw [List.contains_iff_mem];unfold zO;refine List.mem_append_left _ (List.mem_filterMap.2 ⟨.tmp u,by simpa using hx,rfl⟩)
theorem qg {ops:List Oper}{o q:Oper}{g u:Nat}{b:Bool}(hg:o.guard=some (g,b))(hq:ops[g]?=some q)(hu:q.dst=some u):(zO ops o).contains u=true:=by
 rw [List.contains_iff_mem];unfold zO;refine List.mem_append_right _ ?_;rw [hg];simp [hq,hu]
theorem zgC {o:Oper}{u:Nat}{v:Option AV}(ops:List Oper)(hm:(zO ops o).contains u=false)(h:AHeap):opA P (ev (t.set v u)) h o.op=opA P (ev t) h o.op :=
 jB fun x hx=>zo1 fun e=>by rw [e] at hx; rw [xI hx] at hm; cases hm
theorem kn {ops:List Oper}{o:Oper}{u:Nat}{v:Option AV}(hm:(zO ops o).contains u=false):xd ops (t.set v u) o.guard=xd ops t o.guard:=by
 cases hg:o.guard with
 | none=>rfl
 | some gb =>
  obtain ⟨g,b⟩:=gb;simp only [xd];cases hq:ops[g]? with
  | none=>rfl
  | some q =>
   cases hu:q.dst with
   | none=>simp only [zlL,hu,zf1]
   | some u' =>
    simp only [zlL,hu,zf1];rw [T.get_set_other];intro e;have:=qg hg hq hu;rw [e,hm] at this; cases this
theorem FloatAt.set {o:Oper}{u:Nat}{v:Option AV}{vf:Nat→AV}{ob:AObj}(ops:List Oper)(hm:(zO ops o).contains u=false)(k:FloatAt P (ev t) o.op vf ob):FloatAt P (ev (t.set v u)) o.op vf ob :=
 k.congr fun x hx=>zo1 fun e=>by rw [e] at hx; rw [xI hx] at hm; cases hm
theorem Drw.apart (k:Drw P B R d sus all todo dn t h a s){i p u:Nat}{o q:Oper}(hi:all[i]?=some o)(hu:o.dst=some u)(hin:i ∉ dn)(hp:p∈dn)(hq:all[p]?=some q)
 (hpe:(zE P all.toList).em.testBit p=false) (hanc:(zE P all.toList).em.testBit i=true→((zE P all.toList).anc.getD i 0).testBit p=false) :
 (zO all.toList q).contains u=false∧q.dst≠some u:=by
 obtain ⟨f1,f2,f3,f4,f5,_⟩:=k.facts;have hne:i≠p:=fun e=>hin (by rw [e]; exact hp);have hpi:((zE P all.toList).anc.getD p 0).testBit i=false:=by
  cases hb:((zE P all.toList).anc.getD p 0).testBit i with
  | false=>rfl
  | true=>exact absurd (f1 p hp i hb) hin
 have h1:=k.plan.slots i o p q hi hq;have h2:=k.plan.slots p q i o hq hi;have hqe:yL P q=false:=by rw [← k.plan.em p q hq]; exact hpe
 have hbe:Nat.beq i p=false:=by
  cases hb:Nat.beq i p with
  | false=>rfl
  | true=>exact absurd (Nat.eq_of_beq_eq_true hb) hne
 have hbe':Nat.beq p i=false:=by
  cases hb:Nat.beq p i with
  | false=>rfl
  | true=>exact absurd (Nat.eq_of_beq_eq_true hb).symm hne
 have hdst:q.dst≠some u:=by
  intro e;simp only [wW,e,hbe',hqe,Bool.false_eq_true,if_false,hu,beq_self_eq_true,Bool.not_true,Bool.false_and] at h2
 refine ⟨?_,hdst⟩;cases hm:(zO all.toList q).contains u with
 | false=>rfl
 | true =>
  simp only [wW,hu,hbe,Bool.false_eq_true,if_false,hm,Bool.true_or,if_true,hpi,Bool.false_or] at h1;split at h1
  ·rename_i he;rw [hanc (by rw [k.plan.em i o hi]; exact he)] at h1; cases h1
  ·simp at h1
theorem ziW {u v:Option AV}(e:zqz u v=true):∃ x,u=some x∧v=some x:=by
 unfold zqz at e;split at e
 ·cases e
 ·split at e
  ·cases e
  ·rename_i x _ y;exact ⟨x,rfl,by rw [wX _ _ _ e]⟩
theorem zcY {ρ:Operand→Option AV}{o:Op}{v:AV}(hr:yq P o=true)(e:wl P ρ h o=some v):opA P ρ h o=some (.val v h):=by
 unfold wl at e;split at e
 ·rename_i w' h' ho;cases e;obtain ⟨v',e1⟩:=zhV hr ho;rw [ho,e1];cases e1; rfl
 ·cases e
theorem kg {l:List Oper}{anc:Nat}:∀ {dn:List Nat},yW P l anc t h dn=true→∀ p∈dn,vv P l anc t h p l[p]?=true
 | [],_,p,hp=>absurd hp List.not_mem_nil
 | q::r,e,p,hp=>by
  simp only [yW,Bool.and_eq_true] at e;rcases List.mem_cons.1 hp with rfl | hp
  ·exact e.1
  ·exact kg e.2 p hp
noncomputable def zjO (t:T AV) (u:Option Nat) (v:AV):T AV:=match u with
 | none=>t
 | some u=>t.set (some v) u
theorem Pend.again {p:Nat}{o:Oper}{u:Option Nat}{v:AV}{t':T AV}{h':AHeap}(k:Pend P B d true all t h p o)(ht:t'=zjO t u v)
 (hm:∀ x,u=some x→(zO all.toList o).contains x=false∧o.dst≠some x)
 (hr:yq P o.op=true→jA o.op=false→xj o.op=false→qO P all.toList t' h' o=true):Pend P B d false all t' h' p o:=by
 have hop:∀ h,opA P (ev t') h o.op=opA P (ev t) h o.op:=fun h=>by
  subst ht;cases u with
  | none=>rfl
  | some u=>exact zgC all.toList (hm u rfl).1 h
 have hw:xd all.toList t' o.guard=xd all.toList t o.guard:=by
  subst ht;cases u with
  | none=>rfl
  | some u=>exact kn (hm u rfl).1
 have hd:∀ x,o.dst=some x→t'.get x=t.get x:=fun x hx=>by
  subst ht;cases u with
  | none=>rfl
  | some u=>exact T.get_set_other _ _ fun e=>(hm u rfl).2 (by rw [hx,e])
 have hfl:∀ {vf ob},FloatAt P (ev t) o.op vf ob→FloatAt P (ev t') o.op vf ob:=fun k=>by
  subst ht;cases u with
  | none=>exact k
  | some u=>exact k.set all.toList (hm u rfl).1
 obtain ⟨wt,k1,k2,k3⟩:=k;refine ⟨wt,by rw [hw]; exact k1,fun hf x hx=>by rw [hd x hx]; exact k2 hf x hx,fun ht'=>?_⟩;rcases k3 ht' with ⟨f1,vf,ob,id,f2,f3,f4,f5⟩ | ⟨f1,f2,v',f3,f4⟩ | ⟨f1,f2,f3,_⟩
 ·exact .inl ⟨f1,vf,ob,id,hfl f2,f3,f4,fun x hx=>by rw [hd x hx]; exact f5 x hx⟩
 ·exact .inr (.inl ⟨f1,f2,v',fun h=>by rw [hop]; exact f3 h,fun x hx=>by rw [hd x hx]; exact f4 x hx⟩)
 ·refine .inr (.inr ⟨f1,f2,f3,.inr ?_⟩);have hrr:=hr f3 f2 f1;unfold qO at hrr;rw [hw,k1] at hrr;subst ht';simp only [] at hrr;cases hdst:o.dst with
  | none =>
   rw [hdst] at hrr;simp only [] at hrr;obtain ⟨v',hv'⟩:=Option.isSome_iff_exists.1 hrr;exact ⟨v',zcY f3 hv',fun x hx=>by cases hx⟩
  | some dd =>
   rw [hdst] at hrr;simp only [] at hrr;obtain ⟨v',g1,g2⟩:=ziW hrr;exact ⟨v',zcY f3 g1,fun x hx=>by cases hx; exact g2⟩
end
end Go.Proofs.Ytcdigdplhlgcaaa.Ev
end
section
namespace Go.Proofs.Ytcdigdplhlgcaaa.Ev
open Go
section
variable {P:Program} {B:Base} {R:Bij} {d:Nat} {h:AHeap}
theorem za0 {t t':T AV}{n:Nat}{u:Option Nat}{v:AV}(e:zj5 t n u v=some t'):t'=zjO t u v∧∀ x,u=some x→x<n:=by
 unfold zj5 at e;split at e
 ·cases e; exact ⟨rfl,fun x hx=>by cases hx⟩
 ·split at e
  ·rename_i hb;simp only [Option.some.injEq] at e;subst e;exact ⟨rfl,fun x hx=>by cases hx; rw [Nat.blt_eq] at hb; exact hb⟩
  ·cases e
def zhs (a:Array Value) (u:Option Nat) (x:Value):Array Value:=match u with
 | some d=>a.setIfInBounds d x
 | none=>a
theorem wR (a:Array Value)(u:Option Nat)(x:Value):(zhs a u x).size=a.size:=by
 cases u <;> simp [zhs]
theorem zdt {a:Array Value}{u:Option Nat}{x:Value}(i:Nat)(hu:∀ y,u=some y→y<a.size):(zhs a u x)[i]?=if u=some i then some x else a[i]?:=by
 cases u with
 | none=>simp [zhs]
 | some y =>
  have:=hu y rfl;simp only [zhs,Option.some.injEq,Array.getElem?_setIfInBounds]
  by_cases hy:y=i
  ·subst hy; simp [this]
  ·simp [hy]
theorem za8 {t:T AV}{u:Option Nat}{v:AV}(i:Nat):(zjO t u v).get i=if u=some i then some v else t.get i:=by
 cases u with
 | none=>simp [zjO]
 | some y =>
  simp only [zjO];rw [T.get_set]
  by_cases hy:i=y
  ·subst hy; simp
  ·rw [if_neg hy,if_neg (fun e=>hy (Option.some.inj e).symm)]
theorem xS {sus:Bool}{h:AHeap}{k:List AItem}{k':List Item}{t:T AV}{a:Array Value}(hk:All2 (ItemRel R) k k')(hs:Slots R t a):TodoRel P B R d sus h k t k' a:=by
 unfold TodoRel;split
 ·obtain ⟨b,bs,_,h1,_⟩:=hk;exact absurd h1 (fun e=>e)
 ·exact ⟨hk,hs⟩
theorem Slots.put {t t':T AV}{a:Array Value}{n:Nat}{u:Option Nat}{v:AV}{x:Value}(k:Slots R t a)(hs:a.size=n)(e:zj5 t n u v=some t')(hv:VRel R v x):Slots R t' (zhs a u x):=by
 obtain ⟨rfl,hu⟩:=za0 e;intro i y hy;rw [za8] at hy;rw [zdt i (fun y hy=>by rw [hs]; exact hu y hy)];split at hy
 ·rename_i hi; cases hy; rw [if_pos hi]; exact ⟨x,rfl,hv⟩
 ·rename_i hi; rw [if_neg hi]; exact k i y hy
theorem Drw.finish {all:Array Oper}{i:Nat}{l dn:List Nat}{t t':T AV}{h0 h:AHeap}{a:Array Value}{s:List Nat}{n:Nat}{o:Oper}{v:AV}{x:Value}(k:Drw P B R d true all (i::l) dn t h0 a s)(ho:all[i]?=some o)
 (hs:a.size=n) (e:zj5 t n o.dst v=some t') (hv:VRel R v x) (hr:yW P all.toList ((zE P all.toList).anc.getD i 0) t' h dn=true) :
 ∃ s',s=i::s'∧Drw P B R d false all l (i::dn) t' h (zhs a o.dst x) s':=by
 obtain ⟨⟨s',rfl⟩,hem⟩:=k.head rfl i l rfl;obtain ⟨f1,f2,f3,f4,f5,_⟩:=k.facts;obtain ⟨t1,t2,t3⟩:=k.topo;have hidn:i ∉ dn:=fun hi=>by
  have:=List.nodup_append.1 f5;exact this.2.2 i (by simpa using hi) i List.mem_cons_self rfl
 have hil:i ∉ l:=(List.nodup_cons.1 (List.nodup_append.1 f5).2.1).1;obtain ⟨rfl,hu⟩:=za0 e;refine ⟨s',rfl,⟨k.plan,?_,t3,fun j hj=>?_,fun j hj=>k.own j (List.mem_cons_of_mem _ hj),fun j hj hje=>?_,fun hh=>(by cases hh),fun u y hy=>?_,fun p hp hps q hq=>?_,fun p hp q u hq hqu=>?_⟩⟩
 ·rw [← k.split]; simp
 ·rcases List.mem_cons.1 (k.rest j (List.mem_cons_of_mem _ hj)) with e | e
  ·rw [e] at hj; exact absurd hj hil
  ·exact e
 ·rcases List.mem_cons.1 hj with e | e
  ·rw [e]; exact t2
  ·exact fun hh=>k.effs j e hje (List.mem_cons_of_mem _ hh)
 ·rw [za8] at hy;rw [zdt u (fun y hy=>by rw [hs]; exact hu y hy)];split at hy
  ·rename_i hi; cases hy; rw [if_pos hi]; exact .inr ⟨x,rfl,hv⟩
  ·rename_i hi;rw [if_neg hi];rcases k.slots u y hy with ⟨q,g1,g2,g3⟩ | g
   ·refine .inl ⟨q,List.mem_cons_of_mem _ g1,?_,g3⟩;rcases List.mem_cons.1 g2 with e | e
    ·rw [e] at g1; exact absurd g1 hidn
    ·exact e
   ·exact .inr g
 ·rcases List.mem_cons.1 hp with e | hp
  ·rw [e] at hps; exact absurd hps t2
  ·have hpe:(zE P all.toList).em.testBit p=false:=by
    cases hb:(zE P all.toList).em.testBit p with
    | false=>rfl
    | true=>exact absurd (List.mem_cons_of_mem _ hps) (k.effs p hp hb)
   have hanc:((zE P all.toList).anc.getD i 0).testBit p=false:=t1 p (List.mem_cons_of_mem _ hps);refine (k.pend p hp (List.mem_cons_of_mem _ hps) q hq).again rfl (fun y hy=>k.apart ho hy hidn hp hq hpe fun _=>hanc) fun h1 _ _=>?_;have:=kg hr p hp;rw [show all.toList[p]?=some q by simpa using hq] at this
   simp only [vv,h1,hanc,Bool.not_false,Bool.and_self] at this;exact this
 ·rw [wR];rcases List.mem_cons.1 hp with e | hp
  ·rw [e,ho] at hq; cases hq; rw [hs]; exact hu u hqu
  ·exact k.bound p hp q u hq hqu
theorem xT {af af':AFrame}{fr:Frame}{h0:AHeap}{v:AV}{x:Value}(k:FrameRel P B R d true h0 af fr)(hm:af.mode=.run)(e:z7 P af h v=some af')(hv:VRel R v x):FrameRel P B R d false h af' (fr.finish x):=by
 obtain ⟨fn,n,t,todo,ds,mode,kind,round⟩:=af;simp only at hm;subst hm;obtain ⟨k1,k2,k3,k4,k5,k6,k7,k8,k9⟩:=k;have k9:TodoRel P B R d true h0 todo t fr.todo fr.tmps:=k9;unfold z7 at e;simp only at e;split at e
 ·cases e
 ·rename_i it kk _;split at e
  ·rename_i all l;split at e
   ·cases e
   ·rename_i o l';unfold zoI at e;split at e
    ·cases e
    ·rename_i t' ht;cases e;obtain ⟨k9,k10⟩:=k9;obtain ⟨it',r',hfr,⟨ops,ctodo,rfl,rfl,hmap⟩,hk⟩:=k9;cases ctodo with
     | nil=>simp at hmap
     | cons i ctodo =>
      simp only [List.map_cons,List.cons.injEq] at hmap;have hfin:fr.finish x={ fr with tmps:=zhs fr.tmps o.dst x,todo:=.inRegion ops ctodo::r' }:=by
       simp only [Frame.finish,hfr,← hmap.1,Option.bind_some,zhs];cases o.dst <;> rfl
      rw [hfin];exact ⟨k1,k2,k3,k4,k5,k6,k7,by rw [wR]; exact k8,xS (P:=P) (B:=B) (d:=d) (sus:=false) (h:=h) (k:=.ops ops.toList l'::kk) (k':=.inRegion ops ctodo::r') ⟨_,_,rfl,⟨ops,ctodo,rfl,rfl,hmap.2⟩,hk⟩ (k10.put k8 ht hv)⟩
  ·rename_i all dn _ _;split at e
   ·cases e
   ·rename_i i l' _;split at e
    ·cases e
    ·rename_i o ho;unfold zdc at e;split at e
     ·cases e
     ·rename_i t' ht;split at e
      ·cases e
      ·rename_i hre;cases e;obtain ⟨s,k',hfr,hk,hd⟩:=k9;have hem:=(hd.head rfl i l' rfl).2;have heff:yL P o=true:=by rw [← hd.plan.em i o ho]; exact hem
       obtain ⟨s',rfl,hd'⟩:=hd.finish ho k8 ht hv (by simpa [heff] using hre)
       have hfin:fr.finish x={ fr with tmps:=zhs fr.tmps o.dst x,todo:=.inRegion all s'::k' }:=by
        simp only [Frame.finish,hfr,ho,Option.bind_some,zhs];cases o.dst <;> rfl
       rw [hfin];exact ⟨k1,k2,k3,k4,k5,k6,k7,by rw [wR]; exact k8,⟨s',k',rfl,hk,hd'⟩⟩
  ·rename_i l _;cases e;obtain ⟨k9,k10⟩:=k9;obtain ⟨it',r',hfr,⟨L,hL,rfl⟩,hk⟩:=k9;have hfin:fr.finish x={ fr with todo:=.endRangeFunc L.block::r' }:=by simp only [Frame.finish,hfr]
   rw [hfin];exact ⟨k1,k2,k3,k4,k5,k6,k7,k8,xS (P:=P) (B:=B) (d:=d) (sus:=false) (h:=h) (k:=.endRange l::kk) (k':=.endRangeFunc L.block::r') ⟨_,_,rfl,⟨L,hL,rfl⟩,hk⟩ k10⟩
  ·cases e;obtain ⟨k9,k10⟩:=k9;obtain ⟨it',r',hfr,rfl,hk⟩:=k9;have hfin:fr.finish x={ fr with todo:=r' }:=by simp only [Frame.finish,hfr]
   rw [hfin];exact ⟨k1,k2,k3,k4,k5,k6,k7,k8,xS hk k10⟩
  ·cases e
end
end Go.Proofs.Ytcdigdplhlgcaaa.Ev
end
section
namespace Go.Proofs.Ytcdigdplhlgcaaa.Ev
open Go
section
variable {P:Program} {B:Base} {R:Bij} {d:Nat} {h:AHeap} {w:World}
theorem zer {ops:List Oper}{anc:List Nat}{em i p:Nat}:∀ {l:List Nat} {done:Nat},yc ops anc em l done=true→done.testBit i=true→em.testBit i=true→p∈l→em.testBit p=true→(anc.getD p 0).testBit i=true
 | [],_,_,_,_,hp,_=>absurd hp List.not_mem_nil
 | j::r,done,ho,hd,hi,hp,hpe=>by
  obtain ⟨h1,h2,h3,h4,h5⟩:=yi ho;rcases List.mem_cons.1 hp with e | e
  ·rw [e] at hpe ⊢;exact (h4 hpe).1 i hi hd
  ·exact zer h5 (by rw [wu,hd]; rfl) hi e hpe
theorem zdd {ops:Array Oper}{t:T AV}{a:Array Value}{o:Oper}{wt:Bool}(e:xd ops.toList t o.guard=some wt)
 (hs:∀ g b q u v,o.guard=some (g,b)→ops[g]?=some q→q.dst=some u→t.get u=some v→∃ x,a[u]?=some x∧VRel R v x):Region.wanted o (yielded ops a)=wt:=by
 unfold xd at e;unfold Region.wanted;cases hg:o.guard with
 | none=>rw [hg] at e; cases e; rfl
 | some gb =>
  obtain ⟨g,b⟩:=gb;rw [hg] at e;simp only [] at e ⊢;rw [show ops.toList[g]?=ops[g]? by simp] at e;cases hq:ops[g]? with
  | none=>rw [hq] at e; cases e
  | some q =>
   rw [hq] at e;cases hu:q.dst with
   | none=>simp only [zlL,hu,zf1] at e; cases e
   | some u =>
    simp only [zlL,hu,zf1] at e;cases hv:t.get u with
    | none=>rw [hv] at e; cases e
    | some v =>
     obtain ⟨x,hx,hxr⟩:=hs g b q u v hg hq hu hv;rw [hv] at e;cases v with
     | bool c =>
      cases hxr;have hy:yielded ops a g=some c:=by simp only [yielded,hq,Option.bind_some,hu,hx]
      rw [hy];simp only [zgn,zmH,Option.some.injEq] at e;rw [← e];cases c <;> cases b <;> rfl
     | tup l =>
      cases l with
      | nil =>
       obtain ⟨aS,rfl,hn⟩:=hxr;cases hn;have hy:yielded ops a g=none:=by simp only [yielded,hq,Option.bind_some,hu,hx]
       rw [hy];simp only [zgn,zmH,Option.some.injEq] at e;rw [← e];rfl
      | cons y ys=>cases e
     | _=>cases e
theorem kz {fr:Frame}{cs:List Frame}{ops:Array Oper}{i:Nat}{s:List Nat}{k:List Item}{o:Oper}(hm:fr.mode=.run)(ht:fr.todo=.inRegion ops (i::s)::k)(ho:ops[i]?=some o)
 (hw:Region.wanted o (yielded ops fr.tmps)=false):step P (lone fr cs w)=.next (lone (fr.finish undef) cs w) :=
 step_lone_go (by simp [stepG,stepG.exec,hm,ht,ho,hw])
theorem jM {fr:Frame}{cs:List Frame}{ops:Array Oper}{i:Nat}{s:List Nat}{k:List Item}{o:Oper}{v:Value}{w':World}(hm:fr.mode=.run)(ht:fr.todo=.inRegion ops (i::s)::k)(ho:ops[i]?=some o)
 (hw:Region.wanted o (yielded ops fr.tmps)=true) (hd:∀ c,o.op≠.defer c) (hr:(execOp fr.eval o).run P w=.ok (.value v) w'):step P (lone fr cs w)=.next (lone (fr.finish v) cs w'):=by
 have:stepG P true { frame:=fr,callers:=cs,status:=.running,dying:=none } w=stepG.apply P true fr cs none (execOp fr.eval o) w:=by
  simp only [stepG,stepG.exec,hm,ht,ho,hw,Option.map_some,Option.getD_some,if_true,stepG.oper,Frame.oper?];split
  ·rename_i c _ _ hc;exact absurd hc (hd _)
  ·rfl
 refine step_lone_go ?_;rw [this];simp [stepG.apply,Sem.runT_eq,hr]
theorem zbv {fr:Frame}{t:T AV}{x:Operand}{v:AV}(hs:∀ u,x=.tmp u→t.get u=some v→∃ y,fr.tmps[u]?=some y∧VRel R v y)(e:ev t x=some v):VRel R v (fr.eval x):=by
 cases x with
 | tmp u =>
  obtain ⟨y,h1,h2⟩:=hs u rfl e;show VRel R v (fr.tmps.getD u undef);rw [show fr.tmps.getD u undef=y by
   obtain ⟨hl,hg⟩:=Array.getElem?_eq_some_iff.1 h1;simp [Array.getD,hl,hg]]
  exact h2
 | const c=>exact zaW R 9 c v e
 | global g=>cases e; rfl
 | func f=>cases e; exact ⟨fun l hl=>(by cases hl),[],[],rfl,rfl,rfl⟩
theorem Base.keeps_refl (B:Base)(D:Nat):B.keeps B D:=⟨rfl,fun _ _ h _=>⟨h,rfl⟩⟩
theorem Base.keeps_drop {B:Base}{id:Nat}{D p:Nat}(h:B.tag id=(D,p)):B.keeps (B.drop id) D :=
 ⟨rfl,fun j ob hj hd=>⟨by
  simp only [Base.drop];rw [if_neg]; exact hj;intro e; rw [e,h] at hd; exact Nat.lt_irrefl _ hd,rfl⟩⟩
theorem Base.keeps_trans {B B' B'':Base}{D:Nat}(h:B.keeps B' D)(k:B'.keeps B'' D):B.keeps B'' D :=
 ⟨k.1.trans h.1,fun id ob e hd=>by
  obtain ⟨e1,e2⟩:=h.2 id ob e hd;obtain ⟨e3,e4⟩:=k.2 id ob e1 (by rw [e2]; exact hd);exact ⟨e3,e4.trans e2⟩⟩
theorem Drw.catch1 (kh:HRel P B R h w)(hB:B.n≤w.heap.size){fr:Frame}(hm:fr.mode=.run){all:Array Oper}{p:Nat}{s' todo dn:List Nat}{k':List Item}{t:T AV}(hf:fr.todo=.inRegion all (p::s')::k')
 (k:Drw P B R d false all todo dn t h fr.tmps (p::s')) (hp:p∈dn) (cs:List Frame) :
 ∃ B' R' w' a',step P (lone fr cs w)=.next (lone { fr with tmps:=a',todo:=.inRegion all s'::k' } cs w')∧a'.size=fr.tmps.size∧B.keeps B' d∧R.le R'∧HRel P B' R' h w'∧Keeps R w R' w' ∧
  Drw P B' R' d false all todo dn t h a' s':=by
 obtain ⟨f1,f2,f3,f4,f5,_⟩:=k.facts;obtain ⟨t1,t2,t3⟩:=k.topo;have hpa:=f3 p hp;obtain ⟨o,ho⟩:∃ o,all[p]?=some o:=⟨_,Array.getElem?_eq_getElem hpa⟩;have hpe:yL P o=false:=by
  rw [← k.plan.em p o ho];cases hb:(zE P all.toList).em.testBit p with
  | false=>rfl
  | true=>exact absurd List.mem_cons_self (k.effs p hp hb)
 have hfin:∀ x,fr.finish x={ fr with tmps:=zhs fr.tmps o.dst x,todo:=.inRegion all s'::k' }:=fun x=>by
  simp only [Frame.finish,hf,ho,Option.bind_some,zhs];cases o.dst <;> rfl
 have hslot:∀ u v,(zO all.toList o).contains u=true→t.get u=some v→∃ y,fr.tmps[u]?=some y∧VRel R v y:=by
  intro u v hu hv;rcases k.slots u v hv with ⟨q,g1,g2,g3⟩ | g
  ·exfalso;cases hq:all[q]? with
   | none=>rw [hq] at g3; cases g3
   | some oq =>
    rw [hq] at g3;simp only [Option.bind_some] at g3;have hs:=k.plan.slots q oq p o hq ho;have hqe:yL P oq=false:=by
     rw [← k.plan.em q oq hq];cases hb:(zE P all.toList).em.testBit q with
     | false=>rfl
     | true=>exact absurd g2 (k.effs q g1 hb)
    by_cases hqp:q=p
    ·subst hqp;rw [ho] at hq; cases hq;simp only [wW,g3,Nat.beq_refl,if_true,hpe,Bool.false_or,hu,Bool.not_true] at hs;cases hs
    ·have hbe:Nat.beq q p=false:=by
      cases hb:Nat.beq q p with
      | false=>rfl
      | true=>exact absurd (Nat.eq_of_beq_eq_true hb) hqp
     simp only [wW,g3,hbe,hqe,Bool.false_eq_true,if_false,hu,if_true,Bool.and_eq_true] at hs;have:=t1 q g2;rw [this] at hs; cases hs.2
  ·exact g
 have hops:∀ x∈o.op.operands,∀ v,ev t x=some v→VRel R v (fr.eval x):=fun x hx v hv =>
  zbv (fun u hu he=>hslot u v (by rw [hu] at hx; exact xI hx) he) hv
 have hgu:∀ g b q u v,o.guard=some (g,b)→all[g]?=some q→q.dst=some u→t.get u=some v→∃ x,fr.tmps[u]?=some x∧VRel R v x:=fun g b q u v hg hq hu hv =>
  hslot u v (qg hg (by simpa using hq) hu) hv
 have fin:∀ {B':Base} {R':Bij} {w':World} {x:Value},step P (lone fr cs w)=.next (lone (fr.finish x) cs w')→B.keeps B' d→R.le R'→HRel P B' R' h w'→Keeps R w R' w' →
  (∀ u,o.dst=some u→∃ v,t.get u=some v∧VRel R' v x)→(∀ q∈dn,q∈s'→∀ oq,all[q]?=some oq→Pend P B' d false all t h q oq) →
  ∃ B' R' w' a',step P (lone fr cs w)=.next (lone { fr with tmps:=a',todo:=.inRegion all s'::k' } cs w')∧a'.size=fr.tmps.size∧B.keeps B' d∧R.le R'∧HRel P B' R' h w'∧Keeps R w R' w' ∧
   Drw P B' R' d false all todo dn t h a' s':=by
  intro B' R' w' x hst hb hle hh hk hdst hpend;refine ⟨B',R',w',zhs fr.tmps o.dst x,by rw [hst,hfin],wR _ _ _,hb,hle,hh,hk,⟨k.plan,k.split,t3,fun j hj=>?_,fun j hj=>k.own j (List.mem_cons_of_mem _ hj),fun j hj hje hh=>k.effs j hj hje (List.mem_cons_of_mem _ hh),
   fun hh=>(by cases hh),fun u v hv=>?_,hpend,fun q hq oq u hoq hu=>by rw [wR]; exact k.bound q hq oq u hoq hu⟩⟩
  ·rcases List.mem_cons.1 (k.rest j hj) with e | e
   ·rw [e] at hj;exact absurd rfl ((List.nodup_append.1 f5).2.2 p (by simpa using hp) p hj)
   ·exact e
  ·rw [zdt u (fun y hy=>k.bound p hp o y ho hy)]
   by_cases hu:o.dst=some u
   ·rw [if_pos hu];obtain ⟨v',hv',hr⟩:=hdst u hu;rw [hv] at hv'; cases hv';exact .inr ⟨x,rfl,hr⟩
   ·rw [if_neg hu];rcases k.slots u v hv with ⟨q,g1,g2,g3⟩ | ⟨y,g1,g2⟩
    ·refine .inl ⟨q,g1,?_,g3⟩;rcases List.mem_cons.1 g2 with e | e
     ·rw [e,ho] at g3; exact absurd g3 hu
     ·exact e
    ·exact .inr ⟨y,g1,VRel.mono hle _ _ g2⟩
 obtain ⟨wt,k1,k2,k3⟩:=k.pend p hp List.mem_cons_self o ho;have hwant:=zdd k1 hgu;have hdef:∀ c,o.op≠.defer c:=fun c hc=>by
  simp [yL,hc,jA,yq,xj] at hpe
 cases wt with
 | false =>
  refine fin (kz hm hf ho hwant) (B.keeps_refl d) R.le_refl kh (Keeps.refl _ _) (fun u hu=>⟨xE,k2 rfl u hu,⟨[],rfl,rfl⟩⟩) fun q hq hqs oq hoq=>k.pend q hq (List.mem_cons_of_mem _ hqs) oq hoq
 | true =>
  rcases k3 rfl with ⟨g1,vf,ob,id,g2,g3,g4,g5⟩ | ⟨g1,g2,v,g3,g4⟩ | ⟨g1,g2,g3,g4⟩
  ·obtain ⟨sm,e1,e2⟩:=g2.2 R w fr.eval o rfl hops;obtain ⟨R',v',w',r1,r2,r3,r4⟩:=kh.adopt hB g3 e2;refine fin (jM (v:=v') (w':=w') hm hf ho hwant hdef (by rw [e1]; simp [r1])) (Base.keeps_drop g4) r4.le r3 r4 (fun u hu=>⟨_,g5 u hu,r2⟩) fun q hq hqs oq hoq=>?_;obtain ⟨wt,q1,q2,q3⟩:=k.pend q hq (List.mem_cons_of_mem _ hqs) oq hoq;refine ⟨wt,q1,q2,fun hw=>?_⟩;rcases q3 hw with ⟨a1,vf',ob',id',a2,a3,a4,a5⟩ | a | a
   ·refine .inl ⟨a1,vf',ob',id',a2,?_,a4,a5⟩;simp only [Base.drop];rw [if_neg]
    ·exact a3
    ·intro e;rw [e,g4] at a4;cases a4;exact t2 hqs
   ·exact .inr (.inl a)
   ·exact .inr (.inr a)
  ·obtain ⟨R',v',w',r1,r2,r3,r4⟩:=zlV kh hB hops (g3 h);refine fin (jM (v:=v') (w':=w') hm hf ho hwant hdef r1) (B.keeps_refl d) r4.le r3 r4 (fun u hu=>⟨v,g4 u hu,r2⟩) fun q hq hqs oq hoq=>k.pend q hq (List.mem_cons_of_mem _ hqs) oq hoq
  ·rcases g4 with g4 | ⟨v,g4,g5⟩
   ·cases g4
   ·obtain ⟨R',v',w',r1,r2,r3,r4⟩:=zlV kh hB hops g4;refine fin (jM (v:=v') (w':=w') hm hf ho hwant hdef r1) (B.keeps_refl d) r4.le r3 r4 (fun u hu=>⟨v,g5 u hu,r2⟩) fun q hq hqs oq hoq=>k.pend q hq (List.mem_cons_of_mem _ hqs) oq hoq
theorem Drw.catch_up {all:Array Oper}{i:Nat}{l dn:List Nat}{k':List Item}{t:T AV}(hem:(zE P all.toList).em.testBit i=true):∀ (s:List Nat) {B:Base} {R:Bij} {w:World} {fr:Frame},HRel P B R h w→B.n≤w.heap.size→fr.mode=.run→fr.todo=.inRegion all s::k' →
 Drw P B R d false all (i::l) dn t h fr.tmps s→∀ (cs:List Frame),
 ∃ B' R' w' a' s',Steps P (lone fr cs w) (lone { fr with tmps:=a',todo:=.inRegion all (i::s')::k' } cs w')∧a'.size=fr.tmps.size∧B.keeps B' d∧R.le R'∧HRel P B' R' h w'∧Keeps R w R' w' ∧
  Drw P B' R' d false all (i::l) dn t h a' (i::s'):=by
 intro s
 induction s with
 | nil=>intro B R w fr kh hB hm hf k cs; exact absurd (k.rest i List.mem_cons_self) List.not_mem_nil
 | cons p s ih =>
  intro B R w fr kh hB hm hf k cs
  by_cases hpi:p=i
  ·subst hpi;exact ⟨B,R,w,fr.tmps,s,by rw [show ({ fr with tmps:=fr.tmps,todo:=.inRegion all (p::s)::k' }:Frame)=fr by rw [← hf]]; exact Steps.refl _ _,rfl,B.keeps_refl d,R.le_refl,kh,Keeps.refl _ _,k⟩
  ·obtain ⟨f1,f2,f3,f4,f5,done,f6,f7⟩:=k.facts;obtain ⟨t1,t2,t3⟩:=k.topo;have hord:=k.plan.ord;rw [← k.split] at hord;have hpa:=k.own p List.mem_cons_self;have his:i∈p::s:=k.rest i List.mem_cons_self;have hpanc:((zE P all.toList).anc.getD p 0).testBit i=false:=t1 i his;obtain ⟨h1,h2,h3,h4,h5⟩:=yi f6;have hp:p∈dn:=by
    rcases f2 p hpa with e | e
    ·exact e
    ·exfalso;have hpl:p∈l:=by
      rcases List.mem_cons.1 e with e | e
      ·exact absurd e hpi
      ·exact e
     have hpd:p ∉ dn:=fun hh=>(List.nodup_append.1 f5).2.2 p (by simpa using hh) p e rfl
     cases hpe:(zE P all.toList).em.testBit p with
     | true =>
      have:=zer h5 (by rw [wu,Nat.testBit_two_pow]; simp) hem hpl hpe;rw [this] at hpanc; cases hpanc
     | false =>
      obtain ⟨q,q1,q2,q3⟩:=(h4 hem).2 p (by simpa using hpa) hpe (by
       cases hb:done.testBit p with
       | false=>rfl
       | true=>exact absurd ((f7 p).1 hb) hpd) hpanc
      have hqd:q ∉ dn:=fun hh=>by rw [(f7 q).2 hh] at q3; cases q3
      obtain ⟨d',g1,g2,g3⟩:=qN (l1:=dn.reverse++i::l) (l2:=[]) (by rw [List.append_nil]; exact hord);have hq:q∈i::l:=by
       rcases g3 p (List.mem_append_right _ e) q q1 with e' | e'
       ·simp at e'
       ·rcases List.mem_append.1 e' with e' | e'
        ·exact absurd (by simpa using e') hqd
        ·exact e'
      have:=t1 q (k.rest q hq);rw [this] at q1; cases q1
   obtain ⟨B1,R1,w1,a1,g1,g2,g3,g4,g5,g6,g7⟩:=k.catch1 kh hB hm hf hp cs;obtain ⟨B2,R2,w2,a2,s2,j1,j2,j3,j4,j5,j6,j7⟩:=ih (fr:={ fr with tmps:=a1,todo:=.inRegion all s::k' }) g5 (by show B1.env.heap.size≤_; rw [g3.1]; exact Nat.le_trans hB g6.size) hm rfl g7 cs;exact ⟨B2,R2,w2,a2,s2,.head g1 j1,j2.trans g2,Base.keeps_trans g3 j3,Bij.le_trans g4 j4,j5,g6.trans j6,j7⟩
theorem Drw.run_out {all:Array Oper}{dn:List Nat}{k':List Item}{t:T AV}:∀ (s:List Nat) {B:Base} {R:Bij} {w:World} {fr:Frame},HRel P B R h w→B.n≤w.heap.size→fr.mode=.run→fr.todo=.inRegion all s::k' →
 Drw P B R d false all [] dn t h fr.tmps s→∀ (cs:List Frame),
 ∃ B' R' w' a',Steps P (lone fr cs w) (lone { fr with tmps:=a',todo:=.inRegion all []::k' } cs w')∧a'.size=fr.tmps.size∧B.keeps B' d∧R.le R'∧HRel P B' R' h w'∧Keeps R w R' w'∧Slots R' t a':=by
 intro s
 induction s with
 | nil =>
  intro B R w fr kh hB hm hf k cs;refine ⟨B,R,w,fr.tmps,by rw [show ({ fr with tmps:=fr.tmps,todo:=.inRegion all []::k' }:Frame)=fr by rw [← hf]]; exact Steps.refl _ _,rfl,B.keeps_refl d,R.le_refl,kh,Keeps.refl _ _,fun u v hv=>?_⟩;rcases k.slots u v hv with ⟨q,_,g,_⟩ | g
  ·exact absurd g List.not_mem_nil
  ·exact g
 | cons p s ih =>
  intro B R w fr kh hB hm hf k cs;have hp:p∈dn:=by
   rcases k.facts.2.1 p (k.own p List.mem_cons_self) with e | e
   ·exact e
   ·exact absurd e List.not_mem_nil
  obtain ⟨B1,R1,w1,a1,g1,g2,g3,g4,g5,g6,g7⟩:=k.catch1 kh hB hm hf hp cs;obtain ⟨B2,R2,w2,a2,j1,j2,j3,j4,j5,j6,j7⟩:=ih (fr:={ fr with tmps:=a1,todo:=.inRegion all s::k' }) g5 (by show B1.env.heap.size≤_; rw [g3.1]; exact Nat.le_trans hB g6.size) hm rfl g7 cs;exact ⟨B2,R2,w2,a2,.head g1 j1,j2.trans g2,Base.keeps_trans g3 j3,Bij.le_trans g4 j4,j5,g6.trans j6,j7⟩
end
end Go.Proofs.Ytcdigdplhlgcaaa.Ev
end
section
namespace Go.Proofs.Ytcdigdplhlgcaaa.Ev
open Go
section
variable {P:Program} {B:Base} {R:Bij} {d:Nat} {h:AHeap} {w:World}
theorem Drw.ahead {all:Array Oper}{i:Nat}{l dn:List Nat}{t t':T AV}{a:Array Value}{s:List Nat}{n:Nat}{o:Oper}{v:AV}{B':Base}{h':AHeap}(k:Drw P B R d false all (i::l) dn t h a s)(ho:all[i]?=some o)
 (hem:yL P o=false) (hs:a.size=n) (e:zj5 t n o.dst v=some t')
 (hold:∀ p∈dn,p∈s→∀ q,all[p]?=some q→Pend P B d false all t h p q→Pend P B' d false all t' h' p q) (hnew:Pend P B' d false all t' h' i o) :
 Drw P B' R d false all l (i::dn) t' h' a s:=by
 obtain ⟨f1,f2,f3,f4,f5,_⟩:=k.facts;have hidn:i ∉ dn:=fun hi=>(List.nodup_append.1 f5).2.2 i (by simpa using hi) i List.mem_cons_self rfl
 obtain ⟨rfl,hu⟩:=za0 e;have heb:(zE P all.toList).em.testBit i=false:=by rw [k.plan.em i o ho]; exact hem
 refine ⟨k.plan,?_,k.topo,fun j hj=>k.rest j (List.mem_cons_of_mem _ hj),k.own,fun j hj hje=>?_,fun hh=>(by cases hh),fun u y hy=>?_,fun p hp hps q hq=>?_,fun p hp q u hq hqu=>?_⟩
 ·rw [← k.split]; simp
 ·rcases List.mem_cons.1 hj with e | e
  ·rw [e,heb] at hje; cases hje
  ·exact k.effs j e hje
 ·rw [za8] at hy;split at hy
  ·rename_i hi;exact .inl ⟨i,List.mem_cons_self,k.rest i List.mem_cons_self,by rw [ho]; exact hi⟩
  ·rcases k.slots u y hy with ⟨q,g1,g2,g3⟩ | g
   ·exact .inl ⟨q,List.mem_cons_of_mem _ g1,g2,g3⟩
   ·exact .inr g
 ·rcases List.mem_cons.1 hp with e | hp
  ·rw [e,ho] at hq; cases hq; rw [e]; exact hnew
  ·exact hold p hp hps q hq (k.pend p hp hps q hq)
 ·rcases List.mem_cons.1 hp with e | hp
  ·rw [e,ho] at hq; cases hq; rw [hs]; exact hu u hqu
  ·exact k.bound p hp q u hq hqu
theorem Pend.other {all:Array Oper}{t t':T AV}{p:Nat}{o:Oper}{u:Option Nat}{v:AV}(k:Pend P B d false all t h p o)(ht:t'=zjO t u v)(hm:∀ x,u=some x→(zO all.toList o).contains x=false∧o.dst≠some x) :
 Pend P B d false all t' h p o:=by
 have hop:∀ h,opA P (ev t') h o.op=opA P (ev t) h o.op:=fun h=>by
  subst ht;cases u with
  | none=>rfl
  | some u=>exact zgC all.toList (hm u rfl).1 h
 have hw:xd all.toList t' o.guard=xd all.toList t o.guard:=by
  subst ht;cases u with
  | none=>rfl
  | some u=>exact kn (hm u rfl).1
 have hd:∀ x,o.dst=some x→t'.get x=t.get x:=fun x hx=>by
  subst ht;cases u with
  | none=>rfl
  | some u=>exact T.get_set_other _ _ fun e=>(hm u rfl).2 (by rw [hx,e])
 have hfl:∀ {vf ob},FloatAt P (ev t) o.op vf ob→FloatAt P (ev t') o.op vf ob:=fun k=>by
  subst ht;cases u with
  | none=>exact k
  | some u=>exact k.set all.toList (hm u rfl).1
 obtain ⟨wt,k1,k2,k3⟩:=k;refine ⟨wt,by rw [hw]; exact k1,fun hf x hx=>by rw [hd x hx]; exact k2 hf x hx,fun ht'=>?_⟩;rcases k3 ht' with ⟨f1,vf,ob,id,f2,f3,f4,f5⟩ | ⟨f1,f2,v',f3,f4⟩ | ⟨f1,f2,f3,f4⟩
 ·exact .inl ⟨f1,vf,ob,id,hfl f2,f3,f4,fun x hx=>by rw [hd x hx]; exact f5 x hx⟩
 ·exact .inr (.inl ⟨f1,f2,v',fun h=>by rw [hop]; exact f3 h,fun x hx=>by rw [hd x hx]; exact f4 x hx⟩)
 ·rcases f4 with f4 | ⟨v',g1,g2⟩
  ·cases f4
  ·exact .inr (.inr ⟨f1,f2,f3,.inr ⟨v',by rw [hop]; exact g1,fun x hx=>by rw [hd x hx]; exact g2 x hx⟩⟩)
theorem Pend.base {B':Base}{sus:Bool}{all:Array Oper}{t:T AV}{p:Nat}{o:Oper}(hb:∀ id ob,B.pend id=some ob→B'.pend id=some ob∧B'.tag id=B.tag id)(k:Pend P B d sus all t h p o):Pend P B' d sus all t h p o:=by
 obtain ⟨wt,k1,k2,k3⟩:=k;refine ⟨wt,k1,k2,fun hw=>?_⟩;rcases k3 hw with ⟨f1,vf,ob,id,f2,f3,f4,f5⟩ | f | f
 ·obtain ⟨g1,g2⟩:=hb id ob f3;exact .inl ⟨f1,vf,ob,id,f2,g1,g2.trans f4,f5⟩
 ·exact .inr (.inl f)
 ·exact .inr (.inr f)
theorem Pend.suspend {sus:Bool}{all:Array Oper}{t:T AV}{p:Nat}{o:Oper}(k:Pend P B d sus all t h p o):Pend P B d true all t h p o:=by
 obtain ⟨wt,k1,k2,k3⟩:=k;refine ⟨wt,k1,k2,fun hw=>?_⟩;rcases k3 hw with f | f | ⟨f1,f2,f3,_⟩
 ·exact .inl f
 ·exact .inr (.inl f)
 ·exact .inr (.inr ⟨f1,f2,f3,.inl rfl⟩)
theorem Drw.suspend {all:Array Oper}{i:Nat}{l dn:List Nat}{t:T AV}{a:Array Value}{s:List Nat}(k:Drw P B R d false all (i::l) dn t h a (i::s))(hem:(zE P all.toList).em.testBit i=true) :
 Drw P B R d true all (i::l) dn t h a (i::s) where
 plan:=k.plan
 split:=k.split
 topo:=k.topo
 rest:=k.rest
 own:=k.own
 effs:=k.effs
 head _ j l' e:=by cases e; exact ⟨⟨s,rfl⟩,hem⟩
 slots:=k.slots
 pend p h1 h2 o ho:=(k.pend p h1 h2 o ho).suspend
 bound:=k.bound
def Base.mark (B:Base) (id:Nat) (o:AObj) (g:Nat × Nat):Base:={ B with pend:=fun j=>if j=id then some o else B.pend j,tag:=fun j=>if j=id then g else B.tag j }
theorem HRel.mark (k:HRel P B R h w)(o:AObj)(g:Nat × Nat):HRel P (B.mark h.next o g) R (h.new o) w:=by
 have:=k.ahead o;exact ⟨this.fresh,this.obj,this.pend,this.place,this.rd,this.rp,this.rol,this.low,this.pin,this.apart,this.same,this.glob⟩
theorem zcX (k:HRel P B R h w)(o:AObj)(g:Nat × Nat):∀ id ob,B.pend id=some ob→(B.mark h.next o g).pend id=some ob∧(B.mark h.next o g).tag id=B.tag id:=fun id ob e=>by
 have:=(k.pend id ob e).1;simp only [Base.mark];rw [if_neg (by omega),if_neg (by omega)];exact ⟨e,rfl⟩
theorem Drw.reads {sus:Bool}{all:Array Oper}{p:Nat}{s' todo dn:List Nat}{t:T AV}{a:Array Value}{o:Oper}(k:Drw P B R d sus all todo dn t h a (p::s'))(ho:all[p]?=some o)(hp:p ∉ dn) :
 ∀ u v,(zO all.toList o).contains u=true→t.get u=some v→∃ y,a[u]?=some y∧VRel R v y:=by
 obtain ⟨t1,t2,t3⟩:=k.topo;intro u v hu hv;rcases k.slots u v hv with ⟨q,g1,g2,g3⟩ | g
 ·exfalso;cases hq:all[q]? with
  | none=>rw [hq] at g3; cases g3
  | some oq =>
   rw [hq] at g3;simp only [Option.bind_some] at g3;have hs:=k.plan.slots q oq p o hq ho;have hqe:yL P oq=false:=by
    rw [← k.plan.em q oq hq];cases hb:(zE P all.toList).em.testBit q with
    | false=>rfl
    | true=>exact absurd g2 (k.effs q g1 hb)
   by_cases hqp:q=p
   ·subst hqp; exact hp g1
   ·have hbe:Nat.beq q p=false:=by
     cases hb:Nat.beq q p with
     | false=>rfl
     | true=>exact absurd (Nat.eq_of_beq_eq_true hb) hqp
    simp only [wW,g3,hbe,hqe,Bool.false_eq_true,if_false,hu,if_true,Bool.and_eq_true] at hs;have:=t1 q g2;rw [this] at hs; cases hs.2
 ·exact g
theorem Drw.own_dst {sus:Bool}{all:Array Oper}{i:Nat}{s todo dn:List Nat}{t:T AV}{a:Array Value}{o:Oper}(k:Drw P B R d sus all todo dn t h a s)(ho:all[i]?=some o)(he:yL P o=false) :
 ∀ x,o.dst=some x→(zO all.toList o).contains x=false:=by
 intro x hx;have hs:=k.plan.slots i o i o ho ho;simp only [wW,hx,Nat.beq_refl,if_true,he,Bool.false_or] at hs;simpa using hs
end
end Go.Proofs.Ytcdigdplhlgcaaa.Ev
end
section
namespace Go.Proofs.Ytcdigdplhlgcaaa.Ev
open Go
structure Wait (P:Program) (w0:Env) (base:List Frame) (B:Base) (R:Bij) (af:AFrame) (rest:List AFrame) (h:AHeap) (fr:Frame) (fs:List Frame) (w:World):Prop where
 heap:HRel P B R h w
 base:B.env=w0
 old:Old0 w0.toWorld w
 top:FrameRel P B R rest.length true h af fr
 run:af.mode=.run
 below:StackRel P B R h rest fs
section
variable {P:Program} {w0:Env} {base:List Frame} {B:Base} {R:Bij} {af:AFrame} {rest:List AFrame} {h:AHeap} {fr:Frame} {fs:List Frame} {w:World}
theorem Wait.room (k:Wait P w0 base B R af rest h fr fs w):B.n≤w.heap.size:=by show B.env.heap.size≤_; rw [k.base]; exact k.old.size
theorem xU {rest:List AFrame}{h:AHeap}{o:Option AFrame}{m:AM}(e:zaN rest h o=some m):∃ a,o=some a∧m=⟨a,rest,h⟩:=by
 unfold zaN at e;split at e
 ·cases e
 ·cases e; exact ⟨_,rfl,rfl⟩
theorem Wait.got (k:Wait P w0 base B R af rest h fr fs w){R':Bij}{h':AHeap}{w':World}{v:AV}{x:Value}{m:AM}(hv:VRel R' v x)(hh:HRel P B R' h' w')(hk:Keeps R w R' w')
 (e:zaN rest h' (z7 P af h' v)=some m):Sim P w0 base m (fr.finish x) (fs++base) w':=by
 obtain ⟨a,e1,rfl⟩:=xU e;have hb:=B.keeps_refl (rest.length+1);exact ⟨B,R',fs,rfl,k.base,hh,k.old.keeps k.base k.heap hk,xT (k.top.mono (h':=h') hk.le hb (Nat.lt_succ_self _)) k.run e1 hv,k.below.mono hk.le hb (Nat.le_succ _)⟩
theorem zbz:∀ (l:List AV) (i:Nat) (t:T AV) (u:Nat),(zbS l i t).get u=if i≤u∧u<i+l.length then l[u - i]? else t.get u
 | [],i,t,u=>by simp [zbS]; omega
 | v::r,i,t,u=>by
  rw [zbS,zbz r (i+1),T.get_set]
  by_cases h1:u=i
  ·subst h1; rw [if_neg (by omega),if_pos rfl,if_pos (by simp)]; simp
  ·by_cases h2:i+1≤u∧u<i+1+r.length
   ·rw [if_pos h2,if_pos (by simp; omega)];obtain ⟨q,rfl⟩:∃ q,u=i+1+q:=⟨u - (i+1),by omega⟩;rw [show i+1+q - (i+1)=q by omega,show i+1+q - i=q+1 by omega];simp
   ·rw [if_neg h2,if_neg h1,if_neg (by simp; omega)]
theorem jD {f:FuncId}{args:List AV}{aS:List Value}{kind:CallKind}{a:AFrame}{d:Nat}(e:jy P f args kind=some a)(hr:VRels R args aS)(hk:kind=.normal∨kind=.deferred):FrameRel P B R d false h a (Frame.enter P f aS.toArray kind):=by
 unfold jy at e;split at e
 ·cases e
 ·rename_i fn hfn;split at e
  ·cases e
  ·rename_i c hc;cases e;have hlen:=hr.length;refine ⟨rfl,⟨fn,hfn⟩,rfl,hk,rfl,rfl,rfl,?_,?_⟩
   ·simp [Frame.enter,hfn,hlen]; omega
   ·refine ⟨⟨_,_,rfl,?_,rfl⟩,?_⟩
    ·simp [hfn,hc,ItemRel]
    ·intro u v hv;rw [zbz] at hv;split at hv
     ·rename_i hu;obtain ⟨y,hy,hyr⟩:=hr.get _ v hv;refine ⟨y,?_,hyr⟩;simp only [Frame.enter];rw [Array.getElem?_append_left (by simp; omega)];simpa using hy
     ·cases hv
theorem Wait.entered (k:Wait P w0 base B R af rest h fr fs w){h':AHeap}{f:FuncId}{args:List AV}{aS:List Value}{m:AM}(hr:VRels R args aS)(hh:HRel P B R h' w)(e:zaN (af::rest) h' (jy P f args .normal)=some m) :
 Sim P w0 base m (Frame.enter P f aS.toArray .normal) (fr::(fs++base)) w:=by
 obtain ⟨a,e1,rfl⟩:=xU e;have hb:=B.keeps_refl (rest.length+1);exact ⟨B,R,fr::fs,rfl,k.base,hh,k.old,jD e1 hr (.inl rfl),fr,fs,rfl,k.top.mono R.le_refl hb (Nat.lt_succ_self _),k.below.mono R.le_refl hb (Nat.le_succ _)⟩
theorem yy:∀ (l:List Oper) (t:T AV) {u:Nat} {v:AV},(qk t l).get u=some v→t.get u=some v∧∀ o∈l,o.dst≠some u
 | [],_,_,_,e=>⟨e,fun o ho=>absurd ho List.not_mem_nil⟩
 | o::r,t,u,v,e=>by
  unfold qk at e;split at e
  ·rename_i hd;obtain ⟨g1,g2⟩:=yy r t e;refine ⟨g1,fun q hq=>?_⟩;rcases List.mem_cons.1 hq with rfl | hq
   ·rw [hd]; simp
   ·exact g2 q hq
  ·rename_i x hd;obtain ⟨g1,g2⟩:=yy r _ e;rw [T.get_set] at g1;split at g1
   ·cases g1
   ·rename_i hx;refine ⟨g1,fun q hq=>?_⟩;rcases List.mem_cons.1 hq with rfl | hq
    ·rw [hd]; intro e; exact hx (Option.some.inj e).symm
    ·exact g2 q hq
theorem ze9 {d:Nat}{sus:Bool}{h:AHeap}{mode:AMode}{todo:List AItem}{t:T AV}{ct:List Item}{a:Array Value}(k:zfJ P B R d sus h mode todo t ct a):Slots R (zg1 t todo) a:=by
 have weak:∀ {l:List Oper},Slots R t a→Slots R (qk t l) a:=fun k u v e=>k u v (yy _ _ e).1;unfold zg1;unfold zfJ at k;split at k
 ·unfold TodoRel at k;split at k
  ·obtain ⟨s,k',_,_,hd⟩:=k;simp only [];intro u v e;obtain ⟨e1,e2⟩:=yy _ _ e;rcases hd.slots u v e1 with ⟨q,_,_,g⟩ | g
   ·exfalso;cases hq:(_:Array Oper)[q]? with
    | none=>rw [hq] at g; cases g
    | some o =>
     rw [hq] at g;exact e2 o (by have:=Array.mem_of_getElem? hq; simpa using this) g
   ·exact g
  ·split
   ·exact weak k.2
   ·exact k.2
 ·split
  ·exact weak k
  ·exact k
theorem zep {d d':Nat}{sus sus':Bool}{h h':AHeap}{a:AFrame}{f:Frame}{c:List (AV × Bool)}{c':List PanicEntry}(k:FrameRel P B R d sus h a f)(hc:All2 (zhY R) c c'):FrameRel P B R d' sus' h' (zhy a c) (f.raise c'):=by
 have hs:=ze9 k.top;obtain ⟨fn,n,t,todo,ds,mode,kind,round⟩:=a;obtain ⟨k1,k2,k3,k4,k5,k6,k7,k8,k9⟩:=k;cases mode with
 | run =>
  have e:f.raise c'={ f with mode:=.panicking c' }:=by simp only [Frame.raise,show f.mode=.run from k7]
  rw [e];exact ⟨k1,k2,k3,k4,k5,k6,⟨c',rfl,by simpa [zg3] using hc⟩,k8,hs⟩
 | returning =>
  have e:f.raise c'={ f with mode:=.panicking c' }:=by simp only [Frame.raise,show f.mode=.returning from k7]
  rw [e];exact ⟨k1,k2,k3,k4,k5,k6,⟨c',rfl,by simpa [zg3] using hc⟩,k8,hs⟩
 | panicking ch =>
  obtain ⟨ch',hm,hch⟩:=k7;have e:f.raise c'={ f with mode:=.panicking (c'++ch') }:=by simp only [Frame.raise,hm]
  rw [e];exact ⟨k1,k2,k3,k4,k5,k6,⟨c'++ch',rfl,hc.append hch⟩,k8,hs⟩
theorem zly (k:Wait P w0 base B R af rest h fr fs w){c:List (AV × Bool)}{c':List PanicEntry}(hc:All2 (zhY R) c c'):Sim P w0 base ⟨zhy af c,rest,h⟩ (fr.raise c') (fs++base) w :=
 ⟨B,R,fs,rfl,k.base,k.heap,k.old,zep k.top hc,k.below⟩
def XOk (P:Program) (f:FuncId) (F:AHeap→List AV→Option (AV × T AObj × Nat)):Prop :=
 ∀ (B:Base) (R:Bij) (h:AHeap) (w:World) (args:List AV) (args':List Value) (v:AV) (o:T AObj) (n:Nat),F h args=some (v,o,n)→HRel P B R h w→B.n≤w.heap.size→VRels R args args' →
  Calls P f args'.toArray w fun e w'=>∃ R' v',e=.returned v'∧VRel R' v v'∧HRel P B R' ⟨o,n,h.glob⟩ w'∧Keeps R w R' w'
class XTOk (P:Program) [XT P]:Prop where
 ok:∀ f F,XT.tab (P:=P) f=some F→XOk P f F
instance (priority:=10) noXTOk:@XTOk P (noXT P):=@XTOk.mk P (noXT P) fun _ _ e=>by cases e
theorem zaV [XT P] [XTOk P] (k:Wait P w0 base B R af rest h fr fs w){s:Sem Next}{r:AR}{m:AM}(hop:OpRel P B R w s r)(hr:∀ i aS,r≠.round i aS)(hd:∀ d,r≠.dfr d)(hc:r≠.recover)
 (hst:(stepG P true { frame:=fr,callers:=fs++base,status:=.running,dying:=none } w).bare=(stepG.apply P true fr (fs++base) none s w).bare)
 (ht:∃ ops i s' k',fr.todo=.inRegion ops (i::s')::k') (e:zmQ P af rest h r=some m):∃ fr' cs' w',Steps P (lone fr (fs++base) w) (lone fr' cs' w')∧Sim P w0 base m fr' cs' w':=by
 obtain ⟨ops,i,s',k',ht⟩:=ht;cases r with
 | val v h' =>
  obtain ⟨R',v',w',r1,r2,r3,r4⟩:=hop;exact ⟨_,_,_,.one (step_lone_go (by rw [hst]; simp [stepG.apply,Sem.runT_eq,r1])),k.got r2 r3 r4 e⟩
 | skip h' =>
  obtain ⟨R',w',r1,r3,r4⟩:=hop;exact ⟨_,_,_,.one (step_lone_go (by rw [hst]; simp [stepG.apply,Sem.runT_eq,r1])),k.got (v:=xE) (x:=undef) ⟨[],rfl,rfl⟩ r3 r4 e⟩
 | enter f args h' =>
  obtain ⟨aS,r1,r2,r3⟩:=hop;have s1:step P (lone fr (fs++base) w)=.next (lone (Frame.enter P f aS.toArray .normal) (fr::(fs++base)) w):=step_lone_go (by rw [hst]; simp [stepG.apply,Sem.runT_eq,r1,ht]);change zkZ P af rest h' f args=some m at e;unfold zkZ at e;split at e
  ·exact ⟨_,_,_,.one s1,k.entered r2 r3 e⟩
  ·rename_i v h2 hx;unfold zmv at hx;split at hx
   ·cases hx
   ·rename_i F hF;split at hx
    ·cases hx
    ·rename_i v0 o n hv;cases hx;obtain ⟨en,w',fr',⟨R',v',rfl,q1,q2,q3⟩,q4,q5,q6⟩:=XTOk.ok (P:=P) f F hF B R h' w args aS v o n hv r3 k.room r2 (fr::(fs++base));exact ⟨_,_,_,(Steps.one s1).trans ((show Steps P _ _ from q4).trans (.one (step_leave_returned q6))),k.got q1 q2 q3 e⟩
 | round i aS=>exact absurd rfl (hr _ _)
 | dfr dd=>exact absurd rfl (hd _)
 | recover=>exact absurd rfl hc
 | panic v =>
  obtain ⟨v',r1,r2⟩:=hop;cases e;exact ⟨_,_,_,.one (step_lone_go (by rw [hst]; simp [stepG.apply,Sem.runT_eq,r1])),zly k (c':=[{ v:=v',recovered:=false }]) ⟨_,[],rfl,⟨r2,rfl,rfl⟩,rfl⟩⟩
end
end Go.Proofs.Ytcdigdplhlgcaaa.Ev
end
section
namespace Go.Proofs.Ytcdigdplhlgcaaa.Ev
open Go
section
variable {P:Program} {w0:Env} {base:List Frame} {B:Base} {R:Bij} {af:AFrame} {rest:List AFrame} {h:AHeap} {fr:Frame} {fs:List Frame} {w:World}
def zeW (P:Program) (w0:Env) (base:List Frame) (m':AM) (fr:Frame) (cs:List Frame) (w:World):Prop :=
 ∃ fr' cs' w',Steps P (lone fr cs w) (lone fr' cs' w')∧Sim P w0 base m' fr' cs' w'
structure Plain (P:Program) (w0:Env) (base:List Frame) (B:Base) (R:Bij) (af:AFrame) (rest:List AFrame) (h:AHeap) (fr:Frame) (fs:List Frame) (w:World):Prop where
 heap:HRel P B R h w
 base:B.env=w0
 old:Old0 w0.toWorld w
 top:FrameRel P B R rest.length false h af fr
 run:af.mode=.run
 below:StackRel P B R h rest fs
theorem zq3 (k:Plain P w0 base B R af rest h fr fs w):fr.mode=.run:=by
 have:=k.top.mode;rw [k.run] at this; exact this
theorem Plain.to (k:Plain P w0 base B R af rest h fr fs w){todo:List AItem}{todo':List Item}(hs:Slots R af.tmps fr.tmps)(ht:All2 (ItemRel R) todo todo'){m:AM}(e:toA af rest h todo=some m)
 (hst:step P (lone fr (fs++base) w)=.next (lone { fr with todo:=todo' } (fs++base) w)):zeW P w0 base m fr (fs++base) w:=by
 cases e;refine ⟨_,_,_,.one hst,B,R,fs,rfl,k.base,k.heap,k.old,?_,k.below⟩;obtain ⟨k1,k2,k3,k4,k5,k6,k7,k8,k9⟩:=k.top;have hm:=k.run;obtain ⟨fn,n,t,td,ds,mode,kind,round⟩:=af;simp only at hm; subst hm;exact ⟨k1,k2,k3,k4,k5,k6,k7,k8,xS ht hs⟩
theorem ziG:∀ {k:List AItem} {k':List Item} {id:Nat},All2 (ItemRel R) k k'→(∀ q,zeQ id k=some q→∃ q',exitTo id k'=some q'∧All2 (ItemRel R) q q')∧(zeQ id k=none→exitTo id k'=none)
 | [],k',id,hk=>by
  cases hk;exact ⟨fun q e=>(by cases e),fun _=>rfl⟩
 | it::k,k',id,⟨b,r,e,h1,h2⟩=>by
  subst e;obtain ⟨g1,g2⟩:=ziG (id:=id) h2;cases it with
  | inBlock j =>
   cases h1;simp only [zeQ,exitTo];cases hb:Nat.beq j id with
   | true =>
    have:=Nat.eq_of_beq_eq_true hb;rw [if_pos (by simpa using this)]
    exact ⟨fun q e=>by cases e; exact ⟨r,rfl,h2⟩,fun e=>by cases e⟩
   | false =>
    have:j≠id:=fun e=>by rw [e,Nat.beq_refl] at hb; cases hb
    rw [if_neg (by simpa using this)]
    exact ⟨g1,g2⟩
  | code c=>cases h1; exact ⟨g1,g2⟩
  | inLoop c=>cases h1; exact ⟨g1,g2⟩
  | inScope c=>cases h1; exact ⟨g1,g2⟩
  | ops a l=>obtain ⟨_,_,rfl,_⟩:=h1; exact ⟨g1,g2⟩
  | drw a b c=>exact absurd h1 (fun e=>e)
  | inRange i=>obtain ⟨_,_,rfl⟩:=h1; exact ⟨g1,g2⟩
  | endRange i=>obtain ⟨_,_,rfl⟩:=h1; exact ⟨g1,g2⟩
  | beginRound=>cases h1; exact ⟨g1,g2⟩
theorem zit:∀ {k:List AItem} {k':List Item} {l:Nat},All2 (ItemRel R) k k'→(∀ q,zeE l k=some q→∃ q',gotoIn l k'=some q'∧All2 (ItemRel R) q q')∧(zeE l k=none→gotoIn l k'=none)
 | [],k',l,hk=>by
  cases hk;exact ⟨fun q e=>(by cases e),fun _=>rfl⟩
 | it::k,k',l,⟨b,r,e,h1,h2⟩=>by
  subst e;obtain ⟨g1,g2⟩:=zit (l:=l) h2;cases it with
  | inScope c =>
   cases h1;simp only [zeE,gotoIn];cases hf:findLabel c l with
   | some q=>exact ⟨fun p e=>by cases e; exact ⟨_,rfl,_,_,rfl,rfl,_,_,rfl,rfl,h2⟩,fun e=>by cases e⟩
   | none=>exact ⟨g1,g2⟩
  | code c=>cases h1; exact ⟨g1,g2⟩
  | inLoop c=>cases h1; exact ⟨g1,g2⟩
  | inBlock c=>cases h1; exact ⟨g1,g2⟩
  | ops a l=>obtain ⟨_,_,rfl,_⟩:=h1; exact ⟨g1,g2⟩
  | drw a b c=>exact absurd h1 (fun e=>e)
  | inRange i=>obtain ⟨_,_,rfl⟩:=h1; exact ⟨g1,g2⟩
  | endRange i=>obtain ⟨_,_,rfl⟩:=h1; exact ⟨g1,g2⟩
  | beginRound=>cases h1; exact ⟨g1,g2⟩
end
end Go.Proofs.Ytcdigdplhlgcaaa.Ev
end
section
namespace Go.Proofs.Ytcdigdplhlgcaaa.Ev
open Go
section
variable {P:Program} {w0:Env} {base:List Frame} {B:Base} {R:Bij} {af:AFrame} {rest:List AFrame} {h:AHeap} {fr:Frame} {fs:List Frame} {w:World}
theorem zbb (kh:HRel P B R h w)(hb:B.env=w0)(ho:Old0 w0.toWorld w)(hk:af.kind=.normal∨af.kind=.deferred)(hkf:fr.kind=af.kind)(kb:StackRel P B R h rest fs){v:AV}{v':Value}(hv:VRel R v v'){m:AM}(e:vX P af.kind rest h v=some m) :
 ∃ fr' cs',(doReturn P true fr (fs++base) none v' w).bare=.go { frame:=fr',callers:=cs',status:=.running,dying:=none } w∧Sim P w0 base m fr' cs' w:=by
 cases rest with
 | nil=>cases e
 | cons c r =>
  obtain ⟨f,fs',rfl,kf,kr⟩:=kb;rcases hk with hk | hk
  ·rw [hk] at hkf e;change (match c.mode with | .run=>zaN r h (z7 P c h v) | _=>none)=some m at e
   split at e
   ·rename_i hm;obtain ⟨a,e1,rfl⟩:=xU e;exact ⟨f.finish v',fs'++base,by simp [doReturn,hkf],B,R,fs',rfl,hb,kh,ho,xT kf hm e1 hv,kr⟩
   ·cases e
  ·rw [hk] at hkf e;change (match c.mode with | .run=>none | _=>some ⟨zmy c,r,h⟩:Option AM)=some m at e
   split at e
   ·cases e
   ·rename_i hm;cases e;obtain ⟨fn,n,t,td,ds,mode,kind,round⟩:=c;obtain ⟨k1,k2,k3,k4,k5,k6,k7,k8,k9⟩:=kf;cases mode with
    | run=>exact absurd rfl hm
    | returning =>
     have hfm:f.mode=.returning:=k7;exact ⟨f,fs'++base,by simp [doReturn,hkf,hfm],B,R,fs',rfl,hb,kh,ho,⟨k1,k2,k3,k4,k5,k6,k7,k8,k9⟩,kr⟩
    | panicking ch =>
     obtain ⟨ch',hfm,hc⟩:=k7;cases ch with
     | nil =>
      cases hc;exact ⟨f,fs'++base,by simp [doReturn,hkf,hfm],B,R,fs',rfl,hb,kh,ho,⟨k1,k2,k3,k4,k5,k6,⟨[],hfm,rfl⟩,k8,k9⟩,kr⟩
     | cons x older =>
      obtain ⟨x',older',rfl,hx,hold⟩:=hc;obtain ⟨x1,x2⟩:=x;obtain ⟨y1,y2,y3⟩:=x';obtain ⟨hx1,hx2,hx3⟩:=hx;simp only at hx2 hx3;subst hx2 hx3;cases y2 with
      | false=>exact ⟨f,fs'++base,by simp [doReturn,hkf,hfm],B,R,fs',rfl,hb,kh,ho,⟨k1,k2,k3,k4,k5,k6,⟨_,hfm,_,_,rfl,⟨hx1,rfl,rfl⟩,hold⟩,k8,k9⟩,kr⟩
      | true =>
       have hdrop:∀ {o:List (AV × Bool)} {o':List PanicEntry},All2 (zhY R) o o'→o'.dropWhile (fun e=>!e.goexit)=[]:=by
        intro o
        induction o with
        | nil=>intro o' h; cases h; rfl
        | cons a o ih =>
         intro o' h;obtain ⟨b,bs,rfl,h1,h2⟩:=h;rw [List.dropWhile_cons,if_pos (by rw [h1.2.2]; rfl)];exact ih h2
       exact ⟨{ f with mode:=.returning },fs'++base,by simp [doReturn,hkf,hfm,hdrop hold],B,R,fs',rfl,hb,kh,ho,⟨k1,k2,k3,k4,k5,k6,rfl,k8,k9⟩,kr⟩
theorem zbk (k:HRel P B R h w){l:Nat}{lp:ALoop}(e:h.get l=some (.loop lp)){L:Loc}(hL:R l 0=some L):∃ lp',w.heap[L.block]?=some (.loop lp')∧LoopRel R lp lp':=by
 obtain ⟨L',lp',h1,h2,h3⟩:=k.obj' hL e;rw [hL] at h1; cases h1;exact ⟨lp',h2,h3⟩
theorem yV {b:Nat}{lp:Loop}(e:w.heap[b]?=some (.loop lp)):(Instr.getLoop b).run P w=.ok lp w:=by
 simp [Instr.getLoop,getObj,Sem.run,e]
theorem kw {b:Nat}{lp lp':Loop}(e:w.heap[b]?=some (.loop lp)):(setObj b (.loop lp')).run P w=.ok () (xv w b (.loop lp')):=xc P e (by simp)
theorem zd5 (k:HRel P B R h w){l:Nat}{L:Loc}(hL:R l 0=some L)(hnr:¬ B.ro l){lp:ALoop}{lp':Loop}(hr:LoopRel R lp lp') :
 HRel P B R (h.put l (.loop lp)) (xv w L.block (.loop lp'))∧Keeps R w R (xv w L.block (.loop lp')) :=
 xF k hL hnr _ _ ⟨L,lp',hL,zX w _ _ (k.place _ _ _ hL).2,hr⟩
theorem yO {l:Nat}{lp:ALoop}(e:vM h l=some lp):h.get l=some (.loop lp):=by
 unfold vM at e;split at e
 ·cases e; assumption
 ·cases e
theorem zbd {l:Nat}{ds:List ADef}(e:zcd h l=some ds):h.get l=some (.dfrd (some ds)):=by
 unfold zcd at e;split at e
 ·cases e; assumption
 ·cases e
theorem vK (k:Plain P w0 base B R af rest h fr fs w){l:Nat}(hl:af.round=some l){jump:Option Code}{m:AM}(e:yC P af.kind rest h l jump=some m)
 (hst:∀ b,fr.roundOf=some b→(stepG P true { frame:=fr,callers:=fs++base,status:=.running,dying:=none } w).bare=(match (Instr.endRound b jump).run P w with
  | .ok v w=>(doReturn P true fr (fs++base) none v w).bare
  | .halt _ w => (GStep.ended (.stuck "range over a function: no such loop" (fr.pos P)) w).bare)) : zeW P w0 base m fr (fs ++ base) w := by
 have hround:=k.top.round;rw [hl] at hround;obtain ⟨L,hL,hfl⟩:=hround;have hst:=hst _ hfl;unfold yC at e;split at e
 ·rename_i lp ho;obtain ⟨lp',g1,g2⟩:=zbk k.heap ho hL;obtain ⟨st,pe,fn,n,t,ps,asg,body,df⟩:=lp;simp only at e;obtain ⟨g3,g4⟩:=zd5 k.heap hL (k.heap.notRo ho rfl) (lp:=⟨if jump.isNone then .ready else .done,jump,fn,n,t,ps,asg,body,df⟩) (lp':={ lp' with state:=if jump.isNone then .ready else .done,pending:=jump })
   ⟨rfl,rfl,g2.fn,g2.tmps,g2.params,g2.assign,g2.body,g2.defers⟩
  have hrun:(Instr.endRound L.block jump).run P w=.ok (.bool jump.isNone) (xv w L.block (.loop { lp' with state:=if jump.isNone then .ready else .done,pending:=jump })):=by
   simp only [Instr.endRound,Sem.run_bind,yV g1,Result.andThen_ok,kw g1,Sem.run_pure]
  rw [hrun] at hst;simp only at hst;obtain ⟨fr',cs',q1,q2⟩:=zbb (fr:=fr) (base:=base) (v':=.bool jump.isNone) g3 k.base (k.old.keeps k.base k.heap g4) k.top.kindOk k.top.kind (k.below.mono (h':=h.put l (.loop ⟨if jump.isNone then .ready else .done,jump,fn,n,t,ps,asg,body,df⟩)) g4.le (B.keeps_refl (rest.length)) (Nat.le_refl _)) (v:=.bool jump.isNone) rfl e
  exact ⟨fr',cs',_,.one (step_lone_go (hst.trans q1)),q2⟩
 ·cases e
theorem wq:∀ {ps:List Tmp} {args:List AV} {aS:List Value} {t:T AV} {a:Array Value},Slots R t a→VRels R args aS→(∀ p∈ps,p<a.size)→args.length=ps.length →
 Slots R (jE ps args t) ((ps.zip aS).foldl (fun x (p:Tmp × Value)=>x.setIfInBounds p.1 p.2) a)∧((ps.zip aS).foldl (fun x (p:Tmp × Value)=>x.setIfInBounds p.1 p.2) a).size=a.size
 | [],args,aS,t,a,hs,_,_,_=>by simpa [jE] using hs
 | p::ps,[],aS,t,a,hs,_,_,hl=>by simp at hl
 | p::ps,x::args,aS,t,a,hs,hv,hp,hl=>by
  obtain ⟨y,ys,rfl,h1,h2⟩:=hv;have hp0:=hp p List.mem_cons_self;have hs':Slots R (t.set (some x) p) (a.setIfInBounds p y):=by
   intro u v e;rw [T.get_set] at e;rw [Array.getElem?_setIfInBounds]
   by_cases hu:u=p
   ·subst hu;rw [if_pos rfl] at e; cases e;rw [if_pos rfl,if_pos hp0];exact ⟨y,rfl,h1⟩
   ·rw [if_neg hu] at e;rw [if_neg (fun q=>hu q.symm)];exact hs u v e
  obtain ⟨g1,g2⟩:=wq (ps:=ps) hs' h2 (fun q hq=>by rw [Array.size_setIfInBounds]; exact hp q (List.mem_cons_of_mem _ hq)) (by simpa using hl)
  exact ⟨g1,by rw [List.zip_cons_cons,List.foldl_cons]; exact g2.trans (Array.size_setIfInBounds ..)⟩
theorem zmL (k:Wait P w0 base B R af rest h fr fs w){s:Sem Next}{i:Nat}{args:List AV}{m:AM}(hop:OpRel P B R w s (.round i args))
 (hst:(stepG P true { frame:=fr,callers:=fs++base,status:=.running,dying:=none } w).bare=(stepG.apply P true fr (fs++base) none s w).bare) (e:zfj P af rest h i args=some m):zeW P w0 base m fr (fs++base) w:=by
 obtain ⟨L,aS,hL,hv,hrun⟩:=hop;unfold zfj at e;split at e
 ·rename_i lp ho;obtain ⟨lp',g1,g2⟩:=zbk k.heap ho hL;obtain ⟨st,pe,fn,n,t,ps,asg,body,df⟩:=lp;simp only at e;split at e
  ·rename_i hc;obtain ⟨c1,c2,c3⟩:=hc;cases e;obtain ⟨a1,a2⟩:=g2.tmps;simp only at a1 a2;have hps:lp'.params=ps:=g2.params;have hall:∀ p∈ps.toList,p<lp'.tmps.size:=fun p hp=>by
    rw [List.all_eq_true] at c2;rw [a1]; exact of_decide_eq_true (c2 p hp)
   obtain ⟨s1,s2⟩:=wq (R:=R) (ps:=ps.toList) (a:=lp'.tmps) a2 hv hall (by simpa using c1)
   have hlen:¬ aS.toArray.size≠lp'.params.size:=by rw [hps,List.size_toArray,hv.length,c1]; exact fun hh=>hh rfl
   have hy:(Instr.yield L.block aS.toArray).run P w=.ok (.round L.block lp'.fn ((ps.toList.zip aS).foldl (fun x (p:Tmp × Value)=>x.setIfInBounds p.1 p.2) lp'.tmps) lp'.assign lp'.body) w:=by
    simp only [Instr.yield,Sem.run_bind,yV g1,Result.andThen_ok,hlen,if_false,Sem.run_pure];rw [hps,← Array.foldl_toList,Array.toList_zip]
   refine ⟨_,_,_,.one (step_lone_go (fr':=Frame.round L.block lp'.fn ((ps.toList.zip aS).foldl (fun x (p:Tmp × Value)=>x.setIfInBounds p.1 p.2) lp'.tmps) lp'.assign lp'.body .normal) (cs':=fr::(fs++base)) (w':=w) ?_),B,R,fr::fs,rfl,k.base,k.heap,k.old,?_,fr,fs,rfl,k.top,k.below⟩
   ·rw [hst];simp [stepG.apply,Sem.runT_eq,hrun,hy]
   ·refine ⟨g2.fn,?_,rfl,.inl rfl,⟨L,hL,rfl⟩,rfl,rfl,s2.trans a1,⟨_,_,rfl,?_,_,_,rfl,rfl,_,_,rfl,?_,rfl⟩,s1⟩
    ·obtain ⟨f,hf⟩:=Option.isSome_iff_exists.1 c3;exact ⟨f,hf⟩
    ·show Item.code lp'.assign=Item.code asg;rw [show lp'.assign=asg from g2.assign]
    ·show Item.code lp'.body=Item.code body;rw [show lp'.body=body from g2.body]
  ·cases e
 ·cases e
theorem zky (k:Plain P w0 base B R af rest h fr fs w)(hs:Slots R af.tmps fr.tmps){kk:List AItem}{kk':List Item}(hfr:fr.todo=.beginRound::kk')(hk:All2 (ItemRel R) kk kk')
 {m:AM} (e:ze6 af rest h kk=some m):zeW P w0 base m fr (fs++base) w:=by
 have hm:=zq3 k;have hround:=k.top.round;unfold ze6 at e;split at e
 ·cases e
 ·rename_i l hl;rw [hl] at hround;obtain ⟨L,hL,hfl⟩:=hround;split at e
  ·cases e
  ·rename_i st pe fn n t ps asg body df ho;obtain ⟨lp',g1,g2⟩:=zbk k.heap (yO ho) hL;split at e
   ·cases e;obtain ⟨g3,g4⟩:=zd5 k.heap hL (k.heap.notRo (yO ho) rfl) (lp:=⟨.busy,pe,fn,n,t,ps,asg,body,df⟩) (lp':={ lp' with state:=.busy })
     ⟨rfl,g2.pending,g2.fn,g2.tmps,g2.params,g2.assign,g2.body,g2.defers⟩
    have hrun:(Instr.beginRound L.block).run P w=.ok () (xv w L.block (.loop { lp' with state:=.busy })):=by
     simp only [Instr.beginRound,Sem.run_bind,yV g1,Result.andThen_ok,kw g1,show lp'.state=.ready from g2.state,Sem.run_pure]
    refine ⟨_,_,_,.one (step_lone_go (fr':={ fr with todo:=kk' }) (cs':=fs++base) (w':=xv w L.block (.loop { lp' with state:=.busy })) ?_),B,R,fs,rfl,k.base,g3,k.old.keeps k.base k.heap g4,?_,k.below.mono g4.le (B.keeps_refl (rest.length)) (Nat.le_refl _)⟩
    ·simp [stepG,stepG.exec,hm,hfr,hfl,stepG.apply,Sem.runT_eq,hrun,Frame.finish]
    ·obtain ⟨k1,k2,k3,k4,k5,k6,k7,k8,k9⟩:=k.top;have hrm:=k.run;obtain ⟨fn,n,t,td,ds,mode,kind,round⟩:=af;simp only at hrm; subst hrm;exact ⟨k1,k2,k3,k4,k5,k6,k7,k8,xS hk hs⟩
   ·cases e
theorem zf6 (k:Plain P w0 base B R af rest h fr fs w)(hs:Slots R af.tmps fr.tmps){l:Nat}{L:Loc}(hL:R l 0=some L){kk:List AItem}{kk':List Item}(hfr:fr.todo=.endRangeFunc L.block::kk')(hk:All2 (ItemRel R) kk kk')
 {m:AM} (e:yS af rest h l kk=some m):zeW P w0 base m fr (fs++base) w:=by
 have hm:=zq3 k;unfold yS at e;split at e
 ·cases e
 ·rename_i st pe fn n t ps asg body df ho;obtain ⟨lp',g1,g2⟩:=zbk k.heap (yO ho) hL;split at e
  ·cases e
  ·rename_i hbusy;cases e;obtain ⟨g3,g4⟩:=zd5 k.heap hL (k.heap.notRo (yO ho) rfl) (lp:=⟨.exhausted,pe,fn,n,t,ps,asg,body,df⟩) (lp':={ lp' with state:=.exhausted })
    ⟨rfl,g2.pending,g2.fn,g2.tmps,g2.params,g2.assign,g2.body,g2.defers⟩
   have hst:lp'.state=st:=g2.state;have hpe:lp'.pending=pe:=g2.pending;have hnb:(lp'.state==LoopState.busy)=false:=by
    rw [hst];cases st <;> first | rfl | exact absurd rfl hbusy
   have hrun:(Instr.endLoop L.block).run P w=.ok pe (xv w L.block (.loop { lp' with state:=.exhausted })):=by
    simp only [Instr.endLoop,Sem.run_bind,yV g1,Result.andThen_ok,hnb,Bool.false_eq_true,if_false,Sem.run_pure,kw g1,hpe]
   refine ⟨_,_,_,.one (step_lone_go (fr':={ fr with todo:=(pe.map Item.code).toList++kk' }) (cs':=fs++base) (w':=xv w L.block (.loop { lp' with state:=.exhausted })) ?_),B,R,fs,rfl,k.base,g3,k.old.keeps k.base k.heap g4,?_,k.below.mono g4.le (B.keeps_refl (rest.length)) (Nat.le_refl _)⟩
   ·simp [stepG,stepG.exec,hm,hfr,Sem.runT_eq,hrun]
   ·obtain ⟨k1,k2,k3,k4,k5,k6,k7,k8,k9⟩:=k.top;have hrm:=k.run;obtain ⟨fn,n,t,td,ds,mode,kind,round⟩:=af;simp only at hrm; subst hrm;refine ⟨k1,k2,k3,k4,k5,k6,k7,k8,xS ?_ hs⟩;cases pe with
    | none=>exact hk
    | some c=>exact ⟨_,_,rfl,rfl,hk⟩
theorem zdW (k:Plain P w0 base B R af rest h fr fs w)(hs:Slots R af.tmps fr.tmps){f:Operand}{params:Array Tmp}{assign body:Code}{kk:List AItem}{kk':List Item}(hfr:fr.todo=.code (.rangeFunc f params assign body)::kk')(hk:All2 (ItemRel R) kk kk')
 {m:AM} (e:jJ P af rest h params assign body kk (ev af.tmps f)=some m):zeW P w0 base m fr (fs++base) w:=by
 have hm:=zq3 k;have hroom:B.n≤w.heap.size:=by show B.env.heap.size≤_; rw [k.base]; exact k.old.size
 unfold jJ at e;split at e
 ·cases e
 ·rename_i fv hf;have hfv:VRel R fv (fr.eval f):=zbv (R:=R) (fun u _ hu=>hs u _ hu) hf;split at e
  ·cases e
  ·rename_i d h1 mark hmark;have first:∃ (R1:Bij) (w1:World) (Ld:Loc) (mark':List Deferred),HRel P B R1 h1 w1∧Keeps R w R1 w1∧R1 d 0=some Ld∧All2 (DefRel R1) mark mark' ∧
    (Instr.enterLoop fr.fn fr.tmps params assign body fr.roundOf).run P w=.ok (w1.heap.size,mark') (w1.alloc (.loop { state:=.ready,pending:=none,fn:=fr.fn,tmps:=fr.tmps,params,assign,body,defers:=Ld.block })):=by
    have hround:=k.top.round;unfold ztP at hmark;split at hmark
    ·rename_i l hl;rw [hl] at hround;obtain ⟨L,hL,hfl⟩:=hround;split at hmark
     ·cases hmark
     ·rename_i lp ho;cases hmark;obtain ⟨lp',g1,g2⟩:=zbk k.heap (yO ho) hL;obtain ⟨Ld,d1,d2⟩:=g2.defers;refine ⟨R,w,Ld,[],k.heap,Keeps.refl _ _,d1,rfl,?_⟩;simp only [Instr.enterLoop,hfl,Sem.run_bind,yV g1,Result.andThen_ok,Sem.run_pure,run_newObj,World.alloc_eq,d2]
    ·rename_i hl;rw [hl] at hround;cases hmark;obtain ⟨g1,g2⟩:=jv k.heap hroom (.dfrd (some [])) (.deferred (some [])) (fun R' _ e=>⟨_,some [],e,xp w _,[],rfl,rfl⟩);refine ⟨_,_,⟨w.heap.size,0,0⟩,[{ target:=.collected w.heap.size,args:=#[] }],g1,g2,R.upd_same _ _ _,⟨_,[],rfl,⟨⟨_,R.upd_same _ _ _,rfl⟩,rfl⟩,rfl⟩,?_⟩;simp only [Instr.enterLoop,show fr.roundOf=none from hround,Sem.run_bind,run_newObj,World.alloc_eq,Result.andThen_ok,Sem.run_pure]
   obtain ⟨R1,w1,Ld,mark',p1,p2,p3,p4,p5⟩:=first
   have hroom1:B.n≤w1.heap.size:=Nat.le_trans hroom p2.size;obtain ⟨k1,k2,k3,k4,k5,k6,k7,k8,k9⟩:=k.top;obtain ⟨q1,q2⟩:=jv p1 hroom1 (.loop ⟨.ready,none,af.fn,af.n,af.tmps,params,assign,body,d⟩) (.loop { state:=.ready,pending:=none,fn:=fr.fn,tmps:=fr.tmps,params,assign,body,defers:=Ld.block })
    (fun R' hle e=>⟨_,_,e,xp w1 _,⟨rfl,rfl,k1,⟨k8,(hs.mono p2.le).mono hle⟩,rfl,rfl,rfl,⟨Ld,hle _ _ _ p3,rfl⟩⟩⟩)
   have hyl:R1.upd h1.next 0 ⟨w1.heap.size,0,0⟩ h1.next 0=some ⟨w1.heap.size,0,0⟩:=R1.upd_same _ _ _;have hkeep:=p2.trans q2;have hroom2:B.n≤(w1.alloc (.loop { state:=.ready,pending:=none,fn:=fr.fn,tmps:=fr.tmps,params,assign,body,defers:=Ld.block })).heap.size:=Nat.le_trans hroom1 q2.size;unfold zmG zcR at e;split at e
   ·rename_i g args h3 hcall;obtain ⟨aS,r1,r2,r3⟩:=zbB (f':=fr.eval f) (args':=[.func (.yield w1.heap.size) #[] #[]]) q1 hroom2 hcall (VRel.mono hkeep.le _ _ hfv) (.cons ⟨_,hyl,rfl⟩ .nil);have hres:(do let d ← resolve fr.eval { callee:=.value f,args:=#[.const (.func (.yield w1.heap.size) #[] #[])],argTypes:=#[] } 0; invoke d.target d.args:Sem Next).run P (w1.alloc (.loop { state:=.ready,pending:=none,fn:=fr.fn,tmps:=fr.tmps,params,assign,body,defers:=Ld.block }))=.ok (.enter g aS.toArray) (w1.alloc (.loop { state:=.ready,pending:=none,fn:=fr.fn,tmps:=fr.tmps,params,assign,body,defers:=Ld.block })):=by
     refine (congrArg (fun q:Sem Next=>q.run P _) ?_).trans r1;show (do let d ← Deferred.ofValue (fr.eval f) ((#[Operand.const (.func (.yield w1.heap.size) #[] #[])]:Array Operand).map fr.eval); invoke d.target d.args:Sem Next)=_
     rw [xw fr.eval];rfl
    have hm':=k.run;obtain ⟨fn,n,t,td,ds,mode,kind,round⟩:=af;simp only at hm' e; subst hm';obtain ⟨a,e1,rfl⟩:=xU e;refine ⟨_,_,_,.one (step_lone_go (fr':=Frame.enter P g aS.toArray .normal) (cs':={ fr with todo:=.inRangeFunc w1.heap.size::kk',defers:=mark'++fr.defers }::(fs++base)) (w':=w1.alloc (.loop { state:=.ready,pending:=none,fn:=fr.fn,tmps:=fr.tmps,params,assign,body,defers:=Ld.block })) ?_),
     B,_,{ fr with todo:=.inRangeFunc w1.heap.size::kk',defers:=mark'++fr.defers }::fs,rfl,k.base,r3,k.old.keeps k.base k.heap hkeep,jD e1 r2 (.inl rfl),_,_,rfl,?_,k.below.mono hkeep.le (B.keeps_refl (rest.length)) (Nat.le_refl _)⟩
    ·have happ:(stepG.apply P true { fr with todo:=.inRangeFunc w1.heap.size::kk',defers:=mark'++fr.defers } (fs++base) none (do let d ← resolve fr.eval { callee:=.value f,args:=#[.const (.func (.yield w1.heap.size) #[] #[])],argTypes:=#[] } 0; invoke d.target d.args)
      (w1.alloc (.loop { state:=.ready,pending:=none,fn:=fr.fn,tmps:=fr.tmps,params,assign,body,defers:=Ld.block }))).bare=.go { frame:=Frame.enter P g aS.toArray .normal,callers:={ fr with todo:=.inRangeFunc w1.heap.size::kk',defers:=mark'++fr.defers }::(fs++base),status:=.running,dying:=none }
      (w1.alloc (.loop { state:=.ready,pending:=none,fn:=fr.fn,tmps:=fr.tmps,params,assign,body,defers:=Ld.block })):=by
      simp only [stepG.apply,Sem.runT_eq,hres];simp
     refine Eq.trans ?_ happ;simp only [stepG,stepG.exec,hm,hfr,Sem.runT_eq,p5,GStep.bare_after];rfl
    ·refine ⟨k1,k2,k3,k4,k5.mono hkeep.le,(p4.mono fun _ _ q=>q.mono q2.le).append (k6.mono fun _ _ q=>q.mono hkeep.le),k7,k8,xS (P:=P) (B:=B) (d:=rest.length) (sus:=true) (h:=h3) (k:=.inRange h1.next::kk) (k':=.inRangeFunc w1.heap.size::kk') ⟨_,_,rfl,⟨_,hyl,rfl⟩,hk.mono fun _ _ q=>q.mono hkeep.le⟩ (hs.mono hkeep.le)⟩
   ·cases e
theorem zdn (kh:HRel P B R h w)(hb:B.env=w0)(ho:Old0 w0.toWorld w)(kt:FrameRel P B R rest.length false h af fr)(hr:af.mode≠.run)(kb:StackRel P B R h rest fs)(hslots:Slots R af.tmps fr.tmps){id:Nat}{args:List AV}{ds:List ADef}(hdef:af.defers=⟨.collected id,args⟩::ds)
 (hst:stepG P true { frame:=fr,callers:=fs++base,status:=.running,dying:=none } w=unwind P true fr (fs++base) none w) {cs:List ADef} (hcs:zcd h id=some cs) {m:AM} (e:(some ⟨af.withDefers (cs++ds),rest,h.put id (.dfrd none)⟩:Option AM)=some m):zeW P w0 base m fr (fs++base) w:=by
 cases e;have hd:=kt.defers;rw [hdef] at hd;obtain ⟨d',ds',hfd,hd1,hd2⟩:=hd;obtain ⟨L,hL,htg⟩:=hd1.1;obtain ⟨tg,aS⟩:=d';simp only at htg; subst htg;obtain ⟨L',ds0,g1,g2,g3⟩:=kh.obj' hL (zbd hcs);rw [hL] at g1; cases g1;obtain ⟨l,rfl,g4⟩:=g3;obtain ⟨g5,g6⟩:=xF kh hL (kh.notRo (zbd hcs) rfl) (.dfrd none) (.deferred none) ⟨L,none,hL,zX w _ _ (kh.place _ _ _ hL).2,rfl⟩;have hrun:(Instr.takeDeferred L.block).run P w=.ok l (xv w L.block (.deferred none)):=by
  have hg:(getObj L.block).run P w=.ok (.deferred (some l)) w:=by simp [getObj,Sem.run,g2]
  simp only [Instr.takeDeferred,Sem.run_bind,hg,Result.andThen_ok,xc P (ob:=.deferred none) g2 (by simp),Sem.run_pure]
 refine ⟨_,_,_,.one (step_lone_go (fr':={ fr with defers:=l++ds' }) (cs':=fs++base) (w':=xv w L.block (.deferred none)) ?_),B,R,fs,rfl,hb,g5,ho.keeps hb kh g6,?_,kb.mono g6.le (B.keeps_refl (rest.length)) (Nat.le_refl _)⟩
 ·rw [hst];simp [unwind,hfd,Sem.runT_eq,hrun]
 ·obtain ⟨k1,k2,k3,k4,k5,k6,k7,k8,k9⟩:=kt;obtain ⟨fn,n,t,td,ds1,mode,kind,round⟩:=af;cases mode with
  | run=>exact absurd rfl hr
  | returning=>exact ⟨k1,k2,k3,k4,k5,g4.append hd2,k7,k8,hslots⟩
  | panicking c=>exact ⟨k1,k2,k3,k4,k5,g4.append hd2,k7,k8,hslots⟩
end
end Go.Proofs.Ytcdigdplhlgcaaa.Ev
end
