import Derived.WalkKit
import Derived.ProofKit
import Derived.OpenShut
import Derived.Carry
import Derived.ChangeSlices
import Derived.SliceStrings
import Derived.Deep.Slices
import Derived.Test.YtcdigdplhlgcaaaG00
import Derived.Test.YtcdigdplhlgcaaaG01
import Derived.Test.YtcdigdplhlgcaaaG02
section
namespace Go.Proofs.Ytcdigdplhlgcaaa.Ev
open Go
section
variable {P:Program} {w0:Env} {base:List Frame} {B:Base} {R:Bij} {af:AFrame} {rest:List AFrame} {h:AHeap} {fr:Frame} {fs:List Frame} {w:World}
theorem Plain.ends (k:Plain P w0 base B R af rest h fr fs w)(hs:Slots R af.tmps fr.tmps){m:AM}(e:(some ⟨af.withMode .returning,rest,h⟩:Option AM)=some m)
 (hst:step P (lone fr (fs++base) w)=.next (lone { fr with mode:=.returning } (fs++base) w)):zeW P w0 base m fr (fs++base) w:=by
 cases e;refine ⟨_,_,_,.one hst,B,R,fs,rfl,k.base,k.heap,k.old,?_,k.below⟩;obtain ⟨k1,k2,k3,k4,k5,k6,k7,k8,k9⟩:=k.top;obtain ⟨fn,n,t,td,ds,mode,kind,round⟩:=af;exact ⟨k1,k2,k3,k4,k5,k6,rfl,k8,hs⟩
theorem zng (hmix:P.follows .mixedOrders=true)(k:Plain P w0 base B R af rest h fr fs w)(hs:Slots R af.tmps fr.tmps){c:Code}{kk:List AItem}{kk':List Item}(hfr:fr.todo=.code c::kk')(hk:All2 (ItemRel R) kk kk')
 {m:AM} (e:ztF P af rest h c kk=some m):zeW P w0 base m fr (fs++base) w:=by
 have hm:=zq3 k;have cons:∀ {a:AItem} {b:Item} {aS:List AItem} {bs:List Item},ItemRel R a b→All2 (ItemRel R) aS bs→All2 (ItemRel R) (a::aS) (b::bs):=fun h1 h2=>⟨_,_,rfl,h1,h2⟩;have hround:=k.top.round;have leave:∀ {jump:Option Code},vI P af rest h jump=some m →
  (fr.roundOf=none→(jump=none∨jump=some .ret)→(stepG P true { frame:=fr,callers:=fs++base,status:=.running,dying:=none } w).bare=.go { frame:={ fr with mode:=.returning },callers:=fs++base,status:=.running,dying:=none } w) →
  (∀ l,fr.roundOf=some l→(stepG P true { frame:=fr,callers:=fs++base,status:=.running,dying:=none } w).bare=(match (Instr.endRound l jump).run P w with
   | .ok v w=>(doReturn P true fr (fs++base) none v w).bare
   | .halt _ w => (GStep.ended (.stuck "range over a function: no such loop" (fr.pos P)) w).bare)) → zeW P w0 base m fr (fs ++ base) w := by
  intro jump e h1 h2;unfold vI at e;split at e
  ·rename_i hr;rw [hr] at hround;split at e
   ·exact k.ends hs e (step_lone_go (h1 hround (.inl rfl)))
   ·exact k.ends hs e (step_lone_go (h1 hround (.inr rfl)))
   ·cases e
  ·rename_i l hr;exact vK k hr e h2
 cases c with
 | skip=>exact k.to hs hk e (step_lone_go (by simp [stepG,stepG.exec,hm,hfr]))
 | label l=>exact k.to hs hk e (step_lone_go (by simp [stepG,stepG.exec,hm,hfr]))
 | seq a b=>exact k.to (todo:=.code a::.code b::kk) (todo':=.code a::.code b::kk') hs (cons rfl (cons rfl hk)) e (step_lone_go (by simp [stepG,stepG.exec,hm,hfr]))
 | cond c a b =>
  change zq5 af rest h a b kk (ev af.tmps c)=some m at e;unfold zq5 at e;split at e
  ·rename_i t hc;have hv:fr.eval c=.bool t:=zbv (R:=R) (fun u _ hu=>hs u _ hu) hc;cases t with
   | true=>exact k.to (todo:=.code a::kk) (todo':=.code a::kk') hs (cons rfl hk) e (step_lone_go (by simp [stepG,stepG.exec,hm,hfr,hv]))
   | false=>exact k.to (todo:=.code b::kk) (todo':=.code b::kk') hs (cons rfl hk) e (step_lone_go (by simp [stepG,stepG.exec,hm,hfr,hv]))
  ·cases e
 | block id b=>exact k.to (todo:=.code b::.inBlock id::kk) (todo':=.code b::.inBlock id::kk') hs (cons rfl (cons rfl hk)) e (step_lone_go (by simp [stepG,stepG.exec,hm,hfr]))
 | loop b=>exact k.to (todo:=.code b::.inLoop b::kk) (todo':=.code b::.inLoop b::kk') hs (cons rfl (cons rfl hk)) e (step_lone_go (by simp [stepG,stepG.exec,hm,hfr]))
 | scope b=>exact k.to (todo:=.code b::.inScope b::kk) (todo':=.code b::.inScope b::kk') hs (cons rfl (cons rfl hk)) e (step_lone_go (by simp [stepG,stepG.exec,hm,hfr]))
 | ret =>
  change vI P af rest h (some .ret)=some m at e;refine leave e (fun hr _=>by simp [stepG,stepG.exec,hm,hfr,hr]) fun l hr=>?_;simp only [stepG,stepG.exec,hm,hfr,hr,Sem.runT_eq];cases (Instr.endRound l (some .ret)).run P w <;> simp
 | exit id =>
  change (match zeQ id kk with | some k=>toA af rest h k | none=>vI P af rest h (some (.exit id)))=some m at e
  obtain ⟨x1,x2⟩:=ziG (id:=id) hk;cases hx:zeQ id kk with
  | some q =>
   rw [hx] at e;obtain ⟨q',g1,g2⟩:=x1 q hx;exact k.to hs g2 e (step_lone_go (by simp [stepG,stepG.exec,hm,hfr,g1]))
  | none =>
   rw [hx] at e;have g:=x2 hx;refine leave e (fun hr hj=>by rcases hj with hj | hj <;> cases hj) fun l hr=>?_;simp only [stepG,stepG.exec,hm,hfr,hr,Sem.runT_eq,g,Option.elim_none];cases (Instr.endRound l (some (.exit id))).run P w <;> simp
 | goto l =>
  change (match zeE l kk with | some k=>toA af rest h k | none=>vI P af rest h (some (.goto l)))=some m at e
  obtain ⟨x1,x2⟩:=zit (l:=l) hk;cases hx:zeE l kk with
  | some q =>
   rw [hx] at e;obtain ⟨q',g1,g2⟩:=x1 q hx;exact k.to hs g2 e (step_lone_go (by simp [stepG,stepG.exec,hm,hfr,g1]))
  | none =>
   rw [hx] at e;have g:=x2 hx;refine leave e (fun hr hj=>by rcases hj with hj | hj <;> cases hj) fun l' hr=>?_;simp only [stepG,stepG.exec,hm,hfr,hr,Sem.runT_eq,g,Option.elim_none];cases (Instr.endRound l' (some (.goto l))).run P w <;> simp
 | region id ops draw =>
  change zl0 P af rest h ops draw kk=some m at e;cases draw with
  | false =>
   refine k.to (todo:=.ops ops.toList ops.toList::kk) (todo':=.inRegion ops (List.range ops.size)::kk') hs (cons ⟨ops,_,rfl,rfl,?_⟩ hk) e (step_lone_go (by simp [stepG,stepG.exec,hm,hfr]));apply List.ext_getElem?;intro i;simp only [List.getElem?_map]
   by_cases hi:i<ops.size
   ·rw [List.getElem?_range hi]; simp [hi]
   ·rw [List.getElem?_eq_none (by simpa using hi),List.getElem?_eq_none (by simpa using hi)]; rfl
  | true =>
   change (match ziM P ops.toList (zE P ops.toList) with | false=>none | true=>toA af rest h (.drw ops (zE P ops.toList).ord []::kk))=some m at e
   split at e
   ·cases e
   ·rename_i hp;cases e;have pi:=zj9 hp;obtain ⟨g1,g2⟩:=zcr pi (w.tape w.drawn (.order fr.fn id));refine ⟨_,_,_,.one (step_lone_go (fr':={ fr with todo:=.inRegion ops (Region.linearise .any ops (w.tape w.drawn (.order fr.fn id)))::kk' }) (cs':=fs++base) (w':=w.drew) ?_),B,R,fs,rfl,k.base,k.heap.heap_eq rfl,⟨k.old.os,k.old.tape,k.old.output,k.old.size,Nat.le_succ_of_le k.old.drawn⟩,?_,k.below⟩
    ·simp [stepG,stepG.exec,hm,hfr,choose,Sem.run,Question.forced,Question.cut,Region.schedule,hmix]
    ·obtain ⟨k1,k2,k3,k4,k5,k6,k7,k8,k9⟩:=k.top;have hrun:=k.run;obtain ⟨fn,n,t,td,ds,mode,kind,round⟩:=af;simp only at hrun; subst hrun;obtain ⟨a1,a2,a3⟩:=qP pi.ord;exact ⟨k1,k2,k3,k4,k5,k6,k7,k8,_,kk',rfl,hk,⟨pi,rfl,g1,fun i hi=>(g2 i).2 (by have:=(a2 i hi).1; simpa using this),fun i hi=>(g2 i).1 hi,fun i hi=>absurd hi List.not_mem_nil,fun hh=>(by cases hh),fun u v hv=>.inr (hs u v hv),fun p hp=>absurd hp List.not_mem_nil,fun p hp=>absurd hp List.not_mem_nil⟩⟩
 | rangeFunc f params assign body=>exact zdW k hs hfr hk e
 | refuse why=>cases e
end
end Go.Proofs.Ytcdigdplhlgcaaa.Ev
end
section
namespace Go.Proofs.Ytcdigdplhlgcaaa.Ev
open Go
section
variable {P:Program} {w0:Env} {base:List Frame} {B:Base} {R:Bij} {af:AFrame} {rest:List AFrame} {h:AHeap} {fr:Frame} {fs:List Frame} {w:World}
theorem wrun (k:Wait P w0 base B R af rest h fr fs w):fr.mode=.run:=by
 have:=k.top.mode;rw [k.run] at this; exact this
theorem zlc {ρ:Operand→Option AV}{c:Call}{r:AR}(e:opA P ρ h (.defer c)=some r):∃ d,r=.dfr d:=by
 change zav ρ c=some r at e;unfold zav at e;split at e
 ·cases e
 ·split at e
  ·split at e
   ·cases e; exact ⟨_,rfl⟩
   ·cases e
  ·split at e
   ·cases e
   ·cases e; exact ⟨_,rfl⟩
  ·cases e
theorem zH {v:Option AV}{d:ADef}(e:yp h v=some (.dfr d)):False:=by obtain ⟨x,_,e2⟩:=zz e; cases e2
theorem qW {v:Option (AV × AHeap)}{d:ADef}(e:wk v=some (.dfr d)):False:=by obtain ⟨x,y,_,e2⟩:=zP e; cases e2
theorem kO {v:Option AHeap}{d:ADef}(e:zcE v=some (.dfr d)):False:=by obtain ⟨x,_,e2⟩:=wy e; cases e2
theorem zk7 {v:Option AHeap}{d:ADef}(e:zdA v=some (.dfr d)):False:=by obtain ⟨x,_,e2⟩:=zba e; cases e2
theorem zfQ {f:FuncId}{args:List AV}{d:ADef}(e:zjg P h f args=some (.dfr d)):False:=by
 unfold zjg at e;split at e
 ·cases e
 ·split at e
  ·split at e <;> cases e
  ·unfold zdl kc zlq wZ zea qT zbu qX zed zgO zdX zkS zl2 wp zbX zb1 at e
   repeat' split at e
   all_goals cases e
theorem w9 {x:AV}{name:String}{args:List AV}{d:ADef}(e:xK P h x name args=some (.dfr d)):False:=by
 unfold xK at e;split at e
 ·split at e
  ·cases e
  ·exact zfQ e
 ·cases e
theorem zfx {b:Builtin}{ats:Array TypeId}{args:List AV}{d:ADef}(e:yh P h b ats args=some (.dfr d)):False:=by
 unfold yh at e;split at e
 ·exact zH e
 ·unfold zi zgA zp0 zj2 zgV zbU at e
  repeat' split at e
  all_goals first
   | cases e; done
   | exact qW e
   | exact zk7 e
theorem zhb {ρ:Operand→Option AV}{c:Call}{d:ADef}(e:xi P ρ h c=some (.dfr d)):False:=by
 unfold xi at e;split at e
 ·cases e
 ·split at e
  ·exact zfx e
  ·split at e
   ·cases e
   ·exact w9 e
  ·split at e
   ·cases e
   ·unfold zlx at e;split at e
    ·unfold wx at e
     repeat' split at e
     all_goals first
      | exact zfQ e
      | exact w9 e
      | cases e
    ·cases e
    ·cases e
theorem zqk {ρ:Operand→Option AV}{op:Op}{d:ADef}(e:opA P ρ h op=some (.dfr d)):∃ c,op=.defer c:=by
 cases op with
 | «defer» c=>exact ⟨c,rfl⟩
 | call c=>exact absurd (zhb (show xi P ρ h c=_ from e)) id
 | next it s =>
  exfalso;obtain ⟨a,_,e⟩:=zm (show y8 ρ it _=_ from e)
  unfold znH zkw at e
  repeat' split at e
  all_goals cases e
 | range t x =>
  exfalso;obtain ⟨a,_,e⟩:=zm (show y8 ρ x _=_ from e)
  unfold ziI at e
  repeat' split at e
  all_goals cases e
 | panic x =>
  exfalso;obtain ⟨a,_,e⟩:=zm (show y8 ρ x _=_ from e)
  unfold zkh at e;split at e <;> cases e
 | makeMap t r =>
  exfalso;change zfK P ρ h t r=_ at e;unfold zfK at e
  repeat' split at e
  all_goals cases e
 | convert s d x =>
  exfalso;obtain ⟨a,_,e⟩:=zm (show y8 ρ x _=_ from e)
  unfold zeZ at e;split at e
  ·exact qW e
  ·exact zH e
 | alloc t =>
  exfalso;change jg P h t (qj P t)=_ at e;unfold jg at e;split at e
  ·cases e
  ·exact qW e
 | build t parts =>
  exfalso;change vE P h t (q9 ρ parts.toList)=_ at e;unfold vE at e;split at e
  ·cases e
  ·exact zH e
 | buildSlice t n parts =>
  exfalso;change zY P h t n (q9 ρ parts.toList)=_ at e;unfold zY at e;split at e
  ·cases e
  ·exact qW e
 | insert t m k x =>
  exfalso;change yl P ρ h t m k x=_ at e;unfold yl at e
  repeat' split at e
  all_goals first | exact kO e | cases e
 | mapUpdate t m k x =>
  exfalso;change yl P ρ h t m k x=_ at e;unfold yl at e
  repeat' split at e
  all_goals first | exact kO e | cases e
 | entryStore t m s x =>
  exfalso;change wM ρ h m s x=_ at e;unfold wM at e
  repeat' split at e
  all_goals first | exact kO e | cases e
 | mapEntry t x y=>obtain ⟨a,b,_,_,e⟩:=xm (show two ρ x y _=_ from e); exact absurd (qW e) id
 | move x=>exact absurd (zH (show yp h _=_ from e)) id
 | assign x=>exact absurd (zH (show yp h _=_ from e)) id
 | pick c a b=>exact absurd (zH (show yp h _=_ from e)) id
 | makeFunc f a b=>exact absurd (zH (show yp h _=_ from e)) id
 | slice t x a b c=>exact absurd (zH (show yp h _=_ from e)) id
 | extract x i=>exact absurd (zH (show yp h _=_ from e)) id
 | box t x=>obtain ⟨a,_,e⟩:=zm (show y8 ρ x _=_ from e); exact absurd (qW e) id
 | load t x=>obtain ⟨a,_,e⟩:=zm (show y8 ρ x _=_ from e); exact absurd (zH e) id
 | nilCheck x=>obtain ⟨a,_,e⟩:=zm (show y8 ρ x _=_ from e); exact absurd (zH e) id
 | unOp o t x=>obtain ⟨a,_,e⟩:=zm (show y8 ρ x _=_ from e); exact absurd (zH e) id
 | makeInterface t x=>obtain ⟨a,_,e⟩:=zm (show y8 ρ x _=_ from e); exact absurd (zH e) id
 | fieldAddr t x f=>obtain ⟨a,_,e⟩:=zm (show y8 ρ x _=_ from e); exact absurd (zH e) id
 | field t x f=>obtain ⟨a,_,e⟩:=zm (show y8 ρ x _=_ from e); exact absurd (zH e) id
 | typeAssert x t u k=>obtain ⟨a,_,e⟩:=zm (show y8 ρ x _=_ from e); exact absurd (zH e) id
 | store t x y=>obtain ⟨a,b,_,_,e⟩:=xm (show two ρ x y _=_ from e); exact absurd (kO e) id
 | binOp o t x y u=>obtain ⟨a,b,_,_,e⟩:=xm (show two ρ x y _=_ from e); exact absurd (zH e) id
 | makeSlice t x y=>obtain ⟨a,b,_,_,e⟩:=xm (show two ρ x y _=_ from e); exact absurd (qW e) id
 | indexAddr t x y=>obtain ⟨a,b,_,_,e⟩:=xm (show two ρ x y _=_ from e); exact absurd (zH e) id
 | index t x y=>obtain ⟨a,b,_,_,e⟩:=xm (show two ρ x y _=_ from e); exact absurd (zH e) id
 | lookup t x y k=>obtain ⟨a,b,_,_,e⟩:=xm (show two ρ x y _=_ from e); exact absurd (zH e) id
 | _=>cases (show (none:Option AR)=_ from e)
theorem zgu (k:Wait P w0 base B R af rest h fr fs w){s:Sem Next}{m:AM}(hop:OpRel P B R w s .recover)
 (hst:(stepG P true { frame:=fr,callers:=fs++base,status:=.running,dying:=none } w).bare=(stepG.apply P true fr (fs++base) none s w).bare) (e:zdw P af rest h=some m):zeW P w0 base m fr (fs++base) w:=by
 have hop:s.run P w=.ok .recover w:=hop;unfold zdw at e;split at e
 ·cases e
 ·rename_i hrd;have hfr:fr.roundOf=none:=by have:=k.top.round; rw [hrd] at this; exact this
  split at e
  ·rename_i hkd;have hkf:fr.kind=.deferred:=k.top.kind.trans hkd;split at e
   ·cases e
   ·rename_i c r;obtain ⟨f,fs',rfl,kf,kr⟩:=k.below;unfold zeI at e;split at e
    ·rename_i v older hm;obtain ⟨a,e1,rfl⟩:=xU e;have hmode:=kf.mode;rw [hm] at hmode;obtain ⟨ch',hfm,x',older',rfl,hx,hold⟩:=hmode;obtain ⟨y1,y2,y3⟩:=x';obtain ⟨hx1,hx2,hx3⟩:=hx;simp only at hx1 hx2 hx3;subst hx2 hx3;refine ⟨_,_,_,.one (step_lone_go (fr':=fr.finish y1) (cs':={ f with mode:=.panicking ({ v:=y1,recovered:=true }::older') }::(fs'++base)) (w':=w) ?_),B,R,{ f with mode:=.panicking ({ v:=y1,recovered:=true }::older') }::fs',rfl,k.base,k.heap,k.old,xT k.top k.run e1 hx1,_,_,rfl,?_,kr⟩
     ·rw [hst];simp [stepG.apply,Sem.runT_eq,hop,hfr,tryRecover,hkf,hfm]
     ·obtain ⟨k1,k2,k3,k4,k5,k6,k7,k8,k9⟩:=kf;obtain ⟨fn,n,t,td,ds0,mode,kind,round⟩:=c;simp only at hm; subst hm;exact ⟨k1,k2,k3,k4,k5,k6,⟨_,rfl,_,_,rfl,⟨hx1,rfl,rfl⟩,hold⟩,k8,k9⟩
    ·rename_i hno;obtain ⟨a,e1,rfl⟩:=xU e;have hmode:=kf.mode;have hnone:tryRecover fr (f::(fs'++base))=none:=by
      unfold tryRecover;rw [hkf];simp only [];cases hm:c.mode with
      | run=>rw [hm] at hmode; rw [show f.mode=.run from hmode]
      | returning=>rw [hm] at hmode; rw [show f.mode=.returning from hmode]
      | panicking ch =>
       rw [hm] at hmode;obtain ⟨ch',hfm,hc⟩:=hmode;rw [hfm];cases ch with
       | nil=>cases hc; rfl
       | cons x older =>
        obtain ⟨x',older',rfl,hx,hold⟩:=hc;obtain ⟨x1,x2⟩:=x;cases x2 with
        | false=>exact absurd hm (hno _ _)
        | true =>
         obtain ⟨y1,y2,y3⟩:=x';obtain ⟨hx1,hx2,hx3⟩:=hx;simp only at hx2 hx3;subst hx2 hx3;rfl
     refine ⟨_,_,_,.one (step_lone_go (fr':=fr.finish .nilIface) (cs':=f::(fs'++base)) (w':=w) ?_),B,R,f::fs',rfl,k.base,k.heap,k.old,xT k.top k.run e1 rfl,f,fs',rfl,kf,kr⟩;rw [hst];simp [stepG.apply,Sem.runT_eq,hop,hfr,hnone]
  ·cases e
theorem zhJ [XT P] [XTOk P] (k:Wait P w0 base B R af rest h fr fs w){ops:Array Oper}{i:Nat}{s':List Nat}{k':List Item}(ht:fr.todo=.inRegion ops (i::s')::k'){o:Oper}(ho:ops[i]?=some o)
 (hops:∀ x∈o.op.operands,∀ v,ev af.tmps x=some v→VRel R v (fr.eval x))
 (hgu:∀ g b q u v,o.guard=some (g,b)→ops[g]?=some q→q.dst=some u→af.tmps.get u=some v→∃ x,fr.tmps[u]?=some x∧VRel R v x)
 {m:AM} (e:zaz P af rest h ops.toList o=some m):zeW P w0 base m fr (fs++base) w:=by
 have hm:=wrun k;unfold zaz at e;split at e
 ·cases e
 ·rename_i wt hwt;have hw:=zdd hwt hgu;split at e
  ·exact ⟨_,_,_,.one (kz hm ht ho hw),k.got (v:=xE) (x:=undef) ⟨[],rfl,rfl⟩ k.heap (Keeps.refl _ _) e⟩
  ·unfold zgM at e;split at e
   ·cases e
   ·rename_i r hr;have hop:=zlV k.heap k.room hops hr;have hoper:(stepG P true { frame:=fr,callers:=fs++base,status:=.running,dying:=none } w)=stepG.oper P true fr (fs++base) none w:=by
     simp only [stepG,stepG.exec,hm,ht,ho,hw,Option.map_some,Option.getD_some,if_true]
    by_cases hdf:∃ c,o.op=.defer c
    ·obtain ⟨c,hc⟩:=hdf;obtain ⟨d,rfl⟩:=zlc (by rw [hc] at hr; exact hr);change zgZ P af rest h d=some m at e;unfold zgZ at e;split at e
     ·rename_i hrd;have hfr:fr.roundOf=none:=by have:=k.top.round; rw [hrd] at this; exact this
      obtain ⟨d',r1,r2⟩:=hop;have hst:(stepG P true { frame:=fr,callers:=fs++base,status:=.running,dying:=none } w)=stepG.apply P true fr (fs++base) none (execOp fr.eval o) w:=by
       rw [hoper];simp only [stepG.oper,Frame.oper?,ht,ho,hfr]
      obtain ⟨a,e1,rfl⟩:=xU e;refine ⟨_,_,_,.one (step_lone_go (fr':=({ fr with defers:=d'::fr.defers }:Frame).finish undef) (cs':=fs++base) (w':=w) (by rw [hst]; simp [stepG.apply,Sem.runT_eq,r1])),B,R,fs,rfl,k.base,k.heap,k.old,?_,k.below⟩;refine xT (h0:=h) (v:=xE) ?_ ?_ e1 ⟨[],rfl,rfl⟩
      ·obtain ⟨k1,k2,k3,k4,k5,k6,k7,k8,k9⟩:=k.top;obtain ⟨fn,n,t,td,ds,mode,kind,round⟩:=af;exact ⟨k1,k2,k3,k4,k5,⟨_,_,rfl,r2,k6⟩,k7,k8,k9⟩
      ·have:=k.run;obtain ⟨fn,n,t,td,ds,mode,kind,round⟩:=af;exact this
     ·cases e
    ·have hst:(stepG P true { frame:=fr,callers:=fs++base,status:=.running,dying:=none } w)=stepG.apply P true fr (fs++base) none (execOp fr.eval o) w:=by
      rw [hoper];simp only [stepG.oper,Frame.oper?,ht,ho];split
      ·rename_i _ c _ hc;exact absurd ⟨c,hc⟩ hdf
      ·rfl
     cases r with
     | round l args=>exact zmL k hop (by rw [hst]) e
     | dfr d =>
      exact absurd (zqk hr) hdf
     | recover=>exact zgu k hop (by rw [hst]) e
     | val v h'=>obtain ⟨a,b,c,h1,h2⟩:=zaV k hop (by simp) (by simp) (by simp) (by rw [hst]) ⟨_,_,_,_,ht⟩ e; exact ⟨a,b,c,h1,h2⟩
     | skip h'=>obtain ⟨a,b,c,h1,h2⟩:=zaV k hop (by simp) (by simp) (by simp) (by rw [hst]) ⟨_,_,_,_,ht⟩ e; exact ⟨a,b,c,h1,h2⟩
     | enter f aS h'=>obtain ⟨a,b,c,h1,h2⟩:=zaV k hop (by simp) (by simp) (by simp) (by rw [hst]) ⟨_,_,_,_,ht⟩ e; exact ⟨a,b,c,h1,h2⟩
     | panic v=>obtain ⟨a,b,c,h1,h2⟩:=zaV k hop (by simp) (by simp) (by simp) (by rw [hst]) ⟨_,_,_,_,ht⟩ e; exact ⟨a,b,c,h1,h2⟩
end
end Go.Proofs.Ytcdigdplhlgcaaa.Ev
end
section
namespace Go.Proofs.Ytcdigdplhlgcaaa.Ev
open Go
section
variable {P:Program} {w0:Env} {base:List Frame} {B:Base} {R:Bij} {af:AFrame} {rest:List AFrame} {h:AHeap} {fr:Frame} {fs:List Frame} {w:World}
theorem zmn {ρ:Operand→Option AV}{o:Oper}{r:AR}(he:yL P o=false)(e:opA P ρ h o.op=some r):∃ v h',r=.val v h' ∧
 ((xj o.op=true∧∃ vf ob,FloatAt P ρ o.op vf ob∧v=vf h.next∧h'=h.new ob)∨(xj o.op=false∧jA o.op=true∧h'=h∧∀ h,opA P ρ h o.op=some (.val v h)) ∨
  (xj o.op=false∧jA o.op=false∧yq P o.op=true∧h'=h)):=by
 cases hf:xj o.op with
 | true =>
  obtain ⟨vf,ob,k⟩:=zm6 hf e;have:=k.1 h;rw [e] at this;cases this;exact ⟨_,_,rfl,.inl ⟨rfl,vf,ob,k,rfl,rfl⟩⟩
 | false =>
  cases hp:jA o.op with
  | true =>
   obtain ⟨v,rfl,k⟩:=znZ hp e;exact ⟨_,_,rfl,.inr (.inl ⟨rfl,rfl,rfl,k⟩)⟩
  | false =>
   have hr:yq P o.op=true:=by
    cases hr:yq P o.op with
    | true=>rfl
    | false =>
     exfalso;unfold yL at he;cases hop:o.op <;> simp [hop] at he <;> simp [hop] at hf hp hr <;> simp [hf,hp,hr] at he
   obtain ⟨v,rfl⟩:=zhV hr e;exact ⟨_,_,rfl,.inr (.inr ⟨rfl,rfl,hr,rfl⟩)⟩
theorem zql {fn:FuncId}{n:Nat}{t:T AV}{all:Array Oper}{i:Nat}{l dn:List Nat}{kk:List AItem}{ds:List ADef}{mode:AMode}{kind:CallKind}{round:Option Nat}{o:Oper}{v:AV}{h':AHeap}{m:AM}(ho:all[i]?=some o)(he:yL P o=false)
 (e:zaN rest h' (z7 P ⟨fn,n,t,.drw all (i::l) dn::kk,ds,mode,kind,round⟩ h' v)=some m) :
 ∃ t',zj5 t n o.dst v=some t'∧(xj o.op=true→yW P all.toList 0 t' h' dn=true)∧m=⟨⟨fn,n,t',.drw all l (i::dn)::kk,ds,mode,kind,round⟩,rest,h'⟩:=by
 obtain ⟨a,e1,rfl⟩:=xU e;change (match all[i]? with | none=>none | some o=>zdc P ⟨fn,n,t,.drw all (i::l) dn::kk,ds,mode,kind,round⟩ h' all i o l dn kk (zj5 t n o.dst v))=some a at e1
 rw [ho] at e1;simp only [] at e1;unfold zdc at e1;split at e1
 ·cases e1
 ·rename_i t' ht;split at e1
  ·cases e1
  ·rename_i hre;cases e1;exact ⟨t',ht,fun hf=>by simpa [hf,he] using hre,rfl⟩
theorem zqA [XT P] [XTOk P] (k:Plain P w0 base B R af rest h fr fs w){all:Array Oper}{l dn:List Nat}{kk:List AItem}(ht:af.todo=.drw all l dn::kk){s:List Nat}{k':List Item}(hfr:fr.todo=.inRegion all s::k')(hk:All2 (ItemRel R) kk k')
 (hd:Drw P B R rest.length false all l dn af.tmps h fr.tmps s) {m:AM} (e:zoE P all l dn af rest h kk=some m):zeW P w0 base m fr (fs++base) w:=by
 have hm:=zq3 k;have hroom:B.n≤w.heap.size:=by show B.env.heap.size≤_; rw [k.base]; exact k.old.size
 have hrun:=k.run;obtain ⟨fn,n,t,td,ds,mode,kind,round⟩:=af;simp only at ht hrun hd; subst ht; subst hrun;cases l with
 | nil =>
  change toA _ rest h kk=some m at e;cases e;obtain ⟨B',R',w',a',g1,g2,g3,g4,g5,g6,g7⟩:=hd.run_out s k.heap hroom hm hfr (fs++base);have st:step P (lone { fr with tmps:=a',todo:=.inRegion all []::k' } (fs++base) w')=.next (lone { fr with tmps:=a',todo:=k' } (fs++base) w') :=
   step_lone_go (by simp [stepG,stepG.exec,hm])
  refine ⟨_,_,_,g1.trans (.one st),B',R',fs,rfl,g3.1.trans k.base,g5,k.old.keeps k.base k.heap g6,?_,k.below.mono g4 g3 (Nat.le_refl _)⟩;obtain ⟨k1,k2,k3,k4,k5,k6,k7,k8,k9⟩:=k.top;exact ⟨k1,k2,k3,k4,k5.mono g4,k6.mono fun _ _ q=>q.mono g4,k7.mono g4,g2.trans k8,xS (hk.mono fun _ _ q=>q.mono g4) g7⟩
 | cons i l =>
  have hin:=hd.facts.2.2.2.1 i List.mem_cons_self;obtain ⟨o,ho⟩:∃ o,all[i]?=some o:=⟨_,Array.getElem?_eq_getElem hin⟩;change zp6 P _ rest h all.toList all[i]?=some m at e;rw [ho] at e;change zaz P _ rest h all.toList o=some m at e;have hidn:i ∉ dn:=fun hi=>(List.nodup_append.1 hd.facts.2.2.2.2.1).2.2 i (by simpa using hi) i List.mem_cons_self rfl
  obtain ⟨k1,k2,k3,k4,k5,k6,k7,k8,k9⟩:=k.top;cases he:yL P o with
  | true =>
   have hem:(zE P all.toList).em.testBit i=true:=by rw [hd.plan.em i o ho]; exact he
   obtain ⟨B',R',w',a',s',g1,g2,g3,g4,g5,g6,g7⟩:=hd.catch_up hem s k.heap hroom hm hfr (fs++base);have hw:Wait P w0 base B' R' ⟨fn,n,t,.drw all (i::l) dn::kk,ds,.run,kind,round⟩ rest h { fr with tmps:=a',todo:=.inRegion all (i::s')::k' } fs w' :=
    ⟨g5,g3.1.trans k.base,k.old.keeps k.base k.heap g6,⟨k1,k2,k3,k4,k5.mono g4,k6.mono fun _ _ q=>q.mono g4,k7.mono g4,g2.trans k8,i::s',k',rfl,hk.mono fun _ _ q=>q.mono g4,g7.suspend hem⟩,rfl,k.below.mono g4 g3 (Nat.le_refl _)⟩
   have hreads:=g7.reads ho hidn;obtain ⟨fr',cs',w2,s1,s2⟩:=zhJ hw rfl ho (fun x hx v hv=>zbv (fun u hu he=>hreads u v (by rw [hu] at hx; exact xI hx) he) hv)
    (fun g b q u v hg hq hu hv=>hreads u v (qg hg (by simpa using hq) hu) hv) e
   exact ⟨fr',cs',w2,g1.trans s1,s2⟩
  | false =>
   have hem:(zE P all.toList).em.testBit i=false:=by rw [hd.plan.em i o ho]; exact he
   have hown:=hd.own_dst ho he;have hap:∀ p∈dn,p∈s→∀ q,all[p]?=some q→∀ x,o.dst=some x→(zO all.toList q).contains x=false∧q.dst≠some x:=fun p hp hps q hq x hx =>
    hd.apart ho hx hidn hp hq (by
     cases hb:(zE P all.toList).em.testBit p with
     | false=>rfl
     | true=>exact absurd hps (hd.effs p hp hb)) (fun hh=>by rw [hem] at hh; cases hh)
   have hop:∀ {v:AV} {t':T AV},t'=zjO t o.dst v→∀ h,opA P (ev t') h o.op=opA P (ev t) h o.op:=fun {v t'} ht' h=>by
    subst ht';unfold zjO;split
    ·rfl
    ·rename_i u hu; exact zgC all.toList (hown u hu) h
   have hwg:∀ {v:AV} {t':T AV},t'=zjO t o.dst v→xd all.toList t' o.guard=xd all.toList t o.guard:=fun {v t'} ht'=>by
    subst ht';unfold zjO;split
    ·rfl
    ·rename_i u hu; exact kn (hown u hu)
   have hget:∀ {v:AV} {t':T AV},t'=zjO t o.dst v→∀ u,o.dst=some u→t'.get u=some v:=fun {v t'} ht' u hu=>by
    subst ht'; rw [za8,if_pos hu]
   have goes:∀ {B':Base} {h':AHeap} {v:AV},zaN rest h' (z7 P ⟨fn,n,t,.drw all (i::l) dn::kk,ds,.run,kind,round⟩ h' v)=some m→HRel P B' R h' w→B.keeps B' rest.length →
    (∀ t',t'=zjO t o.dst v→(xj o.op=true→yW P all.toList 0 t' h' dn=true)→(∀ p∈dn,p∈s→∀ q,all[p]?=some q→Pend P B rest.length false all t h p q→Pend P B' rest.length false all t' h' p q)∧Pend P B' rest.length false all t' h' i o) →
    zeW P w0 base m fr (fs++base) w:=by
    intro B' h' v e hh hb hp;obtain ⟨t',f1,f2,rfl⟩:=zql ho he e;obtain ⟨q1,q2⟩:=hp t' (za0 f1).1 f2;exact ⟨_,_,_,Steps.refl _ _,B',R,fs,rfl,hb.1.trans k.base,hh,k.old,⟨k1,k2,k3,k4,k5,k6,k7,k8,s,k',hfr,hk,hd.ahead ho he k8 f1 q1 q2⟩,k.below.mono R.le_refl hb (Nat.le_refl _)⟩
   unfold zaz at e;split at e
   ·cases e
   ·rename_i wt hwt;split at e
    ·refine goes e k.heap (B.keeps_refl _) fun t' ht' _=>⟨fun p hp hps q hq hpe=>hpe.other ht' (hap p hp hps q hq),false,by rw [hwg ht']; exact hwt,fun _ u hu=>hget ht' u hu,fun hh=>(by cases hh)⟩
    ·unfold zgM at e;split at e
     ·cases e
     ·rename_i r hr;obtain ⟨v,h',rfl,hcase⟩:=zmn he hr;change zaN rest h' (z7 P _ h' v)=some m at e;rcases hcase with ⟨c1,vf,ob,c2,rfl,rfl⟩ | ⟨c1,c2,rfl,c3⟩ | ⟨c1,c2,c3,rfl⟩
      ·refine goes (B':=B.mark h.next ob (rest.length,i)) e (k.heap.mark ob _) ⟨rfl,fun id ob' e1 _=>zcX k.heap ob _ id ob' e1⟩ fun t' ht' hre=>⟨fun p hp hps q hq hpe=>?_,true,by rw [hwg ht']; exact hwt,fun hh=>(by cases hh),fun _=>.inl ⟨c1,vf,ob,h.next,?_,?_,?_,fun u hu=>hget ht' u hu⟩⟩
       ·refine (Pend.base (zcX k.heap ob _) hpe).suspend.again ht' (hap p hp hps q hq) fun h1 h2 h3=>?_;have hanc:(0:Nat).testBit p=false:=Nat.zero_testBit p;have:=kg (hre c1) p hp;rw [show all.toList[p]?=some q by simpa using hq] at this
        simp only [vv,h1,hanc,Bool.not_false,Bool.and_self] at this;exact this
       ·subst ht';unfold zjO;split
        ·exact c2
        ·rename_i u hu; exact c2.set all.toList (hown u hu)
       ·simp [Base.mark]
       ·simp [Base.mark]
      ·refine goes e k.heap (B.keeps_refl _) fun t' ht' _=>⟨fun p hp hps q hq hpe=>hpe.other ht' (hap p hp hps q hq),true,by rw [hwg ht']; exact hwt,fun hh=>(by cases hh),fun _=>.inr (.inl ⟨c1,c2,v,fun h=>by rw [hop ht']; exact c3 h,fun u hu=>hget ht' u hu⟩)⟩
      ·refine goes e k.heap (B.keeps_refl _) fun t' ht' _=>⟨fun p hp hps q hq hpe=>hpe.other ht' (hap p hp hps q hq),true,by rw [hwg ht']; exact hwt,fun hh=>(by cases hh),fun _=>.inr (.inr ⟨c1,c2,c3,.inr ⟨v,by rw [hop ht']; exact hr,fun u hu=>hget ht' u hu⟩⟩)⟩
theorem zn6 [XT P] [XTOk P] (hmix:P.follows .mixedOrders=true)(k:Plain P w0 base B R af rest h fr fs w){it:AItem}{kk:List AItem}(ht:af.todo=it::kk){m:AM}(e:ztZ P af rest h it kk=some m):zeW P w0 base m fr (fs++base) w:=by
 have hm:=zq3 k;have htop:TodoRel P B R rest.length false h af.todo af.tmps fr.todo fr.tmps:=by
  have:=k.top.top;rw [k.run] at this; exact this
 rw [ht] at htop;cases it with
 | drw all l dn =>
  obtain ⟨s,k',hfr,hk,hd⟩:=htop;exact zqA k ht hfr hk hd e
 | code c =>
  obtain ⟨⟨_,kk',hfr,rfl,hk⟩,hs⟩:=htop;exact zng hmix k hs hfr hk e
 | inBlock i =>
  obtain ⟨⟨_,kk',hfr,rfl,hk⟩,hs⟩:=htop;exact k.to hs hk e (step_lone_go (by simp [stepG,stepG.exec,hm,hfr]))
 | inLoop b =>
  obtain ⟨⟨_,kk',hfr,rfl,hk⟩,hs⟩:=htop;exact k.to (todo:=.code b::.inLoop b::kk) (todo':=.code b::.inLoop b::kk') hs ⟨_,_,rfl,rfl,_,_,rfl,rfl,hk⟩ e (step_lone_go (by simp [stepG,stepG.exec,hm,hfr]))
 | inScope b =>
  obtain ⟨⟨_,kk',hfr,rfl,hk⟩,hs⟩:=htop;exact k.to hs hk e (step_lone_go (by simp [stepG,stepG.exec,hm,hfr]))
 | ops all l =>
  obtain ⟨⟨_,kk',hfr,⟨ops,todo,rfl,rfl,hmap⟩,hk⟩,hs⟩:=htop;cases l with
  | nil =>
   have:todo=[]:=by simpa using hmap.symm
   subst this;exact k.to hs hk e (step_lone_go (by simp [stepG,stepG.exec,hm,hfr]))
  | cons o l =>
   cases todo with
   | nil=>simp at hmap
   | cons i todo =>
    simp only [List.map_cons,List.cons.injEq] at hmap;change zaz P af rest h ops.toList o=some m at e;have hw:Wait P w0 base B R af rest h fr fs w:=⟨k.heap,k.base,k.old,by
     obtain ⟨k1,k2,k3,k4,k5,k6,k7,k8,k9⟩:=k.top;refine ⟨k1,k2,k3,k4,k5,k6,k7,k8,?_⟩;have hr:=k.run;obtain ⟨fn,n,t,td,ds,mode,kind,round⟩:=af;simp only at hr ht; subst hr; subst ht;exact ⟨⟨_,kk',hfr,⟨ops,_,rfl,rfl,by simp only [List.map_cons,List.cons.injEq]; exact hmap⟩,hk⟩,hs⟩,k.run,k.below⟩
    exact zhJ hw hfr hmap.1.symm (fun x _ v hv=>zbv (fun u _ hu=>hs u v hu) hv) (fun g b q u v _ _ _ hv=>hs u v hv) e
 | inRange i=>cases e
 | endRange i =>
  obtain ⟨⟨_,kk',hfr,⟨L,hL,rfl⟩,hk⟩,hs⟩:=htop;exact zf6 k hs hL hfr hk e
 | beginRound =>
  obtain ⟨⟨_,kk',hfr,rfl,hk⟩,hs⟩:=htop;exact zky k hs hfr hk e
def resF (a:Array Value):ResultVar→Sem Value
 | .tmp t=>pure (a.getD t undef)
 | .cell x t=>do loadVar t (← asAddr (a.getD x undef))
theorem zjK (fn:Func)(a:Array Value):results fn a=(do let vs ← fn.results.mapM (resF a); pure (if h:vs.size=1 then vs[0] else .tuple vs)):=by
 unfold results
 first
  | rfl
  | (congr 1; done)
  | (congr 1; funext x; cases x <;> rfl)
  | (congr 1; congr 1; funext x; cases x <;> rfl)
theorem qH (kh:HRel P B R h w){t:T AV}{a:Array Value}(hs:Slots R t a):∀ {l:List ResultVar} {vs:List AV},vq P h t l=some vs →
 ∃ vs',(l.mapM (resF a)).run P w=.ok vs' w∧VRels R vs vs'
 | [],vs,e=>by cases e; exact ⟨[],by simp,rfl⟩
 | r::l,vs,e=>by
  have getD:∀ {u:Nat} {v:AV},t.get u=some v→VRel R v (a.getD u undef):=fun {u v} hv=>by
   obtain ⟨y,h1,h2⟩:=hs u v hv;rw [show a.getD u undef=y by
    obtain ⟨hl,hg⟩:=Array.getElem?_eq_some_iff.1 h1;simp [Array.getD,hl,hg]]
   exact h2
  have consO_some:∀ {x:Option AV} {y:Option (List AV)},znx x y=some vs→∃ v r,x=some v∧y=some r∧vs=v::r:=fun {x y} e=>by
   unfold znx at e;split at e
   ·cases e
   ·split at e
    ·cases e
    ·cases e; exact ⟨_,_,rfl,rfl,rfl⟩
  cases r with
  | tmp u =>
   obtain ⟨v,r,h1,h2,rfl⟩:=consO_some e;obtain ⟨vs',g1,g2⟩:=qH kh hs h2;exact ⟨a.getD u undef::vs',by simp only [List.mapM_cons,resF,Sem.run_bind,Sem.run_pure,Result.andThen_ok,g1],_,_,rfl,getD h1,g2⟩
  | cell u ty =>
   obtain ⟨v,r,h1,h2,rfl⟩:=consO_some e;obtain ⟨vs',g1,g2⟩:=qH kh hs h2;unfold zq7 at h1;split at h1
   ·cases h1
   ·rename_i p hp;have hpv:=getD hp;obtain ⟨v',q1,q2⟩:=qF kh h1 hpv;have hpp:∃ ad,a.getD u undef=.pointer (some ad):=by
     unfold zaK at h1;split at h1
     ·obtain ⟨L,_,_,hh⟩:=hpv; exact ⟨_,hh⟩
     ·exact ⟨_,hpv⟩
     ·cases h1
    obtain ⟨ad,had⟩:=hpp;rw [had] at q1;have q3:(loadVar ty ad).run P w=.ok v' w:=by simpa [Instr.loadAt,Instr.sureAddr] using q1
    exact ⟨v'::vs',by simp only [List.mapM_cons,resF,Sem.run_bind,Sem.run_pure,Result.andThen_ok,had,asAddr,q3,g1],_,_,rfl,q2,g2⟩
theorem zfp (kh:HRel P B R h w)(hs:Slots R af.tmps fr.tmps)(hfn:fr.fn=af.fn){v:AV}(e:zp9 P af h=some v):∃ fn v',P.funcs[fr.fn]?=some fn∧(results fn fr.tmps).run P w=.ok v' w∧VRel R v v':=by
 unfold zp9 at e;split at e
 ·cases e
 ·rename_i fn hf;unfold zq2 at e;split at e
  ·cases e
  ·rename_i l hl;obtain ⟨vs,g1,g2⟩:=qH kh hs hl;refine ⟨fn,if h:vs.toArray.size=1 then vs.toArray[0] else .tuple vs.toArray,by rw [hfn]; exact hf,?_,?_⟩
   ·rw [zjK,Array.mapM_eq_mapM_toList];simp only [Sem.run_bind,Sem.run_map,g1,Result.andThen_ok,Sem.run_pure]
   ·split at e
    ·cases e;obtain ⟨y,ys,rfl,hy,hr⟩:=g2;cases hr;simpa using hy
    ·rename_i hn;cases e;rw [dif_neg]
     ·exact ⟨vs,rfl,g2⟩
     ·intro hsz;have:=g2.length;simp at hsz;rw [hsz] at this
      match l,this,hn with
      | [x],_,hn=>exact hn x rfl
theorem zrC {f:Fn}{cap:List AV}{d':Deferred}{args:List AV}(k:DefRel R ⟨.fn f cap,args⟩ d'):∃ c aS:List Value,d'=⟨.fn f c.toArray,aS.toArray⟩∧VRels R cap c∧VRels R args aS:=by
 obtain ⟨⟨_,c,h1,h2⟩,h3⟩:=k;obtain ⟨t,a⟩:=d';simp only at h1 h3;exact ⟨c,a.toList,by rw [h1],h2,h3⟩
theorem zi1 (kh:HRel P B R h w)(hb:B.env=w0)(ho:Old0 w0.toWorld w)(kt:FrameRel P B R rest.length false h af fr)(hr:af.mode≠.run)(kb:StackRel P B R h rest fs){m:AM}(e:zaa P af rest h=some m):zeW P w0 base m fr (fs++base) w:=by
 have hslots:Slots R af.tmps fr.tmps:=by
  have:=kt.top;unfold zfJ at this;split at this
  ·exact absurd ‹_› hr
  ·exact this
 have hst:stepG P true { frame:=fr,callers:=fs++base,status:=.running,dying:=none } w=unwind P true fr (fs++base) none w:=by
  have:=kt.mode;cases hm:af.mode with
  | run=>exact absurd hm hr
  | returning=>rw [hm] at this; have hf:fr.mode=.returning:=this; simp only [stepG,hf]
  | panicking c=>rw [hm] at this; obtain ⟨c',hf,_⟩:=this; simp only [stepG,hf]
 have hroom:B.n≤w.heap.size:=by show B.env.heap.size≤_; rw [hb]; exact ho.size
 unfold zaa at e;split at e
 ·rename_i d ds hdef;have hd:=kt.defers;rw [hdef] at hd;obtain ⟨d',ds',hfd,hd1,hd2⟩:=hd;obtain ⟨tgt,args⟩:=d;unfold kB at e;simp only at e;split at e
  ·rename_i id;split at e
   ·cases e
   ·rename_i cs hcs;exact zdn kh hb ho kt hr kb hslots hdef hst hcs e
  ·rename_i f cap;obtain ⟨c,aS,rfl,h1,h2⟩:=zrC hd1;unfold zfL at e;split at e
   ·rename_i g args2 h2' hinv;obtain ⟨a,e1,rfl⟩:=xU e;have hop:=wU kh hroom hinv h2 h1;obtain ⟨as2,r1,r2,r3⟩:=hop;refine ⟨_,_,_,.one (step_lone_go (fr':=Frame.enter P g as2.toArray .deferred) (cs':={ fr with defers:=ds' }::(fs++base)) (w':=w) ?_),B,R,{ fr with defers:=ds' }::fs,rfl,hb,r3,ho,jD e1 r2 (.inr rfl),_,_,rfl,?_,kb.mono R.le_refl (B.keeps_refl (rest.length)) (Nat.le_refl _)⟩
    ·rw [hst];simp [unwind,hfd,callDeferred,Sem.runT_eq,r1]
    ·obtain ⟨k1,k2,k3,k4,k5,k6,k7,k8,k9⟩:=kt;obtain ⟨fn,n,t,td,ds0,mode,kind,round⟩:=af;cases mode with
     | run=>exact absurd rfl hr
     | returning=>exact ⟨k1,k2,k3,k4,k5,hd2,k7,k8,hslots⟩
     | panicking c=>exact ⟨k1,k2,k3,k4,k5,hd2,k7,k8,hslots⟩
   ·cases e
  ·cases e
 ·rename_i hdef;have hfd:fr.defers=[]:=by have:=kt.defers; rw [hdef] at this; exact this
  have hmode:=kt.mode;split at e
  ·cases e
  ·rename_i chain hm;rw [hm] at hmode;obtain ⟨c',hfm,hc⟩:=hmode;cases rest with
   | nil=>cases e
   | cons c r =>
    obtain ⟨f,fs',rfl,kf,kr⟩:=kb;cases e;obtain ⟨fn,hfn⟩:=kt.fnOk;have hcat:fr.catches P=false:=by simp only [Frame.catches,kt.fn,hfn]
    exact ⟨_,_,_,.one (step_lone_go (fr':=f.raise c') (cs':=fs'++base) (w':=w) (by rw [hst]; simp [unwind,hfd,hfm,hcat])),B,R,fs',rfl,hb,kh,ho,zep kf hc,kr⟩
  ·rename_i hm;rw [hm] at hmode;have hfm:fr.mode=.returning:=hmode;unfold zd9 at e;split at e
   ·cases e
   ·rename_i v hv;obtain ⟨fn,v',r1,r2,r3⟩:=zfp kh hslots kt.fn hv;obtain ⟨fr',cs',q1,q2⟩:=zbb (fr:=fr) (base:=base) kh hb ho kt.kindOk kt.kind kb r3 e;exact ⟨fr',cs',w,.one (step_lone_go (by rw [hst]; simp only [unwind,hfd,hfm,r1,Sem.runT_eq,r2]; simpa using q1)),q2⟩
theorem znO [XT P] [XTOk P] (hmix:P.follows .mixedOrders=true){m m':AM}{fr:Frame}{cs:List Frame}{w:World}(k:Sim P w0 base m fr cs w)(e:kq P m=some m'):zeW P w0 base m' fr cs w:=by
 obtain ⟨af,rest,h⟩:=m;obtain ⟨B,R,fs,rfl,hb,kh,ho,kt,kb⟩:=k;change (match af.mode with | .run=>zn5 P af rest h af.todo | _=>zaa P af rest h)=some m' at e
 split at e
 ·rename_i hrun;have hp:Plain P w0 base B R af rest h fr fs w:=⟨kh,hb,ho,kt,hrun,kb⟩;unfold zn5 at e;split at e
  ·rename_i hnil;have htop:TodoRel P B R rest.length false h af.todo af.tmps fr.todo fr.tmps:=by
    have:=kt.top;rw [hrun] at this; exact this
   rw [hnil] at htop;obtain ⟨h1,hs⟩:=htop;have hfr:fr.todo=[]:=h1;have hm:=zq3 hp;have hround:=kt.round;unfold vI at e;split at e
   ·rename_i hr;rw [hr] at hround;exact hp.ends hs e (step_lone_go (by simp [stepG,stepG.exec,hm,hfr,show fr.roundOf=none from hround]))
   ·rename_i l hr;refine vK hp hr e fun b hb=>?_;simp only [stepG,stepG.exec,hm,hfr,hb,Sem.runT_eq];cases (Instr.endRound b none).run P w <;> simp
  ·rename_i it kk hcons;exact zn6 hmix hp hcons e
 ·rename_i hr;exact zi1 kh hb ho kt (fun hh=>hr hh) kb e
def znE (G:T (T AV)) (w:World):Prop:=∀ g c,G.get g=some c→g<w.heap.size∧∃ cs el fz,w.heap[g]?=some (.cells cs el fz)∧∀ k v,c.get k=some v→∃ x,cs[k]?=some x∧VRel (fun _ _=>none) v x
def Env.of (w:World):Env:={ w with own:=fun _=>False,rob:=fun _=>False,pin:=fun _ _=>none }
def Base.of (w:World):Base:=⟨Env.of w,fun _=>False,fun _=>none,fun _=>(0,0)⟩
theorem HRel.start {P:Program}{G:T (T AV)}{w:World}(hG:znE G w):HRel P (Base.of w) (fun _ _=>none) ⟨.leaf,0,G⟩ w where
 fresh _ _ _:=rfl
 obj i o e:=by cases e
 pend i o e:=by cases e
 place i r L e:=by cases e
 rd i hi:=hi.elim
 low b _:=rfl
 rp i hi:=hi.elim
 rol i r L hi:=hi.elim
 pin i r L e:=by cases e
 apart i r i' r' L L' e:=by cases e
 same i r r' L L' e:=by cases e
 glob g c e:=⟨fun hm=>hm.elim (fun hl=>absurd (hG g c e).1 (Nat.not_lt.2 hl)) id,(hG g c e).2⟩
theorem Old0.start (w:World):Old0 (Env.of w).toWorld w:=⟨rfl,rfl,rfl,Nat.le_refl _,Nat.le_refl _⟩
end
end Go.Proofs.Ytcdigdplhlgcaaa.Ev
end
section
namespace Go.Proofs.Ytcdigdplhlgcaaa.Ev
open Go Go.ChangeShapes Go.WideShapes
theorem Old.kept {w w':World}(k:Old w w')(may:MemPlace→Prop):w.keptBut w' may :=
 ⟨k.os,k.output,fun i hi=>by rw [k.other i hi]; exact (World.keptBut_refl w may).2.2 i hi⟩
end Go.Proofs.Ytcdigdplhlgcaaa.Ev
end
section
namespace Go.Proofs.Ytcdigdplhlgcaaa.Ev
open Go
noncomputable section
variable (P:Program)
def runN [XT P]:Nat→AM→Option AM
 | 0,m=>some m
 | n+1,m=>match kq P m with
  | none=>none
  | some m=>runN n m
def zjH {α:Type} (t:T α):List Nat→T α→T α
 | [],acc=>acc
 | i::r,acc=>(acc.set (t.get i) i).seq fun acc=>zjH t r acc
def zg5 (us:List Nat) (fr:AFrame):AFrame:=match fr with
 | ⟨fn,n,t,todo,ds,mode,kind,round⟩=>⟨fn,n,zjH t us .leaf,todo,ds,mode,kind,round⟩
def vO:List (List Nat)→List AFrame→List AFrame
 | us::r,f::fs=>zg5 us f::vO r fs
 | [],fs=>fs
 | _::_,[]=>[]
def zm5 (us:List Nat) (fr:AFrame):AFrame:=match fr.todo with
 | .drw _ _ _::_=>fr
 | _=>zg5 us fr
def zb5:List (List Nat)→List AFrame→List AFrame
 | us::r,f::fs=>zm5 us f::zb5 r fs
 | [],fs=>fs
 | _::_,[]=>[]
def AV.ref:AV→Option Nat
 | .ptr i _ _=>some i
 | .slc i _ _ _ _=>some i
 | .mp i=>some i
 | _=>none
def zsO (objs:T AObj) (v:AV):Bool:=match v.ref with
 | none=>true
 | some i=>match objs.get i with
  | none=>false
  | some _=>true
def zpR (objs:T AObj) (t:T AV) (o:Oper):Bool:=match xj o.op with
 | false=>true
 | true=>match o.dst with
  | none=>false
  | some u=>match t.get u with
   | none=>false
   | some v=>zsO objs v
def zs0 (objs:T AObj) (t:T AV) (o:Option Oper):Bool:=match o with
 | none=>true
 | some o=>zpR objs t o
def zsJ (objs:T AObj) (fr:AFrame):Bool:=match fr.todo with
 | .drw all _ dn::_=>dn.all fun p=>zs0 objs fr.tmps all[p]?
 | _=>true
def znC:List Nat→T AV→T AV
 | [],t=>t
 | u::r,t=>znC r (t.set none u)
def zkW (us:List Nat) (fr:AFrame):AFrame:=match fr with
 | ⟨fn,n,t,todo,ds,mode,kind,round⟩=>⟨fn,n,znC us t,todo,ds,mode,kind,round⟩
def vG:List (List Nat)→List AFrame→List AFrame
 | us::r,f::fs=>zkW us f::vG r fs
 | [],fs=>fs
 | _::_,[]=>[]
def zfm (fr:AFrame):Bool:=match fr.todo with
 | .drw _ _ _::_=>false
 | _=>true
def zqP:List Nat→Code→Code
 | [],c=>c
 | d::p,c=>match c with
  | .seq a b=>zqP p (bif Nat.beq d 0 then a else b)
  | .cond _ a b=>zqP p (bif Nat.beq d 0 then a else b)
  | .rangeFunc _ _ a b=>zqP p (bif Nat.beq d 0 then a else b)
  | .block _ b=>zqP p b
  | .loop b=>zqP p b
  | .scope b=>zqP p b
  | c=>c
def cd (f:FuncId) (p:List Nat):Code:=match P.funcs[f]? with
 | none=>.skip
 | some fn=>match fn.body with
  | none=>.skip
  | some c=>zqP p c
def rg (f:FuncId) (p:List Nat):Array Oper:=match cd P f p with
 | .region _ ops _=>ops
 | _=>#[]
end
section
variable {P:Program} {w0:Env} {base:List Frame}
theorem zhB {α:Type}{t:T α}:∀ {ids:List Nat} {acc:T α},(∀ i o,acc.get i=some o→t.get i=some o)→∀ i o,(zjH t ids acc).get i=some o→t.get i=some o
 | [],_,h=>h
 | j::r,acc,h=>by
  intro i o e;rw [zjH,T.seq_eq] at e;refine zhB (acc:=acc.set (t.get j) j) (fun i o e=>?_) i o e;rw [T.get_set] at e
  by_cases hi:i=j
  ·subst hi; rwa [if_pos rfl] at e
  ·rw [if_neg hi] at e; exact h i o e
noncomputable def Base.only (B:Base) (h:AHeap):Base:={ B with pend:=fun i=>match h.get i with
 | none=>none
 | some _=>B.pend i }
theorem Slots.drop {R:Bij}{a:Array Value}:∀ {us:List Nat} {t:T AV},Slots R t a→Slots R (znC us t) a
 | [],_,k=>k
 | u::r,t,k=>Slots.drop (us:=r) (t:=t.set none u) fun x v e=>by
  rw [T.get_set] at e;split at e
  ·cases e
  ·exact k x v e
theorem FrameRel.plain {B B':Base}{R:Bij}{d:Nat}{sus:Bool}{h h':AHeap}{af:AFrame}{fr:Frame}{us:List Nat}(hp:zfm (zkW us af)=true)(k:FrameRel P B R d sus h af fr):FrameRel P B' R d sus h' (zkW us af) fr:=by
 obtain ⟨fn,n,t,todo,ds,mode,kind,round⟩:=af;obtain ⟨k1,k2,k3,k4,k5,k6,k7,k8,k9⟩:=k;refine ⟨k1,k2,k3,k4,k5,k6,k7,k8,?_⟩;cases mode with
 | run =>
  have k9:TodoRel P B R d sus h todo t fr.todo fr.tmps:=k9;show TodoRel P B' R d sus h' todo (znC us t) fr.todo fr.tmps;cases todo with
  | nil=>exact ⟨k9.1,k9.2.drop⟩
  | cons it kk =>
   cases it with
   | drw a b c=>cases hp
   | _=>exact ⟨k9.1,k9.2.drop⟩
 | returning=>exact Slots.drop k9
 | panicking c=>exact Slots.drop k9
theorem kH (af:AFrame):zkW [] af=af:=by cases af; rfl
theorem jC:∀ (dr:List (List Nat)) (aS:List AFrame),(vG dr aS).length=aS.length
 | [],aS=>by cases aS <;> rfl
 | _::_,[]=>rfl
 | us::dr,a::aS=>by simp [vG,jC dr aS]
theorem StackRel.plain {B B':Base}{R:Bij}{h h':AHeap}:∀ {dr:List (List Nat)} {aS:List AFrame} {fs:List Frame},(vG dr aS).all zfm=true→StackRel P B R h aS fs→StackRel P B' R h' (vG dr aS) fs
 | [],[],_,_,k=>k
 | _::_,[],_,_,k=>k
 | [],a::aS,fs,hp,⟨f,r,e,k1,k2⟩=>by
  rw [show vG [] (a::aS)=a::aS from rfl,List.all_cons,Bool.and_eq_true] at hp
  have g1:FrameRel P B' R aS.length true h' a f:=by
   have:=k1.plain (B':=B') (h':=h') (us:=[]) (by rw [kH]; exact hp.1)
   rwa [kH] at this
  have g2:=StackRel.plain (B':=B') (h':=h') (dr:=[]) (aS:=aS) (by rw [show vG [] aS=aS by cases aS <;> rfl]; exact hp.2) k2;rw [show vG [] aS=aS by cases aS <;> rfl] at g2;exact ⟨f,r,e,g1,g2⟩
 | us::dr,a::aS,fs,hp,⟨f,r,e,k1,k2⟩=>by
  rw [show vG (us::dr) (a::aS)=zkW us a::vG dr aS from rfl,List.all_cons,Bool.and_eq_true] at hp
  exact ⟨f,r,e,by rw [jC]; exact k1.plain hp.1,StackRel.plain hp.2 k2⟩
theorem Slots.keep {R:Bij}{a:Array Value}{us:List Nat}{t:T AV}(k:Slots R t a):Slots R (zjH t us .leaf) a:=fun u v e =>
 k u v (zhB (acc:=.leaf) (fun _ _ e=>by cases e) u v e)
theorem FrameRel.plainK {B B':Base}{R:Bij}{d:Nat}{sus:Bool}{h h':AHeap}{af:AFrame}{fr:Frame}{us:List Nat}(hp:zfm (zg5 us af)=true)(k:FrameRel P B R d sus h af fr):FrameRel P B' R d sus h' (zg5 us af) fr:=by
 obtain ⟨fn,n,t,todo,ds,mode,kind,round⟩:=af;obtain ⟨k1,k2,k3,k4,k5,k6,k7,k8,k9⟩:=k;refine ⟨k1,k2,k3,k4,k5,k6,k7,k8,?_⟩;cases mode with
 | run =>
  have k9:TodoRel P B R d sus h todo t fr.todo fr.tmps:=k9;show TodoRel P B' R d sus h' todo (zjH t us .leaf) fr.todo fr.tmps;cases todo with
  | nil=>exact ⟨k9.1,k9.2.keep⟩
  | cons it kk =>
   cases it with
   | drw a b c=>cases hp
   | _=>exact ⟨k9.1,k9.2.keep⟩
 | returning=>exact Slots.keep k9
 | panicking c=>exact Slots.keep k9
theorem kS:∀ (dr:List (List Nat)) (aS:List AFrame),(vO dr aS).length=aS.length
 | [],aS=>by cases aS <;> rfl
 | _::_,[]=>rfl
 | us::dr,a::aS=>by simp [vO,kS dr aS]
theorem StackRel.plainK {B B':Base}{R:Bij}{h h':AHeap}:∀ {dr:List (List Nat)} {aS:List AFrame} {fs:List Frame},(vO dr aS).all zfm=true→StackRel P B R h aS fs→StackRel P B' R h' (vO dr aS) fs
 | [],[],_,_,k=>k
 | _::_,[],_,_,k=>k
 | [],a::aS,fs,hp,⟨f,r,e,k1,k2⟩=>by
  rw [show vO [] (a::aS)=a::aS from rfl,List.all_cons,Bool.and_eq_true] at hp
  have g1:FrameRel P B' R aS.length true h' a f:=by
   have:=k1.plain (B':=B') (h':=h') (us:=[]) (by rw [kH]; exact hp.1)
   rwa [kH] at this
  have g2:=StackRel.plainK (B':=B') (h':=h') (dr:=[]) (aS:=aS) (by rw [show vO [] aS=aS by cases aS <;> rfl]; exact hp.2) k2;rw [show vO [] aS=aS by cases aS <;> rfl] at g2;exact ⟨f,r,e,g1,g2⟩
 | us::dr,a::aS,fs,hp,⟨f,r,e,k1,k2⟩=>by
  rw [show vO (us::dr) (a::aS)=zg5 us a::vO dr aS from rfl,List.all_cons,Bool.and_eq_true] at hp
  exact ⟨f,r,e,by rw [kS]; exact k1.plainK hp.1,StackRel.plainK hp.2 k2⟩
theorem zlT {ρ:Operand→Option AV}{h h':AHeap}{op:Op}{v:AV}(hf:xj op=true)(e:opA P ρ h op=some (.val v h')):v.ref=some h.next:=by
 cases op with
 | alloc t =>
  change yv P t ρ h=some _ at e;unfold yv jg at e;split at e
  ·cases e
  ·obtain ⟨v',h2,e1,e2⟩:=zP e;cases e2;have:=(vl e1).1 h;rw [e1] at this; cases this; rfl
 | box t x =>
  change zcZ P t x ρ h=some _ at e;obtain ⟨a,ha,e⟩:=zm e;obtain ⟨v',h2,e1,e2⟩:=zP e;cases e2;have:=(vl e1).1 h;rw [e1] at this; cases this; rfl
 | buildSlice t n parts =>
  change zM P t n parts ρ h=some _ at e;unfold zM zY at e;split at e
  ·cases e
  ·obtain ⟨v',h2,e1,e2⟩:=zP e;cases e2;obtain ⟨el,cells,b1,_⟩:=qn e1;have:=b1 h;rw [e1] at this; cases this; rfl
 | makeSlice t l c =>
  change xM P t l c ρ h=some _ at e;obtain ⟨a,b,ha,hb,e⟩:=xm e;obtain ⟨v',h2,e1,e2⟩:=zP e;cases e2;obtain ⟨el,cells,n,m,b1,_⟩:=wg e1;have:=b1 h;rw [e1] at this; cases this; rfl
 | makeMap t r' =>
  cases r' with
  | none =>
   change some _=some _ at e;cases e; rfl
  | some x=>cases hf
 | _=>cases hf
theorem Pend.only {B:Base}{d:Nat}{all:Array Oper}{t:T AV}{h h' h'':AHeap}{p:Nat}{o:Oper}(hh:zpR h'.objs t o=true)(k:Pend P B d true all t h p o):Pend P (B.only h') d true all t h'' p o:=by
 obtain ⟨wt,k1,k2,k3⟩:=k;refine ⟨wt,k1,k2,fun hw=>?_⟩;rcases k3 hw with ⟨f1,vf,ob,id,f2,f3,f4,f5⟩ | ⟨f1,f2,v,f3,f4⟩ | ⟨f1,f2,f3,_⟩
 ·refine .inl ⟨f1,vf,ob,id,f2,?_,f4,f5⟩;unfold zpR at hh;rw [f1] at hh;simp only at hh;split at hh
  ·cases hh
  ·rename_i u hu;have hr:(vf id).ref=some id:=by
    have:=zlT f1 (f2.1 ⟨.leaf,id,.leaf⟩);exact this
   rw [f5 u hu] at hh;simp only [zsO,hr] at hh;simp only [Base.only];show (match h'.objs.get id with | none=>none | some _=>B.pend id)=some ob
   split at hh
   ·cases hh
   ·rename_i q hq;exact f3
 ·exact .inr (.inl ⟨f1,f2,v,f3,f4⟩)
 ·exact .inr (.inr ⟨f1,f2,f3,.inl rfl⟩)
theorem FrameRel.held {B:Base}{R:Bij}{d:Nat}{h h' h'':AHeap}{af:AFrame}{fr:Frame}{us:List Nat}(hp:zsJ h'.objs (zm5 us af)=true)(k:FrameRel P B R d true h af fr):FrameRel P (B.only h') R d true h'' (zm5 us af) fr:=by
 obtain ⟨fn,n,t,todo,ds,mode,kind,round⟩:=af;have plain:zfm (zg5 us ⟨fn,n,t,todo,ds,mode,kind,round⟩)=true→FrameRel P (B.only h') R d true h'' (zg5 us ⟨fn,n,t,todo,ds,mode,kind,round⟩) fr:=fun hp=>k.plainK hp;cases todo with
 | nil=>exact plain rfl
 | cons it kk =>
  cases it with
  | drw all l dn =>
   obtain ⟨k1,k2,k3,k4,k5,k6,k7,k8,k9⟩:=k;refine ⟨k1,k2,k3,k4,k5,k6,k7,k8,?_⟩;cases mode with
   | run =>
    obtain ⟨s,k',e1,e2,e3⟩:=(show ∃ s k',fr.todo=.inRegion all s::k'∧All2 (ItemRel R) kk k'∧Drw P B R d true all l dn t h fr.tmps s from k9)
    refine ⟨s,k',e1,e2,⟨e3.plan,e3.split,e3.topo,e3.rest,e3.own,e3.effs,e3.head,e3.slots,fun p h1 h2 o ho=>?_,e3.bound⟩⟩;refine (e3.pend p h1 h2 o ho).only ?_;have:=List.all_eq_true.1 (show (dn.all fun p=>zs0 h'.objs t all[p]?)=true from hp) p h1
    rw [ho] at this;exact this
   | returning=>exact k9
   | panicking c=>exact k9
  | _=>exact plain rfl
theorem kZ:∀ (dr:List (List Nat)) (aS:List AFrame),(zb5 dr aS).length=aS.length
 | [],aS=>by cases aS <;> rfl
 | _::_,[]=>rfl
 | us::dr,a::aS=>by simp [zb5,kZ dr aS]
theorem StackRel.held {B:Base}{R:Bij}{h h' h'':AHeap}:∀ {dr:List (List Nat)} {aS:List AFrame} {fs:List Frame},dr.length=aS.length→(zb5 dr aS).all (zsJ h'.objs)=true→StackRel P B R h aS fs→StackRel P (B.only h') R h'' (zb5 dr aS) fs
 | [],[],_,_,_,k=>k
 | _::_,[],_,e,_,_=>by cases e
 | [],_::_,_,e,_,_=>by cases e
 | us::dr,a::aS,fs,hl,hp,⟨f,r,e,k1,k2⟩=>by
  rw [show zb5 (us::dr) (a::aS)=zm5 us a::zb5 dr aS from rfl,List.all_cons,Bool.and_eq_true] at hp
  exact ⟨f,r,e,by rw [kZ]; exact k1.held hp.1,StackRel.held (by simpa using hl) hp.2 k2⟩
end
end Go.Proofs.Ytcdigdplhlgcaaa.Ev
end
section
namespace Go.Proofs.Ytcdigdplhlgcaaa.Ev
open Go
noncomputable section
variable (P:Program)
abbrev Tab:=List (Nat × Option Nat)
def zno (j:Nat):Tab→Nat→Option (Nat × Option Nat)
 | [],_=>none
 | (k,t)::r,i=>bif Nat.beq k j then some (i,t) else zno j r (i+1)
def Tab.find (tb:Tab) (j:Nat):Option (Nat × Option Nat):=zno j tb 0
def Tab.ver (tb:Tab) (j s:Nat):Option (Nat × Nat):=match tb.find j with
 | none=>none
 | some (i,none)=>some (i,s)
 | some (i,some t)=>bif Nat.beq t s then some (i,0) else none
def Tab.re (tb:Tab) (R:Bij):Bij:=fun i r=>match tb[i]? with
 | none=>none
 | some (j,none)=>R j r
 | some (j,some t)=>if r=0 then R j t else none
def idG (g:Nat→Nat→Option (Nat × Nat)) (j:Nat):Option Nat:=match g j 0 with
 | none=>none
 | some (i,r)=>bif Nat.beq r 0 then some i else none
mutual
def zjV (g:Nat→Nat→Option (Nat × Nat)):Nat→AV→Option AV
 | 0,_=>none
 | n+1,v=>match v with
  | .ptr i r o=>match g i r with
   | none=>none
   | some (j,s)=>some (.ptr j s o)
  | .slc i r o l c=>match g i r with
   | none=>none
   | some (j,s)=>some (.slc j s o l c)
  | .slg i r o l c=>match g i r with
   | none=>none
   | some (j,s)=>some (.slg j s o l c)
  | .mp i=>match idG g i with
   | none=>none
   | some j=>some (.mp j)
  | .yld i=>match idG g i with
   | none=>none
   | some j=>some (.yld j)
  | .fn f a b=>match zkH g n a,zkH g n b with
   | some a,some b=>some (.fn f a b)
   | _,_=>none
  | .ifc t v=>match zjV g n v with
   | none=>none
   | some v=>some (.ifc t v)
  | .agg l=>match zkH g n l with
   | none=>none
   | some l=>some (.agg l)
  | .tup l=>match zkH g n l with
   | none=>none
   | some l=>some (.tup l)
  | v=>some v
def zkH (g:Nat→Nat→Option (Nat × Nat)):Nat→List AV→Option (List AV)
 | 0,_=>none
 | n+1,l=>match l with
  | []=>some []
  | v::r=>match zjV g n v with
   | none=>none
   | some v=>match zkH g n r with
    | none=>none
    | some r=>some (v::r)
end
mutual
def zbq:Nat→AV→Bool
 | 0,_=>false
 | n+1,v=>match v with
  | .ptr .. | .slc .. | .slg .. | .mp _ | .yld _=>false
  | .fn _ a b=>zbo n a&&zbo n b
  | .ifc _ v=>zbq n v
  | .agg l | .tup l=>zbo n l
  | _=>true
def zbo:Nat→List AV→Bool
 | 0,_=>false
 | n+1,l=>match l with
  | []=>true
  | v::r=>zbq n v&&zbo n r
end
def zqI (g:Nat→Nat→Option (Nat × Nat)) (v:Option AV) (l r:Option (T AV)):Option (T AV):=match l with
 | none=>none
 | some l=>match r with
  | none=>none
  | some r=>match v with
   | none=>some (.node l none r)
   | some v=>match zjV g 99 v with
    | none=>none
    | some v=>some (.node l (some v) r)
def canT (g:Nat→Nat→Option (Nat × Nat)) (t:T AV):Option (T AV) :=
 T.rec (motive:=fun _=>Option (T AV)) (some .leaf) (fun _ v _ l r=>zqI g v l r) (fun f=>some (.fn f)) t
def zl1 (g:Nat→Nat→Option (Nat × Nat)) (t:T AV):List Nat→T AV→Option (T AV)
 | [],acc=>some acc
 | u::r,acc=>match t.get u with
  | none=>none
  | some v=>match zjV g 99 v with
   | none=>none
   | some v=>(acc.set (some v) u).seq fun acc=>zl1 g t r acc
def zhh (g:Nat→Nat→Option (Nat × Nat)):ATgt→Option ATgt
 | .fn f c=>match zkH g 99 c with
  | none=>none
  | some c=>some (.fn f c)
 | .nil=>some .nil
 | .collected i=>match idG g i with
  | none=>none
  | some j=>some (.collected j)
def zhE (g:Nat→Nat→Option (Nat × Nat)) (d:ADef):Option ADef:=match zhh g d.tgt with
 | none=>none
 | some t=>match zkH g 99 d.args with
  | none=>none
  | some a=>some ⟨t,a⟩
def zl9 {α β:Type} (f:α→Option β):List α→Option (List β)
 | []=>some []
 | a::r=>match f a with
  | none=>none
  | some b=>match zl9 f r with
   | none=>none
   | some r=>some (b::r)
def ztg (g:Nat→Nat→Option (Nat × Nat)) (e:AEntry):Option AEntry:=match zjV g 99 e.key with
 | none=>none
 | some k=>match zjV g 99 e.val with
  | none=>none
  | some v=>some ⟨k,v,e.born⟩
def canO (g:Nat→Nat→Option (Nat × Nat)) (t:Option Nat):AObj→Option AObj
 | .cells c n el lo hi nv fz sg ex=>match canT g c with
  | none=>none
  | some c=>match t with
   | none=>some (.cells c n el lo hi nv fz sg ex)
   | some h=>bif Nat.beq h hi&&Nat.ble lo hi then some (.cells c n el 0 0 1 fz sg .leaf) else none
 | o=>match t with
  | some _=>none
  | none=>match o with
   | .map es clock=>match zl9 (ztg g) es with
    | none=>none
    | some es=>some (.map es clock)
   | .iter s p=>some (.iter s p)
   | .ro c lo n=>some (.ro c lo n)
   | .dfrd none=>some (.dfrd none)
   | .dfrd (some ds)=>match zl9 (zhE g) ds with
    | none=>none
    | some ds=>some (.dfrd (some ds))
   | .loop ⟨st,pe,fn,n,tmps,ps,asg,body,df⟩=>match canT g tmps with
    | none=>none
    | some tmps=>match idG g df with
     | none=>none
     | some df=>some (.loop ⟨st,pe,fn,n,tmps,ps,asg,body,df⟩)
   | _=>none
def zgW (tb:Tab) (objs:T AObj):Tab→Nat→T AObj→Option (T AObj)
 | [],_,acc=>some acc
 | (j,t)::r,i,acc=>match objs.get j with
  | none=>none
  | some o=>match canO tb.ver t o with
   | none=>none
   | some o=>(acc.set (some o) i).seq fun acc=>zgW tb objs r (i+1) acc
def zl6 (tb:Tab) (h:AHeap):Option AHeap:=match h with
 | ⟨objs,next,glob⟩=>bif tb.all (fun p=>Nat.blt p.1 next) then match zgW tb objs tb 0 .leaf with
  | none=>none
  | some objs=>some ⟨objs,tb.length,glob⟩ else none
def jI (g:Nat→Nat→Option (Nat × Nat)):AItem→Option AItem
 | .inRange i=>match idG g i with
  | none=>none
  | some j=>some (.inRange j)
 | .endRange i=>match idG g i with
  | none=>none
  | some j=>some (.endRange j)
 | .drw ..=>none
 | it=>some it
def zel (g:Nat→Nat→Option (Nat × Nat)):AMode→Option AMode
 | .run=>some .run
 | .returning=>some .returning
 | .panicking c=>match zl9 (fun (p:AV × Bool)=>match zjV g 99 p.1 with
  | none=>none
  | some v=>some (v,p.2)) c with
  | none=>none
  | some c=>some (.panicking c)
def zeg (g:Nat→Nat→Option (Nat × Nat)):Option Nat→Option (Option Nat)
 | none=>some none
 | some l=>match idG g l with
  | none=>none
  | some j=>some (some j)
def canF (g:Nat→Nat→Option (Nat × Nat)) (us:List Nat) (fr:AFrame):Option AFrame:=match fr with
 | ⟨fn,n,t,todo,ds,mode,kind,round⟩=>match zl1 g t us .leaf with
  | none=>none
  | some t=>match zl9 (jI g) todo with
   | none=>none
   | some todo=>match zl9 (zhE g) ds with
    | none=>none
    | some ds=>match zel g mode with
     | none=>none
     | some mode=>match zeg g round with
      | none=>none
      | some round=>some ⟨fn,n,t,todo,ds,mode,kind,round⟩
def zqQ (g:Nat→Nat→Option (Nat × Nat)):List (List Nat)→List AFrame→Option (List AFrame)
 | us::r,f::fs=>match canF g us f with
  | none=>none
  | some f=>match zqQ g r fs with
   | none=>none
   | some fs=>some (f::fs)
 | [],[]=>some []
 | _,_=>none
def zlv (keep:Nat) (objs:T AObj):List Nat→Nat→Tab
 | [],_=>[]
 | j::r,i=>(j,bif Nat.blt i keep then none else match objs.get j with
  | some (.cells _ _ _ lo hi ..)=>bif Nat.beq lo hi then some hi else none
  | _=>none)::zlv keep objs r (i+1)
def nodup:List Nat→Bool
 | []=>true
 | i::r=>!(r.any fun j=>Nat.beq i j)&&nodup r
def zqU:List Nat→Nat→Nat→Bool
 | _,0,_=>true
 | [],_+1,_=>false
 | j::r,k+1,i=>Nat.beq j i&&zqU r k (i+1)
def canM (keep:Nat) (ids:List Nat) (us:List Nat) (uss:List (List Nat)) (m:AM):Option AM:=match m with
 | ⟨top,rest,heap⟩=>bif nodup ids&&zqU ids keep 0 then
  match zl6 (zlv keep heap.objs ids 0) heap with
  | none=>none
  | some h=>match canF (zlv keep heap.objs ids 0).ver us top with
   | none=>none
   | some top=>match zqQ (zlv keep heap.objs ids 0).ver uss rest with
    | none=>none
    | some rest=>some ⟨top,rest,h⟩
  else none
end
section
variable {P:Program} {tb:Tab} {R:Bij}
theorem jT {j:Nat}:∀ {l:Tab} {i i':Nat} {t:Option Nat},zno j l i=some (i',t)→i≤i'∧l[i' - i]?=some (j,t)
 | [],_,_,_,e=>by cases e
 | (k,t0)::r,i,i',t,e=>by
  unfold zno at e;cases hb:Nat.beq k j with
  | true =>
   rw [hb] at e; cases e;rw [Nat.eq_of_beq_eq_true hb];exact ⟨Nat.le_refl _,by simp⟩
  | false =>
   rw [hb] at e;obtain ⟨h1,h2⟩:=jT (l:=r) e;refine ⟨by omega,?_⟩;rw [show i' - i=(i' - (i+1))+1 by omega,List.getElem?_cons_succ];exact h2
theorem Tab.ver_some {j s i r:Nat}(e:tb.ver j s=some (i,r)):∀ L,R j s=some L→tb.re R i r=some L:=by
 intro L hL;unfold Tab.ver at e;split at e
 ·cases e
 ·rename_i i' hf;cases e;have:=(jT hf).2;simp only [Nat.sub_zero] at this;simp only [Tab.re,this];exact hL
 ·rename_i i' t hf;have:=(jT hf).2;simp only [Nat.sub_zero] at this;cases hb:Nat.beq t s with
  | false=>rw [hb] at e; cases e
  | true =>
   rw [hb] at e; cases e;have:=Nat.eq_of_beq_eq_true hb;simp only [Tab.re, *,if_true]
mutual
theorem zad {R':Bij}:∀ (n:Nat) (v:AV) (x:Value),zbq n v=true→VRel R v x→VRel R' v x
 | 0,_,_,e,_=>by simp [zbq] at e
 | n+1,v,x,e,k=>by
  cases v <;> simp only [zbq,Bool.and_eq_true,Bool.false_eq_true] at e
  case fn f a b =>
   obtain ⟨h0,p,q,h1,h2,h3⟩:=k;exact ⟨h0,p,q,h1,qu n _ _ e.1 h2,qu n _ _ e.2 h3⟩
  case ifc t y =>
   obtain ⟨z,h1,h2⟩:=k;exact ⟨z,h1,zad n _ _ e h2⟩
  case agg l =>
   obtain ⟨z,h1,h2⟩:=k;exact ⟨z,h1,qu n _ _ e h2⟩
  case tup l =>
   obtain ⟨z,h1,h2⟩:=k;exact ⟨z,h1,qu n _ _ e h2⟩
  all_goals exact k
theorem qu {R':Bij}:∀ (n:Nat) (l:List AV) (x:List Value),zbo n l=true→VRels R l x→VRels R' l x
 | 0,_,_,e,_=>by simp [zbo] at e
 | n+1,l,x,e,k=>by
  cases l with
  | nil=>exact k
  | cons v r =>
   simp only [zbo,Bool.and_eq_true] at e;obtain ⟨y,ys,h1,h2,h3⟩:=k;exact ⟨y,ys,h1,zad n _ _ e.1 h2,qu n _ _ e.2 h3⟩
end
def RenOk (g:Nat→Nat→Option (Nat × Nat)) (R R':Bij):Prop:=∀ j s i r,g j s=some (i,r)→∀ L,R j s=some L→R' i r=some L
theorem Tab.ok (tb:Tab)(R:Bij):RenOk tb.ver R (tb.re R):=fun _ _ _ _ e=>Tab.ver_some e
end
section
variable {P:Program} {g:Nat→Nat→Option (Nat × Nat)} {R R':Bij} (hg:RenOk g R R')
include hg
theorem RenOk.id {j i:Nat}(e:idG g j=some i):∀ L,R j 0=some L→R' i 0=some L:=by
 unfold idG at e;split at e
 ·cases e
 ·rename_i i' r hv;cases hb:Nat.beq r 0 with
  | false=>rw [hb] at e; cases e
  | true =>
   rw [hb] at e; cases e;have:=Nat.eq_of_beq_eq_true hb;subst this;exact hg _ _ _ _ hv
mutual
theorem za7:∀ (n:Nat) (v v':AV) (x:Value),zjV g n v=some v'→VRel R v x→VRel R' v' x
 | 0,_,_,_,e,_=>by simp [zjV] at e
 | n+1,v,v',x,e,k=>by
  cases v <;> simp only [zjV] at e
  case ptr i r o =>
   split at e
   ·cases e
   ·rename_i j s hv; cases e;obtain ⟨L,h1,h2⟩:=k;exact ⟨L,hg _ _ _ _ hv L h1,h2⟩
  case slc i r o l c =>
   split at e
   ·cases e
   ·rename_i j s hv; cases e;obtain ⟨L,h1,h2⟩:=k;exact ⟨L,hg _ _ _ _ hv L h1,h2⟩
  case slg i r o l c =>
   split at e
   ·cases e
   ·rename_i j s hv; cases e;obtain ⟨L,a,h1,h2⟩:=k;exact ⟨L,a,hg _ _ _ _ hv L h1,h2⟩
  case mp i =>
   split at e
   ·cases e
   ·rename_i j hv; cases e;obtain ⟨L,h1,h2⟩:=k;exact ⟨L,hg.id hv L h1,h2⟩
  case yld i =>
   split at e
   ·cases e
   ·rename_i j hv; cases e;obtain ⟨L,h1,h2⟩:=k;exact ⟨L,hg.id hv L h1,h2⟩
  case fn f a b =>
   split at e
   ·rename_i a' b' ha hb;cases e;obtain ⟨h0,p,q,h1,h2,h3⟩:=k;exact ⟨h0,p,q,h1,qQ n _ _ _ ha h2,qQ n _ _ _ hb h3⟩
   ·cases e
  case ifc t y =>
   split at e
   ·cases e
   ·rename_i y' hy; cases e;obtain ⟨z,h1,h2⟩:=k;exact ⟨z,h1,za7 n _ _ _ hy h2⟩
  case agg l =>
   split at e
   ·cases e
   ·rename_i y' hy; cases e;obtain ⟨z,h1,h2⟩:=k;exact ⟨z,h1,qQ n _ _ _ hy h2⟩
  case tup l =>
   split at e
   ·cases e
   ·rename_i y' hy; cases e;obtain ⟨z,h1,h2⟩:=k;exact ⟨z,h1,qQ n _ _ _ hy h2⟩
  all_goals (cases e; exact k)
theorem qQ:∀ (n:Nat) (l l':List AV) (x:List Value),zkH g n l=some l'→VRels R l x→VRels R' l' x
 | 0,_,_,_,e,_=>by simp [zkH] at e
 | n+1,l,l',x,e,k=>by
  have _:=hg;cases l with
  | nil=>simp only [zkH] at e; cases e; exact k
  | cons v r =>
   simp only [zkH] at e;split at e
   ·cases e
   ·rename_i v' hv;split at e
    ·cases e
    ·rename_i r' hr;cases e;obtain ⟨y,ys,h1,h2,h3⟩:=k;exact ⟨y,ys,h1,za7 n _ _ _ hv h2,qQ n _ _ _ hr h3⟩
end
omit hg in
omit hg in
omit hg in
theorem zeo {t:T AV}:∀ {us:List Nat} {acc t':T AV},zl1 g t us acc=some t'→(∀ u v',acc.get u=some v'→∃ v,t.get u=some v∧zjV g 99 v=some v')→∀ u v',t'.get u=some v'→∃ v,t.get u=some v∧zjV g 99 v=some v'
 | [],acc,t',e,h=>by cases e; exact h
 | u0::r,acc,t',e,h=>by
  unfold zl1 at e;split at e
  ·cases e
  ·rename_i v0 h0;split at e
   ·cases e
   ·rename_i v1 h1;rw [T.seq_eq] at e;refine zeo e fun u v' g=>?_;rw [T.get_set] at g;split at g
    ·rename_i hu;cases g;rw [hu];exact ⟨v0,h0,h1⟩
    ·exact h u v' g
omit hg in
theorem zaZ {α β γ:Type}{f:α→Option β}{r:α→γ→Prop}{r':β→γ→Prop}(h:∀ a b c,f a=some b→r a c→r' b c):∀ {l:List α} {l':List β} {m:List γ},zl9 f l=some l'→All2 r l m→All2 r' l' m
 | [],_,_,e,k=>by cases e; exact k
 | a::l,l',m,e,k=>by
  unfold zl9 at e;split at e
  ·cases e
  ·rename_i b hb;split at e
   ·cases e
   ·rename_i r0 hr0;cases e;obtain ⟨c,cs,h1,h2,h3⟩:=k;exact ⟨c,cs,h1,h _ _ _ hb h2,zaZ h hr0 h3⟩
theorem zja {t t':ATgt}{x:Target}(e:zhh g t=some t')(k:TgtRel R t x):TgtRel R' t' x:=by
 cases t with
 | fn f c =>
  simp only [zhh] at e;split at e
  ·cases e
  ·rename_i c' hc;cases e;obtain ⟨h0,l,h1,h2⟩:=k;exact ⟨h0,l,h1,qQ hg 99 _ _ _ hc h2⟩
 | nil=>cases e; exact k
 | collected i =>
  simp only [zhh] at e;split at e
  ·cases e
  ·rename_i j hj;cases e;obtain ⟨L,h1,h2⟩:=k;exact ⟨L,hg.id hj L h1,h2⟩
theorem ziR {d d':ADef}{x:Deferred}(e:zhE g d=some d')(k:DefRel R d x):DefRel R' d' x:=by
 unfold zhE at e;split at e
 ·cases e
 ·rename_i t ht;split at e
  ·cases e
  ·rename_i a ha;cases e;exact ⟨zja hg ht k.1,qQ hg 99 _ _ _ ha k.2⟩
theorem zg0 {d d':AItem}{x:Item}(e:jI g d=some d')(k:ItemRel R d x):ItemRel R' d' x:=by
 cases d <;> simp only [jI] at e
 case inRange i =>
  split at e
  ·cases e
  ·rename_i j hj;cases e;obtain ⟨L,h1,h2⟩:=k;exact ⟨L,hg.id hj L h1,h2⟩
 case endRange i =>
  split at e
  ·cases e
  ·rename_i j hj;cases e;obtain ⟨L,h1,h2⟩:=k;exact ⟨L,hg.id hj L h1,h2⟩
 case drw=>cases e
 all_goals (cases e; exact k)
theorem zgT {d d':AMode}{x:FrameMode}(e:zel g d=some d')(k:ModeRel R d x):ModeRel R' d' x:=by
 cases d <;> simp only [zel] at e
 case panicking c =>
  split at e
  ·cases e
  ·rename_i c' hc;cases e;obtain ⟨l,h1,h2⟩:=k;refine ⟨l,h1,zaZ (fun a b z hab hz=>?_) hc h2⟩;split at hab
   ·cases hab
   ·rename_i v hv;cases hab;exact ⟨za7 hg 99 _ _ _ hv hz.1,hz.2⟩
 all_goals (cases e; exact k)
theorem zfH {d d':Option Nat}{x:Option Nat}(e:zeg g d=some d')(k:RoundRel R d x):RoundRel R' d' x:=by
 cases d <;> simp only [zeg] at e
 ·cases e; exact k
 ·split at e
  ·cases e
  ·rename_i j hj;cases e;obtain ⟨L,h1,h2⟩:=k;exact ⟨L,hg.id hj L h1,h2⟩
theorem km {t t':T AV}{us:List Nat}{a:Array Value}(e:zl1 g t us .leaf=some t')(k:Slots R t a):Slots R' t' a:=fun u v' g=>by
 obtain ⟨v,h1,h2⟩:=zeo e (fun u v' g=>by cases g) u v' g;obtain ⟨x,h3,h4⟩:=k u v h1;exact ⟨x,h3,za7 hg 99 _ _ _ h2 h4⟩
omit hg in
theorem zcV:∀ {l l':List AItem},zl9 (jI g) l=some l'→∀ it∈l,∀ a b c,it≠.drw a b c
 | [],_,_,_,h=>absurd h List.not_mem_nil
 | a::l,l',e,it,hm=>by
  unfold zl9 at e;split at e
  ·cases e
  ·rename_i b hb;split at e
   ·cases e
   ·rename_i r0 hr0;rcases List.mem_cons.1 hm with h | h
    ·subst h;intro a b c h;subst h; cases hb
    ·exact zcV hr0 it h
omit hg in
theorem zdB {d d':AItem}(e:jI g d=some d'):∀ a b c,d'≠.drw a b c:=by
 intro a b c h;subst h;cases d <;> simp only [jI] at e
 case inRange i=>split at e <;> cases e
 case endRange i=>split at e <;> cases e
 all_goals cases e
theorem zn9 {B B':Base}{d d':Nat}{sus sus':Bool}{h h':AHeap}{af af':AFrame}{fr:Frame}{us:List Nat}(e:canF g us af=some af')(k:FrameRel P B R d sus h af fr):FrameRel P B' R' d' sus' h' af' fr:=by
 obtain ⟨fn,n,t,todo,ds,mode,kind,round⟩:=af;simp only [canF] at e;split at e
 ·cases e
 rename_i t' ht;split at e
 ·cases e
 rename_i todo' htodo;split at e
 ·cases e
 rename_i ds' hds;split at e
 ·cases e
 rename_i mode' hmode;split at e
 ·cases e
 rename_i round' hround;cases e;obtain ⟨k1,k2,k3,k4,k5,k6,k7,k8,k9⟩:=k;refine ⟨k1,k2,k3,k4,zfH hg hround k5,zaZ (r:=DefRel R) (r':=DefRel R') (fun _ _ _=>ziR hg) hds k6,zgT hg hmode k7,k8,?_⟩;have htr:∀ {a:Array Value} {ct:List Item},TodoRel P B R d sus h todo t ct a→TodoRel P B' R' d' sus' h' todo' t' ct a:=by
  intro a ct q;have q':All2 (ItemRel R) todo ct∧Slots R t a:=by
   cases todo with
   | nil=>exact q
   | cons it kk =>
    cases it with
    | drw a b c=>exact absurd rfl (zcV htodo _ List.mem_cons_self a b c)
    | _=>exact q
  have g:All2 (ItemRel R') todo' ct∧Slots R' t' a:=⟨zaZ (r:=ItemRel R) (r':=ItemRel R') (fun _ _ _=>zg0 hg) htodo q'.1,km hg ht q'.2⟩;cases todo' with
  | nil=>exact g
  | cons it kk =>
   cases it with
   | drw a b c =>
    exfalso;cases todo with
    | nil=>cases htodo
    | cons i0 k0 =>
     unfold zl9 at htodo;split at htodo
     ·cases htodo
     ·rename_i b0 hb0;split at htodo
      ·cases htodo
      ·cases htodo;exact zdB hb0 a b c rfl
   | _=>exact g
 cases mode with
 | run=>cases hmode; exact htr k9
 | returning=>cases hmode; exact km hg ht k9
 | panicking c =>
  simp only [zel] at hmode;split at hmode
  ·cases hmode
  ·cases hmode; exact km hg ht k9
end
section
variable {P:Program} {tb:Tab} {R:Bij}
theorem kJ:∀ {ids:List Nat},nodup ids=true→∀ {p q j:Nat},ids[p]?=some j→ids[q]?=some j→p=q
 | [],_,_,_,_,h,_=>by simp at h
 | i::r,hn,p,q,j,hp,hq=>by
  simp only [nodup,Bool.and_eq_true,Bool.not_eq_true',List.any_eq_false] at hn;have hno:∀ k,r[k]?=some i→False:=fun k hk=>hn.1 i (List.mem_of_getElem? hk) (Nat.beq_refl i);cases p with
  | zero =>
   cases q with
   | zero=>rfl
   | succ q=>simp at hp hq; subst hp; exact absurd (hno q hq) id
  | succ p =>
   cases q with
   | zero=>simp at hp hq; subst hq; exact absurd (hno p hp) id
   | succ q=>simp at hp hq; rw [kJ hn.2 hp hq]
noncomputable def Base.re (B:Base) (tb:Tab) (h:AHeap):Base:={ B with
 pend:=fun i=>match tb[i]? with
  | none=>none
  | some (j,_)=>match B.pend j with
   | none=>none
   | some _=>h.get i
 ro:=fun i=>∃ j t,tb[i]?=some (j,t)∧B.ro j }
end
end Go.Proofs.Ytcdigdplhlgcaaa.Ev
end
section
namespace Go.Proofs.Ytcdigdplhlgcaaa.Ev
open Go
def Goal (P:Program) (keep:Nat) (f0:FuncId) (Q:AV→AHeap→Prop) (m:AM):Prop :=
 ∀ (w0:Env) (base:List Frame) (fr:Frame) (cs:List Frame) (w:World),(∀ i r L,w0.pin i r=some L→i<keep)→Sim P w0 base m fr cs w →
  ∃ (fr':Frame) (w':World) (B:Base) (R:Bij) (v:AV) (v':Value) (h':AHeap),Steps P (lone fr cs w) (lone fr' base w')∧fr'.leaving P w' (.returned v')∧fr'.fn=f0 ∧
   VRel R v v'∧B.env=w0∧HRel P B R h' w'∧Old0 w0.toWorld w'∧Q v h'
noncomputable section
variable (P:Program)
mutual
def okD:Nat→AV→Bool
 | 0,_=>false
 | n+1,v=>match v with
  | .fn _ a b=>zqq n a&&zqq n b
  | .ifc _ v=>okD n v
  | .agg l | .tup l=>zqq n l
  | _=>true
def zqq:Nat→List AV→Bool
 | 0,_=>false
 | n+1,l=>match l with
  | []=>true
  | v::r=>okD n v&&zqq n r
end
def zjd (b:Bool) (K:Prop):Prop:=match b with
 | true=>K
 | false=>False
def atP (p:AV) (size:Nat) (i:Int) (len:Nat):Option (AV × Prop):=match p with
 | .ptr id ver off=>some (.ptr id ver (off+i.toNat*size),0≤i∧i<len)
 | .gp g off=>some (.gp g (off+i.toNat*size),0≤i∧i<len)
 | _=>none
def zpZ (size:Nat) (x:AV) (i:Int):Option (AV × Prop):=match x with
 | .slc id ver off len _=>atP (.ptr id ver off) size i len
 | .slg id ver off len _=>atP (.ptr id ver off) size i len
 | _=>none
def jV (t:TypeId) (x ix:AV):Option (AV × Prop):=match ix with
 | .int _ i=>match P.underlying t with
  | some (.array len el)=>match xW P el with
   | none=>none
   | some s=>atP x s i len
  | some (.slice el)=>match xW P el with
   | none=>none
   | some s=>zpZ s x i
  | _=>none
 | _=>none
def zo2 (t:TypeId):Bool:=match zmY P t with
 | some b=>!b
 | none=>false
def zk0 (t:TypeId) (x ix:AV):Option (AV × Prop):=match ix with
 | .int _ i=>match P.underlying t with
  | some .string=>match x with
   | .str s=>some (.int .u8 (s.getD i.toNat 0).toNat,0≤i∧i<s.length)
   | _=>none
  | some (.array len el)=>match x with
   | .agg cs=>match zo2 P el with
    | false=>none
    | true=>match xW P el with
     | none=>none
     | some s=>some (cs.getD (i.toNat*s) xE,(0≤i∧i<len)∧i.toNat*s<cs.length)
   | _=>none
  | _=>none
 | _=>none
def ym (len cap:Nat) (lo hi mx:Option Int):Nat × Nat × Nat × Prop :=
 let m:Nat:=match mx with
  | none=>cap
  | some v=>v.toNat
 let mp:Prop:=match mx with
  | none=>True
  | some v=>0≤v∧v≤(cap:Int)
 let h:Nat:=match hi with
  | none=>len
  | some v=>v.toNat
 let hp:Prop:=match hi with
  | none=>match mx with
   | none=>mp
   | some _=>False
  | some v=>match mx with
   | none=>0≤v∧v≤(m:Int)
   | some _=>mp∧0≤v∧v≤(m:Int)
 match lo with
 | none=>(0,h,m,hp)
 | some v=>(v.toNat,h,m,match hi with
  | none=>match mx with
   | none=>0≤v∧v≤(h:Int)
   | some _=>False
  | some _=>hp∧0≤v∧v≤(h:Int))
def zkF (t:TypeId) (x:AV) (lo hi mx:Option Int):Option (AV × Prop):=match P.underlying t with
 | some .string=>match x with
  | .str s=>match mx with
   | some _=>none
   | none=>match ym s.length s.length lo hi none with
    | (l,h,_,p)=>some (.str ((s.drop l).take (h - l)),p)
  | _=>none
 | some (.slice el)=>match xW P el with
  | none=>none
  | some sz=>match x with
   | .nils len cap=>match ym len cap lo hi mx with
    | (l,h,m,p)=>some (.nils (h - l) (m - l),p)
   | .slc id ver off len cap=>match ym len cap lo hi mx with
    | (l,h,m,p)=>some (.slc id ver (if m=l then off else off+l*sz) (h - l) (m - l),p)
   | .slg id ver off len st=>match mx with
    | some _=>match len with
     | 0=>none
     | _+1=>match ym len len lo hi mx with
      | (l,h,m,p)=>some (.slc id ver (if m=l then off else off+l*sz) (h - l) (m - l),p)
    | none=>match ym len len lo hi none with
     | (l,h,_,p)=>some (.slg id ver (off+l*sz) (h - l) (st+l),p)
   | _=>none
 | _=>none
def binS (op:BinOp) (x y:AV):Option (AV × Prop):=match x with
 | .str a=>match y with
  | .str b=>match op with
   | .add=>some (.str (a++b),a.length+b.length<2 ^ 40)
   | _=>none
  | _=>none
 | .int k a=>match y with
  | .int k' b=>match op with
   | .quo=>if k=k' then some (.int k (k.wrap (a.tdiv b)),b≠0) else none
   | .rem=>if k=k' then some (.int k (a.tmod b),b≠0) else none
   | .shl=>some (.int k (k.wrap (a*2 ^ (min b.toNat k.bits))),0≤b)
   | .shr=>some (.int k (a.fdiv (2 ^ (min b.toNat k.bits))),0≤b)
   | _=>none
  | _=>none
 | _=>none
def zhQ (h:AHeap) (id ver off k:Nat):Option (List AV × Prop):=match h.get id with
 | some (.ro c lo n)=>bif Nat.beq ver 0 then match zV c off k with
  | none=>none
  | some l=>some (l,lo≤off∧off+k≤n) else none
 | some (.cells c n _ lo hi _ _ _ ex)=>match zG ex n hi ver with
  | none=>none
  | some e=>bif Nat.ble lo ver&&Nat.ble ver hi then match zV c off k with
   | none=>none
   | some l=>some (l,off+k≤e) else none
 | _=>none
def zn2 (h:AHeap) (t:TypeId) (p:AV):Option (AV × Prop):=match p with
 | .ptr id ver off=>match zmY P t with
  | none=>none
  | some true=>match P.info? t with
   | none=>none
   | some i=>match zhQ h id ver off i.size with
    | none=>none
    | some (l,p)=>some (.agg l,p)
  | some false=>match zhQ h id ver off 1 with
   | some ([v],p)=>some (v,p)
   | _=>none
 | _=>none
def zgj (h:AHeap) (r:Option (AV × Prop)):Option (AR × Prop):=match r with
 | none=>none
 | some (v,p)=>some (.val v h,p)
def zra (ρ:Operand→Option AV) (x y:Operand) (f:AV→AV→Option (AR × Prop)):Option (AR × Prop):=match ρ x with
 | none=>none
 | some a=>match ρ y with
  | none=>none
  | some b=>f a b
def opS (ρ:Operand→Option AV) (h:AHeap) (o:Op):Option (AR × Prop):=match o with
 | .indexAddr t x ix=>zra ρ x ix fun a b=>zgj h (jV P t a b)
 | .index t x ix=>zra ρ x ix fun a b=>zgj h (zk0 P t a b)
 | .binOp op _ x y _=>zra ρ x y fun a b=>zgj h (binS op a b)
 | .slice t x lo hi mx=>match ρ x with
  | none=>none
  | some v=>match yR ρ lo with
   | none=>none
   | some l=>match yR ρ hi with
    | none=>none
    | some hh=>match yR ρ mx with
     | none=>none
     | some m=>zgj h (zkF P t v l hh m)
 | .load t a=>match ρ a with
  | none=>none
  | some p=>zgj h (zn2 P h t p)
 | _=>none
def zsd (h:AHeap) (id:Nat):Bool:=match h.get id with
 | some (.ro ..)=>true
 | some (.cells (.fn _) ..)=>true
 | _=>false
def zk8 (h:AHeap) (t:TypeId) (p v:AV) (K:Prop):Prop:=match zn2 P h t p with
 | none=>False
 | some (x,q)=>q∧x=v∧K
def zqv (ρ:Operand→Option AV) (h:AHeap) (o:Op) (v:AV) (K:Prop):Prop:=match o with
 | .load t a=>match ρ a with
  | some (.ptr id ver off)=>match zsd h id with
   | true=>zk8 P h t (.ptr id ver off) v K
   | false=>wl P ρ h (.load t a)=some v∧K
  | _=>wl P ρ h (.load t a)=some v∧K
 | o=>wl P ρ h o=some v∧K
def zqj (all:List Oper) (t:T AV) (h:AHeap) (o:Oper) (K:Prop):Prop:=match xd all t o.guard with
 | none=>False
 | some w=>match w with
  | false=>K
  | true=>match o.dst with
   | none=>(wl P (ev t) h o.op).isSome=true∧K
   | some d=>match t.get d with
    | none=>False
    | some v=>zqv P (ev t) h o.op v (zjd (okD 300 v) K)
def zri (all:List Oper) (anc:Nat) (t:T AV) (h:AHeap):List Nat→Prop→Prop
 | [],K=>K
 | p::r,K=>match all[p]? with
  | none=>zri all anc t h r K
  | some o=>match yq P o.op&&!(anc.testBit p) with
   | false=>zri all anc t h r K
   | true=>zqj P all t h o (zri all anc t h r K)
def zpd (fr:AFrame) (h:AHeap) (all:Array Oper) (i:Nat) (o:Oper) (l dn:List Nat) (k:List AItem) (t:Option (T AV)) (K:AFrame→Prop):Prop:=match t with
 | none=>False
 | some t=>match fr with
  | ⟨fn,n,_,_,ds,mode,kind,round⟩=>match yL P o || xj o.op with
   | false=>K ⟨fn,n,t,.drw all l (i::dn)::k,ds,mode,kind,round⟩
   | true=>zri P all.toList (bif yL P o then (zE P all.toList).anc.getD i 0 else 0) t h dn (K ⟨fn,n,t,.drw all l (i::dn)::k,ds,mode,kind,round⟩)
def zis {α:Type} (o:Option α) (K:α→Prop):Prop:=match o with
 | none=>False
 | some a=>K a
def Fin (fr:AFrame) (h:AHeap) (v:AV) (K:AFrame→Prop):Prop:=match fr.todo with
 | .drw all (i::l) dn::k=>match all[i]? with
  | none=>False
  | some o=>zpd P fr h all i o l dn k (zj5 fr.tmps fr.n o.dst v) K
 | _=>zis (z7 P fr h v) K
def Upon [XT P] (fr:AFrame) (rest:List AFrame) (heap:AHeap) (r:AR) (K:AM→Prop):Prop:=match r with
 | .val v h=>Fin P fr h v fun fr=>K ⟨fr,rest,h⟩
 | .skip h=>Fin P fr h xE fun fr=>K ⟨fr,rest,h⟩
 | r=>zis (zmQ P fr rest heap r) K
def ziY (fr:AFrame):Option (List Oper × Oper):=match fr.todo with
 | .ops all (o::_)::_=>some (all,o)
 | .drw all (i::_) _::_=>match all[i]? with
  | none=>none
  | some o=>some (all.toList,o)
 | _=>none
def Know (u:Nat) (b:Bool) (m:AM) (K:AM→Prop):Prop:=match m with
 | ⟨⟨fn,n,t,todo,ds,mode,kind,round⟩,rest,h⟩=>match t.get u with
  | some (.bool c)=>c=b∧K ⟨⟨fn,n,t.set (some (.bool b)) u,todo,ds,mode,kind,round⟩,rest,h⟩
  | _=>False
def OpK [XT P] (m:AM) (K:AM→Prop):Prop:=match m with
 | ⟨fr,rest,h⟩=>match fr.mode with
  | .run=>match ziY fr with
   | none=>False
   | some (all,o)=>match xd all fr.tmps o.guard with
    | some true=>match opS P (ev fr.tmps) h o.op with
     | none=>False
     | some (r,p)=>p∧Upon P fr rest h r K
    | _=>False
  | _=>False
def zpO [XT P] (m:AM) (K:AM→Prop):Prop:=match m with
 | ⟨fr,rest,h⟩=>match fr.mode with
  | .run=>match ziY fr with
   | none=>False
   | some (all,o)=>match xd all fr.tmps o.guard with
    | some true=>zis (opA P (ev fr.tmps) h o.op) fun r=>Upon P fr rest h r K
    | _=>False
  | .returning=>match fr.defers with
   | []=>match fr.kind with
    | .normal=>match rest with
     | []=>False
     | c::r=>match c.mode with
      | .run=>zis (zp9 P fr h) fun v=>Fin P c h v fun c=>K ⟨c,r,h⟩
      | _=>False
    | _=>False
   | _::_=>False
  | _=>False
def znz (us:List Nat) (Q:AV→Prop) (m:AM) (K:AM→Prop):Prop:=match m with
 | ⟨fr,rest,h⟩=>match rest with
  | []=>False
  | c::r=>match fr.kind with
   | .normal=>match c.mode with
    | .run=>match canM 0 [] us [] ⟨fr,[],h⟩ with
     | none=>False
     | some m'=>Goal P 0 fr.fn (fun v _=>Q v∧zbq 99 v=true) m'∧∀ v,Q v→Fin P c h v fun c=>K ⟨c,r,h⟩
    | _=>False
   | _=>False
def zlY (f:FuncId) (args:List AV) (G:T (T AV)):AM:=match jy P f args .normal with
 | some a=>⟨a,[],⟨.leaf,0,G⟩⟩
 | none=>⟨⟨0,0,.leaf,[],[],.run,.normal,none⟩,[],⟨.leaf,0,G⟩⟩
def zqK (us:List Nat) (v:AV) (m:AM) (K:AM→Prop):Prop:=match m with
 | ⟨fr,rest,h⟩=>match rest with
  | []=>False
  | c::r=>match fr.kind with
   | .normal=>match c.mode with
    | .run=>match canM 0 [] us [] ⟨fr,[],h⟩ with
     | none=>False
     | some m'=>zjd (zbq 99 v) (Goal P 0 fr.fn (fun x _=>x=v) m'∧Fin P c h v fun c=>K ⟨c,r,h⟩)
    | _=>False
   | _=>False
def zju (t:T AV):List Nat→T AV→T AV
 | [],acc=>acc
 | u::r,acc=>(acc.set (t.get u) u).seq fun acc=>zju t r acc
def zpX (us:List Nat) (m:AM) (K:AM→Prop):Prop:=match m with
 | ⟨⟨fn,n,t,todo,ds,mode,kind,round⟩,rest,h⟩=>match todo with
  | .drw _ _ _::_=>False
  | todo=>K ⟨⟨fn,n,zju t us .leaf,todo,ds,mode,kind,round⟩,rest,h⟩
def zrJ (f0:FuncId) (Q:AV→AHeap→Prop) (m:AM):Prop:=zis (zm7 P f0 m) fun v=>Q v m.heap
end
section
variable {P:Program}
theorem xY {α:Type}{o:Option α}{K:α→Prop}(h:zis o K):∃ a,o=some a∧K a:=by
 unfold zis at h;split at h
 ·exact h.elim
 ·exact ⟨_,rfl,h⟩
theorem T.set_same' {α:Type}:∀ {t:T α} {n:Nat} {v:α},t.get n=some v→t.set (some v) n=t
 | .leaf,_,_,e=>by cases e
 | .fn f,n,v,e=>by
  show T.fn (fun m=>bif Nat.beq m n then some v else f m)=_
  congr 1;funext m;cases hb:Nat.beq m n with
  | false=>rfl
  | true=>rw [Nat.eq_of_beq_eq_true hb]; exact e.symm
 | .node l x r,n,v,e=>by
  rw [T.get_node] at e;show (bif Nat.beq n 0 then T.node l (some v) r else bif Nat.beq (Nat.mod n 2) 1 then T.seq (l.set (some v) (Nat.div n 2)) (fun l=>T.node l x r) else T.seq (r.set (some v) (Nat.sub (Nat.div n 2) 1)) (fun r=>T.node l x r))=_
  rw [T.seq_eq,T.seq_eq];split at e
  ·rename_i h0;subst h0; subst e; rfl
  ·rename_i h0;have e0:Nat.beq n 0=false:=by cases n <;> simp_all [Nat.beq]
   rw [e0];split at e
   ·rename_i h1;have e1:Nat.beq (Nat.mod n 2) 1=true:=by rw [show Nat.mod n 2=1 from h1]; rfl
    rw [e1];show T.node (l.set (some v) (n / 2)) x r=_;rw [T.set_same' e]
   ·rename_i h1;have e1:Nat.beq (Nat.mod n 2) 1=false:=by
     rw [show Nat.mod n 2=0 from by show n % 2=0; omega]; rfl
    rw [e1];show T.node l x (r.set (some v) (n / 2 - 1))=_;rw [T.set_same' e]
mutual
theorem zaQ:∀ (n:Nat) (v:AV),okD n v=true→wJ n v v=true
 | 0,_,h=>by simp [okD] at h
 | n+1,v,h=>by
  cases v <;> simp only [okD,Bool.and_eq_true] at h <;> simp only [wJ,Bool.and_eq_true,decide_eq_true_eq,Nat.beq_refl,and_self,beq_self_eq_true]
  case fn f a b=>exact ⟨⟨trivial,w6 n _ h.1⟩,w6 n _ h.2⟩
  case ifc t v=>exact ⟨trivial,zaQ n _ h⟩
  case agg l=>exact w6 n _ h
  case tup l=>exact w6 n _ h
theorem w6:∀ (n:Nat) (v:List AV),zqq n v=true→vR n v v=true
 | 0,_,h=>by simp [zqq] at h
 | n+1,l,h=>by
  cases l with
  | nil=>rfl
  | cons v r =>
   simp only [zqq,Bool.and_eq_true] at h;simp only [vR,Bool.and_eq_true];exact ⟨zaQ n _ h.1,w6 n _ h.2⟩
end
theorem qv {b:Bool}{K:Prop}(h:zjd b K):b=true∧K:=by
 cases b with
 | true=>exact ⟨rfl,h⟩
 | false=>exact h.elim
theorem zqd {p:AV}{size len:Nat}{i:Int}{v:AV}{q:Prop}(e:atP p size i len=some (v,q))(hq:q):∀ el:Option Nat,el=some size→zbC len el p i=some v:=by
 rintro el rfl;unfold atP at e;split at e
 ·cases e; simp only [zbC,xZ,if_pos hq]
 ·cases e; simp only [zbC,if_pos hq]
 ·cases e
theorem znj {x:AV}{size:Nat}{i:Int}{v:AV}{q:Prop}(e:zpZ size x i=some (v,q))(hq:q):zc6 (some size) x i=some v:=by
 unfold zpZ at e;split at e
 ·cases e; simp only [zc6,xZ,if_pos hq]
 ·cases e; simp only [zc6,xZ,if_pos hq]
 ·cases e
theorem zdE {t:TypeId}{x ix v:AV}{q:Prop}(e:jV P t x ix=some (v,q))(hq:q):zf P t x ix=some v:=by
 unfold jV at e;unfold zf;split at e
 ·split at e
  ·rename_i len el hu;split at e
   ·cases e
   ·rename_i s hs;simp only [hu];exact zqd e hq _ hs
  ·rename_i el hu;split at e
   ·cases e
   ·rename_i s hs;simp only [hu,hs];exact znj e hq
  ·cases e
 ·cases e
theorem zlw {t:TypeId}{x ix v:AV}{q:Prop}(e:zk0 P t x ix=some (v,q))(hq:q):ze5 P t x ix=some v:=by
 unfold zk0 at e;unfold ze5;split at e
 ·rename_i k i;split at e
  ·rename_i hu;split at e
   ·rename_i s;cases e;simp only [hu,zdG,if_pos hq.1];have:i.toNat<s.length:=by omega
    rw [List.getElem?_eq_getElem this,List.getD_eq_getElem?_getD,List.getElem?_eq_getElem this];rfl
   ·cases e
  ·rename_i len el hu;split at e
   ·rename_i cs;split at e
    ·cases e
    rename_i ha;split at e
    ·cases e
    rename_i s hs;cases e;have hagg:zmY P el=some false:=by
     unfold zo2 at ha;split at ha
     ·rename_i b hb;rw [hb];cases b
      ·rfl
      ·cases ha
     ·cases ha
    simp only [hu,zdV,hs];rw [if_pos hq.1];simp only [zb3,hagg];rw [List.getD_eq_getElem?_getD,List.getElem?_eq_getElem hq.2];rfl
   ·cases e
  ·cases e
 ·cases e
theorem qm {len cap:Nat}{lo hi mx:Option Int}{l h m:Nat}{p:Prop}(e:ym len cap lo hi mx=(l,h,m,p))(hp:p):zJ len cap lo hi mx=some (l,h,m):=by
 unfold ym at e;cases lo <;> cases hi <;> cases mx <;> simp only [Prod.mk.injEq] at e <;> obtain ⟨rfl,rfl,rfl,rfl⟩:=e <;>
  simp only [zJ,yg,xa,zT,z8,Option.isSome_none,Option.isSome_some] <;> first | rfl | exact (hp:False).elim | (simp_all; done)
theorem zkm {t:TypeId}{x v:AV}{lo hi mx:Option Int}{q:Prop}(e:zkF P t x lo hi mx=some (v,q))(hq:q):zbc P t x lo hi mx=some v:=by
 unfold zkF at e;unfold zbc;split at e
 ·rename_i hu;split at e
  ·split at e
   ·cases e
   ·generalize hb:ym _ _ _ _ _=b at e;obtain ⟨l,h,m,p⟩:=b;cases e;simp only [hu,zee,qm hb hq,zqY]
  ·cases e
 ·rename_i el hu;split at e
  ·cases e
  ·rename_i sz hs;simp only [hu,hs,yQ];split at e
   ·generalize hb:ym _ _ _ _ _=b at e;obtain ⟨l,h,m,p⟩:=b;cases e;simp only [qm hb hq,zlh]
   ·generalize hb:ym _ _ _ _ _=b at e;obtain ⟨l,h,m,p⟩:=b;cases e;simp only [qm hb hq,zeU]
   ·split at e
    ·split at e
     ·cases e
     ·generalize hb:ym _ _ _ _ _=b at e;obtain ⟨l,h,m,p⟩:=b;cases e;simp only [qm hb hq,zjt,zeU]
    ·generalize hb:ym _ _ _ _ _=b at e;obtain ⟨l,h,m,p⟩:=b;cases e;simp only [qm hb hq,zjt]
   ·cases e
 ·cases e
theorem zpY {h:AHeap}{op:BinOp}{t:TypeId}{lit:Bool}{x y v:AV}{q:Prop}(e:binS op x y=some (v,q))(hq:q):qq P h op t lit x y=some v:=by
 unfold binS at e;split at e
 ·split at e
  ·split at e
   ·cases e;show zrp _ _=_;unfold zrp;rw [if_pos hq]
   ·cases e
  ·cases e
 ·split at e
  ·split at e
   ·split at e
    ·rename_i hk;cases e;simp only [qq,zjm,Bool.or_self,zrh,jZ,hk,true_or,if_true];show quoA _ _ _=_;simp only [quoA,if_neg hq]
    ·cases e
   ·split at e
    ·rename_i hk;cases e;simp only [qq,zjm,Bool.or_self,zrh,jZ,hk,true_or,if_true];show remA _ _ _=_;simp only [remA,if_neg hq]
    ·cases e
   ·cases e;simp only [qq,zjm,Bool.or_self,zrh,jZ,zbj,or_true,if_true];show shlA _ _ _=_;simp only [shlA,if_neg (Int.not_lt.2 hq)]
   ·cases e;simp only [qq,zjm,Bool.or_self,zrh,jZ,zbj,or_true,if_true];show shrA _ _ _=_;simp only [shrA,if_neg (Int.not_lt.2 hq)]
   ·cases e
  ·cases e
 ·cases e
theorem zeH {h:AHeap}{id ver off k:Nat}{l:List AV}{q:Prop}(e:zhQ h id ver off k=some (l,q))(hq:q):zb h id ver off k=some l:=by
 unfold zhQ at e;unfold zb;split at e
 ·rename_i c lo n ho;cases hb:Nat.beq ver 0 with
  | false=>rw [hb] at e; cases e
  | true =>
   rw [hb] at e;simp only [cond_true] at e;split at e
   ·cases e
   ·rename_i l' hl;cases e;simp only [ho,hl];rw [if_pos ⟨Nat.eq_of_beq_eq_true hb,hq⟩]
 ·rename_i c n el lo hi nv fz sg ex ho;split at e
  ·cases e
  ·rename_i e0 he;cases hb:(Nat.ble lo ver&&Nat.ble ver hi) with
   | false=>rw [hb] at e; cases e
   | true =>
    rw [hb] at e;simp only [cond_true] at e;rw [Bool.and_eq_true] at hb;split at e
    ·cases e
    ·rename_i l' hl;cases e;simp only [ho,he,hl];rw [if_pos ⟨Nat.le_of_ble_eq_true hb.1,Nat.le_of_ble_eq_true hb.2,hq⟩]
 ·cases e
theorem zhK {h:AHeap}{t:TypeId}{p v:AV}{q:Prop}(e:zn2 P h t p=some (v,q))(hq:q):zaK P h t p=some v:=by
 unfold zn2 at e;unfold zaK;split at e
 ·split at e
  ·cases e
  ·rename_i ha;split at e
   ·cases e
   ·rename_i i hi;split at e
    ·cases e
    ·rename_i l p' hl;cases e;simp only [ha,hi,zeH hl hq]
  ·rename_i ha;split at e
   ·rename_i v' p' hl;cases e;simp only [ha,zeH hl hq]
   ·cases e
 ·cases e
theorem znl {ρ:Operand→Option AV}{h:AHeap}{o:Op}{v:AV}{K:Prop}(e:zqv P ρ h o v K):wl P ρ h o=some v∧K:=by
 unfold zqv at e;split at e
 ·rename_i t a;split at e
  ·rename_i id ver off ha;split at e
   ·unfold zk8 at e;split at e
    ·exact e.elim
    ·rename_i x q hx;obtain ⟨hq,rfl,hk⟩:=e;refine ⟨?_,hk⟩;unfold wl;show (match wH P t a ρ h with | some (.val v _)=>some v | _=>none)=_
     simp only [wH,y8,ha,zhK hx hq,yp]
   ·exact e
  ·exact e
 ·exact e
theorem znL {all:List Oper}{t:T AV}{h:AHeap}{o:Oper}{K:Prop}(e:zqj P all t h o K):qO P all t h o=true∧K:=by
 unfold zqj at e;unfold qO;split at e
 ·exact e.elim
 ·rename_i w hw;rw [hw];split at e
  ·exact ⟨rfl,e⟩
  ·split at e
   ·rename_i hd; simp only [hd]; exact e
   ·rename_i d hd;simp only [hd];split at e
    ·exact e.elim
    ·rename_i v hv;obtain ⟨h1,h2⟩:=znl e;obtain ⟨h3,h4⟩:=qv h2;rw [hv,h1];exact ⟨zaQ 300 v h3,h4⟩
theorem zdT {all:List Oper}{anc:Nat}{t:T AV}{h:AHeap}:∀ {dn:List Nat} {K:Prop},zri P all anc t h dn K→yW P all anc t h dn=true∧K
 | [],K,e=>⟨rfl,e⟩
 | p::r,K,e=>by
  unfold zri at e;unfold yW;rw [Bool.and_eq_true];split at e
  ·rename_i hp;obtain ⟨g1,g2⟩:=zdT e;rw [hp];exact ⟨⟨rfl,g1⟩,g2⟩
  ·rename_i o hp;rw [hp];unfold vv;simp only;split at e
   ·rename_i hr;obtain ⟨g1,g2⟩:=zdT e;rw [hr];exact ⟨⟨rfl,g1⟩,g2⟩
   ·rename_i hr;obtain ⟨q1,q2⟩:=znL e;obtain ⟨g1,g2⟩:=zdT q2;rw [hr];exact ⟨⟨q1,g1⟩,g2⟩
theorem za6 {fr:AFrame}{h:AHeap}{v:AV}{K:AFrame→Prop}(e:Fin P fr h v K):∃ a,z7 P fr h v=some a∧K a:=by
 unfold Fin at e;split at e
 ·rename_i all i l dn k htodo;split at e
  ·exact e.elim
  ·rename_i o ho;unfold z7;rw [htodo];simp only [ho];unfold zpd at e;unfold zdc;split at e
   ·exact e.elim
   ·rename_i t ht;rw [ht];obtain ⟨fn,n,t0,td,ds,mode,kind,round⟩:=fr;simp only at e ⊢;split at e
    ·rename_i hf;rw [hf];exact ⟨_,rfl,e⟩
    ·rename_i hf;obtain ⟨g1,g2⟩:=zdT e;rw [hf,g1];exact ⟨_,rfl,g2⟩
 ·exact xY e
theorem zeq [XT P] [XTOk P] {fr:AFrame}{rest:List AFrame}{heap:AHeap}{r:AR}{K:AM→Prop}(e:Upon P fr rest heap r K):∃ m,zmQ P fr rest heap r=some m∧K m:=by
 unfold Upon at e;split at e
 ·obtain ⟨a,h1,h2⟩:=za6 e;exact ⟨_,by simp only [zmQ,h1,zaN],h2⟩
 ·obtain ⟨a,h1,h2⟩:=za6 e;exact ⟨_,by simp only [zmQ,h1,zaN],h2⟩
 ·exact xY e
theorem vj [XT P] [XTOk P] {fr:AFrame}{rest:List AFrame}{h:AHeap}{all:List Oper}{o:Oper}(hm:fr.mode=.run)(ht:ziY fr=some (all,o)):kq P ⟨fr,rest,h⟩=zaz P fr rest h all o:=by
 unfold ziY at ht;simp only [kq,hm,zn5];split at ht
 ·rename_i all' o' l k htodo;cases ht;rw [htodo];rfl
 ·rename_i all' i l dn k htodo;split at ht
  ·cases ht
  ·rename_i o' ho;cases ht;rw [htodo];show zp6 P fr rest h all'.toList all'[i]?=_;rw [ho]; rfl
 ·cases ht
theorem zsx {ρ:Operand→Option AV}{h:AHeap}{o:Op}{r:AR}{p:Prop}(e:opS P ρ h o=some (r,p))(hp:p):opA P ρ h o=some r:=by
 have lift:∀ {x:Option (AV × Prop)} {y:Option AV},zgj h x=some (r,p)→(∀ v q,x=some (v,q)→q→y=some v)→yp h y=some r:=by
  intro x y e g;unfold zgj at e;split at e
  ·cases e
  ·rename_i v q;cases e;rw [g v _ rfl hp]; rfl
 cases o <;> simp only [opS] at e
 case binOp op t x y t' =>
  unfold zra at e;split at e
  ·cases e
  ·rename_i a ha;split at e
   ·cases e
   ·rename_i b hb;show za2 P op t x y t' ρ h=_;simp only [za2,two,ha,hb];exact lift e fun v q e hq=>zpY e hq
 case slice t x lo hi mx =>
  split at e
  ·cases e
  rename_i a ha;split at e
  ·cases e
  rename_i l hl;split at e
  ·cases e
  rename_i hh hhh;split at e
  ·cases e
  rename_i m hm;show qR P t x lo hi mx ρ h=_;simp only [qR,wC,ha,hl,hhh,hm];exact lift e fun v q e hq=>by simp only [zN,zkm e hq]
 case indexAddr t x y =>
  unfold zra at e;split at e
  ·cases e
  ·rename_i a ha;split at e
   ·cases e
   ·rename_i b hb;show xR P t x y ρ h=_;simp only [xR,two,ha,hb];exact lift e fun v q e hq=>zdE e hq
 case index t x y =>
  unfold zra at e;split at e
  ·cases e
  ·rename_i a ha;split at e
   ·cases e
   ·rename_i b hb;show zaU P t x y ρ h=_;simp only [zaU,two,ha,hb];exact lift e fun v q e hq=>zlw e hq
 case load t x =>
  split at e
  ·cases e
  ·rename_i a ha;show wH P t x ρ h=_;simp only [wH,y8,ha];exact lift e fun v q e hq=>zhK e hq
 all_goals cases e
theorem Goal.step [XT P] [XTOk P] (hmix:P.follows .mixedOrders=true){keep:Nat}{f0:FuncId}{Q:AV→AHeap→Prop}{m m':AM}(e:kq P m=some m')(k:Goal P keep f0 Q m'):Goal P keep f0 Q m:=by
 intro w0 base fr cs w hk s;obtain ⟨fr1,cs1,w1,s1,k1⟩:=znO hmix s e;obtain ⟨fr',w',B,R,v,v',h',s2,g⟩:=k w0 base fr1 cs1 w1 hk k1;exact ⟨fr',w',B,R,v,v',h',s1.trans s2,g⟩
theorem Goal.runN [XT P] [XTOk P] (hmix:P.follows .mixedOrders=true){keep:Nat}{f0:FuncId}{Q:AV→AHeap→Prop}:∀ {n:Nat} {m m':AM},runN P n m=some m'→Goal P keep f0 Q m'→Goal P keep f0 Q m
 | 0,m,m',e,k=>by cases e; exact k
 | n+1,m,m',e,k=>by
  unfold Ev.runN at e;split at e
  ·cases e
  ·rename_i m1 h1;exact .step hmix h1 (Goal.runN hmix e k)
theorem HRel.grow {B:Base}{R:Bij}{h:AHeap}{w w':World}(k:HRel P B R h w)(hB:B.n≤w.heap.size)(hs:w.heap.size≤w'.heap.size)(ho:∀ b,b<w.heap.size→w'.heap[b]?=w.heap[b]?):HRel P B R h w' where
 fresh:=k.fresh
 pend:=k.pend
 obj i o e hp:=(k.obj i o e hp).mono R.le_refl (fun _=>rfl) (fun r L hL=>ho _ (k.place i r L hL).2)
 place i r L hL:=⟨(k.place i r L hL).1,Nat.lt_of_lt_of_le (k.place i r L hL).2 hs⟩
 rd:=k.rd
 low b hb:=(ho b (Nat.lt_of_lt_of_le (Base.low_lt hb) hB)).trans (k.low b hb)
 rp:=k.rp
 rol:=k.rol
 pin:=k.pin
 apart:=k.apart
 same:=k.same
 glob g c e:=by
  obtain ⟨e1,cs,el,fz,e2,e3⟩:=k.glob g c e;exact ⟨e1,cs,el,fz,(ho g (Nat.lt_of_lt_of_le (Base.low_lt e1) hB)).trans e2,e3⟩
theorem zoG {fr f:Frame}{cs:List Frame}{w:World}{v:Value}(hl:fr.leaving P w (.returned v)):step P (lone fr (f::cs) w)=.next (lone (f.finish v) cs w):=by
 obtain ⟨h1,h2,h3,fn,h4,h5⟩:=hl;refine step_lone_go (fr':=f.finish v) (cs':=cs) (w':=w) ?_;have hst:stepG P true { frame:=fr,callers:=f::cs,status:=.running,dying:=none } w=unwind P true fr (f::cs) none w:=by
  simp only [stepG,h1]
 rw [hst];simp only [unwind,h2,h1,h4,Sem.runT_eq,h5];simp [doReturn,h3]
theorem ziS {keep:Nat}{f0:FuncId}{Q:AV→AHeap→Prop}{us:List Nat}{q:AV→Prop}{m:AM}{K:AM→Prop}(e:znz P us q m K)(hK:∀ m,K m→Goal P keep f0 Q m):Goal P keep f0 Q m:=by
 intro w0 base fr cs w hk s;obtain ⟨a,rest,h⟩:=m;unfold znz at e;simp only at e;split at e
 ·exact e.elim
 rename_i c r;split at e;rotate_left
 ·exact e.elim
 rename_i hkind;split at e;rotate_left
 ·exact e.elim
 rename_i hcm;split at e
 ·exact e.elim
 rename_i m' hm';obtain ⟨hspec,hgo⟩:=e;obtain ⟨B,R,fs,rfl,hb,kh,ho,kt,kb⟩:=s;obtain ⟨f,fs',rfl,kf,kr⟩:=kb;have hroom:B.n≤w.heap.size:=by show B.env.heap.size≤_; rw [hb]; exact ho.size
 have hloc:Sim P (Env.of w) (f::fs'++base) m' fr (f::fs'++base) w:=by
  simp only [canM,nodup,zqU,Bool.and_self,cond_true,zlv] at hm';split at hm'
  ·cases hm'
  rename_i h2 hh2;split at hm'
  ·cases hm'
  rename_i top htop;simp only [zqQ] at hm';cases hm';obtain ⟨objs,next,glob⟩:=h
  simp only [zl6,List.all_nil,cond_true,zgW,List.length_nil] at hh2;cases hh2;have hR:Tab.re [] R=fun _ _=>none:=by
   funext i r;simp only [Tab.re,List.getElem?_nil]
  refine ⟨Base.of w,fun _ _=>none,[],rfl,rfl,.start fun g c e=>?_,.start w,?_,rfl⟩
  ·obtain ⟨_,cs,el,fz,e2,e3⟩:=kh.glob g c e;exact ⟨xJ e2,cs,el,fz,e2,e3⟩
  ·rw [← hR];exact zn9 (Tab.ok [] R) htop kt
 obtain ⟨fr',w',B',R',v,v',h',s1,s2,s3,s4,s5,s6,s7,s8,s9⟩:=hspec (Env.of w) (f::fs'++base) fr (f::fs'++base) w (fun i r L e=>by cases e) hloc;have hold:OldX (Env.of w) w':=s7.all s5 s6;have hsame:∀ b,b<w.heap.size→w'.heap[b]?=w.heap[b]?:=fun b hb=>hold.other b hb id;obtain ⟨c',q1,q2⟩:=za6 (hgo v s8);have hsim:Sim P w0 base ⟨c',r,h⟩ (f.finish v') (fs'++base) w' :=
  ⟨B,R,fs',rfl,hb,kh.grow hroom s7.size hsame,⟨s7.os.trans ho.os,s7.tape.trans ho.tape,s7.output.trans ho.output,Nat.le_trans ho.size s7.size,Nat.le_trans ho.drawn s7.drawn⟩,xT kf hcm q1 (zad 99 _ _ s9 s4),kr⟩
 obtain ⟨fr2,w2,B2,R2,v2,v2',h2,t1,t2⟩:=hK _ q2 w0 base _ _ w' hk hsim;exact ⟨fr2,w2,B2,R2,v2,v2',h2,s1.trans (.head (zoG s2) t1),t2⟩
theorem Goal.mono {keep:Nat}{f0:FuncId}{Q Q':AV→AHeap→Prop}{m:AM}(h:∀ v k,Q v k→Q' v k)(g:Goal P keep f0 Q m):Goal P keep f0 Q' m:=by
 intro w0 base fr cs w hk s;obtain ⟨fr',w',B,R,v,v',h',a1,a2,a3,a4,a5,a6,a7,a8⟩:=g w0 base fr cs w hk s;exact ⟨fr',w',B,R,v,v',h',a1,a2,a3,a4,a5,a6,a7,h _ _ a8⟩
theorem zi4 {us:List Nat}{v:AV}{m:AM}{K:AM→Prop}(e:zqK P us v m K):znz P us (fun x=>x=v) m K:=by
 obtain ⟨a,rest,h⟩:=m;unfold zqK at e;unfold znz;simp only at e;split at e
 ·exact e.elim
 split at e;rotate_left
 ·exact e.elim
 rename_i hkind;split at e;rotate_left
 ·exact e.elim
 rename_i hcm;split at e
 ·exact e.elim
 rename_i m' hm';obtain ⟨hp,g1,g2⟩:=qv e;simp only [hkind,hcm,hm'];exact ⟨g1.mono fun x _ hx=>⟨hx,by rw [hx]; exact hp⟩,fun x hx=>by rw [hx]; exact g2⟩
theorem zcJ {keep:Nat}{f0:FuncId}{Q:AV→AHeap→Prop}{m:AM}(e:zrJ P f0 Q m):Goal P keep f0 Q m:=by
 intro w0 base fr cs w hk s;obtain ⟨v,hd,hq⟩:=xY e;obtain ⟨af,rest,h⟩:=m;obtain ⟨B,R,fs,rfl,hb,kh,ho,kt,kb⟩:=s;unfold zm7 at hd;simp only at hd;split at hd
 ·cases hd
 split at hd;rotate_left
 ·cases hd
 rename_i hmode;split at hd
 ·cases hd
 rename_i hdef;split at hd;rotate_left
 ·cases hd
 rename_i hkind;split at hd;rotate_left
 ·cases hd
 rename_i hf0;have hfs:fs=[]:=kb;subst hfs;have hs:Slots R af.tmps fr.tmps:=by have:=kt.top; rw [hmode] at this; exact this
 obtain ⟨fn,v',r1,r2,r3⟩:=zfp kh hs kt.fn hd;have hm:fr.mode=.returning:=by have:=kt.mode; rw [hmode] at this; exact this
 have hdf:fr.defers=[]:=by have:=kt.defers; rw [hdef] at this; exact this
 exact ⟨fr,w,B,R,v,v',h,Steps.refl _ _,⟨hm,hdf,by rw [kt.kind,hkind],fn,r1,r2⟩,kt.fn.trans (Nat.eq_of_beq_eq_true hf0),r3,hb,kh,ho,hq⟩
theorem Goal.ofRun [XT P] [XTOk P] (hmix:P.follows .mixedOrders=true){keep:Nat}{f0:FuncId}{Q:AV→AHeap→Prop}:∀ {n:Nat} {m:AM} {v:AV},runA P f0 n m=some v→(∀ h,Q v h)→Goal P keep f0 Q m
 | 0,m,v,e,_=>by cases e
 | n+1,m,v,e,hq=>by
  unfold runA at e;split at e
  ·rename_i v' hd;cases e;exact zcJ (m:=m) (show zis (zm7 P f0 m) _ by rw [hd]; exact hq _)
  ·split at e
   ·cases e
   ·rename_i m1 h1;exact .step hmix h1 (Goal.ofRun hmix e hq)
theorem zeY {t:T AV}:∀ {us:List Nat} {acc:T AV},(∀ u v,acc.get u=some v→t.get u=some v)→∀ u v,(zju t us acc).get u=some v→t.get u=some v
 | [],_,h,u,v,e=>h u v e
 | u0::r,acc,h,u,v,e=>by
  rw [zju,T.seq_eq] at e;refine zeY (us:=r) (fun u v e=>?_) u v e;rw [T.get_set] at e;split at e
  ·rename_i hu; rw [hu]; exact e
  ·exact h u v e
theorem zjv {keep:Nat}{f0:FuncId}{Q:AV→AHeap→Prop}{us:List Nat}{m:AM}{K:AM→Prop}(e:zpX us m K)(hK:∀ m,K m→Goal P keep f0 Q m):Goal P keep f0 Q m:=by
 intro w0 base fr cs w hk s;obtain ⟨⟨fn,n,t,todo,ds,mode,kind,round⟩,rest,h⟩:=m;obtain ⟨B,R,fs,hc,hb,kh,ho,kt,kb⟩:=s;unfold zpX at e;simp only at e;have hkeep:∀ {a:Array Value},Slots R t a→Slots R (zju t us .leaf) a:=fun hs u v e=>hs u v (zeY (fun u v e=>by cases e) u v e);split at e
 ·exact e.elim
 ·rename_i hn;refine hK _ e w0 base fr cs w hk ⟨B,R,fs,hc,hb,kh,ho,?_,kb⟩;obtain ⟨k1,k2,k3,k4,k5,k6,k7,k8,k9⟩:=kt;refine ⟨k1,k2,k3,k4,k5,k6,k7,k8,?_⟩;cases mode with
  | run =>
   change TodoRel P B R rest.length false h todo t fr.todo fr.tmps at k9;show TodoRel P B R rest.length false h todo (zju t us .leaf) fr.todo fr.tmps;cases todo with
   | nil=>exact ⟨k9.1,hkeep k9.2⟩
   | cons it kk =>
    cases it with
    | drw a b c=>exact absurd rfl (hn a b c kk)
    | _=>exact ⟨k9.1,hkeep k9.2⟩
  | returning=>exact hkeep k9
  | panicking c=>exact hkeep k9
end
end Go.Proofs.Ytcdigdplhlgcaaa.Ev
end
section
namespace Go.Proofs.Ytcdigdplhlgcaaa.Ev
open Go
noncomputable section
variable (P:Program)
end
section
variable {P:Program} {B:Base} {R:Bij} {h:AHeap} {w:World}
theorem ObjRel.live {i:Nat}{o:AObj}(k:ObjRel P R w i o):∃ r L,R i r=some L:=by
 cases o with
 | cells c n el lo hi nv fz sg ex =>
  obtain ⟨a1,a2,a3,a4,a5⟩:=k;obtain ⟨L,h1,_⟩:=a4 hi n a1 (Nat.le_refl _) (by simp [zG]);exact ⟨hi,L,h1⟩
 | map es clock=>obtain ⟨L,es',h1,_⟩:=k; exact ⟨0,L,h1⟩
 | iter s p=>obtain ⟨L,h1,_⟩:=k; exact ⟨0,L,h1⟩
 | loop lp=>obtain ⟨L,lp',h1,_⟩:=k; exact ⟨0,L,h1⟩
 | dfrd ds=>obtain ⟨L,ds',h1,_⟩:=k; exact ⟨0,L,h1⟩
 | ro c lo n=>obtain ⟨L,cs,el,fz,h1,_⟩:=k; exact ⟨0,L,h1⟩
end
end Go.Proofs.Ytcdigdplhlgcaaa.Ev
end
section
namespace Go.Proofs.Ytcdigdplhlgcaaa.Ev
open Go
noncomputable section
variable (P:Program)
end
section
variable {P:Program}
def LessH (P:Program) (id:Nat) (hE hW:AHeap):Prop:=∃ (oE oW:AObj),hE.get id=some oE∧hW.next=hE.next∧hW.glob=hE.glob∧(∀ i,hW.get i=if i=id then some oW else hE.get i) ∧
 oE.isRo=false∧oW.isRo=false∧∀ (R:Bij) (w:World),ObjRel P R w id oE→ObjRel P R w id oW
theorem LessH.put {h:AHeap}{id:Nat}{oE oW:AObj}(h1:oE.isRo=false)(h2:oW.isRo=false)(hsw:∀ (R:Bij) (w:World),ObjRel P R w id oE→ObjRel P R w id oW):LessH P id (h.put id oE) (h.put id oW):=by
 obtain ⟨objs,next,glob⟩:=h
 refine ⟨oE,oW,?_,rfl,rfl,fun i=>?_,h1,h2,hsw⟩
 ·show (objs.set (some oE) id).get id=_;rw [T.get_set,if_pos rfl]
 ·show (objs.set (some oW) id).get i=if i=id then some oW else (objs.set (some oE) id).get i
  rw [T.get_set,T.get_set];split <;> rfl
theorem LessH.new {h:AHeap}{oE oW:AObj}(h1:oE.isRo=false)(h2:oW.isRo=false)(hsw:∀ (R:Bij) (w:World),ObjRel P R w h.next oE→ObjRel P R w h.next oW):LessH P h.next (h.new oE) (h.new oW):=by
 obtain ⟨objs,next,glob⟩:=h
 refine ⟨oE,oW,?_,rfl,rfl,fun i=>?_,h1,h2,hsw⟩
 ·show (objs.set (some oE) next).get next=_
  rw [T.get_set,if_pos rfl]
 ·show (objs.set (some oW) next).get i=if i=next then some oW else (objs.set (some oE) next).get i
  rw [T.get_set,T.get_set];split <;> rfl
end
section
variable {P:Program} {w0:Env} {base:List Frame} {B:Base} {R:Bij} {af:AFrame} {rest:List AFrame} {h:AHeap} {fr:Frame} {fs:List Frame} {w:World}
end
section
variable {P:Program}
end
end Go.Proofs.Ytcdigdplhlgcaaa.Ev
end
section
namespace Go.Proofs.Ytcdigdplhlgcaaa.Ev
open Go
noncomputable section
variable (P:Program)
def ldW (h:AHeap) (t:TypeId) (v p:AV):Option (AR × Prop):=match p with
 | .ptr id ver off=>match zmY P t with
  | none=>none
  | some true=>match v with
   | .agg l=>match P.info? t with
    | none=>none
    | some i=>some (.val (.agg l) h,zb h id ver off i.size=some l)
   | _=>none
  | some false=>some (.val v h,zb h id ver off 1=some [v])
 | _=>none
def stW (h:AHeap) (t:TypeId) (O:T AObj) (p v:AV):Option (AR × Prop):=match p with
 | .ptr id ver off=>match P.info? t with
  | none=>none
  | some i=>match Nat.beq v.cells.length i.size with
   | false=>none
   | true=>some (.skip ⟨O,h.next,h.glob⟩,zc h id ver off v.cells=some ⟨O,h.next,h.glob⟩)
 | _=>none
def nwW (h:AHeap) (t:TypeId) (O:T AObj) (z:AV):Option (AR × Prop):=match xW P t with
 | none=>none
 | some n=>match Nat.beq n z.cells.length&&z.cells.all AV.one with
  | false=>none
  | true=>some (.val (.ptr h.next 0 0) ⟨O,h.next+1,h.glob⟩,h.objs.set (some (.cells (zd .leaf 0 z.cells) z.cells.length t 0 0 1 0 false .leaf)) h.next=O)
def hopW (ρ:Operand→Option AV) (h:AHeap) (v:AV) (O:T AObj) (o:Op):Option (AR × Prop):=match o with
 | .load t a=>match ρ a with
  | none=>none
  | some p=>ldW P h t v p
 | .store t a x=>match ρ a with
  | none=>none
  | some p=>match ρ x with
   | none=>none
   | some x=>stW P h t O p x
 | .alloc t=>match qj P t with
  | none=>none
  | some z=>nwW P h t O z
 | .box t x=>match ρ x with
  | none=>none
  | some z=>nwW P h t O z
 | .lookup t m k ok=>match ρ m with
  | none=>none
  | some a=>match ρ k with
   | none=>none
   | some b=>some (.val v h,zbw P h t a b ok=some v)
 | .mapUpdate t m k x=>match ρ m with
  | none=>none
  | some a=>match ρ k with
   | none=>none
   | some b=>match ρ x with
    | none=>none
    | some c=>some (.skip ⟨O,h.next,h.glob⟩,zdq P h t a b c=some ⟨O,h.next,h.glob⟩)
 | .binOp op t x y _=>match ρ x with
  | none=>none
  | some a=>match ρ y with
   | none=>none
   | some b=>some (.val v h,qq P h op t (xn x || xn y) a b=some v)
 | .assign x=>match ρ x with
  | none=>none
  | some a=>some (.val a h,True)
 | .slice t x lo hi mx=>match ρ x with
  | none=>none
  | some a=>match yR ρ lo with
   | none=>none
   | some l=>match yR ρ hi with
    | none=>none
    | some hh=>match yR ρ mx with
     | none=>none
     | some m=>some (.val v h,zN P h t a l hh m=some v)
 | .call c=>match qD ρ c.args.toList with
  | none=>none
  | some args=>match c.callee with
   | .builtin b=>match qB b with
    | true=>none
    | false=>some (.val v ⟨O,h.next,h.glob⟩,zi P h b c.argTypes[0]? c.argTypes[1]? args=some (.val v ⟨O,h.next,h.glob⟩))
   | _=>none
 | _=>none
def zl3 (ρ:Operand→Option AV) (h:AHeap) (o:Op) (v:AV) (K:Prop):Prop:=match o with
 | .load t a=>match ρ a with
  | some (.ptr id ver off)=>match ldW P h t v (.ptr id ver off) with
   | none=>False
   | some (_,q)=>q∧K
  | _=>wl P ρ h (.load t a)=some v∧K
 | .binOp op t x y _=>match ρ x with
  | none=>False
  | some a=>match ρ y with
   | none=>False
   | some b=>qq P h op t (xn x || xn y) a b=some v∧K
 | .call c=>match qD ρ c.args.toList with
  | none=>False
  | some args=>match c.callee with
   | .builtin b=>match qB b with
    | true=>zL P h b c.argTypes[0]? args=some v∧K
    | false=>False
   | _=>False
 | .slice t x lo hi mx=>match ρ x with
  | none=>False
  | some a=>match yR ρ lo with
   | none=>False
   | some l=>match yR ρ hi with
    | none=>False
    | some hh=>match yR ρ mx with
     | none=>False
     | some m=>zN P h t a l hh m=some v∧K
 | o=>wl P ρ h o=some v∧K
def okLd (o:Op) (v:AV) (K:Prop):Prop:=match o with
 | .load t _=>match P.underlying t with
  | some (.slice _)=>okD 300 v=true∧K
  | some (.pointer _)=>okD 300 v=true∧K
  | _=>zjd (okD 300 v) K
 | .call c=>match c.callee with
  | .builtin .unsafeSliceData=>okD 300 v=true∧K
  | _=>zjd (okD 300 v) K
 | _=>zjd (okD 300 v) K
theorem zpT {o:Op}{v:AV}{K:Prop}(e:okLd P o v K):okD 300 v=true∧K:=by
 unfold okLd at e;split at e
 ·split at e
  ·exact e
  ·exact e
  ·exact qv e
 ·split at e
  ·exact e
  ·exact qv e
 ·exact qv e
def zlo (all:List Oper) (t:T AV) (h:AHeap) (o:Oper) (K:Prop):Prop:=match xd all t o.guard with
 | none=>False
 | some w=>match w with
  | false=>K
  | true=>match o.dst with
   | none=>(wl P (ev t) h o.op).isSome=true∧K
   | some d=>match t.get d with
    | none=>False
    | some v=>zl3 P (ev t) h o.op v (okLd P o.op v K)
def zjk (all:List Oper) (anc:Nat) (t:T AV) (h:AHeap):List Nat→Prop→Prop
 | [],K=>K
 | p::r,K=>match all[p]? with
  | none=>zjk all anc t h r K
  | some o=>match yq P o.op&&!(anc.testBit p) with
   | false=>zjk all anc t h r K
   | true=>zlo P all t h o (zjk all anc t h r K)
def zlb (fr:AFrame) (h:AHeap) (all:Array Oper) (i:Nat) (o:Oper) (l dn:List Nat) (k:List AItem) (t:Option (T AV)) (K:AFrame→Prop):Prop:=match t with
 | none=>False
 | some t=>match fr with
  | ⟨fn,n,_,_,ds,mode,kind,round⟩=>match yL P o || xj o.op with
   | false=>K ⟨fn,n,t,.drw all l (i::dn)::k,ds,mode,kind,round⟩
   | true=>zjk P all.toList (bif yL P o then (zE P all.toList).anc.getD i 0 else 0) t h dn (K ⟨fn,n,t,.drw all l (i::dn)::k,ds,mode,kind,round⟩)
def ztx (fr:AFrame) (h:AHeap) (v:AV) (K:AFrame→Prop):Prop:=match fr.todo with
 | .drw all (i::l) dn::k=>match all[i]? with
  | none=>False
  | some o=>zlb P fr h all i o l dn k (zj5 fr.tmps fr.n o.dst v) K
 | _=>zis (z7 P fr h v) K
def zmS [XT P] (fr:AFrame) (rest:List AFrame) (heap:AHeap) (r:AR) (K:AM→Prop):Prop:=match r with
 | .val v h=>ztx P fr h v fun fr=>K ⟨fr,rest,h⟩
 | .skip h=>ztx P fr h xE fun fr=>K ⟨fr,rest,h⟩
 | r=>zis (zmQ P fr rest heap r) K
def HopK [XT P] (v:AV) (O:T AObj) (m:AM) (K:AM→Prop):Prop:=match m with
 | ⟨fr,rest,h⟩=>match fr.mode with
  | .run=>match ziY fr with
   | none=>False
   | some (all,o)=>match xd all fr.tmps o.guard with
    | some true=>match hopW P (ev fr.tmps) h v O o.op with
     | none=>False
     | some (r,p)=>p∧zmS P fr rest h r K
    | _=>False
  | _=>False
def stG (h:AHeap) (t:TypeId) (O:T AObj) (p v:AV):Option (AR × Prop):=match p with
 | .ptr id ver off=>match P.info? t with
  | none=>none
  | some i=>some (.skip ⟨O,h.next,h.glob⟩,Nat.beq v.cells.length i.size=true∧zc h id ver off v.cells=some ⟨O,h.next,h.glob⟩)
 | _=>none
def zqZ (ρ:Operand→Option AV) (h:AHeap) (v:AV) (O:T AObj) (n:Nat) (o:Op):Option (AR × Prop):=match o with
 | .call c=>match qD ρ c.args.toList with
  | none=>none
  | some args=>match c.callee with
   | .builtin b=>match qB b with
    | true=>some (.val v h,zL P h b c.argTypes[0]? args=some v)
    | false=>some (.val v ⟨O,n,h.glob⟩,zi P h b c.argTypes[0]? c.argTypes[1]? args=some (.val v ⟨O,n,h.glob⟩))
   | _=>none
 | .makeMap _ r=>match r with
  | none=>some (.val (.mp h.next) ⟨O,h.next+1,h.glob⟩,h.objs.set (some (.map [] 0)) h.next=O)
  | some _=>none
 | .buildSlice t k parts=>match q9 ρ parts.toList with
  | none=>none
  | some l=>some (.val v ⟨O,n,h.glob⟩,zg P h t k l=some (v,⟨O,n,h.glob⟩))
 | .makeSlice t l c=>match ρ l with
  | none=>none
  | some a=>match ρ c with
   | none=>none
   | some b=>some (.val v ⟨O,n,h.glob⟩,zR P h t a b=some (v,⟨O,n,h.glob⟩))
 | .convert s d x=>match ju P d with
  | false=>match ρ x with
   | none=>none
   | some a=>some (.val v h,zcp P h s d a=some v)
  | true=>match ρ x with
   | none=>none
   | some a=>some (.val v ⟨O,n,h.glob⟩,qc P h s d a=some (v,⟨O,n,h.glob⟩))
 | .build t parts=>match q9 ρ parts.toList with
  | none=>none
  | some l=>some (.val v h,qa P t l=some v)
 | .indexAddr t x ix=>match ρ x with
  | none=>none
  | some a=>match ρ ix with
   | none=>none
   | some b=>some (.val v h,zf P t a b=some v)
 | .box t x=>match ρ x with
  | none=>none
  | some z=>match xW P t with
   | none=>none
   | some n=>some (.val (.ptr h.next 0 0) ⟨O,h.next+1,h.glob⟩,(Nat.beq n z.cells.length&&z.cells.all AV.one)=true∧h.objs.set (some (.cells (zd .leaf 0 z.cells) z.cells.length t 0 0 1 0 false .leaf)) h.next=O)
 | .store t a x=>match ρ a with
  | none=>none
  | some p=>match ρ x with
   | none=>none
   | some x=>stG P h t O p x
 | _=>none
def zqH [XT P] (v:AV) (O:T AObj) (n:Nat) (m:AM) (K:AM→Prop):Prop:=match m with
 | ⟨fr,rest,h⟩=>match fr.mode with
  | .run=>match ziY fr with
   | none=>False
   | some (all,o)=>match xd all fr.tmps o.guard with
    | some true=>match zqZ P (ev fr.tmps) h v O n o.op with
     | none=>False
     | some (r,p)=>p∧zmS P fr rest h r K
    | _=>False
  | _=>False
def zsv (h:AHeap) (t:T AV):List ResultVar→List AV→Option (List AV × Prop)
 | [],_=>some ([],True)
 | x::r,vs=>match vs with
  | []=>none
  | v::vs=>match zsv h t r vs with
   | none=>none
   | some (l,q)=>match x with
    | .tmp i=>match t.get i with
     | none=>none
     | some u=>some (u::l,q)
    | .cell a ty=>match t.get a with
     | none=>none
     | some p=>match ldW P h ty v p with
      | some (.val u _,p')=>some (u::l,p'∧q)
      | _=>none
def zqB (vs:List AV) (m:AM) (K:AM→Prop):Prop:=match m with
 | ⟨fr,rest,h⟩=>match fr.mode with
  | .returning=>match fr.defers with
   | []=>match fr.kind with
    | .normal=>match rest with
     | []=>False
     | c::r=>match c.mode with
      | .run=>match P.funcs[fr.fn]? with
       | none=>False
       | some fn=>match zsv P h fr.tmps fn.results.toList vs with
        | none=>False
        | some (l,q)=>q∧zis (zq2 (some l)) fun v=>ztx P c h v fun c=>K ⟨c,r,h⟩
      | _=>False
    | _=>False
   | _::_=>False
  | _=>False
inductive Cmd where
 | run (n:Nat)
 | know (u:Nat) (b:Bool)
 | op
 | step
 | keep (us:List Nat)
 | callv (us:List Nat) (v:AV)
 | hop (v:AV) (O:T AObj)
 | hopn (v:AV) (O:T AObj) (n:Nat)
 | hret (vs:List AV)
 | done
def cmdK [XT P] (f0:FuncId) (Q:AV→AHeap→Prop) (_keep:Nat) (c:Cmd) (m:AM) (K:AM→Prop):Prop:=match c with
 | .run n=>zis (runN P n m) K
 | .know u b=>Know u b m K
 | .op=>OpK P m K
 | .step=>zpO P m K
 | .keep us=>zpX us m K
 | .callv us v=>zqK P us v m K
 | .hop v O=>HopK P v O m K
 | .hopn v O n=>zqH P v O n m K
 | .hret vs=>zqB P vs m K
 | .done=>zrJ P f0 Q m
def Obl [XT P] (f0:FuncId) (Q:AV→AHeap→Prop) (keep:Nat) (K:AM→Prop) (l:List Cmd):AM→Prop :=
 List.rec (motive:=fun _=>AM→Prop) K (fun c _ ih m=>cmdK P f0 Q keep c m ih) l
end
section
variable {P:Program}
theorem zmB {h:AHeap}{t:TypeId}{v p:AV}{r:AR}{q:Prop}(e:ldW P h t v p=some (r,q))(hq:q):yp h (zaK P h t p)=some r:=by
 unfold ldW at e;split at e;rotate_left
 ·cases e
 unfold zaK;simp only;split at e
 ·cases e
 ·rename_i ht;simp only [ht];split at e;rotate_left
  ·cases e
  split at e
  ·cases e
  rename_i i hi;cases e;simp only [hi,hq];rfl
 ·rename_i ht;simp only [ht];cases e;rw [hq];rfl
theorem zse {h:AHeap}{t:TypeId}{O:T AObj}{p v:AV}{r:AR}{q:Prop}(e:stW P h t O p v=some (r,q))(hq:q):zcE (kG P h t p v)=some r:=by
 unfold stW at e;split at e;rotate_left
 ·cases e
 unfold kG;simp only;split at e
 ·cases e
 rename_i i hi;simp only [hi];split at e
 ·cases e
 rename_i hn;cases e;rw [if_pos (Nat.eq_of_beq_eq_true hn),hq];rfl
theorem zoc {h:AHeap}{t:TypeId}{O:T AObj}{z:AV}{r:AR}{q:Prop}(e:nwW P h t O z=some (r,q))(hq:q):wk (zjL P h t z)=some r:=by
 unfold nwW at e;split at e
 ·cases e
 rename_i n hn;split at e
 ·cases e
 rename_i hb;cases e;rw [Bool.and_eq_true] at hb;unfold zjL;rw [if_pos ⟨hb.2,by rw [hn,Nat.eq_of_beq_eq_true hb.1]⟩];subst hq;rfl
theorem zqC {h h':AHeap}{t:TypeId}{v p u:AV}{r:AR}{q:Prop}(e:ldW P h t v p=some (r,q))(hr:r=.val u h'):u=v:=by
 subst hr;unfold ldW at e;split at e;rotate_left
 ·cases e
 split at e
 ·cases e
 ·split at e;rotate_left
  ·cases e
  split at e
  ·cases e
  cases e;rfl
 ·cases e;rfl
theorem zkG {ρ:Operand→Option AV}{h:AHeap}{o:Op}{v:AV}{K:Prop}(e:zl3 P ρ h o v K):wl P ρ h o=some v∧K:=by
 unfold zl3 at e;split at e
 ·rename_i t a;split at e
  ·rename_i id ver off ha;split at e
   ·exact e.elim
   ·rename_i r q hq;obtain ⟨hp,hk⟩:=e;refine ⟨?_,hk⟩;have:=zmB hq hp;unfold yp at this;split at this
    ·cases this
    rename_i u hu;cases this;obtain rfl:=zqC hq rfl;unfold wl;show (match wH P t a ρ h with | some (.val v _)=>some v | _=>none)=_
    simp only [wH,y8,ha,hu,yp]
  ·exact e
 ·rename_i op t x y u;split at e
  ·exact e.elim
  rename_i a ha;split at e
  ·exact e.elim
  rename_i b hb;obtain ⟨hp,hk⟩:=e;refine ⟨?_,hk⟩;have:opA P ρ h (.binOp op t x y u)=some (.val v h):=by
   show two ρ x y (fun a b=>yp h (qq P h op t (xn x || xn y) a b))=_;unfold two;simp only [ha,hb,hp];rfl
  unfold wl;rw [this]
 ·rename_i c;split at e
  ·exact e.elim
  rename_i args ha;split at e
  ·rename_i b hb;split at e
   ·rename_i hr;obtain ⟨hp,hk⟩:=e;refine ⟨?_,hk⟩;have:opA P ρ h (.call c)=some (.val v h):=by
     show xi P ρ h c=_;unfold xi;simp only [ha,hb];unfold yh;simp only [hr,hp];rfl
    unfold wl;rw [this]
   ·exact e.elim
  ·exact e.elim
 ·rename_i t x lo hi mx;split at e
  ·exact e.elim
  rename_i a ha;split at e
  ·exact e.elim
  rename_i l hl;split at e
  ·exact e.elim
  rename_i hh hhh;split at e
  ·exact e.elim
  rename_i m hm;obtain ⟨hp,hk⟩:=e;refine ⟨?_,hk⟩;have:opA P ρ h (.slice t x lo hi mx)=some (.val v h):=by
   show yp h (wC P ρ h t x lo hi mx)=_;unfold wC;simp only [ha,hl,hhh,hm,hp];rfl
  unfold wl;rw [this]
 ·exact e
theorem zlG {all:List Oper}{t:T AV}{h:AHeap}{o:Oper}{K:Prop}(e:zlo P all t h o K):qO P all t h o=true∧K:=by
 unfold zlo at e;unfold qO;split at e
 ·exact e.elim
 ·rename_i w hw;rw [hw];split at e
  ·exact ⟨rfl,e⟩
  ·split at e
   ·rename_i hd; simp only [hd]; exact e
   ·rename_i d hd;simp only [hd];split at e
    ·exact e.elim
    ·rename_i v hv;obtain ⟨h1,h2⟩:=zkG e;obtain ⟨h3,h4⟩:=zpT P h2;rw [hv,h1];exact ⟨zaQ 300 v h3,h4⟩
theorem za4 {all:List Oper}{anc:Nat}{t:T AV}{h:AHeap}:∀ {dn:List Nat} {K:Prop},zjk P all anc t h dn K→yW P all anc t h dn=true∧K
 | [],K,e=>⟨rfl,e⟩
 | p::r,K,e=>by
  unfold zjk at e;unfold yW;rw [Bool.and_eq_true];split at e
  ·rename_i hp;obtain ⟨g1,g2⟩:=za4 e;rw [hp];exact ⟨⟨rfl,g1⟩,g2⟩
  ·rename_i o hp;rw [hp];unfold vv;simp only;split at e
   ·rename_i hr;obtain ⟨g1,g2⟩:=za4 e;rw [hr];exact ⟨⟨rfl,g1⟩,g2⟩
   ·rename_i hr;obtain ⟨q1,q2⟩:=zlG e;obtain ⟨g1,g2⟩:=za4 q2;rw [hr];exact ⟨⟨q1,g1⟩,g2⟩
theorem zcb {fr:AFrame}{h:AHeap}{v:AV}{K:AFrame→Prop}(e:ztx P fr h v K):∃ a,z7 P fr h v=some a∧K a:=by
 unfold ztx at e;split at e
 ·rename_i all i l dn k htodo;split at e
  ·exact e.elim
  ·rename_i o ho;unfold z7;rw [htodo];simp only [ho];unfold zlb at e;unfold zdc;split at e
   ·exact e.elim
   ·rename_i t ht;rw [ht];obtain ⟨fn,n,t0,td,ds,mode,kind,round⟩:=fr;simp only at e ⊢;split at e
    ·rename_i hf;rw [hf];exact ⟨_,rfl,e⟩
    ·rename_i hf;obtain ⟨g1,g2⟩:=za4 e;rw [hf,g1];exact ⟨_,rfl,g2⟩
 ·exact xY e
theorem zc1 [XT P] [XTOk P] {fr:AFrame}{rest:List AFrame}{heap:AHeap}{r:AR}{K:AM→Prop}(e:zmS P fr rest heap r K):∃ m,zmQ P fr rest heap r=some m∧K m:=by
 unfold zmS at e;split at e
 ·obtain ⟨a,h1,h2⟩:=zcb e;exact ⟨_,by simp only [zmQ,h1,zaN],h2⟩
 ·obtain ⟨a,h1,h2⟩:=zcb e;exact ⟨_,by simp only [zmQ,h1,zaN],h2⟩
 ·exact xY e
theorem ztt {h:AHeap}{t:TypeId}{O:T AObj}{p v:AV}{r:AR}{q:Prop}(e:stG P h t O p v=some (r,q))(hq:q):zcE (kG P h t p v)=some r:=by
 unfold stG at e;split at e;rotate_left
 ·cases e
 unfold kG;simp only;split at e
 ·cases e
 rename_i i hi;simp only [hi];cases e;obtain ⟨h1,h2⟩:=hq;rw [if_pos (Nat.eq_of_beq_eq_true h1),h2];rfl
theorem zmV {ρ:Operand→Option AV}{h:AHeap}{v:AV}{O:T AObj}{n:Nat}{o:Op}{r:AR}{p:Prop}(e:zqZ P ρ h v O n o=some (r,p))(hp:p):opA P ρ h o=some r:=by
 unfold zqZ at e;split at e
 ·rename_i c;split at e
  ·cases e
  rename_i args ha;split at e
  ·rename_i b hb;split at e
   ·rename_i hr;cases e;show xi P ρ h c=_;unfold xi;simp only [ha,hb];unfold yh;simp only [hr,hp];rfl
   rename_i hr;cases e;show xi P ρ h c=_;unfold xi;simp only [ha,hb];unfold yh;simp only [hr,hp]
  ·cases e
 ·split at e
  ·cases e;subst hp;rfl
  ·cases e
 ·rename_i t k parts;split at e
  ·cases e
  rename_i l hl;cases e;show zY P h t k (q9 ρ parts.toList)=_;unfold zY;simp only [hl,hp];rfl
 ·rename_i t l c;split at e
  ·cases e
  rename_i a ha;split at e
  ·cases e
  rename_i b hb;cases e;show two ρ l c (fun a b=>wk (zR P h t a b))=_;unfold two;simp only [ha,hb,hp];rfl
 ·rename_i s d x;split at e
  ·rename_i hd;split at e
   ·cases e
   rename_i a ha;cases e;show y8 ρ x (fun v=>zeZ P h s d v)=_;unfold y8 zeZ;simp only [ha,hd,hp];rfl
  rename_i hd;split at e
  ·cases e
  rename_i a ha;cases e;show y8 ρ x (fun v=>zeZ P h s d v)=_;unfold y8 zeZ;simp only [ha,hd,hp];rfl
 ·rename_i t parts;split at e
  ·cases e
  rename_i l hl;cases e;show kK P t parts ρ h=_;simp only [kK,hl,vE,hp];rfl
 ·rename_i t x ix;split at e
  ·cases e
  rename_i a ha;split at e
  ·cases e
  rename_i b hb;cases e;show xR P t x ix ρ h=_;simp only [xR,two,ha,hb,hp];rfl
 ·rename_i t x;split at e
  ·cases e
  rename_i z hz;split at e
  ·cases e
  rename_i n' hn;cases e;obtain ⟨h1,h2⟩:=hp;rw [Bool.and_eq_true] at h1;show y8 ρ x (fun v=>wk (zjL P h t v))=_;unfold y8;simp only [hz];unfold zjL;rw [if_pos ⟨h1.2,by rw [hn,Nat.eq_of_beq_eq_true h1.1]⟩];subst h2;rfl
 ·rename_i t a x;split at e
  ·cases e
  rename_i q hq;split at e
  ·cases e
  rename_i y hy;show two ρ a x (fun p v=>zcE (kG P h t p v))=some r;unfold two;simp only [hq,hy];exact ztt e hp
 ·cases e
theorem zgo {h:AHeap}{t:T AV}:∀ {rs:List ResultVar} {vs l:List AV} {q:Prop},zsv P h t rs vs=some (l,q)→q→vq P h t rs=some l
 | [],_,_,_,e,_=>by
  unfold zsv at e;cases e;rfl
 | x::r,vs,l,q,e,hq=>by
  unfold zsv at e;split at e
  ·cases e
  rename_i v vs;split at e
  ·cases e
  rename_i l' q' hr;unfold vq;split at e
  ·split at e
   ·cases e
   rename_i u hu;cases e;simp only [hu,zgo hr hq];rfl
  ·split at e
   ·cases e
   rename_i p hp;split at e;rotate_left
   ·cases e
   rename_i u h' p' hl;cases e;have:=zmB hl hq.1;simp only [hp,zgo hr hq.2];unfold yp at this;split at this
   ·cases this
   rename_i u' hu';cases this;unfold zq7;simp only [hu'];rfl
theorem zp8 {ρ:Operand→Option AV}{h:AHeap}{v:AV}{O:T AObj}{o:Op}{r:AR}{p:Prop}(e:hopW P ρ h v O o=some (r,p))(hp:p):opA P ρ h o=some r:=by
 unfold hopW at e;split at e
 ·rename_i t a;split at e
  ·cases e
  rename_i q hq;show y8 ρ a (fun p=>yp h (zaK P h t p))=some r;unfold y8;simp only [hq];exact zmB e hp
 ·rename_i t a x;split at e
  ·cases e
  rename_i q hq;split at e
  ·cases e
  rename_i y hy;show two ρ a x (fun p v=>zcE (kG P h t p v))=some r;unfold two;simp only [hq,hy];exact zse e hp
 ·rename_i t;split at e
  ·cases e
  rename_i z hz;show jg P h t (qj P t)=some r;unfold jg;simp only [hz];exact zoc e hp
 ·rename_i t x;split at e
  ·cases e
  rename_i z hz;show y8 ρ x (fun v=>wk (zjL P h t v))=some r;unfold y8;simp only [hz];exact zoc e hp
 ·rename_i t m k ok;split at e
  ·cases e
  rename_i a ha;split at e
  ·cases e
  rename_i b hb;cases e;show two ρ m k (fun a b=>yp h (zbw P h t a b ok))=_;unfold two;simp only [ha,hb,hp];rfl
 ·rename_i t m k x;split at e
  ·cases e
  rename_i a ha;split at e
  ·cases e
  rename_i b hb;split at e
  ·cases e
  rename_i c hc;cases e;show yl P ρ h t m k x=_;unfold yl;simp only [ha,hb,hc,hp];rfl
 ·rename_i op t x y u;split at e
  ·cases e
  rename_i a ha;split at e
  ·cases e
  rename_i b hb;cases e;show two ρ x y (fun a b=>yp h (qq P h op t (xn x || xn y) a b))=_;unfold two;simp only [ha,hb,hp];rfl
 ·rename_i x;split at e
  ·cases e
  rename_i a ha;cases e;show yp h (ρ x)=_;rw [ha];rfl
 ·rename_i t x lo hi mx;split at e
  ·cases e
  rename_i a ha;split at e
  ·cases e
  rename_i l hl;split at e
  ·cases e
  rename_i hh hhh;split at e
  ·cases e
  rename_i m hm;cases e;show yp h (wC P ρ h t x lo hi mx)=_;unfold wC;simp only [ha,hl,hhh,hm,hp];rfl
 ·rename_i c;split at e
  ·cases e
  rename_i args ha;split at e
  ·rename_i b hb;split at e
   ·cases e
   rename_i hr;cases e;show xi P ρ h c=_;unfold xi;simp only [ha,hb];unfold yh;simp only [hr,hp]
  ·cases e
 ·cases e
theorem Obl.goal [XT P] [XTOk P] (hmix:P.follows .mixedOrders=true){f0:FuncId}{Q:AV→AHeap→Prop}{keep:Nat}{K:AM→Prop}(hK:∀ m,K m→Goal P keep f0 Q m):∀ {l:List Cmd} {m:AM},Obl P f0 Q keep K l m→Goal P keep f0 Q m
 | [],m,e=>hK m e
 | c::r,m,e=>by
  have ih:=fun m (e:Obl P f0 Q keep K r m)=>Obl.goal hmix hK (l:=r) (m:=m) e;cases c with
  | run n =>
   obtain ⟨m',h1,h2⟩:=xY e;exact .runN hmix h1 (ih _ h2)
  | know u b =>
   obtain ⟨⟨fn,n,t,todo,ds,mode,kind,round⟩,rest,h⟩:=m;change Know u b ⟨⟨fn,n,t,todo,ds,mode,kind,round⟩,rest,h⟩ (Obl P f0 Q keep K r) at e;unfold Know at e;simp only at e;split at e
   ·rename_i c hc;obtain ⟨rfl,e⟩:=e;rw [T.set_same' hc] at e;exact ih _ e
   ·exact e.elim
  | op =>
   obtain ⟨fr,rest,h⟩:=m;change OpK P ⟨fr,rest,h⟩ (Obl P f0 Q keep K r) at e;unfold OpK at e;simp only at e;split at e;rotate_left
   ·exact e.elim
   rename_i hm;split at e
   ·exact e.elim
   rename_i all o ho;split at e;rotate_left
   ·exact e.elim
   rename_i hw;split at e
   ·exact e.elim
   rename_i ar p hop;obtain ⟨hp,e⟩:=e;obtain ⟨m',h1,h2⟩:=zeq e;refine .step hmix ?_ (ih _ h2);rw [vj hm ho];simp only [zaz,hw,zsx hop hp,zgM,h1]
  | hop x y =>
   obtain ⟨fr,rest,h⟩:=m;change HopK P x y ⟨fr,rest,h⟩ (Obl P f0 Q keep K r) at e;unfold HopK at e;simp only at e;split at e;rotate_left
   ·exact e.elim
   rename_i hm;split at e
   ·exact e.elim
   rename_i all o ho;split at e;rotate_left
   ·exact e.elim
   rename_i hw;split at e
   ·exact e.elim
   rename_i ar p hop;obtain ⟨hp,e⟩:=e;obtain ⟨m',h1,h2⟩:=zc1 e;refine .step hmix ?_ (ih _ h2);rw [vj hm ho];simp only [zaz,hw,zp8 hop hp,zgM,h1]
  | hopn x y z =>
   obtain ⟨fr,rest,h⟩:=m;change zqH P x y z ⟨fr,rest,h⟩ (Obl P f0 Q keep K r) at e;unfold zqH at e;simp only at e;split at e;rotate_left
   ·exact e.elim
   rename_i hm;split at e
   ·exact e.elim
   rename_i all o ho;split at e;rotate_left
   ·exact e.elim
   rename_i hw;split at e
   ·exact e.elim
   rename_i ar p hop;obtain ⟨hp,e⟩:=e;obtain ⟨m',h1,h2⟩:=zc1 e;refine .step hmix ?_ (ih _ h2);rw [vj hm ho];simp only [zaz,hw,zmV hop hp,zgM,h1]
  | step =>
   obtain ⟨fr,rest,h⟩:=m;change zpO P ⟨fr,rest,h⟩ (Obl P f0 Q keep K r) at e;unfold zpO at e;simp only at e;split at e
   ·rename_i hm;split at e
    ·exact e.elim
    rename_i all o ho;split at e;rotate_left
    ·exact e.elim
    rename_i hw;obtain ⟨ar,hr,e⟩:=xY e;obtain ⟨m',h1,h2⟩:=zeq e;refine .step hmix ?_ (ih _ h2);rw [vj hm ho];simp only [zaz,hw,hr,zgM,h1]
   ·rename_i hm;split at e;rotate_left
    ·exact e.elim
    rename_i hdef;split at e;rotate_left
    ·exact e.elim
    rename_i hkind;split at e
    ·exact e.elim
    rename_i c r';split at e;rotate_left
    ·exact e.elim
    rename_i hcm;obtain ⟨v,hv,e⟩:=xY e;obtain ⟨c',h1,h2⟩:=za6 e;refine .step hmix ?_ (ih _ h2);simp only [kq,hm,zaa,hdef,hv,zd9,hkind,vX,hcm,h1,zaN]
   ·exact e.elim
  | hret vs =>
   obtain ⟨fr,rest,h⟩:=m;change zqB P vs ⟨fr,rest,h⟩ (Obl P f0 Q keep K r) at e;unfold zqB at e;simp only at e;split at e;rotate_left
   ·exact e.elim
   rename_i hm;split at e;rotate_left
   ·exact e.elim
   rename_i hdef;split at e;rotate_left
   ·exact e.elim
   rename_i hkind;split at e
   ·exact e.elim
   rename_i c r';split at e;rotate_left
   ·exact e.elim
   rename_i hcm;split at e
   ·exact e.elim
   rename_i fn hfn;split at e
   ·exact e.elim
   rename_i l q hl;obtain ⟨hq,e⟩:=e;obtain ⟨v,hv,e⟩:=xY e;obtain ⟨c',h1,h2⟩:=zcb e;have hres:zp9 P fr h=some v:=by
    unfold zp9;simp only [hfn,zgo hl hq,hv]
   refine .step hmix ?_ (ih _ h2);simp only [kq,hm,zaa,hdef,hres,zd9,hkind,vX,hcm,h1,zaN]
  | keep us=>exact zjv e ih
  | callv us v=>exact ziS (zi4 e) ih
  | done=>exact zcJ e
end
end Go.Proofs.Ytcdigdplhlgcaaa.Ev
end
section
namespace Go.Proofs.Ytcdigdplhlgcaaa.Ev
open Go Go.ChangeShapes Go.WideShapes
structure Inp where
 there:Bool
 block:Nat
 cells:T AV
 lo:Nat
 n:Nat
def Inp.holds (x:Inp) (w:World):Prop:=x.there=true→∃ cs el fz,w.heap[x.block]?=some (.cells cs el fz)∧x.n≤cs.size∧∀ k v,x.lo≤k→k<x.n→x.cells.get k=some v→∃ y,cs[k]?=some y∧VRel (fun _ _=>none) v y
def Inp.obj (x:Inp):Option AObj:=match x.there with
 | true=>some (.ro x.cells x.lo x.n)
 | false=>none
noncomputable def v8:List Inp→Nat→T AObj→T AObj
 | [],_,t=>t
 | x::r,i,t=>v8 r (i+1) (t.set x.obj i)
noncomputable def vZ (l:List Inp) (G:T (T AV)):AHeap:=⟨v8 l 0 .leaf,l.length,G⟩
def wI (l:List Inp):Bij:=fun i r=>if r=0 then match l[i]? with
 | none=>none
 | some x=>match x.there with
  | true=>some ⟨x.block,0,0⟩
  | false=>none else none
theorem kp:∀ (l:List Inp) (i:Nat) (t:T AObj) (j:Nat),(v8 l i t).get j=if i≤j∧j<i+l.length then (l[j - i]?).bind Inp.obj else t.get j
 | [],i,t,j=>by simp [v8]; omega
 | x::r,i,t,j=>by
  rw [v8,kp r (i+1),T.get_set]
  by_cases h0:j=i
  ·subst h0;rw [if_neg (by omega),if_pos rfl,if_pos (by simp)];simp
  ·by_cases h1:i+1≤j∧j<i+1+r.length
   ·rw [if_pos h1,if_pos (by simp; omega)];rw [show j - i=(j - (i+1))+1 by omega,List.getElem?_cons_succ]
   ·rw [if_neg h1,if_neg h0,if_neg (by simp; omega)]
def Env.inp (w:World) (l:List Inp):Env:={ Env.of w with rob:=fun b=>∃ x∈l,x.block=b }
def Base.inp (w:World) (l:List Inp):Base:=⟨Env.inp w l,fun i=>i<l.length,fun _=>none,fun _=>(0,0)⟩
theorem HRel.inp {P:Program}{G:T (T AV)}{w:World}{l:List Inp}(hG:znE G w)(hl:∀ x∈l,x.holds w):HRel P (Base.inp w l) (wI l) (vZ l G) w:=by
 have hR:∀ {i r L},wI l i r=some L→r=0∧∃ x,l[i]?=some x∧L=⟨x.block,0,0⟩∧i<l.length∧x.there=true:=by
  intro i r L e;unfold wI at e;split at e
  ·rename_i hr;split at e
   ·cases e
   ·rename_i x hx;split at e
    ·rename_i ht; cases e; exact ⟨hr,x,hx,rfl,(List.getElem?_eq_some_iff.1 hx).1,ht⟩
    ·cases e
  ·cases e
 have hget:∀ {i o},(vZ l G).get i=some o→∃ x,l[i]?=some x∧o=.ro x.cells x.lo x.n∧x.there=true:=by
  intro i o e;change (v8 l 0 .leaf).get i=some o at e;rw [kp] at e;split at e
  ·rw [Nat.sub_zero] at e;cases hx:l[i]? with
   | none=>rw [hx] at e; cases e
   | some x =>
    rw [hx] at e;change x.obj=some o at e;unfold Inp.obj at e;split at e
    ·rename_i ht; cases e; exact ⟨x,rfl,rfl,ht⟩
    ·cases e
  ·cases e
 exact {
  fresh:=fun i hi r=>by
   cases h:wI l i r with
   | none=>rfl
   | some L =>
    obtain ⟨_,x,_,_,h1,_⟩:=hR h;exact absurd h1 (Nat.not_lt.2 hi)
  obj:=fun i o e _=>by
   obtain ⟨x,hx,rfl,ht⟩:=hget e;obtain ⟨cs,el,fz,h1,h2,h3⟩:=hl x (List.mem_of_getElem? hx) ht;exact ⟨⟨x.block,0,0⟩,cs,el,fz,by simp [wI,hx,ht],rfl,h1,h2,h3⟩
  pend:=fun i o e=>by cases e
  place:=fun i r L e=>by
   obtain ⟨_,x,hx,rfl,h1,ht⟩:=hR e;obtain ⟨cs,el,fz,h2,_⟩:=hl x (List.mem_of_getElem? hx) ht;exact ⟨.inr h1,xJ h2⟩
  rd:=fun i hi=>⟨hi,fun o e=>by obtain ⟨x,_,rfl,_⟩:=hget e; rfl⟩
  low:=fun b _=>rfl
  rp:=fun i _=>rfl
  rol:=fun i r L _ e=>by
   obtain ⟨_,x,hx,rfl,_⟩:=hR e;exact ⟨x,List.mem_of_getElem? hx,rfl⟩
  pin:=fun i r L e=>by cases e
  apart:=fun i r i' r' L L' e e' _ hor=>by
   obtain ⟨_,_,_,_,h1,_⟩:=hR e;obtain ⟨_,_,_,_,h2,_⟩:=hR e';rcases hor with h | h
   ·exact absurd h1 h
   ·exact absurd h2 h
  same:=fun i r r' L L' e e' _=>by
   obtain ⟨_,x,hx,rfl,_⟩:=hR e;obtain ⟨_,x',hx',rfl,_⟩:=hR e';rfl
  glob:=fun g c e=>⟨fun hm=>hm.elim (fun hl=>absurd (hG g c e).1 (Nat.not_lt.2 hl)) id,(hG g c e).2⟩ }
theorem zmi {P:Program}{G:T (T AV)}{l:List Inp}{f:FuncId}{args:List AV}{vs:List Value}{a:AFrame}(ha:jy P f args .normal=some a){w:World}(hG:znE G w)(hl:∀ x∈l,x.holds w)
 (hv:VRels (wI l) args vs) (k:Goal P 0 f (fun v _=>v=.bool true) ⟨a,[],vZ l G⟩):Calls P f vs.toArray w fun r w'=>r=.returned (.bool true)∧Old w w':=by
 intro cs;have hs:Sim P (Env.inp w l) cs ⟨a,[],vZ l G⟩ (Frame.enter P f vs.toArray .normal) cs w :=
  ⟨Base.inp w l,wI l,[],rfl,rfl,.inp hG hl,.start w,jD ha hv (.inl rfl),rfl⟩
 obtain ⟨fr',w',B,R,v,v',h',s1,s2,s3,s4,s5,s6,s7,rfl⟩:=k (Env.inp w l) cs _ _ _ (fun i r L e=>by cases e) hs;cases s4;exact ⟨.returned (.bool true),w',fr',⟨rfl,(s7.all s5 s6).old fun _ e=>e⟩,s1,s3,s2⟩
theorem zpJ {w:World}{a:Addr}{n:Nat}{f:Nat→Value}{g:Nat→AV}(h:∀ i,i<n→w.cell? (a.add i)=some (f i))(hfg:∀ i,i<n→VRel (fun _ _=>none) (g i) (f i))(hp:0<n) :
 ∃ b off,a=⟨b,off,none⟩∧(Inp.mk true b (.fn fun j=>some (g (j - off))) off (off+n)).holds w:=by
 obtain ⟨b,off,spot⟩:=a;have hspot:spot=none:=by simpa [Addr.add] using World.cell?_spot (h 0 hp)
 subst hspot;have hc:∀ i,i<n→w.cell? ⟨b,off+i,none⟩=some (f i):=fun i hi=>by rw [← Go.WideShapes.add_plain]; exact h i hi
 have h0:=hc 0 hp;cases hb:w.heap[b]? with
 | none=>rw [World.cell?] at h0; simp [hb] at h0
 | some o =>
  cases o with
  | cells cs el fz =>
   have hcell:∀ i,i<n→cs[off+i]?=some (f i):=fun i hi=>by
    have:=hc i hi
    rwa [cell?_row w b _ hb] at this
   refine ⟨b,off,rfl,fun _=>⟨cs,el,fz,hb,?_,fun k v h1 h2 e=>?_⟩⟩
   ·have:=(Array.getElem?_eq_some_iff.1 (hcell (n - 1) (by omega))).1;show off+n≤cs.size;omega
   ·cases e;have hk:k - off<n:=by
     have:k<off+n:=h2;omega
    have:=hcell (k - off) hk;rw [show off+(k - off)=k by have:off≤k:=h1; omega] at this;exact ⟨_,this,hfg _ hk⟩
  | _=>simp [World.cell?,hb] at h0
theorem in_ints {H:Type}{enc:TypeId × Value→H}{P:Program}{w:World}{b0:Nat}{t e:TypeId}{k:IntKind}{v:Value}{d:DataW H}{ps:List MemPlace}(ht:P.underlying t=some (.slice e))(he:P.underlying e=some (.int k))(hc:P.cellsOf e=1)
 (hv:Value.okWide P w .any b0 t v) (h:DataW.Trod enc P w 0 (fun _=>true) true t v d ps) :
 v=.slice none 0 0∨∃ (a:Addr) (len cap:Nat) (zs:List Int),v=.slice (some a) len cap∧len≤cap∧cap≤maxLen∧zs.length=cap∧(∀ i,i<zs.length→w.cell? (a.add i)=some (.int k (zs.getD i 0)))∧(∀ n∈zs,(Lit.int k n).wf=true):=by
 obtain ⟨a,l,c,rfl⟩:=okWide_slice ht hv;obtain ⟨fuel,h⟩:=h;rcases open_ints ht he hc h with ⟨hcs,_⟩ | ⟨a,len,cap,zs,hcs,_,hl,hm,hz,_,hc,hwf⟩
 ·simp only [Value.cells,List.cons.injEq,and_true] at hcs;exact .inl hcs
 ·simp only [Value.cells,List.cons.injEq,and_true] at hcs;exact .inr ⟨a,len,cap,zs,hcs,hl,hm,by simpa using hz,hc,hwf⟩
theorem in_strings {H:Type}{enc:TypeId × Value→H}{P:Program}{w:World}{b0:Nat}{t e:TypeId}{v:Value}{d:DataW H}{ps:List MemPlace}(ht:P.underlying t=some (.slice e))(he:P.underlying e=some .string)(hc:P.cellsOf e=1)
 (hv:Value.okWide P w .any b0 t v) (h:DataW.Trod enc P w 0 (fun _=>true) true t v d ps) :
 v=.slice none 0 0∨∃ (a:Addr) (len cap:Nat) (zs:List ByteArray),v=.slice (some a) len cap∧len≤cap∧cap≤maxLen∧zs.length=cap∧(∀ i,i<zs.length→w.cell? (a.add i)=some (.string (zs.getD i .empty)))∧(∀ s∈zs,s.size≤maxLen):=by
 obtain ⟨a,l,c,rfl⟩:=okWide_slice ht hv;obtain ⟨fuel,h⟩:=h;rcases open_strings ht he hc h with ⟨hcs,_⟩ | ⟨a,len,cap,zs,hcs,_,hl,hm,hz,_,hc,hwf⟩
 ·simp only [Value.cells,List.cons.injEq,and_true] at hcs;exact .inl hcs
 ·simp only [Value.cells,List.cons.injEq,and_true] at hcs;exact .inr ⟨a,len,cap,zs,hcs,hl,hm,by simpa using hz,hc,hwf⟩
theorem jp {H:Type}{enc:TypeId × Value→H}{P:Program}(hl:laidOutB P=true){W W':World}(hb:∀ b,b<W.heap.size→W'.heap[b]?=W.heap[b]?){sp:Nat→Bool} :
 ∀ {ts:List TypeId} {vs:List Value} {ds:List (DataW H)} {ps:List MemPlace},(ts.all fun t=>P.readableRec t&&decide (t<P.types.size))=true→DataW.TrodAll enc P W 0 (fun _=>true) true ts vs ds ps →
  (∀ x∈ps,x.block<W.heap.size)→(∀ x∈ps,sp x.block=true)→DataW.TrodAll enc P W' 0 sp true ts vs ds ps
 | [],vs,ds,ps,_,h,_,_=>by
  obtain ⟨rfl,rfl,rfl⟩:=trodAll_nil h;exact trodAll_mk0
 | t::ts,vs,ds,ps,ht,h,hlt,hsp=>by
  obtain ⟨v,vs',d,ds',p,q,rfl,rfl,rfl,h1,h2⟩:=trodAll_cons h;simp only [List.all_cons,Bool.and_eq_true,decide_eq_true_eq] at ht;have hs:∀ x∈p,W.sameAt W' x:=fun x hx=>by
   have:=hlt x (List.mem_append_left _ hx);cases x with
   | cell b o=>exact World.cell?_of_block (w:=W) (hb b this)
   | map b=>exact hb b this
  exact trodAll_cons_mk (WideElems.Trod_stays hl ht.1.1 ht.1.2 h1 hs (fun x hx=>hsp x (List.mem_append_left _ hx)))
   (jp hl hb (by simpa using ht.2) h2 (fun x hx=>hlt x (List.mem_append_right _ hx)) (fun x hx=>hsp x (List.mem_append_right _ hx)))
theorem post_law {H:Type}{enc:TypeId × Value→H}{P:Program}{f:Func}{s:ChangeSpec}{apart fresh handsOn again:Bool}{W W':World}{args:Array Value}{ds gs:List (DataW H)}{before:List MemPlace}{tb:TypeId}
 (hl:laidOutB P=true) (ht:(f.params.toList.all fun t=>P.readableRec t&&decide (t<P.types.size))=true) (hr:f.resultTypes=#[tb]) (hbool:P.underlying tb=some .bool) (hvars:s.vars=[])
 (hW:DataW.Whole enc P f.params.toList s.vars apart W args.toList ds gs before) (hfn:s.fn H (ds++gs)={ results:=[.lit (.bool true)],args:=ds }) (k:Old W W') :
 s.post enc P f apart fresh handsOn again W args (.bool true) W':=by
 have hlt:=hW.lt;have hW':=hW;obtain ⟨p,q,hA,hV,hpq,hz,hn⟩:=hW;rw [hvars] at hV;have hgq:gs=[]∧q=[]:=by
  cases gs with
  | nil=>exact ⟨rfl,hV⟩
  | cons g r=>exact hV.elim
 obtain ⟨rfl,rfl⟩:=hgq;rw [List.append_nil] at hpq;subst hpq;have hargs:∀ sp:Nat→Bool,(∀ x∈before,sp x.block=true)→DataW.TrodAll enc P W' 0 sp true f.params.toList args.toList ds before:=fun sp hsp=>jp hl k.other ht hA hlt hsp;have hres:∀ (b:Nat) (sp:Nat→Bool) (hd:Bool),DataW.TrodAll enc P W' b sp hd f.resultTypes.toList ((Value.bool true).resultList f.resultTypes.size) [.lit (.bool true)] []:=fun b sp hd=>by
  rw [hr];exact trodAll_cons_mk (RowKit.shut_bool hbool true) trodAll_mk0
 have hold:∀ x∈before,(fun b=>decide (b<W.heap.size)) x.block=true:=fun x hx=>by simpa using hlt x hx
 refine ⟨ds,[],before,[],before,[],hW',?_,?_,?_,k.kept _,fun _=>?_⟩
 ·rw [hfn]; exact hres _ _ _
 ·rw [hfn]; exact hargs _ hold
 ·rw [hvars,hfn]; rfl
 ·refine ⟨RowKit.ok_one hr rfl (RowKit.okWide_bool_mk hbool true),[.lit (.bool true)]++ds,[],([]++before)++[],⟨[]++before,[],trodAll_append (hargs _ (fun _ _=>rfl)) (hres _ _ _),by rw [hvars]; rfl,rfl,?_,?_⟩,?_⟩
  ·intro b off hp;simp only [List.nil_append,List.append_nil] at hp;have hb:b<W.heap.size:=hlt _ hp;have:=hz b off hp;simp only [World.frozen?,k.other b hb] at this ⊢;exact this
  ·intro ha;simpa using hn ha
  ·intro x hx _;simpa using hx
end Go.Proofs.Ytcdigdplhlgcaaa.Ev
end
section
set_option maxRecDepth 100000
namespace Go.Proofs.Ytcdigdplhlgcaaa.Ev
open Go
def Row (O:T AObj) (id n:Nat) (f:Nat→AV):Prop:=∃ c el,O.get id=some (.cells c n el 0 0 1 0 false .leaf)∧∀ k,k<n→c.get k=some (f k)
def Frm (O O':T AObj) (id:Nat):Prop:=∀ j,j≠id→O'.get j=O.get j
def upd (f:Nat→AV) (off:Nat) (vs:List AV) (k:Nat):AV:=if off≤k∧k<off+vs.length then vs.getD (k - off) xE else f k
variable {O O':T AObj} {N id n off:Nat} {G:T (T AV)} {f:Nat→AV}
theorem Row.same (h:Row O id n f)(e:O'.get id=O.get id):Row O' id n f:=by
 obtain ⟨c,el,h1,h2⟩:=h;exact ⟨c,el,e.trans h1,h2⟩
theorem Row.fr {i:Nat}(h:Row O id n f)(e:Frm O O' i)(hi:id≠i):Row O' id n f:=h.same (e id hi)
theorem Row.to {g:Nat→AV}(h:Row O id n f)(e:∀ k,k<n→f k=g k):Row O id n g:=by
 obtain ⟨c,el,h1,h2⟩:=h;exact ⟨c,el,h1,fun k hk=>by rw [h2 k hk,e k hk]⟩
theorem znJ {c:T AV}{el:TypeId}(h:O.get id=some (.cells c n el 0 0 1 0 false .leaf)){k:Nat}{l:List AV}(hk:off+k≤n)(hl:zV c off k=some l):zb ⟨O,N,G⟩ id 0 off k=some l:=by
 unfold zb;show (match O.get id with | some (.cells c n _ lo hi _ _ _ ex)=>_ | some (.ro c lo n)=>_ | _=>_)=_
 rw [h];show (if 0≤0∧0≤0∧off+k≤n then zV c off k else none)=_
 rw [if_pos ⟨Nat.le_refl _,Nat.le_refl _,hk⟩,hl]
theorem Row.load1 (h:Row O id n f)(hk:off+1≤n):zb ⟨O,N,G⟩ id 0 off 1=some [f off]:=by
 obtain ⟨c,el,h1,h2⟩:=h;refine znJ h1 hk ?_;show (match c.get (off+0) with | none=>none | some v=>some [v])=_
 rw [h2 (off+0) (by omega)];rfl
theorem Row.store (h:Row O id n f)(N:Nat)(G:T (T AV)){vs:List AV}(hv:vs.all AV.one=true)(ho:off+vs.length≤n) :
 ∃ O',zc ⟨O,N,G⟩ id 0 off vs=some ⟨O',N,G⟩∧Row O' id n (upd f off vs)∧Frm O O' id:=by
 obtain ⟨c,el,h1,h2⟩:=h;refine ⟨O.set (some (.cells (zd c off vs) n el 0 0 1 0 false .leaf)) id,?_,⟨zd c off vs,el,?_,fun k hk=>?_⟩,fun j hj=>?_⟩
 ·unfold zc;show (match O.get id with | some (.cells c n el lo hi nv fz sg ex)=>_ | _=>_)=_
  rw [h1];show (if 0≤0∧0≤0∧off+vs.length≤n∧0≤off∧vs.all AV.one=true then (zd c off vs).seq fun c=>some (AHeap.put ⟨O,N,G⟩ id (.cells c n el 0 0 1 0 false .leaf)) else none)=_
  rw [if_pos ⟨Nat.le_refl _,Nat.le_refl _,ho,Nat.zero_le _,hv⟩,T.seq_eq];rfl
 ·rw [T.get_set,if_pos rfl]
 ·rw [zk];unfold upd;split
  ·rename_i hk';rw [List.getD_eq_getElem?_getD];rw [List.getElem?_eq_getElem (by omega)];rfl
  ·exact h2 k hk
 ·rw [T.get_set,if_neg hj]
theorem Row.mk {c:T AV}{el:TypeId}(O:T AObj)(N:Nat)(hc:∀ k,k<n→c.get k=some (f k)):∃ O',T.set (some (.cells c n el 0 0 1 0 false .leaf)) O N=O'∧Row O' N n f∧Frm O O' N :=
 ⟨_,rfl,⟨c,el,by rw [T.get_set,if_pos rfl],hc⟩,fun j hj=>by rw [T.get_set,if_neg hj]⟩
def q4 (a b c d:AV):Nat→AV
 | 0=>a
 | 1=>b
 | 2=>c
 | _=>d
theorem ztu {vs:List AV}{u:Nat}(hu:u<vs.length):upd f off vs (off+u)=vs.getD u xE:=by
 unfold upd;rw [if_pos (by omega),Nat.add_sub_cancel_left]
theorem zqo {vs:List AV}{k:Nat}(h:k<off∨off+vs.length≤k):upd f off vs k=f k:=by
 unfold upd;rw [if_neg (by omega)]
end Go.Proofs.Ytcdigdplhlgcaaa.Ev
end
section
set_option maxRecDepth 100000
set_option linter.unusedVariables false
namespace Go.Proofs.Ytcdigdplhlgcaaa.Ev
open Go
def Cell (O:T AObj) (id k:Nat) (v:AV):Prop:=∃ n f,Row O id n f∧k<n∧f k=v
variable {O O':T AObj} {id k:Nat} {v w:AV}
theorem Cell.same (h:Cell O id k v)(e:O'.get id=O.get id):Cell O' id k v:=by
 obtain ⟨n,f,h1,h2,h3⟩:=h;exact ⟨n,f,h1.same e,h2,h3⟩
theorem Cell.load (h:Cell O id k v)(N:Nat)(G:T (T AV)):zb ⟨O,N,G⟩ id 0 k 1=some [v]:=by
 obtain ⟨n,f,h1,h2,h3⟩:=h;rw [h1.load1 (by omega),h3]
theorem Row.cell {n:Nat}{f:Nat→AV}(h:Row O id n f)(hk:k<n):Cell O id k (f k):=⟨n,f,h,hk,rfl⟩
def But (O O':T AObj) (id k:Nat):Prop:=(∀ i j u,(i≠id∨j≠k)→Cell O i j u→Cell O' i j u)∧Frm O O' id
theorem Cell.store (h:Cell O id k w)(hv:AV.one v=true)(N:Nat)(G:T (T AV)):∃ O',zc ⟨O,N,G⟩ id 0 k [v]=some ⟨O',N,G⟩∧Cell O' id k v∧But O O' id k:=by
 obtain ⟨n,f,h1,h2,h3⟩:=h;obtain ⟨O',e,r,fr⟩:=h1.store N G (off:=k) (vs:=[v]) (by simp [hv]) (by show k+1≤n; omega);refine ⟨O',e,⟨n,_,r,h2,?_⟩,fun i j u hne hc=>?_,fr⟩
 ·exact (ztu (f:=f) (off:=k) (vs:=[v]) (u:=0) Nat.zero_lt_one)
 ·by_cases hi:i=id
  ·subst hi;obtain ⟨n',f',g1,g2,g3⟩:=hc;obtain ⟨c,el,q1,q2⟩:=h1;obtain ⟨c',el',q3,q4⟩:=g1;rw [q1] at q3;cases q3;refine ⟨n,_,r,g2,?_⟩;rw [zqo (by show _∨k+1≤j; omega)];have a:=q2 j g2;have b:=q4 j g2;rw [a] at b;rw [Option.some.inj b,g3]
  ·exact hc.same (fr i hi)
abbrev zm2:=Nat × Nat
def pt (x:zm2):AV:=.ptr x.1 0 x.2
def Lk (O:T AObj):List zm2→Prop
 | []=>True
 | a::r=>(match r with
  | []=>True
  | b::_=>Cell O a.1 (a.2+1) (pt b)∧Cell O b.1 b.2 (pt a))∧Lk O r
theorem Lk.two {a b:zm2}{r:List zm2}:Lk O (a::b::r) ↔ (Cell O a.1 (a.2+1) (pt b)∧Cell O b.1 b.2 (pt a))∧Lk O (b::r):=Iff.rfl
theorem Lk.one (a:zm2):Lk O [a]:=⟨trivial,trivial⟩
theorem Lk.app:∀ {u:List zm2} {a:zm2} {v:List zm2},Lk O (u++a::v) ↔ Lk O (u++[a])∧Lk O (a::v)
 | [],a,v=>⟨fun h=>⟨Lk.one a,h⟩,fun h=>h.2⟩
 | [x],a,v=>by
  show Lk O (x::a::v) ↔ Lk O (x::a::[])∧_;rw [Lk.two,Lk.two];exact ⟨fun h=>⟨⟨h.1,Lk.one a⟩,h.2⟩,fun h=>⟨h.1.1,h.2⟩⟩
 | x::y::u,a,v=>by
  show Lk O (x::y::(u++a::v)) ↔ Lk O (x::y::(u++[a]))∧_;rw [Lk.two,Lk.two];have ih:=Lk.app (u:=y::u) (a:=a) (v:=v);simp only [List.cons_append] at ih;rw [ih];exact ⟨fun h=>⟨⟨h.1,h.2.1⟩,h.2.2⟩,fun h=>⟨h.1.1,h.1.2,h.2⟩⟩
theorem Lk.mono:∀ {L:List zm2},(∀ x∈L.dropLast,∀ u,Cell O x.1 (x.2+1) u→Cell O' x.1 (x.2+1) u)→(∀ x∈L.tail,∀ u,Cell O x.1 x.2 u→Cell O' x.1 x.2 u)→Lk O L→Lk O' L
 | [],_,_,_=>trivial
 | [a],_,_,_=>Lk.one a
 | a::b::r,h1,h2,h=>by
  rw [Lk.two] at h ⊢;refine ⟨⟨h1 a (by simp) _ h.1.1,h2 b (by simp) _ h.1.2⟩,Lk.mono (fun x hx=>h1 x (by simp only [List.dropLast_cons_cons,List.mem_cons]; exact .inr hx)) (fun x hx=>h2 x ?_) h.2⟩;simp only [List.tail_cons] at hx ⊢;exact List.mem_cons_of_mem _ hx
end Go.Proofs.Ytcdigdplhlgcaaa.Ev
end
