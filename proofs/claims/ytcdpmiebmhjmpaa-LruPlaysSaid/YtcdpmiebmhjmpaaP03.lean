import Derived.WalkKit
import Derived.ProofKit
import Derived.OpenShut
import Derived.Test.YtcdpmiebmhjmpaaP00
import Derived.Test.YtcdpmiebmhjmpaaP01
import Derived.Test.YtcdpmiebmhjmpaaP02
section
namespace Go.Proofs.Ytcdpmiebmhjmpaa.Ev
open Go
section
variable {P:Program} {w0:Env} {base:List Frame} {B:Base} {R:Bij} {af:AFrame} {rest:List AFrame} {h:AHeap} {fr:Frame} {fs:List Frame} {w:World}
theorem Plain.ends (k:Plain P w0 base B R af rest h fr fs w)(hs:Slots R af.tmps fr.tmps){m:AM}(e:(some ⟨af.withMode .returning,rest,h⟩:Option AM)=some m)
 (hst:step P (lone fr (fs++base) w)=.next (lone { fr with mode:=.returning } (fs++base) w)):zbm P w0 base m fr (fs++base) w:=by
 cases e
 refine ⟨_,_,_,.one hst,B,R,fs,rfl,k.base,k.heap,k.old,?_,k.below⟩
 obtain ⟨k1,k2,k3,k4,k5,k6,k7,k8,k9⟩:=k.top
 obtain ⟨fn,n,t,td,ds,mode,kind,round⟩:=af
 exact ⟨k1,k2,k3,k4,k5,k6,rfl,k8,hs⟩
theorem zh4 (hmix:P.follows .mixedOrders=true)(k:Plain P w0 base B R af rest h fr fs w)(hs:Slots R af.tmps fr.tmps){c:Code}{kk:List AItem}{kk':List Item}(hfr:fr.todo=.code c::kk')(hk:All2 (ItemRel R) kk kk')
 {m:AM} (e:zkH P af rest h c kk=some m):zbm P w0 base m fr (fs++base) w:=by
 have hm:=ziZ k
 have cons:∀ {a:AItem} {b:Item} {as:List AItem} {bs:List Item},ItemRel R a b→All2 (ItemRel R) as bs→All2 (ItemRel R) (a::as) (b::bs):=fun h1 h2=>⟨_,_,rfl,h1,h2⟩
 have hround:=k.top.round
 have leave:∀ {jump:Option Code},wo P af rest h jump=some m →
  (fr.roundOf=none→(jump=none∨jump=some .ret)→(stepG P true { frame:=fr,callers:=fs++base,status:=.running,dying:=none } w).bare=.go { frame:={ fr with mode:=.returning },callers:=fs++base,status:=.running,dying:=none } w) →
  (∀ l,fr.roundOf=some l→(stepG P true { frame:=fr,callers:=fs++base,status:=.running,dying:=none } w).bare=(match (Instr.endRound l jump).run P w with
   | .ok v w=>(doReturn P true fr (fs++base) none v w).bare
   | .halt _ w => (GStep.ended (.stuck "range over a function: no such loop" (fr.pos P)) w).bare)) → zbm P w0 base m fr (fs ++ base) w := by
  intro jump e h1 h2
  unfold wo at e
  split at e
  · rename_i hr
    rw [hr] at hround
    split at e
    · exact k.ends hs e (step_lone_go (h1 hround (.inl rfl)))
    · exact k.ends hs e (step_lone_go (h1 hround (.inr rfl)))
    · cases e
  · rename_i l hr
    exact wq k hr e h2
 cases c with
 | skip=>exact k.to hs hk e (step_lone_go (by simp [stepG,stepG.exec,hm,hfr]))
 | label l=>exact k.to hs hk e (step_lone_go (by simp [stepG,stepG.exec,hm,hfr]))
 | seq a b=>exact k.to (todo:=.code a::.code b::kk) (todo':=.code a::.code b::kk') hs (cons rfl (cons rfl hk)) e (step_lone_go (by simp [stepG,stepG.exec,hm,hfr]))
 | cond c a b =>
  change zix af rest h a b kk (ev af.tmps c)=some m at e
  unfold zix at e
  split at e
  · rename_i t hc
    have hv:fr.eval c=.bool t:=wG (R:=R) (fun u _ hu=>hs u _ hu) hc
    cases t with
    | true=>exact k.to (todo:=.code a::kk) (todo':=.code a::kk') hs (cons rfl hk) e (step_lone_go (by simp [stepG,stepG.exec,hm,hfr,hv]))
    | false=>exact k.to (todo:=.code b::kk) (todo':=.code b::kk') hs (cons rfl hk) e (step_lone_go (by simp [stepG,stepG.exec,hm,hfr,hv]))
  · cases e
 | block id b=>exact k.to (todo:=.code b::.inBlock id::kk) (todo':=.code b::.inBlock id::kk') hs (cons rfl (cons rfl hk)) e (step_lone_go (by simp [stepG,stepG.exec,hm,hfr]))
 | loop b=>exact k.to (todo:=.code b::.inLoop b::kk) (todo':=.code b::.inLoop b::kk') hs (cons rfl (cons rfl hk)) e (step_lone_go (by simp [stepG,stepG.exec,hm,hfr]))
 | scope b=>exact k.to (todo:=.code b::.inScope b::kk) (todo':=.code b::.inScope b::kk') hs (cons rfl (cons rfl hk)) e (step_lone_go (by simp [stepG,stepG.exec,hm,hfr]))
 | ret =>
  change wo P af rest h (some .ret)=some m at e
  refine leave e (fun hr _=>by simp [stepG,stepG.exec,hm,hfr,hr]) fun l hr=>?_
  simp only [stepG,stepG.exec,hm,hfr,hr,Sem.runT_eq]
  cases (Instr.endRound l (some .ret)).run P w <;> simp
 | exit id =>
  change (match zcv id kk with | some k=>toA af rest h k | none=>wo P af rest h (some (.exit id)))=some m at e
  obtain ⟨x1,x2⟩:=zeX (id:=id) hk
  cases hx:zcv id kk with
  | some q =>
   rw [hx] at e
   obtain ⟨q',g1,g2⟩:=x1 q hx
   exact k.to hs g2 e (step_lone_go (by simp [stepG,stepG.exec,hm,hfr,g1]))
  | none =>
   rw [hx] at e
   have g:=x2 hx
   refine leave e (fun hr hj=>by rcases hj with hj | hj <;> cases hj) fun l hr=>?_
   simp only [stepG,stepG.exec,hm,hfr,hr,Sem.runT_eq,g,Option.elim_none]
   cases (Instr.endRound l (some (.exit id))).run P w <;> simp
 | goto l =>
  change (match zcn l kk with | some k=>toA af rest h k | none=>wo P af rest h (some (.goto l)))=some m at e
  obtain ⟨x1,x2⟩:=zeS (l:=l) hk
  cases hx:zcn l kk with
  | some q =>
   rw [hx] at e
   obtain ⟨q',g1,g2⟩:=x1 q hx
   exact k.to hs g2 e (step_lone_go (by simp [stepG,stepG.exec,hm,hfr,g1]))
  | none =>
   rw [hx] at e
   have g:=x2 hx
   refine leave e (fun hr hj=>by rcases hj with hj | hj <;> cases hj) fun l' hr=>?_
   simp only [stepG,stepG.exec,hm,hfr,hr,Sem.runT_eq,g,Option.elim_none]
   cases (Instr.endRound l' (some (.goto l))).run P w <;> simp
 | region id ops draw =>
  change zg7 P af rest h ops draw kk=some m at e
  cases draw with
  | false =>
   refine k.to (todo:=.ops ops.toList ops.toList::kk) (todo':=.inRegion ops (List.range ops.size)::kk') hs (cons ⟨ops,_,rfl,rfl,?_⟩ hk) e (step_lone_go (by simp [stepG,stepG.exec,hm,hfr]))
   apply List.ext_getElem?
   intro i
   simp only [List.getElem?_map]
   by_cases hi:i<ops.size
   · rw [List.getElem?_range hi]; simp [hi]
   · rw [List.getElem?_eq_none (by simpa using hi),List.getElem?_eq_none (by simpa using hi)]; rfl
  | true =>
   change (match ze0 P ops.toList (zx P ops.toList) with | false=>none | true=>toA af rest h (.drw ops (zx P ops.toList).ord []::kk))=some m at e
   split at e
   · cases e
   · rename_i hp
     cases e
     have pi:=zfP hp
     obtain ⟨g1,g2⟩:=zav pi (w.tape w.drawn (.order fr.fn id))
     refine ⟨_,_,_,.one (step_lone_go (fr':={ fr with todo:=.inRegion ops (Region.linearise .any ops (w.tape w.drawn (.order fr.fn id)))::kk' }) (cs':=fs++base) (w':=w.drew) ?_),B,R,fs,rfl,k.base,k.heap.heap_eq rfl,⟨k.old.os,k.old.tape,k.old.output,k.old.size,Nat.le_succ_of_le k.old.drawn⟩,?_,k.below⟩
     · simp [stepG,stepG.exec,hm,hfr,choose,Sem.run,Question.forced,Question.cut,Region.schedule,hmix]
     · obtain ⟨k1,k2,k3,k4,k5,k6,k7,k8,k9⟩:=k.top
       have hrun:=k.run
       obtain ⟨fn,n,t,td,ds,mode,kind,round⟩:=af
       simp only at hrun; subst hrun
       obtain ⟨a1,a2,a3⟩:=qb pi.ord
       exact ⟨k1,k2,k3,k4,k5,k6,k7,k8,_,kk',rfl,hk,⟨pi,rfl,g1,fun i hi=>(g2 i).2 (by have:=(a2 i hi).1; simpa using this),fun i hi=>(g2 i).1 hi,fun i hi=>absurd hi List.not_mem_nil,fun hh=>(by cases hh),fun u v hv=>.inr (hs u v hv),fun p hp=>absurd hp List.not_mem_nil,fun p hp=>absurd hp List.not_mem_nil⟩⟩
 | rangeFunc f params assign body=>exact zbJ k hs hfr hk e
 | refuse why=>cases e
end
end Go.Proofs.Ytcdpmiebmhjmpaa.Ev
end
section
namespace Go.Proofs.Ytcdpmiebmhjmpaa.Ev
open Go
section
variable {P:Program} {w0:Env} {base:List Frame} {B:Base} {R:Bij} {af:AFrame} {rest:List AFrame} {h:AHeap} {fr:Frame} {fs:List Frame} {w:World}
theorem wrun (k:Wait P w0 base B R af rest h fr fs w):fr.mode=.run:=by
 have:=k.top.mode
 rw [k.run] at this; exact this
theorem zgC {ρ:Operand→Option AV}{c:Call}{r:AR}(e:opA P ρ h (.defer c)=some r):∃ d,r=.dfr d:=by
 change kG ρ c=some r at e
 unfold kG at e
 split at e
 · cases e
 · split at e
   · split at e
     · cases e; exact ⟨_,rfl⟩
     · cases e
   · split at e
     · cases e
     · cases e; exact ⟨_,rfl⟩
   · cases e
theorem zB {v:Option AV}{d:ADef}(e:x4 h v=some (.dfr d)):False:=by obtain ⟨x,_,e2⟩:=zr e; cases e2
theorem qe {v:Option (AV × AHeap)}{d:ADef}(e:yD v=some (.dfr d)):False:=by obtain ⟨x,y,_,e2⟩:=zK e; cases e2
theorem w9 {v:Option AHeap}{d:ADef}(e:zbT v=some (.dfr d)):False:=by obtain ⟨x,_,e2⟩:=qz e; cases e2
theorem zgx {v:Option AHeap}{d:ADef}(e:zcA v=some (.dfr d)):False:=by obtain ⟨x,_,e2⟩:=jn e; cases e2
theorem zde {f:FuncId}{args:List AV}{d:ADef}(e:zcQ P h f args=some (.dfr d)):False:=by
 unfold zcQ at e
 split at e
 · cases e
 · split at e
   · split at e <;> cases e
   · unfold vQ wH zgN qN zbU x8 jC qf zbY zdU zbK zgj zg9 qp j9 zad at e
     repeat' split at e
     all_goals cases e
theorem qR {x:AV}{name:String}{args:List AV}{d:ADef}(e:xz P h x name args=some (.dfr d)):False:=by
 unfold xz at e
 split at e
 · split at e
   · cases e
   · exact zde e
 · cases e
theorem zc3 {b:Builtin}{ats:Array TypeId}{args:List AV}{d:ADef}(e:xK P h b ats args=some (.dfr d)):False:=by
 unfold xK at e
 split at e
 · exact zB e
 · unfold zg zbq zhY zeh zaa zbG at e
   repeat' split at e
   all_goals first
    | cases e; done
    | exact qe e
    | exact zgx e
theorem zed {ρ:Operand→Option AV}{c:Call}{d:ADef}(e:xa P ρ h c=some (.dfr d)):False:=by
 unfold xa at e
 split at e
 · cases e
 · split at e
   · exact zc3 e
   · split at e
     · cases e
     · exact qR e
   · split at e
     · cases e
     · unfold zgS at e
       split at e
       · unfold yI at e
         repeat' split at e
         all_goals first
          | exact zde e
          | exact qR e
          | cases e
       · cases e
       · cases e
theorem zjo {ρ:Operand→Option AV}{op:Op}{d:ADef}(e:opA P ρ h op=some (.dfr d)):∃ c,op=.defer c:=by
 cases op with
 | «defer» c=>exact ⟨c,rfl⟩
 | call c=>exact absurd (zed (show xa P ρ h c=_ from e)) id
 | next it s =>
  exfalso
  obtain ⟨a,_,e⟩:=zi (show yz ρ it _=_ from e)
  unfold zii zf3 at e
  repeat' split at e
  all_goals cases e
 | range t x =>
  exfalso
  obtain ⟨a,_,e⟩:=zi (show yz ρ x _=_ from e)
  unfold zeZ at e
  repeat' split at e
  all_goals cases e
 | panic x =>
  exfalso
  obtain ⟨a,_,e⟩:=zi (show yz ρ x _=_ from e)
  unfold zfU at e
  split at e <;> cases e
 | makeMap t r =>
  exfalso
  change zda P ρ h t r=_ at e
  unfold zda at e
  repeat' split at e
  all_goals cases e
 | convert s d x =>
  exfalso
  obtain ⟨a,_,e⟩:=zi (show yz ρ x _=_ from e)
  unfold zbp at e
  split at e
  · exact qe e
  · exact zB e
 | alloc t =>
  exfalso
  change vn P h t (yr P t)=_ at e
  unfold vn at e
  split at e
  · cases e
  · exact qe e
 | build t parts =>
  exfalso
  change wW P h t (qu ρ parts.toList)=_ at e
  unfold wW at e
  split at e
  · cases e
  · exact zB e
 | buildSlice t n parts =>
  exfalso
  change zR P h t n (qu ρ parts.toList)=_ at e
  unfold zR at e
  split at e
  · cases e
  · exact qe e
 | insert t m k x =>
  exfalso
  change xY P ρ h t m k x=_ at e
  unfold xY at e
  repeat' split at e
  all_goals first | exact w9 e | cases e
 | mapUpdate t m k x =>
  exfalso
  change xY P ρ h t m k x=_ at e
  unfold xY at e
  repeat' split at e
  all_goals first | exact w9 e | cases e
 | entryStore t m s x =>
  exfalso
  change qF ρ h m s x=_ at e
  unfold qF at e
  repeat' split at e
  all_goals first | exact w9 e | cases e
 | mapEntry t x y=>obtain ⟨a,b,_,_,e⟩:=zZ (show two ρ x y _=_ from e); exact absurd (qe e) id
 | move x=>exact absurd (zB (show x4 h _=_ from e)) id
 | assign x=>exact absurd (zB (show x4 h _=_ from e)) id
 | pick c a b=>exact absurd (zB (show x4 h _=_ from e)) id
 | makeFunc f a b=>exact absurd (zB (show x4 h _=_ from e)) id
 | slice t x a b c=>exact absurd (zB (show x4 h _=_ from e)) id
 | extract x i=>exact absurd (zB (show x4 h _=_ from e)) id
 | box t x=>obtain ⟨a,_,e⟩:=zi (show yz ρ x _=_ from e); exact absurd (qe e) id
 | load t x=>obtain ⟨a,_,e⟩:=zi (show yz ρ x _=_ from e); exact absurd (zB e) id
 | nilCheck x=>obtain ⟨a,_,e⟩:=zi (show yz ρ x _=_ from e); exact absurd (zB e) id
 | unOp o t x=>obtain ⟨a,_,e⟩:=zi (show yz ρ x _=_ from e); exact absurd (zB e) id
 | makeInterface t x=>obtain ⟨a,_,e⟩:=zi (show yz ρ x _=_ from e); exact absurd (zB e) id
 | fieldAddr t x f=>obtain ⟨a,_,e⟩:=zi (show yz ρ x _=_ from e); exact absurd (zB e) id
 | field t x f=>obtain ⟨a,_,e⟩:=zi (show yz ρ x _=_ from e); exact absurd (zB e) id
 | typeAssert x t u k=>obtain ⟨a,_,e⟩:=zi (show yz ρ x _=_ from e); exact absurd (zB e) id
 | store t x y=>obtain ⟨a,b,_,_,e⟩:=zZ (show two ρ x y _=_ from e); exact absurd (w9 e) id
 | binOp o t x y u=>obtain ⟨a,b,_,_,e⟩:=zZ (show two ρ x y _=_ from e); exact absurd (zB e) id
 | makeSlice t x y=>obtain ⟨a,b,_,_,e⟩:=zZ (show two ρ x y _=_ from e); exact absurd (qe e) id
 | indexAddr t x y=>obtain ⟨a,b,_,_,e⟩:=zZ (show two ρ x y _=_ from e); exact absurd (zB e) id
 | index t x y=>obtain ⟨a,b,_,_,e⟩:=zZ (show two ρ x y _=_ from e); exact absurd (zB e) id
 | lookup t x y k=>obtain ⟨a,b,_,_,e⟩:=zZ (show two ρ x y _=_ from e); exact absurd (zB e) id
 | _=>cases (show (none:Option AR)=_ from e)
theorem zdD (k:Wait P w0 base B R af rest h fr fs w){s:Sem Next}{m:AM}(hop:OpRel P B R w s .recover)
 (hst:(stepG P true { frame:=fr,callers:=fs++base,status:=.running,dying:=none } w).bare=(stepG.apply P true fr (fs++base) none s w).bare) (e:zbh P af rest h=some m):zbm P w0 base m fr (fs++base) w:=by
 have hop:s.run P w=.ok .recover w:=hop
 unfold zbh at e
 split at e
 · cases e
 · rename_i hrd
   have hfr:fr.roundOf=none:=by have:=k.top.round; rw [hrd] at this; exact this
   split at e
   · rename_i hkd
     have hkf:fr.kind=.deferred:=k.top.kind.trans hkd
     split at e
     · cases e
     · rename_i c r
       obtain ⟨f,fs',rfl,kf,kr⟩:=k.below
       unfold zcr at e
       split at e
       · rename_i v older hm
         obtain ⟨a,e1,rfl⟩:=xF e
         have hmode:=kf.mode
         rw [hm] at hmode
         obtain ⟨ch',hfm,x',older',rfl,hx,hold⟩:=hmode
         obtain ⟨y1,y2,y3⟩:=x'
         obtain ⟨hx1,hx2,hx3⟩:=hx
         simp only at hx1 hx2 hx3
         subst hx2 hx3
         refine ⟨_,_,_,.one (step_lone_go (fr':=fr.finish y1) (cs':={ f with mode:=.panicking ({ v:=y1,recovered:=true }::older') }::(fs'++base)) (w':=w) ?_),B,R,{ f with mode:=.panicking ({ v:=y1,recovered:=true }::older') }::fs',rfl,k.base,k.heap,k.old,xk k.top k.run e1 hx1,_,_,rfl,?_,kr⟩
         · rw [hst]
           simp [stepG.apply,Sem.runT_eq,hop,hfr,tryRecover,hkf,hfm]
         · obtain ⟨k1,k2,k3,k4,k5,k6,k7,k8,k9⟩:=kf
           obtain ⟨fn,n,t,td,ds0,mode,kind,round⟩:=c
           simp only at hm; subst hm
           exact ⟨k1,k2,k3,k4,k5,k6,⟨_,rfl,_,_,rfl,⟨hx1,rfl,rfl⟩,hold⟩,k8,k9⟩
       · rename_i hno
         obtain ⟨a,e1,rfl⟩:=xF e
         have hmode:=kf.mode
         have hnone:tryRecover fr (f::(fs'++base))=none:=by
          unfold tryRecover
          rw [hkf]
          simp only []
          cases hm:c.mode with
          | run=>rw [hm] at hmode; rw [show f.mode=.run from hmode]
          | returning=>rw [hm] at hmode; rw [show f.mode=.returning from hmode]
          | panicking ch =>
           rw [hm] at hmode
           obtain ⟨ch',hfm,hc⟩:=hmode
           rw [hfm]
           cases ch with
           | nil=>cases hc; rfl
           | cons x older =>
            obtain ⟨x',older',rfl,hx,hold⟩:=hc
            obtain ⟨x1,x2⟩:=x
            cases x2 with
            | false=>exact absurd hm (hno _ _)
            | true =>
             obtain ⟨y1,y2,y3⟩:=x'
             obtain ⟨hx1,hx2,hx3⟩:=hx
             simp only at hx2 hx3
             subst hx2 hx3
             rfl
         refine ⟨_,_,_,.one (step_lone_go (fr':=fr.finish .nilIface) (cs':=f::(fs'++base)) (w':=w) ?_),B,R,f::fs',rfl,k.base,k.heap,k.old,xk k.top k.run e1 rfl,f,fs',rfl,kf,kr⟩
         rw [hst]
         simp [stepG.apply,Sem.runT_eq,hop,hfr,hnone]
   · cases e
theorem zeq [XT P] [XTOk P] (k:Wait P w0 base B R af rest h fr fs w){ops:Array Oper}{i:Nat}{s':List Nat}{k':List Item}(ht:fr.todo=.inRegion ops (i::s')::k'){o:Oper}(ho:ops[i]?=some o)
 (hops:∀ x∈o.op.operands,∀ v,ev af.tmps x=some v→VRel R v (fr.eval x))
 (hgu:∀ g b q u v,o.guard=some (g,b)→ops[g]?=some q→q.dst=some u→af.tmps.get u=some v→∃ x,fr.tmps[u]?=some x∧VRel R v x)
 {m:AM} (e:qw P af rest h ops.toList o=some m):zbm P w0 base m fr (fs++base) w:=by
 have hm:=wrun k
 unfold qw at e
 split at e
 · cases e
 · rename_i wt hwt
   have hw:=kw hwt hgu
   split at e
   · exact ⟨_,_,_,.one (wX hm ht ho hw),k.got (v:=xH) (x:=undef) ⟨[],rfl,rfl⟩ k.heap (Keeps.refl _ _) e⟩
   · unfold kN at e
     split at e
     · cases e
     · rename_i r hr
       have hop:=zeO k.heap k.room hops hr
       have hoper:(stepG P true { frame:=fr,callers:=fs++base,status:=.running,dying:=none } w)=stepG.oper P true fr (fs++base) none w:=by
        simp only [stepG,stepG.exec,hm,ht,ho,hw,Option.map_some,Option.getD_some,if_true]
       by_cases hdf:∃ c,o.op=.defer c
       · obtain ⟨c,hc⟩:=hdf
         obtain ⟨d,rfl⟩:=zgC (by rw [hc] at hr; exact hr)
         change zd4 P af rest h d=some m at e
         unfold zd4 at e
         split at e
         · rename_i hrd
           have hfr:fr.roundOf=none:=by have:=k.top.round; rw [hrd] at this; exact this
           obtain ⟨d',r1,r2⟩:=hop
           have hst:(stepG P true { frame:=fr,callers:=fs++base,status:=.running,dying:=none } w)=stepG.apply P true fr (fs++base) none (execOp fr.eval o) w:=by
            rw [hoper]
            simp only [stepG.oper,Frame.oper?,ht,ho,hfr]
           obtain ⟨a,e1,rfl⟩:=xF e
           refine ⟨_,_,_,.one (step_lone_go (fr':=({ fr with defers:=d'::fr.defers }:Frame).finish undef) (cs':=fs++base) (w':=w) (by rw [hst]; simp [stepG.apply,Sem.runT_eq,r1])),B,R,fs,rfl,k.base,k.heap,k.old,?_,k.below⟩
           refine xk (h0:=h) (v:=xH) ?_ ?_ e1 ⟨[],rfl,rfl⟩
           · obtain ⟨k1,k2,k3,k4,k5,k6,k7,k8,k9⟩:=k.top
             obtain ⟨fn,n,t,td,ds,mode,kind,round⟩:=af
             exact ⟨k1,k2,k3,k4,k5,⟨_,_,rfl,r2,k6⟩,k7,k8,k9⟩
           · have:=k.run
             obtain ⟨fn,n,t,td,ds,mode,kind,round⟩:=af
             exact this
         · cases e
       · have hst:(stepG P true { frame:=fr,callers:=fs++base,status:=.running,dying:=none } w)=stepG.apply P true fr (fs++base) none (execOp fr.eval o) w:=by
          rw [hoper]
          simp only [stepG.oper,Frame.oper?,ht,ho]
          split
          · rename_i _ c _ hc
            exact absurd ⟨c,hc⟩ hdf
          · rfl
         cases r with
         | round l args=>exact zhG k hop (by rw [hst]) e
         | dfr d =>
          exact absurd (zjo hr) hdf
         | recover=>exact zdD k hop (by rw [hst]) e
         | val v h'=>obtain ⟨a,b,c,h1,h2⟩:=qV k hop (by simp) (by simp) (by simp) (by rw [hst]) ⟨_,_,_,_,ht⟩ e; exact ⟨a,b,c,h1,h2⟩
         | skip h'=>obtain ⟨a,b,c,h1,h2⟩:=qV k hop (by simp) (by simp) (by simp) (by rw [hst]) ⟨_,_,_,_,ht⟩ e; exact ⟨a,b,c,h1,h2⟩
         | enter f as h'=>obtain ⟨a,b,c,h1,h2⟩:=qV k hop (by simp) (by simp) (by simp) (by rw [hst]) ⟨_,_,_,_,ht⟩ e; exact ⟨a,b,c,h1,h2⟩
         | panic v=>obtain ⟨a,b,c,h1,h2⟩:=qV k hop (by simp) (by simp) (by simp) (by rw [hst]) ⟨_,_,_,_,ht⟩ e; exact ⟨a,b,c,h1,h2⟩
end
end Go.Proofs.Ytcdpmiebmhjmpaa.Ev
end
section
namespace Go.Proofs.Ytcdpmiebmhjmpaa.Ev
open Go
section
variable {P:Program} {w0:Env} {base:List Frame} {B:Base} {R:Bij} {af:AFrame} {rest:List AFrame} {h:AHeap} {fr:Frame} {fs:List Frame} {w:World}
theorem zhn {ρ:Operand→Option AV}{o:Oper}{r:AR}(he:x5 P o=false)(e:opA P ρ h o.op=some r):∃ v h',r=.val v h' ∧
 ((zX o.op=true∧∃ vf ob,FloatAt P ρ o.op vf ob∧v=vf h.next∧h'=h.new ob)∨(zX o.op=false∧vC o.op=true∧h'=h∧∀ h,opA P ρ h o.op=some (.val v h)) ∨
  (zX o.op=false∧vC o.op=false∧x3 P o.op=true∧h'=h)):=by
 cases hf:zX o.op with
 | true =>
  obtain ⟨vf,ob,k⟩:=zh2 hf e
  have:=k.1 h
  rw [e] at this
  cases this
  exact ⟨_,_,rfl,.inl ⟨rfl,vf,ob,k,rfl,rfl⟩⟩
 | false =>
  cases hp:vC o.op with
  | true =>
   obtain ⟨v,rfl,k⟩:=zit hp e
   exact ⟨_,_,rfl,.inr (.inl ⟨rfl,rfl,rfl,k⟩)⟩
  | false =>
   have hr:x3 P o.op=true:=by
    cases hr:x3 P o.op with
    | true=>rfl
    | false =>
     exfalso
     unfold x5 at he
     cases hop:o.op <;> simp [hop] at he <;> simp [hop] at hf hp hr <;> simp [hf,hp,hr] at he
   obtain ⟨v,rfl⟩:=zew hr e
   exact ⟨_,_,rfl,.inr (.inr ⟨rfl,rfl,hr,rfl⟩)⟩
theorem zjp {fn:FuncId}{n:Nat}{t:T AV}{all:Array Oper}{i:Nat}{l dn:List Nat}{kk:List AItem}{ds:List ADef}{mode:AMode}{kind:CallKind}{round:Option Nat}{o:Oper}{v:AV}{h':AHeap}{m:AM}(ho:all[i]?=some o)(he:x5 P o=false)
 (e:vI rest h' (zI P ⟨fn,n,t,.drw all (i::l) dn::kk,ds,mode,kind,round⟩ h' v)=some m) :
 ∃ t',zfM t n o.dst v=some t'∧(zX o.op=true→yo P all.toList 0 t' h' dn=true)∧m=⟨⟨fn,n,t',.drw all l (i::dn)::kk,ds,mode,kind,round⟩,rest,h'⟩:=by
 obtain ⟨a,e1,rfl⟩:=xF e
 change (match all[i]? with | none=>none | some o=>za4 P ⟨fn,n,t,.drw all (i::l) dn::kk,ds,mode,kind,round⟩ h' all i o l dn kk (zfM t n o.dst v))=some a at e1
 rw [ho] at e1
 simp only [] at e1
 unfold za4 at e1
 split at e1
 · cases e1
 · rename_i t' ht
   split at e1
   · cases e1
   · rename_i hre
     cases e1
     exact ⟨t',ht,fun hf=>by simpa [hf,he] using hre,rfl⟩
theorem zjD [XT P] [XTOk P] (k:Plain P w0 base B R af rest h fr fs w){all:Array Oper}{l dn:List Nat}{kk:List AItem}(ht:af.todo=.drw all l dn::kk){s:List Nat}{k':List Item}(hfr:fr.todo=.inRegion all s::k')(hk:All2 (ItemRel R) kk k')
 (hd:Drw P B R rest.length false all l dn af.tmps h fr.tmps s) {m:AM} (e:ziG P all l dn af rest h kk=some m):zbm P w0 base m fr (fs++base) w:=by
 have hm:=ziZ k
 have hroom:B.n≤w.heap.size:=by show B.env.heap.size≤_; rw [k.base]; exact k.old.size
 have hrun:=k.run
 obtain ⟨fn,n,t,td,ds,mode,kind,round⟩:=af
 simp only at ht hrun hd; subst ht; subst hrun
 cases l with
 | nil =>
  change toA _ rest h kk=some m at e
  cases e
  obtain ⟨B',R',w',a',g1,g2,g3,g4,g5,g6,g7⟩:=hd.run_out s k.heap hroom hm hfr (fs++base)
  have st:step P (lone { fr with tmps:=a',todo:=.inRegion all []::k' } (fs++base) w')=.next (lone { fr with tmps:=a',todo:=k' } (fs++base) w') :=
   step_lone_go (by simp [stepG,stepG.exec,hm])
  refine ⟨_,_,_,g1.trans (.one st),B',R',fs,rfl,g3.1.trans k.base,g5,k.old.keeps k.base k.heap g6,?_,k.below.mono g4 g3 (Nat.le_refl _)⟩
  obtain ⟨k1,k2,k3,k4,k5,k6,k7,k8,k9⟩:=k.top
  exact ⟨k1,k2,k3,k4,k5.mono g4,k6.mono fun _ _ q=>q.mono g4,k7.mono g4,g2.trans k8,xD (hk.mono fun _ _ q=>q.mono g4) g7⟩
 | cons i l =>
  have hin:=hd.facts.2.2.2.1 i List.mem_cons_self
  obtain ⟨o,ho⟩:∃ o,all[i]?=some o:=⟨_,Array.getElem?_eq_getElem hin⟩
  change zjh P _ rest h all.toList all[i]?=some m at e
  rw [ho] at e
  change qw P _ rest h all.toList o=some m at e
  have hidn:i ∉ dn:=fun hi=>(List.nodup_append.1 hd.facts.2.2.2.2.1).2.2 i (by simpa using hi) i List.mem_cons_self rfl
  obtain ⟨k1,k2,k3,k4,k5,k6,k7,k8,k9⟩:=k.top
  cases he:x5 P o with
  | true =>
   have hem:(zx P all.toList).em.testBit i=true:=by rw [hd.plan.em i o ho]; exact he
   obtain ⟨B',R',w',a',s',g1,g2,g3,g4,g5,g6,g7⟩:=hd.catch_up hem s k.heap hroom hm hfr (fs++base)
   have hw:Wait P w0 base B' R' ⟨fn,n,t,.drw all (i::l) dn::kk,ds,.run,kind,round⟩ rest h { fr with tmps:=a',todo:=.inRegion all (i::s')::k' } fs w' :=
    ⟨g5,g3.1.trans k.base,k.old.keeps k.base k.heap g6,⟨k1,k2,k3,k4,k5.mono g4,k6.mono fun _ _ q=>q.mono g4,k7.mono g4,g2.trans k8,i::s',k',rfl,hk.mono fun _ _ q=>q.mono g4,g7.suspend hem⟩,rfl,k.below.mono g4 g3 (Nat.le_refl _)⟩
   have hreads:=g7.reads ho hidn
   obtain ⟨fr',cs',w2,s1,s2⟩:=zeq hw rfl ho (fun x hx v hv=>wG (fun u hu he=>hreads u v (by rw [hu] at hx; exact z8 hx) he) hv)
    (fun g b q u v hg hq hu hv=>hreads u v (xQ hg (by simpa using hq) hu) hv) e
   exact ⟨fr',cs',w2,g1.trans s1,s2⟩
  | false =>
   have hem:(zx P all.toList).em.testBit i=false:=by rw [hd.plan.em i o ho]; exact he
   have hown:=hd.own_dst ho he
   have hap:∀ p∈dn,p∈s→∀ q,all[p]?=some q→∀ x,o.dst=some x→(zJ all.toList q).contains x=false∧q.dst≠some x:=fun p hp hps q hq x hx =>
    hd.apart ho hx hidn hp hq (by
     cases hb:(zx P all.toList).em.testBit p with
     | false=>rfl
     | true=>exact absurd hps (hd.effs p hp hb)) (fun hh=>by rw [hem] at hh; cases hh)
   have hop:∀ {v:AV} {t':T AV},t'=zfE t o.dst v→∀ h,opA P (ev t') h o.op=opA P (ev t) h o.op:=fun {v t'} ht' h=>by
    subst ht'
    unfold zfE
    split
    · rfl
    · rename_i u hu; exact zdL all.toList (hown u hu) h
   have hwg:∀ {v:AV} {t':T AV},t'=zfE t o.dst v→zw all.toList t' o.guard=zw all.toList t o.guard:=fun {v t'} ht'=>by
    subst ht'
    unfold zfE
    split
    · rfl
    · rename_i u hu; exact wR (hown u hu)
   have hget:∀ {v:AV} {t':T AV},t'=zfE t o.dst v→∀ u,o.dst=some u→t'.get u=some v:=fun {v t'} ht' u hu=>by
    subst ht'; rw [jl,if_pos hu]
   have goes:∀ {B':Base} {h':AHeap} {v:AV},vI rest h' (zI P ⟨fn,n,t,.drw all (i::l) dn::kk,ds,.run,kind,round⟩ h' v)=some m→HRel P B' R h' w→B.keeps B' rest.length →
    (∀ t',t'=zfE t o.dst v→(zX o.op=true→yo P all.toList 0 t' h' dn=true)→(∀ p∈dn,p∈s→∀ q,all[p]?=some q→Pend P B rest.length false all t h p q→Pend P B' rest.length false all t' h' p q)∧Pend P B' rest.length false all t' h' i o) →
    zbm P w0 base m fr (fs++base) w:=by
    intro B' h' v e hh hb hp
    obtain ⟨t',f1,f2,rfl⟩:=zjp ho he e
    obtain ⟨q1,q2⟩:=hp t' (jf f1).1 f2
    exact ⟨_,_,_,Steps.refl _ _,B',R,fs,rfl,hb.1.trans k.base,hh,k.old,⟨k1,k2,k3,k4,k5,k6,k7,k8,s,k',hfr,hk,hd.ahead ho he k8 f1 q1 q2⟩,k.below.mono R.le_refl hb (Nat.le_refl _)⟩
   unfold qw at e
   split at e
   · cases e
   · rename_i wt hwt
     split at e
     · refine goes e k.heap (B.keeps_refl _) fun t' ht' _=>⟨fun p hp hps q hq hpe=>hpe.other ht' (hap p hp hps q hq),false,by rw [hwg ht']; exact hwt,fun _ u hu=>hget ht' u hu,fun hh=>(by cases hh)⟩
     · unfold kN at e
       split at e
       · cases e
       · rename_i r hr
         obtain ⟨v,h',rfl,hcase⟩:=zhn he hr
         change vI rest h' (zI P _ h' v)=some m at e
         rcases hcase with ⟨c1,vf,ob,c2,rfl,rfl⟩ | ⟨c1,c2,rfl,c3⟩ | ⟨c1,c2,c3,rfl⟩
         · refine goes (B':=B.mark h.next ob (rest.length,i)) e (k.heap.mark ob _) ⟨rfl,fun id ob' e1 _=>zaP k.heap ob _ id ob' e1⟩ fun t' ht' hre=>⟨fun p hp hps q hq hpe=>?_,true,by rw [hwg ht']; exact hwt,fun hh=>(by cases hh),fun _=>.inl ⟨c1,vf,ob,h.next,?_,?_,?_,fun u hu=>hget ht' u hu⟩⟩
           · refine (Pend.base (zaP k.heap ob _) hpe).suspend.again ht' (hap p hp hps q hq) fun h1 h2 h3=>?_
             have hanc:(0:Nat).testBit p=false:=Nat.zero_testBit p
             have:=wJ (hre c1) p hp
             rw [show all.toList[p]?=some q by simpa using hq] at this
             simp only [wf,h1,hanc,Bool.not_false,Bool.and_self] at this
             exact this
           · subst ht'
             unfold zfE
             split
             · exact c2
             · rename_i u hu; exact c2.set all.toList (hown u hu)
           · simp [Base.mark]
           · simp [Base.mark]
         · refine goes e k.heap (B.keeps_refl _) fun t' ht' _=>⟨fun p hp hps q hq hpe=>hpe.other ht' (hap p hp hps q hq),true,by rw [hwg ht']; exact hwt,fun hh=>(by cases hh),fun _=>.inr (.inl ⟨c1,c2,v,fun h=>by rw [hop ht']; exact c3 h,fun u hu=>hget ht' u hu⟩)⟩
         · refine goes e k.heap (B.keeps_refl _) fun t' ht' _=>⟨fun p hp hps q hq hpe=>hpe.other ht' (hap p hp hps q hq),true,by rw [hwg ht']; exact hwt,fun hh=>(by cases hh),fun _=>.inr (.inr ⟨c1,c2,c3,.inr ⟨v,by rw [hop ht']; exact hr,fun u hu=>hget ht' u hu⟩⟩)⟩
theorem ziw [XT P] [XTOk P] (hmix:P.follows .mixedOrders=true)(k:Plain P w0 base B R af rest h fr fs w){it:AItem}{kk:List AItem}(ht:af.todo=it::kk){m:AM}(e:zkN P af rest h it kk=some m):zbm P w0 base m fr (fs++base) w:=by
 have hm:=ziZ k
 have htop:TodoRel P B R rest.length false h af.todo af.tmps fr.todo fr.tmps:=by
  have:=k.top.top
  rw [k.run] at this; exact this
 rw [ht] at htop
 cases it with
 | drw all l dn =>
  obtain ⟨s,k',hfr,hk,hd⟩:=htop
  exact zjD k ht hfr hk hd e
 | code c =>
  obtain ⟨⟨_,kk',hfr,rfl,hk⟩,hs⟩:=htop
  exact zh4 hmix k hs hfr hk e
 | inBlock i =>
  obtain ⟨⟨_,kk',hfr,rfl,hk⟩,hs⟩:=htop
  exact k.to hs hk e (step_lone_go (by simp [stepG,stepG.exec,hm,hfr]))
 | inLoop b =>
  obtain ⟨⟨_,kk',hfr,rfl,hk⟩,hs⟩:=htop
  exact k.to (todo:=.code b::.inLoop b::kk) (todo':=.code b::.inLoop b::kk') hs ⟨_,_,rfl,rfl,_,_,rfl,rfl,hk⟩ e (step_lone_go (by simp [stepG,stepG.exec,hm,hfr]))
 | inScope b =>
  obtain ⟨⟨_,kk',hfr,rfl,hk⟩,hs⟩:=htop
  exact k.to hs hk e (step_lone_go (by simp [stepG,stepG.exec,hm,hfr]))
 | ops all l =>
  obtain ⟨⟨_,kk',hfr,⟨ops,todo,rfl,rfl,hmap⟩,hk⟩,hs⟩:=htop
  cases l with
  | nil =>
   have:todo=[]:=by simpa using hmap.symm
   subst this
   exact k.to hs hk e (step_lone_go (by simp [stepG,stepG.exec,hm,hfr]))
  | cons o l =>
   cases todo with
   | nil=>simp at hmap
   | cons i todo =>
    simp only [List.map_cons,List.cons.injEq] at hmap
    change qw P af rest h ops.toList o=some m at e
    have hw:Wait P w0 base B R af rest h fr fs w:=⟨k.heap,k.base,k.old,by
     obtain ⟨k1,k2,k3,k4,k5,k6,k7,k8,k9⟩:=k.top
     refine ⟨k1,k2,k3,k4,k5,k6,k7,k8,?_⟩
     have hr:=k.run
     obtain ⟨fn,n,t,td,ds,mode,kind,round⟩:=af
     simp only at hr ht; subst hr; subst ht
     exact ⟨⟨_,kk',hfr,⟨ops,_,rfl,rfl,by simp only [List.map_cons,List.cons.injEq]; exact hmap⟩,hk⟩,hs⟩,k.run,k.below⟩
    exact zeq hw hfr hmap.1.symm (fun x _ v hv=>wG (fun u _ hu=>hs u v hu) hv) (fun g b q u v _ _ _ hv=>hs u v hv) e
 | inRange i=>cases e
 | endRange i =>
  obtain ⟨⟨_,kk',hfr,⟨L,hL,rfl⟩,hk⟩,hs⟩:=htop
  exact zdm k hs hL hfr hk e
 | beginRound =>
  obtain ⟨⟨_,kk',hfr,rfl,hk⟩,hs⟩:=htop
  exact zf6 k hs hfr hk e
def resF (a:Array Value):ResultVar→Sem Value
 | .tmp t=>pure (a.getD t undef)
 | .cell x t=>do loadVar t (← asAddr (a.getD x undef))
theorem zfC (fn:Func)(a:Array Value):results fn a=(do let vs ← fn.results.mapM (resF a); pure (if h:vs.size=1 then vs[0] else .tuple vs)):=by
 unfold results
 first
  | rfl
  | (congr 1; done)
  | (congr 1; funext x; cases x <;> rfl)
  | (congr 1; congr 1; funext x; cases x <;> rfl)
theorem yZ (kh:HRel P B R h w){t:T AV}{a:Array Value}(hs:Slots R t a):∀ {l:List ResultVar} {vs:List AV},wa P h t l=some vs →
 ∃ vs',(l.mapM (resF a)).run P w=.ok vs' w∧VRels R vs vs'
 | [],vs,e=>by cases e; exact ⟨[],by simp,rfl⟩
 | r::l,vs,e=>by
  have getD:∀ {u:Nat} {v:AV},t.get u=some v→VRel R v (a.getD u undef):=fun {u v} hv=>by
   obtain ⟨y,h1,h2⟩:=hs u v hv
   rw [show a.getD u undef=y by
    obtain ⟨hl,hg⟩:=Array.getElem?_eq_some_iff.1 h1
    simp [Array.getD,hl,hg]]
   exact h2
  have consO_some:∀ {x:Option AV} {y:Option (List AV)},zie x y=some vs→∃ v r,x=some v∧y=some r∧vs=v::r:=fun {x y} e=>by
   unfold zie at e
   split at e
   · cases e
   · split at e
     · cases e
     · cases e; exact ⟨_,_,rfl,rfl,rfl⟩
  cases r with
  | tmp u =>
   obtain ⟨v,r,h1,h2,rfl⟩:=consO_some e
   obtain ⟨vs',g1,g2⟩:=yZ kh hs h2
   exact ⟨a.getD u undef::vs',by simp only [List.mapM_cons,resF,Sem.run_bind,Sem.run_pure,Result.andThen_ok,g1],_,_,rfl,getD h1,g2⟩
  | cell u ty =>
   obtain ⟨v,r,h1,h2,rfl⟩:=consO_some e
   obtain ⟨vs',g1,g2⟩:=yZ kh hs h2
   unfold zjZ at h1
   split at h1
   · cases h1
   · rename_i p hp
     have hpv:=getD hp
     obtain ⟨v',q1,q2⟩:=yV kh h1 hpv
     have hpp:∃ ad,a.getD u undef=.pointer (some ad):=by
      unfold kT at h1
      split at h1
      · obtain ⟨L,_,_,hh⟩:=hpv; exact ⟨_,hh⟩
      · exact ⟨_,hpv⟩
      · cases h1
     obtain ⟨ad,had⟩:=hpp
     rw [had] at q1
     have q3:(loadVar ty ad).run P w=.ok v' w:=by simpa [Instr.loadAt,Instr.sureAddr] using q1
     exact ⟨v'::vs',by simp only [List.mapM_cons,resF,Sem.run_bind,Sem.run_pure,Result.andThen_ok,had,asAddr,q3,g1],_,_,rfl,q2,g2⟩
theorem zcY (kh:HRel P B R h w)(hs:Slots R af.tmps fr.tmps)(hfn:fr.fn=af.fn){v:AV}(e:zjk P af h=some v):∃ fn v',P.funcs[fr.fn]?=some fn∧(results fn fr.tmps).run P w=.ok v' w∧VRel R v v':=by
 unfold zjk at e
 split at e
 · cases e
 · rename_i fn hf
   unfold zjX at e
   split at e
   · cases e
   · rename_i l hl
     obtain ⟨vs,g1,g2⟩:=yZ kh hs hl
     refine ⟨fn,if h:vs.toArray.size=1 then vs.toArray[0] else .tuple vs.toArray,by rw [hfn]; exact hf,?_,?_⟩
     · rw [zfC,Array.mapM_eq_mapM_toList]
       simp only [Sem.run_bind,Sem.run_map,g1,Result.andThen_ok,Sem.run_pure]
     · split at e
       · cases e
         obtain ⟨y,ys,rfl,hy,hr⟩:=g2
         cases hr
         simpa using hy
       · rename_i hn
         cases e
         rw [dif_neg]
         · exact ⟨vs,rfl,g2⟩
         · intro hsz
           have:=g2.length
           simp at hsz
           rw [hsz] at this
           match l,this,hn with
           | [x],_,hn=>exact hn x rfl
theorem zj7 {f:Fn}{cap:List AV}{d':Deferred}{args:List AV}(k:DefRel R ⟨.fn f cap,args⟩ d'):∃ c as:List Value,d'=⟨.fn f c.toArray,as.toArray⟩∧VRels R cap c∧VRels R args as:=by
 obtain ⟨⟨_,c,h1,h2⟩,h3⟩:=k
 obtain ⟨t,a⟩:=d'
 simp only at h1 h3
 exact ⟨c,a.toList,by rw [h1],h2,h3⟩
theorem ze9 (kh:HRel P B R h w)(hb:B.env=w0)(ho:Old0 w0.toWorld w)(kt:FrameRel P B R rest.length false h af fr)(hr:af.mode≠.run)(kb:StackRel P B R h rest fs){m:AM}(e:ku P af rest h=some m):zbm P w0 base m fr (fs++base) w:=by
 have hslots:Slots R af.tmps fr.tmps:=by
  have:=kt.top
  unfold zc9 at this
  split at this
  · exact absurd ‹_› hr
  · exact this
 have hst:stepG P true { frame:=fr,callers:=fs++base,status:=.running,dying:=none } w=unwind P true fr (fs++base) none w:=by
  have:=kt.mode
  cases hm:af.mode with
  | run=>exact absurd hm hr
  | returning=>rw [hm] at this; have hf:fr.mode=.returning:=this; simp only [stepG,hf]
  | panicking c=>rw [hm] at this; obtain ⟨c',hf,_⟩:=this; simp only [stepG,hf]
 have hroom:B.n≤w.heap.size:=by show B.env.heap.size≤_; rw [hb]; exact ho.size
 unfold ku at e
 split at e
 · rename_i d ds hdef
   have hd:=kt.defers
   rw [hdef] at hd
   obtain ⟨d',ds',hfd,hd1,hd2⟩:=hd
   obtain ⟨tgt,args⟩:=d
   unfold zcj at e
   simp only at e
   split at e
   · rename_i id
     split at e
     · cases e
     · rename_i cs hcs
       exact za9 kh hb ho kt hr kb hslots hdef hst hcs e
   · rename_i f cap
     obtain ⟨c,as,rfl,h1,h2⟩:=zj7 hd1
     unfold zdb at e
     split at e
     · rename_i g args2 h2' hinv
       obtain ⟨a,e1,rfl⟩:=xF e
       have hop:=qJ kh hroom hinv h2 h1
       obtain ⟨as2,r1,r2,r3⟩:=hop
       refine ⟨_,_,_,.one (step_lone_go (fr':=Frame.enter P g as2.toArray .deferred) (cs':={ fr with defers:=ds' }::(fs++base)) (w':=w) ?_),B,R,{ fr with defers:=ds' }::fs,rfl,hb,r3,ho,vG e1 r2 (.inr rfl),_,_,rfl,?_,kb.mono R.le_refl (B.keeps_refl (rest.length)) (Nat.le_refl _)⟩
       · rw [hst]
         simp [unwind,hfd,callDeferred,Sem.runT_eq,r1]
       · obtain ⟨k1,k2,k3,k4,k5,k6,k7,k8,k9⟩:=kt
         obtain ⟨fn,n,t,td,ds0,mode,kind,round⟩:=af
         cases mode with
         | run=>exact absurd rfl hr
         | returning=>exact ⟨k1,k2,k3,k4,k5,hd2,k7,k8,hslots⟩
         | panicking c=>exact ⟨k1,k2,k3,k4,k5,hd2,k7,k8,hslots⟩
     · cases e
   · cases e
 · rename_i hdef
   have hfd:fr.defers=[]:=by have:=kt.defers; rw [hdef] at this; exact this
   have hmode:=kt.mode
   split at e
   · cases e
   · rename_i chain hm
     rw [hm] at hmode
     obtain ⟨c',hfm,hc⟩:=hmode
     cases rest with
     | nil=>cases e
     | cons c r =>
      obtain ⟨f,fs',rfl,kf,kr⟩:=kb
      cases e
      obtain ⟨fn,hfn⟩:=kt.fnOk
      have hcat:fr.catches P=false:=by simp only [Frame.catches,kt.fn,hfn]
      exact ⟨_,_,_,.one (step_lone_go (fr':=f.raise c') (cs':=fs'++base) (w':=w) (by rw [hst]; simp [unwind,hfd,hfm,hcat])),B,R,fs',rfl,hb,kh,ho,zca kf hc,kr⟩
   · rename_i hm
     rw [hm] at hmode
     have hfm:fr.mode=.returning:=hmode
     unfold zbS at e
     split at e
     · cases e
     · rename_i v hv
       obtain ⟨fn,v',r1,r2,r3⟩:=zcY kh hslots kt.fn hv
       obtain ⟨fr',cs',q1,q2⟩:=jo (fr:=fr) (base:=base) kh hb ho kt.kindOk kt.kind kb r3 e
       exact ⟨fr',cs',w,.one (step_lone_go (by rw [hst]; simp only [unwind,hfd,hfm,r1,Sem.runT_eq,r2]; simpa using q1)),q2⟩
theorem zil [XT P] [XTOk P] (hmix:P.follows .mixedOrders=true){m m':AM}{fr:Frame}{cs:List Frame}{w:World}(k:Sim P w0 base m fr cs w)(e:zbR P m=some m'):zbm P w0 base m' fr cs w:=by
 obtain ⟨af,rest,h⟩:=m
 obtain ⟨B,R,fs,rfl,hb,kh,ho,kt,kb⟩:=k
 change (match af.mode with | .run=>zhw P af rest h af.todo | _=>ku P af rest h)=some m' at e
 split at e
 · rename_i hrun
   have hp:Plain P w0 base B R af rest h fr fs w:=⟨kh,hb,ho,kt,hrun,kb⟩
   unfold zhw at e
   split at e
   · rename_i hnil
     have htop:TodoRel P B R rest.length false h af.todo af.tmps fr.todo fr.tmps:=by
      have:=kt.top
      rw [hrun] at this; exact this
     rw [hnil] at htop
     obtain ⟨h1,hs⟩:=htop
     have hfr:fr.todo=[]:=h1
     have hm:=ziZ hp
     have hround:=kt.round
     unfold wo at e
     split at e
     · rename_i hr
       rw [hr] at hround
       exact hp.ends hs e (step_lone_go (by simp [stepG,stepG.exec,hm,hfr,show fr.roundOf=none from hround]))
     · rename_i l hr
       refine wq hp hr e fun b hb=>?_
       simp only [stepG,stepG.exec,hm,hfr,hb,Sem.runT_eq]
       cases (Instr.endRound b none).run P w <;> simp
   · rename_i it kk hcons
     exact ziw hmix hp hcons e
 · rename_i hr
   exact ze9 kh hb ho kt (fun hh=>hr hh) kb e
def zgV (G:T (T AV)) (w:World):Prop:=∀ g c,G.get g=some c→g<w.heap.size∧∃ cs el fz,w.heap[g]?=some (.cells cs el fz)∧∀ k v,c.get k=some v→∃ x,cs[k]?=some x∧VRel (fun _ _=>none) v x
def Env.of (w:World):Env:={ w with own:=fun _=>False,rob:=fun _=>False,pin:=fun _ _=>none }
def Base.of (w:World):Base:=⟨Env.of w,fun _=>False,fun _=>none,fun _=>(0,0)⟩
theorem HRel.start {P:Program}{G:T (T AV)}{w:World}(hG:zgV G w):HRel P (Base.of w) (fun _ _=>none) ⟨.leaf,0,G⟩ w where
 fresh _ _ _:=rfl
 obj i o e:=by cases e
 pend i o e:=by cases e
 place i r L e:=by cases e
 rd i hi:=hi.elim
 low b _:=rfl
 rp i hi:=hi.elim
 rol i r L hi:=hi.elim
 pin i r L e:=by cases e
 apart i r i' r' L L' e:=by cases e
 same i r r' L L' e:=by cases e
 glob g c e:=⟨fun hm=>hm.elim (fun hl=>absurd (hG g c e).1 (Nat.not_lt.2 hl)) id,(hG g c e).2⟩
theorem Old0.start (w:World):Old0 (Env.of w).toWorld w:=⟨rfl,rfl,rfl,Nat.le_refl _,Nat.le_refl _⟩
end
end Go.Proofs.Ytcdpmiebmhjmpaa.Ev
end
section
namespace Go.Proofs.Ytcdpmiebmhjmpaa.Ev
open Go Go.ChangeShapes Go.WideShapes
theorem Old.kept {w w':World}(k:Old w w')(may:MemPlace→Prop):w.keptBut w' may :=
 ⟨k.os,k.output,fun i hi=>by rw [k.other i hi]; exact (World.keptBut_refl w may).2.2 i hi⟩
end Go.Proofs.Ytcdpmiebmhjmpaa.Ev
end
section
namespace Go.Proofs.Ytcdpmiebmhjmpaa.Ev
open Go
noncomputable section
variable (P:Program)
def runN [XT P]:Nat→AM→Option AM
 | 0,m=>some m
 | n+1,m=>match zbR P m with
  | none=>none
  | some m=>runN n m
def zfB {α:Type} (t:T α):List Nat→T α→T α
 | [],acc=>acc
 | i::r,acc=>(acc.set (t.get i) i).seq fun acc=>zfB t r acc
def zd9 (us:List Nat) (fr:AFrame):AFrame:=match fr with
 | ⟨fn,n,t,todo,ds,mode,kind,round⟩=>⟨fn,n,zfB t us .leaf,todo,ds,mode,kind,round⟩
def wr:List (List Nat)→List AFrame→List AFrame
 | us::r,f::fs=>zd9 us f::wr r fs
 | [],fs=>fs
 | _::_,[]=>[]
def zh1 (us:List Nat) (fr:AFrame):AFrame:=match fr.todo with
 | .drw _ _ _::_=>fr
 | _=>zd9 us fr
def zai:List (List Nat)→List AFrame→List AFrame
 | us::r,f::fs=>zh1 us f::zai r fs
 | [],fs=>fs
 | _::_,[]=>[]
def AV.ref:AV→Option Nat
 | .ptr i _ _=>some i
 | .slc i _ _ _ _=>some i
 | .mp i=>some i
 | _=>none
def zku (objs:T AObj) (v:AV):Bool:=match v.ref with
 | none=>true
 | some i=>match objs.get i with
  | none=>false
  | some _=>true
def zi4 (objs:T AObj) (t:T AV) (o:Oper):Bool:=match zX o.op with
 | false=>true
 | true=>match o.dst with
  | none=>false
  | some u=>match t.get u with
   | none=>false
   | some v=>zku objs v
def zkv (objs:T AObj) (t:T AV) (o:Option Oper):Bool:=match o with
 | none=>true
 | some o=>zi4 objs t o
def zks (objs:T AObj) (fr:AFrame):Bool:=match fr.todo with
 | .drw all _ dn::_=>dn.all fun p=>zkv objs fr.tmps all[p]?
 | _=>true
def zif:List Nat→T AV→T AV
 | [],t=>t
 | u::r,t=>zif r (t.set none u)
def zgl (us:List Nat) (fr:AFrame):AFrame:=match fr with
 | ⟨fn,n,t,todo,ds,mode,kind,round⟩=>⟨fn,n,zif us t,todo,ds,mode,kind,round⟩
def wl:List (List Nat)→List AFrame→List AFrame
 | us::r,f::fs=>zgl us f::wl r fs
 | [],fs=>fs
 | _::_,[]=>[]
def zcV (fr:AFrame):Bool:=match fr.todo with
 | .drw _ _ _::_=>false
 | _=>true
def zjO:List Nat→Code→Code
 | [],c=>c
 | d::p,c=>match c with
  | .seq a b=>zjO p (bif Nat.beq d 0 then a else b)
  | .cond _ a b=>zjO p (bif Nat.beq d 0 then a else b)
  | .rangeFunc _ _ a b=>zjO p (bif Nat.beq d 0 then a else b)
  | .block _ b=>zjO p b
  | .loop b=>zjO p b
  | .scope b=>zjO p b
  | c=>c
def cd (f:FuncId) (p:List Nat):Code:=match P.funcs[f]? with
 | none=>.skip
 | some fn=>match fn.body with
  | none=>.skip
  | some c=>zjO p c
def rg (f:FuncId) (p:List Nat):Array Oper:=match cd P f p with
 | .region _ ops _=>ops
 | _=>#[]
end
section
variable {P:Program} {w0:Env} {base:List Frame}
theorem zel {α:Type}{t:T α}:∀ {ids:List Nat} {acc:T α},(∀ i o,acc.get i=some o→t.get i=some o)→∀ i o,(zfB t ids acc).get i=some o→t.get i=some o
 | [],_,h=>h
 | j::r,acc,h=>by
  intro i o e
  rw [zfB,T.seq_eq] at e
  refine zel (acc:=acc.set (t.get j) j) (fun i o e=>?_) i o e
  rw [T.get_set] at e
  by_cases hi:i=j
  · subst hi; rwa [if_pos rfl] at e
  · rw [if_neg hi] at e; exact h i o e
noncomputable def Base.only (B:Base) (h:AHeap):Base:={ B with pend:=fun i=>match h.get i with
 | none=>none
 | some _=>B.pend i }
theorem Slots.drop {R:Bij}{a:Array Value}:∀ {us:List Nat} {t:T AV},Slots R t a→Slots R (zif us t) a
 | [],_,k=>k
 | u::r,t,k=>Slots.drop (us:=r) (t:=t.set none u) fun x v e=>by
  rw [T.get_set] at e
  split at e
  · cases e
  · exact k x v e
theorem FrameRel.plain {B B':Base}{R:Bij}{d:Nat}{sus:Bool}{h h':AHeap}{af:AFrame}{fr:Frame}{us:List Nat}(hp:zcV (zgl us af)=true)(k:FrameRel P B R d sus h af fr):FrameRel P B' R d sus h' (zgl us af) fr:=by
 obtain ⟨fn,n,t,todo,ds,mode,kind,round⟩:=af
 obtain ⟨k1,k2,k3,k4,k5,k6,k7,k8,k9⟩:=k
 refine ⟨k1,k2,k3,k4,k5,k6,k7,k8,?_⟩
 cases mode with
 | run =>
  have k9:TodoRel P B R d sus h todo t fr.todo fr.tmps:=k9
  show TodoRel P B' R d sus h' todo (zif us t) fr.todo fr.tmps
  cases todo with
  | nil=>exact ⟨k9.1,k9.2.drop⟩
  | cons it kk =>
   cases it with
   | drw a b c=>cases hp
   | _=>exact ⟨k9.1,k9.2.drop⟩
 | returning=>exact Slots.drop k9
 | panicking c=>exact Slots.drop k9
theorem w5 (af:AFrame):zgl [] af=af:=by cases af; rfl
theorem vE:∀ (dr:List (List Nat)) (as:List AFrame),(wl dr as).length=as.length
 | [],as=>by cases as <;> rfl
 | _::_,[]=>rfl
 | us::dr,a::as=>by simp [wl,vE dr as]
theorem StackRel.plain {B B':Base}{R:Bij}{h h':AHeap}:∀ {dr:List (List Nat)} {as:List AFrame} {fs:List Frame},(wl dr as).all zcV=true→StackRel P B R h as fs→StackRel P B' R h' (wl dr as) fs
 | [],[],_,_,k=>k
 | _::_,[],_,_,k=>k
 | [],a::as,fs,hp,⟨f,r,e,k1,k2⟩=>by
  rw [show wl [] (a::as)=a::as from rfl,List.all_cons,Bool.and_eq_true] at hp
  have g1:FrameRel P B' R as.length true h' a f:=by
   have:=k1.plain (B':=B') (h':=h') (us:=[]) (by rw [w5]; exact hp.1)
   rwa [w5] at this
  have g2:=StackRel.plain (B':=B') (h':=h') (dr:=[]) (as:=as) (by rw [show wl [] as=as by cases as <;> rfl]; exact hp.2) k2
  rw [show wl [] as=as by cases as <;> rfl] at g2
  exact ⟨f,r,e,g1,g2⟩
 | us::dr,a::as,fs,hp,⟨f,r,e,k1,k2⟩=>by
  rw [show wl (us::dr) (a::as)=zgl us a::wl dr as from rfl,List.all_cons,Bool.and_eq_true] at hp
  exact ⟨f,r,e,by rw [vE]; exact k1.plain hp.1,StackRel.plain hp.2 k2⟩
theorem Slots.keep {R:Bij}{a:Array Value}{us:List Nat}{t:T AV}(k:Slots R t a):Slots R (zfB t us .leaf) a:=fun u v e =>
 k u v (zel (acc:=.leaf) (fun _ _ e=>by cases e) u v e)
theorem FrameRel.plainK {B B':Base}{R:Bij}{d:Nat}{sus:Bool}{h h':AHeap}{af:AFrame}{fr:Frame}{us:List Nat}(hp:zcV (zd9 us af)=true)(k:FrameRel P B R d sus h af fr):FrameRel P B' R d sus h' (zd9 us af) fr:=by
 obtain ⟨fn,n,t,todo,ds,mode,kind,round⟩:=af
 obtain ⟨k1,k2,k3,k4,k5,k6,k7,k8,k9⟩:=k
 refine ⟨k1,k2,k3,k4,k5,k6,k7,k8,?_⟩
 cases mode with
 | run =>
  have k9:TodoRel P B R d sus h todo t fr.todo fr.tmps:=k9
  show TodoRel P B' R d sus h' todo (zfB t us .leaf) fr.todo fr.tmps
  cases todo with
  | nil=>exact ⟨k9.1,k9.2.keep⟩
  | cons it kk =>
   cases it with
   | drw a b c=>cases hp
   | _=>exact ⟨k9.1,k9.2.keep⟩
 | returning=>exact Slots.keep k9
 | panicking c=>exact Slots.keep k9
theorem vd:∀ (dr:List (List Nat)) (as:List AFrame),(wr dr as).length=as.length
 | [],as=>by cases as <;> rfl
 | _::_,[]=>rfl
 | us::dr,a::as=>by simp [wr,vd dr as]
theorem StackRel.plainK {B B':Base}{R:Bij}{h h':AHeap}:∀ {dr:List (List Nat)} {as:List AFrame} {fs:List Frame},(wr dr as).all zcV=true→StackRel P B R h as fs→StackRel P B' R h' (wr dr as) fs
 | [],[],_,_,k=>k
 | _::_,[],_,_,k=>k
 | [],a::as,fs,hp,⟨f,r,e,k1,k2⟩=>by
  rw [show wr [] (a::as)=a::as from rfl,List.all_cons,Bool.and_eq_true] at hp
  have g1:FrameRel P B' R as.length true h' a f:=by
   have:=k1.plain (B':=B') (h':=h') (us:=[]) (by rw [w5]; exact hp.1)
   rwa [w5] at this
  have g2:=StackRel.plainK (B':=B') (h':=h') (dr:=[]) (as:=as) (by rw [show wr [] as=as by cases as <;> rfl]; exact hp.2) k2
  rw [show wr [] as=as by cases as <;> rfl] at g2
  exact ⟨f,r,e,g1,g2⟩
 | us::dr,a::as,fs,hp,⟨f,r,e,k1,k2⟩=>by
  rw [show wr (us::dr) (a::as)=zd9 us a::wr dr as from rfl,List.all_cons,Bool.and_eq_true] at hp
  exact ⟨f,r,e,by rw [vd]; exact k1.plainK hp.1,StackRel.plainK hp.2 k2⟩
theorem zg1 {ρ:Operand→Option AV}{h h':AHeap}{op:Op}{v:AV}(hf:zX op=true)(e:opA P ρ h op=some (.val v h')):v.ref=some h.next:=by
 cases op with
 | alloc t =>
  change x6 P t ρ h=some _ at e
  unfold x6 vn at e
  split at e
  · cases e
  · obtain ⟨v',h2,e1,e2⟩:=zK e
    cases e2
    have:=(q7 e1).1 h
    rw [e1] at this; cases this; rfl
 | box t x =>
  change zaS P t x ρ h=some _ at e
  obtain ⟨a,ha,e⟩:=zi e
  obtain ⟨v',h2,e1,e2⟩:=zK e
  cases e2
  have:=(q7 e1).1 h
  rw [e1] at this; cases this; rfl
 | buildSlice t n parts =>
  change zG P t n parts ρ h=some _ at e
  unfold zG zR at e
  split at e
  · cases e
  · obtain ⟨v',h2,e1,e2⟩:=zK e
    cases e2
    obtain ⟨el,cells,b1,_⟩:=yM e1
    have:=b1 h
    rw [e1] at this; cases this; rfl
 | makeSlice t l c =>
  change zV P t l c ρ h=some _ at e
  obtain ⟨a,b,ha,hb,e⟩:=zZ e
  obtain ⟨v',h2,e1,e2⟩:=zK e
  cases e2
  obtain ⟨el,cells,n,m,b1,_⟩:=qm e1
  have:=b1 h
  rw [e1] at this; cases this; rfl
 | makeMap t r' =>
  cases r' with
  | none =>
   change some _=some _ at e
   cases e; rfl
  | some x=>cases hf
 | _=>cases hf
theorem Pend.only {B:Base}{d:Nat}{all:Array Oper}{t:T AV}{h h' h'':AHeap}{p:Nat}{o:Oper}(hh:zi4 h'.objs t o=true)(k:Pend P B d true all t h p o):Pend P (B.only h') d true all t h'' p o:=by
 obtain ⟨wt,k1,k2,k3⟩:=k
 refine ⟨wt,k1,k2,fun hw=>?_⟩
 rcases k3 hw with ⟨f1,vf,ob,id,f2,f3,f4,f5⟩ | ⟨f1,f2,v,f3,f4⟩ | ⟨f1,f2,f3,_⟩
 · refine .inl ⟨f1,vf,ob,id,f2,?_,f4,f5⟩
   unfold zi4 at hh
   rw [f1] at hh
   simp only at hh
   split at hh
   · cases hh
   · rename_i u hu
     have hr:(vf id).ref=some id:=by
      have:=zg1 f1 (f2.1 ⟨.leaf,id,.leaf⟩)
      exact this
     rw [f5 u hu] at hh
     simp only [zku,hr] at hh
     simp only [Base.only]
     show (match h'.objs.get id with | none=>none | some _=>B.pend id)=some ob
     split at hh
     · cases hh
     · rename_i q hq
       exact f3
 · exact .inr (.inl ⟨f1,f2,v,f3,f4⟩)
 · exact .inr (.inr ⟨f1,f2,f3,.inl rfl⟩)
theorem FrameRel.held {B:Base}{R:Bij}{d:Nat}{h h' h'':AHeap}{af:AFrame}{fr:Frame}{us:List Nat}(hp:zks h'.objs (zh1 us af)=true)(k:FrameRel P B R d true h af fr):FrameRel P (B.only h') R d true h'' (zh1 us af) fr:=by
 obtain ⟨fn,n,t,todo,ds,mode,kind,round⟩:=af
 have plain:zcV (zd9 us ⟨fn,n,t,todo,ds,mode,kind,round⟩)=true→FrameRel P (B.only h') R d true h'' (zd9 us ⟨fn,n,t,todo,ds,mode,kind,round⟩) fr:=fun hp=>k.plainK hp
 cases todo with
 | nil=>exact plain rfl
 | cons it kk =>
  cases it with
  | drw all l dn =>
   obtain ⟨k1,k2,k3,k4,k5,k6,k7,k8,k9⟩:=k
   refine ⟨k1,k2,k3,k4,k5,k6,k7,k8,?_⟩
   cases mode with
   | run =>
    obtain ⟨s,k',e1,e2,e3⟩:=(show ∃ s k',fr.todo=.inRegion all s::k'∧All2 (ItemRel R) kk k'∧Drw P B R d true all l dn t h fr.tmps s from k9)
    refine ⟨s,k',e1,e2,⟨e3.plan,e3.split,e3.topo,e3.rest,e3.own,e3.effs,e3.head,e3.slots,fun p h1 h2 o ho=>?_,e3.bound⟩⟩
    refine (e3.pend p h1 h2 o ho).only ?_
    have:=List.all_eq_true.1 (show (dn.all fun p=>zkv h'.objs t all[p]?)=true from hp) p h1
    rw [ho] at this
    exact this
   | returning=>exact k9
   | panicking c=>exact k9
  | _=>exact plain rfl
theorem vi:∀ (dr:List (List Nat)) (as:List AFrame),(zai dr as).length=as.length
 | [],as=>by cases as <;> rfl
 | _::_,[]=>rfl
 | us::dr,a::as=>by simp [zai,vi dr as]
theorem StackRel.held {B:Base}{R:Bij}{h h' h'':AHeap}:∀ {dr:List (List Nat)} {as:List AFrame} {fs:List Frame},dr.length=as.length→(zai dr as).all (zks h'.objs)=true→StackRel P B R h as fs→StackRel P (B.only h') R h'' (zai dr as) fs
 | [],[],_,_,_,k=>k
 | _::_,[],_,e,_,_=>by cases e
 | [],_::_,_,e,_,_=>by cases e
 | us::dr,a::as,fs,hl,hp,⟨f,r,e,k1,k2⟩=>by
  rw [show zai (us::dr) (a::as)=zh1 us a::zai dr as from rfl,List.all_cons,Bool.and_eq_true] at hp
  exact ⟨f,r,e,by rw [vi]; exact k1.held hp.1,StackRel.held (by simpa using hl) hp.2 k2⟩
end
end Go.Proofs.Ytcdpmiebmhjmpaa.Ev
end
section
namespace Go.Proofs.Ytcdpmiebmhjmpaa.Ev
open Go
noncomputable section
variable (P:Program)
abbrev Tab:=List (Nat × Option Nat)
def zdQ (j:Nat):Tab→Nat→Option (Nat × Option Nat)
 | [],_=>none
 | (k,t)::r,i=>bif Nat.beq k j then some (i,t) else zdQ j r (i+1)
def Tab.find (tb:Tab) (j:Nat):Option (Nat × Option Nat):=zdQ j tb 0
def Tab.ver (tb:Tab) (j s:Nat):Option (Nat × Nat):=match tb.find j with
 | none=>none
 | some (i,none)=>some (i,s)
 | some (i,some t)=>bif Nat.beq t s then some (i,0) else none
def Tab.re (tb:Tab) (R:Bij):Bij:=fun i r=>match tb[i]? with
 | none=>none
 | some (j,none)=>R j r
 | some (j,some t)=>if r=0 then R j t else none
def idG (g:Nat→Nat→Option (Nat × Nat)) (j:Nat):Option Nat:=match g j 0 with
 | none=>none
 | some (i,r)=>bif Nat.beq r 0 then some i else none
mutual
def zdr (g:Nat→Nat→Option (Nat × Nat)):Nat→AV→Option AV
 | 0,_=>none
 | n+1,v=>match v with
  | .ptr i r o=>match g i r with
   | none=>none
   | some (j,s)=>some (.ptr j s o)
  | .slc i r o l c=>match g i r with
   | none=>none
   | some (j,s)=>some (.slc j s o l c)
  | .slg i r o l c=>match g i r with
   | none=>none
   | some (j,s)=>some (.slg j s o l c)
  | .mp i=>match idG g i with
   | none=>none
   | some j=>some (.mp j)
  | .yld i=>match idG g i with
   | none=>none
   | some j=>some (.yld j)
  | .fn f a b=>match zgc g n a,zgc g n b with
   | some a,some b=>some (.fn f a b)
   | _,_=>none
  | .ifc t v=>match zdr g n v with
   | none=>none
   | some v=>some (.ifc t v)
  | .agg l=>match zgc g n l with
   | none=>none
   | some l=>some (.agg l)
  | .tup l=>match zgc g n l with
   | none=>none
   | some l=>some (.tup l)
  | v=>some v
def zgc (g:Nat→Nat→Option (Nat × Nat)):Nat→List AV→Option (List AV)
 | 0,_=>none
 | n+1,l=>match l with
  | []=>some []
  | v::r=>match zdr g n v with
   | none=>none
   | some v=>match zgc g n r with
    | none=>none
    | some r=>some (v::r)
end
mutual
def wp:Nat→AV→Bool
 | 0,_=>false
 | n+1,v=>match v with
  | .ptr .. | .slc .. | .slg .. | .mp _ | .yld _=>false
  | .fn _ a b=>jy n a&&jy n b
  | .ifc _ v=>wp n v
  | .agg l | .tup l=>jy n l
  | _=>true
def jy:Nat→List AV→Bool
 | 0,_=>false
 | n+1,l=>match l with
  | []=>true
  | v::r=>wp n v&&jy n r
end
def wO (f:Nat→Option AV):Prop:=∀ k v,f k=some v→wp 99 v=true
def zi0 {α:Type} (t:T α):List (Nat→Option α) :=
 T.rec (motive:=fun _=>List (Nat→Option α)) [] (fun _ _ _ l r=>l++r) (fun f=>[f]) t
def zd1 (g:Nat→Nat→Option (Nat × Nat)) (v:Option AV) (l r:Option (T AV)):Option (T AV):=match l with
 | none=>none
 | some l=>match r with
  | none=>none
  | some r=>match v with
   | none=>some (.node l none r)
   | some v=>match zdr g 99 v with
    | none=>none
    | some v=>some (.node l (some v) r)
def zj0 (g:Nat→Nat→Option (Nat × Nat)) (t:T AV):Option (T AV) :=
 T.rec (motive:=fun _=>Option (T AV)) (some .leaf) (fun _ v _ l r=>zd1 g v l r) (fun f=>some (.fn f)) t
def zg8 (g:Nat→Nat→Option (Nat × Nat)) (t:T AV):List Nat→T AV→Option (T AV)
 | [],acc=>some acc
 | u::r,acc=>match t.get u with
  | none=>none
  | some v=>match zdr g 99 v with
   | none=>none
   | some v=>(acc.set (some v) u).seq fun acc=>zg8 g t r acc
def zeg (g:Nat→Nat→Option (Nat × Nat)):ATgt→Option ATgt
 | .fn f c=>match zgc g 99 c with
  | none=>none
  | some c=>some (.fn f c)
 | .nil=>some .nil
 | .collected i=>match idG g i with
  | none=>none
  | some j=>some (.collected j)
def zeo (g:Nat→Nat→Option (Nat × Nat)) (d:ADef):Option ADef:=match zeg g d.tgt with
 | none=>none
 | some t=>match zgc g 99 d.args with
  | none=>none
  | some a=>some ⟨t,a⟩
def zhe {α β:Type} (f:α→Option β):List α→Option (List β)
 | []=>some []
 | a::r=>match f a with
  | none=>none
  | some b=>match zhe f r with
   | none=>none
   | some r=>some (b::r)
def zhf (g:Nat→Nat→Option (Nat × Nat)) (e:AEntry):Option AEntry:=match zdr g 99 e.key with
 | none=>none
 | some k=>match zdr g 99 e.val with
  | none=>none
  | some v=>some ⟨k,v,e.born⟩
def zds (g:Nat→Nat→Option (Nat × Nat)) (t:Option Nat):AObj→Option AObj
 | .cells c n el lo hi nv fz sg ex=>match zj0 g c with
  | none=>none
  | some c=>match t with
   | none=>some (.cells c n el lo hi nv fz sg ex)
   | some h=>bif Nat.beq h hi&&Nat.ble lo hi then some (.cells c n el 0 0 1 fz sg .leaf) else none
 | o=>match t with
  | some _=>none
  | none=>match o with
   | .map es clock=>match zhe (zhf g) es with
    | none=>none
    | some es=>some (.map es clock)
   | .iter s p=>some (.iter s p)
   | .ro c lo n=>some (.ro c lo n)
   | .dfrd none=>some (.dfrd none)
   | .dfrd (some ds)=>match zhe (zeo g) ds with
    | none=>none
    | some ds=>some (.dfrd (some ds))
   | .loop ⟨st,pe,fn,n,tmps,ps,asg,body,df⟩=>match zj0 g tmps with
    | none=>none
    | some tmps=>match idG g df with
     | none=>none
     | some df=>some (.loop ⟨st,pe,fn,n,tmps,ps,asg,body,df⟩)
   | _=>none
def zkp:AObj→List (Nat→Option AV)
 | .cells c ..=>zi0 c
 | .loop l=>zi0 l.tmps
 | _=>[]
def wQ (tb:Tab) (objs:T AObj):Tab→Nat→T AObj→Option (T AObj)
 | [],_,acc=>some acc
 | (j,t)::r,i,acc=>match objs.get j with
  | none=>none
  | some o=>match zds tb.ver t o with
   | none=>none
   | some o=>(acc.set (some o) i).seq fun acc=>wQ tb objs r (i+1) acc
def zjQ (objs:T AObj):Tab→List (Nat→Option AV)
 | []=>[]
 | (j,_)::r=>match objs.get j with
  | none=>[]
  | some o=>zkp o++zjQ objs r
def kl (tb:Tab) (h:AHeap):Option AHeap:=match h with
 | ⟨objs,next,glob⟩=>bif tb.all (fun p=>Nat.blt p.1 next) then match wQ tb objs tb 0 .leaf with
  | none=>none
  | some objs=>some ⟨objs,tb.length,glob⟩ else none
def vL (g:Nat→Nat→Option (Nat × Nat)):AItem→Option AItem
 | .inRange i=>match idG g i with
  | none=>none
  | some j=>some (.inRange j)
 | .endRange i=>match idG g i with
  | none=>none
  | some j=>some (.endRange j)
 | .drw ..=>none
 | it=>some it
def zb4 (g:Nat→Nat→Option (Nat × Nat)):AMode→Option AMode
 | .run=>some .run
 | .returning=>some .returning
 | .panicking c=>match zhe (fun (p:AV × Bool)=>match zdr g 99 p.1 with
  | none=>none
  | some v=>some (v,p.2)) c with
  | none=>none
  | some c=>some (.panicking c)
def zb1 (g:Nat→Nat→Option (Nat × Nat)):Option Nat→Option (Option Nat)
 | none=>some none
 | some l=>match idG g l with
  | none=>none
  | some j=>some (some j)
def zju (g:Nat→Nat→Option (Nat × Nat)) (us:List Nat) (fr:AFrame):Option AFrame:=match fr with
 | ⟨fn,n,t,todo,ds,mode,kind,round⟩=>match zg8 g t us .leaf with
  | none=>none
  | some t=>match zhe (vL g) todo with
   | none=>none
   | some todo=>match zhe (zeo g) ds with
    | none=>none
    | some ds=>match zb4 g mode with
     | none=>none
     | some mode=>match zb1 g round with
      | none=>none
      | some round=>some ⟨fn,n,t,todo,ds,mode,kind,round⟩
def zhh (g:Nat→Nat→Option (Nat × Nat)):List (List Nat)→List AFrame→Option (List AFrame)
 | us::r,f::fs=>match zju g us f with
  | none=>none
  | some f=>match zhh g r fs with
   | none=>none
   | some fs=>some (f::fs)
 | [],[]=>some []
 | _,_=>none
def v9 (keep:Nat) (objs:T AObj):List Nat→Nat→Tab
 | [],_=>[]
 | j::r,i=>(j,bif Nat.blt i keep then none else match objs.get j with
  | some (.cells _ _ _ lo hi ..)=>bif Nat.beq lo hi then some hi else none
  | _=>none)::v9 keep objs r (i+1)
def nodup:List Nat→Bool
 | []=>true
 | i::r=>!(r.any fun j=>Nat.beq i j)&&nodup r
def zfA:List Nat→Nat→Nat→Bool
 | _,0,_=>true
 | [],_+1,_=>false
 | j::r,k+1,i=>Nat.beq j i&&zfA r k (i+1)
def zj3 (keep:Nat) (ids:List Nat) (us:List Nat) (uss:List (List Nat)) (m:AM):Option AM:=match m with
 | ⟨top,rest,heap⟩=>bif nodup ids&&zfA ids keep 0 then
  match kl (v9 keep heap.objs ids 0) heap with
  | none=>none
  | some h=>match zju (v9 keep heap.objs ids 0).ver us top with
   | none=>none
   | some top=>match zhh (v9 keep heap.objs ids 0).ver uss rest with
    | none=>none
    | some rest=>some ⟨top,rest,h⟩
  else none
def w7:List (Nat→Option AV)→Prop→Prop
 | [],K=>K
 | f::r,K=>wO f∧w7 r K
def CanP (keep:Nat) (ids us:List Nat) (uss:List (List Nat)) (m:AM) (K:AM→Prop):Prop:=match zj3 keep ids us uss m with
 | none=>False
 | some m'=>w7 (zjQ m.heap.objs (v9 keep m.heap.objs ids 0)) (K m')
end
section
variable {P:Program} {tb:Tab} {R:Bij}
theorem qW {j:Nat}:∀ {l:Tab} {i i':Nat} {t:Option Nat},zdQ j l i=some (i',t)→i≤i'∧l[i' - i]?=some (j,t)
 | [],_,_,_,e=>by cases e
 | (k,t0)::r,i,i',t,e=>by
  unfold zdQ at e
  cases hb:Nat.beq k j with
  | true =>
   rw [hb] at e; cases e
   rw [Nat.eq_of_beq_eq_true hb]
   exact ⟨Nat.le_refl _,by simp⟩
  | false =>
   rw [hb] at e
   obtain ⟨h1,h2⟩:=qW (l:=r) e
   refine ⟨by omega,?_⟩
   rw [show i' - i=(i' - (i+1))+1 by omega,List.getElem?_cons_succ]
   exact h2
theorem Tab.ver_some {j s i r:Nat}(e:tb.ver j s=some (i,r)):∀ L,R j s=some L→tb.re R i r=some L:=by
 intro L hL
 unfold Tab.ver at e
 split at e
 · cases e
 · rename_i i' hf
   cases e
   have:=(qW hf).2
   simp only [Nat.sub_zero] at this
   simp only [Tab.re,this]
   exact hL
 · rename_i i' t hf
   have:=(qW hf).2
   simp only [Nat.sub_zero] at this
   cases hb:Nat.beq t s with
   | false=>rw [hb] at e; cases e
   | true =>
    rw [hb] at e; cases e
    have:=Nat.eq_of_beq_eq_true hb
    simp only [Tab.re, *,if_true]
mutual
theorem wg {R':Bij}:∀ (n:Nat) (v:AV) (x:Value),wp n v=true→VRel R v x→VRel R' v x
 | 0,_,_,e,_=>by simp [wp] at e
 | n+1,v,x,e,k=>by
  cases v <;> simp only [wp,Bool.and_eq_true,Bool.false_eq_true] at e
  case fn f a b =>
   obtain ⟨h0,p,q,h1,h2,h3⟩:=k
   exact ⟨h0,p,q,h1,yR n _ _ e.1 h2,yR n _ _ e.2 h3⟩
  case ifc t y =>
   obtain ⟨z,h1,h2⟩:=k
   exact ⟨z,h1,wg n _ _ e h2⟩
  case agg l =>
   obtain ⟨z,h1,h2⟩:=k
   exact ⟨z,h1,yR n _ _ e h2⟩
  case tup l =>
   obtain ⟨z,h1,h2⟩:=k
   exact ⟨z,h1,yR n _ _ e h2⟩
  all_goals exact k
theorem yR {R':Bij}:∀ (n:Nat) (l:List AV) (x:List Value),jy n l=true→VRels R l x→VRels R' l x
 | 0,_,_,e,_=>by simp [jy] at e
 | n+1,l,x,e,k=>by
  cases l with
  | nil=>exact k
  | cons v r =>
   simp only [jy,Bool.and_eq_true] at e
   obtain ⟨y,ys,h1,h2,h3⟩:=k
   exact ⟨y,ys,h1,wg n _ _ e.1 h2,yR n _ _ e.2 h3⟩
end
def RenOk (g:Nat→Nat→Option (Nat × Nat)) (R R':Bij):Prop:=∀ j s i r,g j s=some (i,r)→∀ L,R j s=some L→R' i r=some L
theorem Tab.ok (tb:Tab)(R:Bij):RenOk tb.ver R (tb.re R):=fun _ _ _ _ e=>Tab.ver_some e
end
section
variable {P:Program} {g:Nat→Nat→Option (Nat × Nat)} {R R':Bij} (hg:RenOk g R R')
include hg
theorem RenOk.id {j i:Nat}(e:idG g j=some i):∀ L,R j 0=some L→R' i 0=some L:=by
 unfold idG at e
 split at e
 · cases e
 · rename_i i' r hv
   cases hb:Nat.beq r 0 with
   | false=>rw [hb] at e; cases e
   | true =>
    rw [hb] at e; cases e
    have:=Nat.eq_of_beq_eq_true hb
    subst this
    exact hg _ _ _ _ hv
mutual
theorem yA:∀ (n:Nat) (v v':AV) (x:Value),zdr g n v=some v'→VRel R v x→VRel R' v' x
 | 0,_,_,_,e,_=>by simp [zdr] at e
 | n+1,v,v',x,e,k=>by
  cases v <;> simp only [zdr] at e
  case ptr i r o =>
   split at e
   · cases e
   · rename_i j s hv; cases e
     obtain ⟨L,h1,h2⟩:=k
     exact ⟨L,hg _ _ _ _ hv L h1,h2⟩
  case slc i r o l c =>
   split at e
   · cases e
   · rename_i j s hv; cases e
     obtain ⟨L,h1,h2⟩:=k
     exact ⟨L,hg _ _ _ _ hv L h1,h2⟩
  case slg i r o l c =>
   split at e
   · cases e
   · rename_i j s hv; cases e
     obtain ⟨L,a,h1,h2⟩:=k
     exact ⟨L,a,hg _ _ _ _ hv L h1,h2⟩
  case mp i =>
   split at e
   · cases e
   · rename_i j hv; cases e
     obtain ⟨L,h1,h2⟩:=k
     exact ⟨L,hg.id hv L h1,h2⟩
  case yld i =>
   split at e
   · cases e
   · rename_i j hv; cases e
     obtain ⟨L,h1,h2⟩:=k
     exact ⟨L,hg.id hv L h1,h2⟩
  case fn f a b =>
   split at e
   · rename_i a' b' ha hb
     cases e
     obtain ⟨h0,p,q,h1,h2,h3⟩:=k
     exact ⟨h0,p,q,h1,qc n _ _ _ ha h2,qc n _ _ _ hb h3⟩
   · cases e
  case ifc t y =>
   split at e
   · cases e
   · rename_i y' hy; cases e
     obtain ⟨z,h1,h2⟩:=k
     exact ⟨z,h1,yA n _ _ _ hy h2⟩
  case agg l =>
   split at e
   · cases e
   · rename_i y' hy; cases e
     obtain ⟨z,h1,h2⟩:=k
     exact ⟨z,h1,qc n _ _ _ hy h2⟩
  case tup l =>
   split at e
   · cases e
   · rename_i y' hy; cases e
     obtain ⟨z,h1,h2⟩:=k
     exact ⟨z,h1,qc n _ _ _ hy h2⟩
  all_goals (cases e; exact k)
theorem qc:∀ (n:Nat) (l l':List AV) (x:List Value),zgc g n l=some l'→VRels R l x→VRels R' l' x
 | 0,_,_,_,e,_=>by simp [zgc] at e
 | n+1,l,l',x,e,k=>by
  have _:=hg
  cases l with
  | nil=>simp only [zgc] at e; cases e; exact k
  | cons v r =>
   simp only [zgc] at e
   split at e
   · cases e
   · rename_i v' hv
     split at e
     · cases e
     · rename_i r' hr
       cases e
       obtain ⟨y,ys,h1,h2,h3⟩:=k
       exact ⟨y,ys,h1,yA n _ _ _ hv h2,qc n _ _ _ hr h3⟩
end
omit hg in
theorem zg4 {α:Type}(l:T α)(v:Option α)(r:T α):zi0 (.node l v r)=zi0 l++zi0 r:=rfl
omit hg in
theorem zbt:∀ {t t':T AV},zj0 g t=some t'→(∀ f∈zi0 t,wO f)→∀ u v',t'.get u=some v'→∃ v,t.get u=some v∧(zdr g 99 v=some v'∨v'=v∧wp 99 v=true)
 | .leaf,t',e,_,u,v',gg=>by cases e; cases gg
 | .fn f,t',e,hp,u,v',gg=>by cases e; exact ⟨v',gg,.inr ⟨rfl,hp f (by simp [zi0]) u v' gg⟩⟩
 | .node l v r,t',e,hp,u,v',gg=>by
  change zd1 g v (zj0 g l) (zj0 g r)=some t' at e
  unfold zd1 at e
  rw [zg4] at hp
  split at e
  · cases e
  · rename_i l' hl
    split at e
    · cases e
    · rename_i r' hr
      have step:∀ {w w':Option AV},t'=.node l' w' r'→(∀ x,w'=some x→∃ y,w=some y∧zdr g 99 y=some x)→v=w→∃ v,(T.node l w r).get u=some v∧(zdr g 99 v=some v'∨v'=v∧wp 99 v=true):=by
       intro w w' ht hw _
       subst ht
       rw [T.get_node] at gg ⊢
       split at gg
       · obtain ⟨y,h1,h2⟩:=hw v' gg
         subst h1
         exact ⟨y,by rw [if_pos (by assumption)],.inl h2⟩
       · rename_i h0
         rw [if_neg h0]
         split at gg
         · rename_i h1
           rw [if_pos h1]
           exact zbt hl (fun f hf=>hp f (List.mem_append_left _ hf)) _ v' gg
         · rename_i h1
           rw [if_neg h1]
           exact zbt hr (fun f hf=>hp f (List.mem_append_right _ hf)) _ v' gg
      split at e
      · cases e
        exact step rfl (fun x hx=>by cases hx) rfl
      · rename_i y
        split at e
        · cases e
        · rename_i y' hy
          cases e
          exact step rfl (fun x hx=>by cases hx; exact ⟨y,rfl,hy⟩) rfl
theorem zen {t t':T AV}(e:zj0 g t=some t')(hp:∀ f∈zi0 t,wO f){u:Nat}{v':AV}(g:t'.get u=some v'):∃ v,t.get u=some v∧∀ x,VRel R v x→VRel R' v' x:=by
 obtain ⟨v,h1,h2⟩:=zbt e hp u v' g
 refine ⟨v,h1,fun x k=>?_⟩
 rcases h2 with h2 | ⟨rfl,h2⟩
 · exact yA hg 99 _ _ _ h2 k
 · exact wg 99 _ _ h2 k
omit hg in
theorem zb9 {t:T AV}:∀ {us:List Nat} {acc t':T AV},zg8 g t us acc=some t'→(∀ u v',acc.get u=some v'→∃ v,t.get u=some v∧zdr g 99 v=some v')→∀ u v',t'.get u=some v'→∃ v,t.get u=some v∧zdr g 99 v=some v'
 | [],acc,t',e,h=>by cases e; exact h
 | u0::r,acc,t',e,h=>by
  unfold zg8 at e
  split at e
  · cases e
  · rename_i v0 h0
    split at e
    · cases e
    · rename_i v1 h1
      rw [T.seq_eq] at e
      refine zb9 e fun u v' g=>?_
      rw [T.get_set] at g
      split at g
      · rename_i hu
        cases g
        rw [hu]
        exact ⟨v0,h0,h1⟩
      · exact h u v' g
omit hg in
theorem qZ {α β γ:Type}{f:α→Option β}{r:α→γ→Prop}{r':β→γ→Prop}(h:∀ a b c,f a=some b→r a c→r' b c):∀ {l:List α} {l':List β} {m:List γ},zhe f l=some l'→All2 r l m→All2 r' l' m
 | [],_,_,e,k=>by cases e; exact k
 | a::l,l',m,e,k=>by
  unfold zhe at e
  split at e
  · cases e
  · rename_i b hb
    split at e
    · cases e
    · rename_i r0 hr0
      cases e
      obtain ⟨c,cs,h1,h2,h3⟩:=k
      exact ⟨c,cs,h1,h _ _ _ hb h2,qZ h hr0 h3⟩
theorem zfg {t t':ATgt}{x:Target}(e:zeg g t=some t')(k:TgtRel R t x):TgtRel R' t' x:=by
 cases t with
 | fn f c =>
  simp only [zeg] at e
  split at e
  · cases e
  · rename_i c' hc
    cases e
    obtain ⟨h0,l,h1,h2⟩:=k
    exact ⟨h0,l,h1,qc hg 99 _ _ _ hc h2⟩
 | nil=>cases e; exact k
 | collected i =>
  simp only [zeg] at e
  split at e
  · cases e
  · rename_i j hj
    cases e
    obtain ⟨L,h1,h2⟩:=k
    exact ⟨L,hg.id hj L h1,h2⟩
theorem zaF {d d':ADef}{x:Deferred}(e:zeo g d=some d')(k:DefRel R d x):DefRel R' d' x:=by
 unfold zeo at e
 split at e
 · cases e
 · rename_i t ht
   split at e
   · cases e
   · rename_i a ha
     cases e
     exact ⟨zfg hg ht k.1,qc hg 99 _ _ _ ha k.2⟩
theorem zfi {d d':AEntry}{x:MapEntry}(e:zhf g d=some d')(k:zhM R d x):zhM R' d' x:=by
 unfold zhf at e
 split at e
 · cases e
 · rename_i t ht
   split at e
   · cases e
   · rename_i a ha
     cases e
     exact ⟨yA hg 99 _ _ _ ht k.1,yA hg 99 _ _ _ ha k.2.1,k.2.2⟩
theorem zd5 {d d':AItem}{x:Item}(e:vL g d=some d')(k:ItemRel R d x):ItemRel R' d' x:=by
 cases d <;> simp only [vL] at e
 case inRange i =>
  split at e
  · cases e
  · rename_i j hj
    cases e
    obtain ⟨L,h1,h2⟩:=k
    exact ⟨L,hg.id hj L h1,h2⟩
 case endRange i =>
  split at e
  · cases e
  · rename_i j hj
    cases e
    obtain ⟨L,h1,h2⟩:=k
    exact ⟨L,hg.id hj L h1,h2⟩
 case drw=>cases e
 all_goals (cases e; exact k)
theorem zd0 {d d':AMode}{x:FrameMode}(e:zb4 g d=some d')(k:ModeRel R d x):ModeRel R' d' x:=by
 cases d <;> simp only [zb4] at e
 case panicking c =>
  split at e
  · cases e
  · rename_i c' hc
    cases e
    obtain ⟨l,h1,h2⟩:=k
    refine ⟨l,h1,qZ (fun a b z hab hz=>?_) hc h2⟩
    split at hab
    · cases hab
    · rename_i v hv
      cases hab
      exact ⟨yA hg 99 _ _ _ hv hz.1,hz.2⟩
 all_goals (cases e; exact k)
theorem zc8 {d d':Option Nat}{x:Option Nat}(e:zb1 g d=some d')(k:RoundRel R d x):RoundRel R' d' x:=by
 cases d <;> simp only [zb1] at e
 · cases e; exact k
 · split at e
   · cases e
   · rename_i j hj
     cases e
     obtain ⟨L,h1,h2⟩:=k
     exact ⟨L,hg.id hj L h1,h2⟩
theorem wN {t t':T AV}{us:List Nat}{a:Array Value}(e:zg8 g t us .leaf=some t')(k:Slots R t a):Slots R' t' a:=fun u v' g=>by
 obtain ⟨v,h1,h2⟩:=zb9 e (fun u v' g=>by cases g) u v' g
 obtain ⟨x,h3,h4⟩:=k u v h1
 exact ⟨x,h3,yA hg 99 _ _ _ h2 h4⟩
omit hg in
theorem vZ:∀ {l l':List AItem},zhe (vL g) l=some l'→∀ it∈l,∀ a b c,it≠.drw a b c
 | [],_,_,_,h=>absurd h List.not_mem_nil
 | a::l,l',e,it,hm=>by
  unfold zhe at e
  split at e
  · cases e
  · rename_i b hb
    split at e
    · cases e
    · rename_i r0 hr0
      rcases List.mem_cons.1 hm with h | h
      · subst h
        intro a b c h
        subst h; cases hb
      · exact vZ hr0 it h
omit hg in
theorem zbl {d d':AItem}(e:vL g d=some d'):∀ a b c,d'≠.drw a b c:=by
 intro a b c h
 subst h
 cases d <;> simp only [vL] at e
 case inRange i=>split at e <;> cases e
 case endRange i=>split at e <;> cases e
 all_goals cases e
theorem jm {B B':Base}{d d':Nat}{sus sus':Bool}{h h':AHeap}{af af':AFrame}{fr:Frame}{us:List Nat}(e:zju g us af=some af')(k:FrameRel P B R d sus h af fr):FrameRel P B' R' d' sus' h' af' fr:=by
 obtain ⟨fn,n,t,todo,ds,mode,kind,round⟩:=af
 simp only [zju] at e
 split at e
 · cases e
 rename_i t' ht
 split at e
 · cases e
 rename_i todo' htodo
 split at e
 · cases e
 rename_i ds' hds
 split at e
 · cases e
 rename_i mode' hmode
 split at e
 · cases e
 rename_i round' hround
 cases e
 obtain ⟨k1,k2,k3,k4,k5,k6,k7,k8,k9⟩:=k
 refine ⟨k1,k2,k3,k4,zc8 hg hround k5,qZ (r:=DefRel R) (r':=DefRel R') (fun _ _ _=>zaF hg) hds k6,zd0 hg hmode k7,k8,?_⟩
 have htr:∀ {a:Array Value} {ct:List Item},TodoRel P B R d sus h todo t ct a→TodoRel P B' R' d' sus' h' todo' t' ct a:=by
  intro a ct q
  have q':All2 (ItemRel R) todo ct∧Slots R t a:=by
   cases todo with
   | nil=>exact q
   | cons it kk =>
    cases it with
    | drw a b c=>exact absurd rfl (vZ htodo _ List.mem_cons_self a b c)
    | _=>exact q
  have g:All2 (ItemRel R') todo' ct∧Slots R' t' a:=⟨qZ (r:=ItemRel R) (r':=ItemRel R') (fun _ _ _=>zd5 hg) htodo q'.1,wN hg ht q'.2⟩
  cases todo' with
  | nil=>exact g
  | cons it kk =>
   cases it with
   | drw a b c =>
    exfalso
    cases todo with
    | nil=>cases htodo
    | cons i0 k0 =>
     unfold zhe at htodo
     split at htodo
     · cases htodo
     · rename_i b0 hb0
       split at htodo
       · cases htodo
       · cases htodo
         exact zbl hb0 a b c rfl
   | _=>exact g
 cases mode with
 | run=>cases hmode; exact htr k9
 | returning=>cases hmode; exact wN hg ht k9
 | panicking c =>
  simp only [zb4] at hmode
  split at hmode
  · cases hmode
  · cases hmode; exact wN hg ht k9
theorem zcO {B B':Base}{h h':AHeap}:∀ {uss:List (List Nat)} {as as':List AFrame} {fs:List Frame},zhh g uss as=some as'→StackRel P B R h as fs→StackRel P B' R' h' as' fs∧as'.length=as.length
 | [],[],_,_,e,k=>by cases e; exact ⟨k,rfl⟩
 | [],_::_,_,_,e,_=>by cases e
 | _::_,[],_,_,e,_=>by cases e
 | us::uss,a::as,as',fs,e,⟨f,r,e1,k1,k2⟩=>by
  simp only [zhh] at e
  split at e
  · cases e
  · rename_i a' ha
    split at e
    · cases e
    · rename_i r' hr
      cases e
      obtain ⟨g1,g2⟩:=zcO (B':=B') (h':=h') hr k2
      exact ⟨⟨f,r,e1,by rw [g2]; exact jm hg ha k1,g1⟩,by simp [g2]⟩
theorem zbB {w:World}{i j:Nat}{t:Option Nat}{o o':AObj}(hre:t=none→∀ r,R' i r=R j r)(hve:∀ t0,t=some t0→∀ r,R' i r=if r=0 then R j t0 else none)(e:zds g t o=some o')(hp:∀ f∈zkp o,wO f)(k:ObjRel P R w j o):ObjRel P R' w i o':=by
 cases o with
 | cells c n el lo hi' nv fz sg ex =>
  simp only [zds] at e
  split at e
  · cases e
  · rename_i c' hc
    obtain ⟨a1,a2,a3,a4,a5⟩:=k
    have hv:∀ {e L},VerRel P R w c el fz sg e L→VerRel P R' w c' el fz sg e L:=by
     intro e L ⟨cs,a,b,h1,h2,h3,h4,h5⟩
     refine ⟨cs,a,b,h1,h2,h3,h4,fun q v g1 g2 g3=>?_⟩
     obtain ⟨v0,q1,q2⟩:=zen hg hc hp g3
     obtain ⟨x,q3,q4⟩:=h5 q v0 g1 g2 q1
     exact ⟨x,q3,q2 x q4⟩
    split at e
    · cases e
      refine ⟨a1,a2,fun r hr=>by rw [hre rfl]; exact a3 r hr,fun r e b1 b2 b3=>?_,a5⟩
      obtain ⟨L,h1,h2⟩:=a4 r e b1 b2 b3
      exact ⟨L,by rw [hre rfl]; exact h1,hv h2⟩
    · rename_i t0
      cases hb:(Nat.beq t0 hi'&&Nat.ble lo hi') with
      | false=>rw [hb] at e; cases e
      | true =>
       rw [hb] at e; cases e
       rw [Bool.and_eq_true] at hb
       have ht:=Nat.eq_of_beq_eq_true hb.1
       subst ht
       refine ⟨Nat.le_refl _,by omega,fun r hr=>?_,fun r e b1 b2 b3=>?_,fun r e b1 b2 b3=>?_⟩
       · rw [hve _ rfl,if_neg (by omega)]
       · obtain rfl:r=0:=by omega
         simp only [zj,if_true,Option.some.injEq] at b3
         subst b3
         obtain ⟨L,h1,h2⟩:=a4 t0 n a1 (Nat.le_refl _) (by simp [zj])
         exact ⟨L,by rw [hve _ rfl,if_pos rfl]; exact h1,hv h2⟩
       · obtain rfl:r=0:=by omega
         simp only [zj,if_true,Option.some.injEq] at b3
         omega
 | map es clock =>
  simp only [zds] at e
  split at e
  · cases e
  · split at e
    · cases e
    · rename_i es' hes
      cases e
      obtain ⟨L,es0,h1,h2,h3⟩:=k
      exact ⟨L,es0,by rw [hre rfl]; exact h1,h2,qZ (r:=zhM R) (r':=zhM R') (fun _ _ _=>zfi hg) hes h3⟩
 | iter s p =>
  simp only [zds] at e
  split at e
  · cases e
  · cases e
    obtain ⟨L,h1,h2⟩:=k
    exact ⟨L,by rw [hre rfl]; exact h1,h2⟩
 | ro c lo n =>
  simp only [zds] at e
  split at e
  · cases e
  · cases e
    obtain ⟨L,cs,el,fz,h1,h2,h3,h4,h5⟩:=k
    exact ⟨L,cs,el,fz,by rw [hre rfl]; exact h1,h2,h3,h4,h5⟩
 | dfrd ds =>
  simp only [zds] at e
  split at e
  · cases e
  · obtain ⟨L,ds',h1,h2,h3⟩:=k
    cases ds with
    | none=>cases e; exact ⟨L,ds',by rw [hre rfl]; exact h1,h2,h3⟩
    | some ds =>
     simp only at e
     split at e
     · cases e
     · rename_i ds0 hds
       cases e
       obtain ⟨l,h4,h5⟩:=h3
       exact ⟨L,ds',by rw [hre rfl]; exact h1,h2,l,h4,qZ (r:=DefRel R) (r':=DefRel R') (fun _ _ _=>zaF hg) hds h5⟩
 | loop lp =>
  obtain ⟨st,pe,fn,n,tmps,ps,asg,body,df⟩:=lp
  simp only [zds] at e
  split at e
  · cases e
  · split at e
    · cases e
    · rename_i tmps' ht
      split at e
      · cases e
      · rename_i df' hdf
        cases e
        obtain ⟨L,lp',h1,h2,h3⟩:=k
        refine ⟨L,lp',by rw [hre rfl]; exact h1,h2,h3.state,h3.pending,h3.fn,⟨h3.tmps.1,fun u v' g=>?_⟩,h3.params,h3.assign,h3.body,?_⟩
        · obtain ⟨v,q1,q2⟩:=zen hg ht hp g
          obtain ⟨x,q3,q4⟩:=h3.tmps.2 u v q1
          exact ⟨x,q3,q2 x q4⟩
        · obtain ⟨M,q1,q2⟩:=h3.defers
          exact ⟨M,hg.id hdf M q1,q2⟩
end
section
variable {P:Program} {tb:Tab} {R:Bij}
theorem wM {objs:T AObj}{n:Nat}:∀ {l:Tab} {i:Nat} {acc objs':T AObj},wQ tb objs l i acc=some objs'→(∀ q o',acc.get q=some o'→∃ j t o,tb[q]?=some (j,t)∧objs.get j=some o∧zds tb.ver t o=some o') →
 (∀ q,l[q]?=tb[i+q]?)→∀ q o',objs'.get q=some o'→∃ j t o,tb[q]?=some (j,t)∧objs.get j=some o∧zds tb.ver t o=some o'
 | [],i,acc,objs',e,h,_=>by cases e; exact h
 | (j,t)::r,i,acc,objs',e,h,hl=>by
  unfold wQ at e
  split at e
  · cases e
  · rename_i o ho
    split at e
    · cases e
    · rename_i o1 ho1
      rw [T.seq_eq] at e
      refine wM (n:=n) e (fun q o' g=>?_) (fun q=>?_)
      · rw [T.get_set] at g
        split at g
        · rename_i hq
          cases g
          subst hq
          exact ⟨j,t,o,by have:=hl 0; simpa using this.symm,ho,ho1⟩
        · exact h q o' g
      · have:=hl (q+1)
        rw [List.getElem?_cons_succ] at this
        rw [this]; congr 1; omega
theorem zbi {objs:T AObj}:∀ {l:Tab} {i j:Nat} {t:Option Nat} {o:AObj} {f:Nat→Option AV},(∀ (q j:Nat) (t:Option Nat),l[q]?=some (j,t)→(objs.get j).isSome=true)→l[i]?=some (j,t)→objs.get j=some o→f∈zkp o→f∈zjQ objs l
 | [],_,_,_,_,_,_,e,_,_=>by simp at e
 | (j0,t0)::r,i,j,t,o,f,hs,e,ho,hf=>by
  have h0:=hs 0 j0 t0 (by simp)
  unfold zjQ
  cases hj:objs.get j0 with
  | none=>rw [hj] at h0; cases h0
  | some o0 =>
   simp only []
   cases i with
   | zero =>
    simp at e
    obtain ⟨rfl,rfl⟩:=e
    rw [hj] at ho; cases ho
    exact List.mem_append_left _ hf
   | succ i =>
    exact List.mem_append_right _ (zbi (fun q j t h=>hs (q+1) j t (by simpa using h)) (by simpa using e) ho hf)
theorem qt {objs:T AObj}:∀ {l:Tab} {i:Nat} {acc objs':T AObj},wQ tb objs l i acc=some objs'→∀ (q j:Nat) (t:Option Nat),l[q]?=some (j,t)→(objs.get j).isSome=true
 | [],_,_,_,_,_,_,_,h=>by simp at h
 | (j0,t0)::r,i,acc,objs',e,q,j,t,h=>by
  unfold wQ at e
  split at e
  · cases e
  · rename_i o ho
    split at e
    · cases e
    · rw [T.seq_eq] at e
      cases q with
      | zero=>simp at h; obtain ⟨rfl,rfl⟩:=h; rw [ho]; rfl
      | succ q=>exact qt e q j t (by simpa using h)
theorem w4 {keep:Nat}{objs:T AObj}:∀ {ids:List Nat} {i q j:Nat} {t:Option Nat},(v9 keep objs ids i)[q]?=some (j,t)→ids[q]?=some j∧(i+q<keep→t=none)
 | [],_,_,_,_,h=>by simp [v9] at h
 | j0::r,i,q,j,t,h=>by
  unfold v9 at h
  cases q with
  | zero =>
   simp only [List.getElem?_cons_zero,Option.some.injEq,Prod.mk.injEq] at h
   obtain ⟨rfl,h⟩:=h
   refine ⟨by simp,fun hk=>?_⟩
   have:Nat.blt i keep=true:=by rw [Nat.blt_eq]; omega
   rw [this] at h
   exact h.symm
  | succ q =>
   rw [List.getElem?_cons_succ] at h
   obtain ⟨g1,g2⟩:=w4 h
   exact ⟨by simpa using g1,fun hk=>g2 (by omega)⟩
theorem yh:∀ {ids:List Nat},nodup ids=true→∀ {p q j:Nat},ids[p]?=some j→ids[q]?=some j→p=q
 | [],_,_,_,_,h,_=>by simp at h
 | i::r,hn,p,q,j,hp,hq=>by
  simp only [nodup,Bool.and_eq_true,Bool.not_eq_true',List.any_eq_false] at hn
  have hno:∀ k,r[k]?=some i→False:=fun k hk=>hn.1 i (List.mem_of_getElem? hk) (Nat.beq_refl i)
  cases p with
  | zero =>
   cases q with
   | zero=>rfl
   | succ q=>simp at hp hq; subst hp; exact absurd (hno q hq) id
  | succ p =>
   cases q with
   | zero=>simp at hp hq; subst hq; exact absurd (hno p hp) id
   | succ q=>simp at hp hq; rw [yh hn.2 hp hq]
theorem zcX:∀ {ids:List Nat} {k i:Nat},zfA ids k i=true→∀ q,q<k→ids[q]?=some (i+q)
 | _,0,_,_,q,hq=>absurd hq (Nat.not_lt_zero _)
 | [],_+1,_,h,_,_=>by cases h
 | j::r,k+1,i,h,q,hq=>by
  simp only [zfA,Bool.and_eq_true] at h
  cases q with
  | zero=>simp; exact Nat.eq_of_beq_eq_true h.1
  | succ q =>
   rw [List.getElem?_cons_succ,zcX h.2 q (by omega)]
   congr 1; omega
theorem kD {keep:Nat}{objs:T AObj}:∀ {ids:List Nat} {i:Nat},(v9 keep objs ids i).length=ids.length
 | [],_=>rfl
 | _::r,i=>by simp [v9,kD (ids:=r)]
theorem yu {K:Prop}:∀ {l:List (Nat→Option AV)},w7 l K→(∀ f∈l,wO f)∧K
 | [],h=>⟨fun _ hf=>absurd hf List.not_mem_nil,h⟩
 | f::r,h=>by
  obtain ⟨g1,g2⟩:=yu (l:=r) h.2
  exact ⟨fun f' hf=>by
   rcases List.mem_cons.1 hf with e | e
   · rw [e]; exact h.1
   · exact g1 f' e,g2⟩
noncomputable def Base.re (B:Base) (tb:Tab) (h:AHeap):Base:={ B with
 pend:=fun i=>match tb[i]? with
  | none=>none
  | some (j,_)=>match B.pend j with
   | none=>none
   | some _=>h.get i
 ro:=fun i=>∃ j t,tb[i]?=some (j,t)∧B.ro j }
theorem Sim.can {w0:Env}{base:List Frame}{keep:Nat}{ids us:List Nat}{uss:List (List Nat)}{m m':AM}{fr:Frame}{cs:List Frame}{w:World}(hk:∀ i r L,w0.pin i r=some L→i<keep)
 (e:zj3 keep ids us uss m=some m') (hp:∀ f∈zjQ m.heap.objs (v9 keep m.heap.objs ids 0),wO f) (k:Sim P w0 base m fr cs w):Sim P w0 base m' fr cs w:=by
 obtain ⟨top,rest,h⟩:=m
 obtain ⟨B,R,fs,hc,hb,kh,ho,kt,kb⟩:=k
 simp only [zj3] at e
 cases hn:(nodup ids&&zfA ids keep 0) with
 | false=>rw [hn] at e; cases e
 | true =>
  rw [hn] at e
  rw [Bool.and_eq_true] at hn
  simp only [cond_true] at e
  generalize htb:v9 keep h.objs ids 0=tb at e hp
  split at e
  · cases e
  rename_i h' hh
  split at e
  · cases e
  rename_i top' htop
  split at e
  · cases e
  rename_i rest' hrest
  cases e
  obtain ⟨g1,g2⟩:=zcO (tb.ok R) (B':=B.re tb h') (h':=h') hrest kb
  refine ⟨B.re tb h',tb.re R,fs,hc,hb,?_,ho,?_,g1⟩
  · obtain ⟨objs,next,glob⟩:=h
    simp only [kl] at hh
    cases hlt:(tb.all fun p=>Nat.blt p.1 next) with
    | false=>rw [hlt] at hh; cases hh
    | true =>
     rw [hlt] at hh
     simp only [cond_true] at hh
     split at hh
     · cases hh
     rename_i objs' hobjs
     cases hh
     have hget:=wM (n:=0) hobjs (fun q o' g=>by cases g) (fun q=>by rw [Nat.zero_add])
     have hsome:=qt hobjs
     have htlt:∀ {q j:Nat} {t:Option Nat},tb[q]?=some (j,t)→q<tb.length:=fun h=>(List.getElem?_eq_some_iff.1 h).1
     have hre:∀ {i r L},tb.re R i r=some L→∃ j t s,tb[i]?=some (j,t)∧R j s=some L∧(t=none→s=r)∧(∀ t0,t=some t0→s=t0∧r=0):=by
      intro i r L e
      unfold Tab.re at e
      split at e
      · cases e
      · rename_i j hi; exact ⟨j,none,r,hi,e,(fun _=>rfl),(fun _ h=>by cases h)⟩
      · rename_i j t0 hi
        split at e
        · rename_i hr; exact ⟨j,some t0,t0,hi,e,(fun h=>by cases h),(fun _ h=>by cases h; exact ⟨rfl,hr⟩)⟩
        · cases e
     have hinj:∀ {p q j:Nat} {t t':Option Nat},tb[p]?=some (j,t)→tb[q]?=some (j,t')→p=q:=by
      intro p q j t t' h1 h2
      rw [← htb] at h1 h2
      exact yh hn.1 (w4 h1).1 (w4 h2).1
     refine ⟨fun i hi r=>?_,fun i o' eo hpe=>?_,fun i o' e=>?_,fun i r L e=>?_,fun i hi=>?_,fun i hi=>?_,fun i r L hi e=>?_,kh.low,fun i r L e=>?_,fun i r i' r' L L' e e' hbl hor=>?_,fun i r r' L L' e e' hbl=>?_,fun g c e=>?_⟩
     · have:tb[i]?=none:=List.getElem?_eq_none hi
       simp only [Tab.re,this]
     · obtain ⟨j,t,o,q1,q2,q3⟩:=hget i o' eo
       have hpend:B.pend j=none:=by
        simp only [Base.re,q1] at hpe
        cases hb:B.pend j with
        | none=>rfl
        | some o0=>rw [hb] at hpe; simp only at hpe; rw [hpe] at eo; cases eo
       exact zbB (tb.ok R) (fun ht r=>by subst ht; simp only [Tab.re,q1]) (fun t0 ht r=>by subst ht; simp only [Tab.re,q1]) q3 (fun f hf=>hp f (zbi hsome q1 q2 hf)) (kh.obj j o q2 hpend)
     · simp only [Base.re] at e
       split at e
       · cases e
       · rename_i j t hj
         split at e
         · cases e
         · rename_i o0 hb0
           refine ⟨htlt hj,e,fun r=>?_⟩
           have hno:=(kh.pend j o0 hb0).2.2
           cases hr:tb.re R i r with
           | none=>rfl
           | some L =>
            obtain ⟨j',t',s,q1,q2,_,_⟩:=hre hr
            rw [hj] at q1; cases q1
            rw [hno s] at q2; cases q2
     · obtain ⟨j,t,s,q1,q2,q3,q4⟩:=hre e
       exact ⟨(kh.place j s L q2).1.elim .inl fun hr=>.inr ⟨j,t,q1,hr⟩,(kh.place j s L q2).2⟩
     · obtain ⟨j,t,q1,q2⟩:=hi
       refine ⟨htlt q1,fun o' eo=>?_⟩
       obtain ⟨j',t',o,p1,p2,p3⟩:=hget i o' eo
       rw [q1] at p1; cases p1
       have:=(kh.rd j q2).2 o p2
       cases o with
       | ro c lo n =>
        cases t with
        | none=>simp only [zds] at p3; cases p3; rfl
        | some t0=>simp only [zds] at p3; cases p3
       | _=>cases this
     · obtain ⟨j,t,q1,q2⟩:=hi
       simp only [Base.re,q1,kh.rp j q2]
     · obtain ⟨j,t,s,q1,q2,q3,q4⟩:=hre e
       obtain ⟨j',t',p1,p2⟩:=hi
       rw [q1] at p1; cases p1
       exact kh.rol j s L p2 q2
     · have hik:=hk i r L (by have e':B.env.pin i r=some L:=e; rw [hb] at e'; exact e')
       have hst:=zcX hn.2 i hik
       have hlen:i<tb.length:=by
        rw [← htb,kD]; exact (List.getElem?_eq_some_iff.1 hst).1
       obtain ⟨⟨j,t⟩,hjt⟩:∃ p,tb[i]?=some p:=⟨_,List.getElem?_eq_getElem hlen⟩
       have:=hjt
       rw [← htb] at this
       obtain ⟨a1,a2⟩:=w4 this
       rw [a1] at hst
       simp only [Nat.zero_add,Option.some.injEq] at hst a2
       have ht:=a2 hik
       subst hst ht
       simp only [Tab.re,hjt]
       exact kh.pin _ r L e
     · obtain ⟨j,t,s,q1,q2,_,_⟩:=hre e
       obtain ⟨j',t',s',q1',q2',_,_⟩:=hre e'
       have:=kh.apart j s j' s' L L' q2 q2' hbl (hor.imp (fun hn hr=>hn ⟨j,t,q1,hr⟩) (fun hn hr=>hn ⟨j',t',q1',hr⟩))
       subst this
       exact hinj q1 q1'
     · obtain ⟨j,t,s,q1,q2,_,_⟩:=hre e
       obtain ⟨j',t',s',q1',q2',_,_⟩:=hre e'
       rw [q1] at q1'; cases q1'
       exact kh.same j s s' L L' q2 q2' hbl
     · exact kh.glob g c e
  · show FrameRel P _ _ rest'.length false _ top' fr
    rw [g2]
    exact jm (tb.ok R) htop kt
end
end Go.Proofs.Ytcdpmiebmhjmpaa.Ev
end
section
namespace Go.Proofs.Ytcdpmiebmhjmpaa.Ev
open Go
def Goal (P:Program) (keep:Nat) (f0:FuncId) (Q:AV→AHeap→Prop) (m:AM):Prop :=
 ∀ (w0:Env) (base:List Frame) (fr:Frame) (cs:List Frame) (w:World),(∀ i r L,w0.pin i r=some L→i<keep)→Sim P w0 base m fr cs w →
  ∃ (fr':Frame) (w':World) (B:Base) (R:Bij) (v:AV) (v':Value) (h':AHeap),Steps P (lone fr cs w) (lone fr' base w')∧fr'.leaving P w' (.returned v')∧fr'.fn=f0 ∧
   VRel R v v'∧B.env=w0∧HRel P B R h' w'∧Old0 w0.toWorld w'∧Q v h'
noncomputable section
variable (P:Program)
mutual
def okD:Nat→AV→Bool
 | 0,_=>false
 | n+1,v=>match v with
  | .fn _ a b=>zjs n a&&zjs n b
  | .ifc _ v=>okD n v
  | .agg l | .tup l=>zjs n l
  | _=>true
def zjs:Nat→List AV→Bool
 | 0,_=>false
 | n+1,l=>match l with
  | []=>true
  | v::r=>okD n v&&zjs n r
end
def zh9 (b:Bool) (K:Prop):Prop:=match b with
 | true=>K
 | false=>False
def atP (p:AV) (size:Nat) (i:Int) (len:Nat):Option (AV × Prop):=match p with
 | .ptr id ver off=>some (.ptr id ver (off+i.toNat*size),0≤i∧i<len)
 | .gp g off=>some (.gp g (off+i.toNat*size),0≤i∧i<len)
 | _=>none
def zjc (size:Nat) (x:AV) (i:Int):Option (AV × Prop):=match x with
 | .slc id ver off len _=>atP (.ptr id ver off) size i len
 | .slg id ver off len _=>atP (.ptr id ver off) size i len
 | _=>none
def v6 (t:TypeId) (x ix:AV):Option (AV × Prop):=match ix with
 | .int _ i=>match P.underlying t with
  | some (.array len el)=>match xW P el with
   | none=>none
   | some s=>atP x s i len
  | some (.slice el)=>match xW P el with
   | none=>none
   | some s=>zjc s x i
  | _=>none
 | _=>none
def ziO (t:TypeId):Bool:=match zhU P t with
 | some b=>!b
 | none=>false
def zgo (t:TypeId) (x ix:AV):Option (AV × Prop):=match ix with
 | .int _ i=>match P.underlying t with
  | some .string=>match x with
   | .str s=>some (.int .u8 (s.getD i.toNat 0).toNat,0≤i∧i<s.length)
   | _=>none
  | some (.array len el)=>match x with
   | .agg cs=>match ziO P el with
    | false=>none
    | true=>match xW P el with
     | none=>none
     | some s=>some (cs.getD (i.toNat*s) xH,(0≤i∧i<len)∧i.toNat*s<cs.length)
   | _=>none
  | _=>none
 | _=>none
def xZ (len cap:Nat) (lo hi mx:Option Int):Nat × Nat × Nat × Prop :=
 let m:Nat:=match mx with
  | none=>cap
  | some v=>v.toNat
 let mp:Prop:=match mx with
  | none=>True
  | some v=>0≤v∧v≤(cap:Int)
 let h:Nat:=match hi with
  | none=>len
  | some v=>v.toNat
 let hp:Prop:=match hi with
  | none=>match mx with
   | none=>mp
   | some _=>False
  | some v=>match mx with
   | none=>0≤v∧v≤(m:Int)
   | some _=>mp∧0≤v∧v≤(m:Int)
 match lo with
 | none=>(0,h,m,hp)
 | some v=>(v.toNat,h,m,match hi with
  | none=>match mx with
   | none=>0≤v∧v≤(h:Int)
   | some _=>False
  | some _=>hp∧0≤v∧v≤(h:Int))
def zga (t:TypeId) (x:AV) (lo hi mx:Option Int):Option (AV × Prop):=match P.underlying t with
 | some .string=>match x with
  | .str s=>match mx with
   | some _=>none
   | none=>match xZ s.length s.length lo hi none with
    | (l,h,_,p)=>some (.str ((s.drop l).take (h - l)),p)
  | _=>none
 | some (.slice el)=>match xW P el with
  | none=>none
  | some sz=>match x with
   | .nils len cap=>match xZ len cap lo hi mx with
    | (l,h,m,p)=>some (.nils (h - l) (m - l),p)
   | .slc id ver off len cap=>match xZ len cap lo hi mx with
    | (l,h,m,p)=>some (.slc id ver (if m=l then off else off+l*sz) (h - l) (m - l),p)
   | .slg id ver off len st=>match mx with
    | some _=>match len with
     | 0=>none
     | _+1=>match xZ len len lo hi mx with
      | (l,h,m,p)=>some (.slc id ver (if m=l then off else off+l*sz) (h - l) (m - l),p)
    | none=>match xZ len len lo hi none with
     | (l,h,_,p)=>some (.slg id ver (off+l*sz) (h - l) (st+l),p)
   | _=>none
 | _=>none
def binS (op:BinOp) (x y:AV):Option (AV × Prop):=match x with
 | .str a=>match y with
  | .str b=>match op with
   | .add=>some (.str (a++b),a.length+b.length<2 ^ 40)
   | _=>none
  | _=>none
 | .int k a=>match y with
  | .int k' b=>match op with
   | .quo=>if k=k' then some (.int k (k.wrap (a.tdiv b)),b≠0) else none
   | .rem=>if k=k' then some (.int k (a.tmod b),b≠0) else none
   | .shl=>some (.int k (k.wrap (a*2 ^ (min b.toNat k.bits))),0≤b)
   | .shr=>some (.int k (a.fdiv (2 ^ (min b.toNat k.bits))),0≤b)
   | _=>none
  | _=>none
 | _=>none
def zet (h:AHeap) (id ver off k:Nat):Option (List AV × Prop):=match h.get id with
 | some (.ro c lo n)=>bif Nat.beq ver 0 then match zy c off k with
  | none=>none
  | some l=>some (l,lo≤off∧off+k≤n) else none
 | some (.cells c n _ lo hi _ _ _ ex)=>match zj ex n hi ver with
  | none=>none
  | some e=>bif Nat.ble lo ver&&Nat.ble ver hi then match zy c off k with
   | none=>none
   | some l=>some (l,off+k≤e) else none
 | _=>none
def ziv (h:AHeap) (t:TypeId) (p:AV):Option (AV × Prop):=match p with
 | .ptr id ver off=>match zhU P t with
  | none=>none
  | some true=>match P.info? t with
   | none=>none
   | some i=>match zet h id ver off i.size with
    | none=>none
    | some (l,p)=>some (.agg l,p)
  | some false=>match zet h id ver off 1 with
   | some ([v],p)=>some (v,p)
   | _=>none
 | _=>none
def zdy (h:AHeap) (r:Option (AV × Prop)):Option (AR × Prop):=match r with
 | none=>none
 | some (v,p)=>some (.val v h,p)
def zhL (ρ:Operand→Option AV) (x y:Operand) (f:AV→AV→Option (AR × Prop)):Option (AR × Prop):=match ρ x with
 | none=>none
 | some a=>match ρ y with
  | none=>none
  | some b=>f a b
def opS (ρ:Operand→Option AV) (h:AHeap) (o:Op):Option (AR × Prop):=match o with
 | .indexAddr t x ix=>zhL ρ x ix fun a b=>zdy h (v6 P t a b)
 | .index t x ix=>zhL ρ x ix fun a b=>zdy h (zgo P t a b)
 | .binOp op _ x y _=>zhL ρ x y fun a b=>zdy h (binS op a b)
 | .slice t x lo hi mx=>match ρ x with
  | none=>none
  | some v=>match yO ρ lo with
   | none=>none
   | some l=>match yO ρ hi with
    | none=>none
    | some hh=>match yO ρ mx with
     | none=>none
     | some m=>zdy h (zga P t v l hh m)
 | .load t a=>match ρ a with
  | none=>none
  | some p=>zdy h (ziv P h t p)
 | _=>none
def zkj (h:AHeap) (id:Nat):Bool:=match h.get id with
 | some (.ro ..)=>true
 | some (.cells (.fn _) ..)=>true
 | _=>false
def zgz (h:AHeap) (t:TypeId) (p v:AV) (K:Prop):Prop:=match ziv P h t p with
 | none=>False
 | some (x,q)=>q∧x=v∧K
def zjx (ρ:Operand→Option AV) (h:AHeap) (o:Op) (v:AV) (K:Prop):Prop:=match o with
 | .load t a=>match ρ a with
  | some (.ptr id ver off)=>match zkj h id with
   | true=>zgz P h t (.ptr id ver off) v K
   | false=>wA P ρ h (.load t a)=some v∧K
  | _=>wA P ρ h (.load t a)=some v∧K
 | o=>wA P ρ h o=some v∧K
def zjn (all:List Oper) (t:T AV) (h:AHeap) (o:Oper) (K:Prop):Prop:=match zw all t o.guard with
 | none=>False
 | some w=>match w with
  | false=>K
  | true=>match o.dst with
   | none=>(wA P (ev t) h o.op).isSome=true∧K
   | some d=>match t.get d with
    | none=>False
    | some v=>zjx P (ev t) h o.op v (zh9 (okD 300 v) K)
def zj2 (all:List Oper) (anc:Nat) (t:T AV) (h:AHeap):List Nat→Prop→Prop
 | [],K=>K
 | p::r,K=>match all[p]? with
  | none=>zj2 all anc t h r K
  | some o=>match x3 P o.op&&!(anc.testBit p) with
   | false=>zj2 all anc t h r K
   | true=>zjn P all t h o (zj2 all anc t h r K)
def ziQ (fr:AFrame) (h:AHeap) (all:Array Oper) (i:Nat) (o:Oper) (l dn:List Nat) (k:List AItem) (t:Option (T AV)) (K:AFrame→Prop):Prop:=match t with
 | none=>False
 | some t=>match fr with
  | ⟨fn,n,_,_,ds,mode,kind,round⟩=>match x5 P o || zX o.op with
   | false=>K ⟨fn,n,t,.drw all l (i::dn)::k,ds,mode,kind,round⟩
   | true=>zj2 P all.toList (bif x5 P o then (zx P all.toList).anc.getD i 0 else 0) t h dn (K ⟨fn,n,t,.drw all l (i::dn)::k,ds,mode,kind,round⟩)
def zb8 {α:Type} (o:Option α) (K:α→Prop):Prop:=match o with
 | none=>False
 | some a=>K a
def Fin (fr:AFrame) (h:AHeap) (v:AV) (K:AFrame→Prop):Prop:=match fr.todo with
 | .drw all (i::l) dn::k=>match all[i]? with
  | none=>False
  | some o=>ziQ P fr h all i o l dn k (zfM fr.tmps fr.n o.dst v) K
 | _=>zb8 (zI P fr h v) K
def zhP [XT P] (fr:AFrame) (rest:List AFrame) (heap:AHeap) (r:AR) (K:AM→Prop):Prop:=match r with
 | .val v h=>Fin P fr h v fun fr=>K ⟨fr,rest,h⟩
 | .skip h=>Fin P fr h xH fun fr=>K ⟨fr,rest,h⟩
 | r=>zb8 (zfH P fr rest heap r) K
def w3 (fr:AFrame):Option (List Oper × Oper):=match fr.todo with
 | .ops all (o::_)::_=>some (all,o)
 | .drw all (i::_) _::_=>match all[i]? with
  | none=>none
  | some o=>some (all.toList,o)
 | _=>none
def Br (b:Bool) (m:AM) (K:AM→Prop):Prop:=match m with
 | ⟨fr,rest,h⟩=>match fr.mode with
  | .run=>match fr.todo with
   | .code (.cond c x y)::k=>match ev fr.tmps c with
    | some (.bool t)=>t=b∧K ⟨fr.withTodo (.code (bif b then x else y)::k),rest,h⟩
    | _=>False
   | _=>False
  | _=>False
def Know (u:Nat) (b:Bool) (m:AM) (K:AM→Prop):Prop:=match m with
 | ⟨⟨fn,n,t,todo,ds,mode,kind,round⟩,rest,h⟩=>match t.get u with
  | some (.bool c)=>c=b∧K ⟨⟨fn,n,t.set (some (.bool b)) u,todo,ds,mode,kind,round⟩,rest,h⟩
  | _=>False
def Slot (u:Nat) (v:AV) (m:AM) (K:AM→Prop):Prop:=match m with
 | ⟨⟨fn,n,t,todo,ds,mode,kind,round⟩,rest,h⟩=>match t.get u with
  | some x=>x=v∧K ⟨⟨fn,n,t.set (some v) u,todo,ds,mode,kind,round⟩,rest,h⟩
  | _=>False
def OpK [XT P] (m:AM) (K:AM→Prop):Prop:=match m with
 | ⟨fr,rest,h⟩=>match fr.mode with
  | .run=>match w3 fr with
   | none=>False
   | some (all,o)=>match zw all fr.tmps o.guard with
    | some true=>match opS P (ev fr.tmps) h o.op with
     | none=>False
     | some (r,p)=>p∧zhP P fr rest h r K
    | _=>False
  | _=>False
def ResK [XT P] (r:AR) (m:AM) (K:AM→Prop):Prop:=match m with
 | ⟨fr,rest,h⟩=>match fr.mode with
  | .run=>match w3 fr with
   | none=>False
   | some (all,o)=>match zw all fr.tmps o.guard with
    | some true=>opA P (ev fr.tmps) h o.op=some r∧zhP P fr rest h r K
    | _=>False
  | _=>False
def zi3 [XT P] (m:AM) (K:AM→Prop):Prop:=match m with
 | ⟨fr,rest,h⟩=>match fr.mode with
  | .run=>match w3 fr with
   | none=>False
   | some (all,o)=>match zw all fr.tmps o.guard with
    | some true=>zb8 (opA P (ev fr.tmps) h o.op) fun r=>zhP P fr rest h r K
    | _=>False
  | .returning=>match fr.defers with
   | []=>match fr.kind with
    | .normal=>match rest with
     | []=>False
     | c::r=>match c.mode with
      | .run=>zb8 (zjk P fr h) fun v=>Fin P c h v fun c=>K ⟨c,r,h⟩
      | _=>False
    | _=>False
   | _::_=>False
  | _=>False
def zgO (us:List Nat) (Q:AV→Prop) (m:AM) (K:AM→Prop):Prop:=match m with
 | ⟨fr,rest,h⟩=>match rest with
  | []=>False
  | c::r=>match fr.kind with
   | .normal=>match c.mode with
    | .run=>match zj3 0 [] us [] ⟨fr,[],h⟩ with
     | none=>False
     | some m'=>Goal P 0 fr.fn (fun v _=>Q v∧wp 99 v=true) m'∧∀ v,Q v→Fin P c h v fun c=>K ⟨c,r,h⟩
    | _=>False
   | _=>False
def ym (f:FuncId) (args:List AV) (G:T (T AV)):AM:=match qO P f args .normal with
 | some a=>⟨a,[],⟨.leaf,0,G⟩⟩
 | none=>⟨⟨0,0,.leaf,[],[],.run,.normal,none⟩,[],⟨.leaf,0,G⟩⟩
def zjM (us:List Nat) (v:AV) (m:AM) (K:AM→Prop):Prop:=match m with
 | ⟨fr,rest,h⟩=>match rest with
  | []=>False
  | c::r=>match fr.kind with
   | .normal=>match c.mode with
    | .run=>match zj3 0 [] us [] ⟨fr,[],h⟩ with
     | none=>False
     | some m'=>zh9 (wp 99 v) (Goal P 0 fr.fn (fun x _=>x=v) m'∧Fin P c h v fun c=>K ⟨c,r,h⟩)
    | _=>False
   | _=>False
def zfq (t:T AV):List Nat→T AV→T AV
 | [],acc=>acc
 | u::r,acc=>(acc.set (t.get u) u).seq fun acc=>zfq t r acc
def zi9 (us:List Nat) (m:AM) (K:AM→Prop):Prop:=match m with
 | ⟨⟨fn,n,t,todo,ds,mode,kind,round⟩,rest,h⟩=>match todo with
  | .drw _ _ _::_=>False
  | todo=>K ⟨⟨fn,n,zfq t us .leaf,todo,ds,mode,kind,round⟩,rest,h⟩
def zka (f0:FuncId) (Q:AV→AHeap→Prop) (m:AM):Prop:=zb8 (zh3 P f0 m) fun v=>Q v m.heap
end
section
variable {P:Program}
theorem z7 {α:Type}{o:Option α}{K:α→Prop}(h:zb8 o K):∃ a,o=some a∧K a:=by
 unfold zb8 at h
 split at h
 · exact h.elim
 · exact ⟨_,rfl,h⟩
theorem T.set_same' {α:Type}:∀ {t:T α} {n:Nat} {v:α},t.get n=some v→t.set (some v) n=t
 | .leaf,_,_,e=>by cases e
 | .fn f,n,v,e=>by
  show T.fn (fun m=>bif Nat.beq m n then some v else f m)=_
  congr 1
  funext m
  cases hb:Nat.beq m n with
  | false=>rfl
  | true=>rw [Nat.eq_of_beq_eq_true hb]; exact e.symm
 | .node l x r,n,v,e=>by
  rw [T.get_node] at e
  show (bif Nat.beq n 0 then T.node l (some v) r else bif Nat.beq (Nat.mod n 2) 1 then T.seq (l.set (some v) (Nat.div n 2)) (fun l=>T.node l x r) else T.seq (r.set (some v) (Nat.sub (Nat.div n 2) 1)) (fun r=>T.node l x r))=_
  rw [T.seq_eq,T.seq_eq]
  split at e
  · rename_i h0
    subst h0; subst e; rfl
  · rename_i h0
    have e0:Nat.beq n 0=false:=by cases n <;> simp_all [Nat.beq]
    rw [e0]
    split at e
    · rename_i h1
      have e1:Nat.beq (Nat.mod n 2) 1=true:=by rw [show Nat.mod n 2=1 from h1]; rfl
      rw [e1]
      show T.node (l.set (some v) (n / 2)) x r=_
      rw [T.set_same' e]
    · rename_i h1
      have e1:Nat.beq (Nat.mod n 2) 1=false:=by
       rw [show Nat.mod n 2=0 from by show n % 2=0; omega]; rfl
      rw [e1]
      show T.node l x (r.set (some v) (n / 2 - 1))=_
      rw [T.set_same' e]
mutual
theorem kV:∀ (n:Nat) (v:AV),okD n v=true→wu n v v=true
 | 0,_,h=>by simp [okD] at h
 | n+1,v,h=>by
  cases v <;> simp only [okD,Bool.and_eq_true] at h <;> simp only [wu,Bool.and_eq_true,decide_eq_true_eq,Nat.beq_refl,and_self,beq_self_eq_true]
  case fn f a b=>exact ⟨⟨trivial,qP n _ h.1⟩,qP n _ h.2⟩
  case ifc t v=>exact ⟨trivial,kV n _ h⟩
  case agg l=>exact qP n _ h
  case tup l=>exact qP n _ h
theorem qP:∀ (n:Nat) (v:List AV),zjs n v=true→wv n v v=true
 | 0,_,h=>by simp [zjs] at h
 | n+1,l,h=>by
  cases l with
  | nil=>rfl
  | cons v r =>
   simp only [zjs,Bool.and_eq_true] at h
   simp only [wv,Bool.and_eq_true]
   exact ⟨kV n _ h.1,qP n _ h.2⟩
end
theorem ka {b:Bool}{K:Prop}(h:zh9 b K):b=true∧K:=by
 cases b with
 | true=>exact ⟨rfl,h⟩
 | false=>exact h.elim
theorem zjm {p:AV}{size len:Nat}{i:Int}{v:AV}{q:Prop}(e:atP p size i len=some (v,q))(hq:q):∀ el:Option Nat,el=some size→jH len el p i=some v:=by
 rintro el rfl
 unfold atP at e
 split at e
 · cases e; simp only [jH,qg,if_pos hq]
 · cases e; simp only [jH,if_pos hq]
 · cases e
theorem zh5 {x:AV}{size:Nat}{i:Int}{v:AV}{q:Prop}(e:zjc size x i=some (v,q))(hq:q):zdd (some size) x i=some v:=by
 unfold zjc at e
 split at e
 · cases e; simp only [zdd,qg,if_pos hq]
 · cases e; simp only [zdd,qg,if_pos hq]
 · cases e
theorem zbu {t:TypeId}{x ix v:AV}{q:Prop}(e:v6 P t x ix=some (v,q))(hq:q):yL P t x ix=some v:=by
 unfold v6 at e
 unfold yL
 split at e
 · split at e
   · rename_i len el hu
     split at e
     · cases e
     · rename_i s hs
       simp only [hu]
       exact zjm e hq _ hs
   · rename_i el hu
     split at e
     · cases e
     · rename_i s hs
       simp only [hu,hs]
       exact zh5 e hq
   · cases e
 · cases e
theorem zgR {t:TypeId}{x ix v:AV}{q:Prop}(e:zgo P t x ix=some (v,q))(hq:q):zcG P t x ix=some v:=by
 unfold zgo at e
 unfold zcG
 split at e
 · rename_i k i
   split at e
   · rename_i hu
     split at e
     · rename_i s
       cases e
       simp only [hu,zbw,if_pos hq.1]
       have:i.toNat<s.length:=by omega
       rw [List.getElem?_eq_getElem this,List.getD_eq_getElem?_getD,List.getElem?_eq_getElem this]
       rfl
     · cases e
   · rename_i len el hu
     split at e
     · rename_i cs
       split at e
       · cases e
       rename_i ha
       split at e
       · cases e
       rename_i s hs
       cases e
       have hagg:zhU P el=some false:=by
        unfold ziO at ha
        split at ha
        · rename_i b hb
          rw [hb]
          cases b
          · rfl
          · cases ha
        · cases ha
       simp only [hu,zbI,hs]
       rw [if_pos hq.1]
       simp only [zaf,hagg]
       rw [List.getD_eq_getElem?_getD,List.getElem?_eq_getElem hq.2]
       rfl
     · cases e
   · cases e
 · cases e
theorem yK {len cap:Nat}{lo hi mx:Option Int}{l h m:Nat}{p:Prop}(e:xZ len cap lo hi mx=(l,h,m,p))(hp:p):zL len cap lo hi mx=some (l,h,m):=by
 unfold xZ at e
 cases lo <;> cases hi <;> cases mx <;> simp only [Prod.mk.injEq] at e <;> obtain ⟨rfl,rfl,rfl,rfl⟩:=e <;>
  simp only [zL,xS,xw,xe,xj,Option.isSome_none,Option.isSome_some] <;> first | rfl | exact (hp:False).elim | (simp_all; done)
theorem zfY {t:TypeId}{x v:AV}{lo hi mx:Option Int}{q:Prop}(e:zga P t x lo hi mx=some (v,q))(hq:q):zcd P t x lo hi mx=some v:=by
 unfold zga at e
 unfold zcd
 split at e
 · rename_i hu
   split at e
   · split at e
     · cases e
     · generalize hb:xZ _ _ _ _ _=b at e
       obtain ⟨l,h,m,p⟩:=b
       cases e
       simp only [hu,zbZ,yK hb hq,zjT]
   · cases e
 · rename_i el hu
   split at e
   · cases e
   · rename_i sz hs
     simp only [hu,hs,zdK]
     split at e
     · generalize hb:xZ _ _ _ _ _=b at e
       obtain ⟨l,h,m,p⟩:=b
       cases e
       simp only [yK hb hq,zgH]
     · generalize hb:xZ _ _ _ _ _=b at e
       obtain ⟨l,h,m,p⟩:=b
       cases e
       simp only [yK hb hq,zcz]
     · split at e
       · split at e
         · cases e
         · generalize hb:xZ _ _ _ _ _=b at e
           obtain ⟨l,h,m,p⟩:=b
           cases e
           simp only [yK hb hq,zdZ,zcz]
       · generalize hb:xZ _ _ _ _ _=b at e
         obtain ⟨l,h,m,p⟩:=b
         cases e
         simp only [yK hb hq,zdZ]
     · cases e
 · cases e
theorem zja {h:AHeap}{op:BinOp}{t:TypeId}{lit:Bool}{x y v:AV}{q:Prop}(e:binS op x y=some (v,q))(hq:q):zcM P h op t lit x y=some v:=by
 unfold binS at e
 split at e
 · split at e
   · split at e
     · cases e
       show catA _ _=_
       unfold catA
       rw [if_pos hq]
     · cases e
   · cases e
 · split at e
   · split at e
     · split at e
       · rename_i hk
         cases e
         simp only [zcM,zfn,Bool.or_self,zj1,ke,hk,true_or,if_true]
         show quoA _ _ _=_
         simp only [quoA,if_neg hq]
       · cases e
     · split at e
       · rename_i hk
         cases e
         simp only [zcM,zfn,Bool.or_self,zj1,ke,hk,true_or,if_true]
         show remA _ _ _=_
         simp only [remA,if_neg hq]
       · cases e
     · cases e
       simp only [zcM,zfn,Bool.or_self,zj1,ke,ju,or_true,if_true]
       show shlA _ _ _=_
       simp only [shlA,if_neg (Int.not_lt.2 hq)]
     · cases e
       simp only [zcM,zfn,Bool.or_self,zj1,ke,ju,or_true,if_true]
       show shrA _ _ _=_
       simp only [shrA,if_neg (Int.not_lt.2 hq)]
     · cases e
   · cases e
 · cases e
theorem zcq {h:AHeap}{id ver off k:Nat}{l:List AV}{q:Prop}(e:zet h id ver off k=some (l,q))(hq:q):za h id ver off k=some l:=by
 unfold zet at e
 unfold za
 split at e
 · rename_i c lo n ho
   cases hb:Nat.beq ver 0 with
   | false=>rw [hb] at e; cases e
   | true =>
    rw [hb] at e
    simp only [cond_true] at e
    split at e
    · cases e
    · rename_i l' hl
      cases e
      simp only [ho,hl]
      rw [if_pos ⟨Nat.eq_of_beq_eq_true hb,hq⟩]
 · rename_i c n el lo hi nv fz sg ex ho
   split at e
   · cases e
   · rename_i e0 he
     cases hb:(Nat.ble lo ver&&Nat.ble ver hi) with
     | false=>rw [hb] at e; cases e
     | true =>
      rw [hb] at e
      simp only [cond_true] at e
      rw [Bool.and_eq_true] at hb
      split at e
      · cases e
      · rename_i l' hl
        cases e
        simp only [ho,he,hl]
        rw [if_pos ⟨Nat.le_of_ble_eq_true hb.1,Nat.le_of_ble_eq_true hb.2,hq⟩]
 · cases e
theorem zer {h:AHeap}{t:TypeId}{p v:AV}{q:Prop}(e:ziv P h t p=some (v,q))(hq:q):kT P h t p=some v:=by
 unfold ziv at e
 unfold kT
 split at e
 · split at e
   · cases e
   · rename_i ha
     split at e
     · cases e
     · rename_i i hi
       split at e
       · cases e
       · rename_i l p' hl
         cases e
         simp only [ha,hi,zcq hl hq]
   · rename_i ha
     split at e
     · rename_i v' p' hl
       cases e
       simp only [ha,zcq hl hq]
     · cases e
 · cases e
theorem zh6 {ρ:Operand→Option AV}{h:AHeap}{o:Op}{v:AV}{K:Prop}(e:zjx P ρ h o v K):wA P ρ h o=some v∧K:=by
 unfold zjx at e
 split at e
 · rename_i t a
   split at e
   · rename_i id ver off ha
     split at e
     · unfold zgz at e
       split at e
       · exact e.elim
       · rename_i x q hx
         obtain ⟨hq,rfl,hk⟩:=e
         refine ⟨?_,hk⟩
         unfold wA
         show (match qD P t a ρ h with | some (.val v _)=>some v | _=>none)=_
         simp only [qD,yz,ha,zer hx hq,x4]
     · exact e
   · exact e
 · exact e
theorem zij {all:List Oper}{t:T AV}{h:AHeap}{o:Oper}{K:Prop}(e:zjn P all t h o K):qa P all t h o=true∧K:=by
 unfold zjn at e
 unfold qa
 split at e
 · exact e.elim
 · rename_i w hw
   rw [hw]
   split at e
   · exact ⟨rfl,e⟩
   · split at e
     · rename_i hd; simp only [hd]; exact e
     · rename_i d hd
       simp only [hd]
       split at e
       · exact e.elim
       · rename_i v hv
         obtain ⟨h1,h2⟩:=zh6 e
         obtain ⟨h3,h4⟩:=ka h2
         rw [hv,h1]
         exact ⟨kV 300 v h3,h4⟩
theorem zbE {all:List Oper}{anc:Nat}{t:T AV}{h:AHeap}:∀ {dn:List Nat} {K:Prop},zj2 P all anc t h dn K→yo P all anc t h dn=true∧K
 | [],K,e=>⟨rfl,e⟩
 | p::r,K,e=>by
  unfold zj2 at e
  unfold yo
  rw [Bool.and_eq_true]
  split at e
  · rename_i hp
    obtain ⟨g1,g2⟩:=zbE e
    rw [hp]
    exact ⟨⟨rfl,g1⟩,g2⟩
  · rename_i o hp
    rw [hp]
    unfold wf
    simp only
    split at e
    · rename_i hr
      obtain ⟨g1,g2⟩:=zbE e
      rw [hr]
      exact ⟨⟨rfl,g1⟩,g2⟩
    · rename_i hr
      obtain ⟨q1,q2⟩:=zij e
      obtain ⟨g1,g2⟩:=zbE q2
      rw [hr]
      exact ⟨⟨q1,g1⟩,g2⟩
theorem vz {fr:AFrame}{h:AHeap}{v:AV}{K:AFrame→Prop}(e:Fin P fr h v K):∃ a,zI P fr h v=some a∧K a:=by
 unfold Fin at e
 split at e
 · rename_i all i l dn k htodo
   split at e
   · exact e.elim
   · rename_i o ho
     unfold zI
     rw [htodo]
     simp only [ho]
     unfold ziQ at e
     unfold za4
     split at e
     · exact e.elim
     · rename_i t ht
       rw [ht]
       obtain ⟨fn,n,t0,td,ds,mode,kind,round⟩:=fr
       simp only at e ⊢
       split at e
       · rename_i hf
         rw [hf]
         exact ⟨_,rfl,e⟩
       · rename_i hf
         obtain ⟨g1,g2⟩:=zbE e
         rw [hf,g1]
         exact ⟨_,rfl,g2⟩
 · exact z7 e
theorem xT [XT P] [XTOk P] {fr:AFrame}{rest:List AFrame}{heap:AHeap}{r:AR}{K:AM→Prop}(e:zhP P fr rest heap r K):∃ m,zfH P fr rest heap r=some m∧K m:=by
 unfold zhP at e
 split at e
 · obtain ⟨a,h1,h2⟩:=vz e
   exact ⟨_,by simp only [zfH,h1,vI],h2⟩
 · obtain ⟨a,h1,h2⟩:=vz e
   exact ⟨_,by simp only [zfH,h1,vI],h2⟩
 · exact z7 e
theorem xn [XT P] [XTOk P] {fr:AFrame}{rest:List AFrame}{h:AHeap}{all:List Oper}{o:Oper}(hm:fr.mode=.run)(ht:w3 fr=some (all,o)):zbR P ⟨fr,rest,h⟩=qw P fr rest h all o:=by
 unfold w3 at ht
 simp only [zbR,hm,zhw]
 split at ht
 · rename_i all' o' l k htodo
   cases ht
   rw [htodo]
   rfl
 · rename_i all' i l dn k htodo
   split at ht
   · cases ht
   · rename_i o' ho
     cases ht
     rw [htodo]
     show zjh P fr rest h all'.toList all'[i]?=_
     rw [ho]; rfl
 · cases ht
theorem zkq {ρ:Operand→Option AV}{h:AHeap}{o:Op}{r:AR}{p:Prop}(e:opS P ρ h o=some (r,p))(hp:p):opA P ρ h o=some r:=by
 have lift:∀ {x:Option (AV × Prop)} {y:Option AV},zdy h x=some (r,p)→(∀ v q,x=some (v,q)→q→y=some v)→x4 h y=some r:=by
  intro x y e g
  unfold zdy at e
  split at e
  · cases e
  · rename_i v q
    cases e
    rw [g v _ rfl hp]; rfl
 cases o <;> simp only [opS] at e
 case binOp op t x y t' =>
  unfold zhL at e
  split at e
  · cases e
  · rename_i a ha
    split at e
    · cases e
    · rename_i b hb
      show q9 P op t x y t' ρ h=_
      simp only [q9,two,ha,hb]
      exact lift e fun v q e hq=>zja e hq
 case slice t x lo hi mx =>
  split at e
  · cases e
  rename_i a ha
  split at e
  · cases e
  rename_i l hl
  split at e
  · cases e
  rename_i hh hhh
  split at e
  · cases e
  rename_i m hm
  show qd P t x lo hi mx ρ h=_
  simp only [qd,vV,ha,hl,hhh,hm]
  exact lift e fun v q e hq=>by simp only [kH,zfY e hq]
 case indexAddr t x y =>
  unfold zhL at e
  split at e
  · cases e
  · rename_i a ha
    split at e
    · cases e
    · rename_i b hb
      show yw P t x y ρ h=_
      simp only [yw,two,ha,hb]
      exact lift e fun v q e hq=>zbu e hq
 case index t x y =>
  unfold zhL at e
  split at e
  · cases e
  · rename_i a ha
    split at e
    · cases e
    · rename_i b hb
      show jc P t x y ρ h=_
      simp only [jc,two,ha,hb]
      exact lift e fun v q e hq=>zgR e hq
 case load t x =>
  split at e
  · cases e
  · rename_i a ha
    show qD P t x ρ h=_
    simp only [qD,yz,ha]
    exact lift e fun v q e hq=>zer e hq
 all_goals cases e
theorem Goal.step [XT P] [XTOk P] (hmix:P.follows .mixedOrders=true){keep:Nat}{f0:FuncId}{Q:AV→AHeap→Prop}{m m':AM}(e:zbR P m=some m')(k:Goal P keep f0 Q m'):Goal P keep f0 Q m:=by
 intro w0 base fr cs w hk s
 obtain ⟨fr1,cs1,w1,s1,k1⟩:=zil hmix s e
 obtain ⟨fr',w',B,R,v,v',h',s2,g⟩:=k w0 base fr1 cs1 w1 hk k1
 exact ⟨fr',w',B,R,v,v',h',s1.trans s2,g⟩
theorem Goal.runN [XT P] [XTOk P] (hmix:P.follows .mixedOrders=true){keep:Nat}{f0:FuncId}{Q:AV→AHeap→Prop}:∀ {n:Nat} {m m':AM},runN P n m=some m'→Goal P keep f0 Q m'→Goal P keep f0 Q m
 | 0,m,m',e,k=>by cases e; exact k
 | n+1,m,m',e,k=>by
  unfold Ev.runN at e
  split at e
  · cases e
  · rename_i m1 h1
    exact .step hmix h1 (Goal.runN hmix e k)
theorem HRel.grow {B:Base}{R:Bij}{h:AHeap}{w w':World}(k:HRel P B R h w)(hB:B.n≤w.heap.size)(hs:w.heap.size≤w'.heap.size)(ho:∀ b,b<w.heap.size→w'.heap[b]?=w.heap[b]?):HRel P B R h w' where
 fresh:=k.fresh
 pend:=k.pend
 obj i o e hp:=(k.obj i o e hp).mono R.le_refl (fun _=>rfl) (fun r L hL=>ho _ (k.place i r L hL).2)
 place i r L hL:=⟨(k.place i r L hL).1,Nat.lt_of_lt_of_le (k.place i r L hL).2 hs⟩
 rd:=k.rd
 low b hb:=(ho b (Nat.lt_of_lt_of_le (Base.low_lt hb) hB)).trans (k.low b hb)
 rp:=k.rp
 rol:=k.rol
 pin:=k.pin
 apart:=k.apart
 same:=k.same
 glob g c e:=by
  obtain ⟨e1,cs,el,fz,e2,e3⟩:=k.glob g c e
  exact ⟨e1,cs,el,fz,(ho g (Nat.lt_of_lt_of_le (Base.low_lt e1) hB)).trans e2,e3⟩
theorem zf9 {fr f:Frame}{cs:List Frame}{w:World}{v:Value}(hl:fr.leaving P w (.returned v)):step P (lone fr (f::cs) w)=.next (lone (f.finish v) cs w):=by
 obtain ⟨h1,h2,h3,fn,h4,h5⟩:=hl
 refine step_lone_go (fr':=f.finish v) (cs':=cs) (w':=w) ?_
 have hst:stepG P true { frame:=fr,callers:=f::cs,status:=.running,dying:=none } w=unwind P true fr (f::cs) none w:=by
  simp only [stepG,h1]
 rw [hst]
 simp only [unwind,h2,h1,h4,Sem.runT_eq,h5]
 simp [doReturn,h3]
theorem zaG {keep:Nat}{f0:FuncId}{Q:AV→AHeap→Prop}{us:List Nat}{q:AV→Prop}{m:AM}{K:AM→Prop}(e:zgO P us q m K)(hK:∀ m,K m→Goal P keep f0 Q m):Goal P keep f0 Q m:=by
 intro w0 base fr cs w hk s
 obtain ⟨a,rest,h⟩:=m
 unfold zgO at e
 simp only at e
 split at e
 · exact e.elim
 rename_i c r
 split at e
 rotate_left
 · exact e.elim
 rename_i hkind
 split at e
 rotate_left
 · exact e.elim
 rename_i hcm
 split at e
 · exact e.elim
 rename_i m' hm'
 obtain ⟨hspec,hgo⟩:=e
 obtain ⟨B,R,fs,rfl,hb,kh,ho,kt,kb⟩:=s
 obtain ⟨f,fs',rfl,kf,kr⟩:=kb
 have hroom:B.n≤w.heap.size:=by show B.env.heap.size≤_; rw [hb]; exact ho.size
 have hloc:Sim P (Env.of w) (f::fs'++base) m' fr (f::fs'++base) w:=by
  simp only [zj3,nodup,zfA,Bool.and_self,cond_true,v9] at hm'
  split at hm'
  · cases hm'
  rename_i h2 hh2
  split at hm'
  · cases hm'
  rename_i top htop
  simp only [zhh] at hm'
  cases hm'
  obtain ⟨objs,next,glob⟩:=h
  simp only [kl,List.all_nil,cond_true,wQ,List.length_nil] at hh2
  cases hh2
  have hR:Tab.re [] R=fun _ _=>none:=by
   funext i r
   simp only [Tab.re,List.getElem?_nil]
  refine ⟨Base.of w,fun _ _=>none,[],rfl,rfl,.start fun g c e=>?_,.start w,?_,rfl⟩
  · obtain ⟨_,cs,el,fz,e2,e3⟩:=kh.glob g c e
    exact ⟨xq e2,cs,el,fz,e2,e3⟩
  · rw [← hR]
    exact jm (Tab.ok [] R) htop kt
 obtain ⟨fr',w',B',R',v,v',h',s1,s2,s3,s4,s5,s6,s7,s8,s9⟩:=hspec (Env.of w) (f::fs'++base) fr (f::fs'++base) w (fun i r L e=>by cases e) hloc
 have hold:OldX (Env.of w) w':=s7.all s5 s6
 have hsame:∀ b,b<w.heap.size→w'.heap[b]?=w.heap[b]?:=fun b hb=>hold.other b hb id
 obtain ⟨c',q1,q2⟩:=vz (hgo v s8)
 have hsim:Sim P w0 base ⟨c',r,h⟩ (f.finish v') (fs'++base) w' :=
  ⟨B,R,fs',rfl,hb,kh.grow hroom s7.size hsame,⟨s7.os.trans ho.os,s7.tape.trans ho.tape,s7.output.trans ho.output,Nat.le_trans ho.size s7.size,Nat.le_trans ho.drawn s7.drawn⟩,xk kf hcm q1 (wg 99 _ _ s9 s4),kr⟩
 obtain ⟨fr2,w2,B2,R2,v2,v2',h2,t1,t2⟩:=hK _ q2 w0 base _ _ w' hk hsim
 exact ⟨fr2,w2,B2,R2,v2,v2',h2,s1.trans (.head (zf9 s2) t1),t2⟩
theorem Goal.mono {keep:Nat}{f0:FuncId}{Q Q':AV→AHeap→Prop}{m:AM}(h:∀ v k,Q v k→Q' v k)(g:Goal P keep f0 Q m):Goal P keep f0 Q' m:=by
 intro w0 base fr cs w hk s
 obtain ⟨fr',w',B,R,v,v',h',a1,a2,a3,a4,a5,a6,a7,a8⟩:=g w0 base fr cs w hk s
 exact ⟨fr',w',B,R,v,v',h',a1,a2,a3,a4,a5,a6,a7,h _ _ a8⟩
theorem zfc {us:List Nat}{v:AV}{m:AM}{K:AM→Prop}(e:zjM P us v m K):zgO P us (fun x=>x=v) m K:=by
 obtain ⟨a,rest,h⟩:=m
 unfold zjM at e
 unfold zgO
 simp only at e
 split at e
 · exact e.elim
 split at e
 rotate_left
 · exact e.elim
 rename_i hkind
 split at e
 rotate_left
 · exact e.elim
 rename_i hcm
 split at e
 · exact e.elim
 rename_i m' hm'
 obtain ⟨hp,g1,g2⟩:=ka e
 simp only [hkind,hcm,hm']
 exact ⟨g1.mono fun x _ hx=>⟨hx,by rw [hx]; exact hp⟩,fun x hx=>by rw [hx]; exact g2⟩
theorem zaI {keep:Nat}{f0:FuncId}{Q:AV→AHeap→Prop}{m:AM}(e:zka P f0 Q m):Goal P keep f0 Q m:=by
 intro w0 base fr cs w hk s
 obtain ⟨v,hd,hq⟩:=z7 e
 obtain ⟨af,rest,h⟩:=m
 obtain ⟨B,R,fs,rfl,hb,kh,ho,kt,kb⟩:=s
 unfold zh3 at hd
 simp only at hd
 split at hd
 · cases hd
 split at hd
 rotate_left
 · cases hd
 rename_i hmode
 split at hd
 · cases hd
 rename_i hdef
 split at hd
 rotate_left
 · cases hd
 rename_i hkind
 split at hd
 rotate_left
 · cases hd
 rename_i hf0
 have hfs:fs=[]:=kb
 subst hfs
 have hs:Slots R af.tmps fr.tmps:=by have:=kt.top; rw [hmode] at this; exact this
 obtain ⟨fn,v',r1,r2,r3⟩:=zcY kh hs kt.fn hd
 have hm:fr.mode=.returning:=by have:=kt.mode; rw [hmode] at this; exact this
 have hdf:fr.defers=[]:=by have:=kt.defers; rw [hdef] at this; exact this
 exact ⟨fr,w,B,R,v,v',h,Steps.refl _ _,⟨hm,hdf,by rw [kt.kind,hkind],fn,r1,r2⟩,kt.fn.trans (Nat.eq_of_beq_eq_true hf0),r3,hb,kh,ho,hq⟩
theorem Goal.ofRun [XT P] [XTOk P] (hmix:P.follows .mixedOrders=true){keep:Nat}{f0:FuncId}{Q:AV→AHeap→Prop}:∀ {n:Nat} {m:AM} {v:AV},runA P f0 n m=some v→(∀ h,Q v h)→Goal P keep f0 Q m
 | 0,m,v,e,_=>by cases e
 | n+1,m,v,e,hq=>by
  unfold runA at e
  split at e
  · rename_i v' hd
    cases e
    exact zaI (m:=m) (show zb8 (zh3 P f0 m) _ by rw [hd]; exact hq _)
  · split at e
    · cases e
    · rename_i m1 h1
      exact .step hmix h1 (Goal.ofRun hmix e hq)
theorem zcD {t:T AV}:∀ {us:List Nat} {acc:T AV},(∀ u v,acc.get u=some v→t.get u=some v)→∀ u v,(zfq t us acc).get u=some v→t.get u=some v
 | [],_,h,u,v,e=>h u v e
 | u0::r,acc,h,u,v,e=>by
  rw [zfq,T.seq_eq] at e
  refine zcD (us:=r) (fun u v e=>?_) u v e
  rw [T.get_set] at e
  split at e
  · rename_i hu; rw [hu]; exact e
  · exact h u v e
theorem zfr {keep:Nat}{f0:FuncId}{Q:AV→AHeap→Prop}{us:List Nat}{m:AM}{K:AM→Prop}(e:zi9 us m K)(hK:∀ m,K m→Goal P keep f0 Q m):Goal P keep f0 Q m:=by
 intro w0 base fr cs w hk s
 obtain ⟨⟨fn,n,t,todo,ds,mode,kind,round⟩,rest,h⟩:=m
 obtain ⟨B,R,fs,hc,hb,kh,ho,kt,kb⟩:=s
 unfold zi9 at e
 simp only at e
 have hkeep:∀ {a:Array Value},Slots R t a→Slots R (zfq t us .leaf) a:=fun hs u v e=>hs u v (zcD (fun u v e=>by cases e) u v e)
 split at e
 · exact e.elim
 · rename_i hn
   refine hK _ e w0 base fr cs w hk ⟨B,R,fs,hc,hb,kh,ho,?_,kb⟩
   obtain ⟨k1,k2,k3,k4,k5,k6,k7,k8,k9⟩:=kt
   refine ⟨k1,k2,k3,k4,k5,k6,k7,k8,?_⟩
   cases mode with
   | run =>
    change TodoRel P B R rest.length false h todo t fr.todo fr.tmps at k9
    show TodoRel P B R rest.length false h todo (zfq t us .leaf) fr.todo fr.tmps
    cases todo with
    | nil=>exact ⟨k9.1,hkeep k9.2⟩
    | cons it kk =>
     cases it with
     | drw a b c=>exact absurd rfl (hn a b c kk)
     | _=>exact ⟨k9.1,hkeep k9.2⟩
   | returning=>exact hkeep k9
   | panicking c=>exact hkeep k9
theorem zhs {keep k:Nat}{f0:FuncId}{Q:AV→AHeap→Prop}{ids us:List Nat}{uss:List (List Nat)}{m:AM}{K:AM→Prop}(hkk:keep≤k)(e:CanP k ids us uss m K)(hK:∀ m,K m→Goal P keep f0 Q m):Goal P keep f0 Q m:=by
 intro w0 base fr cs w hk s
 unfold CanP at e
 split at e
 · exact e.elim
 rename_i m' hm'
 obtain ⟨g1,g2⟩:=yu e
 exact hK _ g2 w0 base fr cs w hk (Sim.can (fun i r L h=>Nat.lt_of_lt_of_le (hk i r L h) hkk) hm' g1 s)
end
end Go.Proofs.Ytcdpmiebmhjmpaa.Ev
end
section
namespace Go.Proofs.Ytcdpmiebmhjmpaa.Ev
open Go
noncomputable section
variable (P:Program)
def wit (h:AHeap):List Nat→AV→Option AV
 | [],v=>some v
 | k::r,v=>match v with
  | .ptr i ver o=>match h.get i with
   | some (.cells c n _ lo hi _ _ _ ex)=>match zj ex n hi ver with
    | some e=>bif Nat.ble lo ver&&Nat.ble ver hi&&Nat.ble o k&&Nat.blt k e then (match c.get k with
     | some v=>wit h r v
     | none=>none) else none
    | none=>none
   | _=>none
  | .slc i ver o _ _=>match h.get i with
   | some (.cells c n _ lo hi _ _ _ ex)=>match zj ex n hi ver with
    | some e=>bif Nat.ble lo ver&&Nat.ble ver hi&&Nat.ble o k&&Nat.blt k e then (match c.get k with
     | some v=>wit h r v
     | none=>none) else none
    | none=>none
   | _=>none
  | .mp i=>match h.get i with
   | some (.map es _)=>match es[k]? with
    | some e=>wit h r e.val
    | none=>none
   | _=>none
  | .fn _ a b=>match (a++b)[k]? with
   | some v=>wit h r v
   | none=>none
  | .ifc _ v=>wit h r v
  | .agg l=>match l[k]? with
   | some v=>wit h r v
   | none=>none
  | .tup l=>match l[k]? with
   | some v=>wit h r v
   | none=>none
  | _=>none
def w6:AV→Option Nat
 | .ptr i _ _=>some i
 | .slc i _ _ _ _=>some i
 | .slg i _ _ _ _=>some i
 | .mp i=>some i
 | .yld i=>some i
 | _=>none
def zgq (h:AHeap) (t:T AV):List (Nat × Nat × List Nat)→Bool
 | []=>true
 | (j,u,p)::r=>(match t.get u with
  | none=>false
  | some v=>match wit h p v with
   | none=>false
   | some v=>match w6 v with
    | none=>false
    | some i=>Nat.beq i j)&&zgq h t r
def zW (l:List (Nat × Nat × List Nat)):Tab:=l.map fun p=>(p.1,none)
def locM (l:List (Nat × Nat × List Nat)) (us:List Nat) (fr:AFrame) (h:AHeap):Option AM :=
 bif nodup (l.map (·.1))&&zgq h fr.tmps l then match kl (zW l) h with
  | none=>none
  | some h0=>match zju (zW l).ver us fr with
   | none=>none
   | some a=>some ⟨a,[],h0⟩ else none
def wD (σ:List Nat) (next:Nat) (i:Nat):Nat:=match σ[i]? with
 | some j=>j
 | none=>next+(i - σ.length)
def zg5 (σ:List Nat) (next:Nat) (i r:Nat):Option (Nat × Nat):=some (wD σ next i,r)
def yy (g:Nat→Nat→Option (Nat × Nat)) (f:Nat→Nat) (objs':T AObj):Nat→Nat→T AObj→Option (T AObj)
 | 0,_,acc=>some acc
 | n+1,i,acc=>match objs'.get i with
  | none=>(acc.set none (f i)).seq fun acc=>yy g f objs' n (i+1) acc
  | some o=>match zds g none o with
   | none=>none
   | some o=>(acc.set (some o) (f i)).seq fun acc=>yy g f objs' n (i+1) acc
def j8 (objs':T AObj):Nat→Nat→List (Nat→Option AV)
 | 0,_=>[]
 | n+1,i=>match objs'.get i with
  | none=>j8 objs' n (i+1)
  | some o=>zkp o++j8 objs' n (i+1)
def zkz (σ:List Nat) (h h':AHeap):Option AHeap:=bif Nat.ble σ.length h'.next then match yy (zg5 σ h.next) (wD σ h.next) h'.objs h'.next 0 h.objs with
 | none=>none
 | some objs=>some ⟨objs,h.next+(h'.next - σ.length),h.glob⟩ else none
def zjv (l:List (Nat × Nat × List Nat)) (us:List Nat) (v:AV) (H:AHeap) (m:AM) (K:AM→Prop):Prop:=match m with
 | ⟨fr,rest,h⟩=>match rest with
  | []=>False
  | c::r=>match fr.kind with
   | .normal=>match c.mode with
    | .run=>match locM l us fr h with
     | none=>False
     | some m'=>match zdr (zg5 (l.map (·.1)) h.next) 99 v with
      | none=>False
      | some v2=>match zkz (l.map (·.1)) h H with
       | none=>False
       | some h2=>w7 (zjQ h.objs (zW l)) (w7 (j8 H.objs H.next 0) (Goal P l.length fr.fn (fun x k=>x=v∧k=H) m'∧Fin P c h2 v2 fun c=>K ⟨c,r,h2⟩))
    | _=>False
   | _=>False
end
section
variable {P:Program} {B:Base} {R:Bij} {h:AHeap} {w:World}
theorem zaU (kh:HRel P B R h w){i ver o k:Nat}{L:Loc}(hL:R i ver=some L)(hm:L.minus≤o){c:T AV}{n:Nat}{el:TypeId}{lo hi nv fz:Nat}{sg:Bool}{ex:T Nat}(ho:h.get i=some (.cells c n el lo hi nv fz sg ex)){e:Nat}
 (he:zj ex n hi ver=some e) (hb:(Nat.ble lo ver&&Nat.ble ver hi&&Nat.ble o k&&Nat.blt k e)=true) {v:AV} (hv:c.get k=some v):∃ x,VRel R v x:=by
 simp only [Bool.and_eq_true] at hb
 obtain ⟨⟨⟨h1,h2⟩,h3⟩,h4⟩:=hb
 obtain ⟨L',hL',cs,a,b,g1,g2,g3,g4,g5⟩:=kh.ver hL ho (Nat.le_of_ble_eq_true h1) (Nat.le_of_ble_eq_true h2) he
 rw [hL] at hL'; cases hL'
 have:=Nat.le_of_ble_eq_true h3
 have h4:k<e:=by simpa [Nat.blt_eq] using h4
 obtain ⟨x,_,hx⟩:=g5 k v h4 (by omega) hv
 exact ⟨x,hx⟩
theorem yY (kh:HRel P B R h w):∀ {p:List Nat} {v v':AV} {x:Value},wit h p v=some v'→VRel R v x→∃ x',VRel R v' x'
 | [],v,v',x,e,hv=>by cases e; exact ⟨x,hv⟩
 | k::r,v,v',x,e,hv=>by
  cases v <;> simp only [wit] at e
  case ptr i ver o =>
   obtain ⟨L,hL,hm,_⟩:=hv
   split at e
   · rename_i c n el lo hi nv fz sg ex ho
     split at e
     · rename_i e0 he
       cases hb:(Nat.ble lo ver&&Nat.ble ver hi&&Nat.ble o k&&Nat.blt k e0) with
       | false=>rw [hb] at e; cases e
       | true =>
        rw [hb] at e
        simp only [cond_true] at e
        split at e
        · rename_i y hy
          obtain ⟨z,hz⟩:=zaU kh hL hm ho he hb hy
          exact yY kh e hz
        · cases e
     · cases e
   · cases e
  case slc i ver o len cap =>
   obtain ⟨L,hL,hm,_⟩:=hv
   split at e
   · rename_i c n el lo hi nv fz sg ex ho
     split at e
     · rename_i e0 he
       cases hb:(Nat.ble lo ver&&Nat.ble ver hi&&Nat.ble o k&&Nat.blt k e0) with
       | false=>rw [hb] at e; cases e
       | true =>
        rw [hb] at e
        simp only [cond_true] at e
        split at e
        · rename_i y hy
          obtain ⟨z,hz⟩:=zaU kh hL hm ho he hb hy
          exact yY kh e hz
        · cases e
     · cases e
   · cases e
  case mp i =>
   obtain ⟨L,hL,_⟩:=hv
   split at e
   · rename_i es clock ho
     obtain ⟨L',es',hL',hh,hrel⟩:=kh.obj' hL ho
     split at e
     · rename_i en hen
       obtain ⟨b,_,hb⟩:=hrel.get k en hen
       exact yY kh e hb.2.1
     · cases e
   · cases e
  case fn f a b =>
   obtain ⟨_,a',b',rfl,h1,h2⟩:=hv
   split at e
   · rename_i y hy
     obtain ⟨z,_,hz⟩:=(h1.append h2).get k y hy
     exact yY kh e hz
   · cases e
  case ifc t y =>
   obtain ⟨z,_,hz⟩:=hv
   exact yY kh e hz
  case agg l =>
   obtain ⟨a,rfl,h1⟩:=hv
   split at e
   · rename_i y hy
     obtain ⟨z,_,hz⟩:=h1.get k y hy
     exact yY kh e hz
   · cases e
  case tup l =>
   obtain ⟨a,rfl,h1⟩:=hv
   split at e
   · rename_i y hy
     obtain ⟨z,_,hz⟩:=h1.get k y hy
     exact yY kh e hz
   · cases e
  all_goals cases e
theorem wP {v:AV}{x:Value}{i:Nat}(hv:VRel R v x)(e:w6 v=some i):∃ r L,R i r=some L:=by
 cases v <;> simp only [w6,Option.some.injEq] at e
 case ptr=>subst e; obtain ⟨L,hL,_⟩:=hv; exact ⟨_,L,hL⟩
 case slc=>subst e; obtain ⟨L,hL,_⟩:=hv; exact ⟨_,L,hL⟩
 case slg=>subst e; obtain ⟨L,a,hL,_⟩:=hv; exact ⟨_,L,hL⟩
 case mp=>subst e; obtain ⟨L,hL,_⟩:=hv; exact ⟨_,L,hL⟩
 case yld=>subst e; obtain ⟨L,hL,_⟩:=hv; exact ⟨_,L,hL⟩
 all_goals cases e
theorem za0 (kh:HRel P B R h w){t:T AV}{a:Array Value}(hs:Slots R t a):∀ {l:List (Nat × Nat × List Nat)},zgq h t l=true→∀ q∈l,∃ r L,R q.1 r=some L
 | [],_,q,hq=>absurd hq List.not_mem_nil
 | (j,u,p)::l,e,q,hq=>by
  simp only [zgq,Bool.and_eq_true] at e
  rcases List.mem_cons.1 hq with rfl | hq
  · have e:=e.1
    split at e
    · cases e
    · rename_i v hv
      split at e
      · cases e
      · rename_i v' hv'
        split at e
        · cases e
        · rename_i i hi
          have:=Nat.eq_of_beq_eq_true e
          subst this
          obtain ⟨x,_,hx⟩:=hs u v hv
          obtain ⟨x',hx'⟩:=yY kh hv' hx
          exact wP hx' hi
  · exact za0 kh hs e.2 q hq
theorem ze3 {g:Nat→Nat→Option (Nat × Nat)}{d:Nat}{sus:Bool}{af af':AFrame}{fr:Frame}{us:List Nat}(e:zju g us af=some af')(k:FrameRel P B R d sus h af fr):Slots R af.tmps fr.tmps:=by
 obtain ⟨fn,n,t,todo,ds,mode,kind,round⟩:=af
 simp only [zju] at e
 split at e
 · cases e
 split at e
 · cases e
 rename_i todo' htodo
 have k9:=k.top
 cases mode with
 | run =>
  change TodoRel P B R d sus h todo t fr.todo fr.tmps at k9
  cases todo with
  | nil=>exact k9.2
  | cons it kk =>
   cases it with
   | drw a b c=>exact absurd rfl (vZ htodo _ List.mem_cons_self a b c)
   | _=>exact k9.2
 | returning=>exact k9
 | panicking c=>exact k9
theorem wc {l:List (Nat × Nat × List Nat)}{i:Nat}{j:Nat}{t:Option Nat}(e:(zW l)[i]?=some (j,t)):(l.map (·.1))[i]?=some j∧t=none:=by
 unfold zW at e
 rw [List.getElem?_map] at e ⊢
 cases hl:l[i]? with
 | none=>rw [hl] at e; cases e
 | some p=>rw [hl] at e; cases e; exact ⟨rfl,rfl⟩
theorem zcT {l:List (Nat × Nat × List Nat)}{i:Nat}{j:Nat}(e:(l.map (·.1))[i]?=some j):(zW l)[i]?=some (j,none):=by
 unfold zW
 rw [List.getElem?_map] at e ⊢
 cases hl:l[i]? with
 | none=>rw [hl] at e; cases e
 | some p=>rw [hl] at e; cases e; rfl
theorem qy {g:Nat→Nat→Option (Nat × Nat)}{f:Nat→Nat}{objs':T AObj}:∀ {n i:Nat} {acc r:T AObj},yy g f objs' n i acc=some r→(∀ a b,i≤a→i≤b→a<i+n→b<i+n→f a=f b→a=b)→∀ c o2,r.get c=some o2 →
 (∃ a,i≤a∧a<i+n∧f a=c∧∃ o,objs'.get a=some o∧zds g none o=some o2)∨((∀ a,i≤a→a<i+n→f a≠c)∧acc.get c=some o2)
 | 0,i,acc,r,e,_,c,o2,hc=>by cases e; exact .inr ⟨fun a h1 h2=>by omega,hc⟩
 | n+1,i,acc,r,e,hinj,c,o2,hc=>by
  unfold yy at e
  have hinj':∀ a b,i+1≤a→i+1≤b→a<i+1+n→b<i+1+n→f a=f b→a=b:=fun a b h1 h2 h3 h4 h5=>hinj a b (by omega) (by omega) (by omega) (by omega) h5
  split at e
  · rename_i ho
    rw [T.seq_eq] at e
    rcases qy e hinj' c o2 hc with ⟨a,h1,h2,h3,h4⟩ | ⟨h1,h2⟩
    · exact .inl ⟨a,by omega,by omega,h3,h4⟩
    · rw [T.get_set] at h2
      split at h2
      · cases h2
      · rename_i hne
        refine .inr ⟨fun a g1 g2=>?_,h2⟩
        by_cases ha:a=i
        · subst ha; exact fun hh=>hne hh.symm
        · exact h1 a (by omega) (by omega)
  · rename_i o ho
    split at e
    · cases e
    · rename_i o' ho'
      rw [T.seq_eq] at e
      rcases qy e hinj' c o2 hc with ⟨a,h1,h2,h3,h4⟩ | ⟨h1,h2⟩
      · exact .inl ⟨a,by omega,by omega,h3,h4⟩
      · rw [T.get_set] at h2
        split at h2
        · rename_i hce
          cases h2
          exact .inl ⟨i,Nat.le_refl _,by omega,hce.symm,o,ho,ho'⟩
        · rename_i hne
          refine .inr ⟨fun a g1 g2=>?_,h2⟩
          by_cases ha:a=i
          · subst ha; exact fun hh=>hne hh.symm
          · exact h1 a (by omega) (by omega)
theorem yC {g:Nat→Nat→Option (Nat × Nat)}{f:Nat→Nat}{objs':T AObj}:∀ {n i:Nat} {acc r:T AObj},yy g f objs' n i acc=some r→∀ c,(∀ a,i≤a→a<i+n→f a≠c)→r.get c=acc.get c
 | 0,i,acc,r,e,c,_=>by cases e; rfl
 | n+1,i,acc,r,e,c,hc=>by
  unfold yy at e
  have hne:=hc i (Nat.le_refl _) (by omega)
  split at e
  · rw [T.seq_eq] at e
    rw [yC e c (fun a h1 h2=>hc a (by omega) (by omega)),T.get_set,if_neg (fun h=>hne h.symm)]
  · split at e
    · cases e
    · rw [T.seq_eq] at e
      rw [yC e c (fun a h1 h2=>hc a (by omega) (by omega)),T.get_set,if_neg (fun h=>hne h.symm)]
theorem ObjRel.live {i:Nat}{o:AObj}(k:ObjRel P R w i o):∃ r L,R i r=some L:=by
 cases o with
 | cells c n el lo hi nv fz sg ex =>
  obtain ⟨a1,a2,a3,a4,a5⟩:=k
  obtain ⟨L,h1,_⟩:=a4 hi n a1 (Nat.le_refl _) (by simp [zj])
  exact ⟨hi,L,h1⟩
 | map es clock=>obtain ⟨L,es',h1,_⟩:=k; exact ⟨0,L,h1⟩
 | iter s p=>obtain ⟨L,h1,_⟩:=k; exact ⟨0,L,h1⟩
 | loop lp=>obtain ⟨L,lp',h1,_⟩:=k; exact ⟨0,L,h1⟩
 | dfrd ds=>obtain ⟨L,ds',h1,_⟩:=k; exact ⟨0,L,h1⟩
 | ro c lo n=>obtain ⟨L,cs,el,fz,h1,_⟩:=k; exact ⟨0,L,h1⟩
theorem zap {objs':T AObj}:∀ {n i a:Nat} {o:AObj} {f:Nat→Option AV},i≤a→a<i+n→objs'.get a=some o→f∈zkp o→f∈j8 objs' n i
 | 0,i,a,o,f,h1,h2,_,_=>by omega
 | n+1,i,a,o,f,h1,h2,ho,hf=>by
  unfold j8
  by_cases ha:a=i
  · subst ha
    rw [ho]
    exact List.mem_append_left _ hf
  · have:=zap (n:=n) (i:=i+1) (by omega) (by omega) ho hf
    split
    · exact this
    · exact List.mem_append_right _ this
def zcU (B:Base) (R:Bij) (w:World) (σ:List Nat) (tb:Tab):Env:={ w with
 own:=fun b=>∃ j∈σ,¬ B.ro j∧∃ r L,R j r=some L∧L.block=b
 rob:=fun b=>∃ j∈σ,B.ro j∧∃ r L,R j r=some L∧L.block=b
 pin:=tb.re R }
def zdw (B:Base) (R:Bij) (w:World) (σ:List Nat) (tb:Tab):Base:=⟨zcU B R w σ tb,fun i=>∃ j,σ[i]?=some j∧B.ro j,fun _=>none,fun _=>(0,0)⟩
theorem zi5 (kh:HRel P B R h w)(hroom:B.n≤w.heap.size){l:List (Nat × Nat × List Nat)}{h0:AHeap}(hn:nodup (l.map (·.1))=true)(hlive:∀ q∈l,∃ r L,R q.1 r=some L)(e:kl (zW l) h=some h0)
 (hp:∀ f∈zjQ h.objs (zW l),wO f):HRel P (zdw B R w (l.map (·.1)) (zW l)) ((zW l).re R) h0 w:=by
 obtain ⟨objs,next,glob⟩:=h
 simp only [kl] at e
 cases hlt:((zW l).all fun p=>Nat.blt p.1 next) with
 | false=>rw [hlt] at e; cases e
 | true =>
  rw [hlt] at e
  simp only [cond_true] at e
  split at e
  · cases e
  rename_i objs' hobjs
  cases e
  have hget:=wM (n:=0) hobjs (fun q o' g=>by cases g) (fun q=>by rw [Nat.zero_add])
  have hsome:=qt hobjs
  have hre:∀ {i r L},(zW l).re R i r=some L→∃ j,(l.map (·.1))[i]?=some j∧R j r=some L:=by
   intro i r L e
   unfold Tab.re at e
   split at e
   · cases e
   · rename_i j hi; exact ⟨j,(wc hi).1,e⟩
   · rename_i j t hi; cases (wc hi).2
  have hmem:∀ {i j:Nat},(l.map (·.1))[i]?=some j→j∈l.map (·.1):=fun hi=>List.mem_of_getElem? hi
  have hpend:∀ {j:Nat},j∈l.map (·.1)→B.pend j=none:=fun hj=>by
   obtain ⟨q,hq,rfl⟩:=List.mem_map.1 hj
   obtain ⟨r,L,hL⟩:=hlive q hq
   exact kh.live hL
  have hmay:∀ b,(zdw B R w (l.map (·.1)) (zW l)).may b→B.may b:=by
   rintro b (h1 | ⟨j,_,hj,r,L,hL,rfl⟩)
   · exact .inl (Nat.le_trans hroom h1)
   · exact (kh.place j r L hL).1.elim id fun h=>absurd h hj
  refine ⟨fun i hi r=>?_,fun i o' eo _=>?_,(fun i o e=>by cases e),fun i r L e=>?_,fun i hi=>?_,fun i hi=>rfl,fun i r L hi e=>?_,fun b _=>rfl,fun i r L e=>e,fun i r i' r' L L' e e' hbl hor=>?_,fun i r r' L L' e e' hbl=>?_,fun g c e=>?_⟩
  · have:(zW l)[i]?=none:=List.getElem?_eq_none hi
    simp only [Tab.re,this]
  · obtain ⟨j,t,o,q1,q2,q3⟩:=hget i o' eo
    obtain ⟨q4,rfl⟩:=wc q1
    exact zbB ((zW l).ok R) (fun _ r=>by simp only [Tab.re,q1]) (fun t0 ht r=>by cases ht) q3 (fun f hf=>hp f (zbi hsome q1 q2 hf)) (kh.obj j o q2 (hpend (hmem q4)))
  · obtain ⟨j,q1,q2⟩:=hre e
    refine ⟨?_,(kh.place j r L q2).2⟩
    by_cases hr:B.ro j
    · exact .inr ⟨j,q1,hr⟩
    · exact .inl (.inr ⟨j,hmem q1,hr,r,L,q2,rfl⟩)
  · obtain ⟨j,q1,q2⟩:=hi
    refine ⟨by have:=(List.getElem?_eq_some_iff.1 (zcT q1)).1; exact this,fun o' eo=>?_⟩
    obtain ⟨j',t',o,p1,p2,p3⟩:=hget i o' eo
    obtain ⟨p4,rfl⟩:=wc p1
    rw [q1] at p4; cases p4
    have:=(kh.rd j q2).2 o p2
    cases o with
    | ro c lo n=>simp only [zds] at p3; cases p3; rfl
    | _=>cases this
  · obtain ⟨j,q1,q2⟩:=hi
    obtain ⟨j',p1,p2⟩:=hre e
    rw [q1] at p1; cases p1
    exact ⟨j,hmem q1,q2,r,L,p2,rfl⟩
  · obtain ⟨j,q1,q2⟩:=hre e
    obtain ⟨j',q1',q2'⟩:=hre e'
    have:=kh.apart j r j' r' L L' q2 q2' hbl (hor.imp (fun hn hr=>hn ⟨j,q1,hr⟩) (fun hn hr=>hn ⟨j',q1',hr⟩))
    subst this
    exact yh hn q1 q1'
  · obtain ⟨j,q1,q2⟩:=hre e
    obtain ⟨j',q1',q2'⟩:=hre e'
    rw [q1] at q1'; cases q1'
    exact kh.same j r r' L L' q2 q2' hbl
  · obtain ⟨g1,g2⟩:=kh.glob g c e
    exact ⟨fun hm=>g1 (hmay g hm),g2⟩
def kQ (σ:List Nat) (next:Nat) (R R':Bij):Bij:=fun c r=>match (σ.map fun j=>((j,none):Nat × Option Nat)) |> fun tb=>Tab.find tb c with
 | some (i,_)=>R' i r
 | none=>if next≤c then R' (σ.length+(c - next)) r else R c r
theorem zh0 {σ:List Nat}{c i:Nat}{t:Option Nat}(e:Tab.find (σ.map fun j=>(j,none)) c=some (i,t)):σ[i]?=some c:=by
 have:=(qW e).2
 simp only [Nat.sub_zero,List.getElem?_map] at this
 cases hs:σ[i]? with
 | none=>rw [hs] at this; cases this
 | some x=>rw [hs] at this; cases this; rfl
theorem zdR {c:Nat}:∀ {σ:List Nat} {i k:Nat},nodup σ=true→σ[i]?=some c→zdQ c (σ.map fun j=>((j,none):Nat × Option Nat)) k=some (k+i,none)
 | [],i,k,_,e=>by simp at e
 | j::r,i,k,hn,e=>by
  cases i with
  | zero =>
   simp at e; subst e
   simp [zdQ,Nat.beq_refl]
  | succ i =>
   have hne:j≠c:=fun h=>by
    subst h
    have:=yh hn (p:=0) (q:=i+1) (j:=j) (by simp) e
    omega
   have hb:Nat.beq j c=false:=by
    cases hb:Nat.beq j c with
    | false=>rfl
    | true=>exact absurd (Nat.eq_of_beq_eq_true hb) hne
   have hn':nodup r=true:=by simp only [nodup,Bool.and_eq_true] at hn; exact hn.2
   have:=zdR (σ:=r) (i:=i) (k:=k+1) hn' (by simpa using e)
   simp only [List.map_cons,zdQ,hb,cond_false]
   rw [this]
   congr 2
   omega
theorem zf5 {σ:List Nat}{c:Nat}(e:Tab.find (σ.map fun j=>((j,none):Nat × Option Nat)) c=none)(hn:nodup σ=true):c ∉ σ:=by
 intro hc
 obtain ⟨i,hi,he⟩:=List.getElem_of_mem hc
 have:=zdR (σ:=σ) (i:=i) (k:=0) hn (by rw [List.getElem?_eq_getElem hi,he])
 unfold Tab.find at e
 rw [this] at e
 cases e
noncomputable def xc (B B':Base) (σ:List Nat) (next:Nat) (h2:AHeap):Base:={ B with
 pend:=fun c=>match Tab.find (σ.map fun j=>((j,none):Nat × Option Nat)) c with
  | some _=>none
  | none=>if next≤c then (match B'.pend (σ.length+(c - next)) with
   | none=>none
   | some _=>h2.get c) else B.pend c
 ro:=fun c=>match Tab.find (σ.map fun j=>((j,none):Nat × Option Nat)) c with
  | some (i,_)=>B'.ro i
  | none=>if next≤c then B'.ro (σ.length+(c - next)) else B.ro c }
theorem ze8 {keep:Nat}{f0:FuncId}{Q:AV→AHeap→Prop}{l:List (Nat × Nat × List Nat)}{us:List Nat}{v:AV}{H:AHeap}{m:AM}{K:AM→Prop}(e:zjv P l us v H m K)(hK:∀ m,K m→Goal P keep f0 Q m):Goal P keep f0 Q m:=by
 intro w0 base fr cs w hk s
 obtain ⟨a,rest,h⟩:=m
 unfold zjv at e
 simp only at e
 split at e
 · exact e.elim
 rename_i c r
 split at e
 rotate_left
 · exact e.elim
 rename_i hkind
 split at e
 rotate_left
 · exact e.elim
 rename_i hcm
 split at e
 · exact e.elim
 rename_i m' hm'
 split at e
 · exact e.elim
 rename_i v2 hv2
 split at e
 · exact e.elim
 rename_i h2 hh2
 obtain ⟨hp1,e⟩:=yu e
 obtain ⟨hp2,hspec,hgo⟩:=yu e
 obtain ⟨B,R,fs,rfl,hb,kh,ho,kt,kb⟩:=s
 obtain ⟨f,fs',rfl,kf,kr⟩:=kb
 have hroom:B.n≤w.heap.size:=by show B.env.heap.size≤_; rw [hb]; exact ho.size
 unfold locM at hm'
 cases hn:(nodup (l.map (·.1))&&zgq h a.tmps l) with
 | false=>rw [hn] at hm'; cases hm'
 | true =>
 rw [hn] at hm'
 rw [Bool.and_eq_true] at hn
 obtain ⟨hnd,hled⟩:=hn
 simp only [cond_true] at hm'
 split at hm'
 · cases hm'
 rename_i h0 hh0
 split at hm'
 · cases hm'
 rename_i a0 ha0
 cases hm'
 generalize hσ:l.map (·.1)=σ at *
 have hlen:l.length=σ.length:=by rw [← hσ]; simp
 have hlive:=za0 kh (ze3 ha0 kt) hled
 have hloc:=zi5 kh hroom (by rw [hσ]; exact hnd) hlive hh0 hp1
 rw [hσ] at hloc
 obtain ⟨fr',w',B',R',v0,v',h',s1,s2,s3,s4,s5,s6,s7,rfl,rfl⟩:=hspec (zcU B R w σ (zW l)) (f::fs'++base) fr (f::fs'++base) w
  (fun i r L e=>by
   have:i<(zW l).length:=by
    unfold zcU at e
    simp only [Tab.re] at e
    split at e
    · cases e
    · rename_i j hi; exact (List.getElem?_eq_some_iff.1 hi).1
    · rename_i j t hi; exact (List.getElem?_eq_some_iff.1 hi).1
   simpa [zW] using this)
  ⟨zdw B R w σ (zW l),(zW l).re R,[],rfl,rfl,hloc,⟨rfl,rfl,rfl,Nat.le_refl _,Nat.le_refl _⟩,jm ((zW l).ok R) ha0 kt,rfl⟩
 have hold:OldX (zcU B R w σ (zW l)) w':=s7.all s5 s6
 have hpin:∀ i r L,(zW l).re R i r=some L→R' i r=some L:=fun i r L e=>s6.pin i r L (by rw [s5]; exact e)
 have hσget:∀ {i j:Nat},σ[i]?=some j→(zW l)[i]?=some (j,none):=fun hi=>zcT (by rw [hσ]; exact hi)
 have hpinσ:∀ {i j:Nat},σ[i]?=some j→∀ r L,R j r=some L→R' i r=some L:=fun hi r L e=>hpin _ r L (by simp only [Tab.re,hσget hi]; exact e)
 have hσlt:∀ {j:Nat},j∈σ→j<h.next:=fun hj=>by
  rw [← hσ] at hj
  obtain ⟨q,hq,rfl⟩:=List.mem_map.1 hj
  obtain ⟨r,L,hL⟩:=hlive q hq
  rcases Nat.lt_or_ge q.1 h.next with h1 | h1
  · exact h1
  · rw [kh.fresh _ h1] at hL; cases hL
 have hσpend:∀ {j:Nat},j∈σ→B.pend j=none:=fun hj=>by
  rw [← hσ] at hj
  obtain ⟨q,hq,rfl⟩:=List.mem_map.1 hj
  obtain ⟨r,L,hL⟩:=hlive q hq
  exact kh.live hL
 have hσpend':∀ {i j:Nat},σ[i]?=some j→B'.pend i=none:=fun hi=>by
  have hj:=List.mem_of_getElem? hi
  rw [← hσ] at hj
  obtain ⟨q,hq,hqj⟩:=List.mem_map.1 hj
  obtain ⟨r,L,hL⟩:=hlive q hq
  rw [hqj] at hL
  exact s6.live (hpinσ hi r L hL)
 have hfind:∀ c,(∃ i,σ[i]?=some c∧Tab.find (σ.map fun j=>((j,none):Nat × Option Nat)) c=some (i,none))∨(c ∉ σ∧Tab.find (σ.map fun j=>((j,none):Nat × Option Nat)) c=none):=by
  intro c
  cases hc:Tab.find (σ.map fun j=>((j,none):Nat × Option Nat)) c with
  | none=>exact .inr ⟨zf5 hc hnd,rfl⟩
  | some p =>
   obtain ⟨i,t⟩:=p
   have hi:=zh0 hc
   have:=zdR (k:=0) hnd hi
   unfold Tab.find at hc
   rw [this,Nat.zero_add] at hc
   cases hc
   exact .inl ⟨i,hi,rfl⟩
 have hble:σ.length≤h'.next∧∃ objs,yy (zg5 σ h.next) (wD σ h.next) h'.objs h'.next 0 h.objs=some objs∧h2=⟨objs,h.next+(h'.next - σ.length),h.glob⟩:=by
  unfold zkz at hh2
  cases hbl:Nat.ble σ.length h'.next with
  | false=>rw [hbl] at hh2; cases hh2
  | true =>
   rw [hbl] at hh2
   simp only [cond_true] at hh2
   split at hh2
   · cases hh2
   · rename_i objs hobjs; cases hh2; exact ⟨Nat.le_of_ble_eq_true hbl,objs,hobjs,rfl⟩
 obtain ⟨hkn,objs2,hobjs2,rfl⟩:=hble
 have hFσ:∀ {i j:Nat},σ[i]?=some j→wD σ h.next i=j:=fun hi=>by simp only [wD,hi]
 have hFn:∀ {i:Nat},σ.length≤i→wD σ h.next i=h.next+(i - σ.length):=fun hi=>by simp only [wD,List.getElem?_eq_none hi]
 have hFinj:∀ a b,0≤a→0≤b→a<0+h'.next→b<0+h'.next→wD σ h.next a=wD σ h.next b→a=b:=by
  intro a b _ _ _ _ hab
  rcases Nat.lt_or_ge a σ.length with h1 | h1 <;> rcases Nat.lt_or_ge b σ.length with h3 | h3
  · have e1:=List.getElem?_eq_getElem h1
    have e2:=List.getElem?_eq_getElem h3
    rw [hFσ e1,hFσ e2] at hab
    rw [← hab] at e2
    exact yh hnd e1 e2
  · have e1:=List.getElem?_eq_getElem h1
    rw [hFσ e1,hFn h3] at hab
    have:=hσlt (List.mem_of_getElem? e1)
    omega
  · have e2:=List.getElem?_eq_getElem h3
    rw [hFn h1,hFσ e2] at hab
    have:=hσlt (List.mem_of_getElem? e2)
    omega
  · rw [hFn h1,hFn h3] at hab; omega
 have hget:=qy hobjs2 hFinj
 have hR2σ:∀ {i c r},σ[i]?=some c→kQ σ h.next R R' c r=R' i r:=fun hi=>by
  rcases hfind _ with ⟨i',h1,h3⟩ | ⟨h1,_⟩
  · have:=yh hnd hi h1
    subst this
    simp only [kQ,h3]
  · exact absurd (List.mem_of_getElem? hi) h1
 have hR2n:∀ {i r},σ.length≤i→kQ σ h.next R R' (h.next+(i - σ.length)) r=R' i r:=fun {i r} hi=>by
  rcases hfind (h.next+(i - σ.length)) with ⟨i',h1,h3⟩ | ⟨h1,h3⟩
  · have:=hσlt (List.mem_of_getElem? h1); omega
  · simp only [kQ,h3]
    rw [if_pos (by omega)]
    congr 1
    omega
 have hR2o:∀ {c r},c ∉ σ→c<h.next→kQ σ h.next R R' c r=R c r:=fun {c r} h1 h3=>by
  rcases hfind c with ⟨i',h4,_⟩ | ⟨_,h4⟩
  · exact absurd (List.mem_of_getElem? h4) h1
  · simp only [kQ,h4]
    rw [if_neg (by omega)]
 have hR2F:∀ i r,kQ σ h.next R R' (wD σ h.next i) r=R' i r:=fun i r=>by
  rcases Nat.lt_or_ge i σ.length with h1 | h1
  · have e1:=List.getElem?_eq_getElem h1
    rw [hFσ e1,hR2σ e1]
  · rw [hFn h1,hR2n h1]
 have hren:RenOk (zg5 σ h.next) R' (kQ σ h.next R R'):=fun i r j r' e L hL=>by
  simp only [zg5,Option.some.injEq,Prod.mk.injEq] at e
  obtain ⟨rfl,rfl⟩:=e
  rw [hR2F]; exact hL
 have hparts:∀ c,(c ∉ σ∧c<h.next)∨∃ i,wD σ h.next i=c∧(c∈σ∨h.next≤c):=by
  intro c
  by_cases hc:c∈σ
  · obtain ⟨i,hi,he⟩:=List.getElem_of_mem hc
    exact .inr ⟨i,hFσ (by rw [List.getElem?_eq_getElem hi,he]),.inl hc⟩
  · rcases Nat.lt_or_ge c h.next with h1 | h1
    · exact .inl ⟨hc,h1⟩
    · exact .inr ⟨σ.length+(c - h.next),by rw [hFn (by omega)]; omega,.inr h1⟩
 have hnot:∀ {c i},c ∉ σ→c<h.next→wD σ h.next i≠c:=fun {c i} h1 h3 he=>by
  rcases Nat.lt_or_ge i σ.length with h4 | h4
  · have e1:=List.getElem?_eq_getElem h4
    rw [hFσ e1] at he
    exact h1 (he▸List.mem_of_getElem? e1)
  · rw [hFn h4] at he; omega
 have hleR:R.le (kQ σ h.next R R'):=fun c r L e=>by
  have hc:c<h.next:=by
   rcases Nat.lt_or_ge c h.next with h1 | h1
   · exact h1
   · rw [kh.fresh c h1] at e; cases e
  by_cases hcσ:c∈σ
  · obtain ⟨i,hi,he⟩:=List.getElem_of_mem hcσ
    have e1:σ[i]?=some c:=by rw [List.getElem?_eq_getElem hi,he]
    rw [hR2σ e1]; exact hpinσ e1 r L e
  · rw [hR2o hcσ hc]; exact e
 have howned:∀ b,(zcU B R w σ (zW l)).own b→B.may b:=by
  rintro b ⟨j,_,hj,r0,L,hL,rfl⟩
  exact (kh.place j r0 L hL).1.elim id fun h=>absurd h hj
 have hsame:∀ {c r0 L},c ∉ σ→R c r0=some L→w'.heap[L.block]?=w.heap[L.block]?:=fun {c r0 L} hc hL=>by
  refine hold.other _ (kh.place c r0 L hL).2 ?_
  rintro ⟨j,hj,hjr,r1,M,hM,hbl⟩
  have:=kh.apart j r1 c r0 M L hM hL hbl (.inl hjr)
  exact hc (this▸hj)
 have hmay:∀ {i r0 L},R' i r0=some L→¬ B'.ro i→B.may L.block:=fun {i r0 L} hL hr=>by
  have:=(s6.place i r0 L hL).1.elim id fun h=>absurd h hr
  rcases this with h1 | h1
  · refine .inl (Nat.le_trans hroom ?_)
    have:B'.env.heap.size≤L.block:=h1
    rw [s5] at this
    exact this
  · rw [s5] at h1
    exact howned _ h1
 have hrob:∀ {i r0 L},R' i r0=some L→B'.ro i→∃ j∈σ,B.ro j∧∃ r1 M,R j r1=some M∧M.block=L.block:=fun {i r0 L} hL hr=>by
  have:=s6.rol i r0 L hr hL
  rw [s5] at this
  obtain ⟨j,h1,h3,r1,M,h4,h5⟩:=this
  exact ⟨j,h1,h3,r1,M,h4,h5⟩
 have hroF:∀ i,(xc B B' σ h.next ⟨objs2,h.next+(h'.next - σ.length),h.glob⟩).ro (wD σ h.next i)=B'.ro i:=fun i=>by
  rcases Nat.lt_or_ge i σ.length with h1 | h1
  · have e1:=List.getElem?_eq_getElem h1
    rw [hFσ e1]
    rcases hfind σ[i] with ⟨i',h3,h4⟩ | ⟨h3,_⟩
    · have:=yh hnd e1 h3
      subst this
      simp only [xc,h4]
    · exact absurd (List.mem_of_getElem? e1) h3
  · rw [hFn h1]
    rcases hfind (h.next+(i - σ.length)) with ⟨i',h3,_⟩ | ⟨_,h4⟩
    · have:=hσlt (List.mem_of_getElem? h3); omega
    · simp only [xc,h4]
      rw [if_pos (by omega)]
      congr 1
      omega
 have hroO:∀ c,c ∉ σ→c<h.next→(xc B B' σ h.next ⟨objs2,h.next+(h'.next - σ.length),h.glob⟩).ro c=B.ro c:=fun c h1 h3=>by
  rcases hfind c with ⟨i',h4,_⟩ | ⟨_,h4⟩
  · exact absurd (List.mem_of_getElem? h4) h1
  · simp only [xc,h4]
    rw [if_neg (by omega)]
 have hpendσ:∀ c,c∈σ→(xc B B' σ h.next ⟨objs2,h.next+(h'.next - σ.length),h.glob⟩).pend c=none:=fun c h1=>by
  rcases hfind c with ⟨i',_,h4⟩ | ⟨h4,_⟩
  · simp only [xc,h4]
  · exact absurd h1 h4
 have hpendO:∀ c,c ∉ σ→c<h.next→(xc B B' σ h.next ⟨objs2,h.next+(h'.next - σ.length),h.glob⟩).pend c=B.pend c:=fun c h1 h3=>by
  rcases hfind c with ⟨i',h4,_⟩ | ⟨_,h4⟩
  · exact absurd (List.mem_of_getElem? h4) h1
  · simp only [xc,h4]
    rw [if_neg (by omega)]
 have hpendN:∀ c,h.next≤c→(xc B B' σ h.next ⟨objs2,h.next+(h'.next - σ.length),h.glob⟩).pend c=(match B'.pend (σ.length+(c - h.next)) with
  | none=>none
  | some _=>(⟨objs2,h.next+(h'.next - σ.length),h.glob⟩:AHeap).get c):=fun c h1=>by
  rcases hfind c with ⟨i',h3,_⟩ | ⟨_,h4⟩
  · have:=hσlt (List.mem_of_getElem? h3); omega
  · simp only [xc,h4]
    rw [if_pos h1]
 have hH:HRel P (xc B B' σ h.next ⟨objs2,h.next+(h'.next - σ.length),h.glob⟩) (kQ σ h.next R R') ⟨objs2,h.next+(h'.next - σ.length),h.glob⟩ w':=by
  refine ⟨fun c hc r0=>?_,fun c o2 eo hpe=>?_,fun c o2 e=>?_,fun c r0 L e=>?_,fun c hc=>?_,fun c hc=>?_,fun c r0 L hc e=>?_,fun b hbm=>?_,fun c r0 L e=>?_,fun c r0 c' r0' L L' e e' hbl hor=>?_,fun c r0 r0' L L' e e' hbl=>?_,fun g cc e=>?_⟩
  ·
   have hc:h.next+(h'.next - σ.length)≤c:=hc
   have:kQ σ h.next R R' c r0=R' (σ.length+(c - h.next)) r0:=by
    have:=hR2n (i:=σ.length+(c - h.next)) (r:=r0) (by omega)
    rwa [show h.next+(σ.length+(c - h.next) - σ.length)=c by omega] at this
   rw [this]
   exact s6.fresh _ (by omega) r0
  ·
   rcases hget c o2 eo with ⟨i,_,hi,hic,o,ho1,ho2⟩ | ⟨hno,hold2⟩
   · subst hic
     have hpi:B'.pend i=none:=by
      rcases Nat.lt_or_ge i σ.length with h1 | h1
      · exact hσpend' (List.getElem?_eq_getElem h1)
      · rw [hFn h1,hpendN _ (by omega)] at hpe
        rw [show σ.length+(h.next+(i - σ.length) - h.next)=i by omega] at hpe
        cases hb:B'.pend i with
        | none=>rfl
        | some o0 =>
         rw [hb] at hpe
         simp only at hpe
         rw [hFn h1] at eo
         rw [eo] at hpe
         cases hpe
     exact zbB hren (fun _ r=>hR2F i r) (fun t0 ht=>by cases ht) ho2 (fun f hf=>hp2 f (zap (Nat.zero_le _) hi ho1 hf)) (s6.obj i o ho1 hpi)
   · rcases hparts c with ⟨h1,h3⟩ | ⟨i,hic,h3⟩
     · rw [hpendO c h1 h3] at hpe
       exact (kh.obj c o2 hold2 hpe).mono hleR (fun r=>hR2o h1 h3) (fun r L hL=>hsame h1 hL)
     · exfalso
       rcases h3 with h3 | h3
       · obtain ⟨i',hi',he⟩:=List.getElem_of_mem h3
         exact hno i' (Nat.zero_le _) (by omega) (hFσ (by rw [List.getElem?_eq_getElem hi',he]))
       · have hold2:h.get c=some o2:=hold2
         have hpc:B.pend c=none:=by
          cases hb:B.pend c with
          | none=>rfl
          | some o0=>exact absurd (kh.pend c o0 hb).1 (Nat.not_lt.2 h3)
         obtain ⟨r1,L,hL⟩:=(kh.obj c o2 hold2 hpc).live
         rw [kh.fresh c h3] at hL
         cases hL
  ·
   by_cases hc:c∈σ
   · rw [hpendσ c hc] at e; cases e
   · rcases Nat.lt_or_ge c h.next with h1 | h1
     · rw [hpendO c hc h1] at e
       obtain ⟨g1,g2,g3⟩:=kh.pend c o2 e
       refine ⟨by show c<h.next+_; omega,?_,fun r0=>by rw [hR2o hc h1]; exact g3 r0⟩
       exact (yC hobjs2 c fun a _ _=>hnot hc h1).trans g2
     · rw [hpendN c h1] at e
       cases hb:B'.pend (σ.length+(c - h.next)) with
       | none=>rw [hb] at e; cases e
       | some o0 =>
        rw [hb] at e
        simp only at e
        obtain ⟨g1,g2,g3⟩:=s6.pend _ o0 hb
        refine ⟨by show c<h.next+_; omega,e,fun r0=>?_⟩
        have:=hR2n (i:=σ.length+(c - h.next)) (r:=r0) (by omega)
        rw [show h.next+(σ.length+(c - h.next) - σ.length)=c by omega] at this
        rw [this]; exact g3 r0
  ·
   rcases hparts c with ⟨h1,h3⟩ | ⟨i,rfl,_⟩
   · rw [hR2o h1 h3] at e
     refine ⟨?_,Nat.lt_of_lt_of_le (kh.place c r0 L e).2 s7.size⟩
     rw [hroO c h1 h3]
     exact (kh.place c r0 L e).1
   · rw [hR2F] at e
     refine ⟨?_,(s6.place i r0 L e).2⟩
     rw [hroF]
     by_cases hr:B'.ro i
     · exact .inr hr
     · exact .inl (hmay e hr)
  ·
   rcases hparts c with ⟨h1,h3⟩ | ⟨i,rfl,h3⟩
   · rw [hroO c h1 h3] at hc
     refine ⟨by show c<h.next+_; omega,fun o2 eo=>?_⟩
     rcases hget c o2 eo with ⟨i,_,hi,hic,_⟩ | ⟨_,hold2⟩
     · exact absurd hic (hnot h1 h3)
     · exact (kh.rd c hc).2 o2 hold2
   · rw [hroF] at hc
     obtain ⟨g1,g2⟩:=s6.rd i hc
     refine ⟨?_,fun o2 eo=>?_⟩
     · show wD σ h.next i<h.next+(h'.next - σ.length)
       rcases Nat.lt_or_ge i σ.length with h4 | h4
       · have e1:=List.getElem?_eq_getElem h4
         rw [hFσ e1]
         have:=hσlt (List.mem_of_getElem? e1)
         omega
       · rw [hFn h4]; omega
     · rcases hget _ o2 eo with ⟨i',_,hi',hic,o,ho1,ho2⟩ | ⟨hno,_⟩
       · have:=hFinj i' i (Nat.zero_le _) (Nat.zero_le _) hi' (by omega) hic
         subst this
         have:=g2 o ho1
         cases o with
         | ro c lo n=>simp only [zds] at ho2; cases ho2; rfl
         | _=>cases this
       · exact absurd rfl (hno i (Nat.zero_le _) (by omega))
  ·
   by_cases hcσ:c∈σ
   · exact hpendσ c hcσ
   · rcases Nat.lt_or_ge c h.next with h1 | h1
     · rw [hroO c hcσ h1] at hc
       rw [hpendO c hcσ h1]
       exact kh.rp c hc
     · have hF:wD σ h.next (σ.length+(c - h.next))=c:=by rw [hFn (by omega)]; omega
       have:=hroF (σ.length+(c - h.next))
       rw [hF] at this
       rw [this] at hc
       rw [hpendN c h1,s6.rp _ hc]
  ·
   rcases hparts c with ⟨h1,h3⟩ | ⟨i,rfl,_⟩
   · rw [hroO c h1 h3] at hc
     rw [hR2o h1 h3] at e
     exact kh.rol c r0 L hc e
   · rw [hroF] at hc
     rw [hR2F] at e
     obtain ⟨j,_,hj,r1,M,hM,hbl⟩:=hrob e hc
     rw [← hbl]
     exact kh.rol j r1 M hj hM
  ·
   have hbm':¬ B.may b:=hbm
   have hlt:=Nat.lt_of_lt_of_le (Base.low_lt hbm') hroom
   exact (hold.other b hlt (fun h=>hbm' (howned b h))).trans (kh.low b hbm')
  · exact hleR _ _ _ (kh.pin c r0 L e)
  ·
   have cross:∀ {c r0 L i r1 M},c ∉ σ→c<h.next→R c r0=some L→R' i r1=some M→L.block=M.block→(¬ B.ro c∨¬ B'.ro i)→False:=by
    intro c r0 L i r1 M h1 h3 hL hM hbl hor
    by_cases hr:B'.ro i
    · obtain ⟨j,hj,hjr,r2,N,hN,hbN⟩:=hrob hM hr
      have:=kh.apart c r0 j r2 L N hL hN (hbl.trans hbN.symm) (.inl (hor.resolve_right (fun h=>h hr)))
      exact h1 (this▸hj)
    · have:=(s6.place i r1 M hM).1.elim id fun h=>absurd h hr
      rcases this with h4 | h4
      · have h4:B'.env.heap.size≤M.block:=h4
        rw [s5] at h4
        have h4:w.heap.size≤M.block:=h4
        have:=(kh.place c r0 L hL).2
        omega
      · rw [s5] at h4
        obtain ⟨j,hj,hjr,r2,N,hN,hbN⟩:=h4
        have:=kh.apart c r0 j r2 L N hL hN (hbl.trans hbN.symm) (.inr hjr)
        exact h1 (this▸hj)
   rcases hparts c with ⟨h1,h3⟩ | ⟨i,rfl,_⟩ <;> rcases hparts c' with ⟨h1',h3'⟩ | ⟨i',rfl,_⟩
   · rw [hR2o h1 h3] at e
     rw [hR2o h1' h3'] at e'
     rw [hroO c h1 h3,hroO c' h1' h3'] at hor
     exact kh.apart c r0 c' r0' L L' e e' hbl hor
   · rw [hR2o h1 h3] at e
     rw [hR2F] at e'
     rw [hroO c h1 h3,hroF] at hor
     exact (cross h1 h3 e e' hbl hor).elim
   · rw [hR2F] at e
     rw [hR2o h1' h3'] at e'
     rw [hroO c' h1' h3',hroF] at hor
     exact (cross h1' h3' e' e hbl.symm hor.symm).elim
   · rw [hR2F] at e e'
     rw [hroF,hroF] at hor
     rw [s6.apart i r0 i' r0' L L' e e' hbl hor]
  ·
   rcases hparts c with ⟨h1,h3⟩ | ⟨i,rfl,_⟩
   · rw [hR2o h1 h3] at e e'
     exact kh.same c r0 r0' L L' e e' hbl
   · rw [hR2F] at e e'
     exact s6.same i r0 r0' L L' e e' hbl
  ·
   obtain ⟨g1,cs,el,fz,g2,g3⟩:=kh.glob g cc e
   refine ⟨g1,cs,el,fz,(hold.other g (xq g2) (fun h=>g1 (howned g h))).trans g2,g3⟩
 have hkeep:B.keeps (xc B B' σ h.next ⟨objs2,h.next+(h'.next - σ.length),h.glob⟩) (r.length+1):=⟨rfl,fun id ob e _=>by
  have h1:id ∉ σ:=fun hm=>by rw [hσpend hm] at e; cases e
  have h3:=(kh.pend id ob e).1
  exact ⟨by rw [hpendO id h1 h3]; exact e,rfl⟩⟩
 obtain ⟨c',q1,q2⟩:=vz hgo
 have hsim:Sim P w0 base ⟨c',r,⟨objs2,h.next+(h'.next - σ.length),h.glob⟩⟩ (f.finish v') (fs'++base) w' :=
  ⟨xc B B' σ h.next ⟨objs2,h.next+(h'.next - σ.length),h.glob⟩,kQ σ h.next R R',fs',rfl,hb,hH,⟨s7.os.trans ho.os,s7.tape.trans ho.tape,s7.output.trans ho.output,Nat.le_trans ho.size s7.size,Nat.le_trans ho.drawn s7.drawn⟩,
   xk (kf.mono (h':=h) hleR hkeep (Nat.lt_succ_self _)) hcm q1 (yA hren 99 _ _ _ hv2 s4),kr.mono hleR hkeep (Nat.le_succ _)⟩
 obtain ⟨fr2,w2,B2,R2,v3,v3',h3,t1,t2⟩:=hK _ q2 w0 base _ _ w' hk hsim
 exact ⟨fr2,w2,B2,R2,v3,v3',h3,s1.trans (.head (zf9 s2) t1),t2⟩
end
end Go.Proofs.Ytcdpmiebmhjmpaa.Ev
end
