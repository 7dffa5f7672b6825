import Derived.WalkKit
import Derived.ProofKit
import Derived.OpenShut
import Derived.Test.YtehelionjafnkaaP00
import Derived.Test.YtehelionjafnkaaP01
import Derived.Test.YtehelionjafnkaaP02
section
namespace Go.Proofs.Ytehelionjafnkaa.Ev
open Go
section
variable {P:Program} {w0:Env} {base:List Frame} {B:Base} {R:Bij} {af:AFrame} {rest:List AFrame} {h:AHeap} {fr:Frame} {fs:List Frame} {w:World}
theorem Plain.ends (k:Plain P w0 base B R af rest h fr fs w)(hs:Slots R af.tmps fr.tmps){m:AM}(e:(some ⟨af.withMode .returning,rest,h⟩:Option AM)=some m)
 (hst:step P (lone fr (fs++base) w)=.next (lone { fr with mode:=.returning } (fs++base) w)):zdi P w0 base m fr (fs++base) w:=by
 cases e
 refine ⟨_,_,_,.one hst,B,R,fs,rfl,k.base,k.heap,k.old,?_,k.below⟩
 obtain ⟨k1,k2,k3,k4,k5,k6,k7,k8,k9⟩:=k.top
 obtain ⟨fn,n,t,td,ds,mode,kind,round⟩:=af
 exact ⟨k1,k2,k3,k4,k5,k6,rfl,k8,hs⟩
theorem zkF (hmix:P.follows .mixedOrders=true)(k:Plain P w0 base B R af rest h fr fs w)(hs:Slots R af.tmps fr.tmps){c:Code}{kk:List AItem}{kk':List Item}(hfr:fr.todo=.code c::kk')(hk:All2 (ItemRel R) kk kk')
 {m:AM} (e:znN P af rest h c kk=some m):zdi P w0 base m fr (fs++base) w:=by
 have hm:=zlO k
 have cons:∀ {a:AItem} {b:Item} {as:List AItem} {bs:List Item},ItemRel R a b→All2 (ItemRel R) as bs→All2 (ItemRel R) (a::as) (b::bs):=fun h1 h2=>⟨_,_,rfl,h1,h2⟩
 have hround:=k.top.round
 have leave:∀ {jump:Option Code},vo P af rest h jump=some m →
  (fr.roundOf=none→(jump=none∨jump=some .ret)→(stepG P true { frame:=fr,callers:=fs++base,status:=.running,dying:=none } w).bare=.go { frame:={ fr with mode:=.returning },callers:=fs++base,status:=.running,dying:=none } w) →
  (∀ l,fr.roundOf=some l→(stepG P true { frame:=fr,callers:=fs++base,status:=.running,dying:=none } w).bare=(match (Instr.endRound l jump).run P w with
   | .ok v w=>(doReturn P true fr (fs++base) none v w).bare
   | .halt _ w => (GStep.ended (.stuck "range over a function: no such loop" (fr.pos P)) w).bare)) → zdi P w0 base m fr (fs ++ base) w := by
  intro jump e h1 h2
  unfold vo at e
  split at e
  · rename_i hr
    rw [hr] at hround
    split at e
    · exact k.ends hs e (step_lone_go (h1 hround (.inl rfl)))
    · exact k.ends hs e (step_lone_go (h1 hround (.inr rfl)))
    · cases e
  · rename_i l hr
    exact vu k hr e h2
 cases c with
 | skip=>exact k.to hs hk e (step_lone_go (by simp [stepG,stepG.exec,hm,hfr]))
 | label l=>exact k.to hs hk e (step_lone_go (by simp [stepG,stepG.exec,hm,hfr]))
 | seq a b=>exact k.to (todo:=.code a::.code b::kk) (todo':=.code a::.code b::kk') hs (cons rfl (cons rfl hk)) e (step_lone_go (by simp [stepG,stepG.exec,hm,hfr]))
 | cond c a b =>
  change zle af rest h a b kk (ev af.tmps c)=some m at e
  unfold zle at e
  split at e
  · rename_i t hc
    have hv:fr.eval c=.bool t:=vZ (R:=R) (fun u _ hu=>hs u _ hu) hc
    cases t with
    | true=>exact k.to (todo:=.code a::kk) (todo':=.code a::kk') hs (cons rfl hk) e (step_lone_go (by simp [stepG,stepG.exec,hm,hfr,hv]))
    | false=>exact k.to (todo:=.code b::kk) (todo':=.code b::kk') hs (cons rfl hk) e (step_lone_go (by simp [stepG,stepG.exec,hm,hfr,hv]))
  · cases e
 | block id b=>exact k.to (todo:=.code b::.inBlock id::kk) (todo':=.code b::.inBlock id::kk') hs (cons rfl (cons rfl hk)) e (step_lone_go (by simp [stepG,stepG.exec,hm,hfr]))
 | loop b=>exact k.to (todo:=.code b::.inLoop b::kk) (todo':=.code b::.inLoop b::kk') hs (cons rfl (cons rfl hk)) e (step_lone_go (by simp [stepG,stepG.exec,hm,hfr]))
 | scope b=>exact k.to (todo:=.code b::.inScope b::kk) (todo':=.code b::.inScope b::kk') hs (cons rfl (cons rfl hk)) e (step_lone_go (by simp [stepG,stepG.exec,hm,hfr]))
 | ret =>
  change vo P af rest h (some .ret)=some m at e
  refine leave e (fun hr _=>by simp [stepG,stepG.exec,hm,hfr,hr]) fun l hr=>?_
  simp only [stepG,stepG.exec,hm,hfr,hr,Sem.runT_eq]
  cases (Instr.endRound l (some .ret)).run P w <;> simp
 | exit id =>
  change (match zes id kk with | some k=>toA af rest h k | none=>vo P af rest h (some (.exit id)))=some m at e
  obtain ⟨x1,x2⟩:=zhf (id:=id) hk
  cases hx:zes id kk with
  | some q =>
   rw [hx] at e
   obtain ⟨q',g1,g2⟩:=x1 q hx
   exact k.to hs g2 e (step_lone_go (by simp [stepG,stepG.exec,hm,hfr,g1]))
  | none =>
   rw [hx] at e
   have g:=x2 hx
   refine leave e (fun hr hj=>by rcases hj with hj | hj <;> cases hj) fun l hr=>?_
   simp only [stepG,stepG.exec,hm,hfr,hr,Sem.runT_eq,g,Option.elim_none]
   cases (Instr.endRound l (some (.exit id))).run P w <;> simp
 | goto l =>
  change (match zek l kk with | some k=>toA af rest h k | none=>vo P af rest h (some (.goto l)))=some m at e
  obtain ⟨x1,x2⟩:=zha (l:=l) hk
  cases hx:zek l kk with
  | some q =>
   rw [hx] at e
   obtain ⟨q',g1,g2⟩:=x1 q hx
   exact k.to hs g2 e (step_lone_go (by simp [stepG,stepG.exec,hm,hfr,g1]))
  | none =>
   rw [hx] at e
   have g:=x2 hx
   refine leave e (fun hr hj=>by rcases hj with hj | hj <;> cases hj) fun l' hr=>?_
   simp only [stepG,stepG.exec,hm,hfr,hr,Sem.runT_eq,g,Option.elim_none]
   cases (Instr.endRound l' (some (.goto l))).run P w <;> simp
 | region id ops draw =>
  change zjF P af rest h ops draw kk=some m at e
  cases draw with
  | false =>
   refine k.to (todo:=.ops ops.toList ops.toList::kk) (todo':=.inRegion ops (List.range ops.size)::kk') hs (cons ⟨ops,_,rfl,rfl,?_⟩ hk) e (step_lone_go (by simp [stepG,stepG.exec,hm,hfr]))
   apply List.ext_getElem?
   intro i
   simp only [List.getElem?_map]
   by_cases hi:i<ops.size
   · rw [List.getElem?_range hi]; simp [hi]
   · rw [List.getElem?_eq_none (by simpa using hi),List.getElem?_eq_none (by simpa using hi)]; rfl
  | true =>
   change (match zhk P ops.toList (zC P ops.toList) with | false=>none | true=>toA af rest h (.drw ops (zC P ops.toList).ord []::kk))=some m at e
   split at e
   · cases e
   · rename_i hp
     cases e
     have pi:=zif hp
     obtain ⟨g1,g2⟩:=zca pi (w.tape w.drawn (.order fr.fn id))
     refine ⟨_,_,_,.one (step_lone_go (fr':={ fr with todo:=.inRegion ops (Region.linearise .any ops (w.tape w.drawn (.order fr.fn id)))::kk' }) (cs':=fs++base) (w':=w.drew) ?_),B,R,fs,rfl,k.base,k.heap.heap_eq rfl,⟨k.old.os,k.old.tape,k.old.output,k.old.size,Nat.le_succ_of_le k.old.drawn⟩,?_,k.below⟩
     · simp [stepG,stepG.exec,hm,hfr,choose,Sem.run,Question.forced,Question.cut,Region.schedule,hmix]
     · obtain ⟨k1,k2,k3,k4,k5,k6,k7,k8,k9⟩:=k.top
       have hrun:=k.run
       obtain ⟨fn,n,t,td,ds,mode,kind,round⟩:=af
       simp only at hrun; subst hrun
       obtain ⟨a1,a2,a3⟩:=qy pi.ord
       exact ⟨k1,k2,k3,k4,k5,k6,k7,k8,_,kk',rfl,hk,⟨pi,rfl,g1,fun i hi=>(g2 i).2 (by have:=(a2 i hi).1; simpa using this),fun i hi=>(g2 i).1 hi,fun i hi=>absurd hi List.not_mem_nil,fun hh=>(by cases hh),fun u v hv=>.inr (hs u v hv),fun p hp=>absurd hp List.not_mem_nil,fun p hp=>absurd hp List.not_mem_nil⟩⟩
 | rangeFunc f params assign body=>exact zdH k hs hfr hk e
 | refuse why=>cases e
end
end Go.Proofs.Ytehelionjafnkaa.Ev
end
section
namespace Go.Proofs.Ytehelionjafnkaa.Ev
open Go
section
variable {P:Program} {w0:Env} {base:List Frame} {B:Base} {R:Bij} {af:AFrame} {rest:List AFrame} {h:AHeap} {fr:Frame} {fs:List Frame} {w:World}
theorem wrun (k:Wait P w0 base B R af rest h fr fs w):fr.mode=.run:=by
 have:=k.top.mode
 rw [k.run] at this; exact this
theorem zi9 {ρ:Operand→Option AV}{c:Call}{r:AR}(e:opA P ρ h (.defer c)=some r):∃ d,r=.dfr d:=by
 change zan ρ c=some r at e
 unfold zan at e
 split at e
 · cases e
 · split at e
   · split at e
     · cases e; exact ⟨_,rfl⟩
     · cases e
   · split at e
     · cases e
     · cases e; exact ⟨_,rfl⟩
   · cases e
theorem zE {v:Option AV}{d:ADef}(e:yg h v=some (.dfr d)):False:=by obtain ⟨x,_,e2⟩:=zw e; cases e2
theorem qD {v:Option (AV × AHeap)}{d:ADef}(e:vd v=some (.dfr d)):False:=by obtain ⟨x,y,_,e2⟩:=zL e; cases e2
theorem kP {v:Option AHeap}{d:ADef}(e:zbQ v=some (.dfr d)):False:=by obtain ⟨x,_,e2⟩:=wr e; cases e2
theorem zi4 {v:Option AHeap}{d:ADef}(e:zb6 v=some (.dfr d)):False:=by obtain ⟨x,_,e2⟩:=zaU e; cases e2
theorem zfe {f:FuncId}{args:List AV}{d:ADef}(e:zeM P h f args=some (.dfr d)):False:=by
 unfold zeM at e
 split at e
 · cases e
 · split at e
   · split at e <;> cases e
   · unfold jL v6 zjk wO zdS yl za9 qE zdX zf2 zdI ziN zjI wb zbB zbG at e
     repeat' split at e
     all_goals cases e
theorem wT {x:AV}{name:String}{args:List AV}{d:ADef}(e:xO P h x name args=some (.dfr d)):False:=by
 unfold xO at e
 split at e
 · split at e
   · cases e
   · exact zfe e
 · cases e
theorem ze2 {b:Builtin}{ats:Array TypeId}{args:List AV}{d:ADef}(e:xM P h b ats args=some (.dfr d)):False:=by
 unfold xM at e
 split at e
 · exact zE e
 · unfold zd zdm zky zgr zbC zdF at e
   repeat' split at e
   all_goals first
    | cases e; done
    | exact qD e
    | exact zi4 e
theorem zgk {ρ:Operand→Option AV}{c:Call}{d:ADef}(e:zV P ρ h c=some (.dfr d)):False:=by
 unfold zV at e
 split at e
 · cases e
 · split at e
   · exact ze2 e
   · split at e
     · cases e
     · exact wT e
   · split at e
     · cases e
     · unfold zjp at e
       split at e
       · unfold qe at e
         repeat' split at e
         all_goals first
          | exact zfe e
          | exact wT e
          | cases e
       · cases e
       · cases e
theorem zmf {ρ:Operand→Option AV}{op:Op}{d:ADef}(e:opA P ρ h op=some (.dfr d)):∃ c,op=.defer c:=by
 cases op with
 | «defer» c=>exact ⟨c,rfl⟩
 | call c=>exact absurd (zgk (show zV P ρ h c=_ from e)) id
 | next it s =>
  exfalso
  obtain ⟨a,_,e⟩:=zi (show yv ρ it _=_ from e)
  unfold zkV ziy at e
  repeat' split at e
  all_goals cases e
 | range t x =>
  exfalso
  obtain ⟨a,_,e⟩:=zi (show yv ρ x _=_ from e)
  unfold zhi at e
  repeat' split at e
  all_goals cases e
 | panic x =>
  exfalso
  obtain ⟨a,_,e⟩:=zi (show yv ρ x _=_ from e)
  unfold zil at e
  split at e <;> cases e
 | makeMap t r =>
  exfalso
  change zfa P ρ h t r=_ at e
  unfold zfa at e
  repeat' split at e
  all_goals cases e
 | convert s d x =>
  exfalso
  obtain ⟨a,_,e⟩:=zi (show yv ρ x _=_ from e)
  unfold zba at e
  split at e
  · exact qD e
  · exact zE e
 | alloc t =>
  exfalso
  change ji P h t (yT P t)=_ at e
  unfold ji at e
  split at e
  · cases e
  · exact qD e
 | build t parts =>
  exfalso
  change vh P h t (qG ρ parts.toList)=_ at e
  unfold vh at e
  split at e
  · cases e
  · exact zE e
 | buildSlice t n parts =>
  exfalso
  change zT P h t n (qG ρ parts.toList)=_ at e
  unfold zT at e
  split at e
  · cases e
  · exact qD e
 | insert t m k x =>
  exfalso
  change yb P ρ h t m k x=_ at e
  unfold yb at e
  repeat' split at e
  all_goals first | exact kP e | cases e
 | mapUpdate t m k x =>
  exfalso
  change yb P ρ h t m k x=_ at e
  unfold yb at e
  repeat' split at e
  all_goals first | exact kP e | cases e
 | entryStore t m s x =>
  exfalso
  change wE ρ h m s x=_ at e
  unfold wE at e
  repeat' split at e
  all_goals first | exact kP e | cases e
 | mapEntry t x y=>obtain ⟨a,b,_,_,e⟩:=xc (show two ρ x y _=_ from e); exact absurd (qD e) id
 | move x=>exact absurd (zE (show yg h _=_ from e)) id
 | assign x=>exact absurd (zE (show yg h _=_ from e)) id
 | pick c a b=>exact absurd (zE (show yg h _=_ from e)) id
 | makeFunc f a b=>exact absurd (zE (show yg h _=_ from e)) id
 | slice t x a b c=>exact absurd (zE (show yg h _=_ from e)) id
 | extract x i=>exact absurd (zE (show yg h _=_ from e)) id
 | box t x=>obtain ⟨a,_,e⟩:=zi (show yv ρ x _=_ from e); exact absurd (qD e) id
 | load t x=>obtain ⟨a,_,e⟩:=zi (show yv ρ x _=_ from e); exact absurd (zE e) id
 | nilCheck x=>obtain ⟨a,_,e⟩:=zi (show yv ρ x _=_ from e); exact absurd (zE e) id
 | unOp o t x=>obtain ⟨a,_,e⟩:=zi (show yv ρ x _=_ from e); exact absurd (zE e) id
 | makeInterface t x=>obtain ⟨a,_,e⟩:=zi (show yv ρ x _=_ from e); exact absurd (zE e) id
 | fieldAddr t x f=>obtain ⟨a,_,e⟩:=zi (show yv ρ x _=_ from e); exact absurd (zE e) id
 | field t x f=>obtain ⟨a,_,e⟩:=zi (show yv ρ x _=_ from e); exact absurd (zE e) id
 | typeAssert x t u k=>obtain ⟨a,_,e⟩:=zi (show yv ρ x _=_ from e); exact absurd (zE e) id
 | store t x y=>obtain ⟨a,b,_,_,e⟩:=xc (show two ρ x y _=_ from e); exact absurd (kP e) id
 | binOp o t x y u=>obtain ⟨a,b,_,_,e⟩:=xc (show two ρ x y _=_ from e); exact absurd (zE e) id
 | makeSlice t x y=>obtain ⟨a,b,_,_,e⟩:=xc (show two ρ x y _=_ from e); exact absurd (qD e) id
 | indexAddr t x y=>obtain ⟨a,b,_,_,e⟩:=xc (show two ρ x y _=_ from e); exact absurd (zE e) id
 | index t x y=>obtain ⟨a,b,_,_,e⟩:=xc (show two ρ x y _=_ from e); exact absurd (zE e) id
 | lookup t x y k=>obtain ⟨a,b,_,_,e⟩:=xc (show two ρ x y _=_ from e); exact absurd (zE e) id
 | _=>cases (show (none:Option AR)=_ from e)
theorem zfG (k:Wait P w0 base B R af rest h fr fs w){s:Sem Next}{m:AM}(hop:OpRel P B R w s .recover)
 (hst:(stepG P true { frame:=fr,callers:=fs++base,status:=.running,dying:=none } w).bare=(stepG.apply P true fr (fs++base) none s w).bare) (e:zde P af rest h=some m):zdi P w0 base m fr (fs++base) w:=by
 have hop:s.run P w=.ok .recover w:=hop
 unfold zde at e
 split at e
 · cases e
 · rename_i hrd
   have hfr:fr.roundOf=none:=by have:=k.top.round; rw [hrd] at this; exact this
   split at e
   · rename_i hkd
     have hkf:fr.kind=.deferred:=k.top.kind.trans hkd
     split at e
     · cases e
     · rename_i c r
       obtain ⟨f,fs',rfl,kf,kr⟩:=k.below
       unfold zeo at e
       split at e
       · rename_i v older hm
         obtain ⟨a,e1,rfl⟩:=xU e
         have hmode:=kf.mode
         rw [hm] at hmode
         obtain ⟨ch',hfm,x',older',rfl,hx,hold⟩:=hmode
         obtain ⟨y1,y2,y3⟩:=x'
         obtain ⟨hx1,hx2,hx3⟩:=hx
         simp only at hx1 hx2 hx3
         subst hx2 hx3
         refine ⟨_,_,_,.one (step_lone_go (fr':=fr.finish y1) (cs':={ f with mode:=.panicking ({ v:=y1,recovered:=true }::older') }::(fs'++base)) (w':=w) ?_),B,R,{ f with mode:=.panicking ({ v:=y1,recovered:=true }::older') }::fs',rfl,k.base,k.heap,k.old,xp k.top k.run e1 hx1,_,_,rfl,?_,kr⟩
         · rw [hst]
           simp [stepG.apply,Sem.runT_eq,hop,hfr,tryRecover,hkf,hfm]
         · obtain ⟨k1,k2,k3,k4,k5,k6,k7,k8,k9⟩:=kf
           obtain ⟨fn,n,t,td,ds0,mode,kind,round⟩:=c
           simp only at hm; subst hm
           exact ⟨k1,k2,k3,k4,k5,k6,⟨_,rfl,_,_,rfl,⟨hx1,rfl,rfl⟩,hold⟩,k8,k9⟩
       · rename_i hno
         obtain ⟨a,e1,rfl⟩:=xU e
         have hmode:=kf.mode
         have hnone:tryRecover fr (f::(fs'++base))=none:=by
          unfold tryRecover
          rw [hkf]
          simp only []
          cases hm:c.mode with
          | run=>rw [hm] at hmode; rw [show f.mode=.run from hmode]
          | returning=>rw [hm] at hmode; rw [show f.mode=.returning from hmode]
          | panicking ch =>
           rw [hm] at hmode
           obtain ⟨ch',hfm,hc⟩:=hmode
           rw [hfm]
           cases ch with
           | nil=>cases hc; rfl
           | cons x older =>
            obtain ⟨x',older',rfl,hx,hold⟩:=hc
            obtain ⟨x1,x2⟩:=x
            cases x2 with
            | false=>exact absurd hm (hno _ _)
            | true =>
             obtain ⟨y1,y2,y3⟩:=x'
             obtain ⟨hx1,hx2,hx3⟩:=hx
             simp only at hx2 hx3
             subst hx2 hx3
             rfl
         refine ⟨_,_,_,.one (step_lone_go (fr':=fr.finish .nilIface) (cs':=f::(fs'++base)) (w':=w) ?_),B,R,f::fs',rfl,k.base,k.heap,k.old,xp k.top k.run e1 rfl,f,fs',rfl,kf,kr⟩
         rw [hst]
         simp [stepG.apply,Sem.runT_eq,hop,hfr,hnone]
   · cases e
theorem zgD [XT P] [XTOk P] (k:Wait P w0 base B R af rest h fr fs w){ops:Array Oper}{i:Nat}{s':List Nat}{k':List Item}(ht:fr.todo=.inRegion ops (i::s')::k'){o:Oper}(ho:ops[i]?=some o)
 (hops:∀ x∈o.op.operands,∀ v,ev af.tmps x=some v→VRel R v (fr.eval x))
 (hgu:∀ g b q u v,o.guard=some (g,b)→ops[g]?=some q→q.dst=some u→af.tmps.get u=some v→∃ x,fr.tmps[u]?=some x∧VRel R v x)
 {m:AM} (e:wl P af rest h ops.toList o=some m):zdi P w0 base m fr (fs++base) w:=by
 have hm:=wrun k
 unfold wl at e
 split at e
 · cases e
 · rename_i wt hwt
   have hw:=zad hwt hgu
   split at e
   · exact ⟨_,_,_,.one (kC hm ht ho hw),k.got (v:=xd) (x:=undef) ⟨[],rfl,rfl⟩ k.heap (Keeps.refl _ _) e⟩
   · unfold zaw at e
     split at e
     · cases e
     · rename_i r hr
       have hop:=zg7 k.heap k.room hops hr
       have hoper:(stepG P true { frame:=fr,callers:=fs++base,status:=.running,dying:=none } w)=stepG.oper P true fr (fs++base) none w:=by
        simp only [stepG,stepG.exec,hm,ht,ho,hw,Option.map_some,Option.getD_some,if_true]
       by_cases hdf:∃ c,o.op=.defer c
       · obtain ⟨c,hc⟩:=hdf
         obtain ⟨d,rfl⟩:=zi9 (by rw [hc] at hr; exact hr)
         change zgb P af rest h d=some m at e
         unfold zgb at e
         split at e
         · rename_i hrd
           have hfr:fr.roundOf=none:=by have:=k.top.round; rw [hrd] at this; exact this
           obtain ⟨d',r1,r2⟩:=hop
           have hst:(stepG P true { frame:=fr,callers:=fs++base,status:=.running,dying:=none } w)=stepG.apply P true fr (fs++base) none (execOp fr.eval o) w:=by
            rw [hoper]
            simp only [stepG.oper,Frame.oper?,ht,ho,hfr]
           obtain ⟨a,e1,rfl⟩:=xU e
           refine ⟨_,_,_,.one (step_lone_go (fr':=({ fr with defers:=d'::fr.defers }:Frame).finish undef) (cs':=fs++base) (w':=w) (by rw [hst]; simp [stepG.apply,Sem.runT_eq,r1])),B,R,fs,rfl,k.base,k.heap,k.old,?_,k.below⟩
           refine xp (h0:=h) (v:=xd) ?_ ?_ e1 ⟨[],rfl,rfl⟩
           · obtain ⟨k1,k2,k3,k4,k5,k6,k7,k8,k9⟩:=k.top
             obtain ⟨fn,n,t,td,ds,mode,kind,round⟩:=af
             exact ⟨k1,k2,k3,k4,k5,⟨_,_,rfl,r2,k6⟩,k7,k8,k9⟩
           · have:=k.run
             obtain ⟨fn,n,t,td,ds,mode,kind,round⟩:=af
             exact this
         · cases e
       · have hst:(stepG P true { frame:=fr,callers:=fs++base,status:=.running,dying:=none } w)=stepG.apply P true fr (fs++base) none (execOp fr.eval o) w:=by
          rw [hoper]
          simp only [stepG.oper,Frame.oper?,ht,ho]
          split
          · rename_i _ c _ hc
            exact absurd ⟨c,hc⟩ hdf
          · rfl
         cases r with
         | round l args=>exact zkf k hop (by rw [hst]) e
         | dfr d =>
          exact absurd (zmf hr) hdf
         | recover=>exact zfG k hop (by rw [hst]) e
         | val v h'=>obtain ⟨a,b,c,h1,h2⟩:=wW k hop (by simp) (by simp) (by simp) (by rw [hst]) ⟨_,_,_,_,ht⟩ e; exact ⟨a,b,c,h1,h2⟩
         | skip h'=>obtain ⟨a,b,c,h1,h2⟩:=wW k hop (by simp) (by simp) (by simp) (by rw [hst]) ⟨_,_,_,_,ht⟩ e; exact ⟨a,b,c,h1,h2⟩
         | enter f as h'=>obtain ⟨a,b,c,h1,h2⟩:=wW k hop (by simp) (by simp) (by simp) (by rw [hst]) ⟨_,_,_,_,ht⟩ e; exact ⟨a,b,c,h1,h2⟩
         | panic v=>obtain ⟨a,b,c,h1,h2⟩:=wW k hop (by simp) (by simp) (by simp) (by rw [hst]) ⟨_,_,_,_,ht⟩ e; exact ⟨a,b,c,h1,h2⟩
end
end Go.Proofs.Ytehelionjafnkaa.Ev
end
section
namespace Go.Proofs.Ytehelionjafnkaa.Ev
open Go
section
variable {P:Program} {w0:Env} {base:List Frame} {B:Base} {R:Bij} {af:AFrame} {rest:List AFrame} {h:AHeap} {fr:Frame} {fs:List Frame} {w:World}
theorem zjU {ρ:Operand→Option AV}{o:Oper}{r:AR}(he:yh P o=false)(e:opA P ρ h o.op=some r):∃ v h',r=.val v h' ∧
 ((z8 o.op=true∧∃ vf ob,FloatAt P ρ o.op vf ob∧v=vf h.next∧h'=h.new ob)∨(z8 o.op=false∧jv o.op=true∧h'=h∧∀ h,opA P ρ h o.op=some (.val v h)) ∨
  (z8 o.op=false∧jv o.op=false∧yf P o.op=true∧h'=h)):=by
 cases hf:z8 o.op with
 | true =>
  obtain ⟨vf,ob,k⟩:=zkB hf e
  have:=k.1 h
  rw [e] at this
  cases this
  exact ⟨_,_,rfl,.inl ⟨rfl,vf,ob,k,rfl,rfl⟩⟩
 | false =>
  cases hp:jv o.op with
  | true =>
   obtain ⟨v,rfl,k⟩:=zla hp e
   exact ⟨_,_,rfl,.inr (.inl ⟨rfl,rfl,rfl,k⟩)⟩
  | false =>
   have hr:yf P o.op=true:=by
    cases hr:yf P o.op with
    | true=>rfl
    | false =>
     exfalso
     unfold yh at he
     cases hop:o.op <;> simp [hop] at he <;> simp [hop] at hf hp hr <;> simp [hf,hp,hr] at he
   obtain ⟨v,rfl⟩:=zgM hr e
   exact ⟨_,_,rfl,.inr (.inr ⟨rfl,rfl,hr,rfl⟩)⟩
theorem zmg {fn:FuncId}{n:Nat}{t:T AV}{all:Array Oper}{i:Nat}{l dn:List Nat}{kk:List AItem}{ds:List ADef}{mode:AMode}{kind:CallKind}{round:Option Nat}{o:Oper}{v:AV}{h':AHeap}{m:AM}(ho:all[i]?=some o)(he:yh P o=false)
 (e:jC rest h' (zJ P ⟨fn,n,t,.drw all (i::l) dn::kk,ds,mode,kind,round⟩ h' v)=some m) :
 ∃ t',zic t n o.dst v=some t'∧(z8 o.op=true→yQ P all.toList 0 t' h' dn=true)∧m=⟨⟨fn,n,t',.drw all l (i::dn)::kk,ds,mode,kind,round⟩,rest,h'⟩:=by
 obtain ⟨a,e1,rfl⟩:=xU e
 change (match all[i]? with | none=>none | some o=>zc0 P ⟨fn,n,t,.drw all (i::l) dn::kk,ds,mode,kind,round⟩ h' all i o l dn kk (zic t n o.dst v))=some a at e1
 rw [ho] at e1
 simp only [] at e1
 unfold zc0 at e1
 split at e1
 · cases e1
 · rename_i t' ht
   split at e1
   · cases e1
   · rename_i hre
     cases e1
     exact ⟨t',ht,fun hf=>by simpa [hf,he] using hre,rfl⟩
theorem zmr [XT P] [XTOk P] (k:Plain P w0 base B R af rest h fr fs w){all:Array Oper}{l dn:List Nat}{kk:List AItem}(ht:af.todo=.drw all l dn::kk){s:List Nat}{k':List Item}(hfr:fr.todo=.inRegion all s::k')(hk:All2 (ItemRel R) kk k')
 (hd:Drw P B R rest.length false all l dn af.tmps h fr.tmps s) {m:AM} (e:zlq P all l dn af rest h kk=some m):zdi P w0 base m fr (fs++base) w:=by
 have hm:=zlO k
 have hroom:B.n≤w.heap.size:=by show B.env.heap.size≤_; rw [k.base]; exact k.old.size
 have hrun:=k.run
 obtain ⟨fn,n,t,td,ds,mode,kind,round⟩:=af
 simp only at ht hrun hd; subst ht; subst hrun
 cases l with
 | nil =>
  change toA _ rest h kk=some m at e
  cases e
  obtain ⟨B',R',w',a',g1,g2,g3,g4,g5,g6,g7⟩:=hd.run_out s k.heap hroom hm hfr (fs++base)
  have st:step P (lone { fr with tmps:=a',todo:=.inRegion all []::k' } (fs++base) w')=.next (lone { fr with tmps:=a',todo:=k' } (fs++base) w') :=
   step_lone_go (by simp [stepG,stepG.exec,hm])
  refine ⟨_,_,_,g1.trans (.one st),B',R',fs,rfl,g3.1.trans k.base,g5,k.old.keeps k.base k.heap g6,?_,k.below.mono g4 g3 (Nat.le_refl _)⟩
  obtain ⟨k1,k2,k3,k4,k5,k6,k7,k8,k9⟩:=k.top
  exact ⟨k1,k2,k3,k4,k5.mono g4,k6.mono fun _ _ q=>q.mono g4,k7.mono g4,g2.trans k8,xS (hk.mono fun _ _ q=>q.mono g4) g7⟩
 | cons i l =>
  have hin:=hd.facts.2.2.2.1 i List.mem_cons_self
  obtain ⟨o,ho⟩:∃ o,all[i]?=some o:=⟨_,Array.getElem?_eq_getElem hin⟩
  change zl7 P _ rest h all.toList all[i]?=some m at e
  rw [ho] at e
  change wl P _ rest h all.toList o=some m at e
  have hidn:i ∉ dn:=fun hi=>(List.nodup_append.1 hd.facts.2.2.2.2.1).2.2 i (by simpa using hi) i List.mem_cons_self rfl
  obtain ⟨k1,k2,k3,k4,k5,k6,k7,k8,k9⟩:=k.top
  cases he:yh P o with
  | true =>
   have hem:(zC P all.toList).em.testBit i=true:=by rw [hd.plan.em i o ho]; exact he
   obtain ⟨B',R',w',a',s',g1,g2,g3,g4,g5,g6,g7⟩:=hd.catch_up hem s k.heap hroom hm hfr (fs++base)
   have hw:Wait P w0 base B' R' ⟨fn,n,t,.drw all (i::l) dn::kk,ds,.run,kind,round⟩ rest h { fr with tmps:=a',todo:=.inRegion all (i::s')::k' } fs w' :=
    ⟨g5,g3.1.trans k.base,k.old.keeps k.base k.heap g6,⟨k1,k2,k3,k4,k5.mono g4,k6.mono fun _ _ q=>q.mono g4,k7.mono g4,g2.trans k8,i::s',k',rfl,hk.mono fun _ _ q=>q.mono g4,g7.suspend hem⟩,rfl,k.below.mono g4 g3 (Nat.le_refl _)⟩
   have hreads:=g7.reads ho hidn
   obtain ⟨fr',cs',w2,s1,s2⟩:=zgD hw rfl ho (fun x hx v hv=>vZ (fun u hu he=>hreads u v (by rw [hu] at hx; exact xf hx) he) hv)
    (fun g b q u v hg hq hu hv=>hreads u v (x5 hg (by simpa using hq) hu) hv) e
   exact ⟨fr',cs',w2,g1.trans s1,s2⟩
  | false =>
   have hem:(zC P all.toList).em.testBit i=false:=by rw [hd.plan.em i o ho]; exact he
   have hown:=hd.own_dst ho he
   have hap:∀ p∈dn,p∈s→∀ q,all[p]?=some q→∀ x,o.dst=some x→(zK all.toList q).contains x=false∧q.dst≠some x:=fun p hp hps q hq x hx =>
    hd.apart ho hx hidn hp hq (by
     cases hb:(zC P all.toList).em.testBit p with
     | false=>rfl
     | true=>exact absurd hps (hd.effs p hp hb)) (fun hh=>by rw [hem] at hh; cases hh)
   have hop:∀ {v:AV} {t':T AV},t'=zh2 t o.dst v→∀ h,opA P (ev t') h o.op=opA P (ev t) h o.op:=fun {v t'} ht' h=>by
    subst ht'
    unfold zh2
    split
    · rfl
    · rename_i u hu; exact zfR all.toList (hown u hu) h
   have hwg:∀ {v:AV} {t':T AV},t'=zh2 t o.dst v→zB all.toList t' o.guard=zB all.toList t o.guard:=fun {v t'} ht'=>by
    subst ht'
    unfold zh2
    split
    · rfl
    · rename_i u hu; exact kq (hown u hu)
   have hget:∀ {v:AV} {t':T AV},t'=zh2 t o.dst v→∀ u,o.dst=some u→t'.get u=some v:=fun {v t'} ht' u hu=>by
    subst ht'; rw [zaS,if_pos hu]
   have goes:∀ {B':Base} {h':AHeap} {v:AV},jC rest h' (zJ P ⟨fn,n,t,.drw all (i::l) dn::kk,ds,.run,kind,round⟩ h' v)=some m→HRel P B' R h' w→B.keeps B' rest.length →
    (∀ t',t'=zh2 t o.dst v→(z8 o.op=true→yQ P all.toList 0 t' h' dn=true)→(∀ p∈dn,p∈s→∀ q,all[p]?=some q→Pend P B rest.length false all t h p q→Pend P B' rest.length false all t' h' p q)∧Pend P B' rest.length false all t' h' i o) →
    zdi P w0 base m fr (fs++base) w:=by
    intro B' h' v e hh hb hp
    obtain ⟨t',f1,f2,rfl⟩:=zmg ho he e
    obtain ⟨q1,q2⟩:=hp t' (zaN f1).1 f2
    exact ⟨_,_,_,Steps.refl _ _,B',R,fs,rfl,hb.1.trans k.base,hh,k.old,⟨k1,k2,k3,k4,k5,k6,k7,k8,s,k',hfr,hk,hd.ahead ho he k8 f1 q1 q2⟩,k.below.mono R.le_refl hb (Nat.le_refl _)⟩
   unfold wl at e
   split at e
   · cases e
   · rename_i wt hwt
     split at e
     · refine goes e k.heap (B.keeps_refl _) fun t' ht' _=>⟨fun p hp hps q hq hpe=>hpe.other ht' (hap p hp hps q hq),false,by rw [hwg ht']; exact hwt,fun _ u hu=>hget ht' u hu,fun hh=>(by cases hh)⟩
     · unfold zaw at e
       split at e
       · cases e
       · rename_i r hr
         obtain ⟨v,h',rfl,hcase⟩:=zjU he hr
         change jC rest h' (zJ P _ h' v)=some m at e
         rcases hcase with ⟨c1,vf,ob,c2,rfl,rfl⟩ | ⟨c1,c2,rfl,c3⟩ | ⟨c1,c2,c3,rfl⟩
         · refine goes (B':=B.mark h.next ob (rest.length,i)) e (k.heap.mark ob _) ⟨rfl,fun id ob' e1 _=>zcE k.heap ob _ id ob' e1⟩ fun t' ht' hre=>⟨fun p hp hps q hq hpe=>?_,true,by rw [hwg ht']; exact hwt,fun hh=>(by cases hh),fun _=>.inl ⟨c1,vf,ob,h.next,?_,?_,?_,fun u hu=>hget ht' u hu⟩⟩
           · refine (Pend.base (zcE k.heap ob _) hpe).suspend.again ht' (hap p hp hps q hq) fun h1 h2 h3=>?_
             have hanc:(0:Nat).testBit p=false:=Nat.zero_testBit p
             have:=v8 (hre c1) p hp
             rw [show all.toList[p]?=some q by simpa using hq] at this
             simp only [vc,h1,hanc,Bool.not_false,Bool.and_self] at this
             exact this
           · subst ht'
             unfold zh2
             split
             · exact c2
             · rename_i u hu; exact c2.set all.toList (hown u hu)
           · simp [Base.mark]
           · simp [Base.mark]
         · refine goes e k.heap (B.keeps_refl _) fun t' ht' _=>⟨fun p hp hps q hq hpe=>hpe.other ht' (hap p hp hps q hq),true,by rw [hwg ht']; exact hwt,fun hh=>(by cases hh),fun _=>.inr (.inl ⟨c1,c2,v,fun h=>by rw [hop ht']; exact c3 h,fun u hu=>hget ht' u hu⟩)⟩
         · refine goes e k.heap (B.keeps_refl _) fun t' ht' _=>⟨fun p hp hps q hq hpe=>hpe.other ht' (hap p hp hps q hq),true,by rw [hwg ht']; exact hwt,fun hh=>(by cases hh),fun _=>.inr (.inr ⟨c1,c2,c3,.inr ⟨v,by rw [hop ht']; exact hr,fun u hu=>hget ht' u hu⟩⟩)⟩
theorem zld [XT P] [XTOk P] (hmix:P.follows .mixedOrders=true)(k:Plain P w0 base B R af rest h fr fs w){it:AItem}{kk:List AItem}(ht:af.todo=it::kk){m:AM}(e:znX P af rest h it kk=some m):zdi P w0 base m fr (fs++base) w:=by
 have hm:=zlO k
 have htop:TodoRel P B R rest.length false h af.todo af.tmps fr.todo fr.tmps:=by
  have:=k.top.top
  rw [k.run] at this; exact this
 rw [ht] at htop
 cases it with
 | drw all l dn =>
  obtain ⟨s,k',hfr,hk,hd⟩:=htop
  exact zmr k ht hfr hk hd e
 | code c =>
  obtain ⟨⟨_,kk',hfr,rfl,hk⟩,hs⟩:=htop
  exact zkF hmix k hs hfr hk e
 | inBlock i =>
  obtain ⟨⟨_,kk',hfr,rfl,hk⟩,hs⟩:=htop
  exact k.to hs hk e (step_lone_go (by simp [stepG,stepG.exec,hm,hfr]))
 | inLoop b =>
  obtain ⟨⟨_,kk',hfr,rfl,hk⟩,hs⟩:=htop
  exact k.to (todo:=.code b::.inLoop b::kk) (todo':=.code b::.inLoop b::kk') hs ⟨_,_,rfl,rfl,_,_,rfl,rfl,hk⟩ e (step_lone_go (by simp [stepG,stepG.exec,hm,hfr]))
 | inScope b =>
  obtain ⟨⟨_,kk',hfr,rfl,hk⟩,hs⟩:=htop
  exact k.to hs hk e (step_lone_go (by simp [stepG,stepG.exec,hm,hfr]))
 | ops all l =>
  obtain ⟨⟨_,kk',hfr,⟨ops,todo,rfl,rfl,hmap⟩,hk⟩,hs⟩:=htop
  cases l with
  | nil =>
   have:todo=[]:=by simpa using hmap.symm
   subst this
   exact k.to hs hk e (step_lone_go (by simp [stepG,stepG.exec,hm,hfr]))
  | cons o l =>
   cases todo with
   | nil=>simp at hmap
   | cons i todo =>
    simp only [List.map_cons,List.cons.injEq] at hmap
    change wl P af rest h ops.toList o=some m at e
    have hw:Wait P w0 base B R af rest h fr fs w:=⟨k.heap,k.base,k.old,by
     obtain ⟨k1,k2,k3,k4,k5,k6,k7,k8,k9⟩:=k.top
     refine ⟨k1,k2,k3,k4,k5,k6,k7,k8,?_⟩
     have hr:=k.run
     obtain ⟨fn,n,t,td,ds,mode,kind,round⟩:=af
     simp only at hr ht; subst hr; subst ht
     exact ⟨⟨_,kk',hfr,⟨ops,_,rfl,rfl,by simp only [List.map_cons,List.cons.injEq]; exact hmap⟩,hk⟩,hs⟩,k.run,k.below⟩
    exact zgD hw hfr hmap.1.symm (fun x _ v hv=>vZ (fun u _ hu=>hs u v hu) hv) (fun g b q u v _ _ _ hv=>hs u v hv) e
 | inRange i=>cases e
 | endRange i =>
  obtain ⟨⟨_,kk',hfr,⟨L,hL,rfl⟩,hk⟩,hs⟩:=htop
  exact zfn k hs hL hfr hk e
 | beginRound =>
  obtain ⟨⟨_,kk',hfr,rfl,hk⟩,hs⟩:=htop
  exact ziA k hs hfr hk e
def resF (a:Array Value):ResultVar→Sem Value
 | .tmp t=>pure (a.getD t undef)
 | .cell x t=>do loadVar t (← asAddr (a.getD x undef))
theorem zhY (fn:Func)(a:Array Value):results fn a=(do let vs ← fn.results.mapM (resF a); pure (if h:vs.size=1 then vs[0] else .tuple vs)):=by
 unfold results
 first
  | rfl
  | (congr 1; done)
  | (congr 1; funext x; cases x <;> rfl)
  | (congr 1; congr 1; funext x; cases x <;> rfl)
theorem qs (kh:HRel P B R h w){t:T AV}{a:Array Value}(hs:Slots R t a):∀ {l:List ResultVar} {vs:List AV},w6 P h t l=some vs →
 ∃ vs',(l.mapM (resF a)).run P w=.ok vs' w∧VRels R vs vs'
 | [],vs,e=>by cases e; exact ⟨[],by simp,rfl⟩
 | r::l,vs,e=>by
  have getD:∀ {u:Nat} {v:AV},t.get u=some v→VRel R v (a.getD u undef):=fun {u v} hv=>by
   obtain ⟨y,h1,h2⟩:=hs u v hv
   rw [show a.getD u undef=y by
    obtain ⟨hl,hg⟩:=Array.getElem?_eq_some_iff.1 h1
    simp [Array.getD,hl,hg]]
   exact h2
  have consO_some:∀ {x:Option AV} {y:Option (List AV)},zkP x y=some vs→∃ v r,x=some v∧y=some r∧vs=v::r:=fun {x y} e=>by
   unfold zkP at e
   split at e
   · cases e
   · split at e
     · cases e
     · cases e; exact ⟨_,_,rfl,rfl,rfl⟩
  cases r with
  | tmp u =>
   obtain ⟨v,r,h1,h2,rfl⟩:=consO_some e
   obtain ⟨vs',g1,g2⟩:=qs kh hs h2
   exact ⟨a.getD u undef::vs',by simp only [List.mapM_cons,resF,Sem.run_bind,Sem.run_pure,Result.andThen_ok,g1],_,_,rfl,getD h1,g2⟩
  | cell u ty =>
   obtain ⟨v,r,h1,h2,rfl⟩:=consO_some e
   obtain ⟨vs',g1,g2⟩:=qs kh hs h2
   unfold zmX at h1
   split at h1
   · cases h1
   · rename_i p hp
     have hpv:=getD hp
     obtain ⟨v',q1,q2⟩:=qp kh h1 hpv
     have hpp:∃ ad,a.getD u undef=.pointer (some ad):=by
      unfold zaC at h1
      split at h1
      · obtain ⟨L,_,_,hh⟩:=hpv; exact ⟨_,hh⟩
      · exact ⟨_,hpv⟩
      · cases h1
     obtain ⟨ad,had⟩:=hpp
     rw [had] at q1
     have q3:(loadVar ty ad).run P w=.ok v' w:=by simpa [Instr.loadAt,Instr.sureAddr] using q1
     exact ⟨v'::vs',by simp only [List.mapM_cons,resF,Sem.run_bind,Sem.run_pure,Result.andThen_ok,had,asAddr,q3,g1],_,_,rfl,q2,g2⟩
theorem zeX (kh:HRel P B R h w)(hs:Slots R af.tmps fr.tmps)(hfn:fr.fn=af.fn){v:AV}(e:zma P af h=some v):∃ fn v',P.funcs[fr.fn]?=some fn∧(results fn fr.tmps).run P w=.ok v' w∧VRel R v v':=by
 unfold zma at e
 split at e
 · cases e
 · rename_i fn hf
   unfold zmV at e
   split at e
   · cases e
   · rename_i l hl
     obtain ⟨vs,g1,g2⟩:=qs kh hs hl
     refine ⟨fn,if h:vs.toArray.size=1 then vs.toArray[0] else .tuple vs.toArray,by rw [hfn]; exact hf,?_,?_⟩
     · rw [zhY,Array.mapM_eq_mapM_toList]
       simp only [Sem.run_bind,Sem.run_map,g1,Result.andThen_ok,Sem.run_pure]
     · split at e
       · cases e
         obtain ⟨y,ys,rfl,hy,hr⟩:=g2
         cases hr
         simpa using hy
       · rename_i hn
         cases e
         rw [dif_neg]
         · exact ⟨vs,rfl,g2⟩
         · intro hsz
           have:=g2.length
           simp at hsz
           rw [hsz] at this
           match l,this,hn with
           | [x],_,hn=>exact hn x rfl
theorem zm7 {f:Fn}{cap:List AV}{d':Deferred}{args:List AV}(k:DefRel R ⟨.fn f cap,args⟩ d'):∃ c as:List Value,d'=⟨.fn f c.toArray,as.toArray⟩∧VRels R cap c∧VRels R args as:=by
 obtain ⟨⟨_,c,h1,h2⟩,h3⟩:=k
 obtain ⟨t,a⟩:=d'
 simp only at h1 h3
 exact ⟨c,a.toList,by rw [h1],h2,h3⟩
theorem zht (kh:HRel P B R h w)(hb:B.env=w0)(ho:Old0 w0.toWorld w)(kt:FrameRel P B R rest.length false h af fr)(hr:af.mode≠.run)(kb:StackRel P B R h rest fs){m:AM}(e:zab P af rest h=some m):zdi P w0 base m fr (fs++base) w:=by
 have hslots:Slots R af.tmps fr.tmps:=by
  have:=kt.top
  unfold ze9 at this
  split at this
  · exact absurd ‹_› hr
  · exact this
 have hst:stepG P true { frame:=fr,callers:=fs++base,status:=.running,dying:=none } w=unwind P true fr (fs++base) none w:=by
  have:=kt.mode
  cases hm:af.mode with
  | run=>exact absurd hm hr
  | returning=>rw [hm] at this; have hf:fr.mode=.returning:=this; simp only [stepG,hf]
  | panicking c=>rw [hm] at this; obtain ⟨c',hf,_⟩:=this; simp only [stepG,hf]
 have hroom:B.n≤w.heap.size:=by show B.env.heap.size≤_; rw [hb]; exact ho.size
 unfold zab at e
 split at e
 · rename_i d ds hdef
   have hd:=kt.defers
   rw [hdef] at hd
   obtain ⟨d',ds',hfd,hd1,hd2⟩:=hd
   obtain ⟨tgt,args⟩:=d
   unfold zeg at e
   simp only at e
   split at e
   · rename_i id
     split at e
     · cases e
     · rename_i cs hcs
       exact zc7 kh hb ho kt hr kb hslots hdef hst hcs e
   · rename_i f cap
     obtain ⟨c,as,rfl,h1,h2⟩:=zm7 hd1
     unfold zfc at e
     split at e
     · rename_i g args2 h2' hinv
       obtain ⟨a,e1,rfl⟩:=xU e
       have hop:=wJ kh hroom hinv h2 h1
       obtain ⟨as2,r1,r2,r3⟩:=hop
       refine ⟨_,_,_,.one (step_lone_go (fr':=Frame.enter P g as2.toArray .deferred) (cs':={ fr with defers:=ds' }::(fs++base)) (w':=w) ?_),B,R,{ fr with defers:=ds' }::fs,rfl,hb,r3,ho,jA e1 r2 (.inr rfl),_,_,rfl,?_,kb.mono R.le_refl (B.keeps_refl (rest.length)) (Nat.le_refl _)⟩
       · rw [hst]
         simp [unwind,hfd,callDeferred,Sem.runT_eq,r1]
       · obtain ⟨k1,k2,k3,k4,k5,k6,k7,k8,k9⟩:=kt
         obtain ⟨fn,n,t,td,ds0,mode,kind,round⟩:=af
         cases mode with
         | run=>exact absurd rfl hr
         | returning=>exact ⟨k1,k2,k3,k4,k5,hd2,k7,k8,hslots⟩
         | panicking c=>exact ⟨k1,k2,k3,k4,k5,hd2,k7,k8,hslots⟩
     · cases e
   · cases e
 · rename_i hdef
   have hfd:fr.defers=[]:=by have:=kt.defers; rw [hdef] at this; exact this
   have hmode:=kt.mode
   split at e
   · cases e
   · rename_i chain hm
     rw [hm] at hmode
     obtain ⟨c',hfm,hc⟩:=hmode
     cases rest with
     | nil=>cases e
     | cons c r =>
      obtain ⟨f,fs',rfl,kf,kr⟩:=kb
      cases e
      obtain ⟨fn,hfn⟩:=kt.fnOk
      have hcat:fr.catches P=false:=by simp only [Frame.catches,kt.fn,hfn]
      exact ⟨_,_,_,.one (step_lone_go (fr':=f.raise c') (cs':=fs'++base) (w':=w) (by rw [hst]; simp [unwind,hfd,hfm,hcat])),B,R,fs',rfl,hb,kh,ho,zea kf hc,kr⟩
   · rename_i hm
     rw [hm] at hmode
     have hfm:fr.mode=.returning:=hmode
     unfold zdR at e
     split at e
     · cases e
     · rename_i v hv
       obtain ⟨fn,v',r1,r2,r3⟩:=zeX kh hslots kt.fn hv
       obtain ⟨fr',cs',q1,q2⟩:=zaV (fr:=fr) (base:=base) kh hb ho kt.kindOk kt.kind kb r3 e
       exact ⟨fr',cs',w,.one (step_lone_go (by rw [hst]; simp only [unwind,hfd,hfm,r1,Sem.runT_eq,r2]; simpa using q1)),q2⟩
theorem zk3 [XT P] [XTOk P] (hmix:P.follows .mixedOrders=true){m m':AM}{fr:Frame}{cs:List Frame}{w:World}(k:Sim P w0 base m fr cs w)(e:zdQ P m=some m'):zdi P w0 base m' fr cs w:=by
 obtain ⟨af,rest,h⟩:=m
 obtain ⟨B,R,fs,rfl,hb,kh,ho,kt,kb⟩:=k
 change (match af.mode with | .run=>zj7 P af rest h af.todo | _=>zab P af rest h)=some m' at e
 split at e
 · rename_i hrun
   have hp:Plain P w0 base B R af rest h fr fs w:=⟨kh,hb,ho,kt,hrun,kb⟩
   unfold zj7 at e
   split at e
   · rename_i hnil
     have htop:TodoRel P B R rest.length false h af.todo af.tmps fr.todo fr.tmps:=by
      have:=kt.top
      rw [hrun] at this; exact this
     rw [hnil] at htop
     obtain ⟨h1,hs⟩:=htop
     have hfr:fr.todo=[]:=h1
     have hm:=zlO hp
     have hround:=kt.round
     unfold vo at e
     split at e
     · rename_i hr
       rw [hr] at hround
       exact hp.ends hs e (step_lone_go (by simp [stepG,stepG.exec,hm,hfr,show fr.roundOf=none from hround]))
     · rename_i l hr
       refine vu hp hr e fun b hb=>?_
       simp only [stepG,stepG.exec,hm,hfr,hb,Sem.runT_eq]
       cases (Instr.endRound b none).run P w <;> simp
   · rename_i it kk hcons
     exact zld hmix hp hcons e
 · rename_i hr
   exact zht kh hb ho kt (fun hh=>hr hh) kb e
def zjt (G:T (T AV)) (w:World):Prop:=∀ g c,G.get g=some c→g<w.heap.size∧∃ cs el fz,w.heap[g]?=some (.cells cs el fz)∧∀ k v,c.get k=some v→∃ x,cs[k]?=some x∧VRel (fun _ _=>none) v x
def Env.of (w:World):Env:={ w with own:=fun _=>False,rob:=fun _=>False,pin:=fun _ _=>none }
def Base.of (w:World):Base:=⟨Env.of w,fun _=>False,fun _=>none,fun _=>(0,0)⟩
theorem HRel.start {P:Program}{G:T (T AV)}{w:World}(hG:zjt G w):HRel P (Base.of w) (fun _ _=>none) ⟨.leaf,0,G⟩ w where
 fresh _ _ _:=rfl
 obj i o e:=by cases e
 pend i o e:=by cases e
 place i r L e:=by cases e
 rd i hi:=hi.elim
 low b _:=rfl
 rp i hi:=hi.elim
 rol i r L hi:=hi.elim
 pin i r L e:=by cases e
 apart i r i' r' L L' e:=by cases e
 same i r r' L L' e:=by cases e
 glob g c e:=⟨fun hm=>hm.elim (fun hl=>absurd (hG g c e).1 (Nat.not_lt.2 hl)) id,(hG g c e).2⟩
theorem Old0.start (w:World):Old0 (Env.of w).toWorld w:=⟨rfl,rfl,rfl,Nat.le_refl _,Nat.le_refl _⟩
end
end Go.Proofs.Ytehelionjafnkaa.Ev
end
section
namespace Go.Proofs.Ytehelionjafnkaa.Ev
open Go Go.ChangeShapes Go.WideShapes
theorem Old.kept {w w':World}(k:Old w w')(may:MemPlace→Prop):w.keptBut w' may :=
 ⟨k.os,k.output,fun i hi=>by rw [k.other i hi]; exact (World.keptBut_refl w may).2.2 i hi⟩
end Go.Proofs.Ytehelionjafnkaa.Ev
end
section
namespace Go.Proofs.Ytehelionjafnkaa.Ev
open Go
noncomputable section
variable (P:Program)
def runN [XT P]:Nat→AM→Option AM
 | 0,m=>some m
 | n+1,m=>match zdQ P m with
  | none=>none
  | some m=>runN n m
def zhX {α:Type} (t:T α):List Nat→T α→T α
 | [],acc=>acc
 | i::r,acc=>(acc.set (t.get i) i).seq fun acc=>zhX t r acc
def zgg (us:List Nat) (fr:AFrame):AFrame:=match fr with
 | ⟨fn,n,t,todo,ds,mode,kind,round⟩=>⟨fn,n,zhX t us .leaf,todo,ds,mode,kind,round⟩
def vw:List (List Nat)→List AFrame→List AFrame
 | us::r,f::fs=>zgg us f::vw r fs
 | [],fs=>fs
 | _::_,[]=>[]
def zkA (us:List Nat) (fr:AFrame):AFrame:=match fr.todo with
 | .drw _ _ _::_=>fr
 | _=>zgg us fr
def zbM:List (List Nat)→List AFrame→List AFrame
 | us::r,f::fs=>zkA us f::zbM r fs
 | [],fs=>fs
 | _::_,[]=>[]
def AV.ref:AV→Option Nat
 | .ptr i _ _=>some i
 | .slc i _ _ _ _=>some i
 | .mp i=>some i
 | _=>none
def znv (objs:T AObj) (v:AV):Bool:=match v.ref with
 | none=>true
 | some i=>match objs.get i with
  | none=>false
  | some _=>true
def zlS (objs:T AObj) (t:T AV) (o:Oper):Bool:=match z8 o.op with
 | false=>true
 | true=>match o.dst with
  | none=>false
  | some u=>match t.get u with
   | none=>false
   | some v=>znv objs v
def zny (objs:T AObj) (t:T AV) (o:Option Oper):Bool:=match o with
 | none=>true
 | some o=>zlS objs t o
def znu (objs:T AObj) (fr:AFrame):Bool:=match fr.todo with
 | .drw all _ dn::_=>dn.all fun p=>zny objs fr.tmps all[p]?
 | _=>true
def zkR:List Nat→T AV→T AV
 | [],t=>t
 | u::r,t=>zkR r (t.set none u)
def ziP (us:List Nat) (fr:AFrame):AFrame:=match fr with
 | ⟨fn,n,t,todo,ds,mode,kind,round⟩=>⟨fn,n,zkR us t,todo,ds,mode,kind,round⟩
def vk:List (List Nat)→List AFrame→List AFrame
 | us::r,f::fs=>ziP us f::vk r fs
 | [],fs=>fs
 | _::_,[]=>[]
def zeU (fr:AFrame):Bool:=match fr.todo with
 | .drw _ _ _::_=>false
 | _=>true
def zmH:List Nat→Code→Code
 | [],c=>c
 | d::p,c=>match c with
  | .seq a b=>zmH p (bif Nat.beq d 0 then a else b)
  | .cond _ a b=>zmH p (bif Nat.beq d 0 then a else b)
  | .rangeFunc _ _ a b=>zmH p (bif Nat.beq d 0 then a else b)
  | .block _ b=>zmH p b
  | .loop b=>zmH p b
  | .scope b=>zmH p b
  | c=>c
def cd (f:FuncId) (p:List Nat):Code:=match P.funcs[f]? with
 | none=>.skip
 | some fn=>match fn.body with
  | none=>.skip
  | some c=>zmH p c
def rg (f:FuncId) (p:List Nat):Array Oper:=match cd P f p with
 | .region _ ops _=>ops
 | _=>#[]
end
section
variable {P:Program} {w0:Env} {base:List Frame}
theorem zgx {α:Type}{t:T α}:∀ {ids:List Nat} {acc:T α},(∀ i o,acc.get i=some o→t.get i=some o)→∀ i o,(zhX t ids acc).get i=some o→t.get i=some o
 | [],_,h=>h
 | j::r,acc,h=>by
  intro i o e
  rw [zhX,T.seq_eq] at e
  refine zgx (acc:=acc.set (t.get j) j) (fun i o e=>?_) i o e
  rw [T.get_set] at e
  by_cases hi:i=j
  · subst hi; rwa [if_pos rfl] at e
  · rw [if_neg hi] at e; exact h i o e
noncomputable def Base.only (B:Base) (h:AHeap):Base:={ B with pend:=fun i=>match h.get i with
 | none=>none
 | some _=>B.pend i }
theorem Slots.drop {R:Bij}{a:Array Value}:∀ {us:List Nat} {t:T AV},Slots R t a→Slots R (zkR us t) a
 | [],_,k=>k
 | u::r,t,k=>Slots.drop (us:=r) (t:=t.set none u) fun x v e=>by
  rw [T.get_set] at e
  split at e
  · cases e
  · exact k x v e
theorem FrameRel.plain {B B':Base}{R:Bij}{d:Nat}{sus:Bool}{h h':AHeap}{af:AFrame}{fr:Frame}{us:List Nat}(hp:zeU (ziP us af)=true)(k:FrameRel P B R d sus h af fr):FrameRel P B' R d sus h' (ziP us af) fr:=by
 obtain ⟨fn,n,t,todo,ds,mode,kind,round⟩:=af
 obtain ⟨k1,k2,k3,k4,k5,k6,k7,k8,k9⟩:=k
 refine ⟨k1,k2,k3,k4,k5,k6,k7,k8,?_⟩
 cases mode with
 | run =>
  have k9:TodoRel P B R d sus h todo t fr.todo fr.tmps:=k9
  show TodoRel P B' R d sus h' todo (zkR us t) fr.todo fr.tmps
  cases todo with
  | nil=>exact ⟨k9.1,k9.2.drop⟩
  | cons it kk =>
   cases it with
   | drw a b c=>cases hp
   | _=>exact ⟨k9.1,k9.2.drop⟩
 | returning=>exact Slots.drop k9
 | panicking c=>exact Slots.drop k9
theorem kI (af:AFrame):ziP [] af=af:=by cases af; rfl
theorem jy:∀ (dr:List (List Nat)) (as:List AFrame),(vk dr as).length=as.length
 | [],as=>by cases as <;> rfl
 | _::_,[]=>rfl
 | us::dr,a::as=>by simp [vk,jy dr as]
theorem StackRel.plain {B B':Base}{R:Bij}{h h':AHeap}:∀ {dr:List (List Nat)} {as:List AFrame} {fs:List Frame},(vk dr as).all zeU=true→StackRel P B R h as fs→StackRel P B' R h' (vk dr as) fs
 | [],[],_,_,k=>k
 | _::_,[],_,_,k=>k
 | [],a::as,fs,hp,⟨f,r,e,k1,k2⟩=>by
  rw [show vk [] (a::as)=a::as from rfl,List.all_cons,Bool.and_eq_true] at hp
  have g1:FrameRel P B' R as.length true h' a f:=by
   have:=k1.plain (B':=B') (h':=h') (us:=[]) (by rw [kI]; exact hp.1)
   rwa [kI] at this
  have g2:=StackRel.plain (B':=B') (h':=h') (dr:=[]) (as:=as) (by rw [show vk [] as=as by cases as <;> rfl]; exact hp.2) k2
  rw [show vk [] as=as by cases as <;> rfl] at g2
  exact ⟨f,r,e,g1,g2⟩
 | us::dr,a::as,fs,hp,⟨f,r,e,k1,k2⟩=>by
  rw [show vk (us::dr) (a::as)=ziP us a::vk dr as from rfl,List.all_cons,Bool.and_eq_true] at hp
  exact ⟨f,r,e,by rw [jy]; exact k1.plain hp.1,StackRel.plain hp.2 k2⟩
theorem Slots.keep {R:Bij}{a:Array Value}{us:List Nat}{t:T AV}(k:Slots R t a):Slots R (zhX t us .leaf) a:=fun u v e =>
 k u v (zgx (acc:=.leaf) (fun _ _ e=>by cases e) u v e)
theorem FrameRel.plainK {B B':Base}{R:Bij}{d:Nat}{sus:Bool}{h h':AHeap}{af:AFrame}{fr:Frame}{us:List Nat}(hp:zeU (zgg us af)=true)(k:FrameRel P B R d sus h af fr):FrameRel P B' R d sus h' (zgg us af) fr:=by
 obtain ⟨fn,n,t,todo,ds,mode,kind,round⟩:=af
 obtain ⟨k1,k2,k3,k4,k5,k6,k7,k8,k9⟩:=k
 refine ⟨k1,k2,k3,k4,k5,k6,k7,k8,?_⟩
 cases mode with
 | run =>
  have k9:TodoRel P B R d sus h todo t fr.todo fr.tmps:=k9
  show TodoRel P B' R d sus h' todo (zhX t us .leaf) fr.todo fr.tmps
  cases todo with
  | nil=>exact ⟨k9.1,k9.2.keep⟩
  | cons it kk =>
   cases it with
   | drw a b c=>cases hp
   | _=>exact ⟨k9.1,k9.2.keep⟩
 | returning=>exact Slots.keep k9
 | panicking c=>exact Slots.keep k9
theorem kW:∀ (dr:List (List Nat)) (as:List AFrame),(vw dr as).length=as.length
 | [],as=>by cases as <;> rfl
 | _::_,[]=>rfl
 | us::dr,a::as=>by simp [vw,kW dr as]
theorem StackRel.plainK {B B':Base}{R:Bij}{h h':AHeap}:∀ {dr:List (List Nat)} {as:List AFrame} {fs:List Frame},(vw dr as).all zeU=true→StackRel P B R h as fs→StackRel P B' R h' (vw dr as) fs
 | [],[],_,_,k=>k
 | _::_,[],_,_,k=>k
 | [],a::as,fs,hp,⟨f,r,e,k1,k2⟩=>by
  rw [show vw [] (a::as)=a::as from rfl,List.all_cons,Bool.and_eq_true] at hp
  have g1:FrameRel P B' R as.length true h' a f:=by
   have:=k1.plain (B':=B') (h':=h') (us:=[]) (by rw [kI]; exact hp.1)
   rwa [kI] at this
  have g2:=StackRel.plainK (B':=B') (h':=h') (dr:=[]) (as:=as) (by rw [show vw [] as=as by cases as <;> rfl]; exact hp.2) k2
  rw [show vw [] as=as by cases as <;> rfl] at g2
  exact ⟨f,r,e,g1,g2⟩
 | us::dr,a::as,fs,hp,⟨f,r,e,k1,k2⟩=>by
  rw [show vw (us::dr) (a::as)=zgg us a::vw dr as from rfl,List.all_cons,Bool.and_eq_true] at hp
  exact ⟨f,r,e,by rw [kW]; exact k1.plainK hp.1,StackRel.plainK hp.2 k2⟩
theorem zjA {ρ:Operand→Option AV}{h h':AHeap}{op:Op}{v:AV}(hf:z8 op=true)(e:opA P ρ h op=some (.val v h')):v.ref=some h.next:=by
 cases op with
 | alloc t =>
  change yi P t ρ h=some _ at e
  unfold yi ji at e
  split at e
  · cases e
  · obtain ⟨v',h2,e1,e2⟩:=zL e
    cases e2
    have:=(w3 e1).1 h
    rw [e1] at this; cases this; rfl
 | box t x =>
  change zcH P t x ρ h=some _ at e
  obtain ⟨a,ha,e⟩:=zi e
  obtain ⟨v',h2,e1,e2⟩:=zL e
  cases e2
  have:=(w3 e1).1 h
  rw [e1] at this; cases this; rfl
 | buildSlice t n parts =>
  change zH P t n parts ρ h=some _ at e
  unfold zH zT at e
  split at e
  · cases e
  · obtain ⟨v',h2,e1,e2⟩:=zL e
    cases e2
    obtain ⟨el,cells,b1,_⟩:=qg e1
    have:=b1 h
    rw [e1] at this; cases this; rfl
 | makeSlice t l c =>
  change zZ P t l c ρ h=some _ at e
  obtain ⟨a,b,ha,hb,e⟩:=xc e
  obtain ⟨v',h2,e1,e2⟩:=zL e
  cases e2
  obtain ⟨el,cells,n,m,b1,_⟩:=qN e1
  have:=b1 h
  rw [e1] at this; cases this; rfl
 | makeMap t r' =>
  cases r' with
  | none =>
   change some _=some _ at e
   cases e; rfl
  | some x=>cases hf
 | _=>cases hf
theorem Pend.only {B:Base}{d:Nat}{all:Array Oper}{t:T AV}{h h' h'':AHeap}{p:Nat}{o:Oper}(hh:zlS h'.objs t o=true)(k:Pend P B d true all t h p o):Pend P (B.only h') d true all t h'' p o:=by
 obtain ⟨wt,k1,k2,k3⟩:=k
 refine ⟨wt,k1,k2,fun hw=>?_⟩
 rcases k3 hw with ⟨f1,vf,ob,id,f2,f3,f4,f5⟩ | ⟨f1,f2,v,f3,f4⟩ | ⟨f1,f2,f3,_⟩
 · refine .inl ⟨f1,vf,ob,id,f2,?_,f4,f5⟩
   unfold zlS at hh
   rw [f1] at hh
   simp only at hh
   split at hh
   · cases hh
   · rename_i u hu
     have hr:(vf id).ref=some id:=by
      have:=zjA f1 (f2.1 ⟨.leaf,id,.leaf⟩)
      exact this
     rw [f5 u hu] at hh
     simp only [znv,hr] at hh
     simp only [Base.only]
     show (match h'.objs.get id with | none=>none | some _=>B.pend id)=some ob
     split at hh
     · cases hh
     · rename_i q hq
       exact f3
 · exact .inr (.inl ⟨f1,f2,v,f3,f4⟩)
 · exact .inr (.inr ⟨f1,f2,f3,.inl rfl⟩)
theorem FrameRel.held {B:Base}{R:Bij}{d:Nat}{h h' h'':AHeap}{af:AFrame}{fr:Frame}{us:List Nat}(hp:znu h'.objs (zkA us af)=true)(k:FrameRel P B R d true h af fr):FrameRel P (B.only h') R d true h'' (zkA us af) fr:=by
 obtain ⟨fn,n,t,todo,ds,mode,kind,round⟩:=af
 have plain:zeU (zgg us ⟨fn,n,t,todo,ds,mode,kind,round⟩)=true→FrameRel P (B.only h') R d true h'' (zgg us ⟨fn,n,t,todo,ds,mode,kind,round⟩) fr:=fun hp=>k.plainK hp
 cases todo with
 | nil=>exact plain rfl
 | cons it kk =>
  cases it with
  | drw all l dn =>
   obtain ⟨k1,k2,k3,k4,k5,k6,k7,k8,k9⟩:=k
   refine ⟨k1,k2,k3,k4,k5,k6,k7,k8,?_⟩
   cases mode with
   | run =>
    obtain ⟨s,k',e1,e2,e3⟩:=(show ∃ s k',fr.todo=.inRegion all s::k'∧All2 (ItemRel R) kk k'∧Drw P B R d true all l dn t h fr.tmps s from k9)
    refine ⟨s,k',e1,e2,⟨e3.plan,e3.split,e3.topo,e3.rest,e3.own,e3.effs,e3.head,e3.slots,fun p h1 h2 o ho=>?_,e3.bound⟩⟩
    refine (e3.pend p h1 h2 o ho).only ?_
    have:=List.all_eq_true.1 (show (dn.all fun p=>zny h'.objs t all[p]?)=true from hp) p h1
    rw [ho] at this
    exact this
   | returning=>exact k9
   | panicking c=>exact k9
  | _=>exact plain rfl
theorem jb:∀ (dr:List (List Nat)) (as:List AFrame),(zbM dr as).length=as.length
 | [],as=>by cases as <;> rfl
 | _::_,[]=>rfl
 | us::dr,a::as=>by simp [zbM,jb dr as]
theorem StackRel.held {B:Base}{R:Bij}{h h' h'':AHeap}:∀ {dr:List (List Nat)} {as:List AFrame} {fs:List Frame},dr.length=as.length→(zbM dr as).all (znu h'.objs)=true→StackRel P B R h as fs→StackRel P (B.only h') R h'' (zbM dr as) fs
 | [],[],_,_,_,k=>k
 | _::_,[],_,e,_,_=>by cases e
 | [],_::_,_,e,_,_=>by cases e
 | us::dr,a::as,fs,hl,hp,⟨f,r,e,k1,k2⟩=>by
  rw [show zbM (us::dr) (a::as)=zkA us a::zbM dr as from rfl,List.all_cons,Bool.and_eq_true] at hp
  exact ⟨f,r,e,by rw [jb]; exact k1.held hp.1,StackRel.held (by simpa using hl) hp.2 k2⟩
end
end Go.Proofs.Ytehelionjafnkaa.Ev
end
section
namespace Go.Proofs.Ytehelionjafnkaa.Ev
open Go
noncomputable section
variable (P:Program)
abbrev Tab:=List (Nat × Option Nat)
def zfV (j:Nat):Tab→Nat→Option (Nat × Option Nat)
 | [],_=>none
 | (k,t)::r,i=>bif Nat.beq k j then some (i,t) else zfV j r (i+1)
def Tab.find (tb:Tab) (j:Nat):Option (Nat × Option Nat):=zfV j tb 0
def Tab.ver (tb:Tab) (j s:Nat):Option (Nat × Nat):=match tb.find j with
 | none=>none
 | some (i,none)=>some (i,s)
 | some (i,some t)=>bif Nat.beq t s then some (i,0) else none
def Tab.re (tb:Tab) (R:Bij):Bij:=fun i r=>match tb[i]? with
 | none=>none
 | some (j,none)=>R j r
 | some (j,some t)=>if r=0 then R j t else none
def idG (g:Nat→Nat→Option (Nat × Nat)) (j:Nat):Option Nat:=match g j 0 with
 | none=>none
 | some (i,r)=>bif Nat.beq r 0 then some i else none
mutual
def zfs (g:Nat→Nat→Option (Nat × Nat)):Nat→AV→Option AV
 | 0,_=>none
 | n+1,v=>match v with
  | .ptr i r o=>match g i r with
   | none=>none
   | some (j,s)=>some (.ptr j s o)
  | .slc i r o l c=>match g i r with
   | none=>none
   | some (j,s)=>some (.slc j s o l c)
  | .slg i r o l c=>match g i r with
   | none=>none
   | some (j,s)=>some (.slg j s o l c)
  | .mp i=>match idG g i with
   | none=>none
   | some j=>some (.mp j)
  | .yld i=>match idG g i with
   | none=>none
   | some j=>some (.yld j)
  | .fn f a b=>match ziG g n a,ziG g n b with
   | some a,some b=>some (.fn f a b)
   | _,_=>none
  | .ifc t v=>match zfs g n v with
   | none=>none
   | some v=>some (.ifc t v)
  | .agg l=>match ziG g n l with
   | none=>none
   | some l=>some (.agg l)
  | .tup l=>match ziG g n l with
   | none=>none
   | some l=>some (.tup l)
  | v=>some v
def ziG (g:Nat→Nat→Option (Nat × Nat)):Nat→List AV→Option (List AV)
 | 0,_=>none
 | n+1,l=>match l with
  | []=>some []
  | v::r=>match zfs g n v with
   | none=>none
   | some v=>match ziG g n r with
    | none=>none
    | some r=>some (v::r)
end
mutual
def vr:Nat→AV→Bool
 | 0,_=>false
 | n+1,v=>match v with
  | .ptr .. | .slc .. | .slg .. | .mp _ | .yld _=>false
  | .fn _ a b=>za6 n a&&za6 n b
  | .ifc _ v=>vr n v
  | .agg l | .tup l=>za6 n l
  | _=>true
def za6:Nat→List AV→Bool
 | 0,_=>false
 | n+1,l=>match l with
  | []=>true
  | v::r=>vr n v&&za6 n r
end
def kj (f:Nat→Option AV):Prop:=∀ k v,f k=some v→vr 99 v=true
def zlP {α:Type} (t:T α):List (Nat→Option α) :=
 T.rec (motive:=fun _=>List (Nat→Option α)) [] (fun _ _ _ l r=>l++r) (fun f=>[f]) t
def zf8 (g:Nat→Nat→Option (Nat × Nat)) (v:Option AV) (l r:Option (T AV)):Option (T AV):=match l with
 | none=>none
 | some l=>match r with
  | none=>none
  | some r=>match v with
   | none=>some (.node l none r)
   | some v=>match zfs g 99 v with
    | none=>none
    | some v=>some (.node l (some v) r)
def zmY (g:Nat→Nat→Option (Nat × Nat)) (t:T AV):Option (T AV) :=
 T.rec (motive:=fun _=>Option (T AV)) (some .leaf) (fun _ v _ l r=>zf8 g v l r) (fun f=>some (.fn f)) t
def zjG (g:Nat→Nat→Option (Nat × Nat)) (t:T AV):List Nat→T AV→Option (T AV)
 | [],acc=>some acc
 | u::r,acc=>match t.get u with
  | none=>none
  | some v=>match zfs g 99 v with
   | none=>none
   | some v=>(acc.set (some v) u).seq fun acc=>zjG g t r acc
def zgo (g:Nat→Nat→Option (Nat × Nat)):ATgt→Option ATgt
 | .fn f c=>match ziG g 99 c with
  | none=>none
  | some c=>some (.fn f c)
 | .nil=>some .nil
 | .collected i=>match idG g i with
  | none=>none
  | some j=>some (.collected j)
def zgB (g:Nat→Nat→Option (Nat × Nat)) (d:ADef):Option ADef:=match zgo g d.tgt with
 | none=>none
 | some t=>match ziG g 99 d.args with
  | none=>none
  | some a=>some ⟨t,a⟩
def zjM {α β:Type} (f:α→Option β):List α→Option (List β)
 | []=>some []
 | a::r=>match f a with
  | none=>none
  | some b=>match zjM f r with
   | none=>none
   | some r=>some (b::r)
def zjN (g:Nat→Nat→Option (Nat × Nat)) (e:AEntry):Option AEntry:=match zfs g 99 e.key with
 | none=>none
 | some k=>match zfs g 99 e.val with
  | none=>none
  | some v=>some ⟨k,v,e.born⟩
def zft (g:Nat→Nat→Option (Nat × Nat)) (t:Option Nat):AObj→Option AObj
 | .cells c n el lo hi nv fz sg ex=>match zmY g c with
  | none=>none
  | some c=>match t with
   | none=>some (.cells c n el lo hi nv fz sg ex)
   | some h=>bif Nat.beq h hi&&Nat.ble lo hi then some (.cells c n el 0 0 1 fz sg .leaf) else none
 | o=>match t with
  | some _=>none
  | none=>match o with
   | .map es clock=>match zjM (zjN g) es with
    | none=>none
    | some es=>some (.map es clock)
   | .iter s p=>some (.iter s p)
   | .ro c lo n=>some (.ro c lo n)
   | .dfrd none=>some (.dfrd none)
   | .dfrd (some ds)=>match zjM (zgB g) ds with
    | none=>none
    | some ds=>some (.dfrd (some ds))
   | .loop ⟨st,pe,fn,n,tmps,ps,asg,body,df⟩=>match zmY g tmps with
    | none=>none
    | some tmps=>match idG g df with
     | none=>none
     | some df=>some (.loop ⟨st,pe,fn,n,tmps,ps,asg,body,df⟩)
   | _=>none
def zns:AObj→List (Nat→Option AV)
 | .cells c ..=>zlP c
 | .loop l=>zlP l.tmps
 | _=>[]
def kn (tb:Tab) (objs:T AObj):Tab→Nat→T AObj→Option (T AObj)
 | [],_,acc=>some acc
 | (j,t)::r,i,acc=>match objs.get j with
  | none=>none
  | some o=>match zft tb.ver t o with
   | none=>none
   | some o=>(acc.set (some o) i).seq fun acc=>kn tb objs r (i+1) acc
def zmJ (objs:T AObj):Tab→List (Nat→Option AV)
 | []=>[]
 | (j,_)::r=>match objs.get j with
  | none=>[]
  | some o=>zns o++zmJ objs r
def j9 (tb:Tab) (h:AHeap):Option AHeap:=match h with
 | ⟨objs,next,glob⟩=>bif tb.all (fun p=>Nat.blt p.1 next) then match kn tb objs tb 0 .leaf with
  | none=>none
  | some objs=>some ⟨objs,tb.length,glob⟩ else none
def jG (g:Nat→Nat→Option (Nat × Nat)):AItem→Option AItem
 | .inRange i=>match idG g i with
  | none=>none
  | some j=>some (.inRange j)
 | .endRange i=>match idG g i with
  | none=>none
  | some j=>some (.endRange j)
 | .drw ..=>none
 | it=>some it
def zd3 (g:Nat→Nat→Option (Nat × Nat)):AMode→Option AMode
 | .run=>some .run
 | .returning=>some .returning
 | .panicking c=>match zjM (fun (p:AV × Bool)=>match zfs g 99 p.1 with
  | none=>none
  | some v=>some (v,p.2)) c with
  | none=>none
  | some c=>some (.panicking c)
def zd0 (g:Nat→Nat→Option (Nat × Nat)):Option Nat→Option (Option Nat)
 | none=>some none
 | some l=>match idG g l with
  | none=>none
  | some j=>some (some j)
def zmj (g:Nat→Nat→Option (Nat × Nat)) (us:List Nat) (fr:AFrame):Option AFrame:=match fr with
 | ⟨fn,n,t,todo,ds,mode,kind,round⟩=>match zjG g t us .leaf with
  | none=>none
  | some t=>match zjM (jG g) todo with
   | none=>none
   | some todo=>match zjM (zgB g) ds with
    | none=>none
    | some ds=>match zd3 g mode with
     | none=>none
     | some mode=>match zd0 g round with
      | none=>none
      | some round=>some ⟨fn,n,t,todo,ds,mode,kind,round⟩
def zjO (g:Nat→Nat→Option (Nat × Nat)):List (List Nat)→List AFrame→Option (List AFrame)
 | us::r,f::fs=>match zmj g us f with
  | none=>none
  | some f=>match zjO g r fs with
   | none=>none
   | some fs=>some (f::fs)
 | [],[]=>some []
 | _,_=>none
def jW (keep:Nat) (objs:T AObj):List Nat→Nat→Tab
 | [],_=>[]
 | j::r,i=>(j,bif Nat.blt i keep then none else match objs.get j with
  | some (.cells _ _ _ lo hi ..)=>bif Nat.beq lo hi then some hi else none
  | _=>none)::jW keep objs r (i+1)
def jF:List Nat→Bool
 | []=>true
 | i::r=>!(r.any fun j=>Nat.beq i j)&&jF r
def zhW:List Nat→Nat→Nat→Bool
 | _,0,_=>true
 | [],_+1,_=>false
 | j::r,k+1,i=>Nat.beq j i&&zhW r k (i+1)
def zm2 (keep:Nat) (ids:List Nat) (us:List Nat) (uss:List (List Nat)) (m:AM):Option AM:=match m with
 | ⟨top,rest,heap⟩=>bif jF ids&&zhW ids keep 0 then
  match j9 (jW keep heap.objs ids 0) heap with
  | none=>none
  | some h=>match zmj (jW keep heap.objs ids 0).ver us top with
   | none=>none
   | some top=>match zjO (jW keep heap.objs ids 0).ver uss rest with
    | none=>none
    | some rest=>some ⟨top,rest,h⟩
  else none
def kM:List (Nat→Option AV)→Prop→Prop
 | [],K=>K
 | f::r,K=>kj f∧kM r K
def CanP (keep:Nat) (ids us:List Nat) (uss:List (List Nat)) (m:AM) (K:AM→Prop):Prop:=match zm2 keep ids us uss m with
 | none=>False
 | some m'=>kM (zmJ m.heap.objs (jW keep m.heap.objs ids 0)) (K m')
end
section
variable {P:Program} {tb:Tab} {R:Bij}
theorem wX {j:Nat}:∀ {l:Tab} {i i':Nat} {t:Option Nat},zfV j l i=some (i',t)→i≤i'∧l[i' - i]?=some (j,t)
 | [],_,_,_,e=>by cases e
 | (k,t0)::r,i,i',t,e=>by
  unfold zfV at e
  cases hb:Nat.beq k j with
  | true =>
   rw [hb] at e; cases e
   rw [Nat.eq_of_beq_eq_true hb]
   exact ⟨Nat.le_refl _,by simp⟩
  | false =>
   rw [hb] at e
   obtain ⟨h1,h2⟩:=wX (l:=r) e
   refine ⟨by omega,?_⟩
   rw [show i' - i=(i' - (i+1))+1 by omega,List.getElem?_cons_succ]
   exact h2
theorem Tab.ver_some {j s i r:Nat}(e:tb.ver j s=some (i,r)):∀ L,R j s=some L→tb.re R i r=some L:=by
 intro L hL
 unfold Tab.ver at e
 split at e
 · cases e
 · rename_i i' hf
   cases e
   have:=(wX hf).2
   simp only [Nat.sub_zero] at this
   simp only [Tab.re,this]
   exact hL
 · rename_i i' t hf
   have:=(wX hf).2
   simp only [Nat.sub_zero] at this
   cases hb:Nat.beq t s with
   | false=>rw [hb] at e; cases e
   | true =>
    rw [hb] at e; cases e
    have:=Nat.eq_of_beq_eq_true hb
    simp only [Tab.re, *,if_true]
mutual
theorem ve {R':Bij}:∀ (n:Nat) (v:AV) (x:Value),vr n v=true→VRel R v x→VRel R' v x
 | 0,_,_,e,_=>by simp [vr] at e
 | n+1,v,x,e,k=>by
  cases v <;> simp only [vr,Bool.and_eq_true,Bool.false_eq_true] at e
  case fn f a b =>
   obtain ⟨h0,p,q,h1,h2,h3⟩:=k
   exact ⟨h0,p,q,h1,ql n _ _ e.1 h2,ql n _ _ e.2 h3⟩
  case ifc t y =>
   obtain ⟨z,h1,h2⟩:=k
   exact ⟨z,h1,ve n _ _ e h2⟩
  case agg l =>
   obtain ⟨z,h1,h2⟩:=k
   exact ⟨z,h1,ql n _ _ e h2⟩
  case tup l =>
   obtain ⟨z,h1,h2⟩:=k
   exact ⟨z,h1,ql n _ _ e h2⟩
  all_goals exact k
theorem ql {R':Bij}:∀ (n:Nat) (l:List AV) (x:List Value),za6 n l=true→VRels R l x→VRels R' l x
 | 0,_,_,e,_=>by simp [za6] at e
 | n+1,l,x,e,k=>by
  cases l with
  | nil=>exact k
  | cons v r =>
   simp only [za6,Bool.and_eq_true] at e
   obtain ⟨y,ys,h1,h2,h3⟩:=k
   exact ⟨y,ys,h1,ve n _ _ e.1 h2,ql n _ _ e.2 h3⟩
end
def RenOk (g:Nat→Nat→Option (Nat × Nat)) (R R':Bij):Prop:=∀ j s i r,g j s=some (i,r)→∀ L,R j s=some L→R' i r=some L
theorem Tab.ok (tb:Tab)(R:Bij):RenOk tb.ver R (tb.re R):=fun _ _ _ _ e=>Tab.ver_some e
end
section
variable {P:Program} {g:Nat→Nat→Option (Nat × Nat)} {R R':Bij} (hg:RenOk g R R')
include hg
theorem RenOk.id {j i:Nat}(e:idG g j=some i):∀ L,R j 0=some L→R' i 0=some L:=by
 unfold idG at e
 split at e
 · cases e
 · rename_i i' r hv
   cases hb:Nat.beq r 0 with
   | false=>rw [hb] at e; cases e
   | true =>
    rw [hb] at e; cases e
    have:=Nat.eq_of_beq_eq_true hb
    subst this
    exact hg _ _ _ _ hv
mutual
theorem y0:∀ (n:Nat) (v v':AV) (x:Value),zfs g n v=some v'→VRel R v x→VRel R' v' x
 | 0,_,_,_,e,_=>by simp [zfs] at e
 | n+1,v,v',x,e,k=>by
  cases v <;> simp only [zfs] at e
  case ptr i r o =>
   split at e
   · cases e
   · rename_i j s hv; cases e
     obtain ⟨L,h1,h2⟩:=k
     exact ⟨L,hg _ _ _ _ hv L h1,h2⟩
  case slc i r o l c =>
   split at e
   · cases e
   · rename_i j s hv; cases e
     obtain ⟨L,h1,h2⟩:=k
     exact ⟨L,hg _ _ _ _ hv L h1,h2⟩
  case slg i r o l c =>
   split at e
   · cases e
   · rename_i j s hv; cases e
     obtain ⟨L,a,h1,h2⟩:=k
     exact ⟨L,a,hg _ _ _ _ hv L h1,h2⟩
  case mp i =>
   split at e
   · cases e
   · rename_i j hv; cases e
     obtain ⟨L,h1,h2⟩:=k
     exact ⟨L,hg.id hv L h1,h2⟩
  case yld i =>
   split at e
   · cases e
   · rename_i j hv; cases e
     obtain ⟨L,h1,h2⟩:=k
     exact ⟨L,hg.id hv L h1,h2⟩
  case fn f a b =>
   split at e
   · rename_i a' b' ha hb
     cases e
     obtain ⟨h0,p,q,h1,h2,h3⟩:=k
     exact ⟨h0,p,q,h1,qz n _ _ _ ha h2,qz n _ _ _ hb h3⟩
   · cases e
  case ifc t y =>
   split at e
   · cases e
   · rename_i y' hy; cases e
     obtain ⟨z,h1,h2⟩:=k
     exact ⟨z,h1,y0 n _ _ _ hy h2⟩
  case agg l =>
   split at e
   · cases e
   · rename_i y' hy; cases e
     obtain ⟨z,h1,h2⟩:=k
     exact ⟨z,h1,qz n _ _ _ hy h2⟩
  case tup l =>
   split at e
   · cases e
   · rename_i y' hy; cases e
     obtain ⟨z,h1,h2⟩:=k
     exact ⟨z,h1,qz n _ _ _ hy h2⟩
  all_goals (cases e; exact k)
theorem qz:∀ (n:Nat) (l l':List AV) (x:List Value),ziG g n l=some l'→VRels R l x→VRels R' l' x
 | 0,_,_,_,e,_=>by simp [ziG] at e
 | n+1,l,l',x,e,k=>by
  have _:=hg
  cases l with
  | nil=>simp only [ziG] at e; cases e; exact k
  | cons v r =>
   simp only [ziG] at e
   split at e
   · cases e
   · rename_i v' hv
     split at e
     · cases e
     · rename_i r' hr
       cases e
       obtain ⟨y,ys,h1,h2,h3⟩:=k
       exact ⟨y,ys,h1,y0 n _ _ _ hv h2,qz n _ _ _ hr h3⟩
end
omit hg in
theorem zjD {α:Type}(l:T α)(v:Option α)(r:T α):zlP (.node l v r)=zlP l++zlP r:=rfl
omit hg in
theorem zdr:∀ {t t':T AV},zmY g t=some t'→(∀ f∈zlP t,kj f)→∀ u v',t'.get u=some v'→∃ v,t.get u=some v∧(zfs g 99 v=some v'∨v'=v∧vr 99 v=true)
 | .leaf,t',e,_,u,v',gg=>by cases e; cases gg
 | .fn f,t',e,hp,u,v',gg=>by cases e; exact ⟨v',gg,.inr ⟨rfl,hp f (by simp [zlP]) u v' gg⟩⟩
 | .node l v r,t',e,hp,u,v',gg=>by
  change zf8 g v (zmY g l) (zmY g r)=some t' at e
  unfold zf8 at e
  rw [zjD] at hp
  split at e
  · cases e
  · rename_i l' hl
    split at e
    · cases e
    · rename_i r' hr
      have step:∀ {w w':Option AV},t'=.node l' w' r'→(∀ x,w'=some x→∃ y,w=some y∧zfs g 99 y=some x)→v=w→∃ v,(T.node l w r).get u=some v∧(zfs g 99 v=some v'∨v'=v∧vr 99 v=true):=by
       intro w w' ht hw _
       subst ht
       rw [T.get_node] at gg ⊢
       split at gg
       · obtain ⟨y,h1,h2⟩:=hw v' gg
         subst h1
         exact ⟨y,by rw [if_pos (by assumption)],.inl h2⟩
       · rename_i h0
         rw [if_neg h0]
         split at gg
         · rename_i h1
           rw [if_pos h1]
           exact zdr hl (fun f hf=>hp f (List.mem_append_left _ hf)) _ v' gg
         · rename_i h1
           rw [if_neg h1]
           exact zdr hr (fun f hf=>hp f (List.mem_append_right _ hf)) _ v' gg
      split at e
      · cases e
        exact step rfl (fun x hx=>by cases hx) rfl
      · rename_i y
        split at e
        · cases e
        · rename_i y' hy
          cases e
          exact step rfl (fun x hx=>by cases hx; exact ⟨y,rfl,hy⟩) rfl
theorem zgA {t t':T AV}(e:zmY g t=some t')(hp:∀ f∈zlP t,kj f){u:Nat}{v':AV}(g:t'.get u=some v'):∃ v,t.get u=some v∧∀ x,VRel R v x→VRel R' v' x:=by
 obtain ⟨v,h1,h2⟩:=zdr e hp u v' g
 refine ⟨v,h1,fun x k=>?_⟩
 rcases h2 with h2 | ⟨rfl,h2⟩
 · exact y0 hg 99 _ _ _ h2 k
 · exact ve 99 _ _ h2 k
omit hg in
theorem zd9 {t:T AV}:∀ {us:List Nat} {acc t':T AV},zjG g t us acc=some t'→(∀ u v',acc.get u=some v'→∃ v,t.get u=some v∧zfs g 99 v=some v')→∀ u v',t'.get u=some v'→∃ v,t.get u=some v∧zfs g 99 v=some v'
 | [],acc,t',e,h=>by cases e; exact h
 | u0::r,acc,t',e,h=>by
  unfold zjG at e
  split at e
  · cases e
  · rename_i v0 h0
    split at e
    · cases e
    · rename_i v1 h1
      rw [T.seq_eq] at e
      refine zd9 e fun u v' g=>?_
      rw [T.get_set] at g
      split at g
      · rename_i hu
        cases g
        rw [hu]
        exact ⟨v0,h0,h1⟩
      · exact h u v' g
omit hg in
theorem wZ {α β γ:Type}{f:α→Option β}{r:α→γ→Prop}{r':β→γ→Prop}(h:∀ a b c,f a=some b→r a c→r' b c):∀ {l:List α} {l':List β} {m:List γ},zjM f l=some l'→All2 r l m→All2 r' l' m
 | [],_,_,e,k=>by cases e; exact k
 | a::l,l',m,e,k=>by
  unfold zjM at e
  split at e
  · cases e
  · rename_i b hb
    split at e
    · cases e
    · rename_i r0 hr0
      cases e
      obtain ⟨c,cs,h1,h2,h3⟩:=k
      exact ⟨c,cs,h1,h _ _ _ hb h2,wZ h hr0 h3⟩
theorem zhB {t t':ATgt}{x:Target}(e:zgo g t=some t')(k:TgtRel R t x):TgtRel R' t' x:=by
 cases t with
 | fn f c =>
  simp only [zgo] at e
  split at e
  · cases e
  · rename_i c' hc
    cases e
    obtain ⟨h0,l,h1,h2⟩:=k
    exact ⟨h0,l,h1,qz hg 99 _ _ _ hc h2⟩
 | nil=>cases e; exact k
 | collected i =>
  simp only [zgo] at e
  split at e
  · cases e
  · rename_i j hj
    cases e
    obtain ⟨L,h1,h2⟩:=k
    exact ⟨L,hg.id hj L h1,h2⟩
theorem zco {d d':ADef}{x:Deferred}(e:zgB g d=some d')(k:DefRel R d x):DefRel R' d' x:=by
 unfold zgB at e
 split at e
 · cases e
 · rename_i t ht
   split at e
   · cases e
   · rename_i a ha
     cases e
     exact ⟨zhB hg ht k.1,qz hg 99 _ _ _ ha k.2⟩
theorem zhE {d d':AEntry}{x:MapEntry}(e:zjN g d=some d')(k:zkj R d x):zkj R' d' x:=by
 unfold zjN at e
 split at e
 · cases e
 · rename_i t ht
   split at e
   · cases e
   · rename_i a ha
     cases e
     exact ⟨y0 hg 99 _ _ _ ht k.1,y0 hg 99 _ _ _ ha k.2.1,k.2.2⟩
theorem zgc {d d':AItem}{x:Item}(e:jG g d=some d')(k:ItemRel R d x):ItemRel R' d' x:=by
 cases d <;> simp only [jG] at e
 case inRange i =>
  split at e
  · cases e
  · rename_i j hj
    cases e
    obtain ⟨L,h1,h2⟩:=k
    exact ⟨L,hg.id hj L h1,h2⟩
 case endRange i =>
  split at e
  · cases e
  · rename_i j hj
    cases e
    obtain ⟨L,h1,h2⟩:=k
    exact ⟨L,hg.id hj L h1,h2⟩
 case drw=>cases e
 all_goals (cases e; exact k)
theorem zf7 {d d':AMode}{x:FrameMode}(e:zd3 g d=some d')(k:ModeRel R d x):ModeRel R' d' x:=by
 cases d <;> simp only [zd3] at e
 case panicking c =>
  split at e
  · cases e
  · rename_i c' hc
    cases e
    obtain ⟨l,h1,h2⟩:=k
    refine ⟨l,h1,wZ (fun a b z hab hz=>?_) hc h2⟩
    split at hab
    · cases hab
    · rename_i v hv
      cases hab
      exact ⟨y0 hg 99 _ _ _ hv hz.1,hz.2⟩
 all_goals (cases e; exact k)
theorem ze8 {d d':Option Nat}{x:Option Nat}(e:zd0 g d=some d')(k:RoundRel R d x):RoundRel R' d' x:=by
 cases d <;> simp only [zd0] at e
 · cases e; exact k
 · split at e
   · cases e
   · rename_i j hj
     cases e
     obtain ⟨L,h1,h2⟩:=k
     exact ⟨L,hg.id hj L h1,h2⟩
theorem ki {t t':T AV}{us:List Nat}{a:Array Value}(e:zjG g t us .leaf=some t')(k:Slots R t a):Slots R' t' a:=fun u v' g=>by
 obtain ⟨v,h1,h2⟩:=zd9 e (fun u v' g=>by cases g) u v' g
 obtain ⟨x,h3,h4⟩:=k u v h1
 exact ⟨x,h3,y0 hg 99 _ _ _ h2 h4⟩
omit hg in
theorem jS:∀ {l l':List AItem},zjM (jG g) l=some l'→∀ it∈l,∀ a b c,it≠.drw a b c
 | [],_,_,_,h=>absurd h List.not_mem_nil
 | a::l,l',e,it,hm=>by
  unfold zjM at e
  split at e
  · cases e
  · rename_i b hb
    split at e
    · cases e
    · rename_i r0 hr0
      rcases List.mem_cons.1 hm with h | h
      · subst h
        intro a b c h
        subst h; cases hb
      · exact jS hr0 it h
omit hg in
theorem zdh {d d':AItem}(e:jG g d=some d'):∀ a b c,d'≠.drw a b c:=by
 intro a b c h
 subst h
 cases d <;> simp only [jG] at e
 case inRange i=>split at e <;> cases e
 case endRange i=>split at e <;> cases e
 all_goals cases e
theorem zaT {B B':Base}{d d':Nat}{sus sus':Bool}{h h':AHeap}{af af':AFrame}{fr:Frame}{us:List Nat}(e:zmj g us af=some af')(k:FrameRel P B R d sus h af fr):FrameRel P B' R' d' sus' h' af' fr:=by
 obtain ⟨fn,n,t,todo,ds,mode,kind,round⟩:=af
 simp only [zmj] at e
 split at e
 · cases e
 rename_i t' ht
 split at e
 · cases e
 rename_i todo' htodo
 split at e
 · cases e
 rename_i ds' hds
 split at e
 · cases e
 rename_i mode' hmode
 split at e
 · cases e
 rename_i round' hround
 cases e
 obtain ⟨k1,k2,k3,k4,k5,k6,k7,k8,k9⟩:=k
 refine ⟨k1,k2,k3,k4,ze8 hg hround k5,wZ (r:=DefRel R) (r':=DefRel R') (fun _ _ _=>zco hg) hds k6,zf7 hg hmode k7,k8,?_⟩
 have htr:∀ {a:Array Value} {ct:List Item},TodoRel P B R d sus h todo t ct a→TodoRel P B' R' d' sus' h' todo' t' ct a:=by
  intro a ct q
  have q':All2 (ItemRel R) todo ct∧Slots R t a:=by
   cases todo with
   | nil=>exact q
   | cons it kk =>
    cases it with
    | drw a b c=>exact absurd rfl (jS htodo _ List.mem_cons_self a b c)
    | _=>exact q
  have g:All2 (ItemRel R') todo' ct∧Slots R' t' a:=⟨wZ (r:=ItemRel R) (r':=ItemRel R') (fun _ _ _=>zgc hg) htodo q'.1,ki hg ht q'.2⟩
  cases todo' with
  | nil=>exact g
  | cons it kk =>
   cases it with
   | drw a b c =>
    exfalso
    cases todo with
    | nil=>cases htodo
    | cons i0 k0 =>
     unfold zjM at htodo
     split at htodo
     · cases htodo
     · rename_i b0 hb0
       split at htodo
       · cases htodo
       · cases htodo
         exact zdh hb0 a b c rfl
   | _=>exact g
 cases mode with
 | run=>cases hmode; exact htr k9
 | returning=>cases hmode; exact ki hg ht k9
 | panicking c =>
  simp only [zd3] at hmode
  split at hmode
  · cases hmode
  · cases hmode; exact ki hg ht k9
theorem zeJ {B B':Base}{h h':AHeap}:∀ {uss:List (List Nat)} {as as':List AFrame} {fs:List Frame},zjO g uss as=some as'→StackRel P B R h as fs→StackRel P B' R' h' as' fs∧as'.length=as.length
 | [],[],_,_,e,k=>by cases e; exact ⟨k,rfl⟩
 | [],_::_,_,_,e,_=>by cases e
 | _::_,[],_,_,e,_=>by cases e
 | us::uss,a::as,as',fs,e,⟨f,r,e1,k1,k2⟩=>by
  simp only [zjO] at e
  split at e
  · cases e
  · rename_i a' ha
    split at e
    · cases e
    · rename_i r' hr
      cases e
      obtain ⟨g1,g2⟩:=zeJ (B':=B') (h':=h') hr k2
      exact ⟨⟨f,r,e1,by rw [g2]; exact zaT hg ha k1,g1⟩,by simp [g2]⟩
theorem zdA {w:World}{i j:Nat}{t:Option Nat}{o o':AObj}(hre:t=none→∀ r,R' i r=R j r)(hve:∀ t0,t=some t0→∀ r,R' i r=if r=0 then R j t0 else none)(e:zft g t o=some o')(hp:∀ f∈zns o,kj f)(k:ObjRel P R w j o):ObjRel P R' w i o':=by
 cases o with
 | cells c n el lo hi' nv fz sg ex =>
  simp only [zft] at e
  split at e
  · cases e
  · rename_i c' hc
    obtain ⟨a1,a2,a3,a4,a5⟩:=k
    have hv:∀ {e L},VerRel P R w c el fz sg e L→VerRel P R' w c' el fz sg e L:=by
     intro e L ⟨cs,a,b,h1,h2,h3,h4,h5⟩
     refine ⟨cs,a,b,h1,h2,h3,h4,fun q v g1 g2 g3=>?_⟩
     obtain ⟨v0,q1,q2⟩:=zgA hg hc hp g3
     obtain ⟨x,q3,q4⟩:=h5 q v0 g1 g2 q1
     exact ⟨x,q3,q2 x q4⟩
    split at e
    · cases e
      refine ⟨a1,a2,fun r hr=>by rw [hre rfl]; exact a3 r hr,fun r e b1 b2 b3=>?_,a5⟩
      obtain ⟨L,h1,h2⟩:=a4 r e b1 b2 b3
      exact ⟨L,by rw [hre rfl]; exact h1,hv h2⟩
    · rename_i t0
      cases hb:(Nat.beq t0 hi'&&Nat.ble lo hi') with
      | false=>rw [hb] at e; cases e
      | true =>
       rw [hb] at e; cases e
       rw [Bool.and_eq_true] at hb
       have ht:=Nat.eq_of_beq_eq_true hb.1
       subst ht
       refine ⟨Nat.le_refl _,by omega,fun r hr=>?_,fun r e b1 b2 b3=>?_,fun r e b1 b2 b3=>?_⟩
       · rw [hve _ rfl,if_neg (by omega)]
       · obtain rfl:r=0:=by omega
         simp only [zm,if_true,Option.some.injEq] at b3
         subst b3
         obtain ⟨L,h1,h2⟩:=a4 t0 n a1 (Nat.le_refl _) (by simp [zm])
         exact ⟨L,by rw [hve _ rfl,if_pos rfl]; exact h1,hv h2⟩
       · obtain rfl:r=0:=by omega
         simp only [zm,if_true,Option.some.injEq] at b3
         omega
 | map es clock =>
  simp only [zft] at e
  split at e
  · cases e
  · split at e
    · cases e
    · rename_i es' hes
      cases e
      obtain ⟨L,es0,h1,h2,h3⟩:=k
      exact ⟨L,es0,by rw [hre rfl]; exact h1,h2,wZ (r:=zkj R) (r':=zkj R') (fun _ _ _=>zhE hg) hes h3⟩
 | iter s p =>
  simp only [zft] at e
  split at e
  · cases e
  · cases e
    obtain ⟨L,h1,h2⟩:=k
    exact ⟨L,by rw [hre rfl]; exact h1,h2⟩
 | ro c lo n =>
  simp only [zft] at e
  split at e
  · cases e
  · cases e
    obtain ⟨L,cs,el,fz,h1,h2,h3,h4,h5⟩:=k
    exact ⟨L,cs,el,fz,by rw [hre rfl]; exact h1,h2,h3,h4,h5⟩
 | dfrd ds =>
  simp only [zft] at e
  split at e
  · cases e
  · obtain ⟨L,ds',h1,h2,h3⟩:=k
    cases ds with
    | none=>cases e; exact ⟨L,ds',by rw [hre rfl]; exact h1,h2,h3⟩
    | some ds =>
     simp only at e
     split at e
     · cases e
     · rename_i ds0 hds
       cases e
       obtain ⟨l,h4,h5⟩:=h3
       exact ⟨L,ds',by rw [hre rfl]; exact h1,h2,l,h4,wZ (r:=DefRel R) (r':=DefRel R') (fun _ _ _=>zco hg) hds h5⟩
 | loop lp =>
  obtain ⟨st,pe,fn,n,tmps,ps,asg,body,df⟩:=lp
  simp only [zft] at e
  split at e
  · cases e
  · split at e
    · cases e
    · rename_i tmps' ht
      split at e
      · cases e
      · rename_i df' hdf
        cases e
        obtain ⟨L,lp',h1,h2,h3⟩:=k
        refine ⟨L,lp',by rw [hre rfl]; exact h1,h2,h3.state,h3.pending,h3.fn,⟨h3.tmps.1,fun u v' g=>?_⟩,h3.params,h3.assign,h3.body,?_⟩
        · obtain ⟨v,q1,q2⟩:=zgA hg ht hp g
          obtain ⟨x,q3,q4⟩:=h3.tmps.2 u v q1
          exact ⟨x,q3,q2 x q4⟩
        · obtain ⟨M,q1,q2⟩:=h3.defers
          exact ⟨M,hg.id hdf M q1,q2⟩
end
section
variable {P:Program} {tb:Tab} {R:Bij}
theorem ke {objs:T AObj}{n:Nat}:∀ {l:Tab} {i:Nat} {acc objs':T AObj},kn tb objs l i acc=some objs'→(∀ q o',acc.get q=some o'→∃ j t o,tb[q]?=some (j,t)∧objs.get j=some o∧zft tb.ver t o=some o') →
 (∀ q,l[q]?=tb[i+q]?)→∀ q o',objs'.get q=some o'→∃ j t o,tb[q]?=some (j,t)∧objs.get j=some o∧zft tb.ver t o=some o'
 | [],i,acc,objs',e,h,_=>by cases e; exact h
 | (j,t)::r,i,acc,objs',e,h,hl=>by
  unfold kn at e
  split at e
  · cases e
  · rename_i o ho
    split at e
    · cases e
    · rename_i o1 ho1
      rw [T.seq_eq] at e
      refine ke (n:=n) e (fun q o' g=>?_) (fun q=>?_)
      · rw [T.get_set] at g
        split at g
        · rename_i hq
          cases g
          subst hq
          exact ⟨j,t,o,by have:=hl 0; simpa using this.symm,ho,ho1⟩
        · exact h q o' g
      · have:=hl (q+1)
        rw [List.getElem?_cons_succ] at this
        rw [this]; congr 1; omega
theorem zdf {objs:T AObj}:∀ {l:Tab} {i j:Nat} {t:Option Nat} {o:AObj} {f:Nat→Option AV},(∀ (q j:Nat) (t:Option Nat),l[q]?=some (j,t)→(objs.get j).isSome=true)→l[i]?=some (j,t)→objs.get j=some o→f∈zns o→f∈zmJ objs l
 | [],_,_,_,_,_,_,e,_,_=>by simp at e
 | (j0,t0)::r,i,j,t,o,f,hs,e,ho,hf=>by
  have h0:=hs 0 j0 t0 (by simp)
  unfold zmJ
  cases hj:objs.get j0 with
  | none=>rw [hj] at h0; cases h0
  | some o0 =>
   simp only []
   cases i with
   | zero =>
    simp at e
    obtain ⟨rfl,rfl⟩:=e
    rw [hj] at ho; cases ho
    exact List.mem_append_left _ hf
   | succ i =>
    exact List.mem_append_right _ (zdf (fun q j t h=>hs (q+1) j t (by simpa using h)) (by simpa using e) ho hf)
theorem wi {objs:T AObj}:∀ {l:Tab} {i:Nat} {acc objs':T AObj},kn tb objs l i acc=some objs'→∀ (q j:Nat) (t:Option Nat),l[q]?=some (j,t)→(objs.get j).isSome=true
 | [],_,_,_,_,_,_,_,h=>by simp at h
 | (j0,t0)::r,i,acc,objs',e,q,j,t,h=>by
  unfold kn at e
  split at e
  · cases e
  · rename_i o ho
    split at e
    · cases e
    · rw [T.seq_eq] at e
      cases q with
      | zero=>simp at h; obtain ⟨rfl,rfl⟩:=h; rw [ho]; rfl
      | succ q=>exact wi e q j t (by simpa using h)
theorem kH {keep:Nat}{objs:T AObj}:∀ {ids:List Nat} {i q j:Nat} {t:Option Nat},(jW keep objs ids i)[q]?=some (j,t)→ids[q]?=some j∧(i+q<keep→t=none)
 | [],_,_,_,_,h=>by simp [jW] at h
 | j0::r,i,q,j,t,h=>by
  unfold jW at h
  cases q with
  | zero =>
   simp only [List.getElem?_cons_zero,Option.some.injEq,Prod.mk.injEq] at h
   obtain ⟨rfl,h⟩:=h
   refine ⟨by simp,fun hk=>?_⟩
   have:Nat.blt i keep=true:=by rw [Nat.blt_eq]; omega
   rw [this] at h
   exact h.symm
  | succ q =>
   rw [List.getElem?_cons_succ] at h
   obtain ⟨g1,g2⟩:=kH h
   exact ⟨by simpa using g1,fun hk=>g2 (by omega)⟩
theorem yF:∀ {ids:List Nat},jF ids=true→∀ {p q j:Nat},ids[p]?=some j→ids[q]?=some j→p=q
 | [],_,_,_,_,h,_=>by simp at h
 | i::r,hn,p,q,j,hp,hq=>by
  simp only [jF,Bool.and_eq_true,Bool.not_eq_true',List.any_eq_false] at hn
  have hno:∀ k,r[k]?=some i→False:=fun k hk=>hn.1 i (List.mem_of_getElem? hk) (Nat.beq_refl i)
  cases p with
  | zero =>
   cases q with
   | zero=>rfl
   | succ q=>simp at hp hq; subst hp; exact absurd (hno q hq) id
  | succ p =>
   cases q with
   | zero=>simp at hp hq; subst hq; exact absurd (hno p hp) id
   | succ q=>simp at hp hq; rw [yF hn.2 hp hq]
theorem zeW:∀ {ids:List Nat} {k i:Nat},zhW ids k i=true→∀ q,q<k→ids[q]?=some (i+q)
 | _,0,_,_,q,hq=>absurd hq (Nat.not_lt_zero _)
 | [],_+1,_,h,_,_=>by cases h
 | j::r,k+1,i,h,q,hq=>by
  simp only [zhW,Bool.and_eq_true] at h
  cases q with
  | zero=>simp; exact Nat.eq_of_beq_eq_true h.1
  | succ q =>
   rw [List.getElem?_cons_succ,zeW h.2 q (by omega)]
   congr 1; omega
theorem zak {keep:Nat}{objs:T AObj}:∀ {ids:List Nat} {i:Nat},(jW keep objs ids i).length=ids.length
 | [],_=>rfl
 | _::r,i=>by simp [jW,zak (ids:=r)]
theorem yU {K:Prop}:∀ {l:List (Nat→Option AV)},kM l K→(∀ f∈l,kj f)∧K
 | [],h=>⟨fun _ hf=>absurd hf List.not_mem_nil,h⟩
 | f::r,h=>by
  obtain ⟨g1,g2⟩:=yU (l:=r) h.2
  exact ⟨fun f' hf=>by
   rcases List.mem_cons.1 hf with e | e
   · rw [e]; exact h.1
   · exact g1 f' e,g2⟩
noncomputable def Base.re (B:Base) (tb:Tab) (h:AHeap):Base:={ B with
 pend:=fun i=>match tb[i]? with
  | none=>none
  | some (j,_)=>match B.pend j with
   | none=>none
   | some _=>h.get i
 ro:=fun i=>∃ j t,tb[i]?=some (j,t)∧B.ro j }
theorem Sim.can {w0:Env}{base:List Frame}{keep:Nat}{ids us:List Nat}{uss:List (List Nat)}{m m':AM}{fr:Frame}{cs:List Frame}{w:World}(hk:∀ i r L,w0.pin i r=some L→i<keep)
 (e:zm2 keep ids us uss m=some m') (hp:∀ f∈zmJ m.heap.objs (jW keep m.heap.objs ids 0),kj f) (k:Sim P w0 base m fr cs w):Sim P w0 base m' fr cs w:=by
 obtain ⟨top,rest,h⟩:=m
 obtain ⟨B,R,fs,hc,hb,kh,ho,kt,kb⟩:=k
 simp only [zm2] at e
 cases hn:(jF ids&&zhW ids keep 0) with
 | false=>rw [hn] at e; cases e
 | true =>
  rw [hn] at e
  rw [Bool.and_eq_true] at hn
  simp only [cond_true] at e
  generalize htb:jW keep h.objs ids 0=tb at e hp
  split at e
  · cases e
  rename_i h' hh
  split at e
  · cases e
  rename_i top' htop
  split at e
  · cases e
  rename_i rest' hrest
  cases e
  obtain ⟨g1,g2⟩:=zeJ (tb.ok R) (B':=B.re tb h') (h':=h') hrest kb
  refine ⟨B.re tb h',tb.re R,fs,hc,hb,?_,ho,?_,g1⟩
  · obtain ⟨objs,next,glob⟩:=h
    simp only [j9] at hh
    cases hlt:(tb.all fun p=>Nat.blt p.1 next) with
    | false=>rw [hlt] at hh; cases hh
    | true =>
     rw [hlt] at hh
     simp only [cond_true] at hh
     split at hh
     · cases hh
     rename_i objs' hobjs
     cases hh
     have hget:=ke (n:=0) hobjs (fun q o' g=>by cases g) (fun q=>by rw [Nat.zero_add])
     have hsome:=wi hobjs
     have htlt:∀ {q j:Nat} {t:Option Nat},tb[q]?=some (j,t)→q<tb.length:=fun h=>(List.getElem?_eq_some_iff.1 h).1
     have hre:∀ {i r L},tb.re R i r=some L→∃ j t s,tb[i]?=some (j,t)∧R j s=some L∧(t=none→s=r)∧(∀ t0,t=some t0→s=t0∧r=0):=by
      intro i r L e
      unfold Tab.re at e
      split at e
      · cases e
      · rename_i j hi; exact ⟨j,none,r,hi,e,(fun _=>rfl),(fun _ h=>by cases h)⟩
      · rename_i j t0 hi
        split at e
        · rename_i hr; exact ⟨j,some t0,t0,hi,e,(fun h=>by cases h),(fun _ h=>by cases h; exact ⟨rfl,hr⟩)⟩
        · cases e
     have hinj:∀ {p q j:Nat} {t t':Option Nat},tb[p]?=some (j,t)→tb[q]?=some (j,t')→p=q:=by
      intro p q j t t' h1 h2
      rw [← htb] at h1 h2
      exact yF hn.1 (kH h1).1 (kH h2).1
     refine ⟨fun i hi r=>?_,fun i o' eo hpe=>?_,fun i o' e=>?_,fun i r L e=>?_,fun i hi=>?_,fun i hi=>?_,fun i r L hi e=>?_,kh.low,fun i r L e=>?_,fun i r i' r' L L' e e' hbl hor=>?_,fun i r r' L L' e e' hbl=>?_,fun g c e=>?_⟩
     · have:tb[i]?=none:=List.getElem?_eq_none hi
       simp only [Tab.re,this]
     · obtain ⟨j,t,o,q1,q2,q3⟩:=hget i o' eo
       have hpend:B.pend j=none:=by
        simp only [Base.re,q1] at hpe
        cases hb:B.pend j with
        | none=>rfl
        | some o0=>rw [hb] at hpe; simp only at hpe; rw [hpe] at eo; cases eo
       exact zdA (tb.ok R) (fun ht r=>by subst ht; simp only [Tab.re,q1]) (fun t0 ht r=>by subst ht; simp only [Tab.re,q1]) q3 (fun f hf=>hp f (zdf hsome q1 q2 hf)) (kh.obj j o q2 hpend)
     · simp only [Base.re] at e
       split at e
       · cases e
       · rename_i j t hj
         split at e
         · cases e
         · rename_i o0 hb0
           refine ⟨htlt hj,e,fun r=>?_⟩
           have hno:=(kh.pend j o0 hb0).2.2
           cases hr:tb.re R i r with
           | none=>rfl
           | some L =>
            obtain ⟨j',t',s,q1,q2,_,_⟩:=hre hr
            rw [hj] at q1; cases q1
            rw [hno s] at q2; cases q2
     · obtain ⟨j,t,s,q1,q2,q3,q4⟩:=hre e
       exact ⟨(kh.place j s L q2).1.elim .inl fun hr=>.inr ⟨j,t,q1,hr⟩,(kh.place j s L q2).2⟩
     · obtain ⟨j,t,q1,q2⟩:=hi
       refine ⟨htlt q1,fun o' eo=>?_⟩
       obtain ⟨j',t',o,p1,p2,p3⟩:=hget i o' eo
       rw [q1] at p1; cases p1
       have:=(kh.rd j q2).2 o p2
       cases o with
       | ro c lo n =>
        cases t with
        | none=>simp only [zft] at p3; cases p3; rfl
        | some t0=>simp only [zft] at p3; cases p3
       | _=>cases this
     · obtain ⟨j,t,q1,q2⟩:=hi
       simp only [Base.re,q1,kh.rp j q2]
     · obtain ⟨j,t,s,q1,q2,q3,q4⟩:=hre e
       obtain ⟨j',t',p1,p2⟩:=hi
       rw [q1] at p1; cases p1
       exact kh.rol j s L p2 q2
     · have hik:=hk i r L (by have e':B.env.pin i r=some L:=e; rw [hb] at e'; exact e')
       have hst:=zeW hn.2 i hik
       have hlen:i<tb.length:=by
        rw [← htb,zak]; exact (List.getElem?_eq_some_iff.1 hst).1
       obtain ⟨⟨j,t⟩,hjt⟩:∃ p,tb[i]?=some p:=⟨_,List.getElem?_eq_getElem hlen⟩
       have:=hjt
       rw [← htb] at this
       obtain ⟨a1,a2⟩:=kH this
       rw [a1] at hst
       simp only [Nat.zero_add,Option.some.injEq] at hst a2
       have ht:=a2 hik
       subst hst ht
       simp only [Tab.re,hjt]
       exact kh.pin _ r L e
     · obtain ⟨j,t,s,q1,q2,_,_⟩:=hre e
       obtain ⟨j',t',s',q1',q2',_,_⟩:=hre e'
       have:=kh.apart j s j' s' L L' q2 q2' hbl (hor.imp (fun hn hr=>hn ⟨j,t,q1,hr⟩) (fun hn hr=>hn ⟨j',t',q1',hr⟩))
       subst this
       exact hinj q1 q1'
     · obtain ⟨j,t,s,q1,q2,_,_⟩:=hre e
       obtain ⟨j',t',s',q1',q2',_,_⟩:=hre e'
       rw [q1] at q1'; cases q1'
       exact kh.same j s s' L L' q2 q2' hbl
     · exact kh.glob g c e
  · show FrameRel P _ _ rest'.length false _ top' fr
    rw [g2]
    exact zaT (tb.ok R) htop kt
end
end Go.Proofs.Ytehelionjafnkaa.Ev
end
section
namespace Go.Proofs.Ytehelionjafnkaa.Ev
open Go
def Goal (P:Program) (keep:Nat) (f0:FuncId) (Q:AV→AHeap→Prop) (m:AM):Prop :=
 ∀ (w0:Env) (base:List Frame) (fr:Frame) (cs:List Frame) (w:World),(∀ i r L,w0.pin i r=some L→i<keep)→Sim P w0 base m fr cs w →
  ∃ (fr':Frame) (w':World) (B:Base) (R:Bij) (v:AV) (v':Value) (h':AHeap),Steps P (lone fr cs w) (lone fr' base w')∧fr'.leaving P w' (.returned v')∧fr'.fn=f0 ∧
   VRel R v v'∧B.env=w0∧HRel P B R h' w'∧Old0 w0.toWorld w'∧Q v h'
noncomputable section
variable (P:Program)
mutual
def okD:Nat→AV→Bool
 | 0,_=>false
 | n+1,v=>match v with
  | .fn _ a b=>zmh n a&&zmh n b
  | .ifc _ v=>okD n v
  | .agg l | .tup l=>zmh n l
  | _=>true
def zmh:Nat→List AV→Bool
 | 0,_=>false
 | n+1,l=>match l with
  | []=>true
  | v::r=>okD n v&&zmh n r
end
def zkJ (b:Bool) (K:Prop):Prop:=match b with
 | true=>K
 | false=>False
def atP (p:AV) (size:Nat) (i:Int) (len:Nat):Option (AV × Prop):=match p with
 | .ptr id ver off=>some (.ptr id ver (off+i.toNat*size),0≤i∧i<len)
 | .gp g off=>some (.gp g (off+i.toNat*size),0≤i∧i<len)
 | _=>none
def zl2 (size:Nat) (x:AV) (i:Int):Option (AV × Prop):=match x with
 | .slc id ver off len _=>atP (.ptr id ver off) size i len
 | .slg id ver off len _=>atP (.ptr id ver off) size i len
 | _=>none
def jU (t:TypeId) (x ix:AV):Option (AV × Prop):=match ix with
 | .int _ i=>match P.underlying t with
  | some (.array len el)=>match xW P el with
   | none=>none
   | some s=>atP x s i len
  | some (.slice el)=>match xW P el with
   | none=>none
   | some s=>zl2 s x i
  | _=>none
 | _=>none
def zlz (t:TypeId):Bool:=match zkr P t with
 | some b=>!b
 | none=>false
def ziT (t:TypeId) (x ix:AV):Option (AV × Prop):=match ix with
 | .int _ i=>match P.underlying t with
  | some .string=>match x with
   | .str s=>some (.int .u8 (s.getD i.toNat 0).toNat,0≤i∧i<s.length)
   | _=>none
  | some (.array len el)=>match x with
   | .agg cs=>match zlz P el with
    | false=>none
    | true=>match xW P el with
     | none=>none
     | some s=>some (cs.getD (i.toNat*s) xd,(0≤i∧i<len)∧i.toNat*s<cs.length)
   | _=>none
  | _=>none
 | _=>none
def yc (len cap:Nat) (lo hi mx:Option Int):Nat × Nat × Nat × Prop :=
 let m:Nat:=match mx with
  | none=>cap
  | some v=>v.toNat
 let mp:Prop:=match mx with
  | none=>True
  | some v=>0≤v∧v≤(cap:Int)
 let h:Nat:=match hi with
  | none=>len
  | some v=>v.toNat
 let hp:Prop:=match hi with
  | none=>match mx with
   | none=>mp
   | some _=>False
  | some v=>match mx with
   | none=>0≤v∧v≤(m:Int)
   | some _=>mp∧0≤v∧v≤(m:Int)
 match lo with
 | none=>(0,h,m,hp)
 | some v=>(v.toNat,h,m,match hi with
  | none=>match mx with
   | none=>0≤v∧v≤(h:Int)
   | some _=>False
  | some _=>hp∧0≤v∧v≤(h:Int))
def ziE (t:TypeId) (x:AV) (lo hi mx:Option Int):Option (AV × Prop):=match P.underlying t with
 | some .string=>match x with
  | .str s=>match mx with
   | some _=>none
   | none=>match yc s.length s.length lo hi none with
    | (l,h,_,p)=>some (.str ((s.drop l).take (h - l)),p)
  | _=>none
 | some (.slice el)=>match xW P el with
  | none=>none
  | some sz=>match x with
   | .nils len cap=>match yc len cap lo hi mx with
    | (l,h,m,p)=>some (.nils (h - l) (m - l),p)
   | .slc id ver off len cap=>match yc len cap lo hi mx with
    | (l,h,m,p)=>some (.slc id ver (if m=l then off else off+l*sz) (h - l) (m - l),p)
   | .slg id ver off len st=>match mx with
    | some _=>match len with
     | 0=>none
     | _+1=>match yc len len lo hi mx with
      | (l,h,m,p)=>some (.slc id ver (if m=l then off else off+l*sz) (h - l) (m - l),p)
    | none=>match yc len len lo hi none with
     | (l,h,_,p)=>some (.slg id ver (off+l*sz) (h - l) (st+l),p)
   | _=>none
 | _=>none
def binS (op:BinOp) (x y:AV):Option (AV × Prop):=match x with
 | .str a=>match y with
  | .str b=>match op with
   | .add=>some (.str (a++b),a.length+b.length<2 ^ 40)
   | _=>none
  | _=>none
 | .int k a=>match y with
  | .int k' b=>match op with
   | .quo=>if k=k' then some (.int k (k.wrap (a.tdiv b)),b≠0) else none
   | .rem=>if k=k' then some (.int k (a.tmod b),b≠0) else none
   | .shl=>some (.int k (k.wrap (a*2 ^ (min b.toNat k.bits))),0≤b)
   | .shr=>some (.int k (a.fdiv (2 ^ (min b.toNat k.bits))),0≤b)
   | _=>none
  | _=>none
 | _=>none
def zgJ (h:AHeap) (id ver off k:Nat):Option (List AV × Prop):=match h.get id with
 | some (.ro c lo n)=>bif Nat.beq ver 0 then match zF c off k with
  | none=>none
  | some l=>some (l,lo≤off∧off+k≤n) else none
 | some (.cells c n _ lo hi _ _ _ ex)=>match zm ex n hi ver with
  | none=>none
  | some e=>bif Nat.ble lo ver&&Nat.ble ver hi then match zF c off k with
   | none=>none
   | some l=>some (l,off+k≤e) else none
 | _=>none
def zlc (h:AHeap) (t:TypeId) (p:AV):Option (AV × Prop):=match p with
 | .ptr id ver off=>match zkr P t with
  | none=>none
  | some true=>match P.info? t with
   | none=>none
   | some i=>match zgJ h id ver off i.size with
    | none=>none
    | some (l,p)=>some (.agg l,p)
  | some false=>match zgJ h id ver off 1 with
   | some ([v],p)=>some (v,p)
   | _=>none
 | _=>none
def zfA (h:AHeap) (r:Option (AV × Prop)):Option (AR × Prop):=match r with
 | none=>none
 | some (v,p)=>some (.val v h,p)
def zki (ρ:Operand→Option AV) (x y:Operand) (f:AV→AV→Option (AR × Prop)):Option (AR × Prop):=match ρ x with
 | none=>none
 | some a=>match ρ y with
  | none=>none
  | some b=>f a b
def opS (ρ:Operand→Option AV) (h:AHeap) (o:Op):Option (AR × Prop):=match o with
 | .indexAddr t x ix=>zki ρ x ix fun a b=>zfA h (jU P t a b)
 | .index t x ix=>zki ρ x ix fun a b=>zfA h (ziT P t a b)
 | .binOp op _ x y _=>zki ρ x y fun a b=>zfA h (binS op a b)
 | .slice t x lo hi mx=>match ρ x with
  | none=>none
  | some v=>match qi ρ lo with
   | none=>none
   | some l=>match qi ρ hi with
    | none=>none
    | some hh=>match qi ρ mx with
     | none=>none
     | some m=>zfA h (ziE P t v l hh m)
 | .load t a=>match ρ a with
  | none=>none
  | some p=>zfA h (zlc P h t p)
 | _=>none
def znj (h:AHeap) (id:Nat):Bool:=match h.get id with
 | some (.ro ..)=>true
 | some (.cells (.fn _) ..)=>true
 | _=>false
def zi6 (h:AHeap) (t:TypeId) (p v:AV) (K:Prop):Prop:=match zlc P h t p with
 | none=>False
 | some (x,q)=>q∧x=v∧K
def zmm (ρ:Operand→Option AV) (h:AHeap) (o:Op) (v:AV) (K:Prop):Prop:=match o with
 | .load t a=>match ρ a with
  | some (.ptr id ver off)=>match znj h id with
   | true=>zi6 P h t (.ptr id ver off) v K
   | false=>vP P ρ h (.load t a)=some v∧K
  | _=>vP P ρ h (.load t a)=some v∧K
 | o=>vP P ρ h o=some v∧K
def zme (all:List Oper) (t:T AV) (h:AHeap) (o:Oper) (K:Prop):Prop:=match zB all t o.guard with
 | none=>False
 | some w=>match w with
  | false=>K
  | true=>match o.dst with
   | none=>(vP P (ev t) h o.op).isSome=true∧K
   | some d=>match t.get d with
    | none=>False
    | some v=>zmm P (ev t) h o.op v (zkJ (okD 300 v) K)
def zm1 (all:List Oper) (anc:Nat) (t:T AV) (h:AHeap):List Nat→Prop→Prop
 | [],K=>K
 | p::r,K=>match all[p]? with
  | none=>zm1 all anc t h r K
  | some o=>match yf P o.op&&!(anc.testBit p) with
   | false=>zm1 all anc t h r K
   | true=>zme P all t h o (zm1 all anc t h r K)
def zlB (fr:AFrame) (h:AHeap) (all:Array Oper) (i:Nat) (o:Oper) (l dn:List Nat) (k:List AItem) (t:Option (T AV)) (K:AFrame→Prop):Prop:=match t with
 | none=>False
 | some t=>match fr with
  | ⟨fn,n,_,_,ds,mode,kind,round⟩=>match yh P o || z8 o.op with
   | false=>K ⟨fn,n,t,.drw all l (i::dn)::k,ds,mode,kind,round⟩
   | true=>zm1 P all.toList (bif yh P o then (zC P all.toList).anc.getD i 0 else 0) t h dn (K ⟨fn,n,t,.drw all l (i::dn)::k,ds,mode,kind,round⟩)
def zd8 {α:Type} (o:Option α) (K:α→Prop):Prop:=match o with
 | none=>False
 | some a=>K a
def Fin (fr:AFrame) (h:AHeap) (v:AV) (K:AFrame→Prop):Prop:=match fr.todo with
 | .drw all (i::l) dn::k=>match all[i]? with
  | none=>False
  | some o=>zlB P fr h all i o l dn k (zic fr.tmps fr.n o.dst v) K
 | _=>zd8 (zJ P fr h v) K
def zkm [XT P] (fr:AFrame) (rest:List AFrame) (heap:AHeap) (r:AR) (K:AM→Prop):Prop:=match r with
 | .val v h=>Fin P fr h v fun fr=>K ⟨fr,rest,h⟩
 | .skip h=>Fin P fr h xd fun fr=>K ⟨fr,rest,h⟩
 | r=>zd8 (zh5 P fr rest heap r) K
def kG (fr:AFrame):Option (List Oper × Oper):=match fr.todo with
 | .ops all (o::_)::_=>some (all,o)
 | .drw all (i::_) _::_=>match all[i]? with
  | none=>none
  | some o=>some (all.toList,o)
 | _=>none
def Br (b:Bool) (m:AM) (K:AM→Prop):Prop:=match m with
 | ⟨fr,rest,h⟩=>match fr.mode with
  | .run=>match fr.todo with
   | .code (.cond c x y)::k=>match ev fr.tmps c with
    | some (.bool t)=>t=b∧K ⟨fr.withTodo (.code (bif b then x else y)::k),rest,h⟩
    | _=>False
   | _=>False
  | _=>False
def Know (u:Nat) (b:Bool) (m:AM) (K:AM→Prop):Prop:=match m with
 | ⟨⟨fn,n,t,todo,ds,mode,kind,round⟩,rest,h⟩=>match t.get u with
  | some (.bool c)=>c=b∧K ⟨⟨fn,n,t.set (some (.bool b)) u,todo,ds,mode,kind,round⟩,rest,h⟩
  | _=>False
def Slot (u:Nat) (v:AV) (m:AM) (K:AM→Prop):Prop:=match m with
 | ⟨⟨fn,n,t,todo,ds,mode,kind,round⟩,rest,h⟩=>match t.get u with
  | some x=>x=v∧K ⟨⟨fn,n,t.set (some v) u,todo,ds,mode,kind,round⟩,rest,h⟩
  | _=>False
def OpK [XT P] (m:AM) (K:AM→Prop):Prop:=match m with
 | ⟨fr,rest,h⟩=>match fr.mode with
  | .run=>match kG fr with
   | none=>False
   | some (all,o)=>match zB all fr.tmps o.guard with
    | some true=>match opS P (ev fr.tmps) h o.op with
     | none=>False
     | some (r,p)=>p∧zkm P fr rest h r K
    | _=>False
  | _=>False
def ResK [XT P] (r:AR) (m:AM) (K:AM→Prop):Prop:=match m with
 | ⟨fr,rest,h⟩=>match fr.mode with
  | .run=>match kG fr with
   | none=>False
   | some (all,o)=>match zB all fr.tmps o.guard with
    | some true=>opA P (ev fr.tmps) h o.op=some r∧zkm P fr rest h r K
    | _=>False
  | _=>False
def zlR [XT P] (m:AM) (K:AM→Prop):Prop:=match m with
 | ⟨fr,rest,h⟩=>match fr.mode with
  | .run=>match kG fr with
   | none=>False
   | some (all,o)=>match zB all fr.tmps o.guard with
    | some true=>zd8 (opA P (ev fr.tmps) h o.op) fun r=>zkm P fr rest h r K
    | _=>False
  | .returning=>match fr.defers with
   | []=>match fr.kind with
    | .normal=>match rest with
     | []=>False
     | c::r=>match c.mode with
      | .run=>zd8 (zma P fr h) fun v=>Fin P c h v fun c=>K ⟨c,r,h⟩
      | _=>False
    | _=>False
   | _::_=>False
  | _=>False
def zjl (us:List Nat) (Q:AV→Prop) (m:AM) (K:AM→Prop):Prop:=match m with
 | ⟨fr,rest,h⟩=>match rest with
  | []=>False
  | c::r=>match fr.kind with
   | .normal=>match c.mode with
    | .run=>match zm2 0 [] us [] ⟨fr,[],h⟩ with
     | none=>False
     | some m'=>Goal P 0 fr.fn (fun v _=>Q v∧vr 99 v=true) m'∧∀ v,Q v→Fin P c h v fun c=>K ⟨c,r,h⟩
    | _=>False
   | _=>False
def yO (f:FuncId) (args:List AV) (G:T (T AV)):AM:=match wP P f args .normal with
 | some a=>⟨a,[],⟨.leaf,0,G⟩⟩
 | none=>⟨⟨0,0,.leaf,[],[],.run,.normal,none⟩,[],⟨.leaf,0,G⟩⟩
def zmG (us:List Nat) (v:AV) (m:AM) (K:AM→Prop):Prop:=match m with
 | ⟨fr,rest,h⟩=>match rest with
  | []=>False
  | c::r=>match fr.kind with
   | .normal=>match c.mode with
    | .run=>match zm2 0 [] us [] ⟨fr,[],h⟩ with
     | none=>False
     | some m'=>zkJ (vr 99 v) (Goal P 0 fr.fn (fun x _=>x=v) m'∧Fin P c h v fun c=>K ⟨c,r,h⟩)
    | _=>False
   | _=>False
def zhN (t:T AV):List Nat→T AV→T AV
 | [],acc=>acc
 | u::r,acc=>(acc.set (t.get u) u).seq fun acc=>zhN t r acc
def zlZ (us:List Nat) (m:AM) (K:AM→Prop):Prop:=match m with
 | ⟨⟨fn,n,t,todo,ds,mode,kind,round⟩,rest,h⟩=>match todo with
  | .drw _ _ _::_=>False
  | todo=>K ⟨⟨fn,n,zhN t us .leaf,todo,ds,mode,kind,round⟩,rest,h⟩
def zna (f0:FuncId) (Q:AV→AHeap→Prop) (m:AM):Prop:=zd8 (zkC P f0 m) fun v=>Q v m.heap
end
section
variable {P:Program}
theorem xe {α:Type}{o:Option α}{K:α→Prop}(h:zd8 o K):∃ a,o=some a∧K a:=by
 unfold zd8 at h
 split at h
 · exact h.elim
 · exact ⟨_,rfl,h⟩
theorem T.set_same' {α:Type}:∀ {t:T α} {n:Nat} {v:α},t.get n=some v→t.set (some v) n=t
 | .leaf,_,_,e=>by cases e
 | .fn f,n,v,e=>by
  show T.fn (fun m=>bif Nat.beq m n then some v else f m)=_
  congr 1
  funext m
  cases hb:Nat.beq m n with
  | false=>rfl
  | true=>rw [Nat.eq_of_beq_eq_true hb]; exact e.symm
 | .node l x r,n,v,e=>by
  rw [T.get_node] at e
  show (bif Nat.beq n 0 then T.node l (some v) r else bif Nat.beq (Nat.mod n 2) 1 then T.seq (l.set (some v) (Nat.div n 2)) (fun l=>T.node l x r) else T.seq (r.set (some v) (Nat.sub (Nat.div n 2) 1)) (fun r=>T.node l x r))=_
  rw [T.seq_eq,T.seq_eq]
  split at e
  · rename_i h0
    subst h0; subst e; rfl
  · rename_i h0
    have e0:Nat.beq n 0=false:=by cases n <;> simp_all [Nat.beq]
    rw [e0]
    split at e
    · rename_i h1
      have e1:Nat.beq (Nat.mod n 2) 1=true:=by rw [show Nat.mod n 2=1 from h1]; rfl
      rw [e1]
      show T.node (l.set (some v) (n / 2)) x r=_
      rw [T.set_same' e]
    · rename_i h1
      have e1:Nat.beq (Nat.mod n 2) 1=false:=by
       rw [show Nat.mod n 2=0 from by show n % 2=0; omega]; rfl
      rw [e1]
      show T.node l x (r.set (some v) (n / 2 - 1))=_
      rw [T.set_same' e]
mutual
theorem zaE:∀ (n:Nat) (v:AV),okD n v=true→qJ n v v=true
 | 0,_,h=>by simp [okD] at h
 | n+1,v,h=>by
  cases v <;> simp only [okD,Bool.and_eq_true] at h <;> simp only [qJ,Bool.and_eq_true,decide_eq_true_eq,Nat.beq_refl,and_self,beq_self_eq_true]
  case fn f a b=>exact ⟨⟨trivial,wQ n _ h.1⟩,wQ n _ h.2⟩
  case ifc t v=>exact ⟨trivial,zaE n _ h⟩
  case agg l=>exact wQ n _ h
  case tup l=>exact wQ n _ h
theorem wQ:∀ (n:Nat) (v:List AV),zmh n v=true→vC n v v=true
 | 0,_,h=>by simp [zmh] at h
 | n+1,l,h=>by
  cases l with
  | nil=>rfl
  | cons v r =>
   simp only [zmh,Bool.and_eq_true] at h
   simp only [vC,Bool.and_eq_true]
   exact ⟨zaE n _ h.1,wQ n _ h.2⟩
end
theorem jX {b:Bool}{K:Prop}(h:zkJ b K):b=true∧K:=by
 cases b with
 | true=>exact ⟨rfl,h⟩
 | false=>exact h.elim
theorem zmc {p:AV}{size len:Nat}{i:Int}{v:AV}{q:Prop}(e:atP p size i len=some (v,q))(hq:q):∀ el:Option Nat,el=some size→zbe len el p i=some v:=by
 rintro el rfl
 unfold atP at e
 split at e
 · cases e; simp only [zbe,yd,if_pos hq]
 · cases e; simp only [zbe,if_pos hq]
 · cases e
theorem zkG {x:AV}{size:Nat}{i:Int}{v:AV}{q:Prop}(e:zl2 size x i=some (v,q))(hq:q):zcX (some size) x i=some v:=by
 unfold zl2 at e
 split at e
 · cases e; simp only [zcX,yd,if_pos hq]
 · cases e; simp only [zcX,yd,if_pos hq]
 · cases e
theorem zds {t:TypeId}{x ix v:AV}{q:Prop}(e:jU P t x ix=some (v,q))(hq:q):zx P t x ix=some v:=by
 unfold jU at e
 unfold zx
 split at e
 · split at e
   · rename_i len el hu
     split at e
     · cases e
     · rename_i s hs
       simp only [hu]
       exact zmc e hq _ hs
   · rename_i el hu
     split at e
     · cases e
     · rename_i s hs
       simp only [hu,hs]
       exact zkG e hq
   · cases e
 · cases e
theorem zjo {t:TypeId}{x ix v:AV}{q:Prop}(e:ziT P t x ix=some (v,q))(hq:q):zeD P t x ix=some v:=by
 unfold ziT at e
 unfold zeD
 split at e
 · rename_i k i
   split at e
   · rename_i hu
     split at e
     · rename_i s
       cases e
       simp only [hu,zdu,if_pos hq.1]
       have:i.toNat<s.length:=by omega
       rw [List.getElem?_eq_getElem this,List.getD_eq_getElem?_getD,List.getElem?_eq_getElem this]
       rfl
     · cases e
   · rename_i len el hu
     split at e
     · rename_i cs
       split at e
       · cases e
       rename_i ha
       split at e
       · cases e
       rename_i s hs
       cases e
       have hagg:zkr P el=some false:=by
        unfold zlz at ha
        split at ha
        · rename_i b hb
          rw [hb]
          cases b
          · rfl
          · cases ha
        · cases ha
       simp only [hu,zdG,hs]
       rw [if_pos hq.1]
       simp only [zbJ,hagg]
       rw [List.getD_eq_getElem?_getD,List.getElem?_eq_getElem hq.2]
       rfl
     · cases e
   · cases e
 · cases e
theorem qf {len cap:Nat}{lo hi mx:Option Int}{l h m:Nat}{p:Prop}(e:yc len cap lo hi mx=(l,h,m,p))(hp:p):zM len cap lo hi mx=some (l,h,m):=by
 unfold yc at e
 cases lo <;> cases hi <;> cases mx <;> simp only [Prod.mk.injEq] at e <;> obtain ⟨rfl,rfl,rfl,rfl⟩:=e <;>
  simp only [zM,x7,xh,z9,xj,Option.isSome_none,Option.isSome_some] <;> first | rfl | exact (hp:False).elim | (simp_all; done)
theorem zio {t:TypeId}{x v:AV}{lo hi mx:Option Int}{q:Prop}(e:ziE P t x lo hi mx=some (v,q))(hq:q):zcn P t x lo hi mx=some v:=by
 unfold ziE at e
 unfold zcn
 split at e
 · rename_i hu
   split at e
   · split at e
     · cases e
     · generalize hb:yc _ _ _ _ _=b at e
       obtain ⟨l,h,m,p⟩:=b
       cases e
       simp only [hu,zdY,qf hb hq,zmQ]
   · cases e
 · rename_i el hu
   split at e
   · cases e
   · rename_i sz hs
     simp only [hu,hs,wy]
     split at e
     · generalize hb:yc _ _ _ _ _=b at e
       obtain ⟨l,h,m,p⟩:=b
       cases e
       simp only [qf hb hq,zje]
     · generalize hb:yc _ _ _ _ _=b at e
       obtain ⟨l,h,m,p⟩:=b
       cases e
       simp only [qf hb hq,zew]
     · split at e
       · split at e
         · cases e
         · generalize hb:yc _ _ _ _ _=b at e
           obtain ⟨l,h,m,p⟩:=b
           cases e
           simp only [qf hb hq,zhM,zew]
       · generalize hb:yc _ _ _ _ _=b at e
         obtain ⟨l,h,m,p⟩:=b
         cases e
         simp only [qf hb hq,zhM]
     · cases e
 · cases e
theorem zl0 {h:AHeap}{op:BinOp}{t:TypeId}{lit:Bool}{x y v:AV}{q:Prop}(e:binS op x y=some (v,q))(hq:q):zgT P h op t lit x y=some v:=by
 unfold binS at e
 split at e
 · split at e
   · split at e
     · cases e
       show catA _ _=_
       unfold catA
       rw [if_pos hq]
     · cases e
   · cases e
 · split at e
   · split at e
     · split at e
       · rename_i hk
         cases e
         simp only [zgT,zhJ,Bool.or_self,zm0,jZ,hk,true_or,if_true]
         show quoA _ _ _=_
         simp only [quoA,if_neg hq]
       · cases e
     · split at e
       · rename_i hk
         cases e
         simp only [zgT,zhJ,Bool.or_self,zm0,jZ,hk,true_or,if_true]
         show remA _ _ _=_
         simp only [remA,if_neg hq]
       · cases e
     · cases e
       simp only [zgT,zhJ,Bool.or_self,zm0,jZ,za1,or_true,if_true]
       show shlA _ _ _=_
       simp only [shlA,if_neg (Int.not_lt.2 hq)]
     · cases e
       simp only [zgT,zhJ,Bool.or_self,zm0,jZ,za1,or_true,if_true]
       show shrA _ _ _=_
       simp only [shrA,if_neg (Int.not_lt.2 hq)]
     · cases e
   · cases e
 · cases e
theorem zen {h:AHeap}{id ver off k:Nat}{l:List AV}{q:Prop}(e:zgJ h id ver off k=some (l,q))(hq:q):za h id ver off k=some l:=by
 unfold zgJ at e
 unfold za
 split at e
 · rename_i c lo n ho
   cases hb:Nat.beq ver 0 with
   | false=>rw [hb] at e; cases e
   | true =>
    rw [hb] at e
    simp only [cond_true] at e
    split at e
    · cases e
    · rename_i l' hl
      cases e
      simp only [ho,hl]
      rw [if_pos ⟨Nat.eq_of_beq_eq_true hb,hq⟩]
 · rename_i c n el lo hi nv fz sg ex ho
   split at e
   · cases e
   · rename_i e0 he
     cases hb:(Nat.ble lo ver&&Nat.ble ver hi) with
     | false=>rw [hb] at e; cases e
     | true =>
      rw [hb] at e
      simp only [cond_true] at e
      rw [Bool.and_eq_true] at hb
      split at e
      · cases e
      · rename_i l' hl
        cases e
        simp only [ho,he,hl]
        rw [if_pos ⟨Nat.le_of_ble_eq_true hb.1,Nat.le_of_ble_eq_true hb.2,hq⟩]
 · cases e
theorem zgG {h:AHeap}{t:TypeId}{p v:AV}{q:Prop}(e:zlc P h t p=some (v,q))(hq:q):zaC P h t p=some v:=by
 unfold zlc at e
 unfold zaC
 split at e
 · split at e
   · cases e
   · rename_i ha
     split at e
     · cases e
     · rename_i i hi
       split at e
       · cases e
       · rename_i l p' hl
         cases e
         simp only [ha,hi,zen hl hq]
   · rename_i ha
     split at e
     · rename_i v' p' hl
       cases e
       simp only [ha,zen hl hq]
     · cases e
 · cases e
theorem zkH {ρ:Operand→Option AV}{h:AHeap}{o:Op}{v:AV}{K:Prop}(e:zmm P ρ h o v K):vP P ρ h o=some v∧K:=by
 unfold zmm at e
 split at e
 · rename_i t a
   split at e
   · rename_i id ver off ha
     split at e
     · unfold zi6 at e
       split at e
       · exact e.elim
       · rename_i x q hx
         obtain ⟨hq,rfl,hk⟩:=e
         refine ⟨?_,hk⟩
         unfold vP
         show (match wA P t a ρ h with | some (.val v _)=>some v | _=>none)=_
         simp only [wA,yv,ha,zgG hx hq,yg]
     · exact e
   · exact e
 · exact e
theorem zkY {all:List Oper}{t:T AV}{h:AHeap}{o:Oper}{K:Prop}(e:zme P all t h o K):qx P all t h o=true∧K:=by
 unfold zme at e
 unfold qx
 split at e
 · exact e.elim
 · rename_i w hw
   rw [hw]
   split at e
   · exact ⟨rfl,e⟩
   · split at e
     · rename_i hd; simp only [hd]; exact e
     · rename_i d hd
       simp only [hd]
       split at e
       · exact e.elim
       · rename_i v hv
         obtain ⟨h1,h2⟩:=zkH e
         obtain ⟨h3,h4⟩:=jX h2
         rw [hv,h1]
         exact ⟨zaE 300 v h3,h4⟩
theorem zdD {all:List Oper}{anc:Nat}{t:T AV}{h:AHeap}:∀ {dn:List Nat} {K:Prop},zm1 P all anc t h dn K→yQ P all anc t h dn=true∧K
 | [],K,e=>⟨rfl,e⟩
 | p::r,K,e=>by
  unfold zm1 at e
  unfold yQ
  rw [Bool.and_eq_true]
  split at e
  · rename_i hp
    obtain ⟨g1,g2⟩:=zdD e
    rw [hp]
    exact ⟨⟨rfl,g1⟩,g2⟩
  · rename_i o hp
    rw [hp]
    unfold vc
    simp only
    split at e
    · rename_i hr
      obtain ⟨g1,g2⟩:=zdD e
      rw [hr]
      exact ⟨⟨rfl,g1⟩,g2⟩
    · rename_i hr
      obtain ⟨q1,q2⟩:=zkY e
      obtain ⟨g1,g2⟩:=zdD q2
      rw [hr]
      exact ⟨⟨q1,g1⟩,g2⟩
theorem js {fr:AFrame}{h:AHeap}{v:AV}{K:AFrame→Prop}(e:Fin P fr h v K):∃ a,zJ P fr h v=some a∧K a:=by
 unfold Fin at e
 split at e
 · rename_i all i l dn k htodo
   split at e
   · exact e.elim
   · rename_i o ho
     unfold zJ
     rw [htodo]
     simp only [ho]
     unfold zlB at e
     unfold zc0
     split at e
     · exact e.elim
     · rename_i t ht
       rw [ht]
       obtain ⟨fn,n,t0,td,ds,mode,kind,round⟩:=fr
       simp only at e ⊢
       split at e
       · rename_i hf
         rw [hf]
         exact ⟨_,rfl,e⟩
       · rename_i hf
         obtain ⟨g1,g2⟩:=zdD e
         rw [hf,g1]
         exact ⟨_,rfl,g2⟩
 · exact xe e
theorem x8 [XT P] [XTOk P] {fr:AFrame}{rest:List AFrame}{heap:AHeap}{r:AR}{K:AM→Prop}(e:zkm P fr rest heap r K):∃ m,zh5 P fr rest heap r=some m∧K m:=by
 unfold zkm at e
 split at e
 · obtain ⟨a,h1,h2⟩:=js e
   exact ⟨_,by simp only [zh5,h1,jC],h2⟩
 · obtain ⟨a,h1,h2⟩:=js e
   exact ⟨_,by simp only [zh5,h1,jC],h2⟩
 · exact xe e
theorem xA [XT P] [XTOk P] {fr:AFrame}{rest:List AFrame}{h:AHeap}{all:List Oper}{o:Oper}(hm:fr.mode=.run)(ht:kG fr=some (all,o)):zdQ P ⟨fr,rest,h⟩=wl P fr rest h all o:=by
 unfold kG at ht
 simp only [zdQ,hm,zj7]
 split at ht
 · rename_i all' o' l k htodo
   cases ht
   rw [htodo]
   rfl
 · rename_i all' i l dn k htodo
   split at ht
   · cases ht
   · rename_i o' ho
     cases ht
     rw [htodo]
     show zl7 P fr rest h all'.toList all'[i]?=_
     rw [ho]; rfl
 · cases ht
theorem znt {ρ:Operand→Option AV}{h:AHeap}{o:Op}{r:AR}{p:Prop}(e:opS P ρ h o=some (r,p))(hp:p):opA P ρ h o=some r:=by
 have lift:∀ {x:Option (AV × Prop)} {y:Option AV},zfA h x=some (r,p)→(∀ v q,x=some (v,q)→q→y=some v)→yg h y=some r:=by
  intro x y e g
  unfold zfA at e
  split at e
  · cases e
  · rename_i v q
    cases e
    rw [g v _ rfl hp]; rfl
 cases o <;> simp only [opS] at e
 case binOp op t x y t' =>
  unfold zki at e
  split at e
  · cases e
  · rename_i a ha
    split at e
    · cases e
    · rename_i b hb
      show w5 P op t x y t' ρ h=_
      simp only [w5,two,ha,hb]
      exact lift e fun v q e hq=>zl0 e hq
 case slice t x lo hi mx =>
  split at e
  · cases e
  rename_i a ha
  split at e
  · cases e
  rename_i l hl
  split at e
  · cases e
  rename_i hh hhh
  split at e
  · cases e
  rename_i m hm
  show qA P t x lo hi mx ρ h=_
  simp only [qA,jQ,ha,hl,hhh,hm]
  exact lift e fun v q e hq=>by simp only [yY,zio e hq]
 case indexAddr t x y =>
  unfold zki at e
  split at e
  · cases e
  · rename_i a ha
    split at e
    · cases e
    · rename_i b hb
      show xR P t x y ρ h=_
      simp only [xR,two,ha,hb]
      exact lift e fun v q e hq=>zds e hq
 case index t x y =>
  unfold zki at e
  split at e
  · cases e
  · rename_i a ha
    split at e
    · cases e
    · rename_i b hb
      show zaK P t x y ρ h=_
      simp only [zaK,two,ha,hb]
      exact lift e fun v q e hq=>zjo e hq
 case load t x =>
  split at e
  · cases e
  · rename_i a ha
    show wA P t x ρ h=_
    simp only [wA,yv,ha]
    exact lift e fun v q e hq=>zgG e hq
 all_goals cases e
theorem Goal.step [XT P] [XTOk P] (hmix:P.follows .mixedOrders=true){keep:Nat}{f0:FuncId}{Q:AV→AHeap→Prop}{m m':AM}(e:zdQ P m=some m')(k:Goal P keep f0 Q m'):Goal P keep f0 Q m:=by
 intro w0 base fr cs w hk s
 obtain ⟨fr1,cs1,w1,s1,k1⟩:=zk3 hmix s e
 obtain ⟨fr',w',B,R,v,v',h',s2,g⟩:=k w0 base fr1 cs1 w1 hk k1
 exact ⟨fr',w',B,R,v,v',h',s1.trans s2,g⟩
theorem Goal.runN [XT P] [XTOk P] (hmix:P.follows .mixedOrders=true){keep:Nat}{f0:FuncId}{Q:AV→AHeap→Prop}:∀ {n:Nat} {m m':AM},runN P n m=some m'→Goal P keep f0 Q m'→Goal P keep f0 Q m
 | 0,m,m',e,k=>by cases e; exact k
 | n+1,m,m',e,k=>by
  unfold Ev.runN at e
  split at e
  · cases e
  · rename_i m1 h1
    exact .step hmix h1 (Goal.runN hmix e k)
theorem HRel.grow {B:Base}{R:Bij}{h:AHeap}{w w':World}(k:HRel P B R h w)(hB:B.n≤w.heap.size)(hs:w.heap.size≤w'.heap.size)(ho:∀ b,b<w.heap.size→w'.heap[b]?=w.heap[b]?):HRel P B R h w' where
 fresh:=k.fresh
 pend:=k.pend
 obj i o e hp:=(k.obj i o e hp).mono R.le_refl (fun _=>rfl) (fun r L hL=>ho _ (k.place i r L hL).2)
 place i r L hL:=⟨(k.place i r L hL).1,Nat.lt_of_lt_of_le (k.place i r L hL).2 hs⟩
 rd:=k.rd
 low b hb:=(ho b (Nat.lt_of_lt_of_le (Base.low_lt hb) hB)).trans (k.low b hb)
 rp:=k.rp
 rol:=k.rol
 pin:=k.pin
 apart:=k.apart
 same:=k.same
 glob g c e:=by
  obtain ⟨e1,cs,el,fz,e2,e3⟩:=k.glob g c e
  exact ⟨e1,cs,el,fz,(ho g (Nat.lt_of_lt_of_le (Base.low_lt e1) hB)).trans e2,e3⟩
theorem ziD {fr f:Frame}{cs:List Frame}{w:World}{v:Value}(hl:fr.leaving P w (.returned v)):step P (lone fr (f::cs) w)=.next (lone (f.finish v) cs w):=by
 obtain ⟨h1,h2,h3,fn,h4,h5⟩:=hl
 refine step_lone_go (fr':=f.finish v) (cs':=cs) (w':=w) ?_
 have hst:stepG P true { frame:=fr,callers:=f::cs,status:=.running,dying:=none } w=unwind P true fr (f::cs) none w:=by
  simp only [stepG,h1]
 rw [hst]
 simp only [unwind,h2,h1,h4,Sem.runT_eq,h5]
 simp [doReturn,h3]
theorem zcp {keep:Nat}{f0:FuncId}{Q:AV→AHeap→Prop}{us:List Nat}{q:AV→Prop}{m:AM}{K:AM→Prop}(e:zjl P us q m K)(hK:∀ m,K m→Goal P keep f0 Q m):Goal P keep f0 Q m:=by
 intro w0 base fr cs w hk s
 obtain ⟨a,rest,h⟩:=m
 unfold zjl at e
 simp only at e
 split at e
 · exact e.elim
 rename_i c r
 split at e
 rotate_left
 · exact e.elim
 rename_i hkind
 split at e
 rotate_left
 · exact e.elim
 rename_i hcm
 split at e
 · exact e.elim
 rename_i m' hm'
 obtain ⟨hspec,hgo⟩:=e
 obtain ⟨B,R,fs,rfl,hb,kh,ho,kt,kb⟩:=s
 obtain ⟨f,fs',rfl,kf,kr⟩:=kb
 have hroom:B.n≤w.heap.size:=by show B.env.heap.size≤_; rw [hb]; exact ho.size
 have hloc:Sim P (Env.of w) (f::fs'++base) m' fr (f::fs'++base) w:=by
  simp only [zm2,jF,zhW,Bool.and_self,cond_true,jW] at hm'
  split at hm'
  · cases hm'
  rename_i h2 hh2
  split at hm'
  · cases hm'
  rename_i top htop
  simp only [zjO] at hm'
  cases hm'
  obtain ⟨objs,next,glob⟩:=h
  simp only [j9,List.all_nil,cond_true,kn,List.length_nil] at hh2
  cases hh2
  have hR:Tab.re [] R=fun _ _=>none:=by
   funext i r
   simp only [Tab.re,List.getElem?_nil]
  refine ⟨Base.of w,fun _ _=>none,[],rfl,rfl,.start fun g c e=>?_,.start w,?_,rfl⟩
  · obtain ⟨_,cs,el,fz,e2,e3⟩:=kh.glob g c e
    exact ⟨xF e2,cs,el,fz,e2,e3⟩
  · rw [← hR]
    exact zaT (Tab.ok [] R) htop kt
 obtain ⟨fr',w',B',R',v,v',h',s1,s2,s3,s4,s5,s6,s7,s8,s9⟩:=hspec (Env.of w) (f::fs'++base) fr (f::fs'++base) w (fun i r L e=>by cases e) hloc
 have hold:OldX (Env.of w) w':=s7.all s5 s6
 have hsame:∀ b,b<w.heap.size→w'.heap[b]?=w.heap[b]?:=fun b hb=>hold.other b hb id
 obtain ⟨c',q1,q2⟩:=js (hgo v s8)
 have hsim:Sim P w0 base ⟨c',r,h⟩ (f.finish v') (fs'++base) w' :=
  ⟨B,R,fs',rfl,hb,kh.grow hroom s7.size hsame,⟨s7.os.trans ho.os,s7.tape.trans ho.tape,s7.output.trans ho.output,Nat.le_trans ho.size s7.size,Nat.le_trans ho.drawn s7.drawn⟩,xp kf hcm q1 (ve 99 _ _ s9 s4),kr⟩
 obtain ⟨fr2,w2,B2,R2,v2,v2',h2,t1,t2⟩:=hK _ q2 w0 base _ _ w' hk hsim
 exact ⟨fr2,w2,B2,R2,v2,v2',h2,s1.trans (.head (ziD s2) t1),t2⟩
theorem Goal.mono {keep:Nat}{f0:FuncId}{Q Q':AV→AHeap→Prop}{m:AM}(h:∀ v k,Q v k→Q' v k)(g:Goal P keep f0 Q m):Goal P keep f0 Q' m:=by
 intro w0 base fr cs w hk s
 obtain ⟨fr',w',B,R,v,v',h',a1,a2,a3,a4,a5,a6,a7,a8⟩:=g w0 base fr cs w hk s
 exact ⟨fr',w',B,R,v,v',h',a1,a2,a3,a4,a5,a6,a7,h _ _ a8⟩
theorem zhx {us:List Nat}{v:AV}{m:AM}{K:AM→Prop}(e:zmG P us v m K):zjl P us (fun x=>x=v) m K:=by
 obtain ⟨a,rest,h⟩:=m
 unfold zmG at e
 unfold zjl
 simp only at e
 split at e
 · exact e.elim
 split at e
 rotate_left
 · exact e.elim
 rename_i hkind
 split at e
 rotate_left
 · exact e.elim
 rename_i hcm
 split at e
 · exact e.elim
 rename_i m' hm'
 obtain ⟨hp,g1,g2⟩:=jX e
 simp only [hkind,hcm,hm']
 exact ⟨g1.mono fun x _ hx=>⟨hx,by rw [hx]; exact hp⟩,fun x hx=>by rw [hx]; exact g2⟩
theorem zcs {keep:Nat}{f0:FuncId}{Q:AV→AHeap→Prop}{m:AM}(e:zna P f0 Q m):Goal P keep f0 Q m:=by
 intro w0 base fr cs w hk s
 obtain ⟨v,hd,hq⟩:=xe e
 obtain ⟨af,rest,h⟩:=m
 obtain ⟨B,R,fs,rfl,hb,kh,ho,kt,kb⟩:=s
 unfold zkC at hd
 simp only at hd
 split at hd
 · cases hd
 split at hd
 rotate_left
 · cases hd
 rename_i hmode
 split at hd
 · cases hd
 rename_i hdef
 split at hd
 rotate_left
 · cases hd
 rename_i hkind
 split at hd
 rotate_left
 · cases hd
 rename_i hf0
 have hfs:fs=[]:=kb
 subst hfs
 have hs:Slots R af.tmps fr.tmps:=by have:=kt.top; rw [hmode] at this; exact this
 obtain ⟨fn,v',r1,r2,r3⟩:=zeX kh hs kt.fn hd
 have hm:fr.mode=.returning:=by have:=kt.mode; rw [hmode] at this; exact this
 have hdf:fr.defers=[]:=by have:=kt.defers; rw [hdef] at this; exact this
 exact ⟨fr,w,B,R,v,v',h,Steps.refl _ _,⟨hm,hdf,by rw [kt.kind,hkind],fn,r1,r2⟩,kt.fn.trans (Nat.eq_of_beq_eq_true hf0),r3,hb,kh,ho,hq⟩
theorem Goal.ofRun [XT P] [XTOk P] (hmix:P.follows .mixedOrders=true){keep:Nat}{f0:FuncId}{Q:AV→AHeap→Prop}:∀ {n:Nat} {m:AM} {v:AV},runA P f0 n m=some v→(∀ h,Q v h)→Goal P keep f0 Q m
 | 0,m,v,e,_=>by cases e
 | n+1,m,v,e,hq=>by
  unfold runA at e
  split at e
  · rename_i v' hd
    cases e
    exact zcs (m:=m) (show zd8 (zkC P f0 m) _ by rw [hd]; exact hq _)
  · split at e
    · cases e
    · rename_i m1 h1
      exact .step hmix h1 (Goal.ofRun hmix e hq)
theorem zez {t:T AV}:∀ {us:List Nat} {acc:T AV},(∀ u v,acc.get u=some v→t.get u=some v)→∀ u v,(zhN t us acc).get u=some v→t.get u=some v
 | [],_,h,u,v,e=>h u v e
 | u0::r,acc,h,u,v,e=>by
  rw [zhN,T.seq_eq] at e
  refine zez (us:=r) (fun u v e=>?_) u v e
  rw [T.get_set] at e
  split at e
  · rename_i hu; rw [hu]; exact e
  · exact h u v e
theorem zhO {keep:Nat}{f0:FuncId}{Q:AV→AHeap→Prop}{us:List Nat}{m:AM}{K:AM→Prop}(e:zlZ us m K)(hK:∀ m,K m→Goal P keep f0 Q m):Goal P keep f0 Q m:=by
 intro w0 base fr cs w hk s
 obtain ⟨⟨fn,n,t,todo,ds,mode,kind,round⟩,rest,h⟩:=m
 obtain ⟨B,R,fs,hc,hb,kh,ho,kt,kb⟩:=s
 unfold zlZ at e
 simp only at e
 have hkeep:∀ {a:Array Value},Slots R t a→Slots R (zhN t us .leaf) a:=fun hs u v e=>hs u v (zez (fun u v e=>by cases e) u v e)
 split at e
 · exact e.elim
 · rename_i hn
   refine hK _ e w0 base fr cs w hk ⟨B,R,fs,hc,hb,kh,ho,?_,kb⟩
   obtain ⟨k1,k2,k3,k4,k5,k6,k7,k8,k9⟩:=kt
   refine ⟨k1,k2,k3,k4,k5,k6,k7,k8,?_⟩
   cases mode with
   | run =>
    change TodoRel P B R rest.length false h todo t fr.todo fr.tmps at k9
    show TodoRel P B R rest.length false h todo (zhN t us .leaf) fr.todo fr.tmps
    cases todo with
    | nil=>exact ⟨k9.1,hkeep k9.2⟩
    | cons it kk =>
     cases it with
     | drw a b c=>exact absurd rfl (hn a b c kk)
     | _=>exact ⟨k9.1,hkeep k9.2⟩
   | returning=>exact hkeep k9
   | panicking c=>exact hkeep k9
theorem zjZ {keep k:Nat}{f0:FuncId}{Q:AV→AHeap→Prop}{ids us:List Nat}{uss:List (List Nat)}{m:AM}{K:AM→Prop}(hkk:keep≤k)(e:CanP k ids us uss m K)(hK:∀ m,K m→Goal P keep f0 Q m):Goal P keep f0 Q m:=by
 intro w0 base fr cs w hk s
 unfold CanP at e
 split at e
 · exact e.elim
 rename_i m' hm'
 obtain ⟨g1,g2⟩:=yU e
 exact hK _ g2 w0 base fr cs w hk (Sim.can (fun i r L h=>Nat.lt_of_lt_of_le (hk i r L h) hkk) hm' g1 s)
end
end Go.Proofs.Ytehelionjafnkaa.Ev
end
section
namespace Go.Proofs.Ytehelionjafnkaa.Ev
open Go
noncomputable section
variable (P:Program)
def wit (h:AHeap):List Nat→AV→Option AV
 | [],v=>some v
 | k::r,v=>match v with
  | .ptr i ver o=>match h.get i with
   | some (.cells c n _ lo hi _ _ _ ex)=>match zm ex n hi ver with
    | some e=>bif Nat.ble lo ver&&Nat.ble ver hi&&Nat.ble o k&&Nat.blt k e then (match c.get k with
     | some v=>wit h r v
     | none=>none) else none
    | none=>none
   | _=>none
  | .slc i ver o _ _=>match h.get i with
   | some (.cells c n _ lo hi _ _ _ ex)=>match zm ex n hi ver with
    | some e=>bif Nat.ble lo ver&&Nat.ble ver hi&&Nat.ble o k&&Nat.blt k e then (match c.get k with
     | some v=>wit h r v
     | none=>none) else none
    | none=>none
   | _=>none
  | .mp i=>match h.get i with
   | some (.map es _)=>match es[k]? with
    | some e=>wit h r e.val
    | none=>none
   | _=>none
  | .fn _ a b=>match (a++b)[k]? with
   | some v=>wit h r v
   | none=>none
  | .ifc _ v=>wit h r v
  | .agg l=>match l[k]? with
   | some v=>wit h r v
   | none=>none
  | .tup l=>match l[k]? with
   | some v=>wit h r v
   | none=>none
  | _=>none
def kK:AV→Option Nat
 | .ptr i _ _=>some i
 | .slc i _ _ _ _=>some i
 | .slg i _ _ _ _=>some i
 | .mp i=>some i
 | .yld i=>some i
 | _=>none
def ziY (h:AHeap) (t:T AV):List (Nat × Nat × List Nat)→Bool
 | []=>true
 | (j,u,p)::r=>(match t.get u with
  | none=>false
  | some v=>match wit h p v with
   | none=>false
   | some v=>match kK v with
    | none=>false
    | some i=>Nat.beq i j)&&ziY h t r
def z7 (l:List (Nat × Nat × List Nat)):Tab:=l.map fun p=>(p.1,none)
def locM (l:List (Nat × Nat × List Nat)) (us:List Nat) (fr:AFrame) (h:AHeap):Option AM :=
 bif jF (l.map (·.1))&&ziY h fr.tmps l then match j9 (z7 l) h with
  | none=>none
  | some h0=>match zmj (z7 l).ver us fr with
   | none=>none
   | some a=>some ⟨a,[],h0⟩ else none
def vW (σ:List Nat) (next:Nat) (i:Nat):Nat:=match σ[i]? with
 | some j=>j
 | none=>next+(i - σ.length)
def zjE (σ:List Nat) (next:Nat) (i r:Nat):Option (Nat × Nat):=some (vW σ next i,r)
def yX (g:Nat→Nat→Option (Nat × Nat)) (f:Nat→Nat) (objs':T AObj):Nat→Nat→T AObj→Option (T AObj)
 | 0,_,acc=>some acc
 | n+1,i,acc=>match objs'.get i with
  | none=>(acc.set none (f i)).seq fun acc=>yX g f objs' n (i+1) acc
  | some o=>match zft g none o with
   | none=>none
   | some o=>(acc.set (some o) (f i)).seq fun acc=>yX g f objs' n (i+1) acc
def zbx (objs':T AObj):Nat→Nat→List (Nat→Option AV)
 | 0,_=>[]
 | n+1,i=>match objs'.get i with
  | none=>zbx objs' n (i+1)
  | some o=>zns o++zbx objs' n (i+1)
def znD (σ:List Nat) (h h':AHeap):Option AHeap:=bif Nat.ble σ.length h'.next then match yX (zjE σ h.next) (vW σ h.next) h'.objs h'.next 0 h.objs with
 | none=>none
 | some objs=>some ⟨objs,h.next+(h'.next - σ.length),h.glob⟩ else none
def zmk (l:List (Nat × Nat × List Nat)) (us:List Nat) (v:AV) (H:AHeap) (m:AM) (K:AM→Prop):Prop:=match m with
 | ⟨fr,rest,h⟩=>match rest with
  | []=>False
  | c::r=>match fr.kind with
   | .normal=>match c.mode with
    | .run=>match locM l us fr h with
     | none=>False
     | some m'=>match zfs (zjE (l.map (·.1)) h.next) 99 v with
      | none=>False
      | some v2=>match znD (l.map (·.1)) h H with
       | none=>False
       | some h2=>kM (zmJ h.objs (z7 l)) (kM (zbx H.objs H.next 0) (Goal P l.length fr.fn (fun x k=>x=v∧k=H) m'∧Fin P c h2 v2 fun c=>K ⟨c,r,h2⟩))
    | _=>False
   | _=>False
end
section
variable {P:Program} {B:Base} {R:Bij} {h:AHeap} {w:World}
theorem zcK (kh:HRel P B R h w){i ver o k:Nat}{L:Loc}(hL:R i ver=some L)(hm:L.minus≤o){c:T AV}{n:Nat}{el:TypeId}{lo hi nv fz:Nat}{sg:Bool}{ex:T Nat}(ho:h.get i=some (.cells c n el lo hi nv fz sg ex)){e:Nat}
 (he:zm ex n hi ver=some e) (hb:(Nat.ble lo ver&&Nat.ble ver hi&&Nat.ble o k&&Nat.blt k e)=true) {v:AV} (hv:c.get k=some v):∃ x,VRel R v x:=by
 simp only [Bool.and_eq_true] at hb
 obtain ⟨⟨⟨h1,h2⟩,h3⟩,h4⟩:=hb
 obtain ⟨L',hL',cs,a,b,g1,g2,g3,g4,g5⟩:=kh.ver hL ho (Nat.le_of_ble_eq_true h1) (Nat.le_of_ble_eq_true h2) he
 rw [hL] at hL'; cases hL'
 have:=Nat.le_of_ble_eq_true h3
 have h4:k<e:=by simpa [Nat.blt_eq] using h4
 obtain ⟨x,_,hx⟩:=g5 k v h4 (by omega) hv
 exact ⟨x,hx⟩
theorem qr (kh:HRel P B R h w):∀ {p:List Nat} {v v':AV} {x:Value},wit h p v=some v'→VRel R v x→∃ x',VRel R v' x'
 | [],v,v',x,e,hv=>by cases e; exact ⟨x,hv⟩
 | k::r,v,v',x,e,hv=>by
  cases v <;> simp only [wit] at e
  case ptr i ver o =>
   obtain ⟨L,hL,hm,_⟩:=hv
   split at e
   · rename_i c n el lo hi nv fz sg ex ho
     split at e
     · rename_i e0 he
       cases hb:(Nat.ble lo ver&&Nat.ble ver hi&&Nat.ble o k&&Nat.blt k e0) with
       | false=>rw [hb] at e; cases e
       | true =>
        rw [hb] at e
        simp only [cond_true] at e
        split at e
        · rename_i y hy
          obtain ⟨z,hz⟩:=zcK kh hL hm ho he hb hy
          exact qr kh e hz
        · cases e
     · cases e
   · cases e
  case slc i ver o len cap =>
   obtain ⟨L,hL,hm,_⟩:=hv
   split at e
   · rename_i c n el lo hi nv fz sg ex ho
     split at e
     · rename_i e0 he
       cases hb:(Nat.ble lo ver&&Nat.ble ver hi&&Nat.ble o k&&Nat.blt k e0) with
       | false=>rw [hb] at e; cases e
       | true =>
        rw [hb] at e
        simp only [cond_true] at e
        split at e
        · rename_i y hy
          obtain ⟨z,hz⟩:=zcK kh hL hm ho he hb hy
          exact qr kh e hz
        · cases e
     · cases e
   · cases e
  case mp i =>
   obtain ⟨L,hL,_⟩:=hv
   split at e
   · rename_i es clock ho
     obtain ⟨L',es',hL',hh,hrel⟩:=kh.obj' hL ho
     split at e
     · rename_i en hen
       obtain ⟨b,_,hb⟩:=hrel.get k en hen
       exact qr kh e hb.2.1
     · cases e
   · cases e
  case fn f a b =>
   obtain ⟨_,a',b',rfl,h1,h2⟩:=hv
   split at e
   · rename_i y hy
     obtain ⟨z,_,hz⟩:=(h1.append h2).get k y hy
     exact qr kh e hz
   · cases e
  case ifc t y =>
   obtain ⟨z,_,hz⟩:=hv
   exact qr kh e hz
  case agg l =>
   obtain ⟨a,rfl,h1⟩:=hv
   split at e
   · rename_i y hy
     obtain ⟨z,_,hz⟩:=h1.get k y hy
     exact qr kh e hz
   · cases e
  case tup l =>
   obtain ⟨a,rfl,h1⟩:=hv
   split at e
   · rename_i y hy
     obtain ⟨z,_,hz⟩:=h1.get k y hy
     exact qr kh e hz
   · cases e
  all_goals cases e
theorem km {v:AV}{x:Value}{i:Nat}(hv:VRel R v x)(e:kK v=some i):∃ r L,R i r=some L:=by
 cases v <;> simp only [kK,Option.some.injEq] at e
 case ptr=>subst e; obtain ⟨L,hL,_⟩:=hv; exact ⟨_,L,hL⟩
 case slc=>subst e; obtain ⟨L,hL,_⟩:=hv; exact ⟨_,L,hL⟩
 case slg=>subst e; obtain ⟨L,a,hL,_⟩:=hv; exact ⟨_,L,hL⟩
 case mp=>subst e; obtain ⟨L,hL,_⟩:=hv; exact ⟨_,L,hL⟩
 case yld=>subst e; obtain ⟨L,hL,_⟩:=hv; exact ⟨_,L,hL⟩
 all_goals cases e
theorem zcU (kh:HRel P B R h w){t:T AV}{a:Array Value}(hs:Slots R t a):∀ {l:List (Nat × Nat × List Nat)},ziY h t l=true→∀ q∈l,∃ r L,R q.1 r=some L
 | [],_,q,hq=>absurd hq List.not_mem_nil
 | (j,u,p)::l,e,q,hq=>by
  simp only [ziY,Bool.and_eq_true] at e
  rcases List.mem_cons.1 hq with rfl | hq
  · have e:=e.1
    split at e
    · cases e
    · rename_i v hv
      split at e
      · cases e
      · rename_i v' hv'
        split at e
        · cases e
        · rename_i i hi
          have:=Nat.eq_of_beq_eq_true e
          subst this
          obtain ⟨x,_,hx⟩:=hs u v hv
          obtain ⟨x',hx'⟩:=qr kh hv' hx
          exact km hx' hi
  · exact zcU kh hs e.2 q hq
theorem zhn {g:Nat→Nat→Option (Nat × Nat)}{d:Nat}{sus:Bool}{af af':AFrame}{fr:Frame}{us:List Nat}(e:zmj g us af=some af')(k:FrameRel P B R d sus h af fr):Slots R af.tmps fr.tmps:=by
 obtain ⟨fn,n,t,todo,ds,mode,kind,round⟩:=af
 simp only [zmj] at e
 split at e
 · cases e
 split at e
 · cases e
 rename_i todo' htodo
 have k9:=k.top
 cases mode with
 | run =>
  change TodoRel P B R d sus h todo t fr.todo fr.tmps at k9
  cases todo with
  | nil=>exact k9.2
  | cons it kk =>
   cases it with
   | drw a b c=>exact absurd rfl (jS htodo _ List.mem_cons_self a b c)
   | _=>exact k9.2
 | returning=>exact k9
 | panicking c=>exact k9
theorem w9 {l:List (Nat × Nat × List Nat)}{i:Nat}{j:Nat}{t:Option Nat}(e:(z7 l)[i]?=some (j,t)):(l.map (·.1))[i]?=some j∧t=none:=by
 unfold z7 at e
 rw [List.getElem?_map] at e ⊢
 cases hl:l[i]? with
 | none=>rw [hl] at e; cases e
 | some p=>rw [hl] at e; cases e; exact ⟨rfl,rfl⟩
theorem zeQ {l:List (Nat × Nat × List Nat)}{i:Nat}{j:Nat}(e:(l.map (·.1))[i]?=some j):(z7 l)[i]?=some (j,none):=by
 unfold z7
 rw [List.getElem?_map] at e ⊢
 cases hl:l[i]? with
 | none=>rw [hl] at e; cases e
 | some p=>rw [hl] at e; cases e; rfl
theorem wq {g:Nat→Nat→Option (Nat × Nat)}{f:Nat→Nat}{objs':T AObj}:∀ {n i:Nat} {acc r:T AObj},yX g f objs' n i acc=some r→(∀ a b,i≤a→i≤b→a<i+n→b<i+n→f a=f b→a=b)→∀ c o2,r.get c=some o2 →
 (∃ a,i≤a∧a<i+n∧f a=c∧∃ o,objs'.get a=some o∧zft g none o=some o2)∨((∀ a,i≤a→a<i+n→f a≠c)∧acc.get c=some o2)
 | 0,i,acc,r,e,_,c,o2,hc=>by cases e; exact .inr ⟨fun a h1 h2=>by omega,hc⟩
 | n+1,i,acc,r,e,hinj,c,o2,hc=>by
  unfold yX at e
  have hinj':∀ a b,i+1≤a→i+1≤b→a<i+1+n→b<i+1+n→f a=f b→a=b:=fun a b h1 h2 h3 h4 h5=>hinj a b (by omega) (by omega) (by omega) (by omega) h5
  split at e
  · rename_i ho
    rw [T.seq_eq] at e
    rcases wq e hinj' c o2 hc with ⟨a,h1,h2,h3,h4⟩ | ⟨h1,h2⟩
    · exact .inl ⟨a,by omega,by omega,h3,h4⟩
    · rw [T.get_set] at h2
      split at h2
      · cases h2
      · rename_i hne
        refine .inr ⟨fun a g1 g2=>?_,h2⟩
        by_cases ha:a=i
        · subst ha; exact fun hh=>hne hh.symm
        · exact h1 a (by omega) (by omega)
  · rename_i o ho
    split at e
    · cases e
    · rename_i o' ho'
      rw [T.seq_eq] at e
      rcases wq e hinj' c o2 hc with ⟨a,h1,h2,h3,h4⟩ | ⟨h1,h2⟩
      · exact .inl ⟨a,by omega,by omega,h3,h4⟩
      · rw [T.get_set] at h2
        split at h2
        · rename_i hce
          cases h2
          exact .inl ⟨i,Nat.le_refl _,by omega,hce.symm,o,ho,ho'⟩
        · rename_i hne
          refine .inr ⟨fun a g1 g2=>?_,h2⟩
          by_cases ha:a=i
          · subst ha; exact fun hh=>hne hh.symm
          · exact h1 a (by omega) (by omega)
theorem y8 {g:Nat→Nat→Option (Nat × Nat)}{f:Nat→Nat}{objs':T AObj}:∀ {n i:Nat} {acc r:T AObj},yX g f objs' n i acc=some r→∀ c,(∀ a,i≤a→a<i+n→f a≠c)→r.get c=acc.get c
 | 0,i,acc,r,e,c,_=>by cases e; rfl
 | n+1,i,acc,r,e,c,hc=>by
  unfold yX at e
  have hne:=hc i (Nat.le_refl _) (by omega)
  split at e
  · rw [T.seq_eq] at e
    rw [y8 e c (fun a h1 h2=>hc a (by omega) (by omega)),T.get_set,if_neg (fun h=>hne h.symm)]
  · split at e
    · cases e
    · rw [T.seq_eq] at e
      rw [y8 e c (fun a h1 h2=>hc a (by omega) (by omega)),T.get_set,if_neg (fun h=>hne h.symm)]
theorem ObjRel.live {i:Nat}{o:AObj}(k:ObjRel P R w i o):∃ r L,R i r=some L:=by
 cases o with
 | cells c n el lo hi nv fz sg ex =>
  obtain ⟨a1,a2,a3,a4,a5⟩:=k
  obtain ⟨L,h1,_⟩:=a4 hi n a1 (Nat.le_refl _) (by simp [zm])
  exact ⟨hi,L,h1⟩
 | map es clock=>obtain ⟨L,es',h1,_⟩:=k; exact ⟨0,L,h1⟩
 | iter s p=>obtain ⟨L,h1,_⟩:=k; exact ⟨0,L,h1⟩
 | loop lp=>obtain ⟨L,lp',h1,_⟩:=k; exact ⟨0,L,h1⟩
 | dfrd ds=>obtain ⟨L,ds',h1,_⟩:=k; exact ⟨0,L,h1⟩
 | ro c lo n=>obtain ⟨L,cs,el,fz,h1,_⟩:=k; exact ⟨0,L,h1⟩
theorem zbX {objs':T AObj}:∀ {n i a:Nat} {o:AObj} {f:Nat→Option AV},i≤a→a<i+n→objs'.get a=some o→f∈zns o→f∈zbx objs' n i
 | 0,i,a,o,f,h1,h2,_,_=>by omega
 | n+1,i,a,o,f,h1,h2,ho,hf=>by
  unfold zbx
  by_cases ha:a=i
  · subst ha
    rw [ho]
    exact List.mem_append_left _ hf
  · have:=zbX (n:=n) (i:=i+1) (by omega) (by omega) ho hf
    split
    · exact this
    · exact List.mem_append_right _ this
def zeT (B:Base) (R:Bij) (w:World) (σ:List Nat) (tb:Tab):Env:={ w with
 own:=fun b=>∃ j∈σ,¬ B.ro j∧∃ r L,R j r=some L∧L.block=b
 rob:=fun b=>∃ j∈σ,B.ro j∧∃ r L,R j r=some L∧L.block=b
 pin:=tb.re R }
def zfy (B:Base) (R:Bij) (w:World) (σ:List Nat) (tb:Tab):Base:=⟨zeT B R w σ tb,fun i=>∃ j,σ[i]?=some j∧B.ro j,fun _=>none,fun _=>(0,0)⟩
theorem zlT (kh:HRel P B R h w)(hroom:B.n≤w.heap.size){l:List (Nat × Nat × List Nat)}{h0:AHeap}(hn:jF (l.map (·.1))=true)(hlive:∀ q∈l,∃ r L,R q.1 r=some L)(e:j9 (z7 l) h=some h0)
 (hp:∀ f∈zmJ h.objs (z7 l),kj f):HRel P (zfy B R w (l.map (·.1)) (z7 l)) ((z7 l).re R) h0 w:=by
 obtain ⟨objs,next,glob⟩:=h
 simp only [j9] at e
 cases hlt:((z7 l).all fun p=>Nat.blt p.1 next) with
 | false=>rw [hlt] at e; cases e
 | true =>
  rw [hlt] at e
  simp only [cond_true] at e
  split at e
  · cases e
  rename_i objs' hobjs
  cases e
  have hget:=ke (n:=0) hobjs (fun q o' g=>by cases g) (fun q=>by rw [Nat.zero_add])
  have hsome:=wi hobjs
  have hre:∀ {i r L},(z7 l).re R i r=some L→∃ j,(l.map (·.1))[i]?=some j∧R j r=some L:=by
   intro i r L e
   unfold Tab.re at e
   split at e
   · cases e
   · rename_i j hi; exact ⟨j,(w9 hi).1,e⟩
   · rename_i j t hi; cases (w9 hi).2
  have hmem:∀ {i j:Nat},(l.map (·.1))[i]?=some j→j∈l.map (·.1):=fun hi=>List.mem_of_getElem? hi
  have hpend:∀ {j:Nat},j∈l.map (·.1)→B.pend j=none:=fun hj=>by
   obtain ⟨q,hq,rfl⟩:=List.mem_map.1 hj
   obtain ⟨r,L,hL⟩:=hlive q hq
   exact kh.live hL
  have hmay:∀ b,(zfy B R w (l.map (·.1)) (z7 l)).may b→B.may b:=by
   rintro b (h1 | ⟨j,_,hj,r,L,hL,rfl⟩)
   · exact .inl (Nat.le_trans hroom h1)
   · exact (kh.place j r L hL).1.elim id fun h=>absurd h hj
  refine ⟨fun i hi r=>?_,fun i o' eo _=>?_,(fun i o e=>by cases e),fun i r L e=>?_,fun i hi=>?_,fun i hi=>rfl,fun i r L hi e=>?_,fun b _=>rfl,fun i r L e=>e,fun i r i' r' L L' e e' hbl hor=>?_,fun i r r' L L' e e' hbl=>?_,fun g c e=>?_⟩
  · have:(z7 l)[i]?=none:=List.getElem?_eq_none hi
    simp only [Tab.re,this]
  · obtain ⟨j,t,o,q1,q2,q3⟩:=hget i o' eo
    obtain ⟨q4,rfl⟩:=w9 q1
    exact zdA ((z7 l).ok R) (fun _ r=>by simp only [Tab.re,q1]) (fun t0 ht r=>by cases ht) q3 (fun f hf=>hp f (zdf hsome q1 q2 hf)) (kh.obj j o q2 (hpend (hmem q4)))
  · obtain ⟨j,q1,q2⟩:=hre e
    refine ⟨?_,(kh.place j r L q2).2⟩
    by_cases hr:B.ro j
    · exact .inr ⟨j,q1,hr⟩
    · exact .inl (.inr ⟨j,hmem q1,hr,r,L,q2,rfl⟩)
  · obtain ⟨j,q1,q2⟩:=hi
    refine ⟨by have:=(List.getElem?_eq_some_iff.1 (zeQ q1)).1; exact this,fun o' eo=>?_⟩
    obtain ⟨j',t',o,p1,p2,p3⟩:=hget i o' eo
    obtain ⟨p4,rfl⟩:=w9 p1
    rw [q1] at p4; cases p4
    have:=(kh.rd j q2).2 o p2
    cases o with
    | ro c lo n=>simp only [zft] at p3; cases p3; rfl
    | _=>cases this
  · obtain ⟨j,q1,q2⟩:=hi
    obtain ⟨j',p1,p2⟩:=hre e
    rw [q1] at p1; cases p1
    exact ⟨j,hmem q1,q2,r,L,p2,rfl⟩
  · obtain ⟨j,q1,q2⟩:=hre e
    obtain ⟨j',q1',q2'⟩:=hre e'
    have:=kh.apart j r j' r' L L' q2 q2' hbl (hor.imp (fun hn hr=>hn ⟨j,q1,hr⟩) (fun hn hr=>hn ⟨j',q1',hr⟩))
    subst this
    exact yF hn q1 q1'
  · obtain ⟨j,q1,q2⟩:=hre e
    obtain ⟨j',q1',q2'⟩:=hre e'
    rw [q1] at q1'; cases q1'
    exact kh.same j r r' L L' q2 q2' hbl
  · obtain ⟨g1,g2⟩:=kh.glob g c e
    exact ⟨fun hm=>g1 (hmay g hm),g2⟩
def zaz (σ:List Nat) (next:Nat) (R R':Bij):Bij:=fun c r=>match (σ.map fun j=>((j,none):Nat × Option Nat)) |> fun tb=>Tab.find tb c with
 | some (i,_)=>R' i r
 | none=>if next≤c then R' (σ.length+(c - next)) r else R c r
theorem zkz {σ:List Nat}{c i:Nat}{t:Option Nat}(e:Tab.find (σ.map fun j=>(j,none)) c=some (i,t)):σ[i]?=some c:=by
 have:=(wX e).2
 simp only [Nat.sub_zero,List.getElem?_map] at this
 cases hs:σ[i]? with
 | none=>rw [hs] at this; cases this
 | some x=>rw [hs] at this; cases this; rfl
theorem zfX {c:Nat}:∀ {σ:List Nat} {i k:Nat},jF σ=true→σ[i]?=some c→zfV c (σ.map fun j=>((j,none):Nat × Option Nat)) k=some (k+i,none)
 | [],i,k,_,e=>by simp at e
 | j::r,i,k,hn,e=>by
  cases i with
  | zero =>
   simp at e; subst e
   simp [zfV,Nat.beq_refl]
  | succ i =>
   have hne:j≠c:=fun h=>by
    subst h
    have:=yF hn (p:=0) (q:=i+1) (j:=j) (by simp) e
    omega
   have hb:Nat.beq j c=false:=by
    cases hb:Nat.beq j c with
    | false=>rfl
    | true=>exact absurd (Nat.eq_of_beq_eq_true hb) hne
   have hn':jF r=true:=by simp only [jF,Bool.and_eq_true] at hn; exact hn.2
   have:=zfX (σ:=r) (i:=i) (k:=k+1) hn' (by simpa using e)
   simp only [List.map_cons,zfV,hb,cond_false]
   rw [this]
   congr 2
   omega
theorem ziz {σ:List Nat}{c:Nat}(e:Tab.find (σ.map fun j=>((j,none):Nat × Option Nat)) c=none)(hn:jF σ=true):c ∉ σ:=by
 intro hc
 obtain ⟨i,hi,he⟩:=List.getElem_of_mem hc
 have:=zfX (σ:=σ) (i:=i) (k:=0) hn (by rw [List.getElem?_eq_getElem hi,he])
 unfold Tab.find at e
 rw [this] at e
 cases e
noncomputable def xi (B B':Base) (σ:List Nat) (next:Nat) (h2:AHeap):Base:={ B with
 pend:=fun c=>match Tab.find (σ.map fun j=>((j,none):Nat × Option Nat)) c with
  | some _=>none
  | none=>if next≤c then (match B'.pend (σ.length+(c - next)) with
   | none=>none
   | some _=>h2.get c) else B.pend c
 ro:=fun c=>match Tab.find (σ.map fun j=>((j,none):Nat × Option Nat)) c with
  | some (i,_)=>B'.ro i
  | none=>if next≤c then B'.ro (σ.length+(c - next)) else B.ro c }
theorem zhs {keep:Nat}{f0:FuncId}{Q:AV→AHeap→Prop}{l:List (Nat × Nat × List Nat)}{us:List Nat}{v:AV}{H:AHeap}{m:AM}{K:AM→Prop}(e:zmk P l us v H m K)(hK:∀ m,K m→Goal P keep f0 Q m):Goal P keep f0 Q m:=by
 intro w0 base fr cs w hk s
 obtain ⟨a,rest,h⟩:=m
 unfold zmk at e
 simp only at e
 split at e
 · exact e.elim
 rename_i c r
 split at e
 rotate_left
 · exact e.elim
 rename_i hkind
 split at e
 rotate_left
 · exact e.elim
 rename_i hcm
 split at e
 · exact e.elim
 rename_i m' hm'
 split at e
 · exact e.elim
 rename_i v2 hv2
 split at e
 · exact e.elim
 rename_i h2 hh2
 obtain ⟨hp1,e⟩:=yU e
 obtain ⟨hp2,hspec,hgo⟩:=yU e
 obtain ⟨B,R,fs,rfl,hb,kh,ho,kt,kb⟩:=s
 obtain ⟨f,fs',rfl,kf,kr⟩:=kb
 have hroom:B.n≤w.heap.size:=by show B.env.heap.size≤_; rw [hb]; exact ho.size
 unfold locM at hm'
 cases hn:(jF (l.map (·.1))&&ziY h a.tmps l) with
 | false=>rw [hn] at hm'; cases hm'
 | true =>
 rw [hn] at hm'
 rw [Bool.and_eq_true] at hn
 obtain ⟨hnd,hled⟩:=hn
 simp only [cond_true] at hm'
 split at hm'
 · cases hm'
 rename_i h0 hh0
 split at hm'
 · cases hm'
 rename_i a0 ha0
 cases hm'
 generalize hσ:l.map (·.1)=σ at *
 have hlen:l.length=σ.length:=by rw [← hσ]; simp
 have hlive:=zcU kh (zhn ha0 kt) hled
 have hloc:=zlT kh hroom (by rw [hσ]; exact hnd) hlive hh0 hp1
 rw [hσ] at hloc
 obtain ⟨fr',w',B',R',v0,v',h',s1,s2,s3,s4,s5,s6,s7,rfl,rfl⟩:=hspec (zeT B R w σ (z7 l)) (f::fs'++base) fr (f::fs'++base) w
  (fun i r L e=>by
   have:i<(z7 l).length:=by
    unfold zeT at e
    simp only [Tab.re] at e
    split at e
    · cases e
    · rename_i j hi; exact (List.getElem?_eq_some_iff.1 hi).1
    · rename_i j t hi; exact (List.getElem?_eq_some_iff.1 hi).1
   simpa [z7] using this)
  ⟨zfy B R w σ (z7 l),(z7 l).re R,[],rfl,rfl,hloc,⟨rfl,rfl,rfl,Nat.le_refl _,Nat.le_refl _⟩,zaT ((z7 l).ok R) ha0 kt,rfl⟩
 have hold:OldX (zeT B R w σ (z7 l)) w':=s7.all s5 s6
 have hpin:∀ i r L,(z7 l).re R i r=some L→R' i r=some L:=fun i r L e=>s6.pin i r L (by rw [s5]; exact e)
 have hσget:∀ {i j:Nat},σ[i]?=some j→(z7 l)[i]?=some (j,none):=fun hi=>zeQ (by rw [hσ]; exact hi)
 have hpinσ:∀ {i j:Nat},σ[i]?=some j→∀ r L,R j r=some L→R' i r=some L:=fun hi r L e=>hpin _ r L (by simp only [Tab.re,hσget hi]; exact e)
 have hσlt:∀ {j:Nat},j∈σ→j<h.next:=fun hj=>by
  rw [← hσ] at hj
  obtain ⟨q,hq,rfl⟩:=List.mem_map.1 hj
  obtain ⟨r,L,hL⟩:=hlive q hq
  rcases Nat.lt_or_ge q.1 h.next with h1 | h1
  · exact h1
  · rw [kh.fresh _ h1] at hL; cases hL
 have hσpend:∀ {j:Nat},j∈σ→B.pend j=none:=fun hj=>by
  rw [← hσ] at hj
  obtain ⟨q,hq,rfl⟩:=List.mem_map.1 hj
  obtain ⟨r,L,hL⟩:=hlive q hq
  exact kh.live hL
 have hσpend':∀ {i j:Nat},σ[i]?=some j→B'.pend i=none:=fun hi=>by
  have hj:=List.mem_of_getElem? hi
  rw [← hσ] at hj
  obtain ⟨q,hq,hqj⟩:=List.mem_map.1 hj
  obtain ⟨r,L,hL⟩:=hlive q hq
  rw [hqj] at hL
  exact s6.live (hpinσ hi r L hL)
 have hfind:∀ c,(∃ i,σ[i]?=some c∧Tab.find (σ.map fun j=>((j,none):Nat × Option Nat)) c=some (i,none))∨(c ∉ σ∧Tab.find (σ.map fun j=>((j,none):Nat × Option Nat)) c=none):=by
  intro c
  cases hc:Tab.find (σ.map fun j=>((j,none):Nat × Option Nat)) c with
  | none=>exact .inr ⟨ziz hc hnd,rfl⟩
  | some p =>
   obtain ⟨i,t⟩:=p
   have hi:=zkz hc
   have:=zfX (k:=0) hnd hi
   unfold Tab.find at hc
   rw [this,Nat.zero_add] at hc
   cases hc
   exact .inl ⟨i,hi,rfl⟩
 have hble:σ.length≤h'.next∧∃ objs,yX (zjE σ h.next) (vW σ h.next) h'.objs h'.next 0 h.objs=some objs∧h2=⟨objs,h.next+(h'.next - σ.length),h.glob⟩:=by
  unfold znD at hh2
  cases hbl:Nat.ble σ.length h'.next with
  | false=>rw [hbl] at hh2; cases hh2
  | true =>
   rw [hbl] at hh2
   simp only [cond_true] at hh2
   split at hh2
   · cases hh2
   · rename_i objs hobjs; cases hh2; exact ⟨Nat.le_of_ble_eq_true hbl,objs,hobjs,rfl⟩
 obtain ⟨hkn,objs2,hobjs2,rfl⟩:=hble
 have hFσ:∀ {i j:Nat},σ[i]?=some j→vW σ h.next i=j:=fun hi=>by simp only [vW,hi]
 have hFn:∀ {i:Nat},σ.length≤i→vW σ h.next i=h.next+(i - σ.length):=fun hi=>by simp only [vW,List.getElem?_eq_none hi]
 have hFinj:∀ a b,0≤a→0≤b→a<0+h'.next→b<0+h'.next→vW σ h.next a=vW σ h.next b→a=b:=by
  intro a b _ _ _ _ hab
  rcases Nat.lt_or_ge a σ.length with h1 | h1 <;> rcases Nat.lt_or_ge b σ.length with h3 | h3
  · have e1:=List.getElem?_eq_getElem h1
    have e2:=List.getElem?_eq_getElem h3
    rw [hFσ e1,hFσ e2] at hab
    rw [← hab] at e2
    exact yF hnd e1 e2
  · have e1:=List.getElem?_eq_getElem h1
    rw [hFσ e1,hFn h3] at hab
    have:=hσlt (List.mem_of_getElem? e1)
    omega
  · have e2:=List.getElem?_eq_getElem h3
    rw [hFn h1,hFσ e2] at hab
    have:=hσlt (List.mem_of_getElem? e2)
    omega
  · rw [hFn h1,hFn h3] at hab; omega
 have hget:=wq hobjs2 hFinj
 have hR2σ:∀ {i c r},σ[i]?=some c→zaz σ h.next R R' c r=R' i r:=fun hi=>by
  rcases hfind _ with ⟨i',h1,h3⟩ | ⟨h1,_⟩
  · have:=yF hnd hi h1
    subst this
    simp only [zaz,h3]
  · exact absurd (List.mem_of_getElem? hi) h1
 have hR2n:∀ {i r},σ.length≤i→zaz σ h.next R R' (h.next+(i - σ.length)) r=R' i r:=fun {i r} hi=>by
  rcases hfind (h.next+(i - σ.length)) with ⟨i',h1,h3⟩ | ⟨h1,h3⟩
  · have:=hσlt (List.mem_of_getElem? h1); omega
  · simp only [zaz,h3]
    rw [if_pos (by omega)]
    congr 1
    omega
 have hR2o:∀ {c r},c ∉ σ→c<h.next→zaz σ h.next R R' c r=R c r:=fun {c r} h1 h3=>by
  rcases hfind c with ⟨i',h4,_⟩ | ⟨_,h4⟩
  · exact absurd (List.mem_of_getElem? h4) h1
  · simp only [zaz,h4]
    rw [if_neg (by omega)]
 have hR2F:∀ i r,zaz σ h.next R R' (vW σ h.next i) r=R' i r:=fun i r=>by
  rcases Nat.lt_or_ge i σ.length with h1 | h1
  · have e1:=List.getElem?_eq_getElem h1
    rw [hFσ e1,hR2σ e1]
  · rw [hFn h1,hR2n h1]
 have hren:RenOk (zjE σ h.next) R' (zaz σ h.next R R'):=fun i r j r' e L hL=>by
  simp only [zjE,Option.some.injEq,Prod.mk.injEq] at e
  obtain ⟨rfl,rfl⟩:=e
  rw [hR2F]; exact hL
 have hparts:∀ c,(c ∉ σ∧c<h.next)∨∃ i,vW σ h.next i=c∧(c∈σ∨h.next≤c):=by
  intro c
  by_cases hc:c∈σ
  · obtain ⟨i,hi,he⟩:=List.getElem_of_mem hc
    exact .inr ⟨i,hFσ (by rw [List.getElem?_eq_getElem hi,he]),.inl hc⟩
  · rcases Nat.lt_or_ge c h.next with h1 | h1
    · exact .inl ⟨hc,h1⟩
    · exact .inr ⟨σ.length+(c - h.next),by rw [hFn (by omega)]; omega,.inr h1⟩
 have hnot:∀ {c i},c ∉ σ→c<h.next→vW σ h.next i≠c:=fun {c i} h1 h3 he=>by
  rcases Nat.lt_or_ge i σ.length with h4 | h4
  · have e1:=List.getElem?_eq_getElem h4
    rw [hFσ e1] at he
    exact h1 (he▸List.mem_of_getElem? e1)
  · rw [hFn h4] at he; omega
 have hleR:R.le (zaz σ h.next R R'):=fun c r L e=>by
  have hc:c<h.next:=by
   rcases Nat.lt_or_ge c h.next with h1 | h1
   · exact h1
   · rw [kh.fresh c h1] at e; cases e
  by_cases hcσ:c∈σ
  · obtain ⟨i,hi,he⟩:=List.getElem_of_mem hcσ
    have e1:σ[i]?=some c:=by rw [List.getElem?_eq_getElem hi,he]
    rw [hR2σ e1]; exact hpinσ e1 r L e
  · rw [hR2o hcσ hc]; exact e
 have howned:∀ b,(zeT B R w σ (z7 l)).own b→B.may b:=by
  rintro b ⟨j,_,hj,r0,L,hL,rfl⟩
  exact (kh.place j r0 L hL).1.elim id fun h=>absurd h hj
 have hsame:∀ {c r0 L},c ∉ σ→R c r0=some L→w'.heap[L.block]?=w.heap[L.block]?:=fun {c r0 L} hc hL=>by
  refine hold.other _ (kh.place c r0 L hL).2 ?_
  rintro ⟨j,hj,hjr,r1,M,hM,hbl⟩
  have:=kh.apart j r1 c r0 M L hM hL hbl (.inl hjr)
  exact hc (this▸hj)
 have hmay:∀ {i r0 L},R' i r0=some L→¬ B'.ro i→B.may L.block:=fun {i r0 L} hL hr=>by
  have:=(s6.place i r0 L hL).1.elim id fun h=>absurd h hr
  rcases this with h1 | h1
  · refine .inl (Nat.le_trans hroom ?_)
    have:B'.env.heap.size≤L.block:=h1
    rw [s5] at this
    exact this
  · rw [s5] at h1
    exact howned _ h1
 have hrob:∀ {i r0 L},R' i r0=some L→B'.ro i→∃ j∈σ,B.ro j∧∃ r1 M,R j r1=some M∧M.block=L.block:=fun {i r0 L} hL hr=>by
  have:=s6.rol i r0 L hr hL
  rw [s5] at this
  obtain ⟨j,h1,h3,r1,M,h4,h5⟩:=this
  exact ⟨j,h1,h3,r1,M,h4,h5⟩
 have hroF:∀ i,(xi B B' σ h.next ⟨objs2,h.next+(h'.next - σ.length),h.glob⟩).ro (vW σ h.next i)=B'.ro i:=fun i=>by
  rcases Nat.lt_or_ge i σ.length with h1 | h1
  · have e1:=List.getElem?_eq_getElem h1
    rw [hFσ e1]
    rcases hfind σ[i] with ⟨i',h3,h4⟩ | ⟨h3,_⟩
    · have:=yF hnd e1 h3
      subst this
      simp only [xi,h4]
    · exact absurd (List.mem_of_getElem? e1) h3
  · rw [hFn h1]
    rcases hfind (h.next+(i - σ.length)) with ⟨i',h3,_⟩ | ⟨_,h4⟩
    · have:=hσlt (List.mem_of_getElem? h3); omega
    · simp only [xi,h4]
      rw [if_pos (by omega)]
      congr 1
      omega
 have hroO:∀ c,c ∉ σ→c<h.next→(xi B B' σ h.next ⟨objs2,h.next+(h'.next - σ.length),h.glob⟩).ro c=B.ro c:=fun c h1 h3=>by
  rcases hfind c with ⟨i',h4,_⟩ | ⟨_,h4⟩
  · exact absurd (List.mem_of_getElem? h4) h1
  · simp only [xi,h4]
    rw [if_neg (by omega)]
 have hpendσ:∀ c,c∈σ→(xi B B' σ h.next ⟨objs2,h.next+(h'.next - σ.length),h.glob⟩).pend c=none:=fun c h1=>by
  rcases hfind c with ⟨i',_,h4⟩ | ⟨h4,_⟩
  · simp only [xi,h4]
  · exact absurd h1 h4
 have hpendO:∀ c,c ∉ σ→c<h.next→(xi B B' σ h.next ⟨objs2,h.next+(h'.next - σ.length),h.glob⟩).pend c=B.pend c:=fun c h1 h3=>by
  rcases hfind c with ⟨i',h4,_⟩ | ⟨_,h4⟩
  · exact absurd (List.mem_of_getElem? h4) h1
  · simp only [xi,h4]
    rw [if_neg (by omega)]
 have hpendN:∀ c,h.next≤c→(xi B B' σ h.next ⟨objs2,h.next+(h'.next - σ.length),h.glob⟩).pend c=(match B'.pend (σ.length+(c - h.next)) with
  | none=>none
  | some _=>(⟨objs2,h.next+(h'.next - σ.length),h.glob⟩:AHeap).get c):=fun c h1=>by
  rcases hfind c with ⟨i',h3,_⟩ | ⟨_,h4⟩
  · have:=hσlt (List.mem_of_getElem? h3); omega
  · simp only [xi,h4]
    rw [if_pos h1]
 have hH:HRel P (xi B B' σ h.next ⟨objs2,h.next+(h'.next - σ.length),h.glob⟩) (zaz σ h.next R R') ⟨objs2,h.next+(h'.next - σ.length),h.glob⟩ w':=by
  refine ⟨fun c hc r0=>?_,fun c o2 eo hpe=>?_,fun c o2 e=>?_,fun c r0 L e=>?_,fun c hc=>?_,fun c hc=>?_,fun c r0 L hc e=>?_,fun b hbm=>?_,fun c r0 L e=>?_,fun c r0 c' r0' L L' e e' hbl hor=>?_,fun c r0 r0' L L' e e' hbl=>?_,fun g cc e=>?_⟩
  ·
   have hc:h.next+(h'.next - σ.length)≤c:=hc
   have:zaz σ h.next R R' c r0=R' (σ.length+(c - h.next)) r0:=by
    have:=hR2n (i:=σ.length+(c - h.next)) (r:=r0) (by omega)
    rwa [show h.next+(σ.length+(c - h.next) - σ.length)=c by omega] at this
   rw [this]
   exact s6.fresh _ (by omega) r0
  ·
   rcases hget c o2 eo with ⟨i,_,hi,hic,o,ho1,ho2⟩ | ⟨hno,hold2⟩
   · subst hic
     have hpi:B'.pend i=none:=by
      rcases Nat.lt_or_ge i σ.length with h1 | h1
      · exact hσpend' (List.getElem?_eq_getElem h1)
      · rw [hFn h1,hpendN _ (by omega)] at hpe
        rw [show σ.length+(h.next+(i - σ.length) - h.next)=i by omega] at hpe
        cases hb:B'.pend i with
        | none=>rfl
        | some o0 =>
         rw [hb] at hpe
         simp only at hpe
         rw [hFn h1] at eo
         rw [eo] at hpe
         cases hpe
     exact zdA hren (fun _ r=>hR2F i r) (fun t0 ht=>by cases ht) ho2 (fun f hf=>hp2 f (zbX (Nat.zero_le _) hi ho1 hf)) (s6.obj i o ho1 hpi)
   · rcases hparts c with ⟨h1,h3⟩ | ⟨i,hic,h3⟩
     · rw [hpendO c h1 h3] at hpe
       exact (kh.obj c o2 hold2 hpe).mono hleR (fun r=>hR2o h1 h3) (fun r L hL=>hsame h1 hL)
     · exfalso
       rcases h3 with h3 | h3
       · obtain ⟨i',hi',he⟩:=List.getElem_of_mem h3
         exact hno i' (Nat.zero_le _) (by omega) (hFσ (by rw [List.getElem?_eq_getElem hi',he]))
       · have hold2:h.get c=some o2:=hold2
         have hpc:B.pend c=none:=by
          cases hb:B.pend c with
          | none=>rfl
          | some o0=>exact absurd (kh.pend c o0 hb).1 (Nat.not_lt.2 h3)
         obtain ⟨r1,L,hL⟩:=(kh.obj c o2 hold2 hpc).live
         rw [kh.fresh c h3] at hL
         cases hL
  ·
   by_cases hc:c∈σ
   · rw [hpendσ c hc] at e; cases e
   · rcases Nat.lt_or_ge c h.next with h1 | h1
     · rw [hpendO c hc h1] at e
       obtain ⟨g1,g2,g3⟩:=kh.pend c o2 e
       refine ⟨by show c<h.next+_; omega,?_,fun r0=>by rw [hR2o hc h1]; exact g3 r0⟩
       exact (y8 hobjs2 c fun a _ _=>hnot hc h1).trans g2
     · rw [hpendN c h1] at e
       cases hb:B'.pend (σ.length+(c - h.next)) with
       | none=>rw [hb] at e; cases e
       | some o0 =>
        rw [hb] at e
        simp only at e
        obtain ⟨g1,g2,g3⟩:=s6.pend _ o0 hb
        refine ⟨by show c<h.next+_; omega,e,fun r0=>?_⟩
        have:=hR2n (i:=σ.length+(c - h.next)) (r:=r0) (by omega)
        rw [show h.next+(σ.length+(c - h.next) - σ.length)=c by omega] at this
        rw [this]; exact g3 r0
  ·
   rcases hparts c with ⟨h1,h3⟩ | ⟨i,rfl,_⟩
   · rw [hR2o h1 h3] at e
     refine ⟨?_,Nat.lt_of_lt_of_le (kh.place c r0 L e).2 s7.size⟩
     rw [hroO c h1 h3]
     exact (kh.place c r0 L e).1
   · rw [hR2F] at e
     refine ⟨?_,(s6.place i r0 L e).2⟩
     rw [hroF]
     by_cases hr:B'.ro i
     · exact .inr hr
     · exact .inl (hmay e hr)
  ·
   rcases hparts c with ⟨h1,h3⟩ | ⟨i,rfl,h3⟩
   · rw [hroO c h1 h3] at hc
     refine ⟨by show c<h.next+_; omega,fun o2 eo=>?_⟩
     rcases hget c o2 eo with ⟨i,_,hi,hic,_⟩ | ⟨_,hold2⟩
     · exact absurd hic (hnot h1 h3)
     · exact (kh.rd c hc).2 o2 hold2
   · rw [hroF] at hc
     obtain ⟨g1,g2⟩:=s6.rd i hc
     refine ⟨?_,fun o2 eo=>?_⟩
     · show vW σ h.next i<h.next+(h'.next - σ.length)
       rcases Nat.lt_or_ge i σ.length with h4 | h4
       · have e1:=List.getElem?_eq_getElem h4
         rw [hFσ e1]
         have:=hσlt (List.mem_of_getElem? e1)
         omega
       · rw [hFn h4]; omega
     · rcases hget _ o2 eo with ⟨i',_,hi',hic,o,ho1,ho2⟩ | ⟨hno,_⟩
       · have:=hFinj i' i (Nat.zero_le _) (Nat.zero_le _) hi' (by omega) hic
         subst this
         have:=g2 o ho1
         cases o with
         | ro c lo n=>simp only [zft] at ho2; cases ho2; rfl
         | _=>cases this
       · exact absurd rfl (hno i (Nat.zero_le _) (by omega))
  ·
   by_cases hcσ:c∈σ
   · exact hpendσ c hcσ
   · rcases Nat.lt_or_ge c h.next with h1 | h1
     · rw [hroO c hcσ h1] at hc
       rw [hpendO c hcσ h1]
       exact kh.rp c hc
     · have hF:vW σ h.next (σ.length+(c - h.next))=c:=by rw [hFn (by omega)]; omega
       have:=hroF (σ.length+(c - h.next))
       rw [hF] at this
       rw [this] at hc
       rw [hpendN c h1,s6.rp _ hc]
  ·
   rcases hparts c with ⟨h1,h3⟩ | ⟨i,rfl,_⟩
   · rw [hroO c h1 h3] at hc
     rw [hR2o h1 h3] at e
     exact kh.rol c r0 L hc e
   · rw [hroF] at hc
     rw [hR2F] at e
     obtain ⟨j,_,hj,r1,M,hM,hbl⟩:=hrob e hc
     rw [← hbl]
     exact kh.rol j r1 M hj hM
  ·
   have hbm':¬ B.may b:=hbm
   have hlt:=Nat.lt_of_lt_of_le (Base.low_lt hbm') hroom
   exact (hold.other b hlt (fun h=>hbm' (howned b h))).trans (kh.low b hbm')
  · exact hleR _ _ _ (kh.pin c r0 L e)
  ·
   have cross:∀ {c r0 L i r1 M},c ∉ σ→c<h.next→R c r0=some L→R' i r1=some M→L.block=M.block→(¬ B.ro c∨¬ B'.ro i)→False:=by
    intro c r0 L i r1 M h1 h3 hL hM hbl hor
    by_cases hr:B'.ro i
    · obtain ⟨j,hj,hjr,r2,N,hN,hbN⟩:=hrob hM hr
      have:=kh.apart c r0 j r2 L N hL hN (hbl.trans hbN.symm) (.inl (hor.resolve_right (fun h=>h hr)))
      exact h1 (this▸hj)
    · have:=(s6.place i r1 M hM).1.elim id fun h=>absurd h hr
      rcases this with h4 | h4
      · have h4:B'.env.heap.size≤M.block:=h4
        rw [s5] at h4
        have h4:w.heap.size≤M.block:=h4
        have:=(kh.place c r0 L hL).2
        omega
      · rw [s5] at h4
        obtain ⟨j,hj,hjr,r2,N,hN,hbN⟩:=h4
        have:=kh.apart c r0 j r2 L N hL hN (hbl.trans hbN.symm) (.inr hjr)
        exact h1 (this▸hj)
   rcases hparts c with ⟨h1,h3⟩ | ⟨i,rfl,_⟩ <;> rcases hparts c' with ⟨h1',h3'⟩ | ⟨i',rfl,_⟩
   · rw [hR2o h1 h3] at e
     rw [hR2o h1' h3'] at e'
     rw [hroO c h1 h3,hroO c' h1' h3'] at hor
     exact kh.apart c r0 c' r0' L L' e e' hbl hor
   · rw [hR2o h1 h3] at e
     rw [hR2F] at e'
     rw [hroO c h1 h3,hroF] at hor
     exact (cross h1 h3 e e' hbl hor).elim
   · rw [hR2F] at e
     rw [hR2o h1' h3'] at e'
     rw [hroO c' h1' h3',hroF] at hor
     exact (cross h1' h3' e' e hbl.symm hor.symm).elim
   · rw [hR2F] at e e'
     rw [hroF,hroF] at hor
     rw [s6.apart i r0 i' r0' L L' e e' hbl hor]
  ·
   rcases hparts c with ⟨h1,h3⟩ | ⟨i,rfl,_⟩
   · rw [hR2o h1 h3] at e e'
     exact kh.same c r0 r0' L L' e e' hbl
   · rw [hR2F] at e e'
     exact s6.same i r0 r0' L L' e e' hbl
  ·
   obtain ⟨g1,cs,el,fz,g2,g3⟩:=kh.glob g cc e
   refine ⟨g1,cs,el,fz,(hold.other g (xF g2) (fun h=>g1 (howned g h))).trans g2,g3⟩
 have hkeep:B.keeps (xi B B' σ h.next ⟨objs2,h.next+(h'.next - σ.length),h.glob⟩) (r.length+1):=⟨rfl,fun id ob e _=>by
  have h1:id ∉ σ:=fun hm=>by rw [hσpend hm] at e; cases e
  have h3:=(kh.pend id ob e).1
  exact ⟨by rw [hpendO id h1 h3]; exact e,rfl⟩⟩
 obtain ⟨c',q1,q2⟩:=js hgo
 have hsim:Sim P w0 base ⟨c',r,⟨objs2,h.next+(h'.next - σ.length),h.glob⟩⟩ (f.finish v') (fs'++base) w' :=
  ⟨xi B B' σ h.next ⟨objs2,h.next+(h'.next - σ.length),h.glob⟩,zaz σ h.next R R',fs',rfl,hb,hH,⟨s7.os.trans ho.os,s7.tape.trans ho.tape,s7.output.trans ho.output,Nat.le_trans ho.size s7.size,Nat.le_trans ho.drawn s7.drawn⟩,
   xp (kf.mono (h':=h) hleR hkeep (Nat.lt_succ_self _)) hcm q1 (y0 hren 99 _ _ _ hv2 s4),kr.mono hleR hkeep (Nat.le_succ _)⟩
 obtain ⟨fr2,w2,B2,R2,v3,v3',h3,t1,t2⟩:=hK _ q2 w0 base _ _ w' hk hsim
 exact ⟨fr2,w2,B2,R2,v3,v3',h3,s1.trans (.head (ziD s2) t1),t2⟩
end
end Go.Proofs.Ytehelionjafnkaa.Ev
end
