import Derived.WalkKit
import Derived.ProofKit
import Derived.OpenShut
import Derived.Test.YtehelionjafnkaaP00
import Derived.Test.YtehelionjafnkaaP01
import Derived.Test.YtehelionjafnkaaP02
section
namespace Go.Proofs.Ytehelionjafnkaa.Ev
open Go
section
variable {P:Program} {w0:Env} {base:List Frame} {B:Base} {R:Bij} {af:AFrame} {rest:List AFrame} {h:AHeap} {fr:Frame} {fs:List Frame} {w:World}
theorem Plain.ends (k:Plain P w0 base B R af rest h fr fs w)(hs:Slots R af.tmps fr.tmps){m:AM}(e:(some ⟨af.withMode .returning,rest,h⟩:Option AM)=some m)
 (hst:step P (lone fr (fs++base) w)=.next (lone { fr with mode:=.returning } (fs++base) w)):zcI P w0 base m fr (fs++base) w:=by
 cases e
 refine ⟨_,_,_,.one hst,B,R,fs,rfl,k.base,k.heap,k.old,?_,k.below⟩
 obtain ⟨k1,k2,k3,k4,k5,k6,k7,k8,k9⟩:=k.top
 obtain ⟨fn,n,t,td,ds,mode,kind,round⟩:=af
 exact ⟨k1,k2,k3,k4,k5,k6,rfl,k8,hs⟩
theorem zjx (hmix:P.follows .mixedOrders=true)(k:Plain P w0 base B R af rest h fr fs w)(hs:Slots R af.tmps fr.tmps){c:Code}{kk:List AItem}{kk':List Item}(hfr:fr.todo=.code c::kk')(hk:All2 (ItemRel R) kk kk')
 {m:AM} (e:zme P af rest h c kk=some m):zcI P w0 base m fr (fs++base) w:=by
 have hm:=zkr k
 have cons:∀ {a:AItem} {b:Item} {as:List AItem} {bs:List Item},ItemRel R a b→All2 (ItemRel R) as bs→All2 (ItemRel R) (a::as) (b::bs):=fun h1 h2=>⟨_,_,rfl,h1,h2⟩
 have hround:=k.top.round
 have leave:∀ {jump:Option Code},w9 P af rest h jump=some m →
  (fr.roundOf=none→(jump=none∨jump=some .ret)→(stepG P true { frame:=fr,callers:=fs++base,status:=.running,dying:=none } w).bare=.go { frame:={ fr with mode:=.returning },callers:=fs++base,status:=.running,dying:=none } w) →
  (∀ l,fr.roundOf=some l→(stepG P true { frame:=fr,callers:=fs++base,status:=.running,dying:=none } w).bare=(match (Instr.endRound l jump).run P w with
   | .ok v w=>(doReturn P true fr (fs++base) none v w).bare
   | .halt _ w => (GStep.ended (.stuck "range over a function: no such loop" (fr.pos P)) w).bare)) → zcI P w0 base m fr (fs ++ base) w := by
  intro jump e h1 h2
  unfold w9 at e
  split at e
  · rename_i hr
    rw [hr] at hround
    split at e
    · exact k.ends hs e (step_lone_go (h1 hround (.inl rfl)))
    · exact k.ends hs e (step_lone_go (h1 hround (.inr rfl)))
    · cases e
  · rename_i l hr
    exact vc k hr e h2
 cases c with
 | skip=>exact k.to hs hk e (step_lone_go (by simp [stepG,stepG.exec,hm,hfr]))
 | label l=>exact k.to hs hk e (step_lone_go (by simp [stepG,stepG.exec,hm,hfr]))
 | seq a b=>exact k.to (todo:=.code a::.code b::kk) (todo':=.code a::.code b::kk') hs (cons rfl (cons rfl hk)) e (step_lone_go (by simp [stepG,stepG.exec,hm,hfr]))
 | cond c a b =>
  change zj2 af rest h a b kk (ev af.tmps c)=some m at e
  unfold zj2 at e
  split at e
  · rename_i t hc
    have hv:fr.eval c=.bool t:=vH (R:=R) (fun u _ hu=>hs u _ hu) hc
    cases t with
    | true=>exact k.to (todo:=.code a::kk) (todo':=.code a::kk') hs (cons rfl hk) e (step_lone_go (by simp [stepG,stepG.exec,hm,hfr,hv]))
    | false=>exact k.to (todo:=.code b::kk) (todo':=.code b::kk') hs (cons rfl hk) e (step_lone_go (by simp [stepG,stepG.exec,hm,hfr,hv]))
  · cases e
 | block id b=>exact k.to (todo:=.code b::.inBlock id::kk) (todo':=.code b::.inBlock id::kk') hs (cons rfl (cons rfl hk)) e (step_lone_go (by simp [stepG,stepG.exec,hm,hfr]))
 | loop b=>exact k.to (todo:=.code b::.inLoop b::kk) (todo':=.code b::.inLoop b::kk') hs (cons rfl (cons rfl hk)) e (step_lone_go (by simp [stepG,stepG.exec,hm,hfr]))
 | scope b=>exact k.to (todo:=.code b::.inScope b::kk) (todo':=.code b::.inScope b::kk') hs (cons rfl (cons rfl hk)) e (step_lone_go (by simp [stepG,stepG.exec,hm,hfr]))
 | ret =>
  change w9 P af rest h (some .ret)=some m at e
  refine leave e (fun hr _=>by simp [stepG,stepG.exec,hm,hfr,hr]) fun l hr=>?_
  simp only [stepG,stepG.exec,hm,hfr,hr,Sem.runT_eq]
  cases (Instr.endRound l (some .ret)).run P w <;> simp
 | exit id =>
  change (match zdV id kk with | some k=>toA af rest h k | none=>w9 P af rest h (some (.exit id)))=some m at e
  obtain ⟨x1,x2⟩:=zgm (id:=id) hk
  cases hx:zdV id kk with
  | some q =>
   rw [hx] at e
   obtain ⟨q',g1,g2⟩:=x1 q hx
   exact k.to hs g2 e (step_lone_go (by simp [stepG,stepG.exec,hm,hfr,g1]))
  | none =>
   rw [hx] at e
   have g:=x2 hx
   refine leave e (fun hr hj=>by rcases hj with hj | hj <;> cases hj) fun l hr=>?_
   simp only [stepG,stepG.exec,hm,hfr,hr,Sem.runT_eq,g,Option.elim_none]
   cases (Instr.endRound l (some (.exit id))).run P w <;> simp
 | goto l =>
  change (match zdO l kk with | some k=>toA af rest h k | none=>w9 P af rest h (some (.goto l)))=some m at e
  obtain ⟨x1,x2⟩:=zgh (l:=l) hk
  cases hx:zdO l kk with
  | some q =>
   rw [hx] at e
   obtain ⟨q',g1,g2⟩:=x1 q hx
   exact k.to hs g2 e (step_lone_go (by simp [stepG,stepG.exec,hm,hfr,g1]))
  | none =>
   rw [hx] at e
   have g:=x2 hx
   refine leave e (fun hr hj=>by rcases hj with hj | hj <;> cases hj) fun l' hr=>?_
   simp only [stepG,stepG.exec,hm,hfr,hr,Sem.runT_eq,g,Option.elim_none]
   cases (Instr.endRound l' (some (.goto l))).run P w <;> simp
 | region id ops draw =>
  change ziF P af rest h ops draw kk=some m at e
  cases draw with
  | false =>
   refine k.to (todo:=.ops ops.toList ops.toList::kk) (todo':=.inRegion ops (List.range ops.size)::kk') hs (cons ⟨ops,_,rfl,rfl,?_⟩ hk) e (step_lone_go (by simp [stepG,stepG.exec,hm,hfr]))
   apply List.ext_getElem?
   intro i
   simp only [List.getElem?_map]
   by_cases hi:i<ops.size
   · rw [List.getElem?_range hi]; simp [hi]
   · rw [List.getElem?_eq_none (by simpa using hi),List.getElem?_eq_none (by simpa using hi)]; rfl
  | true =>
   change (match zgq P ops.toList (zz P ops.toList) with | false=>none | true=>toA af rest h (.drw ops (zz P ops.toList).ord []::kk))=some m at e
   split at e
   · cases e
   · rename_i hp
     cases e
     have pi:=zhj hp
     obtain ⟨g1,g2⟩:=zbG pi (w.tape w.drawn (.order fr.fn id))
     refine ⟨_,_,_,.one (step_lone_go (fr':={ fr with todo:=.inRegion ops (Region.linearise .any ops (w.tape w.drawn (.order fr.fn id)))::kk' }) (cs':=fs++base) (w':=w.drew) ?_),B,R,fs,rfl,k.base,k.heap.heap_eq rfl,⟨k.old.os,k.old.tape,k.old.output,k.old.size,Nat.le_succ_of_le k.old.drawn⟩,?_,k.below⟩
     · simp [stepG,stepG.exec,hm,hfr,choose,Sem.run,Question.forced,Question.cut,Region.schedule,hmix]
     · obtain ⟨k1,k2,k3,k4,k5,k6,k7,k8,k9⟩:=k.top
       have hrun:=k.run
       obtain ⟨fn,n,t,td,ds,mode,kind,round⟩:=af
       simp only at hrun; subst hrun
       obtain ⟨a1,a2,a3⟩:=qC pi.ord
       exact ⟨k1,k2,k3,k4,k5,k6,k7,k8,_,kk',rfl,hk,⟨pi,rfl,g1,fun i hi=>(g2 i).2 (by have:=(a2 i hi).1; simpa using this),fun i hi=>(g2 i).1 hi,fun i hi=>absurd hi List.not_mem_nil,fun hh=>(by cases hh),fun u v hv=>.inr (hs u v hv),fun p hp=>absurd hp List.not_mem_nil,fun p hp=>absurd hp List.not_mem_nil⟩⟩
 | rangeFunc f params assign body=>exact zc7 k hs hfr hk e
 | refuse why=>cases e
end
end Go.Proofs.Ytehelionjafnkaa.Ev
end
section
namespace Go.Proofs.Ytehelionjafnkaa.Ev
open Go
section
variable {P:Program} {w0:Env} {base:List Frame} {B:Base} {R:Bij} {af:AFrame} {rest:List AFrame} {h:AHeap} {fr:Frame} {fs:List Frame} {w:World}
theorem wrun (k:Wait P w0 base B R af rest h fr fs w):fr.mode=.run:=by
 have:=k.top.mode
 rw [k.run] at this; exact this
theorem zia {ρ:Operand→Option AV}{c:Call}{r:AR}(e:opA P ρ h (.defer c)=some r):∃ d,r=.dfr d:=by
 change jR ρ c=some r at e
 unfold jR at e
 split at e
 · cases e
 · split at e
   · split at e
     · cases e; exact ⟨_,rfl⟩
     · cases e
   · split at e
     · cases e
     · cases e; exact ⟨_,rfl⟩
   · cases e
theorem zB {v:Option AV}{d:ADef}(e:yp h v=some (.dfr d)):False:=by obtain ⟨x,_,e2⟩:=zu e; cases e2
theorem qG {v:Option (AV × AHeap)}{d:ADef}(e:wW v=some (.dfr d)):False:=by obtain ⟨x,y,_,e2⟩:=zK e; cases e2
theorem kq {v:Option AHeap}{d:ADef}(e:zbr v=some (.dfr d)):False:=by obtain ⟨x,_,e2⟩:=wa e; cases e2
theorem zh5 {v:Option AHeap}{d:ADef}(e:zbE v=some (.dfr d)):False:=by obtain ⟨x,_,e2⟩:=zaz e; cases e2
theorem zeC {f:FuncId}{args:List AV}{d:ADef}(e:zee P h f args=some (.dfr d)):False:=by
 unfold zee at e
 split at e
 · cases e
 · split at e
   · split at e <;> cases e
   · unfold jk vK zik wC zdl yu zaO qH zdq zfk zc8 zhP ziI qR zbd zbh at e
     repeat' split at e
     all_goals cases e
theorem wG {x:AV}{name:String}{args:List AV}{d:ADef}(e:xL P h x name args=some (.dfr d)):False:=by
 unfold xL at e
 split at e
 · split at e
   · cases e
   · exact zeC e
 · cases e
theorem zet {b:Builtin}{ats:Array TypeId}{args:List AV}{d:ADef}(e:xK P h b ats args=some (.dfr d)):False:=by
 unfold xK at e
 split at e
 · exact zB e
 · unfold zg zcN zjr zfH zbe zc5 at e
   repeat' split at e
   all_goals first
    | cases e; done
    | exact qG e
    | exact zh5 e
theorem zfC {ρ:Operand→Option AV}{c:Call}{d:ADef}(e:zV P ρ h c=some (.dfr d)):False:=by
 unfold zV at e
 split at e
 · cases e
 · split at e
   · exact zet e
   · split at e
     · cases e
     · exact wG e
   · split at e
     · cases e
     · unfold ziq at e
       split at e
       · unfold qg at e
         repeat' split at e
         all_goals first
          | exact zeC e
          | exact wG e
          | cases e
       · cases e
       · cases e
theorem zkS {ρ:Operand→Option AV}{op:Op}{d:ADef}(e:opA P ρ h op=some (.dfr d)):∃ c,op=.defer c:=by
 cases op with
 | «defer» c=>exact ⟨c,rfl⟩
 | call c=>exact absurd (zfC (show zV P ρ h c=_ from e)) id
 | next it s =>
  exfalso
  obtain ⟨a,_,e⟩:=zi (show yB ρ it _=_ from e)
  unfold zjL zhA at e
  repeat' split at e
  all_goals cases e
 | range t x =>
  exfalso
  obtain ⟨a,_,e⟩:=zi (show yB ρ x _=_ from e)
  unfold zgo at e
  repeat' split at e
  all_goals cases e
 | panic x =>
  exfalso
  obtain ⟨a,_,e⟩:=zi (show yB ρ x _=_ from e)
  unfold zhp at e
  split at e <;> cases e
 | makeMap t r =>
  exfalso
  change zez P ρ h t r=_ at e
  unfold zez at e
  repeat' split at e
  all_goals cases e
 | convert s d x =>
  exfalso
  obtain ⟨a,_,e⟩:=zi (show yB ρ x _=_ from e)
  unfold zaP at e
  split at e
  · exact qG e
  · exact zB e
 | alloc t =>
  exfalso
  change kJ P h t (yS P t)=_ at e
  unfold kJ at e
  split at e
  · cases e
  · exact qG e
 | build t parts =>
  exfalso
  change wZ P h t (qK ρ parts.toList)=_ at e
  unfold wZ at e
  split at e
  · cases e
  · exact zB e
 | buildSlice t n parts =>
  exfalso
  change zT P h t n (qK ρ parts.toList)=_ at e
  unfold zT at e
  split at e
  · cases e
  · exact qG e
 | insert t m k x =>
  exfalso
  change yf P ρ h t m k x=_ at e
  unfold yf at e
  repeat' split at e
  all_goals first | exact kq e | cases e
 | mapUpdate t m k x =>
  exfalso
  change yf P ρ h t m k x=_ at e
  unfold yf at e
  repeat' split at e
  all_goals first | exact kq e | cases e
 | entryStore t m s x =>
  exfalso
  change wl ρ h m s x=_ at e
  unfold wl at e
  repeat' split at e
  all_goals first | exact kq e | cases e
 | mapEntry t x y=>obtain ⟨a,b,_,_,e⟩:=xc (show two ρ x y _=_ from e); exact absurd (qG e) id
 | move x=>exact absurd (zB (show yp h _=_ from e)) id
 | assign x=>exact absurd (zB (show yp h _=_ from e)) id
 | pick c a b=>exact absurd (zB (show yp h _=_ from e)) id
 | makeFunc f a b=>exact absurd (zB (show yp h _=_ from e)) id
 | slice t x a b c=>exact absurd (zB (show yp h _=_ from e)) id
 | extract x i=>exact absurd (zB (show yp h _=_ from e)) id
 | box t x=>obtain ⟨a,_,e⟩:=zi (show yB ρ x _=_ from e); exact absurd (qG e) id
 | load t x=>obtain ⟨a,_,e⟩:=zi (show yB ρ x _=_ from e); exact absurd (zB e) id
 | nilCheck x=>obtain ⟨a,_,e⟩:=zi (show yB ρ x _=_ from e); exact absurd (zB e) id
 | unOp o t x=>obtain ⟨a,_,e⟩:=zi (show yB ρ x _=_ from e); exact absurd (zB e) id
 | makeInterface t x=>obtain ⟨a,_,e⟩:=zi (show yB ρ x _=_ from e); exact absurd (zB e) id
 | fieldAddr t x f=>obtain ⟨a,_,e⟩:=zi (show yB ρ x _=_ from e); exact absurd (zB e) id
 | field t x f=>obtain ⟨a,_,e⟩:=zi (show yB ρ x _=_ from e); exact absurd (zB e) id
 | typeAssert x t u k=>obtain ⟨a,_,e⟩:=zi (show yB ρ x _=_ from e); exact absurd (zB e) id
 | store t x y=>obtain ⟨a,b,_,_,e⟩:=xc (show two ρ x y _=_ from e); exact absurd (kq e) id
 | binOp o t x y u=>obtain ⟨a,b,_,_,e⟩:=xc (show two ρ x y _=_ from e); exact absurd (zB e) id
 | makeSlice t x y=>obtain ⟨a,b,_,_,e⟩:=xc (show two ρ x y _=_ from e); exact absurd (qG e) id
 | indexAddr t x y=>obtain ⟨a,b,_,_,e⟩:=xc (show two ρ x y _=_ from e); exact absurd (zB e) id
 | index t x y=>obtain ⟨a,b,_,_,e⟩:=xc (show two ρ x y _=_ from e); exact absurd (zB e) id
 | lookup t x y k=>obtain ⟨a,b,_,_,e⟩:=xc (show two ρ x y _=_ from e); exact absurd (zB e) id
 | _=>cases (show (none:Option AR)=_ from e)
theorem ze3 (k:Wait P w0 base B R af rest h fr fs w){s:Sem Next}{m:AM}(hop:OpRel P B R w s .recover)
 (hst:(stepG P true { frame:=fr,callers:=fs++base,status:=.running,dying:=none } w).bare=(stepG.apply P true fr (fs++base) none s w).bare) (e:zcE P af rest h=some m):zcI P w0 base m fr (fs++base) w:=by
 have hop:s.run P w=.ok .recover w:=hop
 unfold zcE at e
 split at e
 · cases e
 · rename_i hrd
   have hfr:fr.roundOf=none:=by have:=k.top.round; rw [hrd] at this; exact this
   split at e
   · rename_i hkd
     have hkf:fr.kind=.deferred:=k.top.kind.trans hkd
     split at e
     · cases e
     · rename_i c r
       obtain ⟨f,fs',rfl,kf,kr⟩:=k.below
       unfold zdS at e
       split at e
       · rename_i v older hm
         obtain ⟨a,e1,rfl⟩:=xT e
         have hmode:=kf.mode
         rw [hm] at hmode
         obtain ⟨ch',hfm,x',older',rfl,hx,hold⟩:=hmode
         obtain ⟨y1,y2,y3⟩:=x'
         obtain ⟨hx1,hx2,hx3⟩:=hx
         simp only at hx1 hx2 hx3
         subst hx2 hx3
         refine ⟨_,_,_,.one (step_lone_go (fr':=fr.finish y1) (cs':={ f with mode:=.panicking ({ v:=y1,recovered:=true }::older') }::(fs'++base)) (w':=w) ?_),B,R,{ f with mode:=.panicking ({ v:=y1,recovered:=true }::older') }::fs',rfl,k.base,k.heap,k.old,xp k.top k.run e1 hx1,_,_,rfl,?_,kr⟩
         · rw [hst]
           simp [stepG.apply,Sem.runT_eq,hop,hfr,tryRecover,hkf,hfm]
         · obtain ⟨k1,k2,k3,k4,k5,k6,k7,k8,k9⟩:=kf
           obtain ⟨fn,n,t,td,ds0,mode,kind,round⟩:=c
           simp only at hm; subst hm
           exact ⟨k1,k2,k3,k4,k5,k6,⟨_,rfl,_,_,rfl,⟨hx1,rfl,rfl⟩,hold⟩,k8,k9⟩
       · rename_i hno
         obtain ⟨a,e1,rfl⟩:=xT e
         have hmode:=kf.mode
         have hnone:tryRecover fr (f::(fs'++base))=none:=by
          unfold tryRecover
          rw [hkf]
          simp only []
          cases hm:c.mode with
          | run=>rw [hm] at hmode; rw [show f.mode=.run from hmode]
          | returning=>rw [hm] at hmode; rw [show f.mode=.returning from hmode]
          | panicking ch =>
           rw [hm] at hmode
           obtain ⟨ch',hfm,hc⟩:=hmode
           rw [hfm]
           cases ch with
           | nil=>cases hc; rfl
           | cons x older =>
            obtain ⟨x',older',rfl,hx,hold⟩:=hc
            obtain ⟨x1,x2⟩:=x
            cases x2 with
            | false=>exact absurd hm (hno _ _)
            | true =>
             obtain ⟨y1,y2,y3⟩:=x'
             obtain ⟨hx1,hx2,hx3⟩:=hx
             simp only at hx2 hx3
             subst hx2 hx3
             rfl
         refine ⟨_,_,_,.one (step_lone_go (fr':=fr.finish .nilIface) (cs':=f::(fs'++base)) (w':=w) ?_),B,R,f::fs',rfl,k.base,k.heap,k.old,xp k.top k.run e1 rfl,f,fs',rfl,kf,kr⟩
         rw [hst]
         simp [stepG.apply,Sem.runT_eq,hop,hfr,hnone]
   · cases e
theorem zfQ [XT P] [XTOk P] (k:Wait P w0 base B R af rest h fr fs w){ops:Array Oper}{i:Nat}{s':List Nat}{k':List Item}(ht:fr.todo=.inRegion ops (i::s')::k'){o:Oper}(ho:ops[i]?=some o)
 (hops:∀ x∈o.op.operands,∀ v,ev af.tmps x=some v→VRel R v (fr.eval x))
 (hgu:∀ g b q u v,o.guard=some (g,b)→ops[g]?=some q→q.dst=some u→af.tmps.get u=some v→∃ x,fr.tmps[u]?=some x∧VRel R v x)
 {m:AM} (e:qY P af rest h ops.toList o=some m):zcI P w0 base m fr (fs++base) w:=by
 have hm:=wrun k
 unfold qY at e
 split at e
 · cases e
 · rename_i wt hwt
   have hw:=jF hwt hgu
   split at e
   · exact ⟨_,_,_,.one (v8 hm ht ho hw),k.got (v:=xd) (x:=undef) ⟨[],rfl,rfl⟩ k.heap (Keeps.refl _ _) e⟩
   · unfold zaa at e
     split at e
     · cases e
     · rename_i r hr
       have hop:=zge k.heap k.room hops hr
       have hoper:(stepG P true { frame:=fr,callers:=fs++base,status:=.running,dying:=none } w)=stepG.oper P true fr (fs++base) none w:=by
        simp only [stepG,stepG.exec,hm,ht,ho,hw,Option.map_some,Option.getD_some,if_true]
       by_cases hdf:∃ c,o.op=.defer c
       · obtain ⟨c,hc⟩:=hdf
         obtain ⟨d,rfl⟩:=zia (by rw [hc] at hr; exact hr)
         change zft P af rest h d=some m at e
         unfold zft at e
         split at e
         · rename_i hrd
           have hfr:fr.roundOf=none:=by have:=k.top.round; rw [hrd] at this; exact this
           obtain ⟨d',r1,r2⟩:=hop
           have hst:(stepG P true { frame:=fr,callers:=fs++base,status:=.running,dying:=none } w)=stepG.apply P true fr (fs++base) none (execOp fr.eval o) w:=by
            rw [hoper]
            simp only [stepG.oper,Frame.oper?,ht,ho,hfr]
           obtain ⟨a,e1,rfl⟩:=xT e
           refine ⟨_,_,_,.one (step_lone_go (fr':=({ fr with defers:=d'::fr.defers }:Frame).finish undef) (cs':=fs++base) (w':=w) (by rw [hst]; simp [stepG.apply,Sem.runT_eq,r1])),B,R,fs,rfl,k.base,k.heap,k.old,?_,k.below⟩
           refine xp (h0:=h) (v:=xd) ?_ ?_ e1 ⟨[],rfl,rfl⟩
           · obtain ⟨k1,k2,k3,k4,k5,k6,k7,k8,k9⟩:=k.top
             obtain ⟨fn,n,t,td,ds,mode,kind,round⟩:=af
             exact ⟨k1,k2,k3,k4,k5,⟨_,_,rfl,r2,k6⟩,k7,k8,k9⟩
           · have:=k.run
             obtain ⟨fn,n,t,td,ds,mode,kind,round⟩:=af
             exact this
         · cases e
       · have hst:(stepG P true { frame:=fr,callers:=fs++base,status:=.running,dying:=none } w)=stepG.apply P true fr (fs++base) none (execOp fr.eval o) w:=by
          rw [hoper]
          simp only [stepG.oper,Frame.oper?,ht,ho]
          split
          · rename_i _ c _ hc
            exact absurd ⟨c,hc⟩ hdf
          · rfl
         cases r with
         | round l args=>exact zjb k hop (by rw [hst]) e
         | dfr d =>
          exact absurd (zkS hr) hdf
         | recover=>exact ze3 k hop (by rw [hst]) e
         | val v h'=>obtain ⟨a,b,c,h1,h2⟩:=wK k hop (by simp) (by simp) (by simp) (by rw [hst]) ⟨_,_,_,_,ht⟩ e; exact ⟨a,b,c,h1,h2⟩
         | skip h'=>obtain ⟨a,b,c,h1,h2⟩:=wK k hop (by simp) (by simp) (by simp) (by rw [hst]) ⟨_,_,_,_,ht⟩ e; exact ⟨a,b,c,h1,h2⟩
         | enter f as h'=>obtain ⟨a,b,c,h1,h2⟩:=wK k hop (by simp) (by simp) (by simp) (by rw [hst]) ⟨_,_,_,_,ht⟩ e; exact ⟨a,b,c,h1,h2⟩
         | panic v=>obtain ⟨a,b,c,h1,h2⟩:=wK k hop (by simp) (by simp) (by simp) (by rw [hst]) ⟨_,_,_,_,ht⟩ e; exact ⟨a,b,c,h1,h2⟩
end
end Go.Proofs.Ytehelionjafnkaa.Ev
end
section
namespace Go.Proofs.Ytehelionjafnkaa.Ev
open Go
section
variable {P:Program} {w0:Env} {base:List Frame} {B:Base} {R:Bij} {af:AFrame} {rest:List AFrame} {h:AHeap} {fr:Frame} {fs:List Frame} {w:World}
theorem ziU {ρ:Operand→Option AV}{o:Oper}{r:AR}(he:yq P o=false)(e:opA P ρ h o.op=some r):∃ v h',r=.val v h' ∧
 ((z8 o.op=true∧∃ vf ob,FloatAt P ρ o.op vf ob∧v=vf h.next∧h'=h.new ob)∨(z8 o.op=false∧kU o.op=true∧h'=h∧∀ h,opA P ρ h o.op=some (.val v h)) ∨
  (z8 o.op=false∧kU o.op=false∧yn P o.op=true∧h'=h)):=by
 cases hf:z8 o.op with
 | true =>
  obtain ⟨vf,ob,k⟩:=zju hf e
  have:=k.1 h
  rw [e] at this
  cases this
  exact ⟨_,_,rfl,.inl ⟨rfl,vf,ob,k,rfl,rfl⟩⟩
 | false =>
  cases hp:kU o.op with
  | true =>
   obtain ⟨v,rfl,k⟩:=zjY hp e
   exact ⟨_,_,rfl,.inr (.inl ⟨rfl,rfl,rfl,k⟩)⟩
  | false =>
   have hr:yn P o.op=true:=by
    cases hr:yn P o.op with
    | true=>rfl
    | false =>
     exfalso
     unfold yq at he
     cases hop:o.op <;> simp [hop] at he <;> simp [hop] at hf hp hr <;> simp [hf,hp,hr] at he
   obtain ⟨v,rfl⟩:=zfV hr e
   exact ⟨_,_,rfl,.inr (.inr ⟨rfl,rfl,hr,rfl⟩)⟩
theorem zkT {fn:FuncId}{n:Nat}{t:T AV}{all:Array Oper}{i:Nat}{l dn:List Nat}{kk:List AItem}{ds:List ADef}{mode:AMode}{kind:CallKind}{round:Option Nat}{o:Oper}{v:AV}{h':AHeap}{m:AM}(ho:all[i]?=some o)(he:yq P o=false)
 (e:jb rest h' (zG P ⟨fn,n,t,.drw all (i::l) dn::kk,ds,mode,kind,round⟩ h' v)=some m) :
 ∃ t',zhg t n o.dst v=some t'∧(z8 o.op=true→yP P all.toList 0 t' h' dn=true)∧m=⟨⟨fn,n,t',.drw all l (i::dn)::kk,ds,mode,kind,round⟩,rest,h'⟩:=by
 obtain ⟨a,e1,rfl⟩:=xT e
 change (match all[i]? with | none=>none | some o=>zcq P ⟨fn,n,t,.drw all (i::l) dn::kk,ds,mode,kind,round⟩ h' all i o l dn kk (zhg t n o.dst v))=some a at e1
 rw [ho] at e1
 simp only [] at e1
 unfold zcq at e1
 split at e1
 · cases e1
 · rename_i t' ht
   split at e1
   · cases e1
   · rename_i hre
     cases e1
     exact ⟨t',ht,fun hf=>by simpa [hf,he] using hre,rfl⟩
theorem zk4 [XT P] [XTOk P] (k:Plain P w0 base B R af rest h fr fs w){all:Array Oper}{l dn:List Nat}{kk:List AItem}(ht:af.todo=.drw all l dn::kk){s:List Nat}{k':List Item}(hfr:fr.todo=.inRegion all s::k')(hk:All2 (ItemRel R) kk k')
 (hd:Drw P B R rest.length false all l dn af.tmps h fr.tmps s) {m:AM} (e:zj9 P all l dn af rest h kk=some m):zcI P w0 base m fr (fs++base) w:=by
 have hm:=zkr k
 have hroom:B.n≤w.heap.size:=by show B.env.heap.size≤_; rw [k.base]; exact k.old.size
 have hrun:=k.run
 obtain ⟨fn,n,t,td,ds,mode,kind,round⟩:=af
 simp only at ht hrun hd; subst ht; subst hrun
 cases l with
 | nil =>
  change toA _ rest h kk=some m at e
  cases e
  obtain ⟨B',R',w',a',g1,g2,g3,g4,g5,g6,g7⟩:=hd.run_out s k.heap hroom hm hfr (fs++base)
  have st:step P (lone { fr with tmps:=a',todo:=.inRegion all []::k' } (fs++base) w')=.next (lone { fr with tmps:=a',todo:=k' } (fs++base) w') :=
   step_lone_go (by simp [stepG,stepG.exec,hm])
  refine ⟨_,_,_,g1.trans (.one st),B',R',fs,rfl,g3.1.trans k.base,g5,k.old.keeps k.base k.heap g6,?_,k.below.mono g4 g3 (Nat.le_refl _)⟩
  obtain ⟨k1,k2,k3,k4,k5,k6,k7,k8,k9⟩:=k.top
  exact ⟨k1,k2,k3,k4,k5.mono g4,k6.mono fun _ _ q=>q.mono g4,k7.mono g4,g2.trans k8,xQ (hk.mono fun _ _ q=>q.mono g4) g7⟩
 | cons i l =>
  have hin:=hd.facts.2.2.2.1 i List.mem_cons_self
  obtain ⟨o,ho⟩:∃ o,all[i]?=some o:=⟨_,Array.getElem?_eq_getElem hin⟩
  change zkI P _ rest h all.toList all[i]?=some m at e
  rw [ho] at e
  change qY P _ rest h all.toList o=some m at e
  have hidn:i ∉ dn:=fun hi=>(List.nodup_append.1 hd.facts.2.2.2.2.1).2.2 i (by simpa using hi) i List.mem_cons_self rfl
  obtain ⟨k1,k2,k3,k4,k5,k6,k7,k8,k9⟩:=k.top
  cases he:yq P o with
  | true =>
   have hem:(zz P all.toList).em.testBit i=true:=by rw [hd.plan.em i o ho]; exact he
   obtain ⟨B',R',w',a',s',g1,g2,g3,g4,g5,g6,g7⟩:=hd.catch_up hem s k.heap hroom hm hfr (fs++base)
   have hw:Wait P w0 base B' R' ⟨fn,n,t,.drw all (i::l) dn::kk,ds,.run,kind,round⟩ rest h { fr with tmps:=a',todo:=.inRegion all (i::s')::k' } fs w' :=
    ⟨g5,g3.1.trans k.base,k.old.keeps k.base k.heap g6,⟨k1,k2,k3,k4,k5.mono g4,k6.mono fun _ _ q=>q.mono g4,k7.mono g4,g2.trans k8,i::s',k',rfl,hk.mono fun _ _ q=>q.mono g4,g7.suspend hem⟩,rfl,k.below.mono g4 g3 (Nat.le_refl _)⟩
   have hreads:=g7.reads ho hidn
   obtain ⟨fr',cs',w2,s1,s2⟩:=zfQ hw rfl ho (fun x hx v hv=>vH (fun u hu he=>hreads u v (by rw [hu] at hx; exact xf hx) he) hv)
    (fun g b q u v hg hq hu hv=>hreads u v (ya hg (by simpa using hq) hu) hv) e
   exact ⟨fr',cs',w2,g1.trans s1,s2⟩
  | false =>
   have hem:(zz P all.toList).em.testBit i=false:=by rw [hd.plan.em i o ho]; exact he
   have hown:=hd.own_dst ho he
   have hap:∀ p∈dn,p∈s→∀ q,all[p]?=some q→∀ x,o.dst=some x→(zJ all.toList q).contains x=false∧q.dst≠some x:=fun p hp hps q hq x hx =>
    hd.apart ho hx hidn hp hq (by
     cases hb:(zz P all.toList).em.testBit p with
     | false=>rfl
     | true=>exact absurd hps (hd.effs p hp hb)) (fun hh=>by rw [hem] at hh; cases hh)
   have hop:∀ {v:AV} {t':T AV},t'=zg7 t o.dst v→∀ h,opA P (ev t') h o.op=opA P (ev t) h o.op:=fun {v t'} ht' h=>by
    subst ht'
    unfold zg7
    split
    · rfl
    · rename_i u hu; exact zfa all.toList (hown u hu) h
   have hwg:∀ {v:AV} {t':T AV},t'=zg7 t o.dst v→zy all.toList t' o.guard=zy all.toList t o.guard:=fun {v t'} ht'=>by
    subst ht'
    unfold zg7
    split
    · rfl
    · rename_i u hu; exact vW (hown u hu)
   have hget:∀ {v:AV} {t':T AV},t'=zg7 t o.dst v→∀ u,o.dst=some u→t'.get u=some v:=fun {v t'} ht' u hu=>by
    subst ht'; rw [zax,if_pos hu]
   have goes:∀ {B':Base} {h':AHeap} {v:AV},jb rest h' (zG P ⟨fn,n,t,.drw all (i::l) dn::kk,ds,.run,kind,round⟩ h' v)=some m→HRel P B' R h' w→B.keeps B' rest.length →
    (∀ t',t'=zg7 t o.dst v→(z8 o.op=true→yP P all.toList 0 t' h' dn=true)→(∀ p∈dn,p∈s→∀ q,all[p]?=some q→Pend P B rest.length false all t h p q→Pend P B' rest.length false all t' h' p q)∧Pend P B' rest.length false all t' h' i o) →
    zcI P w0 base m fr (fs++base) w:=by
    intro B' h' v e hh hb hp
    obtain ⟨t',f1,f2,rfl⟩:=zkT ho he e
    obtain ⟨q1,q2⟩:=hp t' (zat f1).1 f2
    exact ⟨_,_,_,Steps.refl _ _,B',R,fs,rfl,hb.1.trans k.base,hh,k.old,⟨k1,k2,k3,k4,k5,k6,k7,k8,s,k',hfr,hk,hd.ahead ho he k8 f1 q1 q2⟩,k.below.mono R.le_refl hb (Nat.le_refl _)⟩
   unfold qY at e
   split at e
   · cases e
   · rename_i wt hwt
     split at e
     · refine goes e k.heap (B.keeps_refl _) fun t' ht' _=>⟨fun p hp hps q hq hpe=>hpe.other ht' (hap p hp hps q hq),false,by rw [hwg ht']; exact hwt,fun _ u hu=>hget ht' u hu,fun hh=>(by cases hh)⟩
     · unfold zaa at e
       split at e
       · cases e
       · rename_i r hr
         obtain ⟨v,h',rfl,hcase⟩:=ziU he hr
         change jb rest h' (zG P _ h' v)=some m at e
         rcases hcase with ⟨c1,vf,ob,c2,rfl,rfl⟩ | ⟨c1,c2,rfl,c3⟩ | ⟨c1,c2,c3,rfl⟩
         · refine goes (B':=B.mark h.next ob (rest.length,i)) e (k.heap.mark ob _) ⟨rfl,fun id ob' e1 _=>zb8 k.heap ob _ id ob' e1⟩ fun t' ht' hre=>⟨fun p hp hps q hq hpe=>?_,true,by rw [hwg ht']; exact hwt,fun hh=>(by cases hh),fun _=>.inl ⟨c1,vf,ob,h.next,?_,?_,?_,fun u hu=>hget ht' u hu⟩⟩
           · refine (Pend.base (zb8 k.heap ob _) hpe).suspend.again ht' (hap p hp hps q hq) fun h1 h2 h3=>?_
             have hanc:(0:Nat).testBit p=false:=Nat.zero_testBit p
             have:=vM (hre c1) p hp
             rw [show all.toList[p]?=some q by simpa using hq] at this
             simp only [wV,h1,hanc,Bool.not_false,Bool.and_self] at this
             exact this
           · subst ht'
             unfold zg7
             split
             · exact c2
             · rename_i u hu; exact c2.set all.toList (hown u hu)
           · simp [Base.mark]
           · simp [Base.mark]
         · refine goes e k.heap (B.keeps_refl _) fun t' ht' _=>⟨fun p hp hps q hq hpe=>hpe.other ht' (hap p hp hps q hq),true,by rw [hwg ht']; exact hwt,fun hh=>(by cases hh),fun _=>.inr (.inl ⟨c1,c2,v,fun h=>by rw [hop ht']; exact c3 h,fun u hu=>hget ht' u hu⟩)⟩
         · refine goes e k.heap (B.keeps_refl _) fun t' ht' _=>⟨fun p hp hps q hq hpe=>hpe.other ht' (hap p hp hps q hq),true,by rw [hwg ht']; exact hwt,fun hh=>(by cases hh),fun _=>.inr (.inr ⟨c1,c2,c3,.inr ⟨v,by rw [hop ht']; exact hr,fun u hu=>hget ht' u hu⟩⟩)⟩
theorem zj1 [XT P] [XTOk P] (hmix:P.follows .mixedOrders=true)(k:Plain P w0 base B R af rest h fr fs w){it:AItem}{kk:List AItem}(ht:af.todo=it::kk){m:AM}(e:zmn P af rest h it kk=some m):zcI P w0 base m fr (fs++base) w:=by
 have hm:=zkr k
 have htop:TodoRel P B R rest.length false h af.todo af.tmps fr.todo fr.tmps:=by
  have:=k.top.top
  rw [k.run] at this; exact this
 rw [ht] at htop
 cases it with
 | drw all l dn =>
  obtain ⟨s,k',hfr,hk,hd⟩:=htop
  exact zk4 k ht hfr hk hd e
 | code c =>
  obtain ⟨⟨_,kk',hfr,rfl,hk⟩,hs⟩:=htop
  exact zjx hmix k hs hfr hk e
 | inBlock i =>
  obtain ⟨⟨_,kk',hfr,rfl,hk⟩,hs⟩:=htop
  exact k.to hs hk e (step_lone_go (by simp [stepG,stepG.exec,hm,hfr]))
 | inLoop b =>
  obtain ⟨⟨_,kk',hfr,rfl,hk⟩,hs⟩:=htop
  exact k.to (todo:=.code b::.inLoop b::kk) (todo':=.code b::.inLoop b::kk') hs ⟨_,_,rfl,rfl,_,_,rfl,rfl,hk⟩ e (step_lone_go (by simp [stepG,stepG.exec,hm,hfr]))
 | inScope b =>
  obtain ⟨⟨_,kk',hfr,rfl,hk⟩,hs⟩:=htop
  exact k.to hs hk e (step_lone_go (by simp [stepG,stepG.exec,hm,hfr]))
 | ops all l =>
  obtain ⟨⟨_,kk',hfr,⟨ops,todo,rfl,rfl,hmap⟩,hk⟩,hs⟩:=htop
  cases l with
  | nil =>
   have:todo=[]:=by simpa using hmap.symm
   subst this
   exact k.to hs hk e (step_lone_go (by simp [stepG,stepG.exec,hm,hfr]))
  | cons o l =>
   cases todo with
   | nil=>simp at hmap
   | cons i todo =>
    simp only [List.map_cons,List.cons.injEq] at hmap
    change qY P af rest h ops.toList o=some m at e
    have hw:Wait P w0 base B R af rest h fr fs w:=⟨k.heap,k.base,k.old,by
     obtain ⟨k1,k2,k3,k4,k5,k6,k7,k8,k9⟩:=k.top
     refine ⟨k1,k2,k3,k4,k5,k6,k7,k8,?_⟩
     have hr:=k.run
     obtain ⟨fn,n,t,td,ds,mode,kind,round⟩:=af
     simp only at hr ht; subst hr; subst ht
     exact ⟨⟨_,kk',hfr,⟨ops,_,rfl,rfl,by simp only [List.map_cons,List.cons.injEq]; exact hmap⟩,hk⟩,hs⟩,k.run,k.below⟩
    exact zfQ hw hfr hmap.1.symm (fun x _ v hv=>vH (fun u _ hu=>hs u v hu) hv) (fun g b q u v _ _ _ hv=>hs u v hv) e
 | inRange i=>cases e
 | endRange i =>
  obtain ⟨⟨_,kk',hfr,⟨L,hL,rfl⟩,hk⟩,hs⟩:=htop
  exact zeK k hs hL hfr hk e
 | beginRound =>
  obtain ⟨⟨_,kk',hfr,rfl,hk⟩,hs⟩:=htop
  exact zhD k hs hfr hk e
def resF (a:Array Value):ResultVar→Sem Value
 | .tmp t=>pure (a.getD t undef)
 | .cell x t=>do loadVar t (← asAddr (a.getD x undef))
theorem zg4 (fn:Func)(a:Array Value):results fn a=(do let vs ← fn.results.mapM (resF a); pure (if h:vs.size=1 then vs[0] else .tuple vs)):=by
 unfold results
 first
  | rfl
  | (congr 1; done)
  | (congr 1; funext x; cases x <;> rfl)
  | (congr 1; congr 1; funext x; cases x <;> rfl)
theorem qw (kh:HRel P B R h w){t:T AV}{a:Array Value}(hs:Slots R t a):∀ {l:List ResultVar} {vs:List AV},wR P h t l=some vs →
 ∃ vs',(l.mapM (resF a)).run P w=.ok vs' w∧VRels R vs vs'
 | [],vs,e=>by cases e; exact ⟨[],by simp,rfl⟩
 | r::l,vs,e=>by
  have getD:∀ {u:Nat} {v:AV},t.get u=some v→VRel R v (a.getD u undef):=fun {u v} hv=>by
   obtain ⟨y,h1,h2⟩:=hs u v hv
   rw [show a.getD u undef=y by
    obtain ⟨hl,hg⟩:=Array.getElem?_eq_some_iff.1 h1
    simp [Array.getD,hl,hg]]
   exact h2
  have consO_some:∀ {x:Option AV} {y:Option (List AV)},zjG x y=some vs→∃ v r,x=some v∧y=some r∧vs=v::r:=fun {x y} e=>by
   unfold zjG at e
   split at e
   · cases e
   · split at e
     · cases e
     · cases e; exact ⟨_,_,rfl,rfl,rfl⟩
  cases r with
  | tmp u =>
   obtain ⟨v,r,h1,h2,rfl⟩:=consO_some e
   obtain ⟨vs',g1,g2⟩:=qw kh hs h2
   exact ⟨a.getD u undef::vs',by simp only [List.mapM_cons,resF,Sem.run_bind,Sem.run_pure,Result.andThen_ok,g1],_,_,rfl,getD h1,g2⟩
  | cell u ty =>
   obtain ⟨v,r,h1,h2,rfl⟩:=consO_some e
   obtain ⟨vs',g1,g2⟩:=qw kh hs h2
   unfold zlr at h1
   split at h1
   · cases h1
   · rename_i p hp
     have hpv:=getD hp
     obtain ⟨v',q1,q2⟩:=qs kh h1 hpv
     have hpp:∃ ad,a.getD u undef=.pointer (some ad):=by
      unfold zai at h1
      split at h1
      · obtain ⟨L,_,_,hh⟩:=hpv; exact ⟨_,hh⟩
      · exact ⟨_,hpv⟩
      · cases h1
     obtain ⟨ad,had⟩:=hpp
     rw [had] at q1
     have q3:(loadVar ty ad).run P w=.ok v' w:=by simpa [Instr.loadAt,Instr.sureAddr] using q1
     exact ⟨v'::vs',by simp only [List.mapM_cons,resF,Sem.run_bind,Sem.run_pure,Result.andThen_ok,had,asAddr,q3,g1],_,_,rfl,q2,g2⟩
theorem zen (kh:HRel P B R h w)(hs:Slots R af.tmps fr.tmps)(hfn:fr.fn=af.fn){v:AV}(e:zkM P af h=some v):∃ fn v',P.funcs[fr.fn]?=some fn∧(results fn fr.tmps).run P w=.ok v' w∧VRel R v v':=by
 unfold zkM at e
 split at e
 · cases e
 · rename_i fn hf
   unfold zlp at e
   split at e
   · cases e
   · rename_i l hl
     obtain ⟨vs,g1,g2⟩:=qw kh hs hl
     refine ⟨fn,if h:vs.toArray.size=1 then vs.toArray[0] else .tuple vs.toArray,by rw [hfn]; exact hf,?_,?_⟩
     · rw [zg4,Array.mapM_eq_mapM_toList]
       simp only [Sem.run_bind,Sem.run_map,g1,Result.andThen_ok,Sem.run_pure]
     · split at e
       · cases e
         obtain ⟨y,ys,rfl,hy,hr⟩:=g2
         cases hr
         simpa using hy
       · rename_i hn
         cases e
         rw [dif_neg]
         · exact ⟨vs,rfl,g2⟩
         · intro hsz
           have:=g2.length
           simp at hsz
           rw [hsz] at this
           match l,this,hn with
           | [x],_,hn=>exact hn x rfl
theorem zlB {f:Fn}{cap:List AV}{d':Deferred}{args:List AV}(k:DefRel R ⟨.fn f cap,args⟩ d'):∃ c as:List Value,d'=⟨.fn f c.toArray,as.toArray⟩∧VRels R cap c∧VRels R args as:=by
 obtain ⟨⟨_,c,h1,h2⟩,h3⟩:=k
 obtain ⟨t,a⟩:=d'
 simp only at h1 h3
 exact ⟨c,a.toList,by rw [h1],h2,h3⟩
theorem zgA (kh:HRel P B R h w)(hb:B.env=w0)(ho:Old0 w0.toWorld w)(kt:FrameRel P B R rest.length false h af fr)(hr:af.mode≠.run)(kb:StackRel P B R h rest fs){m:AM}(e:jD P af rest h=some m):zcI P w0 base m fr (fs++base) w:=by
 have hslots:Slots R af.tmps fr.tmps:=by
  have:=kt.top
  unfold zey at this
  split at this
  · exact absurd ‹_› hr
  · exact this
 have hst:stepG P true { frame:=fr,callers:=fs++base,status:=.running,dying:=none } w=unwind P true fr (fs++base) none w:=by
  have:=kt.mode
  cases hm:af.mode with
  | run=>exact absurd hm hr
  | returning=>rw [hm] at this; have hf:fr.mode=.returning:=this; simp only [stepG,hf]
  | panicking c=>rw [hm] at this; obtain ⟨c',hf,_⟩:=this; simp only [stepG,hf]
 have hroom:B.n≤w.heap.size:=by show B.env.heap.size≤_; rw [hb]; exact ho.size
 unfold jD at e
 split at e
 · rename_i d ds hdef
   have hd:=kt.defers
   rw [hdef] at hd
   obtain ⟨d',ds',hfd,hd1,hd2⟩:=hd
   obtain ⟨tgt,args⟩:=d
   unfold zdK at e
   simp only at e
   split at e
   · rename_i id
     split at e
     · cases e
     · rename_i cs hcs
       exact zcx kh hb ho kt hr kb hslots hdef hst hcs e
   · rename_i f cap
     obtain ⟨c,as,rfl,h1,h2⟩:=zlB hd1
     unfold zeA at e
     split at e
     · rename_i g args2 h2' hinv
       obtain ⟨a,e1,rfl⟩:=xT e
       have hop:=wx kh hroom hinv h2 h1
       obtain ⟨as2,r1,r2,r3⟩:=hop
       refine ⟨_,_,_,.one (step_lone_go (fr':=Frame.enter P g as2.toArray .deferred) (cs':={ fr with defers:=ds' }::(fs++base)) (w':=w) ?_),B,R,{ fr with defers:=ds' }::fs,rfl,hb,r3,ho,kY e1 r2 (.inr rfl),_,_,rfl,?_,kb.mono R.le_refl (B.keeps_refl (rest.length)) (Nat.le_refl _)⟩
       · rw [hst]
         simp [unwind,hfd,callDeferred,Sem.runT_eq,r1]
       · obtain ⟨k1,k2,k3,k4,k5,k6,k7,k8,k9⟩:=kt
         obtain ⟨fn,n,t,td,ds0,mode,kind,round⟩:=af
         cases mode with
         | run=>exact absurd rfl hr
         | returning=>exact ⟨k1,k2,k3,k4,k5,hd2,k7,k8,hslots⟩
         | panicking c=>exact ⟨k1,k2,k3,k4,k5,hd2,k7,k8,hslots⟩
     · cases e
   · cases e
 · rename_i hdef
   have hfd:fr.defers=[]:=by have:=kt.defers; rw [hdef] at this; exact this
   have hmode:=kt.mode
   split at e
   · cases e
   · rename_i chain hm
     rw [hm] at hmode
     obtain ⟨c',hfm,hc⟩:=hmode
     cases rest with
     | nil=>cases e
     | cons c r =>
      obtain ⟨f,fs',rfl,kf,kr⟩:=kb
      cases e
      obtain ⟨fn,hfn⟩:=kt.fnOk
      have hcat:fr.catches P=false:=by simp only [Frame.catches,kt.fn,hfn]
      exact ⟨_,_,_,.one (step_lone_go (fr':=f.raise c') (cs':=fs'++base) (w':=w) (by rw [hst]; simp [unwind,hfd,hfm,hcat])),B,R,fs',rfl,hb,kh,ho,zdE kf hc,kr⟩
   · rename_i hm
     rw [hm] at hmode
     have hfm:fr.mode=.returning:=hmode
     unfold zdk at e
     split at e
     · cases e
     · rename_i v hv
       obtain ⟨fn,v',r1,r2,r3⟩:=zen kh hslots kt.fn hv
       obtain ⟨fr',cs',q1,q2⟩:=zaA (fr:=fr) (base:=base) kh hb ho kt.kindOk kt.kind kb r3 e
       exact ⟨fr',cs',w,.one (step_lone_go (by rw [hst]; simp only [unwind,hfd,hfm,r1,Sem.runT_eq,r2]; simpa using q1)),q2⟩
theorem zjS [XT P] [XTOk P] (hmix:P.follows .mixedOrders=true){m m':AM}{fr:Frame}{cs:List Frame}{w:World}(k:Sim P w0 base m fr cs w)(e:zdj P m=some m'):zcI P w0 base m' fr cs w:=by
 obtain ⟨af,rest,h⟩:=m
 obtain ⟨B,R,fs,rfl,hb,kh,ho,kt,kb⟩:=k
 change (match af.mode with | .run=>zi3 P af rest h af.todo | _=>jD P af rest h)=some m' at e
 split at e
 · rename_i hrun
   have hp:Plain P w0 base B R af rest h fr fs w:=⟨kh,hb,ho,kt,hrun,kb⟩
   unfold zi3 at e
   split at e
   · rename_i hnil
     have htop:TodoRel P B R rest.length false h af.todo af.tmps fr.todo fr.tmps:=by
      have:=kt.top
      rw [hrun] at this; exact this
     rw [hnil] at htop
     obtain ⟨h1,hs⟩:=htop
     have hfr:fr.todo=[]:=h1
     have hm:=zkr hp
     have hround:=kt.round
     unfold w9 at e
     split at e
     · rename_i hr
       rw [hr] at hround
       exact hp.ends hs e (step_lone_go (by simp [stepG,stepG.exec,hm,hfr,show fr.roundOf=none from hround]))
     · rename_i l hr
       refine vc hp hr e fun b hb=>?_
       simp only [stepG,stepG.exec,hm,hfr,hb,Sem.runT_eq]
       cases (Instr.endRound b none).run P w <;> simp
   · rename_i it kk hcons
     exact zj1 hmix hp hcons e
 · rename_i hr
   exact zgA kh hb ho kt (fun hh=>hr hh) kb e
def zit (G:T (T AV)) (w:World):Prop:=∀ g c,G.get g=some c→g<w.heap.size∧∃ cs el fz,w.heap[g]?=some (.cells cs el fz)∧∀ k v,c.get k=some v→∃ x,cs[k]?=some x∧VRel (fun _ _=>none) v x
def Env.of (w:World):Env:={ w with own:=fun _=>False,rob:=fun _=>False,pin:=fun _ _=>none }
def Base.of (w:World):Base:=⟨Env.of w,fun _=>False,fun _=>none,fun _=>(0,0)⟩
theorem HRel.start {P:Program}{G:T (T AV)}{w:World}(hG:zit G w):HRel P (Base.of w) (fun _ _=>none) ⟨.leaf,0,G⟩ w where
 fresh _ _ _:=rfl
 obj i o e:=by cases e
 pend i o e:=by cases e
 place i r L e:=by cases e
 rd i hi:=hi.elim
 low b _:=rfl
 rp i hi:=hi.elim
 rol i r L hi:=hi.elim
 pin i r L e:=by cases e
 apart i r i' r' L L' e:=by cases e
 same i r r' L L' e:=by cases e
 glob g c e:=⟨fun hm=>hm.elim (fun hl=>absurd (hG g c e).1 (Nat.not_lt.2 hl)) id,(hG g c e).2⟩
theorem Old0.start (w:World):Old0 (Env.of w).toWorld w:=⟨rfl,rfl,rfl,Nat.le_refl _,Nat.le_refl _⟩
end
end Go.Proofs.Ytehelionjafnkaa.Ev
end
section
namespace Go.Proofs.Ytehelionjafnkaa.Ev
open Go Go.ChangeShapes Go.WideShapes
theorem Old.kept {w w':World}(k:Old w w')(may:MemPlace→Prop):w.keptBut w' may :=
 ⟨k.os,k.output,fun i hi=>by rw [k.other i hi]; exact (World.keptBut_refl w may).2.2 i hi⟩
end Go.Proofs.Ytehelionjafnkaa.Ev
end
section
namespace Go.Proofs.Ytehelionjafnkaa.Ev
open Go
noncomputable section
variable (P:Program)
def runN [XT P]:Nat→AM→Option AM
 | 0,m=>some m
 | n+1,m=>match zdj P m with
  | none=>none
  | some m=>runN n m
def zg3 {α:Type} (t:T α):List Nat→T α→T α
 | [],acc=>acc
 | i::r,acc=>(acc.set (t.get i) i).seq fun acc=>zg3 t r acc
def zfy (us:List Nat) (fr:AFrame):AFrame:=match fr with
 | ⟨fn,n,t,todo,ds,mode,kind,round⟩=>⟨fn,n,zg3 t us .leaf,todo,ds,mode,kind,round⟩
def vd:List (List Nat)→List AFrame→List AFrame
 | us::r,f::fs=>zfy us f::vd r fs
 | [],fs=>fs
 | _::_,[]=>[]
def zjt (us:List Nat) (fr:AFrame):AFrame:=match fr.todo with
 | .drw _ _ _::_=>fr
 | _=>zfy us fr
def zbm:List (List Nat)→List AFrame→List AFrame
 | us::r,f::fs=>zjt us f::zbm r fs
 | [],fs=>fs
 | _::_,[]=>[]
def AV.ref:AV→Option Nat
 | .ptr i _ _=>some i
 | .slc i _ _ _ _=>some i
 | .mp i=>some i
 | _=>none
def zlW (objs:T AObj) (v:AV):Bool:=match v.ref with
 | none=>true
 | some i=>match objs.get i with
  | none=>false
  | some _=>true
def zkv (objs:T AObj) (t:T AV) (o:Oper):Bool:=match z8 o.op with
 | false=>true
 | true=>match o.dst with
  | none=>false
  | some u=>match t.get u with
   | none=>false
   | some v=>zlW objs v
def zlY (objs:T AObj) (t:T AV) (o:Option Oper):Bool:=match o with
 | none=>true
 | some o=>zkv objs t o
def zlV (objs:T AObj) (fr:AFrame):Bool:=match fr.todo with
 | .drw all _ dn::_=>dn.all fun p=>zlY objs fr.tmps all[p]?
 | _=>true
def zjI:List Nat→T AV→T AV
 | [],t=>t
 | u::r,t=>zjI r (t.set none u)
def zhS (us:List Nat) (fr:AFrame):AFrame:=match fr with
 | ⟨fn,n,t,todo,ds,mode,kind,round⟩=>⟨fn,n,zjI us t,todo,ds,mode,kind,round⟩
def w7:List (List Nat)→List AFrame→List AFrame
 | us::r,f::fs=>zhS us f::w7 r fs
 | [],fs=>fs
 | _::_,[]=>[]
def zek (fr:AFrame):Bool:=match fr.todo with
 | .drw _ _ _::_=>false
 | _=>true
def zlg:List Nat→Code→Code
 | [],c=>c
 | d::p,c=>match c with
  | .seq a b=>zlg p (bif Nat.beq d 0 then a else b)
  | .cond _ a b=>zlg p (bif Nat.beq d 0 then a else b)
  | .rangeFunc _ _ a b=>zlg p (bif Nat.beq d 0 then a else b)
  | .block _ b=>zlg p b
  | .loop b=>zlg p b
  | .scope b=>zlg p b
  | c=>c
def cd (f:FuncId) (p:List Nat):Code:=match P.funcs[f]? with
 | none=>.skip
 | some fn=>match fn.body with
  | none=>.skip
  | some c=>zlg p c
def rg (f:FuncId) (p:List Nat):Array Oper:=match cd P f p with
 | .region _ ops _=>ops
 | _=>#[]
end
section
variable {P:Program} {w0:Env} {base:List Frame}
theorem zfL {α:Type}{t:T α}:∀ {ids:List Nat} {acc:T α},(∀ i o,acc.get i=some o→t.get i=some o)→∀ i o,(zg3 t ids acc).get i=some o→t.get i=some o
 | [],_,h=>h
 | j::r,acc,h=>by
  intro i o e
  rw [zg3,T.seq_eq] at e
  refine zfL (acc:=acc.set (t.get j) j) (fun i o e=>?_) i o e
  rw [T.get_set] at e
  by_cases hi:i=j
  · subst hi; rwa [if_pos rfl] at e
  · rw [if_neg hi] at e; exact h i o e
noncomputable def Base.only (B:Base) (h:AHeap):Base:={ B with pend:=fun i=>match h.get i with
 | none=>none
 | some _=>B.pend i }
theorem Slots.drop {R:Bij}{a:Array Value}:∀ {us:List Nat} {t:T AV},Slots R t a→Slots R (zjI us t) a
 | [],_,k=>k
 | u::r,t,k=>Slots.drop (us:=r) (t:=t.set none u) fun x v e=>by
  rw [T.get_set] at e
  split at e
  · cases e
  · exact k x v e
theorem FrameRel.plain {B B':Base}{R:Bij}{d:Nat}{sus:Bool}{h h':AHeap}{af:AFrame}{fr:Frame}{us:List Nat}(hp:zek (zhS us af)=true)(k:FrameRel P B R d sus h af fr):FrameRel P B' R d sus h' (zhS us af) fr:=by
 obtain ⟨fn,n,t,todo,ds,mode,kind,round⟩:=af
 obtain ⟨k1,k2,k3,k4,k5,k6,k7,k8,k9⟩:=k
 refine ⟨k1,k2,k3,k4,k5,k6,k7,k8,?_⟩
 cases mode with
 | run =>
  have k9:TodoRel P B R d sus h todo t fr.todo fr.tmps:=k9
  show TodoRel P B' R d sus h' todo (zjI us t) fr.todo fr.tmps
  cases todo with
  | nil=>exact ⟨k9.1,k9.2.drop⟩
  | cons it kk =>
   cases it with
   | drw a b c=>cases hp
   | _=>exact ⟨k9.1,k9.2.drop⟩
 | returning=>exact Slots.drop k9
 | panicking c=>exact Slots.drop k9
theorem ki (af:AFrame):zhS [] af=af:=by cases af; rfl
theorem kX:∀ (dr:List (List Nat)) (as:List AFrame),(w7 dr as).length=as.length
 | [],as=>by cases as <;> rfl
 | _::_,[]=>rfl
 | us::dr,a::as=>by simp [w7,kX dr as]
theorem StackRel.plain {B B':Base}{R:Bij}{h h':AHeap}:∀ {dr:List (List Nat)} {as:List AFrame} {fs:List Frame},(w7 dr as).all zek=true→StackRel P B R h as fs→StackRel P B' R h' (w7 dr as) fs
 | [],[],_,_,k=>k
 | _::_,[],_,_,k=>k
 | [],a::as,fs,hp,⟨f,r,e,k1,k2⟩=>by
  rw [show w7 [] (a::as)=a::as from rfl,List.all_cons,Bool.and_eq_true] at hp
  have g1:FrameRel P B' R as.length true h' a f:=by
   have:=k1.plain (B':=B') (h':=h') (us:=[]) (by rw [ki]; exact hp.1)
   rwa [ki] at this
  have g2:=StackRel.plain (B':=B') (h':=h') (dr:=[]) (as:=as) (by rw [show w7 [] as=as by cases as <;> rfl]; exact hp.2) k2
  rw [show w7 [] as=as by cases as <;> rfl] at g2
  exact ⟨f,r,e,g1,g2⟩
 | us::dr,a::as,fs,hp,⟨f,r,e,k1,k2⟩=>by
  rw [show w7 (us::dr) (a::as)=zhS us a::w7 dr as from rfl,List.all_cons,Bool.and_eq_true] at hp
  exact ⟨f,r,e,by rw [kX]; exact k1.plain hp.1,StackRel.plain hp.2 k2⟩
theorem Slots.keep {R:Bij}{a:Array Value}{us:List Nat}{t:T AV}(k:Slots R t a):Slots R (zg3 t us .leaf) a:=fun u v e =>
 k u v (zfL (acc:=.leaf) (fun _ _ e=>by cases e) u v e)
theorem FrameRel.plainK {B B':Base}{R:Bij}{d:Nat}{sus:Bool}{h h':AHeap}{af:AFrame}{fr:Frame}{us:List Nat}(hp:zek (zfy us af)=true)(k:FrameRel P B R d sus h af fr):FrameRel P B' R d sus h' (zfy us af) fr:=by
 obtain ⟨fn,n,t,todo,ds,mode,kind,round⟩:=af
 obtain ⟨k1,k2,k3,k4,k5,k6,k7,k8,k9⟩:=k
 refine ⟨k1,k2,k3,k4,k5,k6,k7,k8,?_⟩
 cases mode with
 | run =>
  have k9:TodoRel P B R d sus h todo t fr.todo fr.tmps:=k9
  show TodoRel P B' R d sus h' todo (zg3 t us .leaf) fr.todo fr.tmps
  cases todo with
  | nil=>exact ⟨k9.1,k9.2.keep⟩
  | cons it kk =>
   cases it with
   | drw a b c=>cases hp
   | _=>exact ⟨k9.1,k9.2.keep⟩
 | returning=>exact Slots.keep k9
 | panicking c=>exact Slots.keep k9
theorem kA:∀ (dr:List (List Nat)) (as:List AFrame),(vd dr as).length=as.length
 | [],as=>by cases as <;> rfl
 | _::_,[]=>rfl
 | us::dr,a::as=>by simp [vd,kA dr as]
theorem StackRel.plainK {B B':Base}{R:Bij}{h h':AHeap}:∀ {dr:List (List Nat)} {as:List AFrame} {fs:List Frame},(vd dr as).all zek=true→StackRel P B R h as fs→StackRel P B' R h' (vd dr as) fs
 | [],[],_,_,k=>k
 | _::_,[],_,_,k=>k
 | [],a::as,fs,hp,⟨f,r,e,k1,k2⟩=>by
  rw [show vd [] (a::as)=a::as from rfl,List.all_cons,Bool.and_eq_true] at hp
  have g1:FrameRel P B' R as.length true h' a f:=by
   have:=k1.plain (B':=B') (h':=h') (us:=[]) (by rw [ki]; exact hp.1)
   rwa [ki] at this
  have g2:=StackRel.plainK (B':=B') (h':=h') (dr:=[]) (as:=as) (by rw [show vd [] as=as by cases as <;> rfl]; exact hp.2) k2
  rw [show vd [] as=as by cases as <;> rfl] at g2
  exact ⟨f,r,e,g1,g2⟩
 | us::dr,a::as,fs,hp,⟨f,r,e,k1,k2⟩=>by
  rw [show vd (us::dr) (a::as)=zfy us a::vd dr as from rfl,List.all_cons,Bool.and_eq_true] at hp
  exact ⟨f,r,e,by rw [kA]; exact k1.plainK hp.1,StackRel.plainK hp.2 k2⟩
theorem ziA {ρ:Operand→Option AV}{h h':AHeap}{op:Op}{v:AV}(hf:z8 op=true)(e:opA P ρ h op=some (.val v h')):v.ref=some h.next:=by
 cases op with
 | alloc t =>
  change yr P t ρ h=some _ at e
  unfold yr kJ at e
  split at e
  · cases e
  · obtain ⟨v',h2,e1,e2⟩:=zK e
    cases e2
    have:=(wO e1).1 h
    rw [e1] at this; cases this; rfl
 | box t x =>
  change zcb P t x ρ h=some _ at e
  obtain ⟨a,ha,e⟩:=zi e
  obtain ⟨v',h2,e1,e2⟩:=zK e
  cases e2
  have:=(wO e1).1 h
  rw [e1] at this; cases this; rfl
 | buildSlice t n parts =>
  change zE P t n parts ρ h=some _ at e
  unfold zE zT at e
  split at e
  · cases e
  · obtain ⟨v',h2,e1,e2⟩:=zK e
    cases e2
    obtain ⟨el,cells,b1,_⟩:=qi e1
    have:=b1 h
    rw [e1] at this; cases this; rfl
 | makeSlice t l c =>
  change zZ P t l c ρ h=some _ at e
  obtain ⟨a,b,ha,hb,e⟩:=xc e
  obtain ⟨v',h2,e1,e2⟩:=zK e
  cases e2
  obtain ⟨el,cells,n,m,b1,_⟩:=qO e1
  have:=b1 h
  rw [e1] at this; cases this; rfl
 | makeMap t r' =>
  cases r' with
  | none =>
   change some _=some _ at e
   cases e; rfl
  | some x=>cases hf
 | _=>cases hf
theorem Pend.only {B:Base}{d:Nat}{all:Array Oper}{t:T AV}{h h' h'':AHeap}{p:Nat}{o:Oper}(hh:zkv h'.objs t o=true)(k:Pend P B d true all t h p o):Pend P (B.only h') d true all t h'' p o:=by
 obtain ⟨wt,k1,k2,k3⟩:=k
 refine ⟨wt,k1,k2,fun hw=>?_⟩
 rcases k3 hw with ⟨f1,vf,ob,id,f2,f3,f4,f5⟩ | ⟨f1,f2,v,f3,f4⟩ | ⟨f1,f2,f3,_⟩
 · refine .inl ⟨f1,vf,ob,id,f2,?_,f4,f5⟩
   unfold zkv at hh
   rw [f1] at hh
   simp only at hh
   split at hh
   · cases hh
   · rename_i u hu
     have hr:(vf id).ref=some id:=by
      have:=ziA f1 (f2.1 ⟨.leaf,id,.leaf⟩)
      exact this
     rw [f5 u hu] at hh
     simp only [zlW,hr] at hh
     simp only [Base.only]
     show (match h'.objs.get id with | none=>none | some _=>B.pend id)=some ob
     split at hh
     · cases hh
     · rename_i q hq
       exact f3
 · exact .inr (.inl ⟨f1,f2,v,f3,f4⟩)
 · exact .inr (.inr ⟨f1,f2,f3,.inl rfl⟩)
theorem FrameRel.held {B:Base}{R:Bij}{d:Nat}{h h' h'':AHeap}{af:AFrame}{fr:Frame}{us:List Nat}(hp:zlV h'.objs (zjt us af)=true)(k:FrameRel P B R d true h af fr):FrameRel P (B.only h') R d true h'' (zjt us af) fr:=by
 obtain ⟨fn,n,t,todo,ds,mode,kind,round⟩:=af
 have plain:zek (zfy us ⟨fn,n,t,todo,ds,mode,kind,round⟩)=true→FrameRel P (B.only h') R d true h'' (zfy us ⟨fn,n,t,todo,ds,mode,kind,round⟩) fr:=fun hp=>k.plainK hp
 cases todo with
 | nil=>exact plain rfl
 | cons it kk =>
  cases it with
  | drw all l dn =>
   obtain ⟨k1,k2,k3,k4,k5,k6,k7,k8,k9⟩:=k
   refine ⟨k1,k2,k3,k4,k5,k6,k7,k8,?_⟩
   cases mode with
   | run =>
    obtain ⟨s,k',e1,e2,e3⟩:=(show ∃ s k',fr.todo=.inRegion all s::k'∧All2 (ItemRel R) kk k'∧Drw P B R d true all l dn t h fr.tmps s from k9)
    refine ⟨s,k',e1,e2,⟨e3.plan,e3.split,e3.topo,e3.rest,e3.own,e3.effs,e3.head,e3.slots,fun p h1 h2 o ho=>?_,e3.bound⟩⟩
    refine (e3.pend p h1 h2 o ho).only ?_
    have:=List.all_eq_true.1 (show (dn.all fun p=>zlY h'.objs t all[p]?)=true from hp) p h1
    rw [ho] at this
    exact this
   | returning=>exact k9
   | panicking c=>exact k9
  | _=>exact plain rfl
theorem kD:∀ (dr:List (List Nat)) (as:List AFrame),(zbm dr as).length=as.length
 | [],as=>by cases as <;> rfl
 | _::_,[]=>rfl
 | us::dr,a::as=>by simp [zbm,kD dr as]
theorem StackRel.held {B:Base}{R:Bij}{h h' h'':AHeap}:∀ {dr:List (List Nat)} {as:List AFrame} {fs:List Frame},dr.length=as.length→(zbm dr as).all (zlV h'.objs)=true→StackRel P B R h as fs→StackRel P (B.only h') R h'' (zbm dr as) fs
 | [],[],_,_,_,k=>k
 | _::_,[],_,e,_,_=>by cases e
 | [],_::_,_,e,_,_=>by cases e
 | us::dr,a::as,fs,hl,hp,⟨f,r,e,k1,k2⟩=>by
  rw [show zbm (us::dr) (a::as)=zjt us a::zbm dr as from rfl,List.all_cons,Bool.and_eq_true] at hp
  exact ⟨f,r,e,by rw [kD]; exact k1.held hp.1,StackRel.held (by simpa using hl) hp.2 k2⟩
end
end Go.Proofs.Ytehelionjafnkaa.Ev
end
section
namespace Go.Proofs.Ytehelionjafnkaa.Ev
open Go
noncomputable section
variable (P:Program)
abbrev Tab:=List (Nat × Option Nat)
def zff (j:Nat):Tab→Nat→Option (Nat × Option Nat)
 | [],_=>none
 | (k,t)::r,i=>bif Nat.beq k j then some (i,t) else zff j r (i+1)
def Tab.find (tb:Tab) (j:Nat):Option (Nat × Option Nat):=zff j tb 0
def Tab.ver (tb:Tab) (j s:Nat):Option (Nat × Nat):=match tb.find j with
 | none=>none
 | some (i,none)=>some (i,s)
 | some (i,some t)=>bif Nat.beq t s then some (i,0) else none
def Tab.re (tb:Tab) (R:Bij):Bij:=fun i r=>match tb[i]? with
 | none=>none
 | some (j,none)=>R j r
 | some (j,some t)=>if r=0 then R j t else none
def idG (g:Nat→Nat→Option (Nat × Nat)) (j:Nat):Option Nat:=match g j 0 with
 | none=>none
 | some (i,r)=>bif Nat.beq r 0 then some i else none
mutual
def zeQ (g:Nat→Nat→Option (Nat × Nat)):Nat→AV→Option AV
 | 0,_=>none
 | n+1,v=>match v with
  | .ptr i r o=>match g i r with
   | none=>none
   | some (j,s)=>some (.ptr j s o)
  | .slc i r o l c=>match g i r with
   | none=>none
   | some (j,s)=>some (.slc j s o l c)
  | .slg i r o l c=>match g i r with
   | none=>none
   | some (j,s)=>some (.slg j s o l c)
  | .mp i=>match idG g i with
   | none=>none
   | some j=>some (.mp j)
  | .yld i=>match idG g i with
   | none=>none
   | some j=>some (.yld j)
  | .fn f a b=>match zhI g n a,zhI g n b with
   | some a,some b=>some (.fn f a b)
   | _,_=>none
  | .ifc t v=>match zeQ g n v with
   | none=>none
   | some v=>some (.ifc t v)
  | .agg l=>match zhI g n l with
   | none=>none
   | some l=>some (.agg l)
  | .tup l=>match zhI g n l with
   | none=>none
   | some l=>some (.tup l)
  | v=>some v
def zhI (g:Nat→Nat→Option (Nat × Nat)):Nat→List AV→Option (List AV)
 | 0,_=>none
 | n+1,l=>match l with
  | []=>some []
  | v::r=>match zeQ g n v with
   | none=>none
   | some v=>match zhI g n r with
    | none=>none
    | some r=>some (v::r)
end
mutual
def vb:Nat→AV→Bool
 | 0,_=>false
 | n+1,v=>match v with
  | .ptr .. | .slc .. | .slg .. | .mp _ | .yld _=>false
  | .fn _ a b=>zaL n a&&zaL n b
  | .ifc _ v=>vb n v
  | .agg l | .tup l=>zaL n l
  | _=>true
def zaL:Nat→List AV→Bool
 | 0,_=>false
 | n+1,l=>match l with
  | []=>true
  | v::r=>vb n v&&zaL n r
end
def vT (f:Nat→Option AV):Prop:=∀ k v,f k=some v→vb 99 v=true
def zks {α:Type} (t:T α):List (Nat→Option α) :=
 T.rec (motive:=fun _=>List (Nat→Option α)) [] (fun _ _ _ l r=>l++r) (fun f=>[f]) t
def zfq (g:Nat→Nat→Option (Nat × Nat)) (v:Option AV) (l r:Option (T AV)):Option (T AV):=match l with
 | none=>none
 | some l=>match r with
  | none=>none
  | some r=>match v with
   | none=>some (.node l none r)
   | some v=>match zeQ g 99 v with
    | none=>none
    | some v=>some (.node l (some v) r)
def zls (g:Nat→Nat→Option (Nat × Nat)) (t:T AV):Option (T AV) :=
 T.rec (motive:=fun _=>Option (T AV)) (some .leaf) (fun _ v _ l r=>zfq g v l r) (fun f=>some (.fn f)) t
def ziG (g:Nat→Nat→Option (Nat × Nat)) (t:T AV):List Nat→T AV→Option (T AV)
 | [],acc=>some acc
 | u::r,acc=>match t.get u with
  | none=>none
  | some v=>match zeQ g 99 v with
   | none=>none
   | some v=>(acc.set (some v) u).seq fun acc=>ziG g t r acc
def zfF (g:Nat→Nat→Option (Nat × Nat)):ATgt→Option ATgt
 | .fn f c=>match zhI g 99 c with
  | none=>none
  | some c=>some (.fn f c)
 | .nil=>some .nil
 | .collected i=>match idG g i with
  | none=>none
  | some j=>some (.collected j)
def zfO (g:Nat→Nat→Option (Nat × Nat)) (d:ADef):Option ADef:=match zfF g d.tgt with
 | none=>none
 | some t=>match zhI g 99 d.args with
  | none=>none
  | some a=>some ⟨t,a⟩
def ziM {α β:Type} (f:α→Option β):List α→Option (List β)
 | []=>some []
 | a::r=>match f a with
  | none=>none
  | some b=>match ziM f r with
   | none=>none
   | some r=>some (b::r)
def ziN (g:Nat→Nat→Option (Nat × Nat)) (e:AEntry):Option AEntry:=match zeQ g 99 e.key with
 | none=>none
 | some k=>match zeQ g 99 e.val with
  | none=>none
  | some v=>some ⟨k,v,e.born⟩
def zeR (g:Nat→Nat→Option (Nat × Nat)) (t:Option Nat):AObj→Option AObj
 | .cells c n el lo hi nv fz sg ex=>match zls g c with
  | none=>none
  | some c=>match t with
   | none=>some (.cells c n el lo hi nv fz sg ex)
   | some h=>bif Nat.beq h hi&&Nat.ble lo hi then some (.cells c n el 0 0 1 fz sg .leaf) else none
 | o=>match t with
  | some _=>none
  | none=>match o with
   | .map es clock=>match ziM (ziN g) es with
    | none=>none
    | some es=>some (.map es clock)
   | .iter s p=>some (.iter s p)
   | .ro c lo n=>some (.ro c lo n)
   | .dfrd none=>some (.dfrd none)
   | .dfrd (some ds)=>match ziM (zfO g) ds with
    | none=>none
    | some ds=>some (.dfrd (some ds))
   | .loop ⟨st,pe,fn,n,tmps,ps,asg,body,df⟩=>match zls g tmps with
    | none=>none
    | some tmps=>match idG g df with
     | none=>none
     | some df=>some (.loop ⟨st,pe,fn,n,tmps,ps,asg,body,df⟩)
   | _=>none
def zlR:AObj→List (Nat→Option AV)
 | .cells c ..=>zks c
 | .loop l=>zks l.tmps
 | _=>[]
def vV (tb:Tab) (objs:T AObj):Tab→Nat→T AObj→Option (T AObj)
 | [],_,acc=>some acc
 | (j,t)::r,i,acc=>match objs.get j with
  | none=>none
  | some o=>match zeR tb.ver t o with
   | none=>none
   | some o=>(acc.set (some o) i).seq fun acc=>vV tb objs r (i+1) acc
def zli (objs:T AObj):Tab→List (Nat→Option AV)
 | []=>[]
 | (j,_)::r=>match objs.get j with
  | none=>[]
  | some o=>zlR o++zli objs r
def jA (tb:Tab) (h:AHeap):Option AHeap:=match h with
 | ⟨objs,next,glob⟩=>bif tb.all (fun p=>Nat.blt p.1 next) then match vV tb objs tb 0 .leaf with
  | none=>none
  | some objs=>some ⟨objs,tb.length,glob⟩ else none
def jf (g:Nat→Nat→Option (Nat × Nat)):AItem→Option AItem
 | .inRange i=>match idG g i with
  | none=>none
  | some j=>some (.inRange j)
 | .endRange i=>match idG g i with
  | none=>none
  | some j=>some (.endRange j)
 | .drw ..=>none
 | it=>some it
def zdw (g:Nat→Nat→Option (Nat × Nat)):AMode→Option AMode
 | .run=>some .run
 | .returning=>some .returning
 | .panicking c=>match ziM (fun (p:AV × Bool)=>match zeQ g 99 p.1 with
  | none=>none
  | some v=>some (v,p.2)) c with
  | none=>none
  | some c=>some (.panicking c)
def zdt (g:Nat→Nat→Option (Nat × Nat)):Option Nat→Option (Option Nat)
 | none=>some none
 | some l=>match idG g l with
  | none=>none
  | some j=>some (some j)
def zkW (g:Nat→Nat→Option (Nat × Nat)) (us:List Nat) (fr:AFrame):Option AFrame:=match fr with
 | ⟨fn,n,t,todo,ds,mode,kind,round⟩=>match ziG g t us .leaf with
  | none=>none
  | some t=>match ziM (jf g) todo with
   | none=>none
   | some todo=>match ziM (zfO g) ds with
    | none=>none
    | some ds=>match zdw g mode with
     | none=>none
     | some mode=>match zdt g round with
      | none=>none
      | some round=>some ⟨fn,n,t,todo,ds,mode,kind,round⟩
def ziO (g:Nat→Nat→Option (Nat × Nat)):List (List Nat)→List AFrame→Option (List AFrame)
 | us::r,f::fs=>match zkW g us f with
  | none=>none
  | some f=>match ziO g r fs with
   | none=>none
   | some fs=>some (f::fs)
 | [],[]=>some []
 | _,_=>none
def jv (keep:Nat) (objs:T AObj):List Nat→Nat→Tab
 | [],_=>[]
 | j::r,i=>(j,bif Nat.blt i keep then none else match objs.get j with
  | some (.cells _ _ _ lo hi ..)=>bif Nat.beq lo hi then some hi else none
  | _=>none)::jv keep objs r (i+1)
def je:List Nat→Bool
 | []=>true
 | i::r=>!(r.any fun j=>Nat.beq i j)&&je r
def zg2:List Nat→Nat→Nat→Bool
 | _,0,_=>true
 | [],_+1,_=>false
 | j::r,k+1,i=>Nat.beq j i&&zg2 r k (i+1)
def zlw (keep:Nat) (ids:List Nat) (us:List Nat) (uss:List (List Nat)) (m:AM):Option AM:=match m with
 | ⟨top,rest,heap⟩=>bif je ids&&zg2 ids keep 0 then
  match jA (jv keep heap.objs ids 0) heap with
  | none=>none
  | some h=>match zkW (jv keep heap.objs ids 0).ver us top with
   | none=>none
   | some top=>match ziO (jv keep heap.objs ids 0).ver uss rest with
    | none=>none
    | some rest=>some ⟨top,rest,h⟩
  else none
def km:List (Nat→Option AV)→Prop→Prop
 | [],K=>K
 | f::r,K=>vT f∧km r K
def CanP (keep:Nat) (ids us:List Nat) (uss:List (List Nat)) (m:AM) (K:AM→Prop):Prop:=match zlw keep ids us uss m with
 | none=>False
 | some m'=>km (zli m.heap.objs (jv keep m.heap.objs ids 0)) (K m')
end
section
variable {P:Program} {tb:Tab} {R:Bij}
theorem wL {j:Nat}:∀ {l:Tab} {i i':Nat} {t:Option Nat},zff j l i=some (i',t)→i≤i'∧l[i' - i]?=some (j,t)
 | [],_,_,_,e=>by cases e
 | (k,t0)::r,i,i',t,e=>by
  unfold zff at e
  cases hb:Nat.beq k j with
  | true =>
   rw [hb] at e; cases e
   rw [Nat.eq_of_beq_eq_true hb]
   exact ⟨Nat.le_refl _,by simp⟩
  | false =>
   rw [hb] at e
   obtain ⟨h1,h2⟩:=wL (l:=r) e
   refine ⟨by omega,?_⟩
   rw [show i' - i=(i' - (i+1))+1 by omega,List.getElem?_cons_succ]
   exact h2
theorem Tab.ver_some {j s i r:Nat}(e:tb.ver j s=some (i,r)):∀ L,R j s=some L→tb.re R i r=some L:=by
 intro L hL
 unfold Tab.ver at e
 split at e
 · cases e
 · rename_i i' hf
   cases e
   have:=(wL hf).2
   simp only [Nat.sub_zero] at this
   simp only [Tab.re,this]
   exact hL
 · rename_i i' t hf
   have:=(wL hf).2
   simp only [Nat.sub_zero] at this
   cases hb:Nat.beq t s with
   | false=>rw [hb] at e; cases e
   | true =>
    rw [hb] at e; cases e
    have:=Nat.eq_of_beq_eq_true hb
    simp only [Tab.re, *,if_true]
mutual
theorem wX {R':Bij}:∀ (n:Nat) (v:AV) (x:Value),vb n v=true→VRel R v x→VRel R' v x
 | 0,_,_,e,_=>by simp [vb] at e
 | n+1,v,x,e,k=>by
  cases v <;> simp only [vb,Bool.and_eq_true,Bool.false_eq_true] at e
  case fn f a b =>
   obtain ⟨h0,p,q,h1,h2,h3⟩:=k
   exact ⟨h0,p,q,h1,qp n _ _ e.1 h2,qp n _ _ e.2 h3⟩
  case ifc t y =>
   obtain ⟨z,h1,h2⟩:=k
   exact ⟨z,h1,wX n _ _ e h2⟩
  case agg l =>
   obtain ⟨z,h1,h2⟩:=k
   exact ⟨z,h1,qp n _ _ e h2⟩
  case tup l =>
   obtain ⟨z,h1,h2⟩:=k
   exact ⟨z,h1,qp n _ _ e h2⟩
  all_goals exact k
theorem qp {R':Bij}:∀ (n:Nat) (l:List AV) (x:List Value),zaL n l=true→VRels R l x→VRels R' l x
 | 0,_,_,e,_=>by simp [zaL] at e
 | n+1,l,x,e,k=>by
  cases l with
  | nil=>exact k
  | cons v r =>
   simp only [zaL,Bool.and_eq_true] at e
   obtain ⟨y,ys,h1,h2,h3⟩:=k
   exact ⟨y,ys,h1,wX n _ _ e.1 h2,qp n _ _ e.2 h3⟩
end
def RenOk (g:Nat→Nat→Option (Nat × Nat)) (R R':Bij):Prop:=∀ j s i r,g j s=some (i,r)→∀ L,R j s=some L→R' i r=some L
theorem Tab.ok (tb:Tab)(R:Bij):RenOk tb.ver R (tb.re R):=fun _ _ _ _ e=>Tab.ver_some e
end
section
variable {P:Program} {g:Nat→Nat→Option (Nat × Nat)} {R R':Bij} (hg:RenOk g R R')
include hg
theorem RenOk.id {j i:Nat}(e:idG g j=some i):∀ L,R j 0=some L→R' i 0=some L:=by
 unfold idG at e
 split at e
 · cases e
 · rename_i i' r hv
   cases hb:Nat.beq r 0 with
   | false=>rw [hb] at e; cases e
   | true =>
    rw [hb] at e; cases e
    have:=Nat.eq_of_beq_eq_true hb
    subst this
    exact hg _ _ _ _ hv
mutual
theorem y5:∀ (n:Nat) (v v':AV) (x:Value),zeQ g n v=some v'→VRel R v x→VRel R' v' x
 | 0,_,_,_,e,_=>by simp [zeQ] at e
 | n+1,v,v',x,e,k=>by
  cases v <;> simp only [zeQ] at e
  case ptr i r o =>
   split at e
   · cases e
   · rename_i j s hv; cases e
     obtain ⟨L,h1,h2⟩:=k
     exact ⟨L,hg _ _ _ _ hv L h1,h2⟩
  case slc i r o l c =>
   split at e
   · cases e
   · rename_i j s hv; cases e
     obtain ⟨L,h1,h2⟩:=k
     exact ⟨L,hg _ _ _ _ hv L h1,h2⟩
  case slg i r o l c =>
   split at e
   · cases e
   · rename_i j s hv; cases e
     obtain ⟨L,a,h1,h2⟩:=k
     exact ⟨L,a,hg _ _ _ _ hv L h1,h2⟩
  case mp i =>
   split at e
   · cases e
   · rename_i j hv; cases e
     obtain ⟨L,h1,h2⟩:=k
     exact ⟨L,hg.id hv L h1,h2⟩
  case yld i =>
   split at e
   · cases e
   · rename_i j hv; cases e
     obtain ⟨L,h1,h2⟩:=k
     exact ⟨L,hg.id hv L h1,h2⟩
  case fn f a b =>
   split at e
   · rename_i a' b' ha hb
     cases e
     obtain ⟨h0,p,q,h1,h2,h3⟩:=k
     exact ⟨h0,p,q,h1,qD n _ _ _ ha h2,qD n _ _ _ hb h3⟩
   · cases e
  case ifc t y =>
   split at e
   · cases e
   · rename_i y' hy; cases e
     obtain ⟨z,h1,h2⟩:=k
     exact ⟨z,h1,y5 n _ _ _ hy h2⟩
  case agg l =>
   split at e
   · cases e
   · rename_i y' hy; cases e
     obtain ⟨z,h1,h2⟩:=k
     exact ⟨z,h1,qD n _ _ _ hy h2⟩
  case tup l =>
   split at e
   · cases e
   · rename_i y' hy; cases e
     obtain ⟨z,h1,h2⟩:=k
     exact ⟨z,h1,qD n _ _ _ hy h2⟩
  all_goals (cases e; exact k)
theorem qD:∀ (n:Nat) (l l':List AV) (x:List Value),zhI g n l=some l'→VRels R l x→VRels R' l' x
 | 0,_,_,_,e,_=>by simp [zhI] at e
 | n+1,l,l',x,e,k=>by
  have _:=hg
  cases l with
  | nil=>simp only [zhI] at e; cases e; exact k
  | cons v r =>
   simp only [zhI] at e
   split at e
   · cases e
   · rename_i v' hv
     split at e
     · cases e
     · rename_i r' hr
       cases e
       obtain ⟨y,ys,h1,h2,h3⟩:=k
       exact ⟨y,ys,h1,y5 n _ _ _ hv h2,qD n _ _ _ hr h3⟩
end
omit hg in
theorem ziD {α:Type}(l:T α)(v:Option α)(r:T α):zks (.node l v r)=zks l++zks r:=rfl
omit hg in
theorem zcR:∀ {t t':T AV},zls g t=some t'→(∀ f∈zks t,vT f)→∀ u v',t'.get u=some v'→∃ v,t.get u=some v∧(zeQ g 99 v=some v'∨v'=v∧vb 99 v=true)
 | .leaf,t',e,_,u,v',gg=>by cases e; cases gg
 | .fn f,t',e,hp,u,v',gg=>by cases e; exact ⟨v',gg,.inr ⟨rfl,hp f (by simp [zks]) u v' gg⟩⟩
 | .node l v r,t',e,hp,u,v',gg=>by
  change zfq g v (zls g l) (zls g r)=some t' at e
  unfold zfq at e
  rw [ziD] at hp
  split at e
  · cases e
  · rename_i l' hl
    split at e
    · cases e
    · rename_i r' hr
      have step:∀ {w w':Option AV},t'=.node l' w' r'→(∀ x,w'=some x→∃ y,w=some y∧zeQ g 99 y=some x)→v=w→∃ v,(T.node l w r).get u=some v∧(zeQ g 99 v=some v'∨v'=v∧vb 99 v=true):=by
       intro w w' ht hw _
       subst ht
       rw [T.get_node] at gg ⊢
       split at gg
       · obtain ⟨y,h1,h2⟩:=hw v' gg
         subst h1
         exact ⟨y,by rw [if_pos (by assumption)],.inl h2⟩
       · rename_i h0
         rw [if_neg h0]
         split at gg
         · rename_i h1
           rw [if_pos h1]
           exact zcR hl (fun f hf=>hp f (List.mem_append_left _ hf)) _ v' gg
         · rename_i h1
           rw [if_neg h1]
           exact zcR hr (fun f hf=>hp f (List.mem_append_right _ hf)) _ v' gg
      split at e
      · cases e
        exact step rfl (fun x hx=>by cases hx) rfl
      · rename_i y
        split at e
        · cases e
        · rename_i y' hy
          cases e
          exact step rfl (fun x hx=>by cases hx; exact ⟨y,rfl,hy⟩) rfl
theorem zfN {t t':T AV}(e:zls g t=some t')(hp:∀ f∈zks t,vT f){u:Nat}{v':AV}(g:t'.get u=some v'):∃ v,t.get u=some v∧∀ x,VRel R v x→VRel R' v' x:=by
 obtain ⟨v,h1,h2⟩:=zcR e hp u v' g
 refine ⟨v,h1,fun x k=>?_⟩
 rcases h2 with h2 | ⟨rfl,h2⟩
 · exact y5 hg 99 _ _ _ h2 k
 · exact wX 99 _ _ h2 k
omit hg in
theorem zdD {t:T AV}:∀ {us:List Nat} {acc t':T AV},ziG g t us acc=some t'→(∀ u v',acc.get u=some v'→∃ v,t.get u=some v∧zeQ g 99 v=some v')→∀ u v',t'.get u=some v'→∃ v,t.get u=some v∧zeQ g 99 v=some v'
 | [],acc,t',e,h=>by cases e; exact h
 | u0::r,acc,t',e,h=>by
  unfold ziG at e
  split at e
  · cases e
  · rename_i v0 h0
    split at e
    · cases e
    · rename_i v1 h1
      rw [T.seq_eq] at e
      refine zdD e fun u v' g=>?_
      rw [T.get_set] at g
      split at g
      · rename_i hu
        cases g
        rw [hu]
        exact ⟨v0,h0,h1⟩
      · exact h u v' g
omit hg in
theorem wN {α β γ:Type}{f:α→Option β}{r:α→γ→Prop}{r':β→γ→Prop}(h:∀ a b c,f a=some b→r a c→r' b c):∀ {l:List α} {l':List β} {m:List γ},ziM f l=some l'→All2 r l m→All2 r' l' m
 | [],_,_,e,k=>by cases e; exact k
 | a::l,l',m,e,k=>by
  unfold ziM at e
  split at e
  · cases e
  · rename_i b hb
    split at e
    · cases e
    · rename_i r0 hr0
      cases e
      obtain ⟨c,cs,h1,h2,h3⟩:=k
      exact ⟨c,cs,h1,h _ _ _ hb h2,wN h hr0 h3⟩
theorem zgH {t t':ATgt}{x:Target}(e:zfF g t=some t')(k:TgtRel R t x):TgtRel R' t' x:=by
 cases t with
 | fn f c =>
  simp only [zfF] at e
  split at e
  · cases e
  · rename_i c' hc
    cases e
    obtain ⟨h0,l,h1,h2⟩:=k
    exact ⟨h0,l,h1,qD hg 99 _ _ _ hc h2⟩
 | nil=>cases e; exact k
 | collected i =>
  simp only [zfF] at e
  split at e
  · cases e
  · rename_i j hj
    cases e
    obtain ⟨L,h1,h2⟩:=k
    exact ⟨L,hg.id hj L h1,h2⟩
theorem zbV {d d':ADef}{x:Deferred}(e:zfO g d=some d')(k:DefRel R d x):DefRel R' d' x:=by
 unfold zfO at e
 split at e
 · cases e
 · rename_i t ht
   split at e
   · cases e
   · rename_i a ha
     cases e
     exact ⟨zgH hg ht k.1,qD hg 99 _ _ _ ha k.2⟩
theorem zgK {d d':AEntry}{x:MapEntry}(e:ziN g d=some d')(k:zjf R d x):zjf R' d' x:=by
 unfold ziN at e
 split at e
 · cases e
 · rename_i t ht
   split at e
   · cases e
   · rename_i a ha
     cases e
     exact ⟨y5 hg 99 _ _ _ ht k.1,y5 hg 99 _ _ _ ha k.2.1,k.2.2⟩
theorem zfu {d d':AItem}{x:Item}(e:jf g d=some d')(k:ItemRel R d x):ItemRel R' d' x:=by
 cases d <;> simp only [jf] at e
 case inRange i =>
  split at e
  · cases e
  · rename_i j hj
    cases e
    obtain ⟨L,h1,h2⟩:=k
    exact ⟨L,hg.id hj L h1,h2⟩
 case endRange i =>
  split at e
  · cases e
  · rename_i j hj
    cases e
    obtain ⟨L,h1,h2⟩:=k
    exact ⟨L,hg.id hj L h1,h2⟩
 case drw=>cases e
 all_goals (cases e; exact k)
theorem zfp {d d':AMode}{x:FrameMode}(e:zdw g d=some d')(k:ModeRel R d x):ModeRel R' d' x:=by
 cases d <;> simp only [zdw] at e
 case panicking c =>
  split at e
  · cases e
  · rename_i c' hc
    cases e
    obtain ⟨l,h1,h2⟩:=k
    refine ⟨l,h1,wN (fun a b z hab hz=>?_) hc h2⟩
    split at hab
    · cases hab
    · rename_i v hv
      cases hab
      exact ⟨y5 hg 99 _ _ _ hv hz.1,hz.2⟩
 all_goals (cases e; exact k)
theorem zex {d d':Option Nat}{x:Option Nat}(e:zdt g d=some d')(k:RoundRel R d x):RoundRel R' d' x:=by
 cases d <;> simp only [zdt] at e
 · cases e; exact k
 · split at e
   · cases e
   · rename_i j hj
     cases e
     obtain ⟨L,h1,h2⟩:=k
     exact ⟨L,hg.id hj L h1,h2⟩
theorem vR {t t':T AV}{us:List Nat}{a:Array Value}(e:ziG g t us .leaf=some t')(k:Slots R t a):Slots R' t' a:=fun u v' g=>by
 obtain ⟨v,h1,h2⟩:=zdD e (fun u v' g=>by cases g) u v' g
 obtain ⟨x,h3,h4⟩:=k u v h1
 exact ⟨x,h3,y5 hg 99 _ _ _ h2 h4⟩
omit hg in
theorem jr:∀ {l l':List AItem},ziM (jf g) l=some l'→∀ it∈l,∀ a b c,it≠.drw a b c
 | [],_,_,_,h=>absurd h List.not_mem_nil
 | a::l,l',e,it,hm=>by
  unfold ziM at e
  split at e
  · cases e
  · rename_i b hb
    split at e
    · cases e
    · rename_i r0 hr0
      rcases List.mem_cons.1 hm with h | h
      · subst h
        intro a b c h
        subst h; cases hb
      · exact jr hr0 it h
omit hg in
theorem zcH {d d':AItem}(e:jf g d=some d'):∀ a b c,d'≠.drw a b c:=by
 intro a b c h
 subst h
 cases d <;> simp only [jf] at e
 case inRange i=>split at e <;> cases e
 case endRange i=>split at e <;> cases e
 all_goals cases e
theorem zay {B B':Base}{d d':Nat}{sus sus':Bool}{h h':AHeap}{af af':AFrame}{fr:Frame}{us:List Nat}(e:zkW g us af=some af')(k:FrameRel P B R d sus h af fr):FrameRel P B' R' d' sus' h' af' fr:=by
 obtain ⟨fn,n,t,todo,ds,mode,kind,round⟩:=af
 simp only [zkW] at e
 split at e
 · cases e
 rename_i t' ht
 split at e
 · cases e
 rename_i todo' htodo
 split at e
 · cases e
 rename_i ds' hds
 split at e
 · cases e
 rename_i mode' hmode
 split at e
 · cases e
 rename_i round' hround
 cases e
 obtain ⟨k1,k2,k3,k4,k5,k6,k7,k8,k9⟩:=k
 refine ⟨k1,k2,k3,k4,zex hg hround k5,wN (r:=DefRel R) (r':=DefRel R') (fun _ _ _=>zbV hg) hds k6,zfp hg hmode k7,k8,?_⟩
 have htr:∀ {a:Array Value} {ct:List Item},TodoRel P B R d sus h todo t ct a→TodoRel P B' R' d' sus' h' todo' t' ct a:=by
  intro a ct q
  have q':All2 (ItemRel R) todo ct∧Slots R t a:=by
   cases todo with
   | nil=>exact q
   | cons it kk =>
    cases it with
    | drw a b c=>exact absurd rfl (jr htodo _ List.mem_cons_self a b c)
    | _=>exact q
  have g:All2 (ItemRel R') todo' ct∧Slots R' t' a:=⟨wN (r:=ItemRel R) (r':=ItemRel R') (fun _ _ _=>zfu hg) htodo q'.1,vR hg ht q'.2⟩
  cases todo' with
  | nil=>exact g
  | cons it kk =>
   cases it with
   | drw a b c =>
    exfalso
    cases todo with
    | nil=>cases htodo
    | cons i0 k0 =>
     unfold ziM at htodo
     split at htodo
     · cases htodo
     · rename_i b0 hb0
       split at htodo
       · cases htodo
       · cases htodo
         exact zcH hb0 a b c rfl
   | _=>exact g
 cases mode with
 | run=>cases hmode; exact htr k9
 | returning=>cases hmode; exact vR hg ht k9
 | panicking c =>
  simp only [zdw] at hmode
  split at hmode
  · cases hmode
  · cases hmode; exact vR hg ht k9
theorem zec {B B':Base}{h h':AHeap}:∀ {uss:List (List Nat)} {as as':List AFrame} {fs:List Frame},ziO g uss as=some as'→StackRel P B R h as fs→StackRel P B' R' h' as' fs∧as'.length=as.length
 | [],[],_,_,e,k=>by cases e; exact ⟨k,rfl⟩
 | [],_::_,_,_,e,_=>by cases e
 | _::_,[],_,_,e,_=>by cases e
 | us::uss,a::as,as',fs,e,⟨f,r,e1,k1,k2⟩=>by
  simp only [ziO] at e
  split at e
  · cases e
  · rename_i a' ha
    split at e
    · cases e
    · rename_i r' hr
      cases e
      obtain ⟨g1,g2⟩:=zec (B':=B') (h':=h') hr k2
      exact ⟨⟨f,r,e1,by rw [g2]; exact zay hg ha k1,g1⟩,by simp [g2]⟩
theorem zc0 {w:World}{i j:Nat}{t:Option Nat}{o o':AObj}(hre:t=none→∀ r,R' i r=R j r)(hve:∀ t0,t=some t0→∀ r,R' i r=if r=0 then R j t0 else none)(e:zeR g t o=some o')(hp:∀ f∈zlR o,vT f)(k:ObjRel P R w j o):ObjRel P R' w i o':=by
 cases o with
 | cells c n el lo hi' nv fz sg ex =>
  simp only [zeR] at e
  split at e
  · cases e
  · rename_i c' hc
    obtain ⟨a1,a2,a3,a4,a5⟩:=k
    have hv:∀ {e L},VerRel P R w c el fz sg e L→VerRel P R' w c' el fz sg e L:=by
     intro e L ⟨cs,a,b,h1,h2,h3,h4,h5⟩
     refine ⟨cs,a,b,h1,h2,h3,h4,fun q v g1 g2 g3=>?_⟩
     obtain ⟨v0,q1,q2⟩:=zfN hg hc hp g3
     obtain ⟨x,q3,q4⟩:=h5 q v0 g1 g2 q1
     exact ⟨x,q3,q2 x q4⟩
    split at e
    · cases e
      refine ⟨a1,a2,fun r hr=>by rw [hre rfl]; exact a3 r hr,fun r e b1 b2 b3=>?_,a5⟩
      obtain ⟨L,h1,h2⟩:=a4 r e b1 b2 b3
      exact ⟨L,by rw [hre rfl]; exact h1,hv h2⟩
    · rename_i t0
      cases hb:(Nat.beq t0 hi'&&Nat.ble lo hi') with
      | false=>rw [hb] at e; cases e
      | true =>
       rw [hb] at e; cases e
       rw [Bool.and_eq_true] at hb
       have ht:=Nat.eq_of_beq_eq_true hb.1
       subst ht
       refine ⟨Nat.le_refl _,by omega,fun r hr=>?_,fun r e b1 b2 b3=>?_,fun r e b1 b2 b3=>?_⟩
       · rw [hve _ rfl,if_neg (by omega)]
       · obtain rfl:r=0:=by omega
         simp only [zm,if_true,Option.some.injEq] at b3
         subst b3
         obtain ⟨L,h1,h2⟩:=a4 t0 n a1 (Nat.le_refl _) (by simp [zm])
         exact ⟨L,by rw [hve _ rfl,if_pos rfl]; exact h1,hv h2⟩
       · obtain rfl:r=0:=by omega
         simp only [zm,if_true,Option.some.injEq] at b3
         omega
 | map es clock =>
  simp only [zeR] at e
  split at e
  · cases e
  · split at e
    · cases e
    · rename_i es' hes
      cases e
      obtain ⟨L,es0,h1,h2,h3⟩:=k
      exact ⟨L,es0,by rw [hre rfl]; exact h1,h2,wN (r:=zjf R) (r':=zjf R') (fun _ _ _=>zgK hg) hes h3⟩
 | iter s p =>
  simp only [zeR] at e
  split at e
  · cases e
  · cases e
    obtain ⟨L,h1,h2⟩:=k
    exact ⟨L,by rw [hre rfl]; exact h1,h2⟩
 | ro c lo n =>
  simp only [zeR] at e
  split at e
  · cases e
  · cases e
    obtain ⟨L,cs,el,fz,h1,h2,h3,h4,h5⟩:=k
    exact ⟨L,cs,el,fz,by rw [hre rfl]; exact h1,h2,h3,h4,h5⟩
 | dfrd ds =>
  simp only [zeR] at e
  split at e
  · cases e
  · obtain ⟨L,ds',h1,h2,h3⟩:=k
    cases ds with
    | none=>cases e; exact ⟨L,ds',by rw [hre rfl]; exact h1,h2,h3⟩
    | some ds =>
     simp only at e
     split at e
     · cases e
     · rename_i ds0 hds
       cases e
       obtain ⟨l,h4,h5⟩:=h3
       exact ⟨L,ds',by rw [hre rfl]; exact h1,h2,l,h4,wN (r:=DefRel R) (r':=DefRel R') (fun _ _ _=>zbV hg) hds h5⟩
 | loop lp =>
  obtain ⟨st,pe,fn,n,tmps,ps,asg,body,df⟩:=lp
  simp only [zeR] at e
  split at e
  · cases e
  · split at e
    · cases e
    · rename_i tmps' ht
      split at e
      · cases e
      · rename_i df' hdf
        cases e
        obtain ⟨L,lp',h1,h2,h3⟩:=k
        refine ⟨L,lp',by rw [hre rfl]; exact h1,h2,h3.state,h3.pending,h3.fn,⟨h3.tmps.1,fun u v' g=>?_⟩,h3.params,h3.assign,h3.body,?_⟩
        · obtain ⟨v,q1,q2⟩:=zfN hg ht hp g
          obtain ⟨x,q3,q4⟩:=h3.tmps.2 u v q1
          exact ⟨x,q3,q2 x q4⟩
        · obtain ⟨M,q1,q2⟩:=h3.defers
          exact ⟨M,hg.id hdf M q1,q2⟩
end
section
variable {P:Program} {tb:Tab} {R:Bij}
theorem vQ {objs:T AObj}{n:Nat}:∀ {l:Tab} {i:Nat} {acc objs':T AObj},vV tb objs l i acc=some objs'→(∀ q o',acc.get q=some o'→∃ j t o,tb[q]?=some (j,t)∧objs.get j=some o∧zeR tb.ver t o=some o') →
 (∀ q,l[q]?=tb[i+q]?)→∀ q o',objs'.get q=some o'→∃ j t o,tb[q]?=some (j,t)∧objs.get j=some o∧zeR tb.ver t o=some o'
 | [],i,acc,objs',e,h,_=>by cases e; exact h
 | (j,t)::r,i,acc,objs',e,h,hl=>by
  unfold vV at e
  split at e
  · cases e
  · rename_i o ho
    split at e
    · cases e
    · rename_i o1 ho1
      rw [T.seq_eq] at e
      refine vQ (n:=n) e (fun q o' g=>?_) (fun q=>?_)
      · rw [T.get_set] at g
        split at g
        · rename_i hq
          cases g
          subst hq
          exact ⟨j,t,o,by have:=hl 0; simpa using this.symm,ho,ho1⟩
        · exact h q o' g
      · have:=hl (q+1)
        rw [List.getElem?_cons_succ] at this
        rw [this]; congr 1; omega
theorem zcF {objs:T AObj}:∀ {l:Tab} {i j:Nat} {t:Option Nat} {o:AObj} {f:Nat→Option AV},(∀ (q j:Nat) (t:Option Nat),l[q]?=some (j,t)→(objs.get j).isSome=true)→l[i]?=some (j,t)→objs.get j=some o→f∈zlR o→f∈zli objs l
 | [],_,_,_,_,_,_,e,_,_=>by simp at e
 | (j0,t0)::r,i,j,t,o,f,hs,e,ho,hf=>by
  have h0:=hs 0 j0 t0 (by simp)
  unfold zli
  cases hj:objs.get j0 with
  | none=>rw [hj] at h0; cases h0
  | some o0 =>
   simp only []
   cases i with
   | zero =>
    simp at e
    obtain ⟨rfl,rfl⟩:=e
    rw [hj] at ho; cases ho
    exact List.mem_append_left _ hf
   | succ i =>
    exact List.mem_append_right _ (zcF (fun q j t h=>hs (q+1) j t (by simpa using h)) (by simpa using e) ho hf)
theorem qW {objs:T AObj}:∀ {l:Tab} {i:Nat} {acc objs':T AObj},vV tb objs l i acc=some objs'→∀ (q j:Nat) (t:Option Nat),l[q]?=some (j,t)→(objs.get j).isSome=true
 | [],_,_,_,_,_,_,_,h=>by simp at h
 | (j0,t0)::r,i,acc,objs',e,q,j,t,h=>by
  unfold vV at e
  split at e
  · cases e
  · rename_i o ho
    split at e
    · cases e
    · rw [T.seq_eq] at e
      cases q with
      | zero=>simp at h; obtain ⟨rfl,rfl⟩:=h; rw [ho]; rfl
      | succ q=>exact qW e q j t (by simpa using h)
theorem kg {keep:Nat}{objs:T AObj}:∀ {ids:List Nat} {i q j:Nat} {t:Option Nat},(jv keep objs ids i)[q]?=some (j,t)→ids[q]?=some j∧(i+q<keep→t=none)
 | [],_,_,_,_,h=>by simp [jv] at h
 | j0::r,i,q,j,t,h=>by
  unfold jv at h
  cases q with
  | zero =>
   simp only [List.getElem?_cons_zero,Option.some.injEq,Prod.mk.injEq] at h
   obtain ⟨rfl,h⟩:=h
   refine ⟨by simp,fun hk=>?_⟩
   have:Nat.blt i keep=true:=by rw [Nat.blt_eq]; omega
   rw [this] at h
   exact h.symm
  | succ q =>
   rw [List.getElem?_cons_succ] at h
   obtain ⟨g1,g2⟩:=kg h
   exact ⟨by simpa using g1,fun hk=>g2 (by omega)⟩
theorem yG:∀ {ids:List Nat},je ids=true→∀ {p q j:Nat},ids[p]?=some j→ids[q]?=some j→p=q
 | [],_,_,_,_,h,_=>by simp at h
 | i::r,hn,p,q,j,hp,hq=>by
  simp only [je,Bool.and_eq_true,Bool.not_eq_true',List.any_eq_false] at hn
  have hno:∀ k,r[k]?=some i→False:=fun k hk=>hn.1 i (List.mem_of_getElem? hk) (Nat.beq_refl i)
  cases p with
  | zero =>
   cases q with
   | zero=>rfl
   | succ q=>simp at hp hq; subst hp; exact absurd (hno q hq) id
  | succ p =>
   cases q with
   | zero=>simp at hp hq; subst hq; exact absurd (hno p hp) id
   | succ q=>simp at hp hq; rw [yG hn.2 hp hq]
theorem zem:∀ {ids:List Nat} {k i:Nat},zg2 ids k i=true→∀ q,q<k→ids[q]?=some (i+q)
 | _,0,_,_,q,hq=>absurd hq (Nat.not_lt_zero _)
 | [],_+1,_,h,_,_=>by cases h
 | j::r,k+1,i,h,q,hq=>by
  simp only [zg2,Bool.and_eq_true] at h
  cases q with
  | zero=>simp; exact Nat.eq_of_beq_eq_true h.1
  | succ q =>
   rw [List.getElem?_cons_succ,zem h.2 q (by omega)]
   congr 1; omega
theorem jO {keep:Nat}{objs:T AObj}:∀ {ids:List Nat} {i:Nat},(jv keep objs ids i).length=ids.length
 | [],_=>rfl
 | _::r,i=>by simp [jv,jO (ids:=r)]
theorem yV {K:Prop}:∀ {l:List (Nat→Option AV)},km l K→(∀ f∈l,vT f)∧K
 | [],h=>⟨fun _ hf=>absurd hf List.not_mem_nil,h⟩
 | f::r,h=>by
  obtain ⟨g1,g2⟩:=yV (l:=r) h.2
  exact ⟨fun f' hf=>by
   rcases List.mem_cons.1 hf with e | e
   · rw [e]; exact h.1
   · exact g1 f' e,g2⟩
noncomputable def Base.re (B:Base) (tb:Tab) (h:AHeap):Base:={ B with
 pend:=fun i=>match tb[i]? with
  | none=>none
  | some (j,_)=>match B.pend j with
   | none=>none
   | some _=>h.get i
 ro:=fun i=>∃ j t,tb[i]?=some (j,t)∧B.ro j }
theorem Sim.can {w0:Env}{base:List Frame}{keep:Nat}{ids us:List Nat}{uss:List (List Nat)}{m m':AM}{fr:Frame}{cs:List Frame}{w:World}(hk:∀ i r L,w0.pin i r=some L→i<keep)
 (e:zlw keep ids us uss m=some m') (hp:∀ f∈zli m.heap.objs (jv keep m.heap.objs ids 0),vT f) (k:Sim P w0 base m fr cs w):Sim P w0 base m' fr cs w:=by
 obtain ⟨top,rest,h⟩:=m
 obtain ⟨B,R,fs,hc,hb,kh,ho,kt,kb⟩:=k
 simp only [zlw] at e
 cases hn:(je ids&&zg2 ids keep 0) with
 | false=>rw [hn] at e; cases e
 | true =>
  rw [hn] at e
  rw [Bool.and_eq_true] at hn
  simp only [cond_true] at e
  generalize htb:jv keep h.objs ids 0=tb at e hp
  split at e
  · cases e
  rename_i h' hh
  split at e
  · cases e
  rename_i top' htop
  split at e
  · cases e
  rename_i rest' hrest
  cases e
  obtain ⟨g1,g2⟩:=zec (tb.ok R) (B':=B.re tb h') (h':=h') hrest kb
  refine ⟨B.re tb h',tb.re R,fs,hc,hb,?_,ho,?_,g1⟩
  · obtain ⟨objs,next,glob⟩:=h
    simp only [jA] at hh
    cases hlt:(tb.all fun p=>Nat.blt p.1 next) with
    | false=>rw [hlt] at hh; cases hh
    | true =>
     rw [hlt] at hh
     simp only [cond_true] at hh
     split at hh
     · cases hh
     rename_i objs' hobjs
     cases hh
     have hget:=vQ (n:=0) hobjs (fun q o' g=>by cases g) (fun q=>by rw [Nat.zero_add])
     have hsome:=qW hobjs
     have htlt:∀ {q j:Nat} {t:Option Nat},tb[q]?=some (j,t)→q<tb.length:=fun h=>(List.getElem?_eq_some_iff.1 h).1
     have hre:∀ {i r L},tb.re R i r=some L→∃ j t s,tb[i]?=some (j,t)∧R j s=some L∧(t=none→s=r)∧(∀ t0,t=some t0→s=t0∧r=0):=by
      intro i r L e
      unfold Tab.re at e
      split at e
      · cases e
      · rename_i j hi; exact ⟨j,none,r,hi,e,(fun _=>rfl),(fun _ h=>by cases h)⟩
      · rename_i j t0 hi
        split at e
        · rename_i hr; exact ⟨j,some t0,t0,hi,e,(fun h=>by cases h),(fun _ h=>by cases h; exact ⟨rfl,hr⟩)⟩
        · cases e
     have hinj:∀ {p q j:Nat} {t t':Option Nat},tb[p]?=some (j,t)→tb[q]?=some (j,t')→p=q:=by
      intro p q j t t' h1 h2
      rw [← htb] at h1 h2
      exact yG hn.1 (kg h1).1 (kg h2).1
     refine ⟨fun i hi r=>?_,fun i o' eo hpe=>?_,fun i o' e=>?_,fun i r L e=>?_,fun i hi=>?_,fun i hi=>?_,fun i r L hi e=>?_,kh.low,fun i r L e=>?_,fun i r i' r' L L' e e' hbl hor=>?_,fun i r r' L L' e e' hbl=>?_,fun g c e=>?_⟩
     · have:tb[i]?=none:=List.getElem?_eq_none hi
       simp only [Tab.re,this]
     · obtain ⟨j,t,o,q1,q2,q3⟩:=hget i o' eo
       have hpend:B.pend j=none:=by
        simp only [Base.re,q1] at hpe
        cases hb:B.pend j with
        | none=>rfl
        | some o0=>rw [hb] at hpe; simp only at hpe; rw [hpe] at eo; cases eo
       exact zc0 (tb.ok R) (fun ht r=>by subst ht; simp only [Tab.re,q1]) (fun t0 ht r=>by subst ht; simp only [Tab.re,q1]) q3 (fun f hf=>hp f (zcF hsome q1 q2 hf)) (kh.obj j o q2 hpend)
     · simp only [Base.re] at e
       split at e
       · cases e
       · rename_i j t hj
         split at e
         · cases e
         · rename_i o0 hb0
           refine ⟨htlt hj,e,fun r=>?_⟩
           have hno:=(kh.pend j o0 hb0).2.2
           cases hr:tb.re R i r with
           | none=>rfl
           | some L =>
            obtain ⟨j',t',s,q1,q2,_,_⟩:=hre hr
            rw [hj] at q1; cases q1
            rw [hno s] at q2; cases q2
     · obtain ⟨j,t,s,q1,q2,q3,q4⟩:=hre e
       exact ⟨(kh.place j s L q2).1.elim .inl fun hr=>.inr ⟨j,t,q1,hr⟩,(kh.place j s L q2).2⟩
     · obtain ⟨j,t,q1,q2⟩:=hi
       refine ⟨htlt q1,fun o' eo=>?_⟩
       obtain ⟨j',t',o,p1,p2,p3⟩:=hget i o' eo
       rw [q1] at p1; cases p1
       have:=(kh.rd j q2).2 o p2
       cases o with
       | ro c lo n =>
        cases t with
        | none=>simp only [zeR] at p3; cases p3; rfl
        | some t0=>simp only [zeR] at p3; cases p3
       | _=>cases this
     · obtain ⟨j,t,q1,q2⟩:=hi
       simp only [Base.re,q1,kh.rp j q2]
     · obtain ⟨j,t,s,q1,q2,q3,q4⟩:=hre e
       obtain ⟨j',t',p1,p2⟩:=hi
       rw [q1] at p1; cases p1
       exact kh.rol j s L p2 q2
     · have hik:=hk i r L (by have e':B.env.pin i r=some L:=e; rw [hb] at e'; exact e')
       have hst:=zem hn.2 i hik
       have hlen:i<tb.length:=by
        rw [← htb,jO]; exact (List.getElem?_eq_some_iff.1 hst).1
       obtain ⟨⟨j,t⟩,hjt⟩:∃ p,tb[i]?=some p:=⟨_,List.getElem?_eq_getElem hlen⟩
       have:=hjt
       rw [← htb] at this
       obtain ⟨a1,a2⟩:=kg this
       rw [a1] at hst
       simp only [Nat.zero_add,Option.some.injEq] at hst a2
       have ht:=a2 hik
       subst hst ht
       simp only [Tab.re,hjt]
       exact kh.pin _ r L e
     · obtain ⟨j,t,s,q1,q2,_,_⟩:=hre e
       obtain ⟨j',t',s',q1',q2',_,_⟩:=hre e'
       have:=kh.apart j s j' s' L L' q2 q2' hbl (hor.imp (fun hn hr=>hn ⟨j,t,q1,hr⟩) (fun hn hr=>hn ⟨j',t',q1',hr⟩))
       subst this
       exact hinj q1 q1'
     · obtain ⟨j,t,s,q1,q2,_,_⟩:=hre e
       obtain ⟨j',t',s',q1',q2',_,_⟩:=hre e'
       rw [q1] at q1'; cases q1'
       exact kh.same j s s' L L' q2 q2' hbl
     · exact kh.glob g c e
  · show FrameRel P _ _ rest'.length false _ top' fr
    rw [g2]
    exact zay (tb.ok R) htop kt
end
end Go.Proofs.Ytehelionjafnkaa.Ev
end
section
namespace Go.Proofs.Ytehelionjafnkaa.Ev
open Go
def Goal (P:Program) (keep:Nat) (f0:FuncId) (Q:AV→AHeap→Prop) (m:AM):Prop :=
 ∀ (w0:Env) (base:List Frame) (fr:Frame) (cs:List Frame) (w:World),(∀ i r L,w0.pin i r=some L→i<keep)→Sim P w0 base m fr cs w →
  ∃ (fr':Frame) (w':World) (B:Base) (R:Bij) (v:AV) (v':Value) (h':AHeap),Steps P (lone fr cs w) (lone fr' base w')∧fr'.leaving P w' (.returned v')∧fr'.fn=f0 ∧
   VRel R v v'∧B.env=w0∧HRel P B R h' w'∧Old0 w0.toWorld w'∧Q v h'
noncomputable section
variable (P:Program)
mutual
def okD:Nat→AV→Bool
 | 0,_=>false
 | n+1,v=>match v with
  | .fn _ a b=>zkU n a&&zkU n b
  | .ifc _ v=>okD n v
  | .agg l | .tup l=>zkU n l
  | _=>true
def zkU:Nat→List AV→Bool
 | 0,_=>false
 | n+1,l=>match l with
  | []=>true
  | v::r=>okD n v&&zkU n r
end
def zjB (b:Bool) (K:Prop):Prop:=match b with
 | true=>K
 | false=>False
def atP (p:AV) (size:Nat) (i:Int) (len:Nat):Option (AV × Prop):=match p with
 | .ptr id ver off=>some (.ptr id ver (off+i.toNat*size),0≤i∧i<len)
 | .gp g off=>some (.gp g (off+i.toNat*size),0≤i∧i<len)
 | _=>none
def zkE (size:Nat) (x:AV) (i:Int):Option (AV × Prop):=match x with
 | .slc id ver off len _=>atP (.ptr id ver off) size i len
 | .slg id ver off len _=>atP (.ptr id ver off) size i len
 | _=>none
def jt (t:TypeId) (x ix:AV):Option (AV × Prop):=match ix with
 | .int _ i=>match P.underlying t with
  | some (.array len el)=>match xU P el with
   | none=>none
   | some s=>atP x s i len
  | some (.slice el)=>match xU P el with
   | none=>none
   | some s=>zkE s x i
  | _=>none
 | _=>none
def zkf (t:TypeId):Bool:=match zjn P t with
 | some b=>!b
 | none=>false
def zhV (t:TypeId) (x ix:AV):Option (AV × Prop):=match ix with
 | .int _ i=>match P.underlying t with
  | some .string=>match x with
   | .str s=>some (.int .u8 (s.getD i.toNat 0).toNat,0≤i∧i<s.length)
   | _=>none
  | some (.array len el)=>match x with
   | .agg cs=>match zkf P el with
    | false=>none
    | true=>match xU P el with
     | none=>none
     | some s=>some (cs.getD (i.toNat*s) xd,(0≤i∧i<len)∧i.toNat*s<cs.length)
   | _=>none
  | _=>none
 | _=>none
def yg (len cap:Nat) (lo hi mx:Option Int):Nat × Nat × Nat × Prop :=
 let m:Nat:=match mx with
  | none=>cap
  | some v=>v.toNat
 let mp:Prop:=match mx with
  | none=>True
  | some v=>0≤v∧v≤(cap:Int)
 let h:Nat:=match hi with
  | none=>len
  | some v=>v.toNat
 let hp:Prop:=match hi with
  | none=>match mx with
   | none=>mp
   | some _=>False
  | some v=>match mx with
   | none=>0≤v∧v≤(m:Int)
   | some _=>mp∧0≤v∧v≤(m:Int)
 match lo with
 | none=>(0,h,m,hp)
 | some v=>(v.toNat,h,m,match hi with
  | none=>match mx with
   | none=>0≤v∧v≤(h:Int)
   | some _=>False
  | some _=>hp∧0≤v∧v≤(h:Int))
def zhG (t:TypeId) (x:AV) (lo hi mx:Option Int):Option (AV × Prop):=match P.underlying t with
 | some .string=>match x with
  | .str s=>match mx with
   | some _=>none
   | none=>match yg s.length s.length lo hi none with
    | (l,h,_,p)=>some (.str ((s.drop l).take (h - l)),p)
  | _=>none
 | some (.slice el)=>match xU P el with
  | none=>none
  | some sz=>match x with
   | .nils len cap=>match yg len cap lo hi mx with
    | (l,h,m,p)=>some (.nils (h - l) (m - l),p)
   | .slc id ver off len cap=>match yg len cap lo hi mx with
    | (l,h,m,p)=>some (.slc id ver (if m=l then off else off+l*sz) (h - l) (m - l),p)
   | .slg id ver off len st=>match mx with
    | some _=>match len with
     | 0=>none
     | _+1=>match yg len len lo hi mx with
      | (l,h,m,p)=>some (.slc id ver (if m=l then off else off+l*sz) (h - l) (m - l),p)
    | none=>match yg len len lo hi none with
     | (l,h,_,p)=>some (.slg id ver (off+l*sz) (h - l) (st+l),p)
   | _=>none
 | _=>none
def binS (op:BinOp) (x y:AV):Option (AV × Prop):=match x with
 | .str a=>match y with
  | .str b=>match op with
   | .add=>some (.str (a++b),a.length+b.length<2 ^ 40)
   | _=>none
  | _=>none
 | .int k a=>match y with
  | .int k' b=>match op with
   | .quo=>if k=k' then some (.int k (k.wrap (a.tdiv b)),b≠0) else none
   | .rem=>if k=k' then some (.int k (a.tmod b),b≠0) else none
   | .shl=>some (.int k (k.wrap (a*2 ^ (min b.toNat k.bits))),0≤b)
   | .shr=>some (.int k (a.fdiv (2 ^ (min b.toNat k.bits))),0≤b)
   | _=>none
  | _=>none
 | _=>none
def zfT (h:AHeap) (id ver off k:Nat):Option (List AV × Prop):=match h.get id with
 | some (.ro c lo n)=>bif Nat.beq ver 0 then match zC c off k with
  | none=>none
  | some l=>some (l,lo≤off∧off+k≤n) else none
 | some (.cells c n _ lo hi _ _ _ ex)=>match zm ex n hi ver with
  | none=>none
  | some e=>bif Nat.ble lo ver&&Nat.ble ver hi then match zC c off k with
   | none=>none
   | some l=>some (l,off+k≤e) else none
 | _=>none
def zj0 (h:AHeap) (t:TypeId) (p:AV):Option (AV × Prop):=match p with
 | .ptr id ver off=>match zjn P t with
  | none=>none
  | some true=>match P.info? t with
   | none=>none
   | some i=>match zfT h id ver off i.size with
    | none=>none
    | some (l,p)=>some (.agg l,p)
  | some false=>match zfT h id ver off 1 with
   | some ([v],p)=>some (v,p)
   | _=>none
 | _=>none
def zeY (h:AHeap) (r:Option (AV × Prop)):Option (AR × Prop):=match r with
 | none=>none
 | some (v,p)=>some (.val v h,p)
def zje (ρ:Operand→Option AV) (x y:Operand) (f:AV→AV→Option (AR × Prop)):Option (AR × Prop):=match ρ x with
 | none=>none
 | some a=>match ρ y with
  | none=>none
  | some b=>f a b
def opS (ρ:Operand→Option AV) (h:AHeap) (o:Op):Option (AR × Prop):=match o with
 | .indexAddr t x ix=>zje ρ x ix fun a b=>zeY h (jt P t a b)
 | .index t x ix=>zje ρ x ix fun a b=>zeY h (zhV P t a b)
 | .binOp op _ x y _=>zje ρ x y fun a b=>zeY h (binS op a b)
 | .slice t x lo hi mx=>match ρ x with
  | none=>none
  | some v=>match qk ρ lo with
   | none=>none
   | some l=>match qk ρ hi with
    | none=>none
    | some hh=>match qk ρ mx with
     | none=>none
     | some m=>zeY h (zhG P t v l hh m)
 | .load t a=>match ρ a with
  | none=>none
  | some p=>zeY h (zj0 P h t p)
 | _=>none
def zlL (h:AHeap) (id:Nat):Bool:=match h.get id with
 | some (.ro ..)=>true
 | some (.cells (.fn _) ..)=>true
 | _=>false
def zh7 (h:AHeap) (t:TypeId) (p v:AV) (K:Prop):Prop:=match zj0 P h t p with
 | none=>False
 | some (x,q)=>q∧x=v∧K
def zkZ (ρ:Operand→Option AV) (h:AHeap) (o:Op) (v:AV) (K:Prop):Prop:=match o with
 | .load t a=>match ρ a with
  | some (.ptr id ver off)=>match zlL h id with
   | true=>zh7 P h t (.ptr id ver off) v K
   | false=>vv P ρ h (.load t a)=some v∧K
  | _=>vv P ρ h (.load t a)=some v∧K
 | o=>vv P ρ h o=some v∧K
def zkR (all:List Oper) (t:T AV) (h:AHeap) (o:Oper) (K:Prop):Prop:=match zy all t o.guard with
 | none=>False
 | some w=>match w with
  | false=>K
  | true=>match o.dst with
   | none=>(vv P (ev t) h o.op).isSome=true∧K
   | some d=>match t.get d with
    | none=>False
    | some v=>zkZ P (ev t) h o.op v (zjB (okD 300 v) K)
def zlv (all:List Oper) (anc:Nat) (t:T AV) (h:AHeap):List Nat→Prop→Prop
 | [],K=>K
 | p::r,K=>match all[p]? with
  | none=>zlv all anc t h r K
  | some o=>match yn P o.op&&!(anc.testBit p) with
   | false=>zlv all anc t h r K
   | true=>zkR P all t h o (zlv all anc t h r K)
def zkh (fr:AFrame) (h:AHeap) (all:Array Oper) (i:Nat) (o:Oper) (l dn:List Nat) (k:List AItem) (t:Option (T AV)) (K:AFrame→Prop):Prop:=match t with
 | none=>False
 | some t=>match fr with
  | ⟨fn,n,_,_,ds,mode,kind,round⟩=>match yq P o || z8 o.op with
   | false=>K ⟨fn,n,t,.drw all l (i::dn)::k,ds,mode,kind,round⟩
   | true=>zlv P all.toList (bif yq P o then (zz P all.toList).anc.getD i 0 else 0) t h dn (K ⟨fn,n,t,.drw all l (i::dn)::k,ds,mode,kind,round⟩)
def zdC {α:Type} (o:Option α) (K:α→Prop):Prop:=match o with
 | none=>False
 | some a=>K a
def Fin (fr:AFrame) (h:AHeap) (v:AV) (K:AFrame→Prop):Prop:=match fr.todo with
 | .drw all (i::l) dn::k=>match all[i]? with
  | none=>False
  | some o=>zkh P fr h all i o l dn k (zhg fr.tmps fr.n o.dst v) K
 | _=>zdC (zG P fr h v) K
def zji [XT P] (fr:AFrame) (rest:List AFrame) (heap:AHeap) (r:AR) (K:AM→Prop):Prop:=match r with
 | .val v h=>Fin P fr h v fun fr=>K ⟨fr,rest,h⟩
 | .skip h=>Fin P fr h xd fun fr=>K ⟨fr,rest,h⟩
 | r=>zdC (zhb P fr rest heap r) K
def ke (fr:AFrame):Option (List Oper × Oper):=match fr.todo with
 | .ops all (o::_)::_=>some (all,o)
 | .drw all (i::_) _::_=>match all[i]? with
  | none=>none
  | some o=>some (all.toList,o)
 | _=>none
def Br (b:Bool) (m:AM) (K:AM→Prop):Prop:=match m with
 | ⟨fr,rest,h⟩=>match fr.mode with
  | .run=>match fr.todo with
   | .code (.cond c x y)::k=>match ev fr.tmps c with
    | some (.bool t)=>t=b∧K ⟨fr.withTodo (.code (bif b then x else y)::k),rest,h⟩
    | _=>False
   | _=>False
  | _=>False
def Know (u:Nat) (b:Bool) (m:AM) (K:AM→Prop):Prop:=match m with
 | ⟨⟨fn,n,t,todo,ds,mode,kind,round⟩,rest,h⟩=>match t.get u with
  | some (.bool c)=>c=b∧K ⟨⟨fn,n,t.set (some (.bool b)) u,todo,ds,mode,kind,round⟩,rest,h⟩
  | _=>False
def Slot (u:Nat) (v:AV) (m:AM) (K:AM→Prop):Prop:=match m with
 | ⟨⟨fn,n,t,todo,ds,mode,kind,round⟩,rest,h⟩=>match t.get u with
  | some x=>x=v∧K ⟨⟨fn,n,t.set (some v) u,todo,ds,mode,kind,round⟩,rest,h⟩
  | _=>False
def OpK [XT P] (m:AM) (K:AM→Prop):Prop:=match m with
 | ⟨fr,rest,h⟩=>match fr.mode with
  | .run=>match ke fr with
   | none=>False
   | some (all,o)=>match zy all fr.tmps o.guard with
    | some true=>match opS P (ev fr.tmps) h o.op with
     | none=>False
     | some (r,p)=>p∧zji P fr rest h r K
    | _=>False
  | _=>False
def ResK [XT P] (r:AR) (m:AM) (K:AM→Prop):Prop:=match m with
 | ⟨fr,rest,h⟩=>match fr.mode with
  | .run=>match ke fr with
   | none=>False
   | some (all,o)=>match zy all fr.tmps o.guard with
    | some true=>opA P (ev fr.tmps) h o.op=some r∧zji P fr rest h r K
    | _=>False
  | _=>False
def zku [XT P] (m:AM) (K:AM→Prop):Prop:=match m with
 | ⟨fr,rest,h⟩=>match fr.mode with
  | .run=>match ke fr with
   | none=>False
   | some (all,o)=>match zy all fr.tmps o.guard with
    | some true=>zdC (opA P (ev fr.tmps) h o.op) fun r=>zji P fr rest h r K
    | _=>False
  | .returning=>match fr.defers with
   | []=>match fr.kind with
    | .normal=>match rest with
     | []=>False
     | c::r=>match c.mode with
      | .run=>zdC (zkM P fr h) fun v=>Fin P c h v fun c=>K ⟨c,r,h⟩
      | _=>False
    | _=>False
   | _::_=>False
  | _=>False
def zil (us:List Nat) (Q:AV→Prop) (m:AM) (K:AM→Prop):Prop:=match m with
 | ⟨fr,rest,h⟩=>match rest with
  | []=>False
  | c::r=>match fr.kind with
   | .normal=>match c.mode with
    | .run=>match zlw 0 [] us [] ⟨fr,[],h⟩ with
     | none=>False
     | some m'=>Goal P 0 fr.fn (fun v _=>Q v∧vb 99 v=true) m'∧∀ v,Q v→Fin P c h v fun c=>K ⟨c,r,h⟩
    | _=>False
   | _=>False
def yY (f:FuncId) (args:List AV) (G:T (T AV)):AM:=match wD P f args .normal with
 | some a=>⟨a,[],⟨.leaf,0,G⟩⟩
 | none=>⟨⟨0,0,.leaf,[],[],.run,.normal,none⟩,[],⟨.leaf,0,G⟩⟩
def zlf (us:List Nat) (v:AV) (m:AM) (K:AM→Prop):Prop:=match m with
 | ⟨fr,rest,h⟩=>match rest with
  | []=>False
  | c::r=>match fr.kind with
   | .normal=>match c.mode with
    | .run=>match zlw 0 [] us [] ⟨fr,[],h⟩ with
     | none=>False
     | some m'=>zjB (vb 99 v) (Goal P 0 fr.fn (fun x _=>x=v) m'∧Fin P c h v fun c=>K ⟨c,r,h⟩)
    | _=>False
   | _=>False
def zgT (t:T AV):List Nat→T AV→T AV
 | [],acc=>acc
 | u::r,acc=>(acc.set (t.get u) u).seq fun acc=>zgT t r acc
def zkB (us:List Nat) (m:AM) (K:AM→Prop):Prop:=match m with
 | ⟨⟨fn,n,t,todo,ds,mode,kind,round⟩,rest,h⟩=>match todo with
  | .drw _ _ _::_=>False
  | todo=>K ⟨⟨fn,n,zgT t us .leaf,todo,ds,mode,kind,round⟩,rest,h⟩
def zlD (f0:FuncId) (Q:AV→AHeap→Prop) (m:AM):Prop:=zdC (zjv P f0 m) fun v=>Q v m.heap
end
section
variable {P:Program}
theorem xe {α:Type}{o:Option α}{K:α→Prop}(h:zdC o K):∃ a,o=some a∧K a:=by
 unfold zdC at h
 split at h
 · exact h.elim
 · exact ⟨_,rfl,h⟩
theorem T.set_same' {α:Type}:∀ {t:T α} {n:Nat} {v:α},t.get n=some v→t.set (some v) n=t
 | .leaf,_,_,e=>by cases e
 | .fn f,n,v,e=>by
  show T.fn (fun m=>bif Nat.beq m n then some v else f m)=_
  congr 1
  funext m
  cases hb:Nat.beq m n with
  | false=>rfl
  | true=>rw [Nat.eq_of_beq_eq_true hb]; exact e.symm
 | .node l x r,n,v,e=>by
  rw [T.get_node] at e
  show (bif Nat.beq n 0 then T.node l (some v) r else bif Nat.beq (Nat.mod n 2) 1 then T.seq (l.set (some v) (Nat.div n 2)) (fun l=>T.node l x r) else T.seq (r.set (some v) (Nat.sub (Nat.div n 2) 1)) (fun r=>T.node l x r))=_
  rw [T.seq_eq,T.seq_eq]
  split at e
  · rename_i h0
    subst h0; subst e; rfl
  · rename_i h0
    have e0:Nat.beq n 0=false:=by cases n <;> simp_all [Nat.beq]
    rw [e0]
    split at e
    · rename_i h1
      have e1:Nat.beq (Nat.mod n 2) 1=true:=by rw [show Nat.mod n 2=1 from h1]; rfl
      rw [e1]
      show T.node (l.set (some v) (n / 2)) x r=_
      rw [T.set_same' e]
    · rename_i h1
      have e1:Nat.beq (Nat.mod n 2) 1=false:=by
       rw [show Nat.mod n 2=0 from by show n % 2=0; omega]; rfl
      rw [e1]
      show T.node l x (r.set (some v) (n / 2 - 1))=_
      rw [T.set_same' e]
mutual
theorem zak:∀ (n:Nat) (v:AV),okD n v=true→ql n v v=true
 | 0,_,h=>by simp [okD] at h
 | n+1,v,h=>by
  cases v <;> simp only [okD,Bool.and_eq_true] at h <;> simp only [ql,Bool.and_eq_true,decide_eq_true_eq,Nat.beq_refl,and_self,beq_self_eq_true]
  case fn f a b=>exact ⟨⟨trivial,wE n _ h.1⟩,wE n _ h.2⟩
  case ifc t v=>exact ⟨trivial,zak n _ h⟩
  case agg l=>exact wE n _ h
  case tup l=>exact wE n _ h
theorem wE:∀ (n:Nat) (v:List AV),zkU n v=true→vi n v v=true
 | 0,_,h=>by simp [zkU] at h
 | n+1,l,h=>by
  cases l with
  | nil=>rfl
  | cons v r =>
   simp only [zkU,Bool.and_eq_true] at h
   simp only [vi,Bool.and_eq_true]
   exact ⟨zak n _ h.1,wE n _ h.2⟩
end
theorem jw {b:Bool}{K:Prop}(h:zjB b K):b=true∧K:=by
 cases b with
 | true=>exact ⟨rfl,h⟩
 | false=>exact h.elim
theorem zkP {p:AV}{size len:Nat}{i:Int}{v:AV}{q:Prop}(e:atP p size i len=some (v,q))(hq:q):∀ el:Option Nat,el=some size→zaV len el p i=some v:=by
 rintro el rfl
 unfold atP at e
 split at e
 · cases e; simp only [zaV,yh,if_pos hq]
 · cases e; simp only [zaV,if_pos hq]
 · cases e
theorem zjy {x:AV}{size:Nat}{i:Int}{v:AV}{q:Prop}(e:zkE size x i=some (v,q))(hq:q):zco (some size) x i=some v:=by
 unfold zkE at e
 split at e
 · cases e; simp only [zco,yh,if_pos hq]
 · cases e; simp only [zco,yh,if_pos hq]
 · cases e
theorem zcS {t:TypeId}{x ix v:AV}{q:Prop}(e:jt P t x ix=some (v,q))(hq:q):zW P t x ix=some v:=by
 unfold jt at e
 unfold zW
 split at e
 · split at e
   · rename_i len el hu
     split at e
     · cases e
     · rename_i s hs
       simp only [hu]
       exact zkP e hq _ hs
   · rename_i el hu
     split at e
     · cases e
     · rename_i s hs
       simp only [hu,hs]
       exact zjy e hq
   · cases e
 · cases e
theorem zio {t:TypeId}{x ix v:AV}{q:Prop}(e:zhV P t x ix=some (v,q))(hq:q):zd6 P t x ix=some v:=by
 unfold zhV at e
 unfold zd6
 split at e
 · rename_i k i
   split at e
   · rename_i hu
     split at e
     · rename_i s
       cases e
       simp only [hu,zcU,if_pos hq.1]
       have:i.toNat<s.length:=by omega
       rw [List.getElem?_eq_getElem this,List.getD_eq_getElem?_getD,List.getElem?_eq_getElem this]
       rfl
     · cases e
   · rename_i len el hu
     split at e
     · rename_i cs
       split at e
       · cases e
       rename_i ha
       split at e
       · cases e
       rename_i s hs
       cases e
       have hagg:zjn P el=some false:=by
        unfold zkf at ha
        split at ha
        · rename_i b hb
          rw [hb]
          cases b
          · rfl
          · cases ha
        · cases ha
       simp only [hu,zc6,hs]
       rw [if_pos hq.1]
       simp only [zbj,hagg]
       rw [List.getD_eq_getElem?_getD,List.getElem?_eq_getElem hq.2]
       rfl
     · cases e
   · cases e
 · cases e
theorem qh {len cap:Nat}{lo hi mx:Option Int}{l h m:Nat}{p:Prop}(e:yg len cap lo hi mx=(l,h,m,p))(hp:p):zL len cap lo hi mx=some (l,h,m):=by
 unfold yg at e
 cases lo <;> cases hi <;> cases mx <;> simp only [Prod.mk.injEq] at e <;> obtain ⟨rfl,rfl,rfl,rfl⟩:=e <;>
  simp only [zL,yb,xh,z9,xj,Option.isSome_none,Option.isSome_some] <;> first | rfl | exact (hp:False).elim | (simp_all; done)
theorem zhs {t:TypeId}{x v:AV}{lo hi mx:Option Int}{q:Prop}(e:zhG P t x lo hi mx=some (v,q))(hq:q):zbU P t x lo hi mx=some v:=by
 unfold zhG at e
 unfold zbU
 split at e
 · rename_i hu
   split at e
   · split at e
     · cases e
     · generalize hb:yg _ _ _ _ _=b at e
       obtain ⟨l,h,m,p⟩:=b
       cases e
       simp only [hu,zdr,qh hb hq,zlm]
   · cases e
 · rename_i el hu
   split at e
   · cases e
   · rename_i sz hs
     simp only [hu,hs,we]
     split at e
     · generalize hb:yg _ _ _ _ _=b at e
       obtain ⟨l,h,m,p⟩:=b
       cases e
       simp only [qh hb hq,zif]
     · generalize hb:yg _ _ _ _ _=b at e
       obtain ⟨l,h,m,p⟩:=b
       cases e
       simp only [qh hb hq,zdZ]
     · split at e
       · split at e
         · cases e
         · generalize hb:yg _ _ _ _ _=b at e
           obtain ⟨l,h,m,p⟩:=b
           cases e
           simp only [qh hb hq,zgS,zdZ]
       · generalize hb:yg _ _ _ _ _=b at e
         obtain ⟨l,h,m,p⟩:=b
         cases e
         simp only [qh hb hq,zgS]
     · cases e
 · cases e
theorem zkC {h:AHeap}{op:BinOp}{t:TypeId}{lit:Bool}{x y v:AV}{q:Prop}(e:binS op x y=some (v,q))(hq:q):zf3 P h op t lit x y=some v:=by
 unfold binS at e
 split at e
 · split at e
   · split at e
     · cases e
       show catA _ _=_
       unfold catA
       rw [if_pos hq]
     · cases e
   · cases e
 · split at e
   · split at e
     · split at e
       · rename_i hk
         cases e
         simp only [zf3,zgP,Bool.or_self,zlu,jy,hk,true_or,if_true]
         show quoA _ _ _=_
         simp only [quoA,if_neg hq]
       · cases e
     · split at e
       · rename_i hk
         cases e
         simp only [zf3,zgP,Bool.or_self,zlu,jy,hk,true_or,if_true]
         show remA _ _ _=_
         simp only [remA,if_neg hq]
       · cases e
     · cases e
       simp only [zf3,zgP,Bool.or_self,zlu,jy,zaG,or_true,if_true]
       show shlA _ _ _=_
       simp only [shlA,if_neg (Int.not_lt.2 hq)]
     · cases e
       simp only [zf3,zgP,Bool.or_self,zlu,jy,zaG,or_true,if_true]
       show shrA _ _ _=_
       simp only [shrA,if_neg (Int.not_lt.2 hq)]
     · cases e
   · cases e
 · cases e
theorem zdR {h:AHeap}{id ver off k:Nat}{l:List AV}{q:Prop}(e:zfT h id ver off k=some (l,q))(hq:q):za h id ver off k=some l:=by
 unfold zfT at e
 unfold za
 split at e
 · rename_i c lo n ho
   cases hb:Nat.beq ver 0 with
   | false=>rw [hb] at e; cases e
   | true =>
    rw [hb] at e
    simp only [cond_true] at e
    split at e
    · cases e
    · rename_i l' hl
      cases e
      simp only [ho,hl]
      rw [if_pos ⟨Nat.eq_of_beq_eq_true hb,hq⟩]
 · rename_i c n el lo hi nv fz sg ex ho
   split at e
   · cases e
   · rename_i e0 he
     cases hb:(Nat.ble lo ver&&Nat.ble ver hi) with
     | false=>rw [hb] at e; cases e
     | true =>
      rw [hb] at e
      simp only [cond_true] at e
      rw [Bool.and_eq_true] at hb
      split at e
      · cases e
      · rename_i l' hl
        cases e
        simp only [ho,he,hl]
        rw [if_pos ⟨Nat.le_of_ble_eq_true hb.1,Nat.le_of_ble_eq_true hb.2,hq⟩]
 · cases e
theorem zfR {h:AHeap}{t:TypeId}{p v:AV}{q:Prop}(e:zj0 P h t p=some (v,q))(hq:q):zai P h t p=some v:=by
 unfold zj0 at e
 unfold zai
 split at e
 · split at e
   · cases e
   · rename_i ha
     split at e
     · cases e
     · rename_i i hi
       split at e
       · cases e
       · rename_i l p' hl
         cases e
         simp only [ha,hi,zdR hl hq]
   · rename_i ha
     split at e
     · rename_i v' p' hl
       cases e
       simp only [ha,zdR hl hq]
     · cases e
 · cases e
theorem zjz {ρ:Operand→Option AV}{h:AHeap}{o:Op}{v:AV}{K:Prop}(e:zkZ P ρ h o v K):vv P ρ h o=some v∧K:=by
 unfold zkZ at e
 split at e
 · rename_i t a
   split at e
   · rename_i id ver off ha
     split at e
     · unfold zh7 at e
       split at e
       · exact e.elim
       · rename_i x q hx
         obtain ⟨hq,rfl,hk⟩:=e
         refine ⟨?_,hk⟩
         unfold vv
         show (match wg P t a ρ h with | some (.val v _)=>some v | _=>none)=_
         simp only [wg,yB,ha,zfR hx hq,yp]
     · exact e
   · exact e
 · exact e
theorem zjN {all:List Oper}{t:T AV}{h:AHeap}{o:Oper}{K:Prop}(e:zkR P all t h o K):qB P all t h o=true∧K:=by
 unfold zkR at e
 unfold qB
 split at e
 · exact e.elim
 · rename_i w hw
   rw [hw]
   split at e
   · exact ⟨rfl,e⟩
   · split at e
     · rename_i hd; simp only [hd]; exact e
     · rename_i d hd
       simp only [hd]
       split at e
       · exact e.elim
       · rename_i v hv
         obtain ⟨h1,h2⟩:=zjz e
         obtain ⟨h3,h4⟩:=jw h2
         rw [hv,h1]
         exact ⟨zak 300 v h3,h4⟩
theorem zc3 {all:List Oper}{anc:Nat}{t:T AV}{h:AHeap}:∀ {dn:List Nat} {K:Prop},zlv P all anc t h dn K→yP P all anc t h dn=true∧K
 | [],K,e=>⟨rfl,e⟩
 | p::r,K,e=>by
  unfold zlv at e
  unfold yP
  rw [Bool.and_eq_true]
  split at e
  · rename_i hp
    obtain ⟨g1,g2⟩:=zc3 e
    rw [hp]
    exact ⟨⟨rfl,g1⟩,g2⟩
  · rename_i o hp
    rw [hp]
    unfold wV
    simp only
    split at e
    · rename_i hr
      obtain ⟨g1,g2⟩:=zc3 e
      rw [hr]
      exact ⟨⟨rfl,g1⟩,g2⟩
    · rename_i hr
      obtain ⟨q1,q2⟩:=zjN e
      obtain ⟨g1,g2⟩:=zc3 q2
      rw [hr]
      exact ⟨⟨q1,g1⟩,g2⟩
theorem kR {fr:AFrame}{h:AHeap}{v:AV}{K:AFrame→Prop}(e:Fin P fr h v K):∃ a,zG P fr h v=some a∧K a:=by
 unfold Fin at e
 split at e
 · rename_i all i l dn k htodo
   split at e
   · exact e.elim
   · rename_i o ho
     unfold zG
     rw [htodo]
     simp only [ho]
     unfold zkh at e
     unfold zcq
     split at e
     · exact e.elim
     · rename_i t ht
       rw [ht]
       obtain ⟨fn,n,t0,td,ds,mode,kind,round⟩:=fr
       simp only at e ⊢
       split at e
       · rename_i hf
         rw [hf]
         exact ⟨_,rfl,e⟩
       · rename_i hf
         obtain ⟨g1,g2⟩:=zc3 e
         rw [hf,g1]
         exact ⟨_,rfl,g2⟩
 · exact xe e
theorem yc [XT P] [XTOk P] {fr:AFrame}{rest:List AFrame}{heap:AHeap}{r:AR}{K:AM→Prop}(e:zji P fr rest heap r K):∃ m,zhb P fr rest heap r=some m∧K m:=by
 unfold zji at e
 split at e
 · obtain ⟨a,h1,h2⟩:=kR e
   exact ⟨_,by simp only [zhb,h1,jb],h2⟩
 · obtain ⟨a,h1,h2⟩:=kR e
   exact ⟨_,by simp only [zhb,h1,jb],h2⟩
 · exact xe e
theorem xx [XT P] [XTOk P] {fr:AFrame}{rest:List AFrame}{h:AHeap}{all:List Oper}{o:Oper}(hm:fr.mode=.run)(ht:ke fr=some (all,o)):zdj P ⟨fr,rest,h⟩=qY P fr rest h all o:=by
 unfold ke at ht
 simp only [zdj,hm,zi3]
 split at ht
 · rename_i all' o' l k htodo
   cases ht
   rw [htodo]
   rfl
 · rename_i all' i l dn k htodo
   split at ht
   · cases ht
   · rename_i o' ho
     cases ht
     rw [htodo]
     show zkI P fr rest h all'.toList all'[i]?=_
     rw [ho]; rfl
 · cases ht
theorem zlS {ρ:Operand→Option AV}{h:AHeap}{o:Op}{r:AR}{p:Prop}(e:opS P ρ h o=some (r,p))(hp:p):opA P ρ h o=some r:=by
 have lift:∀ {x:Option (AV × Prop)} {y:Option AV},zeY h x=some (r,p)→(∀ v q,x=some (v,q)→q→y=some v)→yp h y=some r:=by
  intro x y e g
  unfold zeY at e
  split at e
  · cases e
  · rename_i v q
    cases e
    rw [g v _ rfl hp]; rfl
 cases o <;> simp only [opS] at e
 case binOp op t x y t' =>
  unfold zje at e
  split at e
  · cases e
  · rename_i a ha
    split at e
    · cases e
    · rename_i b hb
      show wQ P op t x y t' ρ h=_
      simp only [wQ,two,ha,hb]
      exact lift e fun v q e hq=>zkC e hq
 case slice t x lo hi mx =>
  split at e
  · cases e
  rename_i a ha
  split at e
  · cases e
  rename_i l hl
  split at e
  · cases e
  rename_i hh hhh
  split at e
  · cases e
  rename_i m hm
  show qE P t x lo hi mx ρ h=_
  simp only [qE,jp,ha,hl,hhh,hm]
  exact lift e fun v q e hq=>by simp only [jS,zhs e hq]
 case indexAddr t x y =>
  unfold zje at e
  split at e
  · cases e
  · rename_i a ha
    split at e
    · cases e
    · rename_i b hb
      show xP P t x y ρ h=_
      simp only [xP,two,ha,hb]
      exact lift e fun v q e hq=>zcS e hq
 case index t x y =>
  unfold zje at e
  split at e
  · cases e
  · rename_i a ha
    split at e
    · cases e
    · rename_i b hb
      show zaq P t x y ρ h=_
      simp only [zaq,two,ha,hb]
      exact lift e fun v q e hq=>zio e hq
 case load t x =>
  split at e
  · cases e
  · rename_i a ha
    show wg P t x ρ h=_
    simp only [wg,yB,ha]
    exact lift e fun v q e hq=>zfR e hq
 all_goals cases e
theorem Goal.step [XT P] [XTOk P] (hmix:P.follows .mixedOrders=true){keep:Nat}{f0:FuncId}{Q:AV→AHeap→Prop}{m m':AM}(e:zdj P m=some m')(k:Goal P keep f0 Q m'):Goal P keep f0 Q m:=by
 intro w0 base fr cs w hk s
 obtain ⟨fr1,cs1,w1,s1,k1⟩:=zjS hmix s e
 obtain ⟨fr',w',B,R,v,v',h',s2,g⟩:=k w0 base fr1 cs1 w1 hk k1
 exact ⟨fr',w',B,R,v,v',h',s1.trans s2,g⟩
theorem Goal.runN [XT P] [XTOk P] (hmix:P.follows .mixedOrders=true){keep:Nat}{f0:FuncId}{Q:AV→AHeap→Prop}:∀ {n:Nat} {m m':AM},runN P n m=some m'→Goal P keep f0 Q m'→Goal P keep f0 Q m
 | 0,m,m',e,k=>by cases e; exact k
 | n+1,m,m',e,k=>by
  unfold Ev.runN at e
  split at e
  · cases e
  · rename_i m1 h1
    exact .step hmix h1 (Goal.runN hmix e k)
theorem HRel.grow {B:Base}{R:Bij}{h:AHeap}{w w':World}(k:HRel P B R h w)(hB:B.n≤w.heap.size)(hs:w.heap.size≤w'.heap.size)(ho:∀ b,b<w.heap.size→w'.heap[b]?=w.heap[b]?):HRel P B R h w' where
 fresh:=k.fresh
 pend:=k.pend
 obj i o e hp:=(k.obj i o e hp).mono R.le_refl (fun _=>rfl) (fun r L hL=>ho _ (k.place i r L hL).2)
 place i r L hL:=⟨(k.place i r L hL).1,Nat.lt_of_lt_of_le (k.place i r L hL).2 hs⟩
 rd:=k.rd
 low b hb:=(ho b (Nat.lt_of_lt_of_le (Base.low_lt hb) hB)).trans (k.low b hb)
 rp:=k.rp
 rol:=k.rol
 pin:=k.pin
 apart:=k.apart
 same:=k.same
 glob g c e:=by
  obtain ⟨e1,cs,el,fz,e2,e3⟩:=k.glob g c e
  exact ⟨e1,cs,el,fz,(ho g (Nat.lt_of_lt_of_le (Base.low_lt e1) hB)).trans e2,e3⟩
theorem zhF {fr f:Frame}{cs:List Frame}{w:World}{v:Value}(hl:fr.leaving P w (.returned v)):step P (lone fr (f::cs) w)=.next (lone (f.finish v) cs w):=by
 obtain ⟨h1,h2,h3,fn,h4,h5⟩:=hl
 refine step_lone_go (fr':=f.finish v) (cs':=cs) (w':=w) ?_
 have hst:stepG P true { frame:=fr,callers:=f::cs,status:=.running,dying:=none } w=unwind P true fr (f::cs) none w:=by
  simp only [stepG,h1]
 rw [hst]
 simp only [unwind,h2,h1,h4,Sem.runT_eq,h5]
 simp [doReturn,h3]
theorem zbW {keep:Nat}{f0:FuncId}{Q:AV→AHeap→Prop}{us:List Nat}{q:AV→Prop}{m:AM}{K:AM→Prop}(e:zil P us q m K)(hK:∀ m,K m→Goal P keep f0 Q m):Goal P keep f0 Q m:=by
 intro w0 base fr cs w hk s
 obtain ⟨a,rest,h⟩:=m
 unfold zil at e
 simp only at e
 split at e
 · exact e.elim
 rename_i c r
 split at e
 rotate_left
 · exact e.elim
 rename_i hkind
 split at e
 rotate_left
 · exact e.elim
 rename_i hcm
 split at e
 · exact e.elim
 rename_i m' hm'
 obtain ⟨hspec,hgo⟩:=e
 obtain ⟨B,R,fs,rfl,hb,kh,ho,kt,kb⟩:=s
 obtain ⟨f,fs',rfl,kf,kr⟩:=kb
 have hroom:B.n≤w.heap.size:=by show B.env.heap.size≤_; rw [hb]; exact ho.size
 have hloc:Sim P (Env.of w) (f::fs'++base) m' fr (f::fs'++base) w:=by
  simp only [zlw,je,zg2,Bool.and_self,cond_true,jv] at hm'
  split at hm'
  · cases hm'
  rename_i h2 hh2
  split at hm'
  · cases hm'
  rename_i top htop
  simp only [ziO] at hm'
  cases hm'
  obtain ⟨objs,next,glob⟩:=h
  simp only [jA,List.all_nil,cond_true,vV,List.length_nil] at hh2
  cases hh2
  have hR:Tab.re [] R=fun _ _=>none:=by
   funext i r
   simp only [Tab.re,List.getElem?_nil]
  refine ⟨Base.of w,fun _ _=>none,[],rfl,rfl,.start fun g c e=>?_,.start w,?_,rfl⟩
  · obtain ⟨_,cs,el,fz,e2,e3⟩:=kh.glob g c e
    exact ⟨xE e2,cs,el,fz,e2,e3⟩
  · rw [← hR]
    exact zay (Tab.ok [] R) htop kt
 obtain ⟨fr',w',B',R',v,v',h',s1,s2,s3,s4,s5,s6,s7,s8,s9⟩:=hspec (Env.of w) (f::fs'++base) fr (f::fs'++base) w (fun i r L e=>by cases e) hloc
 have hold:OldX (Env.of w) w':=s7.all s5 s6
 have hsame:∀ b,b<w.heap.size→w'.heap[b]?=w.heap[b]?:=fun b hb=>hold.other b hb id
 obtain ⟨c',q1,q2⟩:=kR (hgo v s8)
 have hsim:Sim P w0 base ⟨c',r,h⟩ (f.finish v') (fs'++base) w' :=
  ⟨B,R,fs',rfl,hb,kh.grow hroom s7.size hsame,⟨s7.os.trans ho.os,s7.tape.trans ho.tape,s7.output.trans ho.output,Nat.le_trans ho.size s7.size,Nat.le_trans ho.drawn s7.drawn⟩,xp kf hcm q1 (wX 99 _ _ s9 s4),kr⟩
 obtain ⟨fr2,w2,B2,R2,v2,v2',h2,t1,t2⟩:=hK _ q2 w0 base _ _ w' hk hsim
 exact ⟨fr2,w2,B2,R2,v2,v2',h2,s1.trans (.head (zhF s2) t1),t2⟩
theorem Goal.mono {keep:Nat}{f0:FuncId}{Q Q':AV→AHeap→Prop}{m:AM}(h:∀ v k,Q v k→Q' v k)(g:Goal P keep f0 Q m):Goal P keep f0 Q' m:=by
 intro w0 base fr cs w hk s
 obtain ⟨fr',w',B,R,v,v',h',a1,a2,a3,a4,a5,a6,a7,a8⟩:=g w0 base fr cs w hk s
 exact ⟨fr',w',B,R,v,v',h',a1,a2,a3,a4,a5,a6,a7,h _ _ a8⟩
theorem zgD {us:List Nat}{v:AV}{m:AM}{K:AM→Prop}(e:zlf P us v m K):zil P us (fun x=>x=v) m K:=by
 obtain ⟨a,rest,h⟩:=m
 unfold zlf at e
 unfold zil
 simp only at e
 split at e
 · exact e.elim
 split at e
 rotate_left
 · exact e.elim
 rename_i hkind
 split at e
 rotate_left
 · exact e.elim
 rename_i hcm
 split at e
 · exact e.elim
 rename_i m' hm'
 obtain ⟨hp,g1,g2⟩:=jw e
 simp only [hkind,hcm,hm']
 exact ⟨g1.mono fun x _ hx=>⟨hx,by rw [hx]; exact hp⟩,fun x hx=>by rw [hx]; exact g2⟩
theorem zbZ {keep:Nat}{f0:FuncId}{Q:AV→AHeap→Prop}{m:AM}(e:zlD P f0 Q m):Goal P keep f0 Q m:=by
 intro w0 base fr cs w hk s
 obtain ⟨v,hd,hq⟩:=xe e
 obtain ⟨af,rest,h⟩:=m
 obtain ⟨B,R,fs,rfl,hb,kh,ho,kt,kb⟩:=s
 unfold zjv at hd
 simp only at hd
 split at hd
 · cases hd
 split at hd
 rotate_left
 · cases hd
 rename_i hmode
 split at hd
 · cases hd
 rename_i hdef
 split at hd
 rotate_left
 · cases hd
 rename_i hkind
 split at hd
 rotate_left
 · cases hd
 rename_i hf0
 have hfs:fs=[]:=kb
 subst hfs
 have hs:Slots R af.tmps fr.tmps:=by have:=kt.top; rw [hmode] at this; exact this
 obtain ⟨fn,v',r1,r2,r3⟩:=zen kh hs kt.fn hd
 have hm:fr.mode=.returning:=by have:=kt.mode; rw [hmode] at this; exact this
 have hdf:fr.defers=[]:=by have:=kt.defers; rw [hdef] at this; exact this
 exact ⟨fr,w,B,R,v,v',h,Steps.refl _ _,⟨hm,hdf,by rw [kt.kind,hkind],fn,r1,r2⟩,kt.fn.trans (Nat.eq_of_beq_eq_true hf0),r3,hb,kh,ho,hq⟩
theorem Goal.ofRun [XT P] [XTOk P] (hmix:P.follows .mixedOrders=true){keep:Nat}{f0:FuncId}{Q:AV→AHeap→Prop}:∀ {n:Nat} {m:AM} {v:AV},runA P f0 n m=some v→(∀ h,Q v h)→Goal P keep f0 Q m
 | 0,m,v,e,_=>by cases e
 | n+1,m,v,e,hq=>by
  unfold runA at e
  split at e
  · rename_i v' hd
    cases e
    exact zbZ (m:=m) (show zdC (zjv P f0 m) _ by rw [hd]; exact hq _)
  · split at e
    · cases e
    · rename_i m1 h1
      exact .step hmix h1 (Goal.ofRun hmix e hq)
theorem zd2 {t:T AV}:∀ {us:List Nat} {acc:T AV},(∀ u v,acc.get u=some v→t.get u=some v)→∀ u v,(zgT t us acc).get u=some v→t.get u=some v
 | [],_,h,u,v,e=>h u v e
 | u0::r,acc,h,u,v,e=>by
  rw [zgT,T.seq_eq] at e
  refine zd2 (us:=r) (fun u v e=>?_) u v e
  rw [T.get_set] at e
  split at e
  · rename_i hu; rw [hu]; exact e
  · exact h u v e
theorem zgU {keep:Nat}{f0:FuncId}{Q:AV→AHeap→Prop}{us:List Nat}{m:AM}{K:AM→Prop}(e:zkB us m K)(hK:∀ m,K m→Goal P keep f0 Q m):Goal P keep f0 Q m:=by
 intro w0 base fr cs w hk s
 obtain ⟨⟨fn,n,t,todo,ds,mode,kind,round⟩,rest,h⟩:=m
 obtain ⟨B,R,fs,hc,hb,kh,ho,kt,kb⟩:=s
 unfold zkB at e
 simp only at e
 have hkeep:∀ {a:Array Value},Slots R t a→Slots R (zgT t us .leaf) a:=fun hs u v e=>hs u v (zd2 (fun u v e=>by cases e) u v e)
 split at e
 · exact e.elim
 · rename_i hn
   refine hK _ e w0 base fr cs w hk ⟨B,R,fs,hc,hb,kh,ho,?_,kb⟩
   obtain ⟨k1,k2,k3,k4,k5,k6,k7,k8,k9⟩:=kt
   refine ⟨k1,k2,k3,k4,k5,k6,k7,k8,?_⟩
   cases mode with
   | run =>
    change TodoRel P B R rest.length false h todo t fr.todo fr.tmps at k9
    show TodoRel P B R rest.length false h todo (zgT t us .leaf) fr.todo fr.tmps
    cases todo with
    | nil=>exact ⟨k9.1,hkeep k9.2⟩
    | cons it kk =>
     cases it with
     | drw a b c=>exact absurd rfl (hn a b c kk)
     | _=>exact ⟨k9.1,hkeep k9.2⟩
   | returning=>exact hkeep k9
   | panicking c=>exact hkeep k9
theorem ziZ {keep k:Nat}{f0:FuncId}{Q:AV→AHeap→Prop}{ids us:List Nat}{uss:List (List Nat)}{m:AM}{K:AM→Prop}(hkk:keep≤k)(e:CanP k ids us uss m K)(hK:∀ m,K m→Goal P keep f0 Q m):Goal P keep f0 Q m:=by
 intro w0 base fr cs w hk s
 unfold CanP at e
 split at e
 · exact e.elim
 rename_i m' hm'
 obtain ⟨g1,g2⟩:=yV e
 exact hK _ g2 w0 base fr cs w hk (Sim.can (fun i r L h=>Nat.lt_of_lt_of_le (hk i r L h) hkk) hm' g1 s)
end
end Go.Proofs.Ytehelionjafnkaa.Ev
end
section
namespace Go.Proofs.Ytehelionjafnkaa.Ev
open Go
noncomputable section
variable (P:Program)
def wit (h:AHeap):List Nat→AV→Option AV
 | [],v=>some v
 | k::r,v=>match v with
  | .ptr i ver o=>match h.get i with
   | some (.cells c n _ lo hi _ _ _ ex)=>match zm ex n hi ver with
    | some e=>bif Nat.ble lo ver&&Nat.ble ver hi&&Nat.ble o k&&Nat.blt k e then (match c.get k with
     | some v=>wit h r v
     | none=>none) else none
    | none=>none
   | _=>none
  | .slc i ver o _ _=>match h.get i with
   | some (.cells c n _ lo hi _ _ _ ex)=>match zm ex n hi ver with
    | some e=>bif Nat.ble lo ver&&Nat.ble ver hi&&Nat.ble o k&&Nat.blt k e then (match c.get k with
     | some v=>wit h r v
     | none=>none) else none
    | none=>none
   | _=>none
  | .mp i=>match h.get i with
   | some (.map es _)=>match es[k]? with
    | some e=>wit h r e.val
    | none=>none
   | _=>none
  | .fn _ a b=>match (a++b)[k]? with
   | some v=>wit h r v
   | none=>none
  | .ifc _ v=>wit h r v
  | .agg l=>match l[k]? with
   | some v=>wit h r v
   | none=>none
  | .tup l=>match l[k]? with
   | some v=>wit h r v
   | none=>none
  | _=>none
def kj:AV→Option Nat
 | .ptr i _ _=>some i
 | .slc i _ _ _ _=>some i
 | .slg i _ _ _ _=>some i
 | .mp i=>some i
 | .yld i=>some i
 | _=>none
def zhZ (h:AHeap) (t:T AV):List (Nat × Nat × List Nat)→Bool
 | []=>true
 | (j,u,p)::r=>(match t.get u with
  | none=>false
  | some v=>match wit h p v with
   | none=>false
   | some v=>match kj v with
    | none=>false
    | some i=>Nat.beq i j)&&zhZ h t r
def z7 (l:List (Nat × Nat × List Nat)):Tab:=l.map fun p=>(p.1,none)
def locM (l:List (Nat × Nat × List Nat)) (us:List Nat) (fr:AFrame) (h:AHeap):Option AM :=
 bif je (l.map (·.1))&&zhZ h fr.tmps l then match jA (z7 l) h with
  | none=>none
  | some h0=>match zkW (z7 l).ver us fr with
   | none=>none
   | some a=>some ⟨a,[],h0⟩ else none
def vB (σ:List Nat) (next:Nat) (i:Nat):Nat:=match σ[i]? with
 | some j=>j
 | none=>next+(i - σ.length)
def ziE (σ:List Nat) (next:Nat) (i r:Nat):Option (Nat × Nat):=some (vB σ next i,r)
def yX (g:Nat→Nat→Option (Nat × Nat)) (f:Nat→Nat) (objs':T AObj):Nat→Nat→T AObj→Option (T AObj)
 | 0,_,acc=>some acc
 | n+1,i,acc=>match objs'.get i with
  | none=>(acc.set none (f i)).seq fun acc=>yX g f objs' n (i+1) acc
  | some o=>match zeR g none o with
   | none=>none
   | some o=>(acc.set (some o) (f i)).seq fun acc=>yX g f objs' n (i+1) acc
def zbc (objs':T AObj):Nat→Nat→List (Nat→Option AV)
 | 0,_=>[]
 | n+1,i=>match objs'.get i with
  | none=>zbc objs' n (i+1)
  | some o=>zlR o++zbc objs' n (i+1)
def zl3 (σ:List Nat) (h h':AHeap):Option AHeap:=bif Nat.ble σ.length h'.next then match yX (ziE σ h.next) (vB σ h.next) h'.objs h'.next 0 h.objs with
 | none=>none
 | some objs=>some ⟨objs,h.next+(h'.next - σ.length),h.glob⟩ else none
def zkX (l:List (Nat × Nat × List Nat)) (us:List Nat) (v:AV) (H:AHeap) (m:AM) (K:AM→Prop):Prop:=match m with
 | ⟨fr,rest,h⟩=>match rest with
  | []=>False
  | c::r=>match fr.kind with
   | .normal=>match c.mode with
    | .run=>match locM l us fr h with
     | none=>False
     | some m'=>match zeQ (ziE (l.map (·.1)) h.next) 99 v with
      | none=>False
      | some v2=>match zl3 (l.map (·.1)) h H with
       | none=>False
       | some h2=>km (zli h.objs (z7 l)) (km (zbc H.objs H.next 0) (Goal P l.length fr.fn (fun x k=>x=v∧k=H) m'∧Fin P c h2 v2 fun c=>K ⟨c,r,h2⟩))
    | _=>False
   | _=>False
end
section
variable {P:Program} {B:Base} {R:Bij} {h:AHeap} {w:World}
theorem zcd (kh:HRel P B R h w){i ver o k:Nat}{L:Loc}(hL:R i ver=some L)(hm:L.minus≤o){c:T AV}{n:Nat}{el:TypeId}{lo hi nv fz:Nat}{sg:Bool}{ex:T Nat}(ho:h.get i=some (.cells c n el lo hi nv fz sg ex)){e:Nat}
 (he:zm ex n hi ver=some e) (hb:(Nat.ble lo ver&&Nat.ble ver hi&&Nat.ble o k&&Nat.blt k e)=true) {v:AV} (hv:c.get k=some v):∃ x,VRel R v x:=by
 simp only [Bool.and_eq_true] at hb
 obtain ⟨⟨⟨h1,h2⟩,h3⟩,h4⟩:=hb
 obtain ⟨L',hL',cs,a,b,g1,g2,g3,g4,g5⟩:=kh.ver hL ho (Nat.le_of_ble_eq_true h1) (Nat.le_of_ble_eq_true h2) he
 rw [hL] at hL'; cases hL'
 have:=Nat.le_of_ble_eq_true h3
 have h4:k<e:=by simpa [Nat.blt_eq] using h4
 obtain ⟨x,_,hx⟩:=g5 k v h4 (by omega) hv
 exact ⟨x,hx⟩
theorem qu (kh:HRel P B R h w):∀ {p:List Nat} {v v':AV} {x:Value},wit h p v=some v'→VRel R v x→∃ x',VRel R v' x'
 | [],v,v',x,e,hv=>by cases e; exact ⟨x,hv⟩
 | k::r,v,v',x,e,hv=>by
  cases v <;> simp only [wit] at e
  case ptr i ver o =>
   obtain ⟨L,hL,hm,_⟩:=hv
   split at e
   · rename_i c n el lo hi nv fz sg ex ho
     split at e
     · rename_i e0 he
       cases hb:(Nat.ble lo ver&&Nat.ble ver hi&&Nat.ble o k&&Nat.blt k e0) with
       | false=>rw [hb] at e; cases e
       | true =>
        rw [hb] at e
        simp only [cond_true] at e
        split at e
        · rename_i y hy
          obtain ⟨z,hz⟩:=zcd kh hL hm ho he hb hy
          exact qu kh e hz
        · cases e
     · cases e
   · cases e
  case slc i ver o len cap =>
   obtain ⟨L,hL,hm,_⟩:=hv
   split at e
   · rename_i c n el lo hi nv fz sg ex ho
     split at e
     · rename_i e0 he
       cases hb:(Nat.ble lo ver&&Nat.ble ver hi&&Nat.ble o k&&Nat.blt k e0) with
       | false=>rw [hb] at e; cases e
       | true =>
        rw [hb] at e
        simp only [cond_true] at e
        split at e
        · rename_i y hy
          obtain ⟨z,hz⟩:=zcd kh hL hm ho he hb hy
          exact qu kh e hz
        · cases e
     · cases e
   · cases e
  case mp i =>
   obtain ⟨L,hL,_⟩:=hv
   split at e
   · rename_i es clock ho
     obtain ⟨L',es',hL',hh,hrel⟩:=kh.obj' hL ho
     split at e
     · rename_i en hen
       obtain ⟨b,_,hb⟩:=hrel.get k en hen
       exact qu kh e hb.2.1
     · cases e
   · cases e
  case fn f a b =>
   obtain ⟨_,a',b',rfl,h1,h2⟩:=hv
   split at e
   · rename_i y hy
     obtain ⟨z,_,hz⟩:=(h1.append h2).get k y hy
     exact qu kh e hz
   · cases e
  case ifc t y =>
   obtain ⟨z,_,hz⟩:=hv
   exact qu kh e hz
  case agg l =>
   obtain ⟨a,rfl,h1⟩:=hv
   split at e
   · rename_i y hy
     obtain ⟨z,_,hz⟩:=h1.get k y hy
     exact qu kh e hz
   · cases e
  case tup l =>
   obtain ⟨a,rfl,h1⟩:=hv
   split at e
   · rename_i y hy
     obtain ⟨z,_,hz⟩:=h1.get k y hy
     exact qu kh e hz
   · cases e
  all_goals cases e
theorem vU {v:AV}{x:Value}{i:Nat}(hv:VRel R v x)(e:kj v=some i):∃ r L,R i r=some L:=by
 cases v <;> simp only [kj,Option.some.injEq] at e
 case ptr=>subst e; obtain ⟨L,hL,_⟩:=hv; exact ⟨_,L,hL⟩
 case slc=>subst e; obtain ⟨L,hL,_⟩:=hv; exact ⟨_,L,hL⟩
 case slg=>subst e; obtain ⟨L,a,hL,_⟩:=hv; exact ⟨_,L,hL⟩
 case mp=>subst e; obtain ⟨L,hL,_⟩:=hv; exact ⟨_,L,hL⟩
 case yld=>subst e; obtain ⟨L,hL,_⟩:=hv; exact ⟨_,L,hL⟩
 all_goals cases e
theorem zcm (kh:HRel P B R h w){t:T AV}{a:Array Value}(hs:Slots R t a):∀ {l:List (Nat × Nat × List Nat)},zhZ h t l=true→∀ q∈l,∃ r L,R q.1 r=some L
 | [],_,q,hq=>absurd hq List.not_mem_nil
 | (j,u,p)::l,e,q,hq=>by
  simp only [zhZ,Bool.and_eq_true] at e
  rcases List.mem_cons.1 hq with rfl | hq
  · have e:=e.1
    split at e
    · cases e
    · rename_i v hv
      split at e
      · cases e
      · rename_i v' hv'
        split at e
        · cases e
        · rename_i i hi
          have:=Nat.eq_of_beq_eq_true e
          subst this
          obtain ⟨x,_,hx⟩:=hs u v hv
          obtain ⟨x',hx'⟩:=qu kh hv' hx
          exact vU hx' hi
  · exact zcm kh hs e.2 q hq
theorem zgt {g:Nat→Nat→Option (Nat × Nat)}{d:Nat}{sus:Bool}{af af':AFrame}{fr:Frame}{us:List Nat}(e:zkW g us af=some af')(k:FrameRel P B R d sus h af fr):Slots R af.tmps fr.tmps:=by
 obtain ⟨fn,n,t,todo,ds,mode,kind,round⟩:=af
 simp only [zkW] at e
 split at e
 · cases e
 split at e
 · cases e
 rename_i todo' htodo
 have k9:=k.top
 cases mode with
 | run =>
  change TodoRel P B R d sus h todo t fr.todo fr.tmps at k9
  cases todo with
  | nil=>exact k9.2
  | cons it kk =>
   cases it with
   | drw a b c=>exact absurd rfl (jr htodo _ List.mem_cons_self a b c)
   | _=>exact k9.2
 | returning=>exact k9
 | panicking c=>exact k9
theorem wT {l:List (Nat × Nat × List Nat)}{i:Nat}{j:Nat}{t:Option Nat}(e:(z7 l)[i]?=some (j,t)):(l.map (·.1))[i]?=some j∧t=none:=by
 unfold z7 at e
 rw [List.getElem?_map] at e ⊢
 cases hl:l[i]? with
 | none=>rw [hl] at e; cases e
 | some p=>rw [hl] at e; cases e; exact ⟨rfl,rfl⟩
theorem zeh {l:List (Nat × Nat × List Nat)}{i:Nat}{j:Nat}(e:(l.map (·.1))[i]?=some j):(z7 l)[i]?=some (j,none):=by
 unfold z7
 rw [List.getElem?_map] at e ⊢
 cases hl:l[i]? with
 | none=>rw [hl] at e; cases e
 | some p=>rw [hl] at e; cases e; rfl
theorem q9 {g:Nat→Nat→Option (Nat × Nat)}{f:Nat→Nat}{objs':T AObj}:∀ {n i:Nat} {acc r:T AObj},yX g f objs' n i acc=some r→(∀ a b,i≤a→i≤b→a<i+n→b<i+n→f a=f b→a=b)→∀ c o2,r.get c=some o2 →
 (∃ a,i≤a∧a<i+n∧f a=c∧∃ o,objs'.get a=some o∧zeR g none o=some o2)∨((∀ a,i≤a→a<i+n→f a≠c)∧acc.get c=some o2)
 | 0,i,acc,r,e,_,c,o2,hc=>by cases e; exact .inr ⟨fun a h1 h2=>by omega,hc⟩
 | n+1,i,acc,r,e,hinj,c,o2,hc=>by
  unfold yX at e
  have hinj':∀ a b,i+1≤a→i+1≤b→a<i+1+n→b<i+1+n→f a=f b→a=b:=fun a b h1 h2 h3 h4 h5=>hinj a b (by omega) (by omega) (by omega) (by omega) h5
  split at e
  · rename_i ho
    rw [T.seq_eq] at e
    rcases q9 e hinj' c o2 hc with ⟨a,h1,h2,h3,h4⟩ | ⟨h1,h2⟩
    · exact .inl ⟨a,by omega,by omega,h3,h4⟩
    · rw [T.get_set] at h2
      split at h2
      · cases h2
      · rename_i hne
        refine .inr ⟨fun a g1 g2=>?_,h2⟩
        by_cases ha:a=i
        · subst ha; exact fun hh=>hne hh.symm
        · exact h1 a (by omega) (by omega)
  · rename_i o ho
    split at e
    · cases e
    · rename_i o' ho'
      rw [T.seq_eq] at e
      rcases q9 e hinj' c o2 hc with ⟨a,h1,h2,h3,h4⟩ | ⟨h1,h2⟩
      · exact .inl ⟨a,by omega,by omega,h3,h4⟩
      · rw [T.get_set] at h2
        split at h2
        · rename_i hce
          cases h2
          exact .inl ⟨i,Nat.le_refl _,by omega,hce.symm,o,ho,ho'⟩
        · rename_i hne
          refine .inr ⟨fun a g1 g2=>?_,h2⟩
          by_cases ha:a=i
          · subst ha; exact fun hh=>hne hh.symm
          · exact h1 a (by omega) (by omega)
theorem y9 {g:Nat→Nat→Option (Nat × Nat)}{f:Nat→Nat}{objs':T AObj}:∀ {n i:Nat} {acc r:T AObj},yX g f objs' n i acc=some r→∀ c,(∀ a,i≤a→a<i+n→f a≠c)→r.get c=acc.get c
 | 0,i,acc,r,e,c,_=>by cases e; rfl
 | n+1,i,acc,r,e,c,hc=>by
  unfold yX at e
  have hne:=hc i (Nat.le_refl _) (by omega)
  split at e
  · rw [T.seq_eq] at e
    rw [y9 e c (fun a h1 h2=>hc a (by omega) (by omega)),T.get_set,if_neg (fun h=>hne h.symm)]
  · split at e
    · cases e
    · rw [T.seq_eq] at e
      rw [y9 e c (fun a h1 h2=>hc a (by omega) (by omega)),T.get_set,if_neg (fun h=>hne h.symm)]
theorem ObjRel.live {i:Nat}{o:AObj}(k:ObjRel P R w i o):∃ r L,R i r=some L:=by
 cases o with
 | cells c n el lo hi nv fz sg ex =>
  obtain ⟨a1,a2,a3,a4,a5⟩:=k
  obtain ⟨L,h1,_⟩:=a4 hi n a1 (Nat.le_refl _) (by simp [zm])
  exact ⟨hi,L,h1⟩
 | map es clock=>obtain ⟨L,es',h1,_⟩:=k; exact ⟨0,L,h1⟩
 | iter s p=>obtain ⟨L,h1,_⟩:=k; exact ⟨0,L,h1⟩
 | loop lp=>obtain ⟨L,lp',h1,_⟩:=k; exact ⟨0,L,h1⟩
 | dfrd ds=>obtain ⟨L,ds',h1,_⟩:=k; exact ⟨0,L,h1⟩
 | ro c lo n=>obtain ⟨L,cs,el,fz,h1,_⟩:=k; exact ⟨0,L,h1⟩
theorem zbx {objs':T AObj}:∀ {n i a:Nat} {o:AObj} {f:Nat→Option AV},i≤a→a<i+n→objs'.get a=some o→f∈zlR o→f∈zbc objs' n i
 | 0,i,a,o,f,h1,h2,_,_=>by omega
 | n+1,i,a,o,f,h1,h2,ho,hf=>by
  unfold zbc
  by_cases ha:a=i
  · subst ha
    rw [ho]
    exact List.mem_append_left _ hf
  · have:=zbx (n:=n) (i:=i+1) (by omega) (by omega) ho hf
    split
    · exact this
    · exact List.mem_append_right _ this
def zej (B:Base) (R:Bij) (w:World) (σ:List Nat) (tb:Tab):Env:={ w with
 own:=fun b=>∃ j∈σ,¬ B.ro j∧∃ r L,R j r=some L∧L.block=b
 rob:=fun b=>∃ j∈σ,B.ro j∧∃ r L,R j r=some L∧L.block=b
 pin:=tb.re R }
def zeW (B:Base) (R:Bij) (w:World) (σ:List Nat) (tb:Tab):Base:=⟨zej B R w σ tb,fun i=>∃ j,σ[i]?=some j∧B.ro j,fun _=>none,fun _=>(0,0)⟩
theorem zkw (kh:HRel P B R h w)(hroom:B.n≤w.heap.size){l:List (Nat × Nat × List Nat)}{h0:AHeap}(hn:je (l.map (·.1))=true)(hlive:∀ q∈l,∃ r L,R q.1 r=some L)(e:jA (z7 l) h=some h0)
 (hp:∀ f∈zli h.objs (z7 l),vT f):HRel P (zeW B R w (l.map (·.1)) (z7 l)) ((z7 l).re R) h0 w:=by
 obtain ⟨objs,next,glob⟩:=h
 simp only [jA] at e
 cases hlt:((z7 l).all fun p=>Nat.blt p.1 next) with
 | false=>rw [hlt] at e; cases e
 | true =>
  rw [hlt] at e
  simp only [cond_true] at e
  split at e
  · cases e
  rename_i objs' hobjs
  cases e
  have hget:=vQ (n:=0) hobjs (fun q o' g=>by cases g) (fun q=>by rw [Nat.zero_add])
  have hsome:=qW hobjs
  have hre:∀ {i r L},(z7 l).re R i r=some L→∃ j,(l.map (·.1))[i]?=some j∧R j r=some L:=by
   intro i r L e
   unfold Tab.re at e
   split at e
   · cases e
   · rename_i j hi; exact ⟨j,(wT hi).1,e⟩
   · rename_i j t hi; cases (wT hi).2
  have hmem:∀ {i j:Nat},(l.map (·.1))[i]?=some j→j∈l.map (·.1):=fun hi=>List.mem_of_getElem? hi
  have hpend:∀ {j:Nat},j∈l.map (·.1)→B.pend j=none:=fun hj=>by
   obtain ⟨q,hq,rfl⟩:=List.mem_map.1 hj
   obtain ⟨r,L,hL⟩:=hlive q hq
   exact kh.live hL
  have hmay:∀ b,(zeW B R w (l.map (·.1)) (z7 l)).may b→B.may b:=by
   rintro b (h1 | ⟨j,_,hj,r,L,hL,rfl⟩)
   · exact .inl (Nat.le_trans hroom h1)
   · exact (kh.place j r L hL).1.elim id fun h=>absurd h hj
  refine ⟨fun i hi r=>?_,fun i o' eo _=>?_,(fun i o e=>by cases e),fun i r L e=>?_,fun i hi=>?_,fun i hi=>rfl,fun i r L hi e=>?_,fun b _=>rfl,fun i r L e=>e,fun i r i' r' L L' e e' hbl hor=>?_,fun i r r' L L' e e' hbl=>?_,fun g c e=>?_⟩
  · have:(z7 l)[i]?=none:=List.getElem?_eq_none hi
    simp only [Tab.re,this]
  · obtain ⟨j,t,o,q1,q2,q3⟩:=hget i o' eo
    obtain ⟨q4,rfl⟩:=wT q1
    exact zc0 ((z7 l).ok R) (fun _ r=>by simp only [Tab.re,q1]) (fun t0 ht r=>by cases ht) q3 (fun f hf=>hp f (zcF hsome q1 q2 hf)) (kh.obj j o q2 (hpend (hmem q4)))
  · obtain ⟨j,q1,q2⟩:=hre e
    refine ⟨?_,(kh.place j r L q2).2⟩
    by_cases hr:B.ro j
    · exact .inr ⟨j,q1,hr⟩
    · exact .inl (.inr ⟨j,hmem q1,hr,r,L,q2,rfl⟩)
  · obtain ⟨j,q1,q2⟩:=hi
    refine ⟨by have:=(List.getElem?_eq_some_iff.1 (zeh q1)).1; exact this,fun o' eo=>?_⟩
    obtain ⟨j',t',o,p1,p2,p3⟩:=hget i o' eo
    obtain ⟨p4,rfl⟩:=wT p1
    rw [q1] at p4; cases p4
    have:=(kh.rd j q2).2 o p2
    cases o with
    | ro c lo n=>simp only [zeR] at p3; cases p3; rfl
    | _=>cases this
  · obtain ⟨j,q1,q2⟩:=hi
    obtain ⟨j',p1,p2⟩:=hre e
    rw [q1] at p1; cases p1
    exact ⟨j,hmem q1,q2,r,L,p2,rfl⟩
  · obtain ⟨j,q1,q2⟩:=hre e
    obtain ⟨j',q1',q2'⟩:=hre e'
    have:=kh.apart j r j' r' L L' q2 q2' hbl (hor.imp (fun hn hr=>hn ⟨j,q1,hr⟩) (fun hn hr=>hn ⟨j',q1',hr⟩))
    subst this
    exact yG hn q1 q1'
  · obtain ⟨j,q1,q2⟩:=hre e
    obtain ⟨j',q1',q2'⟩:=hre e'
    rw [q1] at q1'; cases q1'
    exact kh.same j r r' L L' q2 q2' hbl
  · obtain ⟨g1,g2⟩:=kh.glob g c e
    exact ⟨fun hm=>g1 (hmay g hm),g2⟩
def zae (σ:List Nat) (next:Nat) (R R':Bij):Bij:=fun c r=>match (σ.map fun j=>((j,none):Nat × Option Nat)) |> fun tb=>Tab.find tb c with
 | some (i,_)=>R' i r
 | none=>if next≤c then R' (σ.length+(c - next)) r else R c r
theorem zjs {σ:List Nat}{c i:Nat}{t:Option Nat}(e:Tab.find (σ.map fun j=>(j,none)) c=some (i,t)):σ[i]?=some c:=by
 have:=(wL e).2
 simp only [Nat.sub_zero,List.getElem?_map] at this
 cases hs:σ[i]? with
 | none=>rw [hs] at this; cases this
 | some x=>rw [hs] at this; cases this; rfl
theorem zfg {c:Nat}:∀ {σ:List Nat} {i k:Nat},je σ=true→σ[i]?=some c→zff c (σ.map fun j=>((j,none):Nat × Option Nat)) k=some (k+i,none)
 | [],i,k,_,e=>by simp at e
 | j::r,i,k,hn,e=>by
  cases i with
  | zero =>
   simp at e; subst e
   simp [zff,Nat.beq_refl]
  | succ i =>
   have hne:j≠c:=fun h=>by
    subst h
    have:=yG hn (p:=0) (q:=i+1) (j:=j) (by simp) e
    omega
   have hb:Nat.beq j c=false:=by
    cases hb:Nat.beq j c with
    | false=>rfl
    | true=>exact absurd (Nat.eq_of_beq_eq_true hb) hne
   have hn':je r=true:=by simp only [je,Bool.and_eq_true] at hn; exact hn.2
   have:=zfg (σ:=r) (i:=i) (k:=k+1) hn' (by simpa using e)
   simp only [List.map_cons,zff,hb,cond_false]
   rw [this]
   congr 2
   omega
theorem zhB {σ:List Nat}{c:Nat}(e:Tab.find (σ.map fun j=>((j,none):Nat × Option Nat)) c=none)(hn:je σ=true):c ∉ σ:=by
 intro hc
 obtain ⟨i,hi,he⟩:=List.getElem_of_mem hc
 have:=zfg (σ:=σ) (i:=i) (k:=0) hn (by rw [List.getElem?_eq_getElem hi,he])
 unfold Tab.find at e
 rw [this] at e
 cases e
noncomputable def xi (B B':Base) (σ:List Nat) (next:Nat) (h2:AHeap):Base:={ B with
 pend:=fun c=>match Tab.find (σ.map fun j=>((j,none):Nat × Option Nat)) c with
  | some _=>none
  | none=>if next≤c then (match B'.pend (σ.length+(c - next)) with
   | none=>none
   | some _=>h2.get c) else B.pend c
 ro:=fun c=>match Tab.find (σ.map fun j=>((j,none):Nat × Option Nat)) c with
  | some (i,_)=>B'.ro i
  | none=>if next≤c then B'.ro (σ.length+(c - next)) else B.ro c }
theorem zgy {keep:Nat}{f0:FuncId}{Q:AV→AHeap→Prop}{l:List (Nat × Nat × List Nat)}{us:List Nat}{v:AV}{H:AHeap}{m:AM}{K:AM→Prop}(e:zkX P l us v H m K)(hK:∀ m,K m→Goal P keep f0 Q m):Goal P keep f0 Q m:=by
 intro w0 base fr cs w hk s
 obtain ⟨a,rest,h⟩:=m
 unfold zkX at e
 simp only at e
 split at e
 · exact e.elim
 rename_i c r
 split at e
 rotate_left
 · exact e.elim
 rename_i hkind
 split at e
 rotate_left
 · exact e.elim
 rename_i hcm
 split at e
 · exact e.elim
 rename_i m' hm'
 split at e
 · exact e.elim
 rename_i v2 hv2
 split at e
 · exact e.elim
 rename_i h2 hh2
 obtain ⟨hp1,e⟩:=yV e
 obtain ⟨hp2,hspec,hgo⟩:=yV e
 obtain ⟨B,R,fs,rfl,hb,kh,ho,kt,kb⟩:=s
 obtain ⟨f,fs',rfl,kf,kr⟩:=kb
 have hroom:B.n≤w.heap.size:=by show B.env.heap.size≤_; rw [hb]; exact ho.size
 unfold locM at hm'
 cases hn:(je (l.map (·.1))&&zhZ h a.tmps l) with
 | false=>rw [hn] at hm'; cases hm'
 | true =>
 rw [hn] at hm'
 rw [Bool.and_eq_true] at hn
 obtain ⟨hnd,hled⟩:=hn
 simp only [cond_true] at hm'
 split at hm'
 · cases hm'
 rename_i h0 hh0
 split at hm'
 · cases hm'
 rename_i a0 ha0
 cases hm'
 generalize hσ:l.map (·.1)=σ at *
 have hlen:l.length=σ.length:=by rw [← hσ]; simp
 have hlive:=zcm kh (zgt ha0 kt) hled
 have hloc:=zkw kh hroom (by rw [hσ]; exact hnd) hlive hh0 hp1
 rw [hσ] at hloc
 obtain ⟨fr',w',B',R',v0,v',h',s1,s2,s3,s4,s5,s6,s7,rfl,rfl⟩:=hspec (zej B R w σ (z7 l)) (f::fs'++base) fr (f::fs'++base) w
  (fun i r L e=>by
   have:i<(z7 l).length:=by
    unfold zej at e
    simp only [Tab.re] at e
    split at e
    · cases e
    · rename_i j hi; exact (List.getElem?_eq_some_iff.1 hi).1
    · rename_i j t hi; exact (List.getElem?_eq_some_iff.1 hi).1
   simpa [z7] using this)
  ⟨zeW B R w σ (z7 l),(z7 l).re R,[],rfl,rfl,hloc,⟨rfl,rfl,rfl,Nat.le_refl _,Nat.le_refl _⟩,zay ((z7 l).ok R) ha0 kt,rfl⟩
 have hold:OldX (zej B R w σ (z7 l)) w':=s7.all s5 s6
 have hpin:∀ i r L,(z7 l).re R i r=some L→R' i r=some L:=fun i r L e=>s6.pin i r L (by rw [s5]; exact e)
 have hσget:∀ {i j:Nat},σ[i]?=some j→(z7 l)[i]?=some (j,none):=fun hi=>zeh (by rw [hσ]; exact hi)
 have hpinσ:∀ {i j:Nat},σ[i]?=some j→∀ r L,R j r=some L→R' i r=some L:=fun hi r L e=>hpin _ r L (by simp only [Tab.re,hσget hi]; exact e)
 have hσlt:∀ {j:Nat},j∈σ→j<h.next:=fun hj=>by
  rw [← hσ] at hj
  obtain ⟨q,hq,rfl⟩:=List.mem_map.1 hj
  obtain ⟨r,L,hL⟩:=hlive q hq
  rcases Nat.lt_or_ge q.1 h.next with h1 | h1
  · exact h1
  · rw [kh.fresh _ h1] at hL; cases hL
 have hσpend:∀ {j:Nat},j∈σ→B.pend j=none:=fun hj=>by
  rw [← hσ] at hj
  obtain ⟨q,hq,rfl⟩:=List.mem_map.1 hj
  obtain ⟨r,L,hL⟩:=hlive q hq
  exact kh.live hL
 have hσpend':∀ {i j:Nat},σ[i]?=some j→B'.pend i=none:=fun hi=>by
  have hj:=List.mem_of_getElem? hi
  rw [← hσ] at hj
  obtain ⟨q,hq,hqj⟩:=List.mem_map.1 hj
  obtain ⟨r,L,hL⟩:=hlive q hq
  rw [hqj] at hL
  exact s6.live (hpinσ hi r L hL)
 have hfind:∀ c,(∃ i,σ[i]?=some c∧Tab.find (σ.map fun j=>((j,none):Nat × Option Nat)) c=some (i,none))∨(c ∉ σ∧Tab.find (σ.map fun j=>((j,none):Nat × Option Nat)) c=none):=by
  intro c
  cases hc:Tab.find (σ.map fun j=>((j,none):Nat × Option Nat)) c with
  | none=>exact .inr ⟨zhB hc hnd,rfl⟩
  | some p =>
   obtain ⟨i,t⟩:=p
   have hi:=zjs hc
   have:=zfg (k:=0) hnd hi
   unfold Tab.find at hc
   rw [this,Nat.zero_add] at hc
   cases hc
   exact .inl ⟨i,hi,rfl⟩
 have hble:σ.length≤h'.next∧∃ objs,yX (ziE σ h.next) (vB σ h.next) h'.objs h'.next 0 h.objs=some objs∧h2=⟨objs,h.next+(h'.next - σ.length),h.glob⟩:=by
  unfold zl3 at hh2
  cases hbl:Nat.ble σ.length h'.next with
  | false=>rw [hbl] at hh2; cases hh2
  | true =>
   rw [hbl] at hh2
   simp only [cond_true] at hh2
   split at hh2
   · cases hh2
   · rename_i objs hobjs; cases hh2; exact ⟨Nat.le_of_ble_eq_true hbl,objs,hobjs,rfl⟩
 obtain ⟨hkn,objs2,hobjs2,rfl⟩:=hble
 have hFσ:∀ {i j:Nat},σ[i]?=some j→vB σ h.next i=j:=fun hi=>by simp only [vB,hi]
 have hFn:∀ {i:Nat},σ.length≤i→vB σ h.next i=h.next+(i - σ.length):=fun hi=>by simp only [vB,List.getElem?_eq_none hi]
 have hFinj:∀ a b,0≤a→0≤b→a<0+h'.next→b<0+h'.next→vB σ h.next a=vB σ h.next b→a=b:=by
  intro a b _ _ _ _ hab
  rcases Nat.lt_or_ge a σ.length with h1 | h1 <;> rcases Nat.lt_or_ge b σ.length with h3 | h3
  · have e1:=List.getElem?_eq_getElem h1
    have e2:=List.getElem?_eq_getElem h3
    rw [hFσ e1,hFσ e2] at hab
    rw [← hab] at e2
    exact yG hnd e1 e2
  · have e1:=List.getElem?_eq_getElem h1
    rw [hFσ e1,hFn h3] at hab
    have:=hσlt (List.mem_of_getElem? e1)
    omega
  · have e2:=List.getElem?_eq_getElem h3
    rw [hFn h1,hFσ e2] at hab
    have:=hσlt (List.mem_of_getElem? e2)
    omega
  · rw [hFn h1,hFn h3] at hab; omega
 have hget:=q9 hobjs2 hFinj
 have hR2σ:∀ {i c r},σ[i]?=some c→zae σ h.next R R' c r=R' i r:=fun hi=>by
  rcases hfind _ with ⟨i',h1,h3⟩ | ⟨h1,_⟩
  · have:=yG hnd hi h1
    subst this
    simp only [zae,h3]
  · exact absurd (List.mem_of_getElem? hi) h1
 have hR2n:∀ {i r},σ.length≤i→zae σ h.next R R' (h.next+(i - σ.length)) r=R' i r:=fun {i r} hi=>by
  rcases hfind (h.next+(i - σ.length)) with ⟨i',h1,h3⟩ | ⟨h1,h3⟩
  · have:=hσlt (List.mem_of_getElem? h1); omega
  · simp only [zae,h3]
    rw [if_pos (by omega)]
    congr 1
    omega
 have hR2o:∀ {c r},c ∉ σ→c<h.next→zae σ h.next R R' c r=R c r:=fun {c r} h1 h3=>by
  rcases hfind c with ⟨i',h4,_⟩ | ⟨_,h4⟩
  · exact absurd (List.mem_of_getElem? h4) h1
  · simp only [zae,h4]
    rw [if_neg (by omega)]
 have hR2F:∀ i r,zae σ h.next R R' (vB σ h.next i) r=R' i r:=fun i r=>by
  rcases Nat.lt_or_ge i σ.length with h1 | h1
  · have e1:=List.getElem?_eq_getElem h1
    rw [hFσ e1,hR2σ e1]
  · rw [hFn h1,hR2n h1]
 have hren:RenOk (ziE σ h.next) R' (zae σ h.next R R'):=fun i r j r' e L hL=>by
  simp only [ziE,Option.some.injEq,Prod.mk.injEq] at e
  obtain ⟨rfl,rfl⟩:=e
  rw [hR2F]; exact hL
 have hparts:∀ c,(c ∉ σ∧c<h.next)∨∃ i,vB σ h.next i=c∧(c∈σ∨h.next≤c):=by
  intro c
  by_cases hc:c∈σ
  · obtain ⟨i,hi,he⟩:=List.getElem_of_mem hc
    exact .inr ⟨i,hFσ (by rw [List.getElem?_eq_getElem hi,he]),.inl hc⟩
  · rcases Nat.lt_or_ge c h.next with h1 | h1
    · exact .inl ⟨hc,h1⟩
    · exact .inr ⟨σ.length+(c - h.next),by rw [hFn (by omega)]; omega,.inr h1⟩
 have hnot:∀ {c i},c ∉ σ→c<h.next→vB σ h.next i≠c:=fun {c i} h1 h3 he=>by
  rcases Nat.lt_or_ge i σ.length with h4 | h4
  · have e1:=List.getElem?_eq_getElem h4
    rw [hFσ e1] at he
    exact h1 (he▸List.mem_of_getElem? e1)
  · rw [hFn h4] at he; omega
 have hleR:R.le (zae σ h.next R R'):=fun c r L e=>by
  have hc:c<h.next:=by
   rcases Nat.lt_or_ge c h.next with h1 | h1
   · exact h1
   · rw [kh.fresh c h1] at e; cases e
  by_cases hcσ:c∈σ
  · obtain ⟨i,hi,he⟩:=List.getElem_of_mem hcσ
    have e1:σ[i]?=some c:=by rw [List.getElem?_eq_getElem hi,he]
    rw [hR2σ e1]; exact hpinσ e1 r L e
  · rw [hR2o hcσ hc]; exact e
 have howned:∀ b,(zej B R w σ (z7 l)).own b→B.may b:=by
  rintro b ⟨j,_,hj,r0,L,hL,rfl⟩
  exact (kh.place j r0 L hL).1.elim id fun h=>absurd h hj
 have hsame:∀ {c r0 L},c ∉ σ→R c r0=some L→w'.heap[L.block]?=w.heap[L.block]?:=fun {c r0 L} hc hL=>by
  refine hold.other _ (kh.place c r0 L hL).2 ?_
  rintro ⟨j,hj,hjr,r1,M,hM,hbl⟩
  have:=kh.apart j r1 c r0 M L hM hL hbl (.inl hjr)
  exact hc (this▸hj)
 have hmay:∀ {i r0 L},R' i r0=some L→¬ B'.ro i→B.may L.block:=fun {i r0 L} hL hr=>by
  have:=(s6.place i r0 L hL).1.elim id fun h=>absurd h hr
  rcases this with h1 | h1
  · refine .inl (Nat.le_trans hroom ?_)
    have:B'.env.heap.size≤L.block:=h1
    rw [s5] at this
    exact this
  · rw [s5] at h1
    exact howned _ h1
 have hrob:∀ {i r0 L},R' i r0=some L→B'.ro i→∃ j∈σ,B.ro j∧∃ r1 M,R j r1=some M∧M.block=L.block:=fun {i r0 L} hL hr=>by
  have:=s6.rol i r0 L hr hL
  rw [s5] at this
  obtain ⟨j,h1,h3,r1,M,h4,h5⟩:=this
  exact ⟨j,h1,h3,r1,M,h4,h5⟩
 have hroF:∀ i,(xi B B' σ h.next ⟨objs2,h.next+(h'.next - σ.length),h.glob⟩).ro (vB σ h.next i)=B'.ro i:=fun i=>by
  rcases Nat.lt_or_ge i σ.length with h1 | h1
  · have e1:=List.getElem?_eq_getElem h1
    rw [hFσ e1]
    rcases hfind σ[i] with ⟨i',h3,h4⟩ | ⟨h3,_⟩
    · have:=yG hnd e1 h3
      subst this
      simp only [xi,h4]
    · exact absurd (List.mem_of_getElem? e1) h3
  · rw [hFn h1]
    rcases hfind (h.next+(i - σ.length)) with ⟨i',h3,_⟩ | ⟨_,h4⟩
    · have:=hσlt (List.mem_of_getElem? h3); omega
    · simp only [xi,h4]
      rw [if_pos (by omega)]
      congr 1
      omega
 have hroO:∀ c,c ∉ σ→c<h.next→(xi B B' σ h.next ⟨objs2,h.next+(h'.next - σ.length),h.glob⟩).ro c=B.ro c:=fun c h1 h3=>by
  rcases hfind c with ⟨i',h4,_⟩ | ⟨_,h4⟩
  · exact absurd (List.mem_of_getElem? h4) h1
  · simp only [xi,h4]
    rw [if_neg (by omega)]
 have hpendσ:∀ c,c∈σ→(xi B B' σ h.next ⟨objs2,h.next+(h'.next - σ.length),h.glob⟩).pend c=none:=fun c h1=>by
  rcases hfind c with ⟨i',_,h4⟩ | ⟨h4,_⟩
  · simp only [xi,h4]
  · exact absurd h1 h4
 have hpendO:∀ c,c ∉ σ→c<h.next→(xi B B' σ h.next ⟨objs2,h.next+(h'.next - σ.length),h.glob⟩).pend c=B.pend c:=fun c h1 h3=>by
  rcases hfind c with ⟨i',h4,_⟩ | ⟨_,h4⟩
  · exact absurd (List.mem_of_getElem? h4) h1
  · simp only [xi,h4]
    rw [if_neg (by omega)]
 have hpendN:∀ c,h.next≤c→(xi B B' σ h.next ⟨objs2,h.next+(h'.next - σ.length),h.glob⟩).pend c=(match B'.pend (σ.length+(c - h.next)) with
  | none=>none
  | some _=>(⟨objs2,h.next+(h'.next - σ.length),h.glob⟩:AHeap).get c):=fun c h1=>by
  rcases hfind c with ⟨i',h3,_⟩ | ⟨_,h4⟩
  · have:=hσlt (List.mem_of_getElem? h3); omega
  · simp only [xi,h4]
    rw [if_pos h1]
 have hH:HRel P (xi B B' σ h.next ⟨objs2,h.next+(h'.next - σ.length),h.glob⟩) (zae σ h.next R R') ⟨objs2,h.next+(h'.next - σ.length),h.glob⟩ w':=by
  refine ⟨fun c hc r0=>?_,fun c o2 eo hpe=>?_,fun c o2 e=>?_,fun c r0 L e=>?_,fun c hc=>?_,fun c hc=>?_,fun c r0 L hc e=>?_,fun b hbm=>?_,fun c r0 L e=>?_,fun c r0 c' r0' L L' e e' hbl hor=>?_,fun c r0 r0' L L' e e' hbl=>?_,fun g cc e=>?_⟩
  ·
   have hc:h.next+(h'.next - σ.length)≤c:=hc
   have:zae σ h.next R R' c r0=R' (σ.length+(c - h.next)) r0:=by
    have:=hR2n (i:=σ.length+(c - h.next)) (r:=r0) (by omega)
    rwa [show h.next+(σ.length+(c - h.next) - σ.length)=c by omega] at this
   rw [this]
   exact s6.fresh _ (by omega) r0
  ·
   rcases hget c o2 eo with ⟨i,_,hi,hic,o,ho1,ho2⟩ | ⟨hno,hold2⟩
   · subst hic
     have hpi:B'.pend i=none:=by
      rcases Nat.lt_or_ge i σ.length with h1 | h1
      · exact hσpend' (List.getElem?_eq_getElem h1)
      · rw [hFn h1,hpendN _ (by omega)] at hpe
        rw [show σ.length+(h.next+(i - σ.length) - h.next)=i by omega] at hpe
        cases hb:B'.pend i with
        | none=>rfl
        | some o0 =>
         rw [hb] at hpe
         simp only at hpe
         rw [hFn h1] at eo
         rw [eo] at hpe
         cases hpe
     exact zc0 hren (fun _ r=>hR2F i r) (fun t0 ht=>by cases ht) ho2 (fun f hf=>hp2 f (zbx (Nat.zero_le _) hi ho1 hf)) (s6.obj i o ho1 hpi)
   · rcases hparts c with ⟨h1,h3⟩ | ⟨i,hic,h3⟩
     · rw [hpendO c h1 h3] at hpe
       exact (kh.obj c o2 hold2 hpe).mono hleR (fun r=>hR2o h1 h3) (fun r L hL=>hsame h1 hL)
     · exfalso
       rcases h3 with h3 | h3
       · obtain ⟨i',hi',he⟩:=List.getElem_of_mem h3
         exact hno i' (Nat.zero_le _) (by omega) (hFσ (by rw [List.getElem?_eq_getElem hi',he]))
       · have hold2:h.get c=some o2:=hold2
         have hpc:B.pend c=none:=by
          cases hb:B.pend c with
          | none=>rfl
          | some o0=>exact absurd (kh.pend c o0 hb).1 (Nat.not_lt.2 h3)
         obtain ⟨r1,L,hL⟩:=(kh.obj c o2 hold2 hpc).live
         rw [kh.fresh c h3] at hL
         cases hL
  ·
   by_cases hc:c∈σ
   · rw [hpendσ c hc] at e; cases e
   · rcases Nat.lt_or_ge c h.next with h1 | h1
     · rw [hpendO c hc h1] at e
       obtain ⟨g1,g2,g3⟩:=kh.pend c o2 e
       refine ⟨by show c<h.next+_; omega,?_,fun r0=>by rw [hR2o hc h1]; exact g3 r0⟩
       exact (y9 hobjs2 c fun a _ _=>hnot hc h1).trans g2
     · rw [hpendN c h1] at e
       cases hb:B'.pend (σ.length+(c - h.next)) with
       | none=>rw [hb] at e; cases e
       | some o0 =>
        rw [hb] at e
        simp only at e
        obtain ⟨g1,g2,g3⟩:=s6.pend _ o0 hb
        refine ⟨by show c<h.next+_; omega,e,fun r0=>?_⟩
        have:=hR2n (i:=σ.length+(c - h.next)) (r:=r0) (by omega)
        rw [show h.next+(σ.length+(c - h.next) - σ.length)=c by omega] at this
        rw [this]; exact g3 r0
  ·
   rcases hparts c with ⟨h1,h3⟩ | ⟨i,rfl,_⟩
   · rw [hR2o h1 h3] at e
     refine ⟨?_,Nat.lt_of_lt_of_le (kh.place c r0 L e).2 s7.size⟩
     rw [hroO c h1 h3]
     exact (kh.place c r0 L e).1
   · rw [hR2F] at e
     refine ⟨?_,(s6.place i r0 L e).2⟩
     rw [hroF]
     by_cases hr:B'.ro i
     · exact .inr hr
     · exact .inl (hmay e hr)
  ·
   rcases hparts c with ⟨h1,h3⟩ | ⟨i,rfl,h3⟩
   · rw [hroO c h1 h3] at hc
     refine ⟨by show c<h.next+_; omega,fun o2 eo=>?_⟩
     rcases hget c o2 eo with ⟨i,_,hi,hic,_⟩ | ⟨_,hold2⟩
     · exact absurd hic (hnot h1 h3)
     · exact (kh.rd c hc).2 o2 hold2
   · rw [hroF] at hc
     obtain ⟨g1,g2⟩:=s6.rd i hc
     refine ⟨?_,fun o2 eo=>?_⟩
     · show vB σ h.next i<h.next+(h'.next - σ.length)
       rcases Nat.lt_or_ge i σ.length with h4 | h4
       · have e1:=List.getElem?_eq_getElem h4
         rw [hFσ e1]
         have:=hσlt (List.mem_of_getElem? e1)
         omega
       · rw [hFn h4]; omega
     · rcases hget _ o2 eo with ⟨i',_,hi',hic,o,ho1,ho2⟩ | ⟨hno,_⟩
       · have:=hFinj i' i (Nat.zero_le _) (Nat.zero_le _) hi' (by omega) hic
         subst this
         have:=g2 o ho1
         cases o with
         | ro c lo n=>simp only [zeR] at ho2; cases ho2; rfl
         | _=>cases this
       · exact absurd rfl (hno i (Nat.zero_le _) (by omega))
  ·
   by_cases hcσ:c∈σ
   · exact hpendσ c hcσ
   · rcases Nat.lt_or_ge c h.next with h1 | h1
     · rw [hroO c hcσ h1] at hc
       rw [hpendO c hcσ h1]
       exact kh.rp c hc
     · have hF:vB σ h.next (σ.length+(c - h.next))=c:=by rw [hFn (by omega)]; omega
       have:=hroF (σ.length+(c - h.next))
       rw [hF] at this
       rw [this] at hc
       rw [hpendN c h1,s6.rp _ hc]
  ·
   rcases hparts c with ⟨h1,h3⟩ | ⟨i,rfl,_⟩
   · rw [hroO c h1 h3] at hc
     rw [hR2o h1 h3] at e
     exact kh.rol c r0 L hc e
   · rw [hroF] at hc
     rw [hR2F] at e
     obtain ⟨j,_,hj,r1,M,hM,hbl⟩:=hrob e hc
     rw [← hbl]
     exact kh.rol j r1 M hj hM
  ·
   have hbm':¬ B.may b:=hbm
   have hlt:=Nat.lt_of_lt_of_le (Base.low_lt hbm') hroom
   exact (hold.other b hlt (fun h=>hbm' (howned b h))).trans (kh.low b hbm')
  · exact hleR _ _ _ (kh.pin c r0 L e)
  ·
   have cross:∀ {c r0 L i r1 M},c ∉ σ→c<h.next→R c r0=some L→R' i r1=some M→L.block=M.block→(¬ B.ro c∨¬ B'.ro i)→False:=by
    intro c r0 L i r1 M h1 h3 hL hM hbl hor
    by_cases hr:B'.ro i
    · obtain ⟨j,hj,hjr,r2,N,hN,hbN⟩:=hrob hM hr
      have:=kh.apart c r0 j r2 L N hL hN (hbl.trans hbN.symm) (.inl (hor.resolve_right (fun h=>h hr)))
      exact h1 (this▸hj)
    · have:=(s6.place i r1 M hM).1.elim id fun h=>absurd h hr
      rcases this with h4 | h4
      · have h4:B'.env.heap.size≤M.block:=h4
        rw [s5] at h4
        have h4:w.heap.size≤M.block:=h4
        have:=(kh.place c r0 L hL).2
        omega
      · rw [s5] at h4
        obtain ⟨j,hj,hjr,r2,N,hN,hbN⟩:=h4
        have:=kh.apart c r0 j r2 L N hL hN (hbl.trans hbN.symm) (.inr hjr)
        exact h1 (this▸hj)
   rcases hparts c with ⟨h1,h3⟩ | ⟨i,rfl,_⟩ <;> rcases hparts c' with ⟨h1',h3'⟩ | ⟨i',rfl,_⟩
   · rw [hR2o h1 h3] at e
     rw [hR2o h1' h3'] at e'
     rw [hroO c h1 h3,hroO c' h1' h3'] at hor
     exact kh.apart c r0 c' r0' L L' e e' hbl hor
   · rw [hR2o h1 h3] at e
     rw [hR2F] at e'
     rw [hroO c h1 h3,hroF] at hor
     exact (cross h1 h3 e e' hbl hor).elim
   · rw [hR2F] at e
     rw [hR2o h1' h3'] at e'
     rw [hroO c' h1' h3',hroF] at hor
     exact (cross h1' h3' e' e hbl.symm hor.symm).elim
   · rw [hR2F] at e e'
     rw [hroF,hroF] at hor
     rw [s6.apart i r0 i' r0' L L' e e' hbl hor]
  ·
   rcases hparts c with ⟨h1,h3⟩ | ⟨i,rfl,_⟩
   · rw [hR2o h1 h3] at e e'
     exact kh.same c r0 r0' L L' e e' hbl
   · rw [hR2F] at e e'
     exact s6.same i r0 r0' L L' e e' hbl
  ·
   obtain ⟨g1,cs,el,fz,g2,g3⟩:=kh.glob g cc e
   refine ⟨g1,cs,el,fz,(hold.other g (xE g2) (fun h=>g1 (howned g h))).trans g2,g3⟩
 have hkeep:B.keeps (xi B B' σ h.next ⟨objs2,h.next+(h'.next - σ.length),h.glob⟩) (r.length+1):=⟨rfl,fun id ob e _=>by
  have h1:id ∉ σ:=fun hm=>by rw [hσpend hm] at e; cases e
  have h3:=(kh.pend id ob e).1
  exact ⟨by rw [hpendO id h1 h3]; exact e,rfl⟩⟩
 obtain ⟨c',q1,q2⟩:=kR hgo
 have hsim:Sim P w0 base ⟨c',r,⟨objs2,h.next+(h'.next - σ.length),h.glob⟩⟩ (f.finish v') (fs'++base) w' :=
  ⟨xi B B' σ h.next ⟨objs2,h.next+(h'.next - σ.length),h.glob⟩,zae σ h.next R R',fs',rfl,hb,hH,⟨s7.os.trans ho.os,s7.tape.trans ho.tape,s7.output.trans ho.output,Nat.le_trans ho.size s7.size,Nat.le_trans ho.drawn s7.drawn⟩,
   xp (kf.mono (h':=h) hleR hkeep (Nat.lt_succ_self _)) hcm q1 (y5 hren 99 _ _ _ hv2 s4),kr.mono hleR hkeep (Nat.le_succ _)⟩
 obtain ⟨fr2,w2,B2,R2,v3,v3',h3,t1,t2⟩:=hK _ q2 w0 base _ _ w' hk hsim
 exact ⟨fr2,w2,B2,R2,v3,v3',h3,s1.trans (.head (zhF s2) t1),t2⟩
end
end Go.Proofs.Ytehelionjafnkaa.Ev
end
