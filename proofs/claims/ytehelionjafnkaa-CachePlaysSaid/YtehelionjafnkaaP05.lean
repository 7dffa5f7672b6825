import Derived.Test.YtehelionjafnkaaP00
import Derived.Test.YtehelionjafnkaaP01
import Derived.Test.YtehelionjafnkaaP02
import Derived.Test.YtehelionjafnkaaP03
import Derived.Test.YtehelionjafnkaaP04
section
set_option maxRecDepth 100000
set_option linter.unusedVariables false
set_option linter.unusedSectionVars false
namespace Go.Proofs.Ytehelionjafnkaa.gx
open Go Ev
abbrev gd (l:Nat) (x:Ev.Node):Prop:=x=(l,3)∨∃ i,i≠l∧x=nd i
def dat (l i j:Nat):Prop:=(i=l∧j≤2)∨(i≠l∧2≤j)
variable {O O' O1 O2:T AObj} {N l mi cap:Nat} {G:T (T AV)} {x:Ev.Node}
theorem zcP (b:But O O' x.1 x.2)(gx:gd l x){i j:Nat}{c:AV}(h:dat l i j)(hc:Cell O i j c):Cell O' i j c:=by
 refine b.1 _ _ _ ?_ hc
 rcases gx with rfl | ⟨y,hy,rfl⟩ <;> rcases h with ⟨rfl,h⟩ | ⟨h1,h⟩
 · right; show j≠3; omega
 · left; exact h1
 · left; exact Ne.symm hy
 · right; show j≠0; omega
theorem zcZ (b:But O O' x.1 (x.2+1))(gx:gd l x){i j:Nat}{c:AV}(h:dat l i j)(hc:Cell O i j c):Cell O' i j c:=by
 refine b.1 _ _ _ ?_ hc
 rcases gx with rfl | ⟨y,hy,rfl⟩ <;> rcases h with ⟨rfl,h⟩ | ⟨h1,h⟩
 · right; show j≠4; omega
 · left; exact h1
 · left; exact Ne.symm hy
 · right; show j≠1; omega
theorem zhm {us:List Nat}(hx:x=(l,3)∨∃ i,i∈us∧x=nd i)(hl:∀ i∈us,i≠l):gd l x:=hx.imp id fun ⟨i,hi,h⟩=>⟨i,hl i hi,h⟩
theorem zec {us:List Nat}(hx:x=(l,3)∨∃ i,i∈us∧x=nd i){j:Nat}(hl:j≠l)(hu:∀ i∈us,i≠j):j≠x.1:=by
 rcases hx with rfl | ⟨i,hi,rfl⟩
 · exact hl
 · exact Ne.symm (hu i hi)
theorem zgI {α β:Type}{f:α→β}:∀ {L:List α},(L.map f).Nodup→∀ x∈L,∀ y∈L,f y=f x→y=x
 | [],_,x,hx,_,_,_=>absurd hx List.not_mem_nil
 | a::r,h,x,hx,y,hy,e=>by
  rw [List.map_cons,List.nodup_cons] at h
  rcases List.mem_cons.1 hx with hxa | hx'
  · rcases List.mem_cons.1 hy with hya | hy'
    · rw [hxa,hya]
    · exact absurd (by rw [← hxa,← e]; exact List.mem_map_of_mem hy') h.1
  · rcases List.mem_cons.1 hy with hya | hy'
    · exact absurd (by rw [← hya,e]; exact List.mem_map_of_mem hx') h.1
    · exact zgI h.2 x hx' y hy' e
theorem yG {α:Type}{a:α}{us ws:List α}(h:(us++a::ws).Nodup):(us++ws).Nodup∧a ∉ us++ws:=by
 rw [List.nodup_append,List.nodup_cons] at h
 obtain ⟨h1,⟨h2,h3⟩,h4⟩:=h
 refine ⟨List.nodup_append.2 ⟨h1,h3,fun x hx y hy=>h4 x hx y (List.mem_cons_of_mem _ hy)⟩,fun hm=>?_⟩
 rcases List.mem_append.1 hm with b | b
 · exact h4 a b a (by simp) rfl
 · exact h2 b
theorem zgR {c c':AV}{xs:List Nat}(h:Ring O l xs)(hl:∀ x∈xs,x≠l)(b:But O O' l 1):Ring O' l xs:=by
 refine Lk.mono (fun y hy c hc=>b.1 _ _ _ ?_ hc) (fun y hy c hc=>b.1 _ _ _ ?_ hc) h
 · rw [← List.cons_append,List.dropLast_concat] at hy
   rcases List.mem_cons.1 hy with rfl | hm
   · right; show (3+1:Nat)≠1; omega
   · obtain ⟨i,hi,rfl⟩:=List.mem_map.1 hm
     left; exact hl i hi
 · rw [List.tail_cons] at hy
   rcases List.mem_append.1 hy with hm | hm
   · obtain ⟨i,hi,rfl⟩:=List.mem_map.1 hm
     left; exact hl i hi
   · obtain rfl:=List.mem_singleton.1 hm
     right; show (3:Nat)≠1; omega
theorem zbu {xs:List Nat}(h:Ring O l xs)(e:∀ i,i=l∨i∈xs→O'.get i=O.get i):Ring O' l xs:=by
 refine Lk.mono (fun y hy c hc=>hc.same ?_) (fun y hy c hc=>hc.same ?_) h
 · rw [← List.cons_append,List.dropLast_concat] at hy
   rcases List.mem_cons.1 hy with rfl | hm
   · exact e _ (.inl rfl)
   · obtain ⟨i,hi,rfl⟩:=List.mem_map.1 hm
     exact e _ (.inr hi)
 · rw [List.tail_cons] at hy
   rcases List.mem_append.1 hy with hm | hm
   · obtain ⟨i,hi,rfl⟩:=List.mem_map.1 hm
     exact e _ (.inr hi)
   · obtain rfl:=List.mem_singleton.1 hm
     exact e _ (.inl rfl)
theorem ziw {p:Nat}{us:List Nat}(h:Ring O l (us++[p])):Cell O l 3 (pt (nd p)):=by
 unfold Ring at h
 rw [List.map_append,List.append_assoc,← List.cons_append] at h
 have h':Lk O (((l,3)::us.map nd)++nd p::[(l,3)]):=h
 rw [Lk.app,Lk.two] at h'
 exact h'.2.1.2
def Dat (O:T AObj) (id:Nat) (l:List AV):Prop:=∀ u v,l[u]?=some v→Cell O id (2+u) v
def ButD (O O':T AObj) (id lo:Nat):Prop:=(∀ i j u,(i≠id∨j<lo)→Cell O i j u→Cell O' i j u)∧Frm O O' id
theorem we {id a:Nat}{l:List AV}(h:∀ u v,l[u]?=some v→Cell O id (a+u) v)(h0:0<l.length):∃ n f,Row O id n f∧a+l.length≤n∧∀ u,u<l.length→l[u]?=some (f (a+u)):=by
 obtain ⟨n,f,⟨c,el,r1,r2⟩,h2,h3⟩:=h (l.length - 1) _ (List.getElem?_eq_getElem (by omega))
 refine ⟨n,f,⟨c,el,r1,r2⟩,by omega,fun u hu=>?_⟩
 obtain ⟨n',f',⟨c',el',q1,q2⟩,g2,g3⟩:=h u _ (List.getElem?_eq_getElem hu)
 rw [r1] at q1
 cases q1
 have e1:=r2 (a+u) g2
 have e2:=q2 (a+u) g2
 rw [e1] at e2
 rw [List.getElem?_eq_getElem hu,← g3,Option.some.inj e2]
theorem Dat.load {id:Nat}{ks vs:List AV}(h:Dat O id (ks++vs))(h0:0<vs.length)(N:Nat)(G:T (T AV)){n o:Nat}(hn:n=vs.length)(ho:o=2+ks.length):za ⟨O,N,G⟩ id 0 o n=some vs:=by
 subst hn ho
 have h':∀ u v,vs[u]?=some v→Cell O id (2+ks.length+u) v:=fun u v hu=>by
  rw [Nat.add_assoc]
  refine h _ _ ?_
  rw [List.getElem?_append_right (by omega),Nat.add_sub_cancel_left]
  exact hu
 obtain ⟨n,f,⟨c,el,r1,r2⟩,e1,e2⟩:=we h' h0
 refine zdL r1 e1 (At.load (l:=vs) fun k hk=>?_)
 rw [r2 _ (by omega),e2 k hk]
theorem Dat.store {id:Nat}{ks vs ws:List AV}(h:Dat O id (ks++vs))(h0:0<vs.length)(hw:ws.length=vs.length)(ho:ws.all AV.one=true)(N:Nat)(G:T (T AV)) :
 ∃ O',zb ⟨O,N,G⟩ id 0 (2+ks.length) ws=some ⟨O',N,G⟩∧Dat O' id (ks++ws)∧ButD O O' id (2+ks.length):=by
 have hl:(ks++vs).length=ks.length+vs.length:=List.length_append
 obtain ⟨n,f,r,e1,e2⟩:=we h (by omega)
 obtain ⟨O',s,r',fr⟩:=r.store N G (off:=2+ks.length) (vs:=ws) ho (by omega)
 have but:∀ i j u,(i≠id∨j<2+ks.length)→Cell O i j u→Cell O' i j u:=fun i j u hij hc=>by
  by_cases hi:i=id
  · subst hi
    obtain ⟨n',f',⟨c',el',q1,q2⟩,g2,g3⟩:=hc
    obtain ⟨c,el,r1,r2⟩:=r
    rw [r1] at q1
    cases q1
    refine ⟨_,_,r',g2,?_⟩
    rw [ziZ (by omega)]
    have e3:=r2 j g2
    rw [q2 j g2] at e3
    rw [← g3]
    exact (Option.some.inj e3).symm
  · exact hc.same (fr i hi)
 refine ⟨O',s,fun u v hu=>?_,but,fr⟩
 by_cases hk:u<ks.length
 · rw [List.getElem?_append_left hk] at hu
   exact but _ _ _ (.inr (by omega)) (h u v (by rw [List.getElem?_append_left hk]; exact hu))
 · rw [List.getElem?_append_right (by omega)] at hu
   obtain ⟨hu1,hu2⟩:=List.getElem?_eq_some_iff.1 hu
   refine ⟨n,_,r',by omega,?_⟩
   have:=zlH (f:=f) (off:=2+ks.length) (vs:=ws) (u:=u - ks.length) hu1
   rw [show 2+ks.length+(u - ks.length)=2+u by omega] at this
   rw [this,List.getD_eq_getElem?_getD,hu]
   rfl
section
variable {κ:Type} [BEq κ] [LawfulBEq κ] {kav:κ→AV} {kc:κ→List AV} {mt kt el:TypeId}
abbrev Ent (κ:Type):=Nat × κ × List AV
def MapOk (O:T AObj) (mi:Nat) (kav:κ→AV) (L:List (Ent κ)):Prop:=∃ m,MapIs O mi kav m∧(m.map (·.1)).Nodup∧(∀ p∈m,∃ x∈L,p.1=x.2.1∧p.2=.ptr x.1 0 0)∧∀ x∈L,∃ p∈m,p.1=x.2.1
def LR (O:T AObj) (kav:κ→AV) (kc:κ→List AV) (vn:Nat) (l mi cap:Nat) (L:List (Ent κ)):Prop :=
 mi≠l∧Cell O l 0 (.int .i64 (cap:Int))∧Cell O l 1 (.int .i64 ((L.length:Nat):Int))∧Cell O l 2 (.mp mi)∧Ring O l (L.map (·.1)) ∧
 (∀ x∈L,x.1≠l∧x.1≠mi∧Dat O x.1 (kc x.2.1++x.2.2)∧x.2.2.length=vn)∧(L.map (·.1)).Nodup∧(L.map (·.2.1)).Nodup∧MapOk O mi kav L∧L.length≤cap
variable {O O' O1 O2:T AObj} {N l mi cap vn:Nat} {G:T (T AV)} {L u w:List (Ent κ)} {k:κ} {vs:List AV}
theorem MapOk.same (h:MapOk O mi kav L)(e:O'.get mi=O.get mi):MapOk O' mi kav L:=by
 obtain ⟨m,h1,h2⟩:=h
 exact ⟨m,h1.same e,h2⟩
theorem MapOk.re {L':List (Ent κ)}(h:MapOk O mi kav L)(h1:∀ x∈L,∃ y∈L',y.1=x.1∧y.2.1=x.2.1)(h2:∀ y∈L',∃ x∈L,y.2.1=x.2.1):MapOk O mi kav L':=by
 obtain ⟨m,e1,e2,e3,e4⟩:=h
 refine ⟨m,e1,e2,fun p hp=>?_,fun y hy=>?_⟩
 · obtain ⟨x,hx,q1,q2⟩:=e3 p hp
   obtain ⟨y,hy,p1,p2⟩:=h1 x hx
   exact ⟨y,hy,by rw [q1,p2],by rw [q2,p1]⟩
 · obtain ⟨x,hx,q⟩:=h2 y hy
   obtain ⟨p,hp,e⟩:=e4 x hx
   exact ⟨p,hp,by rw [e,q]⟩
theorem zmL {m:List (κ × AV)}{v:AV}(h:val? k m=some v):(k,v)∈m:=by
 induction m with
 | nil=>cases h
 | cons p r ih =>
  unfold val? at h
  by_cases e:(k==p.1)=true
  · rw [if_pos e] at h
    have hk:=eq_of_beq e
    cases h
    rw [hk]
    exact List.mem_cons_self
  · rw [if_neg e] at h
    exact List.mem_cons_of_mem _ (ih h)
theorem MapOk.hit (M:MpT mt kt el kav .nilp)(h:MapOk O mi kav L){x:Ent κ}(hx:x∈L)(hk:x.2.1=k)(hd:∀ y∈L,y.2.1=x.2.1→y=x)(N:Nat)(G:T (T AV)):xV P ⟨O,N,G⟩ mt (.mp mi) (kav k) false=some (.ptr x.1 0 0):=by
 obtain ⟨m,h1,h2,h3,h4⟩:=h
 rw [h1.look M]
 obtain ⟨p,hp,e⟩:=h4 x hx
 cases hv:val? k m with
 | none =>
  exfalso
  have:∀ (m:List (κ × AV)),p∈m→val? k m≠none:=by
   intro m
   induction m with
   | nil=>intro h; cases h
   | cons q r ih =>
    intro hq hn
    unfold val? at hn
    by_cases e':(k==q.1)=true
    · rw [if_pos e'] at hn; cases hn
    · rw [if_neg e'] at hn
      rcases List.mem_cons.1 hq with rfl | hq
      · exact e' (by rw [e,hk]; exact beq_self_eq_true k)
      · exact ih hq hn
  exact this m hp hv
 | some v =>
  obtain ⟨y,hy,y1,y2⟩:=h3 _ (zmL hv)
  have:y=x:=hd y hy (by rw [hk]; exact y1.symm)
  subst this
  show zh6 false v true=_
  have y2':v=.ptr y.1 0 0:=y2
  rw [y2']
  rfl
theorem MapOk.miss (M:MpT mt kt el kav .nilp)(h:MapOk O mi kav L)(hk:∀ x∈L,x.2.1≠k)(N:Nat)(G:T (T AV)):xV P ⟨O,N,G⟩ mt (.mp mi) (kav k) false=some .nilp:=by
 obtain ⟨m,h1,h2,h3,h4⟩:=h
 rw [h1.look M]
 have:val? k m=none:=zd5 fun p hp e=>by
  obtain ⟨x,hx,e1,_⟩:=h3 p hp
  exact hk x hx (by rw [← e1,e])
 rw [this]
 rfl
theorem zlY {m:List (κ × AV)}:∀ {i:Nat},(∀ p∈m,p.1≠k)→ix k m i=none:=by
 induction m with
 | nil=>intro i _; rfl
 | cons p r ih =>
  intro i h
  unfold ix
  rw [if_neg fun e=>h p List.mem_cons_self (eq_of_beq e).symm]
  exact ih fun q hq=>h q (List.mem_cons_of_mem _ hq)
theorem MapOk.put (M:MpT mt kt el kav .nilp)(h:MapOk O mi kav L)(hk:∀ x∈L,x.2.1≠k)(p:Nat)(vs:List AV)(N:Nat)(G:T (T AV)):∃ O',yE P ⟨O,N,G⟩ mt (.mp mi) (kav k) (.ptr p 0 0)=some ⟨O',N,G⟩∧MapOk O' mi kav ((p,k,vs)::L)∧Frm O O' mi:=by
 obtain ⟨m,h1,h2,h3,h4⟩:=h
 obtain ⟨O',e1,e2,e3⟩:=h1.put M k (.ptr p 0 0) N G
 have hm:∀ q∈m,q.1≠k:=fun q hq e=>by
  obtain ⟨x,hx,e1,_⟩:=h3 q hq
  exact hk x hx (by rw [← e1,e])
 have hp:zb7 k (.ptr p 0 0) m=m++[(k,.ptr p 0 0)]:=by
  unfold zb7
  rw [zlY hm]
 rw [hp] at e2
 refine ⟨O',e1,⟨_,e2,?_,fun q hq=>?_,fun x hx=>?_⟩,e3⟩
 · rw [List.map_append,List.nodup_append]
   refine ⟨h2,by simp,fun a ha b hb=>?_⟩
   obtain ⟨q,hq,rfl⟩:=List.mem_map.1 ha
   obtain rfl:b=k:=by simpa using hb
   exact hm q hq
 · rcases List.mem_append.1 hq with a | a
   · obtain ⟨x,hx,q1,q2⟩:=h3 q a
     exact ⟨x,List.mem_cons_of_mem _ hx,q1,q2⟩
   · obtain rfl:=List.mem_singleton.1 a
     exact ⟨_,List.mem_cons_self,rfl,rfl⟩
 · rcases List.mem_cons.1 hx with rfl | hx
   · exact ⟨_,List.mem_append_right _ (List.mem_singleton_self _),rfl⟩
   · obtain ⟨q,hq,e⟩:=h4 x hx
     exact ⟨q,List.mem_append_left _ hq,e⟩
theorem MapOk.del (M:MpT mt kt el kav .nilp)(u w:List (Ent κ)){x:Ent κ}(h:MapOk O mi kav (u++x::w))(hd:∀ y∈u++w,y.2.1≠x.2.1)(hk:x.2.1=k)(t:Option TypeId)(N:Nat)(G:T (T AV)):∃ O',zd P ⟨O,N,G⟩ .delete (some mt) t [.mp mi,kav k]=some (.val (.tup []) ⟨O',N,G⟩)∧MapOk O' mi kav (u++w)∧Frm O O' mi:=by
 obtain ⟨m,h1,h2,h3,h4⟩:=h
 obtain ⟨O',e1,e2,e3⟩:=h1.del M h2 k t N G
 refine ⟨O',e1,⟨_,e2,h2.sublist (List.Sublist.map _ List.filter_sublist),fun q hq=>?_,fun y hy=>?_⟩,e3⟩
 · obtain ⟨q1,q2⟩:=List.mem_filter.1 hq
   have hne:q.1≠k:=fun e=>by rw [e,beq_self_eq_true] at q2; cases q2
   obtain ⟨y,hy,y1,y2⟩:=h3 q q1
   refine ⟨y,?_,y1,y2⟩
   rcases List.mem_append.1 hy with b | b
   · exact List.mem_append_left _ b
   · rcases List.mem_cons.1 b with rfl | b
     · exact absurd (y1.trans hk) hne
     · exact List.mem_append_right _ b
 · have hy':y∈u++x::w:=by
    rcases List.mem_append.1 hy with b | b
    · exact List.mem_append_left _ b
    · exact List.mem_append_right _ (List.mem_cons_of_mem _ b)
   obtain ⟨p,hp,e⟩:=h4 y hy'
   refine ⟨p,List.mem_filter.2 ⟨hp,?_⟩,e⟩
   have:¬ (p.1==k)=true:=fun e'=>hd y hy (by rw [← e,eq_of_beq e',hk])
   simp [this]
theorem move {p:Ent κ}(hkc:∀ k,0<(kc k).length)(h:LR O kav kc vn l mi cap (u++p::w))(O1:T AObj)(b0:ButD O O1 p.1 (2+(kc p.2.1).length))(c0:Dat O1 p.1 (kc p.2.1++vs))(hvs:vs.length=vn)(N:Nat)(G:T (T AV)) :
 ∃ (e n a:Ev.Node) (O2 O3 O4 O5 O6 O7:T AObj),Cell O1 p.1 1 (pt e)∧Cell O1 p.1 0 (pt n) ∧
  zb ⟨O1,N,G⟩ e.1 0 e.2 [pt n]=some ⟨O2,N,G⟩∧zb ⟨O2,N,G⟩ n.1 0 (n.2+1) [pt e]=some ⟨O3,N,G⟩∧Cell O3 l 4 (pt a) ∧
  zb ⟨O3,N,G⟩ p.1 0 0 [pt (l,3)]=some ⟨O4,N,G⟩∧zb ⟨O4,N,G⟩ p.1 0 1 [pt a]=some ⟨O5,N,G⟩∧Cell O5 p.1 1 (pt a) ∧
  zb ⟨O5,N,G⟩ a.1 0 a.2 [pt (nd p.1)]=some ⟨O6,N,G⟩∧zb ⟨O6,N,G⟩ l 0 4 [pt (nd p.1)]=some ⟨O7,N,G⟩ ∧
  LR O7 kav kc vn l mi cap ((p.1,p.2.1,vs)::(u++w))∧∀ j,j≠l→(∀ y∈u++p::w,y.1≠j)→O7.get j=O.get j:=by
 obtain ⟨h0,h1,h2,h3,h4,h5,h6,h7,h8,h9⟩:=h
 rw [List.map_append,List.map_cons] at h4 h6 h7
 have hne:∀ i∈u.map (·.1)++p.1::w.map (·.1),i≠l∧i≠mi:=by
  intro i hi
  rw [← List.map_cons,← List.map_append] at hi
  obtain ⟨y,hy,rfl⟩:=List.mem_map.1 hi
  exact ⟨(h5 y hy).1,(h5 y hy).2.1⟩
 obtain ⟨hpl,hpm⟩:=hne p.1 (by simp)
 have hk0:=hkc p.2.1
 have hR1:Ring O1 l (u.map (·.1)++p.1::w.map (·.1)):=by
  refine Lk.mono (fun y hy c hc=>b0.1 _ _ _ ?_ hc) (fun y hy c hc=>b0.1 _ _ _ ?_ hc) h4
  · have:y∈((l,3):Ev.Node)::(u.map (·.1)++p.1::w.map (·.1)).map nd:=by
     rw [← List.cons_append,List.dropLast_concat] at hy
     exact hy
    rcases List.mem_cons.1 this with rfl | hm
    · left; exact Ne.symm hpl
    · obtain ⟨i,_,rfl⟩:=List.mem_map.1 hm
      right; show (0+1:Nat)<2+(kc p.2.1).length; omega
  · rw [List.tail_cons] at hy
    rcases List.mem_append.1 hy with hm | hm
    · obtain ⟨i,_,rfl⟩:=List.mem_map.1 hm
      right; show (0:Nat)<2+(kc p.2.1).length; omega
    · obtain rfl:=List.mem_singleton.1 hm
      left; exact Ne.symm hpl
 obtain ⟨e,n,O2,O3,he,hn,c1,c2,s1,s2,hR3,b1,b2⟩:=hR1.leave h6 (fun i hi=>(hne i hi).1) N G
 obtain ⟨nd1,nd2⟩:=yG h6
 have hne':∀ i∈u.map (·.1)++w.map (·.1),i≠l∧i≠mi:=fun i hi=>hne i (by
  rcases List.mem_append.1 hi with a | a
  · exact List.mem_append_left _ a
  · exact List.mem_append_right _ (List.mem_cons_of_mem _ a))
 have hul:∀ i∈u.map (·.1),i≠l:=fun i hi=>(hne i (List.mem_append_left _ hi)).1
 have hwl:∀ i∈w.map (·.1),i≠l:=fun i hi=>(hne i (List.mem_append_right _ (List.mem_cons_of_mem _ hi))).1
 have ge:=zhm he hwl
 have gn:=zhm hn hul
 have hpu:∀ i∈u.map (·.1),i≠p.1:=fun i hi h=>nd2 (h▸List.mem_append_left _ hi)
 have hpw:∀ i∈w.map (·.1),i≠p.1:=fun i hi h=>nd2 (h▸List.mem_append_right _ hi)
 have pe:=zec he hpl hpw
 have pn:=zec hn hpl hpu
 have c1':Cell O3 p.1 1 (pt e):=b2.1 _ _ _ (.inl pn) (b1.1 _ _ _ (.inl pe) c1)
 have c2':Cell O3 p.1 0 (pt n):=b2.1 _ _ _ (.inl pn) (b1.1 _ _ _ (.inl pe) c2)
 obtain ⟨a,O4,O5,O6,O7,ha,c3,s3,s4,c4,s5,s6,hR7,b3,b4,b5,b6⟩:=hR3.enter (fun i hi=>(hne' i hi).1) nd2 hpl c2' c1' nd1 N G
 have ga:=zhm ha fun i hi=>(hne' i hi).1
 have gp:gd l (nd p.1):=.inr ⟨p.1,hpl,rfl⟩
 have stay:∀ i j c,dat l i j→Cell O1 i j c→Cell O7 i j c:=fun i j c hd hc =>
  zcZ (x:=(l,3)) b6 (.inl rfl) hd (zcP b5 ga hd (zcZ (x:=nd p.1) b4 gp hd (zcP (x:=nd p.1) b3 gp hd (zcZ b2 gn hd (zcP b1 ge hd hc)))))
 have stay0:∀ i j c,dat l i j→(i≠p.1∨j<2+(kc p.2.1).length)→Cell O i j c→Cell O7 i j c:=fun i j c hd hne hc=>stay i j c hd (b0.1 _ _ _ hne hc)
 have get:∀ j,j≠l→(∀ y∈u++p::w,y.1≠j)→O7.get j=O.get j:=fun j hj hy=>by
  have hju:∀ i∈u.map (·.1),i≠j:=fun i hi=>by obtain ⟨y,hm,rfl⟩:=List.mem_map.1 hi; exact hy y (by simp [hm])
  have hjw:∀ i∈w.map (·.1),i≠j:=fun i hi=>by obtain ⟨y,hm,rfl⟩:=List.mem_map.1 hi; exact hy y (by simp [hm])
  have hjp:j≠p.1:=Ne.symm (hy p (by simp))
  have hja:j≠a.1:=zec ha hj fun i hi=>by rcases List.mem_append.1 hi with b | b; exact hju i b; exact hjw i b
  exact (b6.2 j hj).trans ((b5.2 j hja).trans ((b4.2 j hjp).trans ((b3.2 j hjp).trans ((b2.2 j (zec hn hj hju)).trans ((b1.2 j (zec he hj hjw)).trans (b0.2 j hjp))))))
 have hlen:((p.1,p.2.1,vs)::(u++w)).length=(u++p::w).length:=by simp only [List.length_cons,List.length_append]; omega
 refine ⟨e,n,a,O2,O3,O4,O5,O6,O7,c1,c2,s1,s2,c3,s3,s4,c4,s5,s6,⟨h0,stay0 _ _ _ (.inl ⟨rfl,by omega⟩) (.inl (Ne.symm hpl)) h1,?_,stay0 _ _ _ (.inl ⟨rfl,by omega⟩) (.inl (Ne.symm hpl)) h3,?_,fun y hy=>?_,?_,?_,?_,by rw [hlen]; exact h9⟩,get⟩
 · rw [hlen]
   exact stay0 _ _ _ (.inl ⟨rfl,by omega⟩) (.inl (Ne.symm hpl)) h2
 · rw [List.map_cons,List.map_append]
   exact hR7
 · rcases List.mem_cons.1 hy with rfl | hy
   · exact ⟨hpl,hpm,fun u v hu=>stay _ _ _ (.inr ⟨hpl,by omega⟩) (c0 u v hu),hvs⟩
   · have hy':y∈u++p::w:=by
      rcases List.mem_append.1 hy with b | b
      · exact List.mem_append_left _ b
      · exact List.mem_append_right _ (List.mem_cons_of_mem _ b)
     obtain ⟨q1,q2,q3,q4⟩:=h5 y hy'
     have hyp:y.1≠p.1:=by
      rcases List.mem_append.1 hy with b | b
      · exact hpu _ (List.mem_map_of_mem b)
      · exact hpw _ (List.mem_map_of_mem b)
     exact ⟨q1,q2,fun u v hu=>stay0 _ _ _ (.inr ⟨q1,by omega⟩) (.inl hyp) (q3 u v hu),q4⟩
 · rw [List.map_cons,List.map_append,List.nodup_cons]
   exact ⟨nd2,nd1⟩
 · obtain ⟨m1,m2⟩:=yG h7
   rw [List.map_cons,List.map_append,List.nodup_cons]
   exact ⟨m2,m1⟩
 · refine (h8.same (get mi h0 fun y hy=>(h5 y hy).2.1)).re (fun y hy=>?_) (fun y hy=>?_)
   · rcases List.mem_append.1 hy with b | b
     · exact ⟨y,by simp [b],rfl,rfl⟩
     · rcases List.mem_cons.1 b with rfl | b
       · exact ⟨(y.1,y.2.1,vs),by simp,rfl,rfl⟩
       · exact ⟨y,by simp [b],rfl,rfl⟩
   · rcases List.mem_cons.1 hy with rfl | hy
     · exact ⟨p,by simp,rfl⟩
     · rcases List.mem_append.1 hy with b | b
       · exact ⟨y,by simp [b],rfl⟩
       · exact ⟨y,by simp [b],rfl⟩
theorem LR.ids (h:LR O kav kc vn l mi cap L):∀ i∈L.map (·.1),i≠l∧i≠mi:=fun i hi=>by
 obtain ⟨y,hy,rfl⟩:=List.mem_map.1 hi
 exact ⟨(h.2.2.2.2.2.1 y hy).1,(h.2.2.2.2.2.1 y hy).2.1⟩
theorem add (M:MpT mt kt el kav .nilp)(h:LR O kav kc vn l mi cap L)(hl:l<N)(hm:mi<N)(hx:∀ x∈L,x.1<N)(hk:∀ x∈L,x.2.1≠k)(hlen:L.length<cap){O1:T AObj}{n:Nat}{f:Nat→AV}(r1:Row O1 N n f)(f1:Frm O O1 N)(e0:f 0=.nilp)(e1:f 1=.nilp)(hn:2<n)(ed:∀ u v,(kc k++vs)[u]?=some v→2+u<n∧f (2+u)=v)(hvs:vs.length=vn)(G:T (T AV)) :
 ∃ (a:Ev.Node) (O2 O3 O4 O5 O6 O7:T AObj),Cell O1 l 2 (.mp mi) ∧
  yE P ⟨O1,N+1,G⟩ mt (.mp mi) (kav k) (.ptr N 0 0)=some ⟨O2,N+1,G⟩∧Cell O2 l 1 (.int .i64 ((L.length:Nat):Int))∧zb ⟨O2,N+1,G⟩ l 0 1 [.int .i64 ((L.length+1:Nat):Int)]=some ⟨O3,N+1,G⟩∧Cell O3 l 4 (pt a) ∧
  zb ⟨O3,N+1,G⟩ N 0 0 [pt (l,3)]=some ⟨O4,N+1,G⟩∧zb ⟨O4,N+1,G⟩ N 0 1 [pt a]=some ⟨O5,N+1,G⟩∧Cell O5 N 1 (pt a) ∧
  zb ⟨O5,N+1,G⟩ a.1 0 a.2 [pt (nd N)]=some ⟨O6,N+1,G⟩∧zb ⟨O6,N+1,G⟩ l 0 4 [pt (nd N)]=some ⟨O7,N+1,G⟩ ∧
  LR O7 kav kc vn l mi cap ((N,k,vs)::L)∧Dat O1 N (kc k++vs)∧∀ j,j≠N→j≠l→j≠mi→(∀ y∈L,y.1≠j)→O7.get j=O.get j:=by
 have hids:=h.ids
 obtain ⟨h0,h1,h2,h3,h4,h5,h6,h7,h8,h9⟩:=h
 have hxN:∀ i∈L.map (·.1),i<N:=fun i hi=>by obtain ⟨y,hy,rfl⟩:=List.mem_map.1 hi; exact hx y hy
 have hNx:N ∉ L.map (·.1):=fun hi=>by have:=hxN N hi; omega
 have c0:Cell O1 N 0 .nilp:=⟨n,f,r1,by omega,e0⟩
 have c1:Cell O1 N 1 .nilp:=⟨n,f,r1,by omega,e1⟩
 have hD:Dat O1 N (kc k++vs):=fun u v hu=>⟨n,f,r1,(ed u v hu).1,(ed u v hu).2⟩
 have g1:∀ j,j≠N→O1.get j=O.get j:=f1
 obtain ⟨O2,s2,m2,f2⟩:=(h8.same (g1 mi (by omega))).put M hk N vs (N+1) G
 have hlm:l≠mi:=Ne.symm h0
 have c2:∀ i j c,i≠N→i≠mi→Cell O i j c→Cell O2 i j c:=fun i j c a b hc=>(hc.same (g1 i a)).same (f2 i b)
 have n2:∀ j c,Cell O1 N j c→Cell O2 N j c:=fun j c hc=>hc.same (f2 N (by omega))
 have hl2:=c2 l 1 _ (by omega) hlm h2
 obtain ⟨O3,s3,d3,b3⟩:=hl2.store (v:=.int .i64 ((L.length+1:Nat):Int)) rfl (N+1) G
 have hR2:Ring O2 l (L.map (·.1)):=zbu h4 fun i hi=>by
  rcases hi with rfl | hi
  · exact (f2 _ hlm).trans (g1 _ (by omega))
  · exact (f2 _ (hids i hi).2).trans (g1 _ (by have:=hxN i hi; omega))
 have hR3:Ring O3 l (L.map (·.1)):=zgR (c:=.nilp) (c':=.nilp) hR2 (fun i hi=>(hids i hi).1) b3
 have hNl:N≠l:=by omega
 have q0:Cell O3 N 0 .nilp:=b3.1 _ _ _ (.inl hNl) (n2 _ _ c0)
 have q1:Cell O3 N 1 .nilp:=b3.1 _ _ _ (.inl hNl) (n2 _ _ c1)
 obtain ⟨a,O4,O5,O6,O7,ha,c3,s4,s5,c4,s6,s7,hR7,b4,b5,b6,b7⟩:=hR3.enter (fun i hi=>(hids i hi).1) hNx hNl q0 q1 h6 (N+1) G
 have ga:=zhm ha fun i hi=>(hids i hi).1
 have gp:gd l (nd N):=.inr ⟨N,hNl,rfl⟩
 have stay:∀ i j c,dat l i j→Cell O3 i j c→Cell O7 i j c:=fun i j c hd hc =>
  zcZ (x:=(l,3)) b7 (.inl rfl) hd (zcP b6 ga hd (zcZ (x:=nd N) b5 gp hd (zcP (x:=nd N) b4 gp hd hc)))
 have stay0:∀ i j c,dat l i j→i≠N→i≠mi→(i≠l∨j≠1)→Cell O i j c→Cell O7 i j c:=fun i j c hd e1 e2 e3 hc=>stay i j c hd (b3.1 _ _ _ e3 (c2 _ _ _ e1 e2 hc))
 have get:∀ j,j≠N→j≠l→(∀ y∈L,y.1≠j)→O7.get j=O2.get j:=fun j hj hjl hy=>by
  have hja:j≠a.1:=zec ha hjl fun i hi=>by obtain ⟨y,hm,rfl⟩:=List.mem_map.1 hi; exact hy y hm
  exact (b7.2 j hjl).trans ((b6.2 j hja).trans ((b5.2 j hj).trans ((b4.2 j hj).trans (b3.2 j hjl))))
 refine ⟨a,O2,O3,O4,O5,O6,O7,h3.same (g1 l (by omega)),s2,hl2,s3,c3,s4,s5,c4,s6,s7,⟨h0,stay0 _ _ _ (.inl ⟨rfl,by omega⟩) (by omega) hlm (.inr (by omega)) h1,stay _ _ _ (.inl ⟨rfl,by omega⟩) d3,stay0 _ _ _ (.inl ⟨rfl,by omega⟩) (by omega) hlm (.inr (by omega)) h3,hR7,fun y hy=>?_,?_,?_,?_,by show L.length+1≤cap; omega⟩,hD,fun j e1 e2 e3 e4=>(get j e1 e2 e4).trans ((f2 j e3).trans (g1 j e1))⟩
 · rcases List.mem_cons.1 hy with rfl | hy
   · exact ⟨hNl,by show N≠mi; omega,fun u v hu=>stay _ _ _ (.inr ⟨hNl,by omega⟩) (b3.1 _ _ _ (.inl hNl) (n2 _ _ (hD u v hu))),hvs⟩
   · obtain ⟨p1,p2,p3,p4⟩:=h5 y hy
     have:=hx y hy
     exact ⟨p1,p2,fun u v hu=>stay0 _ _ _ (.inr ⟨p1,by omega⟩) (by omega) p2 (.inl p1) (p3 u v hu),p4⟩
 · rw [List.map_cons,List.nodup_cons]
   exact ⟨hNx,h6⟩
 · rw [List.map_cons,List.nodup_cons]
   refine ⟨fun hm=>?_,h7⟩
   obtain ⟨y,hy,e⟩:=List.mem_map.1 hm
   exact hk y hy e
 · exact m2.same (get mi (by omega) h0 fun y hy=>(h5 y hy).2.1)
theorem drop (M:MpT mt kt el kav .nilp){y:Ent κ}(h:LR O kav kc vn l mi cap (u++[y]))(t:Option TypeId)(N:Nat)(G:T (T AV)) :
 ∃ (e n:Ev.Node) (O1 O2 O3 O4:T AObj),Cell O l 3 (pt (nd y.1))∧zd P ⟨O,N,G⟩ .delete (some mt) t [.mp mi,kav y.2.1]=some (.val (.tup []) ⟨O1,N,G⟩) ∧
  Cell O1 l 1 (.int .i64 (((u++[y]).length:Nat):Int))∧zb ⟨O1,N,G⟩ l 0 1 [.int .i64 ((u.length:Nat):Int)]=some ⟨O2,N,G⟩∧Cell O2 y.1 1 (pt e)∧Cell O2 y.1 0 (pt n) ∧
  zb ⟨O2,N,G⟩ e.1 0 e.2 [pt n]=some ⟨O3,N,G⟩∧zb ⟨O3,N,G⟩ n.1 0 (n.2+1) [pt e]=some ⟨O4,N,G⟩∧LR O4 kav kc vn l mi cap u∧∀ j,j≠l→j≠mi→(∀ x∈u++[y],x.1≠j)→O4.get j=O.get j:=by
 have hids:=h.ids
 obtain ⟨h0,h1,h2,h3,h4,h5,h6,h7,h8,h9⟩:=h
 have h8':MapOk O mi kav (u++y::[]):=h8
 have hlm:l≠mi:=Ne.symm h0
 rw [List.map_append,List.map_cons,List.map_nil] at h4 h6 h7 hids
 obtain ⟨nd1,nd2⟩:=yG h6
 obtain ⟨nk1,nk2⟩:=yG h7
 rw [List.append_nil] at nd1 nd2 nk1 nk2
 obtain ⟨O1,s1,m1,f1⟩:=h8'.del M u [] (fun z hz e=>nk2 (by rw [List.append_nil] at hz; rw [← e]; exact List.mem_map_of_mem hz)) rfl t N G
 rw [List.append_nil] at m1
 obtain ⟨y1,y2,y3,y4⟩:=h5 y (by simp)
 have c1:∀ i j c,i≠mi→Cell O i j c→Cell O1 i j c:=fun i j c a hc=>hc.same (f1 i a)
 have hl1:=c1 l 1 _ hlm h2
 obtain ⟨O2,s2,d2,b2⟩:=hl1.store (v:=.int .i64 ((u.length:Nat):Int)) rfl N G
 have hR1:Ring O1 l (u.map (·.1)++[y.1]):=zbu h4 fun i hi=>by
  rcases hi with rfl | hi
  · exact f1 _ hlm
  · exact f1 _ (hids i hi).2
 have hR2:Ring O2 l (u.map (·.1)++y.1::[]):=zgR (c:=.nilp) (c':=.nilp) hR1 (fun i hi=>(hids i hi).1) b2
 obtain ⟨e,n,O3,O4,he,hn,k1,k2,s3,s4,hR4,b3,b4⟩:=hR2.leave h6 (fun i hi=>(hids i hi).1) N G
 rw [List.append_nil] at hR4
 have hul:∀ i∈u.map (·.1),i≠l:=fun i hi=>(hids i (List.mem_append_left _ hi)).1
 have ge:gd l e:=zhm he fun i hi=>absurd hi List.not_mem_nil
 have gn:=zhm hn hul
 have stay:∀ i j c,dat l i j→Cell O2 i j c→Cell O4 i j c:=fun i j c hd hc=>zcZ b4 gn hd (zcP b3 ge hd hc)
 have stay0:∀ i j c,dat l i j→i≠mi→(i≠l∨j≠1)→Cell O i j c→Cell O4 i j c:=fun i j c hd e2 e3 hc=>stay i j c hd (b2.1 _ _ _ e3 (c1 _ _ _ e2 hc))
 have get:∀ j,j≠l→(∀ x∈u++[y],x.1≠j)→O4.get j=O1.get j:=fun j hjl hx=>by
  have hjn:j≠n.1:=zec hn hjl fun i hi=>by obtain ⟨z,hm,rfl⟩:=List.mem_map.1 hi; exact hx z (by simp [hm])
  have hje:j≠e.1:=zec he hjl fun i hi=>absurd hi List.not_mem_nil
  exact (b4.2 j hjn).trans ((b3.2 j hje).trans (b2.2 j hjl))
 refine ⟨e,n,O1,O2,O3,O4,ziw h4,s1,hl1,s2,k1,k2,s3,s4,⟨h0,stay0 _ _ _ (.inl ⟨rfl,by omega⟩) hlm (.inr (by omega)) h1,stay _ _ _ (.inl ⟨rfl,by omega⟩) d2,stay0 _ _ _ (.inl ⟨rfl,by omega⟩) hlm (.inr (by omega)) h3,hR4,fun x hx=>?_,nd1,nk1,m1.same (get mi h0 fun x hx=>(h5 x hx).2.1),?_⟩,fun j e1 e2 e3=>(get j e1 e3).trans (f1 j e2)⟩
 · obtain ⟨p1,p2,p3,p4⟩:=h5 x (List.mem_append_left _ hx)
   exact ⟨p1,p2,fun u v hu=>stay0 _ _ _ (.inr ⟨p1,by omega⟩) p2 (.inl p1) (p3 u v hu),p4⟩
 · rw [List.length_append] at h9
   omega
theorem LR.same (h:LR O kav kc vn l mi cap L)(e:∀ j,j=l∨j=mi∨(∃ x∈L,x.1=j)→O'.get j=O.get j):LR O' kav kc vn l mi cap L:=by
 obtain ⟨h0,h1,h2,h3,h4,h5,h6,h7,h8,h9⟩:=h
 have el:=e l (.inl rfl)
 refine ⟨h0,h1.same el,h2.same el,h3.same el,zbu h4 fun i hi=>?_,fun x hx=>?_,h6,h7,h8.same (e mi (.inr (.inl rfl))),h9⟩
 · rcases hi with rfl | hi
   · exact el
   · obtain ⟨x,hx,rfl⟩:=List.mem_map.1 hi
     exact e _ (.inr (.inr ⟨x,hx,rfl⟩))
 · obtain ⟨a,b,c,d⟩:=h5 x hx
   exact ⟨a,b,fun u v hu=>(c u v hu).same (e x.1 (.inr (.inr ⟨x,hx,rfl⟩))),d⟩
theorem LR.low (h:LR O kav kc vn l mi cap L)(hl:l<N)(hm:mi<N)(hx:∀ x∈L,x.1<N)(f:∀ j,j<N→O'.get j=O.get j):LR O' kav kc vn l mi cap L:=h.same fun j hj=>by
 rcases hj with rfl | rfl | ⟨x,hx',rfl⟩
 · exact f _ hl
 · exact f _ hm
 · exact f _ (hx x hx')
def zll (cap:Nat) (k:κ) (v:List AV) (ps:List (κ × List AV)):List (κ × List AV):=if cap=0 then ps else (k,v)::(ps.filter fun q=>!(q.1==k)).take (cap - 1)
theorem kQ {β:Type}{l:List (κ × β)}(h:∀ x∈l,x.1≠k):l.filter (fun q=>!(q.1==k))=l:=List.filter_eq_self.2 fun x hx=>by
 have:=beq_eq_false_iff_ne.2 (h x hx)
 simp only [this,Bool.not_false]
theorem zkQ {β:Type}{us ws:List (κ × β)}{q:κ × β}(hq:q.1=k)(hu:∀ x∈us++ws,x.1≠k):(us++q::ws).filter (fun q=>!(q.1==k))=us++ws:=by
 rw [List.filter_append,List.filter_cons,kQ fun x hx=>hu x (List.mem_append_left _ hx),kQ fun x hx=>hu x (List.mem_append_right _ hx)]
 have:(q.1==k)=true:=by rw [hq,beq_self_eq_true]
 simp [this]
theorem zhc {x:Ent κ}{L:List (Ent κ)}(h:x∈L):∃ u w,L=u++x::w:=List.append_of_mem h
end
end Go.Proofs.Ytehelionjafnkaa.gx
end
section
set_option maxRecDepth 100000
set_option linter.unusedVariables false
namespace Go.Proofs.Ytehelionjafnkaa.gx
open Go Ev
noncomputable def WR (n:Int) (r0 rr:Nat) (i:Int) (rest:List AFrame) (O:T AObj) (N:Nat) (G:T (T AV)):AM:=⟨⟨7,59,(.node (.node (.node .leaf (some (.ptr rr 0 0)) .leaf) none .leaf) (some (.int .u8 n)) (.node (.node .leaf (some (.int .i64 i)) .leaf) (some (.ptr r0 0 0)) .leaf)),   [.code (cd P 7 [1,1,0,1,0,0]),.inLoop (cd P 7 [1,1,0,1,0,0]),.inBlock 0,.code (cd P 7 [1,1,1])],[],.run,CallKind.normal,none⟩,
 rest,
 ⟨O,N,G⟩⟩
noncomputable def Fcon (N:Nat) (pa:List UInt8) (br:Bool) (co:Int):AFrame:=⟨17,20,(.node (.node (.node .leaf (some (.ptr N 0 0)) .leaf) (some (.ptr N 0 0)) .leaf) (some (.agg [.nils 0 0,.str pa,.bool br,.nils 0 0,.nils 0 0,.int .u64 co])) (.node (.node .leaf (some (.nils 0 0)) .leaf) (some (.ptr (N+1) 0 0)) .leaf)),   [.ops (rg P 17 [1,0]).toList ((rg P 17 [1,0]).toList.drop 2),.code (cd P 17 [1,1])],[],.run,CallKind.normal,none⟩
noncomputable def ziv (dI:Nat) (dN:Nat) (pa:List UInt8) (br:Bool) (co:Int) (Nc:Nat):AFrame:=⟨17,20,(.node (.node (.node (.node .leaf (some (.ptr Nc 0 1)) .leaf) (some (.ptr Nc 0 0)) (.node .leaf (some (.ptr Nc 0 1)) .leaf)) (some (.ptr Nc 0 0)) (.node (.node .leaf (some (.nils 0 0)) .leaf) (some (.slc dI 0 0 dN dN)) (.node .leaf (some (.nils 0 0)) .leaf))) (some (.agg [.nils 0 0,.str pa,.bool br,.nils 0 0,.nils 0 0,.int .u64 co])) (.node (.node (.node .leaf (some (.ptr Nc 0 3)) .leaf) (some (.nils 0 0)) (.node .leaf (some (.ptr Nc 0 4)) .leaf)) (some (.ptr (Nc+1) 0 0)) (.node .leaf (some (.ptr Nc 0 0)) .leaf))),   [.drw (rg P 17 [1,1,0]) [3,8,9,7,10,11,12,13] [6,5,4,2,1,0],.code (cd P 17 [1,1,1])],[],.run,CallKind.normal,none⟩
noncomputable def zcO (dI:Nat) (dN:Nat) (vI:Nat) (vN:Nat) (pa:List UInt8) (br:Bool) (co:Int) (Nc:Nat):AFrame:=⟨17,20,(.node (.node (.node (.node (.node .leaf (some (.ptr Nc 0 1)) .leaf) (some (.ptr Nc 0 1)) .leaf) (some (.ptr Nc 0 0)) (.node .leaf (some (.ptr Nc 0 1)) .leaf)) (some (.ptr Nc 0 0)) (.node (.node .leaf (some (.nils 0 0)) .leaf) (some (.slc dI 0 0 dN dN)) (.node .leaf (some (.nils 0 0)) .leaf))) (some (.agg [.nils 0 0,.str pa,.bool br,.nils 0 0,.nils 0 0,.int .u64 co])) (.node (.node (.node (.node .leaf (some (.ptr Nc 0 3)) .leaf) (some (.ptr Nc 0 3)) .leaf) (some (.nils 0 0)) (.node .leaf (some (.ptr Nc 0 4)) .leaf)) (some (.ptr (Nc+1) 0 0)) (.node (.node .leaf (some (.slc vI 0 0 vN vN)) .leaf) (some (.ptr Nc 0 0)) .leaf))),   [.drw (rg P (17:FuncId) [1,1,0]) [7,10,11,12,13] [9,8,3,6,5,4,2,1,0],.code (cd P (17:FuncId) [1,1,1])],[],.run,CallKind.normal,none⟩
noncomputable def Fcog (N:Nat) (pa:List UInt8) (br:Bool) (co:Int) (dq:Nat) (dz:Nat) (ds:Nat) (vq:Nat) (vz:Nat) (vs:Nat) (tq:Nat) (tz:Nat) (ts:Nat) (dJ:Nat) (vJ:Nat) (tJ:Nat) (nD:Nat) (nV:Nat) (nT:Nat):AFrame:=⟨17,20,(.node (.node (.node .leaf (some (.ptr N 0 0)) .leaf) (some (.ptr N 0 0)) .leaf) (some (.agg [.slg dJ dq dz nD ds,.str pa,.bool br,.slg vJ vq vz nV vs,.slg tJ tq tz nT ts,.int .u64 co])) (.node (.node .leaf (some (.slg dJ dq dz nD ds)) .leaf) (some (.ptr (N+1) 0 0)) .leaf)),   [.ops (rg P 17 [1,0]).toList ((rg P 17 [1,0]).toList.drop 2),.code (cd P 17 [1,1])],[],.run,CallKind.normal,none⟩
noncomputable def zjv (dI:Nat) (dN:Nat) (pa:List UInt8) (br:Bool) (co:Int) (dq:Nat) (dz:Nat) (ds:Nat) (vq:Nat) (vz:Nat) (vs:Nat) (tq:Nat) (tz:Nat) (ts:Nat) (dJ:Nat) (vJ:Nat) (tJ:Nat) (nD:Nat) (nV:Nat) (nT:Nat) (Nc:Nat):AFrame:=⟨17,20,(.node (.node (.node (.node .leaf (some (.ptr Nc 0 1)) .leaf) (some (.ptr Nc 0 0)) (.node .leaf (some (.ptr Nc 0 1)) .leaf)) (some (.ptr Nc 0 0)) (.node (.node .leaf (some (.slg vJ vq vz nV vs)) .leaf) (some (.slc dI 0 0 dN dN)) (.node .leaf (some (.slg tJ tq tz nT ts)) .leaf))) (some (.agg [.slg dJ dq dz nD ds,.str pa,.bool br,.slg vJ vq vz nV vs,.slg tJ tq tz nT ts,.int .u64 co])) (.node (.node (.node .leaf (some (.ptr Nc 0 3)) .leaf) (some (.slg dJ dq dz nD ds)) (.node .leaf (some (.ptr Nc 0 4)) .leaf)) (some (.ptr (Nc+1) 0 0)) (.node .leaf (some (.ptr Nc 0 0)) .leaf))),   [.drw (rg P 17 [1,1,0]) [3,8,9,7,10,11,12,13] [6,5,4,2,1,0],.code (cd P 17 [1,1,1])],[],.run,CallKind.normal,none⟩
noncomputable def zcw (dI:Nat) (dN:Nat) (vI:Nat) (vN:Nat) (pa:List UInt8) (br:Bool) (co:Int) (dq:Nat) (dz:Nat) (ds:Nat) (vq:Nat) (vz:Nat) (vs:Nat) (tq:Nat) (tz:Nat) (ts:Nat) (dJ:Nat) (vJ:Nat) (tJ:Nat) (nD:Nat) (nV:Nat) (nT:Nat) (Nc:Nat):AFrame:=⟨17,20,(.node (.node (.node (.node (.node .leaf (some (.ptr Nc 0 1)) .leaf) (some (.ptr Nc 0 1)) .leaf) (some (.ptr Nc 0 0)) (.node .leaf (some (.ptr Nc 0 1)) .leaf)) (some (.ptr Nc 0 0)) (.node (.node .leaf (some (.slg vJ vq vz nV vs)) .leaf) (some (.slc dI 0 0 dN dN)) (.node .leaf (some (.slg tJ tq tz nT ts)) .leaf))) (some (.agg [.slg dJ dq dz nD ds,.str pa,.bool br,.slg vJ vq vz nV vs,.slg tJ tq tz nT ts,.int .u64 co])) (.node (.node (.node (.node .leaf (some (.ptr Nc 0 3)) .leaf) (some (.ptr Nc 0 3)) .leaf) (some (.slg dJ dq dz nD ds)) (.node .leaf (some (.ptr Nc 0 4)) .leaf)) (some (.ptr (Nc+1) 0 0)) (.node (.node .leaf (some (.slc vI 0 0 vN vN)) .leaf) (some (.ptr Nc 0 0)) .leaf))),   [.drw (rg P (17:FuncId) [1,1,0]) [7,10,11,12,13] [9,8,3,6,5,4,2,1,0],.code (cd P (17:FuncId) [1,1,1])],[],.run,CallKind.normal,none⟩
noncomputable def Fcoc (N:Nat) (pa:List UInt8) (br:Bool) (co:Int) (dq:Nat) (dz:Nat) (ds:Nat) (vq:Nat) (vz:Nat) (vs:Nat) (tq:Nat) (tz:Nat) (ts:Nat) (dJ:Nat) (vJ:Nat) (tJ:Nat) (nD:Nat) (nV:Nat) (nT:Nat):AFrame:=⟨17,20,(.node (.node (.node .leaf (some (.ptr N 0 0)) .leaf) (some (.ptr N 0 0)) .leaf) (some (.agg [.slc dJ dq dz nD ds,.str pa,.bool br,.slc vJ vq vz nV vs,.slc tJ tq tz nT ts,.int .u64 co])) (.node (.node .leaf (some (.slc dJ dq dz nD ds)) .leaf) (some (.ptr (N+1) 0 0)) .leaf)),   [.ops (rg P 17 [1,0]).toList ((rg P 17 [1,0]).toList.drop 2),.code (cd P 17 [1,1])],[],.run,CallKind.normal,none⟩
noncomputable def zit (dI:Nat) (dN:Nat) (pa:List UInt8) (br:Bool) (co:Int) (dq:Nat) (dz:Nat) (ds:Nat) (vq:Nat) (vz:Nat) (vs:Nat) (tq:Nat) (tz:Nat) (ts:Nat) (dJ:Nat) (vJ:Nat) (tJ:Nat) (nD:Nat) (nV:Nat) (nT:Nat) (Nc:Nat):AFrame:=⟨17,20,(.node (.node (.node (.node .leaf (some (.ptr Nc 0 1)) .leaf) (some (.ptr Nc 0 0)) (.node .leaf (some (.ptr Nc 0 1)) .leaf)) (some (.ptr Nc 0 0)) (.node (.node .leaf (some (.slc vJ vq vz nV vs)) .leaf) (some (.slc dI 0 0 dN dN)) (.node .leaf (some (.slc tJ tq tz nT ts)) .leaf))) (some (.agg [.slc dJ dq dz nD ds,.str pa,.bool br,.slc vJ vq vz nV vs,.slc tJ tq tz nT ts,.int .u64 co])) (.node (.node (.node .leaf (some (.ptr Nc 0 3)) .leaf) (some (.slc dJ dq dz nD ds)) (.node .leaf (some (.ptr Nc 0 4)) .leaf)) (some (.ptr (Nc+1) 0 0)) (.node .leaf (some (.ptr Nc 0 0)) .leaf))),   [.drw (rg P 17 [1,1,0]) [3,8,9,7,10,11,12,13] [6,5,4,2,1,0],.code (cd P 17 [1,1,1])],[],.run,CallKind.normal,none⟩
noncomputable def zcS (dI:Nat) (dN:Nat) (vI:Nat) (vN:Nat) (pa:List UInt8) (br:Bool) (co:Int) (dq:Nat) (dz:Nat) (ds:Nat) (vq:Nat) (vz:Nat) (vs:Nat) (tq:Nat) (tz:Nat) (ts:Nat) (dJ:Nat) (vJ:Nat) (tJ:Nat) (nD:Nat) (nV:Nat) (nT:Nat) (Nc:Nat):AFrame:=⟨17,20,(.node (.node (.node (.node (.node .leaf (some (.ptr Nc 0 1)) .leaf) (some (.ptr Nc 0 1)) .leaf) (some (.ptr Nc 0 0)) (.node .leaf (some (.ptr Nc 0 1)) .leaf)) (some (.ptr Nc 0 0)) (.node (.node .leaf (some (.slc vJ vq vz nV vs)) .leaf) (some (.slc dI 0 0 dN dN)) (.node .leaf (some (.slc tJ tq tz nT ts)) .leaf))) (some (.agg [.slc dJ dq dz nD ds,.str pa,.bool br,.slc vJ vq vz nV vs,.slc tJ tq tz nT ts,.int .u64 co])) (.node (.node (.node (.node .leaf (some (.ptr Nc 0 3)) .leaf) (some (.ptr Nc 0 3)) .leaf) (some (.slc dJ dq dz nD ds)) (.node .leaf (some (.ptr Nc 0 4)) .leaf)) (some (.ptr (Nc+1) 0 0)) (.node (.node .leaf (some (.slc vI 0 0 vN vN)) .leaf) (some (.ptr Nc 0 0)) .leaf))),   [.drw (rg P (17:FuncId) [1,1,0]) [7,10,11,12,13] [9,8,3,6,5,4,2,1,0],.code (cd P (17:FuncId) [1,1,1])],[],.run,CallKind.normal,none⟩
theorem znd (R:AV→AHeap→Prop)(keep:Nat)(f0:FuncId)(rest:List AFrame)(N:Nat)(O:T AObj)(O1:T AObj)(O2:T AObj)(s1:AV)(z1:Int)(G:T (T AV))(K:AM→Prop):Obl P f0 (fun v h=>R v h) keep K [.run 8,.hopn (s1) O1 (N+1),.run 6,.hop (.int .i64 z1) O2,.run 7,.keep [2]] ((AM.mk (enF 24 [.nils 0 0]) rest ⟨O,N,G⟩))=((zj P (⟨O,N,G⟩) 32 (.int .i64 0) (.int .i64 0)=(some (s1,⟨O1,N+1,G⟩)))∧(zd P (⟨O1,N+1,G⟩) (Builtin.copy) ((some 32)) ((some 32)) ([s1,.nils 0 0])=(some (.val (.int .i64 z1) ⟨O2,N+1,G⟩)))∧K (AM.mk (RF 24 11 (.node .leaf none (.node .leaf (some (s1)) .leaf)) [.code (cd P 24 [1,1,1,1])]) rest ⟨O2,N+1,G⟩)):=by kernel_rfl
theorem znn (R:AV→AHeap→Prop)(keep:Nat)(f0:FuncId)(rest:List AFrame)(N:Nat)(O:T AObj)(ri:Nat)(rz:Nat)(ro:Nat)(rl:Nat)(rc:Nat)(O1:T AObj)(O2:T AObj)(s1:AV)(z1:Int)(G:T (T AV))(K:AM→Prop):Obl P f0 (fun v h=>R v h) keep K [.run 8,.hopn (s1) O1 (N+1),.run 6,.hop (.int .i64 z1) O2,.run 7,.keep [2]] ((AM.mk (enF 24 [.slc ri rz ro rl rc]) rest ⟨O,N,G⟩))=((zj P (⟨O,N,G⟩) 32 (.int .i64 (↑rl:Int)) (.int .i64 (↑rl:Int))=(some (s1,⟨O1,N+1,G⟩)))∧(zd P (⟨O1,N+1,G⟩) (Builtin.copy) ((some 32)) ((some 32)) ([s1,.slc ri rz ro rl rc])=(some (.val (.int .i64 z1) ⟨O2,N+1,G⟩)))∧K (AM.mk (RF 24 11 (.node .leaf none (.node .leaf (some (s1)) .leaf)) [.code (cd P 24 [1,1,1,1])]) rest ⟨O2,N+1,G⟩)):=by kernel_rfl
theorem znc (R:AV→AHeap→Prop)(keep:Nat)(f0:FuncId)(rest:List AFrame)(N:Nat)(O:T AObj)(ri:Nat)(rz:Nat)(ro:Nat)(rl:Nat)(rs:Nat)(O1:T AObj)(O2:T AObj)(s1:AV)(z1:Int)(G:T (T AV))(K:AM→Prop):Obl P f0 (fun v h=>R v h) keep K [.run 8,.hopn (s1) O1 (N+1),.run 6,.hop (.int .i64 z1) O2,.run 7,.keep [2]] ((AM.mk (enF 24 [.slg ri rz ro rl rs]) rest ⟨O,N,G⟩))=((zj P (⟨O,N,G⟩) 32 (.int .i64 (↑rl:Int)) (.int .i64 (↑rl:Int))=(some (s1,⟨O1,N+1,G⟩)))∧(zd P (⟨O1,N+1,G⟩) (Builtin.copy) ((some 32)) ((some 32)) ([s1,.slg ri rz ro rl rs])=(some (.val (.int .i64 z1) ⟨O2,N+1,G⟩)))∧K (AM.mk (RF 24 11 (.node .leaf none (.node .leaf (some (s1)) .leaf)) [.code (cd P 24 [1,1,1,1])]) rest ⟨O2,N+1,G⟩)):=by kernel_rfl
theorem znH (R:AV→AHeap→Prop)(keep:Nat)(f0:FuncId)(rest:List AFrame)(N:Nat)(O:T AObj)(O1:T AObj)(O2:T AObj)(s1:AV)(z1:Int)(G:T (T AV))(K:AM→Prop):Obl P f0 (fun v h=>R v h) keep K [.run 8,.hopn (s1) O1 (N+1),.run 6,.hop (.int .i64 z1) O2,.run 7,.keep [2]] ((AM.mk (enF 25 [.nils 0 0]) rest ⟨O,N,G⟩))=((zj P (⟨O,N,G⟩) 33 (.int .i64 0) (.int .i64 0)=(some (s1,⟨O1,N+1,G⟩)))∧(zd P (⟨O1,N+1,G⟩) (Builtin.copy) ((some 33)) ((some 33)) ([s1,.nils 0 0])=(some (.val (.int .i64 z1) ⟨O2,N+1,G⟩)))∧K (AM.mk (RF 25 11 (.node .leaf none (.node .leaf (some (s1)) .leaf)) [.code (cd P 25 [1,1,1,1])]) rest ⟨O2,N+1,G⟩)):=by kernel_rfl
theorem znP (R:AV→AHeap→Prop)(keep:Nat)(f0:FuncId)(rest:List AFrame)(N:Nat)(O:T AObj)(ri:Nat)(rz:Nat)(ro:Nat)(rl:Nat)(rc:Nat)(O1:T AObj)(O2:T AObj)(s1:AV)(z1:Int)(G:T (T AV))(K:AM→Prop):Obl P f0 (fun v h=>R v h) keep K [.run 8,.hopn (s1) O1 (N+1),.run 6,.hop (.int .i64 z1) O2,.run 7,.keep [2]] ((AM.mk (enF 25 [.slc ri rz ro rl rc]) rest ⟨O,N,G⟩))=((zj P (⟨O,N,G⟩) 33 (.int .i64 (↑rl:Int)) (.int .i64 (↑rl:Int))=(some (s1,⟨O1,N+1,G⟩)))∧(zd P (⟨O1,N+1,G⟩) (Builtin.copy) ((some 33)) ((some 33)) ([s1,.slc ri rz ro rl rc])=(some (.val (.int .i64 z1) ⟨O2,N+1,G⟩)))∧K (AM.mk (RF 25 11 (.node .leaf none (.node .leaf (some (s1)) .leaf)) [.code (cd P 25 [1,1,1,1])]) rest ⟨O2,N+1,G⟩)):=by kernel_rfl
theorem zng (R:AV→AHeap→Prop)(keep:Nat)(f0:FuncId)(rest:List AFrame)(N:Nat)(O:T AObj)(ri:Nat)(rz:Nat)(ro:Nat)(rl:Nat)(rs:Nat)(O1:T AObj)(O2:T AObj)(s1:AV)(z1:Int)(G:T (T AV))(K:AM→Prop):Obl P f0 (fun v h=>R v h) keep K [.run 8,.hopn (s1) O1 (N+1),.run 6,.hop (.int .i64 z1) O2,.run 7,.keep [2]] ((AM.mk (enF 25 [.slg ri rz ro rl rs]) rest ⟨O,N,G⟩))=((zj P (⟨O,N,G⟩) 33 (.int .i64 (↑rl:Int)) (.int .i64 (↑rl:Int))=(some (s1,⟨O1,N+1,G⟩)))∧(zd P (⟨O1,N+1,G⟩) (Builtin.copy) ((some 33)) ((some 33)) ([s1,.slg ri rz ro rl rs])=(some (.val (.int .i64 z1) ⟨O2,N+1,G⟩)))∧K (AM.mk (RF 25 11 (.node .leaf none (.node .leaf (some (s1)) .leaf)) [.code (cd P 25 [1,1,1,1])]) rest ⟨O2,N+1,G⟩)):=by kernel_rfl
theorem q_con (R:AV→AHeap→Prop)(keep:Nat)(f0:FuncId)(rest:List AFrame)(N:Nat)(O:T AObj)(pa:List UInt8)(br:Bool)(co:Int)(O1:T AObj)(O2:T AObj)(G:T (T AV))(K:AM→Prop):Obl P f0 (fun v h=>R v h) keep K [.run 2,.hop (.nilp) O1,.hop (.nilp) O2,.run 4,.hop (.nils 0 0) O2,.run 1] ((AM.mk (enF 17 [.agg [.nils 0 0,.str pa,.bool br,.nils 0 0,.nils 0 0,.int .u64 co]]) rest ⟨O,N,G⟩))=((T.set ((some (.cells (.node (.node (.node .leaf (some (.nils 0 0)) .leaf) (some (.str pa)) (.node .leaf (some (.int .u64 co)) .leaf)) (some (.nils 0 0)) (.node (.node .leaf (some (.nils 0 0)) .leaf) (some (.bool br)) .leaf)) 6 38 0 0 1 0 false .leaf))) (O) (N)=O1)∧(T.set ((some (.cells (.node (.node (.node .leaf (some (.nils 0 0)) .leaf) (some (.str [])) (.node .leaf (some (.int .u64 0)) .leaf)) (some (.nils 0 0)) (.node (.node .leaf (some (.nils 0 0)) .leaf) (some (.bool false)) .leaf)) 6 38 0 0 1 0 false .leaf))) (O1) (N+1)=O2)∧(za (⟨O2,N+2,G⟩) (N) 0 0 1=(some [.nils 0 0]))∧K (AM.mk (enF 24 [.nils 0 0]) ((Fcon N pa br co)::rest) ⟨O2,N+2,G⟩)):=by kernel_rfl
theorem q_cog (R:AV→AHeap→Prop)(keep:Nat)(f0:FuncId)(rest:List AFrame)(N:Nat)(O:T AObj)(pa:List UInt8)(br:Bool)(co:Int)(dq:Nat)(dz:Nat)(ds:Nat)(vq:Nat)(vz:Nat)(vs:Nat)(tq:Nat)(tz:Nat)(ts:Nat)(dJ:Nat)(vJ:Nat)(tJ:Nat)(nD:Nat)(nV:Nat)(nT:Nat)(O1:T AObj)(O2:T AObj)(G:T (T AV))(K:AM→Prop):Obl P f0 (fun v h=>R v h) keep K [.run 2,.hop (.nilp) O1,.hop (.nilp) O2,.run 4,.hop (.slg dJ dq dz nD ds) O2,.run 1] ((AM.mk (enF 17 [.agg [.slg dJ dq dz nD ds,.str pa,.bool br,.slg vJ vq vz nV vs,.slg tJ tq tz nT ts,.int .u64 co]]) rest ⟨O,N,G⟩))=((T.set ((some (.cells (.node (.node (.node .leaf (some (.slg vJ vq vz nV vs)) .leaf) (some (.str pa)) (.node .leaf (some (.int .u64 co)) .leaf)) (some (.slg dJ dq dz nD ds)) (.node (.node .leaf (some (.slg tJ tq tz nT ts)) .leaf) (some (.bool br)) .leaf)) 6 38 0 0 1 0 false .leaf))) (O) (N)=O1)∧(T.set ((some (.cells (.node (.node (.node .leaf (some (.nils 0 0)) .leaf) (some (.str [])) (.node .leaf (some (.int .u64 0)) .leaf)) (some (.nils 0 0)) (.node (.node .leaf (some (.nils 0 0)) .leaf) (some (.bool false)) .leaf)) 6 38 0 0 1 0 false .leaf))) (O1) (N+1)=O2)∧(za (⟨O2,N+2,G⟩) (N) 0 0 1=(some [.slg dJ dq dz nD ds]))∧K (AM.mk (enF 24 [.slg dJ dq dz nD ds]) ((Fcog N pa br co dq dz ds vq vz vs tq tz ts dJ vJ tJ nD nV nT)::rest) ⟨O2,N+2,G⟩)):=by kernel_rfl
theorem q_coc (R:AV→AHeap→Prop)(keep:Nat)(f0:FuncId)(rest:List AFrame)(N:Nat)(O:T AObj)(pa:List UInt8)(br:Bool)(co:Int)(dq:Nat)(dz:Nat)(ds:Nat)(vq:Nat)(vz:Nat)(vs:Nat)(tq:Nat)(tz:Nat)(ts:Nat)(dJ:Nat)(vJ:Nat)(tJ:Nat)(nD:Nat)(nV:Nat)(nT:Nat)(O1:T AObj)(O2:T AObj)(G:T (T AV))(K:AM→Prop):Obl P f0 (fun v h=>R v h) keep K [.run 2,.hop (.nilp) O1,.hop (.nilp) O2,.run 4,.hop (.slc dJ dq dz nD ds) O2,.run 1] ((AM.mk (enF 17 [.agg [.slc dJ dq dz nD ds,.str pa,.bool br,.slc vJ vq vz nV vs,.slc tJ tq tz nT ts,.int .u64 co]]) rest ⟨O,N,G⟩))=((T.set ((some (.cells (.node (.node (.node .leaf (some (.slc vJ vq vz nV vs)) .leaf) (some (.str pa)) (.node .leaf (some (.int .u64 co)) .leaf)) (some (.slc dJ dq dz nD ds)) (.node (.node .leaf (some (.slc tJ tq tz nT ts)) .leaf) (some (.bool br)) .leaf)) 6 38 0 0 1 0 false .leaf))) (O) (N)=O1)∧(T.set ((some (.cells (.node (.node (.node .leaf (some (.nils 0 0)) .leaf) (some (.str [])) (.node .leaf (some (.int .u64 0)) .leaf)) (some (.nils 0 0)) (.node (.node .leaf (some (.nils 0 0)) .leaf) (some (.bool false)) .leaf)) 6 38 0 0 1 0 false .leaf))) (O1) (N+1)=O2)∧(za (⟨O2,N+2,G⟩) (N) 0 0 1=(some [.slc dJ dq dz nD ds]))∧K (AM.mk (enF 24 [.slc dJ dq dz nD ds]) ((Fcoc N pa br co dq dz ds vq vz vs tq tz ts dJ vJ tJ nD nV nT)::rest) ⟨O2,N+2,G⟩)):=by kernel_rfl
theorem zkW (R:AV→AHeap→Prop)(keep:Nat)(f0:FuncId)(rest:List AFrame)(td:List AItem)(N:Nat)(O:T AObj)(dI:Nat)(dN:Nat)(pa:List UInt8)(br:Bool)(co:Int)(Nc:Nat)(O1:T AObj)(G:T (T AV))(K:AM→Prop):Obl P f0 (fun v h=>R v h) keep K [.run 2,.hop (.nilp) O1,.run 5,.hop (.nils 0 0) O1,.run 2,.hop (.nils 0 0) O1,.run 1] ((AM.mk (RF 24 11 (.node .leaf none (.node .leaf (some (.slc dI 0 0 dN dN)) .leaf)) td) ((Fcon Nc pa br co)::rest) ⟨O,N,G⟩))=((zb (⟨O,N,G⟩) (Nc) 0 0 ([.slc dI 0 0 dN dN])=(some ⟨O1,N,G⟩))∧(za (⟨O1,N,G⟩) (Nc) 0 3 1=(some [.nils 0 0]))∧(za (⟨O1,N,G⟩) (Nc) 0 4 1=(some [.nils 0 0]))∧K (AM.mk (enF 25 [.nils 0 0]) ((ziv dI dN pa br co Nc)::rest) ⟨O1,N,G⟩)):=by kernel_rfl
theorem zlb (R:AV→AHeap→Prop)(keep:Nat)(f0:FuncId)(rest:List AFrame)(td:List AItem)(N:Nat)(O:T AObj)(dI:Nat)(dN:Nat)(pa:List UInt8)(br:Bool)(co:Int)(dq:Nat)(dz:Nat)(ds:Nat)(vq:Nat)(vz:Nat)(vs:Nat)(tq:Nat)(tz:Nat)(ts:Nat)(dJ:Nat)(vJ:Nat)(tJ:Nat)(nD:Nat)(nV:Nat)(nT:Nat)(Nc:Nat)(O1:T AObj)(G:T (T AV))(K:AM→Prop):Obl P f0 (fun v h=>R v h) keep K [.run 2,.hop (.nilp) O1,.run 5,.hop (.slg vJ vq vz nV vs) O1,.run 2,.hop (.slg tJ tq tz nT ts) O1,.run 1] ((AM.mk (RF 24 11 (.node .leaf none (.node .leaf (some (.slc dI 0 0 dN dN)) .leaf)) td) ((Fcog Nc pa br co dq dz ds vq vz vs tq tz ts dJ vJ tJ nD nV nT)::rest) ⟨O,N,G⟩))=((zb (⟨O,N,G⟩) (Nc) 0 0 ([.slc dI 0 0 dN dN])=(some ⟨O1,N,G⟩))∧(za (⟨O1,N,G⟩) (Nc) 0 3 1=(some [.slg vJ vq vz nV vs]))∧(za (⟨O1,N,G⟩) (Nc) 0 4 1=(some [.slg tJ tq tz nT ts]))∧K (AM.mk (enF 25 [.slg vJ vq vz nV vs]) ((zjv dI dN pa br co dq dz ds vq vz vs tq tz ts dJ vJ tJ nD nV nT Nc)::rest) ⟨O1,N,G⟩)):=by kernel_rfl
theorem zk2 (R:AV→AHeap→Prop)(keep:Nat)(f0:FuncId)(rest:List AFrame)(td:List AItem)(N:Nat)(O:T AObj)(dI:Nat)(dN:Nat)(pa:List UInt8)(br:Bool)(co:Int)(dq:Nat)(dz:Nat)(ds:Nat)(vq:Nat)(vz:Nat)(vs:Nat)(tq:Nat)(tz:Nat)(ts:Nat)(dJ:Nat)(vJ:Nat)(tJ:Nat)(nD:Nat)(nV:Nat)(nT:Nat)(Nc:Nat)(O1:T AObj)(G:T (T AV))(K:AM→Prop):Obl P f0 (fun v h=>R v h) keep K [.run 2,.hop (.nilp) O1,.run 5,.hop (.slc vJ vq vz nV vs) O1,.run 2,.hop (.slc tJ tq tz nT ts) O1,.run 1] ((AM.mk (RF 24 11 (.node .leaf none (.node .leaf (some (.slc dI 0 0 dN dN)) .leaf)) td) ((Fcoc Nc pa br co dq dz ds vq vz vs tq tz ts dJ vJ tJ nD nV nT)::rest) ⟨O,N,G⟩))=((zb (⟨O,N,G⟩) (Nc) 0 0 ([.slc dI 0 0 dN dN])=(some ⟨O1,N,G⟩))∧(za (⟨O1,N,G⟩) (Nc) 0 3 1=(some [.slc vJ vq vz nV vs]))∧(za (⟨O1,N,G⟩) (Nc) 0 4 1=(some [.slc tJ tq tz nT ts]))∧K (AM.mk (enF 25 [.slc vJ vq vz nV vs]) ((zit dI dN pa br co dq dz ds vq vz vs tq tz ts dJ vJ tJ nD nV nT Nc)::rest) ⟨O1,N,G⟩)):=by kernel_rfl
theorem zfu (R:AV→AHeap→Prop)(keep:Nat)(f0:FuncId)(rest:List AFrame)(td:List AItem)(N:Nat)(O:T AObj)(dI:Nat)(dN:Nat)(vI:Nat)(vN:Nat)(pa:List UInt8)(br:Bool)(co:Int)(Nc:Nat)(G:T (T AV))(K:AM→Prop):Obl P f0 (fun v h=>R v h) keep K [.hret [.nilp],.run 3] ((AM.mk (RF 25 11 (.node .leaf none (.node .leaf (some (.slc vI 0 0 vN vN)) .leaf)) td) ((ziv dI dN pa br co Nc)::rest) ⟨O,N,G⟩))=((True)∧(za (⟨O,N,G⟩) (Nc) 0 4 1=(some [.nils 0 0]))∧K (AM.mk (enF 25 [.nils 0 0]) ((zcO dI dN vI vN pa br co Nc)::rest) ⟨O,N,G⟩)):=by kernel_rfl
theorem zf0 (R:AV→AHeap→Prop)(keep:Nat)(f0:FuncId)(rest:List AFrame)(td:List AItem)(N:Nat)(O:T AObj)(dI:Nat)(dN:Nat)(vI:Nat)(vN:Nat)(pa:List UInt8)(br:Bool)(co:Int)(dq:Nat)(dz:Nat)(ds:Nat)(vq:Nat)(vz:Nat)(vs:Nat)(tq:Nat)(tz:Nat)(ts:Nat)(dJ:Nat)(vJ:Nat)(tJ:Nat)(nD:Nat)(nV:Nat)(nT:Nat)(Nc:Nat)(G:T (T AV))(K:AM→Prop):Obl P f0 (fun v h=>R v h) keep K [.hret [.nilp],.run 3] ((AM.mk (RF 25 11 (.node .leaf none (.node .leaf (some (.slc vI 0 0 vN vN)) .leaf)) td) ((zjv dI dN pa br co dq dz ds vq vz vs tq tz ts dJ vJ tJ nD nV nT Nc)::rest) ⟨O,N,G⟩))=((True)∧(za (⟨O,N,G⟩) (Nc) 0 4 1=(some [.slg tJ tq tz nT ts]))∧K (AM.mk (enF 25 [.slg tJ tq tz nT ts]) ((zcw dI dN vI vN pa br co dq dz ds vq vz vs tq tz ts dJ vJ tJ nD nV nT Nc)::rest) ⟨O,N,G⟩)):=by kernel_rfl
theorem zfH (R:AV→AHeap→Prop)(keep:Nat)(f0:FuncId)(rest:List AFrame)(td:List AItem)(N:Nat)(O:T AObj)(dI:Nat)(dN:Nat)(vI:Nat)(vN:Nat)(pa:List UInt8)(br:Bool)(co:Int)(dq:Nat)(dz:Nat)(ds:Nat)(vq:Nat)(vz:Nat)(vs:Nat)(tq:Nat)(tz:Nat)(ts:Nat)(dJ:Nat)(vJ:Nat)(tJ:Nat)(nD:Nat)(nV:Nat)(nT:Nat)(Nc:Nat)(G:T (T AV))(K:AM→Prop):Obl P f0 (fun v h=>R v h) keep K [.hret [.nilp],.run 3] ((AM.mk (RF 25 11 (.node .leaf none (.node .leaf (some (.slc vI 0 0 vN vN)) .leaf)) td) ((zit dI dN pa br co dq dz ds vq vz vs tq tz ts dJ vJ tJ nD nV nT Nc)::rest) ⟨O,N,G⟩))=((True)∧(za (⟨O,N,G⟩) (Nc) 0 4 1=(some [.slc tJ tq tz nT ts]))∧K (AM.mk (enF 25 [.slc tJ tq tz nT ts]) ((zcS dI dN vI vN pa br co dq dz ds vq vz vs tq tz ts dJ vJ tJ nD nV nT Nc)::rest) ⟨O,N,G⟩)):=by kernel_rfl
theorem zcj (R:AV→AHeap→Prop)(keep:Nat)(f0:FuncId)(rest:List AFrame)(td:List AItem)(N:Nat)(O:T AObj)(dI:Nat)(dN:Nat)(vI:Nat)(vN:Nat)(tI:Nat)(tN:Nat)(pa:List UInt8)(br:Bool)(co:Int)(Nc:Nat)(O1:T AObj)(O2:T AObj)(O3:T AObj)(G:T (T AV))(K:AM→Prop):Obl P f0 (fun v h=>R v h) keep K [.run 1,.hop (.nilp) O1,.run 2,.hop (.nilp) O2,.run 3,.hop (.agg [.slc dI 0 0 dN dN,.str pa,.bool br,.slc vI 0 0 vN vN,.slc tI 0 0 tN tN,.int .u64 co]) O2,.hop (.nilp) O3,.run 2,.keep [2]] ((AM.mk (RF 25 11 (.node .leaf none (.node .leaf (some (.slc tI 0 0 tN tN)) .leaf)) td) ((zcO dI dN vI vN pa br co Nc)::rest) ⟨O,N,G⟩))=((zb (⟨O,N,G⟩) (Nc) 0 3 ([.slc vI 0 0 vN vN])=(some ⟨O1,N,G⟩))∧(zb (⟨O1,N,G⟩) (Nc) 0 4 ([.slc tI 0 0 tN tN])=(some ⟨O2,N,G⟩))∧(za (⟨O2,N,G⟩) (Nc) 0 0 6=(some [.slc dI 0 0 dN dN,.str pa,.bool br,.slc vI 0 0 vN vN,.slc tI 0 0 tN tN,.int .u64 co]))∧(zb (⟨O2,N,G⟩) (Nc+1) 0 0 ([.slc dI 0 0 dN dN,.str pa,.bool br,.slc vI 0 0 vN vN,.slc tI 0 0 tN tN,.int .u64 co])=(some ⟨O3,N,G⟩))∧K (AM.mk (RF 17 20 (.node .leaf none (.node .leaf (some (.ptr (Nc+1) 0 0)) .leaf)) [.code (cd P 25 [1,1,1,1])]) rest ⟨O3,N,G⟩)):=by kernel_rfl
theorem zck (R:AV→AHeap→Prop)(keep:Nat)(f0:FuncId)(rest:List AFrame)(td:List AItem)(N:Nat)(O:T AObj)(dI:Nat)(dN:Nat)(vI:Nat)(vN:Nat)(tI:Nat)(tN:Nat)(pa:List UInt8)(br:Bool)(co:Int)(dq:Nat)(dz:Nat)(ds:Nat)(vq:Nat)(vz:Nat)(vs:Nat)(tq:Nat)(tz:Nat)(ts:Nat)(dJ:Nat)(vJ:Nat)(tJ:Nat)(nD:Nat)(nV:Nat)(nT:Nat)(Nc:Nat)(O1:T AObj)(O2:T AObj)(O3:T AObj)(G:T (T AV))(K:AM→Prop):Obl P f0 (fun v h=>R v h) keep K [.run 1,.hop (.nilp) O1,.run 2,.hop (.nilp) O2,.run 3,.hop (.agg [.slc dI 0 0 dN dN,.str pa,.bool br,.slc vI 0 0 vN vN,.slc tI 0 0 tN tN,.int .u64 co]) O2,.hop (.nilp) O3,.run 2,.keep [2]] ((AM.mk (RF 25 11 (.node .leaf none (.node .leaf (some (.slc tI 0 0 tN tN)) .leaf)) td) ((zcw dI dN vI vN pa br co dq dz ds vq vz vs tq tz ts dJ vJ tJ nD nV nT Nc)::rest) ⟨O,N,G⟩))=((zb (⟨O,N,G⟩) (Nc) 0 3 ([.slc vI 0 0 vN vN])=(some ⟨O1,N,G⟩))∧(zb (⟨O1,N,G⟩) (Nc) 0 4 ([.slc tI 0 0 tN tN])=(some ⟨O2,N,G⟩))∧(za (⟨O2,N,G⟩) (Nc) 0 0 6=(some [.slc dI 0 0 dN dN,.str pa,.bool br,.slc vI 0 0 vN vN,.slc tI 0 0 tN tN,.int .u64 co]))∧(zb (⟨O2,N,G⟩) (Nc+1) 0 0 ([.slc dI 0 0 dN dN,.str pa,.bool br,.slc vI 0 0 vN vN,.slc tI 0 0 tN tN,.int .u64 co])=(some ⟨O3,N,G⟩))∧K (AM.mk (RF 17 20 (.node .leaf none (.node .leaf (some (.ptr (Nc+1) 0 0)) .leaf)) [.code (cd P 25 [1,1,1,1])]) rest ⟨O3,N,G⟩)):=by kernel_rfl
theorem zb9 (R:AV→AHeap→Prop)(keep:Nat)(f0:FuncId)(rest:List AFrame)(td:List AItem)(N:Nat)(O:T AObj)(dI:Nat)(dN:Nat)(vI:Nat)(vN:Nat)(tI:Nat)(tN:Nat)(pa:List UInt8)(br:Bool)(co:Int)(dq:Nat)(dz:Nat)(ds:Nat)(vq:Nat)(vz:Nat)(vs:Nat)(tq:Nat)(tz:Nat)(ts:Nat)(dJ:Nat)(vJ:Nat)(tJ:Nat)(nD:Nat)(nV:Nat)(nT:Nat)(Nc:Nat)(O1:T AObj)(O2:T AObj)(O3:T AObj)(G:T (T AV))(K:AM→Prop):Obl P f0 (fun v h=>R v h) keep K [.run 1,.hop (.nilp) O1,.run 2,.hop (.nilp) O2,.run 3,.hop (.agg [.slc dI 0 0 dN dN,.str pa,.bool br,.slc vI 0 0 vN vN,.slc tI 0 0 tN tN,.int .u64 co]) O2,.hop (.nilp) O3,.run 2,.keep [2]] ((AM.mk (RF 25 11 (.node .leaf none (.node .leaf (some (.slc tI 0 0 tN tN)) .leaf)) td) ((zcS dI dN vI vN pa br co dq dz ds vq vz vs tq tz ts dJ vJ tJ nD nV nT Nc)::rest) ⟨O,N,G⟩))=((zb (⟨O,N,G⟩) (Nc) 0 3 ([.slc vI 0 0 vN vN])=(some ⟨O1,N,G⟩))∧(zb (⟨O1,N,G⟩) (Nc) 0 4 ([.slc tI 0 0 tN tN])=(some ⟨O2,N,G⟩))∧(za (⟨O2,N,G⟩) (Nc) 0 0 6=(some [.slc dI 0 0 dN dN,.str pa,.bool br,.slc vI 0 0 vN vN,.slc tI 0 0 tN tN,.int .u64 co]))∧(zb (⟨O2,N,G⟩) (Nc+1) 0 0 ([.slc dI 0 0 dN dN,.str pa,.bool br,.slc vI 0 0 vN vN,.slc tI 0 0 tN tN,.int .u64 co])=(some ⟨O3,N,G⟩))∧K (AM.mk (RF 17 20 (.node .leaf none (.node .leaf (some (.ptr (Nc+1) 0 0)) .leaf)) [.code (cd P 25 [1,1,1,1])]) rest ⟨O3,N,G⟩)):=by kernel_rfl
theorem q_re (R:AV→AHeap→Prop)(keep:Nat)(f0:FuncId)(rest:List AFrame)(N:Nat)(O:T AObj)(n:Int)(O1:T AObj)(O2:T AObj)(O3:T AObj)(G:T (T AV))(K:AM→Prop):Obl P f0 (fun v h=>R v h) keep K [.run 2,.hop (.nilp) O1,.run 10,.hop (.nilp) O2,.hop (.nilp) O3,.run 8,.keep [0,2,3,4]] ((AM.mk (enF 7 [.int .u8 n]) rest ⟨O,N,G⟩))=((T.set ((some (.cells (.node (.node (.node .leaf (some (.nils 0 0)) .leaf) (some (.str [])) (.node .leaf (some (.int .u64 0)) .leaf)) (some (.nils 0 0)) (.node (.node .leaf (some (.nils 0 0)) .leaf) (some (.bool false)) .leaf)) 6 38 0 0 1 0 false .leaf))) (O) (N)=O1)∧(T.set ((some (.cells (.node (.node (.node .leaf (some (.nils 0 0)) .leaf) (some (.str [])) (.node .leaf (some (.int .u64 0)) .leaf)) (some (.nils 0 0)) (.node (.node .leaf (some (.nils 0 0)) .leaf) (some (.bool false)) .leaf)) 6 38 0 0 1 0 false .leaf))) (O1) (N+1)=O2)∧(zb (⟨O2,N+2,G⟩) (N+1) 0 0 ([.nils 0 0,.str [UInt8.ofNat 109],.bool (n.tmod (5:Int)==(0:Int)),.nils 0 0,.nils 0 0,.int .u64 (IntKind.u64.wrap n)])=(some ⟨O3,N+2,G⟩))∧K (WR n N (N+1) 0 rest O3 (N+2) G)):=by kernel_rfl
theorem q_rly (R:AV→AHeap→Prop)(keep:Nat)(f0:FuncId)(rest:List AFrame)(N:Nat)(O:T AObj)(n:Int)(r0:Nat)(rr:Nat)(i:Int)(O1:T AObj)(O2:T AObj)(O3:T AObj)(O4:T AObj)(O5:T AObj)(O6:T AObj)(O7:T AObj)(O8:T AObj)(O9:T AObj)(O10:T AObj)(O11:T AObj)(O12:T AObj)(N1:Nat)(N2:Nat)(N3:Nat)(s1:AV)(s2:AV)(s3:AV)(l1:List UInt8)(G:T (T AV))(K:AM→Prop):Obl P f0 (fun v h=>R v h) keep K [.run 9,.know 16 true,.run 7,.hop (.nils 0 0) O,.run 5,.hopn (.slc N 0 0 1 1) O1 (N+1),.hopn (s1) O2 (N1),.run 1,.hopn (.nilp) O3 (N1),.run 5,.hop (.nils 0 0) O3,.run 3,.hopn (.slc N1 0 0 1 1) O4 (N1+1),.hopn (.str l1) O4 (N1+1),.run 5,.hop (.nilp) O5,.run 1,.hopn (.slc (N1+2) 0 0 1 1) O6 (N1+3),.hopn (s2) O7 (N2),.run 2,.hopn (.nilp) O8 (N2),.run 4,.hop (.nils 0 0) O8,.run 1,.hop (.nilp) O9,.run 1,.hopn (.slc (N2+1) 0 0 1 1) O10 (N2+2),.hopn (s3) O11 (N3),.run 2,.hopn (.nilp) O12 (N3),.run 8,.keep [0,2,3,4]] ((WR n r0 rr i rest O N G))=((decide (i<IntKind.i64.wrap (n.tmod (4:Int)))=true)∧(za (⟨O,N,G⟩) (rr) 0 0 1=(some [.nils 0 0]))∧(zg P (⟨O,N,G⟩) 32 1 ([(0,.agg [.str [UInt8.ofNat 109],.int .i64 (IntKind.i64.wrap n),.int .i64 (IntKind.i64.wrap ((1:Int)+i))])])=(some (.slc N 0 0 1 1,⟨O1,N+1,G⟩)))∧(zd P (⟨O1,N+1,G⟩) (Builtin.append) ((some 32)) ((some 32)) ([.nils 0 0,.slc N 0 0 1 1])=(some (.val s1 ⟨O2,N1,G⟩)))∧(s1.cells.length.beq 1=true∧zb (⟨O2,N1,G⟩:AHeap) rr 0 0 s1.cells=some (⟨O3,N1,G⟩:AHeap))∧(za (⟨O3,N1,G⟩) (rr) 0 3 1=(some [.nils 0 0]))∧(zg P (⟨O3,N1,G⟩) 58 1 ([(0,.int .u8 (IntKind.u8.wrap (IntKind.i64.wrap ((97:Int)+i))))])=(some (.slc N1 0 0 1 1,⟨O4,N1+1,G⟩)))∧(zas P (⟨O4,N1+1,G⟩) 58 9 (.slc N1 0 0 1 1)=(some (.str l1)))∧(T.set ((some (.cells (.node (.node (.node .leaf (some (.nils 0 0)) .leaf) (some (.str [])) .leaf) (some (.int .i64 (IntKind.i64.wrap ((1:Int)+IntKind.i64.wrap (n.tmod (5:Int)))))) (.node (.node .leaf (some .nilp) .leaf) (some (.nils 0 0)) .leaf)) 5 63 0 0 1 0 false .leaf))) (O4) (N1+1)=O5)∧(zg P (⟨O5,N1+2,G⟩) 33 1 ([(0,.agg [.str l1,.ptr (N1+1) 0 0])])=(some (.slc (N1+2) 0 0 1 1,⟨O6,N1+3,G⟩)))∧(zd P (⟨O6,N1+3,G⟩) (Builtin.append) ((some 33)) ((some 33)) ([.nils 0 0,.slc (N1+2) 0 0 1 1])=(some (.val s2 ⟨O7,N2,G⟩)))∧(s2.cells.length.beq 1=true∧zb (⟨O7,N2,G⟩:AHeap) rr 0 3 s2.cells=some (⟨O8,N2,G⟩:AHeap))∧(za (⟨O8,N2,G⟩) (rr) 0 4 1=(some [.nils 0 0]))∧(T.set ((some (.cells (.node (.node (.node .leaf (some (.nils 0 0)) .leaf) (some (.str [])) .leaf) (some (.int .i64 2)) (.node (.node .leaf (some .nilp) .leaf) (some (.nils 0 0)) .leaf)) 5 63 0 0 1 0 false .leaf))) (O8) (N2)=O9)∧(zg P (⟨O9,N2+1,G⟩) 33 1 ([(0,.agg [.str [UInt8.ofNat 84],.ptr N2 0 0])])=(some (.slc (N2+1) 0 0 1 1,⟨O10,N2+2,G⟩)))∧(zd P (⟨O10,N2+2,G⟩) (Builtin.append) ((some 33)) ((some 33)) ([.nils 0 0,.slc (N2+1) 0 0 1 1])=(some (.val s3 ⟨O11,N3,G⟩)))∧(s3.cells.length.beq 1=true∧zb (⟨O11,N3,G⟩:AHeap) rr 0 4 s3.cells=some (⟨O12,N3,G⟩:AHeap))∧K (WR n r0 rr (IntKind.i64.wrap (i+(1:Int))) rest O12 N3 G)):=by kernel_rfl
theorem q_rln (R:AV→AHeap→Prop)(keep:Nat)(f0:FuncId)(rest:List AFrame)(N:Nat)(O:T AObj)(pa:List UInt8)(br:Bool)(co:Int)(n:Int)(r0:Nat)(rr:Nat)(i:Int)(O1:T AObj)(G:T (T AV))(K:AM→Prop):Obl P f0 (fun v h=>R v h) keep K [.run 9,.know 16 false,.run 4,.hop (.agg [.nils 0 0,.str pa,.bool br,.nils 0 0,.nils 0 0,.int .u64 co]) O,.hop (.nilp) O1,.run 2,.keep [2]] ((WR n r0 rr i rest O N G))=((decide (i<IntKind.i64.wrap (n.tmod (4:Int)))=false)∧(za (⟨O,N,G⟩) (rr) 0 0 6=(some [.nils 0 0,.str pa,.bool br,.nils 0 0,.nils 0 0,.int .u64 co]))∧(zb (⟨O,N,G⟩) (r0) 0 0 ([.nils 0 0,.str pa,.bool br,.nils 0 0,.nils 0 0,.int .u64 co])=(some ⟨O1,N,G⟩))∧K (AM.mk (RF 7 59 (.node .leaf none (.node .leaf (some (.ptr r0 0 0)) .leaf)) [.code (cd P 7 [1,1,1,1])]) rest ⟨O1,N,G⟩)):=by kernel_rfl
theorem q_rgy (R:AV→AHeap→Prop)(keep:Nat)(f0:FuncId)(rest:List AFrame)(N:Nat)(O:T AObj)(n:Int)(dq:Nat)(dz:Nat)(ds:Nat)(vq:Nat)(vz:Nat)(vs:Nat)(tq:Nat)(tz:Nat)(ts:Nat)(dJ:Nat)(vJ:Nat)(tJ:Nat)(nD:Nat)(nV:Nat)(nT:Nat)(r0:Nat)(rr:Nat)(i:Int)(O1:T AObj)(O2:T AObj)(O3:T AObj)(O4:T AObj)(O5:T AObj)(O6:T AObj)(O7:T AObj)(O8:T AObj)(O9:T AObj)(O10:T AObj)(O11:T AObj)(O12:T AObj)(N1:Nat)(N2:Nat)(N3:Nat)(s1:AV)(s2:AV)(s3:AV)(l1:List UInt8)(G:T (T AV))(K:AM→Prop):Obl P f0 (fun v h=>R v h) keep K [.run 9,.know 16 true,.run 7,.hop (.slg dJ dq dz nD ds) O,.run 5,.hopn (.slc N 0 0 1 1) O1 (N+1),.hopn (s1) O2 (N1),.run 1,.hopn (.nilp) O3 (N1),.run 5,.hop (.slg vJ vq vz nV vs) O3,.run 3,.hopn (.slc N1 0 0 1 1) O4 (N1+1),.hopn (.str l1) O4 (N1+1),.run 5,.hop (.nilp) O5,.run 1,.hopn (.slc (N1+2) 0 0 1 1) O6 (N1+3),.hopn (s2) O7 (N2),.run 2,.hopn (.nilp) O8 (N2),.run 4,.hop (.slg tJ tq tz nT ts) O8,.run 1,.hop (.nilp) O9,.run 1,.hopn (.slc (N2+1) 0 0 1 1) O10 (N2+2),.hopn (s3) O11 (N3),.run 2,.hopn (.nilp) O12 (N3),.run 8,.keep [0,2,3,4]] ((WR n r0 rr i rest O N G))=((decide (i<IntKind.i64.wrap (n.tmod (4:Int)))=true)∧(za (⟨O,N,G⟩) (rr) 0 0 1=(some [.slg dJ dq dz nD ds]))∧(zg P (⟨O,N,G⟩) 32 1 ([(0,.agg [.str [UInt8.ofNat 109],.int .i64 (IntKind.i64.wrap n),.int .i64 (IntKind.i64.wrap ((1:Int)+i))])])=(some (.slc N 0 0 1 1,⟨O1,N+1,G⟩)))∧(zd P (⟨O1,N+1,G⟩) (Builtin.append) ((some 32)) ((some 32)) ([.slg dJ dq dz nD ds,.slc N 0 0 1 1])=(some (.val s1 ⟨O2,N1,G⟩)))∧(s1.cells.length.beq 1=true∧zb (⟨O2,N1,G⟩:AHeap) rr 0 0 s1.cells=some (⟨O3,N1,G⟩:AHeap))∧(za (⟨O3,N1,G⟩) (rr) 0 3 1=(some [.slg vJ vq vz nV vs]))∧(zg P (⟨O3,N1,G⟩) 58 1 ([(0,.int .u8 (IntKind.u8.wrap (IntKind.i64.wrap ((97:Int)+i))))])=(some (.slc N1 0 0 1 1,⟨O4,N1+1,G⟩)))∧(zas P (⟨O4,N1+1,G⟩) 58 9 (.slc N1 0 0 1 1)=(some (.str l1)))∧(T.set ((some (.cells (.node (.node (.node .leaf (some (.nils 0 0)) .leaf) (some (.str [])) .leaf) (some (.int .i64 (IntKind.i64.wrap ((1:Int)+IntKind.i64.wrap (n.tmod (5:Int)))))) (.node (.node .leaf (some .nilp) .leaf) (some (.nils 0 0)) .leaf)) 5 63 0 0 1 0 false .leaf))) (O4) (N1+1)=O5)∧(zg P (⟨O5,N1+2,G⟩) 33 1 ([(0,.agg [.str l1,.ptr (N1+1) 0 0])])=(some (.slc (N1+2) 0 0 1 1,⟨O6,N1+3,G⟩)))∧(zd P (⟨O6,N1+3,G⟩) (Builtin.append) ((some 33)) ((some 33)) ([.slg vJ vq vz nV vs,.slc (N1+2) 0 0 1 1])=(some (.val s2 ⟨O7,N2,G⟩)))∧(s2.cells.length.beq 1=true∧zb (⟨O7,N2,G⟩:AHeap) rr 0 3 s2.cells=some (⟨O8,N2,G⟩:AHeap))∧(za (⟨O8,N2,G⟩) (rr) 0 4 1=(some [.slg tJ tq tz nT ts]))∧(T.set ((some (.cells (.node (.node (.node .leaf (some (.nils 0 0)) .leaf) (some (.str [])) .leaf) (some (.int .i64 2)) (.node (.node .leaf (some .nilp) .leaf) (some (.nils 0 0)) .leaf)) 5 63 0 0 1 0 false .leaf))) (O8) (N2)=O9)∧(zg P (⟨O9,N2+1,G⟩) 33 1 ([(0,.agg [.str [UInt8.ofNat 84],.ptr N2 0 0])])=(some (.slc (N2+1) 0 0 1 1,⟨O10,N2+2,G⟩)))∧(zd P (⟨O10,N2+2,G⟩) (Builtin.append) ((some 33)) ((some 33)) ([.slg tJ tq tz nT ts,.slc (N2+1) 0 0 1 1])=(some (.val s3 ⟨O11,N3,G⟩)))∧(s3.cells.length.beq 1=true∧zb (⟨O11,N3,G⟩:AHeap) rr 0 4 s3.cells=some (⟨O12,N3,G⟩:AHeap))∧K (WR n r0 rr (IntKind.i64.wrap (i+(1:Int))) rest O12 N3 G)):=by kernel_rfl
theorem q_rgn (R:AV→AHeap→Prop)(keep:Nat)(f0:FuncId)(rest:List AFrame)(N:Nat)(O:T AObj)(pa:List UInt8)(br:Bool)(co:Int)(n:Int)(dq:Nat)(dz:Nat)(ds:Nat)(vq:Nat)(vz:Nat)(vs:Nat)(tq:Nat)(tz:Nat)(ts:Nat)(dJ:Nat)(vJ:Nat)(tJ:Nat)(nD:Nat)(nV:Nat)(nT:Nat)(r0:Nat)(rr:Nat)(i:Int)(O1:T AObj)(G:T (T AV))(K:AM→Prop):Obl P f0 (fun v h=>R v h) keep K [.run 9,.know 16 false,.run 4,.hop (.agg [.slg dJ dq dz nD ds,.str pa,.bool br,.slg vJ vq vz nV vs,.slg tJ tq tz nT ts,.int .u64 co]) O,.hop (.nilp) O1,.run 2,.keep [2]] ((WR n r0 rr i rest O N G))=((decide (i<IntKind.i64.wrap (n.tmod (4:Int)))=false)∧(za (⟨O,N,G⟩) (rr) 0 0 6=(some [.slg dJ dq dz nD ds,.str pa,.bool br,.slg vJ vq vz nV vs,.slg tJ tq tz nT ts,.int .u64 co]))∧(zb (⟨O,N,G⟩) (r0) 0 0 ([.slg dJ dq dz nD ds,.str pa,.bool br,.slg vJ vq vz nV vs,.slg tJ tq tz nT ts,.int .u64 co])=(some ⟨O1,N,G⟩))∧K (AM.mk (RF 7 59 (.node .leaf none (.node .leaf (some (.ptr r0 0 0)) .leaf)) [.code (cd P 7 [1,1,1,1])]) rest ⟨O1,N,G⟩)):=by kernel_rfl
variable {O O':T AObj} {N:Nat} {G:T (T AV)} {pa:List UInt8} {br:Bool} {co:Int}
def zb8 (p:List UInt8 × Int × Int):List AV:=[.str p.1,.int .i64 p.2.1,.int .i64 p.2.2]
def wf (q:List UInt8 × Nat):List AV:=[.str q.1,.ptr q.2 0 0]
def bEnc (c:Int):List AV:=[.int .u8 c]
theorem dE:Enc 3 zb8:=⟨fun _=>rfl,fun _=>rfl,by decide⟩
theorem vE:Enc 2 wf:=⟨fun _=>rfl,fun _=>rfl,by decide⟩
theorem bE:Enc 1 bEnc:=⟨fun _=>rfl,fun _=>rfl,by decide⟩
theorem dS:SlT 32 57 3 32:=SlT.mk' (by kernel_rfl) (by kernel_rfl) (by kernel_rfl) (by kernel_rfl) (by kernel_rfl) rfl rfl
theorem vS:SlT 33 65 2 24:=SlT.mk' (by kernel_rfl) (by kernel_rfl) (by kernel_rfl) (by kernel_rfl) (by kernel_rfl) rfl rfl
theorem zjH {α:Type}{sz:Nat}{enc:α→List AV}{st el:TypeId}{by' lo hi:Nat}(S:SlT st el sz by')(E:Enc sz enc){xs:List α}{s:AV}(h:SV O sz enc lo hi xs s)(hh:hi≤N)(hn:xs.length<1000000000)(G:T (T AV)) :
 ∃ O1 O2,zj P ⟨O,N,G⟩ st (.int .i64 ((xs.length:Nat):Int)) (.int .i64 ((xs.length:Nat):Int))=some (.slc N 0 0 xs.length xs.length,⟨O1,N+1,G⟩) ∧
  zd P ⟨O1,N+1,G⟩ .copy (some st) (some st) [.slc N 0 0 xs.length xs.length,s]=some (.val (.int .i64 ((xs.length:Nat):Int)) ⟨O2,N+1,G⟩)∧Rd O2 N 0 0 (xs.flatMap enc)∧∀ j,j<N→O2.get j=O.get j:=by
 obtain ⟨i,h1,h2,h3⟩:=S.info
 obtain ⟨z,z1,z2,z3⟩:=S.zero
 have hfew:=S.few
 have hpos:=S.pos
 have hlen:(zt z.cells xs.length).length=xs.length*sz:=by rw [zl,z2]
 obtain ⟨O1,t1,b1,f1⟩:=Obj.mk (c:=ze .leaf 0 (zt z.cells xs.length)) (el:=el) (zt z.cells xs.length) O N (zt z.cells xs.length).length rfl (fun k hk=>by
  have:=At.stored .leaf 0 (zt z.cells xs.length) k hk
  rw [Nat.zero_add] at this
  rw [this,List.getD_eq_getElem?_getD,List.getElem?_eq_getElem hk]
  rfl)
 obtain ⟨O2,s2,b2,f2⟩:=b1.store 0 (xs.flatMap enc) (N+1) G (by rw [E.flat,hlen]; omega) (E.ones xs)
 have h':SV O1 sz enc lo hi xs s:=h.same (fun hs=>f1 _ (by have:=(h.sid_lt hs).2; omega)) (Nat.le_refl _) (Nat.le_refl _)
 refine ⟨O1,O2,?_,?_,?_,fun j hj=>(f2 j (by omega)).trans (f1 j (by omega))⟩
 · unfold zj
   rw [S.und]
   simp only
   unfold yt
   rw [h1,z1]
   simp only
   have hb:(i.bytes:Int)*((xs.length:Nat):Int)≤2 ^ 48:=by
    rw [h3]
    have:by'*xs.length≤4096*1000000000:=Nat.mul_le_mul hfew (by omega)
    have h48:(2:Int) ^ 48=((281474976710656:Nat):Int):=by decide
    rw [h48]
    exact_mod_cast Nat.le_trans this (by decide)
   rw [if_pos ⟨by omega,by omega,by omega,hb,by rw [z2,h2],by rw [h2]; exact hpos,z3⟩,← t1]
   rfl
 · show (match zib [AV.slc N 0 0 xs.length xs.length,s] with | none=>none | some (d,s)=>vd (zdl P ⟨O1,N+1,G⟩ st d s))=_
   have:zdl P ⟨O1,N+1,G⟩ st (.slc N 0 0 xs.length xs.length) s=some (.int .i64 ((xs.length:Nat):Int),⟨O2,N+1,G⟩):=by
    unfold zdl
    rw [S.und]
    simp only
    unfold zgH
    rw [S.size]
    simp only [h'.lens.2]
    show (match zU (.slc N 0 0 xs.length xs.length) with | none=>none | some dn=>_)=_
    show (match ya ⟨O1,N+1,G⟩ sz (Nat.min xs.length xs.length) s with | none=>none | some cells=>zcv ⟨O1,N+1,G⟩ (Nat.min xs.length xs.length) (.slc N 0 0 xs.length xs.length) cells)=_
    rw [show Nat.min xs.length xs.length=xs.length from Nat.min_self _,h'.first E (N+1) G]
    simp only
    unfold zcv
    simp only [s2]
   show vd (zdl P ⟨O1,N+1,G⟩ st (.slc N 0 0 xs.length xs.length) s)=_
   rw [this]
   rfl
 · have e:(zt z.cells xs.length).take 0++xs.flatMap enc++(zt z.cells xs.length).drop (0+(xs.flatMap enc).length)=xs.flatMap enc:=by
    rw [List.take_zero,List.nil_append,List.drop_eq_nil_of_le (by rw [E.flat,hlen]; omega),List.append_nil]
   rw [e] at b2
   exact Rd.ofRow b2 (Nat.le_refl _) fun k hk=>by rw [List.getD_eq_getElem?_getD,List.getElem?_eq_getElem hk]; rfl
theorem zbi {xs:List _}{s:AV}{lo hi:Nat}(h:SV O 3 zb8 lo hi xs s)(hh:hi≤N)(hn:xs.length<1000000000){keep:Nat}{f0:FuncId}{Q:AV→AHeap→Prop}{rest:List AFrame}
 (hK:∀ O' td,Rd O' N 0 0 (xs.flatMap zb8)→(∀ j,j<N→O'.get j=O.get j)→Goal P keep f0 Q (AM.mk (RF 24 11 (.node .leaf none (.node .leaf (some (.slc N 0 0 xs.length xs.length)) .leaf)) td) rest ⟨O',N+1,G⟩)) :
 Goal P keep f0 Q (AM.mk (enF 24 [s]) rest ⟨O,N,G⟩):=by
 obtain ⟨O1,O2,m1,m2,rd,low⟩:=zjH dS dE h hh hn G
 rcases id h with ⟨rfl,rfl⟩ | ⟨ri,z,off,cap,rfl,_⟩ | ⟨ri,z,st,rfl,_⟩
 · exact (Obl.goal mix (K:=Goal P keep f0 Q) (fun _ h=>h) (cast (znd Q keep f0 rest N O O1 O2 (.slc N 0 0 0 0) ((0:Nat):Int) G (Goal P keep f0 Q)).symm ⟨m1,m2,hK O2 _ rd low⟩))
 · exact (Obl.goal mix (K:=Goal P keep f0 Q) (fun _ h=>h) (cast (znn Q keep f0 rest N O ri z off xs.length cap O1 O2 (.slc N 0 0 xs.length xs.length) ((xs.length:Nat):Int) G (Goal P keep f0 Q)).symm ⟨m1,m2,hK O2 _ rd low⟩))
 · exact (Obl.goal mix (K:=Goal P keep f0 Q) (fun _ h=>h) (cast (znc Q keep f0 rest N O ri z (st*3) xs.length st O1 O2 (.slc N 0 0 xs.length xs.length) ((xs.length:Nat):Int) G (Goal P keep f0 Q)).symm ⟨m1,m2,hK O2 _ rd low⟩))
theorem qd {xs:List _}{s:AV}{lo hi:Nat}(h:SV O 2 wf lo hi xs s)(hh:hi≤N)(hn:xs.length<1000000000){keep:Nat}{f0:FuncId}{Q:AV→AHeap→Prop}{rest:List AFrame}
 (hK:∀ O' td,Rd O' N 0 0 (xs.flatMap wf)→(∀ j,j<N→O'.get j=O.get j)→Goal P keep f0 Q (AM.mk (RF 25 11 (.node .leaf none (.node .leaf (some (.slc N 0 0 xs.length xs.length)) .leaf)) td) rest ⟨O',N+1,G⟩)) :
 Goal P keep f0 Q (AM.mk (enF 25 [s]) rest ⟨O,N,G⟩):=by
 obtain ⟨O1,O2,m1,m2,rd,low⟩:=zjH vS vE h hh hn G
 rcases id h with ⟨rfl,rfl⟩ | ⟨ri,z,off,cap,rfl,_⟩ | ⟨ri,z,st,rfl,_⟩
 · exact (Obl.goal mix (K:=Goal P keep f0 Q) (fun _ h=>h) (cast (znH Q keep f0 rest N O O1 O2 (.slc N 0 0 0 0) ((0:Nat):Int) G (Goal P keep f0 Q)).symm ⟨m1,m2,hK O2 _ rd low⟩))
 · exact (Obl.goal mix (K:=Goal P keep f0 Q) (fun _ h=>h) (cast (znP Q keep f0 rest N O ri z off xs.length cap O1 O2 (.slc N 0 0 xs.length xs.length) ((xs.length:Nat):Int) G (Goal P keep f0 Q)).symm ⟨m1,m2,hK O2 _ rd low⟩))
 · exact (Obl.goal mix (K:=Goal P keep f0 Q) (fun _ h=>h) (cast (zng Q keep f0 rest N O ri z (st*2) xs.length st O1 O2 (.slc N 0 0 xs.length xs.length) ((xs.length:Nat):Int) G (Goal P keep f0 Q)).symm ⟨m1,m2,hK O2 _ rd low⟩))
theorem zcq {ds1:List (List UInt8 × Int × Int)}{vs1 ts1:List (List UInt8 × Nat)}{lo hi:Nat}(h1:SV O 3 zb8 lo hi ds1 (.nils 0 0))(h2:SV O 2 wf lo hi vs1 (.nils 0 0))(h3:SV O 2 wf lo hi ts1 (.nils 0 0))(hh:hi≤N)(n1:ds1.length<1000000000)(n2:vs1.length<1000000000)(n3:ts1.length<1000000000){keep:Nat}{f0:FuncId}{Q:AV→AHeap→Prop}{rest:List AFrame}
 (hK:∀ O' td,Rd O' (N+2) 0 0 (ds1.flatMap zb8)→Rd O' (N+2+1) 0 0 (vs1.flatMap wf)→Rd O' (N+2+1+1) 0 0 (ts1.flatMap wf)→Obj O' (N+1) [.slc (N+2) 0 0 ds1.length ds1.length,.str pa,.bool br,.slc (N+2+1) 0 0 vs1.length vs1.length,.slc (N+2+1+1) 0 0 ts1.length ts1.length,.int .u64 co]→(∀ j,j<N→O'.get j=O.get j)→Goal P keep f0 Q (AM.mk (RF 17 20 (.node .leaf none (.node .leaf (some (.ptr (N+1) 0 0)) .leaf)) td) rest ⟨O',N+2+1+1+1,G⟩)) :
 Goal P keep f0 Q (AM.mk (enF 17 [.agg [.nils 0 0,.str pa,.bool br,.nils 0 0,.nils 0 0,.int .u64 co]]) rest ⟨O,N,G⟩):=by
 obtain ⟨O1,t1,b1,g1⟩:=Obj.mk (c:=(.node (.node (.node .leaf (some (.nils 0 0)) .leaf) (some (.str pa)) (.node .leaf (some (.int .u64 co)) .leaf)) (some (.nils 0 0)) (.node (.node .leaf (some (.nils 0 0)) .leaf) (some (.bool br)) .leaf))) (el:=38) [.nils 0 0,.str pa,.bool br,.nils 0 0,.nils 0 0,.int .u64 co] O N 6 rfl (fun u hu=>by rcases u with _ | _ | _ | _ | _ | _ | u <;> first | rfl | omega)
 obtain ⟨O2,t2,b2,g2⟩:=Obj.mk (c:=(.node (.node (.node .leaf (some (.nils 0 0)) .leaf) (some (.str [])) (.node .leaf (some (.int .u64 0)) .leaf)) (some (.nils 0 0)) (.node (.node .leaf (some (.nils 0 0)) .leaf) (some (.bool false)) .leaf))) (el:=38) [.nils 0 0,.str [],.bool false,.nils 0 0,.nils 0 0,.int .u64 0] O1 (N+1) 6 rfl (fun u hu=>by rcases u with _ | _ | _ | _ | _ | _ | u <;> first | rfl | omega)
 have b12:Obj O2 N [.nils 0 0,.str pa,.bool br,.nils 0 0,.nils 0 0,.int .u64 co]:=b1.same (g2 N (by omega))
 have low2:∀ j,j<N→O2.get j=O.get j:=fun j hj=>(g2 j (by omega)).trans (g1 j (by omega))
 refine (Obl.goal mix (K:=Goal P keep f0 Q) (fun _ h=>h) (cast (q_con Q keep f0 rest N O pa br co O1 O2 G (Goal P keep f0 Q)).symm ⟨t1,t2,b12.load 0 _ _ (Nat.le_of_ble_eq_true rfl),?_⟩))
 refine zbi (h1.same (fun hn=>low2 _ (by have:=(h1.sid_lt hn).2; omega)) (Nat.le_refl _) (Nat.le_refl _)) (by omega) n1 fun O3 td3 r3 low3=>?_
 have b13:=b12.same (low3 N (by omega))
 obtain ⟨O4,s4,b14,f4⟩:=b13.store 0 [.slc (N+2) 0 0 ds1.length ds1.length] (N+2+1) G (Nat.le_of_ble_eq_true rfl) rfl
 have r4:=r3.same (f4 (N+2) (by omega))
 have b24:Obj O4 (N+1) [.nils 0 0,.str [],.bool false,.nils 0 0,.nils 0 0,.int .u64 0]:=b2.same ((f4 _ (by omega)).trans (low3 _ (by omega)))
 refine (Obl.goal mix (K:=Goal P keep f0 Q) (fun _ h=>h) (cast (zkW Q keep f0 rest td3 (N+2+1) O3 (N+2) ds1.length pa br co N O4 G (Goal P keep f0 Q)).symm ⟨s4,b14.load 3 _ _ (Nat.le_of_ble_eq_true rfl),b14.load 4 _ _ (Nat.le_of_ble_eq_true rfl),?_⟩))
 have low4:∀ j,j<N→O4.get j=O.get j:=fun j hj=>(f4 j (by omega)).trans ((low3 j (by omega)).trans (low2 j hj))
 refine qd (h2.same (fun hn=>low4 _ (by have:=(h2.sid_lt hn).2; omega)) (Nat.le_refl _) (Nat.le_refl _)) (by omega) n2 fun O5 td5 r5 low5=>?_
 have b15:=b14.same (low5 N (by omega))
 refine (Obl.goal mix (K:=Goal P keep f0 Q) (fun _ h=>h) (cast (zfu Q keep f0 rest td5 (N+2+1+1) O5 (N+2) ds1.length (N+2+1) vs1.length pa br co N G (Goal P keep f0 Q)).symm ⟨trivial,b15.load 4 _ _ (Nat.le_of_ble_eq_true rfl),?_⟩))
 refine qd (h3.same (fun hn=>(low5 _ (by have:=(h3.sid_lt hn).2; omega)).trans (low4 _ (by have:=(h3.sid_lt hn).2; omega))) (Nat.le_refl _) (Nat.le_refl _)) (by omega) n3 fun O6 td6 r6 low6=>?_
 have b16:=b15.same (low6 N (by omega))
 obtain ⟨O7,s7,b17,f7⟩:=b16.store 3 [.slc (N+2+1) 0 0 vs1.length vs1.length] (N+2+1+1+1) G (Nat.le_of_ble_eq_true rfl) rfl
 obtain ⟨O8,s8,b18,f8⟩:=b17.store 4 [.slc (N+2+1+1) 0 0 ts1.length ts1.length] (N+2+1+1+1) G (Nat.le_of_ble_eq_true rfl) rfl
 have b28:Obj O8 (N+1) [.nils 0 0,.str [],.bool false,.nils 0 0,.nils 0 0,.int .u64 0]:=b24.same ((f8 _ (by omega)).trans ((f7 _ (by omega)).trans ((low6 _ (by omega)).trans (low5 _ (by omega)))))
 obtain ⟨O9,s9,b29,f9⟩:=b28.store 0 [.slc (N+2) 0 0 ds1.length ds1.length,.str pa,.bool br,.slc (N+2+1) 0 0 vs1.length vs1.length,.slc (N+2+1+1) 0 0 ts1.length ts1.length,.int .u64 co] (N+2+1+1+1) G (Nat.le_of_ble_eq_true rfl) rfl
 have l8:za ⟨O8,N+2+1+1+1,G⟩ N 0 0 6=some [.slc (N+2) 0 0 ds1.length ds1.length,.str pa,.bool br,.slc (N+2+1) 0 0 vs1.length vs1.length,.slc (N+2+1+1) 0 0 ts1.length ts1.length,.int .u64 co]:=b18.loads 0 6 _ G (Nat.le_of_ble_eq_true rfl)
 have up:∀ j,j≠N→j≠N+1→O9.get j=O6.get j:=fun j e1 e2=>(f9 j e2).trans ((f8 j e1).trans (f7 j e1))
 refine (Obl.goal mix (K:=Goal P keep f0 Q) (fun _ h=>h) (cast (zcj Q keep f0 rest td6 (N+2+1+1+1) O6 (N+2) ds1.length (N+2+1) vs1.length (N+2+1+1) ts1.length pa br co N O7 O8 O9 G (Goal P keep f0 Q)).symm ⟨s7,s8,l8,s9,hK O9 _ (r4.same ((up _ (by omega) (by omega)).trans ((low6 _ (by omega)).trans (low5 _ (by omega))))) (r5.same ((up _ (by omega) (by omega)).trans (low6 _ (by omega)))) (r6.same (up _ (by omega) (by omega))) b29 (fun j hj=>(up j (by omega) (by omega)).trans ((low6 j (by omega)).trans ((low5 j (by omega)).trans (low4 j hj))))⟩))
theorem zhl {ds1:List (List UInt8 × Int × Int)}{vs1 ts1:List (List UInt8 × Nat)}{lo hi:Nat}{dJ dq ds vJ vq vs tJ tq ts:Nat}(h1:SV O 3 zb8 lo hi ds1 (.slg dJ dq (ds*3) ds1.length ds))(h2:SV O 2 wf lo hi vs1 (.slg vJ vq (vs*2) vs1.length vs))(h3:SV O 2 wf lo hi ts1 (.slg tJ tq (ts*2) ts1.length ts))(hh:hi≤N)(n1:ds1.length<1000000000)(n2:vs1.length<1000000000)(n3:ts1.length<1000000000){keep:Nat}{f0:FuncId}{Q:AV→AHeap→Prop}{rest:List AFrame}
 (hK:∀ O' td,Rd O' (N+2) 0 0 (ds1.flatMap zb8)→Rd O' (N+2+1) 0 0 (vs1.flatMap wf)→Rd O' (N+2+1+1) 0 0 (ts1.flatMap wf)→Obj O' (N+1) [.slc (N+2) 0 0 ds1.length ds1.length,.str pa,.bool br,.slc (N+2+1) 0 0 vs1.length vs1.length,.slc (N+2+1+1) 0 0 ts1.length ts1.length,.int .u64 co]→(∀ j,j<N→O'.get j=O.get j)→Goal P keep f0 Q (AM.mk (RF 17 20 (.node .leaf none (.node .leaf (some (.ptr (N+1) 0 0)) .leaf)) td) rest ⟨O',N+2+1+1+1,G⟩)) :
 Goal P keep f0 Q (AM.mk (enF 17 [.agg [.slg dJ dq (ds*3) ds1.length ds,.str pa,.bool br,.slg vJ vq (vs*2) vs1.length vs,.slg tJ tq (ts*2) ts1.length ts,.int .u64 co]]) rest ⟨O,N,G⟩):=by
 obtain ⟨O1,t1,b1,g1⟩:=Obj.mk (c:=(.node (.node (.node .leaf (some (.slg vJ vq (vs*2) vs1.length vs)) .leaf) (some (.str pa)) (.node .leaf (some (.int .u64 co)) .leaf)) (some (.slg dJ dq (ds*3) ds1.length ds)) (.node (.node .leaf (some (.slg tJ tq (ts*2) ts1.length ts)) .leaf) (some (.bool br)) .leaf))) (el:=38) [.slg dJ dq (ds*3) ds1.length ds,.str pa,.bool br,.slg vJ vq (vs*2) vs1.length vs,.slg tJ tq (ts*2) ts1.length ts,.int .u64 co] O N 6 rfl (fun u hu=>by rcases u with _ | _ | _ | _ | _ | _ | u <;> first | rfl | omega)
 obtain ⟨O2,t2,b2,g2⟩:=Obj.mk (c:=(.node (.node (.node .leaf (some (.nils 0 0)) .leaf) (some (.str [])) (.node .leaf (some (.int .u64 0)) .leaf)) (some (.nils 0 0)) (.node (.node .leaf (some (.nils 0 0)) .leaf) (some (.bool false)) .leaf))) (el:=38) [.nils 0 0,.str [],.bool false,.nils 0 0,.nils 0 0,.int .u64 0] O1 (N+1) 6 rfl (fun u hu=>by rcases u with _ | _ | _ | _ | _ | _ | u <;> first | rfl | omega)
 have b12:Obj O2 N [.slg dJ dq (ds*3) ds1.length ds,.str pa,.bool br,.slg vJ vq (vs*2) vs1.length vs,.slg tJ tq (ts*2) ts1.length ts,.int .u64 co]:=b1.same (g2 N (by omega))
 have low2:∀ j,j<N→O2.get j=O.get j:=fun j hj=>(g2 j (by omega)).trans (g1 j (by omega))
 refine (Obl.goal mix (K:=Goal P keep f0 Q) (fun _ h=>h) (cast (q_cog Q keep f0 rest N O pa br co dq (ds*3) ds vq (vs*2) vs tq (ts*2) ts dJ vJ tJ ds1.length vs1.length ts1.length O1 O2 G (Goal P keep f0 Q)).symm ⟨t1,t2,b12.load 0 _ _ (Nat.le_of_ble_eq_true rfl),?_⟩))
 refine zbi (h1.same (fun hn=>low2 _ (by have:=(h1.sid_lt hn).2; omega)) (Nat.le_refl _) (Nat.le_refl _)) (by omega) n1 fun O3 td3 r3 low3=>?_
 have b13:=b12.same (low3 N (by omega))
 obtain ⟨O4,s4,b14,f4⟩:=b13.store 0 [.slc (N+2) 0 0 ds1.length ds1.length] (N+2+1) G (Nat.le_of_ble_eq_true rfl) rfl
 have r4:=r3.same (f4 (N+2) (by omega))
 have b24:Obj O4 (N+1) [.nils 0 0,.str [],.bool false,.nils 0 0,.nils 0 0,.int .u64 0]:=b2.same ((f4 _ (by omega)).trans (low3 _ (by omega)))
 refine (Obl.goal mix (K:=Goal P keep f0 Q) (fun _ h=>h) (cast (zlb Q keep f0 rest td3 (N+2+1) O3 (N+2) ds1.length pa br co dq (ds*3) ds vq (vs*2) vs tq (ts*2) ts dJ vJ tJ ds1.length vs1.length ts1.length N O4 G (Goal P keep f0 Q)).symm ⟨s4,b14.load 3 _ _ (Nat.le_of_ble_eq_true rfl),b14.load 4 _ _ (Nat.le_of_ble_eq_true rfl),?_⟩))
 have low4:∀ j,j<N→O4.get j=O.get j:=fun j hj=>(f4 j (by omega)).trans ((low3 j (by omega)).trans (low2 j hj))
 refine qd (h2.same (fun hn=>low4 _ (by have:=(h2.sid_lt hn).2; omega)) (Nat.le_refl _) (Nat.le_refl _)) (by omega) n2 fun O5 td5 r5 low5=>?_
 have b15:=b14.same (low5 N (by omega))
 refine (Obl.goal mix (K:=Goal P keep f0 Q) (fun _ h=>h) (cast (zf0 Q keep f0 rest td5 (N+2+1+1) O5 (N+2) ds1.length (N+2+1) vs1.length pa br co dq (ds*3) ds vq (vs*2) vs tq (ts*2) ts dJ vJ tJ ds1.length vs1.length ts1.length N G (Goal P keep f0 Q)).symm ⟨trivial,b15.load 4 _ _ (Nat.le_of_ble_eq_true rfl),?_⟩))
 refine qd (h3.same (fun hn=>(low5 _ (by have:=(h3.sid_lt hn).2; omega)).trans (low4 _ (by have:=(h3.sid_lt hn).2; omega))) (Nat.le_refl _) (Nat.le_refl _)) (by omega) n3 fun O6 td6 r6 low6=>?_
 have b16:=b15.same (low6 N (by omega))
 obtain ⟨O7,s7,b17,f7⟩:=b16.store 3 [.slc (N+2+1) 0 0 vs1.length vs1.length] (N+2+1+1+1) G (Nat.le_of_ble_eq_true rfl) rfl
 obtain ⟨O8,s8,b18,f8⟩:=b17.store 4 [.slc (N+2+1+1) 0 0 ts1.length ts1.length] (N+2+1+1+1) G (Nat.le_of_ble_eq_true rfl) rfl
 have b28:Obj O8 (N+1) [.nils 0 0,.str [],.bool false,.nils 0 0,.nils 0 0,.int .u64 0]:=b24.same ((f8 _ (by omega)).trans ((f7 _ (by omega)).trans ((low6 _ (by omega)).trans (low5 _ (by omega)))))
 obtain ⟨O9,s9,b29,f9⟩:=b28.store 0 [.slc (N+2) 0 0 ds1.length ds1.length,.str pa,.bool br,.slc (N+2+1) 0 0 vs1.length vs1.length,.slc (N+2+1+1) 0 0 ts1.length ts1.length,.int .u64 co] (N+2+1+1+1) G (Nat.le_of_ble_eq_true rfl) rfl
 have l8:za ⟨O8,N+2+1+1+1,G⟩ N 0 0 6=some [.slc (N+2) 0 0 ds1.length ds1.length,.str pa,.bool br,.slc (N+2+1) 0 0 vs1.length vs1.length,.slc (N+2+1+1) 0 0 ts1.length ts1.length,.int .u64 co]:=b18.loads 0 6 _ G (Nat.le_of_ble_eq_true rfl)
 have up:∀ j,j≠N→j≠N+1→O9.get j=O6.get j:=fun j e1 e2=>(f9 j e2).trans ((f8 j e1).trans (f7 j e1))
 refine (Obl.goal mix (K:=Goal P keep f0 Q) (fun _ h=>h) (cast (zck Q keep f0 rest td6 (N+2+1+1+1) O6 (N+2) ds1.length (N+2+1) vs1.length (N+2+1+1) ts1.length pa br co dq (ds*3) ds vq (vs*2) vs tq (ts*2) ts dJ vJ tJ ds1.length vs1.length ts1.length N O7 O8 O9 G (Goal P keep f0 Q)).symm ⟨s7,s8,l8,s9,hK O9 _ (r4.same ((up _ (by omega) (by omega)).trans ((low6 _ (by omega)).trans (low5 _ (by omega))))) (r5.same ((up _ (by omega) (by omega)).trans (low6 _ (by omega)))) (r6.same (up _ (by omega) (by omega))) b29 (fun j hj=>(up j (by omega) (by omega)).trans ((low6 j (by omega)).trans ((low5 j (by omega)).trans (low4 j hj))))⟩))
theorem zhG {ds1:List (List UInt8 × Int × Int)}{vs1 ts1:List (List UInt8 × Nat)}{lo hi:Nat}{dJ dq dz ds vJ vq vz vs tJ tq tz ts:Nat}(h1:SV O 3 zb8 lo hi ds1 (.slc dJ dq dz ds1.length ds))(h2:SV O 2 wf lo hi vs1 (.slc vJ vq vz vs1.length vs))(h3:SV O 2 wf lo hi ts1 (.slc tJ tq tz ts1.length ts))(hh:hi≤N)(n1:ds1.length<1000000000)(n2:vs1.length<1000000000)(n3:ts1.length<1000000000){keep:Nat}{f0:FuncId}{Q:AV→AHeap→Prop}{rest:List AFrame}
 (hK:∀ O' td,Rd O' (N+2) 0 0 (ds1.flatMap zb8)→Rd O' (N+2+1) 0 0 (vs1.flatMap wf)→Rd O' (N+2+1+1) 0 0 (ts1.flatMap wf)→Obj O' (N+1) [.slc (N+2) 0 0 ds1.length ds1.length,.str pa,.bool br,.slc (N+2+1) 0 0 vs1.length vs1.length,.slc (N+2+1+1) 0 0 ts1.length ts1.length,.int .u64 co]→(∀ j,j<N→O'.get j=O.get j)→Goal P keep f0 Q (AM.mk (RF 17 20 (.node .leaf none (.node .leaf (some (.ptr (N+1) 0 0)) .leaf)) td) rest ⟨O',N+2+1+1+1,G⟩)) :
 Goal P keep f0 Q (AM.mk (enF 17 [.agg [.slc dJ dq dz ds1.length ds,.str pa,.bool br,.slc vJ vq vz vs1.length vs,.slc tJ tq tz ts1.length ts,.int .u64 co]]) rest ⟨O,N,G⟩):=by
 obtain ⟨O1,t1,b1,g1⟩:=Obj.mk (c:=(.node (.node (.node .leaf (some (.slc vJ vq vz vs1.length vs)) .leaf) (some (.str pa)) (.node .leaf (some (.int .u64 co)) .leaf)) (some (.slc dJ dq dz ds1.length ds)) (.node (.node .leaf (some (.slc tJ tq tz ts1.length ts)) .leaf) (some (.bool br)) .leaf))) (el:=38) [.slc dJ dq dz ds1.length ds,.str pa,.bool br,.slc vJ vq vz vs1.length vs,.slc tJ tq tz ts1.length ts,.int .u64 co] O N 6 rfl (fun u hu=>by rcases u with _ | _ | _ | _ | _ | _ | u <;> first | rfl | omega)
 obtain ⟨O2,t2,b2,g2⟩:=Obj.mk (c:=(.node (.node (.node .leaf (some (.nils 0 0)) .leaf) (some (.str [])) (.node .leaf (some (.int .u64 0)) .leaf)) (some (.nils 0 0)) (.node (.node .leaf (some (.nils 0 0)) .leaf) (some (.bool false)) .leaf))) (el:=38) [.nils 0 0,.str [],.bool false,.nils 0 0,.nils 0 0,.int .u64 0] O1 (N+1) 6 rfl (fun u hu=>by rcases u with _ | _ | _ | _ | _ | _ | u <;> first | rfl | omega)
 have b12:Obj O2 N [.slc dJ dq dz ds1.length ds,.str pa,.bool br,.slc vJ vq vz vs1.length vs,.slc tJ tq tz ts1.length ts,.int .u64 co]:=b1.same (g2 N (by omega))
 have low2:∀ j,j<N→O2.get j=O.get j:=fun j hj=>(g2 j (by omega)).trans (g1 j (by omega))
 refine (Obl.goal mix (K:=Goal P keep f0 Q) (fun _ h=>h) (cast (q_coc Q keep f0 rest N O pa br co dq dz ds vq vz vs tq tz ts dJ vJ tJ ds1.length vs1.length ts1.length O1 O2 G (Goal P keep f0 Q)).symm ⟨t1,t2,b12.load 0 _ _ (Nat.le_of_ble_eq_true rfl),?_⟩))
 refine zbi (h1.same (fun hn=>low2 _ (by have:=(h1.sid_lt hn).2; omega)) (Nat.le_refl _) (Nat.le_refl _)) (by omega) n1 fun O3 td3 r3 low3=>?_
 have b13:=b12.same (low3 N (by omega))
 obtain ⟨O4,s4,b14,f4⟩:=b13.store 0 [.slc (N+2) 0 0 ds1.length ds1.length] (N+2+1) G (Nat.le_of_ble_eq_true rfl) rfl
 have r4:=r3.same (f4 (N+2) (by omega))
 have b24:Obj O4 (N+1) [.nils 0 0,.str [],.bool false,.nils 0 0,.nils 0 0,.int .u64 0]:=b2.same ((f4 _ (by omega)).trans (low3 _ (by omega)))
 refine (Obl.goal mix (K:=Goal P keep f0 Q) (fun _ h=>h) (cast (zk2 Q keep f0 rest td3 (N+2+1) O3 (N+2) ds1.length pa br co dq dz ds vq vz vs tq tz ts dJ vJ tJ ds1.length vs1.length ts1.length N O4 G (Goal P keep f0 Q)).symm ⟨s4,b14.load 3 _ _ (Nat.le_of_ble_eq_true rfl),b14.load 4 _ _ (Nat.le_of_ble_eq_true rfl),?_⟩))
 have low4:∀ j,j<N→O4.get j=O.get j:=fun j hj=>(f4 j (by omega)).trans ((low3 j (by omega)).trans (low2 j hj))
 refine qd (h2.same (fun hn=>low4 _ (by have:=(h2.sid_lt hn).2; omega)) (Nat.le_refl _) (Nat.le_refl _)) (by omega) n2 fun O5 td5 r5 low5=>?_
 have b15:=b14.same (low5 N (by omega))
 refine (Obl.goal mix (K:=Goal P keep f0 Q) (fun _ h=>h) (cast (zfH Q keep f0 rest td5 (N+2+1+1) O5 (N+2) ds1.length (N+2+1) vs1.length pa br co dq dz ds vq vz vs tq tz ts dJ vJ tJ ds1.length vs1.length ts1.length N G (Goal P keep f0 Q)).symm ⟨trivial,b15.load 4 _ _ (Nat.le_of_ble_eq_true rfl),?_⟩))
 refine qd (h3.same (fun hn=>(low5 _ (by have:=(h3.sid_lt hn).2; omega)).trans (low4 _ (by have:=(h3.sid_lt hn).2; omega))) (Nat.le_refl _) (Nat.le_refl _)) (by omega) n3 fun O6 td6 r6 low6=>?_
 have b16:=b15.same (low6 N (by omega))
 obtain ⟨O7,s7,b17,f7⟩:=b16.store 3 [.slc (N+2+1) 0 0 vs1.length vs1.length] (N+2+1+1+1) G (Nat.le_of_ble_eq_true rfl) rfl
 obtain ⟨O8,s8,b18,f8⟩:=b17.store 4 [.slc (N+2+1+1) 0 0 ts1.length ts1.length] (N+2+1+1+1) G (Nat.le_of_ble_eq_true rfl) rfl
 have b28:Obj O8 (N+1) [.nils 0 0,.str [],.bool false,.nils 0 0,.nils 0 0,.int .u64 0]:=b24.same ((f8 _ (by omega)).trans ((f7 _ (by omega)).trans ((low6 _ (by omega)).trans (low5 _ (by omega)))))
 obtain ⟨O9,s9,b29,f9⟩:=b28.store 0 [.slc (N+2) 0 0 ds1.length ds1.length,.str pa,.bool br,.slc (N+2+1) 0 0 vs1.length vs1.length,.slc (N+2+1+1) 0 0 ts1.length ts1.length,.int .u64 co] (N+2+1+1+1) G (Nat.le_of_ble_eq_true rfl) rfl
 have l8:za ⟨O8,N+2+1+1+1,G⟩ N 0 0 6=some [.slc (N+2) 0 0 ds1.length ds1.length,.str pa,.bool br,.slc (N+2+1) 0 0 vs1.length vs1.length,.slc (N+2+1+1) 0 0 ts1.length ts1.length,.int .u64 co]:=b18.loads 0 6 _ G (Nat.le_of_ble_eq_true rfl)
 have up:∀ j,j≠N→j≠N+1→O9.get j=O6.get j:=fun j e1 e2=>(f9 j e2).trans ((f8 j e1).trans (f7 j e1))
 refine (Obl.goal mix (K:=Goal P keep f0 Q) (fun _ h=>h) (cast (zb9 Q keep f0 rest td6 (N+2+1+1+1) O6 (N+2) ds1.length (N+2+1) vs1.length (N+2+1+1) ts1.length pa br co dq dz ds vq vz vs tq tz ts dJ vJ tJ ds1.length vs1.length ts1.length N O7 O8 O9 G (Goal P keep f0 Q)).symm ⟨s7,s8,l8,s9,hK O9 _ (r4.same ((up _ (by omega) (by omega)).trans ((low6 _ (by omega)).trans (low5 _ (by omega))))) (r5.same ((up _ (by omega) (by omega)).trans (low6 _ (by omega)))) (r6.same (up _ (by omega) (by omega))) b29 (fun j hj=>(up j (by omega) (by omega)).trans ((low6 j (by omega)).trans ((low5 j (by omega)).trans (low4 j hj))))⟩))
end Go.Proofs.Ytehelionjafnkaa.gx
end
section
set_option maxRecDepth 100000
set_option linter.unusedVariables false
namespace Go.Proofs.Ytehelionjafnkaa.gx
open Go Ev
variable {O O':T AObj} {N:Nat} {G:T (T AV)} {pa:List UInt8} {br:Bool} {co:Int} {n:Int} {i lo rr:Nat} {d v t:AV} {f g:Nat→Nat}
def wm:List UInt8:=[UInt8.ofNat (109)]
def dl (n:Int) (q:Nat):List (List UInt8 × Int × Int):=(List.range q).map fun j=>(wm,IntKind.i64.wrap n,IntKind.i64.wrap ((1:Int)+((j:Nat):Int)))
def nvc (j:Nat):Int:=IntKind.u8.wrap (IntKind.i64.wrap ((97:Int)+((j:Nat):Int)))
def nv (j:Nat):List UInt8:=[UInt8.ofNat (nvc j).toNat]
def vl (f:Nat→Nat) (q:Nat):List (List UInt8 × Nat):=(List.range q).map fun j=>(nv j,f j)
def tl (g:Nat→Nat) (q:Nat):List (List UInt8 × Nat):=(List.range q).map fun j=>([UInt8.ofNat (84)],g j)
def tc (k:Int):List AV:=[.int .i64 k,.str [],.nils 0 0,.nils 0 0,.nilp]
def kd (n:Int):Int:=IntKind.i64.wrap ((1:Int)+IntKind.i64.wrap (n.tmod (5:Int)))
def upf (f:Nat→Nat) (i a:Nat):Nat→Nat:=fun j=>if j=i then a else f j
theorem vB:(dl n i).length=i:=by unfold dl; rw [List.length_map,List.length_range]
theorem qK:(vl f i).length=i:=by unfold vl; rw [List.length_map,List.length_range]
theorem qH:(tl f i).length=i:=by unfold tl; rw [List.length_map,List.length_range]
theorem zmy:dl n i++[(wm,IntKind.i64.wrap n,IntKind.i64.wrap ((1:Int)+((i:Nat):Int)))]=dl n (i+1):=by
 unfold dl
 rw [List.range_succ,List.map_append]
 rfl
theorem zmC {a:Nat}:vl f i++[(nv i,a)]=vl (upf f i a) (i+1):=by
 unfold vl
 rw [List.range_succ,List.map_append]
 congr 1
 · refine List.map_congr_left fun j hj=>?_
   have:=List.mem_range.1 hj
   unfold upf
   rw [if_neg (by omega)]
 · unfold upf
   simp
theorem zmd {a:Nat}:tl f i++[([UInt8.ofNat (84)],a)]=tl (upf f i a) (i+1):=by
 unfold tl
 rw [List.range_succ,List.map_append]
 congr 1
 · refine List.map_congr_left fun j hj=>?_
   have:=List.mem_range.1 hj
   unfold upf
   rw [if_neg (by omega)]
 · unfold upf
   simp
structure RB (O:T AObj) (lo N:Nat) (n:Int) (i:Nat) (d v t:AV) (f g:Nat→Nat):Prop where
 pd:GV O 57 3 zb8 lo N (dl n i) d
 pv:GV O 65 2 wf lo N (vl f i) v
 pt:GV O 65 2 wf lo N (tl g i) t
 dv:d≠.nils 0 0→v≠.nils 0 0→sid d≠sid v
 dt:d≠.nils 0 0→t≠.nils 0 0→sid d≠sid t
 vt:v≠.nils 0 0→t≠.nils 0 0→sid v≠sid t
 o:∀ j,j<i→(lo≤f j∧f j<N∧Obj O (f j) (tc (kd n)))∧(lo≤g j∧g j<N∧Obj O (g j) (tc 2))
 sd:∀ j,j<i→d≠.nils 0 0→f j≠sid d∧g j≠sid d
 sv:∀ j,j<i→v≠.nils 0 0→f j≠sid v∧g j≠sid v
 st:∀ j,j<i→t≠.nils 0 0→f j≠sid t∧g j≠sid t
theorem stepR (h:RB O lo N n i d v t f g)(hr:Obj O rr [d,.str pa,.bool br,v,t,.int .u64 co])(hrr:rr<lo)(hlo:lo≤N)(hi:i<4)(G:T (T AV)) :
 ∃ O1 O2 N1 s1 O3 O4 O5 O6 O7 N2 s2 O8 O9 O10 O11 N3 s3 O12,
  zg P ⟨O,N,G⟩ 32 1 [(0,.agg [.str [UInt8.ofNat (109)],.int .i64 (IntKind.i64.wrap n),.int .i64 (IntKind.i64.wrap ((1:Int)+((i:Nat):Int)))])]=some (.slc N 0 0 1 1,⟨O1,N+1,G⟩) ∧
  zd P ⟨O1,N+1,G⟩ .append (some 32) (some 32) [d,.slc N 0 0 1 1]=some (.val s1 ⟨O2,N1,G⟩) ∧
  (s1.cells.length.beq 1=true∧zb ⟨O2,N1,G⟩ rr 0 0 s1.cells=some ⟨O3,N1,G⟩) ∧
  za ⟨O3,N1,G⟩ rr 0 3 1=some [v] ∧
  zg P ⟨O3,N1,G⟩ 58 1 [(0,.int .u8 (nvc i))]=some (.slc N1 0 0 1 1,⟨O4,N1+1,G⟩) ∧
  zas P ⟨O4,N1+1,G⟩ 58 9 (.slc N1 0 0 1 1)=some (.str (nv i)) ∧
  T.set (some (.cells (.node (.node (.node .leaf (some (.nils 0 0)) .leaf) (some (.str [])) .leaf) (some (.int .i64 (IntKind.i64.wrap ((1:Int)+IntKind.i64.wrap (n.tmod (5:Int)))))) (.node (.node .leaf (some .nilp) .leaf) (some (.nils 0 0)) .leaf)) 5 63 0 0 1 0 false .leaf)) O4 (N1+1)=O5 ∧
  zg P ⟨O5,N1+2,G⟩ 33 1 [(0,.agg [.str (nv i),.ptr (N1+1) 0 0])]=some (.slc (N1+2) 0 0 1 1,⟨O6,N1+3,G⟩) ∧
  zd P ⟨O6,N1+3,G⟩ .append (some 33) (some 33) [v,.slc (N1+2) 0 0 1 1]=some (.val s2 ⟨O7,N2,G⟩) ∧
  (s2.cells.length.beq 1=true∧zb ⟨O7,N2,G⟩ rr 0 3 s2.cells=some ⟨O8,N2,G⟩) ∧
  za ⟨O8,N2,G⟩ rr 0 4 1=some [t] ∧
  T.set (some (.cells (.node (.node (.node .leaf (some (.nils 0 0)) .leaf) (some (.str [])) .leaf) (some (.int .i64 2)) (.node (.node .leaf (some .nilp) .leaf) (some (.nils 0 0)) .leaf)) 5 63 0 0 1 0 false .leaf)) O8 N2=O9 ∧
  zg P ⟨O9,N2+1,G⟩ 33 1 [(0,.agg [.str [UInt8.ofNat (84)],.ptr N2 0 0])]=some (.slc (N2+1) 0 0 1 1,⟨O10,N2+2,G⟩) ∧
  zd P ⟨O10,N2+2,G⟩ .append (some 33) (some 33) [t,.slc (N2+1) 0 0 1 1]=some (.val s3 ⟨O11,N3,G⟩) ∧
  (s3.cells.length.beq 1=true∧zb ⟨O11,N3,G⟩ rr 0 4 s3.cells=some ⟨O12,N3,G⟩) ∧
  RB O12 lo N3 n (i+1) s1 s2 s3 (upf f i (N1+1)) (upf g i N2)∧Obj O12 rr [s1,.str pa,.bool br,s2,s3,.int .u64 co]∧N≤N3∧(∀ j,j<lo→j≠rr→O12.get j=O.get j) ∧
  (∃ r q o m u,s1=.slg r q o m u)∧(∃ r q o m u,s2=.slg r q o m u)∧∃ r q o m u,s3=.slg r q o m u:=by
 obtain ⟨hd,hv,ht,hdv,hdt,hvt,ho,hsd,hsv,hst⟩:=h
 have hD:=fun hn=>hd.sid_lt hn
 have hV:=fun hn=>hv.sid_lt hn
 have hT:=fun hn=>ht.sid_lt hn
 obtain ⟨O1,e1,x1,_,f1⟩:=zcx dE (el:=57) (wm,IntKind.i64.wrap n,IntKind.i64.wrap ((1:Int)+((i:Nat):Int))) O N G (st:=32) (v:=.agg [.str [UInt8.ofNat (109)],.int .i64 (IntKind.i64.wrap n),.int .i64 (IntKind.i64.wrap ((1:Int)+((i:Nat):Int)))]) (fun h=>by kernel_rfl)
 have hd1:GV O1 57 3 zb8 lo (N+1) (dl n i) d:=hd.same (fun hn=>f1 _ (by have:=hD hn; omega)) (Nat.le_refl _) (by omega)
 obtain ⟨O2,N1,s1,e2,y1,n1,n1',f2,i1,g1⟩:=GV.app2 dS dE hd1 x1 (by omega) (by rw [vB]; simp only [List.length_cons,List.length_nil]; omega) G
 have g1:=g1 (by simp)
 have s1n:s1≠.nils 0 0:=by obtain ⟨_,_,_,_,_,e⟩:=g1; rw [e]; simp
 have i1':sid s1=N+1∨(d≠.nils 0 0∧sid s1=sid d):=by
  rcases i1 with h | h | h
  · exact absurd h s1n
  · exact .inl h
  · exact .inr h
 have l1:=y1.sid_lt s1n
 have zkl:=(y1.sv dE).one
 have hr2:Obj O2 rr [d,.str pa,.bool br,v,t,.int .u64 co]:=hr.same ((f2 rr (by omega) (fun hn=>by have:=hD hn; omega)).trans (f1 rr (by omega)))
 obtain ⟨O3,e3,hr3,f3⟩:=hr2.store 0 [s1] N1 G (Nat.le_of_ble_eq_true rfl) (by rw [List.all_cons,zkl]; rfl)
 obtain ⟨O4,e4,x4,_,f4⟩:=zcx bE (el:=5) (nvc i) O3 N1 G (st:=58) (v:=.int .u8 (nvc i)) (fun h=>by kernel_rfl)
 have e4':zas P ⟨O4,N1+1,G⟩ 58 9 (.slc N1 0 0 1 1)=some (.str (nv i)):=by
  have hcv:∀ h:AHeap,zas P h 58 9 (.slc N1 0 0 1 1)=xw (za h N1 0 0 1):=fun h=>by kernel_rfl
  rcases x4 with ⟨h,_⟩ | ⟨ri,z,off,cap,h,_,_,_,rd⟩ | ⟨ri,z,st,h,_⟩
  · cases h
  · cases h
    rw [hcv,rd.load (n:=1) rfl]
    rfl
  · cases h
 obtain ⟨O5,e5,b5,f5⟩:=Obj.mk (c:=(.node (.node (.node .leaf (some (.nils 0 0)) .leaf) (some (.str [])) .leaf) (some (.int .i64 (IntKind.i64.wrap ((1:Int)+IntKind.i64.wrap (n.tmod (5:Int)))))) (.node (.node .leaf (some .nilp) .leaf) (some (.nils 0 0)) .leaf))) (el:=63) (tc (kd n)) O4 (N1+1) 5 rfl (fun u hu=>by rcases u with _ | _ | _ | _ | _ | u <;> first | rfl | omega)
 obtain ⟨O6,e6,x6,_,f6⟩:=zcx vE (el:=65) (nv i,N1+1) O5 (N1+2) G (st:=33) (v:=.agg [.str (nv i),.ptr (N1+1) 0 0]) (fun h=>by kernel_rfl)
 have c6:∀ j,j<N→j≠rr→(d≠.nils 0 0→j≠sid d)→O6.get j=O.get j:=fun j hj h1 h2=>(f6 j (by omega)).trans ((f5 j (by omega)).trans ((f4 j (by omega)).trans ((f3 j h1).trans ((f2 j (by omega) h2).trans (f1 j (by omega))))))
 have hv6:GV O6 65 2 wf lo (N1+2+1) (vl f i) v:=hv.same (fun hn=>c6 _ (hV hn).2 (by have:=hV hn; omega) (fun h=>(hdv h hn).symm)) (Nat.le_refl _) (by omega)
 obtain ⟨O7,N2,s2,e7,y2,n2,n2',f7,i2,g2⟩:=GV.app2 vS vE hv6 x6 (by omega) (by rw [qK]; simp only [List.length_cons,List.length_nil]; omega) G
 have g2:=g2 (by simp)
 have s2n:s2≠.nils 0 0:=by obtain ⟨_,_,_,_,_,e⟩:=g2; rw [e]; simp
 have i2':sid s2=N1+2+1∨(v≠.nils 0 0∧sid s2=sid v):=by
  rcases i2 with h | h | h
  · exact absurd h s2n
  · exact .inl h
  · exact .inr h
 have l2:=y2.sid_lt s2n
 have one2:=(y2.sv vE).one
 have hr7:Obj O7 rr [s1,.str pa,.bool br,v,t,.int .u64 co]:=hr3.same ((f7 rr (by omega) (fun hn=>by have:=hV hn; omega)).trans ((f6 rr (by omega)).trans ((f5 rr (by omega)).trans (f4 rr (by omega)))))
 obtain ⟨O8,e8,hr8,f8⟩:=hr7.store 3 [s2] N2 G (Nat.le_of_ble_eq_true rfl) (by rw [List.all_cons,one2]; rfl)
 obtain ⟨O9,e9,b9,f9⟩:=Obj.mk (c:=(.node (.node (.node .leaf (some (.nils 0 0)) .leaf) (some (.str [])) .leaf) (some (.int .i64 2)) (.node (.node .leaf (some .nilp) .leaf) (some (.nils 0 0)) .leaf))) (el:=63) (tc 2) O8 N2 5 rfl (fun u hu=>by rcases u with _ | _ | _ | _ | _ | u <;> first | rfl | omega)
 obtain ⟨O10,e10,x10,_,f10⟩:=zcx vE (el:=65) ([UInt8.ofNat (84)],N2) O9 (N2+1) G (st:=33) (v:=.agg [.str [UInt8.ofNat (84)],.ptr N2 0 0]) (fun h=>by kernel_rfl)
 have c10:∀ j,j<N→j≠rr→(d≠.nils 0 0→j≠sid d)→(v≠.nils 0 0→j≠sid v)→O10.get j=O.get j:=fun j hj h1 h2 h3=>(f10 j (by omega)).trans ((f9 j (by omega)).trans ((f8 j h1).trans ((f7 j (by omega) h3).trans (c6 j hj h1 h2))))
 have ht10:GV O10 65 2 wf lo (N2+1+1) (tl g i) t:=ht.same (fun hn=>c10 _ (hT hn).2 (by have:=hT hn; omega) (fun h=>(hdt h hn).symm) (fun h=>(hvt h hn).symm)) (Nat.le_refl _) (by omega)
 obtain ⟨O11,N3,s3,e11,y3,n3,n3',f11,i3,g3⟩:=GV.app2 vS vE ht10 x10 (by omega) (by rw [qH]; simp only [List.length_cons,List.length_nil]; omega) G
 have g3:=g3 (by simp)
 have s3n:s3≠.nils 0 0:=by obtain ⟨_,_,_,_,_,e⟩:=g3; rw [e]; simp
 have i3':sid s3=N2+1+1∨(t≠.nils 0 0∧sid s3=sid t):=by
  rcases i3 with h | h | h
  · exact absurd h s3n
  · exact .inl h
  · exact .inr h
 have l3:=y3.sid_lt s3n
 have one3:=(y3.sv vE).one
 have hr11:Obj O11 rr [s1,.str pa,.bool br,s2,t,.int .u64 co]:=hr8.same ((f11 rr (by omega) (fun hn=>by have:=hT hn; omega)).trans ((f10 rr (by omega)).trans (f9 rr (by omega))))
 obtain ⟨O12,e12,hr12,f12⟩:=hr11.store 4 [s3] N3 G (Nat.le_of_ble_eq_true rfl) (by rw [List.all_cons,one3]; rfl)
 have c12:∀ j,j<N→j≠rr→(d≠.nils 0 0→j≠sid d)→(v≠.nils 0 0→j≠sid v)→(t≠.nils 0 0→j≠sid t)→O12.get j=O.get j:=fun j hj h1 h2 h3 h4=>(f12 j h1).trans ((f11 j (by omega) h4).trans (c10 j hj h1 h2 h3))
 have u7:∀ j,j<N2→j≠rr→(t≠.nils 0 0→j≠sid t)→O12.get j=O7.get j:=fun j hj h1 h4=>(f12 j h1).trans ((f11 j (by omega) h4).trans ((f10 j (by omega)).trans ((f9 j (by omega)).trans (f8 j h1))))
 have u5:∀ j,j<N1+2→j≠rr→(v≠.nils 0 0→j≠sid v)→(t≠.nils 0 0→j≠sid t)→O12.get j=O5.get j:=fun j hj h1 h3 h4=>(u7 j (by omega) h1 h4).trans ((f7 j (by omega) h3).trans (f6 j (by omega)))
 have u2:∀ j,j<N1→j≠rr→(v≠.nils 0 0→j≠sid v)→(t≠.nils 0 0→j≠sid t)→O12.get j=O2.get j:=fun j hj h1 h3 h4=>(u5 j (by omega) h1 h3 h4).trans ((f5 j (by omega)).trans ((f4 j (by omega)).trans (f3 j h1)))
 have a1:v≠.nils 0 0→sid s1≠sid v:=fun hn=>by
  have:=hV hn
  rcases i1' with h | ⟨h,e⟩
  · omega
  · rw [e]; exact hdv h hn
 have a2:t≠.nils 0 0→sid s1≠sid t:=fun hn=>by
  have:=hT hn
  rcases i1' with h | ⟨h,e⟩
  · omega
  · rw [e]; exact hdt h hn
 have a3:t≠.nils 0 0→sid s2≠sid t:=fun hn=>by
  have:=hT hn
  rcases i2' with h | ⟨h,e⟩
  · omega
  · rw [e]; exact hvt h hn
 refine ⟨O1,O2,N1,s1,O3,O4,O5,O6,O7,N2,s2,O8,O9,O10,O11,N3,s3,O12,e1,e2,st1 (zbZ zkl) e3,hr3.load 3 _ _ (Nat.le_of_ble_eq_true rfl),e4,e4',e5,e6,e7,st1 (zbZ one2) e8,hr8.load 4 _ _ (Nat.le_of_ble_eq_true rfl),e9,e10,e11,st1 (zbZ one3) e12,?_,hr12,by omega,fun j hj h1=>c12 j (by omega) h1 (fun hn=>by have:=hD hn; omega) (fun hn=>by have:=hV hn; omega) (fun hn=>by have:=hT hn; omega),g1,g2,g3⟩
 refine ⟨?_,?_,?_,fun _ _=>?_,fun _ _=>?_,fun _ _=>?_,fun j hj=>?_,fun j hj _=>?_,fun j hj _=>?_,fun j hj _=>?_⟩
 · have:=y1.same (O':=O12) (fun _=>u2 _ l1.2 (by omega) a1 a2) (Nat.le_refl _) (show N1≤N3 by omega)
   rw [zmy] at this
   exact this
 · have:=y2.same (O':=O12) (fun _=>u7 _ l2.2 (by omega) a3) (Nat.le_refl _) (show N2≤N3 by omega)
   rw [zmC] at this
   exact this
 · have:=y3.same (O':=O12) (fun _=>f12 _ (by omega)) (Nat.le_refl _) (Nat.le_refl N3)
   rw [zmd] at this
   exact this
 · rcases i2' with h | ⟨h,e⟩
   · omega
   · rw [e]; exact a1 h
 · rcases i3' with h | ⟨h,e⟩
   · omega
   · rw [e]; exact a2 h
 · rcases i3' with h | ⟨h,e⟩
   · omega
   · rw [e]; exact a3 h
 · by_cases hji:j=i
   · subst hji
     unfold upf
     rw [if_pos rfl,if_pos rfl]
     refine ⟨⟨by omega,by omega,b5.same (u5 _ (by omega) (by omega) (fun hn=>by have:=hV hn; omega) (fun hn=>by have:=hT hn; omega))⟩,by omega,by omega,b9.same ?_⟩
     exact (f12 _ (by omega)).trans ((f11 _ (by omega) (fun hn=>by have:=hT hn; omega)).trans (f10 _ (by omega)))
   · obtain ⟨⟨p1,p2,p3⟩,q1,q2,q3⟩:=ho j (by omega)
     unfold upf
     rw [if_neg hji,if_neg hji]
     exact ⟨⟨p1,by omega,p3.same (c12 _ p2 (by omega) (fun hn=>(hsd j (by omega) hn).1) (fun hn=>(hsv j (by omega) hn).1) (fun hn=>(hst j (by omega) hn).1))⟩,q1,by omega,q3.same (c12 _ q2 (by omega) (fun hn=>(hsd j (by omega) hn).2) (fun hn=>(hsv j (by omega) hn).2) (fun hn=>(hst j (by omega) hn).2))⟩
 · unfold upf
   by_cases hji:j=i
   · rw [if_pos hji,if_pos hji]; omega
   · rw [if_neg hji,if_neg hji]
     have hh:=ho j (by omega)
     rcases i1' with h | ⟨h,e⟩
     · omega
     · rw [e]; exact hsd j (by omega) h
 · unfold upf
   by_cases hji:j=i
   · rw [if_pos hji,if_pos hji]
     rcases i2' with h | ⟨h,e⟩
     · omega
     · have:=hV h; omega
   · rw [if_neg hji,if_neg hji]
     have hh:=ho j (by omega)
     rcases i2' with h | ⟨h,e⟩
     · omega
     · rw [e]; exact hsv j (by omega) h
 · unfold upf
   by_cases hji:j=i
   · rw [if_pos hji,if_pos hji]
     rcases i3' with h | ⟨h,e⟩
     · omega
     · have:=hT h; omega
   · rw [if_neg hji,if_neg hji]
     have hh:=ho j (by omega)
     rcases i3' with h | ⟨h,e⟩
     · omega
     · rw [e]; exact hst j (by omega) h
theorem RB.keep {N':Nat}(h:RB O lo N n i d v t f g)(e:∀ j,lo≤j→j<N→O'.get j=O.get j)(hN:N≤N'):RB O' lo N' n i d v t f g:=by
 obtain ⟨hd,hv,ht,hdv,hdt,hvt,ho,hsd,hsv,hst⟩:=h
 refine ⟨hd.keep e (Nat.le_refl _) hN,hv.keep e (Nat.le_refl _) hN,ht.keep e (Nat.le_refl _) hN,hdv,hdt,hvt,fun j hj=>?_,hsd,hsv,hst⟩
 obtain ⟨⟨p1,p2,p3⟩,q1,q2,q3⟩:=ho j hj
 exact ⟨⟨p1,by omega,p3.same (e _ p1 p2)⟩,q1,by omega,q3.same (e _ q1 q2)⟩
def qn (n:Int):Nat:=n.toNat % 4
theorem znR (h:0≤n∧n≤255):IntKind.i64.wrap (n.tmod (4:Int))=((qn n:Nat):Int):=by
 have e:n.tmod 4=((n.toNat % 4:Nat):Int):=by
  rw [Int.tmod_eq_emod_of_nonneg h.1]
  omega
 rw [e,IntKind.wrap_i64]
 unfold qn
 omega
theorem zeP:qn n<4:=Nat.mod_lt _ (by decide)
def Sh (i:Nat) (d v t:AV):Prop:=(i=0∧d=.nils 0 0∧v=.nils 0 0∧t=.nils 0 0)∨((∃ r q o m u,d=.slg r q o m u)∧(∃ r q o m u,v=.slg r q o m u)∧∃ r q o m u,t=.slg r q o m u)
theorem znU (hn:0≤n∧n≤255){r0:Nat}(h0:r0<rr)(h1:rr<lo){OO:T AObj}{keep:Nat}{f0:FuncId}{Q:AV→AHeap→Prop}{rest:List AFrame}
 (hK:∀ (O':T AObj) (N':Nat) (td:List AItem) (d v t:AV) (f g:Nat→Nat),RB O' lo N' n (qn n) d v t f g→Sh (qn n) d v t→Obj O' r0 [d,.str pa,.bool br,v,t,.int .u64 co]→lo≤N'→(∀ j,j<r0→O'.get j=OO.get j)→Goal P keep f0 Q (AM.mk (RF 7 59 (.node .leaf none (.node .leaf (some (.ptr r0 0 0)) .leaf)) td) rest ⟨O',N',G⟩)) :
 ∀ (k i:Nat) (O:T AObj) (N:Nat) (d v t:AV) (f g:Nat→Nat),i+k=qn n→RB O lo N n i d v t f g→Sh i d v t→Obj O rr [d,.str pa,.bool br,v,t,.int .u64 co]→Obj O r0 [.nils 0 0,.str [],.bool false,.nils 0 0,.nils 0 0,.int .u64 0]→lo≤N→(∀ j,j<r0→O.get j=OO.get j)→Goal P keep f0 Q (WR n r0 rr ((i:Nat):Int) rest O N G)
 | k,i,O,N,d,v,t,f,g,hk,h,hs,hr,hz,hN,low=>by
  have hq:=zeP (n:=n)
  cases k with
  | zero =>
   have hi:i=qn n:=hk
   subst hi
   have hd:decide (((qn n:Nat):Int)<IntKind.i64.wrap (n.tmod (4:Int)))=false:=by rw [znR hn]; exact decide_eq_false (by omega)
   have one:[d,.str pa,.bool br,v,t,.int .u64 co].all AV.one=true:=by
    simp only [List.all_cons,List.all_nil,(h.pd.sv dE).one,(h.pv.sv vE).one,(h.pt.sv vE).one]
    rfl
   obtain ⟨O1,s1,z1,f1⟩:=hz.store 0 [d,.str pa,.bool br,v,t,.int .u64 co] N G (Nat.le_of_ble_eq_true rfl) one
   have ld:za ⟨O,N,G⟩ rr 0 0 6=some [d,.str pa,.bool br,v,t,.int .u64 co]:=hr.loads 0 6 N G (Nat.le_of_ble_eq_true rfl)
   have nx:=fun td=>hK O1 N td d v t f g (h.keep (fun j hj _=>f1 j (by omega)) (Nat.le_refl _)) hs z1 hN (fun j hj=>(f1 j (by omega)).trans (low j hj))
   rcases hs with ⟨_,rfl,rfl,rfl⟩ | ⟨⟨dJ,dq,dz,nD,ds,rfl⟩,⟨vJ,vq,vz,nV,vs,rfl⟩,tJ,tq,tz,nT,ts,rfl⟩
   · exact (Obl.goal mix (K:=Goal P keep f0 Q) (fun _ h=>h) (cast (q_rln Q keep f0 rest N O pa br co n r0 rr ((qn n:Nat):Int) O1 G (Goal P keep f0 Q)).symm ⟨hd,ld,s1,nx _⟩))
   · exact (Obl.goal mix (K:=Goal P keep f0 Q) (fun _ h=>h) (cast (q_rgn Q keep f0 rest N O pa br co n dq dz ds vq vz vs tq tz ts dJ vJ tJ nD nV nT r0 rr ((qn n:Nat):Int) O1 G (Goal P keep f0 Q)).symm ⟨hd,ld,s1,nx _⟩))
  | succ k =>
   have hd:decide (((i:Nat):Int)<IntKind.i64.wrap (n.tmod (4:Int)))=true:=by rw [znR hn]; exact decide_eq_true (by omega)
   have w:IntKind.i64.wrap (((i:Nat):Int)+(1:Int))=((i+1:Nat):Int):=by rw [IntKind.wrap_i64]; omega
   obtain ⟨O1,O2,N1,s1,O3,O4,O5,O6,O7,N2,s2,O8,O9,O10,O11,N3,s3,O12,e1,e2,e3,e4,e5,e6,e7,e8,e9,e10,e11,e12,e13,e14,e15,h',hr',hN',low',g1,g2,g3⟩:=stepR h hr h1 hN (by omega) G
   have ih:=znU hn h0 h1 hK k (i+1) O12 N3 s1 s2 s3 _ _ (by omega) h' (.inr ⟨g1,g2,g3⟩) hr' (hz.same (low' _ (by omega) (by omega))) (by omega) (fun j hj=>(low' j (by omega) (by omega)).trans (low j hj))
   rw [← w] at ih
   have ld:=hr.load 0 N G (Nat.le_of_ble_eq_true rfl)
   rcases hs with ⟨_,rfl,rfl,rfl⟩ | ⟨⟨dJ,dq,dz,nD,ds,rfl⟩,⟨vJ,vq,vz,nV,vs,rfl⟩,tJ,tq,tz,nT,ts,rfl⟩
   · exact (Obl.goal mix (K:=Goal P keep f0 Q) (fun _ h=>h) (cast (q_rly Q keep f0 rest N O n r0 rr ((i:Nat):Int) O1 O2 O3 O4 O5 O6 O7 O8 O9 O10 O11 O12 N1 N2 N3 s1 s2 s3 (nv i) G (Goal P keep f0 Q)).symm ⟨hd,ld,e1,e2,e3,e4,e5,e6,e7,e8,e9,e10,e11,e12,e13,e14,e15,ih⟩))
   · exact (Obl.goal mix (K:=Goal P keep f0 Q) (fun _ h=>h) (cast (q_rgy Q keep f0 rest N O n dq dz ds vq vz vs tq tz ts dJ vJ tJ nD nV nT r0 rr ((i:Nat):Int) O1 O2 O3 O4 O5 O6 O7 O8 O9 O10 O11 O12 N1 N2 N3 s1 s2 s3 (nv i) G (Goal P keep f0 Q)).symm ⟨hd,ld,e1,e2,e3,e4,e5,e6,e7,e8,e9,e10,e11,e12,e13,e14,e15,ih⟩))
theorem zb1 (hn:0≤n∧n≤255){keep:Nat}{f0:FuncId}{Q:AV→AHeap→Prop}{rest:List AFrame}
 (hK:∀ (O':T AObj) (N':Nat) (td:List AItem) (d v t:AV) (f g:Nat→Nat),RB O' (N+2) N' n (qn n) d v t f g→Sh (qn n) d v t→Obj O' N [d,.str wm,.bool (n.tmod (5:Int)==(0:Int)),v,t,.int .u64 (IntKind.u64.wrap n)]→N+2≤N'→(∀ j,j<N→O'.get j=O.get j)→Goal P keep f0 Q (AM.mk (RF 7 59 (.node .leaf none (.node .leaf (some (.ptr N 0 0)) .leaf)) td) rest ⟨O',N',G⟩)) :
 Goal P keep f0 Q (AM.mk (enF 7 [.int .u8 n]) rest ⟨O,N,G⟩):=by
 obtain ⟨O1,t1,b1,g1⟩:=Obj.mk (c:=(.node (.node (.node .leaf (some (.nils 0 0)) .leaf) (some (.str [])) (.node .leaf (some (.int .u64 0)) .leaf)) (some (.nils 0 0)) (.node (.node .leaf (some (.nils 0 0)) .leaf) (some (.bool false)) .leaf))) (el:=38) [.nils 0 0,.str [],.bool false,.nils 0 0,.nils 0 0,.int .u64 0] O N 6 rfl (fun u hu=>by rcases u with _ | _ | _ | _ | _ | _ | u <;> first | rfl | omega)
 obtain ⟨O2,t2,b2,g2⟩:=Obj.mk (c:=(.node (.node (.node .leaf (some (.nils 0 0)) .leaf) (some (.str [])) (.node .leaf (some (.int .u64 0)) .leaf)) (some (.nils 0 0)) (.node (.node .leaf (some (.nils 0 0)) .leaf) (some (.bool false)) .leaf))) (el:=38) [.nils 0 0,.str [],.bool false,.nils 0 0,.nils 0 0,.int .u64 0] O1 (N+1) 6 rfl (fun u hu=>by rcases u with _ | _ | _ | _ | _ | _ | u <;> first | rfl | omega)
 obtain ⟨O3,s3,b3,f3⟩:=b2.store 0 [.nils 0 0,.str wm,.bool (n.tmod (5:Int)==(0:Int)),.nils 0 0,.nils 0 0,.int .u64 (IntKind.u64.wrap n)] (N+2) G (Nat.le_of_ble_eq_true rfl) rfl
 exact (Obl.goal mix (K:=Goal P keep f0 Q) (fun _ h=>h) (cast (q_re Q keep f0 rest N O n O1 O2 O3 G (Goal P keep f0 Q)).symm ⟨t1,t2,s3,znU (lo:=N+2) hn (by omega) (by omega) hK (qn n) 0 O3 (N+2) (.nils 0 0) (.nils 0 0) (.nils 0 0) (fun _=>0) (fun _=>0) (Nat.zero_add _) ⟨GV.nil,GV.nil,GV.nil,fun h=>absurd rfl h,fun h=>absurd rfl h,fun h=>absurd rfl h,fun j hj=>absurd hj (Nat.not_lt_zero j),fun j hj=>absurd hj (Nat.not_lt_zero j),fun j hj=>absurd hj (Nat.not_lt_zero j),fun j hj=>absurd hj (Nat.not_lt_zero j)⟩ (.inl ⟨rfl,rfl,rfl,rfl⟩) b3 ((b1.same (g2 N (by omega))).same (f3 N (by omega))) (Nat.le_refl _) (fun j hj=>(f3 j (by omega)).trans ((g2 j (by omega)).trans (g1 j (by omega))))⟩))
end Go.Proofs.Ytehelionjafnkaa.gx
end
section
set_option maxRecDepth 100000
set_option linter.unusedVariables false
namespace Go.Proofs.Ytehelionjafnkaa.gx
open Go Ev
variable {O O':T AObj} {N:Nat} {G:T (T AV)} {n:Int} {i lo dI vI tI:Nat} {d v t:AV} {f g f' g':Nat→Nat}
abbrev RC (n:Int) (dI vI tI:Nat):List AV:=[.slc dI 0 0 (qn n) (qn n),.str wm,.bool (n.tmod (5:Int)==(0:Int)),.slc vI 0 0 (qn n) (qn n),.slc tI 0 0 (qn n) (qn n),.int .u64 (IntKind.u64.wrap n)]
structure VAL (O:T AObj) (n:Int) (dI vI tI:Nat) (f g:Nat→Nat):Prop where
 rd:Rd O dI 0 0 ((dl n (qn n)).flatMap zb8)
 rv:Rd O vI 0 0 ((vl f (qn n)).flatMap wf)
 rt:Rd O tI 0 0 ((tl g (qn n)).flatMap wf)
 o:∀ j,j<qn n→Obj O (f j) (tc (kd n))∧Obj O (g j) (tc 2)
def Vid (n:Int) (dI vI tI:Nat) (f g:Nat→Nat) (j:Nat):Prop:=j=dI∨j=vI∨j=tI∨∃ k,k<qn n∧(j=f k∨j=g k)
theorem VAL.same (h:VAL O n dI vI tI f g)(e:∀ j,Vid n dI vI tI f g j→O'.get j=O.get j):VAL O' n dI vI tI f g :=
 ⟨h.rd.same (e _ (.inl rfl)),h.rv.same (e _ (.inr (.inl rfl))),h.rt.same (e _ (.inr (.inr (.inl rfl)))),fun j hj=>⟨(h.o j hj).1.same (e _ (.inr (.inr (.inr ⟨j,hj,.inl rfl⟩)))),(h.o j hj).2.same (e _ (.inr (.inr (.inr ⟨j,hj,.inr rfl⟩))))⟩⟩
theorem znB (h:i<qn n):(dl n (qn n))[i]?=some (wm,IntKind.i64.wrap n,IntKind.i64.wrap ((1:Int)+((i:Nat):Int))):=by
 unfold dl
 rw [List.getElem?_map,List.getElem?_range h]
 rfl
theorem zkp (h:i<qn n):(vl f (qn n))[i]?=some (nv i,f i):=by
 unfold vl
 rw [List.getElem?_map,List.getElem?_range h]
 rfl
theorem zkT (h:i<qn n):(tl f (qn n))[i]?=some ([UInt8.ofNat (84)],f i):=by
 unfold tl
 rw [List.getElem?_map,List.getElem?_range h]
 rfl
theorem neD (h:AHeap)(l:List UInt8)(a b:Int):zgT P h .neq 57 false (.agg [.str l,.int .i64 a,.int .i64 b]) (.agg [.str l,.int .i64 a,.int .i64 b])=some (.bool false):=by
 have e1:zgT P h .neq 57 false (.agg [.str l,.int .i64 a,.int .i64 b]) (.agg [.str l,.int .i64 a,.int .i64 b])=(match eqA P h 9 57 (.agg [.str l,.int .i64 a,.int .i64 b]) (.agg [.str l,.int .i64 a,.int .i64 b]) with | none=>none | some b=>some (.bool (!b))):=by kernel_rfl
 have e2:eqA P h 9 57 (.agg [.str l,.int .i64 a,.int .i64 b]) (.agg [.str l,.int .i64 a,.int .i64 b])=(match (l==l) with | true=>(match (a==a) with | true=>(match (b==b) with | true=>some true | false=>some false) | false=>some false) | false=>some false):=by kernel_rfl
 rw [e1,e2,beq_self_eq_true,beq_self_eq_true,beq_self_eq_true]
 rfl
theorem zc6 {α:Type}{sz:Nat}{enc:α→List AV}{lo hi:Nat}{xs:List α}{dJ dq dz nD ds:Nat}(h:SV O sz enc lo hi xs (.slg dJ dq dz nD ds)):nD=xs.length∧Rd O dJ dq dz (xs.flatMap enc):=by
 rcases h with ⟨h,_⟩ | ⟨ri,z,off,cap,h,_⟩ | ⟨ri,z,st,h,_,_,rd⟩
 · cases h
 · cases h
 · cases h
   exact ⟨rfl,rd⟩
end Go.Proofs.Ytehelionjafnkaa.gx
end
section
set_option maxRecDepth 100000
set_option linter.unusedVariables false
namespace Go.Proofs.Ytehelionjafnkaa.gx
open Go Ev
theorem q_phy (R:AV→AHeap→Prop)(keep:Nat)(f0:FuncId)(rest:List AFrame)(l:Nat)(k:List UInt8)(cap:Int)(N:Nat)(O:T AObj)(dI:Nat)(dN:Nat)(vI:Nat)(vN:Nat)(tI:Nat)(tN:Nat)(pa:List UInt8)(br:Bool)(co:Int)(O1:T AObj)(G:T (T AV))(K:AM→Prop):Obl P f0 (fun v h=>R v h) keep K [.run 2,.hop (.nilp) O1,.run 10,.hop (.int .i64 cap) O1,.run 3,.know 15 true,.run 2,.keep []] ((AM.mk (enF 23 [.ptr l 0 0,.str k,.agg [.slc dI 0 0 dN dN,.str pa,.bool br,.slc vI 0 0 vN vN,.slc tI 0 0 tN tN,.int .u64 co]]) rest ⟨O,N,G⟩))=((T.set ((some (.cells (.node (.node (.node .leaf (some (.slc vI 0 0 vN vN)) .leaf) (some (.str pa)) (.node .leaf (some (.int .u64 co)) .leaf)) (some (.slc dI 0 0 dN dN)) (.node (.node .leaf (some (.slc tI 0 0 tN tN)) .leaf) (some (.bool br)) .leaf)) 6 38 0 0 1 0 false .leaf))) (O) (N)=O1)∧(za (⟨O1,N+1,G⟩) (l) 0 0 1=(some [.int .i64 cap]))∧((cap==(0:Int))=true)∧K (AM.mk (RF 23 53 .leaf [.code (cd P 23 [1,0,1,0]),.code (cd P 23 [1,1])]) rest ⟨O1,N+1,G⟩)):=by kernel_rfl
theorem q_phn (R:AV→AHeap→Prop)(keep:Nat)(f0:FuncId)(rest:List AFrame)(l:Nat)(p:Nat)(mi:Nat)(a:Nat)(ao:Nat)(k:List UInt8)(cap:Int)(N:Nat)(O:T AObj)(e:Nat)(eo:Nat)(wn:Nat)(wo:Nat)(dI:Nat)(dN:Nat)(vI:Nat)(vN:Nat)(tI:Nat)(tN:Nat)(pa:List UInt8)(br:Bool)(co:Int)(O1:T AObj)(O2:T AObj)(O3:T AObj)(O4:T AObj)(O5:T AObj)(O6:T AObj)(O7:T AObj)(O8:T AObj)(G:T (T AV))(K:AM→Prop):Obl P f0 (fun v h=>R v h) keep K [.run 2,.hop (.nilp) O1,.run 10,.hop (.int .i64 cap) O1,.run 3,.know 15 false,.run 16,.callv [0] (.bool true),.run 9,.hop (.mp mi) O1,.run 1,.hop (.ptr p 0 0) O1,.run 16,.hop (.agg [.slc dI 0 0 dN dN,.str pa,.bool br,.slc vI 0 0 vN vN,.slc tI 0 0 tN tN,.int .u64 co]) O1,.run 2,.hop (.nilp) O2,.run 10,.hop (.ptr e 0 eo) O2,.run 4,.hop (.ptr wn 0 wo) O2,.run 4,.hop (.ptr wn 0 wo) O2,.run 4,.hop (.ptr e 0 eo) O2,.run 3,.hop (.nilp) O3,.run 3,.hop (.nilp) O4,.run 21,.hop (.ptr a 0 ao) O4,.run 3,.hop (.nilp) O5,.run 3,.hop (.nilp) O6,.run 6,.hop (.ptr a 0 ao) O6,.run 6,.hop (.nilp) O7,.run 4,.hop (.nilp) O8,.run 5,.keep []] ((AM.mk (enF 23 [.ptr l 0 0,.str k,.agg [.slc dI 0 0 dN dN,.str pa,.bool br,.slc vI 0 0 vN vN,.slc tI 0 0 tN tN,.int .u64 co]]) rest ⟨O,N,G⟩))=((T.set ((some (.cells (.node (.node (.node .leaf (some (.slc vI 0 0 vN vN)) .leaf) (some (.str pa)) (.node .leaf (some (.int .u64 co)) .leaf)) (some (.slc dI 0 0 dN dN)) (.node (.node .leaf (some (.slc tI 0 0 tN tN)) .leaf) (some (.bool br)) .leaf)) 6 38 0 0 1 0 false .leaf))) (O) (N)=O1)∧(za (⟨O1,N+1,G⟩) (l) 0 0 1=(some [.int .i64 cap]))∧((cap==(0:Int))=false)∧(Goal P 0 35 (fun x x_1=>x=AV.bool true) (yO P 35 [.str k] G))∧(za (⟨O1,N+1,G⟩) (l) 0 2 1=(some [.mp mi]))∧(xV P (⟨O1,N+1,G⟩) 71 (.mp mi) (.str k) (false)=(some (.ptr p 0 0)))∧(za (⟨O1,N+1,G⟩) (N) 0 0 6=(some [.slc dI 0 0 dN dN,.str pa,.bool br,.slc vI 0 0 vN vN,.slc tI 0 0 tN tN,.int .u64 co]))∧(zb (⟨O1,N+1,G⟩) (p) 0 3 ([.slc dI 0 0 dN dN,.str pa,.bool br,.slc vI 0 0 vN vN,.slc tI 0 0 tN tN,.int .u64 co])=(some ⟨O2,N+1,G⟩))∧(za (⟨O2,N+1,G⟩) (p) 0 1 1=(some [.ptr e 0 eo]))∧(za (⟨O2,N+1,G⟩) (p) 0 0 1=(some [.ptr wn 0 wo]))∧(za (⟨O2,N+1,G⟩) (p) 0 0 1=(some [.ptr wn 0 wo]))∧(za (⟨O2,N+1,G⟩) (p) 0 1 1=(some [.ptr e 0 eo]))∧(zb (⟨O2,N+1,G⟩) (e) 0 (eo) ([.ptr wn 0 wo])=(some ⟨O3,N+1,G⟩))∧(zb (⟨O3,N+1,G⟩) (wn) 0 (wo+1) ([.ptr e 0 eo])=(some ⟨O4,N+1,G⟩))∧(za (⟨O4,N+1,G⟩) (l) 0 4 1=(some [.ptr a 0 ao]))∧(zb (⟨O4,N+1,G⟩) (p) 0 0 ([.ptr l 0 3])=(some ⟨O5,N+1,G⟩))∧(zb (⟨O5,N+1,G⟩) (p) 0 1 ([.ptr a 0 ao])=(some ⟨O6,N+1,G⟩))∧(za (⟨O6,N+1,G⟩) (p) 0 1 1=(some [.ptr a 0 ao]))∧(zb (⟨O6,N+1,G⟩) (a) 0 (ao) ([.ptr p 0 0])=(some ⟨O7,N+1,G⟩))∧(zb (⟨O7,N+1,G⟩) (l) 0 4 ([.ptr p 0 0])=(some ⟨O8,N+1,G⟩))∧K (AM.mk (RF 23 53 .leaf [.code (cd P 23 [1,0,1,0]),.code (cd P 23 [1,1,1,1])]) rest ⟨O8,N+1,G⟩)):=by kernel_rfl
theorem znV (R:AV→AHeap→Prop)(keep:Nat)(f0:FuncId)(rest:List AFrame)(l:Nat)(y:Nat)(mi:Nat)(a:Nat)(ao:Nat)(k:List UInt8)(cap:Int)(kept:Int)(N:Nat)(O:T AObj)(e:Nat)(eo:Nat)(wn:Nat)(wo:Nat)(k2:List UInt8)(dI:Nat)(dN:Nat)(vI:Nat)(vN:Nat)(tI:Nat)(tN:Nat)(pa:List UInt8)(br:Bool)(co:Int)(O1:T AObj)(O2:T AObj)(O3:T AObj)(O4:T AObj)(O5:T AObj)(O6:T AObj)(O7:T AObj)(O8:T AObj)(O9:T AObj)(O10:T AObj)(O11:T AObj)(O12:T AObj)(G:T (T AV))(K:AM→Prop):Obl P f0 (fun v h=>R v h) keep K [.run 2,.hop (.nilp) O1,.run 10,.hop (.int .i64 cap) O1,.run 3,.know 15 false,.run 16,.callv [0] (.bool true),.run 9,.hop (.mp mi) O1,.run 1,.hop (.nilp) O1,.run 20,.hop (.int .i64 kept) O1,.run 3,.hop (.int .i64 cap) O1,.run 2,.know 38 true,.run 8,.hop (.ptr y 0 0) O1,.run 7,.hop (.str k2) O1,.run 1,.callv [0] (.bool true),.run 6,.hop (.mp mi) O1,.run 3,.hop (.str k2) O1,.hop (.tup []) O2,.run 6,.hop (.int .i64 kept) O2,.run 3,.hop (.nilp) O3,.run 9,.hop (.ptr e 0 eo) O3,.run 4,.hop (.ptr wn 0 wo) O3,.run 4,.hop (.ptr wn 0 wo) O3,.run 4,.hop (.ptr e 0 eo) O3,.run 3,.hop (.nilp) O4,.run 3,.hop (.nilp) O5,.run 10,.hop (.agg [.slc dI 0 0 dN dN,.str pa,.bool br,.slc vI 0 0 vN vN,.slc tI 0 0 tN tN,.int .u64 co]) O5,.run 1,.hop (.nilp) O6,.run 7,.hop (.str k) O6,.run 1,.callv [0] (.bool true),.run 6,.hop (.mp mi) O6,.run 3,.hop (.str k) O6,.run 1,.hop (.nilp) O7,.run 6,.hop (.int .i64 (IntKind.i64.wrap (kept - (1:Int)))) O7,.run 3,.hop (.nilp) O8,.run 17,.hop (.ptr a 0 ao) O8,.run 3,.hop (.nilp) O9,.run 3,.hop (.nilp) O10,.run 6,.hop (.ptr a 0 ao) O10,.run 6,.hop (.nilp) O11,.run 4,.hop (.nilp) O12,.run 8,.keep []] ((AM.mk (enF 23 [.ptr l 0 0,.str k,.agg [.slc dI 0 0 dN dN,.str pa,.bool br,.slc vI 0 0 vN vN,.slc tI 0 0 tN tN,.int .u64 co]]) rest ⟨O,N,G⟩))=((T.set ((some (.cells (.node (.node (.node .leaf (some (.slc vI 0 0 vN vN)) .leaf) (some (.str pa)) (.node .leaf (some (.int .u64 co)) .leaf)) (some (.slc dI 0 0 dN dN)) (.node (.node .leaf (some (.slc tI 0 0 tN tN)) .leaf) (some (.bool br)) .leaf)) 6 38 0 0 1 0 false .leaf))) (O) (N)=O1)∧(za (⟨O1,N+1,G⟩) (l) 0 0 1=(some [.int .i64 cap]))∧((cap==(0:Int))=false)∧(Goal P 0 35 (fun x x_1=>x=AV.bool true) (yO P 35 [.str k] G))∧(za (⟨O1,N+1,G⟩) (l) 0 2 1=(some [.mp mi]))∧(xV P (⟨O1,N+1,G⟩) 71 (.mp mi) (.str k) (false)=(some .nilp))∧(za (⟨O1,N+1,G⟩) (l) 0 1 1=(some [.int .i64 kept]))∧(za (⟨O1,N+1,G⟩) (l) 0 0 1=(some [.int .i64 cap]))∧(decide (kept≥cap)=true)∧(za (⟨O1,N+1,G⟩) (l) 0 3 1=(some [.ptr y 0 0]))∧(za (⟨O1,N+1,G⟩) (y) 0 2 1=(some [.str k2]))∧(Goal P 0 35 (fun x x_1=>x=AV.bool true) (yO P 35 [.str k2] G))∧(za (⟨O1,N+1,G⟩) (l) 0 2 1=(some [.mp mi]))∧(za (⟨O1,N+1,G⟩) (y) 0 2 1=(some [.str k2]))∧(zd P (⟨O1,N+1,G⟩) (Builtin.delete) ((some 71)) ((some 9)) ([.mp mi,.str k2])=(some (.val (.tup []) ⟨O2,N+1,G⟩)))∧(za (⟨O2,N+1,G⟩) (l) 0 1 1=(some [.int .i64 kept]))∧(zb (⟨O2,N+1,G⟩) (l) 0 1 ([.int .i64 (IntKind.i64.wrap (kept - (1:Int)))])=(some ⟨O3,N+1,G⟩))∧(za (⟨O3,N+1,G⟩) (y) 0 1 1=(some [.ptr e 0 eo]))∧(za (⟨O3,N+1,G⟩) (y) 0 0 1=(some [.ptr wn 0 wo]))∧(za (⟨O3,N+1,G⟩) (y) 0 0 1=(some [.ptr wn 0 wo]))∧(za (⟨O3,N+1,G⟩) (y) 0 1 1=(some [.ptr e 0 eo]))∧(zb (⟨O3,N+1,G⟩) (e) 0 (eo) ([.ptr wn 0 wo])=(some ⟨O4,N+1,G⟩))∧(zb (⟨O4,N+1,G⟩) (wn) 0 (wo+1) ([.ptr e 0 eo])=(some ⟨O5,N+1,G⟩))∧(za (⟨O5,N+1,G⟩) (N) 0 0 6=(some [.slc dI 0 0 dN dN,.str pa,.bool br,.slc vI 0 0 vN vN,.slc tI 0 0 tN tN,.int .u64 co]))∧(T.set ((some (.cells (.node (.node (.node (.node .leaf (some (.slc tI 0 0 tN tN)) .leaf) (some (.slc dI 0 0 dN dN)) .leaf) (some .nilp) (.node .leaf (some (.bool br)) .leaf)) (some .nilp) (.node (.node (.node .leaf (some (.int .u64 co)) .leaf) (some (.str pa)) .leaf) (some (.str k)) (.node .leaf (some (.slc vI 0 0 vN vN)) .leaf))) 9 76 0 0 1 0 false .leaf))) (O5) (N+1)=O6)∧(za (⟨O6,N+2,G⟩) (N+1) 0 2 1=(some [.str k]))∧(Goal P 0 35 (fun x x_1=>x=AV.bool true) (yO P 35 [.str k] G))∧(za (⟨O6,N+2,G⟩) (l) 0 2 1=(some [.mp mi]))∧(za (⟨O6,N+2,G⟩) (N+1) 0 2 1=(some [.str k]))∧(yE P (⟨O6,N+2,G⟩) 71 (.mp mi) (.str k) (.ptr (N+1) 0 0)=(some ⟨O7,N+2,G⟩))∧(za (⟨O7,N+2,G⟩) (l) 0 1 1=(some [.int .i64 (IntKind.i64.wrap (kept - (1:Int)))]))∧(zb (⟨O7,N+2,G⟩) (l) 0 1 ([.int .i64 (IntKind.i64.wrap (IntKind.i64.wrap (kept - (1:Int))+(1:Int)))])=(some ⟨O8,N+2,G⟩))∧(za (⟨O8,N+2,G⟩) (l) 0 4 1=(some [.ptr a 0 ao]))∧(zb (⟨O8,N+2,G⟩) (N+1) 0 0 ([.ptr l 0 3])=(some ⟨O9,N+2,G⟩))∧(zb (⟨O9,N+2,G⟩) (N+1) 0 1 ([.ptr a 0 ao])=(some ⟨O10,N+2,G⟩))∧(za (⟨O10,N+2,G⟩) (N+1) 0 1 1=(some [.ptr a 0 ao]))∧(zb (⟨O10,N+2,G⟩) (a) 0 (ao) ([.ptr (N+1) 0 0])=(some ⟨O11,N+2,G⟩))∧(zb (⟨O11,N+2,G⟩) (l) 0 4 ([.ptr (N+1) 0 0])=(some ⟨O12,N+2,G⟩))∧K (AM.mk (RF 23 53 .leaf []) rest ⟨O12,N+2,G⟩)):=by kernel_rfl
theorem znL (R:AV→AHeap→Prop)(keep:Nat)(f0:FuncId)(rest:List AFrame)(l:Nat)(mi:Nat)(a:Nat)(ao:Nat)(k:List UInt8)(cap:Int)(kept:Int)(N:Nat)(O:T AObj)(dI:Nat)(dN:Nat)(vI:Nat)(vN:Nat)(tI:Nat)(tN:Nat)(pa:List UInt8)(br:Bool)(co:Int)(O1:T AObj)(O2:T AObj)(O3:T AObj)(O4:T AObj)(O5:T AObj)(O6:T AObj)(O7:T AObj)(O8:T AObj)(G:T (T AV))(K:AM→Prop):Obl P f0 (fun v h=>R v h) keep K [.run 2,.hop (.nilp) O1,.run 10,.hop (.int .i64 cap) O1,.run 3,.know 15 false,.run 16,.callv [0] (.bool true),.run 9,.hop (.mp mi) O1,.run 1,.hop (.nilp) O1,.run 20,.hop (.int .i64 kept) O1,.run 3,.hop (.int .i64 cap) O1,.run 2,.know 38 false,.run 5,.hop (.agg [.slc dI 0 0 dN dN,.str pa,.bool br,.slc vI 0 0 vN vN,.slc tI 0 0 tN tN,.int .u64 co]) O1,.run 1,.hop (.nilp) O2,.run 7,.hop (.str k) O2,.run 1,.callv [0] (.bool true),.run 6,.hop (.mp mi) O2,.run 3,.hop (.str k) O2,.run 1,.hop (.nilp) O3,.run 6,.hop (.int .i64 kept) O3,.run 3,.hop (.nilp) O4,.run 17,.hop (.ptr a 0 ao) O4,.run 3,.hop (.nilp) O5,.run 3,.hop (.nilp) O6,.run 6,.hop (.ptr a 0 ao) O6,.run 6,.hop (.nilp) O7,.run 4,.hop (.nilp) O8,.run 8,.keep []] ((AM.mk (enF 23 [.ptr l 0 0,.str k,.agg [.slc dI 0 0 dN dN,.str pa,.bool br,.slc vI 0 0 vN vN,.slc tI 0 0 tN tN,.int .u64 co]]) rest ⟨O,N,G⟩))=((T.set ((some (.cells (.node (.node (.node .leaf (some (.slc vI 0 0 vN vN)) .leaf) (some (.str pa)) (.node .leaf (some (.int .u64 co)) .leaf)) (some (.slc dI 0 0 dN dN)) (.node (.node .leaf (some (.slc tI 0 0 tN tN)) .leaf) (some (.bool br)) .leaf)) 6 38 0 0 1 0 false .leaf))) (O) (N)=O1)∧(za (⟨O1,N+1,G⟩) (l) 0 0 1=(some [.int .i64 cap]))∧((cap==(0:Int))=false)∧(Goal P 0 35 (fun x x_1=>x=AV.bool true) (yO P 35 [.str k] G))∧(za (⟨O1,N+1,G⟩) (l) 0 2 1=(some [.mp mi]))∧(xV P (⟨O1,N+1,G⟩) 71 (.mp mi) (.str k) (false)=(some .nilp))∧(za (⟨O1,N+1,G⟩) (l) 0 1 1=(some [.int .i64 kept]))∧(za (⟨O1,N+1,G⟩) (l) 0 0 1=(some [.int .i64 cap]))∧(decide (kept≥cap)=false)∧(za (⟨O1,N+1,G⟩) (N) 0 0 6=(some [.slc dI 0 0 dN dN,.str pa,.bool br,.slc vI 0 0 vN vN,.slc tI 0 0 tN tN,.int .u64 co]))∧(T.set ((some (.cells (.node (.node (.node (.node .leaf (some (.slc tI 0 0 tN tN)) .leaf) (some (.slc dI 0 0 dN dN)) .leaf) (some .nilp) (.node .leaf (some (.bool br)) .leaf)) (some .nilp) (.node (.node (.node .leaf (some (.int .u64 co)) .leaf) (some (.str pa)) .leaf) (some (.str k)) (.node .leaf (some (.slc vI 0 0 vN vN)) .leaf))) 9 76 0 0 1 0 false .leaf))) (O1) (N+1)=O2)∧(za (⟨O2,N+2,G⟩) (N+1) 0 2 1=(some [.str k]))∧(Goal P 0 35 (fun x x_1=>x=AV.bool true) (yO P 35 [.str k] G))∧(za (⟨O2,N+2,G⟩) (l) 0 2 1=(some [.mp mi]))∧(za (⟨O2,N+2,G⟩) (N+1) 0 2 1=(some [.str k]))∧(yE P (⟨O2,N+2,G⟩) 71 (.mp mi) (.str k) (.ptr (N+1) 0 0)=(some ⟨O3,N+2,G⟩))∧(za (⟨O3,N+2,G⟩) (l) 0 1 1=(some [.int .i64 kept]))∧(zb (⟨O3,N+2,G⟩) (l) 0 1 ([.int .i64 (IntKind.i64.wrap (kept+(1:Int)))])=(some ⟨O4,N+2,G⟩))∧(za (⟨O4,N+2,G⟩) (l) 0 4 1=(some [.ptr a 0 ao]))∧(zb (⟨O4,N+2,G⟩) (N+1) 0 0 ([.ptr l 0 3])=(some ⟨O5,N+2,G⟩))∧(zb (⟨O5,N+2,G⟩) (N+1) 0 1 ([.ptr a 0 ao])=(some ⟨O6,N+2,G⟩))∧(za (⟨O6,N+2,G⟩) (N+1) 0 1 1=(some [.ptr a 0 ao]))∧(zb (⟨O6,N+2,G⟩) (a) 0 (ao) ([.ptr (N+1) 0 0])=(some ⟨O7,N+2,G⟩))∧(zb (⟨O7,N+2,G⟩) (l) 0 4 ([.ptr (N+1) 0 0])=(some ⟨O8,N+2,G⟩))∧K (AM.mk (RF 23 53 .leaf []) rest ⟨O8,N+2,G⟩)):=by kernel_rfl
theorem q_gh (R:AV→AHeap→Prop)(keep:Nat)(f0:FuncId)(rest:List AFrame)(l:Nat)(p:Nat)(mi:Nat)(a:Nat)(ao:Nat)(k:List UInt8)(N:Nat)(O:T AObj)(e:Nat)(eo:Nat)(wn:Nat)(wo:Nat)(dI:Nat)(dN:Nat)(vI:Nat)(vN:Nat)(tI:Nat)(tN:Nat)(pa:List UInt8)(br:Bool)(co:Int)(O1:T AObj)(O2:T AObj)(O3:T AObj)(O4:T AObj)(O5:T AObj)(O6:T AObj)(O7:T AObj)(O8:T AObj)(G:T (T AV))(K:AM→Prop):Obl P f0 (fun v h=>R v h) keep K [.run 2,.hop (.nilp) O1,.run 24,.callv [0] (.bool true),.run 9,.hop (.mp mi) O1,.run 1,.hop (.ptr p 0 0) O1,.run 23,.hop (.ptr e 0 eo) O1,.run 4,.hop (.ptr wn 0 wo) O1,.run 4,.hop (.ptr wn 0 wo) O1,.run 4,.hop (.ptr e 0 eo) O1,.run 3,.hop (.nilp) O2,.run 3,.hop (.nilp) O3,.run 21,.hop (.ptr a 0 ao) O3,.run 3,.hop (.nilp) O4,.run 3,.hop (.nilp) O5,.run 6,.hop (.ptr a 0 ao) O5,.run 6,.hop (.nilp) O6,.run 4,.hop (.nilp) O7,.run 9,.hop (.agg [.slc dI 0 0 dN dN,.str pa,.bool br,.slc vI 0 0 vN vN,.slc tI 0 0 tN tN,.int .u64 co]) O7,.hop (.nilp) O8,.run 3,.keep [4,5]] ((AM.mk (enF 26 [.ptr l 0 0,.str k]) rest ⟨O,N,G⟩))=((T.set ((some (.cells (.node (.node (.node .leaf (some (.nils 0 0)) .leaf) (some (.str [])) (.node .leaf (some (.int .u64 0)) .leaf)) (some (.nils 0 0)) (.node (.node .leaf (some (.nils 0 0)) .leaf) (some (.bool false)) .leaf)) 6 38 0 0 1 0 false .leaf))) (O) (N)=O1)∧(Goal P 0 35 (fun x x_1=>x=AV.bool true) (yO P 35 [.str k] G))∧(za (⟨O1,N+1,G⟩) (l) 0 2 1=(some [.mp mi]))∧(xV P (⟨O1,N+1,G⟩) 71 (.mp mi) (.str k) (false)=(some (.ptr p 0 0)))∧(za (⟨O1,N+1,G⟩) (p) 0 1 1=(some [.ptr e 0 eo]))∧(za (⟨O1,N+1,G⟩) (p) 0 0 1=(some [.ptr wn 0 wo]))∧(za (⟨O1,N+1,G⟩) (p) 0 0 1=(some [.ptr wn 0 wo]))∧(za (⟨O1,N+1,G⟩) (p) 0 1 1=(some [.ptr e 0 eo]))∧(zb (⟨O1,N+1,G⟩) (e) 0 (eo) ([.ptr wn 0 wo])=(some ⟨O2,N+1,G⟩))∧(zb (⟨O2,N+1,G⟩) (wn) 0 (wo+1) ([.ptr e 0 eo])=(some ⟨O3,N+1,G⟩))∧(za (⟨O3,N+1,G⟩) (l) 0 4 1=(some [.ptr a 0 ao]))∧(zb (⟨O3,N+1,G⟩) (p) 0 0 ([.ptr l 0 3])=(some ⟨O4,N+1,G⟩))∧(zb (⟨O4,N+1,G⟩) (p) 0 1 ([.ptr a 0 ao])=(some ⟨O5,N+1,G⟩))∧(za (⟨O5,N+1,G⟩) (p) 0 1 1=(some [.ptr a 0 ao]))∧(zb (⟨O5,N+1,G⟩) (a) 0 (ao) ([.ptr p 0 0])=(some ⟨O6,N+1,G⟩))∧(zb (⟨O6,N+1,G⟩) (l) 0 4 ([.ptr p 0 0])=(some ⟨O7,N+1,G⟩))∧(za (⟨O7,N+1,G⟩) (p) 0 3 6=(some [.slc dI 0 0 dN dN,.str pa,.bool br,.slc vI 0 0 vN vN,.slc tI 0 0 tN tN,.int .u64 co]))∧(zb (⟨O7,N+1,G⟩) (N) 0 0 ([.slc dI 0 0 dN dN,.str pa,.bool br,.slc vI 0 0 vN vN,.slc tI 0 0 tN tN,.int .u64 co])=(some ⟨O8,N+1,G⟩))∧K (AM.mk (RF 26 25 (.node (.node .leaf none (.node .leaf (some (.bool true)) .leaf)) none (.node (.node .leaf (some (.ptr N 0 0)) .leaf) none .leaf)) [.code (cd P 26 [1,0,1,0,1])]) rest ⟨O8,N+1,G⟩)):=by kernel_rfl
theorem q_gm (R:AV→AHeap→Prop)(keep:Nat)(f0:FuncId)(rest:List AFrame)(l:Nat)(mi:Nat)(k:List UInt8)(N:Nat)(O:T AObj)(O1:T AObj)(O2:T AObj)(G:T (T AV))(K:AM→Prop):Obl P f0 (fun v h=>R v h) keep K [.run 2,.hop (.nilp) O1,.run 24,.callv [0] (.bool true),.run 9,.hop (.mp mi) O1,.run 1,.hop (.nilp) O1,.run 15,.hop (.agg [.nils 0 0,.str [],.bool false,.nils 0 0,.nils 0 0,.int .u64 0]) O1,.hop (.nilp) O2,.run 3,.keep [4,5]] ((AM.mk (enF 26 [.ptr l 0 0,.str k]) rest ⟨O,N,G⟩))=((T.set ((some (.cells (.node (.node (.node .leaf (some (.nils 0 0)) .leaf) (some (.str [])) (.node .leaf (some (.int .u64 0)) .leaf)) (some (.nils 0 0)) (.node (.node .leaf (some (.nils 0 0)) .leaf) (some (.bool false)) .leaf)) 6 38 0 0 1 0 false .leaf))) (O) (N)=O1)∧(Goal P 0 35 (fun x x_1=>x=AV.bool true) (yO P 35 [.str k] G))∧(za (⟨O1,N+1,G⟩) (l) 0 2 1=(some [.mp mi]))∧(xV P (⟨O1,N+1,G⟩) 71 (.mp mi) (.str k) (false)=(some .nilp))∧(za (⟨O1,N+1,G⟩) (N) 0 0 6=(some [.nils 0 0,.str [],.bool false,.nils 0 0,.nils 0 0,.int .u64 0]))∧(zb (⟨O1,N+1,G⟩) (N) 0 0 ([.nils 0 0,.str [],.bool false,.nils 0 0,.nils 0 0,.int .u64 0])=(some ⟨O2,N+1,G⟩))∧K (AM.mk (RF 26 25 (.node (.node .leaf none (.node .leaf (some (.bool false)) .leaf)) none (.node (.node .leaf (some (.ptr N 0 0)) .leaf) none .leaf)) [.code (cd P 26 [1,0,1,0,1]),.code (cd P 26 [1,1,1,1])]) rest ⟨O2,N+1,G⟩)):=by kernel_rfl
theorem q_cbA (R:AV→Prop)(k:List UInt8)(G:T (T AV))(_K:AM→Prop):Obl P 35 (fun v _=>R v) 0 _K [.run 32,.done] ((yO P 35 [.str k] G))=((R (.bool (k==k)))):=by kernel_rfl
def kcS (k:List UInt8):List AV:=[.str k]
theorem mS:MpT (κ:=List UInt8) 71 9 72 AV.str .nilp:=⟨by kernel_rfl,by kernel_rfl,fun k=>by kernel_rfl,fun h a b=>by kernel_rfl,fun k=>by simp [qJ]⟩
variable {O O':T AObj} {N l mi cap:Nat} {G:T (T AV)}
theorem zag {k:List UInt8}{G:T (T AV)}:Goal P 0 35 (fun x _=>x=AV.bool true) (yO P 35 [.str k] G) :=
 (oh (q_cbA (fun v=>v=.bool true) k G _).symm (by rw [beq_self_eq_true]))
theorem Dat.loadK {id:Nat}{k:List UInt8}{vs:List AV}(h:Dat O id (kcS k++vs))(N:Nat)(G:T (T AV)):za ⟨O,N,G⟩ id 0 2 1=some [.str k]:=by
 have h':Dat O id ([]++kcS k):=fun u v hu=>h u v (by
  rw [List.nil_append] at hu
  have:u<(kcS k).length:=(List.getElem?_eq_some_iff.1 hu).1
  rw [List.getElem?_append_left this]; exact hu)
 exact h'.load Nat.zero_lt_one N G rfl rfl
section
variable {L:List (Ent (List UInt8))} {k:List UInt8}
theorem zjx (h:LR O AV.str kcS 6 l mi cap L)(hl:l<N)(hm:mi<N)(hx:∀ x∈L,x.1<N)(hc:L.length<1000000000)(dI dN vI vN tI tN:Nat)(pa:List UInt8)(br:Bool)(co:Int){keep:Nat}{f0:FuncId}{Q:AV→AHeap→Prop}{rest:List AFrame}
 (hK:∀ (O':T AObj) (N':Nat) (L':List (Ent (List UInt8))) (td:List AItem),LR O' AV.str kcS 6 l mi cap L'→N≤N'→(∀ x∈L',x.1<N'∧(N≤x.1∨∃ y∈L,y.1=x.1))→L'.map (·.2)=zll cap k [.slc dI 0 0 dN dN,.str pa,.bool br,.slc vI 0 0 vN vN,.slc tI 0 0 tN tN,.int .u64 co] (L.map (·.2))→(∀ j,j<N→j≠l→j≠mi→(∀ y∈L,y.1≠j)→O'.get j=O.get j)→Goal P keep f0 Q (AM.mk (RF 23 53 .leaf td) rest ⟨O',N',G⟩)) :
 Goal P keep f0 Q (AM.mk (enF 23 [.ptr l 0 0,.str k,.agg [.slc dI 0 0 dN dN,.str pa,.bool br,.slc vI 0 0 vN vN,.slc tI 0 0 tN tN,.int .u64 co]]) rest ⟨O,N,G⟩):=by
 obtain ⟨P1,t1,b1,g1⟩:=Obj.mk (c:=(.node (.node (.node .leaf (some (.slc vI 0 0 vN vN)) .leaf) (some (.str pa)) (.node .leaf (some (.int .u64 co)) .leaf)) (some (.slc dI 0 0 dN dN)) (.node (.node .leaf (some (.slc tI 0 0 tN tN)) .leaf) (some (.bool br)) .leaf))) (el:=38) [.slc dI 0 0 dN dN,.str pa,.bool br,.slc vI 0 0 vN vN,.slc tI 0 0 tN tN,.int .u64 co] O N 6 rfl (fun u hu=>by rcases u with _ | _ | _ | _ | _ | _ | u <;> first | rfl | omega)
 have h:=h.low hl hm hx (fun j hj=>g1 j (by omega))
 have c0:=h.2.1.load (N+1) G
 have h':=h
 obtain ⟨h0,h1,h2,h3,h4,h5,h6,h7,h8,h9⟩:=h'
 by_cases hz:cap=0
 · subst hz
   have hL:L=[]:=List.eq_nil_of_length_eq_zero (by omega)
   subst hL
   exact (Obl.goal mix (K:=Goal P keep f0 Q) (fun _ h=>h) (cast (q_phy Q keep f0 rest l k ((0:Nat):Int) N O dI dN vI vN tI tN pa br co P1 G (Goal P keep f0 Q)).symm ⟨t1,c0,rfl,hK P1 (N+1) [] _ h (Nat.le_succ _) (fun x hx=>absurd hx List.not_mem_nil) rfl (fun j hj _ _ _=>g1 j (by omega))⟩))
 have hcz:(((cap:Nat):Int)==(0:Int))=false:=by rw [beq_eq_false_iff_ne]; omega
 by_cases hin:∃ x∈L,x.2.1=k
 · obtain ⟨p,hp,hpk⟩:=hin
   obtain ⟨u,w,rfl⟩:=zhc hp
   have hpl:=(h5 p hp).1
   have hlen:=(h5 p hp).2.2.2
   have hkl:(kcS p.2.1).length=1:=rfl
   obtain ⟨O1,s0,d0,b0⟩:=(h5 p hp).2.2.1.store (ws:=[.slc dI 0 0 dN dN,.str pa,.bool br,.slc vI 0 0 vN vN,.slc tI 0 0 tN tN,.int .u64 co]) (by omega) (by rw [hlen]; rfl) rfl (N+1) G
   obtain ⟨e,n,a,O2,O3,O4,O5,O6,O7,c1,c2,s1,s2,c3,s3,s4,c4,s5,s6,hLR,hget⟩:=move (kc:=kcS) (fun _=>Nat.zero_lt_succ _) h O1 b0 d0 rfl (N+1) G
   have hlook:=h8.hit mS hp hpk (fun y hy e=>zgI h7 p hp y hy e) (N+1) G
   rw [List.map_append,List.map_cons] at h7
   obtain ⟨m1,m2⟩:=yG h7
   have lbN:=b1.loads 0 6 (N+1) G (Nat.le_of_ble_eq_true rfl)
   refine (Obl.goal mix (K:=Goal P keep f0 Q) (fun _ h=>h) (cast (q_phn Q keep f0 rest l p.1 mi a.1 a.2 k ((cap:Nat):Int) N O e.1 e.2 n.1 n.2 dI dN vI vN tI tN pa br co P1 O1 O2 O3 O4 O5 O6 O7 G (Goal P keep f0 Q)).symm ⟨t1,c0,hcz,zag,h3.load _ _,hlook,lbN,s0,c1.load _ _,c2.load _ _,c2.load _ _,c1.load _ _,s1,s2,c3.load _ _,s3,s4,c4.load _ _,s5,s6,hK O7 (N+1) _ _ hLR (by omega) (fun x hx'=>?_) ?_ (fun j hj e1 e2 e3=>(hget j e1 e3).trans (g1 j (by omega)))⟩))
   · have:∃ y∈u++p::w,y.1=x.1:=by
      rcases List.mem_cons.1 hx' with rfl | hx'
      · exact ⟨p,hp,rfl⟩
      · refine ⟨x,?_,rfl⟩
        rcases List.mem_append.1 hx' with b | b
        · exact List.mem_append_left _ b
        · exact List.mem_append_right _ (List.mem_cons_of_mem _ b)
     obtain ⟨y,hy,e⟩:=this
     exact ⟨by have:=hx y hy; omega,.inr ⟨y,hy,e⟩⟩
   · unfold zll
     rw [if_neg hz,List.map_cons,List.map_append,List.map_append,List.map_cons,zkQ hpk ?_]
     · rw [List.take_of_length_le,hpk]
       simp only [List.length_append,List.length_cons,List.length_map] at h9 ⊢
       omega
     · intro q hq
       rw [← List.map_append] at hq
       obtain ⟨z,hz,rfl⟩:=List.mem_map.1 hq
       intro hzk
       rw [← List.map_append] at m2
       exact m2 (by rw [← hpk] at hzk; exact hzk▸List.mem_map_of_mem (f:=fun x:Ent _=>x.2.1) hz)
 · have hk:∀ x∈L,x.2.1≠k:=fun x hx e=>hin ⟨x,hx,e⟩
   have hlook:=h8.miss mS hk (N+1) G
   have hkq:∀ q∈L.map (·.2),q.1≠k:=fun q hq=>by obtain ⟨z,hz,rfl⟩:=List.mem_map.1 hq; exact hk z hz
   by_cases hful:L.length<cap
   · have lbN:=(b1).loads 0 6 (N+1) G (Nat.le_of_ble_eq_true rfl)
     obtain ⟨OA,sA,r1,f1⟩:=Obj.mk (c:=(.node (.node (.node (.node .leaf (some (.slc tI 0 0 tN tN)) .leaf) (some (.slc dI 0 0 dN dN)) .leaf) (some .nilp) (.node .leaf (some (.bool br)) .leaf)) (some .nilp) (.node (.node (.node .leaf (some (.int .u64 co)) .leaf) (some (.str pa)) .leaf) (some (.str k)) (.node .leaf (some (.slc vI 0 0 vN vN)) .leaf)))) (el:=76) ([.nilp,.nilp,.str k]++[.slc dI 0 0 dN dN,.str pa,.bool br,.slc vI 0 0 vN vN,.slc tI 0 0 tN tN,.int .u64 co]) P1 (N+1) 9 rfl (fun u hu=>by rcases u with _ | _ | _ | _ | _ | _ | _ | _ | _ | u <;> first | rfl | omega)
     obtain ⟨a,O2,O3,O4,O5,O6,O7,c2,s2,c3,s3,c4,s4,s5,c5,s6,s7,hLR,hD,hget⟩:=add (N:=N+1) (vs:=[.slc dI 0 0 dN dN,.str pa,.bool br,.slc vI 0 0 vN vN,.slc tI 0 0 tN tN,.int .u64 co]) mS h (by omega) (by omega) (fun x hx'=>by have:=hx x hx'; omega) hk hful r1 f1 rfl rfl (Nat.lt_of_lt_of_le (Nat.lt_succ_self 2) (Nat.le_of_ble_eq_true rfl)) (fun u v hu=>by rcases u with _ | _ | _ | _ | _ | _ | _ | u <;> first | (cases hu; exact ⟨Nat.le_of_ble_eq_true rfl,rfl⟩) | cases hu) rfl G
     have wk:IntKind.i64.wrap (((L.length:Nat):Int)+(1:Int))=((L.length+1:Nat):Int):=by rw [IntKind.wrap_i64]; omega
     have lk:=(hD.loadK)
     refine (Obl.goal mix (K:=Goal P keep f0 Q) (fun _ h=>h) (cast (znL Q keep f0 rest l mi a.1 a.2 k ((cap:Nat):Int) ((L.length:Nat):Int) N O dI dN vI vN tI tN pa br co P1 OA O2 O3 O4 O5 O6 O7 G (Goal P keep f0 Q)).symm ⟨t1,c0,hcz,zag,h3.load _ _,hlook,h2.load _ _,h1.load _ _,decide_eq_false (by omega),lbN,sA,lk (N+1+1) G,zag,c2.load _ _,lk (N+1+1) G,s2,c3.load _ _,by rw [wk]; exact s3,c4.load _ _,s4,s5,c5.load _ _,s6,s7,hK O7 (N+1+1) _ _ hLR (by omega) (fun x hx'=>?_) ?_ (fun j hj e1 e2 e3=>(hget j (by omega) e1 e2 e3).trans (g1 j (by omega)))⟩))
     · rcases List.mem_cons.1 hx' with rfl | hx'
       · exact ⟨Nat.lt_succ_self _,.inl (by show N≤N+1; omega)⟩
       · exact ⟨by have:=hx x hx'; omega,.inr ⟨x,hx',rfl⟩⟩
     · unfold zll
       rw [if_neg hz,List.map_cons,kQ hkq,List.take_of_length_le]
       rw [List.length_map]
       omega
   · have hlen:L.length=cap:=by omega
     obtain ⟨u,y,rfl⟩:∃ u y,L=u++[y]:=⟨L.dropLast,L.getLast (fun e=>by rw [e] at hlen; exact hz hlen.symm),(List.dropLast_concat_getLast _).symm⟩
     have hyl:=(h5 y (by simp)).2.2.2
     have yk:=(h5 y (by simp)).2.2.1.loadK
     obtain ⟨e,n,O1,O2,O3,O4,c1,s1,c3,s2,c4,c5,s3,s4,hLR4,hget4⟩:=drop mS h (some 9) (N+1) G
     have hx4:∀ x∈u,x.1<N:=fun x hx'=>hx x (List.mem_append_left _ hx')
     have hul:u.length<cap:=by rw [List.length_append] at hlen; simp only [List.length_cons,List.length_nil] at hlen; omega
     have lbN:=(b1.same (hget4 N (by omega) (by omega) (fun x hx'=>by have:=hx x hx'; omega))).loads 0 6 (N+1) G (Nat.le_of_ble_eq_true rfl)
     obtain ⟨OA,sA,r1,f1⟩:=Obj.mk (c:=(.node (.node (.node (.node .leaf (some (.slc tI 0 0 tN tN)) .leaf) (some (.slc dI 0 0 dN dN)) .leaf) (some .nilp) (.node .leaf (some (.bool br)) .leaf)) (some .nilp) (.node (.node (.node .leaf (some (.int .u64 co)) .leaf) (some (.str pa)) .leaf) (some (.str k)) (.node .leaf (some (.slc vI 0 0 vN vN)) .leaf)))) (el:=76) ([.nilp,.nilp,.str k]++[.slc dI 0 0 dN dN,.str pa,.bool br,.slc vI 0 0 vN vN,.slc tI 0 0 tN tN,.int .u64 co]) O4 (N+1) 9 rfl (fun u hu=>by rcases u with _ | _ | _ | _ | _ | _ | _ | _ | _ | u <;> first | rfl | omega)
     obtain ⟨a,P2',P3,P4,P5,P6,P7,k2,t2',k3,t3,k4,t4,t5,k5,t6,t7,hLR,hD,hget⟩:=add (N:=N+1) (vs:=[.slc dI 0 0 dN dN,.str pa,.bool br,.slc vI 0 0 vN vN,.slc tI 0 0 tN tN,.int .u64 co]) mS hLR4 (by omega) (by omega) (fun x hx'=>by have:=hx4 x hx'; omega) (fun x hx'=>hk x (List.mem_append_left _ hx')) hul r1 f1 rfl rfl (Nat.lt_of_lt_of_le (Nat.lt_succ_self 2) (Nat.le_of_ble_eq_true rfl)) (fun u v hu=>by rcases u with _ | _ | _ | _ | _ | _ | _ | u <;> first | (cases hu; exact ⟨Nat.le_of_ble_eq_true rfl,rfl⟩) | cases hu) rfl G
     have lk:=(hD.loadK)
     have e1:(((u++[y]).length:Nat):Int)=((u.length+1:Nat):Int):=by rw [List.length_append]; rfl
     have wd:IntKind.i64.wrap ((((u++[y]).length:Nat):Int) - (1:Int))=((u.length:Nat):Int):=by rw [e1,IntKind.wrap_i64]; omega
     have wk:IntKind.i64.wrap (((u.length:Nat):Int)+(1:Int))=((u.length+1:Nat):Int):=by rw [IntKind.wrap_i64]; omega
     refine (Obl.goal mix (K:=Goal P keep f0 Q) (fun _ h=>h) (cast (znV Q keep f0 rest l y.1 mi a.1 a.2 k ((cap:Nat):Int) (((u++[y]).length:Nat):Int) N O e.1 e.2 n.1 n.2 y.2.1 dI dN vI vN tI tN pa br co P1 O1 O2 O3 O4 OA P2' P3 P4 P5 P6 P7 G (Goal P keep f0 Q)).symm ⟨t1,c0,hcz,zag,h3.load _ _,hlook,h2.load _ _,h1.load _ _,decide_eq_true (by omega),c1.load _ _,yk (N+1) G,zag,h3.load _ _,yk (N+1) G,s1,c3.load _ _,by rw [wd]; exact s2,c4.load _ _,c5.load _ _,c5.load _ _,c4.load _ _,s3,s4,lbN,sA,lk (N+1+1) G,zag,k2.load _ _,lk (N+1+1) G,t2',by rw [wd]; exact k3.load _ _,by rw [wd,wk]; exact t3,k4.load _ _,t4,t5,k5.load _ _,t6,t7,hK P7 (N+1+1) _ _ hLR (by omega) (fun x hx'=>?_) ?_ (fun j hj e1 e2 e3=>((hget j (by omega) e1 e2 (fun z hz=>e3 z (List.mem_append_left _ hz))).trans (hget4 j e1 e2 e3)).trans (g1 j (by omega)))⟩))
     · rcases List.mem_cons.1 hx' with rfl | hx'
       · exact ⟨Nat.lt_succ_self _,.inl (by show N≤N+1; omega)⟩
       · exact ⟨by have:=hx4 x hx'; omega,.inr ⟨x,List.mem_append_left _ hx',rfl⟩⟩
     · unfold zll
       rw [if_neg hz,List.map_cons,kQ hkq,List.map_append,List.take_append_of_le_length,List.take_of_length_le]
       · rw [List.length_map]; omega
       · rw [List.length_map]; omega
theorem zmK (h:LR O AV.str kcS 6 l mi cap L)(hl:l<N)(hm:mi<N)(hx:∀ x∈L,x.1<N)(hsh:∀ x∈L,∃ (dI dN vI vN tI tN:Nat) (pa:List UInt8) (br:Bool) (co:Int),x.2.2=[.slc dI 0 0 dN dN,.str pa,.bool br,.slc vI 0 0 vN vN,.slc tI 0 0 tN tN,.int .u64 co]){keep:Nat}{f0:FuncId}{Q:AV→AHeap→Prop}{rest:List AFrame}
 (hM:(∀ x∈L,x.2.1≠k)→∀ O' td,LR O' AV.str kcS 6 l mi cap L→(∀ j,j<N→O'.get j=O.get j)→Obj O' N [.nils 0 0,.str [],.bool false,.nils 0 0,.nils 0 0,.int .u64 0]→Goal P keep f0 Q (AM.mk (RF 26 25 (.node (.node .leaf none (.node .leaf (some (.bool false)) .leaf)) none (.node (.node .leaf (some (.ptr N 0 0)) .leaf) none .leaf)) td) rest ⟨O',N+1,G⟩))
 (hH:∀ (p:Ent (List UInt8)) (dI dN vI vN tI tN:Nat) (pa:List UInt8) (br:Bool) (co:Int) (u w:List (Ent (List UInt8))) (O':T AObj) (td:List AItem),L=u++p::w→p.2.1=k→p.2.2=[.slc dI 0 0 dN dN,.str pa,.bool br,.slc vI 0 0 vN vN,.slc tI 0 0 tN tN,.int .u64 co]→LR O' AV.str kcS 6 l mi cap ((p.1,p.2.1,p.2.2)::(u++w))→(∀ j,j<N→j≠l→(∀ y∈L,y.1≠j)→O'.get j=O.get j)→Obj O' N [.slc dI 0 0 dN dN,.str pa,.bool br,.slc vI 0 0 vN vN,.slc tI 0 0 tN tN,.int .u64 co]→Goal P keep f0 Q (AM.mk (RF 26 25 (.node (.node .leaf none (.node .leaf (some (.bool true)) .leaf)) none (.node (.node .leaf (some (.ptr N 0 0)) .leaf) none .leaf)) td) rest ⟨O',N+1,G⟩)) :
 Goal P keep f0 Q (AM.mk (enF 26 [.ptr l 0 0,.str k]) rest ⟨O,N,G⟩):=by
 obtain ⟨P1,t1,b1,g1⟩:=Obj.mk (c:=(.node (.node (.node .leaf (some (.nils 0 0)) .leaf) (some (.str [])) (.node .leaf (some (.int .u64 0)) .leaf)) (some (.nils 0 0)) (.node (.node .leaf (some (.nils 0 0)) .leaf) (some (.bool false)) .leaf))) (el:=38) [.nils 0 0,.str [],.bool false,.nils 0 0,.nils 0 0,.int .u64 0] O N 6 rfl (fun u hu=>by rcases u with _ | _ | _ | _ | _ | _ | u <;> first | rfl | omega)
 have h':=h.low hl hm hx (fun j hj=>g1 j (by omega))
 obtain ⟨h0,h1,h2,h3,h4,h5,h6,h7,h8,h9⟩:=id h'
 by_cases hin:∃ x∈L,x.2.1=k
 · obtain ⟨p,hp,hpk⟩:=hin
   obtain ⟨dI,dN,vI,vN,tI,tN,pa,br,co,hs⟩:=hsh p hp
   obtain ⟨u,w,rfl⟩:=zhc hp
   have hlook:=h8.hit mS hp hpk (fun y hy e=>zgI h7 p hp y hy e) (N+1) G
   obtain ⟨e,n,a,O2,O3,O4,O5,O6,O7,c1,c2,s1,s2,c3,s3,s4,c4,s5,s6,hLR,hget⟩:=move (kc:=kcS) (vs:=p.2.2) (fun _=>Nat.zero_lt_succ _) h' P1 ⟨fun _ _ _ _ h=>h,fun _ _=>rfl⟩ (h5 p hp).2.2.1 (h5 p hp).2.2.2 (N+1) G
   have hd:=(hLR.2.2.2.2.2.1 _ List.mem_cons_self).2.2.1
   have hv:=hd.load (h5 p hp |>.2.2.2 |> fun e=>by rw [e]; decide) (N+1) G rfl rfl
   rw [hs] at hv
   obtain ⟨O8,s8,b8,f8⟩:=(b1.same (hget N (by omega) (fun x hx'=>by have:=hx x hx'; omega))).store 0 [.slc dI 0 0 dN dN,.str pa,.bool br,.slc vI 0 0 vN vN,.slc tI 0 0 tN tN,.int .u64 co] (N+1) G (Nat.le_of_ble_eq_true rfl) rfl
   have hLR8:LR O8 AV.str kcS 6 l mi cap ((p.1,p.2.1,p.2.2)::(u++w)):=hLR.same fun j hj=>f8 j (by
    rcases hj with rfl | rfl | ⟨x,hx',rfl⟩
    · omega
    · omega
    · have:x.1<N:=by
       rcases List.mem_cons.1 hx' with rfl | hx'
       · exact hx _ hp
       · rcases List.mem_append.1 hx' with b | b
         · exact hx x (List.mem_append_left _ b)
         · exact hx x (List.mem_append_right _ (List.mem_cons_of_mem _ b))
      omega)
   exact (Obl.goal mix (K:=Goal P keep f0 Q) (fun _ h=>h) (cast (q_gh Q keep f0 rest l p.1 mi a.1 a.2 k N O e.1 e.2 n.1 n.2 dI dN vI vN tI tN pa br co P1 O2 O3 O4 O5 O6 O7 O8 G (Goal P keep f0 Q)).symm ⟨t1,zag,h3.load _ _,hlook,c1.load _ _,c2.load _ _,c2.load _ _,c1.load _ _,s1,s2,c3.load _ _,s3,s4,c4.load _ _,s5,s6,hv,s8,hH p dI dN vI vN tI tN pa br co u w O8 _ rfl hpk hs hLR8 (fun j hj e1 e3=>(f8 j (by omega)).trans ((hget j e1 e3).trans (g1 j (by omega)))) b8⟩))
 · have hk:∀ x∈L,x.2.1≠k:=fun x hx e=>hin ⟨x,hx,e⟩
   obtain ⟨O2,s2,b2,f2⟩:=b1.store 0 [.nils 0 0,.str [],.bool false,.nils 0 0,.nils 0 0,.int .u64 0] (N+1) G (Nat.le_of_ble_eq_true rfl) rfl
   exact (Obl.goal mix (K:=Goal P keep f0 Q) (fun _ h=>h) (cast (q_gm Q keep f0 rest l mi k N O P1 O2 G (Goal P keep f0 Q)).symm ⟨t1,zag,h3.load _ _,h8.miss mS hk _ _,b1.loads 0 6 (N+1) G (Nat.le_of_ble_eq_true rfl),s2,hM hk O2 _ (h'.low hl hm hx fun j hj=>f2 j (by omega)) (fun j hj=>(f2 j (by omega)).trans (g1 j (by omega))) b2⟩))
end
end Go.Proofs.Ytehelionjafnkaa.gx
end
section
set_option maxRecDepth 100000
set_option linter.unusedVariables false
set_option linter.unusedSectionVars false
namespace Go.Proofs.Ytehelionjafnkaa.gx
open Go Ev
abbrev Act:=Bool × List UInt8 × Int
def arow (q:gx.Act):List AV:=[.bool q.1,.str q.2.1,.int .u8 q.2.2]
def zdo (act:Nat→gx.Act) (j:Nat):AV:=(arow (act (j / 3))).getD (j % 3) xd
def zlx (O:T AObj) (act:Nat→gx.Act) (off cap:Nat):Prop:=O.get 0=some (.ro (.fn fun j=>some (zdo act (j - off))) off (off+cap*3))
section
variable {κ:Type} [BEq κ] [LawfulBEq κ] {k:κ} {v:AV} {l:List (κ × AV)}
theorem ziq (k:κ):∀ (l:List (κ × AV)) (i:Nat),(ix k l i=none∧∀ p∈l,p.1≠k)∨∃ u p w,l=u++p::w∧p.1=k∧ix k l i=some (i+u.length)
 | [],i=>.inl ⟨rfl,fun p hp=>absurd hp List.not_mem_nil⟩
 | q::r,i=>by
  unfold ix
  cases hb:(k==q.1) with
  | true=>exact .inr ⟨[],q,r,rfl,(eq_of_beq hb).symm,rfl⟩
  | false =>
   have hk:q.1≠k:=fun h=>by rw [h,beq_self_eq_true] at hb; cases hb
   rcases ziq k r (i+1) with ⟨h1,h2⟩ | ⟨u,p,w,h1,h2,h3⟩
   · refine .inl ⟨by simpa using h1,fun p hp=>?_⟩
     rcases List.mem_cons.1 hp with rfl | hp
     · exact hk
     · exact h2 p hp
   · refine .inr ⟨q::u,p,w,by rw [h1]; rfl,h2,?_⟩
     simp only [Bool.false_eq_true,if_false]
     rw [h3,List.length_cons]
     congr 1
     omega
theorem wN (k:κ)(v:AV)(l:List (κ × AV)):((∀ p∈l,p.1≠k)∧zb7 k v l=l++[(k,v)])∨∃ u p w,l=u++p::w∧p.1=k∧zb7 k v l=u++(k,v)::w:=by
 unfold zb7
 rcases ziq k l 0 with ⟨h1,h2⟩ | ⟨u,p,w,h1,h2,h3⟩
 · rw [h1]
   exact .inl ⟨h2,rfl⟩
 · rw [h3,Nat.zero_add]
   refine .inr ⟨u,p,w,h1,h2,?_⟩
   rw [h1]
   simp
theorem zhD (h:(l.map (·.1)).Nodup):((zb7 k v l).map (·.1)).Nodup:=by
 rcases wN k v l with ⟨h1,e⟩ | ⟨u,p,w,rfl,hk,e⟩
 · rw [e,List.map_append]
   refine List.nodup_append.2 ⟨h,by simp,fun a ha b hb=>?_⟩
   obtain ⟨p,hp,rfl⟩:=List.mem_map.1 ha
   rw [List.map_cons,List.map_nil,List.mem_singleton] at hb
   rw [hb]
   exact h1 p hp
 · rw [e]
   rw [List.map_append,List.map_cons] at h ⊢
   rw [hk] at h
   exact h
theorem zbk:(k,v)∈zb7 k v l:=by
 rcases wN k v l with ⟨h1,e⟩ | ⟨u,p,w,rfl,hk,e⟩ <;> rw [e] <;> simp
theorem zc3 {p:κ × AV}(h:p∈l)(hk:p.1≠k):p∈zb7 k v l:=by
 rcases wN k v l with ⟨h1,e⟩ | ⟨u,q,w,rfl,hq,e⟩ <;> rw [e]
 · exact List.mem_append_left _ h
 · rcases List.mem_append.1 h with b | b
   · exact List.mem_append_left _ b
   · rcases List.mem_cons.1 b with rfl | b
     · exact absurd hq hk
     · exact List.mem_append_right _ (List.mem_cons_of_mem _ b)
theorem zhj {p:κ × AV}(hn:(l.map (·.1)).Nodup)(h:p∈zb7 k v l):p=(k,v)∨(p∈l∧p.1≠k):=by
 rcases wN k v l with ⟨h1,e⟩ | ⟨u,q,w,rfl,hq,e⟩ <;> rw [e] at h
 · rcases List.mem_append.1 h with b | b
   · exact .inr ⟨b,h1 p b⟩
   · exact .inl (List.mem_singleton.1 b)
 · rw [List.map_append,List.map_cons] at hn
   obtain ⟨_,m2⟩:=yG hn
   rw [← List.map_append] at m2
   have key:∀ z∈u++w,z.1≠k:=fun z hz ez=>m2 (by rw [hq,← ez]; exact List.mem_map_of_mem hz)
   rcases List.mem_append.1 h with b | b
   · exact .inr ⟨List.mem_append_left _ b,key p (List.mem_append_left _ b)⟩
   · rcases List.mem_cons.1 b with rfl | b
     · exact .inl rfl
     · exact .inr ⟨List.mem_append_right _ (List.mem_cons_of_mem _ b),key p (List.mem_append_right _ b)⟩
theorem zk0:(zb7 k v l).length≤l.length+1:=by
 rcases wN k v l with ⟨h1,e⟩ | ⟨u,q,w,rfl,hq,e⟩ <;> rw [e] <;> simp only [List.length_append,List.length_cons,List.length_nil] <;> omega
theorem zgN:∀ (a b:List κ),a.Nodup→(∀ x∈a,x∈b)→a.length≤b.length
 | [],_,_,_=>Nat.zero_le _
 | x::r,b,h,hs=>by
  rw [List.nodup_cons] at h
  have hx:=hs x List.mem_cons_self
  have ih:=zgN r (b.erase x) h.2 fun y hy=>(List.mem_erase_of_ne fun e=>h.1 (by rw [← e]; exact hy)).2 (hs y (List.mem_cons_of_mem _ hy))
  have hl:=List.length_erase_of_mem hx
  have hp:=List.length_pos_of_mem hx
  rw [List.length_cons]
  omega
end
variable {O O' O1 O2:T AObj} {N N1 c m:Nat} {G:T (T AV)} {act:Nat→gx.Act} {off cap len i:Nat} {x:Int} {n:Int} {dI vI tI:Nat} {f g:Nat→Nat} {d v t:AV} {lo:Nat}
theorem xC (h:zlx O act off cap)(hi:i<cap)(u:Nat)(hu:u<3)(N:Nat)(G:T (T AV)):za ⟨O,N,G⟩ 0 0 (off+((i:Nat):Int).toNat*3+u) 1=some [(arow (act i)).getD u xd]:=by
 refine zmB h (by omega) (by omega) ?_
 show some (zdo act (off+((i:Nat):Int).toNat*3+u - off))=_
 rw [show off+((i:Nat):Int).toNat*3+u - off=i*3+u by omega]
 unfold zdo
 rw [show (i*3+u) / 3=i by omega,show (i*3+u) % 3=u by omega]
theorem ziM (h:zlx O act off cap)(hi:i<cap)(N:Nat)(G:T (T AV)):za ⟨O,N,G⟩ 0 0 (off+((i:Nat):Int).toNat*3) 1=some [.bool (act i).1]:=xC h hi 0 (by omega) N G
abbrev KL:=List (List UInt8 × AV)
def Held (O:T AObj) (N:Nat) (l:KL) (L:List (Ent (List UInt8))) (q:List UInt8 × List AV):Prop:=∃ n dI vI tI f g,(q.1,AV.int .u8 n)∈l∧(0≤n∧n≤255)∧q.2=RC n dI vI tI∧VAL O n dI vI tI f g∧∀ j,Vid n dI vI tI f g j→5≤j∧j<N∧∀ y∈L,y.1≠j
structure InvC (O:T AObj) (N:Nat) (act:Nat→gx.Act) (off cap:Nat) (x:Int) (c m:Nat) (l:KL) (L:List (Ent (List UInt8))):Prop where
 ro:zlx O act off cap
 a:LR O AV.str kcS 6 2 1 c L
 k:Obj O 3 [.ptr 2 0 0]
 mp:MapIs O 4 AV.str l
 nd:(l.map (·.1)).Nodup
 hx:x.toNat=c
 hN:5≤N
 ia:∀ y∈L,5≤y.1∧y.1<N
 va:∀ q∈L.map (·.2),Held O N l L q
 lv:∀ p∈l,∃ n,(0≤n∧n≤255)∧p.2=AV.int .u8 n
 full:l.length≤c→∀ p∈l,∃ e∈L,e.2.1=p.1
 hm:l.length≤m
 hb:∀ j,j<cap→0≤(act j).2.2∧(act j).2.2≤255
theorem Held.same {l:KL}{L:List (Ent (List UInt8))}{q:List UInt8 × List AV}(h:Held O N l L q)(e:∀ j,5≤j→j<N→(∀ y∈L,y.1≠j)→O'.get j=O.get j)(hN:N≤N1):Held O' N1 l L q:=by
 obtain ⟨n,dI,vI,tI,f,g,h1,h2,h3,h4,h5⟩:=h
 exact ⟨n,dI,vI,tI,f,g,h1,h2,h3,h4.same fun j hj=>e j (h5 j hj).1 (h5 j hj).2.1 (h5 j hj).2.2,fun j hj=>⟨(h5 j hj).1,by have:=(h5 j hj).2.1; omega,(h5 j hj).2.2⟩⟩
theorem InvC.same {l:KL}{L:List (Ent (List UInt8))}(h:InvC O N act off cap x c m l L)(hN:N≤N1)(e:∀ j,j<N→O'.get j=O.get j):InvC O' N1 act off cap x c m l L:=by
 have h5:=h.hN
 exact ⟨(e 0 (by omega)).trans h.ro,h.a.low (N:=N) (by omega) (by omega) (fun y hy=>(h.ia y hy).2) e,h.k.same (e 3 (by omega)),h.mp.same (e 4 (by omega)),h.nd,h.hx,by omega,fun y hy=>⟨(h.ia y hy).1,by have:=(h.ia y hy).2; omega⟩,fun q hq=>(h.va q hq).same (fun j _ hj _=>e j hj) hN,h.lv,h.full,h.hm,h.hb⟩
theorem InvC.lens {l:KL}{L:List (Ent (List UInt8))}(h:InvC O N act off cap x c m l L):L.length≤l.length:=by
 have:=zgN (L.map (·.2.1)) (l.map (·.1)) h.a.2.2.2.2.2.2.2.1 fun k hk=>by
  obtain ⟨e,he,rfl⟩:=List.mem_map.1 hk
  obtain ⟨n,dI,vI,tI,f,g,h1,_⟩:=h.va e.2 (List.mem_map_of_mem he)
  exact List.mem_map_of_mem (f:=fun p:List UInt8 × AV=>p.1) h1
 rw [List.length_map,List.length_map] at this
 exact this
theorem InvC.get {l:KL}{u w:List (Ent (List UInt8))}{p:Ent (List UInt8)}(h:InvC O N act off cap x c m l (u++p::w))(hLR:LR O' AV.str kcS 6 2 1 c (p::(u++w)))(fr:∀ j,j<N→j≠2→(∀ y∈u++p::w,y.1≠j)→O'.get j=O.get j):InvC O' N act off cap x c m l (p::(u++w)):=by
 have h5:=h.hN
 have mem:∀ y,y∈p::(u++w) ↔ y∈u++p::w:=fun y=>by simp only [List.mem_cons,List.mem_append]; exact ⟨fun h=>by rcases h with h | h | h <;> simp [h],fun h=>by rcases h with h | h | h <;> simp [h]⟩
 have lo:∀ j,j<5→j≠2→O'.get j=O.get j:=fun j hj e2=>fr j (by omega) e2 fun y hy=>by have:=(h.ia y hy).1; omega
 refine ⟨(lo 0 (by omega) (by omega)).trans h.ro,hLR,h.k.same (lo 3 (by omega) (by omega)),h.mp.same (lo 4 (by omega) (by omega)),h.nd,h.hx,h.hN,fun y hy=>h.ia y ((mem y).1 hy),fun q hq=>?_,h.lv,fun hl q hq=>?_,h.hm,h.hb⟩
 · obtain ⟨y,hy,rfl⟩:=List.mem_map.1 hq
   obtain ⟨n,dI,vI,tI,f,g,h1,h2,h3,h4,h6⟩:=(h.va y.2 (List.mem_map_of_mem ((mem y).1 hy))).same (fun j hj hjN hy=>fr j hjN (by omega) hy) (Nat.le_refl _)
   exact ⟨n,dI,vI,tI,f,g,h1,h2,h3,h4,fun j hj=>⟨(h6 j hj).1,(h6 j hj).2.1,fun y hy=>(h6 j hj).2.2 y ((mem y).1 hy)⟩⟩
 · obtain ⟨e,he,e1⟩:=h.full hl q hq
   exact ⟨e,(mem e).2 he,e1⟩
theorem InvC.put {l:KL}{L L':List (Ent (List UInt8))}{k:List UInt8}(h:InvC O N act off cap x c m l L)(V:VAL O n dI vI tI f g)(hn:0≤n∧n≤255)(hid:∀ j,Vid n dI vI tI f g j→5≤j∧j<N∧∀ y∈L,y.1≠j)
 (hLR:LR O1 AV.str kcS 6 2 1 c L') (hN:N≤N1) (ia:∀ y∈L',y.1<N1∧(N≤y.1∨∃ z∈L,z.1=y.1)) (hp:L'.map (·.2)=zll c k (RC n dI vI tI) (L.map (·.2)))
 (fr:∀ j,j<N→j≠2→j≠1→(∀ y∈L,y.1≠j)→O1.get j=O.get j) (e4:MapIs O2 4 AV.str (zb7 k (.int .u8 n) l)) (f4:Frm O1 O2 4):InvC O2 N1 act off cap x c (m+1) (zb7 k (.int .u8 n) l) L':=by
 have h5:=h.hN
 have lo:∀ j,j<5→j≠2→j≠1→j≠4→O2.get j=O.get j:=fun j hj e2 e1 e4=>(f4 j e4).trans (fr j (by omega) e2 e1 fun y hy=>by have:=(h.ia y hy).1; omega)
 have nid:∀ j,5≤j→j<N→(∀ y∈L,y.1≠j)→∀ y∈L',y.1≠j:=fun j _ hj hy y hy' e=>by
  rcases (ia y hy').2 with b | ⟨z,hz,ez⟩
  · omega
  · exact hy z hz (by rw [ez,e])
 have up:∀ j,5≤j→j<N→(∀ y∈L,y.1≠j)→O2.get j=O.get j:=fun j hj hjN hy=>(f4 j (by omega)).trans (fr j hjN (by omega) (by omega) hy)
 have keep:∀ q∈L.map (·.2),q.1≠k→Held O2 N1 (zb7 k (.int .u8 n) l) L' q:=fun q hq hk=>by
  obtain ⟨n',dI',vI',tI',f',g',h1,h2,h3,h4,h6⟩:=h.va q hq
  exact ⟨n',dI',vI',tI',f',g',zc3 h1 hk,h2,h3,h4.same fun j hj=>up j (h6 j hj).1 (h6 j hj).2.1 (h6 j hj).2.2,fun j hj=>⟨(h6 j hj).1,by have:=(h6 j hj).2.1; omega,nid j (h6 j hj).1 (h6 j hj).2.1 (h6 j hj).2.2⟩⟩
 have new:Held O2 N1 (zb7 k (.int .u8 n) l) L' (k,RC n dI vI tI):=⟨n,dI,vI,tI,f,g,zbk,hn,rfl,V.same fun j hj=>up j (hid j hj).1 (hid j hj).2.1 (hid j hj).2.2,fun j hj=>⟨(hid j hj).1,by have:=(hid j hj).2.1; omega,nid j (hid j hj).1 (hid j hj).2.1 (hid j hj).2.2⟩⟩
 have ia5:∀ y∈L',5≤y.1:=fun y hy=>by
  rcases (ia y hy).2 with b | ⟨z,hz,ez⟩
  · omega
  · rw [← ez]; exact (h.ia z hz).1
 have fm:∀ q∈(L.map (·.2)).filter (fun q=>!(q.1==k)),q∈L.map (·.2)∧q.1≠k:=fun q hq=>by
  obtain ⟨h1,h2⟩:=List.mem_filter.1 hq
  exact ⟨h1,by simpa using h2⟩
 refine ⟨(lo 0 (by omega) (by omega) (by omega) (by omega)).trans h.ro,hLR.same fun j hj=>f4 j ?_,h.k.same (lo 3 (by omega) (by omega) (by omega) (by omega)),e4,zhD h.nd,h.hx,by omega,fun y hy=>⟨ia5 y hy,(ia y hy).1⟩,fun q hq=>?_,fun p hp=>?_,fun hl p hpm=>?_,Nat.le_trans zk0 (by have:=h.hm; omega),h.hb⟩
 · rcases hj with rfl | rfl | ⟨y,hy,rfl⟩
   · omega
   · omega
   · have:=ia5 y hy; omega
 · rw [hp] at hq
   unfold zll at hq
   split at hq
   · rename_i hc
     have:L=[]:=List.eq_nil_of_length_eq_zero (by have:=h.a.2.2.2.2.2.2.2.2.2; omega)
     subst this
     exact absurd hq List.not_mem_nil
   · rcases List.mem_cons.1 hq with rfl | hq
     · exact new
     · obtain ⟨h1,h2⟩:=fm q (List.mem_of_mem_take hq)
       exact keep q h1 h2
 · rcases zhj h.nd hp with rfl | ⟨h1,_⟩
   · exact ⟨n,hn,rfl⟩
   · exact h.lv p h1
 · have hpos:0<(zb7 k (.int .u8 n) l).length:=List.length_pos_of_mem hpm
   have hF:((L.map (·.2)).filter (fun q=>!(q.1==k))).length≤c - 1:=by
    have nd:(((L.map (·.2)).filter (fun q=>!(q.1==k))).map (·.1)).Nodup:=by
     have h8:=h.a.2.2.2.2.2.2.2.1
     rw [show L.map (·.2.1)=(L.map (·.2)).map (·.1) by rw [List.map_map]; rfl] at h8
     exact List.Nodup.sublist (List.filter_sublist.map _) h8
    have:=zgN (k::((L.map (·.2)).filter (fun q=>!(q.1==k))).map (·.1)) ((zb7 k (.int .u8 n) l).map (·.1)) (List.nodup_cons.2 ⟨fun hk=>by
     obtain ⟨q,hq,e⟩:=List.mem_map.1 hk
     exact (fm q hq).2 e,nd⟩) fun z hz=>by
     rcases List.mem_cons.1 hz with rfl | hz
     · exact List.mem_map_of_mem (f:=fun p:List UInt8 × AV=>p.1) (zbk (k:=z) (v:=AV.int .u8 n) (l:=l))
     · obtain ⟨q,hq,rfl⟩:=List.mem_map.1 hz
       obtain ⟨n',_,_,_,_,_,h1,_⟩:=h.va q (fm q hq).1
       exact List.mem_map_of_mem (f:=fun p:List UInt8 × AV=>p.1) (zc3 h1 (fm q hq).2)
    rw [List.length_cons,List.length_map,List.length_map] at this
    omega
   have hL':L'.map (·.2)=(k,RC n dI vI tI)::(L.map (·.2)).filter (fun q=>!(q.1==k)):=by
    rw [hp]
    unfold zll
    rw [if_neg (by omega),List.take_of_length_le hF]
   have fin:∀ q∈L'.map (·.2),∃ e∈L',e.2.1=q.1:=fun q hq=>by
    obtain ⟨e,he,rfl⟩:=List.mem_map.1 hq
    exact ⟨e,he,rfl⟩
   rcases zhj h.nd hpm with rfl | ⟨h1,h2⟩
   · exact fin (k,RC n dI vI tI) (by rw [hL']; exact List.mem_cons_self)
   · have hle:l.length≤(zb7 k (.int .u8 n) l).length:=by
      have:=zgN (l.map (·.1)) ((zb7 k (.int .u8 n) l).map (·.1)) h.nd fun z hz=>by
       obtain ⟨q,hq,rfl⟩:=List.mem_map.1 hz
       by_cases hqk:q.1=k
       · rw [hqk]; exact List.mem_map_of_mem (f:=fun p:List UInt8 × AV=>p.1) (zbk (k:=k) (v:=AV.int .u8 n) (l:=l))
       · exact List.mem_map_of_mem (f:=fun p:List UInt8 × AV=>p.1) (zc3 hq hqk)
      rw [List.length_map,List.length_map] at this
      exact this
     obtain ⟨e,he,e1⟩:=h.full (by omega) p h1
     have:=fin e.2 (by
      rw [hL']
      refine List.mem_cons_of_mem _ (List.mem_filter.2 ⟨List.mem_map_of_mem he,?_⟩)
      have:e.2.1≠k:=by rw [e1]; exact h2
      simpa using this)
     rw [e1] at this
     exact this
end Go.Proofs.Ytehelionjafnkaa.gx
end
section
set_option maxRecDepth 100000
set_option linter.unusedVariables false
set_option linter.unusedSectionVars false
namespace Go.Proofs.Ytehelionjafnkaa.gx
open Go Ev
variable {O O' O1 O2:T AObj} {N N1 c m:Nat} {G:T (T AV)} {act:Nat→gx.Act} {off cap len i:Nat} {x:Int} {n:Int} {dI vI tI:Nat} {f g:Nat→Nat} {d v t:AV} {lo:Nat}
theorem zj1 (V:VAL O n dI vI tI f g)(hid:∀ j,Vid n dI vI tI f g j→j<N){keep:Nat}{f0:FuncId}{Q:AV→AHeap→Prop}{rest:List AFrame}
 (hK:∀ O' td,VAL O' n (N+2) (N+2+1) (N+2+1+1) f g→Obj O' (N+1) (RC n (N+2) (N+2+1) (N+2+1+1))→(∀ j,j<N→O'.get j=O.get j)→Goal P keep f0 Q (AM.mk (RF 17 20 (.node .leaf none (.node .leaf (some (.ptr (N+1) 0 0)) .leaf)) td) rest ⟨O',N+2+1+1+1,G⟩)) :
 Goal P keep f0 Q (AM.mk (enF 17 [.agg (RC n dI vI tI)]) rest ⟨O,N,G⟩):=by
 have hq:=zeP (n:=n)
 have h1:SV O 3 zb8 0 N (dl n (qn n)) (.slc dI 0 0 (dl n (qn n)).length (qn n)):=.inr (.inl ⟨dI,0,0,qn n,rfl,by rw [vB]; exact Nat.le_refl _,Nat.zero_le _,hid _ (.inl rfl),V.rd⟩)
 have h2:SV O 2 wf 0 N (vl f (qn n)) (.slc vI 0 0 (vl f (qn n)).length (qn n)):=.inr (.inl ⟨vI,0,0,qn n,rfl,by rw [qK]; exact Nat.le_refl _,Nat.zero_le _,hid _ (.inr (.inl rfl)),V.rv⟩)
 have h3:SV O 2 wf 0 N (tl g (qn n)) (.slc tI 0 0 (tl g (qn n)).length (qn n)):=.inr (.inl ⟨tI,0,0,qn n,rfl,by rw [qH]; exact Nat.le_refl _,Nat.zero_le _,hid _ (.inr (.inr (.inl rfl))),V.rt⟩)
 have key:=fun hK=>zhG (Q:=Q) (pa:=wm) (br:=(n.tmod (5:Int)==(0:Int))) (co:=IntKind.u64.wrap n) (G:=G) h1 h2 h3 (Nat.le_refl N) (by rw [vB]; omega) (by rw [qK]; omega) (by rw [qH]; omega) (keep:=keep) (f0:=f0) (rest:=rest) hK
 simp only [vB,qK,qH] at key
 exact key fun O' td r1 r2 r3 b low=>hK O' td ⟨r1,r2,r3,fun j hj=>⟨(V.o j hj).1.same (low _ (hid _ (.inr (.inr (.inr ⟨j,hj,.inl rfl⟩))))),(V.o j hj).2.same (low _ (hid _ (.inr (.inr (.inr ⟨j,hj,.inr rfl⟩)))))⟩⟩ b low
theorem zeB (h:RB O lo N n (qn n) d v t f g)(hs:Sh (qn n) d v t){keep:Nat}{f0:FuncId}{Q:AV→AHeap→Prop}{rest:List AFrame}
 (hK:∀ O' td,VAL O' n (N+2) (N+2+1) (N+2+1+1) f g→Obj O' (N+1) (RC n (N+2) (N+2+1) (N+2+1+1))→(∀ j,j<N→O'.get j=O.get j)→Goal P keep f0 Q (AM.mk (RF 17 20 (.node .leaf none (.node .leaf (some (.ptr (N+1) 0 0)) .leaf)) td) rest ⟨O',N+2+1+1+1,G⟩)) :
 Goal P keep f0 Q (AM.mk (enF 17 [.agg [d,.str wm,.bool (n.tmod (5:Int)==(0:Int)),v,t,.int .u64 (IntKind.u64.wrap n)]]) rest ⟨O,N,G⟩):=by
 have hq:=zeP (n:=n)
 have h1:=h.pd.sv dE
 have h2:=h.pv.sv vE
 have h3:=h.pt.sv vE
 have fin:(∀ O' td,Rd O' (N+2) 0 0 ((dl n (qn n)).flatMap zb8)→Rd O' (N+2+1) 0 0 ((vl f (qn n)).flatMap wf)→Rd O' (N+2+1+1) 0 0 ((tl g (qn n)).flatMap wf)→Obj O' (N+1) (RC n (N+2) (N+2+1) (N+2+1+1))→(∀ j,j<N→O'.get j=O.get j)→Goal P keep f0 Q (AM.mk (RF 17 20 (.node .leaf none (.node .leaf (some (.ptr (N+1) 0 0)) .leaf)) td) rest ⟨O',N+2+1+1+1,G⟩)):=fun O' td r1 r2 r3 b low=>hK O' td ⟨r1,r2,r3,fun j hj=>⟨(h.o j hj).1.2.2.same (low _ (h.o j hj).1.2.1),(h.o j hj).2.2.2.same (low _ (h.o j hj).2.2.1)⟩⟩ b low
 rcases hs with ⟨h0,rfl,rfl,rfl⟩ | ⟨⟨dJ,dq,dz,nD,ds,rfl⟩,⟨vJ,vq,vz,nV,vs,rfl⟩,tJ,tq,tz,nT,ts,rfl⟩
 · have key:=fun hK=>zcq (Q:=Q) (pa:=wm) (br:=(n.tmod (5:Int)==(0:Int))) (co:=IntKind.u64.wrap n) (G:=G) h1 h2 h3 (Nat.le_refl N) (by rw [vB]; omega) (by rw [qK]; omega) (by rw [qH]; omega) (keep:=keep) (f0:=f0) (rest:=rest) hK
   simp only [vB,qK,qH] at key
   exact key fin
 · rcases id h1 with ⟨e,_⟩ | ⟨_,_,_,_,e,_⟩ | ⟨_,_,_,e,_⟩ <;> cases e
   rcases id h2 with ⟨e,_⟩ | ⟨_,_,_,_,e,_⟩ | ⟨_,_,_,e,_⟩ <;> cases e
   rcases id h3 with ⟨e,_⟩ | ⟨_,_,_,_,e,_⟩ | ⟨_,_,_,e,_⟩ <;> cases e
   have key:=fun hK=>zhl (Q:=Q) (pa:=wm) (br:=(n.tmod (5:Int)==(0:Int))) (co:=IntKind.u64.wrap n) (G:=G) h1 h2 h3 (Nat.le_refl N) (by rw [vB]; omega) (by rw [qK]; omega) (by rw [qH]; omega) (keep:=keep) (f0:=f0) (rest:=rest) hK
   simp only [vB,qK,qH] at key ⊢
   exact key fin
end Go.Proofs.Ytehelionjafnkaa.gx
end
section
set_option maxRecDepth 100000
set_option linter.unusedVariables false
set_option linter.unusedSectionVars false
namespace Go.Proofs.Ytehelionjafnkaa.gx
open Go Ev
variable {O O' O1 O2:T AObj} {N N1 c m:Nat} {G:T (T AV)} {act:Nat→gx.Act} {off cap len i:Nat} {x:Int} {n:Int} {dI vI tI:Nat} {f g:Nat→Nat} {d v t:AV} {lo:Nat}
abbrev R0 (v:AV):Prop:=v=AV.bool true
theorem zaP {G:T (T AV)}:Goal P 0 13 (fun x _=>x=AV.bool true) (yO P 13 [] G):=Goal.ofRun mix (n:=100000) (by kernel_rfl) fun _=>rfl
theorem InvC.mono {l:KL}{L:List (Ent (List UInt8))}{m':Nat}(h:InvC O N act off cap x c m l L)(hm:m≤m'):InvC O N act off cap x c m' l L:=⟨h.ro,h.a,h.k,h.mp,h.nd,h.hx,h.hN,h.ia,h.va,h.lv,h.full,Nat.le_trans h.hm hm,h.hb⟩
end Go.Proofs.Ytehelionjafnkaa.gx
end
