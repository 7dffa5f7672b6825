import Derived.Test.YtjddelgojkgnaaaP00
import Derived.Test.YtjddelgojkgnaaaP01
import Derived.Test.YtjddelgojkgnaaaP02
import Derived.Test.YtjddelgojkgnaaaP03
import Derived.Test.YtjddelgojkgnaaaP04
section
set_option maxRecDepth 100000
set_option linter.unusedVariables false
set_option linter.unusedSectionVars false
namespace Go.Proofs.Ytjddelgojkgnaaa.gx
open Go Ev
abbrev gd (l:Nat) (x:Ev.Node):Prop:=x=(l,3)∨∃ i,i≠l∧x=nd i
def dat (l i j:Nat):Prop:=(i=l∧j≤2)∨(i≠l∧2≤j)
variable {O O' O1 O2:T AObj} {N l mi cap:Nat} {G:T (T AV)} {x:Ev.Node}
theorem zbM (b:But O O' x.1 x.2)(gx:gd l x){i j:Nat}{c:AV}(h:dat l i j)(hc:Cell O i j c):Cell O' i j c:=by
 refine b.1 _ _ _ ?_ hc
 rcases gx with rfl | ⟨y,hy,rfl⟩ <;> rcases h with ⟨rfl,h⟩ | ⟨h1,h⟩
 · right; show j≠3; omega
 · left; exact h1
 · left; exact Ne.symm hy
 · right; show j≠0; omega
theorem zbR (b:But O O' x.1 (x.2+1))(gx:gd l x){i j:Nat}{c:AV}(h:dat l i j)(hc:Cell O i j c):Cell O' i j c:=by
 refine b.1 _ _ _ ?_ hc
 rcases gx with rfl | ⟨y,hy,rfl⟩ <;> rcases h with ⟨rfl,h⟩ | ⟨h1,h⟩
 · right; show j≠4; omega
 · left; exact h1
 · left; exact Ne.symm hy
 · right; show j≠1; omega
theorem zfN {us:List Nat}(hx:x=(l,3)∨∃ i,i∈us∧x=nd i)(hl:∀ i∈us,i≠l):gd l x:=hx.imp id fun ⟨i,hi,h⟩=>⟨i,hl i hi,h⟩
theorem zc5 {us:List Nat}(hx:x=(l,3)∨∃ i,i∈us∧x=nd i){j:Nat}(hl:j≠l)(hu:∀ i∈us,i≠j):j≠x.1:=by
 rcases hx with rfl | ⟨i,hi,rfl⟩
 · exact hl
 · exact Ne.symm (hu i hi)
theorem vR {α β:Type}{f:α→β}:∀ {L:List α},(L.map f).Nodup→∀ x∈L,∀ y∈L,f y=f x→y=x
 | [],_,x,hx,_,_,_=>absurd hx List.not_mem_nil
 | a::r,h,x,hx,y,hy,e=>by
  rw [List.map_cons,List.nodup_cons] at h
  rcases List.mem_cons.1 hx with hxa | hx'
  · rcases List.mem_cons.1 hy with hya | hy'
    · rw [hxa,hya]
    · exact absurd (by rw [← hxa,← e]; exact List.mem_map_of_mem hy') h.1
  · rcases List.mem_cons.1 hy with hya | hy'
    · exact absurd (by rw [← hya,e]; exact List.mem_map_of_mem hx') h.1
    · exact vR h.2 x hx' y hy' e
theorem xO {α:Type}{a:α}{us ws:List α}(h:(us++a::ws).Nodup):(us++ws).Nodup∧a ∉ us++ws:=by
 rw [List.nodup_append,List.nodup_cons] at h
 obtain ⟨h1,⟨h2,h3⟩,h4⟩:=h
 refine ⟨List.nodup_append.2 ⟨h1,h3,fun x hx y hy=>h4 x hx y (List.mem_cons_of_mem _ hy)⟩,fun hm=>?_⟩
 rcases List.mem_append.1 hm with b | b
 · exact h4 a b a (by simp) rfl
 · exact h2 b
theorem zfp {c c':AV}{xs:List Nat}(h:Ring O l xs)(hl:∀ x∈xs,x≠l)(b:But O O' l 1):Ring O' l xs:=by
 refine Lk.mono (fun y hy c hc=>b.1 _ _ _ ?_ hc) (fun y hy c hc=>b.1 _ _ _ ?_ hc) h
 · rw [← List.cons_append,List.dropLast_concat] at hy
   rcases List.mem_cons.1 hy with rfl | hm
   · right; show (3+1:Nat)≠1; omega
   · obtain ⟨i,hi,rfl⟩:=List.mem_map.1 hm
     left; exact hl i hi
 · rw [List.tail_cons] at hy
   rcases List.mem_append.1 hy with hm | hm
   · obtain ⟨i,hi,rfl⟩:=List.mem_map.1 hm
     left; exact hl i hi
   · obtain rfl:=List.mem_singleton.1 hm
     right; show (3:Nat)≠1; omega
theorem zaP {xs:List Nat}(h:Ring O l xs)(e:∀ i,i=l∨i∈xs→O'.get i=O.get i):Ring O' l xs:=by
 refine Lk.mono (fun y hy c hc=>hc.same ?_) (fun y hy c hc=>hc.same ?_) h
 · rw [← List.cons_append,List.dropLast_concat] at hy
   rcases List.mem_cons.1 hy with rfl | hm
   · exact e _ (.inl rfl)
   · obtain ⟨i,hi,rfl⟩:=List.mem_map.1 hm
     exact e _ (.inr hi)
 · rw [List.tail_cons] at hy
   rcases List.mem_append.1 hy with hm | hm
   · obtain ⟨i,hi,rfl⟩:=List.mem_map.1 hm
     exact e _ (.inr hi)
   · obtain rfl:=List.mem_singleton.1 hm
     exact e _ (.inl rfl)
theorem zgQ {p:Nat}{us:List Nat}(h:Ring O l (us++[p])):Cell O l 3 (pt (nd p)):=by
 unfold Ring at h
 rw [List.map_append,List.append_assoc,← List.cons_append] at h
 have h':Lk O (((l,3)::us.map nd)++nd p::[(l,3)]):=h
 rw [Lk.app,Lk.two] at h'
 exact h'.2.1.2
def Dat (O:T AObj) (id:Nat) (l:List AV):Prop:=∀ u v,l[u]?=some v→Cell O id (2+u) v
def ButD (O O':T AObj) (id lo:Nat):Prop:=(∀ i j u,(i≠id∨j<lo)→Cell O i j u→Cell O' i j u)∧Frm O O' id
theorem qO {id a:Nat}{l:List AV}(h:∀ u v,l[u]?=some v→Cell O id (a+u) v)(h0:0<l.length):∃ n f,Row O id n f∧a+l.length≤n∧∀ u,u<l.length→l[u]?=some (f (a+u)):=by
 obtain ⟨n,f,⟨c,el,r1,r2⟩,h2,h3⟩:=h (l.length - 1) _ (List.getElem?_eq_getElem (by omega))
 refine ⟨n,f,⟨c,el,r1,r2⟩,by omega,fun u hu=>?_⟩
 obtain ⟨n',f',⟨c',el',q1,q2⟩,g2,g3⟩:=h u _ (List.getElem?_eq_getElem hu)
 rw [r1] at q1
 cases q1
 have e1:=r2 (a+u) g2
 have e2:=q2 (a+u) g2
 rw [e1] at e2
 rw [List.getElem?_eq_getElem hu,← g3,Option.some.inj e2]
theorem Dat.load {id:Nat}{ks vs:List AV}(h:Dat O id (ks++vs))(h0:0<vs.length)(N:Nat)(G:T (T AV)){n o:Nat}(hn:n=vs.length)(ho:o=2+ks.length):za ⟨O,N,G⟩ id 0 o n=some vs:=by
 subst hn ho
 have h':∀ u v,vs[u]?=some v→Cell O id (2+ks.length+u) v:=fun u v hu=>by
  rw [Nat.add_assoc]
  refine h _ _ ?_
  rw [List.getElem?_append_right (by omega),Nat.add_sub_cancel_left]
  exact hu
 obtain ⟨n,f,⟨c,el,r1,r2⟩,e1,e2⟩:=qO h' h0
 refine zcC r1 e1 (At.load (l:=vs) fun k hk=>?_)
 rw [r2 _ (by omega),e2 k hk]
theorem Dat.store {id:Nat}{ks vs ws:List AV}(h:Dat O id (ks++vs))(h0:0<vs.length)(hw:ws.length=vs.length)(ho:ws.all AV.one=true)(N:Nat)(G:T (T AV)) :
 ∃ O',zc ⟨O,N,G⟩ id 0 (2+ks.length) ws=some ⟨O',N,G⟩∧Dat O' id (ks++ws)∧ButD O O' id (2+ks.length):=by
 have hl:(ks++vs).length=ks.length+vs.length:=List.length_append
 obtain ⟨n,f,r,e1,e2⟩:=qO h (by omega)
 obtain ⟨O',s,r',fr⟩:=r.store N G (off:=2+ks.length) (vs:=ws) ho (by omega)
 have but:∀ i j u,(i≠id∨j<2+ks.length)→Cell O i j u→Cell O' i j u:=fun i j u hij hc=>by
  by_cases hi:i=id
  · subst hi
    obtain ⟨n',f',⟨c',el',q1,q2⟩,g2,g3⟩:=hc
    obtain ⟨c,el,r1,r2⟩:=r
    rw [r1] at q1
    cases q1
    refine ⟨_,_,r',g2,?_⟩
    rw [zhh (by omega)]
    have e3:=r2 j g2
    rw [q2 j g2] at e3
    rw [← g3]
    exact (Option.some.inj e3).symm
  · exact hc.same (fr i hi)
 refine ⟨O',s,fun u v hu=>?_,but,fr⟩
 by_cases hk:u<ks.length
 · rw [List.getElem?_append_left hk] at hu
   exact but _ _ _ (.inr (by omega)) (h u v (by rw [List.getElem?_append_left hk]; exact hu))
 · rw [List.getElem?_append_right (by omega)] at hu
   obtain ⟨hu1,hu2⟩:=List.getElem?_eq_some_iff.1 hu
   refine ⟨n,_,r',by omega,?_⟩
   have:=zjJ (f:=f) (off:=2+ks.length) (vs:=ws) (u:=u - ks.length) hu1
   rw [show 2+ks.length+(u - ks.length)=2+u by omega] at this
   rw [this,List.getD_eq_getElem?_getD,hu]
   rfl
section
variable {κ:Type} [BEq κ] [LawfulBEq κ] {kav:κ→AV} {kc:κ→List AV} {mt kt el:TypeId}
abbrev Ent (κ:Type):=Nat × κ × List AV
def MapOk (O:T AObj) (mi:Nat) (kav:κ→AV) (L:List (Ent κ)):Prop:=∃ m,MapIs O mi kav m∧(m.map (·.1)).Nodup∧(∀ p∈m,∃ x∈L,p.1=x.2.1∧p.2=.ptr x.1 0 0)∧∀ x∈L,∃ p∈m,p.1=x.2.1
def LR (O:T AObj) (kav:κ→AV) (kc:κ→List AV) (vn:Nat) (l mi cap:Nat) (L:List (Ent κ)):Prop :=
 mi≠l∧Cell O l 0 (.int .i64 (cap:Int))∧Cell O l 1 (.int .i64 ((L.length:Nat):Int))∧Cell O l 2 (.mp mi)∧Ring O l (L.map (·.1)) ∧
 (∀ x∈L,x.1≠l∧x.1≠mi∧Dat O x.1 (kc x.2.1++x.2.2)∧x.2.2.length=vn)∧(L.map (·.1)).Nodup∧(L.map (·.2.1)).Nodup∧MapOk O mi kav L∧L.length≤cap
variable {O O' O1 O2:T AObj} {N l mi cap vn:Nat} {G:T (T AV)} {L u w:List (Ent κ)} {k:κ} {vs:List AV}
theorem MapOk.same (h:MapOk O mi kav L)(e:O'.get mi=O.get mi):MapOk O' mi kav L:=by
 obtain ⟨m,h1,h2⟩:=h
 exact ⟨m,h1.same e,h2⟩
theorem MapOk.re {L':List (Ent κ)}(h:MapOk O mi kav L)(h1:∀ x∈L,∃ y∈L',y.1=x.1∧y.2.1=x.2.1)(h2:∀ y∈L',∃ x∈L,y.2.1=x.2.1):MapOk O mi kav L':=by
 obtain ⟨m,e1,e2,e3,e4⟩:=h
 refine ⟨m,e1,e2,fun p hp=>?_,fun y hy=>?_⟩
 · obtain ⟨x,hx,q1,q2⟩:=e3 p hp
   obtain ⟨y,hy,p1,p2⟩:=h1 x hx
   exact ⟨y,hy,by rw [q1,p2],by rw [q2,p1]⟩
 · obtain ⟨x,hx,q⟩:=h2 y hy
   obtain ⟨p,hp,e⟩:=e4 x hx
   exact ⟨p,hp,by rw [e,q]⟩
theorem zkQ {m:List (κ × AV)}{v:AV}(h:val? k m=some v):(k,v)∈m:=by
 induction m with
 | nil=>cases h
 | cons p r ih =>
  unfold val? at h
  by_cases e:(k==p.1)=true
  · rw [if_pos e] at h
    have hk:=eq_of_beq e
    cases h
    rw [hk]
    exact List.mem_cons_self
  · rw [if_neg e] at h
    exact List.mem_cons_of_mem _ (ih h)
theorem MapOk.hit (M:MpT mt kt el kav .nilp)(h:MapOk O mi kav L){x:Ent κ}(hx:x∈L)(hk:x.2.1=k)(hd:∀ y∈L,y.2.1=x.2.1→y=x)(N:Nat)(G:T (T AV)):xc P ⟨O,N,G⟩ mt (.mp mi) (kav k) false=some (.ptr x.1 0 0):=by
 obtain ⟨m,h1,h2,h3,h4⟩:=h
 rw [h1.look M]
 obtain ⟨p,hp,e⟩:=h4 x hx
 cases hv:val? k m with
 | none =>
  exfalso
  have:∀ (m:List (κ × AV)),p∈m→val? k m≠none:=by
   intro m
   induction m with
   | nil=>intro h; cases h
   | cons q r ih =>
    intro hq hn
    unfold val? at hn
    by_cases e':(k==q.1)=true
    · rw [if_pos e'] at hn; cases hn
    · rw [if_neg e'] at hn
      rcases List.mem_cons.1 hq with rfl | hq
      · exact e' (by rw [e,hk]; exact beq_self_eq_true k)
      · exact ih hq hn
  exact this m hp hv
 | some v =>
  obtain ⟨y,hy,y1,y2⟩:=h3 _ (zkQ hv)
  have:y=x:=hd y hy (by rw [hk]; exact y1.symm)
  subst this
  show zgx false v true=_
  have y2':v=.ptr y.1 0 0:=y2
  rw [y2']
  rfl
theorem MapOk.miss (M:MpT mt kt el kav .nilp)(h:MapOk O mi kav L)(hk:∀ x∈L,x.2.1≠k)(N:Nat)(G:T (T AV)):xc P ⟨O,N,G⟩ mt (.mp mi) (kav k) false=some .nilp:=by
 obtain ⟨m,h1,h2,h3,h4⟩:=h
 rw [h1.look M]
 have:val? k m=none:=zcY fun p hp e=>by
  obtain ⟨x,hx,e1,_⟩:=h3 p hp
  exact hk x hx (by rw [← e1,e])
 rw [this]
 rfl
theorem zj2 {m:List (κ × AV)}:∀ {i:Nat},(∀ p∈m,p.1≠k)→ix k m i=none:=by
 induction m with
 | nil=>intro i _; rfl
 | cons p r ih =>
  intro i h
  unfold ix
  rw [if_neg fun e=>h p List.mem_cons_self (eq_of_beq e).symm]
  exact ih fun q hq=>h q (List.mem_cons_of_mem _ hq)
theorem MapOk.put (M:MpT mt kt el kav .nilp)(h:MapOk O mi kav L)(hk:∀ x∈L,x.2.1≠k)(p:Nat)(vs:List AV)(N:Nat)(G:T (T AV)):∃ O',xV P ⟨O,N,G⟩ mt (.mp mi) (kav k) (.ptr p 0 0)=some ⟨O',N,G⟩∧MapOk O' mi kav ((p,k,vs)::L)∧Frm O O' mi:=by
 obtain ⟨m,h1,h2,h3,h4⟩:=h
 obtain ⟨O',e1,e2,e3⟩:=h1.put M k (.ptr p 0 0) N G
 have hm:∀ q∈m,q.1≠k:=fun q hq e=>by
  obtain ⟨x,hx,e1,_⟩:=h3 q hq
  exact hk x hx (by rw [← e1,e])
 have hp:zlm k (.ptr p 0 0) m=m++[(k,.ptr p 0 0)]:=by
  unfold zlm
  rw [zj2 hm]
 rw [hp] at e2
 refine ⟨O',e1,⟨_,e2,?_,fun q hq=>?_,fun x hx=>?_⟩,e3⟩
 · rw [List.map_append,List.nodup_append]
   refine ⟨h2,by simp,fun a ha b hb=>?_⟩
   obtain ⟨q,hq,rfl⟩:=List.mem_map.1 ha
   obtain rfl:b=k:=by simpa using hb
   exact hm q hq
 · rcases List.mem_append.1 hq with a | a
   · obtain ⟨x,hx,q1,q2⟩:=h3 q a
     exact ⟨x,List.mem_cons_of_mem _ hx,q1,q2⟩
   · obtain rfl:=List.mem_singleton.1 a
     exact ⟨_,List.mem_cons_self,rfl,rfl⟩
 · rcases List.mem_cons.1 hx with rfl | hx
   · exact ⟨_,List.mem_append_right _ (List.mem_singleton_self _),rfl⟩
   · obtain ⟨q,hq,e⟩:=h4 x hx
     exact ⟨q,List.mem_append_left _ hq,e⟩
theorem MapOk.del (M:MpT mt kt el kav .nilp)(u w:List (Ent κ)){x:Ent κ}(h:MapOk O mi kav (u++x::w))(hd:∀ y∈u++w,y.2.1≠x.2.1)(hk:x.2.1=k)(t:Option TypeId)(N:Nat)(G:T (T AV)):∃ O',zt P ⟨O,N,G⟩ .delete (some mt) t [.mp mi,kav k]=some (.val (.tup []) ⟨O',N,G⟩)∧MapOk O' mi kav (u++w)∧Frm O O' mi:=by
 obtain ⟨m,h1,h2,h3,h4⟩:=h
 obtain ⟨O',e1,e2,e3⟩:=h1.del M h2 k t N G
 refine ⟨O',e1,⟨_,e2,h2.sublist (List.Sublist.map _ List.filter_sublist),fun q hq=>?_,fun y hy=>?_⟩,e3⟩
 · obtain ⟨q1,q2⟩:=List.mem_filter.1 hq
   have hne:q.1≠k:=fun e=>by rw [e,beq_self_eq_true] at q2; cases q2
   obtain ⟨y,hy,y1,y2⟩:=h3 q q1
   refine ⟨y,?_,y1,y2⟩
   rcases List.mem_append.1 hy with b | b
   · exact List.mem_append_left _ b
   · rcases List.mem_cons.1 b with rfl | b
     · exact absurd (y1.trans hk) hne
     · exact List.mem_append_right _ b
 · have hy':y∈u++x::w:=by
    rcases List.mem_append.1 hy with b | b
    · exact List.mem_append_left _ b
    · exact List.mem_append_right _ (List.mem_cons_of_mem _ b)
   obtain ⟨p,hp,e⟩:=h4 y hy'
   refine ⟨p,List.mem_filter.2 ⟨hp,?_⟩,e⟩
   have:¬ (p.1==k)=true:=fun e'=>hd y hy (by rw [← e,eq_of_beq e',hk])
   simp [this]
theorem move {p:Ent κ}(hkc:∀ k,0<(kc k).length)(h:LR O kav kc vn l mi cap (u++p::w))(O1:T AObj)(b0:ButD O O1 p.1 (2+(kc p.2.1).length))(c0:Dat O1 p.1 (kc p.2.1++vs))(hvs:vs.length=vn)(N:Nat)(G:T (T AV)) :
 ∃ (e n a:Ev.Node) (O2 O3 O4 O5 O6 O7:T AObj),Cell O1 p.1 1 (pt e)∧Cell O1 p.1 0 (pt n) ∧
  zc ⟨O1,N,G⟩ e.1 0 e.2 [pt n]=some ⟨O2,N,G⟩∧zc ⟨O2,N,G⟩ n.1 0 (n.2+1) [pt e]=some ⟨O3,N,G⟩∧Cell O3 l 4 (pt a) ∧
  zc ⟨O3,N,G⟩ p.1 0 0 [pt (l,3)]=some ⟨O4,N,G⟩∧zc ⟨O4,N,G⟩ p.1 0 1 [pt a]=some ⟨O5,N,G⟩∧Cell O5 p.1 1 (pt a) ∧
  zc ⟨O5,N,G⟩ a.1 0 a.2 [pt (nd p.1)]=some ⟨O6,N,G⟩∧zc ⟨O6,N,G⟩ l 0 4 [pt (nd p.1)]=some ⟨O7,N,G⟩ ∧
  LR O7 kav kc vn l mi cap ((p.1,p.2.1,vs)::(u++w))∧∀ j,j≠l→(∀ y∈u++p::w,y.1≠j)→O7.get j=O.get j:=by
 obtain ⟨h0,h1,h2,h3,h4,h5,h6,h7,h8,h9⟩:=h
 rw [List.map_append,List.map_cons] at h4 h6 h7
 have hne:∀ i∈u.map (·.1)++p.1::w.map (·.1),i≠l∧i≠mi:=by
  intro i hi
  rw [← List.map_cons,← List.map_append] at hi
  obtain ⟨y,hy,rfl⟩:=List.mem_map.1 hi
  exact ⟨(h5 y hy).1,(h5 y hy).2.1⟩
 obtain ⟨hpl,hpm⟩:=hne p.1 (by simp)
 have hk0:=hkc p.2.1
 have hR1:Ring O1 l (u.map (·.1)++p.1::w.map (·.1)):=by
  refine Lk.mono (fun y hy c hc=>b0.1 _ _ _ ?_ hc) (fun y hy c hc=>b0.1 _ _ _ ?_ hc) h4
  · have:y∈((l,3):Ev.Node)::(u.map (·.1)++p.1::w.map (·.1)).map nd:=by
     rw [← List.cons_append,List.dropLast_concat] at hy
     exact hy
    rcases List.mem_cons.1 this with rfl | hm
    · left; exact Ne.symm hpl
    · obtain ⟨i,_,rfl⟩:=List.mem_map.1 hm
      right; show (0+1:Nat)<2+(kc p.2.1).length; omega
  · rw [List.tail_cons] at hy
    rcases List.mem_append.1 hy with hm | hm
    · obtain ⟨i,_,rfl⟩:=List.mem_map.1 hm
      right; show (0:Nat)<2+(kc p.2.1).length; omega
    · obtain rfl:=List.mem_singleton.1 hm
      left; exact Ne.symm hpl
 obtain ⟨e,n,O2,O3,he,hn,c1,c2,s1,s2,hR3,b1,b2⟩:=hR1.leave h6 (fun i hi=>(hne i hi).1) N G
 obtain ⟨nd1,nd2⟩:=xO h6
 have hne':∀ i∈u.map (·.1)++w.map (·.1),i≠l∧i≠mi:=fun i hi=>hne i (by
  rcases List.mem_append.1 hi with a | a
  · exact List.mem_append_left _ a
  · exact List.mem_append_right _ (List.mem_cons_of_mem _ a))
 have hul:∀ i∈u.map (·.1),i≠l:=fun i hi=>(hne i (List.mem_append_left _ hi)).1
 have hwl:∀ i∈w.map (·.1),i≠l:=fun i hi=>(hne i (List.mem_append_right _ (List.mem_cons_of_mem _ hi))).1
 have ge:=zfN he hwl
 have gn:=zfN hn hul
 have hpu:∀ i∈u.map (·.1),i≠p.1:=fun i hi h=>nd2 (h▸List.mem_append_left _ hi)
 have hpw:∀ i∈w.map (·.1),i≠p.1:=fun i hi h=>nd2 (h▸List.mem_append_right _ hi)
 have pe:=zc5 he hpl hpw
 have pn:=zc5 hn hpl hpu
 have c1':Cell O3 p.1 1 (pt e):=b2.1 _ _ _ (.inl pn) (b1.1 _ _ _ (.inl pe) c1)
 have c2':Cell O3 p.1 0 (pt n):=b2.1 _ _ _ (.inl pn) (b1.1 _ _ _ (.inl pe) c2)
 obtain ⟨a,O4,O5,O6,O7,ha,c3,s3,s4,c4,s5,s6,hR7,b3,b4,b5,b6⟩:=hR3.enter (fun i hi=>(hne' i hi).1) nd2 hpl c2' c1' nd1 N G
 have ga:=zfN ha fun i hi=>(hne' i hi).1
 have gp:gd l (nd p.1):=.inr ⟨p.1,hpl,rfl⟩
 have stay:∀ i j c,dat l i j→Cell O1 i j c→Cell O7 i j c:=fun i j c hd hc =>
  zbR (x:=(l,3)) b6 (.inl rfl) hd (zbM b5 ga hd (zbR (x:=nd p.1) b4 gp hd (zbM (x:=nd p.1) b3 gp hd (zbR b2 gn hd (zbM b1 ge hd hc)))))
 have stay0:∀ i j c,dat l i j→(i≠p.1∨j<2+(kc p.2.1).length)→Cell O i j c→Cell O7 i j c:=fun i j c hd hne hc=>stay i j c hd (b0.1 _ _ _ hne hc)
 have get:∀ j,j≠l→(∀ y∈u++p::w,y.1≠j)→O7.get j=O.get j:=fun j hj hy=>by
  have hju:∀ i∈u.map (·.1),i≠j:=fun i hi=>by obtain ⟨y,hm,rfl⟩:=List.mem_map.1 hi; exact hy y (by simp [hm])
  have hjw:∀ i∈w.map (·.1),i≠j:=fun i hi=>by obtain ⟨y,hm,rfl⟩:=List.mem_map.1 hi; exact hy y (by simp [hm])
  have hjp:j≠p.1:=Ne.symm (hy p (by simp))
  have hja:j≠a.1:=zc5 ha hj fun i hi=>by rcases List.mem_append.1 hi with b | b; exact hju i b; exact hjw i b
  exact (b6.2 j hj).trans ((b5.2 j hja).trans ((b4.2 j hjp).trans ((b3.2 j hjp).trans ((b2.2 j (zc5 hn hj hju)).trans ((b1.2 j (zc5 he hj hjw)).trans (b0.2 j hjp))))))
 have hlen:((p.1,p.2.1,vs)::(u++w)).length=(u++p::w).length:=by simp only [List.length_cons,List.length_append]; omega
 refine ⟨e,n,a,O2,O3,O4,O5,O6,O7,c1,c2,s1,s2,c3,s3,s4,c4,s5,s6,⟨h0,stay0 _ _ _ (.inl ⟨rfl,by omega⟩) (.inl (Ne.symm hpl)) h1,?_,stay0 _ _ _ (.inl ⟨rfl,by omega⟩) (.inl (Ne.symm hpl)) h3,?_,fun y hy=>?_,?_,?_,?_,by rw [hlen]; exact h9⟩,get⟩
 · rw [hlen]
   exact stay0 _ _ _ (.inl ⟨rfl,by omega⟩) (.inl (Ne.symm hpl)) h2
 · rw [List.map_cons,List.map_append]
   exact hR7
 · rcases List.mem_cons.1 hy with rfl | hy
   · exact ⟨hpl,hpm,fun u v hu=>stay _ _ _ (.inr ⟨hpl,by omega⟩) (c0 u v hu),hvs⟩
   · have hy':y∈u++p::w:=by
      rcases List.mem_append.1 hy with b | b
      · exact List.mem_append_left _ b
      · exact List.mem_append_right _ (List.mem_cons_of_mem _ b)
     obtain ⟨q1,q2,q3,q4⟩:=h5 y hy'
     have hyp:y.1≠p.1:=by
      rcases List.mem_append.1 hy with b | b
      · exact hpu _ (List.mem_map_of_mem b)
      · exact hpw _ (List.mem_map_of_mem b)
     exact ⟨q1,q2,fun u v hu=>stay0 _ _ _ (.inr ⟨q1,by omega⟩) (.inl hyp) (q3 u v hu),q4⟩
 · rw [List.map_cons,List.map_append,List.nodup_cons]
   exact ⟨nd2,nd1⟩
 · obtain ⟨m1,m2⟩:=xO h7
   rw [List.map_cons,List.map_append,List.nodup_cons]
   exact ⟨m2,m1⟩
 · refine (h8.same (get mi h0 fun y hy=>(h5 y hy).2.1)).re (fun y hy=>?_) (fun y hy=>?_)
   · rcases List.mem_append.1 hy with b | b
     · exact ⟨y,by simp [b],rfl,rfl⟩
     · rcases List.mem_cons.1 b with rfl | b
       · exact ⟨(y.1,y.2.1,vs),by simp,rfl,rfl⟩
       · exact ⟨y,by simp [b],rfl,rfl⟩
   · rcases List.mem_cons.1 hy with rfl | hy
     · exact ⟨p,by simp,rfl⟩
     · rcases List.mem_append.1 hy with b | b
       · exact ⟨y,by simp [b],rfl⟩
       · exact ⟨y,by simp [b],rfl⟩
theorem LR.ids (h:LR O kav kc vn l mi cap L):∀ i∈L.map (·.1),i≠l∧i≠mi:=fun i hi=>by
 obtain ⟨y,hy,rfl⟩:=List.mem_map.1 hi
 exact ⟨(h.2.2.2.2.2.1 y hy).1,(h.2.2.2.2.2.1 y hy).2.1⟩
theorem add (M:MpT mt kt el kav .nilp)(h:LR O kav kc vn l mi cap L)(hl:l<N)(hm:mi<N)(hx:∀ x∈L,x.1<N)(hk:∀ x∈L,x.2.1≠k)(hlen:L.length<cap){O1:T AObj}{n:Nat}{f:Nat→AV}(r1:Row O1 N n f)(f1:Frm O O1 N)(e0:f 0=.nilp)(e1:f 1=.nilp)(hn:2<n)(ed:∀ u v,(kc k++vs)[u]?=some v→2+u<n∧f (2+u)=v)(hvs:vs.length=vn)(G:T (T AV)) :
 ∃ (a:Ev.Node) (O2 O3 O4 O5 O6 O7:T AObj),Cell O1 l 2 (.mp mi) ∧
  xV P ⟨O1,N+1,G⟩ mt (.mp mi) (kav k) (.ptr N 0 0)=some ⟨O2,N+1,G⟩∧Cell O2 l 1 (.int .i64 ((L.length:Nat):Int))∧zc ⟨O2,N+1,G⟩ l 0 1 [.int .i64 ((L.length+1:Nat):Int)]=some ⟨O3,N+1,G⟩∧Cell O3 l 4 (pt a) ∧
  zc ⟨O3,N+1,G⟩ N 0 0 [pt (l,3)]=some ⟨O4,N+1,G⟩∧zc ⟨O4,N+1,G⟩ N 0 1 [pt a]=some ⟨O5,N+1,G⟩∧Cell O5 N 1 (pt a) ∧
  zc ⟨O5,N+1,G⟩ a.1 0 a.2 [pt (nd N)]=some ⟨O6,N+1,G⟩∧zc ⟨O6,N+1,G⟩ l 0 4 [pt (nd N)]=some ⟨O7,N+1,G⟩ ∧
  LR O7 kav kc vn l mi cap ((N,k,vs)::L)∧Dat O1 N (kc k++vs)∧∀ j,j≠N→j≠l→j≠mi→(∀ y∈L,y.1≠j)→O7.get j=O.get j:=by
 have hids:=h.ids
 obtain ⟨h0,h1,h2,h3,h4,h5,h6,h7,h8,h9⟩:=h
 have hxN:∀ i∈L.map (·.1),i<N:=fun i hi=>by obtain ⟨y,hy,rfl⟩:=List.mem_map.1 hi; exact hx y hy
 have hNx:N ∉ L.map (·.1):=fun hi=>by have:=hxN N hi; omega
 have c0:Cell O1 N 0 .nilp:=⟨n,f,r1,by omega,e0⟩
 have c1:Cell O1 N 1 .nilp:=⟨n,f,r1,by omega,e1⟩
 have hD:Dat O1 N (kc k++vs):=fun u v hu=>⟨n,f,r1,(ed u v hu).1,(ed u v hu).2⟩
 have g1:∀ j,j≠N→O1.get j=O.get j:=f1
 obtain ⟨O2,s2,m2,f2⟩:=(h8.same (g1 mi (by omega))).put M hk N vs (N+1) G
 have hlm:l≠mi:=Ne.symm h0
 have c2:∀ i j c,i≠N→i≠mi→Cell O i j c→Cell O2 i j c:=fun i j c a b hc=>(hc.same (g1 i a)).same (f2 i b)
 have n2:∀ j c,Cell O1 N j c→Cell O2 N j c:=fun j c hc=>hc.same (f2 N (by omega))
 have hl2:=c2 l 1 _ (by omega) hlm h2
 obtain ⟨O3,s3,d3,b3⟩:=hl2.store (v:=.int .i64 ((L.length+1:Nat):Int)) rfl (N+1) G
 have hR2:Ring O2 l (L.map (·.1)):=zaP h4 fun i hi=>by
  rcases hi with rfl | hi
  · exact (f2 _ hlm).trans (g1 _ (by omega))
  · exact (f2 _ (hids i hi).2).trans (g1 _ (by have:=hxN i hi; omega))
 have hR3:Ring O3 l (L.map (·.1)):=zfp (c:=.nilp) (c':=.nilp) hR2 (fun i hi=>(hids i hi).1) b3
 have hNl:N≠l:=by omega
 have q0:Cell O3 N 0 .nilp:=b3.1 _ _ _ (.inl hNl) (n2 _ _ c0)
 have q1:Cell O3 N 1 .nilp:=b3.1 _ _ _ (.inl hNl) (n2 _ _ c1)
 obtain ⟨a,O4,O5,O6,O7,ha,c3,s4,s5,c4,s6,s7,hR7,b4,b5,b6,b7⟩:=hR3.enter (fun i hi=>(hids i hi).1) hNx hNl q0 q1 h6 (N+1) G
 have ga:=zfN ha fun i hi=>(hids i hi).1
 have gp:gd l (nd N):=.inr ⟨N,hNl,rfl⟩
 have stay:∀ i j c,dat l i j→Cell O3 i j c→Cell O7 i j c:=fun i j c hd hc =>
  zbR (x:=(l,3)) b7 (.inl rfl) hd (zbM b6 ga hd (zbR (x:=nd N) b5 gp hd (zbM (x:=nd N) b4 gp hd hc)))
 have stay0:∀ i j c,dat l i j→i≠N→i≠mi→(i≠l∨j≠1)→Cell O i j c→Cell O7 i j c:=fun i j c hd e1 e2 e3 hc=>stay i j c hd (b3.1 _ _ _ e3 (c2 _ _ _ e1 e2 hc))
 have get:∀ j,j≠N→j≠l→(∀ y∈L,y.1≠j)→O7.get j=O2.get j:=fun j hj hjl hy=>by
  have hja:j≠a.1:=zc5 ha hjl fun i hi=>by obtain ⟨y,hm,rfl⟩:=List.mem_map.1 hi; exact hy y hm
  exact (b7.2 j hjl).trans ((b6.2 j hja).trans ((b5.2 j hj).trans ((b4.2 j hj).trans (b3.2 j hjl))))
 refine ⟨a,O2,O3,O4,O5,O6,O7,h3.same (g1 l (by omega)),s2,hl2,s3,c3,s4,s5,c4,s6,s7,⟨h0,stay0 _ _ _ (.inl ⟨rfl,by omega⟩) (by omega) hlm (.inr (by omega)) h1,stay _ _ _ (.inl ⟨rfl,by omega⟩) d3,stay0 _ _ _ (.inl ⟨rfl,by omega⟩) (by omega) hlm (.inr (by omega)) h3,hR7,fun y hy=>?_,?_,?_,?_,by show L.length+1≤cap; omega⟩,hD,fun j e1 e2 e3 e4=>(get j e1 e2 e4).trans ((f2 j e3).trans (g1 j e1))⟩
 · rcases List.mem_cons.1 hy with rfl | hy
   · exact ⟨hNl,by show N≠mi; omega,fun u v hu=>stay _ _ _ (.inr ⟨hNl,by omega⟩) (b3.1 _ _ _ (.inl hNl) (n2 _ _ (hD u v hu))),hvs⟩
   · obtain ⟨p1,p2,p3,p4⟩:=h5 y hy
     have:=hx y hy
     exact ⟨p1,p2,fun u v hu=>stay0 _ _ _ (.inr ⟨p1,by omega⟩) (by omega) p2 (.inl p1) (p3 u v hu),p4⟩
 · rw [List.map_cons,List.nodup_cons]
   exact ⟨hNx,h6⟩
 · rw [List.map_cons,List.nodup_cons]
   refine ⟨fun hm=>?_,h7⟩
   obtain ⟨y,hy,e⟩:=List.mem_map.1 hm
   exact hk y hy e
 · exact m2.same (get mi (by omega) h0 fun y hy=>(h5 y hy).2.1)
theorem drop (M:MpT mt kt el kav .nilp){y:Ent κ}(h:LR O kav kc vn l mi cap (u++[y]))(t:Option TypeId)(N:Nat)(G:T (T AV)) :
 ∃ (e n:Ev.Node) (O1 O2 O3 O4:T AObj),Cell O l 3 (pt (nd y.1))∧zt P ⟨O,N,G⟩ .delete (some mt) t [.mp mi,kav y.2.1]=some (.val (.tup []) ⟨O1,N,G⟩) ∧
  Cell O1 l 1 (.int .i64 (((u++[y]).length:Nat):Int))∧zc ⟨O1,N,G⟩ l 0 1 [.int .i64 ((u.length:Nat):Int)]=some ⟨O2,N,G⟩∧Cell O2 y.1 1 (pt e)∧Cell O2 y.1 0 (pt n) ∧
  zc ⟨O2,N,G⟩ e.1 0 e.2 [pt n]=some ⟨O3,N,G⟩∧zc ⟨O3,N,G⟩ n.1 0 (n.2+1) [pt e]=some ⟨O4,N,G⟩∧LR O4 kav kc vn l mi cap u∧∀ j,j≠l→j≠mi→(∀ x∈u++[y],x.1≠j)→O4.get j=O.get j:=by
 have hids:=h.ids
 obtain ⟨h0,h1,h2,h3,h4,h5,h6,h7,h8,h9⟩:=h
 have h8':MapOk O mi kav (u++y::[]):=h8
 have hlm:l≠mi:=Ne.symm h0
 rw [List.map_append,List.map_cons,List.map_nil] at h4 h6 h7 hids
 obtain ⟨nd1,nd2⟩:=xO h6
 obtain ⟨nk1,nk2⟩:=xO h7
 rw [List.append_nil] at nd1 nd2 nk1 nk2
 obtain ⟨O1,s1,m1,f1⟩:=h8'.del M u [] (fun z hz e=>nk2 (by rw [List.append_nil] at hz; rw [← e]; exact List.mem_map_of_mem hz)) rfl t N G
 rw [List.append_nil] at m1
 obtain ⟨y1,y2,y3,y4⟩:=h5 y (by simp)
 have c1:∀ i j c,i≠mi→Cell O i j c→Cell O1 i j c:=fun i j c a hc=>hc.same (f1 i a)
 have hl1:=c1 l 1 _ hlm h2
 obtain ⟨O2,s2,d2,b2⟩:=hl1.store (v:=.int .i64 ((u.length:Nat):Int)) rfl N G
 have hR1:Ring O1 l (u.map (·.1)++[y.1]):=zaP h4 fun i hi=>by
  rcases hi with rfl | hi
  · exact f1 _ hlm
  · exact f1 _ (hids i hi).2
 have hR2:Ring O2 l (u.map (·.1)++y.1::[]):=zfp (c:=.nilp) (c':=.nilp) hR1 (fun i hi=>(hids i hi).1) b2
 obtain ⟨e,n,O3,O4,he,hn,k1,k2,s3,s4,hR4,b3,b4⟩:=hR2.leave h6 (fun i hi=>(hids i hi).1) N G
 rw [List.append_nil] at hR4
 have hul:∀ i∈u.map (·.1),i≠l:=fun i hi=>(hids i (List.mem_append_left _ hi)).1
 have ge:gd l e:=zfN he fun i hi=>absurd hi List.not_mem_nil
 have gn:=zfN hn hul
 have stay:∀ i j c,dat l i j→Cell O2 i j c→Cell O4 i j c:=fun i j c hd hc=>zbR b4 gn hd (zbM b3 ge hd hc)
 have stay0:∀ i j c,dat l i j→i≠mi→(i≠l∨j≠1)→Cell O i j c→Cell O4 i j c:=fun i j c hd e2 e3 hc=>stay i j c hd (b2.1 _ _ _ e3 (c1 _ _ _ e2 hc))
 have get:∀ j,j≠l→(∀ x∈u++[y],x.1≠j)→O4.get j=O1.get j:=fun j hjl hx=>by
  have hjn:j≠n.1:=zc5 hn hjl fun i hi=>by obtain ⟨z,hm,rfl⟩:=List.mem_map.1 hi; exact hx z (by simp [hm])
  have hje:j≠e.1:=zc5 he hjl fun i hi=>absurd hi List.not_mem_nil
  exact (b4.2 j hjn).trans ((b3.2 j hje).trans (b2.2 j hjl))
 refine ⟨e,n,O1,O2,O3,O4,zgQ h4,s1,hl1,s2,k1,k2,s3,s4,⟨h0,stay0 _ _ _ (.inl ⟨rfl,by omega⟩) hlm (.inr (by omega)) h1,stay _ _ _ (.inl ⟨rfl,by omega⟩) d2,stay0 _ _ _ (.inl ⟨rfl,by omega⟩) hlm (.inr (by omega)) h3,hR4,fun x hx=>?_,nd1,nk1,m1.same (get mi h0 fun x hx=>(h5 x hx).2.1),?_⟩,fun j e1 e2 e3=>(get j e1 e3).trans (f1 j e2)⟩
 · obtain ⟨p1,p2,p3,p4⟩:=h5 x (List.mem_append_left _ hx)
   exact ⟨p1,p2,fun u v hu=>stay0 _ _ _ (.inr ⟨p1,by omega⟩) p2 (.inl p1) (p3 u v hu),p4⟩
 · rw [List.length_append] at h9
   omega
theorem LR.same (h:LR O kav kc vn l mi cap L)(e:∀ j,j=l∨j=mi∨(∃ x∈L,x.1=j)→O'.get j=O.get j):LR O' kav kc vn l mi cap L:=by
 obtain ⟨h0,h1,h2,h3,h4,h5,h6,h7,h8,h9⟩:=h
 have el:=e l (.inl rfl)
 refine ⟨h0,h1.same el,h2.same el,h3.same el,zaP h4 fun i hi=>?_,fun x hx=>?_,h6,h7,h8.same (e mi (.inr (.inl rfl))),h9⟩
 · rcases hi with rfl | hi
   · exact el
   · obtain ⟨x,hx,rfl⟩:=List.mem_map.1 hi
     exact e _ (.inr (.inr ⟨x,hx,rfl⟩))
 · obtain ⟨a,b,c,d⟩:=h5 x hx
   exact ⟨a,b,fun u v hu=>(c u v hu).same (e x.1 (.inr (.inr ⟨x,hx,rfl⟩))),d⟩
theorem LR.low (h:LR O kav kc vn l mi cap L)(hl:l<N)(hm:mi<N)(hx:∀ x∈L,x.1<N)(f:∀ j,j<N→O'.get j=O.get j):LR O' kav kc vn l mi cap L:=h.same fun j hj=>by
 rcases hj with rfl | rfl | ⟨x,hx',rfl⟩
 · exact f _ hl
 · exact f _ hm
 · exact f _ (hx x hx')
def ziB (cap:Nat) (k:κ) (v:List AV) (ps:List (κ × List AV)):List (κ × List AV):=if cap=0 then ps else (k,v)::(ps.filter fun q=>!(q.1==k)).take (cap - 1)
theorem y0 {β:Type}{l:List (κ × β)}(h:∀ x∈l,x.1≠k):l.filter (fun q=>!(q.1==k))=l:=List.filter_eq_self.2 fun x hx=>by
 have:=beq_eq_false_iff_ne.2 (h x hx)
 simp only [this,Bool.not_false]
theorem zfw {β:Type}{us ws:List (κ × β)}{q:κ × β}(hq:q.1=k)(hu:∀ x∈us++ws,x.1≠k):(us++q::ws).filter (fun q=>!(q.1==k))=us++ws:=by
 rw [List.filter_append,List.filter_cons,y0 fun x hx=>hu x (List.mem_append_left _ hx),y0 fun x hx=>hu x (List.mem_append_right _ hx)]
 have:(q.1==k)=true:=by rw [hq,beq_self_eq_true]
 simp [this]
theorem zaf {x:Ent κ}{L:List (Ent κ)}(h:x∈L):∃ u w,L=u++x::w:=List.append_of_mem h
end
end Go.Proofs.Ytjddelgojkgnaaa.gx
end
section
set_option maxRecDepth 100000
set_option linter.unusedVariables false
namespace Go.Proofs.Ytjddelgojkgnaaa.gx
open Go Ev
theorem q_phy (R:AV→AHeap→Prop)(keep:Nat)(f0:FuncId)(rest:List AFrame)(l:Nat)(k:List UInt8)(v:AV)(cap:Int)(N:Nat)(O:T AObj)(G:T (T AV))(K:AM→Prop):Obl P f0 (fun v h=>R v h) keep K [.run 9,.hop (.int .i64 cap) O,.run 3,.know 15 true,.run 2,.keep []] ((AM.mk (enF 8 [.ptr l 0 0,.str k,v]) rest ⟨O,N,G⟩))=((za (⟨O,N,G⟩) (l) 0 0 1=(some [.int .i64 cap]))∧((cap==(0:Int))=true)∧K (AM.mk (RF 8 53 .leaf [.code (cd P 8 [0,1,0]),.code (cd P 8 [1])]) rest ⟨O,N,G⟩)):=by kernel_rfl
theorem q_phn (R:AV→AHeap→Prop)(keep:Nat)(f0:FuncId)(rest:List AFrame)(l:Nat)(p:Nat)(mi:Nat)(a:Nat)(ao:Nat)(k:List UInt8)(v:AV)(cap:Int)(N:Nat)(O:T AObj)(e:Nat)(eo:Nat)(wn:Nat)(wo:Nat)(O1:T AObj)(O2:T AObj)(O3:T AObj)(O4:T AObj)(O5:T AObj)(O6:T AObj)(O7:T AObj)(G:T (T AV))(K:AM→Prop):Obl P f0 (fun v h=>R v h) keep K [.run 9,.hop (.int .i64 cap) O,.run 3,.know 15 false,.run 16,.callv [0] (.bool true),.run 9,.hop (.mp mi) O,.run 1,.hop (.ptr p 0 0) O,.run 19,.hopn (.nilp) O1 (N),.run 10,.hop (.ptr e 0 eo) O1,.run 4,.hop (.ptr wn 0 wo) O1,.run 4,.hop (.ptr wn 0 wo) O1,.run 4,.hop (.ptr e 0 eo) O1,.run 3,.hop (.nilp) O2,.run 3,.hop (.nilp) O3,.run 21,.hop (.ptr a 0 ao) O3,.run 3,.hop (.nilp) O4,.run 3,.hop (.nilp) O5,.run 6,.hop (.ptr a 0 ao) O5,.run 6,.hop (.nilp) O6,.run 4,.hop (.nilp) O7,.run 5,.keep []] ((AM.mk (enF 8 [.ptr l 0 0,.str k,v]) rest ⟨O,N,G⟩))=((za (⟨O,N,G⟩) (l) 0 0 1=(some [.int .i64 cap]))∧((cap==(0:Int))=false)∧(Goal P 0 35 (fun x x_1=>x=AV.bool true) (zP P 35 [.str k] G))∧(za (⟨O,N,G⟩) (l) 0 2 1=(some [.mp mi]))∧(xc P (⟨O,N,G⟩) 51 (.mp mi) (.str k) (false)=(some (.ptr p 0 0)))∧(v.cells.length.beq 1=true∧zc (⟨O,N,G⟩:AHeap) p 0 3 v.cells=some (⟨O1,N,G⟩:AHeap))∧(za (⟨O1,N,G⟩) (p) 0 1 1=(some [.ptr e 0 eo]))∧(za (⟨O1,N,G⟩) (p) 0 0 1=(some [.ptr wn 0 wo]))∧(za (⟨O1,N,G⟩) (p) 0 0 1=(some [.ptr wn 0 wo]))∧(za (⟨O1,N,G⟩) (p) 0 1 1=(some [.ptr e 0 eo]))∧(zc (⟨O1,N,G⟩) (e) 0 (eo) ([.ptr wn 0 wo])=(some ⟨O2,N,G⟩))∧(zc (⟨O2,N,G⟩) (wn) 0 (wo+1) ([.ptr e 0 eo])=(some ⟨O3,N,G⟩))∧(za (⟨O3,N,G⟩) (l) 0 4 1=(some [.ptr a 0 ao]))∧(zc (⟨O3,N,G⟩) (p) 0 0 ([.ptr l 0 3])=(some ⟨O4,N,G⟩))∧(zc (⟨O4,N,G⟩) (p) 0 1 ([.ptr a 0 ao])=(some ⟨O5,N,G⟩))∧(za (⟨O5,N,G⟩) (p) 0 1 1=(some [.ptr a 0 ao]))∧(zc (⟨O5,N,G⟩) (a) 0 (ao) ([.ptr p 0 0])=(some ⟨O6,N,G⟩))∧(zc (⟨O6,N,G⟩) (l) 0 4 ([.ptr p 0 0])=(some ⟨O7,N,G⟩))∧K (AM.mk (RF 8 53 .leaf [.code (cd P 8 [0,1,0]),.code (cd P 8 [1,1,1])]) rest ⟨O7,N,G⟩)):=by kernel_rfl
theorem zlL (R:AV→AHeap→Prop)(keep:Nat)(f0:FuncId)(rest:List AFrame)(l:Nat)(y:Nat)(mi:Nat)(a:Nat)(ao:Nat)(k:List UInt8)(v:AV)(cap:Int)(kept:Int)(N:Nat)(O:T AObj)(e:Nat)(eo:Nat)(wn:Nat)(wo:Nat)(k2:List UInt8)(O1:T AObj)(O2:T AObj)(O3:T AObj)(O4:T AObj)(O5:T AObj)(O6:T AObj)(O7:T AObj)(O8:T AObj)(O9:T AObj)(O10:T AObj)(O11:T AObj)(G:T (T AV))(K:AM→Prop):Obl P f0 (fun v h=>R v h) keep K [.run 9,.hop (.int .i64 cap) O,.run 3,.know 15 false,.run 16,.callv [0] (.bool true),.run 9,.hop (.mp mi) O,.run 1,.hop (.nilp) O,.run 20,.hop (.int .i64 kept) O,.run 3,.hop (.int .i64 cap) O,.run 2,.know 38 true,.run 8,.hop (.ptr y 0 0) O,.run 7,.hop (.str k2) O,.run 1,.callv [0] (.bool true),.run 6,.hop (.mp mi) O,.run 3,.hop (.str k2) O,.hop (.tup []) O1,.run 6,.hop (.int .i64 kept) O1,.run 3,.hop (.nilp) O2,.run 9,.hop (.ptr e 0 eo) O2,.run 4,.hop (.ptr wn 0 wo) O2,.run 4,.hop (.ptr wn 0 wo) O2,.run 4,.hop (.ptr e 0 eo) O2,.run 3,.hop (.nilp) O3,.run 3,.hop (.nilp) O4,.run 11,.hopn (.agg [.nilp,.nilp,.str k,v]) O4 (N),.hopn (.nilp) O5 (N),.run 7,.hop (.str k) O5,.run 1,.callv [0] (.bool true),.run 6,.hop (.mp mi) O5,.run 3,.hop (.str k) O5,.run 1,.hop (.nilp) O6,.run 6,.hop (.int .i64 (IntKind.i64.wrap (kept - (1:Int)))) O6,.run 3,.hop (.nilp) O7,.run 17,.hop (.ptr a 0 ao) O7,.run 3,.hop (.nilp) O8,.run 3,.hop (.nilp) O9,.run 6,.hop (.ptr a 0 ao) O9,.run 6,.hop (.nilp) O10,.run 4,.hop (.nilp) O11,.run 8,.keep []] ((AM.mk (enF 8 [.ptr l 0 0,.str k,v]) rest ⟨O,N,G⟩))=((za (⟨O,N,G⟩) (l) 0 0 1=(some [.int .i64 cap]))∧((cap==(0:Int))=false)∧(Goal P 0 35 (fun x x_1=>x=AV.bool true) (zP P 35 [.str k] G))∧(za (⟨O,N,G⟩) (l) 0 2 1=(some [.mp mi]))∧(xc P (⟨O,N,G⟩) 51 (.mp mi) (.str k) (false)=(some .nilp))∧(za (⟨O,N,G⟩) (l) 0 1 1=(some [.int .i64 kept]))∧(za (⟨O,N,G⟩) (l) 0 0 1=(some [.int .i64 cap]))∧(decide (kept≥cap)=true)∧(za (⟨O,N,G⟩) (l) 0 3 1=(some [.ptr y 0 0]))∧(za (⟨O,N,G⟩) (y) 0 2 1=(some [.str k2]))∧(Goal P 0 35 (fun x x_1=>x=AV.bool true) (zP P 35 [.str k2] G))∧(za (⟨O,N,G⟩) (l) 0 2 1=(some [.mp mi]))∧(za (⟨O,N,G⟩) (y) 0 2 1=(some [.str k2]))∧(zt P (⟨O,N,G⟩) (Builtin.delete) ((some 51)) ((some 9)) ([.mp mi,.str k2])=(some (.val (.tup []) ⟨O1,N,G⟩)))∧(za (⟨O1,N,G⟩) (l) 0 1 1=(some [.int .i64 kept]))∧(zc (⟨O1,N,G⟩) (l) 0 1 ([.int .i64 (IntKind.i64.wrap (kept - (1:Int)))])=(some ⟨O2,N,G⟩))∧(za (⟨O2,N,G⟩) (y) 0 1 1=(some [.ptr e 0 eo]))∧(za (⟨O2,N,G⟩) (y) 0 0 1=(some [.ptr wn 0 wo]))∧(za (⟨O2,N,G⟩) (y) 0 0 1=(some [.ptr wn 0 wo]))∧(za (⟨O2,N,G⟩) (y) 0 1 1=(some [.ptr e 0 eo]))∧(zc (⟨O2,N,G⟩) (e) 0 (eo) ([.ptr wn 0 wo])=(some ⟨O3,N,G⟩))∧(zc (⟨O3,N,G⟩) (wn) 0 (wo+1) ([.ptr e 0 eo])=(some ⟨O4,N,G⟩))∧(zak P 56 ([(1,.str k),(2,v)])=(some (.agg [.nilp,.nilp,.str k,v])))∧((Nat.beq 4 (AV.agg [AV.nilp,AV.nilp,AV.str k,v]).cells.length&&(AV.agg [AV.nilp,AV.nilp,AV.str k,v]).cells.all AV.one)=true∧T.set (some (AObj.cells (zd T.leaf 0 (AV.agg [AV.nilp,AV.nilp,AV.str k,v]).cells) (AV.agg [AV.nilp,AV.nilp,AV.str k,v]).cells.length 56 0 0 1 0 false T.leaf)) (⟨O4,N,G⟩:AHeap).objs N=O5)∧(za (⟨O5,N+1,G⟩) (N) 0 2 1=(some [.str k]))∧(Goal P 0 35 (fun x x_1=>x=AV.bool true) (zP P 35 [.str k] G))∧(za (⟨O5,N+1,G⟩) (l) 0 2 1=(some [.mp mi]))∧(za (⟨O5,N+1,G⟩) (N) 0 2 1=(some [.str k]))∧(xV P (⟨O5,N+1,G⟩) 51 (.mp mi) (.str k) (.ptr N 0 0)=(some ⟨O6,N+1,G⟩))∧(za (⟨O6,N+1,G⟩) (l) 0 1 1=(some [.int .i64 (IntKind.i64.wrap (kept - (1:Int)))]))∧(zc (⟨O6,N+1,G⟩) (l) 0 1 ([.int .i64 (IntKind.i64.wrap (IntKind.i64.wrap (kept - (1:Int))+(1:Int)))])=(some ⟨O7,N+1,G⟩))∧(za (⟨O7,N+1,G⟩) (l) 0 4 1=(some [.ptr a 0 ao]))∧(zc (⟨O7,N+1,G⟩) (N) 0 0 ([.ptr l 0 3])=(some ⟨O8,N+1,G⟩))∧(zc (⟨O8,N+1,G⟩) (N) 0 1 ([.ptr a 0 ao])=(some ⟨O9,N+1,G⟩))∧(za (⟨O9,N+1,G⟩) (N) 0 1 1=(some [.ptr a 0 ao]))∧(zc (⟨O9,N+1,G⟩) (a) 0 (ao) ([.ptr N 0 0])=(some ⟨O10,N+1,G⟩))∧(zc (⟨O10,N+1,G⟩) (l) 0 4 ([.ptr N 0 0])=(some ⟨O11,N+1,G⟩))∧K (AM.mk (RF 8 53 .leaf []) rest ⟨O11,N+1,G⟩)):=by kernel_rfl
theorem zlG (R:AV→AHeap→Prop)(keep:Nat)(f0:FuncId)(rest:List AFrame)(l:Nat)(mi:Nat)(a:Nat)(ao:Nat)(k:List UInt8)(v:AV)(cap:Int)(kept:Int)(N:Nat)(O:T AObj)(O1:T AObj)(O2:T AObj)(O3:T AObj)(O4:T AObj)(O5:T AObj)(O6:T AObj)(O7:T AObj)(G:T (T AV))(K:AM→Prop):Obl P f0 (fun v h=>R v h) keep K [.run 9,.hop (.int .i64 cap) O,.run 3,.know 15 false,.run 16,.callv [0] (.bool true),.run 9,.hop (.mp mi) O,.run 1,.hop (.nilp) O,.run 20,.hop (.int .i64 kept) O,.run 3,.hop (.int .i64 cap) O,.run 2,.know 38 false,.run 6,.hopn (.agg [.nilp,.nilp,.str k,v]) O (N),.hopn (.nilp) O1 (N),.run 7,.hop (.str k) O1,.run 1,.callv [0] (.bool true),.run 6,.hop (.mp mi) O1,.run 3,.hop (.str k) O1,.run 1,.hop (.nilp) O2,.run 6,.hop (.int .i64 kept) O2,.run 3,.hop (.nilp) O3,.run 17,.hop (.ptr a 0 ao) O3,.run 3,.hop (.nilp) O4,.run 3,.hop (.nilp) O5,.run 6,.hop (.ptr a 0 ao) O5,.run 6,.hop (.nilp) O6,.run 4,.hop (.nilp) O7,.run 8,.keep []] ((AM.mk (enF 8 [.ptr l 0 0,.str k,v]) rest ⟨O,N,G⟩))=((za (⟨O,N,G⟩) (l) 0 0 1=(some [.int .i64 cap]))∧((cap==(0:Int))=false)∧(Goal P 0 35 (fun x x_1=>x=AV.bool true) (zP P 35 [.str k] G))∧(za (⟨O,N,G⟩) (l) 0 2 1=(some [.mp mi]))∧(xc P (⟨O,N,G⟩) 51 (.mp mi) (.str k) (false)=(some .nilp))∧(za (⟨O,N,G⟩) (l) 0 1 1=(some [.int .i64 kept]))∧(za (⟨O,N,G⟩) (l) 0 0 1=(some [.int .i64 cap]))∧(decide (kept≥cap)=false)∧(zak P 56 ([(1,.str k),(2,v)])=(some (.agg [.nilp,.nilp,.str k,v])))∧((Nat.beq 4 (AV.agg [AV.nilp,AV.nilp,AV.str k,v]).cells.length&&(AV.agg [AV.nilp,AV.nilp,AV.str k,v]).cells.all AV.one)=true∧T.set (some (AObj.cells (zd T.leaf 0 (AV.agg [AV.nilp,AV.nilp,AV.str k,v]).cells) (AV.agg [AV.nilp,AV.nilp,AV.str k,v]).cells.length 56 0 0 1 0 false T.leaf)) (⟨O,N,G⟩:AHeap).objs N=O1)∧(za (⟨O1,N+1,G⟩) (N) 0 2 1=(some [.str k]))∧(Goal P 0 35 (fun x x_1=>x=AV.bool true) (zP P 35 [.str k] G))∧(za (⟨O1,N+1,G⟩) (l) 0 2 1=(some [.mp mi]))∧(za (⟨O1,N+1,G⟩) (N) 0 2 1=(some [.str k]))∧(xV P (⟨O1,N+1,G⟩) 51 (.mp mi) (.str k) (.ptr N 0 0)=(some ⟨O2,N+1,G⟩))∧(za (⟨O2,N+1,G⟩) (l) 0 1 1=(some [.int .i64 kept]))∧(zc (⟨O2,N+1,G⟩) (l) 0 1 ([.int .i64 (IntKind.i64.wrap (kept+(1:Int)))])=(some ⟨O3,N+1,G⟩))∧(za (⟨O3,N+1,G⟩) (l) 0 4 1=(some [.ptr a 0 ao]))∧(zc (⟨O3,N+1,G⟩) (N) 0 0 ([.ptr l 0 3])=(some ⟨O4,N+1,G⟩))∧(zc (⟨O4,N+1,G⟩) (N) 0 1 ([.ptr a 0 ao])=(some ⟨O5,N+1,G⟩))∧(za (⟨O5,N+1,G⟩) (N) 0 1 1=(some [.ptr a 0 ao]))∧(zc (⟨O5,N+1,G⟩) (a) 0 (ao) ([.ptr N 0 0])=(some ⟨O6,N+1,G⟩))∧(zc (⟨O6,N+1,G⟩) (l) 0 4 ([.ptr N 0 0])=(some ⟨O7,N+1,G⟩))∧K (AM.mk (RF 8 53 .leaf []) rest ⟨O7,N+1,G⟩)):=by kernel_rfl
theorem q_gh (R:AV→AHeap→Prop)(keep:Nat)(f0:FuncId)(rest:List AFrame)(l:Nat)(p:Nat)(mi:Nat)(a:Nat)(ao:Nat)(k:List UInt8)(N:Nat)(O:T AObj)(e:Nat)(eo:Nat)(wn:Nat)(wo:Nat)(ve:AV)(O1:T AObj)(O2:T AObj)(O3:T AObj)(O4:T AObj)(O5:T AObj)(O6:T AObj)(G:T (T AV))(K:AM→Prop):Obl P f0 (fun v h=>R v h) keep K [.run 27,.callv [0] (.bool true),.run 9,.hop (.mp mi) O,.run 1,.hop (.ptr p 0 0) O,.run 23,.hop (.ptr e 0 eo) O,.run 4,.hop (.ptr wn 0 wo) O,.run 4,.hop (.ptr wn 0 wo) O,.run 4,.hop (.ptr e 0 eo) O,.run 3,.hop (.nilp) O1,.run 3,.hop (.nilp) O2,.run 21,.hop (.ptr a 0 ao) O2,.run 3,.hop (.nilp) O3,.run 3,.hop (.nilp) O4,.run 6,.hop (.ptr a 0 ao) O4,.run 6,.hop (.nilp) O5,.run 4,.hop (.nilp) O6,.run 9,.hop (ve) O6,.run 4,.keep [4,5]] ((AM.mk (enF 11 [.ptr l 0 0,.str k]) rest ⟨O,N,G⟩))=((Goal P 0 35 (fun x x_1=>x=AV.bool true) (zP P 35 [.str k] G))∧(za (⟨O,N,G⟩) (l) 0 2 1=(some [.mp mi]))∧(xc P (⟨O,N,G⟩) 51 (.mp mi) (.str k) (false)=(some (.ptr p 0 0)))∧(za (⟨O,N,G⟩) (p) 0 1 1=(some [.ptr e 0 eo]))∧(za (⟨O,N,G⟩) (p) 0 0 1=(some [.ptr wn 0 wo]))∧(za (⟨O,N,G⟩) (p) 0 0 1=(some [.ptr wn 0 wo]))∧(za (⟨O,N,G⟩) (p) 0 1 1=(some [.ptr e 0 eo]))∧(zc (⟨O,N,G⟩) (e) 0 (eo) ([.ptr wn 0 wo])=(some ⟨O1,N,G⟩))∧(zc (⟨O1,N,G⟩) (wn) 0 (wo+1) ([.ptr e 0 eo])=(some ⟨O2,N,G⟩))∧(za (⟨O2,N,G⟩) (l) 0 4 1=(some [.ptr a 0 ao]))∧(zc (⟨O2,N,G⟩) (p) 0 0 ([.ptr l 0 3])=(some ⟨O3,N,G⟩))∧(zc (⟨O3,N,G⟩) (p) 0 1 ([.ptr a 0 ao])=(some ⟨O4,N,G⟩))∧(za (⟨O4,N,G⟩) (p) 0 1 1=(some [.ptr a 0 ao]))∧(zc (⟨O4,N,G⟩) (a) 0 (ao) ([.ptr p 0 0])=(some ⟨O5,N,G⟩))∧(zc (⟨O5,N,G⟩) (l) 0 4 ([.ptr p 0 0])=(some ⟨O6,N,G⟩))∧(za (⟨O6,N,G⟩) (p) 0 3 1=(some [ve]))∧K (AM.mk (RF 11 25 (.node (.node .leaf none (.node .leaf (some (.bool true)) .leaf)) none (.node (.node .leaf (some (ve)) .leaf) none .leaf)) [.code (cd P 11 [1,0,1,0,1])]) rest ⟨O6,N,G⟩)):=by kernel_rfl
theorem q_gm (R:AV→AHeap→Prop)(keep:Nat)(f0:FuncId)(rest:List AFrame)(l:Nat)(mi:Nat)(k:List UInt8)(N:Nat)(O:T AObj)(G:T (T AV))(K:AM→Prop):Obl P f0 (fun v h=>R v h) keep K [.run 27,.callv [0] (.bool true),.run 9,.hop (.mp mi) O,.run 1,.hop (.nilp) O,.run 20,.keep [4,5]] ((AM.mk (enF 11 [.ptr l 0 0,.str k]) rest ⟨O,N,G⟩))=((Goal P 0 35 (fun x x_1=>x=AV.bool true) (zP P 35 [.str k] G))∧(za (⟨O,N,G⟩) (l) 0 2 1=(some [.mp mi]))∧(xc P (⟨O,N,G⟩) 51 (.mp mi) (.str k) (false)=(some .nilp))∧K (AM.mk (RF 11 25 (.node (.node .leaf none (.node .leaf (some (.bool false)) .leaf)) none (.node (.node .leaf (some (.nils 0 0)) .leaf) none .leaf)) [.code (cd P 11 [1,0,1,0,1]),.code (cd P 11 [1,1,1,1])]) rest ⟨O,N,G⟩)):=by kernel_rfl
theorem q_qhy (R:AV→AHeap→Prop)(keep:Nat)(f0:FuncId)(rest:List AFrame)(l:Nat)(cap:Int)(N:Nat)(O:T AObj)(ka:List UInt8)(va:List UInt8)(kb:Int)(O1:T AObj)(G:T (T AV))(K:AM→Prop):Obl P f0 (fun v h=>R v h) keep K [.run 2,.hop (.nilp) O1,.run 10,.hop (.int .i64 cap) O1,.run 3,.know 15 true,.run 2,.keep []] ((AM.mk (enF 9 [.ptr l 0 0,.agg [.str ka,.int .i64 kb],.str va]) rest ⟨O,N,G⟩))=((T.set ((some (.cells (.node (.node .leaf (some (.int .i64 kb)) .leaf) (some (.str ka)) .leaf) 2 29 0 0 1 0 false .leaf))) (O) (N)=O1)∧(za (⟨O1,N+1,G⟩) (l) 0 0 1=(some [.int .i64 cap]))∧((cap==(0:Int))=true)∧K (AM.mk (RF 9 53 .leaf [.code (cd P 9 [1,0,1,0]),.code (cd P 9 [1,1])]) rest ⟨O1,N+1,G⟩)):=by kernel_rfl
theorem q_qhn (R:AV→AHeap→Prop)(keep:Nat)(f0:FuncId)(rest:List AFrame)(l:Nat)(p:Nat)(mi:Nat)(a:Nat)(ao:Nat)(cap:Int)(N:Nat)(O:T AObj)(e:Nat)(eo:Nat)(wn:Nat)(wo:Nat)(ka:List UInt8)(va:List UInt8)(kb:Int)(O1:T AObj)(O2:T AObj)(O3:T AObj)(O4:T AObj)(O5:T AObj)(O6:T AObj)(O7:T AObj)(O8:T AObj)(O9:T AObj)(G:T (T AV))(K:AM→Prop):Obl P f0 (fun v h=>R v h) keep K [.run 2,.hop (.nilp) O1,.run 10,.hop (.int .i64 cap) O1,.run 3,.know 15 false,.run 5,.hop (.agg [.str ka,.int .i64 kb]) O1,.run 3,.hop (.nilp) O2,.run 5,.hop (.agg [.str ka,.int .i64 kb]) O2,.run 1,.callv [0] (.bool true),.run 9,.hop (.mp mi) O2,.hop (.agg [.str ka,.int .i64 kb]) O2,.hop (.ptr p 0 0) O2,.run 19,.hop (.nilp) O3,.run 10,.hop (.ptr e 0 eo) O3,.run 4,.hop (.ptr wn 0 wo) O3,.run 4,.hop (.ptr wn 0 wo) O3,.run 4,.hop (.ptr e 0 eo) O3,.run 3,.hop (.nilp) O4,.run 3,.hop (.nilp) O5,.run 21,.hop (.ptr a 0 ao) O5,.run 3,.hop (.nilp) O6,.run 3,.hop (.nilp) O7,.run 6,.hop (.ptr a 0 ao) O7,.run 6,.hop (.nilp) O8,.run 4,.hop (.nilp) O9,.run 5,.keep []] ((AM.mk (enF 9 [.ptr l 0 0,.agg [.str ka,.int .i64 kb],.str va]) rest ⟨O,N,G⟩))=((T.set ((some (.cells (.node (.node .leaf (some (.int .i64 kb)) .leaf) (some (.str ka)) .leaf) 2 29 0 0 1 0 false .leaf))) (O) (N)=O1)∧(za (⟨O1,N+1,G⟩) (l) 0 0 1=(some [.int .i64 cap]))∧((cap==(0:Int))=false)∧(za (⟨O1,N+1,G⟩) (N) 0 0 2=(some [.str ka,.int .i64 kb]))∧(T.set ((some (.cells (.node (.node .leaf (some (.int .i64 kb)) .leaf) (some (.str ka)) .leaf) 2 29 0 0 1 0 false .leaf))) (O1) (N+1)=O2)∧(za (⟨O2,N+2,G⟩) (N+1) 0 0 2=(some [.str ka,.int .i64 kb]))∧(Goal P 0 36 (fun x x_1=>x=AV.bool true) (zP P 36 [.agg [.str ka,.int .i64 kb]] G))∧(za (⟨O2,N+2,G⟩) (l) 0 2 1=(some [.mp mi]))∧(za (⟨O2,N+2,G⟩) (N+1) 0 0 2=(some [.str ka,.int .i64 kb]))∧(xc P (⟨O2,N+2,G⟩) 59 (.mp mi) (.agg [.str ka,.int .i64 kb]) (false)=(some (.ptr p 0 0)))∧(zc (⟨O2,N+2,G⟩) (p) 0 4 ([.str va])=(some ⟨O3,N+2,G⟩))∧(za (⟨O3,N+2,G⟩) (p) 0 1 1=(some [.ptr e 0 eo]))∧(za (⟨O3,N+2,G⟩) (p) 0 0 1=(some [.ptr wn 0 wo]))∧(za (⟨O3,N+2,G⟩) (p) 0 0 1=(some [.ptr wn 0 wo]))∧(za (⟨O3,N+2,G⟩) (p) 0 1 1=(some [.ptr e 0 eo]))∧(zc (⟨O3,N+2,G⟩) (e) 0 (eo) ([.ptr wn 0 wo])=(some ⟨O4,N+2,G⟩))∧(zc (⟨O4,N+2,G⟩) (wn) 0 (wo+1) ([.ptr e 0 eo])=(some ⟨O5,N+2,G⟩))∧(za (⟨O5,N+2,G⟩) (l) 0 4 1=(some [.ptr a 0 ao]))∧(zc (⟨O5,N+2,G⟩) (p) 0 0 ([.ptr l 0 3])=(some ⟨O6,N+2,G⟩))∧(zc (⟨O6,N+2,G⟩) (p) 0 1 ([.ptr a 0 ao])=(some ⟨O7,N+2,G⟩))∧(za (⟨O7,N+2,G⟩) (p) 0 1 1=(some [.ptr a 0 ao]))∧(zc (⟨O7,N+2,G⟩) (a) 0 (ao) ([.ptr p 0 0])=(some ⟨O8,N+2,G⟩))∧(zc (⟨O8,N+2,G⟩) (l) 0 4 ([.ptr p 0 0])=(some ⟨O9,N+2,G⟩))∧K (AM.mk (RF 9 53 .leaf [.code (cd P 9 [1,0,1,0]),.code (cd P 9 [1,1,1,1])]) rest ⟨O9,N+2,G⟩)):=by kernel_rfl
theorem zlC (R:AV→AHeap→Prop)(keep:Nat)(f0:FuncId)(rest:List AFrame)(l:Nat)(y:Nat)(mi:Nat)(a:Nat)(ao:Nat)(cap:Int)(kept:Int)(N:Nat)(O:T AObj)(e:Nat)(eo:Nat)(wn:Nat)(wo:Nat)(ka:List UInt8)(va:List UInt8)(kb:Int)(k2b:Int)(k2a:List UInt8)(O1:T AObj)(O2:T AObj)(O3:T AObj)(O4:T AObj)(O5:T AObj)(O6:T AObj)(O7:T AObj)(O8:T AObj)(O9:T AObj)(O10:T AObj)(O11:T AObj)(O12:T AObj)(O13:T AObj)(G:T (T AV))(K:AM→Prop):Obl P f0 (fun v h=>R v h) keep K [.run 2,.hop (.nilp) O1,.run 10,.hop (.int .i64 cap) O1,.run 3,.know 15 false,.run 5,.hop (.agg [.str ka,.int .i64 kb]) O1,.run 3,.hop (.nilp) O2,.run 5,.hop (.agg [.str ka,.int .i64 kb]) O2,.run 1,.callv [0] (.bool true),.run 9,.hop (.mp mi) O2,.hop (.agg [.str ka,.int .i64 kb]) O2,.hop (.nilp) O2,.run 20,.hop (.int .i64 kept) O2,.run 3,.hop (.int .i64 cap) O2,.run 2,.know 38 true,.run 8,.hop (.ptr y 0 0) O2,.run 7,.hop (.agg [.str k2a,.int .i64 k2b]) O2,.run 1,.callv [0] (.bool true),.run 6,.hop (.mp mi) O2,.run 3,.hop (.agg [.str k2a,.int .i64 k2b]) O2,.hop (.tup []) O3,.run 6,.hop (.int .i64 kept) O3,.run 3,.hop (.nilp) O4,.run 9,.hop (.ptr e 0 eo) O4,.run 4,.hop (.ptr wn 0 wo) O4,.run 4,.hop (.ptr wn 0 wo) O4,.run 4,.hop (.ptr e 0 eo) O4,.run 3,.hop (.nilp) O5,.run 3,.hop (.nilp) O6,.run 9,.hop (.agg [.str ka,.int .i64 kb]) O6,.run 2,.hop (.nilp) O7,.run 7,.hop (.agg [.str ka,.int .i64 kb]) O7,.run 1,.callv [0] (.bool true),.run 6,.hop (.mp mi) O7,.run 3,.hop (.agg [.str ka,.int .i64 kb]) O7,.run 1,.hop (.nilp) O8,.run 6,.hop (.int .i64 (IntKind.i64.wrap (kept - (1:Int)))) O8,.run 3,.hop (.nilp) O9,.run 17,.hop (.ptr a 0 ao) O9,.run 3,.hop (.nilp) O10,.run 3,.hop (.nilp) O11,.run 6,.hop (.ptr a 0 ao) O11,.run 6,.hop (.nilp) O12,.run 4,.hop (.nilp) O13,.run 8,.keep []] ((AM.mk (enF 9 [.ptr l 0 0,.agg [.str ka,.int .i64 kb],.str va]) rest ⟨O,N,G⟩))=((T.set ((some (.cells (.node (.node .leaf (some (.int .i64 kb)) .leaf) (some (.str ka)) .leaf) 2 29 0 0 1 0 false .leaf))) (O) (N)=O1)∧(za (⟨O1,N+1,G⟩) (l) 0 0 1=(some [.int .i64 cap]))∧((cap==(0:Int))=false)∧(za (⟨O1,N+1,G⟩) (N) 0 0 2=(some [.str ka,.int .i64 kb]))∧(T.set ((some (.cells (.node (.node .leaf (some (.int .i64 kb)) .leaf) (some (.str ka)) .leaf) 2 29 0 0 1 0 false .leaf))) (O1) (N+1)=O2)∧(za (⟨O2,N+2,G⟩) (N+1) 0 0 2=(some [.str ka,.int .i64 kb]))∧(Goal P 0 36 (fun x x_1=>x=AV.bool true) (zP P 36 [.agg [.str ka,.int .i64 kb]] G))∧(za (⟨O2,N+2,G⟩) (l) 0 2 1=(some [.mp mi]))∧(za (⟨O2,N+2,G⟩) (N+1) 0 0 2=(some [.str ka,.int .i64 kb]))∧(xc P (⟨O2,N+2,G⟩) 59 (.mp mi) (.agg [.str ka,.int .i64 kb]) (false)=(some .nilp))∧(za (⟨O2,N+2,G⟩) (l) 0 1 1=(some [.int .i64 kept]))∧(za (⟨O2,N+2,G⟩) (l) 0 0 1=(some [.int .i64 cap]))∧(decide (kept≥cap)=true)∧(za (⟨O2,N+2,G⟩) (l) 0 3 1=(some [.ptr y 0 0]))∧(za (⟨O2,N+2,G⟩) (y) 0 2 2=(some [.str k2a,.int .i64 k2b]))∧(Goal P 0 36 (fun x x_1=>x=AV.bool true) (zP P 36 [.agg [.str k2a,.int .i64 k2b]] G))∧(za (⟨O2,N+2,G⟩) (l) 0 2 1=(some [.mp mi]))∧(za (⟨O2,N+2,G⟩) (y) 0 2 2=(some [.str k2a,.int .i64 k2b]))∧(zt P (⟨O2,N+2,G⟩) (Builtin.delete) ((some 59)) ((some 29)) ([.mp mi,.agg [.str k2a,.int .i64 k2b]])=(some (.val (.tup []) ⟨O3,N+2,G⟩)))∧(za (⟨O3,N+2,G⟩) (l) 0 1 1=(some [.int .i64 kept]))∧(zc (⟨O3,N+2,G⟩) (l) 0 1 ([.int .i64 (IntKind.i64.wrap (kept - (1:Int)))])=(some ⟨O4,N+2,G⟩))∧(za (⟨O4,N+2,G⟩) (y) 0 1 1=(some [.ptr e 0 eo]))∧(za (⟨O4,N+2,G⟩) (y) 0 0 1=(some [.ptr wn 0 wo]))∧(za (⟨O4,N+2,G⟩) (y) 0 0 1=(some [.ptr wn 0 wo]))∧(za (⟨O4,N+2,G⟩) (y) 0 1 1=(some [.ptr e 0 eo]))∧(zc (⟨O4,N+2,G⟩) (e) 0 (eo) ([.ptr wn 0 wo])=(some ⟨O5,N+2,G⟩))∧(zc (⟨O5,N+2,G⟩) (wn) 0 (wo+1) ([.ptr e 0 eo])=(some ⟨O6,N+2,G⟩))∧(za (⟨O6,N+2,G⟩) (N) 0 0 2=(some [.str ka,.int .i64 kb]))∧(T.set ((some (.cells (.node (.node (.node .leaf (some (.int .i64 kb)) .leaf) (some .nilp) .leaf) (some .nilp) (.node (.node .leaf (some (.str va)) .leaf) (some (.str ka)) .leaf)) 5 64 0 0 1 0 false .leaf))) (O6) (N+2)=O7)∧(za (⟨O7,N+3,G⟩) (N+2) 0 2 2=(some [.str ka,.int .i64 kb]))∧(Goal P 0 36 (fun x x_1=>x=AV.bool true) (zP P 36 [.agg [.str ka,.int .i64 kb]] G))∧(za (⟨O7,N+3,G⟩) (l) 0 2 1=(some [.mp mi]))∧(za (⟨O7,N+3,G⟩) (N+2) 0 2 2=(some [.str ka,.int .i64 kb]))∧(xV P (⟨O7,N+3,G⟩) 59 (.mp mi) (.agg [.str ka,.int .i64 kb]) (.ptr (N+2) 0 0)=(some ⟨O8,N+3,G⟩))∧(za (⟨O8,N+3,G⟩) (l) 0 1 1=(some [.int .i64 (IntKind.i64.wrap (kept - (1:Int)))]))∧(zc (⟨O8,N+3,G⟩) (l) 0 1 ([.int .i64 (IntKind.i64.wrap (IntKind.i64.wrap (kept - (1:Int))+(1:Int)))])=(some ⟨O9,N+3,G⟩))∧(za (⟨O9,N+3,G⟩) (l) 0 4 1=(some [.ptr a 0 ao]))∧(zc (⟨O9,N+3,G⟩) (N+2) 0 0 ([.ptr l 0 3])=(some ⟨O10,N+3,G⟩))∧(zc (⟨O10,N+3,G⟩) (N+2) 0 1 ([.ptr a 0 ao])=(some ⟨O11,N+3,G⟩))∧(za (⟨O11,N+3,G⟩) (N+2) 0 1 1=(some [.ptr a 0 ao]))∧(zc (⟨O11,N+3,G⟩) (a) 0 (ao) ([.ptr (N+2) 0 0])=(some ⟨O12,N+3,G⟩))∧(zc (⟨O12,N+3,G⟩) (l) 0 4 ([.ptr (N+2) 0 0])=(some ⟨O13,N+3,G⟩))∧K (AM.mk (RF 9 53 .leaf []) rest ⟨O13,N+3,G⟩)):=by kernel_rfl
theorem zll (R:AV→AHeap→Prop)(keep:Nat)(f0:FuncId)(rest:List AFrame)(l:Nat)(mi:Nat)(a:Nat)(ao:Nat)(cap:Int)(kept:Int)(N:Nat)(O:T AObj)(ka:List UInt8)(va:List UInt8)(kb:Int)(O1:T AObj)(O2:T AObj)(O3:T AObj)(O4:T AObj)(O5:T AObj)(O6:T AObj)(O7:T AObj)(O8:T AObj)(O9:T AObj)(G:T (T AV))(K:AM→Prop):Obl P f0 (fun v h=>R v h) keep K [.run 2,.hop (.nilp) O1,.run 10,.hop (.int .i64 cap) O1,.run 3,.know 15 false,.run 5,.hop (.agg [.str ka,.int .i64 kb]) O1,.run 3,.hop (.nilp) O2,.run 5,.hop (.agg [.str ka,.int .i64 kb]) O2,.run 1,.callv [0] (.bool true),.run 9,.hop (.mp mi) O2,.hop (.agg [.str ka,.int .i64 kb]) O2,.hop (.nilp) O2,.run 20,.hop (.int .i64 kept) O2,.run 3,.hop (.int .i64 cap) O2,.run 2,.know 38 false,.run 4,.hop (.agg [.str ka,.int .i64 kb]) O2,.run 2,.hop (.nilp) O3,.run 7,.hop (.agg [.str ka,.int .i64 kb]) O3,.run 1,.callv [0] (.bool true),.run 6,.hop (.mp mi) O3,.run 3,.hop (.agg [.str ka,.int .i64 kb]) O3,.run 1,.hop (.nilp) O4,.run 6,.hop (.int .i64 kept) O4,.run 3,.hop (.nilp) O5,.run 17,.hop (.ptr a 0 ao) O5,.run 3,.hop (.nilp) O6,.run 3,.hop (.nilp) O7,.run 6,.hop (.ptr a 0 ao) O7,.run 6,.hop (.nilp) O8,.run 4,.hop (.nilp) O9,.run 8,.keep []] ((AM.mk (enF 9 [.ptr l 0 0,.agg [.str ka,.int .i64 kb],.str va]) rest ⟨O,N,G⟩))=((T.set ((some (.cells (.node (.node .leaf (some (.int .i64 kb)) .leaf) (some (.str ka)) .leaf) 2 29 0 0 1 0 false .leaf))) (O) (N)=O1)∧(za (⟨O1,N+1,G⟩) (l) 0 0 1=(some [.int .i64 cap]))∧((cap==(0:Int))=false)∧(za (⟨O1,N+1,G⟩) (N) 0 0 2=(some [.str ka,.int .i64 kb]))∧(T.set ((some (.cells (.node (.node .leaf (some (.int .i64 kb)) .leaf) (some (.str ka)) .leaf) 2 29 0 0 1 0 false .leaf))) (O1) (N+1)=O2)∧(za (⟨O2,N+2,G⟩) (N+1) 0 0 2=(some [.str ka,.int .i64 kb]))∧(Goal P 0 36 (fun x x_1=>x=AV.bool true) (zP P 36 [.agg [.str ka,.int .i64 kb]] G))∧(za (⟨O2,N+2,G⟩) (l) 0 2 1=(some [.mp mi]))∧(za (⟨O2,N+2,G⟩) (N+1) 0 0 2=(some [.str ka,.int .i64 kb]))∧(xc P (⟨O2,N+2,G⟩) 59 (.mp mi) (.agg [.str ka,.int .i64 kb]) (false)=(some .nilp))∧(za (⟨O2,N+2,G⟩) (l) 0 1 1=(some [.int .i64 kept]))∧(za (⟨O2,N+2,G⟩) (l) 0 0 1=(some [.int .i64 cap]))∧(decide (kept≥cap)=false)∧(za (⟨O2,N+2,G⟩) (N) 0 0 2=(some [.str ka,.int .i64 kb]))∧(T.set ((some (.cells (.node (.node (.node .leaf (some (.int .i64 kb)) .leaf) (some .nilp) .leaf) (some .nilp) (.node (.node .leaf (some (.str va)) .leaf) (some (.str ka)) .leaf)) 5 64 0 0 1 0 false .leaf))) (O2) (N+2)=O3)∧(za (⟨O3,N+3,G⟩) (N+2) 0 2 2=(some [.str ka,.int .i64 kb]))∧(Goal P 0 36 (fun x x_1=>x=AV.bool true) (zP P 36 [.agg [.str ka,.int .i64 kb]] G))∧(za (⟨O3,N+3,G⟩) (l) 0 2 1=(some [.mp mi]))∧(za (⟨O3,N+3,G⟩) (N+2) 0 2 2=(some [.str ka,.int .i64 kb]))∧(xV P (⟨O3,N+3,G⟩) 59 (.mp mi) (.agg [.str ka,.int .i64 kb]) (.ptr (N+2) 0 0)=(some ⟨O4,N+3,G⟩))∧(za (⟨O4,N+3,G⟩) (l) 0 1 1=(some [.int .i64 kept]))∧(zc (⟨O4,N+3,G⟩) (l) 0 1 ([.int .i64 (IntKind.i64.wrap (kept+(1:Int)))])=(some ⟨O5,N+3,G⟩))∧(za (⟨O5,N+3,G⟩) (l) 0 4 1=(some [.ptr a 0 ao]))∧(zc (⟨O5,N+3,G⟩) (N+2) 0 0 ([.ptr l 0 3])=(some ⟨O6,N+3,G⟩))∧(zc (⟨O6,N+3,G⟩) (N+2) 0 1 ([.ptr a 0 ao])=(some ⟨O7,N+3,G⟩))∧(za (⟨O7,N+3,G⟩) (N+2) 0 1 1=(some [.ptr a 0 ao]))∧(zc (⟨O7,N+3,G⟩) (a) 0 (ao) ([.ptr (N+2) 0 0])=(some ⟨O8,N+3,G⟩))∧(zc (⟨O8,N+3,G⟩) (l) 0 4 ([.ptr (N+2) 0 0])=(some ⟨O9,N+3,G⟩))∧K (AM.mk (RF 9 53 .leaf []) rest ⟨O9,N+3,G⟩)):=by kernel_rfl
theorem q_hh (R:AV→AHeap→Prop)(keep:Nat)(f0:FuncId)(rest:List AFrame)(l:Nat)(p:Nat)(mi:Nat)(a:Nat)(ao:Nat)(N:Nat)(O:T AObj)(e:Nat)(eo:Nat)(wn:Nat)(wo:Nat)(ka:List UInt8)(va:List UInt8)(kb:Int)(O1:T AObj)(O2:T AObj)(O3:T AObj)(O4:T AObj)(O5:T AObj)(O6:T AObj)(O7:T AObj)(O8:T AObj)(G:T (T AV))(K:AM→Prop):Obl P f0 (fun v h=>R v h) keep K [.run 2,.hop (.nilp) O1,.run 14,.hop (.agg [.str ka,.int .i64 kb]) O1,.run 3,.hop (.nilp) O2,.run 5,.hop (.agg [.str ka,.int .i64 kb]) O2,.run 1,.callv [0] (.bool true),.run 9,.hop (.mp mi) O2,.hop (.agg [.str ka,.int .i64 kb]) O2,.hop (.ptr p 0 0) O2,.run 23,.hop (.ptr e 0 eo) O2,.run 4,.hop (.ptr wn 0 wo) O2,.run 4,.hop (.ptr wn 0 wo) O2,.run 4,.hop (.ptr e 0 eo) O2,.run 3,.hop (.nilp) O3,.run 3,.hop (.nilp) O4,.run 21,.hop (.ptr a 0 ao) O4,.run 3,.hop (.nilp) O5,.run 3,.hop (.nilp) O6,.run 6,.hop (.ptr a 0 ao) O6,.run 6,.hop (.nilp) O7,.run 4,.hop (.nilp) O8,.run 9,.hop (.str va) O8,.run 4,.keep [4,5]] ((AM.mk (enF 12 [.ptr l 0 0,.agg [.str ka,.int .i64 kb]]) rest ⟨O,N,G⟩))=((T.set ((some (.cells (.node (.node .leaf (some (.int .i64 kb)) .leaf) (some (.str ka)) .leaf) 2 29 0 0 1 0 false .leaf))) (O) (N)=O1)∧(za (⟨O1,N+1,G⟩) (N) 0 0 2=(some [.str ka,.int .i64 kb]))∧(T.set ((some (.cells (.node (.node .leaf (some (.int .i64 kb)) .leaf) (some (.str ka)) .leaf) 2 29 0 0 1 0 false .leaf))) (O1) (N+1)=O2)∧(za (⟨O2,N+2,G⟩) (N+1) 0 0 2=(some [.str ka,.int .i64 kb]))∧(Goal P 0 36 (fun x x_1=>x=AV.bool true) (zP P 36 [.agg [.str ka,.int .i64 kb]] G))∧(za (⟨O2,N+2,G⟩) (l) 0 2 1=(some [.mp mi]))∧(za (⟨O2,N+2,G⟩) (N+1) 0 0 2=(some [.str ka,.int .i64 kb]))∧(xc P (⟨O2,N+2,G⟩) 59 (.mp mi) (.agg [.str ka,.int .i64 kb]) (false)=(some (.ptr p 0 0)))∧(za (⟨O2,N+2,G⟩) (p) 0 1 1=(some [.ptr e 0 eo]))∧(za (⟨O2,N+2,G⟩) (p) 0 0 1=(some [.ptr wn 0 wo]))∧(za (⟨O2,N+2,G⟩) (p) 0 0 1=(some [.ptr wn 0 wo]))∧(za (⟨O2,N+2,G⟩) (p) 0 1 1=(some [.ptr e 0 eo]))∧(zc (⟨O2,N+2,G⟩) (e) 0 (eo) ([.ptr wn 0 wo])=(some ⟨O3,N+2,G⟩))∧(zc (⟨O3,N+2,G⟩) (wn) 0 (wo+1) ([.ptr e 0 eo])=(some ⟨O4,N+2,G⟩))∧(za (⟨O4,N+2,G⟩) (l) 0 4 1=(some [.ptr a 0 ao]))∧(zc (⟨O4,N+2,G⟩) (p) 0 0 ([.ptr l 0 3])=(some ⟨O5,N+2,G⟩))∧(zc (⟨O5,N+2,G⟩) (p) 0 1 ([.ptr a 0 ao])=(some ⟨O6,N+2,G⟩))∧(za (⟨O6,N+2,G⟩) (p) 0 1 1=(some [.ptr a 0 ao]))∧(zc (⟨O6,N+2,G⟩) (a) 0 (ao) ([.ptr p 0 0])=(some ⟨O7,N+2,G⟩))∧(zc (⟨O7,N+2,G⟩) (l) 0 4 ([.ptr p 0 0])=(some ⟨O8,N+2,G⟩))∧(za (⟨O8,N+2,G⟩) (p) 0 4 1=(some [.str va]))∧K (AM.mk (RF 12 25 (.node (.node .leaf none (.node .leaf (some (.bool true)) .leaf)) none (.node (.node .leaf (some (.str va)) .leaf) none .leaf)) [.code (cd P 12 [1,0,1,0,1])]) rest ⟨O8,N+2,G⟩)):=by kernel_rfl
theorem q_hm (R:AV→AHeap→Prop)(keep:Nat)(f0:FuncId)(rest:List AFrame)(l:Nat)(mi:Nat)(N:Nat)(O:T AObj)(ka:List UInt8)(kb:Int)(O1:T AObj)(O2:T AObj)(G:T (T AV))(K:AM→Prop):Obl P f0 (fun v h=>R v h) keep K [.run 2,.hop (.nilp) O1,.run 14,.hop (.agg [.str ka,.int .i64 kb]) O1,.run 3,.hop (.nilp) O2,.run 5,.hop (.agg [.str ka,.int .i64 kb]) O2,.run 1,.callv [0] (.bool true),.run 9,.hop (.mp mi) O2,.hop (.agg [.str ka,.int .i64 kb]) O2,.hop (.nilp) O2,.run 20,.keep [4,5]] ((AM.mk (enF 12 [.ptr l 0 0,.agg [.str ka,.int .i64 kb]]) rest ⟨O,N,G⟩))=((T.set ((some (.cells (.node (.node .leaf (some (.int .i64 kb)) .leaf) (some (.str ka)) .leaf) 2 29 0 0 1 0 false .leaf))) (O) (N)=O1)∧(za (⟨O1,N+1,G⟩) (N) 0 0 2=(some [.str ka,.int .i64 kb]))∧(T.set ((some (.cells (.node (.node .leaf (some (.int .i64 kb)) .leaf) (some (.str ka)) .leaf) 2 29 0 0 1 0 false .leaf))) (O1) (N+1)=O2)∧(za (⟨O2,N+2,G⟩) (N+1) 0 0 2=(some [.str ka,.int .i64 kb]))∧(Goal P 0 36 (fun x x_1=>x=AV.bool true) (zP P 36 [.agg [.str ka,.int .i64 kb]] G))∧(za (⟨O2,N+2,G⟩) (l) 0 2 1=(some [.mp mi]))∧(za (⟨O2,N+2,G⟩) (N+1) 0 0 2=(some [.str ka,.int .i64 kb]))∧(xc P (⟨O2,N+2,G⟩) 59 (.mp mi) (.agg [.str ka,.int .i64 kb]) (false)=(some .nilp))∧K (AM.mk (RF 12 25 (.node (.node .leaf none (.node .leaf (some (.bool false)) .leaf)) none (.node (.node .leaf (some (.str [])) .leaf) none .leaf)) [.code (cd P 12 [1,0,1,0,1]),.code (cd P 12 [1,1,1,1])]) rest ⟨O2,N+2,G⟩)):=by kernel_rfl
theorem q_cbA (R:AV→Prop)(k:List UInt8)(G:T (T AV))(_K:AM→Prop):Obl P 35 (fun v _=>R v) 0 _K [.run 32,.done] ((zP P 35 [.str k] G))=((R (.bool (k==k)))):=by kernel_rfl
theorem q_cbB (R:AV→Prop)(ka:List UInt8)(kb:Int)(G:T (T AV))(_K:AM→Prop):Obl P 36 (fun v _=>R v) 0 _K [.run 20,.isv (.bool true),.run 13,.done] ((zP P 36 [.agg [.str ka,.int .i64 kb]] G))=((∀ (h:AHeap),zf2 P h BinOp.eql 29 (zS (Operand.tmp 6) || zS (Operand.tmp 7)) (AV.agg [AV.str ka,AV.int .i64 kb]) (AV.agg [AV.str ka,AV.int .i64 kb])=some (AV.bool true))∧(R (.bool true))):=by kernel_rfl
def kcS (k:List UInt8):List AV:=[.str k]
theorem mS:MpT (κ:=List UInt8) 51 9 52 AV.str .nilp:=⟨by kernel_rfl,by kernel_rfl,fun k=>by kernel_rfl,fun h a b=>by kernel_rfl,fun k=>by simp [qa]⟩
abbrev kS:List UInt8→AV:=AV.str
abbrev Key:=List UInt8 × Int
def kK (q:Key):AV:=.agg [.str q.1,.int .i64 q.2]
def kcK (q:Key):List AV:=[.str q.1,.int .i64 q.2]
theorem eqK (h:AHeap)(a b:Key):eqA P h 9 29 (kK a) (kK b)=some (a==b):=by
 obtain ⟨a1,a2⟩:=a
 obtain ⟨b1,b2⟩:=b
 show _=some (a1==b1&&a2==b2)
 have:eqA P h 9 29 (kK (a1,a2)) (kK (b1,b2))=(match (a1==b1) with | true=>(match (a2==b2) with | true=>some true | false=>some false) | false=>some false):=by kernel_rfl
 rw [this]
 cases (a1==b1) <;> cases (a2==b2) <;> rfl
theorem mK:MpT (κ:=Key) 59 29 60 kK .nilp:=⟨by kernel_rfl,by kernel_rfl,fun k=>by kernel_rfl,eqK,fun k=>by simp [qa,kK,wi]⟩
variable {O O':T AObj} {N l mi cap:Nat} {G:T (T AV)}
theorem jq {k:List UInt8}{G:T (T AV)}:Goal P 0 35 (fun x _=>x=AV.bool true) (zP P 35 [.str k] G) :=
 (oh (q_cbA (fun v=>v=.bool true) k G _).symm (by rw [beq_self_eq_true]))
theorem jy {ka:List UInt8}{kb:Int}{G:T (T AV)}:Goal P 0 36 (fun x _=>x=AV.bool true) (zP P 36 [.agg [.str ka,.int .i64 kb]] G) :=
 (oh (q_cbB (fun v=>v=.bool true) ka kb G _).symm ⟨fun h=>by
  have:=eqK h (ka,kb) (ka,kb)
  rw [beq_self_eq_true] at this
  have e:zf2 P h BinOp.eql 29 (zS (Operand.tmp 6) || zS (Operand.tmp 7)) (AV.agg [AV.str ka,AV.int IntKind.i64 kb]) (AV.agg [AV.str ka,AV.int IntKind.i64 kb])=(match eqA P h 9 29 (kK (ka,kb)) (kK (ka,kb)) with | none=>none | some b=>some (.bool b)):=by kernel_rfl
  rw [e,this],rfl⟩)
theorem zjN {k:List UInt8}{v:AV}(hv:AV.one v=true):zak P 56 [(1,.str k),(2,v)]=some (.agg [.nilp,.nilp,.str k,v]):=by
 cases v <;> first | (cases hv; done) | kernel_rfl
theorem Dat.loadK {id:Nat}{k:List UInt8}{vs:List AV}(h:Dat O id (kcS k++vs))(N:Nat)(G:T (T AV)):za ⟨O,N,G⟩ id 0 2 1=some [.str k]:=by
 have h':Dat O id ([]++kcS k):=fun u v hu=>h u v (by
  rw [List.nil_append] at hu
  have:u<(kcS k).length:=(List.getElem?_eq_some_iff.1 hu).1
  rw [List.getElem?_append_left this]; exact hu)
 exact h'.load Nat.zero_lt_one N G rfl rfl
section
variable {L:List (Ent (List UInt8))} {k:List UInt8} {v:AV}
theorem zia (h:LR O kS kcS 1 l mi cap L)(hl:l<N)(hm:mi<N)(hx:∀ x∈L,x.1<N)(hc:L.length<1000000000)(hv:AV.one v=true){keep:Nat}{f0:FuncId}{Q:AV→AHeap→Prop}{rest:List AFrame}
 (hK:∀ (O':T AObj) (N':Nat) (L':List (Ent (List UInt8))) (td:List AItem),LR O' kS kcS 1 l mi cap L'→N≤N'→(∀ x∈L',x.1<N'∧(N≤x.1∨∃ y∈L,y.1=x.1))→L'.map (·.2)=ziB cap k [v] (L.map (·.2))→(∀ j,j<N→j≠l→j≠mi→(∀ y∈L,y.1≠j)→O'.get j=O.get j)→Goal P keep f0 Q (AM.mk (RF 8 53 .leaf td) rest ⟨O',N',G⟩)) :
 Goal P keep f0 Q (AM.mk (enF 8 [.ptr l 0 0,.str k,v]) rest ⟨O,N,G⟩):=by
 have h':=h
 obtain ⟨h0,h1,h2,h3,h4,h5,h6,h7,h8,h9⟩:=h
 by_cases hz:cap=0
 · subst hz
   have hL:L=[]:=List.eq_nil_of_length_eq_zero (by omega)
   subst hL
   exact (Obl.goal mix (K:=Goal P keep f0 Q) (fun _ h=>h) (cast (q_phy Q keep f0 rest l k v ((0:Nat):Int) N O G (Goal P keep f0 Q)).symm ⟨h1.load _ _,rfl,hK O N [] _ h' (Nat.le_refl _) (fun x hx=>absurd hx List.not_mem_nil) rfl (fun j _ _ _ _=>rfl)⟩))
 have hcz:(((cap:Nat):Int)==(0:Int))=false:=by rw [beq_eq_false_iff_ne]; omega
 by_cases hin:∃ x∈L,x.2.1=k
 · obtain ⟨p,hp,hpk⟩:=hin
   obtain ⟨u,w,rfl⟩:=zaf hp
   have hpl:=(h5 p hp).1
   have hlen:=(h5 p hp).2.2.2
   have hkl:(kcS p.2.1).length=1:=rfl
   obtain ⟨O1,s0,d0,b0⟩:=(h5 p hp).2.2.1.store (ws:=[v]) (by omega) (by rw [hlen]; rfl) (by rw [List.all_cons,hv]; rfl) (N) G
   obtain ⟨e,n,a,O2,O3,O4,O5,O6,O7,c1,c2,s1,s2,c3,s3,s4,c4,s5,s6,hLR,hget⟩:=move (kc:=kcS) (fun _=>Nat.zero_lt_succ _) h' O1 b0 d0 rfl (N) G
   have hlook:=h8.hit mS hp hpk (fun y hy e=>vR h7 p hp y hy e) (N) G
   rw [List.map_append,List.map_cons] at h7
   obtain ⟨m1,m2⟩:=xO h7
   refine (Obl.goal mix (K:=Goal P keep f0 Q) (fun _ h=>h) (cast (q_phn Q keep f0 rest l p.1 mi a.1 a.2 k v ((cap:Nat):Int) N O e.1 e.2 n.1 n.2 O1 O2 O3 O4 O5 O6 O7 G (Goal P keep f0 Q)).symm ⟨h1.load _ _,hcz,jq,h3.load _ _,hlook,st1 (zit hv) s0,c1.load _ _,c2.load _ _,c2.load _ _,c1.load _ _,s1,s2,c3.load _ _,s3,s4,c4.load _ _,s5,s6,hK O7 (N) _ _ hLR (by omega) (fun x hx'=>?_) ?_ (fun j hj e1 e2 e3=>hget j e1 e3)⟩))
   · have:∃ y∈u++p::w,y.1=x.1:=by
      rcases List.mem_cons.1 hx' with rfl | hx'
      · exact ⟨p,hp,rfl⟩
      · refine ⟨x,?_,rfl⟩
        rcases List.mem_append.1 hx' with b | b
        · exact List.mem_append_left _ b
        · exact List.mem_append_right _ (List.mem_cons_of_mem _ b)
     obtain ⟨y,hy,e⟩:=this
     exact ⟨by have:=hx y hy; omega,.inr ⟨y,hy,e⟩⟩
   · unfold ziB
     rw [if_neg hz,List.map_cons,List.map_append,List.map_append,List.map_cons,zfw hpk ?_]
     · rw [List.take_of_length_le,hpk]
       simp only [List.length_append,List.length_cons,List.length_map] at h9 ⊢
       omega
     · intro q hq
       rw [← List.map_append] at hq
       obtain ⟨z,hz,rfl⟩:=List.mem_map.1 hq
       intro hzk
       rw [← List.map_append] at m2
       exact m2 (by rw [← hpk] at hzk; exact hzk▸List.mem_map_of_mem (f:=fun x:Ent _=>x.2.1) hz)
 · have hk:∀ x∈L,x.2.1≠k:=fun x hx e=>hin ⟨x,hx,e⟩
   have hlook:=h8.miss mS hk (N) G
   have hkq:∀ q∈L.map (·.2),q.1≠k:=fun q hq=>by obtain ⟨z,hz,rfl⟩:=List.mem_map.1 hq; exact hk z hz
   by_cases hful:L.length<cap
   · obtain ⟨OA,sA,r1,f1⟩:=Obj.box (t:=56) [.nilp,.nilp,.str k,v] (by show (true&&(true&&(true&&(AV.one v&&true))))=true; rw [hv]; rfl) O N 4 rfl
     obtain ⟨a,O2,O3,O4,O5,O6,O7,c2,s2,c3,s3,c4,s4,s5,c5,s6,s7,hLR,hD,hget⟩:=add (N:=N) (vs:=[v]) mS h' (by omega) (by omega) (fun x hx'=>by have:=hx x hx'; omega) hk hful r1 f1 rfl rfl (Nat.lt_of_lt_of_le (Nat.lt_succ_self 2) (Nat.le_of_ble_eq_true rfl)) (fun u v hu=>by rcases u with _ | _ | _ | u <;> first | (cases hu; exact ⟨Nat.le_of_ble_eq_true rfl,rfl⟩) | cases hu) rfl G
     have wk:IntKind.i64.wrap (((L.length:Nat):Int)+(1:Int))=((L.length+1:Nat):Int):=by rw [IntKind.wrap_i64]; omega
     have lk:=(hD.loadK)
     refine (Obl.goal mix (K:=Goal P keep f0 Q) (fun _ h=>h) (cast (zlG Q keep f0 rest l mi a.1 a.2 k v ((cap:Nat):Int) ((L.length:Nat):Int) N O OA O2 O3 O4 O5 O6 O7 G (Goal P keep f0 Q)).symm ⟨h1.load _ _,hcz,jq,h3.load _ _,hlook,h2.load _ _,h1.load _ _,decide_eq_false (by omega),zjN hv,sA,lk (N+1) G,jq,c2.load _ _,lk (N+1) G,s2,c3.load _ _,by rw [wk]; exact s3,c4.load _ _,s4,s5,c5.load _ _,s6,s7,hK O7 (N+1) _ _ hLR (by omega) (fun x hx'=>?_) ?_ (fun j hj e1 e2 e3=>hget j (by omega) e1 e2 e3)⟩))
     · rcases List.mem_cons.1 hx' with rfl | hx'
       · exact ⟨Nat.lt_succ_self _,.inl (by show N≤N; omega)⟩
       · exact ⟨by have:=hx x hx'; omega,.inr ⟨x,hx',rfl⟩⟩
     · unfold ziB
       rw [if_neg hz,List.map_cons,y0 hkq,List.take_of_length_le]
       rw [List.length_map]
       omega
   · have hlen:L.length=cap:=by omega
     obtain ⟨u,y,rfl⟩:∃ u y,L=u++[y]:=⟨L.dropLast,L.getLast (fun e=>by rw [e] at hlen; exact hz hlen.symm),(List.dropLast_concat_getLast _).symm⟩
     have hyl:=(h5 y (by simp)).2.2.2
     have yk:=(h5 y (by simp)).2.2.1.loadK
     obtain ⟨e,n,O1,O2,O3,O4,c1,s1,c3,s2,c4,c5,s3,s4,hLR4,hget4⟩:=drop mS h' (some 9) (N) G
     have hx4:∀ x∈u,x.1<N:=fun x hx'=>hx x (List.mem_append_left _ hx')
     have hul:u.length<cap:=by rw [List.length_append] at hlen; simp only [List.length_cons,List.length_nil] at hlen; omega
     obtain ⟨OA,sA,r1,f1⟩:=Obj.box (t:=56) [.nilp,.nilp,.str k,v] (by show (true&&(true&&(true&&(AV.one v&&true))))=true; rw [hv]; rfl) O4 N 4 rfl
     obtain ⟨a,P2',P3,P4,P5,P6,P7,k2,t2',k3,t3,k4,t4,t5,k5,t6,t7,hLR,hD,hget⟩:=add (N:=N) (vs:=[v]) mS hLR4 (by omega) (by omega) (fun x hx'=>by have:=hx4 x hx'; omega) (fun x hx'=>hk x (List.mem_append_left _ hx')) hul r1 f1 rfl rfl (Nat.lt_of_lt_of_le (Nat.lt_succ_self 2) (Nat.le_of_ble_eq_true rfl)) (fun u v hu=>by rcases u with _ | _ | _ | u <;> first | (cases hu; exact ⟨Nat.le_of_ble_eq_true rfl,rfl⟩) | cases hu) rfl G
     have lk:=(hD.loadK)
     have e1:(((u++[y]).length:Nat):Int)=((u.length+1:Nat):Int):=by rw [List.length_append]; rfl
     have wd:IntKind.i64.wrap ((((u++[y]).length:Nat):Int) - (1:Int))=((u.length:Nat):Int):=by rw [e1,IntKind.wrap_i64]; omega
     have wk:IntKind.i64.wrap (((u.length:Nat):Int)+(1:Int))=((u.length+1:Nat):Int):=by rw [IntKind.wrap_i64]; omega
     refine (Obl.goal mix (K:=Goal P keep f0 Q) (fun _ h=>h) (cast (zlL Q keep f0 rest l y.1 mi a.1 a.2 k v ((cap:Nat):Int) (((u++[y]).length:Nat):Int) N O e.1 e.2 n.1 n.2 y.2.1 O1 O2 O3 O4 OA P2' P3 P4 P5 P6 P7 G (Goal P keep f0 Q)).symm ⟨h1.load _ _,hcz,jq,h3.load _ _,hlook,h2.load _ _,h1.load _ _,decide_eq_true (by omega),c1.load _ _,yk (N) G,jq,h3.load _ _,yk (N) G,s1,c3.load _ _,by rw [wd]; exact s2,c4.load _ _,c5.load _ _,c5.load _ _,c4.load _ _,s3,s4,zjN hv,sA,lk (N+1) G,jq,k2.load _ _,lk (N+1) G,t2',by rw [wd]; exact k3.load _ _,by rw [wd,wk]; exact t3,k4.load _ _,t4,t5,k5.load _ _,t6,t7,hK P7 (N+1) _ _ hLR (by omega) (fun x hx'=>?_) ?_ (fun j hj e1 e2 e3=>(hget j (by omega) e1 e2 (fun z hz=>e3 z (List.mem_append_left _ hz))).trans (hget4 j e1 e2 e3))⟩))
     · rcases List.mem_cons.1 hx' with rfl | hx'
       · exact ⟨Nat.lt_succ_self _,.inl (by show N≤N; omega)⟩
       · exact ⟨by have:=hx4 x hx'; omega,.inr ⟨x,List.mem_append_left _ hx',rfl⟩⟩
     · unfold ziB
       rw [if_neg hz,List.map_cons,y0 hkq,List.map_append,List.take_append_of_le_length,List.take_of_length_le]
       · rw [List.length_map]; omega
       · rw [List.length_map]; omega
theorem zhr (h:LR O kS kcS 1 l mi cap L)(hl:l<N)(hm:mi<N)(hx:∀ x∈L,x.1<N)(hsh:∀ x∈L,∃ s:AV,x.2.2=[s]){keep:Nat}{f0:FuncId}{Q:AV→AHeap→Prop}{rest:List AFrame}
 (hM:(∀ x∈L,x.2.1≠k)→∀ O' td,LR O' kS kcS 1 l mi cap L→(∀ j,j<N→O'.get j=O.get j)→Goal P keep f0 Q (AM.mk (RF 11 25 (.node (.node .leaf none (.node .leaf (some (.bool false)) .leaf)) none (.node (.node .leaf (some (.nils 0 0)) .leaf) none .leaf)) td) rest ⟨O',N,G⟩))
 (hH:∀ (p:Ent _) (s:AV) (u w:List (Ent _)) (O':T AObj) (td:List AItem),L=u++p::w→p.2.1=k→p.2.2=[s]→LR O' kS kcS 1 l mi cap (p::(u++w))→(∀ j,j≠l→(∀ y∈L,y.1≠j)→O'.get j=O.get j)→Goal P keep f0 Q (AM.mk (RF 11 25 (.node (.node .leaf none (.node .leaf (some (.bool true)) .leaf)) none (.node (.node .leaf (some (s)) .leaf) none .leaf)) td) rest ⟨O',N,G⟩)) :
 Goal P keep f0 Q (AM.mk (enF 11 [.ptr l 0 0,.str k]) rest ⟨O,N,G⟩):=by
 have h':=h
 obtain ⟨h0,h1,h2,h3,h4,h5,h6,h7,h8,h9⟩:=h
 by_cases hin:∃ x∈L,x.2.1=k
 · obtain ⟨p,hp,hpk⟩:=hin
   obtain ⟨s,hs⟩:=hsh p hp
   obtain ⟨u,w,rfl⟩:=zaf hp
   have hlook:=h8.hit mS hp hpk (fun y hy e=>vR h7 p hp y hy e) (N) G
   obtain ⟨e,n,a,O2,O3,O4,O5,O6,O7,c1,c2,s1,s2,c3,s3,s4,c4,s5,s6,hLR,hget⟩:=move (kc:=kcS) (vs:=p.2.2) (fun _=>Nat.zero_lt_succ _) h' O ⟨fun _ _ _ _ h=>h,fun _ _=>rfl⟩ (h5 p hp).2.2.1 (h5 p hp).2.2.2 (N) G
   have hd:=(hLR.2.2.2.2.2.1 _ List.mem_cons_self).2.2.1
   have hv:=hd.load (h5 p hp |>.2.2.2 |> fun e=>by rw [e]; decide) (N) G rfl rfl
   rw [hs] at hv
   exact (Obl.goal mix (K:=Goal P keep f0 Q) (fun _ h=>h) (cast (q_gh Q keep f0 rest l p.1 mi a.1 a.2 k N O e.1 e.2 n.1 n.2 s O2 O3 O4 O5 O6 O7 G (Goal P keep f0 Q)).symm ⟨jq,h3.load _ _,hlook,c1.load _ _,c2.load _ _,c2.load _ _,c1.load _ _,s1,s2,c3.load _ _,s3,s4,c4.load _ _,s5,s6,hv,hH p s u w O7 _ rfl hpk hs hLR (fun j e1 e3=>hget j e1 e3)⟩))
 · have hk:∀ x∈L,x.2.1≠k:=fun x hx e=>hin ⟨x,hx,e⟩
   exact (Obl.goal mix (K:=Goal P keep f0 Q) (fun _ h=>h) (cast (q_gm Q keep f0 rest l mi k N O G (Goal P keep f0 Q)).symm ⟨jq,h3.load _ _,h8.miss mS hk _ _,hM hk _ _ h' (fun _ _=>rfl)⟩))
end
theorem Dat.loadKK {id:Nat}{k:Key}{vs:List AV}(h:Dat O id (kcK k++vs))(N:Nat)(G:T (T AV)):za ⟨O,N,G⟩ id 0 2 2=some [.str k.1,.int .i64 k.2]:=by
 have h':Dat O id ([]++kcK k):=fun u v hu=>h u v (by
  rw [List.nil_append] at hu
  have:u<(kcK k).length:=(List.getElem?_eq_some_iff.1 hu).1
  rw [List.getElem?_append_left this]; exact hu)
 exact h'.load (Nat.zero_lt_succ _) N G rfl rfl
section
variable {L:List (Ent Key)} {ka va:List UInt8} {kb:Int}
theorem zgB (h:LR O kK kcK 1 l mi cap L)(hl:l<N)(hm:mi<N)(hx:∀ x∈L,x.1<N)(hc:L.length<1000000000)  {keep:Nat}{f0:FuncId}{Q:AV→AHeap→Prop}{rest:List AFrame}
 (hK:∀ (O':T AObj) (N':Nat) (L':List (Ent (Key))) (td:List AItem),LR O' kK kcK 1 l mi cap L'→N≤N'→(∀ x∈L',x.1<N'∧(N≤x.1∨∃ y∈L,y.1=x.1))→L'.map (·.2)=ziB cap (ka,kb) [.str va] (L.map (·.2))→(∀ j,j<N→j≠l→j≠mi→(∀ y∈L,y.1≠j)→O'.get j=O.get j)→Goal P keep f0 Q (AM.mk (RF 9 53 .leaf td) rest ⟨O',N',G⟩)) :
 Goal P keep f0 Q (AM.mk (enF 9 [.ptr l 0 0,.agg [.str ka,.int .i64 kb],.str va]) rest ⟨O,N,G⟩):=by
 obtain ⟨P1,t1,b1,g1⟩:=Obj.mk (c:=.node (.node .leaf (some (.int .i64 kb)) .leaf) (some (.str ka)) .leaf) (el:=29) [.str ka,.int .i64 kb] O N 2 rfl (fun u hu=>by rcases u with _ | _ | u <;> first | rfl | omega)
 obtain ⟨P2,t2,b2,g2⟩:=Obj.mk (c:=.node (.node .leaf (some (.int .i64 kb)) .leaf) (some (.str ka)) .leaf) (el:=29) [.str ka,.int .i64 kb] P1 (N+1) 2 rfl (fun u hu=>by rcases u with _ | _ | u <;> first | rfl | omega)
 have lb1:=b1.loads 0 2 (N+1) G (Nat.le_of_ble_eq_true rfl)
 have lb2:=b2.loads 0 2 (N+2) G (Nat.le_of_ble_eq_true rfl)
 have low1:∀ j,j<N→P1.get j=O.get j:=fun j hj=>g1 j (by omega)
 have low2:∀ j,j<N→P2.get j=O.get j:=fun j hj=>(g2 j (by omega)).trans (low1 j hj)
 have h1':=h.low hl hm hx low1
 have c0:=h1'.2.1.load (N+1) G
 have h:=h.low hl hm hx low2
 have h':=h
 obtain ⟨h0,h1,h2,h3,h4,h5,h6,h7,h8,h9⟩:=h
 by_cases hz:cap=0
 · subst hz
   have hL:L=[]:=List.eq_nil_of_length_eq_zero (by omega)
   subst hL
   exact (Obl.goal mix (K:=Goal P keep f0 Q) (fun _ h=>h) (cast (q_qhy Q keep f0 rest l ((0:Nat):Int) N O ka va kb P1 G (Goal P keep f0 Q)).symm ⟨t1,c0,rfl,hK P1 (N+1) [] _ h1' (Nat.le_succ _) (fun x hx=>absurd hx List.not_mem_nil) rfl (fun j hj _ _ _=>low1 j hj)⟩))
 have hcz:(((cap:Nat):Int)==(0:Int))=false:=by rw [beq_eq_false_iff_ne]; omega
 by_cases hin:∃ x∈L,x.2.1=(ka,kb)
 · obtain ⟨p,hp,hpk⟩:=hin
   obtain ⟨u,w,rfl⟩:=zaf hp
   have hpl:=(h5 p hp).1
   have hlen:=(h5 p hp).2.2.2
   have hkl:(kcK p.2.1).length=2:=rfl
   obtain ⟨O1,s0,d0,b0⟩:=(h5 p hp).2.2.1.store (ws:=[.str va]) (by omega) (by rw [hlen]; rfl) rfl (N+2) G
   obtain ⟨e,n,a,O2,O3,O4,O5,O6,O7,c1,c2,s1,s2,c3,s3,s4,c4,s5,s6,hLR,hget⟩:=move (kc:=kcK) (fun _=>Nat.zero_lt_succ _) h' O1 b0 d0 rfl (N+2) G
   have hlook:=h8.hit mK hp hpk (fun y hy e=>vR h7 p hp y hy e) (N+2) G
   rw [List.map_append,List.map_cons] at h7
   obtain ⟨m1,m2⟩:=xO h7
   refine (Obl.goal mix (K:=Goal P keep f0 Q) (fun _ h=>h) (cast (q_qhn Q keep f0 rest l p.1 mi a.1 a.2 ((cap:Nat):Int) N O e.1 e.2 n.1 n.2 ka va kb P1 P2 O1 O2 O3 O4 O5 O6 O7 G (Goal P keep f0 Q)).symm ⟨t1,c0,hcz,lb1,t2,lb2,jy,h3.load _ _,lb2,hlook,s0,c1.load _ _,c2.load _ _,c2.load _ _,c1.load _ _,s1,s2,c3.load _ _,s3,s4,c4.load _ _,s5,s6,hK O7 (N+2) _ _ hLR (by omega) (fun x hx'=>?_) ?_ (fun j hj e1 e2 e3=>(hget j e1 e3).trans (low2 j hj))⟩))
   · have:∃ y∈u++p::w,y.1=x.1:=by
      rcases List.mem_cons.1 hx' with rfl | hx'
      · exact ⟨p,hp,rfl⟩
      · refine ⟨x,?_,rfl⟩
        rcases List.mem_append.1 hx' with b | b
        · exact List.mem_append_left _ b
        · exact List.mem_append_right _ (List.mem_cons_of_mem _ b)
     obtain ⟨y,hy,e⟩:=this
     exact ⟨by have:=hx y hy; omega,.inr ⟨y,hy,e⟩⟩
   · unfold ziB
     rw [if_neg hz,List.map_cons,List.map_append,List.map_append,List.map_cons,zfw hpk ?_]
     · rw [List.take_of_length_le,hpk]
       simp only [List.length_append,List.length_cons,List.length_map] at h9 ⊢
       omega
     · intro q hq
       rw [← List.map_append] at hq
       obtain ⟨z,hz,rfl⟩:=List.mem_map.1 hq
       intro hzk
       rw [← List.map_append] at m2
       exact m2 (by rw [← hpk] at hzk; exact hzk▸List.mem_map_of_mem (f:=fun x:Ent _=>x.2.1) hz)
 · have hk:∀ x∈L,x.2.1≠(ka,kb):=fun x hx e=>hin ⟨x,hx,e⟩
   have hlook:=h8.miss mK hk (N+2) G
   have hkq:∀ q∈L.map (·.2),q.1≠(ka,kb):=fun q hq=>by obtain ⟨z,hz,rfl⟩:=List.mem_map.1 hq; exact hk z hz
   by_cases hful:L.length<cap
   · have lbN:=((b1.same (g2 N (by omega)))).loads 0 2 (N+2) G (Nat.le_of_ble_eq_true rfl)
     obtain ⟨OA,sA,r1,f1⟩:=Obj.mk (c:=(.node (.node (.node .leaf (some (.int .i64 kb)) .leaf) (some .nilp) .leaf) (some .nilp) (.node (.node .leaf (some (.str va)) .leaf) (some (.str ka)) .leaf))) (el:=64) [.nilp,.nilp,.str ka,.int .i64 kb,.str va] P2 (N+2) 5 rfl (fun u hu=>by rcases u with _ | _ | _ | _ | _ | u <;> first | rfl | omega)
     obtain ⟨a,O2,O3,O4,O5,O6,O7,c2,s2,c3,s3,c4,s4,s5,c5,s6,s7,hLR,hD,hget⟩:=add (N:=N+2) (vs:=[.str va]) mK h' (by omega) (by omega) (fun x hx'=>by have:=hx x hx'; omega) hk hful r1 f1 rfl rfl (Nat.lt_of_lt_of_le (Nat.lt_succ_self 2) (Nat.le_of_ble_eq_true rfl)) (fun u v hu=>by rcases u with _ | _ | _ | u <;> first | (cases hu; exact ⟨Nat.le_of_ble_eq_true rfl,rfl⟩) | cases hu) rfl G
     have wk:IntKind.i64.wrap (((L.length:Nat):Int)+(1:Int))=((L.length+1:Nat):Int):=by rw [IntKind.wrap_i64]; omega
     have lk:=(hD.loadKK)
     refine (Obl.goal mix (K:=Goal P keep f0 Q) (fun _ h=>h) (cast (zll Q keep f0 rest l mi a.1 a.2 ((cap:Nat):Int) ((L.length:Nat):Int) N O ka va kb P1 P2 OA O2 O3 O4 O5 O6 O7 G (Goal P keep f0 Q)).symm ⟨t1,c0,hcz,lb1,t2,lb2,jy,h3.load _ _,lb2,hlook,h2.load _ _,h1.load _ _,decide_eq_false (by omega),lbN,sA,lk (N+2+1) G,jy,c2.load _ _,lk (N+2+1) G,s2,c3.load _ _,by rw [wk]; exact s3,c4.load _ _,s4,s5,c5.load _ _,s6,s7,hK O7 (N+2+1) _ _ hLR (by omega) (fun x hx'=>?_) ?_ (fun j hj e1 e2 e3=>(hget j (by omega) e1 e2 e3).trans (low2 j hj))⟩))
     · rcases List.mem_cons.1 hx' with rfl | hx'
       · exact ⟨Nat.lt_succ_self _,.inl (by show N≤N+2; omega)⟩
       · exact ⟨by have:=hx x hx'; omega,.inr ⟨x,hx',rfl⟩⟩
     · unfold ziB
       rw [if_neg hz,List.map_cons,y0 hkq,List.take_of_length_le]
       rw [List.length_map]
       omega
   · have hlen:L.length=cap:=by omega
     obtain ⟨u,y,rfl⟩:∃ u y,L=u++[y]:=⟨L.dropLast,L.getLast (fun e=>by rw [e] at hlen; exact hz hlen.symm),(List.dropLast_concat_getLast _).symm⟩
     have hyl:=(h5 y (by simp)).2.2.2
     have yk:=(h5 y (by simp)).2.2.1.loadKK
     obtain ⟨e,n,O1,O2,O3,O4,c1,s1,c3,s2,c4,c5,s3,s4,hLR4,hget4⟩:=drop mK h' (some 29) (N+2) G
     have hx4:∀ x∈u,x.1<N:=fun x hx'=>hx x (List.mem_append_left _ hx')
     have hul:u.length<cap:=by rw [List.length_append] at hlen; simp only [List.length_cons,List.length_nil] at hlen; omega
     have lbN:=((b1.same (g2 N (by omega))).same (hget4 N (by omega) (by omega) (fun x hx'=>by have:=hx x hx'; omega))).loads 0 2 (N+2) G (Nat.le_of_ble_eq_true rfl)
     obtain ⟨OA,sA,r1,f1⟩:=Obj.mk (c:=(.node (.node (.node .leaf (some (.int .i64 kb)) .leaf) (some .nilp) .leaf) (some .nilp) (.node (.node .leaf (some (.str va)) .leaf) (some (.str ka)) .leaf))) (el:=64) [.nilp,.nilp,.str ka,.int .i64 kb,.str va] O4 (N+2) 5 rfl (fun u hu=>by rcases u with _ | _ | _ | _ | _ | u <;> first | rfl | omega)
     obtain ⟨a,P2',P3,P4,P5,P6,P7,k2,t2',k3,t3,k4,t4,t5,k5,t6,t7,hLR,hD,hget⟩:=add (N:=N+2) (vs:=[.str va]) mK hLR4 (by omega) (by omega) (fun x hx'=>by have:=hx4 x hx'; omega) (fun x hx'=>hk x (List.mem_append_left _ hx')) hul r1 f1 rfl rfl (Nat.lt_of_lt_of_le (Nat.lt_succ_self 2) (Nat.le_of_ble_eq_true rfl)) (fun u v hu=>by rcases u with _ | _ | _ | u <;> first | (cases hu; exact ⟨Nat.le_of_ble_eq_true rfl,rfl⟩) | cases hu) rfl G
     have lk:=(hD.loadKK)
     have e1:(((u++[y]).length:Nat):Int)=((u.length+1:Nat):Int):=by rw [List.length_append]; rfl
     have wd:IntKind.i64.wrap ((((u++[y]).length:Nat):Int) - (1:Int))=((u.length:Nat):Int):=by rw [e1,IntKind.wrap_i64]; omega
     have wk:IntKind.i64.wrap (((u.length:Nat):Int)+(1:Int))=((u.length+1:Nat):Int):=by rw [IntKind.wrap_i64]; omega
     refine (Obl.goal mix (K:=Goal P keep f0 Q) (fun _ h=>h) (cast (zlC Q keep f0 rest l y.1 mi a.1 a.2 ((cap:Nat):Int) (((u++[y]).length:Nat):Int) N O e.1 e.2 n.1 n.2 ka va kb y.2.1.2 y.2.1.1 P1 P2 O1 O2 O3 O4 OA P2' P3 P4 P5 P6 P7 G (Goal P keep f0 Q)).symm ⟨t1,c0,hcz,lb1,t2,lb2,jy,h3.load _ _,lb2,hlook,h2.load _ _,h1.load _ _,decide_eq_true (by omega),c1.load _ _,yk (N+2) G,jy,h3.load _ _,yk (N+2) G,s1,c3.load _ _,by rw [wd]; exact s2,c4.load _ _,c5.load _ _,c5.load _ _,c4.load _ _,s3,s4,lbN,sA,lk (N+2+1) G,jy,k2.load _ _,lk (N+2+1) G,t2',by rw [wd]; exact k3.load _ _,by rw [wd,wk]; exact t3,k4.load _ _,t4,t5,k5.load _ _,t6,t7,hK P7 (N+2+1) _ _ hLR (by omega) (fun x hx'=>?_) ?_ (fun j hj e1 e2 e3=>((hget j (by omega) e1 e2 (fun z hz=>e3 z (List.mem_append_left _ hz))).trans (hget4 j e1 e2 e3)).trans (low2 j hj))⟩))
     · rcases List.mem_cons.1 hx' with rfl | hx'
       · exact ⟨Nat.lt_succ_self _,.inl (by show N≤N+2; omega)⟩
       · exact ⟨by have:=hx4 x hx'; omega,.inr ⟨x,List.mem_append_left _ hx',rfl⟩⟩
     · unfold ziB
       rw [if_neg hz,List.map_cons,y0 hkq,List.map_append,List.take_append_of_le_length,List.take_of_length_le]
       · rw [List.length_map]; omega
       · rw [List.length_map]; omega
theorem zb5 (h:LR O kK kcK 1 l mi cap L)(hl:l<N)(hm:mi<N)(hx:∀ x∈L,x.1<N)(hsh:∀ x∈L,∃ s:List UInt8,x.2.2=[.str s]){keep:Nat}{f0:FuncId}{Q:AV→AHeap→Prop}{rest:List AFrame}
 (hM:(∀ x∈L,x.2.1≠(ka,kb))→∀ O' td,LR O' kK kcK 1 l mi cap L→(∀ j,j<N→O'.get j=O.get j)→Goal P keep f0 Q (AM.mk (RF 12 25 (.node (.node .leaf none (.node .leaf (some (.bool false)) .leaf)) none (.node (.node .leaf (some (.str [])) .leaf) none .leaf)) td) rest ⟨O',N+2,G⟩))
 (hH:∀ (p:Ent _) (s:List UInt8) (u w:List (Ent _)) (O':T AObj) (td:List AItem),L=u++p::w→p.2.1=(ka,kb)→p.2.2=[.str s]→LR O' kK kcK 1 l mi cap (p::(u++w))→(∀ j,j<N→j≠l→(∀ y∈L,y.1≠j)→O'.get j=O.get j)→Goal P keep f0 Q (AM.mk (RF 12 25 (.node (.node .leaf none (.node .leaf (some (.bool true)) .leaf)) none (.node (.node .leaf (some (.str s)) .leaf) none .leaf)) td) rest ⟨O',N+2,G⟩)) :
 Goal P keep f0 Q (AM.mk (enF 12 [.ptr l 0 0,.agg [.str ka,.int .i64 kb]]) rest ⟨O,N,G⟩):=by
 obtain ⟨P1,t1,b1,g1⟩:=Obj.mk (c:=.node (.node .leaf (some (.int .i64 kb)) .leaf) (some (.str ka)) .leaf) (el:=29) [.str ka,.int .i64 kb] O N 2 rfl (fun u hu=>by rcases u with _ | _ | u <;> first | rfl | omega)
 obtain ⟨P2,t2,b2,g2⟩:=Obj.mk (c:=.node (.node .leaf (some (.int .i64 kb)) .leaf) (some (.str ka)) .leaf) (el:=29) [.str ka,.int .i64 kb] P1 (N+1) 2 rfl (fun u hu=>by rcases u with _ | _ | u <;> first | rfl | omega)
 have lb1:=b1.loads 0 2 (N+1) G (Nat.le_of_ble_eq_true rfl)
 have lb2:=b2.loads 0 2 (N+2) G (Nat.le_of_ble_eq_true rfl)
 have low2:∀ j,j<N→P2.get j=O.get j:=fun j hj=>(g2 j (by omega)).trans (g1 j (by omega))
 have h:=h.low hl hm hx low2
 have h':=h
 obtain ⟨h0,h1,h2,h3,h4,h5,h6,h7,h8,h9⟩:=h
 by_cases hin:∃ x∈L,x.2.1=(ka,kb)
 · obtain ⟨p,hp,hpk⟩:=hin
   obtain ⟨s,hs⟩:=hsh p hp
   obtain ⟨u,w,rfl⟩:=zaf hp
   have hlook:=h8.hit mK hp hpk (fun y hy e=>vR h7 p hp y hy e) (N+2) G
   obtain ⟨e,n,a,O2,O3,O4,O5,O6,O7,c1,c2,s1,s2,c3,s3,s4,c4,s5,s6,hLR,hget⟩:=move (kc:=kcK) (vs:=p.2.2) (fun _=>Nat.zero_lt_succ _) h' P2 ⟨fun _ _ _ _ h=>h,fun _ _=>rfl⟩ (h5 p hp).2.2.1 (h5 p hp).2.2.2 (N+2) G
   have hd:=(hLR.2.2.2.2.2.1 _ List.mem_cons_self).2.2.1
   have hv:=hd.load (h5 p hp |>.2.2.2 |> fun e=>by rw [e]; decide) (N+2) G rfl rfl
   rw [hs] at hv
   exact (Obl.goal mix (K:=Goal P keep f0 Q) (fun _ h=>h) (cast (q_hh Q keep f0 rest l p.1 mi a.1 a.2 N O e.1 e.2 n.1 n.2 ka s kb P1 P2 O2 O3 O4 O5 O6 O7 G (Goal P keep f0 Q)).symm ⟨t1,lb1,t2,lb2,jy,h3.load _ _,lb2,hlook,c1.load _ _,c2.load _ _,c2.load _ _,c1.load _ _,s1,s2,c3.load _ _,s3,s4,c4.load _ _,s5,s6,hv,hH p s u w O7 _ rfl hpk hs hLR (fun j hj e1 e3=>(hget j e1 e3).trans (low2 j hj))⟩))
 · have hk:∀ x∈L,x.2.1≠(ka,kb):=fun x hx e=>hin ⟨x,hx,e⟩
   exact (Obl.goal mix (K:=Goal P keep f0 Q) (fun _ h=>h) (cast (q_hm Q keep f0 rest l mi N O ka kb P1 P2 G (Goal P keep f0 Q)).symm ⟨t1,lb1,t2,lb2,jy,h3.load _ _,lb2,h8.miss mK hk _ _,hM hk _ _ h' low2⟩))
end
end Go.Proofs.Ytjddelgojkgnaaa.gx
end
section
set_option maxRecDepth 100000
set_option linter.unusedVariables false
namespace Go.Proofs.Ytjddelgojkgnaaa.gx
open Go Ev
noncomputable def TL (r:Nat) (t:Nat) (u:Nat) (k:Int) (j:Int) (bb:Bool) (ot:AV) (rest:List AFrame) (O:T AObj) (N:Nat) (G:T (T AV)):AM:=⟨⟨27,52,(.node (.node (.node (.node .leaf (some (.ptr u 0 0)) .leaf) none .leaf) (some (.int .i64 k)) (.node (.node .leaf (some (.int .i64 j)) .leaf) none .leaf)) (some (.ptr r 0 0)) (.node (.node (.node .leaf (some (.bool bb)) .leaf) (some (.ptr t 0 0)) .leaf) none (.node .leaf (some (ot)) .leaf))),   [.code (cd P 27 [1,1,1,1,0,1,0,0]),.inLoop (cd P 27 [1,1,1,1,0,1,0,0]),.inBlock 0,.code (cd P 27 [1,1,1,1,1])],[],.run,CallKind.normal,none⟩,
 rest,
 ⟨O,N,G⟩⟩
noncomputable def Frp (r:Nat) (k:Int) (v:Int):AFrame:=⟨10,55,(.node (.node .leaf (some (.int .i64 k)) (.node (.node .leaf (some (.ptr r 0 0)) .leaf) none .leaf)) (some (.ptr r 0 0)) (.node .leaf (some (.int .i64 v)) (.node (.node .leaf (some (.int .i64 k)) .leaf) none .leaf))),   [.ops (rg P 10 [0]).toList ((rg P 10 [0]).toList.drop 2),.code (cd P 10 [1])],[],.run,CallKind.normal,none⟩
noncomputable def Frg (r:Nat) (k:Int):AFrame:=⟨13,21,(.node (.node .leaf (some (.int .i64 k)) (.node (.node .leaf (some (.ptr r 0 0)) .leaf) (some (.bool false)) .leaf)) (some (.ptr r 0 0)) (.node (.node .leaf (some (.int .i64 0)) .leaf) none (.node (.node .leaf (some (.int .i64 k)) .leaf) none .leaf))),   [.ops (rg P 13 [1,0]).toList ((rg P 13 [1,0]).toList.drop 2),.code (cd P 13 [1,1])],[],.run,CallKind.normal,none⟩
noncomputable def zjt (r:Nat) (k:Int) (v:Int) (w:Int) (x:Int) (bb:Bool) (cap:Int) (ps:AV) (N:Nat) (s1:AV) (z1:Int):AFrame:=⟨10,55,(.node (.node (.node (.node (.node (.node .leaf (some (.ptr r 0 0)) .leaf) (some (.bool !bb)) (.node .leaf (some s1) .leaf)) (some (.bool bb)) (.node (.node .leaf (some (.ptr r 0 0)) .leaf) (some (.bool bb)) .leaf)) none (.node (.node (.node .leaf (some (.bool (decide (z1≥cap)))) .leaf) (some (.ptr r 0 0)) (.node .leaf (some (.int .i64 k)) .leaf)) (some (.tup [.agg [.int .i64 w,.int .i64 x],.bool bb])) (.node (.node .leaf (some (.ptr r 0 0)) .leaf) (some (.ptr r 0 0)) .leaf))) (some (.int .i64 k)) (.node (.node (.node (.node .leaf (some (.ptr r 0 0)) .leaf) (some (.ptr r 0 0)) (.node .leaf (some (.ptr r 0 1)) .leaf)) (some (.ptr r 0 0)) (.node (.node .leaf (some ps) .leaf) (some (.bool true)) .leaf)) none (.node (.node (.node .leaf (some (.ptr r 0 0)) .leaf) (some (.bool (cap==(0:Int)))) (.node .leaf (some (.agg [.int .i64 k,.int .i64 v])) .leaf)) (some (.bool bb)) (.node (.node .leaf (some (.int .i64 cap)) .leaf) (some ps) .leaf)))) (some (.ptr r 0 0)) (.node (.node (.node (.node (.node .leaf (some (.ptr r 0 0)) .leaf) (some (.bool true)) (.node .leaf (some (.ptr r 0 0)) .leaf)) (some (.tup [.agg [.int .i64 w,.int .i64 x],.bool bb])) (.node (.node .leaf (some (.ptr r 0 1)) .leaf) (some (.bool !bb)) .leaf)) none (.node (.node (.node .leaf (some (.bool true)) .leaf) (some (.int .i64 cap)) (.node .leaf (some (.int .i64 v)) .leaf)) (some (.agg [.int .i64 w,.int .i64 x])) (.node (.node .leaf (some (.ptr r 0 0)) .leaf) (some (.ptr r 0 1)) .leaf))) (some (.int .i64 v)) (.node (.node (.node (.node .leaf (some (.int .i64 cap)) .leaf) (some (.ptr r 0 0)) (.node .leaf (some (.ptr r 0 0)) .leaf)) (some (.int .i64 k)) (.node (.node .leaf (some (.ptr r 0 0)) .leaf) (some (.ptr r 0 0)) .leaf)) (some (.ptr N 0 0)) (.node (.node (.node .leaf (some (.ptr r 0 0)) .leaf) (some (.bool false)) .leaf) (some (.bool bb)) (.node (.node .leaf (some (.int .i64 (IntKind.i64.wrap (cap - (1:Int))))) .leaf) (some (.int .i64 z1)) .leaf))))),   [.ops (rg P 10 [1,1,1]).toList ((rg P 10 [1,1,1]).toList.drop 4)],[],.run,CallKind.normal,none⟩
noncomputable def zjP (r:Nat) (k:Int) (v:Int) (w:Int) (x:Int) (bb:Bool) (cap:Int) (ps:AV) (N:Nat) (z1:Int):AFrame:=⟨10,55,(.node (.node (.node (.node (.node (.node .leaf (some (.ptr r 0 0)) .leaf) (some (.bool !bb)) .leaf) (some (.bool bb)) (.node .leaf (some (.bool bb)) .leaf)) none (.node (.node (.node .leaf (some (.bool (decide (z1≥cap)))) .leaf) (some (.ptr r 0 0)) (.node .leaf (some (.int .i64 k)) .leaf)) (some (.tup [.agg [.int .i64 w,.int .i64 x],.bool bb])) (.node .leaf (some (.ptr r 0 0)) .leaf))) (some (.int .i64 k)) (.node (.node (.node (.node .leaf (some (.ptr r 0 0)) .leaf) (some (.ptr r 0 0)) .leaf) (some (.ptr r 0 0)) (.node .leaf (some (.bool true)) .leaf)) none (.node (.node .leaf (some (.bool (cap==(0:Int)))) (.node .leaf (some (.agg [.int .i64 k,.int .i64 v])) .leaf)) (some (.bool bb)) (.node .leaf (some ps) .leaf)))) (some (.ptr r 0 0)) (.node (.node (.node (.node (.node .leaf (some (.ptr r 0 0)) .leaf) (some (.bool true)) .leaf) (some (.tup [.agg [.int .i64 w,.int .i64 x],.bool bb])) (.node .leaf (some (.bool !bb)) .leaf)) none (.node (.node (.node .leaf (some (.bool false)) .leaf) (some (.int .i64 cap)) (.node .leaf (some (.int .i64 v)) .leaf)) (some (.agg [.int .i64 w,.int .i64 x])) (.node .leaf (some (.ptr r 0 1)) .leaf))) (some (.int .i64 v)) (.node (.node (.node (.node .leaf (some (.int .i64 cap)) .leaf) (some (.ptr r 0 0)) (.node .leaf (some (.ptr r 0 0)) .leaf)) (some (.int .i64 k)) (.node .leaf (some (.ptr r 0 0)) .leaf)) (some (.ptr N 0 0)) (.node (.node .leaf (some (.bool false)) .leaf) (some (.bool bb)) (.node .leaf (some (.int .i64 z1)) .leaf))))),   [.ops (rg P 10 [1,1,1]).toList ((rg P 10 [1,1,1]).toList.drop 4)],[],.run,CallKind.normal,none⟩
noncomputable def Frqn (r:Nat) (k:Int) (v:Int) (w:Int) (x:Int) (bb:Bool) (N:Nat):AFrame:=⟨10,55,(.node (.node (.node (.node (.node (.node .leaf (some (.tup [])) .leaf) (some (.bool !bb)) .leaf) (some (.bool bb)) (.node .leaf (some (.bool bb)) .leaf)) none (.node (.node (.node .leaf (some (.tup [])) .leaf) (some (.tup [])) (.node .leaf (some (.int .i64 k)) .leaf)) (some (.tup [.agg [.int .i64 w,.int .i64 x],.bool bb])) (.node .leaf (some (.tup [])) .leaf))) (some (.int .i64 k)) (.node (.node (.node (.node .leaf (some (.tup [])) .leaf) (some (.tup [])) .leaf) (some (.ptr r 0 0)) (.node .leaf (some (.bool false)) .leaf)) none (.node (.node .leaf (some (.tup [])) (.node .leaf (some (.agg [.int .i64 k,.int .i64 v])) .leaf)) (some (.bool bb)) (.node .leaf (some (.tup [])) .leaf)))) (some (.ptr r 0 0)) (.node (.node (.node (.node (.node .leaf (some (.tup [])) .leaf) (some (.bool false)) .leaf) (some (.tup [.agg [.int .i64 w,.int .i64 x],.bool bb])) (.node .leaf (some (.bool !bb)) .leaf)) none (.node (.node (.node .leaf (some (.bool false)) .leaf) (some (.tup [])) (.node .leaf (some (.int .i64 v)) .leaf)) (some (.agg [.int .i64 w,.int .i64 x])) (.node .leaf (some (.tup [])) .leaf))) (some (.int .i64 v)) (.node (.node (.node (.node .leaf (some (.tup [])) .leaf) (some (.tup [])) (.node .leaf (some (.ptr r 0 0)) .leaf)) (some (.int .i64 k)) (.node .leaf (some (.tup [])) .leaf)) (some (.ptr N 0 0)) (.node (.node .leaf (some (.bool false)) .leaf) (some (.bool bb)) (.node .leaf (some (.tup [])) .leaf))))),   [.ops (rg P 10 [1,1,1]).toList ((rg P 10 [1,1,1]).toList.drop 4)],[],.run,CallKind.normal,none⟩
noncomputable def Frhy (r:Nat) (k:Int) (w:Int) (x:Int) (bb:Bool) (N:Nat):AFrame:=⟨13,21,(.node (.node (.node (.node (.node .leaf (some (.ptr r 0 0)) .leaf) (some (.bool bb)) .leaf) none (.node .leaf (some (.tup [.agg [.int .i64 w,.int .i64 x],.bool bb])) .leaf)) (some (.int .i64 k)) (.node (.node .leaf (some (.ptr r 0 0)) .leaf) (some (.bool false)) (.node .leaf (some (.bool bb)) .leaf))) (some (.ptr r 0 0)) (.node (.node (.node (.node .leaf (some (.agg [.int .i64 w,.int .i64 x])) .leaf) (some (.tup [.agg [.int .i64 w,.int .i64 x],.bool bb])) .leaf) (some (.int .i64 0)) (.node .leaf (some (.agg [.int .i64 w,.int .i64 x])) .leaf)) none (.node (.node .leaf (some (.int .i64 k)) .leaf) (some (.ptr N 0 0)) (.node .leaf (some (.bool true)) .leaf)))),   [.ops (rg P 13 [1,1,0,1,0]).toList ((rg P 13 [1,1,0,1,0]).toList.drop 2),.code (cd P 13 [1,1,1])],[],.run,CallKind.normal,none⟩
theorem q_tk (R:AV→AHeap→Prop)(keep:Nat)(f0:FuncId)(rest:List AFrame)(r:Nat)(k:Int)(N:Nat)(O:T AObj)(O1:T AObj)(O2:T AObj)(G:T (T AV))(K:AM→Prop):Obl P f0 (fun v h=>R v h) keep K [.run 2,.hop (.nilp) O1,.run 8,.hop (.nilp) O2,.run 12,.keep [0,1,4,6,7,8,9]] ((AM.mk (enF 27 [.ptr r 0 0,.int .i64 k]) rest ⟨O,N,G⟩))=((T.set ((some (.cells (.node (.node .leaf (some (.int .i64 0)) .leaf) (some (.int .i64 0)) .leaf) 2 72 0 0 1 0 false .leaf))) (O) (N)=O1)∧(T.set ((some (.cells (.node (.node .leaf (some (.int .i64 0)) .leaf) (some (.int .i64 0)) .leaf) 2 72 0 0 1 0 false .leaf))) (O1) (N+1)=O2)∧K (TL r N (N+1) k 0 false (.nils 0 0) rest O2 (N+2) G)):=by kernel_rfl
theorem zlb (R:AV→AHeap→Prop)(keep:Nat)(f0:FuncId)(rest:List AFrame)(r:Nat)(t:Nat)(u:Nat)(k:Int)(j:Int)(bb:Bool)(ps:AV)(ot:AV)(N:Nat)(O:T AObj)(O1:T AObj)(i1:Nat)(i2:Nat)(i3:Nat)(i4:Nat)(i5:Nat)(i6:Nat)(z1:Int)(z2:Int)(z3:Int)(z4:Int)(G:T (T AV))(K:AM→Prop):Obl P f0 (fun v h=>R v h) keep K [.run 7,.hop (ps) O,.hopn (.int .i64 z1) O (N),.run 2,.know 16 true,.run 9,.hop (ps) O,.run 1,.hopn (.ptr i1 i2 i3) O (N),.run 1,.hop (.int .i64 z2) O,.run 3,.know 28 true,.run 6,.hop (ps) O,.run 1,.hopn (.ptr i4 i5 i6) O (N),.hop (.agg [.int .i64 z3,.int .i64 z4]) O,.hop (.nilp) O1,.run 11,.keep [0,1,4,6,7,8,9]] ((TL r t u k j bb ot rest O N G))=((za (⟨O,N,G⟩) (r) 0 1 1=(some [ps]))∧(xd P (⟨O,N,G⟩) (Builtin.len) ((some 46)) ([ps])=(some (.int .i64 z1)))∧(decide (j<z1)=true)∧(za (⟨O,N,G⟩) (r) 0 1 1=(some [ps]))∧(zm P 46 (ps) (.int .i64 j)=(some (.ptr i1 i2 i3)))∧(za (⟨O,N,G⟩) (i1) (i2) (i3) 1=(some [.int .i64 z2]))∧((z2==k)=true)∧(za (⟨O,N,G⟩) (r) 0 1 1=(some [ps]))∧(zm P 46 (ps) (.int .i64 j)=(some (.ptr i4 i5 i6)))∧(za (⟨O,N,G⟩) (i4) (i5) (i6) 2=(some [.int .i64 z3,.int .i64 z4]))∧(zc (⟨O,N,G⟩) (u) 0 0 ([.int .i64 z3,.int .i64 z4])=(some ⟨O1,N,G⟩))∧K (TL r t u k (IntKind.i64.wrap (j+(1:Int))) true ot rest O1 N G)):=by kernel_rfl
theorem zlr (R:AV→AHeap→Prop)(keep:Nat)(f0:FuncId)(rest:List AFrame)(r:Nat)(t:Nat)(u:Nat)(k:Int)(j:Int)(bb:Bool)(ps:AV)(ot:AV)(N:Nat)(O:T AObj)(O1:T AObj)(O2:T AObj)(N1:Nat)(i1:Nat)(i2:Nat)(i3:Nat)(i4:Nat)(i5:Nat)(i6:Nat)(s1:AV)(z1:Int)(z2:Int)(z3:Int)(z4:Int)(G:T (T AV))(K:AM→Prop):Obl P f0 (fun v h=>R v h) keep K [.run 7,.hop (ps) O,.hopn (.int .i64 z1) O (N),.run 2,.know 16 true,.run 9,.hop (ps) O,.run 1,.hopn (.ptr i1 i2 i3) O (N),.run 1,.hop (.int .i64 z2) O,.run 3,.know 28 false,.run 6,.hop (ps) O,.run 1,.hopn (.ptr i4 i5 i6) O (N),.hop (.agg [.int .i64 z3,.int .i64 z4]) O,.hopn (.slc N 0 0 1 1) O1 (N+1),.hopn (s1) O2 (N1),.run 9,.keep [0,1,4,6,7,8,9]] ((TL r t u k j bb ot rest O N G))=((za (⟨O,N,G⟩) (r) 0 1 1=(some [ps]))∧(xd P (⟨O,N,G⟩) (Builtin.len) ((some 46)) ([ps])=(some (.int .i64 z1)))∧(decide (j<z1)=true)∧(za (⟨O,N,G⟩) (r) 0 1 1=(some [ps]))∧(zm P 46 (ps) (.int .i64 j)=(some (.ptr i1 i2 i3)))∧(za (⟨O,N,G⟩) (i1) (i2) (i3) 1=(some [.int .i64 z2]))∧((z2==k)=false)∧(za (⟨O,N,G⟩) (r) 0 1 1=(some [ps]))∧(zm P 46 (ps) (.int .i64 j)=(some (.ptr i4 i5 i6)))∧(za (⟨O,N,G⟩) (i4) (i5) (i6) 2=(some [.int .i64 z3,.int .i64 z4]))∧(zg P (⟨O,N,G⟩) 46 1 ([(0,.agg [.int .i64 z3,.int .i64 z4])])=(some (.slc N 0 0 1 1,⟨O1,N+1,G⟩)))∧(zt P (⟨O1,N+1,G⟩) (Builtin.append) ((some 46)) ((some 46)) ([ot,.slc N 0 0 1 1])=(some (.val s1 ⟨O2,N1,G⟩)))∧K (TL r t u k (IntKind.i64.wrap (j+(1:Int))) bb s1 rest O2 N1 G)):=by kernel_rfl
theorem q_tln (R:AV→AHeap→Prop)(keep:Nat)(f0:FuncId)(rest:List AFrame)(r:Nat)(t:Nat)(u:Nat)(k:Int)(j:Int)(bb:Bool)(ps:AV)(ot:AV)(N:Nat)(O:T AObj)(O1:T AObj)(O2:T AObj)(z1:Int)(z2:Int)(z3:Int)(G:T (T AV))(K:AM→Prop):Obl P f0 (fun v h=>R v h) keep K [.run 7,.hop (ps) O,.hopn (.int .i64 z1) O (N),.run 2,.know 16 false,.run 8,.hopn (.nilp) O1 (N),.run 3,.hop (.agg [.int .i64 z2,.int .i64 z3]) O1,.run 1,.hop (.nilp) O2,.run 3,.keep [4,5]] ((TL r t u k j bb ot rest O N G))=((za (⟨O,N,G⟩) (r) 0 1 1=(some [ps]))∧(xd P (⟨O,N,G⟩) (Builtin.len) ((some 46)) ([ps])=(some (.int .i64 z1)))∧(decide (j<z1)=false)∧(ot.cells.length.beq 1=true∧zc (⟨O,N,G⟩:AHeap) r 0 1 ot.cells=some (⟨O1,N,G⟩:AHeap))∧(za (⟨O1,N,G⟩) (u) 0 0 2=(some [.int .i64 z2,.int .i64 z3]))∧(zc (⟨O1,N,G⟩) (t) 0 0 ([.int .i64 z2,.int .i64 z3])=(some ⟨O2,N,G⟩))∧K (AM.mk (RF 27 52 (.node (.node .leaf none (.node .leaf (some (.bool bb)) .leaf)) none (.node (.node .leaf (some (.ptr t 0 0)) .leaf) none .leaf)) [.code (cd P 27 [1,1,1,1,1,1,1])]) rest ⟨O2,N,G⟩)):=by kernel_rfl
theorem q_fi (R:AV→AHeap→Prop)(keep:Nat)(f0:FuncId)(rest:List AFrame)(r:Nat)(k:Int)(v:Int)(ps:AV)(N:Nat)(O:T AObj)(O1:T AObj)(O2:T AObj)(O3:T AObj)(O4:T AObj)(N1:Nat)(s1:AV)(G:T (T AV))(K:AM→Prop):Obl P f0 (fun v h=>R v h) keep K [.run 2,.hop (.nilp) O1,.run 3,.hop (.agg [.int .i64 k,.int .i64 v]) O1,.hopn (.slc (N+1) 0 0 1 1) O2 (N+2),.run 3,.hop (ps) O2,.hopn (s1) O3 (N1),.run 2,.hopn (.nilp) O4 (N1),.run 2,.keep []] ((AM.mk (enF 28 [.ptr r 0 0,.agg [.int .i64 k,.int .i64 v]]) rest ⟨O,N,G⟩))=((T.set ((some (.cells (.node (.node .leaf (some (.int .i64 v)) .leaf) (some (.int .i64 k)) .leaf) 2 72 0 0 1 0 false .leaf))) (O) (N)=O1)∧(za (⟨O1,N+1,G⟩) (N) 0 0 2=(some [.int .i64 k,.int .i64 v]))∧(zg P (⟨O1,N+1,G⟩) 46 1 ([(0,.agg [.int .i64 k,.int .i64 v])])=(some (.slc (N+1) 0 0 1 1,⟨O2,N+2,G⟩)))∧(za (⟨O2,N+2,G⟩) (N) 0 0 2=(some [.int .i64 k,.int .i64 v]))∧(za (⟨O2,N+2,G⟩) (r) 0 1 1=(some [ps]))∧(zt P (⟨O2,N+2,G⟩) (Builtin.append) ((some 46)) ((some 46)) ([.slc (N+1) 0 0 1 1,ps])=(some (.val s1 ⟨O3,N1,G⟩)))∧(s1.cells.length.beq 1=true∧zc (⟨O3,N1,G⟩:AHeap) r 0 1 s1.cells=some (⟨O4,N1,G⟩:AHeap))∧K (AM.mk (RF 28 14 .leaf []) rest ⟨O4,N1,G⟩)):=by kernel_rfl
theorem q_rp (R:AV→AHeap→Prop)(keep:Nat)(f0:FuncId)(rest:List AFrame)(r:Nat)(k:Int)(v:Int)(N:Nat)(O:T AObj)(G:T (T AV))(K:AM→Prop):Obl P f0 (fun v h=>R v h) keep K [.run 5] ((AM.mk (enF 10 [.ptr r 0 0,.int .i64 k,.int .i64 v]) rest ⟨O,N,G⟩))=(K (AM.mk (enF 27 [.ptr r 0 0,.int .i64 k]) ((Frp r k v)::rest) ⟨O,N,G⟩)):=by kernel_rfl
theorem q_rg (R:AV→AHeap→Prop)(keep:Nat)(f0:FuncId)(rest:List AFrame)(r:Nat)(k:Int)(N:Nat)(O:T AObj)(G:T (T AV))(K:AM→Prop):Obl P f0 (fun v h=>R v h) keep K [.run 10] ((AM.mk (enF 13 [.ptr r 0 0,.int .i64 k]) rest ⟨O,N,G⟩))=(K (AM.mk (enF 27 [.ptr r 0 0,.int .i64 k]) ((Frg r k)::rest) ⟨O,N,G⟩)):=by kernel_rfl
theorem zlg (R:AV→AHeap→Prop)(keep:Nat)(f0:FuncId)(rest:List AFrame)(r:Nat)(t:Nat)(k:Int)(v:Int)(w:Int)(x:Int)(bb:Bool)(cap:Int)(td:List AItem)(N:Nat)(O:T AObj)(O1:T AObj)(O2:T AObj)(G:T (T AV))(K:AM→Prop):Obl P f0 (fun v h=>R v h) keep K [.hret [.agg [.int .i64 w,.int .i64 x],.nilp],.run 3,.hop (.nilp) O1,.hop (.nilp) O2,.run 8,.know 16 true,.run 3,.hop (.int .i64 cap) O2,.run 3,.know 22 true,.run 2,.keep []] ((AM.mk (RF 27 52 (.node (.node .leaf none (.node .leaf (some (.bool bb)) .leaf)) none (.node (.node .leaf (some (.ptr t 0 0)) .leaf) none .leaf)) td) ((Frp r k v)::rest) ⟨O,N,G⟩))=((za (⟨O,N,G⟩:AHeap) t 0 0 2=some [AV.int .i64 w,AV.int .i64 x]∧True)∧(T.set ((some (.cells (.node (.node .leaf (some (.int .i64 0)) .leaf) (some (.int .i64 0)) .leaf) 2 72 0 0 1 0 false .leaf))) (O) (N)=O1)∧(zc (⟨O1,N+1,G⟩) (N) 0 0 ([.int .i64 w,.int .i64 x])=(some ⟨O2,N+1,G⟩))∧((!bb)=true)∧(za (⟨O2,N+1,G⟩) (r) 0 0 1=(some [.int .i64 cap]))∧((cap==(0:Int))=true)∧K (AM.mk (RF 10 55 .leaf [.code (cd P 27 [1,1,1,1,1,1,1]),.code (cd P 10 [1,1])]) rest ⟨O2,N+1,G⟩)):=by kernel_rfl
theorem zkq (R:AV→AHeap→Prop)(keep:Nat)(f0:FuncId)(rest:List AFrame)(r:Nat)(t:Nat)(k:Int)(v:Int)(w:Int)(x:Int)(bb:Bool)(cap:Int)(ps:AV)(td:List AItem)(N:Nat)(O:T AObj)(O1:T AObj)(O2:T AObj)(O3:T AObj)(s1:AV)(z1:Int)(G:T (T AV))(K:AM→Prop):Obl P f0 (fun v h=>R v h) keep K [.hret [.agg [.int .i64 w,.int .i64 x],.nilp],.run 3,.hop (.nilp) O1,.hop (.nilp) O2,.run 8,.know 16 true,.run 3,.hop (.int .i64 cap) O2,.run 3,.know 22 false,.run 8,.know 25 true,.run 3,.hop (ps) O2,.hopn (.int .i64 z1) O2 (N+1),.run 3,.hop (.int .i64 cap) O2,.run 3,.know 36 true,.run 6,.hop (ps) O2,.run 3,.hop (.int .i64 cap) O2,.run 1,.hop (s1) O2,.run 2,.hopn (.nilp) O3 (N+1),.run 7] ((AM.mk (RF 27 52 (.node (.node .leaf none (.node .leaf (some (.bool bb)) .leaf)) none (.node (.node .leaf (some (.ptr t 0 0)) .leaf) none .leaf)) td) ((Frp r k v)::rest) ⟨O,N,G⟩))=((za (⟨O,N,G⟩:AHeap) t 0 0 2=some [AV.int .i64 w,AV.int .i64 x]∧True)∧(T.set ((some (.cells (.node (.node .leaf (some (.int .i64 0)) .leaf) (some (.int .i64 0)) .leaf) 2 72 0 0 1 0 false .leaf))) (O) (N)=O1)∧(zc (⟨O1,N+1,G⟩) (N) 0 0 ([.int .i64 w,.int .i64 x])=(some ⟨O2,N+1,G⟩))∧((!bb)=true)∧(za (⟨O2,N+1,G⟩) (r) 0 0 1=(some [.int .i64 cap]))∧((cap==(0:Int))=false)∧((!bb)=true)∧(za (⟨O2,N+1,G⟩) (r) 0 1 1=(some [ps]))∧(xd P (⟨O2,N+1,G⟩) (Builtin.len) ((some 46)) ([ps])=(some (.int .i64 z1)))∧(za (⟨O2,N+1,G⟩) (r) 0 0 1=(some [.int .i64 cap]))∧(decide (z1≥cap)=true)∧(za (⟨O2,N+1,G⟩) (r) 0 1 1=(some [ps]))∧(za (⟨O2,N+1,G⟩) (r) 0 0 1=(some [.int .i64 cap]))∧(kj P (⟨O2,N+1,G⟩) 46 (ps) (none) ((some (IntKind.i64.wrap (cap - (1:Int))))) (none)=(some s1))∧(s1.cells.length.beq 1=true∧zc (⟨O2,N+1,G⟩:AHeap) r 0 1 s1.cells=some (⟨O3,(N+1),G⟩:AHeap))∧K (AM.mk (enF 28 [.ptr r 0 0,.agg [.int .i64 k,.int .i64 v]]) ((zjt r k v w x bb cap ps N s1 z1)::rest) ⟨O3,N+1,G⟩)):=by kernel_rfl
theorem zkR (R:AV→AHeap→Prop)(keep:Nat)(f0:FuncId)(rest:List AFrame)(r:Nat)(t:Nat)(k:Int)(v:Int)(w:Int)(x:Int)(bb:Bool)(cap:Int)(ps:AV)(td:List AItem)(N:Nat)(O:T AObj)(O1:T AObj)(O2:T AObj)(z1:Int)(G:T (T AV))(K:AM→Prop):Obl P f0 (fun v h=>R v h) keep K [.hret [.agg [.int .i64 w,.int .i64 x],.nilp],.run 3,.hop (.nilp) O1,.hop (.nilp) O2,.run 8,.know 16 true,.run 3,.hop (.int .i64 cap) O2,.run 3,.know 22 false,.run 8,.know 25 true,.run 3,.hop (ps) O2,.hopn (.int .i64 z1) O2 (N+1),.run 3,.hop (.int .i64 cap) O2,.run 3,.know 36 false,.run 8] ((AM.mk (RF 27 52 (.node (.node .leaf none (.node .leaf (some (.bool bb)) .leaf)) none (.node (.node .leaf (some (.ptr t 0 0)) .leaf) none .leaf)) td) ((Frp r k v)::rest) ⟨O,N,G⟩))=((za (⟨O,N,G⟩:AHeap) t 0 0 2=some [AV.int .i64 w,AV.int .i64 x]∧True)∧(T.set ((some (.cells (.node (.node .leaf (some (.int .i64 0)) .leaf) (some (.int .i64 0)) .leaf) 2 72 0 0 1 0 false .leaf))) (O) (N)=O1)∧(zc (⟨O1,N+1,G⟩) (N) 0 0 ([.int .i64 w,.int .i64 x])=(some ⟨O2,N+1,G⟩))∧((!bb)=true)∧(za (⟨O2,N+1,G⟩) (r) 0 0 1=(some [.int .i64 cap]))∧((cap==(0:Int))=false)∧((!bb)=true)∧(za (⟨O2,N+1,G⟩) (r) 0 1 1=(some [ps]))∧(xd P (⟨O2,N+1,G⟩) (Builtin.len) ((some 46)) ([ps])=(some (.int .i64 z1)))∧(za (⟨O2,N+1,G⟩) (r) 0 0 1=(some [.int .i64 cap]))∧(decide (z1≥cap)=false)∧K (AM.mk (enF 28 [.ptr r 0 0,.agg [.int .i64 k,.int .i64 v]]) ((zjP r k v w x bb cap ps N z1)::rest) ⟨O2,N+1,G⟩)):=by kernel_rfl
theorem q_rqn (R:AV→AHeap→Prop)(keep:Nat)(f0:FuncId)(rest:List AFrame)(r:Nat)(t:Nat)(k:Int)(v:Int)(w:Int)(x:Int)(bb:Bool)(td:List AItem)(N:Nat)(O:T AObj)(O1:T AObj)(O2:T AObj)(G:T (T AV))(K:AM→Prop):Obl P f0 (fun v h=>R v h) keep K [.hret [.agg [.int .i64 w,.int .i64 x],.nilp],.run 3,.hop (.nilp) O1,.hop (.nilp) O2,.run 8,.know 16 false,.run 15,.know 25 false,.run 20] ((AM.mk (RF 27 52 (.node (.node .leaf none (.node .leaf (some (.bool bb)) .leaf)) none (.node (.node .leaf (some (.ptr t 0 0)) .leaf) none .leaf)) td) ((Frp r k v)::rest) ⟨O,N,G⟩))=((za (⟨O,N,G⟩:AHeap) t 0 0 2=some [AV.int .i64 w,AV.int .i64 x]∧True)∧(T.set ((some (.cells (.node (.node .leaf (some (.int .i64 0)) .leaf) (some (.int .i64 0)) .leaf) 2 72 0 0 1 0 false .leaf))) (O) (N)=O1)∧(zc (⟨O1,N+1,G⟩) (N) 0 0 ([.int .i64 w,.int .i64 x])=(some ⟨O2,N+1,G⟩))∧((!bb)=false)∧((!bb)=false)∧K (AM.mk (enF 28 [.ptr r 0 0,.agg [.int .i64 k,.int .i64 v]]) ((Frqn r k v w x bb N)::rest) ⟨O2,N+1,G⟩)):=by kernel_rfl
theorem q_rhy (R:AV→AHeap→Prop)(keep:Nat)(f0:FuncId)(rest:List AFrame)(r:Nat)(t:Nat)(k:Int)(w:Int)(x:Int)(bb:Bool)(td:List AItem)(N:Nat)(O:T AObj)(O1:T AObj)(O2:T AObj)(G:T (T AV))(K:AM→Prop):Obl P f0 (fun v h=>R v h) keep K [.hret [.agg [.int .i64 w,.int .i64 x],.nilp],.run 3,.hop (.nilp) O1,.hop (.nilp) O2,.run 7,.know 14 true,.run 3,.hop (.agg [.int .i64 w,.int .i64 x]) O2,.run 1] ((AM.mk (RF 27 52 (.node (.node .leaf none (.node .leaf (some (.bool bb)) .leaf)) none (.node (.node .leaf (some (.ptr t 0 0)) .leaf) none .leaf)) td) ((Frg r k)::rest) ⟨O,N,G⟩))=((za (⟨O,N,G⟩:AHeap) t 0 0 2=some [AV.int .i64 w,AV.int .i64 x]∧True)∧(T.set ((some (.cells (.node (.node .leaf (some (.int .i64 0)) .leaf) (some (.int .i64 0)) .leaf) 2 72 0 0 1 0 false .leaf))) (O) (N)=O1)∧(zc (⟨O1,N+1,G⟩) (N) 0 0 ([.int .i64 w,.int .i64 x])=(some ⟨O2,N+1,G⟩))∧(bb=true)∧(za (⟨O2,N+1,G⟩) (N) 0 0 2=(some [.int .i64 w,.int .i64 x]))∧K (AM.mk (enF 28 [.ptr r 0 0,.agg [.int .i64 w,.int .i64 x]]) ((Frhy r k w x bb N)::rest) ⟨O2,N+1,G⟩)):=by kernel_rfl
theorem q_rhn (R:AV→AHeap→Prop)(keep:Nat)(f0:FuncId)(rest:List AFrame)(r:Nat)(t:Nat)(k:Int)(w:Int)(x:Int)(bb:Bool)(td:List AItem)(N:Nat)(O:T AObj)(O1:T AObj)(O2:T AObj)(G:T (T AV))(K:AM→Prop):Obl P f0 (fun v h=>R v h) keep K [.hret [.agg [.int .i64 w,.int .i64 x],.nilp],.run 3,.hop (.nilp) O1,.hop (.nilp) O2,.run 7,.know 14 false,.run 5,.hop (.int .i64 x) O2,.run 5,.keep [4,5]] ((AM.mk (RF 27 52 (.node (.node .leaf none (.node .leaf (some (.bool bb)) .leaf)) none (.node (.node .leaf (some (.ptr t 0 0)) .leaf) none .leaf)) td) ((Frg r k)::rest) ⟨O,N,G⟩))=((za (⟨O,N,G⟩:AHeap) t 0 0 2=some [AV.int .i64 w,AV.int .i64 x]∧True)∧(T.set ((some (.cells (.node (.node .leaf (some (.int .i64 0)) .leaf) (some (.int .i64 0)) .leaf) 2 72 0 0 1 0 false .leaf))) (O) (N)=O1)∧(zc (⟨O1,N+1,G⟩) (N) 0 0 ([.int .i64 w,.int .i64 x])=(some ⟨O2,N+1,G⟩))∧(bb=false)∧(za (⟨O2,N+1,G⟩) (N) 0 1 1=(some [.int .i64 x]))∧K (AM.mk (RF 13 21 (.node (.node .leaf none (.node .leaf (some (.bool bb)) .leaf)) none (.node (.node .leaf (some (.int .i64 x)) .leaf) none .leaf)) [.code (cd P 27 [1,1,1,1,1,1,1])]) rest ⟨O2,N+1,G⟩)):=by kernel_rfl
theorem zgR (R:AV→AHeap→Prop)(keep:Nat)(f0:FuncId)(rest:List AFrame)(r:Nat)(k:Int)(v:Int)(w:Int)(x:Int)(bb:Bool)(cap:Int)(ps:AV)(td:List AItem)(N:Nat)(O:T AObj)(c0:Nat)(s1:AV)(z1:Int)(G:T (T AV))(K:AM→Prop):Obl P f0 (fun v h=>R v h) keep K [.run 3,.keep []] ((AM.mk (RF 28 14 .leaf td) ((zjt r k v w x bb cap ps c0 s1 z1)::rest) ⟨O,N,G⟩))=(K (AM.mk (RF 10 55 .leaf []) rest ⟨O,N,G⟩)):=by kernel_rfl
theorem zhQ (R:AV→AHeap→Prop)(keep:Nat)(f0:FuncId)(rest:List AFrame)(r:Nat)(k:Int)(v:Int)(w:Int)(x:Int)(bb:Bool)(cap:Int)(ps:AV)(td:List AItem)(N:Nat)(O:T AObj)(c0:Nat)(z1:Int)(G:T (T AV))(K:AM→Prop):Obl P f0 (fun v h=>R v h) keep K [.run 3,.keep []] ((AM.mk (RF 28 14 .leaf td) ((zjP r k v w x bb cap ps c0 z1)::rest) ⟨O,N,G⟩))=(K (AM.mk (RF 10 55 .leaf []) rest ⟨O,N,G⟩)):=by kernel_rfl
theorem zkN (R:AV→AHeap→Prop)(keep:Nat)(f0:FuncId)(rest:List AFrame)(r:Nat)(k:Int)(v:Int)(w:Int)(x:Int)(bb:Bool)(td:List AItem)(N:Nat)(O:T AObj)(c0:Nat)(G:T (T AV))(K:AM→Prop):Obl P f0 (fun v h=>R v h) keep K [.run 3,.keep []] ((AM.mk (RF 28 14 .leaf td) ((Frqn r k v w x bb c0)::rest) ⟨O,N,G⟩))=(K (AM.mk (RF 10 55 .leaf []) rest ⟨O,N,G⟩)):=by kernel_rfl
theorem zkJ (R:AV→AHeap→Prop)(keep:Nat)(f0:FuncId)(rest:List AFrame)(r:Nat)(k:Int)(w:Int)(x:Int)(bb:Bool)(td:List AItem)(N:Nat)(O:T AObj)(c0:Nat)(G:T (T AV))(K:AM→Prop):Obl P f0 (fun v h=>R v h) keep K [.run 5,.hop (.int .i64 x) O,.run 5,.keep [4,5]] ((AM.mk (RF 28 14 .leaf td) ((Frhy r k w x bb c0)::rest) ⟨O,N,G⟩))=((za (⟨O,N,G⟩) (c0) 0 1 1=(some [.int .i64 x]))∧K (AM.mk (RF 13 21 (.node (.node .leaf none (.node .leaf (some (.bool bb)) .leaf)) none (.node (.node .leaf (some (.int .i64 x)) .leaf) none .leaf)) [.code (cd P 13 [1,1,1,1])]) rest ⟨O,N,G⟩)):=by kernel_rfl
def zcW (q:Int × Int):List AV:=[.int .i64 q.1,.int .i64 q.2]
theorem pE:Enc 2 zcW:=⟨fun _=>rfl,fun _=>rfl,by decide⟩
theorem pS:SlT 46 72 2 16:=SlT.mk' (by kernel_rfl) (by kernel_rfl) (by kernel_rfl) (by kernel_rfl) (by kernel_rfl) rfl rfl
theorem pLit (q:Int × Int)(h:AHeap):zg P h 46 1 [(0,.agg [.int .i64 q.1,.int .i64 q.2])]=some (.slc h.next 0 0 1 1,zV h 72 (zcW q) false):=by kernel_rfl
abbrev PV (O:T AObj) (lo hi:Nat) (xs:List (Int × Int)) (s:AV):Prop:=SV O 2 zcW lo hi xs s
def TB (k:Int) (b:Bool) (x:Int × Int) (dn:List (Int × Int)):Prop:=(b=true∧x.1=k∧x∈dn)∨(b=false∧x=(0,0)∧∀ q∈dn,q.1≠k)
variable {O O' O0:T AObj} {N N0 M r cap:Nat} {G:T (T AV)} {xs:List (Int × Int)} {k v:Int} {ps:AV}
theorem zaw (hr:Obj O0 r [.int .i64 cap,ps])(hrN:r<N0){lo:Nat}(hps:PV O0 lo N0 xs ps)(hlen:xs.length<500000000){keep:Nat}{f0:FuncId}{Q:AV→AHeap→Prop}{rest:List AFrame}
 (hK:∀ (O':T AObj) (N':Nat) (s':AV) (td:List AItem) (b:Bool) (x:Int × Int),Obj O' r [.int .i64 cap,s']→GV O' 72 2 zcW (N0+2) N' (xs.filter (fun q:Int × Int=>!(q.1==k))) s'→(∀ j,j<N0→j≠r→O'.get j=O0.get j)→N0+2≤N'→Obj O' N0 (zcW x)→TB k b x xs→Goal P keep f0 Q (AM.mk (RF 27 52 (.node (.node .leaf none (.node .leaf (some (.bool b)) .leaf)) none (.node (.node .leaf (some (.ptr N0 0 0)) .leaf) none .leaf)) td) rest ⟨O',N',G⟩)) :
 ∀ (w dn:List (Int × Int)) (O:T AObj) (M:Nat) (ot:AV) (bb:Bool) (x:Int × Int),xs=dn++w→(∀ j,j<N0→O.get j=O0.get j)→N0+2≤M→Obj O N0 (zcW (0,0))→Obj O (N0+1) (zcW x)→GV O 72 2 zcW (N0+2) M (dn.filter (fun q:Int × Int=>!(q.1==k))) ot→TB k bb x dn →
  Goal P keep f0 Q (TL r N0 (N0+1) k ((dn.length:Nat):Int) bb ot rest O M G)
 | [],dn,O,M,ot,bb,x,hx,hO,hM,ht,hu,hv,hb=>by
  rw [List.append_nil] at hx
  subst hx
  have hr':Obj O r [.int .i64 cap,ps]:=hr.same (hO r hrN)
  have hp:PV O lo N0 xs ps:=hps.keep (fun j _ hj=>hO j hj) (Nat.le_refl _) (Nat.le_refl _)
  have hc:=(hv.sv pE).cells
  obtain ⟨O1,s1,r1,f1⟩:=hr'.store 1 [ot] M G (Nat.le_of_ble_eq_true rfl) (by rw [List.all_cons,(hv.sv pE).one]; rfl)
  have hu1:=hu.fr f1 (by omega)
  obtain ⟨O2,s2,r2,f2⟩:=(ht.fr f1 (by omega)).store 0 (zcW x) M G (Nat.le_of_ble_eq_true rfl) rfl
  have ho:ot≠.nils 0 0→sid ot≠r∧sid ot≠N0:=fun h=>by have:=hv.sid_lt h; omega
  exact (Obl.goal mix (K:=Goal P keep f0 Q) (fun _ h=>h) (cast (q_tln Q keep f0 rest r N0 (N0+1) k ((xs.length:Nat):Int) bb ps ot M O O1 O2 ((xs.length:Nat):Int) x.1 x.2 G (Goal P keep f0 Q)).symm ⟨hr'.load 1 M G (Nat.le_of_ble_eq_true rfl),hp.len pS M G,decide_eq_false (by omega),st1 hc s1,hu1.loads 0 2 M G (Nat.le_of_ble_eq_true rfl),s2,hK O2 M ot _ bb x (r1.fr f2 (by omega)) (hv.same (fun h=>(f2 _ (ho h).2).trans (f1 _ (ho h).1)) (Nat.le_refl _) (Nat.le_refl _)) (fun j hj hjr=>(f2 j (by omega)).trans ((f1 j hjr).trans (hO j hj))) hM r2 hb⟩))
 | y::w,dn,O,M,ot,bb,x,hx,hO,hM,ht,hu,hv,hb=>by
  have hr':Obj O r [.int .i64 cap,ps]:=hr.same (hO r hrN)
  have hp:PV O lo N0 xs ps:=hps.keep (fun j _ hj=>hO j hj) (Nat.le_refl _) (Nat.le_refl _)
  have hxl:xs.length=dn.length+(w.length+1):=by rw [hx,List.length_append,List.length_cons]
  have hy:xs[dn.length]?=some y:=by rw [hx,List.getElem?_append_right (Nat.le_refl _),Nat.sub_self]; rfl
  obtain ⟨ri,z,off,_,_,ha,rd,_⟩:=hp.at pS pE hy
  have l0:=rd.nth (u:=0) rfl M G
  have l2:=rd.load (n:=2) rfl M G
  have ln:=hp.len pS M G
  have lr:=hr'.load 1 M G (Nat.le_of_ble_eq_true rfl)
  have ww:IntKind.i64.wrap (((dn.length:Nat):Int)+(1:Int))=(((dn++[y]).length:Nat):Int):=by rw [List.length_append,IntKind.wrap_i64]; simp only [List.length_cons,List.length_nil]; omega
  have hx':xs=(dn++[y])++w:=by rw [hx,List.append_assoc]; rfl
  by_cases hk:y.1=k
  · obtain ⟨O1,s1,r1,f1⟩:=hu.store 0 (zcW y) M G (Nat.le_of_ble_eq_true rfl) rfl
    have ih:=zaw hr hrN hps hlen hK w (dn++[y]) O1 M ot true y hx' (fun j hj=>(f1 j (by omega)).trans (hO j hj)) hM (ht.fr f1 (by omega)) r1 (by
     rw [List.filter_append,List.filter_cons,if_neg (by simp [hk]),List.filter_nil,List.append_nil]
     exact hv.keep (fun j hj _=>f1 j (by omega)) (Nat.le_refl _) (Nat.le_refl _)) (.inl ⟨rfl,hk,by simp⟩)
    rw [← ww] at ih
    exact (Obl.goal mix (K:=Goal P keep f0 Q) (fun _ h=>h) (cast (zlb Q keep f0 rest r N0 (N0+1) k ((dn.length:Nat):Int) bb ps ot M O O1 ri z off ri z off ((xs.length:Nat):Int) y.1 y.1 y.2 G (Goal P keep f0 Q)).symm ⟨lr,ln,decide_eq_true (by omega),lr,ha,l0,beq_iff_eq.2 hk,lr,ha,l2,s1,ih⟩))
  · obtain ⟨O1,e1,v1,_,f1⟩:=zfo pE (el:=72) y O M G (st:=46) (pLit y)
    have hfl:(dn.filter (fun q:Int × Int=>!(q.1==k))).length≤dn.length:=List.length_filter_le _ _
    obtain ⟨O2,N2,s2,e2,g2,h1,h2,f2,h3⟩:=(hv.keep (fun j _ hj=>f1 j (by omega)) (Nat.le_refl _) (Nat.le_succ _)).app pS pE v1 (by omega) (by show _+1<_; omega) G
    have lo2:∀ j,j<N0+2→O2.get j=O.get j:=fun j hj=>(f2 j (by omega) fun h=>by have:=hv.sid_lt h; omega).trans (f1 j (by omega))
    have ih:=zaw hr hrN hps hlen hK w (dn++[y]) O2 N2 s2 bb x hx' (fun j hj=>(lo2 j (by omega)).trans (hO j hj)) (by omega) (ht.same (lo2 _ (by omega))) (hu.same (lo2 _ (by omega))) (by
     rw [List.filter_append,List.filter_cons,if_pos (by simp [hk]),List.filter_nil]
     exact g2) (by
     rcases hb with ⟨a,b,c⟩ | ⟨a,b,c⟩
     · exact .inl ⟨a,b,List.mem_append_left _ c⟩
     · refine .inr ⟨a,b,fun q hq=>?_⟩
       rcases List.mem_append.1 hq with h | h
       · exact c q h
       · rw [List.mem_singleton.1 h]; exact hk)
    rw [← ww] at ih
    exact (Obl.goal mix (K:=Goal P keep f0 Q) (fun _ h=>h) (cast (zlr Q keep f0 rest r N0 (N0+1) k ((dn.length:Nat):Int) bb ps ot M O O1 O2 N2 ri z off ri z off s2 ((xs.length:Nat):Int) y.1 y.1 y.2 G (Goal P keep f0 Q)).symm ⟨lr,ln,decide_eq_true (by omega),lr,ha,l0,beq_eq_false_iff_ne.2 hk,lr,ha,l2,e1,e2,ih⟩))
theorem zh1 (hr:Obj O r [.int .i64 cap,ps])(hrN:r<N){lo:Nat}(hps:PV O lo N xs ps)(hlen:xs.length<500000000){keep:Nat}{f0:FuncId}{Q:AV→AHeap→Prop}{rest:List AFrame}
 (hK:∀ (O':T AObj) (N':Nat) (s':AV) (td:List AItem) (b:Bool) (x:Int × Int),Obj O' r [.int .i64 cap,s']→GV O' 72 2 zcW (N+2) N' (xs.filter (fun q:Int × Int=>!(q.1==k))) s'→(∀ j,j<N→j≠r→O'.get j=O.get j)→N+2≤N'→Obj O' N (zcW x)→TB k b x xs→Goal P keep f0 Q (AM.mk (RF 27 52 (.node (.node .leaf none (.node .leaf (some (.bool b)) .leaf)) none (.node (.node .leaf (some (.ptr N 0 0)) .leaf) none .leaf)) td) rest ⟨O',N',G⟩)) :
 Goal P keep f0 Q (AM.mk (enF 27 [.ptr r 0 0,.int .i64 k]) rest ⟨O,N,G⟩):=by
 obtain ⟨O1,e1,r1,f1⟩:=Obj.mk (c:=.node (.node .leaf (some (.int .i64 0)) .leaf) (some (.int .i64 0)) .leaf) (el:=72) (zcW (0,0)) O N 2 rfl (fun u hu=>by rcases u with _ | _ | u <;> first | rfl | omega)
 obtain ⟨O2,e2,r2,f2⟩:=Obj.mk (c:=.node (.node .leaf (some (.int .i64 0)) .leaf) (some (.int .i64 0)) .leaf) (el:=72) (zcW (0,0)) O1 (N+1) 2 rfl (fun u hu=>by rcases u with _ | _ | u <;> first | rfl | omega)
 exact (Obl.goal mix (K:=Goal P keep f0 Q) (fun _ h=>h) (cast (q_tk Q keep f0 rest r k N O O1 O2 G (Goal P keep f0 Q)).symm ⟨e1,e2,zaw hr hrN hps hlen hK xs [] O2 (N+2) _ false (0,0) rfl (fun j hj=>(f2 j (by omega)).trans (f1 j (by omega))) (Nat.le_refl _) (r1.fr f2 (by omega)) r2 .nil (.inr ⟨rfl,rfl,fun q hq=>absurd hq List.not_mem_nil⟩)⟩))
theorem zad (hr:Obj O r [.int .i64 cap,ps])(hrN:r<N){lo:Nat}(hps:PV O lo N xs ps)(hlen:xs.length<500000000){keep:Nat}{f0:FuncId}{Q:AV→AHeap→Prop}{rest:List AFrame}
 (hK:∀ (O':T AObj) (N':Nat) (s':AV) (td:List AItem),Obj O' r [.int .i64 cap,s']→PV O' N N' ((k,v)::xs) s'→(∀ j,j<N→j≠r→O'.get j=O.get j)→N≤N'→Goal P keep f0 Q (AM.mk (RF 28 14 .leaf td) rest ⟨O',N',G⟩)) :
 Goal P keep f0 Q (AM.mk (enF 28 [.ptr r 0 0,.agg [.int .i64 k,.int .i64 v]]) rest ⟨O,N,G⟩):=by
 obtain ⟨O1,e1,r1,f1⟩:=Obj.mk (c:=.node (.node .leaf (some (.int .i64 v)) .leaf) (some (.int .i64 k)) .leaf) (el:=72) (zcW (k,v)) O N 2 rfl (fun u hu=>by rcases u with _ | _ | u <;> first | rfl | omega)
 obtain ⟨O2,e2,_,g2,f2⟩:=zfo pE (el:=72) (k,v) O1 (N+1) G (st:=46) (pLit (k,v))
 have hr2:Obj O2 r [.int .i64 cap,ps]:=(hr.fr f1 (by omega)).fr f2 (by omega)
 have hp2:PV O2 lo N xs ps:=hps.keep (fun j _ hj=>(f2 j (by omega)).trans (f1 j (by omega))) (Nat.le_refl _) (Nat.le_refl _)
 obtain ⟨O3,N3,s3,e3,g3,h1,h2,f3,h3⟩:=g2.app pS pE hp2 (by omega) (by show 1+_<_; omega) G
 have lo3:∀ j,j<N+1→O3.get j=O2.get j:=fun j hj=>f3 j (by omega) fun _=>by show j≠N+1; omega
 have sv:=g3.sv pE
 obtain ⟨O4,s4,r4,f4⟩:=(hr2.same (lo3 r (by omega))).store 1 [s3] N3 G (Nat.le_of_ble_eq_true rfl) (by rw [List.all_cons,sv.one]; rfl)
 exact (Obl.goal mix (K:=Goal P keep f0 Q) (fun _ h=>h) (cast (q_fi Q keep f0 rest r k v ps N O O1 O2 O3 O4 N3 s3 G (Goal P keep f0 Q)).symm ⟨e1,r1.loads 0 2 _ _ (Nat.le_of_ble_eq_true rfl),e2,(r1.fr f2 (by omega)).loads 0 2 _ _ (Nat.le_of_ble_eq_true rfl),hr2.load 1 _ _ (Nat.le_of_ble_eq_true rfl),e3,st1 sv.cells s4,hK O4 N3 s3 _ r4 (sv.same (fun hn=>f4 _ (by have:=sv.sid_lt hn; omega)) (by omega) (Nat.le_refl _)) (fun j hj hjr=>(f4 j hjr).trans ((lo3 j (by omega)).trans ((f2 j (by omega)).trans (f1 j (by omega))))) (by omega)⟩))
def zbX (cap:Nat) (k v:Int) (ps:List (Int × Int)):List (Int × Int):=if cap=0 then ps else (k,v)::(ps.filter (fun q:Int × Int=>!(q.1==k))).take (cap - 1)
def zde (k:Int) (ps:List (Int × Int)):List (Int × Int):=ps.filter (fun q=>q.1==k)++ps.filter (fun q:Int × Int=>!(q.1==k))
theorem zeH {k:Int}{l:List (Int × Int)}(h:∀ x∈l,x.1≠k):l.filter (fun q:Int × Int=>!(q.1==k))=l:=List.filter_eq_self.2 fun x hx=>by simp [h x hx]
theorem zdz {k:Int}{l:List (Int × Int)}(h:∀ x∈l,x.1≠k):l.filter (fun q=>q.1==k)=[]:=List.filter_eq_nil_iff.2 fun x hx=>by simp [h x hx]
theorem zjg {x:Int × Int}(hx:x∈xs)(hk:x.1=k):(xs.filter (fun q:Int × Int=>!(q.1==k))).length<xs.length:=by
 obtain ⟨us,ws,rfl⟩:=List.append_of_mem hx
 have hb:¬ (!(x.1==k))=true:=by rw [hk,beq_self_eq_true]; simp
 rw [List.filter_append,List.filter_cons,if_neg hb,List.length_append,List.length_append,List.length_cons]
 have h1:=List.length_filter_le (fun q:Int × Int=>!(q.1==k)) us
 have h2:=List.length_filter_le (fun q:Int × Int=>!(q.1==k)) ws
 omega
theorem zck {x:Int × Int}(hx:x∈xs)(hk:x.1=k)(hn:(xs.map (·.1)).Nodup):zde k xs=x::xs.filter (fun q:Int × Int=>!(q.1==k)):=by
 obtain ⟨us,ws,rfl⟩:=List.append_of_mem hx
 rw [List.map_append,List.map_cons] at hn
 obtain ⟨m1,m2⟩:=xO hn
 rw [← List.map_append] at m2
 have hu:∀ y∈us++ws,y.1≠k:=fun y hy e=>m2 (by rw [hk,← e]; exact List.mem_map_of_mem hy)
 unfold zde
 rw [List.filter_append,List.filter_cons,if_pos (by simp [hk]),zdz fun y hy=>hu y (List.mem_append_left _ hy),zdz fun y hy=>hu y (List.mem_append_right _ hy)]
 rfl
theorem zjj (x:Int × Int)(O:T AObj)(N:Nat)(G:T (T AV)):∃ O1 O2,T.set (some (.cells (.node (.node .leaf (some (.int .i64 0)) .leaf) (some (.int .i64 0)) .leaf) 2 72 0 0 1 0 false .leaf)) O N=O1∧zc ⟨O1,N+1,G⟩ N 0 0 (zcW x)=some ⟨O2,N+1,G⟩∧Obj O2 N (zcW x)∧Frm O O2 N:=by
 obtain ⟨O1,e1,r1,f1⟩:=Obj.mk (c:=.node (.node .leaf (some (.int .i64 0)) .leaf) (some (.int .i64 0)) .leaf) (el:=72) (zcW (0,0)) O N 2 rfl (fun u hu=>by rcases u with _ | _ | u <;> first | rfl | omega)
 obtain ⟨O2,e2,r2,f2⟩:=r1.store 0 (zcW x) (N+1) G (Nat.le_of_ble_eq_true rfl) rfl
 exact ⟨O1,O2,e1,e2,r2,fun j hj=>(f2 j hj).trans (f1 j hj)⟩
theorem zin (hr:Obj O r [.int .i64 cap,ps])(hrN:r<N){lo:Nat}(hps:PV O lo N xs ps)(hcap:xs.length≤cap)(hlen:xs.length<500000000){keep:Nat}{f0:FuncId}{Q:AV→AHeap→Prop}{rest:List AFrame}
 (hK:∀ (O':T AObj) (N':Nat) (s':AV) (td:List AItem),Obj O' r [.int .i64 cap,s']→PV O' N N' (zbX cap k v xs) s'→(∀ j,j<N→j≠r→O'.get j=O.get j)→N≤N'→Goal P keep f0 Q (AM.mk (RF 10 55 .leaf td) rest ⟨O',N',G⟩)) :
 Goal P keep f0 Q (AM.mk (enF 10 [.ptr r 0 0,.int .i64 k,.int .i64 v]) rest ⟨O,N,G⟩):=by
 refine (Obl.goal mix (K:=Goal P keep f0 Q) (fun _ h=>h) (cast (q_rp Q keep f0 rest r k v N O G (Goal P keep f0 Q)).symm ?_))
 refine zh1 hr hrN hps hlen fun O1 N1 s1 td b x r1 g1 f1 h1 hx hb=>?_
 obtain ⟨O2,O3,e2,e3,b3,f3⟩:=zjj x O1 N1 G
 have hr3:=r1.fr f3 (by omega)
 have sv1:=g1.sv pE
 have sv3:PV O3 (N+2) N1 _ s1:=sv1.keep (fun j _ hj=>f3 j (by omega)) (Nat.le_refl _) (Nat.le_refl _)
 have fr3:∀ j,j<N→j≠r→O3.get j=O.get j:=fun j hj hjr=>(f3 j (by omega)).trans (f1 j hj hjr)
 have hfl:=List.length_filter_le (fun q:Int × Int=>!(q.1==k)) xs
 have lx:za ⟨O1,N1,G⟩ N 0 0 2=some [.int .i64 x.1,.int .i64 x.2]∧True:=⟨hx.loads 0 2 _ _ (Nat.le_of_ble_eq_true rfl),trivial⟩
 have lc:=hr3.load 0 (N1+1) G (Nat.le_of_ble_eq_true rfl)
 have lp:=hr3.load 1 (N1+1) G (Nat.le_of_ble_eq_true rfl)
 have ln:=sv3.len pS (N1+1) G
 have up:∀ {zs:List (Int × Int)} {O4:T AObj} {N4:Nat} {s4:AV},N≤N4→PV O4 (N1+1) N4 zs s4→PV O4 N N4 zs s4:=fun h hh=>hh.same (fun _=>rfl) (by omega) (Nat.le_refl _)
 rcases hb with ⟨rfl,hxk,hxm⟩ | ⟨rfl,rfl,hno⟩
 · have hlt:=zjg hxm hxk
   have hput:zbX cap k v xs=(k,v)::xs.filter (fun q:Int × Int=>!(q.1==k)):=by
    unfold zbX
    rw [if_neg (by omega),List.take_of_length_le (by omega)]
   refine (Obl.goal mix (K:=Goal P keep f0 Q) (fun _ h=>h) (cast (q_rqn Q keep f0 rest r N k v x.1 x.2 true td N1 O1 O2 O3 G (Goal P keep f0 Q)).symm ⟨lx,e2,e3,rfl,rfl,?_⟩))
   refine zad hr3 (by omega) (sv3.keep (fun _ _ _=>rfl) (Nat.le_refl _) (Nat.le_succ _)) (by omega) fun O4 N4 s4 td4 r4 p4 f4 h4=>?_
   exact (Obl.goal mix (K:=Goal P keep f0 Q) (fun _ h=>h) (cast (zkN Q keep f0 rest r k v x.1 x.2 true td4 N4 O4 N1 G (Goal P keep f0 Q)).symm (hK O4 N4 s4 _ r4 (by rw [hput]; exact up (by omega) p4) (fun j hj hjr=>(f4 j (by omega) hjr).trans (fr3 j hj hjr)) (by omega))))
 · have hfe:=zeH hno
   rw [hfe] at sv3 hfl ln
   by_cases hz:cap=0
   · subst hz
     obtain rfl:xs=[]:=List.eq_nil_of_length_eq_zero (by omega)
     exact (Obl.goal mix (K:=Goal P keep f0 Q) (fun _ h=>h) (cast (zlg Q keep f0 rest r N k v 0 0 false ((0:Nat):Int) td N1 O1 O2 O3 G (Goal P keep f0 Q)).symm ⟨lx,e2,e3,rfl,lc,rfl,hK O3 (N1+1) s1 _ hr3 (sv3.same (fun _=>rfl) (by omega) (by omega)) fr3 (by omega)⟩))
   have hcz:(((cap:Nat):Int)==(0:Int))=false:=by rw [beq_eq_false_iff_ne]; omega
   have hput:zbX cap k v xs=(k,v)::xs.take (cap - 1):=by
    unfold zbX
    rw [if_neg hz,hfe]
   by_cases hful:xs.length<cap
   · refine (Obl.goal mix (K:=Goal P keep f0 Q) (fun _ h=>h) (cast (zkR Q keep f0 rest r N k v 0 0 false ((cap:Nat):Int) s1 td N1 O1 O2 O3 ((xs.length:Nat):Int) G (Goal P keep f0 Q)).symm ⟨lx,e2,e3,rfl,lc,hcz,rfl,lp,ln,lc,decide_eq_false (by omega),?_⟩))
     refine zad hr3 (by omega) (sv3.keep (fun _ _ _=>rfl) (Nat.le_refl _) (Nat.le_succ _)) (by omega) fun O4 N4 s4 td4 r4 p4 f4 h4=>?_
     exact (Obl.goal mix (K:=Goal P keep f0 Q) (fun _ h=>h) (cast (zhQ Q keep f0 rest r k v 0 0 false ((cap:Nat):Int) s1 td4 N4 O4 N1 ((xs.length:Nat):Int) G (Goal P keep f0 Q)).symm (hK O4 N4 s4 _ r4 (by rw [hput,List.take_of_length_le (by omega)]; exact up (by omega) p4) (fun j hj hjr=>(f4 j (by omega) hjr).trans (fr3 j hj hjr)) (by omega))))
   · have wk:IntKind.i64.wrap (((cap:Nat):Int) - (1:Int))=((cap - 1:Nat):Int):=by rw [IntKind.wrap_i64]; omega
     obtain ⟨s5,e5,sv5,hn5,hn6⟩:=sv3.sub pS pE (a:=0) (b:=cap - 1) (by omega) (by omega) none (some (((cap - 1:Nat):Nat):Int)) (.inr ⟨rfl,rfl⟩) (.inl rfl) (N1+1) G
     rw [List.drop_zero,Nat.sub_zero] at sv5
     obtain ⟨O4,s4,r4,f4⟩:=hr3.store 1 [s5] (N1+1) G (Nat.le_of_ble_eq_true rfl) (by rw [List.all_cons,sv5.one]; rfl)
     have sv4:PV O4 (N+2) (N1+1) (xs.take (cap - 1)) s5:=sv5.same (fun hn=>f4 _ (by have:=sv5.sid_lt hn; omega)) (Nat.le_refl _) (Nat.le_succ _)
     refine (Obl.goal mix (K:=Goal P keep f0 Q) (fun _ h=>h) (cast (zkq Q keep f0 rest r N k v 0 0 false ((cap:Nat):Int) s1 td N1 O1 O2 O3 O4 s5 ((xs.length:Nat):Int) G (Goal P keep f0 Q)).symm ⟨lx,e2,e3,rfl,lc,hcz,rfl,lp,ln,lc,decide_eq_true (by omega),lp,lc,by rw [wk]; exact e5,st1 sv5.cells s4,?_⟩))
     refine zad r4 (by omega) sv4 (by rw [List.length_take]; omega) fun O5 N5 s6 td4 r5 p5 f5 h5=>?_
     exact (Obl.goal mix (K:=Goal P keep f0 Q) (fun _ h=>h) (cast (zgR Q keep f0 rest r k v 0 0 false ((cap:Nat):Int) s1 td4 N5 O5 N1 s5 ((xs.length:Nat):Int) G (Goal P keep f0 Q)).symm (hK O5 N5 s6 _ r5 (by rw [hput]; exact up (by omega) p5) (fun j hj hjr=>(f5 j (by omega) hjr).trans ((f4 j hjr).trans (fr3 j hj hjr))) (by omega))))
theorem zhz (hr:Obj O r [.int .i64 cap,ps])(hrN:r<N){lo:Nat}(hps:PV O lo N xs ps)(hlen:xs.length<500000000)(hnd:(xs.map (·.1)).Nodup){keep:Nat}{f0:FuncId}{Q:AV→AHeap→Prop}{rest:List AFrame}
 (hK:∀ (O':T AObj) (N':Nat) (s':AV) (td:List AItem) (b:Bool) (x:Int × Int),Obj O' r [.int .i64 cap,s']→PV O' N N' (zde k xs) s'→(∀ j,j<N→j≠r→O'.get j=O.get j)→N≤N'→TB k b x xs→Goal P keep f0 Q (AM.mk (RF 13 21 (.node (.node .leaf none (.node .leaf (some (.bool b)) .leaf)) none (.node (.node .leaf (some (.int .i64 x.2)) .leaf) none .leaf)) td) rest ⟨O',N',G⟩)) :
 Goal P keep f0 Q (AM.mk (enF 13 [.ptr r 0 0,.int .i64 k]) rest ⟨O,N,G⟩):=by
 refine (Obl.goal mix (K:=Goal P keep f0 Q) (fun _ h=>h) (cast (q_rg Q keep f0 rest r k N O G (Goal P keep f0 Q)).symm ?_))
 refine zh1 hr hrN hps hlen fun O1 N1 s1 td b x r1 g1 f1 h1 hx hb=>?_
 obtain ⟨O2,O3,e2,e3,b3,f3⟩:=zjj x O1 N1 G
 have hr3:=r1.fr f3 (by omega)
 have sv1:=g1.sv pE
 have sv3:PV O3 (N+2) N1 _ s1:=sv1.keep (fun j _ hj=>f3 j (by omega)) (Nat.le_refl _) (Nat.le_refl _)
 have fr3:∀ j,j<N→j≠r→O3.get j=O.get j:=fun j hj hjr=>(f3 j (by omega)).trans (f1 j hj hjr)
 have hfl:=List.length_filter_le (fun q:Int × Int=>!(q.1==k)) xs
 have lx:za ⟨O1,N1,G⟩ N 0 0 2=some [.int .i64 x.1,.int .i64 x.2]∧True:=⟨hx.loads 0 2 _ _ (Nat.le_of_ble_eq_true rfl),trivial⟩
 have hb0:=hb
 rcases hb with ⟨rfl,hxk,hxm⟩ | ⟨rfl,rfl,hno⟩
 · refine (Obl.goal mix (K:=Goal P keep f0 Q) (fun _ h=>h) (cast (q_rhy Q keep f0 rest r N k x.1 x.2 true td N1 O1 O2 O3 G (Goal P keep f0 Q)).symm ⟨lx,e2,e3,rfl,b3.loads 0 2 _ _ (Nat.le_of_ble_eq_true rfl),?_⟩))
   refine zad hr3 (by omega) (sv3.keep (fun _ _ _=>rfl) (Nat.le_refl _) (Nat.le_succ _)) (by omega) fun O4 N4 s4 td4 r4 p4 f4 h4=>?_
   exact (Obl.goal mix (K:=Goal P keep f0 Q) (fun _ h=>h) (cast (zkJ Q keep f0 rest r k x.1 x.2 true td4 N4 O4 N1 G (Goal P keep f0 Q)).symm ⟨(b3.same (f4 N1 (by omega) (by omega))).load 1 _ _ (Nat.le_of_ble_eq_true rfl),hK O4 N4 s4 _ true x r4 (by rw [zck hxm hxk hnd]; exact p4.same (fun _=>rfl) (by omega) (Nat.le_refl _)) (fun j hj hjr=>(f4 j (by omega) hjr).trans (fr3 j hj hjr)) (by omega) hb0⟩))
 · exact (Obl.goal mix (K:=Goal P keep f0 Q) (fun _ h=>h) (cast (q_rhn Q keep f0 rest r N k 0 0 false td N1 O1 O2 O3 G (Goal P keep f0 Q)).symm ⟨lx,e2,e3,rfl,b3.load 1 _ _ (Nat.le_of_ble_eq_true rfl),hK O3 (N1+1) s1 _ false (0,0) hr3 (by unfold zde; rw [zdz hno,List.nil_append]; exact sv3.same (fun _=>rfl) (by omega) (by omega)) fr3 (by omega) hb0⟩))
end Go.Proofs.Ytjddelgojkgnaaa.gx
end
