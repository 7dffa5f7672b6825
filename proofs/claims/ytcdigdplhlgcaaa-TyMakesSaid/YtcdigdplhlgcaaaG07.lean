import Derived.Test.YtcdigdplhlgcaaaG00
import Derived.Test.YtcdigdplhlgcaaaG01
import Derived.Test.YtcdigdplhlgcaaaG02
import Derived.Test.YtcdigdplhlgcaaaG03
import Derived.Test.YtcdigdplhlgcaaaG04
import Derived.Test.YtcdigdplhlgcaaaG05
import Derived.Test.YtcdigdplhlgcaaaG06
section
set_option maxRecDepth 100000
set_option linter.unusedVariables false
set_option linter.unusedSimpArgs false
namespace Go.Proofs.Ytcdigdplhlgcaaa.tp
open Go
theorem kX:∀ (x:ze),Op.bytesLess x x=false
 | []=>rfl
 | a::x=>by
  show (decide (a<a) || (a==a&&Op.bytesLess x x))=false;rw [kX x,Bool.and_false,Bool.or_false];exact decide_eq_false (by simp)
theorem ve:∀ {x y z:ze},Op.bytesLess x y=true→Op.bytesLess y z=true→Op.bytesLess x z=true
 | x,[],_,h,_=>by
  rw [show Op.bytesLess x []=false from by cases x <;> rfl] at h
  cases h
 | _,_::_,[],_,h=>by cases h
 | [],_::_,_::_,_,_=>rfl
 | a::x,b::y,c::z,h,g=>by
  have h1:(decide (a<b) || (a==b&&Op.bytesLess x y))=true:=h;have g1:(decide (b<c) || (b==c&&Op.bytesLess y z))=true:=g;show (decide (a<c) || (a==c&&Op.bytesLess x z))=true;simp only [Bool.or_eq_true,Bool.and_eq_true,decide_eq_true_eq,beq_iff_eq] at h1 g1 ⊢;rcases h1 with h2 | ⟨e1,h2⟩
  ·rcases g1 with g2 | ⟨e2,g2⟩
   ·exact .inl (UInt8.lt_trans h2 g2)
   ·exact .inl (e2▸h2)
  ·rcases g1 with g2 | ⟨e2,g2⟩
   ·exact .inl (e1▸g2)
   ·exact .inr ⟨e1.trans e2,ve h2 g2⟩
theorem vY {x y:ze}(h:Op.bytesLess x y=true):Op.bytesLess y x=false:=by
 cases e:Op.bytesLess y x with
 | false=>rfl
 | true =>
  have:=ve h e;rw [kX] at this;cases this
theorem zjb:∀ {x y:ze},Op.bytesLess x y=false→Op.bytesLess y x=false→x=y
 | [],[],_,_=>rfl
 | [],_::_,h,_=>by cases h
 | _::_,[],_,h=>by cases h
 | a::x,b::y,h,g=>by
  have h1:(decide (a<b) || (a==b&&Op.bytesLess x y))=false:=h;have g1:(decide (b<a) || (b==a&&Op.bytesLess y x))=false:=g;simp only [Bool.or_eq_false_iff,decide_eq_false_iff_not,Bool.and_eq_false_iff,beq_eq_false_iff_ne] at h1 g1;have hab:a=b:=UInt8.le_antisymm (UInt8.not_lt.1 g1.1) (UInt8.not_lt.1 h1.1);rw [hab,zjb (h1.2.resolve_left (fun e=>e hab)) (g1.2.resolve_left (fun e=>e hab.symm))]
theorem ziJ {x a y:ze}(h:Op.bytesLess x a=true)(g:Op.bytesLess y a=false):Op.bytesLess x y=true:=by
 cases e:Op.bytesLess a y with
 | true=>exact ve h e
 | false=>rw [zjb g e]; exact h
def Srt {α:Type} (f:α→ze) (l:List α):Prop:=l.Pairwise fun x y=>Op.bytesLess (f y) (f x)=false
section
variable {α:Type} {f:α→ze}
theorem Srt.nil:Srt f ([]:List α):=List.Pairwise.nil
theorem Srt.left {l m:List α}(h:Srt f (l++m)):Srt f l:=(List.pairwise_append.1 h).1
theorem zkT {p q:List α}{x:α}(h:Srt f (p++q))(hq:∀ z∈q,Op.bytesLess (f x) (f z)=true)(hp:∀ z∈p,Op.bytesLess (f x) (f z)=false):Srt f (p++x::q):=by
 obtain ⟨h1,h2,h3⟩:=List.pairwise_append.1 h;refine List.pairwise_append.2 ⟨h1,List.pairwise_cons.2 ⟨fun z hz=>vY (hq z hz),h2⟩,fun a ha b hb=>?_⟩;rcases List.mem_cons.1 hb with rfl | hb
 ·exact hp a ha
 ·exact h3 a ha b hb
theorem zpQ {p:List α}{y x:α}(h:Srt f (p++[y]))(hx:Op.bytesLess (f x) (f y)=false):∀ z∈p++[y],Op.bytesLess (f x) (f z)=false:=by
 intro z hz;rcases List.mem_append.1 hz with hz | hz
 ·have h3:=(List.pairwise_append.1 h).2.2 z hz y (List.mem_singleton.2 rfl);cases e:Op.bytesLess (f x) (f z) with
  | false=>rfl
  | true=>rw [ziJ e h3] at hx; cases hx
 ·rw [List.mem_singleton.1 hz]; exact hx
theorem zlJ:∀ {l m:List α},l.Perm m→Srt f l→Srt f m→(∀ x∈l,∀ y∈l,f x=f y→x=y)→l=m
 | [],m,h,_,_,_=>(List.nil_perm.1 h).symm
 | x::l,[],h,_,_,_=>by cases (List.perm_nil.1 h)
 | x::l,y::m,h,hl,hm,hi=>by
  obtain ⟨h1,h2⟩:=List.pairwise_cons.1 hl;obtain ⟨g1,g2⟩:=List.pairwise_cons.1 hm;have hxy:x=y:=by
   have hy:y∈x::l:=h.mem_iff.2 (List.mem_cons_self ..);have hx:x∈y::m:=h.mem_iff.1 (List.mem_cons_self ..);rcases List.mem_cons.1 hy with rfl | hy
   ·rfl
   rcases List.mem_cons.1 hx with rfl | hx
   ·rfl
   exact hi x (List.mem_cons_self ..) y (List.mem_cons_of_mem _ hy) (zjb (g1 x hx) (h1 y hy))
  subst hxy;rw [zlJ (List.Perm.cons_inv h) h2 g2 (fun a ha b hb=>hi a (List.mem_cons_of_mem _ ha) b (List.mem_cons_of_mem _ hb))]
end
end Go.Proofs.Ytcdigdplhlgcaaa.tp
end
section
set_option maxRecDepth 100000
set_option linter.unusedVariables false
set_option linter.unusedSimpArgs false
namespace Go.Proofs.Ytcdigdplhlgcaaa.tp
open Go
def Up (l:List ze):Prop:=l.Pairwise fun x y=>Op.bytesLess x y=true
theorem Up.nodup {l:List ze}(h:Up l):l.Nodup:=h.imp fun {a b} h e=>by rw [e,kX] at h; cases h
theorem zmt:∀ {l:List ze},qL l=true→Up l
 | [],_=>List.Pairwise.nil
 | [a],_=>List.pairwise_singleton ..
 | a::b::l,h=>by
  have h:(Op.bytesLess a b&&qL (b::l))=true:=h;rw [Bool.and_eq_true] at h;have ih:=zmt h.2;refine List.pairwise_cons.2 ⟨fun z hz=>?_,ih⟩;rcases List.mem_cons.1 hz with rfl | hz
  ·exact h.1
  ·exact ve h.1 ((List.pairwise_cons.1 ih).1 z hz)
theorem za5:∀ {l:List ze},Srt (fun x=>x) l→l.Nodup→qL l=true
 | [],_,_=>rfl
 | [a],_,_=>rfl
 | a::b::l,h,n=>by
  obtain ⟨h1,h2⟩:=List.pairwise_cons.1 h;obtain ⟨n1,n2⟩:=List.nodup_cons.1 n;show (Op.bytesLess a b&&qL (b::l))=true;rw [za5 h2 n2,Bool.and_true];cases e:Op.bytesLess a b with
  | true=>rfl
  | false=>exact absurd (zjb e (h1 b (List.mem_cons_self ..))▸List.mem_cons_self ..) n1
theorem ins_perm {α:Type}{a:Nat}{v:α}{l:List α}:(ins a v l).Perm (v::l):=by
 have h:=(List.perm_middle (a:=v) (l₁:=l.take a) (l₂:=l.drop a));rw [List.take_append_drop] at h;exact h
theorem zpN {α β:Type}{a:Nat}{v:α}{w:β}{l:List α}{m:List β}(h:l.length=m.length):(ins a v l).zip (ins a w m)=ins a (v,w) (l.zip m):=by
 unfold ins;rw [List.zip_append (by rw [List.length_take,List.length_take,h]),List.zip_cons_cons];simp only [List.zip_eq_zipWith,List.take_zipWith,List.drop_zipWith]
theorem zpf {xs:List ze}{n:ze}(h:Up xs)(hn:xs[wn (fun x=>Op.bytesLess x n) xs]?≠some n):Up (ins (wn (fun x=>Op.bytesLess x n) xs) n xs):=by
 have h1:xs.take (wn (fun x=>Op.bytesLess x n) xs)=xs.takeWhile (fun x=>Op.bytesLess x n):=by
  unfold wn;have e:=List.takeWhile_append_dropWhile (p:=fun x=>Op.bytesLess x n) (l:=xs)
  conv=>lhs; rhs; rw [← e]
  exact List.take_left ..
 have h2:xs.drop (wn (fun x=>Op.bytesLess x n) xs)=xs.dropWhile (fun x=>Op.bytesLess x n):=by
  unfold wn;have e:=List.takeWhile_append_dropWhile (p:=fun x=>Op.bytesLess x n) (l:=xs)
  conv=>lhs; rhs; rw [← e]
  exact List.drop_left ..
 have hd:∀ y l,xs.drop (wn (fun x=>Op.bytesLess x n) xs)=y::l→Op.bytesLess n y=true:=by
  intro y l e;have hy:xs[wn (fun x=>Op.bytesLess x n) xs]?=some y:=by
   have:=congrArg (fun l=>l[0]?) e;simpa using this
  have hf:Op.bytesLess y n=false:=by
   rw [h2] at e;have hne:xs.dropWhile (fun x=>Op.bytesLess x n)≠[]:=by rw [e]; exact fun h=>by cases h
   have:=List.head_dropWhile_not (fun x=>Op.bytesLess x n) (l:=xs) hne;simp only [e,List.head_cons] at this;exact this
  cases g:Op.bytesLess n y with
  | true=>rfl
  | false=>exact absurd (hy.trans (by rw [zjb hf g])) hn
 have hs:Up (xs.take (wn (fun x=>Op.bytesLess x n) xs)++xs.drop (wn (fun x=>Op.bytesLess x n) xs)):=by rw [List.take_append_drop]; exact h
 obtain ⟨g1,g2,g3⟩:=List.pairwise_append.1 hs;unfold ins;have below:∀ z∈xs.take (wn (fun x=>Op.bytesLess x n) xs),Op.bytesLess z n=true:=by
  intro z hz;rw [h1] at hz;exact List.all_eq_true.1 (List.all_takeWhile (p:=fun x=>Op.bytesLess x n) (l:=xs)) z hz
 have above:∀ z∈xs.drop (wn (fun x=>Op.bytesLess x n) xs),Op.bytesLess n z=true:=by
  intro z hz;cases e:xs.drop (wn (fun x=>Op.bytesLess x n) xs) with
  | nil=>rw [e] at hz; cases hz
  | cons y l =>
   have hy:=hd y l e;rw [e] at hz g2;rcases List.mem_cons.1 hz with rfl | hz
   ·exact hy
   ·exact ve hy ((List.pairwise_cons.1 g2).1 z hz)
 refine List.pairwise_append.2 ⟨g1,List.pairwise_cons.2 ⟨above,g2⟩,fun a ha b hb=>?_⟩;rcases List.mem_cons.1 hb with rfl | hb
 ·exact below a ha
 ·exact g3 a ha b hb
theorem wK:∀ {ns:List ze} {ts:List Ty} {xs:List ze} {us:List Ty} {ys:List ze} {vs:List Ty},ns.length=ts.length→xs.length=us.length→Up xs→zh3 ns ts xs us=some (ys,vs) →
 Up ys∧ys.length=vs.length∧(ys.zip vs).Perm (ns.zip ts++xs.zip us)
 | [],[],xs,us,ys,vs,_,hl,hu,h=>by
  obtain ⟨rfl,rfl⟩:xs=ys∧us=vs:=Prod.mk.inj (Option.some.inj (recS_nil.symm.trans h));exact ⟨hu,hl,List.Perm.refl _⟩
 | [],t::ts,xs,us,ys,vs,hn,_,_,_=>by cases hn
 | n::ns,[],xs,us,ys,vs,hn,_,_,_=>by cases hn
 | n::ns,t::ts,xs,us,ys,vs,hn,hl,hu,h=>by
  rw [kF] at h;split at h
  ·split at h
   ·cases h
   ·rename_i hf hd;obtain ⟨h1,h2,h3⟩:=wK (by simpa using hn) (by rw [qh zb9,qh (hl▸zb9),hl]) (zpf hu hd) h
    refine ⟨h1,h2,h3.trans ?_⟩;rw [zpN hl,List.zip_cons_cons,List.cons_append];exact (List.Perm.append_left _ ins_perm).trans List.perm_middle
  ·cases h
theorem zfe:∀ {ns:List ze} {ts:List Ty} {xs:List ze} {us:List Ty},ns.length=ts.length→zh3 ns ts xs us=none→(∀ n∈ns,zh n=true)→¬ (ns++xs).Nodup
 | [],[],xs,us,_,h,_=>by rw [recS_nil] at h; cases h
 | [],t::ts,xs,us,hn,_,_=>by cases hn
 | n::ns,[],xs,us,hn,_,_=>by cases hn
 | n::ns,t::ts,xs,us,hn,h,hf=>by
  rw [kF,if_pos (hf n (List.mem_cons_self ..))] at h;split at h
  ·rename_i hd;intro hnd;exact (List.nodup_cons.1 hnd).1 (List.mem_append.2 (.inr (List.mem_of_getElem? hd)))
  ·intro hnd;refine zfe (by simpa using hn) h (fun z hz=>hf z (List.mem_cons_of_mem _ hz)) ?_
   refine (List.Perm.nodup_iff ?_).1 hnd;exact (List.perm_middle.symm.trans (List.Perm.append_left _ ins_perm.symm))
theorem zdC:∀ {ns:List ze} {ts:List Ty} {xs:List ze} {us:List Ty},ns.length=ts.length→ns.any (fun s=>!zh s)=true→zh3 ns ts xs us=none
 | [],ts,xs,us,_,h=>by cases h
 | n::ns,[],xs,us,hn,_=>by cases hn
 | n::ns,t::ts,xs,us,hn,h=>by
  rw [kF];cases hf:zh n with
  | false=>rfl
  | true =>
   rw [if_pos rfl];split
   ·rfl
   ·rw [List.any_cons,hf] at h;exact zdC (by simpa using hn) h
end Go.Proofs.Ytcdigdplhlgcaaa.tp
end
section
set_option maxRecDepth 100000
set_option linter.unusedVariables false
set_option linter.unusedSimpArgs false
namespace Go.Proofs.Ytcdigdplhlgcaaa.tp
open Go
theorem kJ {α β:Type}{f:α→β}:∀ {l:List α},(l.map f).Nodup→∀ x∈l,∀ y∈l,f x=f y→x=y
 | [],_,x,hx,_,_,_=>by cases hx
 | a::l,h,x,hx,y,hy,e=>by
  obtain ⟨h1,h2⟩:=List.nodup_cons.1 h;rcases List.mem_cons.1 hx with hx | hx
  ·rcases List.mem_cons.1 hy with hy | hy
   ·rw [hx,hy]
   ·exact absurd (List.mem_map.2 ⟨y,hy,by rw [← e,hx]⟩) h1
  ·rcases List.mem_cons.1 hy with hy | hy
   ·exact absurd (List.mem_map.2 ⟨x,hx,by rw [e,hy]⟩) h1
   ·exact kJ h2 x hx y hy e
theorem zbW {α:Type}{l:List α}{d:α}:(List.range l.length).map (fun k=>l.getD k d)=l:=by
 refine List.ext_getElem? fun i=>?_;rw [List.getElem?_map]
 by_cases h:i<l.length
 ·rw [List.getElem?_eq_getElem (by rw [List.length_range]; exact h),List.getElem_range,List.getElem?_eq_getElem h,Option.map_some,List.getD_eq_getElem?_getD,List.getElem?_eq_getElem h];rfl
 ·rw [List.getElem?_eq_none (by rw [List.length_range]; omega),List.getElem?_eq_none (by omega)];rfl
theorem zej {α β γ:Type}{f:α→β}{g:α→γ}:∀ {l:List α},(l.map f).zip (l.map g)=l.map fun k=>(f k,g k)
 | []=>rfl
 | a::l=>by rw [List.map_cons,List.map_cons,List.map_cons,List.zip_cons_cons,zej]
theorem yn {α β:Type}:∀ {l:List α} {m:List β},l.length=m.length→(l.zip m).map Prod.fst=l
 | [],[],_=>rfl
 | [],_::_,h=>by cases h
 | _::_,[],h=>by cases h
 | a::l,b::m,h=>by rw [List.zip_cons_cons,List.map_cons,yn (by simpa using h)]
theorem qE {α β:Type}:∀ {l:List α} {m:List β},l.length=m.length→(l.zip m).map Prod.snd=m
 | [],[],_=>rfl
 | [],_::_,h=>by cases h
 | _::_,[],h=>by cases h
 | a::l,b::m,h=>by rw [List.zip_cons_cons,List.map_cons,qE (by simpa using h)]
theorem zhg {α:Type}{f:α→ze}{l:List α}:Srt (fun x=>x) (l.map f) ↔ Srt f l:=List.pairwise_map
theorem Up.srt {l:List ze}(h:Up l):Srt (fun x=>x) l:=h.imp fun {a b} h=>vY h
theorem ztJ {ns:List ze}{ts:List Ty}{ks:List Nat}(hl:ns.length=ts.length)(hc:ts.all (fun x=>chk x==0)=true)(hf:ns.any (fun s=>!zh s)=false)(hp:ks.Perm (List.range ns.length))(hs:Srt (fun k=>ns.getD k []) ks) :
 y0 ns ts=if qL (ks.map fun k=>ns.getD k [])=true then kv (.mk 7 [] (ks.map fun k=>ns.getD k []) (ks.map fun k=>ts.getD k .no) .no) else (2,.no):=by
 unfold y0;rw [if_pos ⟨hl,hc⟩];have px:(ks.map fun k=>ns.getD k []).Perm ns:=by
  have:=hp.map (fun k=>ns.getD k []);rw [zbW] at this;exact this
 have pz:((ks.map fun k=>ns.getD k []).zip (ks.map fun k=>ts.getD k .no)).Perm (ns.zip ts):=by
  have:=hp.map (fun k=>(ns.getD k [],ts.getD k .no));rw [← zej,← zej,zbW,hl,zbW] at this;exact this
 have hlen:(ks.map fun k=>ns.getD k []).length=(ks.map fun k=>ts.getD k .no).length:=by rw [List.length_map,List.length_map]
 have hsx:=zhg.2 hs;cases hr:qL (ks.map fun k=>ns.getD k []) with
 | true =>
  rw [if_pos rfl];have hup:=zmt hr;have hnd:ns.Nodup:=px.nodup_iff.1 hup.nodup;cases h:zh3 ns ts [] [] with
  | none =>
   refine absurd ?_ (zfe hl h (fun n hn=>?_))
   ·rw [List.append_nil]; exact hnd
   ·have:=List.any_eq_false.1 hf n hn;simpa using this
  | some r =>
   obtain ⟨ys,vs⟩:=r;obtain ⟨h1,h2,h3⟩:=wK hl rfl List.Pairwise.nil h;rw [List.zip_nil_left,List.append_nil] at h3;have e:ys.zip vs=(ks.map fun k=>ns.getD k []).zip (ks.map fun k=>ts.getD k .no):=by
    refine zlJ (f:=Prod.fst) (h3.trans pz.symm) (zhg.1 ?_) (zhg.1 ?_) (kJ ?_)
    ·rw [yn h2]; exact h1.srt
    ·rw [yn hlen]; exact hsx
    ·rw [yn h2]; exact h1.nodup
   have e1:=congrArg (List.map Prod.fst) e;have e2:=congrArg (List.map Prod.snd) e;rw [yn h2,yn hlen] at e1;rw [qE h2,qE hlen] at e2;rw [e1,e2]
 | false =>
  rw [if_neg (by simp)];cases h:zh3 ns ts [] [] with
  | none=>rfl
  | some r =>
   obtain ⟨ys,vs⟩:=r;obtain ⟨h1,h2,h3⟩:=wK hl rfl List.Pairwise.nil h;rw [List.zip_nil_left,List.append_nil] at h3;have py:ys.Perm ns:=by
    have:=h3.map Prod.fst;rw [yn h2,yn hl] at this;exact this
   have:=za5 hsx ((px.trans py.symm).nodup_iff.2 h1.nodup);rw [hr] at this;cases this
theorem jm {ns:List ze}{ts:List Ty}(h:ns.length≠ts.length∨ns.any (fun s=>!zh s)=true∨ts.any (fun x=>!(chk x==0))=true):y0 ns ts=(2,.no):=by
 unfold y0
 by_cases hc:ns.length=ts.length∧ts.all (fun x=>chk x==0)=true
 ·rw [if_pos hc];rcases h with h | h | h
  ·exact absurd hc.1 h
  ·rw [zdC hc.1 h]
  ·rw [List.not_all_eq_any_not.symm,hc.2] at h;cases h
 ·rw [if_neg hc]
end Go.Proofs.Ytcdigdplhlgcaaa.tp
end
section
set_option maxRecDepth 100000
set_option linter.unusedVariables false
set_option linter.unusedSimpArgs false
namespace Go.Proofs.Ytcdigdplhlgcaaa.tp
open Go
mutual
def nmT:Ty→Bool
 | .no=>true
 | .mk k nm _ aas r=>(!(k==6) || nm.contains 46)&&nmL aas&&nmT r
def nmL:List Ty→Bool
 | []=>true
 | x::l=>nmT x&&nmL l
end
theorem zg8:∀ l,nmL l=l.all nmT
 | []=>by simp only [nmL,List.all_nil]
 | x::l=>by simp only [nmL,List.all_cons,zg8 l]
theorem zio {k nm ns aas r}(h:nmT (.mk k nm ns aas r)=true):(k=6→nm.contains 46=true)∧(∀ x∈aas,nmT x=true)∧nmT r=true:=by
 simp only [nmT,zg8,Bool.and_eq_true,Bool.or_eq_true,Bool.not_eq_true',beq_eq_false_iff_ne,List.all_eq_true] at h;exact ⟨fun e=>h.1.1.resolve_left fun g=>g e,h.1.2,h.2⟩
theorem zmo {k nm ns aas r}(h1:k=6→nm.contains 46=true)(h2:∀ x∈aas,nmT x=true)(h3:nmT r=true):nmT (.mk k nm ns aas r)=true:=by
 simp only [nmT,zg8,Bool.and_eq_true,Bool.or_eq_true,Bool.not_eq_true',beq_eq_false_iff_ne,List.all_eq_true];refine ⟨⟨?_,h2⟩,h3⟩
 by_cases h:k=6
 ·exact .inr (h1 h)
 ·exact .inl h
theorem vu {p:UInt8→Bool}:∀ {w w' s s':ze},(∀ c∈w,p c=true)→(∀ c∈w',p c=true)→(∀ c r,s=c::r→p c=false)→(∀ c r,s'=c::r→p c=false)→w++s=w'++s'→w=w'∧s=s'
 | [],[],s,s',_,_,_,_,e=>⟨rfl,e⟩
 | [],c::w',s,s',_,hw',hs,_,e=>by
  have:=hs c (w'++s') e;rw [hw' c (List.mem_cons_self ..)] at this;cases this
 | c::w,[],s,s',hw,_,_,hs',e=>by
  have:=hs' c (w++s) e.symm;rw [hw c (List.mem_cons_self ..)] at this;cases this
 | c::w,d::w',s,s',hw,hw',hs,hs',e=>by
  rw [List.cons_append,List.cons_append] at e;obtain ⟨e1,e2⟩:=List.cons.inj e;obtain ⟨r1,r2⟩:=vu (fun c h=>hw c (List.mem_cons_of_mem _ h)) (fun c h=>hw' c (List.mem_cons_of_mem _ h)) hs hs' e2;exact ⟨by rw [e1,r1],r2⟩
def jt (sep:ze) (l:List ze):ze:=(l.map fun s=>sep++s).flatten
theorem zow {sep:ze}:jt sep []=[]:=rfl
theorem wN {sep s:ze}{l:List ze}:jt sep (s::l)=sep++(s++jt sep l):=by unfold jt; rw [List.map_cons,List.flatten_cons,List.append_assoc]
theorem zf3 {sep:ze}:∀ {l:List ze} {i:Nat},zD sep (i+1) l=jt sep l
 | [],_=>rfl
 | s::l,i=>by
  rw [wN];show (if i+1=0 then [] else sep)++s++zD sep (i+1+1) l=_
  rw [if_neg (by omega),zf3,List.append_assoc]
theorem yB {sep s:ze}{l:List ze}:zD sep 0 (s::l)=s++jt sep l:=by
 show (if 0=0 then [] else sep)++s++zD sep (0+1) l=_
 rw [if_pos rfl,zf3,List.nil_append]
section rows
variable {α:Type} {g:α→ze} {c0:UInt8} {sp:ze} {St E:ze→Prop}
theorem zpa (hSt:∀ r,St (c0::r))(hE:∀ r,¬ E (c0::r))(hES:∀ s,E s→St s):∀ {l m:List α} {s s':ze},(∀ x∈l,∀ y∈m,∀ s s',St s→St s'→g x++s=g y++s'→x=y∧s=s')→E s→E s' →
 jt (c0::sp) (l.map g)++s=jt (c0::sp) (m.map g)++s'→l=m∧s=s'
 | [],[],s,s',_,_,_,e=>⟨rfl,e⟩
 | [],y::m,s,s',_,hs,_,e=>by
  rw [List.map_cons,wN,List.map_nil,zow,List.nil_append,List.cons_append,List.cons_append] at e;rw [e] at hs;exact absurd hs (hE _)
 | x::l,[],s,s',_,_,hs,e=>by
  rw [List.map_cons,wN,List.map_nil,zow,List.nil_append,List.cons_append,List.cons_append] at e;rw [← e] at hs;exact absurd hs (hE _)
 | x::l,y::m,s,s',hx,hs,hs',e=>by
  rw [List.map_cons,wN,List.map_cons,wN,List.append_assoc,List.append_assoc,List.append_assoc,List.append_assoc] at e;have e:=List.append_cancel_left e;have st:∀ {l:List α} {s:ze},E s→St (jt (c0::sp) (l.map g)++s):=fun {l s} h=>by
   cases l with
   | nil=>exact hES _ h
   | cons z l =>
    rw [List.map_cons,wN,List.cons_append,List.cons_append];exact hSt _
  obtain ⟨r1,r2⟩:=hx x (List.mem_cons_self ..) y (List.mem_cons_self ..) _ _ (st hs) (st hs') e;obtain ⟨r3,r4⟩:=zpa hSt hE hES (fun a ha b hb=>hx a (List.mem_cons_of_mem _ ha) b (List.mem_cons_of_mem _ hb)) hs hs' r2;exact ⟨by rw [r1,r3],r4⟩
theorem zlK (hSt:∀ r,St (c0::r))(hE:∀ r,¬ E (c0::r))(hES:∀ s,E s→St s){l m:List α}{s s':ze}(hx:∀ x∈l,∀ y∈m,∀ s s',St s→St s'→g x++s=g y++s'→x=y∧s=s')(hl:∀ x∈l,∀ r,¬ E (g x++r))(hm:∀ x∈m,∀ r,¬ E (g x++r))(hs:E s)(hs':E s')
 (e:zD (c0::sp) 0 (l.map g)++s=zD (c0::sp) 0 (m.map g)++s'):l=m∧s=s':=by
 have st:∀ {l:List α} {s:ze},E s→St (jt (c0::sp) (l.map g)++s):=fun {l s} h=>by
  cases l with
  | nil=>exact hES _ h
  | cons z l =>
   rw [List.map_cons,wN,List.cons_append,List.cons_append];exact hSt _
 cases l with
 | nil =>
  cases m with
  | nil=>exact ⟨rfl,e⟩
  | cons y m =>
   rw [List.map_cons,yB,List.append_assoc] at e;have e':s=_:=e;rw [e'] at hs;exact absurd hs (hm y (List.mem_cons_self ..) _)
 | cons x l =>
  cases m with
  | nil =>
   rw [List.map_cons,yB,List.append_assoc] at e;have e':_=s':=e;rw [← e'] at hs';exact absurd hs' (hl x (List.mem_cons_self ..) _)
  | cons y m =>
   rw [List.map_cons,yB,List.append_assoc,List.map_cons,yB,List.append_assoc] at e;obtain ⟨r1,r2⟩:=hx x (List.mem_cons_self ..) y (List.mem_cons_self ..) _ _ (st hs) (st hs') e;obtain ⟨r3,r4⟩:=zpa hSt hE hES (fun a ha b hb=>hx a (List.mem_cons_of_mem _ ha) b (List.mem_cons_of_mem _ hb)) hs hs' r2;exact ⟨by rw [r1,r3],r4⟩
end rows
def gR (p:ze × Ty):ze:=p.1++([58,32]++wr p.2)
def gU (x:Ty):ze:=if kd x=8 then [40]++wr x++[41] else wr x
theorem zhi:∀ {ns:List ze} {aas:List Ty},zck ns (wrL aas)=(ns.zip aas).map gR
 | [],_=>by cases ‹List Ty› <;> rfl
 | _::_,[]=>by simp [wrL,zck]
 | n::ns,x::aas=>by
  simp only [wrL,zck,List.zip_cons_cons,List.map_cons,gR];rw [zhi,List.append_assoc]
theorem zic:∀ {aas:List Ty},zch aas (wrL aas)=aas.map gU
 | []=>by simp [wrL,zch]
 | x::aas=>by
  simp only [wrL,zch,List.map_cons,gU];rw [zic]
theorem wrL_m {aas:List Ty}:wrL aas=aas.map wr:=zj8 aas
def isW (w:ze):Prop:=w≠[]∧∀ c∈w,yw (bi c)=true
theorem wV (k:Int):isW (plain k):=by
 unfold plain isW;split
 ·exact ⟨by simp,by decide⟩
 ·split
  ·exact ⟨by simp,by decide⟩
  ·split
   ·exact ⟨by simp,by decide⟩
   ·split
    ·exact ⟨by simp,by decide⟩
    ·exact ⟨by simp,by decide⟩
theorem zfE (k:Int):(plain k).contains 46=false:=by
 unfold plain;split
 ·decide
 ·split
  ·decide
  ·split
   ·decide
   ·split <;> decide
theorem zkR {k k':Int}(h:1≤k∧k≤5)(h':1≤k'∧k'≤5)(e:plain k=plain k'):k=k':=by
 have a:k=1∨k=2∨k=3∨k=4∨k=5:=by omega
 have b:k'=1∨k'=2∨k'=3∨k'=4∨k'=5:=by omega
 rcases a with rfl | rfl | rfl | rfl | rfl <;> rcases b with rfl | rfl | rfl | rfl | rfl <;> first | rfl | exact absurd e (by decide)
theorem shp {t:Ty}(h:okT t=true)(hn:nmT t=true) :
 (∃ k,t=.mk k [] [] [] .no∧(1≤k∧k≤5)∧wr t=plain k) ∨
 (∃ nm,t=.mk 6 nm [] [] .no∧nm.contains 46=true∧isW nm∧wr t=nm) ∨
 (∃ ns aas,t=.mk 7 [] ns aas .no∧ns.length=aas.length∧(∀ n∈ns,zh n=true)∧(∀ x∈aas,okT x=true∧nmT x=true)∧wr t=[123]++(zD [44,32] 0 ((ns.zip aas).map gR)++[125])) ∨
 (∃ aas r,t=.mk 8 [] [] aas r∧(∀ x∈aas,okT x=true∧nmT x=true)∧(okT r=true∧nmT r=true)∧wr t=[102,110,40]++(zD [44,32] 0 (aas.map wr)++([41,32,45,62,32]++wr r))) ∨
 (∃ aas,t=.mk 9 [] [] aas .no∧2≤aas.length∧(∀ x∈aas,(okT x=true∧nmT x=true)∧kd x≠9)∧wr t=zD [32,124,32] 0 (aas.map gU)):=by
 cases t with
 | no=>rw [xX] at h; cases h
 | mk k nm ns aas r =>
  obtain ⟨h1,h2,h3,h4⟩:=xG h;obtain ⟨n1,n2,n3⟩:=zio hn;have hw:=zjZ (k:=k) (nm:=nm) (ns:=ns) (aas:=aas) (r:=r);have hx:∀ x∈aas,okT x=true∧nmT x=true:=fun x hx=>⟨h2 x hx,n2 x hx⟩;have rno:isNo r=true→r=.no:=fun h=>by cases r with
   | no=>rfl
   | mk=>cases h
  unfold own at h1;split at h1
  ·rename_i hk;simp only [Bool.and_eq_true,List.isEmpty_iff] at h1;obtain ⟨⟨⟨rfl,rfl⟩,rfl⟩,hr⟩:=h1;obtain rfl:=rno hr;refine .inl ⟨k,rfl,hk,?_⟩;rw [hw];unfold txt;rw [if_neg (by omega),if_neg (by omega),if_neg (by omega),if_neg (by omega)]
  ·split at h1
   ·rename_i hk;subst hk;simp only [Bool.and_eq_true,List.isEmpty_iff] at h1;obtain ⟨⟨rfl,rfl⟩,hr⟩:=h1;obtain rfl:=rno hr;have h4':zK nm=true:=h4;unfold zK at h4';simp only [Bool.and_eq_true,decide_eq_true_eq,List.all_eq_true] at h4';exact .inr (.inl ⟨nm,rfl,n1 rfl,⟨fun e=>by rw [e] at h4'; exact absurd h4'.1.1 (by decide),h4'.2⟩,hw⟩)
   ·split at h1
    ·rename_i hk;subst hk;simp only [Bool.and_eq_true,List.isEmpty_iff] at h1;obtain ⟨rfl,hr⟩:=h1;obtain rfl:=rno hr;have h4':(decide (ns.length=aas.length)&&ns.all zh&&qL ns)=true:=h4;simp only [Bool.and_eq_true,decide_eq_true_eq,List.all_eq_true] at h4';refine .inr (.inr (.inl ⟨ns,aas,rfl,h4'.1.1,h4'.1.2,hx,?_⟩));rw [hw];show [123]++zD [44,32] 0 (zck ns (wrL aas))++[125]=_;rw [zhi,List.append_assoc]
    ·split at h1
     ·rename_i hk;subst hk;simp only [Bool.and_eq_true,List.isEmpty_iff] at h1;obtain ⟨⟨rfl,rfl⟩,hr⟩:=h1;refine .inr (.inr (.inr (.inl ⟨aas,r,rfl,hx,⟨h3.resolve_left (fun g=>by rw [g] at hr; cases hr),n3⟩,?_⟩)));rw [hw];show [102,110,40]++zD [44,32] 0 (wrL aas)++[41,32,45,62,32]++wr r=_;rw [wrL_m,List.append_assoc,List.append_assoc]
     ·split at h1
      ·rename_i hk;subst hk;simp only [Bool.and_eq_true,List.isEmpty_iff] at h1;obtain ⟨⟨rfl,rfl⟩,hr⟩:=h1;obtain rfl:=rno hr;have h4':(decide (2≤aas.length)&&aas.all (fun x=>!(kd x==9 || kd x==1))&&qL (aas.map wr))=true:=h4;simp only [Bool.and_eq_true,decide_eq_true_eq,List.all_eq_true] at h4';refine .inr (.inr (.inr (.inr ⟨aas,rfl,h4'.1.1,fun x hx'=>⟨hx x hx',fun e=>?_⟩,?_⟩)))
       ·have:=h4'.1.2 x hx';rw [e] at this;exact absurd this (by decide)
       ·rw [hw];show zD [32,124,32] 0 (zch aas (wrL aas))=_;rw [zic]
      ·cases h1
def stop (s:ze):Prop:=∀ c r,s=c::r→c=44∨c=41∨c=125
def stop2 (s:ze):Prop:=∀ c r,s=c::r→c=44∨c=41∨c=125∨c=32
theorem stop.two {s:ze}(h:stop s):stop2 s:=fun c r e=>by
 rcases h c r e with h | h | h
 ·exact .inl h
 ·exact .inr (.inl h)
 ·exact .inr (.inr (.inl h))
theorem stop2.nam {s:ze}(h:stop2 s)(c:UInt8)(r:ze)(e:s=c::r):yw (bi c)=false:=by
 rcases h c r e with rfl | rfl | rfl | rfl <;> decide
def sim (t:Ty):Prop:=kd t≠8∧kd t≠9
def hdI (c:UInt8):Prop:=yw (bi c)=true∨c=123
theorem hdI.ne {c:UInt8}(h:hdI c):c≠44∧c≠41∧c≠125∧c≠32∧c≠40:=by
 refine ⟨?_,?_,?_,?_,?_⟩ <;> rintro rfl <;> rcases h with h | h <;> exact absurd h (by decide)
theorem zg7 {w:ze}(h:isW w):∃ c r,w=c::r∧hdI c:=by
 cases w with
 | nil=>exact absurd rfl h.1
 | cons c r=>exact ⟨c,r,rfl,.inl (h.2 c (List.mem_cons_self ..))⟩
theorem zfc {t:Ty}(h:okT t=true)(hn:nmT t=true)(hs:kd t≠9):∃ c r,wr t=c::r∧hdI c:=by
 rcases shp h hn with ⟨k,rfl,_,e⟩ | ⟨nm,rfl,_,hw,e⟩ | ⟨ns,aas,rfl,_,_,_,e⟩ | ⟨aas,r,rfl,_,_,e⟩ | ⟨aas,rfl,_⟩
 ·rw [e]; exact zg7 (wV k)
 ·rw [e]; exact zg7 hw
 ·rw [e]; exact ⟨123,_,rfl,.inr rfl⟩
 ·rw [e]; exact ⟨102,_,rfl,.inl (by decide)⟩
 ·exact absurd rfl hs
theorem zrG {x:Ty}(h:okT x=true)(hn:nmT x=true)(hs:kd x≠9):∃ c r,gU x=c::r∧(hdI c∨c=40):=by
 unfold gU;split
 ·exact ⟨40,_,rfl,.inr rfl⟩
 ·obtain ⟨c,r,e,hc⟩:=zfc h hn hs;exact ⟨c,r,e,.inl hc⟩
theorem hd_ok {t:Ty}(h:okT t=true)(hn:nmT t=true):∃ c r,wr t=c::r∧(hdI c∨c=40):=by
 by_cases hs:kd t=9
 ·rcases shp h hn with ⟨k,rfl,hk,e⟩ | ⟨nm,rfl,_,hw,e⟩ | ⟨ns,aas,rfl,_,_,_,e⟩ | ⟨aas,r,rfl,_,_,e⟩ | ⟨aas,rfl,hl,hx,e⟩
  ·exact absurd hs (by show k≠9; omega)
  ·exact absurd hs (by show (6:Int)≠9; decide)
  ·exact absurd hs (by show (7:Int)≠9; decide)
  ·exact absurd hs (by show (8:Int)≠9; decide)
  ·cases aas with
   | nil=>cases hl
   | cons x l =>
    obtain ⟨h1,h2⟩:=hx x (List.mem_cons_self ..);obtain ⟨c,r,ec,hc⟩:=zrG h1.1 h1.2 h2;rw [e,List.map_cons,yB,ec];exact ⟨c,_,rfl,hc⟩
 ·obtain ⟨c,r,e,hc⟩:=zfc h hn hs;exact ⟨c,r,e,.inl hc⟩
theorem zgk {t:Ty}{s v:ze}(h:okT t=true)(hn:nmT t=true)(hs:sim t)(hd:∀ c r,s=c::r→yw (bi c)=false∧c≠40)(e:wr t++s=102::110::40::v):False:=by
 have word:∀ w,isW w→w++s=102::110::40::v→False:=fun w hw e=>by
  have:=vu (p:=fun c=>yw (bi c)) (w:=w) (w':=[102,110]) (s:=s) (s':=40::v) hw.2 (by decide) (fun c r e=>(hd c r e).1) (fun c r e=>by cases e; decide) e;exact (hd 40 v this.2).2 rfl
 rcases shp h hn with ⟨k,rfl,_,e'⟩ | ⟨nm,rfl,_,hw,e'⟩ | ⟨ns,aas,rfl,_,_,_,e'⟩ | ⟨aas,r,rfl,_,_,e'⟩ | ⟨aas,rfl,_⟩
 ·rw [e'] at e; exact word _ (wV k) e
 ·rw [e'] at e; exact word _ hw e
 ·rw [e'] at e;have:=(List.cons.inj e).1;exact absurd this (by decide)
 ·exact absurd rfl hs.1
 ·exact absurd rfl hs.2
def PB (x y:Ty):Prop:=∀ s s',stop s→stop s'→wr x++s=wr y++s'→x=y∧s=s'
theorem zqg {t u:Ty}(ht:okT t=true)(hu:okT u=true)(nt:nmT t=true)(nu:nmT u=true)(st:sim t)(su:sim u)(hB:∀ x y,cnt x<cnt t→okT x=true→okT y=true→nmT x=true→nmT y=true→PB x y) :
 ∀ s s',stop2 s→stop2 s'→wr t++s=wr u++s'→t=u∧s=s':=by
 intro s s' hs hs' e;have ww:∀ {w w'},isW w→isW w'→w++s=w'++s'→w=w'∧s=s':=fun hw hw' e=>vu (p:=fun c=>yw (bi c)) hw.2 hw'.2 hs.nam hs'.nam e;have wr1:∀ {w v:ze} {s:ze},isW w→w++s=123::v→False:=fun hw e=>by
  obtain ⟨c,r,rfl,hc⟩:=zg7 hw;have h1:=hw.2 c (List.mem_cons_self ..);rw [(List.cons.inj e).1] at h1;exact absurd h1 (by decide)
 rcases shp ht nt with ⟨k,rfl,hk,et⟩ | ⟨nm,rfl,hdot,hw,et⟩ | ⟨ns,aas,rfl,hl,hf,hx,et⟩ | ⟨aas,r,rfl,_,_,et⟩ | ⟨aas,rfl,_⟩
 ·rcases shp hu nu with ⟨k',rfl,hk',eu⟩ | ⟨nm',rfl,hdot',hw',eu⟩ | ⟨ns',aas',rfl,hl',hf',hx',eu⟩ | ⟨aas',r',rfl,_,_,eu⟩ | ⟨aas',rfl,_⟩
  ·rw [et,eu] at e;obtain ⟨e1,e2⟩:=ww (wV k) (wV k') e;rw [zkR hk hk' e1];exact ⟨rfl,e2⟩
  ·rw [et,eu] at e;obtain ⟨e1,e2⟩:=ww (wV k) hw' e;rw [← e1,zfE] at hdot';cases hdot'
  ·rw [et,eu] at e;exact (wr1 (wV k) e).elim
  ·exact absurd rfl su.1
  ·exact absurd rfl su.2
 ·rcases shp hu nu with ⟨k',rfl,hk',eu⟩ | ⟨nm',rfl,hdot',hw',eu⟩ | ⟨ns',aas',rfl,hl',hf',hx',eu⟩ | ⟨aas',r',rfl,_,_,eu⟩ | ⟨aas',rfl,_⟩
  ·rw [et,eu] at e;obtain ⟨e1,e2⟩:=ww hw (wV k') e;rw [e1,zfE] at hdot;cases hdot
  ·rw [et,eu] at e;obtain ⟨e1,e2⟩:=ww hw hw' e;exact ⟨by rw [e1],e2⟩
  ·rw [et,eu] at e;exact (wr1 hw e).elim
  ·exact absurd rfl su.1
  ·exact absurd rfl su.2
 ·rcases shp hu nu with ⟨k',rfl,hk',eu⟩ | ⟨nm',rfl,hdot',hw',eu⟩ | ⟨ns',aas',rfl,hl',hf',hx',eu⟩ | ⟨aas',r',rfl,_,_,eu⟩ | ⟨aas',rfl,_⟩
  ·rw [et,eu] at e;exact (wr1 (wV k') e.symm).elim
  ·rw [et,eu] at e;exact (wr1 hw' e.symm).elim
  ·rw [et,eu,List.append_assoc,List.append_assoc,List.append_assoc,List.append_assoc] at e;have e:=List.append_cancel_left e;have nf:∀ {n:ze} {x:Ty} {ms:List ze} {l:List Ty},(n,x)∈ms.zip l→(∀ n∈ms,zh n=true)→(∃ c r,n=c::r∧xr (bi c)=true)∧(∀ c∈n,xr (bi c)=true):=fun {n x ms l} hm hf=>by
    have h:=hf n (List.of_mem_zip hm).1;cases n with
    | nil=>cases h
    | cons c r =>
     have h':(decide ((c::r).length≤24)&&!yY (bi c)&&(c::r).all fun c=>xr (bi c))=true:=h;simp only [Bool.and_eq_true] at h';have h2:=List.all_eq_true.1 h'.2;exact ⟨⟨c,r,rfl,h2 c (List.mem_cons_self ..)⟩,h2⟩
   have nE:∀ {ms:List ze} {l:List Ty},(∀ n∈ms,zh n=true)→∀ x∈ms.zip l,∀ r,¬ ∃ v:ze,gR x++r=125::v:=fun {ms l} hf x hm r hv=>by
    obtain ⟨v,hv⟩:=hv;obtain ⟨n,y⟩:=x;obtain ⟨⟨c,q,hc,hw⟩,_⟩:=nf hm hf;subst hc;have h1:c=125:=(List.cons.inj hv).1;subst h1;exact absurd hw (by decide)
   have key:=zlK (α:=ze × Ty) (g:=gR) (c0:=44) (sp:=[32]) (St:=stop) (E:=fun s=>∃ v,s=125::v) (l:=ns.zip aas) (m:=ns'.zip aas') (s:=[125]++s) (s':=[125]++s') (fun r c v h=>.inl (List.cons.inj h).1.symm) (fun r ⟨v,h⟩=>absurd (List.cons.inj h).1 (by decide)) (fun s ⟨v,h⟩ c r h2=>by
    rw [h] at h2;exact .inr (.inr (List.cons.inj h2).1.symm)) (fun p hp q hq s s' hs hs' e=>by
    obtain ⟨n,x⟩:=p;obtain ⟨n',y⟩:=q;have e:n++([58,32]++wr x)++s=n'++([58,32]++wr y)++s':=e;simp only [List.append_assoc] at e;have hb:∀ {a v:ze} (c:UInt8) (r:ze),(([58,32]++(a++v):ze))=c::r→xr (bi c)=false:=fun c r h=>by
     have:=(List.cons.inj h).1;subst this;decide
    obtain ⟨e1,e2⟩:=vu (p:=fun c=>xr (bi c)) (nf hp hf).2 (nf hq hf').2 (fun c r h=>hb c r h) (fun c r h=>hb c r h) e;have e2:=List.append_cancel_left e2;have mx:=(List.of_mem_zip hp).2;have hc:cnt x<cnt (.mk 7 [] ns aas .no):=by
     rw [z9];have:=xf mx;omega
    obtain ⟨e3,e4⟩:=hB x y hc (hx x mx).1 (hx' y (List.of_mem_zip hq).2).1 (hx x mx).2 (hx' y (List.of_mem_zip hq).2).2 s s' hs hs' e2;exact ⟨by rw [e1,e3],e4⟩) (nE hf) (nE hf') ⟨_,rfl⟩ ⟨_,rfl⟩ e
   obtain ⟨e1,e2⟩:=key;have f1:=congrArg (List.map Prod.fst) e1;have f2:=congrArg (List.map Prod.snd) e1;rw [yn hl,yn hl'] at f1;rw [qE hl,qE hl'] at f2;exact ⟨by rw [f1,f2],List.append_cancel_left e2⟩
  ·exact absurd rfl su.1
  ·exact absurd rfl su.2
 ·exact absurd rfl st.1
 ·exact absurd rfl st.2
theorem zhD {aas:List Ty}(h:2≤aas.length):∃ x l,aas=x::l∧∀ s:ze,∃ v,zD [32,124,32] 0 (aas.map gU)++s=gU x++(32::v):=by
 cases aas with
 | nil=>cases h
 | cons x l =>
  cases l with
  | nil=>simp at h
  | cons y l =>
   refine ⟨x,y::l,rfl,fun s=>?_⟩;rw [List.map_cons,yB,List.map_cons,wN,List.append_assoc];exact ⟨_,rfl⟩
theorem zcN {x:Ty}(h:kd x=8):gU x=40::(wr x++[41]):=by
 unfold gU;rw [if_pos h];rfl
theorem zcO {x:Ty}(h:kd x≠8):gU x=wr x:=by
 unfold gU;rw [if_neg h]
theorem st32 (v:ze):stop2 (32::v):=fun c r h=>.inr (.inr (.inr (List.cons.inj h).1.symm))
theorem zdh {c:UInt8}{v:ze}(h:hdI c∨c=40∨c=32):¬ stop (c::v):=fun g=>by
 rcases h with h | rfl | rfl
 ·have:=h.ne;rcases g c v rfl with e | e | e
  ·exact this.1 e
  ·exact this.2.1 e
  ·exact this.2.2.1 e
 ·exact absurd (g 40 v rfl) (by decide)
 ·exact absurd (g 32 v rfl) (by decide)
theorem zkL {aas:List Ty}{s v:ze}(h2:2≤aas.length)(hx:∀ x∈aas,(okT x=true∧nmT x=true)∧kd x≠9)(e:zD [32,124,32] 0 (aas.map gU)++s=102::110::40::v):False:=by
 obtain ⟨x,l,rfl,hv⟩:=zhD h2;obtain ⟨w,hw⟩:=hv s;rw [hw] at e;obtain ⟨h3,h4⟩:=hx x (List.mem_cons_self ..)
 by_cases h8:kd x=8
 ·rw [zcN h8] at e;exact absurd (List.cons.inj e).1 (by decide)
 ·rw [zcO h8] at e;exact zgk h3.1 h3.2 ⟨h8,h4⟩ (fun c r h=>by
   have:=(List.cons.inj h).1;subst this;decide) e
theorem zlA {t:Ty}{aas:List Ty}{s s':ze}(ht:okT t=true)(nt:nmT t=true)(st:sim t)(h2:2≤aas.length)(hx:∀ x∈aas,(okT x=true∧nmT x=true)∧kd x≠9)(hA:∀ x∈aas,sim x→∀ s s',stop2 s→stop2 s'→wr t++s=wr x++s'→t=x∧s=s')(hs:stop s)(e:wr t++s=zD [32,124,32] 0 (aas.map gU)++s'):False:=by
 obtain ⟨x,l,rfl,hv⟩:=zhD h2;obtain ⟨w,hw⟩:=hv s';rw [hw] at e;obtain ⟨h3,h4⟩:=hx x (List.mem_cons_self ..)
 by_cases h8:kd x=8
 ·rw [zcN h8] at e;obtain ⟨c,r,ec,hc⟩:=zfc ht nt st.2;rw [ec] at e;exact hc.ne.2.2.2.2 (List.cons.inj e).1
 ·rw [zcO h8] at e;have:=(hA x (List.mem_cons_self ..) ⟨h8,h4⟩ s _ hs.two (st32 w) e).2;rw [this] at hs;exact zdh (.inr (.inr rfl)) hs
theorem wr_B:∀ (n:Nat) (t u:Ty),cnt t<n→okT t=true→okT u=true→nmT t=true→nmT u=true→PB t u:=by
 intro n
 induction n with
 | zero=>intro t u h; omega
 | succ n ih =>
  intro t u hn ht hu nt nu;have hB:∀ x y,cnt x<cnt t→okT x=true→okT y=true→nmT x=true→nmT y=true→PB x y:=fun x y h=>ih x y (by omega);have hA:∀ x y,cnt x≤cnt t→okT x=true→okT y=true→nmT x=true→nmT y=true→sim x→sim y→∀ s s',stop2 s→stop2 s'→wr x++s=wr y++s'→x=y∧s=s':=fun x y h a b c d e f=>zqg a b c d e f fun p q hpq=>ih p q (by omega);intro s s' hs hs' e;have cases3:∀ {z:Ty},okT z=true→nmT z=true→sim z∨(∃ aas r,z=.mk 8 [] [] aas r∧(∀ x∈aas,okT x=true∧nmT x=true)∧(okT r=true∧nmT r=true)∧wr z=[102,110,40]++(zD [44,32] 0 (aas.map wr)++([41,32,45,62,32]++wr r))) ∨
   (∃ aas,z=.mk 9 [] [] aas .no∧2≤aas.length∧(∀ x∈aas,(okT x=true∧nmT x=true)∧kd x≠9)∧wr z=zD [32,124,32] 0 (aas.map gU)):=fun {z} h hm=>by
   rcases shp h hm with ⟨k,rfl,hk,_⟩ | ⟨nm,rfl,_⟩ | ⟨ns,aas,rfl,_⟩ | g | g
   ·exact .inl ⟨by show k≠8; omega,by show k≠9; omega⟩
   ·exact .inl ⟨by show (6:Int)≠8; decide,by show (6:Int)≠9; decide⟩
   ·exact .inl ⟨by show (7:Int)≠8; decide,by show (7:Int)≠9; decide⟩
   ·exact .inr (.inl g)
   ·exact .inr (.inr g)
  have hsn:∀ {s:ze},stop s→∀ c r,s=c::r→yw (bi c)=false∧c≠40:=fun h c r e=>⟨h.two.nam c r e,fun g=>by subst g; exact absurd (h _ _ e) (by decide)⟩
  rcases cases3 ht nt with st | ⟨aas,r,rfl,hx,hr,et⟩ | ⟨aas,rfl,h2,hx,et⟩
  ·rcases cases3 hu nu with su | ⟨aas',r',rfl,hx',hr',eu⟩ | ⟨aas',rfl,h2',hx',eu⟩
   ·exact hA t u (Nat.le_refl _) ht hu nt nu st su s s' hs.two hs'.two e
   ·rw [eu] at e;exact (zgk ht nt st (hsn hs) e).elim
   ·rw [eu] at e;exact (zlA ht nt st h2' hx' (fun x hm sx=>hA t x (Nat.le_refl _) ht (hx' x hm).1.1 nt (hx' x hm).1.2 st sx) hs e).elim
  ·rcases cases3 hu nu with su | ⟨aas',r',rfl,hx',hr',eu⟩ | ⟨aas',rfl,h2',hx',eu⟩
   ·rw [et] at e;exact (zgk hu nu su (hsn hs') e.symm).elim
   ·rw [et,eu] at e;simp only [List.append_assoc] at e;have e:=List.append_cancel_left e;have nE:∀ {l:List Ty},(∀ x∈l,okT x=true∧nmT x=true)→∀ x∈l,∀ r,¬ ∃ v:ze,wr x++r=[41,32,45,62,32]++v:=fun {l} hl x hm r ⟨v,hv⟩=>by
     obtain ⟨c,q,ec,hc⟩:=hd_ok (hl x hm).1 (hl x hm).2;rw [ec] at hv;have h1:c=41:=(List.cons.inj hv).1;rcases hc with hc | hc
     ·exact hc.ne.2.1 h1
     ·exact absurd (hc.symm.trans h1) (by decide)
    obtain ⟨e1,e2⟩:=zlK (g:=wr) (c0:=44) (sp:=[32]) (St:=stop) (E:=fun s=>∃ v,s=[41,32,45,62,32]++v) (l:=aas) (m:=aas') (fun r c v h=>.inl (List.cons.inj h).1.symm) (fun r ⟨v,h⟩=>absurd (List.cons.inj h).1 (by decide)) (fun s ⟨v,h⟩ c r h2=>by
     rw [h] at h2;exact .inr (.inl (List.cons.inj h2).1.symm)) (fun x hm y hm'=>hB x y (by rw [z9]; have:=xf hm; omega) (hx x hm).1 (hx' y hm').1 (hx x hm).2 (hx' y hm').2) (nE hx) (nE hx') ⟨_,rfl⟩ ⟨_,rfl⟩ e
    have e2:=List.append_cancel_left e2;obtain ⟨e3,e4⟩:=hB r r' (by rw [z9]; omega) hr.1 hr'.1 hr.2 hr'.2 s s' hs hs' e2;exact ⟨by rw [e1,e3],e4⟩
   ·rw [et,eu] at e;exact (zkL h2' hx' e.symm).elim
  ·have mem:∀ {x},x∈aas→cnt x<cnt (.mk 9 [] [] aas .no):=fun hm=>by rw [z9]; have:=xf hm; omega
   rcases cases3 hu nu with su | ⟨aas',r',rfl,hx',hr',eu⟩ | ⟨aas',rfl,h2',hx',eu⟩
   ·rw [et] at e;exact (zlA hu nu su h2 hx (fun x hm sx s s' a b e=>by
     obtain ⟨e1,e2⟩:=hA x u (Nat.le_of_lt (mem hm)) (hx x hm).1.1 hu (hx x hm).1.2 nu sx su s' s b a e.symm;exact ⟨e1.symm,e2.symm⟩) hs' e.symm).elim
   ·rw [et,eu] at e;exact (zkL h2 hx e).elim
   ·rw [et,eu] at e;have nE:∀ {l:List Ty},(∀ x∈l,(okT x=true∧nmT x=true)∧kd x≠9)→∀ x∈l,∀ r,¬ stop (gU x++r):=fun {l} hl x hm r=>by
     obtain ⟨c,q,ec,hc⟩:=zrG (hl x hm).1.1 (hl x hm).1.2 (hl x hm).2;rw [ec];exact zdh (hc.imp_right .inl)
    obtain ⟨e1,e2⟩:=zlK (g:=gU) (c0:=32) (sp:=[124,32]) (St:=stop2) (E:=stop) (l:=aas) (m:=aas') st32 (fun r=>zdh (.inr (.inr rfl))) (fun s h=>h.two) (fun x hm y hm' s s' a b e=>by
     by_cases h8:kd x=8
     ·by_cases g8:kd y=8
      ·rw [zcN h8,zcN g8] at e;have e:wr x++[41]++s=wr y++[41]++s':=(List.cons.inj e).2;rw [List.append_assoc,List.append_assoc] at e;obtain ⟨e1,e2⟩:=hB x y (mem hm) (hx x hm).1.1 (hx' y hm').1.1 (hx x hm).1.2 (hx' y hm').1.2 _ _ (fun c r h=>.inr (.inl (List.cons.inj h).1.symm)) (fun c r h=>.inr (.inl (List.cons.inj h).1.symm)) e;exact ⟨e1,(List.cons.inj e2).2⟩
      ·rw [zcN h8,zcO g8] at e;obtain ⟨c,r,ec,hc⟩:=zfc (hx' y hm').1.1 (hx' y hm').1.2 (hx' y hm').2;rw [ec] at e;exact absurd (List.cons.inj e).1.symm hc.ne.2.2.2.2
     ·by_cases g8:kd y=8
      ·rw [zcO h8,zcN g8] at e;obtain ⟨c,r,ec,hc⟩:=zfc (hx x hm).1.1 (hx x hm).1.2 (hx x hm).2;rw [ec] at e;exact absurd (List.cons.inj e).1 hc.ne.2.2.2.2
      ·rw [zcO h8,zcO g8] at e;exact hA x y (Nat.le_of_lt (mem hm)) (hx x hm).1.1 (hx' y hm').1.1 (hx x hm).1.2 (hx' y hm').1.2 ⟨h8,(hx x hm).2⟩ ⟨g8,(hx' y hm').2⟩ s s' a b e) (nE hx) (nE hx') hs hs' e
    exact ⟨by rw [e1],e2⟩
theorem zrN {t u:Ty}(ht:okT t=true)(hu:okT u=true)(nt:nmT t=true)(nu:nmT u=true)(e:wr t=wr u):t=u :=
 (wr_B _ t u (Nat.lt_succ_self _) ht hu nt nu [] [] (fun _ _ h=>by cases h) (fun _ _ h=>by cases h) (by rw [e])).1
end Go.Proofs.Ytcdigdplhlgcaaa.tp
end
section
set_option maxRecDepth 100000
set_option linter.unusedVariables false
set_option linter.unusedSimpArgs false
namespace Go.Proofs.Ytcdigdplhlgcaaa.tp
open Go
theorem zhL {α β:Type}{f:α→β}{p:β→Bool}:∀ {l:List α},wn (fun x=>p (f x)) l=wn p (l.map f)
 | []=>rfl
 | x::l=>by
  have:=zhL (f:=f) (p:=p) (l:=l);unfold wn at this ⊢;rw [List.map_cons,List.takeWhile_cons,List.takeWhile_cons];cases p (f x) with
  | true=>simp only [if_true,List.length_cons,this]
  | false=>rfl
theorem zl4 {α β:Type}{f:α→β}{a:Nat}{v:α}{l:List α}:(ins a v l).map f=ins a (f v) (l.map f):=by
 unfold ins;rw [List.map_append,List.map_cons,List.map_take,List.map_drop]
theorem zdO:∀ {fs out:List Ty},Up (out.map wr)→Up ((zcj fs out).map wr)∧∀ w,w∈(zcj fs out).map wr ↔ (w∈fs.map wr∨w∈out.map wr)
 | [],out,h=>⟨h,fun w=>by rw [ziu]; simp⟩
 | t::r,out,h=>by
  rw [wF];have hu:wn (fun x=>Op.bytesLess (wr x) (wr t)) out=wn (fun y=>Op.bytesLess y (wr t)) (out.map wr):=zhL (f:=wr) (p:=fun y=>Op.bytesLess y (wr t));rw [← List.getElem?_map,hu];split
  ·rename_i hd;obtain ⟨h1,h2⟩:=zdO (fs:=r) h;have hm:wr t∈out.map wr:=List.mem_of_getElem? hd;refine ⟨h1,fun w=>?_⟩;rw [h2,List.map_cons,List.mem_cons];constructor
   ·rintro (h | h)
    ·exact .inl (.inr h)
    ·exact .inr h
   ·rintro ((rfl | h) | h)
    ·exact .inr hm
    ·exact .inl h
    ·exact .inr h
  ·rename_i hd;have hup:Up ((ins (wn (fun y=>Op.bytesLess y (wr t)) (out.map wr)) t out).map wr):=by
    rw [zl4];exact zpf h hd
   obtain ⟨h1,h2⟩:=zdO (fs:=r) hup;refine ⟨h1,fun w=>?_⟩;rw [h2,zl4,zae,List.map_cons,List.mem_cons];constructor
   ·rintro (h | h | h)
    ·exact .inl (.inr h)
    ·exact .inl (.inl h)
    ·exact .inr h
   ·rintro ((h | h) | h)
    ·exact .inr (.inl h)
    ·exact .inl h
    ·exact .inr (.inr h)
theorem zpg:∀ {l m:List ze},Up l→Up m→(∀ w,w∈l ↔ w∈m)→l=m
 | [],[],_,_,_=>rfl
 | [],b::m,_,_,h=>absurd ((h b).2 (List.mem_cons_self ..)) List.not_mem_nil
 | a::l,[],_,_,h=>absurd ((h a).1 (List.mem_cons_self ..)) List.not_mem_nil
 | a::l,b::m,hl,hm,h=>by
  obtain ⟨l1,l2⟩:=List.pairwise_cons.1 hl;obtain ⟨m1,m2⟩:=List.pairwise_cons.1 hm;have e:a=b:=by
   rcases List.mem_cons.1 ((h a).1 (List.mem_cons_self ..)) with e | e
   ·exact e
   ·rcases List.mem_cons.1 ((h b).2 (List.mem_cons_self ..)) with g | g
    ·exact g.symm
    ·have h1:=m1 a e;have h2:=vY (l1 b g);rw [h2] at h1;cases h1
  subst e;rw [zpg l2 m2 fun w=>⟨fun hw=>?_,fun hw=>?_⟩]
  ·rcases List.mem_cons.1 ((h w).1 (List.mem_cons_of_mem _ hw)) with e | e
   ·have:=l1 w hw;rw [e,kX] at this;cases this
   ·exact e
  ·rcases List.mem_cons.1 ((h w).2 (List.mem_cons_of_mem _ hw)) with e | e
   ·have:=m1 w hw;rw [e,kX] at this;cases this
   ·exact e
theorem zoK:∀ {l m:List Ty},(∀ x∈l,okT x=true∧nmT x=true)→(∀ x∈m,okT x=true∧nmT x=true)→l.map wr=m.map wr→l=m
 | [],[],_,_,_=>rfl
 | [],_::_,_,_,h=>by cases h
 | _::_,[],_,_,h=>by cases h
 | x::l,y::m,hl,hm,h=>by
  obtain ⟨e1,e2⟩:=List.cons.inj h;have hx:=hl x (List.mem_cons_self ..);have hy:=hm y (List.mem_cons_self ..);rw [zrN hx.1 hy.1 hx.2 hy.2 e1,zoK (fun x h=>hl x (List.mem_cons_of_mem _ h)) (fun x h=>hm x (List.mem_cons_of_mem _ h)) e2]
theorem zsj {fs cs:List Ty}(hf:∀ x∈fs,okT x=true∧nmT x=true)(hc:∀ x∈cs,x∈fs)(up:Up (cs.map wr))(hm:∀ x∈fs,∃ c∈cs,wr c=wr x):cs=zcj fs []:=by
 obtain ⟨h1,h2⟩:=zdO (fs:=fs) (out:=[]) List.Pairwise.nil;refine zoK (fun x hx=>hf x (hc x hx)) (fun x hx=>?_) (zpg up h1 fun w=>?_)
 ·have:∀ {fs out:List Ty} {u:Ty},u∈zcj fs out→u∈out∨u∈fs:=by
   intro fs
   induction fs with
   | nil=>intro out u h; exact .inl h
   | cons t r ih =>
    intro out u h;rw [wF] at h;split at h
    ·exact (ih h).imp_right (List.mem_cons_of_mem _)
    ·rcases ih h with h | h
     ·rcases zae.1 h with h | h
      ·exact .inr (h▸List.mem_cons_self)
      ·exact .inl h
     ·exact .inr (List.mem_cons_of_mem _ h)
  exact hf x ((this hx).resolve_left List.not_mem_nil)
 ·rw [h2];constructor
  ·intro h;obtain ⟨x,hx,rfl⟩:=List.mem_map.1 h;exact .inl (List.mem_map.2 ⟨x,hc x hx,rfl⟩)
  ·rintro (h | h)
   ·obtain ⟨x,hx,rfl⟩:=List.mem_map.1 h;obtain ⟨c,hc1,hc2⟩:=hm x hx;exact List.mem_map.2 ⟨c,hc1,hc2⟩
   ·cases h
theorem zlC {w z:Ty}(h:nmT w=true)(hz:z∈xq w):nmT z=true:=by
 unfold xq at hz;split at hz
 ·cases w with
  | no=>cases hz
  | mk k nm ns aas r=>exact (zio h).2.1 z hz
 ·rw [List.mem_singleton] at hz;rw [hz];exact h
theorem zsV {ns:List ze}{ts:List Ty}(h:∀ x∈ts,nmT x=true):nmT (y0 ns ts).2=true:=by
 unfold y0;split
 ·rename_i hc;split
  ·rfl
  ·rename_i xs us hr;obtain ⟨_,_,g3,g4⟩:_∧_∧_∧_:=by
    have:=wK hc.1 rfl List.Pairwise.nil hr;exact ⟨trivial,this.1,this.2.1,this.2.2⟩
   rw [List.zip_nil_left,List.append_nil] at g4;have pu:us.Perm ts:=by
    have:=g4.map Prod.snd
    rwa [qE g3,qE hc.1] at this
   unfold kv;split
   ·rfl
   ·exact zmo (fun e=>absurd e (by decide)) (fun x hx=>h x (pu.mem_iff.1 hx)) rfl
 ·rfl
theorem zsC {ts:List Ty}(h:∀ x∈ts,nmT x=true):nmT (vh ts).2=true:=by
 have hS:∀ {fs out:List Ty},(∀ x∈fs,nmT x=true)→(∀ x∈out,nmT x=true)→∀ x∈zcj fs out,nmT x=true:=by
  intro fs
  induction fs with
  | nil=>intro out _ h x hx; exact h x hx
  | cons t r ih =>
   intro out h1 h2;rw [wF];split
   ·exact ih (fun x hx=>h1 x (List.mem_cons_of_mem _ hx)) h2
   ·refine ih (fun x hx=>h1 x (List.mem_cons_of_mem _ hx)) (fun x hx=>?_);rcases zae.1 hx with hx | hx
    ·rw [hx]; exact h1 t List.mem_cons_self
    ·exact h2 x hx
 unfold vh;split
 ·split
  ·exact zmo (fun e=>absurd e (by decide)) (fun x hx=>by cases hx) rfl
  ·have hm:=hS (fs:=ts.flatMap xq) (out:=[]) (fun x hx=>by
    obtain ⟨w,hw,hz⟩:=List.mem_flatMap.1 hx;exact zlC (h w hw) hz) (fun x hx=>by cases hx)
   revert hm;generalize zcj (ts.flatMap xq) []=out;intro hm;unfold zjU;split
   ·cases out with
    | nil=>rfl
    | cons u l=>exact hm u List.mem_cons_self
   ·unfold kv;split
    ·rfl
    ·exact zmo (fun e=>absurd e (by decide)) hm rfl
 ·rfl
end Go.Proofs.Ytcdigdplhlgcaaa.tp
end
section
set_option maxRecDepth 100000
set_option linter.unusedVariables false
set_option linter.unusedSectionVars false
set_option linter.unusedSimpArgs false
namespace Go.Proofs.Ytcdigdplhlgcaaa.gx
open Go Ev tp
section
variable (sa s1 s1c:AV) (N:Nat)
noncomputable def Frfx:AFrame:=frm 28 31 (tW (tW (tX (tY sa) tZ) s1 tZ) sa tZ) [opi 28 [1,0,0] 1,cdi 28 [1,0,1],cdi 28 [1,1]]
noncomputable def zif:AFrame:=frm 28 31 (tW (tW (tX tZ (tY s1c)) s1c tZ) sa (tX tZ (tX (tY (.bool false)) tZ))) [opi 28 [1,0,0] 5,cdi 28 [1,0,1],cdi 28 [1,1]]
noncomputable def zau:AFrame:=frm 28 31 (tX (tX (tX tZ (tX tZ (tY (.ptr N 0 0)))) tZ) tZ) [opi 28 [1,1,1,1,0] 1,cdi 13 [1,0,1,0,1]]
end
section
variable {R:AV→AHeap→Prop} {keep N Nc:Nat} {f0:FuncId} {rest:List AFrame} {O:T AObj} {sa s1 s1c prq2:AV} {G:T (T AV)} {K:AM→Prop} {td:List AItem} {blq0:Bool} {crq1 crq2:Int}
theorem t_rfx:(K (AM.mk (enF 62 [sa]) ((Frfx sa s1)::rest) ⟨O,N,G⟩))=OT f0 R keep K (.seq [.run 9,.keep [0,1,7],.run 1] .fin) ((AM.mk (enF 28 [sa,s1]) rest ⟨O,N,G⟩)):=by kernel_rfl
theorem znp:((((!blq0))=true→(K (AM.mk (RF 28 31 (tX (tX tZ (tY (.int .i64 2))) (tX (tY .nilp) tZ)) [cdi 62 [1,0,1,0,0,1,0,0,1,0,1],cdi 28 [1,1]]) rest ⟨O,N,G⟩)))∧(((!blq0))=false→(K (AM.mk (enF 13 [s1c]) ((zif sa s1c)::rest) ⟨O,N,G⟩))))=OT f0 R keep K (.seq [.run 3] (.fork 10 (.seq [.run 12,.keep [4,5]] .fin) (.seq [.run 1,.keep [0,1,10,11],.run 1] .fin))) ((AM.mk (RF 62 16 (tX tZ (tY (.bool blq0))) td) ((Frfx sa s1c)::rest) ⟨O,N,G⟩)):=by kernel_rfl
theorem zeL:((((crq1 != (0:Int)))=true→(K (AM.mk (RF 28 31 (tX (tX tZ (tY (.int .i64 2))) (tX (tY .nilp) tZ)) [cdi 13 [1,0,1,0,1],cdi 28 [1,1]]) rest ⟨O,N,G⟩)))∧(((crq1 != (0:Int)))=false→(∃ (O1:T AObj) (s1:AV) (O2:T AObj) (N1:Nat) (O3:T AObj),(qa P (44) ([(0,.int .i64 8),(4,s1c)])=(some (.agg [.int .i64 8,.str [],.nils 0 0,.nils 0 0,s1c])))∧((Nat.beq (5) (AV.agg [AV.int IntKind.i64 (Int.ofNat (8)),AV.str [],AV.nils (0) (0),AV.nils (0) (0),s1c]).cells.length&&(AV.agg [AV.int IntKind.i64 (Int.ofNat (8)),AV.str [],AV.nils (0) (0),AV.nils (0) (0),s1c]).cells.all AV.one)=true∧T.set (some (AObj.cells (zd T.leaf 0 (AV.agg [AV.int IntKind.i64 (Int.ofNat (8)),AV.str [],AV.nils (0) (0),AV.nils (0) (0),s1c]).cells) (AV.agg [AV.int IntKind.i64 (Int.ofNat (8)),AV.str [],AV.nils (0) (0),AV.nils (0) (0),s1c]).cells.length 44 0 0 1 0 false T.leaf)) (⟨O,N,G⟩:AHeap).objs N=O1)∧(lC O1 (N+1) G N 3 (.nils 0 0))∧(zi P (⟨O1,N+1,G⟩) (Builtin.append) ((some 33)) ((some 33)) ([.nils 0 0,sa])=(some (.val s1 ⟨O2,N1,G⟩)))∧(s1.cells.length.beq (1)=true∧zc (⟨O2,N1,G⟩:AHeap) N (0) (3) s1.cells=some (⟨O3,N1,G⟩:AHeap))∧K (AM.mk (enF 65 [.ptr N 0 0]) ((zau N)::rest) ⟨O3,N1,G⟩))))=OT f0 R keep K (.seq [.run 4] (.fork 14 (.seq [.run 7,.keep [4,5]] .fin) (.ex fun O1:T AObj=>(.ex fun s1:AV=>(.ex fun O2:T AObj=>(.ex fun N1:Nat=>(.ex fun O3:T AObj=>(.seq [.run 5,.hopn (.agg [.int .i64 8,.str [],.nils 0 0,.nils 0 0,s1c]) O (N),.hopn (.nilp) O1 (N),.run 8,.hop (.nils 0 0) O1,.run 1,.hopn (s1) O2 (N1),.run 2,.hopn (.nilp) O3 (N1),.run 4,.keep [27],.run 1] .fin)))))))) ((AM.mk (RF 13 11 (tX tZ (tY (.int .i64 crq1))) td) ((zif sa s1c)::rest) ⟨O,N,G⟩)):=by kernel_rfl
theorem wj:(K (AM.mk (RF 28 31 (tX (tX tZ (tY (.int .i64 crq2))) (tX (tY prq2) tZ)) [cdi 13 [1,0,1,0,1]]) rest ⟨O,N,G⟩))=OT f0 R keep K (.seq [.run 7,.keep [4,5]] .fin) ((AM.mk (RF 65 8 (tX (tX (tY (.int .i64 crq2)) tZ) (tY prq2)) td) ((zau Nc)::rest) ⟨O,N,G⟩)):=by kernel_rfl
end
variable {O O':T AObj} {N:Nat} {G:T (T AV)}
def zbK (ts:List Ty) (r:Ty):Int × Ty:=if ts.all (fun x=>chk x==0)=true∧chk r=0 then kv (.mk 8 [] [] ts r) else (2,.no)
theorem zdI {ts:List Ty}{ps:List (Option Nat)}{sa:AV}{r:Ty}{q:Option Nat}{hi:Nat}{mk:Nat→Prop}(hs:SV O 1 pE 0 hi ps sa)(hl:ps.length=ts.length)(hm:ts.length<1000000)(ht:∀ (j:Nat) (x:Ty) (p:Option Nat),ts[j]?=some x→ps[j]?=some p→Tra O hi mk x p)(tr:Tra O hi mk r q)(hN:hi≤N)(hmN:∀ j,mk j→j<N){keep:Nat}{f0:FuncId}{Q:AV→AHeap→Prop}{rest:List AFrame}
 (hK:∀ O' N' td p',Ext O N O' N'→Tra O' N' mk (zbK ts r).2 p'→Goal P keep f0 Q (AM.mk (RF 28 31 (tX (tX tZ (tY (.int .i64 (zbK ts r).1))) (tX (tY (pv p')) tZ)) td) rest ⟨O',N',G⟩)):Goal P keep f0 Q (AM.mk (enF 28 [sa,pv q]) rest ⟨O,N,G⟩):=by
 have bad:¬ (ts.all (fun x=>chk x==0)=true∧chk r=0)→∀ O' N' td,Ext O N O' N'→Goal P keep f0 Q (AM.mk (RF 28 31 (tX (tX tZ (tY (.int .i64 2))) (tX (tY .nilp) tZ)) td) rest ⟨O',N',G⟩):=fun e O' N' td ex=>by
  have h:zbK ts r=(2,.no):=if_neg e;have:=hK O' N' td none ex (by rw [h]; exact Tra.nil);rw [h] at this;exact this
 refine ot t_rfx ?_;refine zhj hs hl hm (fun j x p a b=>(ht j x p a b).tr) hN fun O1 N1 td1 ex1=>?_;refine ot znp ⟨fun hb=>bad (fun h=>by rw [h.1] at hb; cases hb) O1 N1 _ ex1,fun hb=>?_⟩;have tr1:=tr.same (O':=O1) (fun j hj _=>ex1.2 j (by omega)) (Nat.le_refl _);refine zk9 tr1.tr (Nat.le_trans hN ex1.1) fun O2 N2 td2 ex2=>?_;have ex:=ex1.trans ex2;have nn:=ex.1;refine ot zeL ⟨fun hc=>bad (fun h=>by rw [h.2] at hc; cases hc) O2 N2 _ ex,fun hc=>?_⟩;have good:zbK ts r=kv (.mk 8 [] [] ts r):=if_pos ⟨by simpa using hb,by simpa using hc⟩
 obtain ⟨O3,e3,b3,f3⟩:=Obj.box (t:=44) [.int .i64 8,.str [],.nils 0 0,.nils 0 0,pv q] (by cases q <;> rfl) O2 N2 5 rfl;have sv3:=hs.keep (O':=O3) (fun j _ hj=>(f3 j (by omega)).trans (ex.2 j (by omega))) (Nat.le_refl 0) (Nat.le_refl hi);have g3:GV O3 23 1 pE (N2+1) (N2+1) ([]:List (Option Nat)) (.nils 0 0):=GV.nil;obtain ⟨O4,N4,s4,e4,g4,n4,n4',f4,_⟩:=g3.app pSl pEn sv3 (Nat.le_refl _) (by rw [hl]; simp only [List.length_nil]; omega) G;rw [List.nil_append] at g4;have b4:=b3.same (f4 N2 (by omega) (fun h=>absurd rfl h));obtain ⟨O5,e5,b5,f5⟩:=b4.store 3 [s4] N4 G (Nat.le_of_ble_eq_true rfl) (by simp only [List.all_cons,List.all_nil,Bool.and_true]; exact (g4.sv pEn).one);have sid4:s4≠.nils 0 0→N2+1≤sid s4:=fun h=>(g4.sid_lt h).1;have lo5:∀ j,j<N2→O5.get j=O2.get j:=fun j hj=>(f5 j (by omega)).trans ((f4 j (by omega) (fun h=>absurd rfl h)).trans (f3 j (by omega)));have ex5:Ext O N O5 N4:=⟨by omega,fun j hj=>(lo5 j (by omega)).trans (ex.2 j hj)⟩;have node:Tra O5 N4 mk (.mk 8 [] [] ts r) (some N2):=Tra.node (by omega) (fun h=>by have:=hmN _ h; omega) b5 SV.nil (fun h=>absurd rfl h) ((g4.sv pEn).same (fun h=>f5 _ (by have:=sid4 h; omega)) (Nat.zero_le _) (Nat.le_refl _)) (fun h hA=>by have:=sid4 h; have:=hmN _ hA; omega) hl hm (by decide) (fun j x p a b=>(ht j x p a b).same (fun i h1 _=>ex5.2 i (by omega)) (by omega)) (tr.same (fun i h1 _=>ex5.2 i (by omega)) (by omega));refine ⟨_,_,_,_,_,bld44,e3,b3.ld 3 rfl,e4,(by rw [(g4.sv pEn).cells]; exact ⟨rfl,e5⟩),?_⟩;refine ziz (p:=some N2) node.tr (fun h td=>?_) (fun h td=>?_)
 ·have e3:zbK ts r=(3,.no):=by rw [good]; unfold kv; rw [if_pos h]
  have:=fun td=>hK O5 N4 td none ex5 (by rw [e3]; exact Tra.nil);rw [e3] at this;exact ot wj (this _)
 ·have e3:zbK ts r=(0,.mk 8 [] [] ts r):=by rw [good]; unfold kv; rw [if_neg (by omega)]
  have:=fun td=>hK O5 N4 td (some N2) ex5 (by rw [e3]; exact node);rw [e3] at this;exact ot wj (this _)
end Go.Proofs.Ytcdigdplhlgcaaa.gx
end
section
set_option maxRecDepth 100000
set_option linter.unusedVariables false
set_option linter.unusedSectionVars false
set_option linter.unusedSimpArgs false
namespace Go.Proofs.Ytcdigdplhlgcaaa.gx
open Go Ev tp
noncomputable def zpv (q:Nat) (k2:Int) (sn2:AV) (sa2:AV):AFrame:=frm 84 44 (tW (tX (tW (tW (tY (.ptr q 0 0)) (.int .i64 k2) tZ) (.int .i64 0) (tY (.ptr q 0 0))) (tW (tW (tY sa2) (.bool (k2==(7:Int))) tZ) (.ptr q 0 0) (tY sn2))) (.ptr q 0 0) (tW (tW (tW (tY (.ptr q 0 3)) (.bool true) tZ) (.ptr q 0 0) (tY (.ptr q 0 2))) .nilp (tW (tY (.ptr q 0 0)) (.ptr q 0 0) (tY (.ptr q 0 0))))) [.drw (rg P 84 [1,0,1,0,1,0,0]) [8,9,10,11,12] [7,6,5,4,3,2,1,0],cdi 84 [1,0,1,0,1,0,1],.inBlock 0,cdi 84 [1,1]]
noncomputable def zj4 (q:Nat) (k2:Int) (sa2:AV) (rp2:AV):AFrame:=frm 84 44 (tW (tX (tW (tW tZ (.int .i64 k2) (tY (.ptr q 0 0))) (.int .i64 0) (tX tZ (tY (.ptr q 0 0)))) (tW (tW tZ (.bool (k2==(7:Int))) (tY (.ptr q 0 3))) (.ptr q 0 0) (tX (tY (.bool true)) (tY (.ptr q 0 4))))) (.ptr q 0 0) (tW (tW (tW tZ (.bool false) (tY (.ptr q 0 0))) (.ptr q 0 0) (tX tZ (tY (.ptr q 0 0)))) .nilp (tW (tX tZ (tY sa2)) (.ptr q 0 0) (tX (tY (.bool (k2==(8:Int)))) (tY rp2))))) [.drw (rg P 84 [1,0,1,0,1,1,1,0,0]) [8,9,10,11,12] [7,6,5,4,3,2,1,0],cdi 84 [1,0,1,0,1,0,1],.inBlock 0,cdi 84 [1,1]]
noncomputable def zhG (sa2:AV):AFrame:=frm 84 44 (tX (tX (tX (tX tZ (tX (tY sa2) tZ)) tZ) tZ) tZ) [opi 84 [1,0,1,0,1,1,1,1,1,0,0] 4,cdi 84 [1,0,1,0,1,0,1],.inBlock 0,cdi 84 [1,1]]
noncomputable def zr8 (N:Nat) (mk:Nat):AFrame:=frm 83 16 (tW (tX (tY (.ptr N 0 0)) (tY (.ptr mk 0 0))) (.ptr mk 0 0) tZ) [opi 83 [1,1,0,0] 1,cdi 83 [1,1,0,1],cdi 83 [1,1,1]]
noncomputable def zfq (mk:Nat) (Nc:Nat):AFrame:=frm 83 16 (tX (tX (tY (.ptr Nc 0 0)) tZ) (tX (tX (tY (.ptr mk 0 0)) tZ) tZ)) [opi 83 [1,1,0,1,0,0] 1,cdi 52 [1,0,1,0,1],cdi 83 [1,1,1]]
noncomputable def zfX (mk:Nat) (Nc:Nat):AFrame:=frm 83 16 (tX (tX (tY (.ptr Nc 0 0)) tZ) (tX (tX tZ (tY (.ptr mk 0 0))) tZ)) [opi 83 [1,1,1,0] 1,cdi 52 [1,0,1,0,1]]
noncomputable def zsc (n:Int) (mk:Nat):AFrame:=frm 82 20 (tW (tW (tX (tY (.ptr mk 0 0)) tZ) (.int .i64 n) (tY (.nils 0 0))) (.ptr mk 0 0) tZ) [opi 82 [1,1,0,0] 1,cdi 82 [1,1,0,1],cdi 82 [1,1,1]]
noncomputable def znD (n:Int) (j:Int) (mk:Nat) (sl2:AV) (rest:List AFrame) (O:T AObj) (N:Nat) (G:T (T AV)):AM:=⟨frm 82 20 (tW (tW tZ (.int .i64 n) (tY sl2)) (.ptr mk 0 0) (tX tZ (tY (.int .i64 j)))) [cdi 82 [1,1,0,1,0,0],ili 82 [1,1,0,1,0,0],.inBlock 0,cdi 82 [1,1,1]],rest,⟨O,N,G⟩⟩
noncomputable def zmN (n:Int) (j:Int) (mk:Nat) (sl2:AV):AFrame:=frm 82 20 (tW (tW (tX (tX (tY (.int .i64 n)) tZ) tZ) (.int .i64 n) (tX tZ (tY sl2))) (.ptr mk 0 0) (tX tZ (tW tZ (.int .i64 j) (tY (.ptr mk 0 0))))) [opi 82 [1,1,0,1,0,0,1,0,0] 3,.inBlock 1,cdi 82 [1,1,0,1,0,0,1,1],ili 82 [1,1,0,1,0,0],.inBlock 0,cdi 82 [1,1,1]]
section
variable {R:AV→AHeap→Prop} {keep N mk Nc q:Nat} {f0:FuncId} {rest:List AFrame} {O:T AObj} {n crq0 crq1 j k2:Int} {sl sl2 prq0 sn2 sa2 rp2 sa:AV} {G:T (T AV)} {K:AM→Prop} {td:List AItem}
theorem ztr:(∃ (z1:Int),(lC O N G mk 0 sl)∧(lN O N G 22 sl z1)∧(((z1==(0:Int)))=true→(K (AM.mk (RF 52 30 (tX tZ (tX (tY (.int .i64 0)) tZ)) [cdi 52 [1,0,1,0,1],cdi 52 [1,1]]) rest ⟨O,N,G⟩)))∧(((z1==(0:Int)))=false→(∃ (i1:Nat) (i2:Nat) (i3:Nat) (z2:Int) (s1:AV) (O1:T AObj),(lC O N G mk 0 sl)∧(iX 22 sl 0 i1 i2 i3)∧(lR O N G i1 i2 i3 (.int .u8 z2))∧(n≠(0:Int))∧(lC O N G mk 0 sl)∧(zN P (⟨O,N,G⟩) (22) (sl) ((some 1)) (none) (none)=(some s1))∧(s1.cells.length.beq (1)=true∧zc (⟨O,N,G⟩:AHeap) mk (0) (0) s1.cells=some (⟨O1,N,G⟩:AHeap))∧K (AM.mk (RF 52 30 (tX tZ (tX (tY (.int .i64 ((IntKind.i64.wrap z2).tmod n))) tZ)) [cdi 52 [1,0,1,0,1]]) rest ⟨O1,N,G⟩))))=OT f0 R keep K (.ex fun z1:Int=>(.seq [.run 10,.hop (sl) O,.hopn (.int .i64 z1) O (N),.run 2] (.fork 11 (.seq [.run 6,.keep [4]] .fin) (.ex fun i1:Nat=>(.ex fun i2:Nat=>(.ex fun i3:Nat=>(.ex fun z2:Int=>(.ex fun s1:AV=>(.ex fun O1:T AObj=>(.seq [.run 7,.hop (sl) O,.hopn (.ptr i1 i2 i3) O (N),.hop (.int .u8 z2) O,.run 2,.op,.run 8,.hop (sl) O,.hop (s1) O,.run 2,.hopn (.nilp) O1 (N),.run 7,.keep [4]] .fin)))))))))) ((AM.mk (enF 52 [.ptr mk 0 0,.int .i64 n]) rest ⟨O,N,G⟩)):=by kernel_rfl
theorem zol:(∃ (O1:T AObj) (O2:T AObj),(T.set ((some (.cells (tW (tW (tW (tY (.str [])) (.str []) tZ) (.str []) (tY (.str []))) (.str []) (tW (tW (tY (.str [])) (.str []) tZ) (.str []) (tY (.str [])))) 9 116 0 0 1 0 false .leaf))) (O) (N)=O1)∧(zc (⟨O1,N+1,G⟩) (N) (0) (0) ([.str [UInt8.ofNat (97)],.str [UInt8.ofNat (98)],.str [UInt8.ofNat (99)],.str [UInt8.ofNat (100)],.str [UInt8.ofNat (95),UInt8.ofNat (120)],.str [UInt8.ofNat (97)],.str [UInt8.ofNat (98)],.str [],.str [UInt8.ofNat (49)]])=(some ⟨O2,N+1,G⟩))∧K (AM.mk (enF 52 [.ptr mk 0 0,.int .i64 20]) ((zr8 N mk)::rest) ⟨O2,N+1,G⟩))=OT f0 R keep K (.ex fun O1:T AObj=>(.ex fun O2:T AObj=>(.seq [.run 7,.hop (.nilp) O1,.hop (.nilp) O2,.run 5,.keep [0,3,5],.run 1] .fin))) ((AM.mk (enF 83 [.ptr mk 0 0]) rest ⟨O,N,G⟩)):=by kernel_rfl
theorem zes:(((decide (crq0<(19:Int)))=true→(K (AM.mk (enF 52 [.ptr mk 0 0,.int .i64 7]) ((zfq mk Nc)::rest) ⟨O,N,G⟩)))∧((decide (crq0<(19:Int)))=false→(K (AM.mk (enF 52 [.ptr mk 0 0,.int .i64 9]) ((zfX mk Nc)::rest) ⟨O,N,G⟩))))=OT f0 R keep K (.seq [.run 3] (.fork 7 (.seq [.run 4,.keep [3,8],.run 1] .fin) (.seq [.run 5,.keep [3,12],.run 1] .fin))) ((AM.mk (RF 52 30 (tX tZ (tX (tY (.int .i64 crq0)) tZ)) td) ((zr8 Nc mk)::rest) ⟨O,N,G⟩)):=by kernel_rfl
theorem zec:(∃ (l1:List UInt8),((0:Int)≤crq1∧crq1<(↑9:Int))∧(zb (⟨O,N,G⟩) (Nc) (0) (0+crq1.toNat*1) (1)=(some [.str l1]))∧K (AM.mk (RF 83 16 (tX tZ (tY (.str l1))) [cdi 52 [1,0,1,0,1],cdi 83 [1,1,1]]) rest ⟨O,N,G⟩))=OT f0 R keep K (.ex fun l1:List UInt8=>(.seq [.run 1,.op,.hop (.str l1) O,.run 3,.keep [2]] .fin)) ((AM.mk (RF 52 30 (tX tZ (tX (tY (.int .i64 crq1)) tZ)) td) ((zfq mk Nc)::rest) ⟨O,N,G⟩)):=by kernel_rfl
theorem zdp:(∃ (l1:List UInt8),((0:Int)≤crq1∧crq1<(↑9:Int))∧(zb (⟨O,N,G⟩) (Nc) (0) (0+crq1.toNat*1) (1)=(some [.str l1]))∧K (AM.mk (RF 83 16 (tX tZ (tY (.str l1))) [cdi 52 [1,0,1,0,1]]) rest ⟨O,N,G⟩))=OT f0 R keep K (.ex fun l1:List UInt8=>(.seq [.run 1,.op,.hop (.str l1) O,.run 3,.keep [2]] .fin)) ((AM.mk (RF 52 30 (tX tZ (tX (tY (.int .i64 crq1)) tZ)) td) ((zfX mk Nc)::rest) ⟨O,N,G⟩)):=by kernel_rfl
theorem zo3:(K (AM.mk (enF 52 [.ptr mk 0 0,.int .i64 4]) ((zsc n mk)::rest) ⟨O,N,G⟩))=OT f0 R keep K (.seq [.run 12,.keep [0,1,5,7],.run 1] .fin) ((AM.mk (enF 82 [.ptr mk 0 0,.int .i64 n]) rest ⟨O,N,G⟩)):=by kernel_rfl
theorem zmh:(K (znD n crq0 mk (.nils 0 0) rest O N G))=OT f0 R keep K (.seq [.run 5,.keep [0,1,5,6]] .fin) ((AM.mk (RF 52 30 (tX tZ (tX (tY (.int .i64 crq0)) tZ)) td) ((zsc n mk)::rest) ⟨O,N,G⟩)):=by kernel_rfl
theorem zms:(((decide (j > (0:Int)))=true→(K (AM.mk (enF 41 [.ptr mk 0 0,.int .i64 n]) ((zmN n j mk sl2)::rest) ⟨O,N,G⟩)))∧((decide (j > (0:Int)))=false→(K (AM.mk (RF 82 20 (tX tZ (tX (tY sl2) tZ)) [cdi 82 [1,1,1,1]]) rest ⟨O,N,G⟩))))=OT f0 R keep K (.seq [.run 6] (.fork 10 (.seq [.run 8,.keep [0,1,6,13,14,15],.run 1] .fin) (.seq [.run 8,.keep [4]] .fin))) ((znD n j mk sl2 rest O N G)):=by kernel_rfl
theorem zg2:(∃ (O1:T AObj) (s1:AV) (O2:T AObj) (N1:Nat),(zg P (⟨O,N,G⟩) (33) (1) ([(0,prq0)])=(some (.slc N 0 0 1 1,⟨O1,N+1,G⟩)))∧(zi P (⟨O1,N+1,G⟩) (Builtin.append) ((some 33)) ((some 33)) ([sl2,.slc N 0 0 1 1])=(some (.val s1 ⟨O2,N1,G⟩)))∧K (znD n (IntKind.i64.wrap (j - (1:Int))) mk s1 rest O2 N1 G))=OT f0 R keep K (.ex fun O1:T AObj=>(.ex fun s1:AV=>(.ex fun O2:T AObj=>(.ex fun N1:Nat=>(.seq [.run 1,.hopn (.slc N 0 0 1 1) O1 (N+1),.hopn (s1) O2 (N1),.run 9,.keep [0,1,5,6]] .fin))))) ((AM.mk (RF 41 137 (tX tZ (tX (tY prq0) tZ)) td) ((zmN n j mk sl2)::rest) ⟨O,N,G⟩)):=by kernel_rfl
theorem zhz:((lC O N G q 0 (.int .i64 k2))∧(((k2==(7:Int)))=true→((lC O N G q 2 sn2)∧(lC O N G q 3 sa2)∧K (AM.mk (enF 23 [sn2,sa2]) ((zpv q k2 sn2 sa2)::rest) ⟨O,N,G⟩)))∧(((k2==(7:Int)))=false→((((k2==(8:Int)))=true→((lC O N G q 3 sa2)∧(lC O N G q 4 rp2)∧K (AM.mk (enF 28 [sa2,rp2]) ((zj4 q k2 sa2 rp2)::rest) ⟨O,N,G⟩)))∧(((k2==(8:Int)))=false→((((k2==(9:Int)))=true→((lC O N G q 3 sa2)∧K (AM.mk (enF 26 [sa2]) ((zhG sa2)::rest) ⟨O,N,G⟩)))∧(((k2==(9:Int)))=false→(K (AM.mk (RF 84 44 (tX (tX (tY (.int .i64 0)) tZ) (tY (.ptr q 0 0))) [cdi 84 [1,0,1,0,1,0,1]]) rest ⟨O,N,G⟩))))))))=OT f0 R keep K (.seq [.run 11,.hop (.int .i64 k2) O,.run 7] (.fork 8 (.seq [.run 6,.hop (sn2) O,.run 3,.hop (sa2) O,.run 1] .fin) (.seq [.run 6] (.fork 21 (.seq [.run 6,.hop (sa2) O,.run 3,.hop (rp2) O,.run 1] .fin) (.seq [.run 6] (.fork 34 (.seq [.run 6,.hop (sa2) O,.keep [39],.run 1] .fin) (.seq [.run 10,.keep [2,3]] .fin))))))) ((AM.mk (enF 84 [.ptr q 0 0]) rest ⟨O,N,G⟩)):=by kernel_rfl
theorem ziN:(K (AM.mk (RF 84 44 (tX (tX (tY (.int .i64 crq0)) tZ) (tY prq0)) [cdi 84 [1,0,1,0,1,0,1],.inBlock 0,cdi 84 [1,1]]) rest ⟨O,N,G⟩))=OT f0 R keep K (.seq [.run 7,.keep [2,3]] .fin) ((AM.mk (RF 23 135 (tX (tX tZ (tY (.int .i64 crq0))) (tX (tY prq0) tZ)) td) ((zpv q k2 sn2 sa2)::rest) ⟨O,N,G⟩)):=by kernel_rfl
theorem zgq:(K (AM.mk (RF 84 44 (tX (tX (tY (.int .i64 crq0)) tZ) (tY prq0)) [cdi 84 [1,0,1,0,1,0,1],.inBlock 0,cdi 84 [1,1]]) rest ⟨O,N,G⟩))=OT f0 R keep K (.seq [.run 7,.keep [2,3]] .fin) ((AM.mk (RF 28 31 (tX (tX tZ (tY (.int .i64 crq0))) (tX (tY prq0) tZ)) td) ((zj4 q k2 sa2 rp2)::rest) ⟨O,N,G⟩)):=by kernel_rfl
theorem zew:(K (AM.mk (RF 84 44 (tX (tX (tY (.int .i64 crq0)) tZ) (tY prq0)) [cdi 84 [1,0,1,0,1,0,1],.inBlock 0,cdi 84 [1,1]]) rest ⟨O,N,G⟩))=OT f0 R keep K (.seq [.run 7,.keep [2,3]] .fin) ((AM.mk (RF 26 129 (tX (tX (tY (.int .i64 crq0)) tZ) (tY prq0)) td) ((zhG sa2)::rest) ⟨O,N,G⟩)):=by kernel_rfl
end
variable {O O':T AObj} {N:Nat} {G:T (T AV)}
def MK2 (O:T AObj) (hi mk:Nat) (xs:List UInt8) (nn:Int):Prop:=∃ sl,Obj O mk [sl,.int .i64 nn]∧SVe O hi xs sl
theorem MK2.same {hi mk:Nat}{xs:List UInt8}{nn:Int}(h:MK2 O hi mk xs nn)(e:∀ j,j<hi→O'.get j=O.get j)(e2:O'.get mk=O.get mk):MK2 O' hi mk xs nn:=by
 obtain ⟨sl,ob,sv⟩:=h;exact ⟨sl,ob.same e2,sv.keep e⟩
def nx (n:Int) (xs:List UInt8):Int × List UInt8:=match xs with
 | []=>(0,[])
 | x::r=>((bi x).tmod n,r)
theorem zl {hi mk:Nat}{xs:List UInt8}{nn n c:Int}{ys:List UInt8}(hx:nx n xs=(c,ys))(hm:MK2 O hi mk xs nn)(hmk:hi≤mk)(hn:0<n){keep:Nat}{f0:FuncId}{Q:AV→AHeap→Prop}{rest:List AFrame}
 (hK:∀ O' td,0≤c→c<n→(∀ j,j≠mk→O'.get j=O.get j)→MK2 O' hi mk ys nn→Goal P keep f0 Q (AM.mk (RF 52 30 (tX tZ (tX (tY (.int .i64 c)) tZ)) td) rest ⟨O',N,G⟩)):Goal P keep f0 Q (AM.mk (enF 52 [.ptr mk 0 0,.int .i64 n]) rest ⟨O,N,G⟩):=by
 obtain ⟨sl,ob,sv⟩:=hm;cases xs with
 | nil =>
  cases hx;refine ot (ztr (sl:=sl)) ⟨_,ob.ld 0 rfl,sv.len _ _,fkt ((by simp)) ?_⟩;exact hK O _ (Int.le_refl _) hn (fun _ _=>rfl) ⟨sl,ob,sv⟩
 | cons x xs =>
  obtain ⟨rfl,rfl⟩:(bi x).tmod n=c∧xs=ys:=Prod.mk.inj hx;have svl:=sv
  replace sv:=sv.resolve_right (fun h=>by cases h.2)
  obtain ⟨i1,i2,i3,lo1,hi1,eA,rd,_⟩:=sv.at (j:=0) bSl bEn rfl;obtain ⟨s1,es,sv1,_⟩:=sv.sub bSl bEn (a:=1) (b:=(x::xs).length) (by simp) (Nat.le_refl _) (some 1) none (.inl rfl) (.inr ⟨rfl,rfl⟩) N G;obtain ⟨O1,st,b1,f1⟩:=ob.store 0 [s1] N G (Nat.le_of_ble_eq_true rfl) (by simp only [List.all_cons,List.all_nil,Bool.and_true]; exact sv1.one);have hz:IntKind.i64.wrap (bi x)=bi x:=by
   have:=x.toNat_lt;unfold bi;rw [IntKind.wrap_i64];omega
  have hb0:0≤bi x:=by unfold bi; omega
  refine ot (ztr (sl:=sl)) ⟨_,ob.ld 0 rfl,svl.len _ _,fkf ((by simp; omega)) ?_⟩;refine ⟨_,_,_,(bi x),s1,O1,ob.ld 0 rfl,eA,rd.load rfl _ _,(by omega),ob.ld 0 rfl,es,(by rw [sv1.cells]; exact ⟨rfl,st⟩),?_⟩;have sv2:=sv1.keep (O':=O1) (fun j _ hj=>f1 j (by omega)) (Nat.le_refl 0) (Nat.le_refl hi);rw [show ((x::xs).drop 1).take ((x::xs).length - 1)=xs by simp] at sv2;rw [hz];exact hK O1 _ (Int.tmod_nonneg _ hb0) (Int.tmod_lt_of_pos _ hn) (fun j hj=>f1 j hj) ⟨s1,b1,.inl sv2⟩
theorem pick {id k:Nat}{tab:List (List UInt8)}(ob:Obj O id (tab.map AV.str))(hk:k<tab.length)(N:Nat)(G:T (T AV)):zb ⟨O,N,G⟩ id 0 (0+k*1) 1=some [.str (tab.getD k [])]:=by
 have e:=ob.load (0+k*1) N G (by rw [List.length_map]; omega);rw [List.getD_eq_getElem?_getD,show 0+k*1=k by omega,List.getElem?_map,List.getElem?_eq_getElem hk] at e;rw [show 0+k*1=k by omega,List.getD_eq_getElem?_getD,List.getElem?_eq_getElem hk];exact e
def tab9:List (List UInt8):=[[97],[98],[99],[100],[95,120],[97],[98],[],[49]]
theorem zni (xs:List UInt8):∃ (s ys:List UInt8),∀ {hi mk:Nat} {nn:Int} {O:T AObj} {N:Nat} {G:T (T AV)} {keep:Nat} {f0:FuncId} {Q:AV→AHeap→Prop} {rest:List AFrame},hi≤mk→MK2 O hi mk xs nn→mk<N →
 (∀ (O':T AObj) (N':Nat) (td:List AItem),N≤N'→(∀ j,j<N→j≠mk→O'.get j=O.get j)→MK2 O' hi mk ys nn→Goal P keep f0 Q (AM.mk (RF 83 16 (tX tZ (tY (.str s))) td) rest ⟨O',N',G⟩))→Goal P keep f0 Q (AM.mk (enF 83 [.ptr mk 0 0]) rest ⟨O,N,G⟩):=by
 rcases h1:nx 20 xs with ⟨c,y1⟩;rcases h2:nx 7 y1 with ⟨c7,y7⟩;rcases h3:nx 9 y1 with ⟨c9,y9⟩
 by_cases hc:c<19
 ·refine ⟨tab9.getD c7.toNat [],y7,?_⟩;intro hi mk nn O N G keep f0 Q rest hmk hm hmN hK;obtain ⟨O1v,e10,b10,f10⟩:=Obj.mk (c:=(tW (tW (tW (tY (.str [])) (.str []) tZ) (.str []) (tY (.str []))) (.str []) (tW (tW (tY (.str [])) (.str []) tZ) (.str []) (tY (.str []))))) (el:=116) [(.str []),(.str []),(.str []),(.str []),(.str []),(.str []),(.str []),(.str []),(.str [])] O N 9 rfl (fun u hu=>by rcases u with _ | _ | _ | _ | _ | _ | _ | _ | _ | u <;> first | rfl | omega)
  obtain ⟨O2v,e11,b11,f11⟩:=b10.store 0 [.str [UInt8.ofNat (97)],.str [UInt8.ofNat (98)],.str [UInt8.ofNat (99)],.str [UInt8.ofNat (100)],.str [UInt8.ofNat (95),UInt8.ofNat (120)],.str [UInt8.ofNat (97)],.str [UInt8.ofNat (98)],.str [],.str [UInt8.ofNat (49)]] (N+1) G (Nat.le_of_ble_eq_true rfl) rfl;refine ot zol ⟨O1v,O2v,e10,e11,?_⟩;have b2:=b11;have lo2:∀ j,j<N→O2v.get j=O.get j:=fun j hj=>(f11 j (by omega)).trans (f10 j (by omega));have m2:MK2 O2v hi mk xs nn:=hm.same (fun j hj=>lo2 j (by omega)) (lo2 mk hmN);refine zl h1 m2 hmk (by omega) fun O3 td3 c0 c20 f3 m3=>?_;have b3:=b2.same (f3 N (by omega));refine ot zes (fkt (decide_eq_true hc) ?_);refine zl h2 m3 hmk (by omega) fun O4 td4 c20' c2n f4 m4=>?_;have b4:=b3.same (f4 N (by omega));exact ot zec ⟨_,⟨c20',by omega⟩,pick (tab:=tab9) b4 (show c7.toNat<9 by omega) _ _,hK O4 (N+1) _ (by omega) (fun j h1 h2=>(f4 j h2).trans ((f3 j h2).trans (lo2 j h1))) m4⟩
 ·refine ⟨tab9.getD c9.toNat [],y9,?_⟩;intro hi mk nn O N G keep f0 Q rest hmk hm hmN hK;obtain ⟨O1v,e14,b14,f14⟩:=Obj.mk (c:=(tW (tW (tW (tY (.str [])) (.str []) tZ) (.str []) (tY (.str []))) (.str []) (tW (tW (tY (.str [])) (.str []) tZ) (.str []) (tY (.str []))))) (el:=116) [(.str []),(.str []),(.str []),(.str []),(.str []),(.str []),(.str []),(.str []),(.str [])] O N 9 rfl (fun u hu=>by rcases u with _ | _ | _ | _ | _ | _ | _ | _ | _ | u <;> first | rfl | omega)
  obtain ⟨O2v,e15,b15,f15⟩:=b14.store 0 [.str [UInt8.ofNat (97)],.str [UInt8.ofNat (98)],.str [UInt8.ofNat (99)],.str [UInt8.ofNat (100)],.str [UInt8.ofNat (95),UInt8.ofNat (120)],.str [UInt8.ofNat (97)],.str [UInt8.ofNat (98)],.str [],.str [UInt8.ofNat (49)]] (N+1) G (Nat.le_of_ble_eq_true rfl) rfl;refine ot zol ⟨O1v,O2v,e14,e15,?_⟩;have b2:=b15;have lo2:∀ j,j<N→O2v.get j=O.get j:=fun j hj=>(f15 j (by omega)).trans (f14 j (by omega));have m2:MK2 O2v hi mk xs nn:=hm.same (fun j hj=>lo2 j (by omega)) (lo2 mk hmN);refine zl h1 m2 hmk (by omega) fun O3 td3 c0 c20 f3 m3=>?_;have b3:=b2.same (f3 N (by omega));refine ot zes (fkf (decide_eq_false hc) ?_);refine zl h3 m3 hmk (by omega) fun O4 td4 c20' c2n f4 m4=>?_;have b4:=b3.same (f4 N (by omega));exact ot zdp ⟨_,⟨c20',by omega⟩,pick (tab:=tab9) b4 (show c9.toNat<9 by omega) _ _,hK O4 (N+1) _ (by omega) (fun j h1 h2=>(f4 j h2).trans ((f3 j h2).trans (lo2 j h1))) m4⟩
def NM (t:Ty):Prop:=okT t=true→nmT t=true
def HN (nm:ze):Prop:=zK nm=true→nm.contains 46=true
theorem NM.no:NM .no:=fun _=>rfl
theorem HN.nil:HN []:=fun h=>by cases h
theorem NM.mk {k:Int}{nm:ze}{ns:List ze}{ts:List Ty}{r:Ty}(h:HN nm)(ht:∀ x∈ts,NM x)(hr:NM r):NM (.mk k nm ns ts r):=fun ok=>by
 obtain ⟨h1,h2,h3,h4⟩:=xG ok;refine zmo (fun e=>h (by subst e; exact h4)) (fun x hx=>ht x hx (h2 x hx)) ?_;rcases h3 with h3 | h3
 ·cases r with
  | no=>rfl
  | mk=>cases h3
 ·exact hr h3
theorem NM.int:NM (.mk 2 [] [] [] .no):=NM.mk HN.nil (fun x hx=>by cases hx) NM.no
theorem NM.cons {t:Ty}{us:List Ty}(a:NM t)(b:∀ x∈us,NM x):∀ x∈t::us,NM x:=fun x hx=>(List.mem_cons.1 hx).elim (fun h=>h▸a) (b x)
theorem zkA {ts:List Ty}(h:∀ x∈ts,NM x)(hc:ts.all (fun x=>chk x==0)=true):∀ x∈ts,nmT x=true:=fun x hx=>h x hx (tp.chk_ok (by simpa using List.all_eq_true.1 hc x hx)).1
theorem zqc {ns:List ze}{ts:List Ty}(h:∀ x∈ts,NM x):nmT (y0 ns ts).2=true:=by
 by_cases hc:ts.all (fun x=>chk x==0)=true
 ·exact zsV (zkA h hc)
 ·unfold y0;rw [if_neg fun g=>hc g.2];rfl
theorem zqT {ts:List Ty}(h:∀ x∈ts,NM x):nmT (vh ts).2=true:=by
 by_cases hc:ts.all (fun x=>chk x==0)=true
 ·exact zsC (zkA h hc)
 ·unfold vh;rw [if_neg fun g=>hc g.2];rfl
theorem zpV {ts:List Ty}{r:Ty}(h:∀ x∈ts,NM x)(hr:NM r):nmT (zbK ts r).2=true:=by
 unfold zbK;split
 ·rename_i hc;unfold kv;split
  ·rfl
  ·exact zmo (fun e=>absurd e (by decide)) (zkA h hc.1) (hr (tp.chk_ok hc.2).1)
 ·rfl
def zpS (d:Nat):Prop:=∀ (xs:List UInt8) (nn:Int),∃ (t:Ty) (ys:List UInt8) (nn':Int),NM t∧∀ {hi mk:Nat} {A:Nat→Prop} {O:T AObj} {N:Nat} {G:T (T AV)} {keep:Nat} {f0:FuncId} {Q:AV→AHeap→Prop} {rest:List AFrame},hi≤mk→MK2 O hi mk xs nn→mk<N→(∀ j,A j→j<N)→A mk →
 (∀ (O':T AObj) (N':Nat) (td:List AItem) (p:Option Nat),N≤N'→(∀ j,j<N→j≠mk→O'.get j=O.get j)→MK2 O' hi mk ys nn'→Tra O' N' A t p→Goal P keep f0 Q (AM.mk (RF 41 137 (tX tZ (tX (tY (pv p)) tZ)) td) rest ⟨O',N',G⟩))→Goal P keep f0 Q (AM.mk (enF 41 [.ptr mk 0 0,.int .i64 ((d:Nat):Int)]) rest ⟨O,N,G⟩)
def znf (d:Nat):Prop:=∀ (xs:List UInt8) (nn:Int),∃ (ts:List Ty) (ys:List UInt8) (nn':Int),ts.length≤3∧(∀ x∈ts,NM x)∧∀ {hi mk:Nat} {A:Nat→Prop} {O:T AObj} {N:Nat} {G:T (T AV)} {keep:Nat} {f0:FuncId} {Q:AV→AHeap→Prop} {rest:List AFrame},hi≤mk→MK2 O hi mk xs nn→mk<N→(∀ j,A j→j<N)→A mk →
 (∀ (O':T AObj) (N':Nat) (td:List AItem) (ps:List (Option Nat)) (s:AV),N≤N'→(∀ j,j<N→j≠mk→O'.get j=O.get j)→MK2 O' hi mk ys nn'→GV O' 23 1 pE N N' ps s→ps.length=ts.length→(∀ (j:Nat) (x:Ty) (p:Option Nat),ts[j]?=some x→ps[j]?=some p→Tra O' N' (AvS A s) x p)→Goal P keep f0 Q (AM.mk (RF 82 20 (tX tZ (tX (tY s) tZ)) td) rest ⟨O',N',G⟩))→Goal P keep f0 Q (AM.mk (enF 82 [.ptr mk 0 0,.int .i64 ((d:Nat):Int)]) rest ⟨O,N,G⟩)
theorem zdR {d:Nat}(one:zpS d):znf d:=by
 intro xs nn;have loop:∀ (k:Nat) (zs:List UInt8) (n2:Int),∃ (us:List Ty) (ys:List UInt8) (nn':Int),us.length=k∧(∀ x∈us,NM x)∧∀ {hi mk:Nat} {A:Nat→Prop} {O:T AObj} {N:Nat} {G:T (T AV)} {keep:Nat} {f0:FuncId} {Q:AV→AHeap→Prop} {rest:List AFrame} (ts:List Ty),hi≤mk→mk<N→(∀ j,A j→j<N)→A mk→ts.length+k≤3 →
  (∀ (O':T AObj) (N':Nat) (td:List AItem) (ps:List (Option Nat)) (s:AV),N≤N'→(∀ j,j<N→j≠mk→O'.get j=O.get j)→MK2 O' hi mk ys nn'→GV O' 23 1 pE N N' ps s→ps.length=(ts++us).length→(∀ (j:Nat) (x:Ty) (p:Option Nat),(ts++us)[j]?=some x→ps[j]?=some p→Tra O' N' (AvS A s) x p)→Goal P keep f0 Q (AM.mk (RF 82 20 (tX tZ (tX (tY s) tZ)) td) rest ⟨O',N',G⟩)) →
  ∀ (O2:T AObj) (N2:Nat) (ps:List (Option Nat)) (s:AV),N≤N2→(∀ j,j<N→j≠mk→O2.get j=O.get j)→MK2 O2 hi mk zs n2→GV O2 23 1 pE N N2 ps s→ps.length=ts.length→(∀ (j:Nat) (x:Ty) (p:Option Nat),ts[j]?=some x→ps[j]?=some p→Tra O2 N2 (AvS A s) x p)→Goal P keep f0 Q (znD ((d:Nat):Int) ((k:Nat):Int) mk s rest O2 N2 G):=by
  intro k
  induction k with
  | zero =>
   intro zs n2;refine ⟨[],zs,n2,rfl,(fun x hx=>by cases hx),?_⟩;intro hi mk A O N G keep f0 Q rest ts hmk hmN hA hAm h3 hK O2 N2 ps s hNN hO m2 gv hl hr;rw [List.append_nil] at hK;refine ot zms (fkf (decide_eq_false (by omega)) ?_);exact hK O2 N2 _ ps s hNN hO m2 gv hl hr
  | succ k ih =>
   intro zs n2;obtain ⟨t,y1,n1,nmt,onek⟩:=one zs n2;obtain ⟨us,ys,nn',hus,nmu,run⟩:=ih y1 n1;refine ⟨t::us,ys,nn',by rw [List.length_cons,hus],NM.cons nmt nmu,?_⟩;intro hi mk A O N G keep f0 Q rest ts hmk hmN hA hAm h3 hK O2 N2 ps s hNN hO m2 gv hl hr;refine ot zms (fkt (decide_eq_true (by omega)) ?_);refine onek (A:=AvS A s) hmk m2 (by omega) (fun j hj=>hj.elim (fun h=>by have:=hA j h; omega) fun h=>by have:=gv.sid_lt h.1; omega) (.inl hAm) fun O3 N3 td3 p hN3 hO3 m3 tx=>?_;have gv3:=gv.same (O':=O3) (fun hs=>hO3 _ (gv.sid_lt hs).2 (by have:=(gv.sid_lt hs).1; omega)) (Nat.le_refl _) hN3;have hr3:=fun (j:Nat) (x:Ty) (p:Option Nat) a b=>(hr j x p a b).same (O':=O3) (fun i h1 h2=>hO3 i h1 (fun h=>h2 (.inl (h▸hAm)))) hN3;obtain ⟨O4,s1,O5,N5,e1,e2,g5,n5,f5,r5⟩:=zlU gv3 (by omega) hl (by omega) hr3 tx G;have nx:=run (ts++[t]) hmk hmN hA hAm (by rw [List.length_append]; simp only [List.length_cons,List.length_nil]; omega) (by rw [List.append_assoc]; exact hK) O5 N5 (ps++[p]) s1 (by omega) (fun j h1 h2=>(f5 j (by omega) (fun hs=>by have:=(gv.sid_lt hs).1; omega)).trans ((hO3 j (by omega) h2).trans (hO j h1 h2))) (m3.same (fun j hj=>f5 j (by omega) (fun hs=>by have:=(gv.sid_lt hs).1; omega)) (f5 mk (by omega) (fun hs=>by have:=(gv.sid_lt hs).1; omega))) g5 (by rw [List.length_append,List.length_append,hl]; rfl) r5;rw [show ((k:Nat):Int)=IntKind.i64.wrap (((k+1:Nat):Int) - (1:Int)) by rw [IntKind.wrap_i64]; omega] at nx;exact ot zg2 ⟨_,_,_,_,e1,e2,nx⟩
 rcases h1:nx 4 xs with ⟨c,y1⟩;obtain ⟨us,ys,nn',hus,nmu,run⟩:=loop c.toNat y1 nn
 by_cases hc3:c.toNat≤3
 ·refine ⟨us,ys,nn',by omega,nmu,?_⟩;intro hi mk A O N G keep f0 Q rest hmk hm hmN hA hAm hK;refine ot zo3 ?_;refine zl h1 hm hmk (by omega) fun O1 td c0 c4 f1 m1=>?_;refine ot zmh ?_;have:=run (A:=A) (O:=O) (N:=N) (G:=G) (keep:=keep) (f0:=f0) (Q:=Q) (rest:=rest) [] hmk hmN hA hAm (by simp only [List.length_nil]; omega) hK O1 N [] (.nils 0 0) (Nat.le_refl _) (fun j _ h2=>f1 j h2) m1 GV.nil rfl (fun j x p h=>by simp at h);rw [show ((c.toNat:Nat):Int)=c by omega] at this;exact this
 ·refine ⟨[],[],0,by simp,(fun x hx=>by cases hx),?_⟩;intro hi mk A O N G keep f0 Q rest hmk hm hmN hA hAm hK;refine ot zo3 ?_;refine zl h1 hm hmk (by omega) fun O1 td c0 c4 f1 m1=>?_;omega
structure RAW (O:T AObj) (N:Nat) (A:Nat→Prop) (m:Nat) (k:Int) (nm:List UInt8) (ns:List (List UInt8)) (ts:List Ty) (r:Ty) (sn sa:AV) (ps:List (Option Nat)) (q:Option Nat):Prop where
 lt:m<N
 nA:¬ A m
 ob:Obj O m [.int .i64 k,.str nm,sn,sa,pv q]
 vn:SV O 1 sE 0 N ns sn
 mn:sn≠.nils 0 0→¬ A (sid sn)∧sid sn≠m
 va:SV O 1 pE 0 N ps sa
 ma:sa≠.nils 0 0→¬ A (sid sa)∧sid sa≠m
 l1:ps.length=ts.length
 l2:ts.length≤3
 l3:ns.length≤3
 hr:∀ (j:Nat) (x:Ty) (p:Option Nat),ts[j]?=some x→ps[j]?=some p→Tra O N (fun j=>A j∨j=m) x p
 hq:Tra O N (fun j=>A j∨j=m) r q
variable {A:Nat→Prop} {m:Nat} {k:Int} {nm:List UInt8} {ns:List (List UInt8)} {ts:List Ty} {r:Ty} {sn sa:AV} {ps:List (Option Nat)} {q:Option Nat}
theorem RAW.same (h:RAW O N A m k nm ns ts r sn sa ps q)(e:∀ j,j<N→¬ A j→O'.get j=O.get j):RAW O' N A m k nm ns ts r sn sa ps q :=
 ⟨h.lt,h.nA,h.ob.same (e m h.lt h.nA),h.vn.same (fun hn=>e _ (h.vn.sid_lt hn).2 (h.mn hn).1) (Nat.le_refl _) (Nat.le_refl _),h.mn,h.va.same (fun hn=>e _ (h.va.sid_lt hn).2 (h.ma hn).1) (Nat.le_refl _) (Nat.le_refl _),h.ma,h.l1,h.l2,h.l3,fun j x p a b=>(h.hr j x p a b).same (fun i h1 h2=>e i h1 (fun h=>h2 (.inl h))) (Nat.le_refl _),h.hq.same (fun i h1 h2=>e i h1 (fun h=>h2 (.inl h))) (Nat.le_refl _)⟩
theorem RAW.put (h:RAW O N A m k nm ns ts r sn sa ps q)(f:Frm O O' m){k':Int}{nm':List UInt8}(b:Obj O' m [.int .i64 k',.str nm',sn,sa,pv q]):RAW O' N A m k' nm' ns ts r sn sa ps q :=
 ⟨h.lt,h.nA,b,h.vn.same (fun hn=>f _ (h.mn hn).2) (Nat.le_refl _) (Nat.le_refl _),h.mn,h.va.same (fun hn=>f _ (h.ma hn).2) (Nat.le_refl _) (Nat.le_refl _),h.ma,h.l1,h.l2,h.l3,fun j x p a b=>(h.hr j x p a b).same (fun i h1 h2=>f i (fun e=>h2 (.inr e))) (Nat.le_refl _),h.hq.same (fun i h1 h2=>f i (fun e=>h2 (.inr e))) (Nat.le_refl _)⟩
theorem RAW.node (h:RAW O N A m k nm ns ts r sn sa ps q):Tra O N A (.mk k nm ns ts r) (some m) :=
 Tra.node h.lt h.nA h.ob h.vn (fun hn=>(h.mn hn).1) h.va (fun hn=>(h.ma hn).1) h.l1 (by have:=h.l2; omega) (by have:=h.l3; omega) (fun j x p a b=>(h.hr j x p a b).imp fun _ _=>.inl) (h.hq.imp fun _ _=>.inl)
def zcA (k:Int) (nm:List UInt8) (ns:List (List UInt8)) (ts:List Ty) (r:Ty):Int × Ty:=if k=7 then y0 ns ts else if k=8 then zbK ts r else if k=9 then vh ts else (0,.mk k nm ns ts r)
theorem zhZ (h:RAW O N A m k nm ns ts r sn sa ps q)(hA:∀ j,A j→j<N){keep:Nat}{f0:FuncId}{Q:AV→AHeap→Prop}{rest:List AFrame}
 (hK:∀ O' N' td p',Ext O N O' N'→Tra O' N' A (zcA k nm ns ts r).2 p'→Goal P keep f0 Q (AM.mk (RF 84 44 (tX (tX (tY (.int .i64 (zcA k nm ns ts r).1)) tZ) (tY (pv p'))) td) rest ⟨O',N',G⟩)):Goal P keep f0 Q (AM.mk (enF 84 [.ptr m 0 0]) rest ⟨O,N,G⟩):=by
 by_cases h7:k=7
 ·rw [show zcA k nm ns ts r=y0 ns ts from if_pos h7] at hK
  refine ot (zhz (k2:=k) (sn2:=sn) (sa2:=sa) (rp2:=pv q)) ⟨h.ob.ld 0 rfl,fkt ((by rw [h7]; rfl)) ?_⟩;refine ⟨h.ob.ld 2 rfl,h.ob.ld 3 rfl,?_⟩;refine zkB (mk:=A) h.vn h.va h.l1 (by have:=h.l2; omega) (fun j x p a b=>(h.hr j x p a b).imp fun _ _=>.inl) (Nat.le_refl _) hA fun O8 N8 td8 p8 ex8 tx8=>?_;exact ot ziN (hK O8 N8 _ p8 ex8 tx8)
 by_cases h8:k=8
 ·rw [show zcA k nm ns ts r=zbK ts r from (if_neg h7).trans (if_pos h8)] at hK
  refine ot (zhz (k2:=k) (sn2:=sn) (sa2:=sa) (rp2:=pv q)) ⟨h.ob.ld 0 rfl,fkf ((beq_eq_false_iff_ne.2 h7)) ?_⟩;refine fkt ((by rw [h8]; rfl)) ?_;refine ⟨h.ob.ld 3 rfl,h.ob.ld 4 rfl,?_⟩;refine zdI (mk:=A) h.va h.l1 (by have:=h.l2; omega) (fun j x p a b=>(h.hr j x p a b).imp fun _ _=>.inl) (h.hq.imp fun _ _=>.inl) (Nat.le_refl _) hA fun O8 N8 td8 p8 ex8 tx8=>?_;exact ot zgq (hK O8 N8 _ p8 ex8 tx8)
 by_cases h9:k=9
 ·rw [show zcA k nm ns ts r=vh ts from (if_neg h7).trans ((if_neg h8).trans (if_pos h9))] at hK
  refine ot (zhz (k2:=k) (sn2:=sn) (sa2:=sa) (rp2:=pv q)) ⟨h.ob.ld 0 rfl,fkf ((beq_eq_false_iff_ne.2 h7)) ?_⟩;refine fkf ((beq_eq_false_iff_ne.2 h8)) ?_;refine fkt ((by rw [h9]; rfl)) ?_;refine ⟨h.ob.ld 3 rfl,?_⟩;refine zmO (mk:=A) h.va h.l1 (by have:=h.l2; omega) (fun j x p a b=>(h.hr j x p a b).imp fun _ _=>.inl) (Nat.le_refl _) hA fun O8 N8 td8 p8 ex8 tx8=>?_;exact ot zew (hK O8 N8 _ p8 ex8 tx8)
 rw [show zcA k nm ns ts r=(0,.mk k nm ns ts r) from (if_neg h7).trans ((if_neg h8).trans (if_neg h9))] at hK
 refine ot (zhz (k2:=k) (sn2:=sn) (sa2:=sa) (rp2:=pv q)) ⟨h.ob.ld 0 rfl,fkf ((beq_eq_false_iff_ne.2 h7)) ?_⟩;refine fkf ((beq_eq_false_iff_ne.2 h8)) ?_;refine fkf ((beq_eq_false_iff_ne.2 h9)) ?_;exact hK O N _ (some m) Ext.refl h.node
end Go.Proofs.Ytcdigdplhlgcaaa.gx
end
section
set_option maxRecDepth 100000
set_option linter.unusedVariables false
set_option linter.unusedSectionVars false
set_option linter.unusedSimpArgs false
namespace Go.Proofs.Ytcdigdplhlgcaaa.gx
open Go Ev tp
noncomputable def zsT (n:Int) (mk:Nat):AFrame:=frm 41 137 (tW (tW (tX tZ (tX (tY (.ptr mk 0 0)) tZ)) (.int .i64 n) tZ) (.ptr mk 0 0) tZ) [opi 41 [1,1,0] 1,cdi 41 [1,1,1]]
noncomputable def zfZ (n:Int) (mk:Nat):AFrame:=frm 41 137 (tW (tW (tX (tX (tX (tY (.ptr mk 0 0)) tZ) tZ) tZ) (.int .i64 n) tZ) (.ptr mk 0 0) tZ) [opi 41 [1,1,1,0,1,0] 1,cdi 41 [1,1,1,1]]
noncomputable def zcT (n:Int) (mk:Nat):AFrame:=frm 41 137 (tW (tW (tX (tX (tX (tY (.ptr mk 0 0)) tZ) tZ) tZ) (.int .i64 n) tZ) (.ptr mk 0 0) tZ) [opi 41 [1,1,1,0,1,0] 1,cdi 41 [1,1,1,1]]
noncomputable def zrx (k:Int) (n:Int) (mk:Nat) (rest:List AFrame) (O:T AObj) (N:Nat) (G:T (T AV)):AM:=⟨frm 41 137 (tW (tW tZ (.int .i64 n) (tY (.int .i64 k))) (.ptr mk 0 0) tZ) [cdi 41 [1,1,1,1]],rest,⟨O,N,G⟩⟩
noncomputable def Fona (k:Int) (n:Int) (mk:Nat):AFrame:=frm 41 137 (tW (tW tZ (.int .i64 n) (tY (.int .i64 k))) (.ptr mk 0 0) (tX tZ (tX (tX (tX (tY (.ptr mk 0 0)) tZ) tZ) tZ))) [opi 41 [1,1,1,1,0] 1,cdi 41 [1,1,1,1,1]]
noncomputable def zh6 (N:Nat) (mk:Nat) (crq0:Int):AFrame:=frm 41 137 (tW (tX (tX (tY (.ptr N 0 0)) tZ) (tX tZ (tX tZ (tX (tY (.ptr mk 0 0)) tZ)))) (.ptr mk 0 0) (tX (tX (tY (.ptr (N+1) 0 0)) (tX tZ (tX (tY (.ptr N 0 0)) tZ))) (tY (.bool (crq0==(29:Int)))))) [opi 41 [1,1,1,1,1,1,0,1,0,1,0,1,0] 2,cdi 41 [1,1,1,1,1,1,0,1,0,1,0,1,1],.inBlock 0,cdi 41 [1,1,1,1,1,1,1]]
noncomputable def zfB (N:Nat) (n:Int) (mk:Nat) (crq0:Int):AFrame:=frm 41 137 (tW (tX (tX (tY (.ptr N 0 0)) tZ) (tX tZ (tX tZ (tX tZ (tY (.ptr N 0 0)))))) (.ptr mk 0 0) (tX (tX (tX (tX (tX (tY (.int .i64 (IntKind.i64.wrap (n - (1:Int))))) tZ) tZ) tZ) tZ) (tW tZ (.bool (crq0==(29:Int))) (tX tZ (tX tZ (tY (.ptr mk 0 0))))))) [opi 41 [1,1,1,1,1,1,0,1,0,1,1,1,0,0] 4,cdi 41 [1,1,1,1,1,1,0,1,0,1,1,1,0,1],.inBlock 0,cdi 41 [1,1,1,1,1,1,1]]
noncomputable def zcK (N:Nat) (n:Int) (mk:Nat) (crq0:Int):AFrame:=frm 41 137 (tW (tW (tX (tY (.ptr N 0 0)) (tX tZ (tX tZ (tX (tY (.ptr mk 0 0)) tZ)))) (.int .i64 n) (tX tZ (tX tZ (tX tZ (tX (tY (.int .i64 (IntKind.i64.wrap (n - (1:Int))))) tZ))))) (.ptr mk 0 0) (tX tZ (tW (tX tZ (tX tZ (tX (tY (.ptr N 0 0)) tZ))) (.bool (crq0==(29:Int))) tZ))) [opi 41 [1,1,1,1,1,1,0,1,0,1,1,1,1,1,0,0] 4,cdi 41 [1,1,1,1,1,1,0,1,0,1,1,1,1,1,0,1],.inBlock 0,cdi 41 [1,1,1,1,1,1,1]]
noncomputable def zcc (N:Nat) (n:Int) (mk:Nat) (crq0:Int):AFrame:=frm 41 137 (tW (tX (tX (tY (.ptr N 0 0)) (tX tZ (tX (tX tZ (tY (.ptr mk 0 0))) tZ))) (tX tZ (tX tZ (tX (tX tZ (tY (.int .i64 (IntKind.i64.wrap (n - (1:Int)))))) tZ)))) (.ptr mk 0 0) (tX tZ (tW (tX tZ (tX (tX tZ (tY (.ptr N 0 0))) tZ)) (.bool (crq0==(29:Int))) tZ))) [opi 41 [1,1,1,1,1,1,0,1,0,1,1,1,1,1,1,1,0] 4,.inBlock 0,cdi 41 [1,1,1,1,1,1,1]]
noncomputable def znF (m:Nat) (mk:Nat) (bl:Bool) (rest:List AFrame) (O:T AObj) (N:Nat) (G:T (T AV)):AM:=⟨frm 41 137 (tW (tX (tX (tY (.ptr m 0 0)) tZ) tZ) (.ptr mk 0 0) (tX tZ (tY (.bool bl)))) [cdi 41 [1,1,1,1,1,1,1]],rest,⟨O,N,G⟩⟩
noncomputable def zam (mk:Nat) (crq0:Int) (Nc:Nat):AFrame:=frm 41 137 (tW (tX (tX (tY (.ptr Nc 0 0)) tZ) (tX tZ (tX (tX tZ (tY (.ptr mk 0 0))) tZ))) (.ptr mk 0 0) (tX (tX (tY (.ptr (Nc+1) 0 0)) (tX (tX tZ (tY (.ptr Nc 0 0))) tZ)) (tY (.bool (crq0==(29:Int)))))) [opi 41 [1,1,1,1,1,1,0,1,0,1,0,1,1,1,0] 2,.inBlock 0,cdi 41 [1,1,1,1,1,1,1]]
noncomputable def Wonc (j:Int) (m:Nat) (mk:Nat) (bl:Bool) (rest:List AFrame) (O:T AObj) (N:Nat) (G:T (T AV)):AM:=⟨frm 41 137 (tW (tX (tX (tY (.ptr m 0 0)) tZ) (tX (tY (.int .i64 j)) tZ)) (.ptr mk 0 0) (tX tZ (tY (.bool bl)))) [cdi 41 [1,1,1,1,1,1,0,1,0,1,1,1,0,1,1,0,0],ili 41 [1,1,1,1,1,1,0,1,0,1,1,1,0,1,1,0,0],.inBlock 1,.inBlock 0,cdi 41 [1,1,1,1,1,1,1]],rest,⟨O,N,G⟩⟩
noncomputable def jh (n:Int) (mk:Nat) (crq0:Int) (Nc:Nat):AFrame:=frm 41 137 (tW (tX (tX (tY (.ptr Nc 0 0)) tZ) (tX (tX (tX (tX tZ (tY (.ptr Nc 0 0))) tZ) tZ) tZ)) (.ptr mk 0 0) (tX (tX tZ (tX (tX (tX tZ (tY (.int .i64 (IntKind.i64.wrap (n - (1:Int)))))) tZ) tZ)) (tW (tX (tX (tX tZ (tY (.ptr mk 0 0))) tZ) tZ) (.bool (crq0==(29:Int))) tZ))) [opi 41 [1,1,1,1,1,1,0,1,0,1,1,1,1,1,0,1] 4,.inBlock 0,cdi 41 [1,1,1,1,1,1,1]]
noncomputable def zrT (m:Nat) (mk:Nat):AFrame:=frm 41 137 (tW (tX (tX (tY (.ptr m 0 0)) tZ) tZ) (.ptr mk 0 0) (tX tZ (tX (tX (tX tZ (tX tZ (tY (.ptr mk 0 0)))) tZ) tZ))) [opi 41 [1,1,1,1,1,1,1,0,1,0,0,0] 1,cdi 41 [1,1,1,1,1,1,1,0,1,0,0,1],cdi 41 [1,1,1,1,1,1,1,0,1,0,1],cdi 41 [1,1,1,1,1,1,1,1]]
noncomputable def Wond (m:Nat) (rest:List AFrame) (O:T AObj) (N:Nat) (G:T (T AV)):AM:=⟨frm 41 137 (tX (tX (tX (tY (.ptr m 0 0)) tZ) tZ) tZ) [cdi 41 [1,1,1,1,1,1,1,1]],rest,⟨O,N,G⟩⟩
noncomputable def zfI (m:Nat) (mk:Nat):AFrame:=frm 41 137 (tW (tX (tX (tY (.ptr m 0 0)) tZ) (tX tZ (tX (tX tZ (tX tZ (tY (.ptr m 0 0)))) tZ))) (.ptr mk 0 0) (tX tZ (tX tZ (tX (tX tZ (tX tZ (tY (.ptr mk 0 0)))) tZ)))) [opi 41 [1,1,1,1,1,1,1,0,1,0,0,1,0] 2,cdi 41 [1,1,1,1,1,1,1,0,1,0,1],cdi 41 [1,1,1,1,1,1,1,1]]
noncomputable def zfM (m:Nat) (mk:Nat):AFrame:=frm 41 137 (tX (tX (tX (tY (.ptr m 0 0)) (tX tZ (tX tZ (tX tZ (tY (.ptr mk 0 0)))))) tZ) tZ) [opi 41 [1,1,1,1,1,1,1,0,1,0,1,0,0] 1,cdi 41 [1,1,1,1,1,1,1,0,1,0,1,0,1],cdi 41 [1,1,1,1,1,1,1,0,1,0,1,1],cdi 41 [1,1,1,1,1,1,1,1]]
noncomputable def zap (m:Nat) (mk:Nat):AFrame:=frm 41 137 (tX (tX (tX (tY (.ptr m 0 0)) (tX tZ (tX tZ (tX tZ (tY (.ptr mk 0 0)))))) tZ) tZ) [opi 41 [1,1,1,1,1,1,1,0,1,0,1,0,0] 1,cdi 41 [1,1,1,1,1,1,1,0,1,0,1,0,1],cdi 41 [1,1,1,1,1,1,1,0,1,0,1,1],cdi 41 [1,1,1,1,1,1,1,1]]
noncomputable def Fond (m:Nat):AFrame:=frm 41 137 (tX tZ (tX (tX (tX (tX (tX (tX (tY (.ptr m 0 0)) tZ) tZ) tZ) tZ) tZ) tZ)) [opi 41 [1,1,1,1,1,1,1,1,0] 1,cdi 41 [1,1,1,1,1,1,1,1,1]]
noncomputable def zr4 (sn2:AV) (sa2:AV) (j:Int) (m:Nat) (mk:Nat) (bl:Bool) (z1:Int):AFrame:=frm 41 137 (tW (tX (tX (tW (tX tZ (tX (tY (.ptr m 0 0)) tZ)) (.ptr m 0 0) (tX (tX (tY (.ptr m 0 3)) tZ) tZ)) tZ) (tX (tW (tX tZ (tX (tY sn2) tZ)) (.int .i64 j) (tX (tX (tY (.int .i64 z1)) tZ) tZ)) (tX (tX (tX (tY (.ptr m 0 0)) tZ) tZ) (tX (tX (tY (.ptr m 0 0)) tZ) tZ)))) (.ptr mk 0 0) (tX (tX (tX (tX tZ (tX (tY (.ptr m 0 2)) tZ)) (tX (tX (tY sa2) tZ) tZ)) (tX (tX (tX (tY (.int .i64 j)) tZ) tZ) tZ)) (tW (tX (tX tZ (tX (tY (.ptr mk 0 0)) tZ)) (tX (tX (tY (.bool true)) tZ) tZ)) (.bool bl) (tX (tX (tX (tY (.ptr m 0 0)) tZ) tZ) (tX (tX (tY (.ptr m 0 0)) tZ) tZ))))) [.drw (rg P 41 [1,1,1,1,1,1,0,1,0,1,1,1,0,1,1,0,0,1,0,0]) [6,7,8,9,10,11] [5,4,3,2,1,0],.inBlock 2,cdi 41 [1,1,1,1,1,1,0,1,0,1,1,1,0,1,1,0,0,1,1],ili 41 [1,1,1,1,1,1,0,1,0,1,1,1,0,1,1,0,0],.inBlock 1,.inBlock 0,cdi 41 [1,1,1,1,1,1,1]]
section
variable {R:AV→AHeap→Prop} {keep N mk Nc m:Nat} {f0:FuncId} {rest:List AFrame} {O:T AObj} {n nn crq0 crq1 k crq2 j z1c:Int} {G:T (T AV)} {K:AM→Prop} {td:List AItem} {prq1 sn2 sa2 prq2 prq0:AV} {bl:Bool} {lrq0:List UInt8}
theorem zmb:(∃ (O1:T AObj),(lC O N G mk 1 (.int .i64 nn))∧(zc (⟨O,N,G⟩) (mk) (0) (1) ([.int .i64 (IntKind.i64.wrap (nn+(1:Int)))])=(some ⟨O1,N,G⟩))∧K (AM.mk (enF 52 [.ptr mk 0 0,.int .i64 9]) ((zsT n mk)::rest) ⟨O1,N,G⟩))=OT f0 R keep K (.ex fun O1:T AObj=>(.seq [.run 9,.hop (.int .i64 nn) O,.run 3,.hop (.nilp) O1,.run 4,.keep [0,1,19],.run 1] .fin)) ((AM.mk (enF 41 [.ptr mk 0 0,.int .i64 n]) rest ⟨O,N,G⟩)):=by kernel_rfl
theorem zbJ:(((decide (n<(1:Int)))=true→(K (AM.mk (enF 52 [.ptr mk 0 0,.int .i64 6]) ((zfZ n mk)::rest) ⟨O,N,G⟩)))∧((decide (n<(1:Int)))=false→((lC O N G mk 1 (.int .i64 nn))∧((decide (nn > (150:Int)))=true→(K (AM.mk (enF 52 [.ptr mk 0 0,.int .i64 6]) ((zcT n mk)::rest) ⟨O,N,G⟩)))∧((decide (nn > (150:Int)))=false→(K (zrx (IntKind.i64.wrap ((1:Int)+crq0)) n mk rest O N G))))))=OT f0 R keep K (.seq [.run 10] (.fork 24 (.seq [.run 10,.keep [0,1,31],.run 1] .fin) (.seq [.run 3,.hop (.int .i64 nn) O,.run 3] (.fork 30 (.seq [.run 3,.keep [0,1,31],.run 1] .fin) (.seq [.run 2,.keep [0,1,5]] .fin))))) ((AM.mk (RF 52 30 (tX tZ (tX (tY (.int .i64 crq0)) tZ)) td) ((zsT n mk)::rest) ⟨O,N,G⟩)):=by kernel_rfl
theorem zd7:(K (zrx (IntKind.i64.wrap ((1:Int)+crq1)) n mk rest O N G))=OT f0 R keep K (.seq [.run 4,.keep [0,1,5]] .fin) ((AM.mk (RF 52 30 (tX tZ (tX (tY (.int .i64 crq1)) tZ)) td) ((zfZ n mk)::rest) ⟨O,N,G⟩)):=by kernel_rfl
theorem zcw:(K (zrx (IntKind.i64.wrap ((1:Int)+crq1)) n mk rest O N G))=OT f0 R keep K (.seq [.run 4,.keep [0,1,5]] .fin) ((AM.mk (RF 52 30 (tX tZ (tX (tY (.int .i64 crq1)) tZ)) td) ((zcT n mk)::rest) ⟨O,N,G⟩)):=by kernel_rfl
theorem zjy:(K (AM.mk (enF 52 [.ptr mk 0 0,.int .i64 30]) ((Fona k n mk)::rest) ⟨O,N,G⟩))=OT f0 R keep K (.seq [.run 3,.keep [0,1,5,34],.run 1] .fin) ((zrx k n mk rest O N G)):=by kernel_rfl
theorem vt:(∃ (O1:T AObj),(T.set ((some (.cells (tW (tW (tY (.nils 0 0)) (.str []) tZ) (.int .i64 k) (tW (tY .nilp) (.nils 0 0) tZ)) 5 44 0 0 1 0 false .leaf))) (O) (N)=O1)∧(((k==(6:Int)))=true→(∃ (O2:T AObj) (O3:T AObj),(T.set ((some (.cells (tW (tW (tY (.str [])) (.str []) tZ) (.str []) (tW (tY (.str [])) (.str []) tZ)) 5 93 0 0 1 0 false .leaf))) (O1) (N+1)=O2)∧(zc (⟨O2,N+2,G⟩) (N+1) (0) (0) ([.str [UInt8.ofNat (109),UInt8.ofNat (46),UInt8.ofNat (84)],.str [UInt8.ofNat (109),UInt8.ofNat (46),UInt8.ofNat (85)],.str [UInt8.ofNat (108),UInt8.ofNat (105),UInt8.ofNat (98),UInt8.ofNat (47),UInt8.ofNat (120),UInt8.ofNat (46),UInt8.ofNat (84)],.str [],.str [UInt8.ofNat (97),UInt8.ofNat (32),UInt8.ofNat (98)]])=(some ⟨O3,N+2,G⟩))∧K (AM.mk (enF 52 [.ptr mk 0 0,.int .i64 3]) ((zh6 N mk crq0)::rest) ⟨O3,N+2,G⟩)))∧(((k==(6:Int)))=false→((((k==(7:Int)))=true→(K (AM.mk (enF 82 [.ptr mk 0 0,.int .i64 (IntKind.i64.wrap (n - (1:Int)))]) ((zfB N n mk crq0)::rest) ⟨O1,N+1,G⟩)))∧(((k==(7:Int)))=false→((((k==(8:Int)))=true→(K (AM.mk (enF 82 [.ptr mk 0 0,.int .i64 (IntKind.i64.wrap (n - (1:Int)))]) ((zcK N n mk crq0)::rest) ⟨O1,N+1,G⟩)))∧(((k==(8:Int)))=false→((((k==(9:Int)))=true→(K (AM.mk (enF 82 [.ptr mk 0 0,.int .i64 (IntKind.i64.wrap (n - (1:Int)))]) ((zcc N n mk crq0)::rest) ⟨O1,N+1,G⟩)))∧(((k==(9:Int)))=false→(K (znF N mk (crq0==(29:Int)) rest O1 (N+1) G))))))))))=OT f0 R keep K (.ex fun O1:T AObj=>(.seq [.run 8,.hop (.nilp) O1,.run 13] (.fork 41 (.ex fun O2:T AObj=>(.ex fun O3:T AObj=>(.seq [.run 4,.hop (.nilp) O2,.hop (.nilp) O3,.run 5,.keep [0,6,7,8,44,45],.run 1] .fin))) (.seq [.run 6] (.fork 59 (.seq [.run 7,.keep [0,6,7,61,62,64],.run 1] .fin) (.seq [.run 6] (.fork 88 (.seq [.run 7,.keep [0,1,6,7,90,91,93],.run 1] .fin) (.seq [.run 6] (.fork 104 (.seq [.run 6,.keep [0,6,7,106,107,109],.run 1] .fin) (.seq [.run 3,.keep [0,6,7]] .fin)))))))))) ((AM.mk (RF 52 30 (tX tZ (tX (tY (.int .i64 crq0)) tZ)) td) ((Fona k n mk)::rest) ⟨O,N,G⟩)):=by kernel_rfl
theorem zal:(∃ (l1:List UInt8) (O1:T AObj),((0:Int)≤crq1∧crq1<(↑5:Int))∧(zb (⟨O,N,G⟩) (Nc+1) (0) (0+crq1.toNat*1) (1)=(some [.str l1]))∧(zc (⟨O,N,G⟩) (Nc) (0) (1) ([.str l1])=(some ⟨O1,N,G⟩))∧(((crq0==(29:Int)))=true→(K (AM.mk (enF 52 [.ptr mk 0 0,.int .i64 5]) ((zam mk crq0 Nc)::rest) ⟨O1,N,G⟩)))∧(((crq0==(29:Int)))=false→(K (znF Nc mk (crq0==(29:Int)) rest O1 N G))))=OT f0 R keep K (.ex fun l1:List UInt8=>(.ex fun O1:T AObj=>(.seq [.run 1,.op,.hop (.str l1) O,.run 2,.hop (.nilp) O1,.run 5] (.fork 51 (.seq [.run 4,.keep [0,6,7,8,52,53],.run 1] .fin) (.seq [.run 3,.keep [0,6,7]] .fin))))) ((AM.mk (RF 52 30 (tX tZ (tX (tY (.int .i64 crq1)) tZ)) td) ((zh6 Nc mk crq0)::rest) ⟨O,N,G⟩)):=by kernel_rfl
theorem zaM:(∃ (l1:List UInt8) (O1:T AObj),((0:Int)≤crq2∧crq2<(↑5:Int))∧(zb (⟨O,N,G⟩) (Nc+1) (0) (0+crq2.toNat*1) (1)=(some [.str l1]))∧(zc (⟨O,N,G⟩) (Nc) (0) (1) ([.str l1])=(some ⟨O1,N,G⟩))∧K (znF Nc mk (crq0==(29:Int)) rest O1 N G))=OT f0 R keep K (.ex fun l1:List UInt8=>(.ex fun O1:T AObj=>(.seq [.run 1,.op,.hop (.str l1) O,.run 2,.hop (.nilp) O1,.run 2,.keep [0,6,7]] .fin))) ((AM.mk (RF 52 30 (tX tZ (tX (tY (.int .i64 crq2)) tZ)) td) ((zam mk crq0 Nc)::rest) ⟨O,N,G⟩)):=by kernel_rfl
theorem zdK:(∃ (O1:T AObj),(prq1.cells.length.beq (1)=true∧zc (⟨O,N,G⟩:AHeap) Nc (0) (3) prq1.cells=some (⟨O1,N,G⟩:AHeap))∧K (Wonc 0 Nc mk (crq0==(29:Int)) rest O1 N G))=OT f0 R keep K (.ex fun O1:T AObj=>(.seq [.run 3,.hopn (.nilp) O1 (N),.run 7,.keep [0,6,7,9]] .fin)) ((AM.mk (RF 82 20 (tX tZ (tX (tY prq1) tZ)) td) ((zfB Nc n mk crq0)::rest) ⟨O,N,G⟩)):=by kernel_rfl
theorem zsk:(∃ (z1:Int),(lC O N G m 3 sa2)∧(lN O N G 33 sa2 z1)∧((decide (j<z1))=true→((lC O N G m 2 sn2)∧K (AM.mk (enF 83 [.ptr mk 0 0]) ((zr4 sn2 sa2 j m mk bl z1)::rest) ⟨O,N,G⟩)))∧((decide (j<z1))=false→(K (znF m mk bl rest O N G))))=OT f0 R keep K (.ex fun z1:Int=>(.seq [.run 7,.hop (sa2) O,.hopn (.int .i64 z1) O (N),.run 2] (.fork 74 (.seq [.run 9,.hop (sn2) O,.run 2] .fin) (.seq [.run 3,.keep [0,6,7]] .fin)))) ((Wonc j m mk bl rest O N G)):=by kernel_rfl
theorem zk4:(∃ (O1:T AObj) (s1:AV) (O2:T AObj) (N1:Nat) (O3:T AObj),(True)∧(lC O N G m 2 sn2)∧(okD 300 sn2=true)∧(zg P (⟨O,N,G⟩) (32) (1) ([(0,.str lrq0)])=(some (.slc N 0 0 1 1,⟨O1,N+1,G⟩)))∧(lC O1 (N+1) G m 2 sn2)∧(okD 300 sn2=true)∧(zi P (⟨O1,N+1,G⟩) (Builtin.append) ((some 32)) ((some 32)) ([sn2,.slc N 0 0 1 1])=(some (.val s1 ⟨O2,N1,G⟩)))∧(s1.cells.length.beq (1)=true∧zc (⟨O2,N1,G⟩:AHeap) m (0) (2) s1.cells=some (⟨O3,N1,G⟩:AHeap))∧K (Wonc (IntKind.i64.wrap (j+(1:Int))) m mk bl rest O3 N1 G))=OT f0 R keep K (.ex fun O1:T AObj=>(.ex fun s1:AV=>(.ex fun O2:T AObj=>(.ex fun N1:Nat=>(.ex fun O3:T AObj=>(.seq [.hret [.nilp],.hopn (.slc N 0 0 1 1) O1 (N+1),.hopn (s1) O2 (N1),.run 2,.hopn (.nilp) O3 (N1),.run 8,.keep [0,6,7,9]] .fin)))))) ((AM.mk (RF 83 16 (tX tZ (tY (.str lrq0))) td) ((zr4 sn2 sa2 j m mk bl z1c)::rest) ⟨O,N,G⟩)):=by kernel_rfl
theorem zct:(∃ (O1:T AObj),(prq1.cells.length.beq (1)=true∧zc (⟨O,N,G⟩:AHeap) Nc (0) (3) prq1.cells=some (⟨O1,N,G⟩:AHeap))∧K (AM.mk (enF 41 [.ptr mk 0 0,.int .i64 (IntKind.i64.wrap (n - (1:Int)))]) ((jh n mk crq0 Nc)::rest) ⟨O1,N,G⟩))=OT f0 R keep K (.ex fun O1:T AObj=>(.seq [.run 3,.hopn (.nilp) O1 (N),.run 6,.keep [0,6,7,97,98,100],.run 1] .fin)) ((AM.mk (RF 82 20 (tX tZ (tX (tY prq1) tZ)) td) ((zcK Nc n mk crq0)::rest) ⟨O,N,G⟩)):=by kernel_rfl
theorem jX:(∃ (O1:T AObj),(prq2.cells.length.beq (1)=true∧zc (⟨O,N,G⟩:AHeap) Nc (0) (4) prq2.cells=some (⟨O1,N,G⟩:AHeap))∧K (znF Nc mk (crq0==(29:Int)) rest O1 N G))=OT f0 R keep K (.ex fun O1:T AObj=>(.seq [.run 3,.hopn (.nilp) O1 (N),.run 2,.keep [0,6,7]] .fin)) ((AM.mk (RF 41 137 (tX tZ (tX (tY prq2) tZ)) td) ((jh n mk crq0 Nc)::rest) ⟨O,N,G⟩)):=by kernel_rfl
theorem zb8:(∃ (O1:T AObj),(prq1.cells.length.beq (1)=true∧zc (⟨O,N,G⟩:AHeap) Nc (0) (3) prq1.cells=some (⟨O1,N,G⟩:AHeap))∧K (znF Nc mk (crq0==(29:Int)) rest O1 N G))=OT f0 R keep K (.ex fun O1:T AObj=>(.seq [.run 3,.hopn (.nilp) O1 (N),.run 2,.keep [0,6,7]] .fin)) ((AM.mk (RF 82 20 (tX tZ (tX (tY prq1) tZ)) td) ((zcc Nc n mk crq0)::rest) ⟨O,N,G⟩)):=by kernel_rfl
theorem zjP:(((bl)=true→(K (AM.mk (enF 52 [.ptr mk 0 0,.int .i64 6]) ((zrT m mk)::rest) ⟨O,N,G⟩)))∧((bl)=false→(K (Wond m rest O N G))))=OT f0 R keep K (.seq [.run 5] (.fork 113 (.seq [.run 5,.keep [0,7,114],.run 1] .fin) (.seq [.run 2,.keep [7]] .fin))) ((znF m mk bl rest O N G)):=by kernel_rfl
theorem kL:((((crq0==(5:Int)))=true→(K (AM.mk (enF 52 [.ptr mk 0 0,.int .i64 12]) ((zfI m mk)::rest) ⟨O,N,G⟩)))∧(((crq0==(5:Int)))=false→(K (AM.mk (enF 52 [.ptr mk 0 0,.int .i64 9]) ((zfM m mk)::rest) ⟨O,N,G⟩))))=OT f0 R keep K (.seq [.run 3] (.fork 116 (.seq [.run 4,.keep [0,7,117,118],.run 1] .fin) (.seq [.run 6,.keep [7,123],.run 1] .fin))) ((AM.mk (RF 52 30 (tX tZ (tX (tY (.int .i64 crq0)) tZ)) td) ((zrT m mk)::rest) ⟨O,N,G⟩)):=by kernel_rfl
theorem js:(∃ (O1:T AObj),(zc (⟨O,N,G⟩) (m) (0) (0) ([.int .i64 (IntKind.i64.wrap (crq1 - (1:Int)))])=(some ⟨O1,N,G⟩))∧K (AM.mk (enF 52 [.ptr mk 0 0,.int .i64 9]) ((zap m mk)::rest) ⟨O1,N,G⟩))=OT f0 R keep K (.ex fun O1:T AObj=>(.seq [.run 4,.hop (.nilp) O1,.run 5,.keep [7,123],.run 1] .fin)) ((AM.mk (RF 52 30 (tX tZ (tX (tY (.int .i64 crq1)) tZ)) td) ((zfI m mk)::rest) ⟨O,N,G⟩)):=by kernel_rfl
theorem wi:((((crq2==(8:Int)))=true→(K (AM.mk (RF 41 137 (tX tZ (tX (tY .nilp) tZ)) [cdi 52 [1,0,1,0,1],cdi 41 [1,1,1,1,1,1,1,0,1,0,1,1],cdi 41 [1,1,1,1,1,1,1,1]]) rest ⟨O,N,G⟩)))∧(((crq2==(8:Int)))=false→(K (AM.mk (RF 41 137 (tX tZ (tX (tY (.ptr m 0 0)) tZ)) [cdi 52 [1,0,1,0,1],cdi 41 [1,1,1,1,1,1,1,1]]) rest ⟨O,N,G⟩))))=OT f0 R keep K (.seq [.run 3] (.fork 125 (.seq [.run 6,.keep [4]] .fin) (.seq [.run 8,.keep [4]] .fin))) ((AM.mk (RF 52 30 (tX tZ (tX (tY (.int .i64 crq2)) tZ)) td) ((zap m mk)::rest) ⟨O,N,G⟩)):=by kernel_rfl
theorem kA:((((crq1==(8:Int)))=true→(K (AM.mk (RF 41 137 (tX tZ (tX (tY .nilp) tZ)) [cdi 52 [1,0,1,0,1],cdi 41 [1,1,1,1,1,1,1,0,1,0,1,1],cdi 41 [1,1,1,1,1,1,1,1]]) rest ⟨O,N,G⟩)))∧(((crq1==(8:Int)))=false→(K (AM.mk (RF 41 137 (tX tZ (tX (tY (.ptr m 0 0)) tZ)) [cdi 52 [1,0,1,0,1],cdi 41 [1,1,1,1,1,1,1,1]]) rest ⟨O,N,G⟩))))=OT f0 R keep K (.seq [.run 3] (.fork 125 (.seq [.run 6,.keep [4]] .fin) (.seq [.run 8,.keep [4]] .fin))) ((AM.mk (RF 52 30 (tX tZ (tX (tY (.int .i64 crq1)) tZ)) td) ((zfM m mk)::rest) ⟨O,N,G⟩)):=by kernel_rfl
theorem zrD:(K (AM.mk (enF 84 [.ptr m 0 0]) ((Fond m)::rest) ⟨O,N,G⟩))=OT f0 R keep K (.seq [.run 3,.keep [128],.run 1] .fin) ((Wond m rest O N G)):=by kernel_rfl
theorem ziA:((((crq0 != (0:Int)))=true→(∃ (O1:T AObj),(T.set ((some (.cells (tW (tW (tY (.nils 0 0)) (.str []) tZ) (.int .i64 2) (tW (tY .nilp) (.nils 0 0) tZ)) 5 44 0 0 1 0 false .leaf))) (O) (N)=O1)∧K (AM.mk (RF 41 137 (tX tZ (tX (tY (.ptr N 0 0)) tZ)) [cdi 84 [1,0,1,0,1,0,1],cdi 41 [1,1,1,1,1,1,1,1,1,1]]) rest ⟨O1,N+1,G⟩)))∧(((crq0 != (0:Int)))=false→(K (AM.mk (RF 41 137 (tX tZ (tX (tY prq0) tZ)) [cdi 84 [1,0,1,0,1,0,1]]) rest ⟨O,N,G⟩))))=OT f0 R keep K (.seq [.run 13] (.fork 133 (.ex fun O1:T AObj=>(.seq [.run 4,.hop (.nilp) O1,.run 3,.keep [4]] .fin)) (.seq [.run 8,.keep [4]] .fin))) ((AM.mk (RF 84 44 (tX (tX (tY (.int .i64 crq0)) tZ) (tY prq0)) td) ((Fond m)::rest) ⟨O,N,G⟩)):=by kernel_rfl
end
variable {O O':T AObj} {N:Nat} {G:T (T AV)}
def tab5:List (List UInt8):=[[109,46,84],[109,46,85],[108,105,98,47,120,46,84],[],[97,32,98]]
theorem zor {n c:Int}{xs ys:List UInt8}(h:nx n xs=(c,ys))(hn:0<n):0≤c∧c<n:=by
 cases xs with
 | nil =>
  obtain ⟨rfl,_⟩:(0:Int)=c∧[]=ys:=Prod.mk.inj h;exact ⟨Int.le_refl _,hn⟩
 | cons x r =>
  obtain ⟨rfl,_⟩:(bi x).tmod n=c∧r=ys:=Prod.mk.inj h;have hb:0≤bi x:=by unfold bi; omega
  exact ⟨Int.tmod_nonneg _ hb,Int.tmod_lt_of_pos _ hn⟩
def CTX (hi mk:Nat) (A:Nat→Prop) (O:T AObj) (N:Nat) (G:T (T AV)) (keep:Nat) (f0:FuncId) (Q:AV→AHeap→Prop) (rest:List AFrame) (t:Ty) (ys:List UInt8) (nn':Int):Prop :=
 ∀ (O':T AObj) (N':Nat) (td:List AItem) (p:Option Nat),N≤N'→(∀ j,j<N→j≠mk→O'.get j=O.get j)→MK2 O' hi mk ys nn'→Tra O' N' A t p→Goal P keep f0 Q (AM.mk (RF 41 137 (tX tZ (tX (tY (pv p)) tZ)) td) rest ⟨O',N',G⟩)
theorem HN.tab (k:Nat):HN (tab5.getD k []):=by
 rcases k with _ | _ | _ | _ | _ | k
 ·exact fun _=>rfl
 ·exact fun _=>rfl
 ·exact fun _=>rfl
 ·exact HN.nil
 ·exact fun h=>absurd h (by decide)
 ·exact HN.nil
theorem NM.made {k:Int}{nm:ze}{ns:List ze}{ts:List Ty}{r:Ty}(h:HN nm)(ht:∀ x∈ts,NM x)(hr:NM r):NM (zcA k nm ns ts r).2:=by
 unfold zcA;split
 ·exact fun _=>zqc ht
 ·split
  ·exact fun _=>zpV ht hr
  ·split
   ·exact fun _=>zqT ht
   ·exact NM.mk h ht hr
theorem zf5 {d:Nat}(hd1:d≤1000)(hrec:d=0∨∃ d',d=d'+1∧zpS d'):zpS d:=by
 intro xs nn;have stB:∀ (zs:List UInt8) (n2 k:Int) (nm:List UInt8) (ns:List (List UInt8)) (ts:List Ty) (r:Ty) (bl:Bool),HN nm→(∀ x∈ts,NM x)→NM r→∃ (t:Ty) (ys:List UInt8) (nn':Int),NM t∧∀ {hi mk:Nat} {A:Nat→Prop} {O:T AObj} {N:Nat} {G:T (T AV)} {keep:Nat} {f0:FuncId} {Q:AV→AHeap→Prop} {rest:List AFrame},hi≤mk→mk<N→(∀ j,A j→j<N)→A mk→CTX hi mk A O N G keep f0 Q rest t ys nn' →
  ∀ (O2:T AObj) (N2:Nat) (m:Nat) (sn sa:AV) (ps:List (Option Nat)) (q:Option Nat),N≤N2→N≤m→(∀ j,j<N→j≠mk→O2.get j=O.get j)→MK2 O2 hi mk zs n2→RAW O2 N2 A m k nm ns ts r sn sa ps q→Goal P keep f0 Q (znF m mk bl rest O2 N2 G):=by
  intro zs n2 k nm ns ts r bl hHN hNts hNr;cases bl with
  | true =>
   rcases h6:nx 6 zs with ⟨c3,y3⟩;rcases h12:nx 12 y3 with ⟨c4,y4⟩;rcases h9:nx 9 y4 with ⟨c9,y9⟩;rcases h9':nx 9 y3 with ⟨c9',y9'⟩
   by_cases e5:c3=5
   ·by_cases e8:c9=8
    ·refine ⟨.no,y9,n2,NM.no,?_⟩;intro hi mk A O N G keep f0 Q rest hmk hmN hA hAm hK;intro O2 N2 m sn sa ps q hN2 hNm low2 m2 raw;have hmm:m≠mk:=by omega
     have hA2:∀ j,A j→j<N2:=fun j h=>by have:=hA j h; omega
     refine ot zjP (fkt (rfl) ?_);refine zl h6 m2 hmk (by omega) fun O3 td3 c30 c36 f3 m3=>?_;have low3:∀ j,j<N→j≠mk→O3.get j=O.get j:=fun j h1 h2=>(f3 j h2).trans (low2 j h1 h2);have raw3:=raw.same (O':=O3) (fun j _ h2=>f3 j (fun e=>h2 (e▸hAm)));refine ot kL (fkt ((by rw [e5]; rfl)) ?_);refine zl h12 m3 hmk (by omega) fun O4 td4 c40 c46 f4 m4=>?_;have low4:∀ j,j<N→j≠mk→O4.get j=O.get j:=fun j h1 h2=>(f4 j h2).trans (low3 j h1 h2);have raw4:=raw3.same (O':=O4) (fun j _ h2=>f4 j (fun e=>h2 (e▸hAm)));obtain ⟨O5,st5,b5,f5⟩:=raw4.ob.store 0 [.int .i64 (IntKind.i64.wrap (c4 - (1:Int)))] N2 G (Nat.le_of_ble_eq_true rfl) rfl;have raw5:=raw4.put f5 b5;have low5:∀ j,j<N→j≠mk→O5.get j=O.get j:=fun j h1 h2=>(f5 j (by omega)).trans (low4 j h1 h2);have m5:=m4.same (O':=O5) (fun j hj=>f5 j (by omega)) (f5 mk (by omega));refine ot js ⟨O5,st5,?_⟩;refine zl h9 m5 hmk (by omega) fun O6 td6 c60 c66 f6 m6=>?_;have low6:∀ j,j<N→j≠mk→O6.get j=O.get j:=fun j h1 h2=>(f6 j h2).trans (low5 j h1 h2);have raw6:=raw5.same (O':=O6) (fun j _ h2=>f6 j (fun e=>h2 (e▸hAm)));refine ot wi (fkt ((by rw [e8]; rfl)) ?_);exact hK O6 N2 _ none hN2 low6 m6 Tra.nil
    ·refine ⟨.mk (IntKind.i64.wrap (c4 - (1:Int))) nm ns ts r,y9,n2,NM.mk hHN hNts hNr,?_⟩;intro hi mk A O N G keep f0 Q rest hmk hmN hA hAm hK;intro O2 N2 m sn sa ps q hN2 hNm low2 m2 raw;have hmm:m≠mk:=by omega
     have hA2:∀ j,A j→j<N2:=fun j h=>by have:=hA j h; omega
     refine ot zjP (fkt (rfl) ?_);refine zl h6 m2 hmk (by omega) fun O3 td3 c30 c36 f3 m3=>?_;have low3:∀ j,j<N→j≠mk→O3.get j=O.get j:=fun j h1 h2=>(f3 j h2).trans (low2 j h1 h2);have raw3:=raw.same (O':=O3) (fun j _ h2=>f3 j (fun e=>h2 (e▸hAm)));refine ot kL (fkt ((by rw [e5]; rfl)) ?_);refine zl h12 m3 hmk (by omega) fun O4 td4 c40 c46 f4 m4=>?_;have low4:∀ j,j<N→j≠mk→O4.get j=O.get j:=fun j h1 h2=>(f4 j h2).trans (low3 j h1 h2);have raw4:=raw3.same (O':=O4) (fun j _ h2=>f4 j (fun e=>h2 (e▸hAm)));obtain ⟨O5,st5,b5,f5⟩:=raw4.ob.store 0 [.int .i64 (IntKind.i64.wrap (c4 - (1:Int)))] N2 G (Nat.le_of_ble_eq_true rfl) rfl;have raw5:=raw4.put f5 b5;have low5:∀ j,j<N→j≠mk→O5.get j=O.get j:=fun j h1 h2=>(f5 j (by omega)).trans (low4 j h1 h2);have m5:=m4.same (O':=O5) (fun j hj=>f5 j (by omega)) (f5 mk (by omega));refine ot js ⟨O5,st5,?_⟩;refine zl h9 m5 hmk (by omega) fun O6 td6 c60 c66 f6 m6=>?_;have low6:∀ j,j<N→j≠mk→O6.get j=O.get j:=fun j h1 h2=>(f6 j h2).trans (low5 j h1 h2);have raw6:=raw5.same (O':=O6) (fun j _ h2=>f6 j (fun e=>h2 (e▸hAm)));refine ot wi (fkf ((beq_eq_false_iff_ne.2 e8)) ?_);exact hK O6 N2 _ (some m) hN2 low6 m6 raw6.node
   ·by_cases e8:c9'=8
    ·refine ⟨.no,y9',n2,NM.no,?_⟩;intro hi mk A O N G keep f0 Q rest hmk hmN hA hAm hK;intro O2 N2 m sn sa ps q hN2 hNm low2 m2 raw;have hmm:m≠mk:=by omega
     have hA2:∀ j,A j→j<N2:=fun j h=>by have:=hA j h; omega
     refine ot zjP (fkt (rfl) ?_);refine zl h6 m2 hmk (by omega) fun O3 td3 c30 c36 f3 m3=>?_;have low3:∀ j,j<N→j≠mk→O3.get j=O.get j:=fun j h1 h2=>(f3 j h2).trans (low2 j h1 h2);have raw3:=raw.same (O':=O3) (fun j _ h2=>f3 j (fun e=>h2 (e▸hAm)));refine ot kL (fkf ((beq_eq_false_iff_ne.2 e5)) ?_);refine zl h9' m3 hmk (by omega) fun O6 td6 c60 c66 f6 m6=>?_;have low6:∀ j,j<N→j≠mk→O6.get j=O.get j:=fun j h1 h2=>(f6 j h2).trans (low3 j h1 h2);have raw6:=raw3.same (O':=O6) (fun j _ h2=>f6 j (fun e=>h2 (e▸hAm)));refine ot kA (fkt ((by rw [e8]; rfl)) ?_);exact hK O6 N2 _ none hN2 low6 m6 Tra.nil
    ·refine ⟨.mk k nm ns ts r,y9',n2,NM.mk hHN hNts hNr,?_⟩;intro hi mk A O N G keep f0 Q rest hmk hmN hA hAm hK;intro O2 N2 m sn sa ps q hN2 hNm low2 m2 raw;have hmm:m≠mk:=by omega
     have hA2:∀ j,A j→j<N2:=fun j h=>by have:=hA j h; omega
     refine ot zjP (fkt (rfl) ?_);refine zl h6 m2 hmk (by omega) fun O3 td3 c30 c36 f3 m3=>?_;have low3:∀ j,j<N→j≠mk→O3.get j=O.get j:=fun j h1 h2=>(f3 j h2).trans (low2 j h1 h2);have raw3:=raw.same (O':=O3) (fun j _ h2=>f3 j (fun e=>h2 (e▸hAm)));refine ot kL (fkf ((beq_eq_false_iff_ne.2 e5)) ?_);refine zl h9' m3 hmk (by omega) fun O6 td6 c60 c66 f6 m6=>?_;have low6:∀ j,j<N→j≠mk→O6.get j=O.get j:=fun j h1 h2=>(f6 j h2).trans (low3 j h1 h2);have raw6:=raw3.same (O':=O6) (fun j _ h2=>f6 j (fun e=>h2 (e▸hAm)));refine ot kA (fkf ((beq_eq_false_iff_ne.2 e8)) ?_);exact hK O6 N2 _ (some m) hN2 low6 m6 raw6.node
  | false =>
   by_cases e0:(zcA k nm ns ts r).1=0
   ·refine ⟨(zcA k nm ns ts r).2,zs,n2,NM.made hHN hNts hNr,?_⟩;intro hi mk A O N G keep f0 Q rest hmk hmN hA hAm hK;intro O2 N2 m sn sa ps q hN2 hNm low2 m2 raw;have hmm:m≠mk:=by omega
    have hA2:∀ j,A j→j<N2:=fun j h=>by have:=hA j h; omega
    refine ot zjP (fkf (rfl) ?_);refine ot zrD ?_;refine zhZ raw hA2 fun O8 N8 td8 p8 ex8 tx8=>?_;have nn8:=ex8.1;have low8:∀ j,j<N→j≠mk→O8.get j=O.get j:=fun j h1 h2=>(ex8.2 j (by omega)).trans (low2 j h1 h2);have m8:=m2.same (O':=O8) (fun j hj=>ex8.2 j (by omega)) (ex8.2 mk (by omega));refine ot ziA (fkf ((by rw [e0]; rfl)) ?_);exact hK O8 N8 _ p8 (by omega) low8 m8 tx8
   ·refine ⟨.mk 2 [] [] [] .no,zs,n2,NM.int,?_⟩;intro hi mk A O N G keep f0 Q rest hmk hmN hA hAm hK;intro O2 N2 m sn sa ps q hN2 hNm low2 m2 raw;have hmm:m≠mk:=by omega
    have hA2:∀ j,A j→j<N2:=fun j h=>by have:=hA j h; omega
    refine ot zjP (fkf (rfl) ?_);refine ot zrD ?_;refine zhZ raw hA2 fun O8 N8 td8 p8 ex8 tx8=>?_;have nn8:=ex8.1;have low8:∀ j,j<N→j≠mk→O8.get j=O.get j:=fun j h1 h2=>(ex8.2 j (by omega)).trans (low2 j h1 h2);have m8:=m2.same (O':=O8) (fun j hj=>ex8.2 j (by omega)) (ex8.2 mk (by omega));refine ot ziA (fkt ((bne_iff_ne.2 e0)) ?_);obtain ⟨O1w,e33,b33,f33⟩:=Obj.mk (c:=(tW (tW (tY (.nils 0 0)) (.str []) tZ) (.int .i64 2) (tW (tY .nilp) (.nils 0 0) tZ))) (el:=44) [(.int .i64 2),(.str []),(.nils 0 0),(.nils 0 0),.nilp] O8 N8 5 rfl (fun u hu=>by rcases u with _ | _ | _ | _ | _ | u <;> first | rfl | omega)
    exact ⟨O1w,e33,hK O1w (N8+1) _ (some N8) (by omega) (fun j h1 h2=>(f33 j (by omega)).trans (low8 j h1 h2)) (m8.same (fun j hj=>f33 j (by omega)) (f33 mk (by omega))) (Tra.node (ps:=[]) (q:=none) (by omega) (fun h=>by have:=hA _ h; omega) b33 SV.nil (fun h=>absurd rfl h) SV.nil (fun h=>absurd rfl h) rfl (by decide) (by decide) (fun j x p h=>by simp at h) Tra.nil)⟩
 have stN:∀ (k:Nat) (zs:List UInt8),∃ (ws:List (List UInt8)) (ys:List UInt8),ws.length=k∧∀ {hi mk:Nat} {A:Nat→Prop} {O:T AObj} {N:Nat} {G:T (T AV)} {keep:Nat} {f0:FuncId} {Q:AV→AHeap→Prop} {rest:List AFrame} (n2:Int) (O1:T AObj) (N1 m i:Nat) (ts:List Ty) (ps:List (Option Nat)) (sa:AV) (bl:Bool) (ns:List (List UInt8)),hi≤mk→mk<N→A mk→N≤m→m<N1→SV O1 1 pE 0 N1 ps sa→(sa≠.nils 0 0→¬ A (sid sa)∧sid sa≠m)→ps.length=ts.length→ts.length≤3→i+k=ts.length→ns.length=i→(∀ (O2:T AObj) (N2:Nat) (sn:AV),N1≤N2→(∀ j,j<N→j≠mk→O2.get j=O.get j)→(∀ j,j<N1→j≠m→j≠mk→O2.get j=O1.get j)→MK2 O2 hi mk ys n2→Obj O2 m [.int .i64 7,.str [],sn,sa,.nilp]→GV O2 9 1 sE N1 N2 (ns++ws) sn→Goal P keep f0 Q (znF m mk bl rest O2 N2 G)) →
  ∀ (O2:T AObj) (N2:Nat) (sn:AV),N1≤N2→(∀ j,j<N→j≠mk→O2.get j=O.get j)→(∀ j,j<N1→j≠m→j≠mk→O2.get j=O1.get j)→MK2 O2 hi mk zs n2→Obj O2 m [.int .i64 7,.str [],sn,sa,.nilp]→GV O2 9 1 sE N1 N2 ns sn→Goal P keep f0 Q (Wonc ((i:Nat):Int) m mk bl rest O2 N2 G):=by
  intro k
  induction k with
  | zero =>
   intro zs;refine ⟨[],zs,rfl,?_⟩;intro hi mk A O N G keep f0 Q rest n2 O1 N1 m i ts ps sa bl ns hmk hmN hAm hNm hmN1 va ma l1 l2 hk hi' hS O2 N2 sn hN12 low2 low1 m2 ob gn;have hmm:m≠mk:=by omega
   rw [List.append_nil] at hS;have va2:=va.same (O':=O2) (fun hn=>low1 _ (va.sid_lt hn).2 (ma hn).2 (fun e=>(ma hn).1 (e▸hAm))) (Nat.le_refl _) hN12;have nx:=hS O2 N2 sn hN12 low2 low1 m2 ob gn;refine ot (zsk (sn2:=sn) (sa2:=sa)) ⟨_,ob.ld 3 rfl,va2.lenE pSl l1 _ _,fkf (decide_eq_false (by omega)) ?_⟩;exact nx
  | succ k ih =>
   intro zs;obtain ⟨w,y1,nam⟩:=zni zs;obtain ⟨ws,ys,hws,run⟩:=ih y1;refine ⟨w::ws,ys,by rw [List.length_cons,hws],?_⟩;intro hi mk A O N G keep f0 Q rest n2 O1 N1 m i ts ps sa bl ns hmk hmN hAm hNm hmN1 va ma l1 l2 hk hi' hS O2 N2 sn hN12 low2 low1 m2 ob gn;have hmm:m≠mk:=by omega
   have va2:=va.same (O':=O2) (fun hn=>low1 _ (va.sid_lt hn).2 (ma hn).2 (fun e=>(ma hn).1 (e▸hAm))) (Nat.le_refl _) hN12;refine ot (zsk (sn2:=sn) (sa2:=sa)) ⟨_,ob.ld 3 rfl,va2.lenE pSl l1 _ _,fkt (decide_eq_true (by omega)) ?_⟩;refine ⟨ob.ld 2 rfl,?_⟩;refine nam hmk m2 (by omega) fun O3 N3 td3 hN3 hO3 m3=>?_;have ob3:=ob.same (hO3 m (by omega) hmm);have gn3:=gn.same (O':=O3) (fun hn=>hO3 _ (gn.sid_lt hn).2 (by have:=(gn.sid_lt hn).1; omega)) (Nat.le_refl _) hN3;obtain ⟨O4,e4,v4,_,f4⟩:=kU sEn w O3 N3 G (st:=32) (el:=9) (litS w);have gn4:=gn3.keep (O':=O4) (fun j h1 h2=>f4 j (by omega)) (Nat.le_refl _) (Nat.le_succ N3);obtain ⟨O5,N5,s5,e5,g5,n5,n5',f5,_⟩:=gn4.app sSl sEn v4 (by omega) (by simp only [List.length_cons,List.length_nil]; omega) G;have lo5:∀ j,j<N1→O5.get j=O3.get j:=fun j hj=>(f5 j (by omega) (fun h=>by have:=(gn.sid_lt h).1; omega)).trans (f4 j (by omega));have ob4:=ob3.same (f4 m (by omega));have ob5:=ob3.same (lo5 m (by omega));obtain ⟨O6,st6,b6,f6⟩:=ob5.store 2 [s5] N5 G (Nat.le_of_ble_eq_true rfl) (by simp only [List.all_cons,List.all_nil,Bool.and_true]; exact (g5.sv sEn).one);have nx:=run n2 O1 N1 m (i+1) ts ps sa bl (ns++[w]) hmk hmN hAm hNm hmN1 va ma l1 l2 (by omega) (by rw [List.length_append]; simp only [List.length_cons,List.length_nil]; omega) (by rw [List.append_assoc]; exact hS) O6 N5 s5 (by omega) (fun j h1 h2=>(f6 j (by omega)).trans ((lo5 j (by omega)).trans ((hO3 j (by omega) h2).trans (low2 j h1 h2)))) (fun j h1 h2 h3=>(f6 j h2).trans ((lo5 j h1).trans ((hO3 j (by omega) h3).trans (low1 j h1 h2 h3)))) (m3.same (fun j hj=>(f6 j (by omega)).trans (lo5 j (by omega))) ((f6 mk (by omega)).trans (lo5 mk (by omega)))) b6 (g5.same (fun h=>f6 _ (by have:=(g5.sid_lt h).1; omega)) (Nat.le_refl _) (Nat.le_refl _));rw [← zq (i:=i) (by omega)] at nx;exact ot (zk4 (sn2:=sn)) ⟨_,_,_,_,_,trivial,ob3.ld 2 rfl,yT (gn3.sv sEn),e4,ob4.ld 2 rfl,yT (gn3.sv sEn),e5,(by rw [(g5.sv sEn).cells]; exact ⟨rfl,st6⟩),nx⟩
 have stA:∀ (zs:List UInt8) (n2 k:Int),(d=0→k<7)→∃ (t:Ty) (ys:List UInt8) (nn':Int),NM t∧∀ {hi mk:Nat} {A:Nat→Prop} {O:T AObj} {N:Nat} {G:T (T AV)} {keep:Nat} {f0:FuncId} {Q:AV→AHeap→Prop} {rest:List AFrame},hi≤mk→mk<N→(∀ j,A j→j<N)→A mk→CTX hi mk A O N G keep f0 Q rest t ys nn' →
  ∀ (O2:T AObj),(∀ j,j<N→j≠mk→O2.get j=O.get j)→MK2 O2 hi mk zs n2→Goal P keep f0 Q (zrx k ((d:Nat):Int) mk rest O2 N G):=by
  intro zs n2 k hk;rcases h30:nx 30 zs with ⟨c,y1⟩
  by_cases k6:k=6
  ·rcases h3:nx 3 y1 with ⟨c3,y3⟩;rcases h5:nx 5 y3 with ⟨c5,y5⟩
   by_cases e29:c=29
   ·obtain ⟨t,ys,nn',nmt,run⟩:=stB y5 n2 k (tab5.getD c5.toNat []) [] [] .no (c==(29:Int)) (HN.tab _) (fun x hx=>by cases hx) NM.no;refine ⟨t,ys,nn',nmt,?_⟩;intro hi mk A O N G keep f0 Q rest hmk hmN hA hAm hK;intro O2 low2 m2;refine ot zjy ?_;refine zl h30 m2 hmk (by omega) fun O3 td3 c30 c36 f3 m3=>?_;have low3:∀ j,j<N→j≠mk→O3.get j=O.get j:=fun j h1 h2=>(f3 j h2).trans (low2 j h1 h2);obtain ⟨O1v,e45,b45,f45⟩:=Obj.mk (c:=(tW (tW (tY (.nils 0 0)) (.str []) tZ) (.int .i64 k) (tW (tY .nilp) (.nils 0 0) tZ))) (el:=44) [(.int .i64 k),(.str []),(.nils 0 0),(.nils 0 0),.nilp] O3 N 5 rfl (fun u hu=>by rcases u with _ | _ | _ | _ | _ | u <;> first | rfl | omega)
    refine ot vt ⟨O1v,e45,fkt ((by rw [k6]; rfl)) ?_⟩;obtain ⟨O2v,e46,b46,f46⟩:=Obj.mk (c:=(tW (tW (tY (.str [])) (.str []) tZ) (.str []) (tW (tY (.str [])) (.str []) tZ))) (el:=93) [(.str []),(.str []),(.str []),(.str []),(.str [])] O1v (N+1) 5 rfl (fun u hu=>by rcases u with _ | _ | _ | _ | _ | u <;> first | rfl | omega)
    have b47:=b45.same (f46 _ (by omega));obtain ⟨O3v,e48,b48,f48⟩:=b46.store 0 [.str [UInt8.ofNat (109),UInt8.ofNat (46),UInt8.ofNat (84)],.str [UInt8.ofNat (109),UInt8.ofNat (46),UInt8.ofNat (85)],.str [UInt8.ofNat (108),UInt8.ofNat (105),UInt8.ofNat (98),UInt8.ofNat (47),UInt8.ofNat (120),UInt8.ofNat (46),UInt8.ofNat (84)],.str [],.str [UInt8.ofNat (97),UInt8.ofNat (32),UInt8.ofNat (98)]] (N+2) G (Nat.le_of_ble_eq_true rfl) rfl;have b49:=b47.same (f48 _ (by omega));refine ⟨O2v,O3v,e46,e48,?_⟩;have obn:=b48;have obt:=b49;have lowT:∀ j,j<N→O3v.get j=O3.get j:=fun j hj=>(f48 j (by omega)).trans ((f46 j (by omega)).trans (f45 j (by omega)));have mT:=m3.same (O':=O3v) (fun j hj=>lowT j (by omega)) (lowT mk (by omega));refine zl h3 mT hmk (by omega) fun O4 td4 c20 c26 f4 m4=>?_;have obn4:=obn.same (f4 (N+1) (by omega));have obt4:=obt.same (f4 N (by omega));have hl1:=pick (tab:=tab5) obn4 (show c3.toNat<5 by omega) (N+2) G;obtain ⟨O5,st5,b5,f5⟩:=obt4.store 1 [.str (tab5.getD c3.toNat [])] (N+2) G (Nat.le_of_ble_eq_true rfl) rfl;have obn5:=obn4.same (f5 (N+1) (by omega));have low5:∀ j,j<N→j≠mk→O5.get j=O.get j:=fun j h1 h2=>(f5 j (by omega)).trans ((f4 j h2).trans ((lowT j h1).trans (low3 j h1 h2)));have m5:=m4.same (O':=O5) (fun j hj=>f5 j (by omega)) (f5 mk (by omega));have raw:∀ (O6:T AObj) (l:List UInt8),Obj O6 N [.int .i64 k,.str l,.nils 0 0,.nils 0 0,pv none]→RAW O6 (N+2) A N k l [] [] .no (.nils 0 0) (.nils 0 0) [] none:=fun O6 l b=>⟨by omega,fun h=>by have:=hA _ h; omega,b,SV.nil,fun h=>absurd rfl h,SV.nil,fun h=>absurd rfl h,rfl,by simp,by simp,fun j x p h=>by simp at h,Tra.nil⟩;refine ot zal ⟨(tab5.getD c3.toNat []),O5,⟨c20,by omega⟩,hl1,st5,fkt ((by rw [e29]; rfl)) ?_⟩;refine zl h5 m5 hmk (by omega) fun O7 td7 c70 c76 f7 m7=>?_;have obn7:=obn5.same (f7 (N+1) (by omega));have obt7:=Obj.same b5 (f7 N (by omega));have hl2:=pick (tab:=tab5) obn7 (show c5.toNat<5 by omega) (N+2) G;obtain ⟨O8,st8,b8,f8⟩:=obt7.store 1 [.str (tab5.getD c5.toNat [])] (N+2) G (Nat.le_of_ble_eq_true rfl) rfl;exact ot zaM ⟨_,O8,⟨c70,by omega⟩,hl2,st8,run hmk hmN hA hAm hK O8 (N+2) N _ _ [] none (by omega) (Nat.le_refl _) (fun j h1 h2=>(f8 j (by omega)).trans ((f7 j h2).trans (low5 j h1 h2))) (m7.same (fun j hj=>f8 j (by omega)) (f8 mk (by omega))) (raw O8 _ b8)⟩
   ·obtain ⟨t,ys,nn',nmt,run⟩:=stB y3 n2 k (tab5.getD c3.toNat []) [] [] .no (c==(29:Int)) (HN.tab _) (fun x hx=>by cases hx) NM.no;refine ⟨t,ys,nn',nmt,?_⟩;intro hi mk A O N G keep f0 Q rest hmk hmN hA hAm hK;intro O2 low2 m2;refine ot zjy ?_;refine zl h30 m2 hmk (by omega) fun O3 td3 c30 c36 f3 m3=>?_;have low3:∀ j,j<N→j≠mk→O3.get j=O.get j:=fun j h1 h2=>(f3 j h2).trans (low2 j h1 h2);obtain ⟨O1v,e52,b52,f52⟩:=Obj.mk (c:=(tW (tW (tY (.nils 0 0)) (.str []) tZ) (.int .i64 k) (tW (tY .nilp) (.nils 0 0) tZ))) (el:=44) [(.int .i64 k),(.str []),(.nils 0 0),(.nils 0 0),.nilp] O3 N 5 rfl (fun u hu=>by rcases u with _ | _ | _ | _ | _ | u <;> first | rfl | omega)
    refine ot vt ⟨O1v,e52,fkt ((by rw [k6]; rfl)) ?_⟩;obtain ⟨O2v,e53,b53,f53⟩:=Obj.mk (c:=(tW (tW (tY (.str [])) (.str []) tZ) (.str []) (tW (tY (.str [])) (.str []) tZ))) (el:=93) [(.str []),(.str []),(.str []),(.str []),(.str [])] O1v (N+1) 5 rfl (fun u hu=>by rcases u with _ | _ | _ | _ | _ | u <;> first | rfl | omega)
    have b54:=b52.same (f53 _ (by omega));obtain ⟨O3v,e55,b55,f55⟩:=b53.store 0 [.str [UInt8.ofNat (109),UInt8.ofNat (46),UInt8.ofNat (84)],.str [UInt8.ofNat (109),UInt8.ofNat (46),UInt8.ofNat (85)],.str [UInt8.ofNat (108),UInt8.ofNat (105),UInt8.ofNat (98),UInt8.ofNat (47),UInt8.ofNat (120),UInt8.ofNat (46),UInt8.ofNat (84)],.str [],.str [UInt8.ofNat (97),UInt8.ofNat (32),UInt8.ofNat (98)]] (N+2) G (Nat.le_of_ble_eq_true rfl) rfl;have b56:=b54.same (f55 _ (by omega));refine ⟨O2v,O3v,e53,e55,?_⟩;have obn:=b55;have obt:=b56;have lowT:∀ j,j<N→O3v.get j=O3.get j:=fun j hj=>(f55 j (by omega)).trans ((f53 j (by omega)).trans (f52 j (by omega)));have mT:=m3.same (O':=O3v) (fun j hj=>lowT j (by omega)) (lowT mk (by omega));refine zl h3 mT hmk (by omega) fun O4 td4 c20 c26 f4 m4=>?_;have obn4:=obn.same (f4 (N+1) (by omega));have obt4:=obt.same (f4 N (by omega));have hl1:=pick (tab:=tab5) obn4 (show c3.toNat<5 by omega) (N+2) G;obtain ⟨O5,st5,b5,f5⟩:=obt4.store 1 [.str (tab5.getD c3.toNat [])] (N+2) G (Nat.le_of_ble_eq_true rfl) rfl;have obn5:=obn4.same (f5 (N+1) (by omega));have low5:∀ j,j<N→j≠mk→O5.get j=O.get j:=fun j h1 h2=>(f5 j (by omega)).trans ((f4 j h2).trans ((lowT j h1).trans (low3 j h1 h2)));have m5:=m4.same (O':=O5) (fun j hj=>f5 j (by omega)) (f5 mk (by omega));have raw:∀ (O6:T AObj) (l:List UInt8),Obj O6 N [.int .i64 k,.str l,.nils 0 0,.nils 0 0,pv none]→RAW O6 (N+2) A N k l [] [] .no (.nils 0 0) (.nils 0 0) [] none:=fun O6 l b=>⟨by omega,fun h=>by have:=hA _ h; omega,b,SV.nil,fun h=>absurd rfl h,SV.nil,fun h=>absurd rfl h,rfl,by simp,by simp,fun j x p h=>by simp at h,Tra.nil⟩;refine ot zal ⟨(tab5.getD c3.toNat []),O5,⟨c20,by omega⟩,hl1,st5,fkf ((beq_eq_false_iff_ne.2 e29)) ?_⟩;exact run hmk hmN hA hAm hK O5 (N+2) N _ _ [] none (by omega) (Nat.le_refl _) low5 m5 (raw O5 _ b5)
  by_cases k7:k=7
  ·obtain ⟨d',hd,one⟩:=hrec.resolve_left (fun h=>by have:=hk h; omega);have sme0:znf d':=zdR one;have w1:IntKind.i64.wrap (((d:Nat):Int) - (1:Int))=((d':Nat):Int):=by rw [IntKind.wrap_i64,hd]; omega
   obtain ⟨ts,y4,n4,l53,nmts,sme⟩:=sme0 y1 n2;obtain ⟨ns,y5,hns,nms⟩:=stN ts.length y4;obtain ⟨t,ys,nn',nmt,run⟩:=stB y5 n4 7 [] ns ts .no (c==(29:Int)) HN.nil nmts NM.no;refine ⟨t,ys,nn',nmt,?_⟩;intro hi mk A O N G keep f0 Q rest hmk hmN hA hAm hK;intro O2 low2 m2;refine ot zjy ?_;refine zl h30 m2 hmk (by omega) fun O3 td3 c30 c36 f3 m3=>?_;have low3:∀ j,j<N→j≠mk→O3.get j=O.get j:=fun j h1 h2=>(f3 j h2).trans (low2 j h1 h2);obtain ⟨O1v,e37,b37,f37⟩:=Obj.mk (c:=(tW (tW (tY (.nils 0 0)) (.str []) tZ) (.int .i64 k) (tW (tY .nilp) (.nils 0 0) tZ))) (el:=44) [(.int .i64 k),(.str []),(.nils 0 0),(.nils 0 0),.nilp] O3 N 5 rfl (fun u hu=>by rcases u with _ | _ | _ | _ | _ | u <;> first | rfl | omega)
   refine ot vt ⟨O1v,e37,fkf ((beq_eq_false_iff_ne.2 k6)) ?_⟩;refine fkt ((by rw [k7]; rfl)) ?_;have obt:=b37;have lowT:∀ j,j<N→j≠mk→O1v.get j=O.get j:=fun j h1 h2=>(f37 j (by omega)).trans (low3 j h1 h2);have mT:=m3.same (O':=O1v) (fun j hj=>f37 j (by omega)) (f37 mk (by omega));rw [w1];refine sme (A:=fun j=>A j∨j=N) hmk mT (by omega) (fun j h=>h.elim (fun h=>by have:=hA j h; omega) fun h=>by omega) (.inl hAm) fun O5 N5 td5 ps s hN5 hO5 m5 g5 l5 r5=>?_;have ob5:=obt.same (hO5 N (by omega) (by omega));have low5:∀ j,j<N→j≠mk→O5.get j=O.get j:=fun j h1 h2=>(hO5 j (by omega) h2).trans (lowT j h1 h2);obtain ⟨O6,st6,b6,f6⟩:=ob5.store 3 [s] N5 G (Nat.le_of_ble_eq_true rfl) (by simp only [List.all_cons,List.all_nil,Bool.and_true]; exact (g5.sv pEn).one);have cel:s.cells.length.beq 1=true∧zc ⟨O5,N5,G⟩ N 0 3 s.cells=some ⟨O6,N5,G⟩:=by rw [(g5.sv pEn).cells]; exact ⟨rfl,st6⟩
   have hsN:s≠.nils 0 0→N+1≤sid s:=fun h=>(g5.sid_lt h).1;have g6:=g5.same (O':=O6) (fun h=>f6 _ (by have:=hsN h; omega)) (Nat.le_refl _) (Nat.le_refl _);have low6:∀ j,j<N→j≠mk→O6.get j=O.get j:=fun j h1 h2=>(f6 j (by omega)).trans (low5 j h1 h2);have m6:=m5.same (O':=O6) (fun j hj=>f6 j (by omega)) (f6 mk (by omega));have va6:SV O6 1 pE 0 N5 ps s:=(g6.sv pEn).keep (fun _ _ _=>rfl) (Nat.zero_le _) (Nat.le_refl _);have ma6:s≠.nils 0 0→¬ A (sid s)∧sid s≠N:=fun h=>⟨fun h2=>by have:=hA _ h2; have:=hsN h; omega,by have:=hsN h; omega⟩;have r6:∀ (j:Nat) (x:Ty) (p:Option Nat),ts[j]?=some x→ps[j]?=some p→Tra O6 N5 (fun j=>A j∨j=N) x p:=fun j x p a b=>((r5 j x p a b).imp fun j _ h=>.inl h).same (fun i _ h2=>f6 i (fun e=>h2 (.inr e))) (Nat.le_refl _);refine ot zdK ⟨O6,cel,?_⟩;refine nms n4 O6 N5 N 0 ts ps s _ [] hmk hmN hAm (Nat.le_refl _) (by omega) va6 ma6 l5 l53 (Nat.zero_add _) rfl ?_ O6 N5 _ (Nat.le_refl _) low6 (fun _ _ _ _=>rfl) m6 (k7▸b6) GV.nil;intro O7 N7 sn hN7 low7 low17 m7 ob7 gn7;rw [List.nil_append] at gn7;have va7:=va6.same (O':=O7) (fun hn=>low17 _ (va6.sid_lt hn).2 (ma6 hn).2 (fun e=>(ma6 hn).1 (e▸hAm))) (Nat.le_refl _) hN7;have raw:RAW O7 N7 A N 7 [] ns ts .no sn s ps none:=⟨by omega,fun h=>by have:=hA _ h; omega,ob7,(gn7.sv sEn).keep (fun _ _ _=>rfl) (Nat.zero_le _) (Nat.le_refl _),fun hn=>⟨fun h=>by have:=hA _ h; have:=(gn7.sid_lt hn).1; omega,by have:=(gn7.sid_lt hn).1; omega⟩,va7,ma6,l5,l53,by omega,fun j x p a b=>(r6 j x p a b).same (fun i h1 h2=>low17 i h1 (fun e=>h2 (.inr e)) (fun e=>h2 (.inl (e▸hAm)))) hN7,Tra.nil⟩;exact run hmk hmN hA hAm hK O7 N7 N sn s ps none (by omega) (Nat.le_refl _) low7 m7 raw
  by_cases k8:k=8
  ·obtain ⟨d',hd,one⟩:=hrec.resolve_left (fun h=>by have:=hk h; omega);have sme0:znf d':=zdR one;have w1:IntKind.i64.wrap (((d:Nat):Int) - (1:Int))=((d':Nat):Int):=by rw [IntKind.wrap_i64,hd]; omega
   obtain ⟨ts,y4,n4,l53,nmts,sme⟩:=sme0 y1 n2;obtain ⟨r,y5,n5,nmr,one8⟩:=one y4 n4;obtain ⟨t,ys,nn',nmt,run⟩:=stB y5 n5 k [] [] ts r (c==(29:Int)) HN.nil nmts nmr;refine ⟨t,ys,nn',nmt,?_⟩;intro hi mk A O N G keep f0 Q rest hmk hmN hA hAm hK;intro O2 low2 m2;refine ot zjy ?_;refine zl h30 m2 hmk (by omega) fun O3 td3 c30 c36 f3 m3=>?_;have low3:∀ j,j<N→j≠mk→O3.get j=O.get j:=fun j h1 h2=>(f3 j h2).trans (low2 j h1 h2);obtain ⟨O1v,e39,b39,f39⟩:=Obj.mk (c:=(tW (tW (tY (.nils 0 0)) (.str []) tZ) (.int .i64 k) (tW (tY .nilp) (.nils 0 0) tZ))) (el:=44) [(.int .i64 k),(.str []),(.nils 0 0),(.nils 0 0),.nilp] O3 N 5 rfl (fun u hu=>by rcases u with _ | _ | _ | _ | _ | u <;> first | rfl | omega)
   refine ot vt ⟨O1v,e39,fkf ((beq_eq_false_iff_ne.2 k6)) ?_⟩;refine fkf ((beq_eq_false_iff_ne.2 k7)) ?_;refine fkt ((by rw [k8]; rfl)) ?_;have obt:=b39;have lowT:∀ j,j<N→j≠mk→O1v.get j=O.get j:=fun j h1 h2=>(f39 j (by omega)).trans (low3 j h1 h2);have mT:=m3.same (O':=O1v) (fun j hj=>f39 j (by omega)) (f39 mk (by omega));rw [w1];refine sme (A:=fun j=>A j∨j=N) hmk mT (by omega) (fun j h=>h.elim (fun h=>by have:=hA j h; omega) fun h=>by omega) (.inl hAm) fun O5 N5 td5 ps s hN5 hO5 m5 g5 l5 r5=>?_;have ob5:=obt.same (hO5 N (by omega) (by omega));have low5:∀ j,j<N→j≠mk→O5.get j=O.get j:=fun j h1 h2=>(hO5 j (by omega) h2).trans (lowT j h1 h2);obtain ⟨O6,st6,b6,f6⟩:=ob5.store 3 [s] N5 G (Nat.le_of_ble_eq_true rfl) (by simp only [List.all_cons,List.all_nil,Bool.and_true]; exact (g5.sv pEn).one);have cel:s.cells.length.beq 1=true∧zc ⟨O5,N5,G⟩ N 0 3 s.cells=some ⟨O6,N5,G⟩:=by rw [(g5.sv pEn).cells]; exact ⟨rfl,st6⟩
   have hsN:s≠.nils 0 0→N+1≤sid s:=fun h=>(g5.sid_lt h).1;have g6:=g5.same (O':=O6) (fun h=>f6 _ (by have:=hsN h; omega)) (Nat.le_refl _) (Nat.le_refl _);have low6:∀ j,j<N→j≠mk→O6.get j=O.get j:=fun j h1 h2=>(f6 j (by omega)).trans (low5 j h1 h2);have m6:=m5.same (O':=O6) (fun j hj=>f6 j (by omega)) (f6 mk (by omega));have va6:SV O6 1 pE 0 N5 ps s:=(g6.sv pEn).keep (fun _ _ _=>rfl) (Nat.zero_le _) (Nat.le_refl _);have ma6:s≠.nils 0 0→¬ A (sid s)∧sid s≠N:=fun h=>⟨fun h2=>by have:=hA _ h2; have:=hsN h; omega,by have:=hsN h; omega⟩;have r6:∀ (j:Nat) (x:Ty) (p:Option Nat),ts[j]?=some x→ps[j]?=some p→Tra O6 N5 (fun j=>A j∨j=N) x p:=fun j x p a b=>((r5 j x p a b).imp fun j _ h=>.inl h).same (fun i _ h2=>f6 i (fun e=>h2 (.inr e))) (Nat.le_refl _);refine ot zct ⟨O6,cel,?_⟩;rw [w1];refine one8 (A:=fun j=>(A j∨j=N)∨(s≠.nils 0 0∧j=sid s)) hmk m6 (by omega) (fun j h=>h.elim (fun h=>h.elim (fun h=>by have:=hA j h; omega) fun h=>by omega) fun h=>by have:=g5.sid_lt h.1; omega) (.inl (.inl hAm)) fun O7 N7 td7 q hN7 hO7 m7 tr7=>?_;have b7:=Obj.same b6 (hO7 N (by omega) (by omega));have low7:∀ j,j<N→j≠mk→O7.get j=O.get j:=fun j h1 h2=>(hO7 j (by omega) h2).trans (low6 j h1 h2);obtain ⟨O8,st8,b8,f8⟩:=b7.store 4 [pv q] N7 G (Nat.le_of_ble_eq_true rfl) (by cases q <;> rfl);have va8:=va6.same (O':=O8) (fun h=>(f8 _ (ma6 h).2).trans (hO7 _ (va6.sid_lt h).2 (by have:=hsN h; omega))) (Nat.le_refl 0) hN7;have raw:RAW O8 N7 A N k [] [] ts r (.nils 0 0) s ps q:=⟨by omega,fun h=>by have:=hA _ h; omega,b8,SV.nil,fun h=>absurd rfl h,va8,ma6,l5,l53,by simp,fun j x p a b=>((r6 j x p a b).same (fun i h1 h2=>hO7 i h1 (fun e=>h2 (.inl (e▸hAm)))) hN7).same (fun i _ h2=>f8 i (fun e=>h2 (.inr e))) (Nat.le_refl _),(tr7.imp fun j _ h=>.inl h).same (fun i _ h2=>f8 i (fun e=>h2 (.inr e))) (Nat.le_refl _)⟩;exact ot jX ⟨O8,(by rw [znS]; exact ⟨rfl,st8⟩),run hmk hmN hA hAm hK O8 N7 N _ s ps q (by omega) (Nat.le_refl _) (fun j h1 h2=>(f8 j (by omega)).trans (low7 j h1 h2)) (m7.same (fun j hj=>f8 j (by omega)) (f8 mk (by omega))) raw⟩
  by_cases k9:k=9
  ·obtain ⟨d',hd,one⟩:=hrec.resolve_left (fun h=>by have:=hk h; omega);have sme0:znf d':=zdR one;have w1:IntKind.i64.wrap (((d:Nat):Int) - (1:Int))=((d':Nat):Int):=by rw [IntKind.wrap_i64,hd]; omega
   obtain ⟨ts,y4,n4,l53,nmts,sme⟩:=sme0 y1 n2;obtain ⟨t,ys,nn',nmt,run⟩:=stB y4 n4 k [] [] ts .no (c==(29:Int)) HN.nil nmts NM.no;refine ⟨t,ys,nn',nmt,?_⟩;intro hi mk A O N G keep f0 Q rest hmk hmN hA hAm hK;intro O2 low2 m2;refine ot zjy ?_;refine zl h30 m2 hmk (by omega) fun O3 td3 c30 c36 f3 m3=>?_;have low3:∀ j,j<N→j≠mk→O3.get j=O.get j:=fun j h1 h2=>(f3 j h2).trans (low2 j h1 h2);obtain ⟨O1v,e41,b41,f41⟩:=Obj.mk (c:=(tW (tW (tY (.nils 0 0)) (.str []) tZ) (.int .i64 k) (tW (tY .nilp) (.nils 0 0) tZ))) (el:=44) [(.int .i64 k),(.str []),(.nils 0 0),(.nils 0 0),.nilp] O3 N 5 rfl (fun u hu=>by rcases u with _ | _ | _ | _ | _ | u <;> first | rfl | omega)
   refine ot vt ⟨O1v,e41,fkf ((beq_eq_false_iff_ne.2 k6)) ?_⟩;refine fkf ((beq_eq_false_iff_ne.2 k7)) ?_;refine fkf ((beq_eq_false_iff_ne.2 k8)) ?_;refine fkt ((by rw [k9]; rfl)) ?_;have obt:=b41;have lowT:∀ j,j<N→j≠mk→O1v.get j=O.get j:=fun j h1 h2=>(f41 j (by omega)).trans (low3 j h1 h2);have mT:=m3.same (O':=O1v) (fun j hj=>f41 j (by omega)) (f41 mk (by omega));rw [w1];refine sme (A:=fun j=>A j∨j=N) hmk mT (by omega) (fun j h=>h.elim (fun h=>by have:=hA j h; omega) fun h=>by omega) (.inl hAm) fun O5 N5 td5 ps s hN5 hO5 m5 g5 l5 r5=>?_;have ob5:=obt.same (hO5 N (by omega) (by omega));have low5:∀ j,j<N→j≠mk→O5.get j=O.get j:=fun j h1 h2=>(hO5 j (by omega) h2).trans (lowT j h1 h2);obtain ⟨O6,st6,b6,f6⟩:=ob5.store 3 [s] N5 G (Nat.le_of_ble_eq_true rfl) (by simp only [List.all_cons,List.all_nil,Bool.and_true]; exact (g5.sv pEn).one);have cel:s.cells.length.beq 1=true∧zc ⟨O5,N5,G⟩ N 0 3 s.cells=some ⟨O6,N5,G⟩:=by rw [(g5.sv pEn).cells]; exact ⟨rfl,st6⟩
   have hsN:s≠.nils 0 0→N+1≤sid s:=fun h=>(g5.sid_lt h).1;have g6:=g5.same (O':=O6) (fun h=>f6 _ (by have:=hsN h; omega)) (Nat.le_refl _) (Nat.le_refl _);have low6:∀ j,j<N→j≠mk→O6.get j=O.get j:=fun j h1 h2=>(f6 j (by omega)).trans (low5 j h1 h2);have m6:=m5.same (O':=O6) (fun j hj=>f6 j (by omega)) (f6 mk (by omega));have va6:SV O6 1 pE 0 N5 ps s:=(g6.sv pEn).keep (fun _ _ _=>rfl) (Nat.zero_le _) (Nat.le_refl _);have ma6:s≠.nils 0 0→¬ A (sid s)∧sid s≠N:=fun h=>⟨fun h2=>by have:=hA _ h2; have:=hsN h; omega,by have:=hsN h; omega⟩;have r6:∀ (j:Nat) (x:Ty) (p:Option Nat),ts[j]?=some x→ps[j]?=some p→Tra O6 N5 (fun j=>A j∨j=N) x p:=fun j x p a b=>((r5 j x p a b).imp fun j _ h=>.inl h).same (fun i _ h2=>f6 i (fun e=>h2 (.inr e))) (Nat.le_refl _);have raw:RAW O6 N5 A N k [] [] ts .no (.nils 0 0) s ps none:=⟨by omega,fun h=>by have:=hA _ h; omega,b6,SV.nil,fun h=>absurd rfl h,va6,ma6,l5,l53,by simp,r6,Tra.nil⟩;exact ot zb8 ⟨O6,cel,run hmk hmN hA hAm hK O6 N5 N _ s ps none (by omega) (Nat.le_refl _) low6 m6 raw⟩
  obtain ⟨t,ys,nn',nmt,run⟩:=stB y1 n2 k [] [] [] .no (c==(29:Int)) HN.nil (fun x hx=>by cases hx) NM.no;refine ⟨t,ys,nn',nmt,?_⟩;intro hi mk A O N G keep f0 Q rest hmk hmN hA hAm hK;intro O2 low2 m2;refine ot zjy ?_;refine zl h30 m2 hmk (by omega) fun O3 td3 c30 c36 f3 m3=>?_;have low3:∀ j,j<N→j≠mk→O3.get j=O.get j:=fun j h1 h2=>(f3 j h2).trans (low2 j h1 h2);obtain ⟨O1v,e43,b43,f43⟩:=Obj.mk (c:=(tW (tW (tY (.nils 0 0)) (.str []) tZ) (.int .i64 k) (tW (tY .nilp) (.nils 0 0) tZ))) (el:=44) [(.int .i64 k),(.str []),(.nils 0 0),(.nils 0 0),.nilp] O3 N 5 rfl (fun u hu=>by rcases u with _ | _ | _ | _ | _ | u <;> first | rfl | omega)
  refine ot vt ⟨O1v,e43,fkf ((beq_eq_false_iff_ne.2 k6)) ?_⟩;refine fkf ((beq_eq_false_iff_ne.2 k7)) ?_;refine fkf ((beq_eq_false_iff_ne.2 k8)) ?_;refine fkf ((beq_eq_false_iff_ne.2 k9)) ?_;have obt:=b43;have lowT:∀ j,j<N→j≠mk→O1v.get j=O.get j:=fun j h1 h2=>(f43 j (by omega)).trans (low3 j h1 h2);have mT:=m3.same (O':=O1v) (fun j hj=>f43 j (by omega)) (f43 mk (by omega));exact run hmk hmN hA hAm hK O1v (N+1) N _ _ [] none (by omega) (Nat.le_refl _) lowT mT ⟨by omega,fun h=>by have:=hA _ h; omega,obt,SV.nil,fun h=>absurd rfl h,SV.nil,fun h=>absurd rfl h,rfl,by simp,by simp,fun j x p h=>by simp at h,Tra.nil⟩
 rcases h9:nx 9 xs with ⟨c,y1⟩;rcases h6:nx 6 y1 with ⟨c6,y6⟩;have k6:∀ {q:Int},0≤q→q<6→IntKind.i64.wrap ((1:Int)+q)<7:=fun h1 h2=>by rw [IntKind.wrap_i64]; omega
 have r6:0≤c6∧c6<6:=zor h6 (by omega)
 by_cases hd0:((d:Nat):Int)<(1:Int)
 ·obtain ⟨t,ys,nn',nmt,run⟩:=stA y6 (IntKind.i64.wrap (nn+(1:Int))) (IntKind.i64.wrap ((1:Int)+c6)) (fun _=>k6 r6.1 r6.2);refine ⟨t,ys,nn',nmt,?_⟩;intro hi mk A O N G keep f0 Q rest hmk hm hmN hA hAm hK;obtain ⟨sl,ob,sv⟩:=hm;obtain ⟨O1v,e59,b59,f59⟩:=ob.store 1 [.int .i64 (IntKind.i64.wrap (nn+(1:Int)))] N G (Nat.le_of_ble_eq_true rfl) rfl;refine ot (zmb (nn:=nn)) ⟨O1v,ob.ld 1 rfl,e59,?_⟩;have m1:MK2 O1v hi mk xs _:=⟨sl,b59,sv.keep fun j hj=>f59 j (by omega)⟩;refine zl h9 m1 hmk (by omega) fun O2 td2 c0 c9 f2 m2=>?_;have low2:∀ j,j<N→j≠mk→O2.get j=O.get j:=fun j h1 h2=>(f2 j h2).trans (f59 j h2);have m2':=m2;obtain ⟨sl2,ob2,sv2⟩:=m2';refine ot (zbJ (nn:=IntKind.i64.wrap (nn+(1:Int)))) (fkt (decide_eq_true hd0) ?_);refine zl h6 m2 hmk (by omega) fun O3 td3 c30 c36 f3 m3=>?_;exact ot zd7 (run hmk hmN hA hAm hK O3 (fun j h1 h2=>(f3 j h2).trans (low2 j h1 h2)) m3)
 by_cases hnn:IntKind.i64.wrap (nn+(1:Int)) > (150:Int)
 ·obtain ⟨t,ys,nn',nmt,run⟩:=stA y6 (IntKind.i64.wrap (nn+(1:Int))) (IntKind.i64.wrap ((1:Int)+c6)) (fun _=>k6 r6.1 r6.2);refine ⟨t,ys,nn',nmt,?_⟩;intro hi mk A O N G keep f0 Q rest hmk hm hmN hA hAm hK;obtain ⟨sl,ob,sv⟩:=hm;obtain ⟨O1v,e62,b62,f62⟩:=ob.store 1 [.int .i64 (IntKind.i64.wrap (nn+(1:Int)))] N G (Nat.le_of_ble_eq_true rfl) rfl;refine ot (zmb (nn:=nn)) ⟨O1v,ob.ld 1 rfl,e62,?_⟩;have m1:MK2 O1v hi mk xs _:=⟨sl,b62,sv.keep fun j hj=>f62 j (by omega)⟩;refine zl h9 m1 hmk (by omega) fun O2 td2 c0 c9 f2 m2=>?_;have low2:∀ j,j<N→j≠mk→O2.get j=O.get j:=fun j h1 h2=>(f2 j h2).trans (f62 j h2);have m2':=m2;obtain ⟨sl2,ob2,sv2⟩:=m2';refine ot (zbJ (nn:=IntKind.i64.wrap (nn+(1:Int)))) (fkf (decide_eq_false hd0) ?_);refine ⟨ob2.ld 1 rfl,fkt (decide_eq_true hnn) ?_⟩;refine zl h6 m2 hmk (by omega) fun O3 td3 c30 c36 f3 m3=>?_;exact ot zcw (run hmk hmN hA hAm hK O3 (fun j h1 h2=>(f3 j h2).trans (low2 j h1 h2)) m3)
 obtain ⟨t,ys,nn',nmt,run⟩:=stA y1 (IntKind.i64.wrap (nn+(1:Int))) (IntKind.i64.wrap ((1:Int)+c)) (fun h=>by omega);refine ⟨t,ys,nn',nmt,?_⟩;intro hi mk A O N G keep f0 Q rest hmk hm hmN hA hAm hK;obtain ⟨sl,ob,sv⟩:=hm;obtain ⟨O1v,e65,b65,f65⟩:=ob.store 1 [.int .i64 (IntKind.i64.wrap (nn+(1:Int)))] N G (Nat.le_of_ble_eq_true rfl) rfl;refine ot (zmb (nn:=nn)) ⟨O1v,ob.ld 1 rfl,e65,?_⟩;have m1:MK2 O1v hi mk xs _:=⟨sl,b65,sv.keep fun j hj=>f65 j (by omega)⟩;refine zl h9 m1 hmk (by omega) fun O2 td2 c0 c9 f2 m2=>?_;have low2:∀ j,j<N→j≠mk→O2.get j=O.get j:=fun j h1 h2=>(f2 j h2).trans (f65 j h2);have m2':=m2;obtain ⟨sl2,ob2,sv2⟩:=m2';refine ot (zbJ (nn:=IntKind.i64.wrap (nn+(1:Int)))) (fkf (decide_eq_false hd0) ?_);refine ⟨ob2.ld 1 rfl,fkf (decide_eq_false hnn) ?_⟩;exact run hmk hmN hA hAm hK O2 low2 m2
theorem zqm (d:Nat)(hd:d≤1000):zpS d:=by
 induction d with
 | zero=>exact zf5 hd (.inl rfl)
 | succ d ih =>
  have one:zpS d:=ih (by omega);have h:d+1=0∨∃ d',d+1=d'+1∧zpS d':=.inr ⟨d,rfl,@one⟩;exact @zf5 (d+1) hd h
end Go.Proofs.Ytcdigdplhlgcaaa.gx
end
section
set_option maxRecDepth 100000
set_option linter.unusedVariables false
set_option linter.unusedSectionVars false
set_option linter.unusedSimpArgs false
namespace Go.Proofs.Ytcdigdplhlgcaaa.gx
open Go Ev tp
section
variable (q:Nat) (k k2:Int) (nm nm2:List UInt8) (sn sa sn2 sa2 rp rp2:AV) (n j:Int) (m:Nat) (blq0 blq1:Bool) (rest:List AFrame) (O:T AObj) (N:Nat) (G:T (T AV)) (i1 i2 i3 i4 i5 i6:Nat) (s1 s2:AV) (z1 z2 z3 z4:Int)
noncomputable def zbV:AFrame:=frm 50 126 (tW (tW (tX (tW (tX (tW (tY (.bool (z3 != z4))) (.ptr q 0 1) tZ) (tY (.ptr m 0 2))) (.ptr q 0 0) (tW (tW (tY (.ptr m 0 0)) (.bool false) tZ) (.ptr m 0 0) (tY (.ptr q 0 3)))) (tW (tW (tW (tY (.ptr q 0 0)) (.ptr m 0 1) tZ) (.ptr q 0 0) (tY (.bool (z1 != z2)))) (.bool false) (tW (tY sn) (.bool (k != k2)) (tY (.ptr m 0 0))))) (.ptr m 0 0) (tX (tW (tX (tW (tY (.bool false)) (.ptr m 0 0) tZ) (tY (.int .i64 z2))) (.bool false) (tW (tW (tY rp2) (.ptr q 0 0) tZ) (.ptr m 0 0) (tY (.int .i64 z3)))) (tX (tW (tW (tY rp) (.bool (!nm==nm2)) tZ) (.ptr q 0 0) (tY (.ptr q 0 0))) (tW (tY (.ptr m 0 0)) (.ptr q 0 0) (tY sa2))))) (.ptr q 0 0) (tX (tW (tW (tX (tW (tY (.bool (z3 != z4))) (.str nm) tZ) (tY sn2)) (.bool false) (tW (tW (tY (.ptr m 0 4)) (.ptr q 0 0) tZ) (.ptr m 0 0) (tY sa))) (.bool false) (tW (tW (tW (tY (.ptr q 0 4)) (.str nm2) tZ) (.ptr q 0 0) (tY (.bool false))) (.bool false) (tW (tY (.int .i64 z1)) (.bool false) (tY (.ptr m 0 3))))) (tX (tW (tX (tW (tY (.ptr q 0 0)) (.ptr m 0 0) tZ) (tY (.bool (z1 != z2)))) (.ptr m 0 0) (tW (tY (.ptr q 0 2)) (.int .i64 k2) (tY (.ptr m 0 0)))) (tX (tW (tW (tY (.ptr m 0 0)) (.bool (!nm==nm2)) tZ) (.int .i64 k) (tY (.ptr q 0 0))) (tW (tY (.ptr m 0 0)) (.ptr q 0 0) (tY (.int .i64 z4))))))) [.drw (rg P 50 [1,1,0,0]) [55,56,57] [54,53,52,51,50,49,48,47,46,45,44,43,42,41,40,39,38,37,36,35,34,33,32,31,30,29,28,27,26,25,24,23,22,21,20,19,18,17,16,15,14,13,12,11,10,9,8,7,6,5,4,3,2,1,0],cdi 50 [1,1,0,1],cdi 50 [1,1,1]]
noncomputable def Wrsa:AM:=⟨frm 50 126 (tW (tW tZ (.ptr m 0 0) (tY (.int .i64 j))) (.ptr q 0 0) tZ) [cdi 50 [1,1,1,0,1,0,0],ili 50 [1,1,1,0,1,0,0],.inBlock 0,cdi 50 [1,1,1,1]],rest,⟨O,N,G⟩⟩
noncomputable def zsM:AM:=⟨frm 50 126 (tW (tY (.ptr m 0 0)) (.ptr q 0 0) (tX tZ (tY (.int .i64 j)))) [cdi 50 [1,1,1,1,0,1,0,0],ili 50 [1,1,1,1,0,1,0,0],.inBlock 2,cdi 50 [1,1,1,1,1]],rest,⟨O,N,G⟩⟩
noncomputable def zsr:AFrame:=frm 50 126 (tW (tW (tX (tX (tX tZ (tX tZ (tY (.ptr q 0 0)))) (tX (tX tZ (tY (.ptr q 0 0))) (tX tZ (tY (.ptr m 0 3))))) (tX (tX tZ (tX tZ (tY (.ptr i1 i2 i3)))) (tX (tX tZ (tY (.bool true))) (tX tZ (tY s2))))) (.ptr m 0 0) (tX (tX (tX tZ (tX tZ (tY sa))) (tX (tX tZ (tY sa)) (tX tZ (tY (.int .i64 j))))) (tX (tX (tX tZ (tY (.int .i64 j))) (tX tZ (tY (.ptr m 0 0)))) tZ))) (.ptr q 0 0) (tX (tX (tX (tX tZ (tX tZ (tY (.ptr q 0 3)))) (tX (tX tZ (tY (.ptr q 0 3))) (tX tZ (tY sa2)))) (tX (tX tZ (tX tZ (tY s1))) tZ)) (tW (tX (tX tZ (tX tZ (tY (.int .i64 j)))) (tX (tX tZ (tY (.int .i64 z1))) (tX tZ (tY (.ptr i4 i5 i6))))) (.int .i64 j) (tX (tX (tX tZ (tY (.ptr q 0 0))) (tX tZ (tY (.ptr m 0 0)))) (tX (tX tZ (tY (.ptr q 0 0))) tZ))))) [.drw (rg P 50 [1,1,1,1,0,1,0,0,1,0,0,0]) [14,15] [13,12,11,10,9,8,7,6,5,4,3,2,1,0],cdi 50 [1,1,1,1,0,1,0,0,1,0,0,1],.inBlock 3,cdi 50 [1,1,1,1,0,1,0,0,1,1],ili 50 [1,1,1,1,0,1,0,0],.inBlock 2,cdi 50 [1,1,1,1,1]]
end
section
variable {R:AV→AHeap→Prop} {keep N m q i1c i2c i3c i4c i5c i6c:Nat} {f0:FuncId} {rest:List AFrame} {O:T AObj} {G:T (T AV)} {K:AM→Prop} {k k2 n j z1c z2c z3c z4c:Int} {nm nm2:List UInt8} {sn sn2 sa sa2 rp rp2 s1c s2c:AV} {td:List AItem} {blq0 blq1 blq2:Bool}
theorem zmU:(K (AM.mk (RF 50 126 (tX tZ (tX (tY (.bool true)) tZ)) [cdi 50 [1,0,1,0,1],cdi 50 [1,1]]) rest ⟨O,N,G⟩))=OT f0 R keep K (.seq [.run 26,.keep [4]] .fin) ((AM.mk (enF 50 [.nilp,.nilp]) rest ⟨O,N,G⟩)):=by kernel_rfl
theorem zm8:(K (AM.mk (RF 50 126 (tX tZ (tX (tY (.bool false)) tZ)) [cdi 50 [1,0,1,0,1],cdi 50 [1,1]]) rest ⟨O,N,G⟩))=OT f0 R keep K (.seq [.run 26,.keep [4]] .fin) ((AM.mk (enF 50 [.nilp,.ptr m 0 0]) rest ⟨O,N,G⟩)):=by kernel_rfl
theorem zn4:(K (AM.mk (RF 50 126 (tX tZ (tX (tY (.bool false)) tZ)) [cdi 50 [1,0,1,0,1],cdi 50 [1,1]]) rest ⟨O,N,G⟩))=OT f0 R keep K (.seq [.run 26,.keep [4]] .fin) ((AM.mk (enF 50 [.ptr q 0 0,.nilp]) rest ⟨O,N,G⟩)):=by kernel_rfl
theorem znn:((lC O N G q 0 (.int .i64 k))∧(lC O N G m 0 (.int .i64 k2))∧(((k != k2))=true→(K (AM.mk (RF 50 126 (tX tZ (tX (tY (.bool false)) tZ)) [cdi 50 [1,0,1,0,1],cdi 50 [1,1,1]]) rest ⟨O,N,G⟩)))∧(((k != k2))=false→((lC O N G q 1 (.str nm))∧(lC O N G m 1 (.str nm2))∧(((!nm==nm2))=true→(K (AM.mk (RF 50 126 (tX tZ (tX (tY (.bool false)) tZ)) [cdi 50 [1,0,1,0,1],cdi 50 [1,1,1]]) rest ⟨O,N,G⟩)))∧(((!nm==nm2))=false→(∃ (z1:Int) (z2:Int),(lC O N G q 2 sn)∧(lN O N G 32 sn z1)∧(lC O N G m 2 sn2)∧(lN O N G 32 sn2 z2)∧(((z1 != z2))=true→(K (AM.mk (RF 50 126 (tX tZ (tX (tY (.bool false)) tZ)) [cdi 50 [1,0,1,0,1],cdi 50 [1,1,1]]) rest ⟨O,N,G⟩)))∧(((z1 != z2))=false→(∃ (z3:Int) (z4:Int),(lC O N G q 3 sa)∧(lN O N G 33 sa z3)∧(lC O N G m 3 sa2)∧(lN O N G 33 sa2 z4)∧(((z3 != z4))=true→(K (AM.mk (RF 50 126 (tX tZ (tX (tY (.bool false)) tZ)) [cdi 50 [1,0,1,0,1],cdi 50 [1,1,1]]) rest ⟨O,N,G⟩)))∧(((z3 != z4))=false→((lC O N G q 4 rp)∧(lC O N G m 4 rp2)∧K (AM.mk (enF 50 [rp,rp2]) ((zbV q k k2 nm nm2 sn sa sn2 sa2 rp rp2 m z1 z2 z3 z4)::rest) ⟨O,N,G⟩))))))))))=OT f0 R keep K (.seq [.run 22,.hop (.int .i64 k) O,.run 3,.hop (.int .i64 k2) O,.run 2] (.fork 28 (.seq [.run 55,.keep [4]] .fin) (.seq [.run 3,.hop (.str nm) O,.run 3,.hop (.str nm2) O,.run 3] (.fork 39 (.seq [.run 44,.keep [4]] .fin) (.ex fun z1:Int=>(.ex fun z2:Int=>(.seq [.run 3,.hop (sn) O,.hopn (.int .i64 z1) O (N),.run 3,.hop (sn2) O,.hopn (.int .i64 z2) O (N),.run 3] (.fork 52 (.seq [.run 31,.keep [4]] .fin) (.ex fun z3:Int=>(.ex fun z4:Int=>(.seq [.run 3,.hop (sa) O,.hopn (.int .i64 z3) O (N),.run 3,.hop (sa2) O,.hopn (.int .i64 z4) O (N),.run 3] (.fork 65 (.seq [.run 18,.keep [4]] .fin) (.seq [.run 3,.hop (rp) O,.run 3,.hop (rp2) O,.run 1] .fin))))))))))))) ((AM.mk (enF 50 [.ptr q 0 0,.ptr m 0 0]) rest ⟨O,N,G⟩)):=by kernel_rfl
theorem zb7:((((!blq0))=true→(K (AM.mk (RF 50 126 (tX tZ (tX (tY (.bool false)) tZ)) [cdi 50 [1,0,1,0,1],cdi 50 [1,1,1]]) rest ⟨O,N,G⟩)))∧(((!blq0))=false→(K (Wrsa q 0 m rest O N G))))=OT f0 R keep K (.seq [.run 4] (.fork 76 (.seq [.run 6,.keep [4]] .fin) (.seq [.run 9,.keep [0,1,5]] .fin))) ((AM.mk (RF 50 126 (tX tZ (tX (tY (.bool blq0)) tZ)) td) ((zbV q k k2 nm nm2 sn sa sn2 sa2 rp rp2 m z1c z2c z3c z4c)::rest) ⟨O,N,G⟩)):=by kernel_rfl
theorem zs9:(∃ (z1:Int),(lC O N G q 2 sn)∧(lN O N G 32 sn z1)∧((decide (j<z1))=true→(∃ (i1:Nat) (i2:Nat) (i3:Nat) (l1:List UInt8) (i4:Nat) (i5:Nat) (i6:Nat) (l2:List UInt8),(lC O N G q 2 sn)∧(iX 32 sn j i1 i2 i3)∧(lR O N G i1 i2 i3 (.str l1))∧(lC O N G m 2 sn2)∧(iX 32 sn2 j i4 i5 i6)∧(lR O N G i4 i5 i6 (.str l2))∧(((!l1==l2))=true→(K (AM.mk (RF 50 126 (tX tZ (tX (tY (.bool false)) tZ)) [cdi 50 [1,0,1,0,1],.inBlock 1,cdi 50 [1,1,1,0,1,0,0,1,1],ili 50 [1,1,1,0,1,0,0],.inBlock 0,cdi 50 [1,1,1,1]]) rest ⟨O,N,G⟩)))∧(((!l1==l2))=false→(K (Wrsa q (IntKind.i64.wrap (j+(1:Int))) m rest O N G)))))∧((decide (j<z1))=false→(K (zsM q 0 m rest O N G))))=OT f0 R keep K (.ex fun z1:Int=>(.seq [.run 7,.hop (sn) O,.hopn (.int .i64 z1) O (N),.run 2] (.fork 83 (.ex fun i1:Nat=>(.ex fun i2:Nat=>(.ex fun i3:Nat=>(.ex fun l1:List UInt8=>(.ex fun i4:Nat=>(.ex fun i5:Nat=>(.ex fun i6:Nat=>(.ex fun l2:List UInt8=>(.seq [.run 9,.hop (sn) O,.run 1,.hopn (.ptr i1 i2 i3) O (N),.hop (.str l1) O,.run 3,.hop (sn2) O,.run 1,.hopn (.ptr i4 i5 i6) O (N),.hop (.str l2) O,.run 2] (.fork 100 (.seq [.run 6,.keep [4]] .fin) (.seq [.run 9,.keep [0,1,5]] .fin))))))))))) (.seq [.run 9,.keep [0,1,6]] .fin)))) ((Wrsa q j m rest O N G)):=by kernel_rfl
theorem zrO:(∃ (z1:Int),(lC O N G q 3 sa)∧(lN O N G 33 sa z1)∧((decide (j<z1))=true→(∃ (i1:Nat) (i2:Nat) (i3:Nat) (s1:AV) (i4:Nat) (i5:Nat) (i6:Nat) (s2:AV),(lC O N G q 3 sa)∧(iX 33 sa j i1 i2 i3)∧(lR O N G i1 i2 i3 s1)∧(lC O N G m 3 sa2)∧(iX 33 sa2 j i4 i5 i6)∧(lR O N G i4 i5 i6 s2)∧K (AM.mk (enF 50 [s1,s2]) ((zsr q sa sa2 j m i1 i2 i3 i4 i5 i6 s1 s2 z1)::rest) ⟨O,N,G⟩)))∧((decide (j<z1))=false→(K (AM.mk (RF 50 126 (tX tZ (tX (tY (.bool true)) tZ)) [cdi 50 [1,0,1,0,1]]) rest ⟨O,N,G⟩))))=OT f0 R keep K (.ex fun z1:Int=>(.seq [.run 7,.hop (sa) O,.hopn (.int .i64 z1) O (N),.run 2] (.fork 107 (.ex fun i1:Nat=>(.ex fun i2:Nat=>(.ex fun i3:Nat=>(.ex fun s1:AV=>(.ex fun i4:Nat=>(.ex fun i5:Nat=>(.ex fun i6:Nat=>(.ex fun s2:AV=>(.seq [.run 9,.hop (sa) O,.run 1,.hopn (.ptr i1 i2 i3) O (N),.hop (s1) O,.run 3,.hop (sa2) O,.run 1,.hopn (.ptr i4 i5 i6) O (N),.hop (s2) O,.run 1] .fin))))))))) (.seq [.run 7,.keep [4]] .fin)))) ((zsM q j m rest O N G)):=by kernel_rfl
theorem zkI:((((!blq0))=true→(K (AM.mk (RF 50 126 (tX tZ (tX (tY (.bool false)) tZ)) [cdi 50 [1,0,1,0,1],.inBlock 3,cdi 50 [1,1,1,1,0,1,0,0,1,1],ili 50 [1,1,1,1,0,1,0,0],.inBlock 2,cdi 50 [1,1,1,1,1]]) rest ⟨O,N,G⟩)))∧(((!blq0))=false→(K (zsM q (IntKind.i64.wrap (j+(1:Int))) m rest O N G))))=OT f0 R keep K (.seq [.run 3] (.fork 125 (.seq [.run 6,.keep [4]] .fin) (.seq [.run 9,.keep [0,1,6]] .fin))) ((AM.mk (RF 50 126 (tX tZ (tX (tY (.bool blq0)) tZ)) td) ((zsr q sa sa2 j m i1c i2c i3c i4c i5c i6c s1c s2c z1c)::rest) ⟨O,N,G⟩)):=by kernel_rfl
end
variable {O O':T AObj} {N:Nat} {G:T (T AV)}
theorem bF {X:Prop}(h:¬ X):(false=true ↔ X):=⟨fun e=>(by cases e),fun x=>(h x).elim⟩
theorem bT {X:Prop}(h:X):(true=true ↔ X):=⟨fun _=>h,fun _=>rfl⟩
theorem zai {k k2:Int}{nm nm2:ze}{ns ns2:List ze}{ts ts2:List Ty}{r r2:Ty}:Ty.mk k nm ns ts r=.mk k2 nm2 ns2 ts2 r2 ↔ k=k2∧nm=nm2∧ns=ns2∧ts=ts2∧r=r2 :=
 ⟨fun h=>(by injection h with a b c d e; exact ⟨a,b,c,d,e⟩),fun h=>(by obtain ⟨a,b,c,d,e⟩:=h; rw [a,b,c,d,e])⟩
theorem zdM {hi:Nat}{keep:Nat}{f0:FuncId}{Q:AV→AHeap→Prop}:∀ (g:Nat) (t u:Ty) (p p2:Option Nat) (rest:List AFrame),cnt t≤g→Tr O hi t p→Tr O hi u p2 →
 (∀ td b,(b=true ↔ t=u)→Goal P keep f0 Q (AM.mk (RF 50 126 (tX tZ (tX (tY (.bool b)) tZ)) td) rest ⟨O,N,G⟩))→Goal P keep f0 Q (AM.mk (enF 50 [pv p,pv p2]) rest ⟨O,N,G⟩)
 | g,.no,.no,p,p2,rest,hg,ht,hu,hK=>by
  cases ht;cases hu;exact ot zmU (hK _ true (bT rfl))
 | g,.no,.mk k2 nm2 ns2 ts2 r2,p,p2,rest,hg,ht,hu,hK=>by
  cases ht;obtain ⟨m,sn2,sa2,ps2,rq2,rfl,j1',j2',j3',j4',j5',j6',j7',j8',j9'⟩:=hu.inv;exact ot zm8 (hK _ false (bF fun e=>by cases e))
 | g,.mk k nm ns ts r,.no,p,p2,rest,hg,ht,hu,hK=>by
  cases hu;obtain ⟨q,sn,sa,ps,rq,rfl,i1',i2',i3',i4',i5',i6',i7',i8',i9'⟩:=ht.inv;exact ot zn4 (hK _ false (bF fun e=>by cases e))
 | 0,.mk k nm ns ts r,.mk k2 nm2 ns2 ts2 r2,p,p2,rest,hg,ht,hu,hK=>by rw [z9] at hg; omega
 | g+1,.mk k nm ns ts r,.mk k2 nm2 ns2 ts2 r2,p,p2,rest,hg,ht,hu,hK=>by
  rw [z9] at hg;obtain ⟨q,sn,sa,ps,rq,rfl,i1',i2',i3',i4',i5',i6',i7',i8',i9'⟩:=ht.inv;obtain ⟨m,sn2,sa2,ps2,rq2,rfl,j1',j2',j3',j4',j5',j6',j7',j8',j9'⟩:=hu.inv;refine ot (znn (k:=k) (k2:=k2) (nm:=nm) (nm2:=nm2) (sn:=sn) (sa:=sa) (sn2:=sn2) (sa2:=sa2) (rp:=pv rq) (rp2:=pv rq2)) ⟨i2'.ld 0 rfl,j2'.ld 0 rfl,fun hc35=>?_,fun hc35=>?_⟩
  ·
   refine hK _ false (bF fun e=>?_);have e2:=(·.1) (zai.1 e);rw [e2] at hc35;simp at hc35
  ·
   refine ⟨i2'.ld 1 rfl,j2'.ld 1 rfl,fun hc36=>?_,fun hc36=>?_⟩
   ·
    refine hK _ false (bF fun e=>?_);have e2:=(·.2.1) (zai.1 e);rw [e2] at hc36;simp at hc36
   ·
    refine ⟨_,_,i2'.ld 2 rfl,i3'.len sSl _ _,j2'.ld 2 rfl,j3'.len sSl _ _,fun hc37=>?_,fun hc37=>?_⟩
    ·
     refine hK _ false (bF fun e=>?_);have e2:=(·.2.2.1) (zai.1 e);rw [e2] at hc37;simp at hc37
    ·
     refine ⟨_,_,i2'.ld 3 rfl,i4'.len pSl _ _,j2'.ld 3 rfl,j4'.len pSl _ _,fun hc38=>?_,fun hc38=>?_⟩
     ·
      refine hK _ false (bF fun e=>?_);have e2:=(·.2.2.2.1) (zai.1 e);rw [i5',j5',e2] at hc38;simp at hc38
     ·
      refine ⟨i2'.ld 4 rfl,j2'.ld 4 rfl,?_⟩;have hk:k=k2:=by simpa using hc35
      have hnm:nm=nm2:=by simpa using hc36
      have hlns:ns.length=ns2.length:=by have:=hc37; simp at this; omega
      have hlts:ts.length=ts2.length:=by have:=hc38; rw [i5',j5'] at this; simp at this; omega
      refine zdM g r r2 rq rq2 _ (by omega) i9' j9' fun td b h0=>?_;refine ot zb7 ⟨fun hc40=>?_,fun hc40=>?_⟩
      ·
       refine hK _ false (bF fun e=>?_);rw [h0.2 ((·.2.2.2.2) (zai.1 e))] at hc40;cases hc40
      ·
       have hr:r=r2:=h0.1 (by simpa using hc40)
       have stB:ns=ns2→Goal P keep f0 Q (zsM q 0 m rest O N G):=by
        intro hns;have loop:∀ (c i:Nat),i+c=ts.length→ts.take i=ts2.take i→Goal P keep f0 Q (zsM q ((i:Nat):Int) m rest O N G):=by
         intro c
         induction c with
         | zero =>
          intro i hi' ht2;refine ot (zrO (sa:=sa) (sa2:=sa2)) ⟨_,i2'.ld 3 rfl,i4'.len pSl _ _,fkf (decide_eq_false (by omega)) ?_⟩;refine hK _ true (bT (zai.2 ⟨hk,hnm,hns,?_,hr⟩));have hi2:i=ts.length:=by omega
          rw [hi2,List.take_length,hlts,List.take_length] at ht2;exact ht2
         | succ c ih =>
          intro i hi' ht2;obtain ⟨x,hx,_⟩:=nth (l:=ts) (j:=i) (by omega);obtain ⟨y,hy,_⟩:=nth (l:=ts2) (j:=i) (by omega);obtain ⟨p,hp,_⟩:=nth (l:=ps) (j:=i) (by omega);obtain ⟨p2,hp2,_⟩:=nth (l:=ps2) (j:=i) (by omega);refine ot (zrO (sa:=sa) (sa2:=sa2)) ⟨_,i2'.ld 3 rfl,i4'.len pSl _ _,fkt (decide_eq_true (by omega)) ?_⟩;obtain ⟨i1,i2,i3,lo32,hi32,eA32,rd32,_⟩:=i4'.at pSl pEn hp;obtain ⟨i4,i5,i6,lo33,hi33,eA33,rd33,_⟩:=j4'.at pSl pEn hp2;refine ⟨i1,i2,i3,_,i4,i5,i6,_,i2'.ld 3 rfl,eA32,rd32.load rfl _ _,j2'.ld 3 rfl,eA33,rd33.load rfl _ _,?_⟩;refine zdM g x y p p2 _ (by have:=xf (List.mem_of_getElem? hx); omega) (i8' i x p hx hp) (j8' i y p2 hy hp2) fun td b hb=>?_;refine ot zkI ⟨fun hc31=>?_,fun hc31=>?_⟩
          ·
           refine hK _ false (bF fun e=>?_);rw [(·.2.2.2.1) (zai.1 e)] at hx;rw [hb.2 (Option.some.inj (hx.symm.trans hy))] at hc31;cases hc31
          ·
           have hxy:x=y:=hb.1 (by simpa using hc31)
           have nx:=ih (i+1) (by omega) (by rw [List.take_add_one,List.take_add_one,ht2,hx,hy,hxy]);rw [← zq (i:=i) (by omega)] at nx;exact nx
        exact loop ts.length 0 (Nat.zero_add _) rfl
       have loop:∀ (c i:Nat),i+c=ns.length→ns.take i=ns2.take i→Goal P keep f0 Q (Wrsa q ((i:Nat):Int) m rest O N G):=by
        intro c
        induction c with
        | zero =>
         intro i hi' ht2;refine ot (zs9 (sn:=sn) (sn2:=sn2)) ⟨_,i2'.ld 2 rfl,i3'.len sSl _ _,fkf (decide_eq_false (by omega)) ?_⟩;have hi2:i=ns.length:=by omega
         rw [hi2,List.take_length,hlns,List.take_length] at ht2;exact stB ht2
        | succ c ih =>
         intro i hi' ht2;obtain ⟨x,hx,_⟩:=nth (l:=ns) (j:=i) (by omega);obtain ⟨y,hy,_⟩:=nth (l:=ns2) (j:=i) (by omega);refine ot (zs9 (sn:=sn) (sn2:=sn2)) ⟨_,i2'.ld 2 rfl,i3'.len sSl _ _,fkt (decide_eq_true (by omega)) ?_⟩;obtain ⟨i1,i2,i3,lo25,hi25,eA25,rd25,_⟩:=i3'.at sSl sEn hx;obtain ⟨i4,i5,i6,lo26,hi26,eA26,rd26,_⟩:=j3'.at sSl sEn hy;refine ⟨i1,i2,i3,_,i4,i5,i6,_,i2'.ld 2 rfl,eA25,rd25.load rfl _ _,j2'.ld 2 rfl,eA26,rd26.load rfl _ _,fun hc27=>?_,fun hc27=>?_⟩
         ·
          refine hK _ false (bF fun e=>?_);rw [(·.2.2.1) (zai.1 e)] at hx;have hxy:x=y:=Option.some.inj (hx.symm.trans hy);rw [hxy] at hc27;simp at hc27
         ·
          have hxy:x=y:=by simpa using hc27
          have nx:=ih (i+1) (by omega) (by rw [List.take_add_one,List.take_add_one,ht2,hx,hy,hxy]);rw [← zq (i:=i) (by omega)] at nx;exact nx
       exact loop ns.length 0 (Nat.zero_add _) rfl
end Go.Proofs.Ytcdigdplhlgcaaa.gx
end
section
set_option maxRecDepth 100000
set_option linter.unusedVariables false
set_option linter.unusedSectionVars false
set_option linter.unusedSimpArgs false
namespace Go.Proofs.Ytcdigdplhlgcaaa.gx
open Go Ev tp
section
variable (N:Nat) (v v2:AV) (q m:Nat)
noncomputable def ztO:AFrame:=frm 46 6 (tX (tX (tY v) tZ) tZ) [opi 46 [1,0] 1,cdi 46 [1,1]]
noncomputable def zkf:AFrame:=frm 19 30 (tW (tW tZ (.ptr m 0 0) (tX (tX (tY (.ptr q 0 0)) tZ) tZ)) (.ptr q 0 0) tZ) [opi 19 [1,1,0] 1,cdi 19 [1,0,1,0,1]]
noncomputable def zb0:AFrame:=frm 19 30 (tW (tW tZ (.ptr m 0 0) (tX tZ (tX (tY (.ptr m 0 0)) tZ))) (.ptr q 0 0) (tX (tX tZ (tX (tY (.bool true)) tZ)) tZ)) [opi 19 [1,1,0] 5,cdi 19 [1,0,1,0,1]]
noncomputable def wE:AFrame:=frm 19 30 (tX (tX (tX tZ (tX tZ (tY (.ptr m 0 0)))) (tX (tX tZ (tY (.bool true))) tZ)) (tX tZ (tX (tX tZ (tY (.ptr q 0 0))) tZ))) [opi 19 [1,1,0] 11,cdi 19 [1,0,1,0,1]]
end
section
variable {R:AV→AHeap→Prop} {keep N Nc m q:Nat} {f0:FuncId} {rest:List AFrame} {O:T AObj} {sa prq0 v v2:AV} {G:T (T AV)} {K:AM→Prop} {td:List AItem} {crq0 crq1:Int} {blq0 blq2:Bool} {lrq1:List UInt8}
theorem zrK:(K (AM.mk (enF 12 [v]) ((ztO v)::rest) ⟨O,N,G⟩))=OT f0 R keep K (.seq [.run 7,.keep [3],.run 1] .fin) ((AM.mk (enF 46 [v]) rest ⟨O,N,G⟩)):=by kernel_rfl
theorem zmD:(K (AM.mk (RF 46 6 (tX tZ (tY (.bool (crq0==(0:Int))))) [cdi 46 [1,1]]) rest ⟨O,N,G⟩))=OT f0 R keep K (.seq [.run 5,.keep [2]] .fin) ((AM.mk (RF 12 14 (tX tZ (tY (.int .i64 crq0))) td) ((ztO v)::rest) ⟨O,N,G⟩)):=by kernel_rfl
theorem znb:(K (AM.mk (RF 19 30 (tX tZ (tX (tY (.bool true)) tZ)) [cdi 19 [1,0,1,0,1],cdi 19 [1,1]]) rest ⟨O,N,G⟩))=OT f0 R keep K (.seq [.run 26,.keep [4]] .fin) ((AM.mk (enF 19 [.nilp,.nilp]) rest ⟨O,N,G⟩)):=by kernel_rfl
theorem zne:(K (AM.mk (RF 19 30 (tX tZ (tX (tY (.bool false)) tZ)) [cdi 19 [1,0,1,0,1],cdi 19 [1,1]]) rest ⟨O,N,G⟩))=OT f0 R keep K (.seq [.run 26,.keep [4]] .fin) ((AM.mk (enF 19 [.nilp,.ptr m 0 0]) rest ⟨O,N,G⟩)):=by kernel_rfl
theorem zob:(K (AM.mk (RF 19 30 (tX tZ (tX (tY (.bool false)) tZ)) [cdi 19 [1,0,1,0,1],cdi 19 [1,1]]) rest ⟨O,N,G⟩))=OT f0 R keep K (.seq [.run 26,.keep [4]] .fin) ((AM.mk (enF 19 [.ptr q 0 0,.nilp]) rest ⟨O,N,G⟩)):=by kernel_rfl
theorem zna:(K (AM.mk (enF 15 [.ptr q 0 0]) ((zkf q m)::rest) ⟨O,N,G⟩))=OT f0 R keep K (.seq [.run 19,.keep [0,1,17],.run 1] .fin) ((AM.mk (enF 19 [.ptr q 0 0,.ptr m 0 0]) rest ⟨O,N,G⟩)):=by kernel_rfl
theorem zgE:(((decide (crq0≤(60:Int)))=true→(K (AM.mk (enF 15 [.ptr m 0 0]) ((zb0 q m)::rest) ⟨O,N,G⟩)))∧((decide (crq0≤(60:Int)))=false→(K (AM.mk (RF 19 30 (tX tZ (tX (tY (.bool false)) tZ)) [cdi 19 [1,0,1,0,1]]) rest ⟨O,N,G⟩))))=OT f0 R keep K (.seq [.run 3] (.fork 20 (.seq [.run 1,.keep [0,1,20,21],.run 1] .fin) (.seq [.run 12,.keep [4]] .fin))) ((AM.mk (RF 15 5 (tX tZ (tY (.int .i64 crq0))) td) ((zkf q m)::rest) ⟨O,N,G⟩)):=by kernel_rfl
theorem zbx:(((decide (crq1≤(60:Int)))=true→(K (AM.mk (enF 50 [.ptr q 0 0,.ptr m 0 0]) ((wE q m)::rest) ⟨O,N,G⟩)))∧((decide (crq1≤(60:Int)))=false→(K (AM.mk (RF 19 30 (tX tZ (tX (tY (.bool false)) tZ)) [cdi 19 [1,0,1,0,1]]) rest ⟨O,N,G⟩))))=OT f0 R keep K (.seq [.run 4] (.fork 25 (.seq [.run 2,.keep [25,26,27],.run 1] .fin) (.seq [.run 7,.keep [4]] .fin))) ((AM.mk (RF 15 5 (tX tZ (tY (.int .i64 crq1))) td) ((zb0 q m)::rest) ⟨O,N,G⟩)):=by kernel_rfl
theorem v6:(K (AM.mk (RF 19 30 (tX tZ (tX (tY (.bool blq2)) tZ)) [cdi 19 [1,0,1,0,1]]) rest ⟨O,N,G⟩))=OT f0 R keep K (.seq [.run 5,.keep [4]] .fin) ((AM.mk (RF 50 126 (tX tZ (tX (tY (.bool blq2)) tZ)) td) ((wE q m)::rest) ⟨O,N,G⟩)):=by kernel_rfl
end
variable {O O':T AObj} {N:Nat} {G:T (T AV)}
theorem bld59 {s1:AV}(hv:AV.one s1=true):qa P 59 [(0,s1)]=some (.agg [s1,.int .i64 0]):=by
 cases s1 with
 | _=>first | (cases hv; done) | kernel_rfl
theorem kC {hi:Nat}{keep:Nat}{f0:FuncId}{Q:AV→AHeap→Prop}{rest:List AFrame}:∀ {t u:Ty} {p p2:Option Nat},Tr O hi t p→Tr O hi u p2 →
 (∀ td b,(b=true ↔ cnt t≤60∧cnt u≤60∧t=u)→Goal P keep f0 Q (AM.mk (RF 19 30 (tX tZ (tX (tY (.bool b)) tZ)) td) rest ⟨O,N,G⟩))→Goal P keep f0 Q (AM.mk (enF 19 [pv p,pv p2]) rest ⟨O,N,G⟩)
 | .no,.no,p,p2,ht,hu,hK=>by
  cases ht;cases hu;have c0:cnt .no=0:=by simp only [cnt]
  exact ot znb (hK _ true (bT ⟨by omega,by omega,rfl⟩))
 | .no,.mk k2 nm2 ns2 ts2 r2,p,p2,ht,hu,hK=>by
  cases ht;obtain ⟨m,sn2,sa2,ps2,rq2,rfl,_⟩:=hu.inv;exact ot zne (hK _ false (bF fun e=>by cases e.2.2))
 | .mk k nm ns ts r,.no,p,p2,ht,hu,hK=>by
  cases hu;obtain ⟨q,sn,sa,ps,rq,rfl,_⟩:=ht.inv;exact ot zob (hK _ false (bF fun e=>by cases e.2.2))
 | .mk k nm ns ts r,.mk k2 nm2 ns2 ts2 r2,p,p2,ht,hu,hK=>by
  have ht0:=ht;have hu0:=hu;obtain ⟨q,sn,sa,ps,rq,rfl,_⟩:=ht.inv;obtain ⟨m,sn2,sa2,ps2,rq2,rfl,_⟩:=hu.inv;refine ot zna ?_;refine zaP ht0 fun td1=>?_;refine ot zgE ⟨fun hc52=>?_,fun hc52=>?_⟩
  ·
   have c1:cnt (Ty.mk k nm ns ts r)≤60:=by have:=of_decide_eq_true hc52; omega
   refine zaP hu0 fun td2=>?_;refine ot zbx ⟨fun hc54=>?_,fun hc54=>?_⟩
   ·
    have c2:cnt (Ty.mk k2 nm2 ns2 ts2 r2)≤60:=by have:=of_decide_eq_true hc54; omega
    refine zdM _ _ _ (some q) (some m) _ (Nat.le_refl _) ht0 hu0 fun td3 b hb=>?_;exact ot v6 (hK _ b ⟨fun e=>⟨c1,c2,hb.1 e⟩,fun x=>hb.2 x.2.2⟩)
   ·
    exact hK _ false (bF fun x=>by have:=of_decide_eq_false hc54; omega)
  ·
   exact hK _ false (bF fun x=>by have:=of_decide_eq_false hc52; omega)
end Go.Proofs.Ytcdigdplhlgcaaa.gx
end
section
set_option maxRecDepth 100000
set_option linter.unusedVariables false
set_option linter.unusedSectionVars false
set_option linter.unusedSimpArgs false
namespace Go.Proofs.Ytcdigdplhlgcaaa.gx
open Go Ev tp
section
variable (j:Int) (mk:Nat) (sl2:AV) (rest:List AFrame) (O:T AObj) (N:Nat) (G:T (T AV))
noncomputable def Flis:AFrame:=frm 21 25 (tX (tX (tY (.ptr N 0 0)) (tX tZ (tY (.ptr N 0 0)))) (tX (tY (.nils 0 0)) tZ)) [opi 21 [1,1,1,0,0] 1,cdi 21 [1,1,1,0,1],cdi 21 [1,1,1,1]]
noncomputable def Wlis:AM:=⟨frm 21 25 (tX (tX (tY (.ptr mk 0 0)) (tY (.int .i64 j))) (tX (tY sl2) tZ)) [cdi 21 [1,1,1,0,1,0,0],ili 21 [1,1,1,0,1,0,0],.inBlock 0,cdi 21 [1,1,1,1]],rest,⟨O,N,G⟩⟩
noncomputable def zpp:AFrame:=frm 21 25 (tX (tX (tW tZ (.ptr mk 0 0) (tX (tY sl2) tZ)) (tY (.int .i64 j))) (tX (tX tZ (tX (tY (.ptr mk 0 0)) tZ)) tZ)) [opi 21 [1,1,1,0,1,0,0,1,0,0] 2,.inBlock 1,cdi 21 [1,1,1,0,1,0,0,1,1],ili 21 [1,1,1,0,1,0,0],.inBlock 0,cdi 21 [1,1,1,1]]
end
section
variable {R:AV→AHeap→Prop} {keep N Nc mk:Nat} {f0:FuncId} {rest:List AFrame} {O:T AObj} {sa sl2 prq0:AV} {G:T (T AV)} {K:AM→Prop} {td:List AItem} {crq0 j:Int}
theorem t_lis:(∃ (z1:Int) (s1:AV) (O1:T AObj),(lN O N G 22 sa z1)∧(zN P (⟨O,N,G⟩) (22) (sa) (none) ((some (if decide ((300:Int)<z1)=true then (300:Int) else z1))) (none)=(some s1))∧(qa P (59) ([(0,s1)])=(some (.agg [s1,.int .i64 0])))∧((Nat.beq (2) (AV.agg [s1,AV.int IntKind.i64 (Int.ofNat (0))]).cells.length&&(AV.agg [s1,AV.int IntKind.i64 (Int.ofNat (0))]).cells.all AV.one)=true∧T.set (some (AObj.cells (zd T.leaf 0 (AV.agg [s1,AV.int IntKind.i64 (Int.ofNat (0))]).cells) (AV.agg [s1,AV.int IntKind.i64 (Int.ofNat (0))]).cells.length 59 0 0 1 0 false T.leaf)) (⟨O,N,G⟩:AHeap).objs N=O1)∧K (AM.mk (enF 52 [.ptr N 0 0,.int .i64 6]) ((Flis N)::rest) ⟨O1,N+1,G⟩))=OT f0 R keep K (.ex fun z1:Int=>(.ex fun s1:AV=>(.ex fun O1:T AObj=>(.seq [.run 8,.hopn (.int .i64 z1) O (N),.run 1,.hop (s1) O,.hopn (.agg [s1,.int .i64 0]) O (N),.hopn (.nilp) O1 (N),.run 10,.keep [3,4,13],.run 1] .fin)))) ((AM.mk (enF 21 [sa]) rest ⟨O,N,G⟩)):=by kernel_rfl
theorem znK:(K (Wlis crq0 Nc (.nils 0 0) rest O N G))=OT f0 R keep K (.seq [.run 5,.keep [3,4,5]] .fin) ((AM.mk (RF 52 30 (tX tZ (tX (tY (.int .i64 crq0)) tZ)) td) ((Flis Nc)::rest) ⟨O,N,G⟩)):=by kernel_rfl
theorem zo6:(((decide (j > (0:Int)))=true→(K (AM.mk (enF 41 [.ptr mk 0 0,.int .i64 3]) ((zpp j mk sl2)::rest) ⟨O,N,G⟩)))∧((decide (j > (0:Int)))=false→(K (AM.mk (RF 21 25 (tX tZ (tY sl2)) [cdi 21 [1,1,1,1,1]]) rest ⟨O,N,G⟩))))=OT f0 R keep K (.seq [.run 6] (.fork 16 (.seq [.run 7,.keep [3,5,19,20],.run 1] .fin) (.seq [.run 8,.keep [2]] .fin))) ((Wlis j mk sl2 rest O N G)):=by kernel_rfl
theorem zjI:(∃ (O1:T AObj) (s1:AV) (O2:T AObj) (N1:Nat),(zg P (⟨O,N,G⟩) (33) (1) ([(0,prq0)])=(some (.slc N 0 0 1 1,⟨O1,N+1,G⟩)))∧(zi P (⟨O1,N+1,G⟩) (Builtin.append) ((some 33)) ((some 33)) ([sl2,.slc N 0 0 1 1])=(some (.val s1 ⟨O2,N1,G⟩)))∧K (Wlis (IntKind.i64.wrap (j - (1:Int))) mk s1 rest O2 N1 G))=OT f0 R keep K (.ex fun O1:T AObj=>(.ex fun s1:AV=>(.ex fun O2:T AObj=>(.ex fun N1:Nat=>(.seq [.run 1,.hopn (.slc N 0 0 1 1) O1 (N+1),.hopn (s1) O2 (N1),.run 9,.keep [3,4,5]] .fin))))) ((AM.mk (RF 41 137 (tX tZ (tX (tY prq0) tZ)) td) ((zpp j mk sl2)::rest) ⟨O,N,G⟩)):=by kernel_rfl
end
variable {O O':T AObj} {N:Nat} {G:T (T AV)}
theorem zpP (xs:List UInt8):∃ us:List Ty,us.length≤5∧(∀ x∈us,NM x)∧∀ {hi:Nat} {O:T AObj} {N:Nat} {G:T (T AV)} {sa:AV} {keep:Nat} {f0:FuncId} {Q:AV→AHeap→Prop} {rest:List AFrame},SVe O hi xs sa→hi≤N →
 (∀ O' N' td ps s,Ext O N O' N'→SV O' 1 pE (N+1) N' ps s→ps.length=us.length→(∀ (j:Nat) (x:Ty) (p:Option Nat),us[j]?=some x→ps[j]?=some p→Tr O' N' x p)→Goal P keep f0 Q (AM.mk (RF 21 25 (tX tZ (tY s)) td) rest ⟨O',N',G⟩))→Goal P keep f0 Q (AM.mk (enF 21 [sa]) rest ⟨O,N,G⟩):=by
 have one:zpS 3:=zqm 3 (by decide);have loop:∀ (k:Nat) (zs:List UInt8) (n2:Int),∃ (us:List Ty),us.length=k∧(∀ x∈us,NM x)∧∀ {hi mk:Nat} {A:Nat→Prop} {O:T AObj} {N:Nat} {G:T (T AV)} {keep:Nat} {f0:FuncId} {Q:AV→AHeap→Prop} {rest:List AFrame} (ts:List Ty),hi≤mk→mk<N→(∀ j,A j→j<N)→A mk→ts.length+k≤5 →
  (∀ (O':T AObj) (N':Nat) (td:List AItem) (ps:List (Option Nat)) (s:AV),N≤N'→(∀ j,j<N→j≠mk→O'.get j=O.get j)→GV O' 23 1 pE N N' ps s→ps.length=(ts++us).length→(∀ (j:Nat) (x:Ty) (p:Option Nat),(ts++us)[j]?=some x→ps[j]?=some p→Tra O' N' (AvS A s) x p)→Goal P keep f0 Q (AM.mk (RF 21 25 (tX tZ (tY s)) td) rest ⟨O',N',G⟩)) →
  ∀ (O2:T AObj) (N2:Nat) (ps:List (Option Nat)) (s:AV),N≤N2→(∀ j,j<N→j≠mk→O2.get j=O.get j)→MK2 O2 hi mk zs n2→GV O2 23 1 pE N N2 ps s→ps.length=ts.length→(∀ (j:Nat) (x:Ty) (p:Option Nat),ts[j]?=some x→ps[j]?=some p→Tra O2 N2 (AvS A s) x p)→Goal P keep f0 Q (Wlis ((k:Nat):Int) mk s rest O2 N2 G):=by
  intro k
  induction k with
  | zero =>
   intro zs n2;refine ⟨[],rfl,(fun x hx=>by cases hx),?_⟩;intro hi mk A O N G keep f0 Q rest ts hmk hmN hA hAm h3 hK O2 N2 ps s hNN hO m2 gv hl hr;rw [List.append_nil] at hK;refine ot zo6 (fkf (decide_eq_false (by omega)) ?_);exact hK O2 N2 _ ps s hNN hO gv hl hr
  | succ k ih =>
   intro zs n2;obtain ⟨t,y1,n1,nmt,onek⟩:=one zs n2;obtain ⟨us,hus,nmu,run⟩:=ih y1 n1;refine ⟨t::us,by rw [List.length_cons,hus],NM.cons nmt nmu,?_⟩;intro hi mk A O N G keep f0 Q rest ts hmk hmN hA hAm h3 hK O2 N2 ps s hNN hO m2 gv hl hr;refine ot zo6 (fkt (decide_eq_true (by omega)) ?_);refine onek (A:=AvS A s) hmk m2 (by omega) (fun j hj=>hj.elim (fun h=>by have:=hA j h; omega) fun h=>by have:=gv.sid_lt h.1; omega) (.inl hAm) fun O3 N3 td3 p hN3 hO3 m3 tx=>?_;have gv3:=gv.same (O':=O3) (fun hs=>hO3 _ (gv.sid_lt hs).2 (by have:=(gv.sid_lt hs).1; omega)) (Nat.le_refl _) hN3;have hr3:=fun (j:Nat) (x:Ty) (p:Option Nat) a b=>(hr j x p a b).same (O':=O3) (fun i h1 h2=>hO3 i h1 (fun h=>h2 (.inl (h▸hAm)))) hN3;obtain ⟨O4,s1,O5,N5,e1,e2,g5,n5,f5,r5⟩:=zlU gv3 (by omega) hl (by omega) hr3 tx G;have nx:=run (ts++[t]) hmk hmN hA hAm (by rw [List.length_append]; simp only [List.length_cons,List.length_nil]; omega) (by rw [List.append_assoc]; exact hK) O5 N5 (ps++[p]) s1 (by omega) (fun j h1 h2=>(f5 j (by omega) (fun hs=>by have:=(gv.sid_lt hs).1; omega)).trans ((hO3 j (by omega) h2).trans (hO j h1 h2))) (m3.same (fun j hj=>f5 j (by omega) (fun hs=>by have:=(gv.sid_lt hs).1; omega)) (f5 mk (by omega) (fun hs=>by have:=(gv.sid_lt hs).1; omega))) g5 (by rw [List.length_append,List.length_append,hl]; rfl) r5;rw [show ((k:Nat):Int)=IntKind.i64.wrap (((k+1:Nat):Int) - (1:Int)) by rw [IntKind.wrap_i64]; omega] at nx;exact ot zjI ⟨_,_,_,_,e1,e2,nx⟩
 rcases h1:nx 6 (xs.take 300) with ⟨c,y1⟩;have hc:0≤c∧c<6:=zor h1 (by omega);obtain ⟨us,hus,nmu,run⟩:=loop c.toNat y1 0;refine ⟨us,by omega,nmu,?_⟩;intro hi O N G sa keep f0 Q rest sv hN hK;have hmin:(if decide ((300:Int)<((xs.length:Nat):Int))=true then (300:Int) else ((xs.length:Nat):Int))=((min 300 xs.length:Nat):Int):=by
  by_cases h:(300:Int)<((xs.length:Nat):Int)
  ·rw [if_pos (decide_eq_true h)]; omega
  ·rw [if_neg (by simpa using h)]; omega
 have hx:((xs.drop 0).take (min 300 xs.length - 0))=xs.take 300:=by
  rw [List.drop_zero,Nat.sub_zero]
  by_cases h:300≤xs.length
  ·rw [Nat.min_eq_left h]
  ·rw [Nat.min_eq_right (by omega),List.take_length,List.take_of_length_le (by omega)]
 obtain ⟨s1,es,sv1⟩:∃ s1,zN P ⟨O,N,G⟩ 22 sa none (some (if decide ((300:Int)<((xs.length:Nat):Int))=true then (300:Int) else ((xs.length:Nat):Int))) none=some s1∧SVe O hi (xs.take 300) s1:=by
  rcases sv with sv | ⟨rfl,rfl⟩
  ·obtain ⟨s1,es,sv1,_⟩:=sv.sub bSl bEn (a:=0) (b:=min 300 xs.length) (Nat.zero_le _) (by omega) none (some (if decide ((300:Int)<((xs.length:Nat):Int))=true then (300:Int) else ((xs.length:Nat):Int))) (.inr ⟨rfl,rfl⟩) (.inl (by rw [hmin])) N G
   rw [hx] at sv1;exact ⟨s1,es,.inl sv1⟩
  ·exact ⟨.sle,by kernel_rfl,.inr ⟨rfl,rfl⟩⟩
 obtain ⟨O1,e1,b1,f1⟩:=Obj.box (t:=59) [s1,.int .i64 0] (by simp only [List.all_cons,List.all_nil,Bool.and_true,sv1.one]; rfl) O N 2 rfl;have lo:∀ j,j<N→O1.get j=O.get j:=fun j hj=>f1 j (by omega);have m1:MK2 O1 hi N (xs.take 300) 0:=⟨s1,b1,sv1.keep (fun j hj=>lo j (by omega))⟩;refine ot t_lis ⟨((xs.length:Nat):Int),s1,O1,sv.len _ _,es,bld59 sv1.one,e1,?_⟩;refine zl h1 m1 hN (by omega) fun O2 td2 c0 c6 f2 m2=>?_;refine ot znK ?_;have nx:=run (A:=fun j=>j=N) (O:=O1) (N:=N+1) (G:=G) (keep:=keep) (f0:=f0) (Q:=Q) (rest:=rest) [] hN (Nat.lt_succ_self N) (fun j h=>by omega) rfl (by simp only [List.length_nil]; omega) (fun O' N' td ps s hN1 hO gv hl hr=>hK O' N' td ps s ⟨by omega,fun j hj=>(hO j (by omega) (by omega)).trans (lo j hj)⟩ (gv.sv pEn) hl (fun j x p a b=>(hr j x p a b).tr)) O2 (N+1) [] (.nils 0 0) (Nat.le_refl _) (fun j _ h2=>f2 j h2) m2 GV.nil rfl (fun j x p h=>by simp at h);rw [show ((c.toNat:Nat):Int)=c by omega] at nx;exact nx
end Go.Proofs.Ytcdigdplhlgcaaa.gx
end
