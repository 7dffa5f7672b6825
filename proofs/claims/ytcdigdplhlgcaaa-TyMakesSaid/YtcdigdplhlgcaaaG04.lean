import Derived.Test.YtcdigdplhlgcaaaChecked
import Derived.Test.YtcdigdplhlgcaaaG00
import Derived.Test.YtcdigdplhlgcaaaG01
import Derived.Test.YtcdigdplhlgcaaaG02
import Derived.Test.YtcdigdplhlgcaaaG03
section
set_option maxRecDepth 100000
set_option linter.unusedVariables false
set_option linter.unusedSectionVars false
namespace Go.Proofs.Ytcdigdplhlgcaaa.gx
open Go Ev
noncomputable abbrev P:Program:=Try.prog
theorem mix:P.follows .mixedOrders=true:=Checked.mixed Try.checked
theorem og {f:FuncId}{Q:AV→AHeap→Prop}{k:Nat}{l:List Cmd}{m:AM}{A:Prop}(e:A=Obl P f Q k (Goal P k f Q) l m)(h:A):Goal P k f Q m:=Obl.goal mix (fun _ h=>h) (cast e h)
theorem oh {f:FuncId}{Q:AV→AHeap→Prop}{k:Nat}{l:List Cmd}{m:AM}{A:Prop}(e:A=Obl P f Q k (fun _=>False) l m)(h:A):Goal P k f Q m:=Obl.goal mix (fun _ h=>h.elim) (cast e h)
noncomputable def enF (f:FuncId) (args:List AV):AFrame:=match jy P f args .normal with
 | some a=>a
 | none=>⟨0,0,.leaf,[],[],.run,.normal,none⟩
noncomputable def RF (f n:Nat) (t:T AV) (td:List AItem):AFrame:=⟨f,n,t,td,[],.returning,CallKind.normal,none⟩
noncomputable def opi (f:FuncId)(a:List Nat)(k:Nat):AItem:=.ops (rg P f a).toList ((rg P f a).toList.drop k)
noncomputable def cdi (f:FuncId)(a:List Nat):AItem:=.code (cd P f a)
noncomputable def ili (f:FuncId)(a:List Nat):AItem:=.inLoop (cd P f a)
noncomputable def frm (f n:Nat)(t:T AV)(d:List AItem):AFrame:=⟨f,n,t,d,[],.run,CallKind.normal,none⟩
variable {O O':T AObj} {N:Nat} {G:T (T AV)}
def At (c:T AV) (off:Nat) (l:List AV):Prop:=∀ k,k<l.length→c.get (off+k)=l[k]?
theorem At.nil {c:T AV}{off:Nat}:At c off []:=fun k hk=>absurd hk (Nat.not_lt_zero k)
theorem zh7 {c:T AV}{off:Nat}:∀ (k:Nat) (l acc:List AV),k=l.length→At c off l→zd6 c off k acc=some (l++acc)
 | 0,l,acc,hk,_=>by rw [List.eq_nil_of_length_eq_zero hk.symm]; rfl
 | k+1,l,acc,hk,h=>by
  have hl:l=l.take k++[l[k]'(by omega)]:=by
   rw [← List.take_succ_eq_append_getElem (by omega),List.take_of_length_le (by omega)]
  have hc:=h k (by omega);rw [List.getElem?_eq_getElem (by omega)] at hc;unfold zd6;simp only [hc];rw [zh7 k (l.take k) _ (by rw [List.length_take]; omega) fun j hj=>?_]
  ·rw [← List.singleton_append,← List.append_assoc,← hl]
  ·rw [List.length_take] at hj;rw [h j (by omega),List.getElem?_take_of_lt (by omega)]
theorem At.load {c:T AV}{off:Nat}{l:List AV}(h:At c off l):zV c off l.length=some l:=by
 have:=zh7 l.length l [] rfl h;rw [List.append_nil] at this;exact this
theorem At.sub {c:T AV}{off a n:Nat}{l:List AV}(h:At c off l)(hn:a+n≤l.length):At c (off+a) ((l.drop a).take n):=fun k hk=>by
 rw [List.length_take,List.length_drop] at hk;rw [Nat.add_assoc,h (a+k) (by omega),List.getElem?_take_of_lt (by omega),List.getElem?_drop]
theorem At.app {c:T AV}{off:Nat}{l r:List AV}(h1:At c off l)(h2:At c (off+l.length) r):At c off (l++r):=fun k hk=>by
 by_cases hk1:k<l.length
 ·rw [h1 k hk1,List.getElem?_append_left hk1]
 ·rw [List.length_append] at hk;have:=h2 (k - l.length) (by omega);rw [show off+l.length+(k - l.length)=off+k by omega] at this;rw [this,List.getElem?_append_right (by omega)]
theorem At.store {c:T AV}{off o:Nat}{l vs:List AV}(h:At c off l)(hd:off+l.length≤o∨o+vs.length≤off):At (zd c o vs) off l:=fun k hk=>by
 rw [zk,if_neg (by omega),h k hk]
theorem At.stored (c:T AV)(o:Nat)(vs:List AV):At (zd c o vs) o vs:=fun k hk=>by
 rw [zk,if_pos ⟨by omega,by omega⟩,Nat.add_sub_cancel_left]
theorem At.set {c:T AV}{off a:Nat}{l vs:List AV}(h:At c off l)(ha:a+vs.length≤l.length):At (zd c (off+a) vs) off (l.take a++vs++l.drop (a+vs.length)):=fun k hk=>by
 rw [List.length_append,List.length_append,List.length_take,List.length_drop] at hk;rw [zk]
 by_cases h1:k<a
 ·rw [if_neg (by omega),h k (by omega),List.append_assoc,List.getElem?_append_left (by rw [List.length_take]; omega),List.getElem?_take_of_lt h1]
 ·by_cases h2:k<a+vs.length
  ·rw [if_pos (by omega),List.append_assoc,List.getElem?_append_right (by rw [List.length_take]; omega),List.getElem?_append_left (by rw [List.length_take]; omega),List.length_take];congr 1; omega
  ·rw [if_neg (by omega),h k (by omega),List.getElem?_append_right (by rw [List.length_append,List.length_take]; omega),List.getElem?_drop,List.length_append,List.length_take];congr 1; omega
def Obj (O:T AObj) (id:Nat) (l:List AV):Prop:=Row O id l.length fun k=>l.getD k xE
theorem Obj.same {id:Nat}{l:List AV}(h:Obj O id l)(e:O'.get id=O.get id):Obj O' id l:=Row.same h e
theorem Obj.fr {id i:Nat}{l:List AV}(h:Obj O id l)(e:Frm O O' i)(hi:id≠i):Obj O' id l:=Row.fr h e hi
theorem Obj.load {id:Nat}{l:List AV}(h:Obj O id l)(off:Nat)(N:Nat)(G:T (T AV))(hn:off+1≤l.length):zb ⟨O,N,G⟩ id 0 off 1=some [l.getD off xE]:=Row.load1 h hn
theorem Obj.store {id:Nat}{l:List AV}(h:Obj O id l)(off:Nat)(vs:List AV)(N:Nat)(G:T (T AV))(hn:off+vs.length≤l.length)(hv:vs.all AV.one=true) :
 ∃ O',zc ⟨O,N,G⟩ id 0 off vs=some ⟨O',N,G⟩∧Obj O' id (l.take off++vs++l.drop (off+vs.length))∧Frm O O' id:=by
 obtain ⟨O',e,r,f⟩:=Row.store h N G hv hn;refine ⟨O',e,?_,f⟩;have hl:(l.take off++vs++l.drop (off+vs.length)).length=l.length:=by rw [List.length_append,List.length_append,List.length_take,List.length_drop]; omega
 obtain ⟨c,el,h1,h2⟩:=r;refine ⟨c,el,by rw [hl]; exact h1,fun k hk=>?_⟩;rw [hl] at hk;rw [h2 k hk];unfold upd;show some (if off≤k∧k<off+vs.length then vs.getD (k - off) xE else l.getD k xE)=some ((l.take off++vs++l.drop (off+vs.length)).getD k xE)
 congr 1;rw [List.getD_eq_getElem?_getD (l:=l.take off++vs++l.drop (off+vs.length))]
 by_cases h1:k<off
 ·rw [if_neg (by omega),List.append_assoc,List.getElem?_append_left (by rw [List.length_take]; omega),List.getElem?_take_of_lt h1,List.getD_eq_getElem?_getD]
 ·by_cases h2:k<off+vs.length
  ·rw [if_pos (by omega),List.append_assoc,List.getElem?_append_right (by rw [List.length_take]; omega),List.getElem?_append_left (by rw [List.length_take]; omega),List.length_take,List.getD_eq_getElem?_getD,Nat.min_eq_left (by omega)]
  ·rw [if_neg (by omega),List.getElem?_append_right (by rw [List.length_append,List.length_take]; omega),List.getElem?_drop,List.length_append,List.length_take,List.getD_eq_getElem?_getD];congr 2; omega
theorem Obj.mk {c:T AV}{el:TypeId}(l:List AV)(O:T AObj)(N:Nat)(n:Nat)(hn:n=l.length)(hc:∀ k,k<n→c.get k=some (l.getD k xE)):∃ O',T.set (some (.cells c n el 0 0 1 0 false .leaf)) O N=O'∧Obj O' N l∧Frm O O' N:=by
 subst hn;exact Row.mk O N hc
theorem st1 {s:AV}(hs:s.cells=[s]){h:AHeap}{r:Option AHeap}{id ver off:Nat}(e:zc h id ver off [s]=r):Nat.beq s.cells.length 1=true∧zc h id ver off s.cells=r:=by
 rw [hs];exact ⟨rfl,e⟩
theorem Obj.box {t:TypeId}(l:List AV)(hl:l.all AV.one=true)(O:T AObj)(N n:Nat)(hn:n=l.length):∃ O',((Nat.beq n (AV.agg l).cells.length&&(AV.agg l).cells.all AV.one)=true∧T.set (some (AObj.cells (zd T.leaf 0 (AV.agg l).cells) (AV.agg l).cells.length t 0 0 1 0 false T.leaf)) O N=O')∧Obj O' N l∧Frm O O' N:=by
 subst hn;refine ⟨_,⟨?_,rfl⟩,⟨zd T.leaf 0 l,t,by rw [T.get_set,if_pos rfl]; rfl,fun k hk=>?_⟩,fun j hj=>by rw [T.get_set,if_neg hj]⟩
 ·show (Nat.beq l.length l.length&&l.all AV.one)=true;rw [hl,Nat.beq_refl];rfl
 ·rw [zk,if_pos ⟨Nat.zero_le _,by omega⟩,Nat.sub_zero,List.getElem?_eq_getElem hk];show _=some (l.getD k xE);rw [List.getD_eq_getElem?_getD,List.getElem?_eq_getElem hk];rfl
structure Enc {α:Type} (sz:Nat) (enc:α→List AV):Prop where
 len:∀ a,(enc a).length=sz
 one:∀ a,(enc a).all AV.one=true
 pos:0<sz
section
variable {α:Type} {sz:Nat} {enc:α→List AV}
theorem Enc.flat (E:Enc sz enc):∀ xs:List α,(xs.flatMap enc).length=xs.length*sz
 | []=>by simp
 | a::r=>by rw [List.flatMap_cons,List.length_append,E.len,E.flat r,List.length_cons,Nat.add_mul]; omega
theorem Enc.ones (E:Enc sz enc):∀ xs:List α,(xs.flatMap enc).all AV.one=true
 | []=>rfl
 | a::r=>by rw [List.flatMap_cons,List.all_append,E.one,E.ones r]; rfl
theorem Enc.take (E:Enc sz enc):∀ (xs:List α) (n:Nat),n≤xs.length→(xs.flatMap enc).take (n*sz)=(xs.take n).flatMap enc
 | xs,0,_=>by simp
 | [],n+1,h=>by simp at h
 | a::r,n+1,h=>by
  rw [List.flatMap_cons,List.take_succ_cons,List.flatMap_cons,List.take_append,E.len,List.take_of_length_le (by rw [E.len,Nat.add_mul]; omega)];rw [show (n+1)*sz - sz=n*sz by rw [Nat.add_mul]; omega,E.take r n (by simpa using h)]
theorem Enc.drop (E:Enc sz enc):∀ (xs:List α) (n:Nat),(xs.flatMap enc).drop (n*sz)=(xs.drop n).flatMap enc
 | xs,0=>by simp
 | [],n+1=>by simp
 | a::r,n+1=>by
  rw [List.flatMap_cons,List.drop_succ_cons,List.drop_append,E.len,List.drop_of_length_le (by rw [E.len,Nat.add_mul]; omega),List.nil_append];rw [show (n+1)*sz - sz=n*sz by rw [Nat.add_mul]; omega,E.drop r n]
theorem Enc.nth (E:Enc sz enc){xs:List α}{j:Nat}{a:α}(h:xs[j]?=some a):((xs.flatMap enc).drop (j*sz)).take sz=enc a:=by
 obtain ⟨hj,ha⟩:=List.getElem?_eq_some_iff.1 h;rw [E.drop,List.drop_eq_getElem_cons hj,ha,List.flatMap_cons,List.take_append_of_le_length (by rw [E.len]; exact Nat.le_refl _),List.take_of_length_le (by rw [E.len]; exact Nat.le_refl _)]
def Rd (O:T AObj) (ri z off:Nat) (l:List AV):Prop :=
 (∃ c m el lo hi nv fz sg ex e,O.get ri=some (.cells c m el lo hi nv fz sg ex)∧zG ex m hi z=some e∧lo≤z∧z≤hi∧off+l.length≤e∧At c off l) ∨
 ∃ c lo n,O.get ri=some (.ro c lo n)∧z=0∧lo≤off∧off+l.length≤n∧At c off l
theorem Rd.same {ri z off:Nat}{l:List AV}(h:Rd O ri z off l)(e:O'.get ri=O.get ri):Rd O' ri z off l:=by
 unfold Rd at h ⊢;rw [e];exact h
theorem Rd.load {ri z off:Nat}{l:List AV}(h:Rd O ri z off l){n:Nat}(hn:n=l.length)(N:Nat)(G:T (T AV)):zb ⟨O,N,G⟩ ri z off n=some l:=by
 subst hn;rcases h with ⟨c,m,el,lo,hi,nv,fz,sg,ex,e,h1,h2,h3,h4,h5,h6⟩ | ⟨c,lo,n,h1,rfl,h3,h4,h5⟩
 ·unfold zb;show (match O.get ri with | some (.cells c n _ lo hi _ _ _ ex)=>_ | some (.ro c lo n)=>_ | _=>_)=_
  rw [h1];simp only [h2];rw [if_pos ⟨h3,h4,h5⟩];exact h6.load
 ·unfold zb;show (match O.get ri with | some (.cells c n _ lo hi _ _ _ ex)=>_ | some (.ro c lo n)=>_ | _=>_)=_
  rw [h1];show (if 0=0∧lo≤off∧off+l.length≤n then zV c off l.length else none)=_
  rw [if_pos ⟨rfl,h3,h4⟩];exact h5.load
theorem Rd.sub {ri z off a n:Nat}{l:List AV}(h:Rd O ri z off l)(hn:a+n≤l.length):Rd O ri z (off+a) ((l.drop a).take n):=by
 have hl:((l.drop a).take n).length=n:=by rw [List.length_take,List.length_drop]; omega
 rcases h with ⟨c,m,el,lo,hi,nv,fz,sg,ex,e,h1,h2,h3,h4,h5,h6⟩ | ⟨c,lo,m,h1,rfl,h3,h4,h5⟩
 ·exact .inl ⟨c,m,el,lo,hi,nv,fz,sg,ex,e,h1,h2,h3,h4,by rw [hl]; omega,h6.sub hn⟩
 ·exact .inr ⟨c,lo,m,h1,rfl,by omega,by rw [hl]; omega,h5.sub hn⟩
theorem Rd.elem (E:Enc sz enc){ri z off j:Nat}{xs:List α}{a:α}(h:Rd O ri z off (xs.flatMap enc))(ha:xs[j]?=some a):Rd O ri z (off+j*sz) (enc a):=by
 obtain ⟨hj,_⟩:=List.getElem?_eq_some_iff.1 ha;have:=h.sub (a:=j*sz) (n:=sz) (by rw [E.flat]; calc j*sz+sz=(j+1)*sz:=by rw [Nat.add_mul]; omega
  _≤xs.length*sz:=Nat.mul_le_mul_right _ hj)
 rwa [E.nth ha] at this
theorem Rd.nth {ri z off u:Nat}{l:List AV}{v:AV}(h:Rd O ri z off l)(hu:l[u]?=some v)(N:Nat)(G:T (T AV)):zb ⟨O,N,G⟩ ri z (off+u) 1=some [v]:=by
 obtain ⟨h1,h2⟩:=List.getElem?_eq_some_iff.1 hu;have:=h.sub (a:=u) (n:=1) h1;rw [List.drop_eq_getElem_cons h1,h2] at this;exact this.load (n:=1) (by simp) N G
structure SlT (st el:TypeId) (sz by':Nat):Prop where
 und:P.underlying st=some (.slice el)
 nint:qZ P st=some false
 info:∃ i,P.info? el=some i∧i.size=sz∧i.bytes=by'
 size:xW P el=some sz
 zero:∃ z,qj P el=some z∧z.cells.length=sz∧z.cells.all AV.one=true
 pos:0<sz
 few:by'≤4096
theorem SlT.mk' {st el:TypeId}{sz by':Nat}(h1:P.underlying st=some (.slice el))(h2:qZ P st=some false)(h3:(P.info? el).map (fun i=>(i.size,i.bytes))=some (sz,by'))(h4:xW P el=some sz)
 (h5:(qj P el).map (fun z=>(z.cells.length,z.cells.all AV.one))=some (sz,true)) (h6:Nat.blt 0 sz=true) (h7:Nat.ble by' 4096=true):SlT st el sz by':=by
 refine ⟨h1,h2,?_,h4,?_,?_,Nat.le_of_ble_eq_true h7⟩
 ·obtain ⟨i,a,b⟩:=Option.map_eq_some_iff.1 h3;rw [Prod.mk.injEq] at b;exact ⟨i,a,b.1,b.2⟩
 ·obtain ⟨i,a,b⟩:=Option.map_eq_some_iff.1 h5;rw [Prod.mk.injEq] at b;exact ⟨i,a,b.1,b.2⟩
 ·exact Nat.lt_of_lt_of_le (Nat.lt_succ_self 0) (Nat.le_of_ble_eq_true h6)
def sid:AV→Nat
 | .slg i _ _ _ _=>i
 | .slc i _ _ _ _=>i
 | _=>0
def SV (O:T AObj) (sz:Nat) (enc:α→List AV) (lo hi:Nat) (xs:List α) (s:AV):Prop :=
 (s=.nils 0 0∧xs=[]) ∨
 (∃ ri z off cap,s=.slc ri z off xs.length cap∧xs.length≤cap∧lo≤ri∧ri<hi∧Rd O ri z off (xs.flatMap enc)) ∨
 ∃ ri z st,s=.slg ri z (st*sz) xs.length st∧lo≤ri∧ri<hi∧Rd O ri z (st*sz) (xs.flatMap enc)
theorem SV.same {lo hi lo' hi':Nat}{xs:List α}{s:AV}(h:SV O sz enc lo hi xs s)(e:s≠.nils 0 0→O'.get (sid s)=O.get (sid s))(h1:lo'≤lo)(h2:hi≤hi'):SV O' sz enc lo' hi' xs s:=by
 rcases h with h | ⟨ri,z,off,cap,rfl,hc,a,b,r⟩ | ⟨ri,z,st,rfl,a,b,r⟩
 ·exact .inl h
 ·exact .inr (.inl ⟨ri,z,off,cap,rfl,hc,by omega,by omega,r.same (e (by simp))⟩)
 ·exact .inr (.inr ⟨ri,z,st,rfl,by omega,by omega,r.same (e (by simp))⟩)
theorem SV.sid_lt {lo hi:Nat}{xs:List α}{s:AV}(h:SV O sz enc lo hi xs s)(hn:s≠.nils 0 0):lo≤sid s∧sid s<hi:=by
 rcases h with h | ⟨ri,z,off,cap,rfl,hc,a,b,r⟩ | ⟨ri,z,st,rfl,a,b,r⟩
 ·exact absurd h.1 hn
 ·exact ⟨a,b⟩
 ·exact ⟨a,b⟩
theorem SV.keep {lo hi lo' hi':Nat}{xs:List α}{s:AV}(h:SV O sz enc lo hi xs s)(e:∀ j,lo≤j→j<hi→O'.get j=O.get j)(h1:lo'≤lo)(h2:hi≤hi'):SV O' sz enc lo' hi' xs s :=
 h.same (fun hn=>e _ (h.sid_lt hn).1 (h.sid_lt hn).2) h1 h2
theorem SV.cells {lo hi:Nat}{xs:List α}{s:AV}(h:SV O sz enc lo hi xs s):s.cells=[s]:=by
 rcases h with ⟨rfl,_⟩ | ⟨ri,z,off,cap,rfl,_⟩ | ⟨ri,z,st,rfl,_⟩ <;> rfl
theorem SV.one {lo hi:Nat}{xs:List α}{s:AV}(h:SV O sz enc lo hi xs s):AV.one s=true:=by
 rcases h with ⟨rfl,_⟩ | ⟨ri,z,off,cap,rfl,_⟩ | ⟨ri,z,st,rfl,_⟩ <;> rfl
theorem SV.lens {lo hi:Nat}{xs:List α}{s:AV}(h:SV O sz enc lo hi xs s):xV s=some xs.length∧zc9 s=some xs.length:=by
 rcases h with ⟨rfl,rfl⟩ | ⟨ri,z,off,cap,rfl,_⟩ | ⟨ri,z,st,rfl,_⟩ <;> exact ⟨rfl,rfl⟩
theorem SV.len {st el:TypeId}{by' lo hi:Nat}(S:SlT st el sz by'){xs:List α}{s:AV}(h:SV O sz enc lo hi xs s)(N:Nat)(G:T (T AV)):zL P ⟨O,N,G⟩ .len (some st) [s]=some (.int .i64 ((xs.length:Nat):Int)):=by
 show lenE P ⟨O,N,G⟩ st s=_;unfold lenE zrd;rw [S.und];simp only [h.lens.1]
theorem SV.at {st el:TypeId}{by' lo hi j:Nat}(S:SlT st el sz by')(E:Enc sz enc){xs:List α}{s:AV}{a:α}(h:SV O sz enc lo hi xs s)(ha:xs[j]?=some a) :
 ∃ ri z off,lo≤ri∧ri<hi∧zf P st s (.int .i64 ((j:Nat):Int))=some (.ptr ri z off)∧Rd O ri z off (enc a)∧ri=sid s:=by
 obtain ⟨hj,_⟩:=List.getElem?_eq_some_iff.1 ha;have hx:∀ ri z off,xZ ri z off xs.length sz ((j:Nat):Int)=some (.ptr ri z (off+j*sz)):=fun ri z off=>by
  unfold xZ;rw [if_pos ⟨by omega,by omega⟩];rfl
 rcases h with ⟨rfl,rfl⟩ | ⟨ri,z,off,cap,rfl,hc,g1,g2,r⟩ | ⟨ri,z,st',rfl,g1,g2,r⟩
 ·cases ha
 ·refine ⟨ri,z,off+j*sz,g1,g2,?_,r.elem E ha,rfl⟩;unfold zf;rw [S.und];simp only [S.size];exact hx ri z off
 ·refine ⟨ri,z,st'*sz+j*sz,g1,g2,?_,r.elem E ha,rfl⟩;unfold zf;rw [S.und];simp only [S.size];exact hx ri z _
def GV (O:T AObj) (el:TypeId) (sz:Nat) (enc:α→List AV) (lo hi:Nat) (xs:List α) (s:AV):Prop :=
 (s=.nils 0 0∧xs=[]) ∨
 (∃ ri z off,s=.slc ri z off xs.length xs.length∧lo≤ri∧ri<hi∧Rd O ri z off (xs.flatMap enc)) ∨
 ∃ ri q st c l0 sg ex,s=.slg ri q (st*sz) xs.length st∧lo≤ri∧ri<hi∧l0≤q∧O.get ri=some (.cells c (st*sz+xs.length*sz) el l0 q (q+1) 0 sg ex)∧At c (st*sz) (xs.flatMap enc)
theorem GV.sv (E:Enc sz enc){el:TypeId}{lo hi:Nat}{xs:List α}{s:AV}(h:GV O el sz enc lo hi xs s):SV O sz enc lo hi xs s:=by
 rcases h with h | ⟨ri,z,off,rfl,a,b,r⟩ | ⟨ri,q,st,c,l0,sg,ex,rfl,a,b,d,e,f⟩
 ·exact .inl h
 ·exact .inr (.inl ⟨ri,z,off,_,rfl,Nat.le_refl _,a,b,r⟩)
 ·exact .inr (.inr ⟨ri,q,st,rfl,a,b,.inl ⟨c,_,el,l0,q,q+1,0,sg,ex,_,e,by unfold zG; rw [if_pos rfl],d,Nat.le_refl _,by rw [E.flat]; exact Nat.le_refl _,f⟩⟩)
theorem GV.nil {el:TypeId}{lo hi:Nat}:GV O el sz enc lo hi ([]:List α) (.nils 0 0):=.inl ⟨rfl,rfl⟩
theorem SV.nil {lo hi:Nat}:SV O sz enc lo hi ([]:List α) (.nils 0 0):=.inl ⟨rfl,rfl⟩
theorem GV.same {el:TypeId}{lo hi lo' hi':Nat}{xs:List α}{s:AV}(h:GV O el sz enc lo hi xs s)(e:s≠.nils 0 0→O'.get (sid s)=O.get (sid s))(h1:lo'≤lo)(h2:hi≤hi'):GV O' el sz enc lo' hi' xs s:=by
 rcases h with h | ⟨ri,z,off,rfl,a,b,r⟩ | ⟨ri,q,st,c,l0,sg,ex,rfl,a,b,d,r,f⟩
 ·exact .inl h
 ·exact .inr (.inl ⟨ri,z,off,rfl,by omega,by omega,r.same (e (by simp))⟩)
 ·exact .inr (.inr ⟨ri,q,st,c,l0,sg,ex,rfl,by omega,by omega,d,(e (by simp)).trans r,f⟩)
theorem GV.sid_lt {el:TypeId}{lo hi:Nat}{xs:List α}{s:AV}(h:GV O el sz enc lo hi xs s)(hn:s≠.nils 0 0):lo≤sid s∧sid s<hi:=by
 rcases h with h | ⟨ri,z,off,rfl,a,b,r⟩ | ⟨ri,q,st,c,l0,sg,ex,rfl,a,b,d,r,f⟩
 ·exact absurd h.1 hn
 ·exact ⟨a,b⟩
 ·exact ⟨a,b⟩
theorem GV.keep {el:TypeId}{lo hi lo' hi':Nat}{xs:List α}{s:AV}(h:GV O el sz enc lo hi xs s)(e:∀ j,lo≤j→j<hi→O'.get j=O.get j)(h1:lo'≤lo)(h2:hi≤hi'):GV O' el sz enc lo' hi' xs s :=
 h.same (fun hn=>e _ (h.sid_lt hn).1 (h.sid_lt hn).2) h1 h2
theorem SV.first (E:Enc sz enc){lo hi:Nat}{xs:List α}{s:AV}(h:SV O sz enc lo hi xs s)(N:Nat)(G:T (T AV)):yt ⟨O,N,G⟩ sz xs.length s=some (xs.flatMap enc):=by
 rcases h with ⟨rfl,rfl⟩ | ⟨ri,z,off,cap,rfl,hc,g1,g2,r⟩ | ⟨ri,z,st',rfl,g1,g2,r⟩
 ·rfl
 ·exact r.load (E.flat xs).symm N G
 ·exact r.load (E.flat xs).symm N G
theorem znN {st el:TypeId}{by' lo hi:Nat}(S:SlT st el sz by')(E:Enc sz enc){ys:List α}{s x:AV}{sl:Nat}(hs:xV s=some sl)(hx:SV O sz enc lo hi ys x)(N:Nat)(G:T (T AV)) :
 zi P ⟨O,N,G⟩ .append (some st) (some st) [s,x]=wk (match ys.length with
  | 0=>xL ⟨O,N,G⟩ s
  | n+1=>za3 ⟨O,N,G⟩ el sz by' sl (n+1) s (ys.flatMap enc)):=by
 obtain ⟨i,h1,h2,h3⟩:=S.info;obtain ⟨z,z1,z2,z3⟩:=S.zero;show (match qZ P st with | none=>none | some z=>match zoe [s,x] with | none=>none | some (s,x)=>wk (qS P ⟨O,N,G⟩ st z s x))=_
 rw [S.nint];show wk (qS P ⟨O,N,G⟩ st false s x)=_;congr 1;unfold qS;rw [S.und];show vz P ⟨O,N,G⟩ el false s x=_;unfold vz;rw [h1,z1];have ha:qU ⟨O,N,G⟩ sz z false x=some (ys.length,ys.flatMap enc):=by
  unfold qU;simp only [hx.lens.2,hx.first E N G]
 simp only [hs,h2,h3,ha];rw [if_pos ⟨S.pos,z2,z3,E.ones ys,E.flat ys,fun h=>by cases h⟩];cases ys.length <;> rfl
theorem GV.app2 {st el:TypeId}{by' lo lo2 hi2:Nat}(S:SlT st el sz by')(E:Enc sz enc){xs ys:List α}{s x:AV}(h:GV O el sz enc lo N xs s)(hx:SV O sz enc lo2 hi2 ys x)(hlo:lo≤N)(hn:xs.length+ys.length<1000000000)(G:T (T AV)) :
 ∃ O' N' s',zi P ⟨O,N,G⟩ .append (some st) (some st) [s,x]=some (.val s' ⟨O',N',G⟩)∧GV O' el sz enc lo N' (xs++ys) s'∧N≤N'∧N'≤N+1∧(∀ j,j<N→(s≠.nils 0 0→j≠sid s)→O'.get j=O.get j)∧(s'=.nils 0 0∨sid s'=N∨(s≠.nils 0 0∧sid s'=sid s))∧(ys≠[]→∃ ri q o n t,s'=.slg ri q o n t):=by
 have base:=znN S E (h.sv E).lens.1 hx N G;have hroom:zdD (xs.length+ys.length) by'=true:=by
  have:=S.few;unfold zdD;rw [Bool.and_eq_true];refine ⟨Nat.ble_eq_true_of_le ?_,Nat.ble_eq_true_of_le (show xs.length+ys.length+1≤2 ^ 60 by omega)⟩
  calc (2*(xs.length+ys.length)+1000)*by'≤2000001000*4096:=Nat.mul_le_mul (by omega) this
   _≤2 ^ 48:=by decide
 cases hy:ys with
 | nil =>
  subst hy;refine ⟨O,N,s,?_,by rw [List.append_nil]; exact h,Nat.le_refl _,Nat.le_succ _,fun _ _ _=>rfl,?_,fun h=>absurd rfl h⟩
  ·rw [base];show wk (xL ⟨O,N,G⟩ s)=_;rcases h with ⟨rfl,_⟩ | ⟨ri,z,off,rfl,_⟩ | ⟨ri,q,st',c,l0,sg,ex,rfl,_⟩
   ·rfl
   ·unfold xL;simp only [Nat.le_refl,if_true];rfl
   ·rfl
  ·by_cases hs:s=.nils 0 0
   ·exact .inl hs
   ·exact .inr (.inr ⟨hs,rfl⟩)
 | cons y r =>
  have hlen:ys.length=r.length+1:=by rw [hy]; rfl
  rw [← hy];rw [hlen] at base;simp only at base;rw [show r.length+1=ys.length from hlen.symm] at base
  have fresh:yt ⟨O,N,G⟩ sz xs.length s=some (xs.flatMap enc)→zi P ⟨O,N,G⟩ .append (some st) (some st) [s,x]=wk (xy ⟨O,N,G⟩ el sz by' xs.length (xs.length+ys.length) s (ys.flatMap enc)) →
   ∃ O' N' s',zi P ⟨O,N,G⟩ .append (some st) (some st) [s,x]=some (.val s' ⟨O',N',G⟩)∧GV O' el sz enc lo N' (xs++ys) s'∧N≤N'∧N'≤N+1∧(∀ j,j<N→(s≠.nils 0 0→j≠sid s)→O'.get j=O.get j)∧(s'=.nils 0 0∨sid s'=N∨(s≠.nils 0 0∧sid s'=sid s))∧(ys≠[]→∃ ri q o n t,s'=.slg ri q o n t):=fun hf e=>by
   have hfl:(xs.flatMap enc++ys.flatMap enc)=(xs++ys).flatMap enc:=List.flatMap_append.symm;refine ⟨O.set (some (.cells (zd .leaf 0 ((xs++ys).flatMap enc)) ((xs++ys).flatMap enc).length el 0 0 1 0 false .leaf)) N,N+1,.slg N 0 0 (xs.length+ys.length) 0,?_,.inr (.inr ⟨N,0,0,zd .leaf 0 ((xs++ys).flatMap enc),0,false,.leaf,by rw [List.length_append,Nat.zero_mul],hlo,Nat.lt_succ_self _,Nat.le_refl _,?_,?_⟩),Nat.le_succ _,Nat.le_refl _,fun j hj _=>by rw [T.get_set,if_neg (by omega)],.inr (.inl rfl),fun _=>⟨_,_,_,_,_,rfl⟩⟩
   ·rw [e];unfold xy;rw [if_pos hroom,hf];simp only;rw [if_pos ⟨E.ones xs,E.flat xs⟩,hfl];rfl
   ·rw [T.get_set,if_pos rfl,E.flat,Nat.zero_mul,Nat.zero_add]
   ·rw [Nat.zero_mul];exact At.stored _ _ _
  rcases h with ⟨rfl,rfl⟩ | ⟨ri,z,off,rfl,g1,g2,rd⟩ | ⟨ri,q,st',c,l0,sg,ex,rfl,g1,g2,g3,g4,g5⟩
  ·exact fresh rfl base
  ·refine fresh (rd.load (E.flat xs).symm N G) (base.trans ?_);show wk (if xs.length+ys.length≤xs.length then _ else _)=_
   rw [if_neg (by omega)]
  ·have hext:zG ex (st'*sz+xs.length*sz) q q=some (st'*sz+xs.length*sz):=by unfold zG; rw [if_pos rfl]
   have hpos:=S.pos;have hmul:(xs.length+ys.length)*sz=xs.length*sz+ys.length*sz:=Nat.add_mul _ _ _;have hyp:0<ys.length*sz:=Nat.mul_pos (by omega) hpos;refine ⟨O.set (some (.cells (zd c (st'*sz+xs.length*sz) (ys.flatMap enc)) (st'*sz+xs.length*sz+(ys.flatMap enc).length) el l0 (q+1) (q+1+1) 0 sg (ex.set (some (st'*sz+xs.length*sz)) q))) ri,N,.slg ri (q+1) (st'*sz) (xs.length+ys.length) st',?_,.inr (.inr ⟨ri,q+1,st',zd c (st'*sz+xs.length*sz) (ys.flatMap enc),l0,sg,ex.set (some (st'*sz+xs.length*sz)) q,by rw [List.length_append],g1,g2,by omega,?_,?_⟩),Nat.le_refl _,Nat.le_succ _,fun j hj hne=>by rw [T.get_set,if_neg (show j≠ri from hne (by simp))],.inr (.inr ⟨by simp,rfl⟩),fun _=>⟨_,_,_,_,_,rfl⟩⟩
   ·rw [base];show wk (match xl ⟨O,N,G⟩ el sz ri q (st'*sz) st' xs.length (xs.length+ys.length) (ys.flatMap enc) with | some r=>some r | none=>x4 ⟨O,N,G⟩ el sz by' ri q (st'*sz) st' xs.length (xs.length+ys.length) (ys.flatMap enc))=_
    have k1:xl ⟨O,N,G⟩ el sz ri q (st'*sz) st' xs.length (xs.length+ys.length) (ys.flatMap enc)=none:=by
     unfold xl;show (match O.get ri with | some (.cells _ m el' lo hi _ _ _ ex)=>_ | _=>_)=_
     rw [g4];simp only [hext];rw [if_neg (by omega)]
    rw [k1];simp only;unfold x4;show wk (match O.get ri with | some (.cells c m el' lo hi nv fz sg ex)=>_ | _=>_)=_
    rw [g4];simp only [hext];rw [if_pos ⟨g3,Nat.le_refl _,Nat.le_refl _,Nat.zero_le _,trivial,trivial,Nat.lt_succ_self _,hroom⟩,if_pos ⟨Nat.le_refl _,trivial⟩,T.seq_eq,T.seq_eq];rfl
   ·rw [T.get_set,if_pos rfl,E.flat,List.length_append,hmul,Nat.add_assoc]
   ·rw [List.flatMap_append];refine At.app (g5.store (.inl (by rw [E.flat]; exact Nat.le_refl _))) ?_;rw [E.flat];exact At.stored _ _ _
theorem GV.app {st el:TypeId}{by' lo lo2 hi2:Nat}(S:SlT st el sz by')(E:Enc sz enc){xs ys:List α}{s x:AV}(h:GV O el sz enc lo N xs s)(hx:SV O sz enc lo2 hi2 ys x)(hlo:lo≤N)(hn:xs.length+ys.length<1000000000)(G:T (T AV)) :
 ∃ O' N' s',zi P ⟨O,N,G⟩ .append (some st) (some st) [s,x]=some (.val s' ⟨O',N',G⟩)∧GV O' el sz enc lo N' (xs++ys) s'∧N≤N'∧N'≤N+1∧(∀ j,j<N→(s≠.nils 0 0→j≠sid s)→O'.get j=O.get j)∧(s'=.nils 0 0∨sid s'=N∨(s≠.nils 0 0∧sid s'=sid s)):=by
 obtain ⟨O',N',s',e1,e2,e3,e4,e5,e6,_⟩:=GV.app2 S E h hx hlo hn G;exact ⟨O',N',s',e1,e2,e3,e4,e5,e6⟩
theorem zsf (E:Enc sz enc){el:TypeId}(a:α)(O:T AObj)(N:Nat):∃ O',O.set (some (.cells (zd .leaf 0 (enc a)) (enc a).length el 0 0 1 0 false .leaf)) N=O'∧SV O' sz enc N (N+1) [a] (.slc N 0 0 1 1)∧GV O' el sz enc N (N+1) [a] (.slc N 0 0 1 1)∧Frm O O' N:=by
 have hf:[a].flatMap enc=enc a:=by simp
 have rd:Rd (O.set (some (.cells (zd .leaf 0 (enc a)) (enc a).length el 0 0 1 0 false .leaf)) N) N 0 0 ([a].flatMap enc):=by
  rw [hf];exact .inl ⟨_,_,_,_,_,_,_,_,_,(enc a).length,by rw [T.get_set,if_pos rfl],by unfold zG; rw [if_pos rfl],Nat.le_refl _,Nat.le_refl _,by omega,At.stored _ _ _⟩
 exact ⟨_,rfl,.inr (.inl ⟨N,0,0,1,rfl,Nat.le_refl _,Nat.le_refl _,Nat.lt_succ_self _,rd⟩),.inr (.inl ⟨N,0,0,rfl,Nat.le_refl _,Nat.lt_succ_self _,rd⟩),fun j hj=>by rw [T.get_set,if_neg hj]⟩
theorem kU (E:Enc sz enc){el:TypeId}(a:α)(O:T AObj)(N:Nat)(G:T (T AV)){st:TypeId}{v:AV}(hb:∀ h:AHeap,zg P h st 1 [(0,v)]=some (.slc h.next 0 0 1 1,xu h el (enc a) false)) :
 ∃ O',zg P ⟨O,N,G⟩ st 1 [(0,v)]=some (.slc N 0 0 1 1,⟨O',N+1,G⟩)∧SV O' sz enc N (N+1) [a] (.slc N 0 0 1 1)∧GV O' el sz enc N (N+1) [a] (.slc N 0 0 1 1)∧Frm O O' N:=by
 obtain ⟨O',e1,e2,e3,e4⟩:=zsf E (el:=el) a O N;refine ⟨O',?_,e2,e3,e4⟩;rw [hb,← e1];rfl
theorem SV.sub {st el:TypeId}{by' lo hi a b:Nat}(S:SlT st el sz by')(E:Enc sz enc){xs:List α}{s:AV}(h:SV O sz enc lo hi xs s)(hab:a≤b)(hb:b≤xs.length)(l0:Option Int)(h0:Option Int)(e0:l0=some ((a:Nat):Int)∨l0=none∧a=0)(e1:h0=some ((b:Nat):Int)∨h0=none∧b=xs.length)(N:Nat)(G:T (T AV)) :
 ∃ s',zN P ⟨O,N,G⟩ st s l0 h0 none=some s'∧SV O sz enc lo hi ((xs.drop a).take (b - a)) s'∧(s≠.nils 0 0→s'≠.nils 0 0∧sid s'=sid s)∧(s=.nils 0 0→s'=.nils 0 0):=by
 have bnd:∀ cap,xs.length≤cap→zJ xs.length cap l0 h0 none=some (a,b,cap):=fun cap hcap=>by
  unfold zJ;show (match xa xs.length cap false h0 with | none=>none | some h=>match zT l0 h with | none=>none | some l=>some (l,h,cap))=_
  have h1:xa xs.length cap false h0=some b:=by
   rcases e1 with rfl | ⟨rfl,rfl⟩
   ·show z8 _ cap=_;unfold z8;rw [if_pos ⟨by omega,by omega⟩];rfl
   ·rfl
  have h2:zT l0 b=some a:=by
   rcases e0 with rfl | ⟨rfl,rfl⟩
   ·show z8 _ b=_;unfold z8;rw [if_pos ⟨by omega,by omega⟩];rfl
   ·rfl
  rw [h1];simp only [h2]
 have hlen:((xs.drop a).take (b - a)).length=b - a:=by rw [List.length_take,List.length_drop]; omega
 have hfl:((xs.flatMap enc).drop (a*sz)).take ((b - a)*sz)=((xs.drop a).take (b - a)).flatMap enc:=by
  rw [E.drop,E.take _ _ (by rw [List.length_drop]; omega)]
 have hmul:a*sz+(b - a)*sz≤(xs.flatMap enc).length:=by
  rw [E.flat,← Nat.add_mul];exact Nat.mul_le_mul_right _ (by omega)
 have red:zN P ⟨O,N,G⟩ st s l0 h0 none=(match yQ (some sz) s l0 h0 none with | some v=>some v | none=>zez P ⟨O,N,G⟩ st s l0 h0 none):=by
  unfold zN zbc;rw [S.und];simp only [S.size];cases yQ (some sz) s l0 h0 none <;> rfl
 rw [red];rcases h with ⟨rfl,rfl⟩ | ⟨ri,z,off,cap,rfl,hc,g1,g2,r⟩ | ⟨ri,z,st',rfl,g1,g2,r⟩
 ·refine ⟨.nils 0 0,?_,.inl ⟨rfl,by simp⟩,fun h=>absurd rfl h,fun _=>rfl⟩;have:=bnd 0 (Nat.le_refl _);simp only [List.length_nil,Nat.le_zero] at hb this;subst hb;obtain rfl:a=0:=by omega
  unfold yQ;simp only [this];rfl
 ·have:=r.sub hmul;rw [hfl] at this;refine ⟨.slc ri z (if cap=a then off else off+a*sz) (b - a) (cap - a),?_,.inr (.inl ⟨ri,z,_,cap - a,by rw [hlen],by rw [hlen]; omega,g1,g2,?_⟩),fun _=>⟨by simp,rfl⟩,fun h=>by cases h⟩
  ·unfold yQ;simp only [bnd cap hc];rfl
  ·split
   ·have hz:b - a=0:=by omega
    have hxx:(xs.drop a).take (b - a)=[]:=by rw [hz]; simp
    rw [hxx] at this ⊢;rcases this with ⟨c,m,el,lo,hi,nv,fz,sg,ex,e,h1,h2,h3,h4,h5,h6⟩ | ⟨c,lo,m,h1,h2,h3,h4,h5⟩
    ·exact .inl ⟨c,m,el,lo,hi,nv,fz,sg,ex,e,h1,h2,h3,h4,by simp at h5 ⊢; omega,At.nil⟩
    ·rcases r with ⟨c',m',el',lo',hi',nv',fz',sg',ex',e',q1,_⟩ | ⟨c',lo',m',q1,q2,q3,q4,q5⟩
     ·rw [h1] at q1; cases q1
     ·rw [h1] at q1; cases q1;exact .inr ⟨c,lo,m,h1,h2,q3,by simp at h4 ⊢; omega,At.nil⟩
   ·exact this
 ·have:=r.sub hmul;rw [hfl] at this;refine ⟨.slg ri z (st'*sz+a*sz) (b - a) (st'+a),?_,.inr (.inr ⟨ri,z,st'+a,by rw [hlen,Nat.add_mul],g1,g2,by rw [Nat.add_mul]; exact this⟩),fun _=>⟨by simp,rfl⟩,fun h=>by cases h⟩;unfold yQ;simp only [bnd xs.length (Nat.le_refl _)];rfl
end
section
variable {κ:Type} [BEq κ] [LawfulBEq κ] {kav:κ→AV}
structure MpT (mt kt el:TypeId) (kav:κ→AV) (z:AV):Prop where
 map:zf0 P mt=some (kt,el)
 zero:qj P el=some z
 kok:∀ k,jH P 9 kt (kav k)=true
 keq:∀ h a b,eqA P h 9 kt (kav a) (kav b)=some (a==b)
 self:∀ k,wJ 300 (kav k) (kav k)=true
def ix (k:κ):List (κ × AV)→Nat→Option Nat
 | [],_=>none
 | p::r,i=>if (k==p.1)=true then some i else ix k r (i+1)
end
end Go.Proofs.Ytcdigdplhlgcaaa.gx
end
section
set_option maxRecDepth 100000
set_option linter.unusedVariables false
namespace Go.Proofs.Ytcdigdplhlgcaaa.gx
open Go Ev
abbrev tZ:T AV:=.leaf
abbrev tY (v:AV):T AV:=.node .leaf (some v) .leaf
abbrev tX (a b:T AV):T AV:=.node a none b
abbrev tW (a:T AV) (v:AV) (b:T AV):T AV:=.node a (some v) b
abbrev lC (O:T AObj) (N:Nat) (G:T (T AV)) (p k:Nat) (v:AV):Prop:=zb ⟨O,N,G⟩ p 0 k 1=some [v]
abbrev lR (O:T AObj) (N:Nat) (G:T (T AV)) (p z k:Nat) (v:AV):Prop:=zb ⟨O,N,G⟩ p z k 1=some [v]
abbrev lN (O:T AObj) (N:Nat) (G:T (T AV)) (t:TypeId) (s:AV) (z:Int):Prop:=zL P ⟨O,N,G⟩ .len (some t) [s]=some (.int .i64 z)
abbrev iX (t:TypeId) (s:AV) (j:Int) (a b c:Nat):Prop:=zf P t s (.int .i64 j)=some (.ptr a b c)
inductive CT:Type 1 where
 | fin:CT
 | seq (l:List Cmd) (t:CT):CT
 | fork (u:Nat) (a b:CT):CT
 | ex {α:Type} (t:α→CT):CT
def Fork (u:Nat) (A B:AM→Prop) (m:AM):Prop:=match m with
 | ⟨⟨fn,n,t,todo,ds,mode,kind,round⟩,rest,h⟩=>match t.get u with
  | some (.bool c)=>(c=true→A ⟨⟨fn,n,t.set (some (.bool true)) u,todo,ds,mode,kind,round⟩,rest,h⟩)∧(c=false→B ⟨⟨fn,n,t.set (some (.bool false)) u,todo,ds,mode,kind,round⟩,rest,h⟩)
  | _=>False
def OT (f0:FuncId) (Q:AV→AHeap→Prop) (keep:Nat) (K:AM→Prop) (t:CT):AM→Prop :=
 CT.rec (motive:=fun _=>AM→Prop) K (fun l _ ih m=>Obl P f0 Q keep ih l m) (fun u _ _ a b m=>Fork u a b m) (fun _ ih m=>∃ x,ih x m) t
theorem OT.goal {f0:FuncId}{Q:AV→AHeap→Prop}{keep:Nat}:∀ {t:CT} {m:AM},OT f0 Q keep (Goal P keep f0 Q) t m→Goal P keep f0 Q m
 | .fin,m,e=>e
 | .seq l t,m,e=>Obl.goal mix (K:=OT f0 Q keep (Goal P keep f0 Q) t) (fun m e=>OT.goal (t:=t) e) e
 | .ex t,m,⟨x,e⟩=>OT.goal (t:=t x) e
 | .fork u a b,m,e=>by
  obtain ⟨⟨fn,n,t,todo,ds,mode,kind,round⟩,rest,h⟩:=m;change Fork u (OT f0 Q keep (Goal P keep f0 Q) a) (OT f0 Q keep (Goal P keep f0 Q) b) ⟨⟨fn,n,t,todo,ds,mode,kind,round⟩,rest,h⟩ at e;unfold Fork at e;simp only at e;split at e
  ·rename_i c hc;cases c with
   | true =>
    have:=e.1 rfl;rw [T.set_same' hc] at this;exact OT.goal this
   | false =>
    have:=e.2 rfl;rw [T.set_same' hc] at this;exact OT.goal this
  ·exact e.elim
theorem ot {f0:FuncId}{Q:AV→AHeap→Prop}{keep:Nat}{t:CT}{m:AM}{A:Prop}(e:A=OT f0 Q keep (Goal P keep f0 Q) t m)(h:A):Goal P keep f0 Q m:=OT.goal (cast e h)
theorem fkt {c:Bool}{A B:Prop}(h:c=true)(a:A):(c=true→A)∧(c=false→B):=⟨fun _=>a,fun e=>(by rw [h] at e; cases e)⟩
theorem fkf {c:Bool}{A B:Prop}(h:c=false)(b:B):(c=true→A)∧(c=false→B):=⟨fun e=>(by rw [h] at e; cases e),fun _=>b⟩
theorem Obj.ld {O:T AObj}{id:Nat}{l:List AV}(h:Obj O id l)(off:Nat){N:Nat}{G:T (T AV)}(hn:Nat.ble (off+1) l.length=true):zb ⟨O,N,G⟩ id 0 off 1=some [l.getD off xE]:=h.load off N G (Nat.le_of_ble_eq_true hn)
section
variable {α:Type} {sz:Nat} {enc:α→List AV} {O:T AObj} {N:Nat} {G:T (T AV)}
theorem zbL {st el:TypeId}{by' lo hi:Nat}(S:SlT st el sz by')(E:Enc sz enc){xs:List α}{s:AV}(h:SV O sz enc lo hi xs s)(hN:hi≤N){a:Nat}(ha:a≤xs.length)(v:α){w:AV}
 (hlit:∀ h:AHeap,zg P h st 1 [(0,w)]=some (.slc h.next 0 0 1 1,xu h el (enc v) false)) (hn:xs.length+1<1000000000) (G:T (T AV)) :
 ∃ s1 O1 N1 s2 O2 O3 N2 s3 s4 O4 N3 s5,zN P ⟨O,N,G⟩ st s none (some ((a:Nat):Int)) none=some s1 ∧
  zi P ⟨O,N,G⟩ .append (some st) (some st) [.nils 0 0,s1]=some (.val s2 ⟨O1,N1,G⟩) ∧
  zg P ⟨O1,N1,G⟩ st 1 [(0,w)]=some (.slc N1 0 0 1 1,⟨O2,N1+1,G⟩) ∧
  zi P ⟨O2,N1+1,G⟩ .append (some st) (some st) [s2,.slc N1 0 0 1 1]=some (.val s3 ⟨O3,N2,G⟩) ∧
  zN P ⟨O3,N2,G⟩ st s (some ((a:Nat):Int)) none none=some s4 ∧
  zi P ⟨O3,N2,G⟩ .append (some st) (some st) [s3,s4]=some (.val s5 ⟨O4,N3,G⟩) ∧
  GV O4 el sz enc N N3 (xs.take a++v::xs.drop a) s5∧N≤N1∧N1≤N2∧N2≤N3∧(∀ j,j<N→O1.get j=O.get j)∧(∀ j,j<N→O3.get j=O.get j)∧(∀ j,j<N→O4.get j=O.get j):=by
 obtain ⟨s1,e1,v1,_⟩:=h.sub S E (a:=0) (b:=a) (Nat.zero_le _) ha none (some ((a:Nat):Int)) (.inr ⟨rfl,rfl⟩) (.inl rfl) N G;rw [List.drop_zero,Nat.sub_zero] at v1;have g0:GV O el sz enc N N ([]:List α) (.nils 0 0):=GV.nil;have hl1:(xs.take a).length=a:=by rw [List.length_take]; omega
 obtain ⟨O1,N1,s2,e2,g1,n1,n1',f1,_⟩:=g0.app S E v1 (Nat.le_refl _) (by rw [hl1]; simp only [List.length_nil]; omega) G;rw [List.nil_append] at g1;obtain ⟨O2,e3,v2,_,f2⟩:=kU E v O1 N1 G (st:=st) (el:=el) hlit;have g1':GV O2 el sz enc N (N1+1) (xs.take a) s2:=g1.keep (fun j h1 h2=>f2 j (by omega)) (Nat.le_refl _) (Nat.le_succ _);obtain ⟨O3,N2,s3,e4,g2,n2,n2',f3,_⟩:=g1'.app S E v2 (by omega) (by rw [hl1]; simp only [List.length_cons,List.length_nil]; omega) G;have q1:∀ j,j<N→O1.get j=O.get j:=fun j hj=>f1 j hj (fun h=>absurd rfl h);have q2:∀ j,j<N→O3.get j=O.get j:=fun j hj=>(f3 j (by omega) (fun hs=>by have:=(g1'.sid_lt hs).1; omega)).trans ((f2 j (by omega)).trans (q1 j hj));have h3:=h.keep (O':=O3) (fun j _ hj=>q2 j (by omega)) (Nat.le_refl _) (Nat.le_refl _);obtain ⟨s4,e5,v4,_⟩:=h3.sub S E (a:=a) (b:=xs.length) ha (Nat.le_refl _) (some ((a:Nat):Int)) none (.inl rfl) (.inr ⟨rfl,rfl⟩) N2 G;have ht:(xs.drop a).take (xs.length - a)=xs.drop a:=List.take_of_length_le (by rw [List.length_drop]; exact Nat.le_refl _);rw [ht] at v4;obtain ⟨O4,N3,s5,e6,g3,n3,n3',f4,_⟩:=g2.app S E v4 (by omega) (by rw [List.length_append,hl1,List.length_drop]; simp only [List.length_cons,List.length_nil]; omega) G;rw [List.append_assoc,List.cons_append,List.nil_append] at g3;exact ⟨s1,O1,N1,s2,O2,O3,N2,s3,s4,O4,N3,s5,e1,e2,e3,e4,e5,e6,g3,n1,by omega,n3,q1,q2,fun j hj=>(f4 j (by omega) (fun hs=>by have:=(g2.sid_lt hs).1; omega)).trans (q2 j hj)⟩
end
end Go.Proofs.Ytcdigdplhlgcaaa.gx
end
section
set_option maxRecDepth 100000
set_option linter.unusedVariables false
set_option linter.unusedSimpArgs false
namespace Go.Proofs.Ytcdigdplhlgcaaa.tp
open Go
abbrev ze:=List UInt8
inductive Ty where
 | no:Ty
 | mk (k:Int) (nm:ze) (ns:List ze) (aas:List Ty) (r:Ty):Ty
mutual
def cnt:Ty→Nat
 | .no=>0
 | .mk _ _ _ aas r=>1+zaw aas+cnt r
def zaw:List Ty→Nat
 | []=>0
 | x::l=>cnt x+zaw l
end
theorem jq:cnt .no=0:=by simp only [cnt]
theorem z9 {k nm ns aas r}:cnt (.mk k nm ns aas r)=1+zaw aas+cnt r:=by simp only [cnt]
theorem vb:zaw []=0:=by simp only [zaw]
theorem wS {x l}:zaw (x::l)=cnt x+zaw l:=by simp only [zaw]
theorem xf:∀ {l:List Ty} {x:Ty},x∈l→cnt x≤zaw l
 | y::l,x,h=>by
  rw [wS];rcases List.mem_cons.1 h with rfl | h
  ·omega
  ·have:=xf h; omega
def kd:Ty→Int
 | .no=>0
 | .mk k _ _ _ _=>k
def isNo:Ty→Bool
 | .no=>true
 | _=>false
def xA (c:Int):Bool:=(decide (97≤c)&&decide (c≤122)) || (decide (65≤c)&&decide (c≤90)) || c==95
def yY (c:Int):Bool:=decide (48≤c)&&decide (c≤57)
def xr (c:Int):Bool:=xA c || yY c
def yw (c:Int):Bool:=xA c || yY c || c==45 || c==47 || c==46
abbrev bi (c:UInt8):Int:=((c.toNat:Nat):Int)
def zh (s:ze):Bool:=match s with
 | []=>false
 | c::_=>decide (s.length≤24)&&!yY (bi c)&&s.all fun c=>xr (bi c)
def zK (s:ze):Bool:=decide (1≤s.length)&&decide (s.length≤161)&&s.all fun c=>yw (bi c)
def qL:List ze→Bool
 | a::b::l=>Op.bytesLess a b&&qL (b::l)
 | _=>true
def own (k:Int) (nm:ze) (ns:List ze) (aas:List Ty) (r:Ty):Bool :=
 if 1≤k∧k≤5 then nm.isEmpty&&ns.isEmpty&&aas.isEmpty&&isNo r
 else if k=6 then ns.isEmpty&&aas.isEmpty&&isNo r
 else if k=7 then nm.isEmpty&&isNo r
 else if k=8 then nm.isEmpty&&ns.isEmpty&&!isNo r
 else if k=9 then nm.isEmpty&&ns.isEmpty&&isNo r
 else false
def plain (k:Int):ze:=if k=1 then [97,110,121] else if k=2 then [105,110,116] else if k=3 then [98,111,111,108] else if k=4 then [115,116,114] else [110,105,108]
def zD (sep:ze):Nat→List ze→ze
 | _,[]=>[]
 | i,s::l=>(if i=0 then [] else sep)++s++zD sep (i+1) l
def zck:List ze→List ze→List ze
 | n::ns,s::l=>(n++[58,32]++s)::zck ns l
 | _,_=>[]
def zch:List Ty→List ze→List ze
 | x::aas,s::l=>(if kd x=8 then [40]++s++[41] else s)::zch aas l
 | _,_=>[]
def txt (k:Int) (nm:ze) (ns:List ze) (aas:List Ty) (ts:List ze) (r:ze):ze :=
 if k=6 then nm
 else if k=7 then [123]++zD [44,32] 0 (zck ns ts)++[125]
 else if k=8 then [102,110,40]++zD [44,32] 0 ts++[41,32,45,62,32]++r
 else if k=9 then zD [32,124,32] 0 (zch aas ts)
 else plain k
mutual
def wr:Ty→ze
 | .no=>[]
 | .mk k nm ns aas r=>txt k nm ns aas (wrL aas) (wr r)
def wrL:List Ty→List ze
 | []=>[]
 | x::l=>wr x::wrL l
end
theorem zjZ {k nm ns aas r}:wr (.mk k nm ns aas r)=txt k nm ns aas (wrL aas) (wr r):=by simp only [wr]
theorem zj8:∀ l,wrL l=l.map wr
 | []=>by simp only [wrL,List.map_nil]
 | x::l=>by simp only [wrL,List.map_cons,zj8 l]
def okK (k:Int) (nm:ze) (ns:List ze) (aas:List Ty):Bool :=
 if k=6 then zK nm
 else if k=7 then decide (ns.length=aas.length)&&ns.all zh&&qL ns
 else if k=9 then decide (2≤aas.length)&&aas.all (fun x=>!(kd x==9 || kd x==1))&&qL (aas.map wr)
 else true
mutual
def okT:Ty→Bool
 | .no=>false
 | .mk k nm ns aas r=>own k nm ns aas r&&okL aas&&(isNo r || okT r)&&okK k nm ns aas
def okL:List Ty→Bool
 | []=>true
 | x::l=>okT x&&okL l
end
theorem xX:okT .no=false:=by simp only [okT]
theorem zbQ {k nm ns aas r}:okT (.mk k nm ns aas r)=(own k nm ns aas r&&okL aas&&(isNo r || okT r)&&okK k nm ns aas):=by simp only [okT]
theorem wY:∀ l,okL l=l.all okT
 | []=>by simp only [okL,List.all_nil]
 | x::l=>by simp only [okL,List.all_cons,wY l]
def chk (t:Ty):Int:=if isNo t=true then 1 else if 60<cnt t then 3 else if okT t=true then 0 else 2
theorem chk_ok {t:Ty}(h:chk t=0):okT t=true∧cnt t≤60:=by
 unfold chk at h;split at h
 ·cases h
 ·split at h
  ·cases h
  ·split at h
   ·exact ⟨by assumption,by omega⟩
   ·cases h
theorem wQ {k nm ns aas r}(h:own k nm ns aas r=true):(1≤k∧k≤9)∧((k=8) ↔ isNo r=false)∧(k<7→aas=[])∧(k≠7→ns=[])∧(k≠6→nm=[]):=by
 unfold own at h;split at h
 ·simp only [Bool.and_eq_true,List.isEmpty_iff] at h;obtain ⟨⟨⟨a,b⟩,c⟩,d⟩:=h;refine ⟨by omega,⟨fun e=>by omega,fun e=>by rw [d] at e; cases e⟩,fun _=>c,fun _=>b,fun _=>a⟩
 ·split at h
  ·simp only [Bool.and_eq_true,List.isEmpty_iff] at h;obtain ⟨⟨b,c⟩,d⟩:=h;refine ⟨by omega,⟨fun e=>by omega,fun e=>by rw [d] at e; cases e⟩,fun _=>c,fun _=>b,fun e=>absurd ‹k=6› e⟩
  ·split at h
   ·simp only [Bool.and_eq_true,List.isEmpty_iff] at h;obtain ⟨a,d⟩:=h;refine ⟨by omega,⟨fun e=>by omega,fun e=>by rw [d] at e; cases e⟩,fun _=>by omega,fun e=>absurd ‹k=7› e,fun _=>a⟩
   ·split at h
    ·simp only [Bool.and_eq_true,List.isEmpty_iff,Bool.not_eq_true'] at h;obtain ⟨⟨a,b⟩,d⟩:=h;refine ⟨by omega,⟨fun _=>d,fun _=>by assumption⟩,fun _=>by omega,fun _=>b,fun _=>a⟩
    ·split at h
     ·simp only [Bool.and_eq_true,List.isEmpty_iff] at h;obtain ⟨⟨a,b⟩,d⟩:=h;refine ⟨by omega,⟨fun e=>by omega,fun e=>by rw [d] at e; cases e⟩,fun _=>by omega,fun _=>b,fun _=>a⟩
     ·cases h
theorem xG {k nm ns aas r}(h:okT (.mk k nm ns aas r)=true):own k nm ns aas r=true∧(∀ x∈aas,okT x=true)∧(isNo r=true∨okT r=true)∧okK k nm ns aas=true:=by
 rw [zbQ,wY,Bool.and_eq_true,Bool.and_eq_true,Bool.and_eq_true,List.all_eq_true,Bool.or_eq_true] at h;exact ⟨h.1.1.1,h.1.1.2,h.1.2,h.2⟩
theorem kT (sep:ze)(b:Nat):∀ (l:List ze) (i:Nat),(zD sep i l).length≤l.flatten.length+sep.length*l.length
 | [],_=>by simp [zD]
 | s::l,i=>by
  have:=kT sep b l (i+1);unfold zD;simp only [List.length_append,List.flatten_cons,List.length_cons,Nat.mul_add,Nat.mul_one];split <;> (try simp only [List.length_nil]) <;> omega
theorem zh4:∀ (ns l:List ze),(∀ s∈ns,s.length≤24)→(zck ns l).flatten.length≤l.flatten.length+26*l.length∧(zck ns l).length≤l.length
 | [],l,_=>by simp [zck]
 | n::ns,[],_=>by simp [zck]
 | n::ns,s::l,h=>by
  have:=zh4 ns l fun s hs=>h s (List.mem_cons_of_mem _ hs);have:=h n List.mem_cons_self;unfold zck;simp only [List.flatten_cons,List.length_append,List.length_cons,List.length_nil];omega
theorem zhA:∀ (aas:List Ty) (l:List ze),(zch aas l).flatten.length≤l.flatten.length+2*l.length∧(zch aas l).length≤l.length
 | [],l=>by simp [zch]
 | n::ns,[]=>by simp [zch]
 | n::ns,s::l=>by
  have:=zhA ns l;unfold zch;simp only [List.flatten_cons,List.length_append,List.length_cons];split <;> (try simp only [List.length_append,List.length_cons,List.length_nil]) <;> omega
theorem zml (k:Int):(plain k).length≤4:=by
 unfold plain;split
 ·decide
 ·split
  ·decide
  ·split
   ·decide
   ·split <;> decide
theorem yM {s:ze}(h:zh s=true):s.length≤24:=by
 cases s with
 | nil=>simp
 | cons c s =>
  unfold zh at h;simp only [Bool.and_eq_true,decide_eq_true_eq] at h;exact h.1.1
theorem zgH {t:Ty}(h:okT t=true):1≤cnt t:=by
 cases t with
 | no=>rw [xX] at h; cases h
 | mk k nm ns aas r=>rw [z9]; omega
theorem zkK:∀ (n:Nat) (t:Ty),cnt t≤n→okT t=true→(wr t).length+28≤200*cnt t
 | n,.no,_,h=>by rw [xX] at h; cases h
 | 0,.mk k nm ns aas r,hn,_=>by rw [z9] at hn; omega
 | n+1,.mk k nm ns aas r,hn,h=>by
  rw [z9] at hn ⊢;obtain ⟨h1,h2,h3,h4⟩:=xG h;obtain ⟨f1,f2,f3,f4,f5⟩:=wQ h1;have hr:(wr r).length≤200*cnt r:=by
   rcases h3 with h3 | h3
   ·cases r with
    | no=>simp [wr]
    | mk=>cases h3
   ·have:=zkK n r (by omega) h3; omega
  have hs':∀ x∈aas,(wr x).length+28≤200*cnt x∧1≤cnt x:=fun x hx=>⟨zkK n x (by have:=xf hx; omega) (h2 x hx),zgH (h2 x hx)⟩;have hs2:∀ (aas:List Ty),(∀ x∈aas,(wr x).length+28≤200*cnt x∧1≤cnt x)→(wrL aas).flatten.length+28*(wrL aas).length≤200*zaw aas:=by
   intro aas
   induction aas with
   | nil=>intro _; simp [wrL]
   | cons x l ih =>
    intro h;have h1:=ih fun y hy=>h y (List.mem_cons_of_mem _ hy);have h2:=h x List.mem_cons_self;simp only [wrL,wS,List.flatten_cons,List.length_append,List.length_cons];omega
  have hs:=hs2 aas hs';rw [zjZ];unfold txt;split
  ·rename_i hk;unfold okK at h4;rw [if_pos hk] at h4;unfold zK at h4;simp only [Bool.and_eq_true,decide_eq_true_eq] at h4;omega
  ·split
   ·rename_i hk;unfold okK at h4;rw [if_neg (by omega),if_pos hk] at h4;simp only [Bool.and_eq_true,decide_eq_true_eq,List.all_eq_true] at h4;have hz:=zh4 ns (wrL aas) fun s hs=>yM (h4.1.2 s hs);have hj:=kT [44,32] 0 (zck ns (wrL aas)) 0;simp only [List.length_append,List.length_cons,List.length_nil] at hj ⊢;omega
   ·split
    ·have hj:=kT [44,32] 0 (wrL aas) 0;simp only [List.length_append,List.length_cons,List.length_nil] at hj ⊢;omega
    ·split
     ·have hz:=zhA aas (wrL aas);have hj:=kT [32,124,32] 0 (zch aas (wrL aas)) 0;simp only [List.length_append,List.length_cons,List.length_nil] at hj ⊢;omega
     ·have:=zml k;omega
theorem yf {t:Ty}(h:okT t=true)(hc:cnt t≤60):(wr t).length≤12000:=by
 have:=zkK (cnt t) t (Nat.le_refl _) h;omega
mutual
def naT:Ty→Bool
 | .no=>true
 | .mk k _ _ aas r=>!(k==1)&&naL aas&&naT r
def naL:List Ty→Bool
 | []=>true
 | x::l=>naT x&&naL l
end
end Go.Proofs.Ytcdigdplhlgcaaa.tp
end
section
set_option maxRecDepth 100000
set_option linter.unusedVariables false
namespace Go.Proofs.Ytcdigdplhlgcaaa.tp
open Go
def ins {α:Type} (a:Nat) (v:α) (l:List α):List α:=l.take a++v::l.drop a
theorem qh {α:Type}{a:Nat}{v:α}{l:List α}(h:a≤l.length):(ins a v l).length=l.length+1:=by
 unfold ins;rw [List.length_append,List.length_take,List.length_cons,List.length_drop];omega
theorem zae {α:Type}{a:Nat}{v x:α}{l:List α}:x∈ins a v l ↔ x=v∨x∈l:=by
 unfold ins;rw [List.mem_append,List.mem_cons];constructor
 ·rintro (h | rfl | h)
  ·exact .inr (List.mem_of_mem_take h)
  ·exact .inl rfl
  ·exact .inr (List.mem_of_mem_drop h)
 ·rintro (rfl | h)
  ·exact .inr (.inl rfl)
  ·rw [← List.take_append_drop a l,List.mem_append] at h;rcases h with h | h
   ·exact .inl h
   ·exact .inr (.inr h)
theorem zlS {α β:Type}{R:α→β→Prop}{a:Nat}{v:α}{w:β}{l:List α}{m:List β}(hl:m.length=l.length)(ha:a≤l.length)(hv:R v w)(h:∀ (j:Nat) x y,l[j]?=some x→m[j]?=some y→R x y)(j:Nat)(x:α)(y:β)(h1:(ins a v l)[j]?=some x)(h2:(ins a w m)[j]?=some y):R x y:=by
 unfold ins at h1 h2;have t1:(l.take a).length=a:=by rw [List.length_take]; omega
 have t2:(m.take a).length=a:=by rw [List.length_take]; omega
 by_cases hj:j<a
 ·rw [List.getElem?_append_left (by omega),List.getElem?_take_of_lt hj] at h1 h2;exact h j x y h1 h2
 ·rw [List.getElem?_append_right (by omega)] at h1 h2;rw [t1] at h1;rw [t2] at h2;cases hk:j - a with
  | zero =>
   rw [hk] at h1 h2;simp only [List.getElem?_cons_zero,Option.some.injEq] at h1 h2;subst h1;subst h2;exact hv
  | succ k =>
   rw [hk,List.getElem?_cons_succ,List.getElem?_drop] at h1 h2;exact h _ x y h1 h2
def wn {α:Type} (p:α→Bool) (l:List α):Nat:=(l.takeWhile p).length
theorem zb9 {α:Type}{p:α→Bool}:∀ {l:List α},wn p l≤l.length
 | []=>Nat.le_refl _
 | x::l=>by
  unfold wn;rw [List.takeWhile_cons];have:=zb9 (p:=p) (l:=l);unfold wn at this;split <;> simp <;> omega
theorem zbs {α:Type}{p:α→Bool}:∀ {l:List α} {i:Nat},(∀ k,k<i→∃ x,l[k]?=some x∧p x=true)→(i=l.length∨∃ x,l[i]?=some x∧p x=false)→wn p l=i
 | [],i,h1,h2=>by
  rcases h2 with h2 | ⟨x,h,_⟩
  ·rw [h2]; rfl
  ·simp at h
 | y::l,0,h1,h2=>by
  rcases h2 with h2 | ⟨x,h,hp⟩
  ·simp at h2
  ·simp only [List.getElem?_cons_zero,Option.some.injEq] at h;subst h;unfold wn;rw [List.takeWhile_cons,hp];rfl
 | y::l,i+1,h1,h2=>by
  obtain ⟨x,h,hp⟩:=h1 0 (Nat.succ_pos i);simp only [List.getElem?_cons_zero,Option.some.injEq] at h;subst h;have:=zbs (p:=p) (l:=l) (i:=i) (fun k hk=>by
   have:=h1 (k+1) (by omega)
   rwa [List.getElem?_cons_succ] at this) (by
   rcases h2 with h2 | h2
   ·exact .inl (by simpa using h2)
   ·rw [List.getElem?_cons_succ] at h2; exact .inr h2)
  unfold wn at this ⊢;rw [List.takeWhile_cons,if_pos hp,List.length_cons,this]
def zh3:List ze→List Ty→List ze→List Ty→Option (List ze × List Ty)
 | n::ns,t::ts,xs,us=>if zh n=true then
  if xs[wn (fun x=>Op.bytesLess x n) xs]?=some n then none else zh3 ns ts (ins (wn (fun x=>Op.bytesLess x n) xs) n xs) (ins (wn (fun x=>Op.bytesLess x n) xs) t us)
  else none
 | _,_,xs,us=>some (xs,us)
theorem kF {n:ze}{ns:List ze}{t:Ty}{ts:List Ty}{xs:List ze}{us:List Ty}:zh3 (n::ns) (t::ts) xs us=if zh n=true then
 if xs[wn (fun x=>Op.bytesLess x n) xs]?=some n then none else zh3 ns ts (ins (wn (fun x=>Op.bytesLess x n) xs) n xs) (ins (wn (fun x=>Op.bytesLess x n) xs) t us)
 else none:=rfl
theorem recS_nil {ts:List Ty}{xs:List ze}{us:List Ty}:zh3 [] ts xs us=some (xs,us):=rfl
def kv (t:Ty):Int × Ty:=if 60<cnt t then (3,.no) else (0,t)
def y0 (ns:List ze) (ts:List Ty):Int × Ty :=
 if ns.length=ts.length∧ts.all (fun x=>chk x==0)=true then match zh3 ns ts [] [] with
  | none=>(2,.no)
  | some (xs,us)=>kv (.mk 7 [] xs us .no)
 else (2,.no)
def zta:Ty→List Ty
 | .no=>[]
 | .mk _ _ _ aas _=>aas
def xq (t:Ty):List Ty:=if kd t=9 then zta t else [t]
def zcj:List Ty→List Ty→List Ty
 | [],out=>out
 | t::r,out=>if (out[wn (fun x=>Op.bytesLess (wr x) (wr t)) out]?).map wr=some (wr t) then zcj r out else zcj r (ins (wn (fun x=>Op.bytesLess (wr x) (wr t)) out) t out)
theorem wF {t:Ty}{r out:List Ty}:zcj (t::r) out=if (out[wn (fun x=>Op.bytesLess (wr x) (wr t)) out]?).map wr=some (wr t) then zcj r out else zcj r (ins (wn (fun x=>Op.bytesLess (wr x) (wr t)) out) t out):=rfl
theorem ziu {out:List Ty}:zcj [] out=out:=rfl
def zjU (out:List Ty):Int × Ty:=if out.length=1 then (0,out.headD .no) else kv (.mk 9 [] [] out .no)
def vh (ts:List Ty):Int × Ty :=
 if ts≠[]∧ts.all (fun x=>chk x==0)=true then if ts.any (fun x=>kd x==1)=true then (0,.mk 1 [] [] [] .no) else zjU (zcj (ts.flatMap xq) [])
 else (2,.no)
end Go.Proofs.Ytcdigdplhlgcaaa.tp
end
section
set_option maxRecDepth 100000
set_option linter.unusedVariables false
set_option linter.unusedSectionVars false
namespace Go.Proofs.Ytcdigdplhlgcaaa.gx
open Go Ev tp
def pv:Option Nat→AV
 | none=>.nilp
 | some i=>.ptr i 0 0
def sE (s:ze):List AV:=[.str s]
def pE (p:Option Nat):List AV:=[pv p]
theorem sEn:Enc 1 sE:=⟨fun _=>rfl,fun _=>rfl,by decide⟩
theorem pEn:Enc 1 pE:=⟨fun _=>rfl,fun a=>by cases a <;> rfl,by decide⟩
inductive Tr (O:T AObj) (hi:Nat):Ty→Option Nat→Prop
 | no:Tr O hi .no none
 | mk {k:Int} {nm:ze} {ns:List ze} {aa:List Ty} {r:Ty} {id:Nat} {sn sa:AV} {ps:List (Option Nat)} {q:Option Nat} (h1:id<hi) (h2:Obj O id [.int .i64 k,.str nm,sn,sa,pv q])
  (h3:SV O 1 sE 0 hi ns sn) (h4:SV O 1 pE 0 hi ps sa) (h5:ps.length=aa.length) (h6:aa.length<1000000) (h7:ns.length<1000000)
  (h8:∀ (j:Nat) (x:Ty) (p:Option Nat),aa[j]?=some x→ps[j]?=some p→Tr O hi x p) (h9:Tr O hi r q):Tr O hi (.mk k nm ns aa r) (some id)
variable {O O':T AObj} {N hi hi':Nat} {G:T (T AV)} {t:Ty} {p:Option Nat}
theorem Tr.same (h:Tr O hi t p)(e:∀ j,j<hi→O'.get j=O.get j)(hh:hi≤hi'):Tr O' hi' t p:=by
 induction h with
 | no=>exact .no
 | mk h1 h2 h3 h4 h5 h6 h7 h8 h9 ih1 ih2 =>
  exact .mk (by omega) (h2.same (e _ h1)) (h3.keep (fun j _ hj=>e j hj) (Nat.le_refl _) hh) (h4.keep (fun j _ hj=>e j hj) (Nat.le_refl _) hh) h5 h6 h7 ih1 ih2
theorem Tr.inv {k:Int}{nm:ze}{ns:List ze}{aa:List Ty}{r:Ty}(h:Tr O hi (.mk k nm ns aa r) p):∃ id sn sa ps q,p=some id∧id<hi∧Obj O id [.int .i64 k,.str nm,sn,sa,pv q]∧SV O 1 sE 0 hi ns sn∧SV O 1 pE 0 hi ps sa ∧
 ps.length=aa.length∧aa.length<1000000∧ns.length<1000000∧(∀ (j:Nat) (x:Ty) (p:Option Nat),aa[j]?=some x→ps[j]?=some p→Tr O hi x p)∧Tr O hi r q:=by
 cases h with
 | mk h1 h2 h3 h4 h5 h6 h7 h8 h9=>exact ⟨_,_,_,_,_,rfl,h1,h2,h3,h4,h5,h6,h7,h8,h9⟩
theorem Tr.isNo (h:Tr O hi t p):(p=none ↔ isNo t=true)∧(∀ i,p=some i→i<hi):=by
 cases h with
 | no=>exact ⟨⟨fun _=>rfl,fun _=>rfl⟩,fun i hi=>by cases hi⟩
 | mk h1 h2 h3 h4 h5 h6 h7 h8 h9=>exact ⟨⟨fun h=>absurd h (fun h=>by injection h),fun h=>Bool.noConfusion h⟩,fun i hi=>by injection hi with hi; omega⟩
def Trs (O:T AObj) (hi:Nat) (l:List Ty) (ps:List (Option Nat)):Prop:=ps.length=l.length∧∀ (j:Nat) (x:Ty) (p:Option Nat),l[j]?=some x→ps[j]?=some p→Tr O hi x p
theorem Trs.same {l:List Ty}{ps:List (Option Nat)}(h:Trs O hi l ps)(e:∀ j,j<hi→O'.get j=O.get j)(hh:hi≤hi'):Trs O' hi' l ps:=⟨h.1,fun j x p a b=>(h.2 j x p a b).same e hh⟩
theorem nth {α:Type}{l:List α}{j:Nat}(h:j<l.length):∃ x,l[j]?=some x∧x∈l:=⟨l[j],List.getElem?_eq_getElem h,List.getElem_mem h⟩
end Go.Proofs.Ytcdigdplhlgcaaa.gx
end
section
set_option maxRecDepth 100000
set_option linter.unusedVariables false
set_option linter.unusedSectionVars false
set_option linter.unusedSimpArgs false
namespace Go.Proofs.Ytcdigdplhlgcaaa.gx
open Go Ev tp
section
variable (c n j z1:Int) (bs:AV) (rest:List AFrame) (O:T AObj) (N:Nat) (G:T (T AV))
noncomputable def Fnf:AFrame:=frm 101 6 (tX (tX (tY (.int .u8 c)) tZ) tZ) [opi 101 [1,0] 1,cdi 101 [1,1]]
noncomputable def Fim:AFrame:=frm 113 18 (tW (tX (tY (.int .u8 c)) tZ) (.int .u8 c) tZ) [opi 113 [1,0] 1,cdi 113 [1,1]]
noncomputable def Wsb:AM:=⟨frm 100 17 (tX (tW (tX (tY bs) tZ) (.fn (Fn.func (101:FuncId)) [] []) (tX (tY (.int .i64 j)) tZ)) (tX (tX (tY (.int .i64 n)) tZ) tZ)) [cdi 100 [1,0,1,0,0],ili 100 [1,0,1,0,0],.inBlock 0,cdi 100 [1,1]],rest,⟨O,N,G⟩⟩
noncomputable def zsi:AFrame:=frm 100 17 (tX (tW (tX (tY bs) tZ) (.fn (Fn.func (101:FuncId)) [] []) (tX (tY (.int .i64 j)) (tY (.fn (Fn.func (101:FuncId)) [] [])))) (tX (tX (tY (.int .i64 n)) tZ) (tX tZ (tY (.int .u8 z1))))) [opi 100 [1,0,1,0,0,1,1,0,0,1,0] 2,cdi 100 [1,0,1,0,0,1,1,0,0,1,1],.inBlock 1,cdi 100 [1,0,1,0,0,1,1,1],ili 100 [1,0,1,0,0],.inBlock 0,cdi 100 [1,1]]
noncomputable def Wsn:AM:=⟨frm 100 17 (tX (tW (tX (tY bs) tZ) (.fn (Fn.func (113:FuncId)) [] []) (tX (tY (.int .i64 j)) tZ)) (tX (tX (tY (.int .i64 n)) tZ) tZ)) [cdi 100 [1,0,1,0,0],ili 100 [1,0,1,0,0],.inBlock 0,cdi 100 [1,1]],rest,⟨O,N,G⟩⟩
noncomputable def zsG:AFrame:=frm 100 17 (tX (tW (tX (tY bs) tZ) (.fn (Fn.func (113:FuncId)) [] []) (tX (tY (.int .i64 j)) (tY (.fn (Fn.func (113:FuncId)) [] [])))) (tX (tX (tY (.int .i64 n)) tZ) (tX tZ (tY (.int .u8 z1))))) [opi 100 [1,0,1,0,0,1,1,0,0,1,0] 2,cdi 100 [1,0,1,0,0,1,1,0,0,1,1],.inBlock 1,cdi 100 [1,0,1,0,0,1,1,1],ili 100 [1,0,1,0,0],.inBlock 0,cdi 100 [1,1]]
end
section
variable {R:AV→AHeap→Prop} {keep N:Nat} {f0:FuncId} {rest:List AFrame} {O:T AObj} {c k n j z1c:Int} {G:T (T AV)} {K:AM→Prop} {td:List AItem} {bv:Bool} {bs:AV}
theorem zgJ:(((decide ((97:Int)≤c))=true→(((decide (c≤(122:Int)))=true→(K (AM.mk (RF 102 29 (tX tZ (tY (.bool true))) [cdi 102 [1,1]]) rest ⟨O,N,G⟩)))∧((decide (c≤(122:Int)))=false→(((decide ((65:Int)≤c))=true→(((decide (c≤(90:Int)))=true→(K (AM.mk (RF 102 29 (tX tZ (tY (.bool true))) [cdi 102 [1,1]]) rest ⟨O,N,G⟩)))∧((decide (c≤(90:Int)))=false→(((decide ((48:Int)≤c))=true→(((decide (c≤(57:Int)))=true→(K (AM.mk (RF 102 29 (tX tZ (tY (.bool true))) [cdi 102 [1,1]]) rest ⟨O,N,G⟩)))∧((decide (c≤(57:Int)))=false→(K (AM.mk (RF 102 29 (tX tZ (tY (.bool (c==(95:Int))))) [cdi 102 [1,1]]) rest ⟨O,N,G⟩)))))∧((decide ((48:Int)≤c))=false→(K (AM.mk (RF 102 29 (tX tZ (tY (.bool (c==(95:Int))))) [cdi 102 [1,1]]) rest ⟨O,N,G⟩)))))))∧((decide ((65:Int)≤c))=false→(((decide ((48:Int)≤c))=true→(((decide (c≤(57:Int)))=true→(K (AM.mk (RF 102 29 (tX tZ (tY (.bool true))) [cdi 102 [1,1]]) rest ⟨O,N,G⟩)))∧((decide (c≤(57:Int)))=false→(K (AM.mk (RF 102 29 (tX tZ (tY (.bool (c==(95:Int))))) [cdi 102 [1,1]]) rest ⟨O,N,G⟩)))))∧((decide ((48:Int)≤c))=false→(K (AM.mk (RF 102 29 (tX tZ (tY (.bool (c==(95:Int))))) [cdi 102 [1,1]]) rest ⟨O,N,G⟩)))))))))∧((decide ((97:Int)≤c))=false→(((decide ((65:Int)≤c))=true→(((decide (c≤(90:Int)))=true→(K (AM.mk (RF 102 29 (tX tZ (tY (.bool true))) [cdi 102 [1,1]]) rest ⟨O,N,G⟩)))∧((decide (c≤(90:Int)))=false→(((decide ((48:Int)≤c))=true→(((decide (c≤(57:Int)))=true→(K (AM.mk (RF 102 29 (tX tZ (tY (.bool true))) [cdi 102 [1,1]]) rest ⟨O,N,G⟩)))∧((decide (c≤(57:Int)))=false→(K (AM.mk (RF 102 29 (tX tZ (tY (.bool (c==(95:Int))))) [cdi 102 [1,1]]) rest ⟨O,N,G⟩)))))∧((decide ((48:Int)≤c))=false→(K (AM.mk (RF 102 29 (tX tZ (tY (.bool (c==(95:Int))))) [cdi 102 [1,1]]) rest ⟨O,N,G⟩)))))))∧((decide ((65:Int)≤c))=false→(((decide ((48:Int)≤c))=true→(((decide (c≤(57:Int)))=true→(K (AM.mk (RF 102 29 (tX tZ (tY (.bool true))) [cdi 102 [1,1]]) rest ⟨O,N,G⟩)))∧((decide (c≤(57:Int)))=false→(K (AM.mk (RF 102 29 (tX tZ (tY (.bool (c==(95:Int))))) [cdi 102 [1,1]]) rest ⟨O,N,G⟩)))))∧((decide ((48:Int)≤c))=false→(K (AM.mk (RF 102 29 (tX tZ (tY (.bool (c==(95:Int))))) [cdi 102 [1,1]]) rest ⟨O,N,G⟩))))))))=OT f0 R keep K (.seq [.run 9] (.fork 5 (.seq [.run 4] (.fork 9 (.seq [.run 22,.keep [2]] .fin) (.seq [.run 3] (.fork 12 (.seq [.run 5] (.fork 17 (.seq [.run 14,.keep [2]] .fin) (.seq [.run 3] (.fork 20 (.seq [.run 5] (.fork 25 (.seq [.run 6,.keep [2]] .fin) (.seq [.run 6,.keep [2]] .fin))) (.seq [.run 11,.keep [2]] .fin))))) (.seq [.run 8] (.fork 20 (.seq [.run 5] (.fork 25 (.seq [.run 6,.keep [2]] .fin) (.seq [.run 6,.keep [2]] .fin))) (.seq [.run 11,.keep [2]] .fin))))))) (.seq [.run 7] (.fork 12 (.seq [.run 5] (.fork 17 (.seq [.run 14,.keep [2]] .fin) (.seq [.run 3] (.fork 20 (.seq [.run 5] (.fork 25 (.seq [.run 6,.keep [2]] .fin) (.seq [.run 6,.keep [2]] .fin))) (.seq [.run 11,.keep [2]] .fin))))) (.seq [.run 8] (.fork 20 (.seq [.run 5] (.fork 25 (.seq [.run 6,.keep [2]] .fin) (.seq [.run 6,.keep [2]] .fin))) (.seq [.run 11,.keep [2]] .fin))))))) ((AM.mk (enF 102 [.int .u8 c]) rest ⟨O,N,G⟩)):=by kernel_rfl
theorem zp1:(((decide (c≥(97:Int)))=true→(((decide (c≤(122:Int)))=true→(K (AM.mk (RF 106 21 (tX tZ (tY (.bool true))) [cdi 106 [1,1]]) rest ⟨O,N,G⟩)))∧((decide (c≤(122:Int)))=false→(((decide (c≥(65:Int)))=true→(((decide (c≤(90:Int)))=true→(K (AM.mk (RF 106 21 (tX tZ (tY (.bool true))) [cdi 106 [1,1]]) rest ⟨O,N,G⟩)))∧((decide (c≤(90:Int)))=false→(K (AM.mk (RF 106 21 (tX tZ (tY (.bool (c==(95:Int))))) [cdi 106 [1,1]]) rest ⟨O,N,G⟩)))))∧((decide (c≥(65:Int)))=false→(K (AM.mk (RF 106 21 (tX tZ (tY (.bool (c==(95:Int))))) [cdi 106 [1,1]]) rest ⟨O,N,G⟩)))))))∧((decide (c≥(97:Int)))=false→(((decide (c≥(65:Int)))=true→(((decide (c≤(90:Int)))=true→(K (AM.mk (RF 106 21 (tX tZ (tY (.bool true))) [cdi 106 [1,1]]) rest ⟨O,N,G⟩)))∧((decide (c≤(90:Int)))=false→(K (AM.mk (RF 106 21 (tX tZ (tY (.bool (c==(95:Int))))) [cdi 106 [1,1]]) rest ⟨O,N,G⟩)))))∧((decide (c≥(65:Int)))=false→(K (AM.mk (RF 106 21 (tX tZ (tY (.bool (c==(95:Int))))) [cdi 106 [1,1]]) rest ⟨O,N,G⟩))))))=OT f0 R keep K (.seq [.run 9] (.fork 5 (.seq [.run 4] (.fork 9 (.seq [.run 14,.keep [2]] .fin) (.seq [.run 3] (.fork 12 (.seq [.run 5] (.fork 17 (.seq [.run 6,.keep [2]] .fin) (.seq [.run 6,.keep [2]] .fin))) (.seq [.run 11,.keep [2]] .fin))))) (.seq [.run 7] (.fork 12 (.seq [.run 5] (.fork 17 (.seq [.run 6,.keep [2]] .fin) (.seq [.run 6,.keep [2]] .fin))) (.seq [.run 11,.keep [2]] .fin))))) ((AM.mk (enF 106 [.int .u8 c]) rest ⟨O,N,G⟩)):=by kernel_rfl
theorem ztR:((((k==(1:Int)))=true→(K (AM.mk (RF 96 12 (tX tZ (tY (.str [UInt8.ofNat (97),UInt8.ofNat (110),UInt8.ofNat (121)]))) [cdi 96 [1,0,1,0,1,0,1],.inBlock 0,cdi 96 [1,1]]) rest ⟨O,N,G⟩)))∧(((k==(1:Int)))=false→((((k==(2:Int)))=true→(K (AM.mk (RF 96 12 (tX tZ (tY (.str [UInt8.ofNat (105),UInt8.ofNat (110),UInt8.ofNat (116)]))) [cdi 96 [1,0,1,0,1,0,1],.inBlock 0,cdi 96 [1,1]]) rest ⟨O,N,G⟩)))∧(((k==(2:Int)))=false→((((k==(3:Int)))=true→(K (AM.mk (RF 96 12 (tX tZ (tY (.str [UInt8.ofNat (98),UInt8.ofNat (111),UInt8.ofNat (111),UInt8.ofNat (108)]))) [cdi 96 [1,0,1,0,1,0,1],.inBlock 0,cdi 96 [1,1]]) rest ⟨O,N,G⟩)))∧(((k==(3:Int)))=false→((((k==(4:Int)))=true→(K (AM.mk (RF 96 12 (tX tZ (tY (.str [UInt8.ofNat (115),UInt8.ofNat (116),UInt8.ofNat (114)]))) [cdi 96 [1,0,1,0,1,0,1],.inBlock 0,cdi 96 [1,1]]) rest ⟨O,N,G⟩)))∧(((k==(4:Int)))=false→(K (AM.mk (RF 96 12 (tX tZ (tY (.str [UInt8.ofNat (110),UInt8.ofNat (105),UInt8.ofNat (108)]))) [cdi 96 [1,0,1,0,1,0,1]]) rest ⟨O,N,G⟩))))))))))=OT f0 R keep K (.seq [.run 15] (.fork 4 (.seq [.run 6,.keep [2]] .fin) (.seq [.run 6] (.fork 6 (.seq [.run 6,.keep [2]] .fin) (.seq [.run 6] (.fork 8 (.seq [.run 6,.keep [2]] .fin) (.seq [.run 6] (.fork 10 (.seq [.run 6,.keep [2]] .fin) (.seq [.run 8,.keep [2]] .fin))))))))) ((AM.mk (enF 96 [.int .i64 k]) rest ⟨O,N,G⟩)):=by kernel_rfl
theorem t_nf:(K (AM.mk (enF 102 [.int .u8 c]) ((Fnf c)::rest) ⟨O,N,G⟩))=OT f0 R keep K (.seq [.run 7,.keep [3],.run 1] .fin) ((AM.mk (enF 101 [.int .u8 c]) rest ⟨O,N,G⟩)):=by kernel_rfl
theorem zq8:(K (AM.mk (RF 101 6 (tX tZ (tY (.bool !bv))) [cdi 101 [1,1]]) rest ⟨O,N,G⟩))=OT f0 R keep K (.seq [.run 5,.keep [2]] .fin) ((AM.mk (RF 102 29 (tX tZ (tY (.bool bv))) td) ((Fnf c)::rest) ⟨O,N,G⟩)):=by kernel_rfl
theorem t_im:(K (AM.mk (enF 102 [.int .u8 c]) ((Fim c)::rest) ⟨O,N,G⟩))=OT f0 R keep K (.seq [.run 7,.keep [0,3],.run 1] .fin) ((AM.mk (enF 113 [.int .u8 c]) rest ⟨O,N,G⟩)):=by kernel_rfl
theorem zdk:((((!bv))=true→((((c != (45:Int)))=true→((((c != (47:Int)))=true→(K (AM.mk (RF 113 18 (tX tZ (tY (.bool (c != (46:Int))))) [cdi 113 [1,1]]) rest ⟨O,N,G⟩)))∧(((c != (47:Int)))=false→(K (AM.mk (RF 113 18 (tX tZ (tY (.bool false))) [cdi 113 [1,1]]) rest ⟨O,N,G⟩)))))∧(((c != (45:Int)))=false→(K (AM.mk (RF 113 18 (tX tZ (tY (.bool false))) [cdi 113 [1,1]]) rest ⟨O,N,G⟩)))))∧(((!bv))=false→(K (AM.mk (RF 113 18 (tX tZ (tY (.bool false))) [cdi 113 [1,1]]) rest ⟨O,N,G⟩))))=OT f0 R keep K (.seq [.run 3] (.fork 6 (.seq [.run 4] (.fork 10 (.seq [.run 4] (.fork 14 (.seq [.run 6,.keep [2]] .fin) (.seq [.run 6,.keep [2]] .fin))) (.seq [.run 10,.keep [2]] .fin))) (.seq [.run 14,.keep [2]] .fin))) ((AM.mk (RF 102 29 (tX tZ (tY (.bool bv))) td) ((Fim c)::rest) ⟨O,N,G⟩)):=by kernel_rfl
theorem t_sb:(∃ (z1:Int),(lN O N G 22 bs z1)∧K (Wsb z1 0 bs rest O N G))=OT f0 R keep K (.ex fun z1:Int=>(.seq [.run 8,.hopn (.int .i64 z1) O (N),.run 4,.keep [1,7,8,9]] .fin)) ((AM.mk (enF 100 [bs,.fn (.func 101) [] []]) rest ⟨O,N,G⟩)):=by kernel_rfl
theorem zrq:(((decide (j<n))=true→(∃ (i1:Nat) (i2:Nat) (i3:Nat) (z1:Int),(iX 22 bs j i1 i2 i3)∧(lR O N G i1 i2 i3 (.int .u8 z1))∧K (AM.mk (enF 101 [.int .u8 z1]) ((zsi n j z1 bs)::rest) ⟨O,N,G⟩)))∧((decide (j<n))=false→(K (AM.mk (RF 100 17 (tX tZ (tX (tY (.bool false)) tZ)) [cdi 100 [1,0,1,0,0,1,1,0,0,1,1,0,1]]) rest ⟨O,N,G⟩))))=OT f0 R keep K (.seq [.run 5] (.fork 10 (.ex fun i1:Nat=>(.ex fun i2:Nat=>(.ex fun i3:Nat=>(.ex fun z1:Int=>(.seq [.run 6,.hopn (.ptr i1 i2 i3) O (N),.hop (.int .u8 z1) O,.run 6,.keep [1,7,8,9,13,14],.run 1] .fin))))) (.seq [.run 7,.keep [4]] .fin))) ((Wsb n j bs rest O N G)):=by kernel_rfl
theorem zf4:(((bv)=true→(K (AM.mk (RF 100 17 (tX tZ (tX (tY (.bool true)) tZ)) [cdi 101 [1,1],.inBlock 1,cdi 100 [1,0,1,0,0,1,1,1],ili 100 [1,0,1,0,0],.inBlock 0,cdi 100 [1,1]]) rest ⟨O,N,G⟩)))∧((bv)=false→(K (Wsb n (IntKind.i64.wrap (j+(1:Int))) bs rest O N G))))=OT f0 R keep K (.seq [.run 2] (.fork 15 (.seq [.run 6,.keep [4]] .fin) (.seq [.run 8,.keep [1,7,8,9]] .fin))) ((AM.mk (RF 101 6 (tX tZ (tY (.bool bv))) td) ((zsi n j z1c bs)::rest) ⟨O,N,G⟩)):=by kernel_rfl
theorem t_sn:(∃ (z1:Int),(lN O N G 22 bs z1)∧K (Wsn z1 0 bs rest O N G))=OT f0 R keep K (.ex fun z1:Int=>(.seq [.run 8,.hopn (.int .i64 z1) O (N),.run 4,.keep [1,7,8,9]] .fin)) ((AM.mk (enF 100 [bs,.fn (.func 113) [] []]) rest ⟨O,N,G⟩)):=by kernel_rfl
theorem zsg:(((decide (j<n))=true→(∃ (i1:Nat) (i2:Nat) (i3:Nat) (z1:Int),(iX 22 bs j i1 i2 i3)∧(lR O N G i1 i2 i3 (.int .u8 z1))∧K (AM.mk (enF 113 [.int .u8 z1]) ((zsG n j z1 bs)::rest) ⟨O,N,G⟩)))∧((decide (j<n))=false→(K (AM.mk (RF 100 17 (tX tZ (tX (tY (.bool false)) tZ)) [cdi 100 [1,0,1,0,0,1,1,0,0,1,1,0,1]]) rest ⟨O,N,G⟩))))=OT f0 R keep K (.seq [.run 5] (.fork 10 (.ex fun i1:Nat=>(.ex fun i2:Nat=>(.ex fun i3:Nat=>(.ex fun z1:Int=>(.seq [.run 6,.hopn (.ptr i1 i2 i3) O (N),.hop (.int .u8 z1) O,.run 6,.keep [1,7,8,9,13,14],.run 1] .fin))))) (.seq [.run 7,.keep [4]] .fin))) ((Wsn n j bs rest O N G)):=by kernel_rfl
theorem zfl:(((bv)=true→(K (AM.mk (RF 100 17 (tX tZ (tX (tY (.bool true)) tZ)) [cdi 113 [1,1],.inBlock 1,cdi 100 [1,0,1,0,0,1,1,1],ili 100 [1,0,1,0,0],.inBlock 0,cdi 100 [1,1]]) rest ⟨O,N,G⟩)))∧((bv)=false→(K (Wsn n (IntKind.i64.wrap (j+(1:Int))) bs rest O N G))))=OT f0 R keep K (.seq [.run 2] (.fork 15 (.seq [.run 6,.keep [4]] .fin) (.seq [.run 8,.keep [1,7,8,9]] .fin))) ((AM.mk (RF 113 18 (tX tZ (tY (.bool bv))) td) ((zsG n j z1c bs)::rest) ⟨O,N,G⟩)):=by kernel_rfl
end
variable {O O':T AObj} {N:Nat} {G:T (T AV)}
def bE (c:UInt8):List AV:=[.int .u8 (bi c)]
theorem bEn:Enc 1 bE:=⟨fun _=>rfl,fun _=>rfl,by decide⟩
theorem bSl:SlT 22 5 1 1:=SlT.mk' (by kernel_rfl) (by kernel_rfl) (by kernel_rfl) (by kernel_rfl) (by kernel_rfl) rfl rfl
theorem zr {α:Type}{xs:List α}{i:Nat}{x:α}(h:xs[i]?=some x):xs.drop i=x::xs.drop (i+1):=by
 obtain ⟨h1,h2⟩:=List.getElem?_eq_some_iff.1 h;rw [List.drop_eq_getElem_cons h1,h2]
theorem zq {i:Nat}(h:i<1000000000000):IntKind.i64.wrap (((i:Nat):Int)+(1:Int))=((i+1:Nat):Int):=by rw [IntKind.wrap_i64]; omega
theorem yT {α:Type}{sz:Nat}{enc:α→List AV}{lo hi:Nat}{xs:List α}{s:AV}(h:SV O sz enc lo hi xs s):okD 300 s=true:=by
 rcases h with ⟨rfl,_⟩ | ⟨_,_,_,_,rfl,_⟩ | ⟨_,_,_,rfl,_⟩ <;> rfl
theorem zan (p:Option Nat):okD 300 (pv p)=true:=by cases p <;> rfl
theorem zty (c:Int){keep:Nat}{f0:FuncId}{Q:AV→AHeap→Prop}{rest:List AFrame}
 (hK:∀ td,Goal P keep f0 Q (AM.mk (RF 102 29 (tX tZ (tY (.bool (xr c)))) td) rest ⟨O,N,G⟩)):Goal P keep f0 Q (AM.mk (enF 102 [.int .u8 c]) rest ⟨O,N,G⟩):=by
 rcases Bool.eq_false_or_eq_true (decide ((97:Int)≤c)) with hc1 | hc1
 ·
  rcases Bool.eq_false_or_eq_true (decide (c≤(122:Int))) with hc2 | hc2
  ·
   exact (ot zgJ (fkt hc1 (fkt hc2 ((by rw [← (show xr c=(true) from by
    clear hK
    (rw [Bool.eq_iff_iff]; simp only [xr,xA,yY,Bool.or_eq_true,Bool.and_eq_true,Bool.not_eq_true',decide_eq_true_eq,decide_eq_false_iff_not,beq_iff_eq,beq_eq_false_iff_ne,true_iff,iff_true,false_iff,iff_false,Bool.false_eq_true,ge_iff_le] at *) <;> omega)]; exact hK _)))))
  ·
   rcases Bool.eq_false_or_eq_true (decide ((65:Int)≤c)) with hc3 | hc3
   ·
    rcases Bool.eq_false_or_eq_true (decide (c≤(90:Int))) with hc4 | hc4
    ·
     exact (ot zgJ (fkt hc1 (fkf hc2 (fkt hc3 (fkt hc4 ((by rw [← (show xr c=(true) from by
      clear hK
      (rw [Bool.eq_iff_iff]; simp only [xr,xA,yY,Bool.or_eq_true,Bool.and_eq_true,Bool.not_eq_true',decide_eq_true_eq,decide_eq_false_iff_not,beq_iff_eq,beq_eq_false_iff_ne,true_iff,iff_true,false_iff,iff_false,Bool.false_eq_true,ge_iff_le] at *) <;> omega)]; exact hK _)))))))
    ·
     rcases Bool.eq_false_or_eq_true (decide ((48:Int)≤c)) with hc5 | hc5
     ·
      rcases Bool.eq_false_or_eq_true (decide (c≤(57:Int))) with hc6 | hc6
      ·
       exact (ot zgJ (fkt hc1 (fkf hc2 (fkt hc3 (fkf hc4 (fkt hc5 (fkt hc6 ((by rw [← (show xr c=(true) from by
        clear hK
        (rw [Bool.eq_iff_iff]; simp only [xr,xA,yY,Bool.or_eq_true,Bool.and_eq_true,Bool.not_eq_true',decide_eq_true_eq,decide_eq_false_iff_not,beq_iff_eq,beq_eq_false_iff_ne,true_iff,iff_true,false_iff,iff_false,Bool.false_eq_true,ge_iff_le] at *) <;> omega)]; exact hK _)))))))))
      ·
       exact (ot zgJ (fkt hc1 (fkf hc2 (fkt hc3 (fkf hc4 (fkt hc5 (fkf hc6 ((by rw [← (show xr c=(c==(95:Int)) from by
        clear hK
        (rw [Bool.eq_iff_iff]; simp only [xr,xA,yY,Bool.or_eq_true,Bool.and_eq_true,Bool.not_eq_true',decide_eq_true_eq,decide_eq_false_iff_not,beq_iff_eq,beq_eq_false_iff_ne,true_iff,iff_true,false_iff,iff_false,Bool.false_eq_true,ge_iff_le] at *) <;> omega)]; exact hK _)))))))))
     ·
      exact (ot zgJ (fkt hc1 (fkf hc2 (fkt hc3 (fkf hc4 (fkf hc5 ((by rw [← (show xr c=(c==(95:Int)) from by
       clear hK
       (rw [Bool.eq_iff_iff]; simp only [xr,xA,yY,Bool.or_eq_true,Bool.and_eq_true,Bool.not_eq_true',decide_eq_true_eq,decide_eq_false_iff_not,beq_iff_eq,beq_eq_false_iff_ne,true_iff,iff_true,false_iff,iff_false,Bool.false_eq_true,ge_iff_le] at *) <;> omega)]; exact hK _))))))))
   ·
    rcases Bool.eq_false_or_eq_true (decide ((48:Int)≤c)) with hc4 | hc4
    ·
     rcases Bool.eq_false_or_eq_true (decide (c≤(57:Int))) with hc5 | hc5
     ·
      exact (ot zgJ (fkt hc1 (fkf hc2 (fkf hc3 (fkt hc4 (fkt hc5 ((by rw [← (show xr c=(true) from by
       clear hK
       (rw [Bool.eq_iff_iff]; simp only [xr,xA,yY,Bool.or_eq_true,Bool.and_eq_true,Bool.not_eq_true',decide_eq_true_eq,decide_eq_false_iff_not,beq_iff_eq,beq_eq_false_iff_ne,true_iff,iff_true,false_iff,iff_false,Bool.false_eq_true,ge_iff_le] at *) <;> omega)]; exact hK _))))))))
     ·
      exact (ot zgJ (fkt hc1 (fkf hc2 (fkf hc3 (fkt hc4 (fkf hc5 ((by rw [← (show xr c=(c==(95:Int)) from by
       clear hK
       (rw [Bool.eq_iff_iff]; simp only [xr,xA,yY,Bool.or_eq_true,Bool.and_eq_true,Bool.not_eq_true',decide_eq_true_eq,decide_eq_false_iff_not,beq_iff_eq,beq_eq_false_iff_ne,true_iff,iff_true,false_iff,iff_false,Bool.false_eq_true,ge_iff_le] at *) <;> omega)]; exact hK _))))))))
    ·
     exact (ot zgJ (fkt hc1 (fkf hc2 (fkf hc3 (fkf hc4 ((by rw [← (show xr c=(c==(95:Int)) from by
      clear hK
      (rw [Bool.eq_iff_iff]; simp only [xr,xA,yY,Bool.or_eq_true,Bool.and_eq_true,Bool.not_eq_true',decide_eq_true_eq,decide_eq_false_iff_not,beq_iff_eq,beq_eq_false_iff_ne,true_iff,iff_true,false_iff,iff_false,Bool.false_eq_true,ge_iff_le] at *) <;> omega)]; exact hK _)))))))
 ·
  rcases Bool.eq_false_or_eq_true (decide ((65:Int)≤c)) with hc2 | hc2
  ·
   rcases Bool.eq_false_or_eq_true (decide (c≤(90:Int))) with hc3 | hc3
   ·
    exact (ot zgJ (fkf hc1 (fkt hc2 (fkt hc3 ((by rw [← (show xr c=(true) from by
     clear hK
     (rw [Bool.eq_iff_iff]; simp only [xr,xA,yY,Bool.or_eq_true,Bool.and_eq_true,Bool.not_eq_true',decide_eq_true_eq,decide_eq_false_iff_not,beq_iff_eq,beq_eq_false_iff_ne,true_iff,iff_true,false_iff,iff_false,Bool.false_eq_true,ge_iff_le] at *) <;> omega)]; exact hK _))))))
   ·
    rcases Bool.eq_false_or_eq_true (decide ((48:Int)≤c)) with hc4 | hc4
    ·
     rcases Bool.eq_false_or_eq_true (decide (c≤(57:Int))) with hc5 | hc5
     ·
      exact (ot zgJ (fkf hc1 (fkt hc2 (fkf hc3 (fkt hc4 (fkt hc5 ((by rw [← (show xr c=(true) from by
       clear hK
       (rw [Bool.eq_iff_iff]; simp only [xr,xA,yY,Bool.or_eq_true,Bool.and_eq_true,Bool.not_eq_true',decide_eq_true_eq,decide_eq_false_iff_not,beq_iff_eq,beq_eq_false_iff_ne,true_iff,iff_true,false_iff,iff_false,Bool.false_eq_true,ge_iff_le] at *) <;> omega)]; exact hK _))))))))
     ·
      exact (ot zgJ (fkf hc1 (fkt hc2 (fkf hc3 (fkt hc4 (fkf hc5 ((by rw [← (show xr c=(c==(95:Int)) from by
       clear hK
       (rw [Bool.eq_iff_iff]; simp only [xr,xA,yY,Bool.or_eq_true,Bool.and_eq_true,Bool.not_eq_true',decide_eq_true_eq,decide_eq_false_iff_not,beq_iff_eq,beq_eq_false_iff_ne,true_iff,iff_true,false_iff,iff_false,Bool.false_eq_true,ge_iff_le] at *) <;> omega)]; exact hK _))))))))
    ·
     exact (ot zgJ (fkf hc1 (fkt hc2 (fkf hc3 (fkf hc4 ((by rw [← (show xr c=(c==(95:Int)) from by
      clear hK
      (rw [Bool.eq_iff_iff]; simp only [xr,xA,yY,Bool.or_eq_true,Bool.and_eq_true,Bool.not_eq_true',decide_eq_true_eq,decide_eq_false_iff_not,beq_iff_eq,beq_eq_false_iff_ne,true_iff,iff_true,false_iff,iff_false,Bool.false_eq_true,ge_iff_le] at *) <;> omega)]; exact hK _)))))))
  ·
   rcases Bool.eq_false_or_eq_true (decide ((48:Int)≤c)) with hc3 | hc3
   ·
    rcases Bool.eq_false_or_eq_true (decide (c≤(57:Int))) with hc4 | hc4
    ·
     exact (ot zgJ (fkf hc1 (fkf hc2 (fkt hc3 (fkt hc4 ((by rw [← (show xr c=(true) from by
      clear hK
      (rw [Bool.eq_iff_iff]; simp only [xr,xA,yY,Bool.or_eq_true,Bool.and_eq_true,Bool.not_eq_true',decide_eq_true_eq,decide_eq_false_iff_not,beq_iff_eq,beq_eq_false_iff_ne,true_iff,iff_true,false_iff,iff_false,Bool.false_eq_true,ge_iff_le] at *) <;> omega)]; exact hK _)))))))
    ·
     exact (ot zgJ (fkf hc1 (fkf hc2 (fkt hc3 (fkf hc4 ((by rw [← (show xr c=(c==(95:Int)) from by
      clear hK
      (rw [Bool.eq_iff_iff]; simp only [xr,xA,yY,Bool.or_eq_true,Bool.and_eq_true,Bool.not_eq_true',decide_eq_true_eq,decide_eq_false_iff_not,beq_iff_eq,beq_eq_false_iff_ne,true_iff,iff_true,false_iff,iff_false,Bool.false_eq_true,ge_iff_le] at *) <;> omega)]; exact hK _)))))))
   ·
    exact (ot zgJ (fkf hc1 (fkf hc2 (fkf hc3 ((by rw [← (show xr c=(c==(95:Int)) from by
     clear hK
     (rw [Bool.eq_iff_iff]; simp only [xr,xA,yY,Bool.or_eq_true,Bool.and_eq_true,Bool.not_eq_true',decide_eq_true_eq,decide_eq_false_iff_not,beq_iff_eq,beq_eq_false_iff_ne,true_iff,iff_true,false_iff,iff_false,Bool.false_eq_true,ge_iff_le] at *) <;> omega)]; exact hK _))))))
theorem zpU (c:Int){keep:Nat}{f0:FuncId}{Q:AV→AHeap→Prop}{rest:List AFrame}
 (hK:∀ td,Goal P keep f0 Q (AM.mk (RF 106 21 (tX tZ (tY (.bool (xA c)))) td) rest ⟨O,N,G⟩)):Goal P keep f0 Q (AM.mk (enF 106 [.int .u8 c]) rest ⟨O,N,G⟩):=by
 rcases Bool.eq_false_or_eq_true (decide (c≥(97:Int))) with hc1 | hc1
 ·
  rcases Bool.eq_false_or_eq_true (decide (c≤(122:Int))) with hc2 | hc2
  ·
   exact (ot zp1 (fkt hc1 (fkt hc2 ((by rw [← (show xA c=(true) from by
    clear hK
    (rw [Bool.eq_iff_iff]; simp only [xA,Bool.or_eq_true,Bool.and_eq_true,Bool.not_eq_true',decide_eq_true_eq,decide_eq_false_iff_not,beq_iff_eq,beq_eq_false_iff_ne,true_iff,iff_true,false_iff,iff_false,Bool.false_eq_true,ge_iff_le] at *) <;> omega)]; exact hK _)))))
  ·
   rcases Bool.eq_false_or_eq_true (decide (c≥(65:Int))) with hc3 | hc3
   ·
    rcases Bool.eq_false_or_eq_true (decide (c≤(90:Int))) with hc4 | hc4
    ·
     exact (ot zp1 (fkt hc1 (fkf hc2 (fkt hc3 (fkt hc4 ((by rw [← (show xA c=(true) from by
      clear hK
      (rw [Bool.eq_iff_iff]; simp only [xA,Bool.or_eq_true,Bool.and_eq_true,Bool.not_eq_true',decide_eq_true_eq,decide_eq_false_iff_not,beq_iff_eq,beq_eq_false_iff_ne,true_iff,iff_true,false_iff,iff_false,Bool.false_eq_true,ge_iff_le] at *) <;> omega)]; exact hK _)))))))
    ·
     exact (ot zp1 (fkt hc1 (fkf hc2 (fkt hc3 (fkf hc4 ((by rw [← (show xA c=(c==(95:Int)) from by
      clear hK
      (rw [Bool.eq_iff_iff]; simp only [xA,Bool.or_eq_true,Bool.and_eq_true,Bool.not_eq_true',decide_eq_true_eq,decide_eq_false_iff_not,beq_iff_eq,beq_eq_false_iff_ne,true_iff,iff_true,false_iff,iff_false,Bool.false_eq_true,ge_iff_le] at *) <;> omega)]; exact hK _)))))))
   ·
    exact (ot zp1 (fkt hc1 (fkf hc2 (fkf hc3 ((by rw [← (show xA c=(c==(95:Int)) from by
     clear hK
     (rw [Bool.eq_iff_iff]; simp only [xA,Bool.or_eq_true,Bool.and_eq_true,Bool.not_eq_true',decide_eq_true_eq,decide_eq_false_iff_not,beq_iff_eq,beq_eq_false_iff_ne,true_iff,iff_true,false_iff,iff_false,Bool.false_eq_true,ge_iff_le] at *) <;> omega)]; exact hK _))))))
 ·
  rcases Bool.eq_false_or_eq_true (decide (c≥(65:Int))) with hc2 | hc2
  ·
   rcases Bool.eq_false_or_eq_true (decide (c≤(90:Int))) with hc3 | hc3
   ·
    exact (ot zp1 (fkf hc1 (fkt hc2 (fkt hc3 ((by rw [← (show xA c=(true) from by
     clear hK
     (rw [Bool.eq_iff_iff]; simp only [xA,Bool.or_eq_true,Bool.and_eq_true,Bool.not_eq_true',decide_eq_true_eq,decide_eq_false_iff_not,beq_iff_eq,beq_eq_false_iff_ne,true_iff,iff_true,false_iff,iff_false,Bool.false_eq_true,ge_iff_le] at *) <;> omega)]; exact hK _))))))
   ·
    exact (ot zp1 (fkf hc1 (fkt hc2 (fkf hc3 ((by rw [← (show xA c=(c==(95:Int)) from by
     clear hK
     (rw [Bool.eq_iff_iff]; simp only [xA,Bool.or_eq_true,Bool.and_eq_true,Bool.not_eq_true',decide_eq_true_eq,decide_eq_false_iff_not,beq_iff_eq,beq_eq_false_iff_ne,true_iff,iff_true,false_iff,iff_false,Bool.false_eq_true,ge_iff_le] at *) <;> omega)]; exact hK _))))))
  ·
   exact (ot zp1 (fkf hc1 (fkf hc2 ((by rw [← (show xA c=(c==(95:Int)) from by
    clear hK
    (rw [Bool.eq_iff_iff]; simp only [xA,Bool.or_eq_true,Bool.and_eq_true,Bool.not_eq_true',decide_eq_true_eq,decide_eq_false_iff_not,beq_iff_eq,beq_eq_false_iff_ne,true_iff,iff_true,false_iff,iff_false,Bool.false_eq_true,ge_iff_le] at *) <;> omega)]; exact hK _)))))
theorem nf_ok (c:Int){keep:Nat}{f0:FuncId}{Q:AV→AHeap→Prop}{rest:List AFrame}
 (hK:∀ td,Goal P keep f0 Q (AM.mk (RF 101 6 (tX tZ (tY (.bool (!xr c)))) td) rest ⟨O,N,G⟩)):Goal P keep f0 Q (AM.mk (enF 101 [.int .u8 c]) rest ⟨O,N,G⟩):=by
 refine (ot t_nf ?_);refine zty c fun td=>?_;exact (ot (zq8 (bv:=(xr c))) (hK _))
theorem im_ok (c:Int){keep:Nat}{f0:FuncId}{Q:AV→AHeap→Prop}{rest:List AFrame}
 (hK:∀ td,Goal P keep f0 Q (AM.mk (RF 113 18 (tX tZ (tY (.bool (!yw c)))) td) rest ⟨O,N,G⟩)):Goal P keep f0 Q (AM.mk (enF 113 [.int .u8 c]) rest ⟨O,N,G⟩):=by
 refine (ot t_im ?_);refine zty c fun td=>?_;rcases Bool.eq_false_or_eq_true (!(xr c)) with hc1 | hc1
 ·
  rcases Bool.eq_false_or_eq_true (c != (45:Int)) with hc2 | hc2
  ·
   rcases Bool.eq_false_or_eq_true (c != (47:Int)) with hc3 | hc3
   ·
    exact (ot (zdk (bv:=(xr c))) (fkt hc1 (fkt hc2 (fkt hc3 ((by rw [← (show (!yw c)=(c != (46:Int)) from by clear hK; unfold yw; unfold xr at *; revert hc1 hc2 hc3; generalize xA c=x; generalize yY c=y; cases x <;> cases y <;> (try simp) <;> (try (intros; simp_all [bne])) <;> omega)]; exact hK _))))))
   ·
    exact (ot (zdk (bv:=(xr c))) (fkt hc1 (fkt hc2 (fkf hc3 ((by rw [← (show (!yw c)=(false) from by clear hK; unfold yw; unfold xr at *; revert hc1 hc2 hc3; generalize xA c=x; generalize yY c=y; cases x <;> cases y <;> (try simp) <;> (try (intros; simp_all [bne])) <;> omega)]; exact hK _))))))
  ·
   exact (ot (zdk (bv:=(xr c))) (fkt hc1 (fkf hc2 ((by rw [← (show (!yw c)=(false) from by clear hK; unfold yw; unfold xr at *; revert hc1 hc2; generalize xA c=x; generalize yY c=y; cases x <;> cases y <;> (try simp) <;> (try (intros; simp_all [bne])) <;> omega)]; exact hK _)))))
 ·
  exact (ot (zdk (bv:=(xr c))) (fkf hc1 ((by rw [← (show (!yw c)=(false) from by clear hK; unfold yw; unfold xr at *; revert hc1; generalize xA c=x; generalize yY c=y; cases x <;> cases y <;> (try simp) <;> (try (intros; simp_all [bne])) <;> omega)]; exact hK _))))
theorem zox {xs:List UInt8}{bs:AV}{lo hi:Nat}(h:SV O 1 bE lo hi xs bs)(hl:xs.length<1000000000){keep:Nat}{f0:FuncId}{Q:AV→AHeap→Prop}{rest:List AFrame}:∀ (k i:Nat),i+k=xs.length →
 (∀ td,Goal P keep f0 Q (AM.mk (RF 100 17 (tX tZ (tX (tY (.bool ((xs.drop i).any (fun c:UInt8=>!xr (bi c))))) tZ)) td) rest ⟨O,N,G⟩))→Goal P keep f0 Q (Wsb ((xs.length:Nat):Int) ((i:Nat):Int) bs rest O N G)
 | k,i,hk,hK=>by
  cases k with
  | zero =>
   have hK0:=fun td=>hK td;rw [List.drop_of_length_le (by omega)] at hK0;exact (ot (zrq (n:=((xs.length:Nat):Int)) (j:=((i:Nat):Int))) (fkf (decide_eq_false (by omega)) (hK0 _)))
  | succ k =>
   obtain ⟨x,hx,_⟩:=nth (l:=xs) (j:=i) (by omega);have ih:=zox h hl (keep:=keep) (f0:=f0) (Q:=Q) (rest:=rest) k (i+1) (by omega);rw [zr hx] at hK;obtain ⟨i1,i2,i3,lo1,hi1,eA1,rd1,_⟩:=h.at bSl bEn hx;refine (ot (zrq (n:=((xs.length:Nat):Int)) (j:=((i:Nat):Int))) (fkt (decide_eq_true (by omega)) ⟨_,_,_,(bi x),eA1,(rd1.load rfl _ _),?_⟩));refine nf_ok _ fun td=>?_;rcases Bool.eq_false_or_eq_true (!xr (bi x)) with hb | hb
   ·have hK':=hK;rw [List.any_cons,hb] at hK';exact (ot (zf4 (n:=((xs.length:Nat):Int)) (j:=((i:Nat):Int)) (bv:=(!xr (bi x))) (z1c:=(bi x))) (fkt hb (hK' _)))
   ·have hK':=hK;rw [List.any_cons,hb] at hK';have ih':=ih hK';rw [← zq (i:=i) (by omega)] at ih';exact (ot (zf4 (n:=((xs.length:Nat):Int)) (j:=((i:Nat):Int)) (bv:=(!xr (bi x))) (z1c:=(bi x))) (fkf hb ih'))
theorem ztG {xs:List UInt8}{bs:AV}{lo hi:Nat}(h:SV O 1 bE lo hi xs bs)(hl:xs.length<1000000000){keep:Nat}{f0:FuncId}{Q:AV→AHeap→Prop}{rest:List AFrame}
 (hK:∀ td,Goal P keep f0 Q (AM.mk (RF 100 17 (tX tZ (tX (tY (.bool (xs.any (fun c:UInt8=>!xr (bi c))))) tZ)) td) rest ⟨O,N,G⟩)):Goal P keep f0 Q (AM.mk (enF 100 [bs,.fn (.func 101) [] []]) rest ⟨O,N,G⟩):=by
 exact (ot t_sb ⟨((xs.length:Nat):Int),h.len bSl _ _,zox h hl xs.length 0 (Nat.zero_add _) hK⟩)
theorem zoH {xs:List UInt8}{bs:AV}{lo hi:Nat}(h:SV O 1 bE lo hi xs bs)(hl:xs.length<1000000000){keep:Nat}{f0:FuncId}{Q:AV→AHeap→Prop}{rest:List AFrame}:∀ (k i:Nat),i+k=xs.length →
 (∀ td,Goal P keep f0 Q (AM.mk (RF 100 17 (tX tZ (tX (tY (.bool ((xs.drop i).any (fun c:UInt8=>!yw (bi c))))) tZ)) td) rest ⟨O,N,G⟩))→Goal P keep f0 Q (Wsn ((xs.length:Nat):Int) ((i:Nat):Int) bs rest O N G)
 | k,i,hk,hK=>by
  cases k with
  | zero =>
   have hK0:=fun td=>hK td;rw [List.drop_of_length_le (by omega)] at hK0;exact (ot (zsg (n:=((xs.length:Nat):Int)) (j:=((i:Nat):Int))) (fkf (decide_eq_false (by omega)) (hK0 _)))
  | succ k =>
   obtain ⟨x,hx,_⟩:=nth (l:=xs) (j:=i) (by omega);have ih:=zoH h hl (keep:=keep) (f0:=f0) (Q:=Q) (rest:=rest) k (i+1) (by omega);rw [zr hx] at hK;obtain ⟨i1,i2,i3,lo1,hi1,eA1,rd1,_⟩:=h.at bSl bEn hx;refine (ot (zsg (n:=((xs.length:Nat):Int)) (j:=((i:Nat):Int))) (fkt (decide_eq_true (by omega)) ⟨_,_,_,(bi x),eA1,(rd1.load rfl _ _),?_⟩));refine im_ok _ fun td=>?_;rcases Bool.eq_false_or_eq_true (!yw (bi x)) with hb | hb
   ·have hK':=hK;rw [List.any_cons,hb] at hK';exact (ot (zfl (n:=((xs.length:Nat):Int)) (j:=((i:Nat):Int)) (bv:=(!yw (bi x))) (z1c:=(bi x))) (fkt hb (hK' _)))
   ·have hK':=hK;rw [List.any_cons,hb] at hK';have ih':=ih hK';rw [← zq (i:=i) (by omega)] at ih';exact (ot (zfl (n:=((xs.length:Nat):Int)) (j:=((i:Nat):Int)) (bv:=(!yw (bi x))) (z1c:=(bi x))) (fkf hb ih'))
theorem sn_ok {xs:List UInt8}{bs:AV}{lo hi:Nat}(h:SV O 1 bE lo hi xs bs)(hl:xs.length<1000000000){keep:Nat}{f0:FuncId}{Q:AV→AHeap→Prop}{rest:List AFrame}
 (hK:∀ td,Goal P keep f0 Q (AM.mk (RF 100 17 (tX tZ (tX (tY (.bool (xs.any (fun c:UInt8=>!yw (bi c))))) tZ)) td) rest ⟨O,N,G⟩)):Goal P keep f0 Q (AM.mk (enF 100 [bs,.fn (.func 113) [] []]) rest ⟨O,N,G⟩):=by
 exact (ot t_sn ⟨((xs.length:Nat):Int),h.len bSl _ _,zoH h hl xs.length 0 (Nat.zero_add _) hK⟩)
end Go.Proofs.Ytcdigdplhlgcaaa.gx
end
section
set_option maxRecDepth 100000
set_option linter.unusedVariables false
set_option linter.unusedSectionVars false
set_option linter.unusedSimpArgs false
namespace Go.Proofs.Ytcdigdplhlgcaaa.gx
open Go Ev tp
section
variable (s1:AV) (n:Int) (w w2:List UInt8) (j:Int) (l1:List UInt8) (ss:AV) (rest:List AFrame) (O:T AObj) (N:Nat) (G:T (T AV))
noncomputable def zhO:AFrame:=frm 54 24 (tX tZ (tX tZ (tX tZ (tX (tY s1) tZ)))) [opi 54 [1,1,0] 2,cdi 54 [1,0,1,0,1]]
noncomputable def zko:AFrame:=frm 54 24 (tX tZ (tX tZ (tX tZ (tX (tY s1) tZ)))) [opi 54 [1,1,0] 2,cdi 54 [1,0,1,0,1]]
noncomputable def zo9:AFrame:=frm 87 15 (tX tZ (tX (tX tZ (tY s1)) tZ)) [opi 87 [1,1,0] 2,cdi 87 [1,0,1,0,1]]
noncomputable def Wssn:AM:=⟨frm 53 17 (tX (tW (tX (tY ss) tZ) (.fn (Fn.func (54:FuncId)) [] []) (tX (tY (.int .i64 j)) tZ)) (tX (tX (tY (.int .i64 n)) tZ) tZ)) [cdi 53 [1,0,1,0,0],ili 53 [1,0,1,0,0],.inBlock 0,cdi 53 [1,1]],rest,⟨O,N,G⟩⟩
noncomputable def zo4:AFrame:=frm 53 17 (tX (tW (tX (tY ss) tZ) (.fn (Fn.func (54:FuncId)) [] []) (tX (tY (.int .i64 j)) (tY (.fn (Fn.func (54:FuncId)) [] [])))) (tX (tX (tY (.int .i64 n)) tZ) (tX tZ (tY (.str l1))))) [opi 53 [1,0,1,0,0,1,1,0,0,1,0] 2,cdi 53 [1,0,1,0,0,1,1,0,0,1,1],.inBlock 1,cdi 53 [1,0,1,0,0,1,1,1],ili 53 [1,0,1,0,0],.inBlock 0,cdi 53 [1,1]]
noncomputable def Wris:AM:=⟨frm 60 20 (tW (tX (tY (.int .i64 j)) tZ) ss tZ) [cdi 60 [1,0,1,0,0],ili 60 [1,0,1,0,0],.inBlock 0,cdi 60 [1,1]],rest,⟨O,N,G⟩⟩
noncomputable def zoU:AFrame:=frm 63 41 (tW tZ (.str w) (tX (tX tZ (tY (.bool false))) (tX tZ (tY (.int .u8 (↑(w.getD 0 (0:UInt8)).toNat:Int)))))) [opi 63 [1,0,0] 11,cdi 63 [1,0,1],cdi 63 [1,1]]
noncomputable def ztE:AM:=⟨frm 63 41 (tW (tX (tY (.int .i64 j)) tZ) (.str w) tZ) [cdi 63 [1,1,0,1,0,0],ili 63 [1,1,0,1,0,0],.inBlock 0,cdi 63 [1,1,1]],rest,⟨O,N,G⟩⟩
noncomputable def zoM:AFrame:=frm 63 41 (tW (tX (tY (.int .i64 j)) tZ) (.str w) (tX tZ (tX (tX tZ (tY (.int .u8 (↑(w.getD j.toNat (0:UInt8)).toNat:Int)))) tZ))) [opi 63 [1,1,0,1,0,0,1,0,0,0] 3,cdi 63 [1,1,0,1,0,0,1,0,0,1],.inBlock 1,cdi 63 [1,1,0,1,0,0,1,1],ili 63 [1,1,0,1,0,0],.inBlock 0,cdi 63 [1,1,1]]
noncomputable def zkd:AM:=⟨frm 90 45 (tW (tX (tY (.int .i64 j)) tZ) (.str w) tZ) [cdi 90 [1,1,0,1,0,0],ili 90 [1,1,0,1,0,0],.inBlock 0,cdi 90 [1,1,1]],rest,⟨O,N,G⟩⟩
noncomputable def zpy:AFrame:=frm 90 45 (tW (tX (tY (.int .i64 j)) tZ) (.str w) (tX (tY (.int .u8 (↑(w.getD j.toNat (0:UInt8)).toNat:Int))) (tX tZ (tX (tY (.int .u8 (↑(w.getD j.toNat (0:UInt8)).toNat:Int))) tZ)))) [opi 90 [1,1,0,1,0,0,1,0,0,1,0] 1,cdi 90 [1,1,0,1,0,0,1,0,0,1,1],.inBlock 1,cdi 90 [1,1,0,1,0,0,1,1],ili 90 [1,1,0,1,0,0],.inBlock 0,cdi 90 [1,1,1]]
noncomputable def Wles:AM:=⟨frm 64 37 (tW (tW tZ (.str w2) (tY (.int .i64 j))) (.str w) tZ) [cdi 64 [1,0,1,0,0],ili 64 [1,0,1,0,0],.inBlock 0,cdi 64 [1,1]],rest,⟨O,N,G⟩⟩
end
section
variable {R:AV→AHeap→Prop} {keep N:Nat} {f0:FuncId} {rest:List AFrame} {O:T AObj} {w l1c w2:List UInt8} {G:T (T AV)} {K:AM→Prop} {td:List AItem} {bv:Bool} {s1c ss:AV} {n j:Int}
theorem zlH:(((decide ((↑w.length:Int)<(1:Int)))=true→(K (AM.mk (RF 54 24 (tX tZ (tY (.bool true))) [cdi 54 [1,0,1,0,1],cdi 54 [1,1]]) rest ⟨O,N,G⟩)))∧((decide ((↑w.length:Int)<(1:Int)))=false→(((decide ((↑w.length:Int) > (24:Int)))=true→(K (AM.mk (RF 54 24 (tX tZ (tY (.bool true))) [cdi 54 [1,0,1,0,1],cdi 54 [1,1]]) rest ⟨O,N,G⟩)))∧((decide ((↑w.length:Int) > (24:Int)))=false→(((0:Int)≤(0:Int)∧(0:Int)<(↑w.length:Int))∧((decide ((48:Int)≤(↑(w.getD (0) (0:UInt8)).toNat:Int)))=true→(((0:Int)≤(0:Int)∧(0:Int)<(↑w.length:Int))∧((decide ((↑(w.getD (0) (0:UInt8)).toNat:Int)≤(57:Int)))=true→(K (AM.mk (RF 54 24 (tX tZ (tY (.bool true))) [cdi 54 [1,0,1,0,1],cdi 54 [1,1]]) rest ⟨O,N,G⟩)))∧((decide ((↑(w.getD (0) (0:UInt8)).toNat:Int)≤(57:Int)))=false→(∃ (s1:AV) (O1:T AObj),(qc P (⟨O,N,G⟩) (9) (22) (.str w)=(some (s1,⟨O1,N+1,G⟩)))∧K (AM.mk (enF 100 [s1,.fn (Fn.func 101) [] []]) ((zhO s1)::rest) ⟨O1,N+1,G⟩)))))∧((decide ((48:Int)≤(↑(w.getD (0) (0:UInt8)).toNat:Int)))=false→(∃ (s1:AV) (O1:T AObj),(qc P (⟨O,N,G⟩) (9) (22) (.str w)=(some (s1,⟨O1,N+1,G⟩)))∧K (AM.mk (enF 100 [s1,.fn (Fn.func 101) [] []]) ((zko s1)::rest) ⟨O1,N+1,G⟩))))))))=OT f0 R keep K (.seq [.run 11] (.fork 6 (.seq [.run 21,.keep [2]] .fin) (.seq [.run 5] (.fork 11 (.seq [.run 16,.keep [2]] .fin) (.seq [.run 1,.op,.run 2] (.fork 15 (.seq [.run 1,.op,.run 4] (.fork 20 (.seq [.run 6,.keep [2]] .fin) (.ex fun s1:AV=>(.ex fun O1:T AObj=>(.seq [.run 5,.hopn (s1) O1 (N+1),.keep [22],.run 1] .fin))))) (.ex fun s1:AV=>(.ex fun O1:T AObj=>(.seq [.run 11,.hopn (s1) O1 (N+1),.keep [22],.run 1] .fin))))))))) ((AM.mk (enF 54 [.str w]) rest ⟨O,N,G⟩)):=by kernel_rfl
theorem zgb:(K (AM.mk (RF 54 24 (tX tZ (tY (.bool bv))) [cdi 54 [1,0,1,0,1]]) rest ⟨O,N,G⟩))=OT f0 R keep K (.seq [.run 4,.keep [2]] .fin) ((AM.mk (RF 100 17 (tX tZ (tX (tY (.bool bv)) tZ)) td) ((zhO s1c)::rest) ⟨O,N,G⟩)):=by kernel_rfl
theorem zg4:(K (AM.mk (RF 54 24 (tX tZ (tY (.bool bv))) [cdi 54 [1,0,1,0,1]]) rest ⟨O,N,G⟩))=OT f0 R keep K (.seq [.run 4,.keep [2]] .fin) ((AM.mk (RF 100 17 (tX tZ (tX (tY (.bool bv)) tZ)) td) ((zko s1c)::rest) ⟨O,N,G⟩)):=by kernel_rfl
theorem zp3:(((decide ((↑w.length:Int)<(1:Int)))=true→(K (AM.mk (RF 87 15 (tX tZ (tY (.bool false))) [cdi 87 [1,0,1,0,1],cdi 87 [1,1]]) rest ⟨O,N,G⟩)))∧((decide ((↑w.length:Int)<(1:Int)))=false→(((decide ((↑w.length:Int) > (161:Int)))=true→(K (AM.mk (RF 87 15 (tX tZ (tY (.bool false))) [cdi 87 [1,0,1,0,1],cdi 87 [1,1]]) rest ⟨O,N,G⟩)))∧((decide ((↑w.length:Int) > (161:Int)))=false→(∃ (s1:AV) (O1:T AObj),(qc P (⟨O,N,G⟩) (9) (22) (.str w)=(some (s1,⟨O1,N+1,G⟩)))∧K (AM.mk (enF 100 [s1,.fn (Fn.func 113) [] []]) ((zo9 s1)::rest) ⟨O1,N+1,G⟩))))))=OT f0 R keep K (.seq [.run 11] (.fork 6 (.seq [.run 11,.keep [2]] .fin) (.seq [.run 5] (.fork 10 (.seq [.run 6,.keep [2]] .fin) (.ex fun s1:AV=>(.ex fun O1:T AObj=>(.seq [.run 5,.hopn (s1) O1 (N+1),.keep [12],.run 1] .fin))))))) ((AM.mk (enF 87 [.str w]) rest ⟨O,N,G⟩)):=by kernel_rfl
theorem zjD:(K (AM.mk (RF 87 15 (tX tZ (tY (.bool !bv))) [cdi 87 [1,0,1,0,1]]) rest ⟨O,N,G⟩))=OT f0 R keep K (.seq [.run 5,.keep [2]] .fin) ((AM.mk (RF 100 17 (tX tZ (tX (tY (.bool bv)) tZ)) td) ((zo9 s1c)::rest) ⟨O,N,G⟩)):=by kernel_rfl
theorem zsu:(∃ (z1:Int),(lN O N G 32 ss z1)∧K (Wssn z1 0 ss rest O N G))=OT f0 R keep K (.ex fun z1:Int=>(.seq [.run 8,.hopn (.int .i64 z1) O (N),.run 4,.keep [1,7,8,9]] .fin)) ((AM.mk (enF 53 [ss,.fn (.func 54) [] []]) rest ⟨O,N,G⟩)):=by kernel_rfl
theorem zku:(((decide (j<n))=true→(∃ (i1:Nat) (i2:Nat) (i3:Nat) (l1:List UInt8),(iX 32 ss j i1 i2 i3)∧(lR O N G i1 i2 i3 (.str l1))∧K (AM.mk (enF 54 [.str l1]) ((zo4 n j l1 ss)::rest) ⟨O,N,G⟩)))∧((decide (j<n))=false→(K (AM.mk (RF 53 17 (tX tZ (tX (tY (.bool false)) tZ)) [cdi 53 [1,0,1,0,0,1,1,0,0,1,1,0,1]]) rest ⟨O,N,G⟩))))=OT f0 R keep K (.seq [.run 5] (.fork 10 (.ex fun i1:Nat=>(.ex fun i2:Nat=>(.ex fun i3:Nat=>(.ex fun l1:List UInt8=>(.seq [.run 6,.hopn (.ptr i1 i2 i3) O (N),.hop (.str l1) O,.run 6,.keep [1,7,8,9,13,14],.run 1] .fin))))) (.seq [.run 7,.keep [4]] .fin))) ((Wssn n j ss rest O N G)):=by kernel_rfl
theorem zcH:(((bv)=true→(K (AM.mk (RF 53 17 (tX tZ (tX (tY (.bool true)) tZ)) [cdi 54 [1,0,1,0,1],.inBlock 1,cdi 53 [1,0,1,0,0,1,1,1],ili 53 [1,0,1,0,0],.inBlock 0,cdi 53 [1,1]]) rest ⟨O,N,G⟩)))∧((bv)=false→(K (Wssn n (IntKind.i64.wrap (j+(1:Int))) ss rest O N G))))=OT f0 R keep K (.seq [.run 2] (.fork 15 (.seq [.run 6,.keep [4]] .fin) (.seq [.run 8,.keep [1,7,8,9]] .fin))) ((AM.mk (RF 54 24 (tX tZ (tY (.bool bv))) td) ((zo4 n j l1c ss)::rest) ⟨O,N,G⟩)):=by kernel_rfl
theorem t_ris:(K (Wris 1 ss rest O N G))=OT f0 R keep K (.seq [.run 11,.keep [0,3]] .fin) ((AM.mk (enF 60 [ss]) rest ⟨O,N,G⟩)):=by kernel_rfl
theorem zhl:(∃ (z1:Int),(lN O N G 32 ss z1)∧((decide (j<z1))=true→(∃ (i1:Nat) (i2:Nat) (i3:Nat) (l1:List UInt8) (i4:Nat) (i5:Nat) (i6:Nat) (l2:List UInt8),(zf P (32) (ss) (.int .i64 (IntKind.i64.wrap (j - (1:Int))))=(some (.ptr i1 i2 i3)))∧(lR O N G i1 i2 i3 (.str l1))∧(iX 32 ss j i4 i5 i6)∧(lR O N G i4 i5 i6 (.str l2))∧(((!Op.bytesLess l1 l2))=true→(K (AM.mk (RF 60 20 (tX tZ (tY (.bool false))) [cdi 60 [1,0,1,0,0,1,0,0,1,0,1],.inBlock 1,cdi 60 [1,0,1,0,0,1,1],ili 60 [1,0,1,0,0],.inBlock 0,cdi 60 [1,1]]) rest ⟨O,N,G⟩)))∧(((!Op.bytesLess l1 l2))=false→(K (Wris (IntKind.i64.wrap (j+(1:Int))) ss rest O N G)))))∧((decide (j<z1))=false→(K (AM.mk (RF 60 20 (tX tZ (tY (.bool true))) [cdi 60 [1,0,1,0,0,1,0,0,1,0,1]]) rest ⟨O,N,G⟩))))=OT f0 R keep K (.ex fun z1:Int=>(.seq [.run 5,.hopn (.int .i64 z1) O (N),.run 2] (.fork 7 (.ex fun i1:Nat=>(.ex fun i2:Nat=>(.ex fun i3:Nat=>(.ex fun l1:List UInt8=>(.ex fun i4:Nat=>(.ex fun i5:Nat=>(.ex fun i6:Nat=>(.ex fun l2:List UInt8=>(.seq [.run 9,.hopn (.ptr i1 i2 i3) O (N),.hop (.str l1) O,.run 2,.hopn (.ptr i4 i5 i6) O (N),.hop (.str l2) O,.run 2] (.fork 19 (.seq [.run 6,.keep [2]] .fin) (.seq [.run 9,.keep [0,3]] .fin))))))))))) (.seq [.run 7,.keep [2]] .fin)))) ((Wris j ss rest O N G)):=by kernel_rfl
theorem zq4:(((decide ((↑w.length:Int)<(1:Int)))=true→(K (AM.mk (RF 63 41 (tX tZ (tY (.bool false))) [cdi 63 [1,0,1,0,1],cdi 63 [1,1]]) rest ⟨O,N,G⟩)))∧((decide ((↑w.length:Int)<(1:Int)))=false→(((decide ((↑w.length:Int) > (24:Int)))=true→(K (AM.mk (RF 63 41 (tX tZ (tY (.bool false))) [cdi 63 [1,0,1,0,1],cdi 63 [1,1]]) rest ⟨O,N,G⟩)))∧((decide ((↑w.length:Int) > (24:Int)))=false→(((0:Int)≤(0:Int)∧(0:Int)<(↑w.length:Int))∧K (AM.mk (enF 106 [.int .u8 (↑(w.getD (0) (0:UInt8)).toNat:Int)]) ((zoU w)::rest) ⟨O,N,G⟩))))))=OT f0 R keep K (.seq [.run 11] (.fork 7 (.seq [.run 17,.keep [2]] .fin) (.seq [.run 5] (.fork 12 (.seq [.run 12,.keep [2]] .fin) (.seq [.run 1,.op,.keep [0,12,14],.run 1] .fin))))) ((AM.mk (enF 63 [.str w]) rest ⟨O,N,G⟩)):=by kernel_rfl
theorem zda:((((!bv))=true→(K (AM.mk (RF 63 41 (tX tZ (tY (.bool false))) [cdi 106 [1,1],cdi 63 [1,1]]) rest ⟨O,N,G⟩)))∧(((!bv))=false→(K (ztE w 0 rest O N G))))=OT f0 R keep K (.seq [.run 4] (.fork 17 (.seq [.run 6,.keep [2]] .fin) (.seq [.run 9,.keep [0,3]] .fin))) ((AM.mk (RF 106 21 (tX tZ (tY (.bool bv))) td) ((zoU w)::rest) ⟨O,N,G⟩)):=by kernel_rfl
theorem zoS:(((decide (j<(↑w.length:Int)))=true→(((0:Int)≤j∧j<(↑w.length:Int))∧K (AM.mk (enF 106 [.int .u8 (↑(w.getD j.toNat (0:UInt8)).toNat:Int)]) ((zoM w j)::rest) ⟨O,N,G⟩)))∧((decide (j<(↑w.length:Int)))=false→(K (AM.mk (RF 63 41 (tX tZ (tY (.bool true))) [cdi 63 [1,0,1,0,1]]) rest ⟨O,N,G⟩))))=OT f0 R keep K (.seq [.run 8] (.fork 21 (.seq [.run 8,.op,.keep [0,3,26],.run 1] .fin) (.seq [.run 7,.keep [2]] .fin))) ((ztE w j rest O N G)):=by kernel_rfl
theorem vc:((((!bv))=true→(((0:Int)≤j∧j<(↑w.length:Int))∧((decide ((↑(w.getD j.toNat (0:UInt8)).toNat:Int)<(48:Int)))=true→(K (AM.mk (RF 63 41 (tX tZ (tY (.bool false))) [cdi 106 [1,1],.inBlock 1,cdi 63 [1,1,0,1,0,0,1,1],ili 63 [1,1,0,1,0,0],.inBlock 0,cdi 63 [1,1,1]]) rest ⟨O,N,G⟩)))∧((decide ((↑(w.getD j.toNat (0:UInt8)).toNat:Int)<(48:Int)))=false→(((0:Int)≤j∧j<(↑w.length:Int))∧((decide ((↑(w.getD j.toNat (0:UInt8)).toNat:Int) > (57:Int)))=true→(K (AM.mk (RF 63 41 (tX tZ (tY (.bool false))) [cdi 106 [1,1],.inBlock 1,cdi 63 [1,1,0,1,0,0,1,1],ili 63 [1,1,0,1,0,0],.inBlock 0,cdi 63 [1,1,1]]) rest ⟨O,N,G⟩)))∧((decide ((↑(w.getD j.toNat (0:UInt8)).toNat:Int) > (57:Int)))=false→(K (ztE w (IntKind.i64.wrap (j+(1:Int))) rest O N G)))))))∧(((!bv))=false→(K (ztE w (IntKind.i64.wrap (j+(1:Int))) rest O N G))))=OT f0 R keep K (.seq [.run 3] (.fork 29 (.seq [.run 2,.op,.run 2] (.fork 34 (.seq [.run 13,.keep [2]] .fin) (.seq [.run 2,.op,.run 4] (.fork 40 (.seq [.run 6,.keep [2]] .fin) (.seq [.run 9,.keep [0,3]] .fin))))) (.seq [.run 21,.keep [0,3]] .fin))) ((AM.mk (RF 106 21 (tX tZ (tY (.bool bv))) td) ((zoM w j)::rest) ⟨O,N,G⟩)):=by kernel_rfl
theorem zqi:(((decide ((↑w.length:Int)<(1:Int)))=true→(K (AM.mk (RF 90 45 (tX tZ (tY (.bool false))) [cdi 90 [1,0,1,0,1],cdi 90 [1,1]]) rest ⟨O,N,G⟩)))∧((decide ((↑w.length:Int)<(1:Int)))=false→(((decide ((↑w.length:Int) > (161:Int)))=true→(K (AM.mk (RF 90 45 (tX tZ (tY (.bool false))) [cdi 90 [1,0,1,0,1],cdi 90 [1,1]]) rest ⟨O,N,G⟩)))∧((decide ((↑w.length:Int) > (161:Int)))=false→(K (zkd w 0 rest O N G))))))=OT f0 R keep K (.seq [.run 11] (.fork 8 (.seq [.run 11,.keep [2]] .fin) (.seq [.run 5] (.fork 12 (.seq [.run 6,.keep [2]] .fin) (.seq [.run 9,.keep [0,3]] .fin))))) ((AM.mk (enF 90 [.str w]) rest ⟨O,N,G⟩)):=by kernel_rfl
theorem zoN:(((decide (j<(↑w.length:Int)))=true→(((0:Int)≤j∧j<(↑w.length:Int))∧K (AM.mk (enF 106 [.int .u8 (↑(w.getD j.toNat (0:UInt8)).toNat:Int)]) ((zpy w j)::rest) ⟨O,N,G⟩)))∧((decide (j<(↑w.length:Int)))=false→(K (AM.mk (RF 90 45 (tX tZ (tY (.bool true))) [cdi 90 [1,0,1,0,1]]) rest ⟨O,N,G⟩))))=OT f0 R keep K (.seq [.run 8] (.fork 16 (.seq [.run 8,.op,.run 5,.keep [0,3,4,22],.run 1] .fin) (.seq [.run 7,.keep [2]] .fin))) ((zkd w j rest O N G)):=by kernel_rfl
theorem xo:((((!bv))=true→(((decide ((↑(w.getD j.toNat (0:UInt8)).toNat:Int)<(48:Int)))=true→(((((↑(w.getD j.toNat (0:UInt8)).toNat:Int) != (45:Int)))=true→(((((↑(w.getD j.toNat (0:UInt8)).toNat:Int) != (47:Int)))=true→(((((↑(w.getD j.toNat (0:UInt8)).toNat:Int) != (46:Int)))=true→(K (AM.mk (RF 90 45 (tX tZ (tY (.bool false))) [cdi 106 [1,1],.inBlock 1,cdi 90 [1,1,0,1,0,0,1,1],ili 90 [1,1,0,1,0,0],.inBlock 0,cdi 90 [1,1,1]]) rest ⟨O,N,G⟩)))∧((((↑(w.getD j.toNat (0:UInt8)).toNat:Int) != (46:Int)))=false→(K (zkd w (IntKind.i64.wrap (j+(1:Int))) rest O N G)))))∧((((↑(w.getD j.toNat (0:UInt8)).toNat:Int) != (47:Int)))=false→(K (zkd w (IntKind.i64.wrap (j+(1:Int))) rest O N G)))))∧((((↑(w.getD j.toNat (0:UInt8)).toNat:Int) != (45:Int)))=false→(K (zkd w (IntKind.i64.wrap (j+(1:Int))) rest O N G)))))∧((decide ((↑(w.getD j.toNat (0:UInt8)).toNat:Int)<(48:Int)))=false→(((decide ((↑(w.getD j.toNat (0:UInt8)).toNat:Int) > (57:Int)))=true→(((((↑(w.getD j.toNat (0:UInt8)).toNat:Int) != (45:Int)))=true→(((((↑(w.getD j.toNat (0:UInt8)).toNat:Int) != (47:Int)))=true→(((((↑(w.getD j.toNat (0:UInt8)).toNat:Int) != (46:Int)))=true→(K (AM.mk (RF 90 45 (tX tZ (tY (.bool false))) [cdi 106 [1,1],.inBlock 1,cdi 90 [1,1,0,1,0,0,1,1],ili 90 [1,1,0,1,0,0],.inBlock 0,cdi 90 [1,1,1]]) rest ⟨O,N,G⟩)))∧((((↑(w.getD j.toNat (0:UInt8)).toNat:Int) != (46:Int)))=false→(K (zkd w (IntKind.i64.wrap (j+(1:Int))) rest O N G)))))∧((((↑(w.getD j.toNat (0:UInt8)).toNat:Int) != (47:Int)))=false→(K (zkd w (IntKind.i64.wrap (j+(1:Int))) rest O N G)))))∧((((↑(w.getD j.toNat (0:UInt8)).toNat:Int) != (45:Int)))=false→(K (zkd w (IntKind.i64.wrap (j+(1:Int))) rest O N G)))))∧((decide ((↑(w.getD j.toNat (0:UInt8)).toNat:Int) > (57:Int)))=false→(K (zkd w (IntKind.i64.wrap (j+(1:Int))) rest O N G)))))))∧(((!bv))=false→(K (zkd w (IntKind.i64.wrap (j+(1:Int))) rest O N G))))=OT f0 R keep K (.seq [.run 3] (.fork 25 (.seq [.run 3] (.fork 28 (.seq [.run 9] (.fork 37 (.seq [.run 4] (.fork 41 (.seq [.run 4] (.fork 44 (.seq [.run 6,.keep [2]] .fin) (.seq [.run 9,.keep [0,3]] .fin))) (.seq [.run 13,.keep [0,3]] .fin))) (.seq [.run 17,.keep [0,3]] .fin))) (.seq [.run 5] (.fork 33 (.seq [.run 4] (.fork 37 (.seq [.run 4] (.fork 41 (.seq [.run 4] (.fork 44 (.seq [.run 6,.keep [2]] .fin) (.seq [.run 9,.keep [0,3]] .fin))) (.seq [.run 13,.keep [0,3]] .fin))) (.seq [.run 17,.keep [0,3]] .fin))) (.seq [.run 21,.keep [0,3]] .fin))))) (.seq [.run 29,.keep [0,3]] .fin))) ((AM.mk (RF 106 21 (tX tZ (tY (.bool bv))) td) ((zpy w j)::rest) ⟨O,N,G⟩)):=by kernel_rfl
theorem t_les:(K (Wles w w2 0 rest O N G))=OT f0 R keep K (.seq [.run 11,.keep [0,1,5]] .fin) ((AM.mk (enF 64 [.str w,.str w2]) rest ⟨O,N,G⟩)):=by kernel_rfl
theorem ziF:(((decide (j<(↑w.length:Int)))=true→(((decide (j<(↑w2.length:Int)))=true→(((0:Int)≤j∧j<(↑w.length:Int))∧((0:Int)≤j∧j<(↑w2.length:Int))∧((((↑(w.getD j.toNat (0:UInt8)).toNat:Int) != (↑(w2.getD j.toNat (0:UInt8)).toNat:Int)))=true→(((0:Int)≤j∧j<(↑w.length:Int))∧((0:Int)≤j∧j<(↑w2.length:Int))∧K (AM.mk (RF 64 37 (tX tZ (tX (tY (.bool (decide ((↑(w.getD j.toNat (0:UInt8)).toNat:Int)<(↑(w2.getD j.toNat (0:UInt8)).toNat:Int))))) tZ)) [cdi 64 [1,0,1,0,0,1,0,0,1,0,1],.inBlock 1,cdi 64 [1,0,1,0,0,1,1],ili 64 [1,0,1,0,0],.inBlock 0,cdi 64 [1,1]]) rest ⟨O,N,G⟩)))∧((((↑(w.getD j.toNat (0:UInt8)).toNat:Int) != (↑(w2.getD j.toNat (0:UInt8)).toNat:Int)))=false→(K (Wles w w2 (IntKind.i64.wrap (j+(1:Int))) rest O N G)))))∧((decide (j<(↑w2.length:Int)))=false→(K (AM.mk (RF 64 37 (tX tZ (tX (tY (.bool (decide ((↑w.length:Int)<(↑w2.length:Int))))) tZ)) [cdi 64 [1,0,1,0,0,1,0,0,1,0,1]]) rest ⟨O,N,G⟩)))))∧((decide (j<(↑w.length:Int)))=false→(K (AM.mk (RF 64 37 (tX tZ (tX (tY (.bool (decide ((↑w.length:Int)<(↑w2.length:Int))))) tZ)) [cdi 64 [1,0,1,0,0,1,0,0,1,0,1]]) rest ⟨O,N,G⟩))))=OT f0 R keep K (.seq [.run 8] (.fork 10 (.seq [.run 6] (.fork 15 (.seq [.run 8,.op,.run 2,.op,.run 2] (.fork 24 (.seq [.run 5,.op,.run 2,.op,.run 4,.keep [4]] .fin) (.seq [.run 9,.keep [0,1,5]] .fin))) (.seq [.run 12,.keep [4]] .fin))) (.seq [.run 18,.keep [4]] .fin))) ((Wles w w2 j rest O N G)):=by kernel_rfl
end
variable {O O':T AObj} {N:Nat} {G:T (T AV)}
def Ext (O:T AObj) (N:Nat) (O':T AObj) (N':Nat):Prop:=N≤N'∧∀ j,j<N→O'.get j=O.get j
theorem Ext.refl:Ext O N O N:=⟨Nat.le_refl _,fun _ _=>rfl⟩
theorem Ext.trans {O1 O2 O3:T AObj}{N1 N2 N3:Nat}(a:Ext O1 N1 O2 N2)(b:Ext O2 N2 O3 N3):Ext O1 N1 O3 N3:=⟨Nat.le_trans a.1 b.1,fun j hj=>(b.2 j (Nat.lt_of_lt_of_le hj a.1)).trans (a.2 j hj)⟩
theorem Ext.new {O1:T AObj}(f:Frm O O1 N):Ext O N O1 (N+1):=⟨Nat.le_succ _,fun j hj=>f j (by omega)⟩
theorem Tr.ext {t:Ty}{p:Option Nat}{hi N':Nat}(h:Tr O hi t p)(e:Ext O N O' N')(hh:hi≤N):Tr O' hi t p:=h.same (fun j hj=>e.2 j (by omega)) (Nat.le_refl _)
theorem zmE {w:List UInt8}{i:Nat}(h:i<w.length):w.drop i=w.getD i (0:UInt8)::w.drop (i+1):=by
 rw [List.drop_eq_getElem_cons h,List.getD_eq_getElem?_getD,List.getElem?_eq_getElem h]; rfl
theorem zgh (w:List UInt8)(hw:w.length<100000)(O:T AObj)(N:Nat)(G:T (T AV)):∃ O1 s1,qc P ⟨O,N,G⟩ 9 22 (.str w)=some (s1,⟨O1,N+1,G⟩)∧SV O1 1 bE N (N+1) w s1∧Frm O O1 N:=by
 have hb:zU w=w.flatMap bE:=by
  induction w with
  | nil=>rfl
  | cons c w ih=>rw [List.flatMap_cons,← ih (by simp at hw; omega)]; rfl
 refine ⟨O.set (some (.cells (zd .leaf 0 (zU w)) (zU w).length 5 0 0 1 0 true .leaf)) N,.slg N 0 0 w.length 0,?_,.inr (.inr ⟨N,0,0,by rw [Nat.zero_mul],Nat.le_refl _,Nat.lt_succ_self _,.inl ⟨_,_,_,_,_,_,_,_,_,(zU w).length,by rw [T.get_set,if_pos rfl],by unfold zG; rw [if_pos rfl],Nat.le_refl _,Nat.le_refl _,by rw [hb]; omega,?_⟩⟩),fun j hj=>by rw [T.get_set,if_neg hj]⟩
 ·rfl
 ·rw [hb,Nat.zero_mul];exact At.stored _ _ _
theorem ztd (w:List UInt8){keep:Nat}{f0:FuncId}{Q:AV→AHeap→Prop}{rest:List AFrame}
 (hK:∀ O' N' td,Ext O N O' N'→Goal P keep f0 Q (AM.mk (RF 54 24 (tX tZ (tY (.bool ((!zh w))))) td) rest ⟨O',N',G⟩)):Goal P keep f0 Q (AM.mk (enF 54 [.str w]) rest ⟨O,N,G⟩):=by
 rcases Bool.eq_false_or_eq_true (decide ((↑w.length:Int)<(1:Int))) with hc1 | hc1
 ·
  rw [show (!zh w)=true from by
   clear hK;cases w with
   | nil=>first | rfl | (simp at *)
   | cons c w =>
    (try simp only [List.getD_cons_zero] at *)
    unfold zh
    (try simp only [List.any_eq_not_all_not,Bool.not_not] at *)
    generalize (List.all (c::w) fun c=>xr (bi c))=y;unfold yY
    (try simp only [bi] at *)
    cases y <;> simp_all <;> omega] at hK
  exact (ot zlH (fkt hc1 (hK _ _ _ Ext.refl)))
 ·
  rcases Bool.eq_false_or_eq_true (decide ((↑w.length:Int) > (24:Int))) with hc2 | hc2
  ·
   rw [show (!zh w)=true from by
    clear hK;cases w with
    | nil=>first | rfl | (simp at *)
    | cons c w =>
     (try simp only [List.getD_cons_zero] at *)
     unfold zh
     (try simp only [List.any_eq_not_all_not,Bool.not_not] at *)
     generalize (List.all (c::w) fun c=>xr (bi c))=y;unfold yY
     (try simp only [bi] at *)
     cases y <;> simp_all <;> omega] at hK
   exact (ot zlH (fkf hc1 (fkt hc2 (hK _ _ _ Ext.refl))))
  ·
   rcases Bool.eq_false_or_eq_true (decide ((48:Int)≤(↑(w.getD (0) (0:UInt8)).toNat:Int))) with hc3 | hc3
   ·
    rcases Bool.eq_false_or_eq_true (decide ((↑(w.getD (0) (0:UInt8)).toNat:Int)≤(57:Int))) with hc4 | hc4
    ·
     rw [show (!zh w)=true from by
      clear hK;cases w with
      | nil=>first | rfl | (simp at *)
      | cons c w =>
       (try simp only [List.getD_cons_zero] at *)
       unfold zh
       (try simp only [List.any_eq_not_all_not,Bool.not_not] at *)
       generalize (List.all (c::w) fun c=>xr (bi c))=y;unfold yY
       (try simp only [bi] at *)
       cases y <;> simp_all <;> omega] at hK
     exact (ot zlH (fkf hc1 (fkf hc2 ⟨(by simp only [decide_eq_false_iff_not] at *; omega),fkt hc3 ⟨(by simp only [decide_eq_false_iff_not] at *; omega),fkt hc4 (hK _ _ _ Ext.refl)⟩⟩)))
    ·
     obtain ⟨O1,s1,ec,vs,fr⟩:=zgh w (by simp only [decide_eq_false_iff_not] at *; omega) O N G;refine (ot zlH (fkf hc1 (fkf hc2 ⟨(by simp only [decide_eq_false_iff_not] at *; omega),fkt hc3 ⟨(by simp only [decide_eq_false_iff_not] at *; omega),fkf hc4 ⟨_,_,ec,?_⟩⟩⟩)));refine ztG vs (by simp only [decide_eq_false_iff_not] at *; omega) fun td=>?_;rw [show (!zh w)=(w.any fun c=>!xr (bi c)) from by
      clear hK;cases w with
      | nil=>first | rfl | (simp at *)
      | cons c w =>
       (try simp only [List.getD_cons_zero] at *)
       unfold zh
       (try simp only [List.any_eq_not_all_not,Bool.not_not] at *)
       generalize (List.all (c::w) fun c=>xr (bi c))=y;unfold yY
       (try simp only [bi] at *)
       cases y <;> simp_all <;> omega] at hK
     exact (ot (zgb (bv:=(w.any fun c=>!xr (bi c)))) (hK _ _ _ (Ext.new fr)))
   ·
    obtain ⟨O1,s1,ec,vs,fr⟩:=zgh w (by simp only [decide_eq_false_iff_not] at *; omega) O N G;refine (ot zlH (fkf hc1 (fkf hc2 ⟨(by simp only [decide_eq_false_iff_not] at *; omega),fkf hc3 ⟨_,_,ec,?_⟩⟩)));refine ztG vs (by simp only [decide_eq_false_iff_not] at *; omega) fun td=>?_;rw [show (!zh w)=(w.any fun c=>!xr (bi c)) from by
     clear hK;cases w with
     | nil=>first | rfl | (simp at *)
     | cons c w =>
      (try simp only [List.getD_cons_zero] at *)
      unfold zh
      (try simp only [List.any_eq_not_all_not,Bool.not_not] at *)
      generalize (List.all (c::w) fun c=>xr (bi c))=y;unfold yY
      (try simp only [bi] at *)
      cases y <;> simp_all <;> omega] at hK
    exact (ot (zg4 (bv:=(w.any fun c=>!xr (bi c)))) (hK _ _ _ (Ext.new fr)))
theorem zsS (w:List UInt8){keep:Nat}{f0:FuncId}{Q:AV→AHeap→Prop}{rest:List AFrame}
 (hK:∀ O' N' td,Ext O N O' N'→Goal P keep f0 Q (AM.mk (RF 87 15 (tX tZ (tY (.bool (zK w)))) td) rest ⟨O',N',G⟩)):Goal P keep f0 Q (AM.mk (enF 87 [.str w]) rest ⟨O,N,G⟩):=by
 rcases Bool.eq_false_or_eq_true (decide ((↑w.length:Int)<(1:Int))) with hc1 | hc1
 ·
  rw [show zK w=false from by
   clear hK;unfold zK
   (try simp only [List.any_eq_not_all_not,Bool.not_not] at *)
   generalize (List.all w fun c=>yw (bi c))=y;cases y <;> simp_all <;> omega] at hK
  exact (ot zp3 (fkt hc1 (hK _ _ _ Ext.refl)))
 ·
  rcases Bool.eq_false_or_eq_true (decide ((↑w.length:Int) > (161:Int))) with hc2 | hc2
  ·
   rw [show zK w=false from by
    clear hK;unfold zK
    (try simp only [List.any_eq_not_all_not,Bool.not_not] at *)
    generalize (List.all w fun c=>yw (bi c))=y;cases y <;> simp_all <;> omega] at hK
   exact (ot zp3 (fkf hc1 (fkt hc2 (hK _ _ _ Ext.refl))))
  ·
   obtain ⟨O1,s1,ec,vs,fr⟩:=zgh w (by simp only [decide_eq_false_iff_not] at *; omega) O N G;refine (ot zp3 (fkf hc1 (fkf hc2 ⟨_,_,ec,?_⟩)));refine sn_ok vs (by simp only [decide_eq_false_iff_not] at *; omega) fun td=>?_;rw [show zK w=(!(w.any fun c=>!yw (bi c))) from by
    clear hK;unfold zK
    (try simp only [List.any_eq_not_all_not,Bool.not_not] at *)
    generalize (List.all w fun c=>yw (bi c))=y;cases y <;> simp_all <;> omega] at hK
   exact (ot (zjD (bv:=(w.any fun c=>!yw (bi c)))) (hK _ _ _ (Ext.new fr)))
theorem sSl:SlT 32 9 1 16:=SlT.mk' (by kernel_rfl) (by kernel_rfl) (by kernel_rfl) (by kernel_rfl) (by kernel_rfl) rfl rfl
theorem pSl:SlT 33 23 1 8:=SlT.mk' (by kernel_rfl) (by kernel_rfl) (by kernel_rfl) (by kernel_rfl) (by kernel_rfl) rfl rfl
theorem zhI {xs:List (List UInt8)}{ss:AV}{lo hi:Nat}(hl:xs.length<1000000000){keep:Nat}{f0:FuncId}{Q:AV→AHeap→Prop}{rest:List AFrame}:∀ (k i:Nat) (O:T AObj) (N:Nat),SV O 1 sE lo hi xs ss→hi≤N→i+k=xs.length →
 (∀ O' N' td,Ext O N O' N'→Goal P keep f0 Q (AM.mk (RF 53 17 (tX tZ (tX (tY (.bool ((xs.drop i).any (fun s:List UInt8=>!zh s)))) tZ)) td) rest ⟨O',N',G⟩))→Goal P keep f0 Q (Wssn ((xs.length:Nat):Int) ((i:Nat):Int) ss rest O N G)
 | k,i,O,N,h,hN,hk,hK=>by
  cases k with
  | zero =>
   have hK0:=fun td=>hK O N td Ext.refl;rw [List.drop_of_length_le (by omega)] at hK0;exact (ot (zku (n:=((xs.length:Nat):Int)) (j:=((i:Nat):Int))) (fkf (decide_eq_false (by omega)) (hK0 _)))
  | succ k =>
   obtain ⟨x,hx,_⟩:=nth (l:=xs) (j:=i) (by omega);rw [zr hx] at hK;obtain ⟨i1,i2,i3,lo1,hi1,eA1,rd1,_⟩:=h.at sSl sEn hx;refine (ot (zku (n:=((xs.length:Nat):Int)) (j:=((i:Nat):Int))) (fkt (decide_eq_true (by omega)) ⟨_,_,_,x,eA1,(rd1.load rfl _ _),?_⟩));refine ztd _ fun O1 N1 td ex=>?_;have h':=h.keep (O':=O1) (fun j _ hj=>ex.2 j (by omega)) (Nat.le_refl lo) (Nat.le_refl hi);rcases Bool.eq_false_or_eq_true (!zh x) with hb | hb
   ·have hK':=fun td=>hK O1 N1 td ex;rw [List.any_cons,hb] at hK';exact (ot (zcH (n:=((xs.length:Nat):Int)) (j:=((i:Nat):Int)) (bv:=(!zh x))) (fkt hb (hK' _)))
   ·have hK':=fun O' N' td e2=>hK O' N' td (ex.trans e2);rw [List.any_cons,hb] at hK';have ih:=zhI hl (keep:=keep) (f0:=f0) (Q:=Q) (rest:=rest) k (i+1) O1 N1 h' (Nat.le_trans hN ex.1) (by omega) hK';rw [← zq (i:=i) (by omega)] at ih;exact (ot (zcH (n:=((xs.length:Nat):Int)) (j:=((i:Nat):Int)) (bv:=(!zh x))) (fkf hb ih))
theorem zoC {xs:List (List UInt8)}{ss:AV}{lo hi:Nat}(h:SV O 1 sE lo hi xs ss)(hN:hi≤N)(hl:xs.length<1000000000){keep:Nat}{f0:FuncId}{Q:AV→AHeap→Prop}{rest:List AFrame}
 (hK:∀ O' N' td,Ext O N O' N'→Goal P keep f0 Q (AM.mk (RF 53 17 (tX tZ (tX (tY (.bool (xs.any (fun s:List UInt8=>!zh s)))) tZ)) td) rest ⟨O',N',G⟩)):Goal P keep f0 Q (AM.mk (enF 53 [ss,.fn (.func 54) [] []]) rest ⟨O,N,G⟩):=by
 exact (ot zsu ⟨((xs.length:Nat):Int),h.len sSl _ _,zhI hl xs.length 0 O N h hN (Nat.zero_add _) hK⟩)
theorem zlf {a b:List UInt8}{l:List (List UInt8)}:qL (a::b::l)=(Op.bytesLess a b&&qL (b::l)):=rfl
theorem ziC {xs:List (List UInt8)}{ss:AV}{lo hi:Nat}(h:SV O 1 sE lo hi xs ss)(hl:xs.length<1000000000){keep:Nat}{f0:FuncId}{Q:AV→AHeap→Prop}{rest:List AFrame}:∀ (k i:Nat),i+1+k=xs.length →
 (∀ td,Goal P keep f0 Q (AM.mk (RF 60 20 (tX tZ (tY (.bool (qL (xs.drop i))))) td) rest ⟨O,N,G⟩))→Goal P keep f0 Q (Wris ((i+1:Nat):Int) ss rest O N G)
 | k,i,hk,hK=>by
  obtain ⟨a,ha,_⟩:=nth (l:=xs) (j:=i) (by omega);cases k with
  | zero =>
   rw [zr ha,List.drop_of_length_le (by omega)] at hK;exact (ot (zhl (j:=((i+1:Nat):Int))) ⟨((xs.length:Nat):Int),h.len sSl _ _,fkf (decide_eq_false (by omega)) (hK _)⟩)
  | succ k =>
   obtain ⟨b,hb,_⟩:=nth (l:=xs) (j:=i+1) (by omega);have ih:=ziC h hl (keep:=keep) (f0:=f0) (Q:=Q) (rest:=rest) k (i+1) (by omega);rw [zr ha,zr hb,zlf] at hK;rw [zr hb] at ih;have w1:IntKind.i64.wrap (((i+1:Nat):Int) - (1:Int))=((i:Nat):Int):=by rw [IntKind.wrap_i64]; omega
   rcases Bool.eq_false_or_eq_true (Op.bytesLess a b) with hlt | hlt
   ·rw [hlt,Bool.true_and] at hK;have ih:=ih hK;rw [← zq (i:=i+1) (by omega)] at ih;obtain ⟨i1,i2,i3,lo1,hi1,eA1,rd1,_⟩:=h.at (j:=i) sSl sEn ha;rw [← w1] at eA1;obtain ⟨i4,i5,i6,lo2,hi2,eA2,rd2,_⟩:=h.at sSl sEn hb;exact (ot (zhl (j:=((i+1:Nat):Int))) ⟨((xs.length:Nat):Int),(h.len sSl _ _),fkt (decide_eq_true (by omega)) ⟨_,_,_,a,_,_,_,b,eA1,(rd1.load rfl _ _),eA2,(rd2.load rfl _ _),fkf (by rw [hlt]; rfl) ih⟩⟩)
   ·rw [hlt,Bool.false_and] at hK;have hKf:=hK;obtain ⟨i1,i2,i3,lo1,hi1,eA1,rd1,_⟩:=h.at (j:=i) sSl sEn ha;rw [← w1] at eA1;obtain ⟨i4,i5,i6,lo2,hi2,eA2,rd2,_⟩:=h.at sSl sEn hb;exact (ot (zhl (j:=((i+1:Nat):Int))) ⟨((xs.length:Nat):Int),(h.len sSl _ _),fkt (decide_eq_true (by omega)) ⟨_,_,_,a,_,_,_,b,eA1,(rd1.load rfl _ _),eA2,(rd2.load rfl _ _),fkt (by rw [hlt]; rfl) (hKf _)⟩⟩)
theorem ziK {xs:List (List UInt8)}{ss:AV}{lo hi:Nat}(h:SV O 1 sE lo hi xs ss)(hl:xs.length<1000000000){keep:Nat}{f0:FuncId}{Q:AV→AHeap→Prop}{rest:List AFrame}
 (hK:∀ td,Goal P keep f0 Q (AM.mk (RF 60 20 (tX tZ (tY (.bool (qL xs)))) td) rest ⟨O,N,G⟩)):Goal P keep f0 Q (AM.mk (enF 60 [ss]) rest ⟨O,N,G⟩):=by
 refine (ot t_ris ?_);cases xs with
 | nil=>exact (ot zhl ⟨((0:Nat):Int),h.len sSl _ _,fkf rfl (hK _)⟩)
 | cons a l=>exact ziC h hl l.length 0 (by simp; omega) hK
end Go.Proofs.Ytcdigdplhlgcaaa.gx
end
section
set_option maxRecDepth 100000
set_option linter.unusedVariables false
set_option linter.unusedSectionVars false
set_option linter.unusedSimpArgs false
namespace Go.Proofs.Ytcdigdplhlgcaaa.gx
open Go Ev tp
variable {O O':T AObj} {N:Nat} {G:T (T AV)}
theorem zh1 {w:List UInt8}(hl:w.length<1000000000){keep:Nat}{f0:FuncId}{Q:AV→AHeap→Prop}{rest:List AFrame}:∀ (k i:Nat),i+k=w.length →
 (∀ td,Goal P keep f0 Q (AM.mk (RF 63 41 (tX tZ (tY (.bool ((w.drop i).all fun c=>xr (bi c))))) td) rest ⟨O,N,G⟩))→Goal P keep f0 Q (ztE w ((i:Nat):Int) rest O N G)
 | k,i,hk,hK=>by
  cases k with
  | zero =>
   rw [List.drop_of_length_le (by omega)] at hK;exact (ot (zoS (j:=((i:Nat):Int))) (fkf (decide_eq_false (by omega)) (hK _)))
  | succ k =>
   have ih:=zh1 hl (keep:=keep) (f0:=f0) (Q:=Q) (rest:=rest) k (i+1) (by omega);rw [zmE (by omega)] at hK;refine (ot (zoS (j:=((i:Nat):Int))) (fkt (decide_eq_true (by omega)) ⟨(by omega),?_⟩));refine zpU _ fun td=>?_;rcases Bool.eq_false_or_eq_true (!(xA (bi (w.getD i (0:UInt8))))) with hc51 | hc51
   ·
    rcases Bool.eq_false_or_eq_true (decide ((↑(w.getD i (0:UInt8)).toNat:Int)<(48:Int))) with hc52 | hc52
    ·
     have eb:xr (bi (w.getD i (0:UInt8)))=false:=by
      revert hc51 hc52;unfold xr xA yY;generalize hc:bi (w.getD i (0:UInt8))=c at *;unfold bi at hc
      intros
      simp_all <;> omega
     rw [List.all_cons,eb,Bool.false_and] at hK;exact (ot (vc (j:=((i:Nat):Int)) (bv:=(xA (bi (w.getD i (0:UInt8)))))) (fkt hc51 ⟨(by omega),fkt hc52 (hK _)⟩))
    ·
     rcases Bool.eq_false_or_eq_true (decide ((↑(w.getD i (0:UInt8)).toNat:Int) > (57:Int))) with hc53 | hc53
     ·
      have eb:xr (bi (w.getD i (0:UInt8)))=false:=by
       revert hc51 hc52 hc53;unfold xr xA yY;generalize hc:bi (w.getD i (0:UInt8))=c at *;unfold bi at hc
       intros
       simp_all <;> omega
      rw [List.all_cons,eb,Bool.false_and] at hK;exact (ot (vc (j:=((i:Nat):Int)) (bv:=(xA (bi (w.getD i (0:UInt8)))))) (fkt hc51 ⟨(by omega),fkf hc52 ⟨(by omega),fkt hc53 (hK _)⟩⟩))
     ·
      have eb:xr (bi (w.getD i (0:UInt8)))=true:=by
       revert hc51 hc52 hc53;unfold xr xA yY;generalize hc:bi (w.getD i (0:UInt8))=c at *;unfold bi at hc
       intros
       simp_all <;> omega
      rw [List.all_cons,eb,Bool.true_and] at hK;have ih:=ih hK;rw [← zq (i:=i) (by omega)] at ih;exact (ot (vc (j:=((i:Nat):Int)) (bv:=(xA (bi (w.getD i (0:UInt8)))))) (fkt hc51 ⟨(by omega),fkf hc52 ⟨(by omega),fkf hc53 ih⟩⟩))
   ·
    have eb:xr (bi (w.getD i (0:UInt8)))=true:=by
     revert hc51;unfold xr xA yY;generalize hc:bi (w.getD i (0:UInt8))=c at *;unfold bi at hc
     intros
     simp_all <;> omega
    rw [List.all_cons,eb,Bool.true_and] at hK;have ih:=ih hK;rw [← zq (i:=i) (by omega)] at ih;exact (ot (vc (j:=((i:Nat):Int)) (bv:=(xA (bi (w.getD i (0:UInt8)))))) (fkf hc51 ih))
theorem zik {w:List UInt8}(hl:w.length<1000000000){keep:Nat}{f0:FuncId}{Q:AV→AHeap→Prop}{rest:List AFrame}:∀ (k i:Nat),i+k=w.length →
 (∀ td,Goal P keep f0 Q (AM.mk (RF 90 45 (tX tZ (tY (.bool ((w.drop i).all fun c=>yw (bi c))))) td) rest ⟨O,N,G⟩))→Goal P keep f0 Q (zkd w ((i:Nat):Int) rest O N G)
 | k,i,hk,hK=>by
  cases k with
  | zero =>
   rw [List.drop_of_length_le (by omega)] at hK;exact (ot (zoN (j:=((i:Nat):Int))) (fkf (decide_eq_false (by omega)) (hK _)))
  | succ k =>
   have ih:=zik hl (keep:=keep) (f0:=f0) (Q:=Q) (rest:=rest) k (i+1) (by omega);rw [zmE (by omega)] at hK;refine (ot (zoN (j:=((i:Nat):Int))) (fkt (decide_eq_true (by omega)) ⟨(by omega),?_⟩));refine zpU _ fun td=>?_;rcases Bool.eq_false_or_eq_true (!(xA (bi (w.getD i (0:UInt8))))) with hc51 | hc51
   ·
    rcases Bool.eq_false_or_eq_true (decide ((↑(w.getD i (0:UInt8)).toNat:Int)<(48:Int))) with hc52 | hc52
    ·
     rcases Bool.eq_false_or_eq_true ((↑(w.getD i (0:UInt8)).toNat:Int) != (45:Int)) with hc53 | hc53
     ·
      rcases Bool.eq_false_or_eq_true ((↑(w.getD i (0:UInt8)).toNat:Int) != (47:Int)) with hc54 | hc54
      ·
       rcases Bool.eq_false_or_eq_true ((↑(w.getD i (0:UInt8)).toNat:Int) != (46:Int)) with hc55 | hc55
       ·
        have eb:yw (bi (w.getD i (0:UInt8)))=false:=by
         revert hc51 hc52 hc53 hc54 hc55;unfold yw xA yY;generalize hc:bi (w.getD i (0:UInt8))=c at *;unfold bi at hc
         intros
         simp_all <;> omega
        rw [List.all_cons,eb,Bool.false_and] at hK;exact (ot (xo (j:=((i:Nat):Int)) (bv:=(xA (bi (w.getD i (0:UInt8)))))) (fkt hc51 (fkt hc52 (fkt hc53 (fkt hc54 (fkt hc55 (hK _)))))))
       ·
        have eb:yw (bi (w.getD i (0:UInt8)))=true:=by
         revert hc51 hc52 hc53 hc54 hc55;unfold yw xA yY;generalize hc:bi (w.getD i (0:UInt8))=c at *;unfold bi at hc
         intros
         simp_all <;> omega
        rw [List.all_cons,eb,Bool.true_and] at hK;have ih:=ih hK;rw [← zq (i:=i) (by omega)] at ih;exact (ot (xo (j:=((i:Nat):Int)) (bv:=(xA (bi (w.getD i (0:UInt8)))))) (fkt hc51 (fkt hc52 (fkt hc53 (fkt hc54 (fkf hc55 ih))))))
      ·
       have eb:yw (bi (w.getD i (0:UInt8)))=true:=by
        revert hc51 hc52 hc53 hc54;unfold yw xA yY;generalize hc:bi (w.getD i (0:UInt8))=c at *;unfold bi at hc
        intros
        simp_all <;> omega
       rw [List.all_cons,eb,Bool.true_and] at hK;have ih:=ih hK;rw [← zq (i:=i) (by omega)] at ih;exact (ot (xo (j:=((i:Nat):Int)) (bv:=(xA (bi (w.getD i (0:UInt8)))))) (fkt hc51 (fkt hc52 (fkt hc53 (fkf hc54 ih)))))
     ·
      have eb:yw (bi (w.getD i (0:UInt8)))=true:=by
       revert hc51 hc52 hc53;unfold yw xA yY;generalize hc:bi (w.getD i (0:UInt8))=c at *;unfold bi at hc
       intros
       simp_all <;> omega
      rw [List.all_cons,eb,Bool.true_and] at hK;have ih:=ih hK;rw [← zq (i:=i) (by omega)] at ih;exact (ot (xo (j:=((i:Nat):Int)) (bv:=(xA (bi (w.getD i (0:UInt8)))))) (fkt hc51 (fkt hc52 (fkf hc53 ih))))
    ·
     rcases Bool.eq_false_or_eq_true (decide ((↑(w.getD i (0:UInt8)).toNat:Int) > (57:Int))) with hc53 | hc53
     ·
      rcases Bool.eq_false_or_eq_true ((↑(w.getD i (0:UInt8)).toNat:Int) != (45:Int)) with hc54 | hc54
      ·
       rcases Bool.eq_false_or_eq_true ((↑(w.getD i (0:UInt8)).toNat:Int) != (47:Int)) with hc55 | hc55
       ·
        rcases Bool.eq_false_or_eq_true ((↑(w.getD i (0:UInt8)).toNat:Int) != (46:Int)) with hc56 | hc56
        ·
         have eb:yw (bi (w.getD i (0:UInt8)))=false:=by
          revert hc51 hc52 hc53 hc54 hc55 hc56;unfold yw xA yY;generalize hc:bi (w.getD i (0:UInt8))=c at *;unfold bi at hc
          intros
          simp_all <;> omega
         rw [List.all_cons,eb,Bool.false_and] at hK;exact (ot (xo (j:=((i:Nat):Int)) (bv:=(xA (bi (w.getD i (0:UInt8)))))) (fkt hc51 (fkf hc52 (fkt hc53 (fkt hc54 (fkt hc55 (fkt hc56 (hK _))))))))
        ·
         have eb:yw (bi (w.getD i (0:UInt8)))=true:=by
          revert hc51 hc52 hc53 hc54 hc55 hc56;unfold yw xA yY;generalize hc:bi (w.getD i (0:UInt8))=c at *;unfold bi at hc
          intros
          simp_all <;> omega
         rw [List.all_cons,eb,Bool.true_and] at hK;have ih:=ih hK;rw [← zq (i:=i) (by omega)] at ih;exact (ot (xo (j:=((i:Nat):Int)) (bv:=(xA (bi (w.getD i (0:UInt8)))))) (fkt hc51 (fkf hc52 (fkt hc53 (fkt hc54 (fkt hc55 (fkf hc56 ih)))))))
       ·
        have eb:yw (bi (w.getD i (0:UInt8)))=true:=by
         revert hc51 hc52 hc53 hc54 hc55;unfold yw xA yY;generalize hc:bi (w.getD i (0:UInt8))=c at *;unfold bi at hc
         intros
         simp_all <;> omega
        rw [List.all_cons,eb,Bool.true_and] at hK;have ih:=ih hK;rw [← zq (i:=i) (by omega)] at ih;exact (ot (xo (j:=((i:Nat):Int)) (bv:=(xA (bi (w.getD i (0:UInt8)))))) (fkt hc51 (fkf hc52 (fkt hc53 (fkt hc54 (fkf hc55 ih))))))
      ·
       have eb:yw (bi (w.getD i (0:UInt8)))=true:=by
        revert hc51 hc52 hc53 hc54;unfold yw xA yY;generalize hc:bi (w.getD i (0:UInt8))=c at *;unfold bi at hc
        intros
        simp_all <;> omega
       rw [List.all_cons,eb,Bool.true_and] at hK;have ih:=ih hK;rw [← zq (i:=i) (by omega)] at ih;exact (ot (xo (j:=((i:Nat):Int)) (bv:=(xA (bi (w.getD i (0:UInt8)))))) (fkt hc51 (fkf hc52 (fkt hc53 (fkf hc54 ih)))))
     ·
      have eb:yw (bi (w.getD i (0:UInt8)))=true:=by
       revert hc51 hc52 hc53;unfold yw xA yY;generalize hc:bi (w.getD i (0:UInt8))=c at *;unfold bi at hc
       intros
       simp_all <;> omega
      rw [List.all_cons,eb,Bool.true_and] at hK;have ih:=ih hK;rw [← zq (i:=i) (by omega)] at ih;exact (ot (xo (j:=((i:Nat):Int)) (bv:=(xA (bi (w.getD i (0:UInt8)))))) (fkt hc51 (fkf hc52 (fkf hc53 ih))))
   ·
    have eb:yw (bi (w.getD i (0:UInt8)))=true:=by
     revert hc51;unfold yw xA yY;generalize hc:bi (w.getD i (0:UInt8))=c at *;unfold bi at hc
     intros
     simp_all <;> omega
    rw [List.all_cons,eb,Bool.true_and] at hK;have ih:=ih hK;rw [← zq (i:=i) (by omega)] at ih;exact (ot (xo (j:=((i:Nat):Int)) (bv:=(xA (bi (w.getD i (0:UInt8)))))) (fkf hc51 ih))
theorem zpC (w:List UInt8){keep:Nat}{f0:FuncId}{Q:AV→AHeap→Prop}{rest:List AFrame}
 (hK:∀ td,Goal P keep f0 Q (AM.mk (RF 63 41 (tX tZ (tY (.bool (zh w)))) td) rest ⟨O,N,G⟩)):Goal P keep f0 Q (AM.mk (enF 63 [.str w]) rest ⟨O,N,G⟩):=by
 rcases Bool.eq_false_or_eq_true (decide (((w.length:Nat):Int)<1)) with h1 | h1
 ·rw [show zh w=false from by
   cases w with
   | nil=>rfl
   | cons c w=>simp at h1; omega] at hK
  exact (ot zq4 (fkt h1 (hK _)))
 ·rcases Bool.eq_false_or_eq_true (decide (((w.length:Nat):Int) > 24)) with h2 | h2
  ·rw [show zh w=false from by
    cases w with
    | nil=>rfl
    | cons c w=>unfold zh; simp at h2 ⊢; omega] at hK
   exact (ot zq4 (fkf h1 (fkt h2 (hK _))))
  ·simp only [decide_eq_false_iff_not] at h1 h2;refine (ot zq4 (fkf (decide_eq_false h1) (fkf (decide_eq_false h2) ⟨by omega,?_⟩)));refine zpU _ fun td=>?_;cases w with
   | nil=>simp at h1
   | cons c w =>
    rcases Bool.eq_false_or_eq_true (xA (bi c)) with h3 | h3
    ·rw [show zh (c::w)=(List.drop 0 (c::w)).all (fun c=>xr (bi c)) from by
      have h4:yY (bi c)=false:=by
       revert h3;unfold xA yY;generalize bi c=x;intro h
       simp_all <;> omega
      show (decide ((c::w).length≤24)&&!yY (bi c)&&_)=_;rw [h4,decide_eq_true (by omega)];rfl] at hK
     exact (ot (zda (w:=(c::w)) (bv:=(xA (bi c)))) (fkf (by rw [h3]; rfl) (zh1 (by omega) (c::w).length 0 (Nat.zero_add _) hK)))
    ·rw [show zh (c::w)=false from by
      show (decide ((c::w).length≤24)&&!yY (bi c)&&((xr (bi c))&&_))=_;unfold xr;rw [h3];cases h5:yY (bi c) with
      | true=>simp
      | false=>simp] at hK
     exact (ot (zda (w:=(c::w)) (bv:=(xA (bi c)))) (fkt (by rw [h3]; rfl) (hK _)))
theorem zrU (w:List UInt8){keep:Nat}{f0:FuncId}{Q:AV→AHeap→Prop}{rest:List AFrame}
 (hK:∀ td,Goal P keep f0 Q (AM.mk (RF 90 45 (tX tZ (tY (.bool (zK w)))) td) rest ⟨O,N,G⟩)):Goal P keep f0 Q (AM.mk (enF 90 [.str w]) rest ⟨O,N,G⟩):=by
 rcases Bool.eq_false_or_eq_true (decide (((w.length:Nat):Int)<1)) with h1 | h1
 ·rw [show zK w=false from by unfold zK; rw [decide_eq_false (by simp only [decide_eq_true_eq] at h1; omega)]; rfl] at hK
  exact (ot zqi (fkt h1 (hK _)))
 ·rcases Bool.eq_false_or_eq_true (decide (((w.length:Nat):Int) > 161)) with h2 | h2
  ·rw [show zK w=false from by unfold zK; simp at h2 ⊢; omega] at hK
   exact (ot zqi (fkf h1 (fkt h2 (hK _))))
  ·simp only [decide_eq_false_iff_not] at h1 h2;rw [show zK w=(List.drop 0 w).all (fun c=>yw (bi c)) from by
    unfold zK;rw [decide_eq_true (by omega),decide_eq_true (by omega)];rfl] at hK
   exact (ot zqi (fkf (decide_eq_false h1) (fkf (decide_eq_false h2) (zik (by omega) w.length 0 (Nat.zero_add _) hK))))
theorem zsH {a:List UInt8}:Op.bytesLess a []=false:=by cases a <;> rfl
theorem zht {w w2:List UInt8}(h1:w.length<1000000000)(h2:w2.length<1000000000){keep:Nat}{f0:FuncId}{Q:AV→AHeap→Prop}{rest:List AFrame}:∀ (k i:Nat),i+k=w.length→i≤w2.length →
 (∀ td,Goal P keep f0 Q (AM.mk (RF 64 37 (tX tZ (tX (tY (.bool (Op.bytesLess (w.drop i) (w2.drop i)))) tZ)) td) rest ⟨O,N,G⟩))→Goal P keep f0 Q (Wles w w2 ((i:Nat):Int) rest O N G)
 | k,i,hk,hi,hK=>by
  cases k with
  | zero =>
   rw [List.drop_of_length_le (l:=w) (by omega),show Op.bytesLess [] (w2.drop i)=decide (((w.length:Nat):Int)<((w2.length:Nat):Int)) from by
    by_cases h:i<w2.length
    ·rw [zmE h,decide_eq_true (by omega)]; rfl
    ·rw [List.drop_of_length_le (by omega),decide_eq_false (by omega)]; rfl] at hK
   exact (ot (ziF (j:=((i:Nat):Int))) (fkf (decide_eq_false (by omega)) (hK _)))
  | succ k =>
   by_cases hi2:i<w2.length
   ·have ih:=zht h1 h2 (keep:=keep) (f0:=f0) (Q:=Q) (rest:=rest) k (i+1) (by omega) (by omega);rw [zmE (w:=w) (by omega),zmE (w:=w2) hi2] at hK;rcases Bool.eq_false_or_eq_true (bi (w.getD i 0) != bi (w2.getD i 0)) with hb | hb
    ·rw [show Op.bytesLess (w.getD i 0::w.drop (i+1)) (w2.getD i 0::w2.drop (i+1))=decide (bi (w.getD i 0)<bi (w2.getD i 0)) from by
      have:(w.getD i 0==w2.getD i 0)=false:=by
       rw [beq_eq_false_iff_ne];intro e;rw [e] at hb;simp at hb
      show (decide (w.getD i 0<w2.getD i 0) || ((w.getD i 0==w2.getD i 0)&&_))=_;rw [this,Bool.false_and,Bool.or_false];congr 1;show (w.getD i 0<w2.getD i 0)=_;rw [UInt8.lt_iff_toNat_lt];unfold bi;exact propext ⟨fun h=>by omega,fun h=>by omega⟩] at hK
     exact (ot (ziF (j:=((i:Nat):Int))) (fkt (decide_eq_true (by omega)) (fkt (decide_eq_true (by omega)) ⟨by omega,by omega,fkt hb ⟨by omega,by omega,hK _⟩⟩)))
    ·have he:w.getD i 0=w2.getD i 0:=by
      have:=hb;unfold bi at this;simp only [bne_eq_false_iff_eq] at this;exact UInt8.toNat_inj.1 (by omega)
     rw [show Op.bytesLess (w.getD i 0::w.drop (i+1)) (w2.getD i 0::w2.drop (i+1))=Op.bytesLess (w.drop (i+1)) (w2.drop (i+1)) from by
      rw [he];show (decide (w2.getD i 0<w2.getD i 0) || ((w2.getD i 0==w2.getD i 0)&&_))=_;rw [beq_self_eq_true,Bool.true_and,decide_eq_false (by rw [UInt8.lt_iff_toNat_lt]; omega),Bool.false_or]] at hK
     have ih:=ih hK;rw [← zq (i:=i) (by omega)] at ih;exact (ot (ziF (j:=((i:Nat):Int))) (fkt (decide_eq_true (by omega)) (fkt (decide_eq_true (by omega)) ⟨by omega,by omega,fkf hb ih⟩)))
   ·rw [List.drop_of_length_le (l:=w2) (by omega),zsH,show false=decide (((w.length:Nat):Int)<((w2.length:Nat):Int)) from (decide_eq_false (by omega)).symm] at hK
    exact (ot (ziF (j:=((i:Nat):Int))) (fkt (decide_eq_true (by omega)) (fkf (decide_eq_false (by omega)) (hK _))))
theorem ziq (w w2:List UInt8)(h1:w.length<1000000000)(h2:w2.length<1000000000){keep:Nat}{f0:FuncId}{Q:AV→AHeap→Prop}{rest:List AFrame}
 (hK:∀ td,Goal P keep f0 Q (AM.mk (RF 64 37 (tX tZ (tX (tY (.bool (Op.bytesLess w w2))) tZ)) td) rest ⟨O,N,G⟩)):Goal P keep f0 Q (AM.mk (enF 64 [.str w,.str w2]) rest ⟨O,N,G⟩):=by
 exact (ot t_les (zht h1 h2 w.length 0 (Nat.zero_add _) (Nat.zero_le _) hK))
end Go.Proofs.Ytcdigdplhlgcaaa.gx
end
section
set_option maxRecDepth 100000
set_option linter.unusedVariables false
set_option linter.unusedSectionVars false
set_option linter.unusedSimpArgs false
namespace Go.Proofs.Ytcdigdplhlgcaaa.gx
open Go Ev tp
section
variable {R:AV→AHeap→Prop} {keep N p:Nat} {f0:FuncId} {rest:List AFrame} {O:T AObj} {k:Int} {nm:List UInt8} {sn sa rp:AV} {G:T (T AV)} {K:AM→Prop}
theorem t_ho:(∃ (z1:Int) (z2:Int) (b1:Bool),(lC O N G p 1 (.str nm))∧(lC O N G p 2 sn)∧(lN O N G 32 sn z1)∧(lC O N G p 3 sa)∧(lN O N G 33 sa z2)∧(lC O N G p 4 rp)∧(qq P (⟨O,N,G⟩) (BinOp.neq) (23) (true) (rp) (.nilp)=(some (.bool b1)))∧(True)∧(qq P (⟨O,N,G⟩) (BinOp.neq) (23) (true) (rp) (.nilp)=(some (.bool b1)))∧(lC O N G p 4 rp)∧(okD 300 rp=true)∧(qq P (⟨O,N,G⟩) (BinOp.gtr) (3) (true) (.int .i64 z2) (.int .i64 0)=(some (.bool (decide (z2 > (0:Int))))))∧(lN O N G 33 sa z2)∧(lC O N G p 3 sa)∧(okD 300 sa=true)∧(qq P (⟨O,N,G⟩) (BinOp.gtr) (3) (true) (.int .i64 z1) (.int .i64 0)=(some (.bool (decide (z1 > (0:Int))))))∧(lN O N G 32 sn z1)∧(lC O N G p 2 sn)∧(okD 300 sn=true)∧(True)∧(qq P (⟨O,N,G⟩) (BinOp.neq) (23) (true) (rp) (.nilp)=(some (.bool b1)))∧(lC O N G p 4 rp)∧(okD 300 rp=true)∧(qq P (⟨O,N,G⟩) (BinOp.gtr) (3) (true) (.int .i64 z2) (.int .i64 0)=(some (.bool (decide (z2 > (0:Int))))))∧(lN O N G 33 sa z2)∧(lC O N G p 3 sa)∧(okD 300 sa=true)∧(True)∧(qq P (⟨O,N,G⟩) (BinOp.neq) (23) (true) (rp) (.nilp)=(some (.bool b1)))∧(lC O N G p 4 rp)∧(okD 300 rp=true)∧(lC O N G p 0 (.int .i64 k))∧(((k==(1:Int)))=true→((((!!nm==([]:List UInt8)))=true→((((!decide (z1 > (0:Int))))=true→((((!decide (z2 > (0:Int))))=true→(K (AM.mk (RF 86 96 (tX tZ (tY (.bool !b1))) [cdi 86 [1,1,0,1,0,1,0,1],.inBlock 0,cdi 86 [1,1,1]]) rest ⟨O,N,G⟩)))∧(((!decide (z2 > (0:Int))))=false→(K (AM.mk (RF 86 96 (tX tZ (tY (.bool false))) [cdi 86 [1,1,0,1,0,1,0,1],.inBlock 0,cdi 86 [1,1,1]]) rest ⟨O,N,G⟩)))))∧(((!decide (z1 > (0:Int))))=false→(K (AM.mk (RF 86 96 (tX tZ (tY (.bool false))) [cdi 86 [1,1,0,1,0,1,0,1],.inBlock 0,cdi 86 [1,1,1]]) rest ⟨O,N,G⟩)))))∧(((!!nm==([]:List UInt8)))=false→(K (AM.mk (RF 86 96 (tX tZ (tY (.bool false))) [cdi 86 [1,1,0,1,0,1,0,1],.inBlock 0,cdi 86 [1,1,1]]) rest ⟨O,N,G⟩)))))∧(((k==(1:Int)))=false→((((k==(2:Int)))=true→((((!!nm==([]:List UInt8)))=true→((((!decide (z1 > (0:Int))))=true→((((!decide (z2 > (0:Int))))=true→(K (AM.mk (RF 86 96 (tX tZ (tY (.bool !b1))) [cdi 86 [1,1,0,1,0,1,0,1],.inBlock 0,cdi 86 [1,1,1]]) rest ⟨O,N,G⟩)))∧(((!decide (z2 > (0:Int))))=false→(K (AM.mk (RF 86 96 (tX tZ (tY (.bool false))) [cdi 86 [1,1,0,1,0,1,0,1],.inBlock 0,cdi 86 [1,1,1]]) rest ⟨O,N,G⟩)))))∧(((!decide (z1 > (0:Int))))=false→(K (AM.mk (RF 86 96 (tX tZ (tY (.bool false))) [cdi 86 [1,1,0,1,0,1,0,1],.inBlock 0,cdi 86 [1,1,1]]) rest ⟨O,N,G⟩)))))∧(((!!nm==([]:List UInt8)))=false→(K (AM.mk (RF 86 96 (tX tZ (tY (.bool false))) [cdi 86 [1,1,0,1,0,1,0,1],.inBlock 0,cdi 86 [1,1,1]]) rest ⟨O,N,G⟩)))))∧(((k==(2:Int)))=false→((((k==(3:Int)))=true→((((!!nm==([]:List UInt8)))=true→((((!decide (z1 > (0:Int))))=true→((((!decide (z2 > (0:Int))))=true→(K (AM.mk (RF 86 96 (tX tZ (tY (.bool !b1))) [cdi 86 [1,1,0,1,0,1,0,1],.inBlock 0,cdi 86 [1,1,1]]) rest ⟨O,N,G⟩)))∧(((!decide (z2 > (0:Int))))=false→(K (AM.mk (RF 86 96 (tX tZ (tY (.bool false))) [cdi 86 [1,1,0,1,0,1,0,1],.inBlock 0,cdi 86 [1,1,1]]) rest ⟨O,N,G⟩)))))∧(((!decide (z1 > (0:Int))))=false→(K (AM.mk (RF 86 96 (tX tZ (tY (.bool false))) [cdi 86 [1,1,0,1,0,1,0,1],.inBlock 0,cdi 86 [1,1,1]]) rest ⟨O,N,G⟩)))))∧(((!!nm==([]:List UInt8)))=false→(K (AM.mk (RF 86 96 (tX tZ (tY (.bool false))) [cdi 86 [1,1,0,1,0,1,0,1],.inBlock 0,cdi 86 [1,1,1]]) rest ⟨O,N,G⟩)))))∧(((k==(3:Int)))=false→((((k==(4:Int)))=true→((((!!nm==([]:List UInt8)))=true→((((!decide (z1 > (0:Int))))=true→((((!decide (z2 > (0:Int))))=true→(K (AM.mk (RF 86 96 (tX tZ (tY (.bool !b1))) [cdi 86 [1,1,0,1,0,1,0,1],.inBlock 0,cdi 86 [1,1,1]]) rest ⟨O,N,G⟩)))∧(((!decide (z2 > (0:Int))))=false→(K (AM.mk (RF 86 96 (tX tZ (tY (.bool false))) [cdi 86 [1,1,0,1,0,1,0,1],.inBlock 0,cdi 86 [1,1,1]]) rest ⟨O,N,G⟩)))))∧(((!decide (z1 > (0:Int))))=false→(K (AM.mk (RF 86 96 (tX tZ (tY (.bool false))) [cdi 86 [1,1,0,1,0,1,0,1],.inBlock 0,cdi 86 [1,1,1]]) rest ⟨O,N,G⟩)))))∧(((!!nm==([]:List UInt8)))=false→(K (AM.mk (RF 86 96 (tX tZ (tY (.bool false))) [cdi 86 [1,1,0,1,0,1,0,1],.inBlock 0,cdi 86 [1,1,1]]) rest ⟨O,N,G⟩)))))∧(((k==(4:Int)))=false→((((k==(5:Int)))=true→((((!!nm==([]:List UInt8)))=true→((((!decide (z1 > (0:Int))))=true→((((!decide (z2 > (0:Int))))=true→(K (AM.mk (RF 86 96 (tX tZ (tY (.bool !b1))) [cdi 86 [1,1,0,1,0,1,0,1],.inBlock 0,cdi 86 [1,1,1]]) rest ⟨O,N,G⟩)))∧(((!decide (z2 > (0:Int))))=false→(K (AM.mk (RF 86 96 (tX tZ (tY (.bool false))) [cdi 86 [1,1,0,1,0,1,0,1],.inBlock 0,cdi 86 [1,1,1]]) rest ⟨O,N,G⟩)))))∧(((!decide (z1 > (0:Int))))=false→(K (AM.mk (RF 86 96 (tX tZ (tY (.bool false))) [cdi 86 [1,1,0,1,0,1,0,1],.inBlock 0,cdi 86 [1,1,1]]) rest ⟨O,N,G⟩)))))∧(((!!nm==([]:List UInt8)))=false→(K (AM.mk (RF 86 96 (tX tZ (tY (.bool false))) [cdi 86 [1,1,0,1,0,1,0,1],.inBlock 0,cdi 86 [1,1,1]]) rest ⟨O,N,G⟩)))))∧(((k==(5:Int)))=false→((((k==(6:Int)))=true→((((!decide (z1 > (0:Int))))=true→((((!decide (z2 > (0:Int))))=true→(K (AM.mk (RF 86 96 (tX tZ (tY (.bool !b1))) [cdi 86 [1,1,0,1,0,1,0,1],.inBlock 0,cdi 86 [1,1,1]]) rest ⟨O,N,G⟩)))∧(((!decide (z2 > (0:Int))))=false→(K (AM.mk (RF 86 96 (tX tZ (tY (.bool false))) [cdi 86 [1,1,0,1,0,1,0,1],.inBlock 0,cdi 86 [1,1,1]]) rest ⟨O,N,G⟩)))))∧(((!decide (z1 > (0:Int))))=false→(K (AM.mk (RF 86 96 (tX tZ (tY (.bool false))) [cdi 86 [1,1,0,1,0,1,0,1],.inBlock 0,cdi 86 [1,1,1]]) rest ⟨O,N,G⟩)))))∧(((k==(6:Int)))=false→((((k==(7:Int)))=true→((((!!nm==([]:List UInt8)))=true→(K (AM.mk (RF 86 96 (tX tZ (tY (.bool !b1))) [cdi 86 [1,1,0,1,0,1,0,1],.inBlock 0,cdi 86 [1,1,1]]) rest ⟨O,N,G⟩)))∧(((!!nm==([]:List UInt8)))=false→(K (AM.mk (RF 86 96 (tX tZ (tY (.bool false))) [cdi 86 [1,1,0,1,0,1,0,1],.inBlock 0,cdi 86 [1,1,1]]) rest ⟨O,N,G⟩)))))∧(((k==(7:Int)))=false→((((k==(8:Int)))=true→((((!!nm==([]:List UInt8)))=true→((((!decide (z1 > (0:Int))))=true→(K (AM.mk (RF 86 96 (tX tZ (tY (.bool b1))) [cdi 86 [1,1,0,1,0,1,0,1],.inBlock 0,cdi 86 [1,1,1]]) rest ⟨O,N,G⟩)))∧(((!decide (z1 > (0:Int))))=false→(K (AM.mk (RF 86 96 (tX tZ (tY (.bool false))) [cdi 86 [1,1,0,1,0,1,0,1],.inBlock 0,cdi 86 [1,1,1]]) rest ⟨O,N,G⟩)))))∧(((!!nm==([]:List UInt8)))=false→(K (AM.mk (RF 86 96 (tX tZ (tY (.bool false))) [cdi 86 [1,1,0,1,0,1,0,1],.inBlock 0,cdi 86 [1,1,1]]) rest ⟨O,N,G⟩)))))∧(((k==(8:Int)))=false→((((k==(9:Int)))=true→((((!!nm==([]:List UInt8)))=true→((((!decide (z1 > (0:Int))))=true→(K (AM.mk (RF 86 96 (tX tZ (tY (.bool !b1))) [cdi 86 [1,1,0,1,0,1,0,1],.inBlock 0,cdi 86 [1,1,1]]) rest ⟨O,N,G⟩)))∧(((!decide (z1 > (0:Int))))=false→(K (AM.mk (RF 86 96 (tX tZ (tY (.bool false))) [cdi 86 [1,1,0,1,0,1,0,1],.inBlock 0,cdi 86 [1,1,1]]) rest ⟨O,N,G⟩)))))∧(((!!nm==([]:List UInt8)))=false→(K (AM.mk (RF 86 96 (tX tZ (tY (.bool false))) [cdi 86 [1,1,0,1,0,1,0,1],.inBlock 0,cdi 86 [1,1,1]]) rest ⟨O,N,G⟩)))))∧(((k==(9:Int)))=false→(K (AM.mk (RF 86 96 (tX tZ (tY (.bool false))) [cdi 86 [1,1,0,1,0,1,0,1]]) rest ⟨O,N,G⟩))))))))))))))))))))=OT f0 R keep K (.ex fun z1:Int=>(.ex fun z2:Int=>(.ex fun b1:Bool=>(.seq [.run 9,.hop (.str nm) O,.run 4,.hop (sn) O,.hopn (.int .i64 z1) O (N),.run 4,.hop (sa) O,.hopn (.int .i64 z2) O (N),.run 4,.hop (rp) O,.hop (.bool b1) O,.hop (.nilp) O,.hop (.nilp) O,.hop (.nilp) O,.run 8,.hop (.int .i64 k) O,.run 8] (.fork 33 (.seq [.run 8] (.fork 41 (.seq [.run 4] (.fork 45 (.seq [.run 4] (.fork 49 (.seq [.run 6,.keep [2]] .fin) (.seq [.run 6,.keep [2]] .fin))) (.seq [.run 10,.keep [2]] .fin))) (.seq [.run 14,.keep [2]] .fin))) (.seq [.run 6] (.fork 33 (.seq [.run 8] (.fork 41 (.seq [.run 4] (.fork 45 (.seq [.run 4] (.fork 49 (.seq [.run 6,.keep [2]] .fin) (.seq [.run 6,.keep [2]] .fin))) (.seq [.run 10,.keep [2]] .fin))) (.seq [.run 14,.keep [2]] .fin))) (.seq [.run 6] (.fork 33 (.seq [.run 8] (.fork 41 (.seq [.run 4] (.fork 45 (.seq [.run 4] (.fork 49 (.seq [.run 6,.keep [2]] .fin) (.seq [.run 6,.keep [2]] .fin))) (.seq [.run 10,.keep [2]] .fin))) (.seq [.run 14,.keep [2]] .fin))) (.seq [.run 6] (.fork 33 (.seq [.run 8] (.fork 41 (.seq [.run 4] (.fork 45 (.seq [.run 4] (.fork 49 (.seq [.run 6,.keep [2]] .fin) (.seq [.run 6,.keep [2]] .fin))) (.seq [.run 10,.keep [2]] .fin))) (.seq [.run 14,.keep [2]] .fin))) (.seq [.run 5] (.fork 33 (.seq [.run 6] (.fork 41 (.seq [.run 4] (.fork 45 (.seq [.run 4] (.fork 49 (.seq [.run 6,.keep [2]] .fin) (.seq [.run 6,.keep [2]] .fin))) (.seq [.run 10,.keep [2]] .fin))) (.seq [.run 14,.keep [2]] .fin))) (.seq [.run 6] (.fork 53 (.seq [.run 6] (.fork 57 (.seq [.run 4] (.fork 61 (.seq [.run 6,.keep [2]] .fin) (.seq [.run 6,.keep [2]] .fin))) (.seq [.run 10,.keep [2]] .fin))) (.seq [.run 6] (.fork 65 (.seq [.run 6] (.fork 69 (.seq [.run 6,.keep [2]] .fin) (.seq [.run 6,.keep [2]] .fin))) (.seq [.run 6] (.fork 73 (.seq [.run 6] (.fork 77 (.seq [.run 4] (.fork 81 (.seq [.run 5,.keep [2]] .fin) (.seq [.run 5,.keep [2]] .fin))) (.seq [.run 9,.keep [2]] .fin))) (.seq [.run 6] (.fork 84 (.seq [.run 6] (.fork 88 (.seq [.run 4] (.fork 92 (.seq [.run 6,.keep [2]] .fin) (.seq [.run 6,.keep [2]] .fin))) (.seq [.run 10,.keep [2]] .fin))) (.seq [.run 8,.keep [2]] .fin)))))))))))))))))))))) ((AM.mk (enF 86 [.ptr p 0 0]) rest ⟨O,N,G⟩)):=by kernel_rfl
end
variable {O O':T AObj} {N:Nat} {G:T (T AV)}
theorem kj {r:Ty}{q:Option Nat}{hi:Nat}(h:Tr O hi r q)(N:Nat):qq P ⟨O,N,G⟩ BinOp.neq 23 true (pv q) .nilp=some (.bool (!isNo r)):=by
 cases h with
 | no=>rfl
 | mk=>rfl
theorem zpI {α:Type}{l:List α}:l.isEmpty=!decide (((l.length:Nat):Int) > 0):=by cases l <;> simp
theorem ztI {l:List UInt8}:l.isEmpty=!(!(l==([]:List UInt8))):=by cases l <;> rfl
theorem zn {k:Int}{nm:List UInt8}{ns:List (List UInt8)}{ts:List Ty}{r:Ty}:own k nm ns ts r=(if 1≤k∧k≤5 then !(!(nm==([]:List UInt8)))&&!decide (((ns.length:Nat):Int) > 0)&&!decide (((ts.length:Nat):Int) > 0)&&isNo r
 else if k=6 then !decide (((ns.length:Nat):Int) > 0)&&!decide (((ts.length:Nat):Int) > 0)&&isNo r
 else if k=7 then !(!(nm==([]:List UInt8)))&&isNo r
 else if k=8 then !(!(nm==([]:List UInt8)))&&!decide (((ns.length:Nat):Int) > 0)&&!isNo r
 else if k=9 then !(!(nm==([]:List UInt8)))&&!decide (((ns.length:Nat):Int) > 0)&&isNo r
 else false):=by
 unfold own;rw [zpI (l:=ns),zpI (l:=ts),ztI]
theorem ho_ok {k:Int}{nm:List UInt8}{ns:List (List UInt8)}{ts:List Ty}{r:Ty}{p:Nat}{sn sa:AV}{ps:List (Option Nat)}{q:Option Nat}{lo hi lo' hi' h':Nat}(h2:Obj O p [.int .i64 k,.str nm,sn,sa,pv q])(h3:SV O 1 sE lo hi ns sn)(h4:SV O 1 pE lo' hi' ps sa)(h6:ps.length=ts.length)(h5:Tr O h' r q){keep:Nat}{f0:FuncId}{Q:AV→AHeap→Prop}{rest:List AFrame}
 (hK:∀ td,Goal P keep f0 Q (AM.mk (RF 86 96 (tX tZ (tY (.bool (own k nm ns ts r)))) td) rest ⟨O,N,G⟩)):Goal P keep f0 Q (AM.mk (enF 86 [.ptr p 0 0]) rest ⟨O,N,G⟩):=by
 have own_leaf:∀ {v:Bool} {td:List AItem},own k nm ns ts r=v→(∀ td,Goal P keep f0 Q (AM.mk (RF 86 96 (tX tZ (tY (.bool (own k nm ns ts r)))) td) rest ⟨O,N,G⟩))→Goal P keep f0 Q (AM.mk (RF 86 96 (tX tZ (tY (.bool v))) td) rest ⟨O,N,G⟩):=fun h hK=>h▸hK _;refine ot (t_ho (k:=k) (nm:=nm) (sn:=sn) (sa:=sa) (rp:=pv q)) ⟨((ns.length:Nat):Int),((ts.length:Nat):Int),(!isNo r),h2.ld 1 rfl,h2.ld 2 rfl,h3.len sSl _ _,h2.ld 3 rfl,(by rw [← h6]; exact h4.len pSl _ _),h2.ld 4 rfl,kj h5 _,trivial,kj h5 _,h2.ld 4 rfl,zan _,rfl,(by rw [← h6]; exact h4.len pSl _ _),h2.ld 3 rfl,yT h4,rfl,h3.len sSl _ _,h2.ld 2 rfl,yT h3,trivial,kj h5 _,h2.ld 4 rfl,zan _,rfl,(by rw [← h6]; exact h4.len pSl _ _),h2.ld 3 rfl,yT h4,trivial,kj h5 _,h2.ld 4 rfl,zan _,h2.ld 0 rfl,fun hc2=>?_,fun hc2=>?_⟩
 ·
  refine ⟨fun hc3=>?_,fun hc3=>?_⟩
  ·
   refine ⟨fun hc4=>?_,fun hc4=>?_⟩
   ·
    refine ⟨fun hc5=>?_,fun hc5=>?_⟩
    ·
     refine own_leaf (v:=!(!isNo r)) ?_ hK;clear hK own_leaf h2 h3 h4 h5;rw [zn];simp only [beq_iff_eq,beq_eq_false_iff_ne] at *
     simp_all <;> (intros; omega)
    ·
     refine own_leaf (v:=false) ?_ hK;clear hK own_leaf h2 h3 h4 h5;rw [zn];simp only [beq_iff_eq,beq_eq_false_iff_ne] at *
     simp_all <;> (intros; omega)
   ·
    refine own_leaf (v:=false) ?_ hK;clear hK own_leaf h2 h3 h4 h5;rw [zn];simp only [beq_iff_eq,beq_eq_false_iff_ne] at *
    simp_all <;> (intros; omega)
  ·
   refine own_leaf (v:=false) ?_ hK;clear hK own_leaf h2 h3 h4 h5;rw [zn];simp only [beq_iff_eq,beq_eq_false_iff_ne] at *
   simp_all <;> (intros; omega)
 ·
  refine ⟨fun hc6=>?_,fun hc6=>?_⟩
  ·
   refine ⟨fun hc7=>?_,fun hc7=>?_⟩
   ·
    refine ⟨fun hc8=>?_,fun hc8=>?_⟩
    ·
     refine ⟨fun hc9=>?_,fun hc9=>?_⟩
     ·
      refine own_leaf (v:=!(!isNo r)) ?_ hK;clear hK own_leaf h2 h3 h4 h5;rw [zn];simp only [beq_iff_eq,beq_eq_false_iff_ne] at *
      simp_all <;> (intros; omega)
     ·
      refine own_leaf (v:=false) ?_ hK;clear hK own_leaf h2 h3 h4 h5;rw [zn];simp only [beq_iff_eq,beq_eq_false_iff_ne] at *
      simp_all <;> (intros; omega)
    ·
     refine own_leaf (v:=false) ?_ hK;clear hK own_leaf h2 h3 h4 h5;rw [zn];simp only [beq_iff_eq,beq_eq_false_iff_ne] at *
     simp_all <;> (intros; omega)
   ·
    refine own_leaf (v:=false) ?_ hK;clear hK own_leaf h2 h3 h4 h5;rw [zn];simp only [beq_iff_eq,beq_eq_false_iff_ne] at *
    simp_all <;> (intros; omega)
  ·
   refine ⟨fun hc10=>?_,fun hc10=>?_⟩
   ·
    refine ⟨fun hc11=>?_,fun hc11=>?_⟩
    ·
     refine ⟨fun hc12=>?_,fun hc12=>?_⟩
     ·
      refine ⟨fun hc13=>?_,fun hc13=>?_⟩
      ·
       refine own_leaf (v:=!(!isNo r)) ?_ hK;clear hK own_leaf h2 h3 h4 h5;rw [zn];simp only [beq_iff_eq,beq_eq_false_iff_ne] at *
       simp_all <;> (intros; omega)
      ·
       refine own_leaf (v:=false) ?_ hK;clear hK own_leaf h2 h3 h4 h5;rw [zn];simp only [beq_iff_eq,beq_eq_false_iff_ne] at *
       simp_all <;> (intros; omega)
     ·
      refine own_leaf (v:=false) ?_ hK;clear hK own_leaf h2 h3 h4 h5;rw [zn];simp only [beq_iff_eq,beq_eq_false_iff_ne] at *
      simp_all <;> (intros; omega)
    ·
     refine own_leaf (v:=false) ?_ hK;clear hK own_leaf h2 h3 h4 h5;rw [zn];simp only [beq_iff_eq,beq_eq_false_iff_ne] at *
     simp_all <;> (intros; omega)
   ·
    refine ⟨fun hc14=>?_,fun hc14=>?_⟩
    ·
     refine ⟨fun hc15=>?_,fun hc15=>?_⟩
     ·
      refine ⟨fun hc16=>?_,fun hc16=>?_⟩
      ·
       refine ⟨fun hc17=>?_,fun hc17=>?_⟩
       ·
        refine own_leaf (v:=!(!isNo r)) ?_ hK;clear hK own_leaf h2 h3 h4 h5;rw [zn];simp only [beq_iff_eq,beq_eq_false_iff_ne] at *
        simp_all <;> (intros; omega)
       ·
        refine own_leaf (v:=false) ?_ hK;clear hK own_leaf h2 h3 h4 h5;rw [zn];simp only [beq_iff_eq,beq_eq_false_iff_ne] at *
        simp_all <;> (intros; omega)
      ·
       refine own_leaf (v:=false) ?_ hK;clear hK own_leaf h2 h3 h4 h5;rw [zn];simp only [beq_iff_eq,beq_eq_false_iff_ne] at *
       simp_all <;> (intros; omega)
     ·
      refine own_leaf (v:=false) ?_ hK;clear hK own_leaf h2 h3 h4 h5;rw [zn];simp only [beq_iff_eq,beq_eq_false_iff_ne] at *
      simp_all <;> (intros; omega)
    ·
     refine ⟨fun hc18=>?_,fun hc18=>?_⟩
     ·
      refine ⟨fun hc19=>?_,fun hc19=>?_⟩
      ·
       refine ⟨fun hc20=>?_,fun hc20=>?_⟩
       ·
        refine ⟨fun hc21=>?_,fun hc21=>?_⟩
        ·
         refine own_leaf (v:=!(!isNo r)) ?_ hK;clear hK own_leaf h2 h3 h4 h5;rw [zn];simp only [beq_iff_eq,beq_eq_false_iff_ne] at *
         simp_all <;> (intros; omega)
        ·
         refine own_leaf (v:=false) ?_ hK;clear hK own_leaf h2 h3 h4 h5;rw [zn];simp only [beq_iff_eq,beq_eq_false_iff_ne] at *
         simp_all <;> (intros; omega)
       ·
        refine own_leaf (v:=false) ?_ hK;clear hK own_leaf h2 h3 h4 h5;rw [zn];simp only [beq_iff_eq,beq_eq_false_iff_ne] at *
        simp_all <;> (intros; omega)
      ·
       refine own_leaf (v:=false) ?_ hK;clear hK own_leaf h2 h3 h4 h5;rw [zn];simp only [beq_iff_eq,beq_eq_false_iff_ne] at *
       simp_all <;> (intros; omega)
     ·
      refine ⟨fun hc22=>?_,fun hc22=>?_⟩
      ·
       refine ⟨fun hc23=>?_,fun hc23=>?_⟩
       ·
        refine ⟨fun hc24=>?_,fun hc24=>?_⟩
        ·
         refine own_leaf (v:=!(!isNo r)) ?_ hK;clear hK own_leaf h2 h3 h4 h5;rw [zn];simp only [beq_iff_eq,beq_eq_false_iff_ne] at *
         simp_all <;> (intros; omega)
        ·
         refine own_leaf (v:=false) ?_ hK;clear hK own_leaf h2 h3 h4 h5;rw [zn];simp only [beq_iff_eq,beq_eq_false_iff_ne] at *
         simp_all <;> (intros; omega)
       ·
        refine own_leaf (v:=false) ?_ hK;clear hK own_leaf h2 h3 h4 h5;rw [zn];simp only [beq_iff_eq,beq_eq_false_iff_ne] at *
        simp_all <;> (intros; omega)
      ·
       refine ⟨fun hc25=>?_,fun hc25=>?_⟩
       ·
        refine ⟨fun hc26=>?_,fun hc26=>?_⟩
        ·
         refine own_leaf (v:=!(!isNo r)) ?_ hK;clear hK own_leaf h2 h3 h4 h5;rw [zn];simp only [beq_iff_eq,beq_eq_false_iff_ne] at *
         simp_all <;> (intros; omega)
        ·
         refine own_leaf (v:=false) ?_ hK;clear hK own_leaf h2 h3 h4 h5;rw [zn];simp only [beq_iff_eq,beq_eq_false_iff_ne] at *
         simp_all <;> (intros; omega)
       ·
        refine ⟨fun hc27=>?_,fun hc27=>?_⟩
        ·
         refine ⟨fun hc28=>?_,fun hc28=>?_⟩
         ·
          refine ⟨fun hc29=>?_,fun hc29=>?_⟩
          ·
           refine own_leaf (v:=!isNo r) ?_ hK;clear hK own_leaf h2 h3 h4 h5;rw [zn];simp only [beq_iff_eq,beq_eq_false_iff_ne] at *
           simp_all <;> (intros; omega)
          ·
           refine own_leaf (v:=false) ?_ hK;clear hK own_leaf h2 h3 h4 h5;rw [zn];simp only [beq_iff_eq,beq_eq_false_iff_ne] at *
           simp_all <;> (intros; omega)
         ·
          refine own_leaf (v:=false) ?_ hK;clear hK own_leaf h2 h3 h4 h5;rw [zn];simp only [beq_iff_eq,beq_eq_false_iff_ne] at *
          simp_all <;> (intros; omega)
        ·
         refine ⟨fun hc30=>?_,fun hc30=>?_⟩
         ·
          refine ⟨fun hc31=>?_,fun hc31=>?_⟩
          ·
           refine ⟨fun hc32=>?_,fun hc32=>?_⟩
           ·
            refine own_leaf (v:=!(!isNo r)) ?_ hK;clear hK own_leaf h2 h3 h4 h5;rw [zn];simp only [beq_iff_eq,beq_eq_false_iff_ne] at *
            simp_all <;> (intros; omega)
           ·
            refine own_leaf (v:=false) ?_ hK;clear hK own_leaf h2 h3 h4 h5;rw [zn];simp only [beq_iff_eq,beq_eq_false_iff_ne] at *
            simp_all <;> (intros; omega)
          ·
           refine own_leaf (v:=false) ?_ hK;clear hK own_leaf h2 h3 h4 h5;rw [zn];simp only [beq_iff_eq,beq_eq_false_iff_ne] at *
           simp_all <;> (intros; omega)
         ·
          refine own_leaf (v:=false) ?_ hK;clear hK own_leaf h2 h3 h4 h5;rw [zn];simp only [beq_iff_eq,beq_eq_false_iff_ne] at *
          simp_all <;> (intros; omega)
end Go.Proofs.Ytcdigdplhlgcaaa.gx
end
section
set_option maxRecDepth 100000
set_option linter.unusedVariables false
set_option linter.unusedSectionVars false
set_option linter.unusedSimpArgs false
namespace Go.Proofs.Ytcdigdplhlgcaaa.gx
open Go Ev tp
noncomputable def SZB:Code:=match cd P 14 [1,1,0,1,0] with | .rangeFunc _ _ _ b=>b | _=>.skip def szT (nc bx:Nat) (pp:AV):T AV:=(tW (tX (tY (.ptr nc 0 0)) (tY (.fn (Fn.func 91) [] [.ptr bx 0 0]))) pp (tW (tY pp) (.int .i64 0) tZ)) noncomputable def szL (nc bx:Nat) (pp:AV) (d:Nat) (st:LoopState) (pend:Option Code):ALoop:=⟨st,pend,14,12,szT nc bx pp,#[6],.skip,SZB,d⟩
noncomputable def Fsiz (N:Nat) (pp:AV):AFrame:=frm 14 12 (tW (tX (tY (.ptr N 0 0)) tZ) pp (tW (tY pp) (.int .i64 0) tZ)) [opi 14 [1,1,0,0] 1,cdi 14 [1,1,0,1],cdi 14 [1,1,1]]
noncomputable def zbt (N:Nat) (bx:Nat) (pp:AV) (Nc:Nat):AFrame:=⟨14,12,(tW (tX (tY (.ptr Nc 0 0)) (tY (.fn (Fn.func (91:FuncId)) [] [.ptr bx 0 0]))) pp (tW (tY pp) (.int .i64 0) tZ)),   [.inRange (N+1),.inBlock 0,cdi 14 [1,1,1]],[.mk (.collected N) []],.run,CallKind.normal,none⟩
noncomputable def Fma1 (N:Nat) (bx:Nat) (l:Nat) (pp:AV):AFrame:=frm 91 8 (tW (tW (tY (.ptr (N+1) 0 0)) (.ptr bx 0 0) (tY (.fn (Fn.func 92) [] [.ptr N 0 0,.ptr (N+1) 0 0]))) (.yld l) (tW (tY (.fn (Fn.func 92) [] [.ptr N 0 0,.ptr (N+1) 0 0])) (.ptr N 0 0) (tY pp))) [opi 91 [1,1,1] 2]
noncomputable def Ftes (p:Nat) (l:Nat) (tb:Nat) (yb:Nat):AFrame:=frm 92 33 (tW (tW (tX (tY (.ptr p 0 0)) tZ) (.ptr yb 0 0) (tX (tY (.yld l)) tZ)) (.ptr p 0 0) (tW (tW (tY (.bool false)) (.bool false) tZ) (.ptr tb 0 0) (tX (tY (.ptr p 0 0)) tZ))) [opi 92 [1,1,0,0] 2,cdi 92 [1,1,0,1],cdi 92 [1,1,1]]
noncomputable def ztW (p:Nat) (sa:AV) (n:Int) (j:Int) (tb:Nat) (rest:List AFrame) (O:T AObj) (N:Nat) (G:T (T AV)):AM:=⟨frm 92 33 (tW (tX tZ (tX (tX (tY (.int .i64 n)) tZ) tZ)) (.ptr p 0 0) (tW (tX (tX (tY sa) tZ) tZ) (.ptr tb 0 0) (tX (tX (tY (.int .i64 j)) tZ) tZ))) [cdi 92 [1,1,1,0,1,0,0],ili 92 [1,1,1,0,1,0,0],.inBlock 0,cdi 92 [1,1,1,1]],rest,⟨O,N,G⟩⟩
noncomputable def zpW (p:Nat) (sa:AV) (n:Int) (j:Int) (i1:Nat) (i2:Nat) (i3:Nat) (s1:AV) (tb:Nat) (yb:Nat):AFrame:=frm 92 33 (tW (tX (tX (tX tZ (tY s1)) (tX (tY (.bool true)) tZ)) (tX (tX (tY (.int .i64 n)) tZ) (tX (tY s1) tZ))) (.ptr p 0 0) (tW (tX (tX (tY sa) tZ) (tX (tY (.ptr i1 i2 i3)) tZ)) (.ptr tb 0 0) (tW (tX (tY (.int .i64 j)) tZ) s1 (tX (tY (.fn (Fn.func (92:FuncId)) [] [.ptr yb 0 0,.ptr tb 0 0])) tZ)))) [opi 92 [1,1,1,0,1,0,0,1,1,0,0,1,0] 2,cdi 92 [1,1,1,0,1,0,0,1,1,0,0,1,1],.inBlock 1,cdi 92 [1,1,1,0,1,0,0,1,1,1],ili 92 [1,1,1,0,1,0,0],.inBlock 0,cdi 92 [1,1,1,1]]
noncomputable def zto (p:Nat) (sa:AV) (rp:AV) (n:Int) (j:Int) (tb:Nat) (yb:Nat):AFrame:=frm 92 33 (tW (tX (tX (tX (tX (tY rp) tZ) tZ) (tX (tY (.bool false)) (tY (.fn (Fn.func (92:FuncId)) [] [.ptr yb 0 0,.ptr tb 0 0])))) (tX (tX (tY (.int .i64 n)) tZ) (tX tZ (tY (.ptr p 0 0))))) (.ptr p 0 0) (tW (tX (tX (tY sa) tZ) (tX tZ (tY (.ptr p 0 0)))) (.ptr tb 0 0) (tX (tX (tY (.int .i64 j)) tZ) (tX tZ (tY (.ptr p 0 4)))))) [.drw (rg P 92 [1,1,1,1,0]) [5,6] [4,3,2,1,0],cdi 92 [1,0,1,0,1]]
theorem q_siz (R:AV→AHeap→Prop)(keep:Nat)(f0:FuncId)(rest:List AFrame)(N:Nat)(O:T AObj)(pp:AV)(O1:T AObj)(O2:T AObj)(G:T (T AV))(K:AM→Prop):Obl P f0 (fun v h=>R v h) keep K [.run 6,.hop (.nilp) O1,.hop (.nilp) O2,.run 6] ((AM.mk (enF 14 [pp]) rest ⟨O,N,G⟩))=((T.set ((some (.cells (tY (.int .i64 0)) 1 3 0 0 1 0 false .leaf))) (O) (N)=O1)∧(zc (⟨O1,N+1,G⟩) (N) 0 0 ([.int .i64 0])=(some ⟨O2,N+1,G⟩))∧K (AM.mk (enF 44 [pp]) ((Fsiz N pp)::rest) ⟨O2,N+1,G⟩)):=by kernel_rfl
theorem znA (R:AV→AHeap→Prop)(keep:Nat)(f0:FuncId)(rest:List AFrame)(td:List AItem)(N:Nat)(O:T AObj)(bx:Nat)(pp:AV)(Nc:Nat)(G:T (T AV))(K:AM→Prop):Obl P f0 (fun v h=>R v h) keep K [.run 4] ((AM.mk (RF 44 4 (tX tZ (tY (.fn (.func 91) [] [.ptr bx 0 0]))) td) ((Fsiz Nc pp)::rest) ⟨O,N,G⟩))=(K (AM.mk (enF 91 [.yld (N+1),.ptr bx 0 0]) ((zbt N bx pp Nc)::rest) ⟨T.set (some (.loop (szL Nc bx pp N .ready none))) (T.set (some (.dfrd (some []))) O N) (N+1),N+2,G⟩)):=by kernel_rfl
theorem q_mad (R:AV→AHeap→Prop)(keep:Nat)(f0:FuncId)(rest:List AFrame)(N:Nat)(O:T AObj)(pp:AV)(O1:T AObj)(G:T (T AV))(K:AM→Prop):Obl P f0 (fun v h=>R v h) keep K [.run 2,.hopn (.nilp) O1 (N),.run 8,.keep [2]] ((AM.mk (enF 44 [pp]) rest ⟨O,N,G⟩))=(((Nat.beq 1 pp.cells.length&&pp.cells.all AV.one)=true∧T.set (some (AObj.cells (zd T.leaf 0 pp.cells) pp.cells.length 23 0 0 1 0 false T.leaf)) (⟨O,N,G⟩:AHeap).objs N=O1)∧K (AM.mk (RF 44 4 (tX tZ (tY (.fn (Fn.func 91) [] [.ptr N 0 0]))) [cdi 44 [1,1]]) rest ⟨O1,N+1,G⟩)):=by kernel_rfl
theorem q_ma1 (R:AV→AHeap→Prop)(keep:Nat)(f0:FuncId)(rest:List AFrame)(N:Nat)(O:T AObj)(bx:Nat)(l:Nat)(pp:AV)(O1:T AObj)(O2:T AObj)(O3:T AObj)(G:T (T AV))(K:AM→Prop):Obl P f0 (fun v h=>R v h) keep K [.run 2,.hop (.nilp) O1,.run 3,.hop (.nilp) O2,.run 4,.hop (.nilp) O3,.run 2,.hop (.fn (Fn.func 92) [] [.ptr N 0 0,.ptr (N+1) 0 0]) O3,.hop (pp) O3,.run 1] ((AM.mk (enF 91 [.yld l,.ptr bx 0 0]) rest ⟨O,N,G⟩))=((T.set ((some (.cells (tY (.yld l)) 1 50 0 0 1 0 false .leaf))) (O) (N)=O1)∧(T.set ((some (.cells (tY .nilf) 1 50 0 0 1 0 false .leaf))) (O1) (N+1)=O2)∧(zc (⟨O2,N+2,G⟩) (N+1) 0 0 ([.fn (Fn.func 92) [] [.ptr N 0 0,.ptr (N+1) 0 0]])=(some ⟨O3,N+2,G⟩))∧(zb (⟨O3,N+2,G⟩) (N+1) 0 0 1=(some [.fn (Fn.func 92) [] [.ptr N 0 0,.ptr (N+1) 0 0]]))∧(zb (⟨O3,N+2,G⟩) (bx) 0 0 1=(some [pp]))∧K (AM.mk (enF 92 [pp,.ptr N 0 0,.ptr (N+1) 0 0]) ((Fma1 N bx l pp)::rest) ⟨O3,N+2,G⟩)):=by kernel_rfl
theorem znr (R:AV→AHeap→Prop)(keep:Nat)(f0:FuncId)(rest:List AFrame)(td:List AItem)(N:Nat)(O:T AObj)(bx:Nat)(bv:Bool)(l:Nat)(pp:AV)(Nc:Nat)(G:T (T AV))(K:AM→Prop):Obl P f0 (fun v h=>R v h) keep K [.run 3,.keep []] ((AM.mk (RF 92 33 (tX tZ (tX (tY (.bool bv)) tZ)) td) ((Fma1 Nc bx l pp)::rest) ⟨O,N,G⟩))=(K (AM.mk (RF 91 8 .leaf []) rest ⟨O,N,G⟩)):=by kernel_rfl
theorem q_ten (R:AV→AHeap→Prop)(keep:Nat)(f0:FuncId)(rest:List AFrame)(N:Nat)(O:T AObj)(tb:Nat)(yb:Nat)(G:T (T AV))(K:AM→Prop):Obl P f0 (fun v h=>R v h) keep K [.run 16,.keep [4]] ((AM.mk (enF 92 [.nilp,.ptr yb 0 0,.ptr tb 0 0]) rest ⟨O,N,G⟩))=(K (AM.mk (RF 92 33 (tX tZ (tX (tY (.bool true)) tZ)) [cdi 92 [1,0,1,0,1],cdi 92 [1,1]]) rest ⟨O,N,G⟩)):=by kernel_rfl
theorem zrM (R:AV→AHeap→Prop)(keep:Nat)(f0:FuncId)(rest:List AFrame)(td:List AItem)(N:Nat)(O:T AObj)(p:Nat)(bv:Bool)(l:Nat)(tb:Nat)(yb:Nat)(G:T (T AV))(K:AM→Prop):Obl P f0 (fun v h=>R v h) keep K [.run 3,.know 12 true,.run 6,.keep [4]] ((AM.mk (RF 102 29 (tX tZ (tY (.bool bv))) td) ((Ftes p l tb yb)::rest) ⟨O,N,G⟩))=(((!bv)=true)∧K (AM.mk (RF 92 33 (tX tZ (tX (tY (.bool false)) tZ)) [cdi 102 [1,1],cdi 92 [1,1,1]]) rest ⟨O,N,G⟩)):=by kernel_rfl
theorem zsL (R:AV→AHeap→Prop)(keep:Nat)(f0:FuncId)(rest:List AFrame)(td:List AItem)(N:Nat)(O:T AObj)(p:Nat)(sa:AV)(bv:Bool)(l:Nat)(tb:Nat)(yb:Nat)(z1:Int)(G:T (T AV))(K:AM→Prop):Obl P f0 (fun v h=>R v h) keep K [.run 3,.know 12 false,.run 8,.hop (sa) O,.hopn (.int .i64 z1) O (N),.run 4,.keep [0,2,16,17,18]] ((AM.mk (RF 102 29 (tX tZ (tY (.bool bv))) td) ((Ftes p l tb yb)::rest) ⟨O,N,G⟩))=(((!bv)=false)∧(zb (⟨O,N,G⟩) (p) 0 3 1=(some [sa]))∧(zL P (⟨O,N,G⟩) (Builtin.len) ((some 33)) ([sa])=(some (.int .i64 z1)))∧K (ztW p sa z1 0 tb rest O N G)):=by kernel_rfl
theorem zr7 (R:AV→AHeap→Prop)(keep:Nat)(f0:FuncId)(rest:List AFrame)(N:Nat)(O:T AObj)(p:Nat)(sa:AV)(n:Int)(j:Int)(tb:Nat)(yb:Nat)(i1:Nat)(i2:Nat)(i3:Nat)(s1:AV)(G:T (T AV))(K:AM→Prop):Obl P f0 (fun v h=>R v h) keep K [.run 5,.know 19 true,.run 6,.hopn (.ptr i1 i2 i3) O (N),.hop (s1) O,.run 4,.hop (.fn (Fn.func (92:FuncId)) [] [.ptr yb 0 0,.ptr tb 0 0]) O,.run 2] ((ztW p sa n j tb rest O N G))=((decide (j<n)=true)∧(zf P 33 (sa) (.int .i64 j)=(some (.ptr i1 i2 i3)))∧(zb (⟨O,N,G⟩) (i1) (i2) (i3) 1=(some [s1]))∧(zb (⟨O,N,G⟩) (tb) 0 0 1=(some [.fn (Fn.func (92:FuncId)) [] [.ptr yb 0 0,.ptr tb 0 0]]))∧K (AM.mk (enF 92 [s1,.ptr yb 0 0,.ptr tb 0 0]) ((zpW p sa n j i1 i2 i3 s1 tb yb)::rest) ⟨O,N,G⟩)):=by kernel_rfl
theorem zsl (R:AV→AHeap→Prop)(keep:Nat)(f0:FuncId)(rest:List AFrame)(N:Nat)(O:T AObj)(p:Nat)(sa:AV)(rp:AV)(n:Int)(j:Int)(tb:Nat)(yb:Nat)(G:T (T AV))(K:AM→Prop):Obl P f0 (fun v h=>R v h) keep K [.run 5,.know 19 false,.run 4,.hop (.fn (Fn.func (92:FuncId)) [] [.ptr yb 0 0,.ptr tb 0 0]) O,.run 3,.hop (rp) O,.run 1] ((ztW p sa n j tb rest O N G))=((decide (j<n)=false)∧(zb (⟨O,N,G⟩) (tb) 0 0 1=(some [.fn (Fn.func (92:FuncId)) [] [.ptr yb 0 0,.ptr tb 0 0]]))∧(zb (⟨O,N,G⟩) (p) 0 4 1=(some [rp]))∧K (AM.mk (enF 92 [rp,.ptr yb 0 0,.ptr tb 0 0]) ((zto p sa rp n j tb yb)::rest) ⟨O,N,G⟩)):=by kernel_rfl
theorem zjR (R:AV→AHeap→Prop)(keep:Nat)(f0:FuncId)(rest:List AFrame)(td:List AItem)(N:Nat)(O:T AObj)(p:Nat)(sa:AV)(n:Int)(j:Int)(bv:Bool)(i1c:Nat)(i2c:Nat)(i3c:Nat)(s1c:AV)(tb:Nat)(yb:Nat)(G:T (T AV))(K:AM→Prop):Obl P f0 (fun v h=>R v h) keep K [.run 3,.know 25 true,.run 6,.keep [4]] ((AM.mk (RF 92 33 (tX tZ (tX (tY (.bool bv)) tZ)) td) ((zpW p sa n j i1c i2c i3c s1c tb yb)::rest) ⟨O,N,G⟩))=(((!bv)=true)∧K (AM.mk (RF 92 33 (tX tZ (tX (tY (.bool false)) tZ)) [cdi 92 [1,0,1,0,1],.inBlock 1,cdi 92 [1,1,1,0,1,0,0,1,1,1],ili 92 [1,1,1,0,1,0,0],.inBlock 0,cdi 92 [1,1,1,1]]) rest ⟨O,N,G⟩)):=by kernel_rfl
theorem zjp (R:AV→AHeap→Prop)(keep:Nat)(f0:FuncId)(rest:List AFrame)(td:List AItem)(N:Nat)(O:T AObj)(p:Nat)(sa:AV)(n:Int)(j:Int)(bv:Bool)(i1c:Nat)(i2c:Nat)(i3c:Nat)(s1c:AV)(tb:Nat)(yb:Nat)(G:T (T AV))(K:AM→Prop):Obl P f0 (fun v h=>R v h) keep K [.run 3,.know 25 false,.run 8,.keep [0,2,16,17,18]] ((AM.mk (RF 92 33 (tX tZ (tX (tY (.bool bv)) tZ)) td) ((zpW p sa n j i1c i2c i3c s1c tb yb)::rest) ⟨O,N,G⟩))=(((!bv)=false)∧K (ztW p sa n (IntKind.i64.wrap (j+(1:Int))) tb rest O N G)):=by kernel_rfl
theorem zlR (R:AV→AHeap→Prop)(keep:Nat)(f0:FuncId)(rest:List AFrame)(td:List AItem)(N:Nat)(O:T AObj)(p:Nat)(sa:AV)(rp:AV)(n:Int)(j:Int)(bv:Bool)(tb:Nat)(yb:Nat)(G:T (T AV))(K:AM→Prop):Obl P f0 (fun v h=>R v h) keep K [.run 4,.keep [4]] ((AM.mk (RF 92 33 (tX tZ (tX (tY (.bool bv)) tZ)) td) ((zto p sa rp n j tb yb)::rest) ⟨O,N,G⟩))=(K (AM.mk (RF 92 33 (tX tZ (tX (tY (.bool bv)) tZ)) [cdi 92 [1,0,1,0,1]]) rest ⟨O,N,G⟩)):=by kernel_rfl
theorem ze2 (R:AV→AHeap→Prop)(keep:Nat)(f0:FuncId)(rest:List AFrame)(N:Nat)(O:T AObj)(p:Nat)(n:Int)(bx:Nat)(l:Nat)(pp:AV)(nc:Nat)(O1:T AObj)(G:T (T AV))(K:AM→Prop):Obl P f0 (fun v h=>R v h) keep K [.run 3,.hop (.int .i64 n) O,.run 1,.hop (.nilp) O1,.run 3,.hop (.int .i64 (IntKind.i64.wrap (n+(1:Int)))) O1,.run 2,.know 10 true,.run 1] ((⟨⟨14,12,(tW (tX (tY (.ptr nc 0 0)) (tY (.fn (Fn.func 91) [] [.ptr bx 0 0]))) pp (tW (tY pp) (.int .i64 0) (tY (.ptr p 0 0)))),[.code SZB],[],.run,CallKind.normal,some l⟩,rest,⟨O,N,G⟩⟩:AM))=((zb (⟨O,N,G⟩) (nc) 0 0 1=(some [.int .i64 n]))∧(zc (⟨O,N,G⟩) (nc) 0 0 ([.int .i64 (IntKind.i64.wrap (n+(1:Int)))])=(some ⟨O1,N,G⟩))∧(zb (⟨O1,N,G⟩) (nc) 0 0 1=(some [.int .i64 (IntKind.i64.wrap (n+(1:Int)))]))∧(decide (IntKind.i64.wrap (n+(1:Int)) > (60:Int))=true)∧K (⟨⟨14,12,(tW (tX (tW (tY (.int .i64 n)) (.ptr nc 0 0) tZ) (tW (tY (.int .i64 (IntKind.i64.wrap (n+(1:Int))))) (.fn (Fn.func (91:FuncId)) [] [.ptr bx 0 0]) tZ)) pp (tW (tW (tY (.int .i64 (IntKind.i64.wrap (n+(1:Int))))) pp tZ) (.int .i64 0) (tW (tY (.bool true)) (.ptr p 0 0) tZ))),
 [cdi 14 [1,1,0,1,0,1,0,1,1,0],.inBlock 1],[],.run,CallKind.normal,(some l)⟩,
 rest,
 ⟨O1,N,G⟩⟩:AM)):=by kernel_rfl
theorem ze1 (R:AV→AHeap→Prop)(keep:Nat)(f0:FuncId)(rest:List AFrame)(N:Nat)(O:T AObj)(p:Nat)(n:Int)(bx:Nat)(l:Nat)(pp:AV)(nc:Nat)(O1:T AObj)(G:T (T AV))(K:AM→Prop):Obl P f0 (fun v h=>R v h) keep K [.run 3,.hop (.int .i64 n) O,.run 1,.hop (.nilp) O1,.run 3,.hop (.int .i64 (IntKind.i64.wrap (n+(1:Int)))) O1,.run 2,.know 10 false,.run 3] ((⟨⟨14,12,(tW (tX (tY (.ptr nc 0 0)) (tY (.fn (Fn.func 91) [] [.ptr bx 0 0]))) pp (tW (tY pp) (.int .i64 0) (tY (.ptr p 0 0)))),[.code SZB],[],.run,CallKind.normal,some l⟩,rest,⟨O,N,G⟩⟩:AM))=((zb (⟨O,N,G⟩) (nc) 0 0 1=(some [.int .i64 n]))∧(zc (⟨O,N,G⟩) (nc) 0 0 ([.int .i64 (IntKind.i64.wrap (n+(1:Int)))])=(some ⟨O1,N,G⟩))∧(zb (⟨O1,N,G⟩) (nc) 0 0 1=(some [.int .i64 (IntKind.i64.wrap (n+(1:Int)))]))∧(decide (IntKind.i64.wrap (n+(1:Int)) > (60:Int))=false)∧K (⟨⟨14,12,(tW (tX (tW (tY (.int .i64 n)) (.ptr nc 0 0) tZ) (tW (tY (.int .i64 (IntKind.i64.wrap (n+(1:Int))))) (.fn (Fn.func (91:FuncId)) [] [.ptr bx 0 0]) tZ)) pp (tW (tW (tY (.int .i64 (IntKind.i64.wrap (n+(1:Int))))) pp tZ) (.int .i64 0) (tW (tY (.bool false)) (.ptr p 0 0) tZ))),
 [],[],.run,CallKind.normal,(some l)⟩,
 rest,
 ⟨O1,N,G⟩⟩:AM)):=by kernel_rfl
theorem zgf (R:AV→AHeap→Prop)(keep:Nat)(f0:FuncId)(rest:List AFrame)(N:Nat)(O:T AObj)(p:Nat)(l:Nat)(tb:Nat)(yb:Nat)(G:T (T AV))(K:AM→Prop):Obl P f0 (fun v h=>R v h) keep K [.run 15,.hop (.yld l) O,.run 1] ((AM.mk (enF 92 [.ptr p 0 0,.ptr yb 0 0,.ptr tb 0 0]) rest ⟨O,N,G⟩))=((zb (⟨O,N,G⟩) (yb) 0 0 1=(some [.yld l]))∧K (⟨frm 92 33 (tW (tW (tX (tY (.ptr p 0 0)) tZ) (.ptr yb 0 0) (tX (tY (.yld l)) tZ)) (.ptr p 0 0) (tW (tW (tY (.bool false)) (.bool false) tZ) (.ptr tb 0 0) (tX (tY (.ptr p 0 0)) tZ))) [opi 92 [1,1,0,0] 2,cdi 92 [1,1,0,1],cdi 92 [1,1,1]],
 rest,
 ⟨O,N,G⟩⟩:AM)):=by kernel_rfl
variable {O O':T AObj} {N:Nat} {G:T (T AV)}
theorem Obl.swap {m m2:AM}{f0:FuncId}{Q:AV→AHeap→Prop}{keep:Nat}{K:AM→Prop}(h:kq P m=kq P m2){n:Nat}{l:List Cmd}(e:Obl P f0 Q keep K (.run (n+1)::l) m2):Obl P f0 Q keep K (.run (n+1)::l) m:=by
 have e':zis (Ev.runN P (n+1) m2) (Obl P f0 Q keep K l):=e;show zis (Ev.runN P (n+1) m) (Obl P f0 Q keep K l);have:Ev.runN P (n+1) m=Ev.runN P (n+1) m2:=by
  unfold Ev.runN;rw [h]
 rw [this];exact e'
theorem znc {c:AFrame}{r:List AFrame}{l nc bx p d n0:Nat}{pp:AV}(hs:kq P ⟨c,r,⟨O,N,G⟩⟩=zfj P c r ⟨O,N,G⟩ l [.ptr p 0 0])(hL:O.get l=some (.loop (szL nc bx pp d .ready none)))(hn:Obj O nc [.int .i64 ((n0:Nat):Int)])(hne:l≠nc)(h0:n0≤60){keep:Nat}{f0:FuncId}{Q:AV→AHeap→Prop}
 (hK:∀ O' pend,Obj O' nc [.int .i64 ((n0+1:Nat):Int)]→O'.get l=some (.loop (szL nc bx pp d (if n0<60 then .ready else .done) pend))→(n0<60→pend=none)→(n0=60→pend=some (.exit 0))→(∀ j,j≠l→j≠nc→O'.get j=O.get j)→∀ m,kq P m=vX P .normal (c::r) ⟨O',N,G⟩ (.bool (decide (n0<60)))→Goal P keep f0 Q m) :
 Goal P keep f0 Q ⟨c,r,⟨O,N,G⟩⟩:=by
 have w:IntKind.i64.wrap (((n0:Nat):Int)+(1:Int))=((n0+1:Nat):Int):=by rw [IntKind.wrap_i64]; omega
 refine Goal.step (m':=⟨⟨14,12,(tW (tX (tY (.ptr nc 0 0)) (tY (.fn (Fn.func 91) [] [.ptr bx 0 0]))) pp (tW (tY pp) (.int .i64 0) (tY (.ptr p 0 0)))),[.code .skip,.beginRound,.code SZB],[],.run,.normal,some l⟩,c::r,⟨O,N,G⟩⟩) mix ?_ ?_
 ·rw [hs];unfold zfj;show (match O.get l with | some (.loop lp)=>_ | _=>_)=_
  rw [hL];rfl
 refine Goal.step (m':=⟨⟨14,12,(tW (tX (tY (.ptr nc 0 0)) (tY (.fn (Fn.func 91) [] [.ptr bx 0 0]))) pp (tW (tY pp) (.int .i64 0) (tY (.ptr p 0 0)))),[.beginRound,.code SZB],[],.run,.normal,some l⟩,c::r,⟨O,N,G⟩⟩) mix rfl ?_;refine Goal.step (m':=⟨⟨14,12,(tW (tX (tY (.ptr nc 0 0)) (tY (.fn (Fn.func 91) [] [.ptr bx 0 0]))) pp (tW (tY pp) (.int .i64 0) (tY (.ptr p 0 0)))),[.code SZB],[],.run,.normal,some l⟩,c::r,⟨O.set (some (.loop (szL nc bx pp d .busy none))) l,N,G⟩⟩) mix ?_ ?_
 ·refine Eq.trans (b:=ze6 ⟨14,12,(tW (tX (tY (.ptr nc 0 0)) (tY (.fn (Fn.func 91) [] [.ptr bx 0 0]))) pp (tW (tY pp) (.int .i64 0) (tY (.ptr p 0 0)))),[.beginRound,.code SZB],[],.run,.normal,some l⟩ (c::r) ⟨O,N,G⟩ [.code SZB]) (by kernel_rfl) ?_;unfold ze6;show (match vM ⟨O,N,G⟩ l with | none=>none | some ⟨_,_,_,_,_,_,_,_,_⟩=>_)=_
  have:vM ⟨O,N,G⟩ l=some (szL nc bx pp d .ready none):=by
   unfold vM;show (match O.get l with | some (.loop lp)=>some lp | _=>none)=_
   rw [hL]
  rw [this];rfl
 have hL1:(O.set (some (.loop (szL nc bx pp d .busy none))) l).get l=some (.loop (szL nc bx pp d .busy none)):=by rw [T.get_set,if_pos rfl]
 have fr1:∀ j,j≠l→(O.set (some (.loop (szL nc bx pp d .busy none))) l).get j=O.get j:=fun j hj=>by rw [T.get_set,if_neg hj]
 generalize hO:O.set (some (.loop (szL nc bx pp d .busy none))) l=O1 at hL1 fr1;have h1:=hn.same (fr1 nc (fun e=>hne e.symm));obtain ⟨O2,s2,h2,f2⟩:=h1.store 0 [.int .i64 ((n0+1:Nat):Int)] N G (Nat.le_of_ble_eq_true rfl) rfl;have hL2:O2.get l=some (.loop (szL nc bx pp d .busy none)):=(f2 l hne).trans hL1;have lv:∀ (jump:Option Code),yC P .normal (c::r) ⟨O2,N,G⟩ l jump=vX P .normal (c::r) ⟨O2.set (some (.loop (szL nc bx pp d (if jump.isNone then .ready else .done) jump))) l,N,G⟩ (.bool jump.isNone):=fun jump=>by
  unfold yC;show (match O2.get l with | some (.loop lp)=>_ | _=>_)=_
  rw [hL2];rfl
 have fin:∀ (jump:Option Code) (b:Bool),jump.isNone=decide (n0<60)→(n0=60→jump=some (.exit 0))→∀ m,kq P m=yC P .normal (c::r) ⟨O2,N,G⟩ l jump→Goal P keep f0 Q m:=fun jump b hj hj2 m hm=>by
  refine hK (O2.set (some (.loop (szL nc bx pp d (if jump.isNone then .ready else .done) jump))) l) jump ?_ ?_ ?_ hj2 ?_ m ?_
  ·exact h2.same (by rw [T.get_set,if_neg (fun e=>hne e.symm)])
  ·rw [T.get_set,if_pos rfl,hj];congr 3
   by_cases h:n0<60
   ·rw [decide_eq_true h,if_pos rfl,if_pos h]
   ·rw [decide_eq_false h,if_neg (by simp),if_neg h]
  ·intro h;rw [decide_eq_true h] at hj;cases jump with
   | none=>rfl
   | some _=>cases hj
  ·intro j h3 h4;rw [T.get_set,if_neg h3,f2 j h4,fr1 j h3]
  ·rw [hm,lv,hj]
 by_cases hb:n0<60
 ·refine (Obl.goal mix (K:=Goal P keep f0 Q) (fun _ h=>h) (cast (ze1 Q keep f0 (c::r) N O1 p ((n0:Nat):Int) bx l pp nc O2 G (Goal P keep f0 Q)).symm ⟨h1.ld 0 rfl,by rw [w]; exact s2,by rw [w]; exact h2.ld 0 rfl,decide_eq_false (by rw [w]; omega),?_⟩));exact fin none true (by rw [decide_eq_true hb]; rfl) (fun h=>by omega) _ rfl
 ·refine (Obl.goal mix (K:=Goal P keep f0 Q) (fun _ h=>h) (cast (ze2 Q keep f0 (c::r) N O1 p ((n0:Nat):Int) bx l pp nc O2 G (Goal P keep f0 Q)).symm ⟨h1.ld 0 rfl,by rw [w]; exact s2,by rw [w]; exact h2.ld 0 rfl,decide_eq_true (by rw [w]; omega),?_⟩));exact fin (some (.exit 0)) false (by rw [decide_eq_false hb]; rfl) (fun _=>rfl) _ (by kernel_rfl)
end Go.Proofs.Ytcdigdplhlgcaaa.gx
end
