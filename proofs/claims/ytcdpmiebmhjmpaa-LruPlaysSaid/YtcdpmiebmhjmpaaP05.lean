import Derived.Test.YtcdpmiebmhjmpaaP00
import Derived.Test.YtcdpmiebmhjmpaaP01
import Derived.Test.YtcdpmiebmhjmpaaP02
import Derived.Test.YtcdpmiebmhjmpaaP03
import Derived.Test.YtcdpmiebmhjmpaaP04
section
set_option maxRecDepth 100000
set_option linter.unusedVariables false
namespace Go.Proofs.Ytcdpmiebmhjmpaa.lr
open Go Ev
noncomputable def KL (l:Nat) (ks:AV) (a ao:Nat) (rest:List AFrame) (O:T AObj) (N:Nat) (G:T (T AV)):AM:=⟨⟨12,35,(.node (.node (.node .leaf (some ks) .leaf) none .leaf) (some (.ptr l 0 0)) (.node (.node .leaf (some (.ptr a 0 ao)) .leaf) none .leaf)),
 [.code (cd P 12 [1,1,1,0,1,0,0]),.inLoop (cd P 12 [1,1,1,0,1,0,0]),.inBlock 0,.code (cd P 12 [1,1,1,1])],[],.run,CallKind.normal,none⟩,
 rest,
 ⟨O,N,G⟩⟩
noncomputable def IL (ki y kj z kn:Nat) (i:Int) (rest:List AFrame) (O:T AObj) (N:Nat) (G:T (T AV)):AM:=⟨⟨13,26,(.node (.node .leaf (some (.slg kj z 0 kn 0)) (.node .leaf (some (.int .i64 i)) .leaf)) (some (.slg ki y 0 kn 0)) .leaf),
 [.code (cd P 13 [1,1,0,1,0,0]),.inLoop (cd P 13 [1,1,0,1,0,0]),.inBlock 0,.code (cd P 13 [1,1,1])],[],.run,CallKind.normal,none⟩,
 rest,
 ⟨O,N,G⟩⟩
theorem q_kst (R:AV→AHeap→Prop)(keep:Nat)(f0:FuncId)(rest:List AFrame)(O:T AObj)(N:Nat)(l:Nat)(a:Nat)(ao:Nat)(G:T (T AV))(K:AM→Prop):Obl P f0 (fun v h=>R v h) keep K [.run 24,.hop (.ptr a 0 ao) O,.run 4,.keep [0,3,4]] ((AM.mk (enF 12 [.ptr l 0 0]) rest ⟨O,N,G⟩))=((za (⟨O,N,G⟩) (l) 0 4 1=(some [.ptr a 0 ao]))∧K (KL l (AV.nils 0 0) a ao rest O N G)):=by kernel_rfl
theorem q_kn (R:AV→AHeap→Prop)(keep:Nat)(f0:FuncId)(rest:List AFrame)(k:Int)(O:T AObj)(O1:T AObj)(O2:T AObj)(N:Nat)(l:Nat)(a:Nat)(ao:Nat)(e:Nat)(eo:Nat)(G:T (T AV))(K:AM→Prop):Obl P f0 (fun v h=>R v h) keep K [.run 10,.hop (.bool true) O,.run 11,.hop (.int .i64 k) O,.hopn (.slc N 0 0 1 1) O1 (N+1),.hopn (.slg (N+1) 0 0 1 0) O2 (N+2),.run 8,.hop (.ptr e 0 eo) O2,.run 3,.keep [0,3,4]] ((KL l (.nils 0 0) a ao rest O N G))=((zcM P (⟨O,N,G⟩) (BinOp.neq) 45 (false) (.ptr a 0 ao) (.ptr l 0 3)=(some (.bool true)))∧(za (⟨O,N,G⟩) (a) 0 (ao+2) 1=(some [.int .i64 k]))∧(zh P (⟨O,N,G⟩) 32 1 ([(0,.int .i64 k)])=(some (.slc N 0 0 1 1,⟨O1,N+1,G⟩)))∧(zg P (⟨O1,N+1,G⟩) (Builtin.append) ((some 32)) ((some 32)) ([.nils 0 0,.slc N 0 0 1 1])=(some (.val (.slg (N+1) 0 0 1 0) ⟨O2,N+2,G⟩)))∧(za (⟨O2,N+2,G⟩) (a) 0 (ao+1) 1=(some [.ptr e 0 eo]))∧K (KL l (AV.slg (N+1) 0 0 1 0) e eo rest O2 (N+2) G)):=by kernel_rfl
theorem q_ks (R:AV→AHeap→Prop)(keep:Nat)(f0:FuncId)(rest:List AFrame)(k:Int)(O:T AObj)(O1:T AObj)(O2:T AObj)(N:Nat)(l:Nat)(a:Nat)(ao:Nat)(e:Nat)(eo:Nat)(y:Nat)(ki:Nat)(kn:Nat)(G:T (T AV))(K:AM→Prop):Obl P f0 (fun v h=>R v h) keep K [.run 10,.hop (.bool true) O,.run 11,.hop (.int .i64 k) O,.hopn (.slc N 0 0 1 1) O1 (N+1),.hop (.slg ki (y+1) 0 (kn+1) 0) O2,.run 8,.hop (.ptr e 0 eo) O2,.run 3,.keep [0,3,4]] ((KL l (.slg ki y 0 kn 0) a ao rest O N G))=((zcM P (⟨O,N,G⟩) (BinOp.neq) 45 (false) (.ptr a 0 ao) (.ptr l 0 3)=(some (.bool true)))∧(za (⟨O,N,G⟩) (a) 0 (ao+2) 1=(some [.int .i64 k]))∧(zh P (⟨O,N,G⟩) 32 1 ([(0,.int .i64 k)])=(some (.slc N 0 0 1 1,⟨O1,N+1,G⟩)))∧(zg P (⟨O1,N+1,G⟩) (Builtin.append) ((some 32)) ((some 32)) ([.slg ki y 0 kn 0,.slc N 0 0 1 1])=(some (.val (.slg ki (y+1) 0 (kn+1) 0) ⟨O2,N+1,G⟩)))∧(za (⟨O2,N+1,G⟩) (a) 0 (ao+1) 1=(some [.ptr e 0 eo]))∧K (KL l (AV.slg ki (y+1) 0 (kn+1) 0) e eo rest O2 (N+1) G)):=by kernel_rfl
theorem q_ke (R:AV→AHeap→Prop)(keep:Nat)(f0:FuncId)(rest:List AFrame)(O:T AObj)(N:Nat)(l:Nat)(a:Nat)(ao:Nat)(ks:AV)(G:T (T AV))(K:AM→Prop):Obl P f0 (fun v h=>R v h) keep K [.run 10,.hop (.bool false) O,.run 10,.keep [2]] ((KL l ks a ao rest O N G))=((zcM P (⟨O,N,G⟩) (BinOp.neq) 45 (false) (.ptr a 0 ao) (.ptr l 0 3)=(some (.bool false)))∧K ({ top:=RF 12 35 (T.leaf.node none (T.leaf.node (some ks) T.leaf)) [AItem.code (cd P 12 [1,0,1,0,1])],rest:=rest,heap:={ objs:=O,next:=N,glob:=G } })):=by kernel_rfl
theorem q_ist (R:AV→AHeap→Prop)(keep:Nat)(f0:FuncId)(rest:List AFrame)(O:T AObj)(N:Nat)(y:Nat)(ki:Nat)(kn:Nat)(kj:Nat)(z:Nat)(G:T (T AV))(K:AM→Prop):Obl P f0 (fun v h=>R v h) keep K [.run 13,.know 10 false,.run 9,.keep [0,1,5]] ((AM.mk (enF 13 [.slg ki y 0 kn 0,.slg kj z 0 kn 0]) rest ⟨O,N,G⟩))=((((↑kn:Int) != (↑kn:Int))=false)∧K (IL ki y kj z kn 0 rest O N G)):=by kernel_rfl
theorem q_ib (R:AV→AHeap→Prop)(keep:Nat)(f0:FuncId)(rest:List AFrame)(k:Int)(O:T AObj)(N:Nat)(y:Nat)(ki:Nat)(kn:Nat)(kj:Nat)(z:Nat)(i:Int)(G:T (T AV))(K:AM→Prop):Obl P f0 (fun v h=>R v h) keep K [.run 8,.know 14 true,.run 8,.op,.hop (.int .i64 k) O,.run 2,.op,.hop (.int .i64 k) O,.run 2,.know 25 false,.run 9,.keep [0,1,5]] ((IL ki y kj z kn i rest O N G))=((decide (i<(↑kn:Int))=true)∧((0:Int)≤i∧i<(↑kn:Int))∧(za (⟨O,N,G⟩) (ki) (y) (0+i.toNat*1) 1=(some [.int .i64 k]))∧((0:Int)≤i∧i<(↑kn:Int))∧(za (⟨O,N,G⟩) (kj) (z) (0+i.toNat*1) 1=(some [.int .i64 k]))∧((k != k)=false)∧K (IL ki y kj z kn (IntKind.i64.wrap (i+(1:Int))) rest O N G)):=by kernel_rfl
theorem q_ie (R:AV→AHeap→Prop)(keep:Nat)(f0:FuncId)(rest:List AFrame)(O:T AObj)(N:Nat)(y:Nat)(ki:Nat)(kn:Nat)(kj:Nat)(z:Nat)(i:Int)(G:T (T AV))(K:AM→Prop):Obl P f0 (fun v h=>R v h) keep K [.run 8,.know 14 false,.run 7,.keep [4]] ((IL ki y kj z kn i rest O N G))=((decide (i<(↑kn:Int))=false)∧K ({ top:=RF 13 26 (T.leaf.node none ((T.leaf.node (some (AV.bool true)) T.leaf).node none T.leaf)) [AItem.code (cd P 13 [1,0,1,0,1])],rest:=rest,heap:={ objs:=O,next:=N,glob:=G } })):=by kernel_rfl
theorem zkD {O:T AObj}{id k:Nat}{v:AV}(h:Cell O id k v)(N:Nat)(G:T (T AV)):zdP ⟨O,N,G⟩ id 0=true∧qs ⟨O,N,G⟩ id=true:=by
 obtain ⟨n,f,⟨c,el,h1,h2⟩,_⟩:=h
 constructor
 · unfold zdP
   show (match O.get id with | some (.cells _ n _ lo hi _ _ _ ex)=>_ | _=>_)=_
   rw [h1]
   rfl
 · unfold qs
   show (match O.get id with | some (.cells _ _ _ _ _ _ fz sg _)=>_ | _=>_)=_
   rw [h1]
   rfl
theorem zkL (h:AHeap)(i o j q:Nat):zcM P h .neq 45 false (.ptr i 0 o) (.ptr j 0 q)=(match qY h i 0 o j 0 q with | none=>none | some b=>some (.bool (!b))):=by kernel_rfl
theorem zkt {O:T AObj}{x l k k':Nat}{v v':AV}(hx:Cell O x k v)(hl:Cell O l k' v')(hne:x≠l)(N:Nat)(G:T (T AV)):zcM P ⟨O,N,G⟩ .neq 45 false (.ptr x 0 0) (.ptr l 0 3)=some (.bool true):=by
 rw [zkL]
 unfold qY
 rw [if_neg hne,(zkD hx N G).1,(zkD hx N G).2,(zkD hl N G).1,(zkD hl N G).2]
 rfl
theorem zir {O:T AObj}{l k:Nat}{v:AV}(hl:Cell O l k v)(N:Nat)(G:T (T AV)):zcM P ⟨O,N,G⟩ .neq 45 false (.ptr l 0 3) (.ptr l 0 3)=some (.bool false):=by
 rw [zkL]
 unfold qY
 rw [if_pos rfl,if_pos ⟨rfl,(zkD hl N G).1⟩]
 rfl
theorem ziq:∃ i,P.info? 3=some i∧i.size=1∧i.bytes=8:=by
 cases h:P.info? 3 with
 | none=>exact absurd (show (P.info? 3).isSome=true by kernel_rfl) (by rw [h]; decide)
 | some i =>
  refine ⟨i,rfl,?_,?_⟩
  · have:(P.info? 3).map (·.size)=some 1:=by kernel_rfl
    rw [h] at this
    exact Option.some.inj this
  · have:(P.info? 3).map (·.bytes)=some 8:=by kernel_rfl
    rw [h] at this
    exact Option.some.inj this
theorem zhT:yr P 3=some (.int .i64 0):=by kernel_rfl
theorem zi2:P.underlying 32=some (.slice 3):=by kernel_rfl
theorem zf1:yt P 32=some false:=by kernel_rfl
def GRow (O:T AObj) (ri p:Nat) (f:Nat→AV):Prop:=∃ c sg ex,0<p∧O.get ri=some (.cells c p 3 0 (p - 1) p 0 sg ex)∧∀ k,k<p→c.get k=some (f k)
theorem zeR {h:AHeap}{s x:AV}{y:AV}{sl:Nat}(hs:zF s=some sl)(hc:vF x=some 1)(hx:xJ h 1 1 x=some [y])(hy:AV.one y=true) :
 zg P h .append (some 32) (some 32) [s,x]=yD (xR h 3 1 8 sl 1 s [y]):=by
 obtain ⟨i,h1,h2,h3⟩:=ziq
 show (match yt P 32 with | none=>none | some z=>match ze1 [s,x] with | none=>none | some (s,x)=>yD (xb P h 32 z s x))=_
 rw [zf1]
 show yD (xb P h 32 false s x)=_
 congr 1
 unfold xb
 rw [zi2]
 show xL P h 3 false s x=_
 unfold xL
 rw [h1,zhT]
 simp only [hs,h2,h3]
 unfold xI
 simp only [hc,hx]
 rw [if_pos ⟨Nat.zero_lt_one,rfl,rfl,by simp [hy],rfl,fun h=>by cases h⟩]
theorem zcu {O:T AObj}{K M:Nat}{G:T (T AV)}{y:AV}(h:Row O K 1 (fun _=>y)):xJ ⟨O,M,G⟩ 1 1 (.slc K 0 0 1 1)=some [y]:=by
 have:=h.load1 (N:=M) (G:=G) (off:=0) (by omega)
 exact this
theorem zeG {O:T AObj}{K M:Nat}{G:T (T AV)}{y:AV}(h:Row O K 1 (fun _=>y))(hK:K<M)(hy:AV.one y=true) :
 ∃ O',zg P ⟨O,M,G⟩ .append (some 32) (some 32) [.nils 0 0,.slc K 0 0 1 1]=some (.val (.slg M 0 0 1 0) ⟨O',M+1,G⟩)∧Row O' M 1 (fun _=>y)∧GRow O' M 1 (fun _=>y)∧Frm O O' M:=by
 refine ⟨O.set (some (.cells (zf .leaf 0 [y]) 1 3 0 0 1 0 false .leaf)) M,?_,⟨_,_,by rw [T.get_set,if_pos rfl],fun k hk=>?_⟩,⟨_,_,_,Nat.zero_lt_one,by rw [T.get_set,if_pos rfl],fun k hk=>?_⟩,fun j hj=>by rw [T.get_set,if_neg hj]⟩
 · rw [zeR (sl:=0) rfl rfl (zcu h) hy]
   show yD (zD ⟨O,M,G⟩ 3 1 8 0 (0+1) (.nils 0 0) [y])=_
   unfold zD
   rw [if_pos (by decide)]
   show yD (match some ([]:List AV) with | none=>none | some old=>if old.all AV.one=true∧old.length=0*1 then some (.slg M 0 0 1 0,xd ⟨O,M,G⟩ 3 (old++[y]) false) else none)=_
   simp only
   rw [if_pos ⟨rfl,rfl⟩]
   rfl
 · obtain rfl:k=0:=by omega
   rw [zd]; rfl
 · obtain rfl:k=0:=by omega
   rw [zd]; rfl
theorem zgr {O:T AObj}{K M ri p t:Nat}{G:T (T AV)}{y:AV}{f:Nat→AV}(h:Row O K 1 (fun _=>y))(hg:GRow O ri p f)(hK:K≠ri)(ht:t≤p)(hp:p<1000000000)(hy:AV.one y=true) :
 ∃ O',zg P ⟨O,M,G⟩ .append (some 32) (some 32) [.slg ri (p - 1) t (p - t) t,.slc K 0 0 1 1]=some (.val (.slg ri (p - 1+1) t (p - t+1) t) ⟨O',M,G⟩)∧GRow O' ri (p+1) (fun k=>if k=p then y else f k)∧Frm O O' ri:=by
 obtain ⟨c,sg,ex,h0,h1,h2⟩:=hg
 refine ⟨O.set (some (.cells (zf c p [y]) (p+1) 3 0 p (p+1) 0 sg (ex.set (some p) (p - 1)))) ri,?_,⟨_,_,_,by omega,by rw [T.get_set,if_pos rfl]; rfl,fun k hk=>?_⟩,fun j hj=>by rw [T.get_set,if_neg hj]⟩
 · rw [zeR (sl:=p - t) rfl rfl (zcu h) hy]
   show yD (match zE ⟨O,M,G⟩ 3 1 ri (p - 1) t t (p - t) (p - t+1) [y] with | some r=>some r | none=>xA ⟨O,M,G⟩ 3 1 8 ri (p - 1) t t (p - t) (p - t+1) [y])=_
   have hext:zj ex p (p - 1) (p - 1)=some p:=by unfold zj; rw [if_pos rfl]
   have k1:zE ⟨O,M,G⟩ 3 1 ri (p - 1) t t (p - t) (p - t+1) [y]=none:=by
    unfold zE
    show (match O.get ri with | some (.cells _ m el' lo hi _ _ _ ex)=>_ | _=>_)=_
    rw [h1]
    simp only [hext]
    rw [if_neg (by omega)]
   rw [k1]
   simp only
   unfold xA
   show yD (match O.get ri with | some (.cells c m el' lo hi nv fz sg ex)=>_ | _=>_)=_
   rw [h1]
   simp only [hext]
   have hroom:ve (p - t+1) 8=true:=by
    unfold ve
    rw [Bool.and_eq_true]
    exact ⟨Nat.ble_eq_true_of_le (by omega),Nat.ble_eq_true_of_le (show p - t+1+1≤2 ^ 60 by omega)⟩
   rw [if_pos ⟨by omega,by omega,by omega,by omega,trivial,by omega,by omega,hroom⟩,if_pos ⟨by omega,by omega⟩,T.seq_eq,T.seq_eq]
   have e1:t+(p - t)*1=p:=by omega
   have e2:p - 1+1=p:=by omega
   rw [e1,e2]
   rfl
 · rw [zd]
   by_cases e:k=p
   · subst e
     rw [if_pos ⟨Nat.le_refl _,by simp⟩,Nat.sub_self]
     show some y=some (if k=k then y else f k)
     rw [if_pos rfl]
   · rw [if_neg (by simp; omega)]
     show c.get k=some (if k=p then y else f k)
     rw [if_neg e]
     exact h2 k (by omega)
theorem zhg {O:T AObj}{ri p M:Nat}{G:T (T AV)}{f:Nat→AV}(hg:GRow O ri p f){k:Nat}(hk:k<p):za ⟨O,M,G⟩ ri (p - 1) k 1=some [f k]:=by
 obtain ⟨c,sg,ex,h0,h1,h2⟩:=hg
 unfold za
 show (match O.get ri with | some (.cells c n _ lo hi _ _ _ ex)=>_ | some (.ro c lo n)=>_ | _=>_)=_
 rw [h1]
 have hext:zj ex p (p - 1) (p - 1)=some p:=by unfold zj; rw [if_pos rfl]
 simp only [hext]
 rw [if_pos ⟨Nat.zero_le _,Nat.le_refl _,by omega⟩]
 show (match c.get (k+0) with | none=>none | some v=>some [v])=_
 rw [Nat.add_zero,h2 k hk]
theorem ziJ (O:T AObj)(M:Nat)(G:T (T AV))(n:Int):∃ O',zh P ⟨O,M,G⟩ 32 1 [(0,.int .i64 n)]=some (.slc M 0 0 1 1,⟨O',M+1,G⟩)∧Row O' M 1 (fun _=>.int .i64 n)∧Frm O O' M:=by
 refine ⟨O.set (some (.cells (zf .leaf 0 [.int .i64 n]) 1 3 0 0 1 0 false .leaf)) M,by kernel_rfl,⟨_,_,by rw [T.get_set,if_pos rfl],fun k hk=>?_⟩,fun j hj=>by rw [T.get_set,if_neg hj]⟩
 obtain rfl:k=0:=by omega
 rw [zd]; rfl
def KV (O:T AObj) (lo hi:Nat) (zs:List Int) (ks:AV):Prop:=(ks=.nils 0 0∧zs=[])∨∃ ri q,ks=.slg ri q 0 (q+1) 0∧lo≤ri∧ri<hi∧q+1=zs.length∧GRow O ri (q+1) (fun i=>kAV (zs.getD i 0))
theorem GRow.same {O O':T AObj}{ri p:Nat}{f:Nat→AV}(h:GRow O ri p f)(e:O'.get ri=O.get ri):GRow O' ri p f:=by
 obtain ⟨c,sg,ex,h0,h1,h2⟩:=h
 exact ⟨c,sg,ex,h0,e.trans h1,h2⟩
theorem GRow.to {O:T AObj}{ri p:Nat}{f g:Nat→AV}(h:GRow O ri p f)(e:∀ k,k<p→f k=g k):GRow O ri p g:=by
 obtain ⟨c,sg,ex,h0,h1,h2⟩:=h
 exact ⟨c,sg,ex,h0,h1,fun k hk=>by rw [h2 k hk,e k hk]⟩
variable {O O' O0:T AObj} {N N0 l mi cap:Nat} {G:T (T AV)} {L:List Ent} {k v:Int}
theorem LR.same (h:LR O l mi cap L)(e:∀ j,j=l∨j=mi∨(∃ x∈L,x.1=j)→O'.get j=O.get j):LR O' l mi cap L:=by
 obtain ⟨h0,h1,h2,h3,h4,h5,h6,h7,h8,h9⟩:=h
 have el:=e l (.inl rfl)
 refine ⟨h0,h1.same el,h2.same el,h3.same el,jX h4 fun i hi=>?_,fun x hx=>?_,h6,h7,h8.same (e mi (.inr (.inl rfl))),h9⟩
 · rcases hi with rfl | hi
   · exact el
   · obtain ⟨x,hx,rfl⟩:=List.mem_map.1 hi
     exact e _ (.inr (.inr ⟨x,hx,rfl⟩))
 · obtain ⟨a,b,c,d⟩:=h5 x hx
   have ex:=e x.1 (.inr (.inr ⟨x,hx,rfl⟩))
   exact ⟨a,b,c.same ex,d.same ex⟩
theorem jq (h:LR O0 l mi cap L)(hl:l<N0)(hx:∀ x∈L,x.1<N0)(hc:L.length<1000000000){keep:Nat}{f0:FuncId}{Q:AV→AHeap→Prop}{rest:List AFrame}
 (hK:∀ (O':T AObj) (N':Nat) (ks:AV) (td:List AItem),N0≤N'→(∀ j,j<N0→O'.get j=O0.get j)→KV O' N0 N' (L.map (·.2.1)) ks→Goal P keep f0 Q (AM.mk (RF 12 35 (.node .leaf none (.node .leaf (some ks) .leaf)) td) rest ⟨O',N',G⟩)) :
 ∀ (w u:List Ent) (c:Ev.Node) (B:List Ev.Node) (O:T AObj) (N:Nat) (ks:AV),L=u++w→(w.map (·.1)).map nd++[((l,3):Ev.Node)]=c::B→Lk O0 (c::B)→N0≤N→(∀ j,j<N0→O.get j=O0.get j)→KV O N0 N (u.map (·.2.1)) ks →
  Goal P keep f0 Q (KL l ks c.1 c.2 rest O N G)
 | [],u,c,B,O,N,ks,hL,hB,hk,hN,hO,hv=>by
  obtain rfl:c=(l,3):=(List.cons.inj hB).1.symm
  have hl2:=(h.2.1).same (hO l hl)
  rw [List.append_nil] at hL
  exact (Obl.goal mix (K:=Goal P keep f0 Q) (fun _ h=>h) (cast (q_ke Q keep f0 rest O N l l 3 ks G ((Goal P keep f0 Q))).symm ⟨zir hl2 N G,hK O N ks _ hN hO (by rw [hL]; exact hv)⟩))
 | x::w,u,c,B,O,N,ks,hL,hB,hk,hN,hO,hv=>by
  obtain ⟨e,B',hB'⟩:∃ e B',(w.map (·.1)).map nd++[((l,3):Ev.Node)]=e::B':=by
   cases w with
   | nil=>exact ⟨_,_,rfl⟩
   | cons a r=>exact ⟨_,_,rfl⟩
  have hB2:nd x.1::e::B'=c::B:=by rw [← hB,← hB']; rfl
  obtain ⟨rfl,rfl⟩:=List.cons.inj hB2
  rw [Lk.two] at hk
  obtain ⟨⟨k1,_⟩,k2⟩:=hk
  have hxm:x∈L:=by rw [hL]; simp
  obtain ⟨p1,p2,p3,p4⟩:=h.2.2.2.2.2.1 x hxm
  have hxN:=hx x hxm
  have ox:=hO x.1 hxN
  have hlen:u.length<L.length:=by
   rw [hL,List.length_append,List.length_cons]
   omega
  have hneq:=zkt (p3.same ox) ((h.2.1).same (hO l hl)) p1 N G
  have hkey:=(p3.same ox).load N G
  obtain ⟨O1,e1,r1,f1⟩:=ziJ O N G x.2.1
  have hL':L=(u++[x])++w:=by rw [hL,List.append_assoc]; rfl
  rcases hv with ⟨rfl,hz⟩ | ⟨ri,q,rfl,g1,g2,g3,g4⟩
  · obtain ⟨O2,e2,r2,gr2,f2⟩:=zeG (M:=N+1) (G:=G) r1 (Nat.lt_succ_self _) rfl
    have hO2:∀ j,j<N0→O2.get j=O0.get j:=fun j hj=>(f2 j (by omega)).trans ((f1 j (by omega)).trans (hO j hj))
    have hu:u=[]:=by cases u with | nil=>rfl | cons a r=>cases hz
    subst hu
    refine (Obl.goal mix (K:=Goal P keep f0 Q) (fun _ h=>h) (cast (q_kn Q keep f0 rest (x.2.1) O O1 O2 N l (x.1) 0 (e.1) (e.2) G ((Goal P keep f0 Q))).symm ⟨hneq,hkey,e1,e2,(k1.same (hO2 x.1 hxN)).load _ _,jq h hl hx hc hK w [x] e B' O2 (N+2) _ hL' hB' k2 (by omega) hO2 (.inr ⟨N+1,0,rfl,by omega,by omega,rfl,gr2.to fun k hk=>?_⟩)⟩))
    obtain rfl:k=0:=by omega
    rfl
  · obtain ⟨O2,e2,gr2,f2⟩:=zgr (M:=N+1) (G:=G) (t:=0) r1 (g4.same (f1 ri (by omega))) (by omega) (Nat.zero_le _) (by rw [List.length_map] at g3; omega) rfl
    have hO2:∀ j,j<N0→O2.get j=O0.get j:=fun j hj=>(f2 j (by omega)).trans ((f1 j (by omega)).trans (hO j hj))
    refine (Obl.goal mix (K:=Goal P keep f0 Q) (fun _ h=>h) (cast (q_ks Q keep f0 rest (x.2.1) O O1 O2 N l (x.1) 0 (e.1) (e.2) q ri (q+1) G ((Goal P keep f0 Q))).symm ⟨hneq,hkey,e1,e2,(k1.same (hO2 x.1 hxN)).load _ _,jq h hl hx hc hK w (u++[x]) e B' O2 (N+1) _ hL' hB' k2 (by omega) hO2 (.inr ⟨ri,q+1,rfl,g1,by omega,by rw [List.length_map] at g3 ⊢; rw [List.length_append,← g3]; rfl,gr2.to fun k hk=>?_⟩)⟩))
    rw [List.map_append]
    by_cases hkq:k=q+1
    · subst hkq
      rw [if_pos rfl,List.getD_eq_getElem?_getD,List.getElem?_append_right (by omega),← g3,Nat.sub_self]
      rfl
    · rw [if_neg hkq,List.getD_eq_getElem?_getD,List.getD_eq_getElem?_getD,List.getElem?_append_left (by omega)]
end Go.Proofs.Ytcdpmiebmhjmpaa.lr
end
section
set_option maxRecDepth 100000
set_option linter.unusedVariables false
namespace Go.Proofs.Ytcdpmiebmhjmpaa.lr
open Go Ev
variable {O O' O0:T AObj} {N N0 l mi cap:Nat} {G:T (T AV)} {L:List Ent} {k v:Int}
theorem KV.to {O O':T AObj}{lo hi hi':Nat}{zs:List Int}{ks:AV}(h:KV O lo hi zs ks)(e:∀ j,lo≤j→j<hi→O'.get j=O.get j)(hh:hi≤hi'):KV O' lo hi' zs ks:=by
 rcases h with h | ⟨ri,q,a,b,c,d,g⟩
 · exact .inl h
 · exact .inr ⟨ri,q,a,b,by omega,d,g.same (e ri b c)⟩
theorem zgI (h:LR O l mi cap L)(hl:l<N)(hx:∀ x∈L,x.1<N)(hc:L.length<1000000000){keep:Nat}{f0:FuncId}{Q:AV→AHeap→Prop}{rest:List AFrame}
 (hK:∀ (O':T AObj) (N':Nat) (ks:AV) (td:List AItem),N≤N'→(∀ j,j<N→O'.get j=O.get j)→KV O' N N' (L.map (·.2.1)) ks→Goal P keep f0 Q (AM.mk (RF 12 35 (.node .leaf none (.node .leaf (some ks) .leaf)) td) rest ⟨O',N',G⟩)) :
 Goal P keep f0 Q (AM.mk (enF 12 [.ptr l 0 0]) rest ⟨O,N,G⟩):=by
 obtain ⟨c,B,hB⟩:∃ c B,(L.map (·.1)).map nd++[((l,3):Ev.Node)]=c::B:=by
  cases L with
  | nil=>exact ⟨_,_,rfl⟩
  | cons a r=>exact ⟨_,_,rfl⟩
 have hr:=h.2.2.2.2.1
 unfold Ring at hr
 rw [hB,Lk.two] at hr
 exact (Obl.goal mix (K:=Goal P keep f0 Q) (fun _ h=>h) (cast (q_kst Q keep f0 rest O N l (c.1) (c.2) G ((Goal P keep f0 Q))).symm ⟨hr.1.1.load _ _,jq h hl hx hc hK L [] c B O N _ rfl hB hr.2 (Nat.le_refl _) (fun _ _=>rfl) (.inl ⟨rfl,rfl⟩)⟩))
theorem zhA {O:T AObj}{ri q:Nat}{f:Nat→AV}(hg:GRow O ri (q+1) f){i:Nat}(hi:i<q+1)(N:Nat)(G:T (T AV)):za ⟨O,N,G⟩ ri q (0+((i:Nat):Int).toNat*1) 1=some [f i]:=by
 have:=zhg (M:=N) (G:=G) hg hi
 rw [show 0+((i:Nat):Int).toNat*1=i by omega]
 exact this
theorem zcc {ri q rj qj:Nat}{f g:Nat→Int}{n:Nat}(h1:GRow O ri (q+1) (fun i=>kAV (f i)))(h2:GRow O rj (qj+1) (fun i=>kAV (g i)))(hn1:n≤q+1)(hn2:n≤qj+1)(hfg:∀ i,i<n→f i=g i)(hb:n<1000000001){keep:Nat}{f0:FuncId}{Q:AV→AHeap→Prop}{rest:List AFrame}
 (hK:∀ td,Goal P keep f0 Q (AM.mk (RF 13 26 (.node .leaf none (.node (.node .leaf (some (.bool true)) .leaf) none .leaf)) td) rest ⟨O,N,G⟩)) :
 ∀ (d i:Nat),i+d=n→Goal P keep f0 Q (IL ri q rj qj n ((i:Nat):Int) rest O N G)
 | 0,i,hi=>(Obl.goal mix (K:=Goal P keep f0 Q) (fun _ h=>h) (cast (q_ie Q keep f0 rest O N q ri n rj qj (((i:Nat):Int)) G ((Goal P keep f0 Q))).symm ⟨decide_eq_false (by omega),hK _⟩))
 | d+1,i,hi=>by
  have w:IntKind.i64.wrap (((i:Nat):Int)+(1:Int))=((i+1:Nat):Int):=by rw [IntKind.wrap_i64]; omega
  have ih:=zcc h1 h2 hn1 hn2 hfg hb hK d (i+1) (by omega)
  exact (Obl.goal mix (K:=Goal P keep f0 Q) (fun _ h=>h) (cast (q_ib Q keep f0 rest (f i) O N q ri n rj qj (((i:Nat):Int)) G ((Goal P keep f0 Q))).symm ⟨decide_eq_true (by omega),⟨by omega,by omega⟩,zhA h1 (by omega) N G,⟨by omega,by omega⟩,(zhA h2 (by omega) N G).trans (by rw [hfg i (by omega)]; rfl),by simp,by rw [w]; exact ih⟩))
theorem zfW {ri q rj qj:Nat}{f g:Nat→Int}{n:Nat}(h1:GRow O ri (q+1) (fun i=>kAV (f i)))(h2:GRow O rj (qj+1) (fun i=>kAV (g i)))(hn1:n≤q+1)(hn2:n≤qj+1)(hfg:∀ i,i<n→f i=g i)(hb:n<1000000001){keep:Nat}{f0:FuncId}{Q:AV→AHeap→Prop}{rest:List AFrame}
 (hK:∀ td,Goal P keep f0 Q (AM.mk (RF 13 26 (.node .leaf none (.node (.node .leaf (some (.bool true)) .leaf) none .leaf)) td) rest ⟨O,N,G⟩)) :
 Goal P keep f0 Q (AM.mk (enF 13 [.slg ri q 0 n 0,.slg rj qj 0 n 0]) rest ⟨O,N,G⟩) :=
 (Obl.goal mix (K:=Goal P keep f0 Q) (fun _ h=>h) (cast (q_ist Q keep f0 rest O N q ri n rj qj G ((Goal P keep f0 Q))).symm ⟨by simp,zcc h1 h2 hn1 hn2 hfg hb hK n 0 (by omega)⟩))
end Go.Proofs.Ytcdpmiebmhjmpaa.lr
end
section
set_option maxRecDepth 100000
set_option linter.unusedVariables false
namespace Go.Proofs.Ytcdpmiebmhjmpaa.lr
open Go Ev
theorem jQ:∃ i,P.info? 55=some i∧i.size=2∧i.bytes=16:=by
 cases h:P.info? 55 with
 | none=>exact absurd (show (P.info? 55).isSome=true by kernel_rfl) (by rw [h]; decide)
 | some i =>
  refine ⟨i,rfl,?_,?_⟩
  · have:(P.info? 55).map (·.size)=some 2:=by kernel_rfl
    rw [h] at this
    exact Option.some.inj this
  · have:(P.info? 55).map (·.bytes)=some 16:=by kernel_rfl
    rw [h] at this
    exact Option.some.inj this
theorem jK:yr P 55=some (.agg [.int .i64 0,.int .i64 0]):=by kernel_rfl
theorem zbv:P.underlying 36=some (.slice 55):=by kernel_rfl
theorem vX:yt P 36=some false:=by kernel_rfl
def G2 (O:T AObj) (ri p:Nat) (f:Nat→AV):Prop:=∃ c sg ex,0<p∧O.get ri=some (.cells c (p*2) 55 0 (p - 1) p 0 sg ex)∧∀ k,k<p*2→c.get k=some (f k)
theorem zc7 {h:AHeap}{s x:AV}{y0 y1:AV}{sl:Nat}(hs:zF s=some sl)(hc:vF x=some 1)(hx:xJ h 2 1 x=some [y0,y1])(hy:AV.one y0=true)(hy1:AV.one y1=true) :
 zg P h .append (some 36) (some 36) [s,x]=yD (xR h 55 2 16 sl 1 s [y0,y1]):=by
 obtain ⟨i,h1,h2,h3⟩:=jQ
 show (match yt P 36 with | none=>none | some z=>match ze1 [s,x] with | none=>none | some (s,x)=>yD (xb P h 36 z s x))=_
 rw [vX]
 show yD (xb P h 36 false s x)=_
 congr 1
 unfold xb
 rw [zbv]
 show xL P h 55 false s x=_
 unfold xL
 rw [h1,jK]
 simp only [hs,h2,h3]
 unfold xI
 simp only [hc,hx]
 rw [if_pos ⟨Nat.zero_lt_two,rfl,rfl,by simp [hy,hy1],rfl,fun h=>by cases h⟩]
theorem vT {O:T AObj}{K M:Nat}{G:T (T AV)}{f:Nat→AV}(h:Row O K 2 f):xJ ⟨O,M,G⟩ 2 1 (.slc K 0 0 1 1)=some [f 0,f 1]:=by
 obtain ⟨c,el,h1,h2⟩:=h
 have:za ⟨O,M,G⟩ K 0 0 2=some [f 0,f 1]:=by
  refine zeN h1 (by omega) ?_
  unfold zy kp
  simp only [h2 (0+1) (by omega)]
  unfold kp
  simp only [h2 (0+0) (by omega)]
  rfl
 exact this
theorem zg6 {O:T AObj}{K M:Nat}{G:T (T AV)}{f:Nat→AV}(h:Row O K 2 f)(hy:AV.one (f 0)=true)(hy1:AV.one (f 1)=true) :
 ∃ O',zg P ⟨O,M,G⟩ .append (some 36) (some 36) [.nils 0 0,.slc K 0 0 1 1]=some (.val (.slg M 0 0 1 0) ⟨O',M+1,G⟩)∧G2 O' M 1 f∧Frm O O' M:=by
 refine ⟨O.set (some (.cells (zf .leaf 0 [f 0,f 1]) 2 55 0 0 1 0 false .leaf)) M,?_,⟨_,_,_,Nat.zero_lt_one,by rw [T.get_set,if_pos rfl],fun k hk=>?_⟩,fun j hj=>by rw [T.get_set,if_neg hj]⟩
 · rw [zc7 (sl:=0) rfl rfl (vT h) hy hy1]
   show yD (zD ⟨O,M,G⟩ 55 2 16 0 (0+1) (.nils 0 0) [f 0,f 1])=_
   unfold zD
   rw [if_pos (by decide)]
   show yD (match some ([]:List AV) with | none=>none | some old=>if old.all AV.one=true∧old.length=0*2 then some (.slg M 0 0 1 0,xd ⟨O,M,G⟩ 55 (old++[f 0,f 1]) false) else none)=_
   simp only
   rw [if_pos ⟨rfl,rfl⟩]
   rfl
 · rw [zd]
   rcases k with _ | _ | k
   · rfl
   · rfl
   · omega
theorem ziy {O:T AObj}{K M ri p:Nat}{G:T (T AV)}{y f:Nat→AV}(h:Row O K 2 y)(hg:G2 O ri p f)(hp:p<1000000000)(hy:AV.one (y 0)=true)(hy1:AV.one (y 1)=true) :
 ∃ O',zg P ⟨O,M,G⟩ .append (some 36) (some 36) [.slg ri (p - 1) 0 p 0,.slc K 0 0 1 1]=some (.val (.slg ri (p - 1+1) 0 (p+1) 0) ⟨O',M,G⟩)∧G2 O' ri (p+1) (fun k=>if p*2≤k then y (k - p*2) else f k)∧Frm O O' ri:=by
 obtain ⟨c,sg,ex,h0,h1,h2⟩:=hg
 refine ⟨O.set (some (.cells (zf c (p*2) [y 0,y 1]) ((p+1)*2) 55 0 p (p+1) 0 sg (ex.set (some (p*2)) (p - 1)))) ri,?_,⟨_,_,_,by omega,by rw [T.get_set,if_pos rfl]; rfl,fun k hk=>?_⟩,fun j hj=>by rw [T.get_set,if_neg hj]⟩
 · rw [zc7 (sl:=p) rfl rfl (vT h) hy hy1]
   show yD (match zE ⟨O,M,G⟩ 55 2 ri (p - 1) 0 0 p (p+1) [y 0,y 1] with | some r=>some r | none=>xA ⟨O,M,G⟩ 55 2 16 ri (p - 1) 0 0 p (p+1) [y 0,y 1])=_
   have hext:zj ex (p*2) (p - 1) (p - 1)=some (p*2):=by unfold zj; rw [if_pos rfl]
   have k1:zE ⟨O,M,G⟩ 55 2 ri (p - 1) 0 0 p (p+1) [y 0,y 1]=none:=by
    unfold zE
    show (match O.get ri with | some (.cells _ m el' lo hi _ _ _ ex)=>_ | _=>_)=_
    rw [h1]
    simp only [hext]
    rw [if_neg (by omega)]
   rw [k1]
   simp only
   unfold xA
   show yD (match O.get ri with | some (.cells c m el' lo hi nv fz sg ex)=>_ | _=>_)=_
   rw [h1]
   simp only [hext]
   have hroom:ve (p+1) 16=true:=by
    unfold ve
    rw [Bool.and_eq_true]
    exact ⟨Nat.ble_eq_true_of_le (by omega),Nat.ble_eq_true_of_le (show p+1+1≤2 ^ 60 by omega)⟩
   have hc8:0≤p - 1∧p - 1≤p - 1∧0+p*2≤p*2∧0≤0+p*2∧True∧True∧p - 1<p∧ve (p+1) 16=true:=⟨Nat.zero_le _,Nat.le_refl _,by omega,Nat.zero_le _,trivial,trivial,by omega,hroom⟩
   rw [if_pos hc8,if_pos ⟨by omega,by omega⟩,T.seq_eq,T.seq_eq]
   have e1:0+p*2=p*2:=by omega
   have e2:p - 1+1=p:=by omega
   have e3:(p+1)*2=p*2+2:=by omega
   rw [e1,e2,e3]
   rfl
 · rw [zd]
   by_cases e:p*2≤k
   · obtain ⟨u,rfl⟩:∃ u,k=p*2+u:=⟨k - p*2,by omega⟩
     rw [if_pos ⟨by omega,by show p*2+u<p*2+2; omega⟩]
     show _=some (if p*2≤p*2+u then y (p*2+u - p*2) else f (p*2+u))
     rw [if_pos (by omega),Nat.add_sub_cancel_left]
     rcases u with _ | _ | u
     · rfl
     · rfl
     · omega
   · rw [if_neg (by simp; omega)]
     show c.get k=some (if p*2≤k then y (k - p*2) else f k)
     rw [if_neg e]
     exact h2 k (by omega)
theorem zd7 (O:T AObj)(M:Nat)(G:T (T AV))(a b:Int):∃ O',zh P ⟨O,M,G⟩ 36 1 [(0,.agg [.int .i64 a,.int .i64 b])]=some (.slc M 0 0 1 1,⟨O',M+1,G⟩)∧Row O' M 2 (fun k=>if k=0 then kAV a else kAV b)∧Frm O O' M:=by
 refine ⟨O.set (some (.cells (zf .leaf 0 [.int .i64 a,.int .i64 b]) 2 55 0 0 1 0 false .leaf)) M,by kernel_rfl,⟨_,_,by rw [T.get_set,if_pos rfl],fun k hk=>?_⟩,fun j hj=>by rw [T.get_set,if_neg hj]⟩
 rw [zd]
 rcases k with _ | _ | k
 · rfl
 · rfl
 · omega
def VRow (O:T AObj) (ri z n:Nat) (f:Nat→AV):Prop:=∃ c m el lo hi nv fz sg ex e,O.get ri=some (.cells c m el lo hi nv fz sg ex)∧zj ex m hi z=some e∧lo≤z∧z≤hi∧n≤e∧∀ k,k<n→c.get k=some (f k)
theorem G2.v {O:T AObj}{ri p:Nat}{f:Nat→AV}(h:G2 O ri p f):VRow O ri (p - 1) (p*2) f:=by
 obtain ⟨c,sg,ex,h0,h1,h2⟩:=h
 exact ⟨c,_,_,_,_,_,_,_,_,p*2,h1,by unfold zj; rw [if_pos rfl],Nat.zero_le _,Nat.le_refl _,Nat.le_refl _,h2⟩
theorem Row.v {O:T AObj}{ri n:Nat}{f:Nat→AV}(h:Row O ri n f):VRow O ri 0 n f:=by
 obtain ⟨c,el,h1,h2⟩:=h
 exact ⟨c,_,_,_,_,_,_,_,_,n,h1,by unfold zj; rw [if_pos rfl],Nat.zero_le _,Nat.le_refl _,Nat.le_refl _,h2⟩
theorem VRow.same {O O':T AObj}{ri z n:Nat}{f:Nat→AV}(h:VRow O ri z n f)(e:O'.get ri=O.get ri):VRow O' ri z n f:=by
 obtain ⟨c,m,el,lo,hi,nv,fz,sg,ex,e',h1,h2⟩:=h
 exact ⟨c,m,el,lo,hi,nv,fz,sg,ex,e',e.trans h1,h2⟩
theorem VRow.less {O:T AObj}{ri z n n':Nat}{f:Nat→AV}(h:VRow O ri z n f)(hn:n'≤n):VRow O ri z n' f:=by
 obtain ⟨c,m,el,lo,hi,nv,fz,sg,ex,e',h1,h2,h3,h4,h5,h6⟩:=h
 exact ⟨c,m,el,lo,hi,nv,fz,sg,ex,e',h1,h2,h3,h4,by omega,fun k hk=>h6 k (by omega)⟩
theorem VRow.loadL {O:T AObj}{ri z n off k:Nat}{f:Nat→AV}{l:List AV}(h:VRow O ri z n f)(hk:off+k≤n)(N:Nat)(G:T (T AV))(hl:∀ c:T AV,(∀ k,k<n→c.get k=some (f k))→zy c off k=some l):za ⟨O,N,G⟩ ri z off k=some l:=by
 obtain ⟨c,m,el,lo,hi,nv,fz,sg,ex,e',h1,h2,h3,h4,h5,h6⟩:=h
 unfold za
 show (match O.get ri with | some (.cells c n _ lo hi _ _ _ ex)=>_ | some (.ro c lo n)=>_ | _=>_)=_
 rw [h1]
 simp only [h2]
 rw [if_pos ⟨h3,h4,by omega⟩]
 exact hl c h6
theorem VRow.load1 {O:T AObj}{ri z n off:Nat}{f:Nat→AV}(h:VRow O ri z n f)(hk:off+1≤n)(N:Nat)(G:T (T AV)):za ⟨O,N,G⟩ ri z off 1=some [f off] :=
 h.loadL hk N G fun c hc=>by
  show (match c.get (off+0) with | none=>none | some v=>some [v])=_
  rw [Nat.add_zero,hc off (by omega)]
theorem VRow.load2 {O:T AObj}{ri z n off:Nat}{f:Nat→AV}(h:VRow O ri z n f)(hk:off+2≤n)(N:Nat)(G:T (T AV)):za ⟨O,N,G⟩ ri z off 2=some [f off,f (off+1)] :=
 h.loadL hk N G fun c hc=>by
  unfold zy kp
  simp only [hc (off+1) (by omega)]
  unfold kp
  simp only [hc (off+0) (by omega)]
  rfl
def xX (ps:List (Int × Int)) (k:Nat):AV:=if k % 2=0 then kAV (ps.getD (k / 2) (0,0)).1 else kAV (ps.getD (k / 2) (0,0)).2
def OV (O:T AObj) (lo hi:Nat) (ps:List (Int × Int)) (s:AV):Prop:=(s=.nils 0 0∧ps=[])∨∃ ri q,s=.slg ri q 0 (q+1) 0∧lo≤ri∧ri<hi∧q+1=ps.length∧G2 O ri (q+1) (xX ps)
def PV (O:T AObj) (lo hi:Nat) (ps:List (Int × Int)) (s:AV):Prop:=(s=.nils 0 0∧ps=[])∨(∃ ri,s=.slc ri 0 0 1 1∧lo≤ri∧ri<hi∧ps.length=1∧VRow O ri 0 2 (xX ps))∨∃ ri z q,s=.slg ri z 0 (q+1) 0∧lo≤ri∧ri<hi∧q+1=ps.length∧VRow O ri z ((q+1)*2) (xX ps)
end Go.Proofs.Ytcdpmiebmhjmpaa.lr
end
section
set_option maxRecDepth 100000
set_option linter.unusedVariables false
namespace Go.Proofs.Ytcdpmiebmhjmpaa.lr
open Go Ev
noncomputable def TL (r:Nat) (k:Int) (t s:Nat) (ot:AV) (b:Bool) (j:Int) (rest:List AFrame) (O:T AObj) (N:Nat) (G:T (T AV)):AM:=⟨⟨21,52,(.node (.node (.node (.node .leaf (some (.ptr s 0 0)) .leaf) none .leaf) (some (.int .i64 k)) (.node (.node .leaf (some (.int .i64 j)) .leaf) none .leaf)) (some (.ptr r 0 0)) (.node (.node (.node .leaf (some (.bool b)) .leaf) (some (.ptr t 0 0)) .leaf) none (.node .leaf (some ot) .leaf))),
 [.code (cd P 21 [1,1,1,1,0,1,0,0]),.inLoop (cd P 21 [1,1,1,1,0,1,0,0]),.inBlock 0,.code (cd P 21 [1,1,1,1,1])],[],.run,CallKind.normal,none⟩,
 rest,
 ⟨O,N,G⟩⟩
theorem q_tst (R:AV→AHeap→Prop)(keep:Nat)(f0:FuncId)(rest:List AFrame)(O:T AObj)(O1:T AObj)(O2:T AObj)(N:Nat)(r:Nat)(k:Int)(G:T (T AV))(K:AM→Prop):Obl P f0 (fun v h=>R v h) keep K [.run 2,.hop .nilp O1,.run 8,.hop .nilp O2,.run 12,.keep [0,1,4,6,7,8,9]] ((AM.mk (enF 21 [.ptr r 0 0,.int .i64 k]) rest ⟨O,N,G⟩))=((T.set ((some (.cells (.node (.node .leaf (some (.int .i64 0)) .leaf) (some (.int .i64 0)) .leaf) 2 55 0 0 1 0 false .leaf))) (O) (N)=O1)∧(T.set ((some (.cells (.node (.node .leaf (some (.int .i64 0)) .leaf) (some (.int .i64 0)) .leaf) 2 55 0 0 1 0 false .leaf))) (O1) (N+1)=O2)∧K (TL r k N (N+1) (AV.nils 0 0) false 0 rest O2 (N+2) G)):=by kernel_rfl
theorem q_thg (R:AV→AHeap→Prop)(keep:Nat)(f0:FuncId)(rest:List AFrame)(O:T AObj)(O1:T AObj)(N:Nat)(r:Nat)(s:Nat)(t:Nat)(kj:Nat)(z:Nat)(km:Nat)(k:Int)(v:Int)(j:Int)(b:Bool)(ot:AV)(G:T (T AV))(K:AM→Prop):Obl P f0 (fun v h=>R v h) keep K [.run 7,.hop ((.slg kj z 0 km 0)) O,.run 3,.know 16 true,.run 9,.hop ((.slg kj z 0 km 0)) O,.run 1,.op,.run 1,.hop (.int .i64 k) O,.run 3,.know 28 true,.run 6,.hop ((.slg kj z 0 km 0)) O,.run 1,.op,.hop (.agg [.int .i64 k,.int .i64 v]) O,.hop .nilp O1,.run 11,.keep [0,1,4,6,7,8,9]] ((TL r k t s ot b j rest O N G))=((za (⟨O,N,G⟩) (r) 0 1 1=(some [.slg kj z 0 km 0]))∧(decide (j<(↑km:Int))=true)∧(za (⟨O,N,G⟩) (r) 0 1 1=(some [.slg kj z 0 km 0]))∧((0:Int)≤j∧j<(↑km:Int))∧(za (⟨O,N,G⟩) (kj) (z) (0+j.toNat*2) 1=(some [.int .i64 k]))∧((k==k)=true)∧(za (⟨O,N,G⟩) (r) 0 1 1=(some [.slg kj z 0 km 0]))∧((0:Int)≤j∧j<(↑km:Int))∧(za (⟨O,N,G⟩) (kj) (z) (0+j.toNat*2) 2=(some [.int .i64 k,.int .i64 v]))∧(zc (⟨O,N,G⟩) (s) 0 0 ([.int .i64 k,.int .i64 v])=(some ⟨O1,N,G⟩))∧K (TL r k t s ot true (IntKind.i64.wrap (j+(1:Int))) rest O1 N G)):=by kernel_rfl
theorem q_tmg (R:AV→AHeap→Prop)(keep:Nat)(f0:FuncId)(rest:List AFrame)(O:T AObj)(O1:T AObj)(O2:T AObj)(N:Nat)(r:Nat)(s:Nat)(t:Nat)(kj:Nat)(z:Nat)(km:Nat)(k:Int)(v:Int)(j:Int)(w:Int)(b:Bool)(G:T (T AV))(K:AM→Prop):Obl P f0 (fun v h=>R v h) keep K [.run 7,.hop ((.slg kj z 0 km 0)) O,.run 3,.know 16 true,.run 9,.hop ((.slg kj z 0 km 0)) O,.run 1,.op,.run 1,.hop (.int .i64 w) O,.run 3,.know 28 false,.run 6,.hop ((.slg kj z 0 km 0)) O,.run 1,.op,.hop (.agg [.int .i64 w,.int .i64 v]) O,.hopn (.slc N 0 0 1 1) O1 (N+1),.hopn (.slg (N+1) 0 0 1 0) O2 (N+2),.run 9,.keep [0,1,4,6,7,8,9]] ((TL r k t s (.nils 0 0) b j rest O N G))=((za (⟨O,N,G⟩) (r) 0 1 1=(some [.slg kj z 0 km 0]))∧(decide (j<(↑km:Int))=true)∧(za (⟨O,N,G⟩) (r) 0 1 1=(some [.slg kj z 0 km 0]))∧((0:Int)≤j∧j<(↑km:Int))∧(za (⟨O,N,G⟩) (kj) (z) (0+j.toNat*2) 1=(some [.int .i64 w]))∧((w==k)=false)∧(za (⟨O,N,G⟩) (r) 0 1 1=(some [.slg kj z 0 km 0]))∧((0:Int)≤j∧j<(↑km:Int))∧(za (⟨O,N,G⟩) (kj) (z) (0+j.toNat*2) 2=(some [.int .i64 w,.int .i64 v]))∧(zh P (⟨O,N,G⟩) 36 1 ([(0,.agg [.int .i64 w,.int .i64 v])])=(some (.slc N 0 0 1 1,⟨O1,N+1,G⟩)))∧(zg P (⟨O1,N+1,G⟩) (Builtin.append) ((some 36)) ((some 36)) ([.nils 0 0,.slc N 0 0 1 1])=(some (.val (.slg (N+1) 0 0 1 0) ⟨O2,N+2,G⟩)))∧K (TL r k t s (AV.slg (N+1) 0 0 1 0) b (IntKind.i64.wrap (j+(1:Int))) rest O2 (N+2) G)):=by kernel_rfl
theorem q_thc (R:AV→AHeap→Prop)(keep:Nat)(f0:FuncId)(rest:List AFrame)(O:T AObj)(O1:T AObj)(N:Nat)(r:Nat)(s:Nat)(t:Nat)(kj:Nat)(k:Int)(v:Int)(j:Int)(b:Bool)(ot:AV)(G:T (T AV))(K:AM→Prop):Obl P f0 (fun v h=>R v h) keep K [.run 7,.hop ((.slc kj 0 0 1 1)) O,.run 3,.know 16 true,.run 9,.hop ((.slc kj 0 0 1 1)) O,.run 1,.op,.run 1,.hop (.int .i64 k) O,.run 3,.know 28 true,.run 6,.hop ((.slc kj 0 0 1 1)) O,.run 1,.op,.hop (.agg [.int .i64 k,.int .i64 v]) O,.hop .nilp O1,.run 11,.keep [0,1,4,6,7,8,9]] ((TL r k t s ot b j rest O N G))=((za (⟨O,N,G⟩) (r) 0 1 1=(some [.slc kj 0 0 1 1]))∧(decide (j<Int.ofNat 1)=true)∧(za (⟨O,N,G⟩) (r) 0 1 1=(some [.slc kj 0 0 1 1]))∧((0:Int)≤j∧j<(↑(1):Int))∧(za (⟨O,N,G⟩) (kj) 0 (0+j.toNat*2) 1=(some [.int .i64 k]))∧((k==k)=true)∧(za (⟨O,N,G⟩) (r) 0 1 1=(some [.slc kj 0 0 1 1]))∧((0:Int)≤j∧j<(↑(1):Int))∧(za (⟨O,N,G⟩) (kj) 0 (0+j.toNat*2) 2=(some [.int .i64 k,.int .i64 v]))∧(zc (⟨O,N,G⟩) (s) 0 0 ([.int .i64 k,.int .i64 v])=(some ⟨O1,N,G⟩))∧K (TL r k t s ot true (IntKind.i64.wrap (j+(1:Int))) rest O1 N G)):=by kernel_rfl
theorem q_tmc (R:AV→AHeap→Prop)(keep:Nat)(f0:FuncId)(rest:List AFrame)(O:T AObj)(O1:T AObj)(O2:T AObj)(N:Nat)(r:Nat)(s:Nat)(t:Nat)(kj:Nat)(k:Int)(v:Int)(j:Int)(w:Int)(b:Bool)(G:T (T AV))(K:AM→Prop):Obl P f0 (fun v h=>R v h) keep K [.run 7,.hop ((.slc kj 0 0 1 1)) O,.run 3,.know 16 true,.run 9,.hop ((.slc kj 0 0 1 1)) O,.run 1,.op,.run 1,.hop (.int .i64 w) O,.run 3,.know 28 false,.run 6,.hop ((.slc kj 0 0 1 1)) O,.run 1,.op,.hop (.agg [.int .i64 w,.int .i64 v]) O,.hopn (.slc N 0 0 1 1) O1 (N+1),.hopn (.slg (N+1) 0 0 1 0) O2 (N+2),.run 9,.keep [0,1,4,6,7,8,9]] ((TL r k t s (.nils 0 0) b j rest O N G))=((za (⟨O,N,G⟩) (r) 0 1 1=(some [.slc kj 0 0 1 1]))∧(decide (j<Int.ofNat 1)=true)∧(za (⟨O,N,G⟩) (r) 0 1 1=(some [.slc kj 0 0 1 1]))∧((0:Int)≤j∧j<(↑(1):Int))∧(za (⟨O,N,G⟩) (kj) 0 (0+j.toNat*2) 1=(some [.int .i64 w]))∧((w==k)=false)∧(za (⟨O,N,G⟩) (r) 0 1 1=(some [.slc kj 0 0 1 1]))∧((0:Int)≤j∧j<(↑(1):Int))∧(za (⟨O,N,G⟩) (kj) 0 (0+j.toNat*2) 2=(some [.int .i64 w,.int .i64 v]))∧(zh P (⟨O,N,G⟩) 36 1 ([(0,.agg [.int .i64 w,.int .i64 v])])=(some (.slc N 0 0 1 1,⟨O1,N+1,G⟩)))∧(zg P (⟨O1,N+1,G⟩) (Builtin.append) ((some 36)) ((some 36)) ([.nils 0 0,.slc N 0 0 1 1])=(some (.val (.slg (N+1) 0 0 1 0) ⟨O2,N+2,G⟩)))∧K (TL r k t s (AV.slg (N+1) 0 0 1 0) b (IntKind.i64.wrap (j+(1:Int))) rest O2 (N+2) G)):=by kernel_rfl
theorem zkb (R:AV→AHeap→Prop)(keep:Nat)(f0:FuncId)(rest:List AFrame)(O:T AObj)(O1:T AObj)(O2:T AObj)(N:Nat)(r:Nat)(s:Nat)(t:Nat)(ki:Nat)(y:Nat)(kn:Nat)(kj:Nat)(z:Nat)(km:Nat)(k:Int)(v:Int)(j:Int)(w:Int)(b:Bool)(G:T (T AV))(K:AM→Prop):Obl P f0 (fun v h=>R v h) keep K [.run 7,.hop ((.slg kj z 0 km 0)) O,.run 3,.know 16 true,.run 9,.hop ((.slg kj z 0 km 0)) O,.run 1,.op,.run 1,.hop (.int .i64 w) O,.run 3,.know 28 false,.run 6,.hop ((.slg kj z 0 km 0)) O,.run 1,.op,.hop (.agg [.int .i64 w,.int .i64 v]) O,.hopn (.slc N 0 0 1 1) O1 (N+1),.hop (.slg ki (y+1) 0 (kn+1) 0) O2,.run 9,.keep [0,1,4,6,7,8,9]] ((TL r k t s (.slg ki y 0 kn 0) b j rest O N G))=((za (⟨O,N,G⟩) (r) 0 1 1=(some [.slg kj z 0 km 0]))∧(decide (j<(↑km:Int))=true)∧(za (⟨O,N,G⟩) (r) 0 1 1=(some [.slg kj z 0 km 0]))∧((0:Int)≤j∧j<(↑km:Int))∧(za (⟨O,N,G⟩) (kj) (z) (0+j.toNat*2) 1=(some [.int .i64 w]))∧((w==k)=false)∧(za (⟨O,N,G⟩) (r) 0 1 1=(some [.slg kj z 0 km 0]))∧((0:Int)≤j∧j<(↑km:Int))∧(za (⟨O,N,G⟩) (kj) (z) (0+j.toNat*2) 2=(some [.int .i64 w,.int .i64 v]))∧(zh P (⟨O,N,G⟩) 36 1 ([(0,.agg [.int .i64 w,.int .i64 v])])=(some (.slc N 0 0 1 1,⟨O1,N+1,G⟩)))∧(zg P (⟨O1,N+1,G⟩) (Builtin.append) ((some 36)) ((some 36)) ([.slg ki y 0 kn 0,.slc N 0 0 1 1])=(some (.val (.slg ki (y+1) 0 (kn+1) 0) ⟨O2,N+1,G⟩)))∧K (TL r k t s (AV.slg ki (y+1) 0 (kn+1) 0) b (IntKind.i64.wrap (j+(1:Int))) rest O2 (N+1) G)):=by kernel_rfl
theorem zkm (R:AV→AHeap→Prop)(keep:Nat)(f0:FuncId)(rest:List AFrame)(O:T AObj)(O1:T AObj)(O2:T AObj)(N:Nat)(r:Nat)(s:Nat)(t:Nat)(kj:Nat)(z:Nat)(km:Nat)(k:Int)(v:Int)(j:Int)(w:Int)(b:Bool)(G:T (T AV))(K:AM→Prop):Obl P f0 (fun v h=>R v h) keep K [.run 7,.hop ((.slg kj z 0 km 0)) O,.run 3,.know 16 false,.run 8,.hop .nilp O1,.run 3,.hop (.agg [.int .i64 w,.int .i64 v]) O1,.run 1,.hop .nilp O2,.run 3,.keep [4,5]] ((TL r k t s (.nils 0 0) b j rest O N G))=((za (⟨O,N,G⟩) (r) 0 1 1=(some [.slg kj z 0 km 0]))∧(decide (j<(↑km:Int))=false)∧(zc (⟨O,N,G⟩) (r) 0 1 ([.nils 0 0])=(some ⟨O1,N,G⟩))∧(za (⟨O1,N,G⟩) (s) 0 0 2=(some [.int .i64 w,.int .i64 v]))∧(zc (⟨O1,N,G⟩) (t) 0 0 ([.int .i64 w,.int .i64 v])=(some ⟨O2,N,G⟩))∧K (AM.mk (RF 21 52 (.node (.node .leaf none (.node .leaf (some (.bool b)) .leaf)) none (.node (.node .leaf (some (.ptr t 0 0)) .leaf) none .leaf)) [.code (cd P 21 [1,1,1,1,1,1,1])]) rest ⟨O2,N,G⟩)):=by kernel_rfl
theorem zkK (R:AV→AHeap→Prop)(keep:Nat)(f0:FuncId)(rest:List AFrame)(O:T AObj)(O1:T AObj)(O2:T AObj)(N:Nat)(r:Nat)(s:Nat)(t:Nat)(kj:Nat)(k:Int)(v:Int)(j:Int)(w:Int)(b:Bool)(G:T (T AV))(K:AM→Prop):Obl P f0 (fun v h=>R v h) keep K [.run 7,.hop ((.slc kj 0 0 1 1)) O,.run 3,.know 16 false,.run 8,.hop .nilp O1,.run 3,.hop (.agg [.int .i64 w,.int .i64 v]) O1,.run 1,.hop .nilp O2,.run 3,.keep [4,5]] ((TL r k t s (.nils 0 0) b j rest O N G))=((za (⟨O,N,G⟩) (r) 0 1 1=(some [.slc kj 0 0 1 1]))∧(decide (j<Int.ofNat 1)=false)∧(zc (⟨O,N,G⟩) (r) 0 1 ([.nils 0 0])=(some ⟨O1,N,G⟩))∧(za (⟨O1,N,G⟩) (s) 0 0 2=(some [.int .i64 w,.int .i64 v]))∧(zc (⟨O1,N,G⟩) (t) 0 0 ([.int .i64 w,.int .i64 v])=(some ⟨O2,N,G⟩))∧K (AM.mk (RF 21 52 (.node (.node .leaf none (.node .leaf (some (.bool b)) .leaf)) none (.node (.node .leaf (some (.ptr t 0 0)) .leaf) none .leaf)) [.code (cd P 21 [1,1,1,1,1,1,1])]) rest ⟨O2,N,G⟩)):=by kernel_rfl
theorem zky (R:AV→AHeap→Prop)(keep:Nat)(f0:FuncId)(rest:List AFrame)(O:T AObj)(O1:T AObj)(O2:T AObj)(N:Nat)(r:Nat)(s:Nat)(t:Nat)(k:Int)(v:Int)(j:Int)(w:Int)(b:Bool)(G:T (T AV))(K:AM→Prop):Obl P f0 (fun v h=>R v h) keep K [.run 7,.hop ((.nils 0 0)) O,.run 3,.know 16 false,.run 8,.hop .nilp O1,.run 3,.hop (.agg [.int .i64 w,.int .i64 v]) O1,.run 1,.hop .nilp O2,.run 3,.keep [4,5]] ((TL r k t s (.nils 0 0) b j rest O N G))=((za (⟨O,N,G⟩) (r) 0 1 1=(some [.nils 0 0]))∧(decide (j<0)=false)∧(zc (⟨O,N,G⟩) (r) 0 1 ([.nils 0 0])=(some ⟨O1,N,G⟩))∧(za (⟨O1,N,G⟩) (s) 0 0 2=(some [.int .i64 w,.int .i64 v]))∧(zc (⟨O1,N,G⟩) (t) 0 0 ([.int .i64 w,.int .i64 v])=(some ⟨O2,N,G⟩))∧K (AM.mk (RF 21 52 (.node (.node .leaf none (.node .leaf (some (.bool b)) .leaf)) none (.node (.node .leaf (some (.ptr t 0 0)) .leaf) none .leaf)) [.code (cd P 21 [1,1,1,1,1,1,1])]) rest ⟨O2,N,G⟩)):=by kernel_rfl
theorem zke (R:AV→AHeap→Prop)(keep:Nat)(f0:FuncId)(rest:List AFrame)(O:T AObj)(O1:T AObj)(O2:T AObj)(N:Nat)(r:Nat)(s:Nat)(t:Nat)(ki:Nat)(y:Nat)(kn:Nat)(kj:Nat)(z:Nat)(km:Nat)(k:Int)(v:Int)(j:Int)(w:Int)(b:Bool)(G:T (T AV))(K:AM→Prop):Obl P f0 (fun v h=>R v h) keep K [.run 7,.hop ((.slg kj z 0 km 0)) O,.run 3,.know 16 false,.run 8,.hop .nilp O1,.run 3,.hop (.agg [.int .i64 w,.int .i64 v]) O1,.run 1,.hop .nilp O2,.run 3,.keep [4,5]] ((TL r k t s (.slg ki y 0 kn 0) b j rest O N G))=((za (⟨O,N,G⟩) (r) 0 1 1=(some [.slg kj z 0 km 0]))∧(decide (j<(↑km:Int))=false)∧(zc (⟨O,N,G⟩) (r) 0 1 ([.slg ki y 0 kn 0])=(some ⟨O1,N,G⟩))∧(za (⟨O1,N,G⟩) (s) 0 0 2=(some [.int .i64 w,.int .i64 v]))∧(zc (⟨O1,N,G⟩) (t) 0 0 ([.int .i64 w,.int .i64 v])=(some ⟨O2,N,G⟩))∧K (AM.mk (RF 21 52 (.node (.node .leaf none (.node .leaf (some (.bool b)) .leaf)) none (.node (.node .leaf (some (.ptr t 0 0)) .leaf) none .leaf)) [.code (cd P 21 [1,1,1,1,1,1,1])]) rest ⟨O2,N,G⟩)):=by kernel_rfl
theorem zkg (R:AV→AHeap→Prop)(keep:Nat)(f0:FuncId)(rest:List AFrame)(O:T AObj)(O1:T AObj)(O2:T AObj)(N:Nat)(r:Nat)(s:Nat)(t:Nat)(ki:Nat)(y:Nat)(kn:Nat)(kj:Nat)(k:Int)(v:Int)(j:Int)(w:Int)(b:Bool)(G:T (T AV))(K:AM→Prop):Obl P f0 (fun v h=>R v h) keep K [.run 7,.hop ((.slc kj 0 0 1 1)) O,.run 3,.know 16 false,.run 8,.hop .nilp O1,.run 3,.hop (.agg [.int .i64 w,.int .i64 v]) O1,.run 1,.hop .nilp O2,.run 3,.keep [4,5]] ((TL r k t s (.slg ki y 0 kn 0) b j rest O N G))=((za (⟨O,N,G⟩) (r) 0 1 1=(some [.slc kj 0 0 1 1]))∧(decide (j<Int.ofNat 1)=false)∧(zc (⟨O,N,G⟩) (r) 0 1 ([.slg ki y 0 kn 0])=(some ⟨O1,N,G⟩))∧(za (⟨O1,N,G⟩) (s) 0 0 2=(some [.int .i64 w,.int .i64 v]))∧(zc (⟨O1,N,G⟩) (t) 0 0 ([.int .i64 w,.int .i64 v])=(some ⟨O2,N,G⟩))∧K (AM.mk (RF 21 52 (.node (.node .leaf none (.node .leaf (some (.bool b)) .leaf)) none (.node (.node .leaf (some (.ptr t 0 0)) .leaf) none .leaf)) [.code (cd P 21 [1,1,1,1,1,1,1])]) rest ⟨O2,N,G⟩)):=by kernel_rfl
def pc (x:Int × Int) (u:Nat):AV:=if u=0 then kAV x.1 else kAV x.2
def rf (cap:Nat) (s:AV) (u:Nat):AV:=if u=0 then kAV (cap:Int) else s
def TB (k:Int) (b:Bool) (x:Int × Int) (dn:List (Int × Int)):Prop:=(b=true∧x.1=k∧x∈dn)∨(b=false∧x=(0,0)∧∀ q∈dn,q.1≠k)
theorem zfx {ps:List (Int × Int)}{x:Int × Int}(u:Nat):(if ps.length*2≤u then pc x (u - ps.length*2) else xX ps u)=(if u<(ps.length+1)*2 then xX (ps++[x]) u else if ps.length*2≤u then pc x (u - ps.length*2) else xX ps u):=by
 by_cases h:u<(ps.length+1)*2
 · rw [if_pos h]
   by_cases h2:ps.length*2≤u
   · rw [if_pos h2]
     obtain ⟨d,rfl⟩:∃ d,u=ps.length*2+d:=⟨u - ps.length*2,by omega⟩
     have hg:(ps++[x]).getD ((ps.length*2+d) / 2) (0,0)=x:=by
      rw [show (ps.length*2+d) / 2=ps.length by omega,List.getD_eq_getElem?_getD,List.getElem?_append_right (Nat.le_refl _),Nat.sub_self]
      rfl
     unfold xX pc
     rw [hg,Nat.add_sub_cancel_left]
     have hd:d=0∨d=1:=by omega
     rcases hd with rfl | rfl
     · rw [if_pos rfl,if_pos (by omega)]
     · rw [if_neg (by omega),if_neg (by omega)]
   · rw [if_neg h2]
     have hg:(ps++[x]).getD (u / 2) (0,0)=ps.getD (u / 2) (0,0):=by
      rw [List.getD_eq_getElem?_getD,List.getD_eq_getElem?_getD,List.getElem?_append_left (by omega)]
     unfold xX
     rw [hg]
 · rw [if_neg h]
theorem OV.app {O O1:T AObj}{lo N:Nat}{ps:List (Int × Int)}{x:Int × Int}(G:T (T AV))(hp:ps.length<1000000000)(hlo:lo≤N)(f1:Frm O O1 N)(r1:Row O1 N 2 (pc x)){ri q:Nat}(g1:lo≤ri)(g2:ri<N)(g3:q+1=ps.length)(g:G2 O ri (q+1) (xX ps)) :
 ∃ O2,zg P ⟨O1,N+1,G⟩ .append (some 36) (some 36) [.slg ri q 0 (q+1) 0,.slc N 0 0 1 1]=some (.val (.slg ri (q+1) 0 (q+1+1) 0) ⟨O2,N+1,G⟩)∧OV O2 lo (N+1) (ps++[x]) (.slg ri (q+1) 0 (q+1+1) 0)∧Frm O1 O2 ri:=by
 have g':G2 O1 ri (q+1) (xX ps):=by
  obtain ⟨c,sg,ex,a,b,d⟩:=g
  exact ⟨c,sg,ex,a,(f1 ri (by omega)).trans b,d⟩
 obtain ⟨O2,e2,gr2,f2⟩:=ziy (M:=N+1) (G:=G) r1 g' (by omega) rfl rfl
 refine ⟨O2,e2,.inr ⟨ri,q+1,rfl,g1,by omega,by rw [List.length_append,← g3]; rfl,?_⟩,f2⟩
 obtain ⟨c,sg,ex,a,b,d⟩:=gr2
 refine ⟨c,sg,ex,a,b,fun u hu=>?_⟩
 rw [d u hu]
 congr 1
 have:=zfx (ps:=ps) (x:=x) u
 rw [← g3,if_pos hu] at this
 exact this
theorem OV.first {O1:T AObj}{lo N:Nat}{x:Int × Int}(G:T (T AV))(hlo:lo≤N)(r1:Row O1 N 2 (pc x)) :
 ∃ O2,zg P ⟨O1,N+1,G⟩ .append (some 36) (some 36) [.nils 0 0,.slc N 0 0 1 1]=some (.val (.slg (N+1) 0 0 1 0) ⟨O2,N+2,G⟩)∧OV O2 lo (N+2) [x] (.slg (N+1) 0 0 1 0)∧Frm O1 O2 (N+1):=by
 obtain ⟨O2,e2,gr2,f2⟩:=zg6 (M:=N+1) (G:=G) r1 rfl rfl
 refine ⟨O2,e2,.inr ⟨N+1,0,rfl,by omega,by omega,rfl,?_⟩,f2⟩
 obtain ⟨c,sg,ex,a,b,d⟩:=gr2
 refine ⟨c,sg,ex,a,b,fun u hu=>?_⟩
 rw [d u hu]
 rcases u with _ | _ | u
 · rfl
 · rfl
 · omega
theorem OV.same {O O':T AObj}{lo hi:Nat}{ps:List (Int × Int)}{s:AV}(h:OV O lo hi ps s)(e:∀ j,lo≤j→j<hi→O'.get j=O.get j):OV O' lo hi ps s:=by
 rcases h with h | ⟨ri,q,a,b,c,d,g⟩
 · exact .inl h
 · obtain ⟨c',sg,ex,u,v,w⟩:=g
   exact .inr ⟨ri,q,a,b,c,d,c',sg,ex,u,(e ri b c).trans v,w⟩
variable {O O' O0:T AObj} {N M r cap lo:Nat} {G:T (T AV)} {ps:List (Int × Int)} {k:Int} {sl:AV}
theorem zhZ (hr:Row O r 2 (rf cap sl))(hrM:r<M)(hN:M+2≤N){ft:Nat→AV}(ht:Row O M 2 ft){x:Int × Int}(hs:Row O (M+1) 2 (pc x)){ot:AV}{l:List (Int × Int)}(hv:OV O (M+2) N l ot)(h1:AV.one ot=true)(G:T (T AV)) :
 ∃ O1 O2,zc ⟨O,N,G⟩ r 0 1 [ot]=some ⟨O1,N,G⟩∧za ⟨O1,N,G⟩ (M+1) 0 0 2=some [.int .i64 x.1,.int .i64 x.2]∧zc ⟨O1,N,G⟩ M 0 0 [.int .i64 x.1,.int .i64 x.2]=some ⟨O2,N,G⟩∧Row O2 r 2 (rf cap ot)∧OV O2 (M+2) N l ot∧(∀ j,j<M→j≠r→O2.get j=O.get j)∧Row O2 M 2 (pc x):=by
 obtain ⟨O1,s1,r1,f1⟩:=hr.store N G (off:=1) (vs:=[ot]) (by simp [h1]) (by show 1+1≤2; omega)
 obtain ⟨O2,s2,r2,f2⟩:=(ht.fr f1 (by omega)).store N G (off:=0) (vs:=[.int .i64 x.1,.int .i64 x.2]) rfl (by show 0+2≤2; omega)
 refine ⟨O1,O2,s1,(Row.v (hs.fr f1 (by omega))).load2 (by omega) N G,s2,(r1.fr f2 (by omega)).to fun u hu=>?_,hv.same fun j j1 j2=>(f2 j (by omega)).trans (f1 j (by omega)),fun j j1 j2=>(f2 j (by omega)).trans (f1 j j2),r2.to fun u hu=>?_⟩
 · rcases u with _ | _ | u
   · rfl
   · rfl
   · omega
 · rcases u with _ | _ | u
   · rfl
   · rfl
   · omega
theorem zib {O:T AObj}{ri z n:Nat}{ps:List (Int × Int)}(h:VRow O ri z (n*2) (xX ps)){dn w:List (Int × Int)}{y:Int × Int}(hps:ps=dn++y::w)(hn:ps.length=n)(N:Nat)(G:T (T AV)) :
 za ⟨O,N,G⟩ ri z (0+((dn.length:Nat):Int).toNat*2) 1=some [.int .i64 y.1]∧za ⟨O,N,G⟩ ri z (0+((dn.length:Nat):Int).toNat*2) 2=some [.int .i64 y.1,.int .i64 y.2]:=by
 have hl:dn.length<n:=by rw [← hn,hps,List.length_append,List.length_cons]; omega
 have hg:ps.getD dn.length (0,0)=y:=by
  rw [hps,List.getD_eq_getElem?_getD,List.getElem?_append_right (Nat.le_refl _),Nat.sub_self]
  rfl
 have e:0+((dn.length:Nat):Int).toNat*2=dn.length*2:=by omega
 have p0:xX ps (dn.length*2)=.int .i64 y.1:=by
  unfold xX
  rw [if_pos (by omega),show dn.length*2 / 2=dn.length by omega,hg]
  rfl
 have p1:xX ps (dn.length*2+1)=.int .i64 y.2:=by
  unfold xX
  rw [if_neg (by omega),show (dn.length*2+1) / 2=dn.length by omega,hg]
  rfl
 rw [e]
 exact ⟨(h.load1 (by omega) N G).trans (by rw [p0]),(h.load2 (by omega) N G).trans (by rw [p0,p1])⟩
end Go.Proofs.Ytcdpmiebmhjmpaa.lr
end
section
set_option maxRecDepth 100000
set_option linter.unusedVariables false
namespace Go.Proofs.Ytcdpmiebmhjmpaa.lr
open Go Ev
variable {O O' O0:T AObj} {N M r cap lo:Nat} {G:T (T AV)} {ps:List (Int × Int)} {k:Int} {sl:AV}
theorem TB.hit {b:Bool}{x y:Int × Int}{dn:List (Int × Int)}(h:y.1=k):TB k true y (dn++[y]):=.inl ⟨rfl,h,by simp⟩
theorem TB.miss {b:Bool}{x y:Int × Int}{dn:List (Int × Int)}(h:TB k b x dn)(hy:y.1≠k):TB k b x (dn++[y]):=by
 rcases h with ⟨a,b,c⟩ | ⟨a,b,c⟩
 · exact .inl ⟨a,b,List.mem_append_left _ c⟩
 · refine .inr ⟨a,b,fun q hq=>?_⟩
   rcases List.mem_append.1 hq with d | d
   · exact c q d
   · rw [List.mem_singleton.1 d]; exact hy
theorem zkc {y:Int × Int}{dn:List (Int × Int)}(h:y.1=k):(dn++[y]).filter (fun q=>!(q.1==k))=dn.filter (fun q=>!(q.1==k)):=by
 rw [List.filter_append,List.filter_cons,if_neg (by rw [h,beq_self_eq_true]; simp)]
 simp
theorem zjg {y:Int × Int}{dn:List (Int × Int)}(h:y.1≠k):(dn++[y]).filter (fun q=>!(q.1==k))=dn.filter (fun q=>!(q.1==k))++[y]:=by
 rw [List.filter_append,List.filter_cons,if_pos (by rw [beq_eq_false_iff_ne.2 h]; rfl)]
 simp
theorem jB (hr:Row O0 r 2 (rf cap sl))(hrM:r<M)(hps:PV O0 lo M ps sl)(hlen:ps.length<1000000000){keep:Nat}{f0:FuncId}{Q:AV→AHeap→Prop}{rest:List AFrame}
 (hK:∀ (O':T AObj) (N':Nat) (s':AV) (t:Nat) (td:List AItem) (b:Bool) (x:Int × Int),Row O' r 2 (rf cap s')→OV O' (M+2) N' (ps.filter fun q=>!(q.1==k)) s'→(∀ j,j<M→j≠r→O'.get j=O0.get j)→M+2≤N'→(M≤t∧t<M+2∧Row O' t 2 (pc x))→TB k b x ps→Goal P keep f0 Q (AM.mk (RF 21 52 (.node (.node .leaf none (.node .leaf (some (.bool b)) .leaf)) none (.node (.node .leaf (some (.ptr t 0 0)) .leaf) none .leaf)) td) rest ⟨O',N',G⟩)) :
 ∀ (w dn:List (Int × Int)) (O:T AObj) (N:Nat) (ot:AV) (b:Bool) (x:Int × Int) (ft:Nat→AV),ps=dn++w→(∀ j,j<M→O.get j=O0.get j)→M+2≤N→Row O M 2 ft→Row O (M+1) 2 (pc x)→OV O (M+2) N (dn.filter fun q=>!(q.1==k)) ot→TB k b x dn →
  Goal P keep f0 Q (TL r k M (M+1) ot b ((dn.length:Nat):Int) rest O N G)
 | [],dn,O,N,ot,b,x,ft,hp,hO,hN,ht,hs,hv,hb=>by
  rw [List.append_nil] at hp
  subst hp
  have hrO:=hr.same (hO r hrM)
  have l1:za ⟨O,N,G⟩ r 0 1 1=some [sl]:=hrO.load1 (by omega)
  have h1:AV.one ot=true:=by rcases hv with ⟨rfl,_⟩ | ⟨_,_,rfl,_⟩ <;> rfl
  obtain ⟨O1,O2,s1,l2,s2,r2,ov2,fr2',t2'⟩:=zhZ hrO hrM hN ht hs hv h1 G
  have fr2:∀ j,j<M→j≠r→O2.get j=O0.get j:=fun j j1 j2=>(fr2' j j1 j2).trans (hO j j1)
  have t2:M≤M∧M<M+2∧Row O2 M 2 (pc x):=⟨Nat.le_refl _,by omega,t2'⟩
  rcases hps with ⟨rfl,rfl⟩ | ⟨rj,rfl,_,_,g3,g4⟩ | ⟨rj,z,q,rfl,_,_,g3,g4⟩
  · rcases hv with ⟨rfl,hz⟩ | ⟨ri,q',rfl,_,_,e3,_⟩
    · exact (Obl.goal mix (K:=Goal P keep f0 Q) (fun _ h=>h) (cast (zky Q keep f0 rest O O1 O2 N r (M+1) M k (x.2) (0) (x.1) b G ((Goal P keep f0 Q))).symm ⟨l1,(decide_eq_false (by decide)),s1,l2,s2,hK _ _ _ _ _ _ _ r2 ov2 fr2 hN t2 hb⟩))
    · cases e3
  · have dj:decide (((ps.length:Nat):Int)<(1:Int))=false:=decide_eq_false (by omega)
    rcases hv with ⟨rfl,hz⟩ | ⟨ri,q',rfl,_,_,e3,_⟩
    · exact (Obl.goal mix (K:=Goal P keep f0 Q) (fun _ h=>h) (cast (zkK Q keep f0 rest O O1 O2 N r (M+1) M rj k (x.2) (((ps.length:Nat):Int)) (x.1) b G ((Goal P keep f0 Q))).symm ⟨l1,dj,s1,l2,s2,hK _ _ _ _ _ _ _ r2 ov2 fr2 hN t2 hb⟩))
    · exact (Obl.goal mix (K:=Goal P keep f0 Q) (fun _ h=>h) (cast (zkg Q keep f0 rest O O1 O2 N r (M+1) M ri (q') (q'+1) rj k (x.2) (((ps.length:Nat):Int)) (x.1) b G ((Goal P keep f0 Q))).symm ⟨l1,dj,s1,l2,s2,hK _ _ _ _ _ _ _ r2 ov2 fr2 hN t2 hb⟩))
  · have dj:decide (((ps.length:Nat):Int)<((q+1:Nat):Int))=false:=decide_eq_false (by omega)
    rcases hv with ⟨rfl,hz⟩ | ⟨ri,q',rfl,_,_,e3,_⟩
    · exact (Obl.goal mix (K:=Goal P keep f0 Q) (fun _ h=>h) (cast (zkm Q keep f0 rest O O1 O2 N r (M+1) M rj z (q+1) k (x.2) (((ps.length:Nat):Int)) (x.1) b G ((Goal P keep f0 Q))).symm ⟨l1,dj,s1,l2,s2,hK _ _ _ _ _ _ _ r2 ov2 fr2 hN t2 hb⟩))
    · exact (Obl.goal mix (K:=Goal P keep f0 Q) (fun _ h=>h) (cast (zke Q keep f0 rest O O1 O2 N r (M+1) M ri (q') (q'+1) rj z (q+1) k (x.2) (((ps.length:Nat):Int)) (x.1) b G ((Goal P keep f0 Q))).symm ⟨l1,dj,s1,l2,s2,hK _ _ _ _ _ _ _ r2 ov2 fr2 hN t2 hb⟩))
 | y::w,dn,O,N,ot,b,x,ft,hp,hO,hN,ht,hs,hv,hb=>by
  have hrO:=hr.same (hO r hrM)
  have l1:za ⟨O,N,G⟩ r 0 1 1=some [sl]:=hrO.load1 (by omega)
  have hpl:ps.length=dn.length+(w.length+1):=by rw [hp,List.length_append,List.length_cons]
  have ww:IntKind.i64.wrap (((dn.length:Nat):Int)+(1:Int))=(((dn++[y]).length:Nat):Int):=by rw [List.length_append,IntKind.wrap_i64]; simp only [List.length_cons,List.length_nil]; omega
  have hp':ps=(dn++[y])++w:=by rw [hp,List.append_assoc]; rfl
  have hfl:(dn.filter fun q=>!(q.1==k)).length<1000000000:=Nat.lt_of_le_of_lt (List.length_filter_le _ _) (by omega)
  have hit:y.1=k→∃ O1,zc ⟨O,N,G⟩ (M+1) 0 0 [.int .i64 k,.int .i64 y.2]=some ⟨O1,N,G⟩∧Goal P keep f0 Q (TL r k M (M+1) ot true (IntKind.i64.wrap (((dn.length:Nat):Int)+(1:Int))) rest O1 N G):=fun hk=>by
   obtain ⟨O1,s1,r1,f1⟩:=hs.store N G (off:=0) (vs:=[.int .i64 k,.int .i64 y.2]) rfl (by show 0+2≤2; omega)
   refine ⟨O1,s1,?_⟩
   rw [ww]
   exact jB hr hrM hps hlen hK w (dn++[y]) O1 N ot true y ft hp' (fun j hj=>(f1 j (by omega)).trans (hO j hj)) hN (ht.fr f1 (by omega)) (r1.to fun u hu=>by
    rcases u with _ | _ | u
    · show kAV k=kAV y.1
      rw [hk]
    · rfl
    · omega) (by rw [zkc hk]; exact hv.same fun j j1 j2=>f1 j (by omega)) (TB.hit (b:=b) (x:=x) hk)
  have next:∀ (O2:T AObj) (N2:Nat) (ot2:AV),y.1≠k→N≤N2→(∀ j,j<M+2→O2.get j=O.get j)→OV O2 (M+2) N2 (dn.filter (fun q=>!(q.1==k))++[y]) ot2→Goal P keep f0 Q (TL r k M (M+1) ot2 b (IntKind.i64.wrap (((dn.length:Nat):Int)+(1:Int))) rest O2 N2 G):=fun O2 N2 ot2 hk hN2 hf hv2=>by
   rw [ww]
   exact jB hr hrM hps hlen hK w (dn++[y]) O2 N2 ot2 b x ft hp' (fun j hj=>(hf j (by omega)).trans (hO j hj)) (by omega) (ht.same (hf M (by omega))) (hs.same (hf (M+1) (by omega))) (by rw [zjg hk]; exact hv2) (hb.miss hk)
  obtain ⟨O1,e1,r1,f1⟩:=zd7 O N G y.1 y.2
  have r1':Row O1 N 2 (pc y):=r1
  rcases hps with ⟨rfl,rfl⟩ | ⟨rj,rfl,j1,j2,g3,g4⟩ | ⟨rj,z,q,rfl,j1,j2,g3,g4⟩
  · exact absurd hp (by simp)
  · have hd0:dn=[]:=List.eq_nil_of_length_eq_zero (by omega)
    have dj:decide (((dn.length:Nat):Int)<(1:Int))=true:=decide_eq_true (by omega)
    have bj:(0:Int)≤((dn.length:Nat):Int)∧((dn.length:Nat):Int)<((1:Nat):Int):=⟨by omega,by omega⟩
    obtain ⟨la,lb⟩:=zib (n:=1) (g4.same (hO rj j2)) hp g3 N G
    by_cases hk:y.1=k
    · obtain ⟨O1',s1,nx⟩:=hit hk
      exact (Obl.goal mix (K:=Goal P keep f0 Q) (fun _ h=>h) (cast (q_thc Q keep f0 rest O (O1') N r (M+1) M rj k (y.2) (((dn.length:Nat):Int)) b ot G ((Goal P keep f0 Q))).symm ⟨l1,dj,l1,bj,la.trans (by rw [hk]),by simp,l1,bj,lb.trans (by rw [hk]),s1,nx⟩))
    · have hkb:(y.1==k)=false:=beq_eq_false_iff_ne.2 hk
      rcases hv with ⟨rfl,hz⟩ | ⟨ri,q',rfl,a1,a2,a3,a4⟩
      · obtain ⟨O2,e2,ov2,f2⟩:=OV.first (lo:=M+2) G hN r1'
        exact (Obl.goal mix (K:=Goal P keep f0 Q) (fun _ h=>h) (cast (q_tmc Q keep f0 rest O O1 O2 N r (M+1) M rj k (y.2) (((dn.length:Nat):Int)) (y.1) b G ((Goal P keep f0 Q))).symm ⟨l1,dj,l1,bj,la,hkb,l1,bj,lb,e1,e2,next O2 (N+2) _ hk (by omega) (fun j hj=>(f2 j (by omega)).trans (f1 j (by omega))) (by rw [hz]; exact ov2)⟩))
      · rw [hd0] at a3
        cases a3
  · have dj:decide (((dn.length:Nat):Int)<((q+1:Nat):Int))=true:=decide_eq_true (by omega)
    have bj:(0:Int)≤((dn.length:Nat):Int)∧((dn.length:Nat):Int)<((q+1:Nat):Int):=⟨by omega,by omega⟩
    obtain ⟨la,lb⟩:=zib (n:=q+1) (g4.same (hO rj j2)) hp g3.symm N G
    by_cases hk:y.1=k
    · obtain ⟨O1',s1,nx⟩:=hit hk
      exact (Obl.goal mix (K:=Goal P keep f0 Q) (fun _ h=>h) (cast (q_thg Q keep f0 rest O (O1') N r (M+1) M rj z (q+1) k (y.2) (((dn.length:Nat):Int)) b ot G ((Goal P keep f0 Q))).symm ⟨l1,dj,l1,bj,la.trans (by rw [hk]),by simp,l1,bj,lb.trans (by rw [hk]),s1,nx⟩))
    · have hkb:(y.1==k)=false:=beq_eq_false_iff_ne.2 hk
      rcases hv with ⟨rfl,hz⟩ | ⟨ri,q',rfl,a1,a2,a3,a4⟩
      · obtain ⟨O2,e2,ov2,f2⟩:=OV.first (lo:=M+2) G hN r1'
        exact (Obl.goal mix (K:=Goal P keep f0 Q) (fun _ h=>h) (cast (q_tmg Q keep f0 rest O O1 O2 N r (M+1) M rj z (q+1) k (y.2) (((dn.length:Nat):Int)) (y.1) b G ((Goal P keep f0 Q))).symm ⟨l1,dj,l1,bj,la,hkb,l1,bj,lb,e1,e2,next O2 (N+2) _ hk (by omega) (fun j hj=>(f2 j (by omega)).trans (f1 j (by omega))) (by rw [hz]; exact ov2)⟩))
      · obtain ⟨O2,e2,ov2,f2⟩:=OV.app G hfl hN f1 r1' a1 a2 a3 a4
        exact (Obl.goal mix (K:=Goal P keep f0 Q) (fun _ h=>h) (cast (zkb Q keep f0 rest O O1 O2 N r (M+1) M ri (q') (q'+1) rj z (q+1) k (y.2) (((dn.length:Nat):Int)) (y.1) b G ((Goal P keep f0 Q))).symm ⟨l1,dj,l1,bj,la,hkb,l1,bj,lb,e1,e2,next O2 (N+1) _ hk (by omega) (fun j hj=>(f2 j (by omega)).trans (f1 j (by omega))) ov2⟩))
theorem zhc (hr:Row O0 r 2 (rf cap sl))(hrM:r<M)(hps:PV O0 lo M ps sl)(hlen:ps.length<1000000000){keep:Nat}{f0:FuncId}{Q:AV→AHeap→Prop}{rest:List AFrame}
 (hK:∀ (O':T AObj) (N':Nat) (s':AV) (t:Nat) (td:List AItem) (b:Bool) (x:Int × Int),Row O' r 2 (rf cap s')→OV O' (M+2) N' (ps.filter fun q=>!(q.1==k)) s'→(∀ j,j<M→j≠r→O'.get j=O0.get j)→M+2≤N'→(M≤t∧t<M+2∧Row O' t 2 (pc x))→TB k b x ps→Goal P keep f0 Q (AM.mk (RF 21 52 (.node (.node .leaf none (.node .leaf (some (.bool b)) .leaf)) none (.node (.node .leaf (some (.ptr t 0 0)) .leaf) none .leaf)) td) rest ⟨O',N',G⟩)) :
 Goal P keep f0 Q (AM.mk (enF 21 [.ptr r 0 0,.int .i64 k]) rest ⟨O0,M,G⟩):=by
 obtain ⟨O1,e1,r1,f1⟩:=Row.mk (n:=2) (f:=pc (0,0)) (c:=.node (.node .leaf (some (.int .i64 0)) .leaf) (some (.int .i64 0)) .leaf) (el:=55) O0 M (fun u hu=>by rcases u with _ | _ | u <;> first | rfl | omega)
 obtain ⟨O2,e2,r2,f2⟩:=Row.mk (n:=2) (f:=pc (0,0)) (c:=.node (.node .leaf (some (.int .i64 0)) .leaf) (some (.int .i64 0)) .leaf) (el:=55) O1 (M+1) (fun u hu=>by rcases u with _ | _ | u <;> first | rfl | omega)
 exact (Obl.goal mix (K:=Goal P keep f0 Q) (fun _ h=>h) (cast (q_tst Q keep f0 rest O0 O1 O2 M r k G ((Goal P keep f0 Q))).symm ⟨e1,e2,jB hr hrM hps hlen hK ps [] O2 (M+2) _ false (0,0) (pc (0,0)) rfl (fun j hj=>(f2 j (by omega)).trans (f1 j (by omega))) (Nat.le_refl _) (r1.fr f2 (by omega)) r2 (.inl ⟨rfl,rfl⟩) (.inr ⟨rfl,rfl,fun q hq=>absurd hq List.not_mem_nil⟩)⟩))
end Go.Proofs.Ytcdpmiebmhjmpaa.lr
end
section
set_option maxRecDepth 100000
set_option linter.unusedVariables false
namespace Go.Proofs.Ytcdpmiebmhjmpaa.lr
open Go Ev
theorem q_fin (R:AV→AHeap→Prop)(keep:Nat)(f0:FuncId)(rest:List AFrame)(O:T AObj)(O1:T AObj)(O2:T AObj)(O3:T AObj)(N:Nat)(r:Nat)(k:Int)(v:Int)(G:T (T AV))(K:AM→Prop):Obl P f0 (fun v h=>R v h) keep K [.run 2,.hop .nilp O1,.run 3,.hop (.agg [.int .i64 k,.int .i64 v]) O1,.hopn (.slc (N+1) 0 0 1 1) O2 (N+2),.run 3,.hop (.nils 0 0) O2,.run 3,.hop .nilp O3,.run 2,.keep []] ((AM.mk (enF 22 [.ptr r 0 0,.agg [.int .i64 k,.int .i64 v]]) rest ⟨O,N,G⟩))=((T.set ((some (.cells (.node (.node .leaf (some (.int .i64 v)) .leaf) (some (.int .i64 k)) .leaf) 2 55 0 0 1 0 false .leaf))) (O) (N)=O1)∧(za (⟨O1,N+1,G⟩) (N) 0 0 2=(some [.int .i64 k,.int .i64 v]))∧(zh P (⟨O1,N+1,G⟩) 36 1 ([(0,.agg [.int .i64 k,.int .i64 v])])=(some (.slc (N+1) 0 0 1 1,⟨O2,N+2,G⟩)))∧(za (⟨O2,N+2,G⟩) (N) 0 0 2=(some [.int .i64 k,.int .i64 v]))∧(za (⟨O2,N+2,G⟩) (r) 0 1 1=(some [.nils 0 0]))∧(zc (⟨O2,N+2,G⟩) (r) 0 1 ([.slc (N+1) 0 0 1 1])=(some ⟨O3,N+2,G⟩))∧K (AM.mk (RF 22 14 .leaf []) rest ⟨O3,N+2,G⟩)):=by kernel_rfl
theorem q_fig (R:AV→AHeap→Prop)(keep:Nat)(f0:FuncId)(rest:List AFrame)(O:T AObj)(O1:T AObj)(O2:T AObj)(O3:T AObj)(O4:T AObj)(N:Nat)(r:Nat)(kj:Nat)(z:Nat)(km:Nat)(k:Int)(v:Int)(G:T (T AV))(K:AM→Prop):Obl P f0 (fun v h=>R v h) keep K [.run 2,.hop .nilp O1,.run 3,.hop (.agg [.int .i64 k,.int .i64 v]) O1,.hopn (.slc (N+1) 0 0 1 1) O2 (N+2),.run 3,.hop ((.slg kj z 0 km 0)) O2,.hopn (.slg (N+2) 0 0 (km+1) 0) O3 (N+3),.run 2,.hop .nilp O4,.run 2,.keep []] ((AM.mk (enF 22 [.ptr r 0 0,.agg [.int .i64 k,.int .i64 v]]) rest ⟨O,N,G⟩))=((T.set ((some (.cells (.node (.node .leaf (some (.int .i64 v)) .leaf) (some (.int .i64 k)) .leaf) 2 55 0 0 1 0 false .leaf))) (O) (N)=O1)∧(za (⟨O1,N+1,G⟩) (N) 0 0 2=(some [.int .i64 k,.int .i64 v]))∧(zh P (⟨O1,N+1,G⟩) 36 1 ([(0,.agg [.int .i64 k,.int .i64 v])])=(some (.slc (N+1) 0 0 1 1,⟨O2,N+2,G⟩)))∧(za (⟨O2,N+2,G⟩) (N) 0 0 2=(some [.int .i64 k,.int .i64 v]))∧(za (⟨O2,N+2,G⟩) (r) 0 1 1=(some [.slg kj z 0 km 0]))∧(zg P (⟨O2,N+2,G⟩) (Builtin.append) ((some 36)) ((some 36)) ([.slc (N+1) 0 0 1 1,.slg kj z 0 km 0])=(some (.val (.slg (N+2) 0 0 (km+1) 0) ⟨O3,N+3,G⟩)))∧(zc (⟨O3,N+3,G⟩) (r) 0 1 ([.slg (N+2) 0 0 (km+1) 0])=(some ⟨O4,N+3,G⟩))∧K (AM.mk (RF 22 14 .leaf []) rest ⟨O4,N+3,G⟩)):=by kernel_rfl
theorem ziz {O:T AObj}{K M rj z q:Nat}{G:T (T AV)}{y f:Nat→AV}(h:Row O K 2 y)(hv:VRow O rj z ((q+1)*2) f)(hf:∀ k,AV.one (f k)=true)(hq:q<1000000000)(hy:AV.one (y 0)=true)(hy1:AV.one (y 1)=true) :
 ∃ O',zg P ⟨O,M,G⟩ .append (some 36) (some 36) [.slc K 0 0 1 1,.slg rj z 0 (q+1) 0]=some (.val (.slg M 0 0 (q+1+1) 0) ⟨O',M+1,G⟩)∧VRow O' M 0 ((q+1+1)*2) (fun u=>if u<2 then y u else f (u - 2))∧Frm O O' M:=by
 obtain ⟨l,hl,hone,hlen,hget⟩:∃ l,za ⟨O,M,G⟩ rj z 0 ((q+1)*2)=some l∧l.all AV.one=true∧l.length=(q+1)*2∧∀ k,k<(q+1)*2→l[k]?=some (f k):=by
  obtain ⟨c,m,el,lo,hi,nv,fz,sg,ex,e',h1,h2,h3,h4,h5,h6⟩:=hv
  obtain ⟨l,l1,l2,l3,l4⟩:=y7 (c:=c) (off:=0) (n:=(q+1)*2) fun k hk=>⟨f k,by rw [Nat.zero_add]; exact h6 k hk,hf k⟩
  refine ⟨l,?_,l2,l3,fun k hk=>l4 k _ hk (by rw [Nat.zero_add]; exact h6 k hk)⟩
  unfold za
  show (match O.get rj with | some (.cells c n _ lo hi _ _ _ ex)=>_ | some (.ro c lo n)=>_ | _=>_)=_
  rw [h1]
  simp only [h2]
  rw [if_pos ⟨h3,h4,by omega⟩,l1]
 obtain ⟨i,h1,h2,h3⟩:=jQ
 refine ⟨O.set (some (.cells (zf .leaf 0 ([y 0,y 1]++l)) ([y 0,y 1]++l).length 55 0 0 1 0 false .leaf)) M,?_,⟨_,_,_,_,_,_,_,_,_,([y 0,y 1]++l).length,by rw [T.get_set,if_pos rfl],by unfold zj; rw [if_pos rfl],Nat.le_refl _,Nat.le_refl _,by rw [List.length_append,hlen]; show _≤2+_; omega,fun k hk=>?_⟩,fun j hj=>by rw [T.get_set,if_neg hj]⟩
 · have base:zg P ⟨O,M,G⟩ .append (some 36) (some 36) [.slc K 0 0 1 1,.slg rj z 0 (q+1) 0]=yD (xR ⟨O,M,G⟩ 55 2 16 1 (q+1) (.slc K 0 0 1 1) l):=by
    show (match yt P 36 with | none=>none | some zz=>match ze1 [.slc K 0 0 1 1,.slg rj z 0 (q+1) 0] with | none=>none | some (s,x)=>yD (xb P ⟨O,M,G⟩ 36 zz s x))=_
    rw [vX]
    show yD (xb P ⟨O,M,G⟩ 36 false (.slc K 0 0 1 1) (.slg rj z 0 (q+1) 0))=_
    congr 1
    unfold xb
    rw [zbv]
    show xL P ⟨O,M,G⟩ 55 false (.slc K 0 0 1 1) (.slg rj z 0 (q+1) 0)=_
    unfold xL
    rw [h1,jK]
    have ha:xI ⟨O,M,G⟩ 2 (.agg [.int .i64 0,.int .i64 0]) false (.slg rj z 0 (q+1) 0)=some (q+1,l):=by
     unfold xI
     show (match (za ⟨O,M,G⟩ rj z 0 ((q+1)*2)) with | none=>none | some new=>some (q+1,new))=_
     rw [hl]
    simp only [h2,h3,ha]
    show (match zF (.slc K 0 0 1 1) with | none=>none | some sLen=>if _ then _ else none)=_
    simp only [zF]
    rw [if_pos ⟨Nat.zero_lt_two,rfl,rfl,hone,hlen,fun h=>by cases h⟩]
   rw [base]
   show yD (if 1+(q+1)≤1 then _ else zD ⟨O,M,G⟩ 55 2 16 1 (1+(q+1)) (.slc K 0 0 1 1) l)=_
   rw [if_neg (by omega)]
   unfold zD
   have hroom:ve (1+(q+1)) 16=true:=by
    unfold ve
    rw [Bool.and_eq_true]
    exact ⟨Nat.ble_eq_true_of_le (by omega),Nat.ble_eq_true_of_le (show 1+(q+1)+1≤2 ^ 60 by omega)⟩
   rw [if_pos hroom,show xJ ⟨O,M,G⟩ 2 1 (.slc K 0 0 1 1)=some [y 0,y 1] from vT h]
   simp only
   rw [if_pos ⟨by simp [hy,hy1],rfl⟩,show 1+(q+1)=q+1+1 by omega]
   rfl
 · rw [zd,if_pos ⟨Nat.zero_le _,by rw [List.length_append,hlen]; show k<0+(2+_); omega⟩,Nat.sub_zero]
   show _=some (if k<2 then y k else f (k - 2))
   rcases k with _ | _ | k
   · rfl
   · rfl
   · rw [if_neg (by omega)]
     show l[k]?=_
     rw [hget k (by omega)]
     rfl
def SV (O:T AObj) (lo hi:Nat) (ps:List (Int × Int)) (s:AV):Prop:=(s=.nils 0 0∧ps=[])∨∃ ri z q,s=.slg ri z 0 (q+1) 0∧lo≤ri∧ri<hi∧q+1=ps.length∧VRow O ri z ((q+1)*2) (xX ps)
theorem OV.sv {O:T AObj}{lo hi:Nat}{ps:List (Int × Int)}{s:AV}(h:OV O lo hi ps s):SV O lo hi ps s:=by
 rcases h with h | ⟨ri,q,a,b,c,d,g⟩
 · exact .inl h
 · exact .inr ⟨ri,q,q,a,b,c,d,g.v⟩
theorem SV.pv {O:T AObj}{lo hi:Nat}{ps:List (Int × Int)}{s:AV}(h:SV O lo hi ps s):PV O lo hi ps s:=by
 rcases h with h | ⟨ri,z,q,a,b,c,d,g⟩
 · exact .inl h
 · exact .inr (.inr ⟨ri,z,q,a,b,c,d,g⟩)
theorem SV.same {O O':T AObj}{lo hi hi':Nat}{ps:List (Int × Int)}{s:AV}(h:SV O lo hi ps s)(e:∀ j,lo≤j→j<hi→O'.get j=O.get j)(hh:hi≤hi'):SV O' lo hi' ps s:=by
 rcases h with h | ⟨ri,z,q,a,b,c,d,g⟩
 · exact .inl h
 · exact .inr ⟨ri,z,q,a,b,by omega,d,g.same (e ri b c)⟩
theorem PV.same {O O':T AObj}{lo hi hi':Nat}{ps:List (Int × Int)}{s:AV}(h:PV O lo hi ps s)(e:∀ j,lo≤j→j<hi→O'.get j=O.get j)(hh:hi≤hi'):PV O' lo hi' ps s:=by
 rcases h with h | ⟨ri,a,b,c,d,g⟩ | ⟨ri,z,q,a,b,c,d,g⟩
 · exact .inl h
 · exact .inr (.inl ⟨ri,a,b,by omega,d,g.same (e ri b c)⟩)
 · exact .inr (.inr ⟨ri,z,q,a,b,by omega,d,g.same (e ri b c)⟩)
variable {O:T AObj} {N r cap lo:Nat} {G:T (T AV)} {ps:List (Int × Int)} {k v:Int} {sl:AV}
theorem v7 (x:Int × Int)(u:Nat):xX (x::ps) u=if u<2 then pc x u else xX ps (u - 2):=by
 rcases u with _ | _ | u
 · rfl
 · rfl
 · rw [if_neg (by omega)]
   unfold xX
   rw [show u+1+1 - 2=u by omega,show (u+1+1) / 2=u / 2+1 by omega,show (u+1+1) % 2=u % 2 by omega]
   rfl
theorem zgw (u:Nat):AV.one (xX ps u)=true:=by
 unfold xX
 split <;> rfl
theorem vu (hr:Row O r 2 (rf cap sl))(hrN:r<N)(hlo:lo≤N)(hps:SV O lo N ps sl)(hlen:ps.length<1000000000){keep:Nat}{f0:FuncId}{Q:AV→AHeap→Prop}{rest:List AFrame}
 (hK:∀ (O':T AObj) (N':Nat) (s':AV) (td:List AItem),Row O' r 2 (rf cap s')→PV O' lo N' ((k,v)::ps) s'→(∀ j,j<N→j≠r→O'.get j=O.get j)→N≤N'→Goal P keep f0 Q (AM.mk (RF 22 14 .leaf td) rest ⟨O',N',G⟩)) :
 Goal P keep f0 Q (AM.mk (enF 22 [.ptr r 0 0,.agg [.int .i64 k,.int .i64 v]]) rest ⟨O,N,G⟩):=by
 obtain ⟨O1,e1,r1,f1⟩:=Row.mk (n:=2) (f:=pc (k,v)) (c:=.node (.node .leaf (some (.int .i64 v)) .leaf) (some (.int .i64 k)) .leaf) (el:=55) O N (fun u hu=>by rcases u with _ | _ | u <;> first | rfl | omega)
 have l1:=(Row.v r1).load2 (off:=0) (by omega) (N+1) G
 obtain ⟨O2,e2,r2,f2⟩:=zd7 O1 (N+1) G k v
 have l2:=(Row.v (r1.fr f2 (by omega))).load2 (off:=0) (by omega) (N+2) G
 have hr2:=(hr.fr f1 (by omega)).fr f2 (by omega)
 have l3:za ⟨O2,N+2,G⟩ r 0 1 1=some [sl]:=hr2.load1 (by omega)
 rcases hps with ⟨rfl,rfl⟩ | ⟨rj,z,q,rfl,g1,g2,g3,g4⟩
 · obtain ⟨O3,s3,r3,f3⟩:=hr2.store (N+2) G (off:=1) (vs:=[.slc (N+1) 0 0 1 1]) rfl (by show 1+1≤2; omega)
   refine (Obl.goal mix (K:=Goal P keep f0 Q) (fun _ h=>h) (cast (q_fin Q keep f0 rest O O1 O2 O3 N r k v G ((Goal P keep f0 Q))).symm ⟨e1,l1,e2,l2,l3,s3,hK O3 (N+2) (.slc (N+1) 0 0 1 1) _ (r3.to fun u hu=>?_) (.inr (.inl ⟨N+1,rfl,by omega,by omega,rfl,?_⟩)) (fun j j1 j2=>(f3 j j2).trans ((f2 j (by omega)).trans (f1 j (by omega)))) (by omega)⟩))
   · rcases u with _ | _ | u
     · rfl
     · rfl
     · omega
   · obtain ⟨c,m,el,lo',hi,nv,fz,sg,ex,e',h1,h2,h3,h4,h5,h6⟩:=Row.v (r2.fr f3 (by omega))
     exact ⟨c,m,el,lo',hi,nv,fz,sg,ex,e',h1,h2,h3,h4,h5,fun u hu=>(h6 u hu).trans (by rw [v7,if_pos hu]; rfl)⟩
 · have g5:VRow O2 rj z ((q+1)*2) (xX ps):=g4.same ((f2 rj (by omega)).trans (f1 rj (by omega)))
   obtain ⟨O3,e3,v3,f3⟩:=ziz (M:=N+2) (G:=G) r2 g5 zgw (by omega) rfl rfl
   obtain ⟨O4,s4,r4,f4⟩:=(hr2.fr f3 (by omega)).store (N+3) G (off:=1) (vs:=[.slg (N+2) 0 0 (q+1+1) 0]) rfl (by show 1+1≤2; omega)
   refine (Obl.goal mix (K:=Goal P keep f0 Q) (fun _ h=>h) (cast (q_fig Q keep f0 rest O O1 O2 O3 O4 N r rj z (q+1) k v G ((Goal P keep f0 Q))).symm ⟨e1,l1,e2,l2,l3,e3,s4,hK O4 (N+3) (.slg (N+2) 0 0 (q+1+1) 0) _ (r4.to fun u hu=>?_) (.inr (.inr ⟨N+2,0,q+1,rfl,by omega,by omega,by rw [List.length_cons,g3],?_⟩)) (fun j j1 j2=>(f4 j j2).trans ((f3 j (by omega)).trans ((f2 j (by omega)).trans (f1 j (by omega))))) (by omega)⟩))
   · rcases u with _ | _ | u
     · rfl
     · rfl
     · omega
   · obtain ⟨c,m,el,lo',hi,nv,fz,sg,ex,e',h1,h2,h3,h4,h5,h6⟩:=v3
     exact ⟨c,m,el,lo',hi,nv,fz,sg,ex,e',(f4 (N+2) (by omega)).trans h1,h2,h3,h4,h5,fun u hu=>(h6 u hu).trans (by rw [v7]; rfl)⟩
end Go.Proofs.Ytcdpmiebmhjmpaa.lr
end
section
set_option maxRecDepth 100000
set_option linter.unusedVariables false
namespace Go.Proofs.Ytcdpmiebmhjmpaa.lr
open Go Ev
theorem q_gh (R:AV→AHeap→Prop)(keep:Nat)(f0:FuncId)(rest:List AFrame)(k:Int)(v:Int)(O:T AObj)(O1:T AObj)(O2:T AObj)(O3:T AObj)(O4:T AObj)(O5:T AObj)(O6:T AObj)(N:Nat)(l:Nat)(p:Nat)(a:Nat)(ao:Nat)(e:Nat)(eo:Nat)(h:Nat)(ho:Nat)(mi:Nat)(G:T (T AV))(K:AM→Prop):Obl P f0 (fun v h=>R v h) keep K [.run 18,.run 9,.callv [0] (.bool true),.run 9,.hop (.mp mi) O,.run 1,.hop (.ptr p 0 0) O,.run 18,.run 5,.hop (.ptr e 0 eo) O,.run 4,.hop (.ptr h 0 ho) O,.run 4,.hop (.ptr h 0 ho) O,.run 4,.hop (.ptr e 0 eo) O,.run 3,.hop .nilp O1,.run 3,.hop .nilp O2,.run 9,.run 12,.hop (.ptr a 0 ao) O2,.run 3,.hop .nilp O3,.run 3,.hop .nilp O4,.run 6,.hop (.ptr a 0 ao) O4,.run 6,.hop .nilp O5,.run 4,.hop .nilp O6,.run 9,.hop (.int .i64 v) O6,.run 4,.keep [4,5]] ((AM.mk (enF 8 [.ptr l 0 0,.int .i64 k]) rest ⟨O,N,G⟩))=((Goal P 0 25 (fun x x_1=>x=AV.bool true) (ym P 25 [.int .i64 k] G))∧(za (⟨O,N,G⟩) (l) 0 2 1=(some [.mp mi]))∧(xG P (⟨O,N,G⟩) 44 (.mp mi) (.int .i64 k) (false)=(some (.ptr p 0 0)))∧(za (⟨O,N,G⟩) (p) 0 1 1=(some [.ptr e 0 eo]))∧(za (⟨O,N,G⟩) (p) 0 0 1=(some [.ptr h 0 ho]))∧(za (⟨O,N,G⟩) (p) 0 0 1=(some [.ptr h 0 ho]))∧(za (⟨O,N,G⟩) (p) 0 1 1=(some [.ptr e 0 eo]))∧(zc (⟨O,N,G⟩) (e) 0 (eo) ([.ptr h 0 ho])=(some ⟨O1,N,G⟩))∧(zc (⟨O1,N,G⟩) (h) 0 (ho+1) ([.ptr e 0 eo])=(some ⟨O2,N,G⟩))∧(za (⟨O2,N,G⟩) (l) 0 4 1=(some [.ptr a 0 ao]))∧(zc (⟨O2,N,G⟩) (p) 0 0 ([.ptr l 0 3])=(some ⟨O3,N,G⟩))∧(zc (⟨O3,N,G⟩) (p) 0 1 ([.ptr a 0 ao])=(some ⟨O4,N,G⟩))∧(za (⟨O4,N,G⟩) (p) 0 1 1=(some [.ptr a 0 ao]))∧(zc (⟨O4,N,G⟩) (a) 0 (ao) ([.ptr p 0 0])=(some ⟨O5,N,G⟩))∧(zc (⟨O5,N,G⟩) (l) 0 4 ([.ptr p 0 0])=(some ⟨O6,N,G⟩))∧(za (⟨O6,N,G⟩) (p) 0 3 1=(some [.int .i64 v]))∧K (AM.mk (RF 8 25 (.node (.node .leaf none (.node .leaf (some (.bool true)) .leaf)) none (.node (.node .leaf (some (.int .i64 v)) .leaf) none .leaf)) [.code (cd P 8 [1,0,1,0,1])]) rest ⟨O6,N,G⟩)):=by kernel_rfl
theorem q_gm (R:AV→AHeap→Prop)(keep:Nat)(f0:FuncId)(rest:List AFrame)(k:Int)(O:T AObj)(N:Nat)(l:Nat)(mi:Nat)(G:T (T AV))(K:AM→Prop):Obl P f0 (fun v h=>R v h) keep K [.run 18,.run 9,.callv [0] (.bool true),.run 9,.hop (.mp mi) O,.run 1,.hop (.nilp) O,.run 20,.keep [4,5]] ((AM.mk (enF 8 [.ptr l 0 0,.int .i64 k]) rest ⟨O,N,G⟩))=((Goal P 0 25 (fun x x_1=>x=AV.bool true) (ym P 25 [.int .i64 k] G))∧(za (⟨O,N,G⟩) (l) 0 2 1=(some [.mp mi]))∧(xG P (⟨O,N,G⟩) 44 (.mp mi) (.int .i64 k) (false)=(some .nilp))∧K (AM.mk (RF 8 25 (.node (.node .leaf none (.node .leaf (some (.bool false)) .leaf)) none (.node (.node .leaf (some (.int .i64 0)) .leaf) none .leaf)) [.code (cd P 8 [1,0,1,0,1]),.code (cd P 8 [1,1,1,1])]) rest ⟨O,N,G⟩)):=by kernel_rfl
variable {O O':T AObj} {N l mi cap:Nat} {G:T (T AV)} {L:List Ent} {k v:Int}
theorem zkl (h:LR O l mi cap L){keep:Nat}{f0:FuncId}{Q:AV→AHeap→Prop}{rest:List AFrame}
 (hM:(∀ x∈L,x.2.1≠k)→∀ td,Goal P keep f0 Q (AM.mk (RF 8 25 (.node (.node .leaf none (.node .leaf (some (.bool false)) .leaf)) none (.node (.node .leaf (some (.int .i64 0)) .leaf) none .leaf)) td) rest ⟨O,N,G⟩))
 (hH:∀ (p:Ent) (u w:List Ent) (O':T AObj) (td:List AItem),L=u++p::w→p.2.1=k→LR O' l mi cap (p::(u++w))→(∀ j,j≠l→(∀ y∈L,y.1≠j)→O'.get j=O.get j)→Goal P keep f0 Q (AM.mk (RF 8 25 (.node (.node .leaf none (.node .leaf (some (.bool true)) .leaf)) none (.node (.node .leaf (some (.int .i64 p.2.2)) .leaf) none .leaf)) td) rest ⟨O',N,G⟩)) :
 Goal P keep f0 Q (AM.mk (enF 8 [.ptr l 0 0,.int .i64 k]) rest ⟨O,N,G⟩):=by
 have h':=h
 obtain ⟨h0,h1,h2,h3,h4,h5,h6,h7,h8,h9⟩:=h
 by_cases hin:∃ x∈L,x.2.1=k
 · obtain ⟨p,hp,hpk⟩:=hin
   obtain ⟨u,w,rfl⟩:=zbW hp
   have hlook:=h8.hit (N:=N) (G:=G) hp hpk fun y hy e=>zes h7 p hp y hy e
   have b0:But O O p.1 3:=⟨fun _ _ _ _ h=>h,fun _ _=>rfl⟩
   obtain ⟨e,n,a,O2,O3,O4,O5,O6,O7,c1,c2,s1,s2,c3,s3,s4,c4,s5,s6,hLR,hget⟩:=move h' O b0 (h5 p hp).2.2.2 N G
   have hv:=(hLR.2.2.2.2.2.1 _ List.mem_cons_self).2.2.2
   exact (Obl.goal mix (K:=Goal P keep f0 Q) (fun _ h=>h) (cast (q_gh Q keep f0 rest k (p.2.2) O O2 O3 O4 O5 O6 O7 N l (p.1) (a.1) (a.2) (e.1) (e.2) (n.1) (n.2) mi G ((Goal P keep f0 Q))).symm ⟨kA,h3.load _ _,hlook,c1.load _ _,c2.load _ _,c2.load _ _,c1.load _ _,s1,s2,c3.load _ _,s3,s4,c4.load _ _,s5,s6,hv.load _ _,hH p u w O7 _ rfl hpk hLR (fun j e1 e3=>hget j e1 e3)⟩))
 · have hk:∀ x∈L,x.2.1≠k:=fun x hx e=>hin ⟨x,hx,e⟩
   exact (Obl.goal mix (K:=Goal P keep f0 Q) (fun _ h=>h) (cast (q_gm Q keep f0 rest k O N l mi G ((Goal P keep f0 Q))).symm ⟨kA,h3.load _ _,(h8.miss (N:=N) (G:=G) hk).1,hM hk _⟩))
def zfI (k:Int) (ps:List (Int × Int)):List (Int × Int):=ps.filter (fun q=>q.1==k)++ps.filter (fun q=>!(q.1==k))
theorem jD {k:Int}{l:List (Int × Int)}(h:∀ x∈l,x.1≠k):l.filter (fun q=>q.1==k)=[]:=List.filter_eq_nil_iff.2 fun x hx=>by
 have:=beq_eq_false_iff_ne.2 (h x hx)
 simp only [this]
 simp
theorem zcN {ps:List (Int × Int)}(h:∀ x∈ps,x.1≠k):zfI k ps=ps:=by
 unfold zfI
 rw [jD h,yJ h,List.nil_append]
theorem zbj {us ws:List (Int × Int)}{q:Int × Int}(hq:q.1=k)(hn:((us++q::ws).map (·.1)).Nodup):zfI k (us++q::ws)=q::(us++ws):=by
 rw [List.map_append,List.map_cons] at hn
 obtain ⟨m1,m2⟩:=xU hn
 rw [← List.map_append] at m2
 have hu:∀ x∈us++ws,x.1≠k:=fun x hx e=>m2 (by rw [hq,← e]; exact List.mem_map_of_mem hx)
 unfold zfI
 rw [zeF hq hu,List.filter_append,List.filter_cons,jD fun x hx=>hu x (List.mem_append_left _ hx),jD fun x hx=>hu x (List.mem_append_right _ hx)]
 have:(q.1==k)=true:=by rw [hq,beq_self_eq_true]
 simp [this]
abbrev Act:=Bool × Int × Int
variable {act:Nat→Act} {n i:Nat} {ps:List (Int × Int)}
abbrev zj9 (act:Nat→Act) (m:Nat) (k:Int):Prop:=(act m).1=false∧(act m).2.1=k
def I1 (act:Nat→Act) (i:Nat) (ps:List (Int × Int)):Prop:=∀ q∈ps,∃ p,p<i∧act p=(false,q.1,q.2)∧∀ m,p<m→m<i→¬ zj9 act m q.1
def I2 (act:Nat→Act) (n i:Nat) (ps:List (Int × Int)):Prop:=∀ p,p<i→(act p).1=false→(∀ m,p<m→m<i→¬ zj9 act m (act p).2.1) →
 (∃ U v W,ps=U++((act p).2.1,v)::W∧∀ u∈U,∃ m,p<m∧m<i∧(act m).2.1=u.1)∨∃ D:List Int,D.Nodup∧n≤D.length∧∀ d∈D,d≠(act p).2.1∧∃ m,p<m∧m<i∧(act m).2.1=d
theorem I1.put (h:I1 act i ps)(ha:act i=(false,k,v))(hl:ps.length≤n):I1 act (i+1) (zdE n k v ps):=by
 intro q hq
 unfold zdE at hq
 have old:q∈ps→q.1≠k→∃ p,p<i+1∧act p=(false,q.1,q.2)∧∀ m,p<m→m<i+1→¬ zj9 act m q.1:=fun hm hk=>by
  obtain ⟨p,h1,h2,h3⟩:=h q hm
  refine ⟨p,by omega,h2,fun m m1 m2 hp=>?_⟩
  by_cases hmi:m=i
  · subst hmi
    rw [zj9,ha] at hp
    exact hk hp.2.symm
  · exact h3 m m1 (by omega) hp
 by_cases hz:n=0
 · rw [if_pos hz] at hq
   have:ps=[]:=List.eq_nil_of_length_eq_zero (by omega)
   rw [this] at hq
   exact absurd hq List.not_mem_nil
 rw [if_neg hz] at hq
 rcases List.mem_cons.1 hq with rfl | hq
 · exact ⟨i,by omega,ha,fun m m1 m2=>by omega⟩
 · have hq:=List.mem_filter.1 (List.mem_of_mem_take hq)
   refine old hq.1 fun e=>?_
   have:=hq.2
   rw [e,beq_self_eq_true] at this
   cases this
theorem I1.get (h:I1 act i ps)(ha:(act i).1=true):I1 act (i+1) (zfI k ps):=by
 intro q hq
 have hm:q∈ps:=by
  rcases List.mem_append.1 hq with a | a
  · exact (List.mem_filter.1 a).1
  · exact (List.mem_filter.1 a).1
 obtain ⟨p,h1,h2,h3⟩:=h q hm
 refine ⟨p,by omega,h2,fun m m1 m2 hp=>?_⟩
 by_cases hmi:m=i
 · subst hmi
   rw [zj9,ha] at hp
   cases hp.1
 · exact h3 m m1 (by omega) hp
theorem ahead {U W:List (Int × Int)}{K v:Int}(hn:((U++(K,v)::W).map (·.1)).Nodup):(U.map (·.1)).Nodup∧(∀ u∈U,u.1≠K)∧∀ u∈W,u.1≠K:=by
 rw [List.map_append,List.map_cons] at hn
 obtain ⟨m1,m2⟩:=xU hn
 exact ⟨(List.nodup_append.1 m1).1,fun u hu e=>m2 (List.mem_append_left _ (List.mem_map.2 ⟨u,hu,e⟩)),fun u hu e=>m2 (List.mem_append_right _ (List.mem_map.2 ⟨u,hu,e⟩))⟩
theorem I2.put (h:I2 act n i ps)(ha:act i=(false,k,v))(hl:ps.length≤n)(hn:(ps.map (·.1)).Nodup):I2 act n (i+1) (zdE n k v ps):=by
 intro p hp hput hlast
 by_cases hz:n=0
 · exact .inr ⟨[],List.nodup_nil,by omega,fun d hd=>absurd hd List.not_mem_nil⟩
 unfold zdE
 rw [if_neg hz]
 by_cases hpi:p=i
 · subst hpi
   refine .inl ⟨[],v,_,by rw [ha]; rfl,fun u hu=>absurd hu List.not_mem_nil⟩
 have hk:k≠(act p).2.1:=fun e=>hlast i (by omega) (by omega) ⟨by rw [ha],by rw [ha]; exact e⟩
 rcases h p (by omega) hput (fun m m1 m2=>hlast m m1 (by omega)) with ⟨U,v0,W,rfl,hU⟩ | ⟨D,d1,d2,d3⟩
 rotate_left
 · exact .inr ⟨D,d1,d2,fun d hd=>⟨(d3 d hd).1,by obtain ⟨m,m1,m2,m3⟩:=(d3 d hd).2; exact ⟨m,m1,by omega,m3⟩⟩⟩
 obtain ⟨a1,a2,a3⟩:=ahead hn
 have hkb:(!((act p).2.1==k))=true:=by rw [beq_eq_false_iff_ne.2 (Ne.symm hk)]; rfl
 rw [List.filter_append,List.filter_cons,if_pos hkb]
 by_cases hlen:(U.filter fun q=>!(q.1==k)).length<n - 1
 · refine .inl ⟨(k,v)::U.filter fun q=>!(q.1==k),v0,((W.filter fun q=>!(q.1==k)).take (n - 1 - (U.filter fun q=>!(q.1==k)).length - 1)),?_,fun u hu=>?_⟩
   · rw [List.take_append,List.take_of_length_le (by omega),List.cons_append]
     congr 2
     obtain ⟨t,ht⟩:∃ t,n - 1 - (U.filter fun q=>!(q.1==k)).length=t+1:=⟨n - 1 - (U.filter fun q=>!(q.1==k)).length - 1,by omega⟩
     rw [ht,List.take_succ_cons,Nat.add_sub_cancel]
   · rcases List.mem_cons.1 hu with rfl | hu
     · exact ⟨i,by omega,by omega,by rw [ha]⟩
     · obtain ⟨m,m1,m2,m3⟩:=hU u (List.mem_filter.1 hu).1
       exact ⟨m,m1,by omega,m3⟩
 · refine .inr ⟨k::(U.filter fun q=>!(q.1==k)).map (·.1),?_,by rw [List.length_cons,List.length_map]; omega,fun d hd=>?_⟩
   · rw [List.nodup_cons]
     refine ⟨fun hm=>?_,List.Nodup.sublist (List.Sublist.map _ List.filter_sublist) a1⟩
     obtain ⟨u,hu,e⟩:=List.mem_map.1 hm
     have:=(List.mem_filter.1 hu).2
     rw [e,beq_self_eq_true] at this
     cases this
   · rcases List.mem_cons.1 hd with rfl | hd
     · exact ⟨hk,i,by omega,by omega,by rw [ha]⟩
     · obtain ⟨u,hu,rfl⟩:=List.mem_map.1 hd
       have hu:=(List.mem_filter.1 hu).1
       obtain ⟨m,m1,m2,m3⟩:=hU u hu
       exact ⟨a2 u hu,m,m1,by omega,m3⟩
theorem I2.get (h:I2 act n i ps)(ha:(act i).1=true)(hk:(act i).2.1=k)(hn:(ps.map (·.1)).Nodup):I2 act n (i+1) (zfI k ps):=by
 intro p hp hput hlast
 have hpi:p≠i:=fun e=>by rw [e,ha] at hput; cases hput
 rcases h p (by omega) hput (fun m m1 m2=>hlast m m1 (by omega)) with ⟨U,v0,W,rfl,hU⟩ | ⟨D,d1,d2,d3⟩
 rotate_left
 · exact .inr ⟨D,d1,d2,fun d hd=>⟨(d3 d hd).1,by obtain ⟨m,m1,m2,m3⟩:=(d3 d hd).2; exact ⟨m,m1,by omega,m3⟩⟩⟩
 obtain ⟨a1,a2,a3⟩:=ahead hn
 by_cases hkK:(act p).2.1=k
 · rw [zbj (q:=((act p).2.1,v0)) hkK hn]
   exact .inl ⟨[],v0,U++W,rfl,fun u hu=>absurd hu List.not_mem_nil⟩
 · have hkb:(!((act p).2.1==k))=true:=by rw [beq_eq_false_iff_ne.2 hkK]; rfl
   refine .inl ⟨(U++((act p).2.1,v0)::W).filter (fun q=>q.1==k)++U.filter (fun q=>!(q.1==k)),v0,W.filter (fun q=>!(q.1==k)),?_,fun u hu=>?_⟩
   · unfold zfI
     have e:(U++((act p).2.1,v0)::W).filter (fun q:Int × Int=>!(q.1==k))=U.filter (fun q=>!(q.1==k))++((act p).2.1,v0)::W.filter (fun q=>!(q.1==k)):=by rw [List.filter_append,List.filter_cons,if_pos hkb]
     rw [e,List.append_assoc]
   · rcases List.mem_append.1 hu with b | b
     · have:=eq_of_beq (List.mem_filter.1 b).2
       exact ⟨i,by omega,by omega,by rw [hk,this]⟩
     · obtain ⟨m,m1,m2,m3⟩:=hU u (List.mem_filter.1 b).1
       exact ⟨m,m1,by omega,m3⟩
end Go.Proofs.Ytcdpmiebmhjmpaa.lr
end
section
set_option maxRecDepth 100000
set_option linter.unusedVariables false
namespace Go.Proofs.Ytcdpmiebmhjmpaa.lr
open Go Ev
noncomputable def E1 (r:Nat) (k:Int) (v:Int):AFrame:=⟨11,55,(.node (.node .leaf (some (.int .i64 k)) (.node (.node .leaf (some (.ptr r 0 0)) .leaf) none .leaf)) (some (.ptr r 0 0)) (.node .leaf (some (.int .i64 v)) (.node (.node .leaf (some (.int .i64 k)) .leaf) none .leaf))),
 [.ops (rg P 11 [0]).toList ((rg P 11 [0]).toList.drop 2),.code (cd P 11 [1])],[],.run,CallKind.normal,none⟩
noncomputable def E2 (r:Nat) (k:Int):AFrame:=⟨9,21,(.node (.node .leaf (some (.int .i64 k)) (.node (.node .leaf (some (.ptr r 0 0)) .leaf) (some (.bool false)) .leaf)) (some (.ptr r 0 0)) (.node (.node .leaf (some (.int .i64 0)) .leaf) none (.node (.node .leaf (some (.int .i64 k)) .leaf) none .leaf))),
 [.ops (rg P 9 [1,0]).toList ((rg P 9 [1,0]).toList.drop 2),.code (cd P 9 [1,1])],[],.run,CallKind.normal,none⟩
noncomputable def E3 (r:Nat) (k:Int) (v:Int) (N:Nat) (w:Int) (x:Int):AFrame:=⟨11,55,(.node (.node (.node (.node (.node (.node .leaf (some (.tup [])) .leaf) (some (.bool false)) .leaf) (some (.bool true)) (.node .leaf (some (.bool true)) .leaf)) none (.node (.node (.node .leaf (some (.tup [])) .leaf) (some (.tup [])) (.node .leaf (some (.int .i64 k)) .leaf)) (some (.tup [.agg [.int .i64 w,.int .i64 x],.bool true])) (.node .leaf (some (.tup [])) .leaf))) (some (.int .i64 k)) (.node (.node (.node (.node .leaf (some (.tup [])) .leaf) (some (.tup [])) .leaf) (some (.ptr r 0 0)) (.node .leaf (some (.bool false)) .leaf)) none (.node (.node .leaf (some (.tup [])) (.node .leaf (some (.agg [.int .i64 k,.int .i64 v])) .leaf)) (some (.bool true)) (.node .leaf (some (.tup [])) .leaf)))) (some (.ptr r 0 0)) (.node (.node (.node (.node (.node .leaf (some (.tup [])) .leaf) (some (.bool false)) .leaf) (some (.tup [.agg [.int .i64 w,.int .i64 x],.bool true])) (.node .leaf (some (.bool false)) .leaf)) none (.node (.node (.node .leaf (some (.bool false)) .leaf) (some (.tup [])) (.node .leaf (some (.int .i64 v)) .leaf)) (some (.agg [.int .i64 w,.int .i64 x])) (.node .leaf (some (.tup [])) .leaf))) (some (.int .i64 v)) (.node (.node (.node (.node .leaf (some (.tup [])) .leaf) (some (.tup [])) (.node .leaf (some (.ptr r 0 0)) .leaf)) (some (.int .i64 k)) (.node .leaf (some (.tup [])) .leaf)) (some (.ptr N 0 0)) (.node (.node .leaf (some (.bool false)) .leaf) (some (.bool true)) (.node .leaf (some (.tup [])) .leaf))))),
 [.ops (rg P 11 [1,1,1]).toList ((rg P 11 [1,1,1]).toList.drop 4)],[],.run,CallKind.normal,none⟩
noncomputable def E4 (r:Nat) (k:Int) (v:Int) (N:Nat) (cap:Int) (w:Int) (x:Int):AFrame:=⟨11,55,(.node (.node (.node (.node (.node (.node .leaf (some (.ptr r 0 0)) .leaf) (some (.bool true)) .leaf) (some (.bool false)) (.node .leaf (some (.bool false)) .leaf)) none (.node (.node (.node .leaf (some (.bool (decide (Int.ofNat 0≥cap)))) .leaf) (some (.ptr r 0 0)) (.node .leaf (some (.int .i64 k)) .leaf)) (some (.tup [.agg [.int .i64 w,.int .i64 x],.bool false])) (.node .leaf (some (.ptr r 0 0)) .leaf))) (some (.int .i64 k)) (.node (.node (.node (.node .leaf (some (.ptr r 0 0)) .leaf) (some (.ptr r 0 0)) .leaf) (some (.ptr r 0 0)) (.node .leaf (some (.bool true)) .leaf)) none (.node (.node .leaf (some (.bool (cap==(0:Int)))) (.node .leaf (some (.agg [.int .i64 k,.int .i64 v])) .leaf)) (some (.bool false)) (.node .leaf (some (.nils 0 0)) .leaf)))) (some (.ptr r 0 0)) (.node (.node (.node (.node (.node .leaf (some (.ptr r 0 0)) .leaf) (some (.bool true)) .leaf) (some (.tup [.agg [.int .i64 w,.int .i64 x],.bool false])) (.node .leaf (some (.bool true)) .leaf)) none (.node (.node (.node .leaf (some (.bool false)) .leaf) (some (.int .i64 cap)) (.node .leaf (some (.int .i64 v)) .leaf)) (some (.agg [.int .i64 w,.int .i64 x])) (.node .leaf (some (.ptr r 0 1)) .leaf))) (some (.int .i64 v)) (.node (.node (.node (.node .leaf (some (.int .i64 cap)) .leaf) (some (.ptr r 0 0)) (.node .leaf (some (.ptr r 0 0)) .leaf)) (some (.int .i64 k)) (.node .leaf (some (.ptr r 0 0)) .leaf)) (some (.ptr N 0 0)) (.node (.node .leaf (some (.bool false)) .leaf) (some (.bool false)) (.node .leaf (some (.int .i64 0)) .leaf))))),
 [.ops (rg P 11 [1,1,1]).toList ((rg P 11 [1,1,1]).toList.drop 4)],[],.run,CallKind.normal,none⟩
noncomputable def E5 (r:Nat) (k:Int) (v:Int) (N:Nat) (kj:Nat) (z:Nat) (km:Nat) (cap:Int) (w:Int) (x:Int):AFrame:=⟨11,55,(.node (.node (.node (.node (.node (.node .leaf (some (.ptr r 0 0)) .leaf) (some (.bool true)) .leaf) (some (.bool false)) (.node .leaf (some (.bool false)) .leaf)) none (.node (.node (.node .leaf (some (.bool (decide ((↑km:Int)≥cap)))) .leaf) (some (.ptr r 0 0)) (.node .leaf (some (.int .i64 k)) .leaf)) (some (.tup [.agg [.int .i64 w,.int .i64 x],.bool false])) (.node .leaf (some (.ptr r 0 0)) .leaf))) (some (.int .i64 k)) (.node (.node (.node (.node .leaf (some (.ptr r 0 0)) .leaf) (some (.ptr r 0 0)) .leaf) (some (.ptr r 0 0)) (.node .leaf (some (.bool true)) .leaf)) none (.node (.node .leaf (some (.bool (cap==(0:Int)))) (.node .leaf (some (.agg [.int .i64 k,.int .i64 v])) .leaf)) (some (.bool false)) (.node .leaf (some (.slg kj z 0 km 0)) .leaf)))) (some (.ptr r 0 0)) (.node (.node (.node (.node (.node .leaf (some (.ptr r 0 0)) .leaf) (some (.bool true)) .leaf) (some (.tup [.agg [.int .i64 w,.int .i64 x],.bool false])) (.node .leaf (some (.bool true)) .leaf)) none (.node (.node (.node .leaf (some (.bool false)) .leaf) (some (.int .i64 cap)) (.node .leaf (some (.int .i64 v)) .leaf)) (some (.agg [.int .i64 w,.int .i64 x])) (.node .leaf (some (.ptr r 0 1)) .leaf))) (some (.int .i64 v)) (.node (.node (.node (.node .leaf (some (.int .i64 cap)) .leaf) (some (.ptr r 0 0)) (.node .leaf (some (.ptr r 0 0)) .leaf)) (some (.int .i64 k)) (.node .leaf (some (.ptr r 0 0)) .leaf)) (some (.ptr N 0 0)) (.node (.node .leaf (some (.bool false)) .leaf) (some (.bool false)) (.node .leaf (some (.int .i64 (↑km:Int))) .leaf))))),
 [.ops (rg P 11 [1,1,1]).toList ((rg P 11 [1,1,1]).toList.drop 4)],[],.run,CallKind.normal,none⟩
noncomputable def E6 (r:Nat) (k:Int) (v:Int) (N:Nat) (kn:Nat) (kj:Nat) (z:Nat) (km:Nat) (cap:Int) (w:Int) (x:Int):AFrame:=⟨11,55,(.node (.node (.node (.node (.node (.node .leaf (some (.ptr r 0 0)) .leaf) (some (.bool true)) (.node .leaf (some (.slg kj z 0 kn 0)) .leaf)) (some (.bool false)) (.node (.node .leaf (some (.ptr r 0 0)) .leaf) (some (.bool false)) .leaf)) none (.node (.node (.node .leaf (some (.bool (decide ((↑km:Int)≥cap)))) .leaf) (some (.ptr r 0 0)) (.node .leaf (some (.int .i64 k)) .leaf)) (some (.tup [.agg [.int .i64 w,.int .i64 x],.bool false])) (.node (.node .leaf (some (.ptr r 0 0)) .leaf) (some (.ptr r 0 0)) .leaf))) (some (.int .i64 k)) (.node (.node (.node (.node .leaf (some (.ptr r 0 0)) .leaf) (some (.ptr r 0 0)) (.node .leaf (some (.ptr r 0 1)) .leaf)) (some (.ptr r 0 0)) (.node (.node .leaf (some (.slg kj z 0 km 0)) .leaf) (some (.bool true)) .leaf)) none (.node (.node (.node .leaf (some (.ptr r 0 0)) .leaf) (some (.bool (cap==(0:Int)))) (.node .leaf (some (.agg [.int .i64 k,.int .i64 v])) .leaf)) (some (.bool false)) (.node (.node .leaf (some (.int .i64 cap)) .leaf) (some (.slg kj z 0 km 0)) .leaf)))) (some (.ptr r 0 0)) (.node (.node (.node (.node (.node .leaf (some (.ptr r 0 0)) .leaf) (some (.bool true)) (.node .leaf (some (.ptr r 0 0)) .leaf)) (some (.tup [.agg [.int .i64 w,.int .i64 x],.bool false])) (.node (.node .leaf (some (.ptr r 0 1)) .leaf) (some (.bool true)) .leaf)) none (.node (.node (.node .leaf (some (.bool true)) .leaf) (some (.int .i64 cap)) (.node .leaf (some (.int .i64 v)) .leaf)) (some (.agg [.int .i64 w,.int .i64 x])) (.node (.node .leaf (some (.ptr r 0 0)) .leaf) (some (.ptr r 0 1)) .leaf))) (some (.int .i64 v)) (.node (.node (.node (.node .leaf (some (.int .i64 cap)) .leaf) (some (.ptr r 0 0)) (.node .leaf (some (.ptr r 0 0)) .leaf)) (some (.int .i64 k)) (.node (.node .leaf (some (.ptr r 0 0)) .leaf) (some (.ptr r 0 0)) .leaf)) (some (.ptr N 0 0)) (.node (.node (.node .leaf (some (.ptr r 0 0)) .leaf) (some (.bool false)) .leaf) (some (.bool false)) (.node (.node .leaf (some (.int .i64 (IntKind.i64.wrap (cap - (1:Int))))) .leaf) (some (.int .i64 (↑km:Int))) .leaf))))),
 [.ops (rg P 11 [1,1,1]).toList ((rg P 11 [1,1,1]).toList.drop 4)],[],.run,CallKind.normal,none⟩
noncomputable def E7 (r:Nat) (k:Int) (N:Nat) (w:Int) (x:Int):AFrame:=⟨9,21,(.node (.node (.node (.node (.node .leaf (some (.ptr r 0 0)) .leaf) (some (.bool true)) .leaf) none (.node .leaf (some (.tup [.agg [.int .i64 w,.int .i64 x],.bool true])) .leaf)) (some (.int .i64 k)) (.node (.node .leaf (some (.ptr r 0 0)) .leaf) (some (.bool false)) (.node .leaf (some (.bool true)) .leaf))) (some (.ptr r 0 0)) (.node (.node (.node (.node .leaf (some (.agg [.int .i64 w,.int .i64 x])) .leaf) (some (.tup [.agg [.int .i64 w,.int .i64 x],.bool true])) .leaf) (some (.int .i64 0)) (.node .leaf (some (.agg [.int .i64 w,.int .i64 x])) .leaf)) none (.node (.node .leaf (some (.int .i64 k)) .leaf) (some (.ptr N 0 0)) (.node .leaf (some (.bool true)) .leaf)))),
 [.ops (rg P 9 [1,1,0,1,0]).toList ((rg P 9 [1,1,0,1,0]).toList.drop 2),.code (cd P 9 [1,1,1])],[],.run,CallKind.normal,none⟩
theorem q_cp (R:AV→AHeap→Prop)(keep:Nat)(f0:FuncId)(rest:List AFrame)(O:T AObj)(N:Nat)(r:Nat)(k:Int)(v:Int)(G:T (T AV))(K:AM→Prop):Obl P f0 (fun v h=>R v h) keep K [.run 5] ((AM.mk (enF 11 [.ptr r 0 0,.int .i64 k,.int .i64 v]) rest ⟨O,N,G⟩))=(K (AM.mk (enF 21 [.ptr r 0 0,.int .i64 k]) ((E1 r k v)::rest) ⟨O,N,G⟩)):=by kernel_rfl
theorem q_cg (R:AV→AHeap→Prop)(keep:Nat)(f0:FuncId)(rest:List AFrame)(O:T AObj)(N:Nat)(r:Nat)(k:Int)(G:T (T AV))(K:AM→Prop):Obl P f0 (fun v h=>R v h) keep K [.run 10] ((AM.mk (enF 9 [.ptr r 0 0,.int .i64 k]) rest ⟨O,N,G⟩))=(K (AM.mk (enF 21 [.ptr r 0 0,.int .i64 k]) ((E2 r k)::rest) ⟨O,N,G⟩)):=by kernel_rfl
theorem q_ua (R:AV→AHeap→Prop)(keep:Nat)(f0:FuncId)(rest:List AFrame)(O:T AObj)(O1:T AObj)(O2:T AObj)(N:Nat)(r:Nat)(t:Nat)(k:Int)(v:Int)(w:Int)(x:Int)(td:List AItem)(G:T (T AV))(K:AM→Prop):Obl P f0 (fun v h=>R v h) keep K [.hret [.agg [.int .i64 w,.int .i64 x],.bool true],.run 3,.hop .nilp O1,.hop .nilp O2,.run 43] ((AM.mk (RF 21 52 (.node (.node .leaf none (.node .leaf (some (.bool true)) .leaf)) none (.node (.node .leaf (some (.ptr t 0 0)) .leaf) none .leaf)) td) ((E1 r k v)::rest) ⟨O,N,G⟩))=((za { objs:=O,next:=N,glob:=G } t 0 0 2=some [AV.int .i64 w,AV.int .i64 x]∧True)∧(T.set ((some (.cells (.node (.node .leaf (some (.int .i64 0)) .leaf) (some (.int .i64 0)) .leaf) 2 55 0 0 1 0 false .leaf))) (O) (N)=O1)∧(zc (⟨O1,N+1,G⟩) (N) 0 0 ([.int .i64 w,.int .i64 x])=(some ⟨O2,N+1,G⟩))∧K (AM.mk (enF 22 [.ptr r 0 0,.agg [.int .i64 k,.int .i64 v]]) ((E3 r k v N w x)::rest) ⟨O2,N+1,G⟩)):=by kernel_rfl
theorem q_un (R:AV→AHeap→Prop)(keep:Nat)(f0:FuncId)(rest:List AFrame)(O:T AObj)(O1:T AObj)(O2:T AObj)(N:Nat)(r:Nat)(t:Nat)(k:Int)(v:Int)(cap:Int)(w:Int)(x:Int)(td:List AItem)(G:T (T AV))(K:AM→Prop):Obl P f0 (fun v h=>R v h) keep K [.hret [.agg [.int .i64 w,.int .i64 x],.bool false],.run 3,.hop .nilp O1,.hop .nilp O2,.run 11,.hop (.int .i64 cap) O2,.run 3,.know 22 false,.run 11,.hop (.nils 0 0) O2,.run 4,.hop (.int .i64 cap) O2,.run 3,.know 36 false,.run 8] ((AM.mk (RF 21 52 (.node (.node .leaf none (.node .leaf (some (.bool false)) .leaf)) none (.node (.node .leaf (some (.ptr t 0 0)) .leaf) none .leaf)) td) ((E1 r k v)::rest) ⟨O,N,G⟩))=((za { objs:=O,next:=N,glob:=G } t 0 0 2=some [AV.int .i64 w,AV.int .i64 x]∧True)∧(T.set ((some (.cells (.node (.node .leaf (some (.int .i64 0)) .leaf) (some (.int .i64 0)) .leaf) 2 55 0 0 1 0 false .leaf))) (O) (N)=O1)∧(zc (⟨O1,N+1,G⟩) (N) 0 0 ([.int .i64 w,.int .i64 x])=(some ⟨O2,N+1,G⟩))∧(za (⟨O2,N+1,G⟩) (r) 0 0 1=(some [.int .i64 cap]))∧((cap==(0:Int))=false)∧(za (⟨O2,N+1,G⟩) (r) 0 1 1=(some [.nils 0 0]))∧(za (⟨O2,N+1,G⟩) (r) 0 0 1=(some [.int .i64 cap]))∧(decide (0≥cap)=false)∧K (AM.mk (enF 22 [.ptr r 0 0,.agg [.int .i64 k,.int .i64 v]]) ((E4 r k v N cap w x)::rest) ⟨O2,N+1,G⟩)):=by kernel_rfl
theorem q_ug (R:AV→AHeap→Prop)(keep:Nat)(f0:FuncId)(rest:List AFrame)(O:T AObj)(O1:T AObj)(O2:T AObj)(N:Nat)(r:Nat)(t:Nat)(kj:Nat)(z:Nat)(km:Nat)(k:Int)(v:Int)(cap:Int)(w:Int)(x:Int)(td:List AItem)(G:T (T AV))(K:AM→Prop):Obl P f0 (fun v h=>R v h) keep K [.hret [.agg [.int .i64 w,.int .i64 x],.bool false],.run 3,.hop .nilp O1,.hop .nilp O2,.run 11,.hop (.int .i64 cap) O2,.run 3,.know 22 false,.run 11,.hop ((.slg kj z 0 km 0)) O2,.run 4,.hop (.int .i64 cap) O2,.run 3,.know 36 false,.run 8] ((AM.mk (RF 21 52 (.node (.node .leaf none (.node .leaf (some (.bool false)) .leaf)) none (.node (.node .leaf (some (.ptr t 0 0)) .leaf) none .leaf)) td) ((E1 r k v)::rest) ⟨O,N,G⟩))=((za { objs:=O,next:=N,glob:=G } t 0 0 2=some [AV.int .i64 w,AV.int .i64 x]∧True)∧(T.set ((some (.cells (.node (.node .leaf (some (.int .i64 0)) .leaf) (some (.int .i64 0)) .leaf) 2 55 0 0 1 0 false .leaf))) (O) (N)=O1)∧(zc (⟨O1,N+1,G⟩) (N) 0 0 ([.int .i64 w,.int .i64 x])=(some ⟨O2,N+1,G⟩))∧(za (⟨O2,N+1,G⟩) (r) 0 0 1=(some [.int .i64 cap]))∧((cap==(0:Int))=false)∧(za (⟨O2,N+1,G⟩) (r) 0 1 1=(some [.slg kj z 0 km 0]))∧(za (⟨O2,N+1,G⟩) (r) 0 0 1=(some [.int .i64 cap]))∧(decide ((↑km:Int)≥cap)=false)∧K (AM.mk (enF 22 [.ptr r 0 0,.agg [.int .i64 k,.int .i64 v]]) ((E5 r k v N kj z km cap w x)::rest) ⟨O2,N+1,G⟩)):=by kernel_rfl
theorem q_ue (R:AV→AHeap→Prop)(keep:Nat)(f0:FuncId)(rest:List AFrame)(O:T AObj)(O1:T AObj)(O2:T AObj)(O3:T AObj)(N:Nat)(r:Nat)(t:Nat)(kn:Nat)(kj:Nat)(z:Nat)(km:Nat)(k:Int)(v:Int)(cap:Int)(w:Int)(x:Int)(td:List AItem)(G:T (T AV))(K:AM→Prop):Obl P f0 (fun v h=>R v h) keep K [.hret [.agg [.int .i64 w,.int .i64 x],.bool false],.run 3,.hop .nilp O1,.hop .nilp O2,.run 11,.hop (.int .i64 cap) O2,.run 3,.know 22 false,.run 11,.hop ((.slg kj z 0 km 0)) O2,.run 4,.hop (.int .i64 cap) O2,.run 3,.know 36 true,.run 6,.hop ((.slg kj z 0 km 0)) O2,.run 3,.hop (.int .i64 cap) O2,.run 1,.hop (.slg kj z 0 kn 0) O2,.run 2,.hop .nilp O3,.run 7] ((AM.mk (RF 21 52 (.node (.node .leaf none (.node .leaf (some (.bool false)) .leaf)) none (.node (.node .leaf (some (.ptr t 0 0)) .leaf) none .leaf)) td) ((E1 r k v)::rest) ⟨O,N,G⟩))=((za { objs:=O,next:=N,glob:=G } t 0 0 2=some [AV.int .i64 w,AV.int .i64 x]∧True)∧(T.set ((some (.cells (.node (.node .leaf (some (.int .i64 0)) .leaf) (some (.int .i64 0)) .leaf) 2 55 0 0 1 0 false .leaf))) (O) (N)=O1)∧(zc (⟨O1,N+1,G⟩) (N) 0 0 ([.int .i64 w,.int .i64 x])=(some ⟨O2,N+1,G⟩))∧(za (⟨O2,N+1,G⟩) (r) 0 0 1=(some [.int .i64 cap]))∧((cap==(0:Int))=false)∧(za (⟨O2,N+1,G⟩) (r) 0 1 1=(some [.slg kj z 0 km 0]))∧(za (⟨O2,N+1,G⟩) (r) 0 0 1=(some [.int .i64 cap]))∧(decide ((↑km:Int)≥cap)=true)∧(za (⟨O2,N+1,G⟩) (r) 0 1 1=(some [.slg kj z 0 km 0]))∧(za (⟨O2,N+1,G⟩) (r) 0 0 1=(some [.int .i64 cap]))∧(kH P (⟨O2,N+1,G⟩) 36 (.slg kj z 0 km 0) (none) ((some (IntKind.i64.wrap (cap - (1:Int))))) (none)=(some (.slg kj z 0 kn 0)))∧(zc (⟨O2,N+1,G⟩) (r) 0 1 ([.slg kj z 0 kn 0])=(some ⟨O3,N+1,G⟩))∧K (AM.mk (enF 22 [.ptr r 0 0,.agg [.int .i64 k,.int .i64 v]]) ((E6 r k v N kn kj z km cap w x)::rest) ⟨O3,N+1,G⟩)):=by kernel_rfl
theorem q_ga (R:AV→AHeap→Prop)(keep:Nat)(f0:FuncId)(rest:List AFrame)(O:T AObj)(O1:T AObj)(O2:T AObj)(N:Nat)(r:Nat)(t:Nat)(k:Int)(w:Int)(x:Int)(td:List AItem)(G:T (T AV))(K:AM→Prop):Obl P f0 (fun v h=>R v h) keep K [.hret [.agg [.int .i64 w,.int .i64 x],.bool true],.run 3,.hop .nilp O1,.hop .nilp O2,.run 10,.hop (.agg [.int .i64 w,.int .i64 x]) O2,.run 1] ((AM.mk (RF 21 52 (.node (.node .leaf none (.node .leaf (some (.bool true)) .leaf)) none (.node (.node .leaf (some (.ptr t 0 0)) .leaf) none .leaf)) td) ((E2 r k)::rest) ⟨O,N,G⟩))=((za { objs:=O,next:=N,glob:=G } t 0 0 2=some [AV.int .i64 w,AV.int .i64 x]∧True)∧(T.set ((some (.cells (.node (.node .leaf (some (.int .i64 0)) .leaf) (some (.int .i64 0)) .leaf) 2 55 0 0 1 0 false .leaf))) (O) (N)=O1)∧(zc (⟨O1,N+1,G⟩) (N) 0 0 ([.int .i64 w,.int .i64 x])=(some ⟨O2,N+1,G⟩))∧(za (⟨O2,N+1,G⟩) (N) 0 0 2=(some [.int .i64 w,.int .i64 x]))∧K (AM.mk (enF 22 [.ptr r 0 0,.agg [.int .i64 w,.int .i64 x]]) ((E7 r k N w x)::rest) ⟨O2,N+1,G⟩)):=by kernel_rfl
theorem q_uz (R:AV→AHeap→Prop)(keep:Nat)(f0:FuncId)(rest:List AFrame)(O:T AObj)(O1:T AObj)(O2:T AObj)(N:Nat)(r:Nat)(t:Nat)(k:Int)(v:Int)(cap:Int)(w:Int)(x:Int)(td:List AItem)(G:T (T AV))(K:AM→Prop):Obl P f0 (fun v h=>R v h) keep K [.hret [.agg [.int .i64 w,.int .i64 x],.bool false],.run 3,.hop .nilp O1,.hop .nilp O2,.run 11,.hop (.int .i64 cap) O2,.run 3,.know 22 true,.run 2,.keep []] ((AM.mk (RF 21 52 (.node (.node .leaf none (.node .leaf (some (.bool false)) .leaf)) none (.node (.node .leaf (some (.ptr t 0 0)) .leaf) none .leaf)) td) ((E1 r k v)::rest) ⟨O,N,G⟩))=((za { objs:=O,next:=N,glob:=G } t 0 0 2=some [AV.int .i64 w,AV.int .i64 x]∧True)∧(T.set ((some (.cells (.node (.node .leaf (some (.int .i64 0)) .leaf) (some (.int .i64 0)) .leaf) 2 55 0 0 1 0 false .leaf))) (O) (N)=O1)∧(zc (⟨O1,N+1,G⟩) (N) 0 0 ([.int .i64 w,.int .i64 x])=(some ⟨O2,N+1,G⟩))∧(za (⟨O2,N+1,G⟩) (r) 0 0 1=(some [.int .i64 cap]))∧((cap==(0:Int))=true)∧K (AM.mk (RF 11 55 .leaf [.code (cd P 11 [1,0,1,0]),.code (cd P 11 [1,1])]) rest ⟨O2,N+1,G⟩)):=by kernel_rfl
theorem q_gb (R:AV→AHeap→Prop)(keep:Nat)(f0:FuncId)(rest:List AFrame)(O:T AObj)(O1:T AObj)(O2:T AObj)(N:Nat)(r:Nat)(t:Nat)(k:Int)(w:Int)(x:Int)(td:List AItem)(G:T (T AV))(K:AM→Prop):Obl P f0 (fun v h=>R v h) keep K [.hret [.agg [.int .i64 w,.int .i64 x],.bool false],.run 3,.hop .nilp O1,.hop .nilp O2,.run 12,.hop (.int .i64 x) O2,.run 5,.keep [4,5]] ((AM.mk (RF 21 52 (.node (.node .leaf none (.node .leaf (some (.bool false)) .leaf)) none (.node (.node .leaf (some (.ptr t 0 0)) .leaf) none .leaf)) td) ((E2 r k)::rest) ⟨O,N,G⟩))=((za { objs:=O,next:=N,glob:=G } t 0 0 2=some [AV.int .i64 w,AV.int .i64 x]∧True)∧(T.set ((some (.cells (.node (.node .leaf (some (.int .i64 0)) .leaf) (some (.int .i64 0)) .leaf) 2 55 0 0 1 0 false .leaf))) (O) (N)=O1)∧(zc (⟨O1,N+1,G⟩) (N) 0 0 ([.int .i64 w,.int .i64 x])=(some ⟨O2,N+1,G⟩))∧(za (⟨O2,N+1,G⟩) (N) 0 1 1=(some [.int .i64 x]))∧K (AM.mk (RF 9 21 (.node (.node .leaf none (.node .leaf (some (.bool false)) .leaf)) none (.node (.node .leaf (some (.int .i64 x)) .leaf) none .leaf)) [.code (cd P 11 [1,0,1,0])]) rest ⟨O2,N+1,G⟩)):=by kernel_rfl
theorem q_rE3 (R:AV→AHeap→Prop)(keep:Nat)(f0:FuncId)(rest:List AFrame)(O:T AObj)(N:Nat)(r:Nat)(t:Nat)(k:Int)(v:Int)(w:Int)(x:Int)(td:List AItem)(G:T (T AV))(K:AM→Prop):Obl P f0 (fun v h=>R v h) keep K [.run 3,.keep []] ((AM.mk (RF 22 14 .leaf td) ((E3 r k v t w x)::rest) ⟨O,N,G⟩))=(K (AM.mk (RF 11 55 .leaf []) rest ⟨O,N,G⟩)):=by kernel_rfl
theorem q_rE4 (R:AV→AHeap→Prop)(keep:Nat)(f0:FuncId)(rest:List AFrame)(O:T AObj)(N:Nat)(r:Nat)(t:Nat)(k:Int)(v:Int)(cap:Int)(w:Int)(x:Int)(td:List AItem)(G:T (T AV))(K:AM→Prop):Obl P f0 (fun v h=>R v h) keep K [.run 3,.keep []] ((AM.mk (RF 22 14 .leaf td) ((E4 r k v t cap w x)::rest) ⟨O,N,G⟩))=(K (AM.mk (RF 11 55 .leaf []) rest ⟨O,N,G⟩)):=by kernel_rfl
theorem q_rE5 (R:AV→AHeap→Prop)(keep:Nat)(f0:FuncId)(rest:List AFrame)(O:T AObj)(N:Nat)(r:Nat)(t:Nat)(kj:Nat)(z:Nat)(km:Nat)(k:Int)(v:Int)(cap:Int)(w:Int)(x:Int)(td:List AItem)(G:T (T AV))(K:AM→Prop):Obl P f0 (fun v h=>R v h) keep K [.run 3,.keep []] ((AM.mk (RF 22 14 .leaf td) ((E5 r k v t kj z km cap w x)::rest) ⟨O,N,G⟩))=(K (AM.mk (RF 11 55 .leaf []) rest ⟨O,N,G⟩)):=by kernel_rfl
theorem q_rE6 (R:AV→AHeap→Prop)(keep:Nat)(f0:FuncId)(rest:List AFrame)(O:T AObj)(N:Nat)(r:Nat)(t:Nat)(kn:Nat)(kj:Nat)(z:Nat)(km:Nat)(k:Int)(v:Int)(cap:Int)(w:Int)(x:Int)(td:List AItem)(G:T (T AV))(K:AM→Prop):Obl P f0 (fun v h=>R v h) keep K [.run 3,.keep []] ((AM.mk (RF 22 14 .leaf td) ((E6 r k v t kn kj z km cap w x)::rest) ⟨O,N,G⟩))=(K (AM.mk (RF 11 55 .leaf []) rest ⟨O,N,G⟩)):=by kernel_rfl
theorem q_rE7 (R:AV→AHeap→Prop)(keep:Nat)(f0:FuncId)(rest:List AFrame)(O:T AObj)(N:Nat)(r:Nat)(t:Nat)(k:Int)(w:Int)(x:Int)(td:List AItem)(G:T (T AV))(K:AM→Prop):Obl P f0 (fun v h=>R v h) keep K [.run 5,.hop (.int .i64 x) O,.run 5,.keep [4,5]] ((AM.mk (RF 22 14 .leaf td) ((E7 r k t w x)::rest) ⟨O,N,G⟩))=((za (⟨O,N,G⟩) (t) 0 1 1=(some [.int .i64 x]))∧K (AM.mk (RF 9 21 (.node (.node .leaf none (.node .leaf (some (.bool true)) .leaf)) none (.node (.node .leaf (some (.int .i64 x)) .leaf) none .leaf)) [.code (cd P 11 [1,0,1,0])]) rest ⟨O,N,G⟩)):=by kernel_rfl
theorem q_fi0 (R:AV→AHeap→Prop)(keep:Nat)(f0:FuncId)(rest:List AFrame)(O:T AObj)(O1:T AObj)(O2:T AObj)(O3:T AObj)(N:Nat)(r:Nat)(kj:Nat)(z:Nat)(k:Int)(v:Int)(G:T (T AV))(K:AM→Prop):Obl P f0 (fun v h=>R v h) keep K [.run 2,.hop .nilp O1,.run 3,.hop (.agg [.int .i64 k,.int .i64 v]) O1,.hopn (.slc (N+1) 0 0 1 1) O2 (N+2),.run 3,.hop (.slg kj z 0 0 0) O2,.hop (.slc (N+1) 0 0 1 1) O2,.run 2,.hop .nilp O3,.run 2,.keep []] ((AM.mk (enF 22 [.ptr r 0 0,.agg [.int .i64 k,.int .i64 v]]) rest ⟨O,N,G⟩))=((T.set ((some (.cells (.node (.node .leaf (some (.int .i64 v)) .leaf) (some (.int .i64 k)) .leaf) 2 55 0 0 1 0 false .leaf))) (O) (N)=O1)∧(za (⟨O1,N+1,G⟩) (N) 0 0 2=(some [.int .i64 k,.int .i64 v]))∧(zh P (⟨O1,N+1,G⟩) 36 1 ([(0,.agg [.int .i64 k,.int .i64 v])])=(some (.slc (N+1) 0 0 1 1,⟨O2,N+2,G⟩)))∧(za (⟨O2,N+2,G⟩) (N) 0 0 2=(some [.int .i64 k,.int .i64 v]))∧(za (⟨O2,N+2,G⟩) (r) 0 1 1=(some [.slg kj z 0 0 0]))∧(zg P (⟨O2,N+2,G⟩) (Builtin.append) ((some 36)) ((some 36)) ([.slc (N+1) 0 0 1 1,.slg kj z 0 0 0])=(some (.val (.slc (N+1) 0 0 1 1) ⟨O2,N+2,G⟩)))∧(zc (⟨O2,N+2,G⟩) (r) 0 1 ([.slc (N+1) 0 0 1 1])=(some ⟨O3,N+2,G⟩))∧K (AM.mk (RF 22 14 .leaf []) rest ⟨O3,N+2,G⟩)):=by kernel_rfl
variable {O O':T AObj} {N r cap lo:Nat} {G:T (T AV)} {ps:List (Int × Int)} {k v:Int} {sl:AV}
theorem PV.low {lo' hi:Nat}{s:AV}(h:PV O lo' hi ps s)(hl:lo≤lo'):PV O lo hi ps s:=by
 rcases h with h | ⟨ri,a,b,c,d,g⟩ | ⟨ri,z,q,a,b,c,d,g⟩
 · exact .inl h
 · exact .inr (.inl ⟨ri,a,by omega,c,d,g⟩)
 · exact .inr (.inr ⟨ri,z,q,a,by omega,c,d,g⟩)
theorem ziu {O:T AObj}{K M rj z:Nat}{G:T (T AV)}{f:Nat→AV}(hv:VRow O rj z 0 f):zg P ⟨O,M,G⟩ .append (some 36) (some 36) [.slc K 0 0 1 1,.slg rj z 0 0 0]=some (.val (.slc K 0 0 1 1) ⟨O,M,G⟩):=by
 have hl:za ⟨O,M,G⟩ rj z 0 (0*2)=some []:=hv.loadL (k:=0) (l:=[]) (by omega) M G fun c hc=>rfl
 obtain ⟨i,h1,h2,h3⟩:=jQ
 show (match yt P 36 with | none=>none | some zz=>match ze1 [.slc K 0 0 1 1,.slg rj z 0 0 0] with | none=>none | some (s,x)=>yD (xb P ⟨O,M,G⟩ 36 zz s x))=_
 rw [vX]
 show yD (xb P ⟨O,M,G⟩ 36 false (.slc K 0 0 1 1) (.slg rj z 0 0 0))=_
 have:xb P ⟨O,M,G⟩ 36 false (.slc K 0 0 1 1) (.slg rj z 0 0 0)=some (.slc K 0 0 1 1,⟨O,M,G⟩):=by
  unfold xb
  rw [zbv]
  show xL P ⟨O,M,G⟩ 55 false (.slc K 0 0 1 1) (.slg rj z 0 0 0)=_
  unfold xL
  rw [h1,jK]
  have ha:xI ⟨O,M,G⟩ 2 (.agg [.int .i64 0,.int .i64 0]) false (.slg rj z 0 0 0)=some (0,[]):=by
   unfold xI
   show (match (za ⟨O,M,G⟩ rj z 0 (0*2)) with | none=>none | some new=>some (0,new))=_
   rw [hl]
  simp only [h2,h3,ha]
  show (match zF (.slc K 0 0 1 1) with | none=>none | some sLen=>if _ then _ else none)=_
  simp only [zF]
  rw [if_pos ⟨Nat.zero_lt_two,rfl,rfl,rfl,rfl,fun h=>by cases h⟩]
  rfl
 rw [this]
 rfl
theorem zhH {rj z:Nat}{f:Nat→AV}(hv:VRow O rj z 0 f)(hrj:rj<N)(hr:Row O r 2 (rf cap (.slg rj z 0 0 0)))(hrN:r<N)(hlo:lo≤N){keep:Nat}{f0:FuncId}{Q:AV→AHeap→Prop}{rest:List AFrame}
 (hK:∀ (O':T AObj) (N':Nat) (s':AV) (td:List AItem),Row O' r 2 (rf cap s')→PV O' lo N' [(k,v)] s'→(∀ j,j<N→j≠r→O'.get j=O.get j)→N≤N'→Goal P keep f0 Q (AM.mk (RF 22 14 .leaf td) rest ⟨O',N',G⟩)) :
 Goal P keep f0 Q (AM.mk (enF 22 [.ptr r 0 0,.agg [.int .i64 k,.int .i64 v]]) rest ⟨O,N,G⟩):=by
 obtain ⟨O1,e1,r1,f1⟩:=Row.mk (n:=2) (f:=pc (k,v)) (c:=.node (.node .leaf (some (.int .i64 v)) .leaf) (some (.int .i64 k)) .leaf) (el:=55) O N (fun u hu=>by rcases u with _ | _ | u <;> first | rfl | omega)
 have l1:=(Row.v r1).load2 (off:=0) (by omega) (N+1) G
 obtain ⟨O2,e2,r2,f2⟩:=zd7 O1 (N+1) G k v
 have l2:=(Row.v (r1.fr f2 (by omega))).load2 (off:=0) (by omega) (N+2) G
 have hr2:=(hr.fr f1 (by omega)).fr f2 (by omega)
 have l3:za ⟨O2,N+2,G⟩ r 0 1 1=some [.slg rj z 0 0 0]:=hr2.load1 (by omega)
 obtain ⟨O3,s3,r3,f3⟩:=hr2.store (N+2) G (off:=1) (vs:=[.slc (N+1) 0 0 1 1]) rfl (by show 1+1≤2; omega)
 refine (Obl.goal mix (K:=Goal P keep f0 Q) (fun _ h=>h) (cast (q_fi0 Q keep f0 rest O O1 O2 O3 N r rj z k v G ((Goal P keep f0 Q))).symm ⟨e1,l1,e2,l2,l3,ziu (hv.same ((f2 rj (by omega)).trans (f1 rj (by omega)))),s3,hK O3 (N+2) (.slc (N+1) 0 0 1 1) _ (r3.to fun u hu=>?_) (.inr (.inl ⟨N+1,rfl,by omega,by omega,rfl,?_⟩)) (fun j j1 j2=>(f3 j j2).trans ((f2 j (by omega)).trans (f1 j (by omega)))) (by omega)⟩))
 · rcases u with _ | _ | u
   · rfl
   · rfl
   · omega
 · obtain ⟨c,m,el,lo',hi,nv,fz,sg,ex,e',h1,h2,h3,h4,h5,h6⟩:=Row.v (r2.fr f3 (by omega))
   exact ⟨c,m,el,lo',hi,nv,fz,sg,ex,e',h1,h2,h3,h4,h5,fun u hu=>(h6 u hu).trans (by rw [v7,if_pos hu]; rfl)⟩
theorem zhI (h:AHeap){kj z km kn:Nat}(p:kn≤km):kH P h 36 (.slg kj z 0 km 0) none (some ((kn:Nat):Int)) none=some (.slg kj z 0 kn 0):=by
 have e:kH P h 36 (.slg kj z 0 km 0) none (some ((kn:Nat):Int)) none=(match zdZ kj z 0 km 0 2 none (zL km km none (some ((kn:Nat):Int)) none) with | some v=>some v | none=>zei P h 36 (.slg kj z 0 km 0) none (some ((kn:Nat):Int)) none):=by kernel_rfl
 rw [e]
 have e2:zL km km none (some ((kn:Nat):Int)) none=some (0,kn,km):=by
  have g1:xj ((kn:Nat):Int) km=some kn:=by
   unfold xj
   rw [if_pos (by omega)]
   rfl
  show (match xj ((kn:Nat):Int) km with | none=>none | some h=>match xe none h with | none=>none | some l=>some (l,h,km))=_
  rw [g1]
  rfl
 rw [e2]
 show some (AV.slg kj z (0+0*2) (kn - 0) (0+0))=_
 rfl
theorem ziA (O1:T AObj)(N1:Nat)(G:T (T AV))(x:Int × Int):∃ O2 O3,T.set (some (.cells (.node (.node .leaf (some (.int .i64 0)) .leaf) (some (.int .i64 0)) .leaf) 2 55 0 0 1 0 false .leaf)) O1 N1=O2∧zc ⟨O2,N1+1,G⟩ N1 0 0 [.int .i64 x.1,.int .i64 x.2]=some ⟨O3,N1+1,G⟩∧Row O3 N1 2 (pc x)∧Frm O1 O3 N1:=by
 obtain ⟨O2,e1,r1,f1⟩:=Row.mk (n:=2) (f:=pc (0,0)) (c:=.node (.node .leaf (some (.int .i64 0)) .leaf) (some (.int .i64 0)) .leaf) (el:=55) O1 N1 (fun u hu=>by rcases u with _ | _ | u <;> first | rfl | omega)
 obtain ⟨O3,s1,r2,f2⟩:=r1.store (N1+1) G (off:=0) (vs:=[.int .i64 x.1,.int .i64 x.2]) rfl (by show 0+2≤2; omega)
 refine ⟨O2,O3,e1,s1,r2.to fun u hu=>?_,fun j hj=>(f2 j hj).trans (f1 j hj)⟩
 rcases u with _ | _ | u
 · rfl
 · rfl
 · omega
theorem zjA (hr:Row O r 2 (rf cap sl))(hrN:r<N)(hlo:lo≤N)(hps:PV O lo N ps sl)(hlen:ps.length<1000000000)(hnd:(ps.map (·.1)).Nodup){keep:Nat}{f0:FuncId}{Q:AV→AHeap→Prop}{rest:List AFrame}
 (hK:∀ (O':T AObj) (N':Nat) (s':AV) (td:List AItem) (b:Bool) (x:Int × Int),Row O' r 2 (rf cap s')→PV O' N N' (zfI k ps) s'→(∀ j,j<N→j≠r→O'.get j=O.get j)→N≤N'→TB k b x ps→Goal P keep f0 Q (AM.mk (RF 9 21 (.node (.node .leaf none (.node .leaf (some (.bool b)) .leaf)) none (.node (.node .leaf (some (.int .i64 x.2)) .leaf) none .leaf)) td) rest ⟨O',N',G⟩)) :
 Goal P keep f0 Q (AM.mk (enF 9 [.ptr r 0 0,.int .i64 k]) rest ⟨O,N,G⟩):=by
 refine (Obl.goal mix (K:=Goal P keep f0 Q) (fun _ h=>h) (cast (q_cg Q keep f0 rest O N r k G (Goal P keep f0 Q)).symm ?_))
 refine zhc hr hrN hps hlen fun O1 N1 s1 t td b x r1 ov1 fr1 hN1 ht1 hb=>?_
 obtain ⟨t1,t2,t3⟩:=ht1
 have lt:=(Row.v t3).load2 (off:=0) (by omega) N1 G
 obtain ⟨O2,O3,e1,e2,r2,f2⟩:=ziA O1 N1 G x
 have hr3:Row O3 r 2 (rf cap s1):=r1.fr f2 (by omega)
 have sv:SV O3 N (N1+1) (ps.filter (fun q:Int × Int=>!(q.1==k))) s1:=by
  rcases ov1.sv with h | ⟨ri,z,q,a,b',c,d,g⟩
  · exact .inl h
  · exact .inr ⟨ri,z,q,a,by omega,by omega,d,g.same (f2 ri (by omega))⟩
 have fr3:∀ j,j<N→j≠r→O3.get j=O.get j:=fun j j1 j2=>(f2 j (by omega)).trans (fr1 j j1 j2)
 have hfl:(ps.filter (fun q:Int × Int=>!(q.1==k))).length<1000000000:=Nat.lt_of_le_of_lt (List.length_filter_le _ _) hlen
 have hbb:=hb
 rcases hb with ⟨rfl,hxk,hxp⟩ | ⟨rfl,rfl,hno⟩
 · refine (Obl.goal mix (K:=Goal P keep f0 Q) (fun _ h=>h) (cast (q_ga Q keep f0 rest O1 O2 O3 N1 r t k (x.1) (x.2) td G ((Goal P keep f0 Q))).symm ⟨⟨lt,trivial⟩,e1,e2,(Row.v r2).load2 (off:=0) (by omega) (N1+1) G,?_⟩))
   refine vu (lo:=N) hr3 (by omega) (by omega) sv hfl fun O4 N4 s4 td4 r4 pv4 fr4 hN4=>?_
   have l4:za ⟨O4,N4,G⟩ N1 0 1 1=some [.int .i64 x.2]:=(r2.same (fr4 N1 (by omega) (by omega))).load1 (by omega)
   obtain ⟨us,ws,hsp⟩:=List.append_of_mem hxp
   have hg:zfI k ps=(x.1,x.2)::ps.filter (fun q:Int × Int=>!(q.1==k)):=by
    rw [hsp] at hnd ⊢
    have h1:=zbj hxk hnd
    rw [h1]
    unfold zfI at h1
    have h2:(us++x::ws).filter (fun q=>q.1==k)=[x]:=by
     have hnd2:=hnd
     rw [List.map_append,List.map_cons] at hnd2
     obtain ⟨m1,m2⟩:=xU hnd2
     rw [← List.map_append] at m2
     have hu:∀ y∈us++ws,y.1≠k:=fun y hy e=>m2 (by rw [hxk,← e]; exact List.mem_map_of_mem hy)
     rw [List.filter_append,List.filter_cons,jD fun y hy=>hu y (List.mem_append_left _ hy),jD fun y hy=>hu y (List.mem_append_right _ hy)]
     have:(x.1==k)=true:=by rw [hxk,beq_self_eq_true]
     simp [this]
    rw [h2] at h1
    have h3:x::(us++x::ws).filter (fun q:Int × Int=>!(q.1==k))=x::(us++ws):=h1
    exact h3.symm
   exact (Obl.goal mix (K:=Goal P keep f0 Q) (fun _ h=>h) (cast (q_rE7 Q keep f0 rest O4 N4 r N1 k (x.1) (x.2) td4 G ((Goal P keep f0 Q))).symm ⟨l4,hK O4 N4 s4 _ true x r4 (by rw [hg]; exact pv4) (fun j j1 j2=>(fr4 j (by omega) j2).trans (fr3 j j1 j2)) (by omega) hbb⟩))
 · have l3:za ⟨O3,N1+1,G⟩ N1 0 1 1=some [.int .i64 0]:=r2.load1 (by omega)
   have hg:zfI k ps=ps:=zcN hno
   exact (Obl.goal mix (K:=Goal P keep f0 Q) (fun _ h=>h) (cast (q_gb Q keep f0 rest O1 O2 O3 N1 r t k 0 0 td G ((Goal P keep f0 Q))).symm ⟨⟨lt,trivial⟩,e1,e2,l3,hK O3 (N1+1) s1 _ false (0,0) hr3 (by rw [hg,← yJ hno]; exact sv.pv) fr3 (by omega) hbb⟩))
end Go.Proofs.Ytcdpmiebmhjmpaa.lr
end
section
set_option maxRecDepth 100000
set_option linter.unusedVariables false
namespace Go.Proofs.Ytcdpmiebmhjmpaa.lr
open Go Ev
variable {O O':T AObj} {N r cap lo:Nat} {G:T (T AV)} {ps:List (Int × Int)} {k v:Int} {sl:AV}
theorem zjq {x:Int × Int}(hx:x∈ps)(hk:x.1=k):(ps.filter (fun q:Int × Int=>!(q.1==k))).length<ps.length:=by
 obtain ⟨us,ws,rfl⟩:=List.append_of_mem hx
 have hb:¬ (!(x.1==k))=true:=by rw [hk,beq_self_eq_true]; simp
 rw [List.filter_append,List.filter_cons,if_neg hb,List.length_append,List.length_append,List.length_cons]
 have h1:=List.length_filter_le (fun q:Int × Int=>!(q.1==k)) us
 have h2:=List.length_filter_le (fun q:Int × Int=>!(q.1==k)) ws
 omega
theorem zfm {m u:Nat}(hu:u<m*2):xX (ps.take m) u=xX ps u:=by
 unfold xX
 have:(ps.take m).getD (u / 2) (0,0)=ps.getD (u / 2) (0,0):=by
  rw [List.getD_eq_getElem?_getD,List.getD_eq_getElem?_getD,List.getElem?_take_of_lt (by omega)]
 rw [this]
theorem zjW (hr:Row O r 2 (rf cap sl))(hrN:r<N)(hlo:lo≤N)(hps:PV O lo N ps sl)(hlen:ps.length≤cap)(hc:ps.length<1000000000){keep:Nat}{f0:FuncId}{Q:AV→AHeap→Prop}{rest:List AFrame}
 (hK:∀ (O':T AObj) (N':Nat) (s':AV) (td:List AItem),Row O' r 2 (rf cap s')→PV O' N N' (zdE cap k v ps) s'→(∀ j,j<N→j≠r→O'.get j=O.get j)→N≤N'→Goal P keep f0 Q (AM.mk (RF 11 55 .leaf td) rest ⟨O',N',G⟩)) :
 Goal P keep f0 Q (AM.mk (enF 11 [.ptr r 0 0,.int .i64 k,.int .i64 v]) rest ⟨O,N,G⟩):=by
 refine (Obl.goal mix (K:=Goal P keep f0 Q) (fun _ h=>h) (cast (q_cp Q keep f0 rest O N r k v G (Goal P keep f0 Q)).symm ?_))
 refine zhc hr hrN hps (by omega) fun O1 N1 s1 t td b x r1 ov1 fr1 hN1 ht1 hb=>?_
 obtain ⟨t1,t2,t3⟩:=ht1
 have lt:=(Row.v t3).load2 (off:=0) (by omega) N1 G
 obtain ⟨O2,O3,e1,e2,r2,f2⟩:=ziA O1 N1 G x
 have hr3:Row O3 r 2 (rf cap s1):=r1.fr f2 (by omega)
 have sv:SV O3 N (N1+1) (ps.filter (fun q:Int × Int=>!(q.1==k))) s1:=by
  rcases ov1.sv with h | ⟨ri,z,q,a,b',c,d,g⟩
  · exact .inl h
  · exact .inr ⟨ri,z,q,a,by omega,by omega,d,g.same (f2 ri (by omega))⟩
 have fr3:∀ j,j<N→j≠r→O3.get j=O.get j:=fun j j1 j2=>(f2 j (by omega)).trans (fr1 j j1 j2)
 have hfl:(ps.filter (fun q:Int × Int=>!(q.1==k))).length≤cap:=Nat.le_trans (List.length_filter_le _ _) hlen
 have lc:za ⟨O3,N1+1,G⟩ r 0 0 1=some [.int .i64 (cap:Int)]:=hr3.load1 (by omega)
 have ls:za ⟨O3,N1+1,G⟩ r 0 1 1=some [s1]:=hr3.load1 (by omega)
 rcases hb with ⟨rfl,hxk,hxp⟩ | ⟨rfl,rfl,hno⟩
 · have hlt:=zjq hxp hxk
   have hput:zdE cap k v ps=(k,v)::ps.filter (fun q:Int × Int=>!(q.1==k)):=by
    unfold zdE
    rw [if_neg (by omega),List.take_of_length_le (by omega)]
   refine (Obl.goal mix (K:=Goal P keep f0 Q) (fun _ h=>h) (cast (q_ua Q keep f0 rest O1 O2 O3 N1 r t k v (x.1) (x.2) td G ((Goal P keep f0 Q))).symm ⟨⟨lt,trivial⟩,e1,e2,?_⟩))
   refine vu (lo:=N) hr3 (by omega) (by omega) sv (by omega) fun O4 N4 s4 td4 r4 pv4 fr4 hN4=>?_
   exact (Obl.goal mix (K:=Goal P keep f0 Q) (fun _ h=>h) (cast (q_rE3 Q keep f0 rest O4 N4 r N1 k v (x.1) (x.2) td4 G ((Goal P keep f0 Q))).symm (hK O4 N4 s4 _ r4 (by rw [hput]; exact pv4) (fun j j1 j2=>(fr4 j (by omega) j2).trans (fr3 j j1 j2)) (by omega))))
 · rw [yJ hno] at sv hfl
   by_cases hz:cap=0
   · subst hz
     exact (Obl.goal mix (K:=Goal P keep f0 Q) (fun _ h=>h) (cast (q_uz Q keep f0 rest O1 O2 O3 N1 r t k v (((0:Nat):Int)) 0 0 td G ((Goal P keep f0 Q))).symm ⟨⟨lt,trivial⟩,e1,e2,lc,rfl,hK O3 (N1+1) s1 _ hr3 sv.pv fr3 (by omega)⟩))
   have hcz:(((cap:Nat):Int)==(0:Int))=false:=by rw [beq_eq_false_iff_ne]; omega
   have hput:zdE cap k v ps=(k,v)::ps.take (cap - 1):=by
    unfold zdE
    rw [if_neg hz,yJ hno]
   rcases sv with ⟨rfl,rfl⟩ | ⟨rj,z,q,rfl,g1,g2,g3,g4⟩
   · refine (Obl.goal mix (K:=Goal P keep f0 Q) (fun _ h=>h) (cast (q_un Q keep f0 rest O1 O2 O3 N1 r t k v (((cap:Nat):Int)) 0 0 td G ((Goal P keep f0 Q))).symm ⟨⟨lt,trivial⟩,e1,e2,lc,hcz,ls,lc,decide_eq_false (by omega),?_⟩))
     refine vu (lo:=N) (ps:=[]) hr3 (by omega) (by omega) (.inl ⟨rfl,rfl⟩) (by simp) fun O4 N4 s4 td4 r4 pv4 fr4 hN4=>?_
     exact (Obl.goal mix (K:=Goal P keep f0 Q) (fun _ h=>h) (cast (q_rE4 Q keep f0 rest O4 N4 r N1 k v (((cap:Nat):Int)) 0 0 td4 G ((Goal P keep f0 Q))).symm (hK O4 N4 s4 _ r4 (by rw [hput,List.take_nil]; exact pv4) (fun j j1 j2=>(fr4 j (by omega) j2).trans (fr3 j j1 j2)) (by omega))))
   · by_cases hful:q+1<cap
     · refine (Obl.goal mix (K:=Goal P keep f0 Q) (fun _ h=>h) (cast (q_ug Q keep f0 rest O1 O2 O3 N1 r t rj z (q+1) k v (((cap:Nat):Int)) 0 0 td G ((Goal P keep f0 Q))).symm ⟨⟨lt,trivial⟩,e1,e2,lc,hcz,ls,lc,decide_eq_false (by omega),?_⟩))
       refine vu (lo:=N) hr3 (by omega) (by omega) (.inr ⟨rj,z,q,rfl,g1,g2,g3,g4⟩) (by omega) fun O4 N4 s4 td4 r4 pv4 fr4 hN4=>?_
       exact (Obl.goal mix (K:=Goal P keep f0 Q) (fun _ h=>h) (cast (q_rE5 Q keep f0 rest O4 N4 r N1 rj z (q+1) k v (((cap:Nat):Int)) 0 0 td4 G ((Goal P keep f0 Q))).symm (hK O4 N4 s4 _ r4 (by rw [hput,List.take_of_length_le (by omega)]; exact pv4) (fun j j1 j2=>(fr4 j (by omega) j2).trans (fr3 j j1 j2)) (by omega))))
     · have wk:IntKind.i64.wrap (((cap:Nat):Int) - (1:Int))=((cap - 1:Nat):Int):=by rw [IntKind.wrap_i64]; omega
       obtain ⟨O4,s4,r4',f4⟩:=hr3.store (N1+1) G (off:=1) (vs:=[.slg rj z 0 (cap - 1) 0]) rfl (by show 1+1≤2; omega)
       have r4:Row O4 r 2 (rf cap (.slg rj z 0 (cap - 1) 0)):=r4'.to fun u hu=>by
        rcases u with _ | _ | u
        · rfl
        · rfl
        · omega
       have fr4:∀ j,j<N→j≠r→O4.get j=O.get j:=fun j j1 j2=>(f4 j j2).trans (fr3 j j1 j2)
       have hrr:rj≠r:=by
        rcases ov1 with ⟨a,_⟩ | ⟨ri,_,a,b1,_⟩
        · cases a
        · cases a
          omega
       have g5:VRow O4 rj z ((q+1)*2) (xX ps):=g4.same (f4 rj hrr)
       have ue:∀ hh:Goal P keep f0 Q (AM.mk (enF 22 [.ptr r 0 0,.agg [.int .i64 k,.int .i64 v]]) (E6 r k v N1 (cap - 1) rj z (q+1) ((cap:Nat):Int) 0 0::rest) ⟨O4,N1+1,G⟩),Goal P keep f0 Q (AM.mk (RF 21 52 (.node (.node .leaf none (.node .leaf (some (.bool false)) .leaf)) none (.node (.node .leaf (some (.ptr t 0 0)) .leaf) none .leaf)) td) (E1 r k v::rest) ⟨O1,N1,G⟩):=fun hh=>(Obl.goal mix (K:=Goal P keep f0 Q) (fun _ h=>h) (cast (q_ue Q keep f0 rest O1 O2 O3 O4 N1 r t (cap - 1) rj z (q+1) k v (((cap:Nat):Int)) 0 0 td G ((Goal P keep f0 Q))).symm ⟨⟨lt,trivial⟩,e1,e2,lc,hcz,ls,lc,decide_eq_true (by omega),ls,lc,by rw [wk]; exact zhI _ (by omega),s4,hh⟩))
       refine ue ?_
       have fin:∀ (O5:T AObj) (N5:Nat) (s5:AV) (td5:List AItem),Row O5 r 2 (rf cap s5)→PV O5 N N5 ((k,v)::ps.take (cap - 1)) s5→(∀ j,j<N1+1→j≠r→O5.get j=O4.get j)→N1+1≤N5→Goal P keep f0 Q (AM.mk (RF 22 14 .leaf td5) (E6 r k v N1 (cap - 1) rj z (q+1) ((cap:Nat):Int) 0 0::rest) ⟨O5,N5,G⟩):=fun O5 N5 s5 td5 r5 pv5 fr5 hN5 =>
        (Obl.goal mix (K:=Goal P keep f0 Q) (fun _ h=>h) (cast (q_rE6 Q keep f0 rest O5 N5 r N1 (cap - 1) rj z (q+1) k v (((cap:Nat):Int)) 0 0 td5 G ((Goal P keep f0 Q))).symm (hK O5 N5 s5 _ r5 (by rw [hput]; exact pv5) (fun j j1 j2=>(fr5 j (by omega) j2).trans (fr4 j j1 j2)) (by omega))))
       by_cases h1:cap=1
       · subst h1
         exact zhH (lo:=N) (g5.less (Nat.zero_le _)) (by omega) r4 (by omega) (by omega) fin
       · obtain ⟨c',hc'⟩:∃ c',cap - 1=c'+1:=⟨cap - 2,by omega⟩
         refine vu (lo:=N) r4 (by omega) (by omega) (.inr ⟨rj,z,c',by rw [hc'],by omega,by omega,by rw [List.length_take]; omega,?_⟩) (by rw [List.length_take]; omega) fin
         obtain ⟨c,m,el,lo',hi,nv,fz,sg,ex,e',h1,h2,h3,h4,h5,h6⟩:=g5.less (n':=(c'+1)*2) (by omega)
         exact ⟨c,m,el,lo',hi,nv,fz,sg,ex,e',h1,h2,h3,h4,h5,fun u hu=>by rw [h6 u hu,hc',zfm hu]⟩
end Go.Proofs.Ytcdpmiebmhjmpaa.lr
end
section
set_option maxRecDepth 100000
set_option linter.unusedVariables false
namespace Go.Proofs.Ytcdpmiebmhjmpaa.lr
open Go Ev
noncomputable def KQ (r:Nat) (ot:AV) (j:Int) (rest:List AFrame) (O:T AObj) (N:Nat) (G:T (T AV)):AM:=⟨⟨14,26,(.node (.node (.node .leaf (some ot) .leaf) none .leaf) (some (.ptr r 0 0)) (.node (.node .leaf (some (.int .i64 j)) .leaf) none .leaf)),
 [.code (cd P 14 [1,1,0,1,0,0]),.inLoop (cd P 14 [1,1,0,1,0,0]),.inBlock 0,.code (cd P 14 [1,1,1])],[],.run,CallKind.normal,none⟩,
 rest,
 ⟨O,N,G⟩⟩
theorem q_qst (R:AV→AHeap→Prop)(keep:Nat)(f0:FuncId)(rest:List AFrame)(O:T AObj)(N:Nat)(r:Nat)(G:T (T AV))(K:AM→Prop):Obl P f0 (fun v h=>R v h) keep K [.run 15,.keep [0,3,4]] ((AM.mk (enF 14 [.ptr r 0 0]) rest ⟨O,N,G⟩))=(K (KQ r (AV.nils 0 0) 0 rest O N G)):=by kernel_rfl
theorem q_qgn (R:AV→AHeap→Prop)(keep:Nat)(f0:FuncId)(rest:List AFrame)(O:T AObj)(O1:T AObj)(O2:T AObj)(N:Nat)(r:Nat)(kj:Nat)(z:Nat)(km:Nat)(k:Int)(j:Int)(G:T (T AV))(K:AM→Prop):Obl P f0 (fun v h=>R v h) keep K [.run 7,.hop ((.slg kj z 0 km 0)) O,.run 3,.know 11 true,.run 9,.hop ((.slg kj z 0 km 0)) O,.run 1,.op,.run 1,.hop (.int .i64 k) O,.hopn (.slc N 0 0 1 1) O1 (N+1),.hopn (.slg (N+1) 0 0 1 0) O2 (N+2),.run 9,.keep [0,3,4]] ((KQ r (.nils 0 0) j rest O N G))=((za (⟨O,N,G⟩) (r) 0 1 1=(some [.slg kj z 0 km 0]))∧(decide (j<(↑km:Int))=true)∧(za (⟨O,N,G⟩) (r) 0 1 1=(some [.slg kj z 0 km 0]))∧((0:Int)≤j∧j<(↑km:Int))∧(za (⟨O,N,G⟩) (kj) (z) (0+j.toNat*2) 1=(some [.int .i64 k]))∧(zh P (⟨O,N,G⟩) 32 1 ([(0,.int .i64 k)])=(some (.slc N 0 0 1 1,⟨O1,N+1,G⟩)))∧(zg P (⟨O1,N+1,G⟩) (Builtin.append) ((some 32)) ((some 32)) ([.nils 0 0,.slc N 0 0 1 1])=(some (.val (.slg (N+1) 0 0 1 0) ⟨O2,N+2,G⟩)))∧K (KQ r (AV.slg (N+1) 0 0 1 0) (IntKind.i64.wrap (j+(1:Int))) rest O2 (N+2) G)):=by kernel_rfl
theorem q_qgs (R:AV→AHeap→Prop)(keep:Nat)(f0:FuncId)(rest:List AFrame)(O:T AObj)(O1:T AObj)(O2:T AObj)(N:Nat)(r:Nat)(ki:Nat)(y:Nat)(kn:Nat)(kj:Nat)(z:Nat)(km:Nat)(k:Int)(j:Int)(G:T (T AV))(K:AM→Prop):Obl P f0 (fun v h=>R v h) keep K [.run 7,.hop ((.slg kj z 0 km 0)) O,.run 3,.know 11 true,.run 9,.hop ((.slg kj z 0 km 0)) O,.run 1,.op,.run 1,.hop (.int .i64 k) O,.hopn (.slc N 0 0 1 1) O1 (N+1),.hop (.slg ki (y+1) 0 (kn+1) 0) O2,.run 9,.keep [0,3,4]] ((KQ r (.slg ki y 0 kn 0) j rest O N G))=((za (⟨O,N,G⟩) (r) 0 1 1=(some [.slg kj z 0 km 0]))∧(decide (j<(↑km:Int))=true)∧(za (⟨O,N,G⟩) (r) 0 1 1=(some [.slg kj z 0 km 0]))∧((0:Int)≤j∧j<(↑km:Int))∧(za (⟨O,N,G⟩) (kj) (z) (0+j.toNat*2) 1=(some [.int .i64 k]))∧(zh P (⟨O,N,G⟩) 32 1 ([(0,.int .i64 k)])=(some (.slc N 0 0 1 1,⟨O1,N+1,G⟩)))∧(zg P (⟨O1,N+1,G⟩) (Builtin.append) ((some 32)) ((some 32)) ([.slg ki y 0 kn 0,.slc N 0 0 1 1])=(some (.val (.slg ki (y+1) 0 (kn+1) 0) ⟨O2,N+1,G⟩)))∧K (KQ r (AV.slg ki (y+1) 0 (kn+1) 0) (IntKind.i64.wrap (j+(1:Int))) rest O2 (N+1) G)):=by kernel_rfl
theorem q_qcn (R:AV→AHeap→Prop)(keep:Nat)(f0:FuncId)(rest:List AFrame)(O:T AObj)(O1:T AObj)(O2:T AObj)(N:Nat)(r:Nat)(kj:Nat)(k:Int)(j:Int)(G:T (T AV))(K:AM→Prop):Obl P f0 (fun v h=>R v h) keep K [.run 7,.hop ((.slc kj 0 0 1 1)) O,.run 3,.know 11 true,.run 9,.hop ((.slc kj 0 0 1 1)) O,.run 1,.op,.run 1,.hop (.int .i64 k) O,.hopn (.slc N 0 0 1 1) O1 (N+1),.hopn (.slg (N+1) 0 0 1 0) O2 (N+2),.run 9,.keep [0,3,4]] ((KQ r (.nils 0 0) j rest O N G))=((za (⟨O,N,G⟩) (r) 0 1 1=(some [.slc kj 0 0 1 1]))∧(decide (j<Int.ofNat 1)=true)∧(za (⟨O,N,G⟩) (r) 0 1 1=(some [.slc kj 0 0 1 1]))∧((0:Int)≤j∧j<(↑(1):Int))∧(za (⟨O,N,G⟩) (kj) 0 (0+j.toNat*2) 1=(some [.int .i64 k]))∧(zh P (⟨O,N,G⟩) 32 1 ([(0,.int .i64 k)])=(some (.slc N 0 0 1 1,⟨O1,N+1,G⟩)))∧(zg P (⟨O1,N+1,G⟩) (Builtin.append) ((some 32)) ((some 32)) ([.nils 0 0,.slc N 0 0 1 1])=(some (.val (.slg (N+1) 0 0 1 0) ⟨O2,N+2,G⟩)))∧K (KQ r (AV.slg (N+1) 0 0 1 0) (IntKind.i64.wrap (j+(1:Int))) rest O2 (N+2) G)):=by kernel_rfl
theorem q_qeg (R:AV→AHeap→Prop)(keep:Nat)(f0:FuncId)(rest:List AFrame)(O:T AObj)(N:Nat)(r:Nat)(kj:Nat)(z:Nat)(km:Nat)(j:Int)(ot:AV)(G:T (T AV))(K:AM→Prop):Obl P f0 (fun v h=>R v h) keep K [.run 7,.hop ((.slg kj z 0 km 0)) O,.run 3,.know 11 false,.run 8,.keep [2]] ((KQ r ot j rest O N G))=((za (⟨O,N,G⟩) (r) 0 1 1=(some [.slg kj z 0 km 0]))∧(decide (j<(↑km:Int))=false)∧K (AM.mk (RF 14 26 (.node .leaf none (.node .leaf (some ot) .leaf)) [.code (cd P 14 [1,1,1,1])]) rest ⟨O,N,G⟩)):=by kernel_rfl
theorem q_qec (R:AV→AHeap→Prop)(keep:Nat)(f0:FuncId)(rest:List AFrame)(O:T AObj)(N:Nat)(r:Nat)(kj:Nat)(j:Int)(ot:AV)(G:T (T AV))(K:AM→Prop):Obl P f0 (fun v h=>R v h) keep K [.run 7,.hop ((.slc kj 0 0 1 1)) O,.run 3,.know 11 false,.run 8,.keep [2]] ((KQ r ot j rest O N G))=((za (⟨O,N,G⟩) (r) 0 1 1=(some [.slc kj 0 0 1 1]))∧(decide (j<Int.ofNat 1)=false)∧K (AM.mk (RF 14 26 (.node .leaf none (.node .leaf (some ot) .leaf)) [.code (cd P 14 [1,1,1,1])]) rest ⟨O,N,G⟩)):=by kernel_rfl
theorem q_qen (R:AV→AHeap→Prop)(keep:Nat)(f0:FuncId)(rest:List AFrame)(O:T AObj)(N:Nat)(r:Nat)(j:Int)(ot:AV)(G:T (T AV))(K:AM→Prop):Obl P f0 (fun v h=>R v h) keep K [.run 7,.hop (.nils 0 0) O,.run 3,.know 11 false,.run 8,.keep [2]] ((KQ r ot j rest O N G))=((za (⟨O,N,G⟩) (r) 0 1 1=(some [.nils 0 0]))∧(decide (j<0)=false)∧K (AM.mk (RF 14 26 (.node .leaf none (.node .leaf (some ot) .leaf)) [.code (cd P 14 [1,1,1,1])]) rest ⟨O,N,G⟩)):=by kernel_rfl
variable {O O' O0:T AObj} {N M r cap lo:Nat} {G:T (T AV)} {ps:List (Int × Int)} {k v:Int} {sl:AV}
theorem za2 (hr:Row O0 r 2 (rf cap sl))(hrM:r<M)(hps:PV O0 lo M ps sl)(hlen:ps.length<1000000000){keep:Nat}{f0:FuncId}{Q:AV→AHeap→Prop}{rest:List AFrame}
 (hK:∀ (O':T AObj) (N':Nat) (ks:AV) (td:List AItem),M≤N'→(∀ j,j<M→O'.get j=O0.get j)→KV O' M N' (ps.map (·.1)) ks→Goal P keep f0 Q (AM.mk (RF 14 26 (.node .leaf none (.node .leaf (some ks) .leaf)) td) rest ⟨O',N',G⟩)) :
 ∀ (w dn:List (Int × Int)) (O:T AObj) (N:Nat) (ot:AV),ps=dn++w→M≤N→(∀ j,j<M→O.get j=O0.get j)→KV O M N (dn.map (·.1)) ot→Goal P keep f0 Q (KQ r ot ((dn.length:Nat):Int) rest O N G)
 | [],dn,O,N,ot,hp,hN,hO,hv=>by
  rw [List.append_nil] at hp
  subst hp
  have l1:za ⟨O,N,G⟩ r 0 1 1=some [sl]:=(hr.same (hO r hrM)).load1 (by omega)
  rcases hps with ⟨rfl,rfl⟩ | ⟨rj,rfl,_,_,g3,g4⟩ | ⟨rj,z,q,rfl,_,_,g3,g4⟩
  · exact (Obl.goal mix (K:=Goal P keep f0 Q) (fun _ h=>h) (cast (q_qen Q keep f0 rest O N r 0 ot G ((Goal P keep f0 Q))).symm ⟨l1,decide_eq_false (by decide),hK O N ot _ hN hO hv⟩))
  · exact (Obl.goal mix (K:=Goal P keep f0 Q) (fun _ h=>h) (cast (q_qec Q keep f0 rest O N r rj (((ps.length:Nat):Int)) ot G ((Goal P keep f0 Q))).symm ⟨l1,(show decide (((ps.length:Nat):Int)<(1:Int))=false from decide_eq_false (by omega)),hK O N ot _ hN hO hv⟩))
  · exact (Obl.goal mix (K:=Goal P keep f0 Q) (fun _ h=>h) (cast (q_qeg Q keep f0 rest O N r rj z (q+1) (((ps.length:Nat):Int)) ot G ((Goal P keep f0 Q))).symm ⟨l1,decide_eq_false (by omega),hK O N ot _ hN hO hv⟩))
 | y::w,dn,O,N,ot,hp,hN,hO,hv=>by
  have l1:za ⟨O,N,G⟩ r 0 1 1=some [sl]:=(hr.same (hO r hrM)).load1 (by omega)
  have hpl:ps.length=dn.length+(w.length+1):=by rw [hp,List.length_append,List.length_cons]
  have ww:IntKind.i64.wrap (((dn.length:Nat):Int)+(1:Int))=(((dn++[y]).length:Nat):Int):=by rw [List.length_append,IntKind.wrap_i64]; simp only [List.length_cons,List.length_nil]; omega
  have hp':ps=(dn++[y])++w:=by rw [hp,List.append_assoc]; rfl
  have next:∀ (O2:T AObj) (N2:Nat) (ot2:AV),M≤N2→(∀ j,j<M→O2.get j=O0.get j)→KV O2 M N2 (dn.map (·.1)++[y.1]) ot2→Goal P keep f0 Q (KQ r ot2 (IntKind.i64.wrap (((dn.length:Nat):Int)+(1:Int))) rest O2 N2 G):=fun O2 N2 ot2 h1 h2 h3=>by
   rw [ww]
   exact za2 hr hrM hps hlen hK w (dn++[y]) O2 N2 ot2 hp' h1 h2 (by rw [List.map_append]; exact h3)
  obtain ⟨O1,e1,r1,f1⟩:=ziJ O N G y.1
  have ap:∃ O2 N2 ot2,M≤N2∧(∀ j,j<M→O2.get j=O0.get j)∧KV O2 M N2 (dn.map (·.1)++[y.1]) ot2∧((ot=.nils 0 0∧dn=[]∧N2=N+2∧ot2=.slg (N+1) 0 0 1 0∧zg P ⟨O1,N+1,G⟩ .append (some 32) (some 32) [.nils 0 0,.slc N 0 0 1 1]=some (.val (.slg (N+1) 0 0 1 0) ⟨O2,N+2,G⟩)) ∨
   ∃ ri q,ot=.slg ri q 0 (q+1) 0∧q+1=dn.length∧N2=N+1∧ot2=.slg ri (q+1) 0 (q+1+1) 0∧zg P ⟨O1,N+1,G⟩ .append (some 32) (some 32) [.slg ri q 0 (q+1) 0,.slc N 0 0 1 1]=some (.val (.slg ri (q+1) 0 (q+1+1) 0) ⟨O2,N+1,G⟩)):=by
   rcases hv with ⟨rfl,hz⟩ | ⟨ri,q,rfl,g1,g2,g3,g4⟩
   · obtain ⟨O2,e2,r2,gr2,f2⟩:=zeG (M:=N+1) (G:=G) r1 (Nat.lt_succ_self _) rfl
     have hd:dn=[]:=List.map_eq_nil_iff.1 hz
     subst hd
     exact ⟨O2,N+2,_,by omega,fun j hj=>(f2 j (by omega)).trans ((f1 j (by omega)).trans (hO j hj)),.inr ⟨N+1,0,rfl,by omega,by omega,rfl,gr2.to fun k hk=>by
      (obtain rfl:k=0:=(by omega))
      rfl⟩,.inl ⟨rfl,rfl,rfl,rfl,e2⟩⟩
   · obtain ⟨O2,e2,gr2,f2⟩:=zgr (M:=N+1) (G:=G) (t:=0) r1 (g4.same (f1 ri (by omega))) (by omega) (Nat.zero_le _) (by rw [List.length_map] at g3; omega) rfl
     refine ⟨O2,N+1,_,by omega,fun j hj=>(f2 j (by omega)).trans ((f1 j (by omega)).trans (hO j hj)),.inr ⟨ri,q+1,rfl,g1,by omega,by rw [List.length_append,← g3]; rfl,gr2.to fun k hk=>?_⟩,.inr ⟨ri,q,rfl,by rw [g3,List.length_map],rfl,rfl,e2⟩⟩
     by_cases hkq:k=q+1
     · subst hkq
       rw [if_pos rfl,List.getD_eq_getElem?_getD,List.getElem?_append_right (by omega),← g3,Nat.sub_self]
       rfl
     · rw [if_neg hkq,List.getD_eq_getElem?_getD,List.getD_eq_getElem?_getD,List.getElem?_append_left (by omega)]
  obtain ⟨O2,N2,ot2,n1,n2,n3,hap⟩:=ap
  have nx:=next O2 N2 ot2 n1 n2 n3
  rcases hps with ⟨rfl,rfl⟩ | ⟨rj,rfl,j1,j2,g3,g4⟩ | ⟨rj,z,q,rfl,j1,j2,g3,g4⟩
  · exact absurd hp (by simp)
  · obtain ⟨la,_⟩:=zib (n:=1) (g4.same (hO rj j2)) hp g3 N G
    have dj:decide (((dn.length:Nat):Int)<(1:Int))=true:=decide_eq_true (by omega)
    have bj:(0:Int)≤((dn.length:Nat):Int)∧((dn.length:Nat):Int)<((1:Nat):Int):=⟨by omega,by omega⟩
    rcases hap with ⟨rfl,rfl,rfl,rfl,e2⟩ | ⟨ri,q',rfl,g5,rfl,rfl,e2⟩
    · exact (Obl.goal mix (K:=Goal P keep f0 Q) (fun _ h=>h) (cast (q_qcn Q keep f0 rest O O1 O2 N r rj (y.1) ((([]:List (Int × Int)).length:Nat)) G ((Goal P keep f0 Q))).symm ⟨l1,dj,l1,bj,la,e1,e2,nx⟩))
    · omega
  · obtain ⟨la,_⟩:=zib (n:=q+1) (g4.same (hO rj j2)) hp g3.symm N G
    have dj:decide (((dn.length:Nat):Int)<((q+1:Nat):Int))=true:=decide_eq_true (by omega)
    have bj:(0:Int)≤((dn.length:Nat):Int)∧((dn.length:Nat):Int)<((q+1:Nat):Int):=⟨by omega,by omega⟩
    rcases hap with ⟨rfl,rfl,rfl,rfl,e2⟩ | ⟨ri,q',rfl,g5,rfl,rfl,e2⟩
    · exact (Obl.goal mix (K:=Goal P keep f0 Q) (fun _ h=>h) (cast (q_qgn Q keep f0 rest O O1 O2 N r rj z (q+1) (y.1) ((([]:List (Int × Int)).length:Nat)) G ((Goal P keep f0 Q))).symm ⟨l1,dj,l1,bj,la,e1,e2,nx⟩))
    · exact (Obl.goal mix (K:=Goal P keep f0 Q) (fun _ h=>h) (cast (q_qgs Q keep f0 rest O O1 O2 N r ri (q') (q'+1) rj z (q+1) (y.1) (((dn.length:Nat):Int)) G ((Goal P keep f0 Q))).symm ⟨l1,dj,l1,bj,la,e1,e2,nx⟩))
theorem zeL (hr:Row O r 2 (rf cap sl))(hrN:r<N)(hps:PV O lo N ps sl)(hlen:ps.length<1000000000){keep:Nat}{f0:FuncId}{Q:AV→AHeap→Prop}{rest:List AFrame}
 (hK:∀ (O':T AObj) (N':Nat) (ks:AV) (td:List AItem),N≤N'→(∀ j,j<N→O'.get j=O.get j)→KV O' N N' (ps.map (·.1)) ks→Goal P keep f0 Q (AM.mk (RF 14 26 (.node .leaf none (.node .leaf (some ks) .leaf)) td) rest ⟨O',N',G⟩)) :
 Goal P keep f0 Q (AM.mk (enF 14 [.ptr r 0 0]) rest ⟨O,N,G⟩) :=
 (Obl.goal mix (K:=Goal P keep f0 Q) (fun _ h=>h) (cast (q_qst Q keep f0 rest O N r G (Goal P keep f0 Q)).symm (za2 hr hrN hps hlen hK ps [] O N _ rfl (Nat.le_refl _) (fun _ _=>rfl) (.inl ⟨rfl,rfl⟩))))
end Go.Proofs.Ytcdpmiebmhjmpaa.lr
end
