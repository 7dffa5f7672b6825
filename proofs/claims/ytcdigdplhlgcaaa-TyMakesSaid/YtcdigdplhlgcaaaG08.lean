import Derived.Test.YtcdigdplhlgcaaaG00
import Derived.Test.YtcdigdplhlgcaaaG01
import Derived.Test.YtcdigdplhlgcaaaG02
import Derived.Test.YtcdigdplhlgcaaaG03
import Derived.Test.YtcdigdplhlgcaaaG04
import Derived.Test.YtcdigdplhlgcaaaG05
import Derived.Test.YtcdigdplhlgcaaaG06
import Derived.Test.YtcdigdplhlgcaaaG07
section
set_option maxRecDepth 100000
set_option linter.unusedVariables false
set_option linter.unusedSimpArgs false
namespace Go.Proofs.Ytcdigdplhlgcaaa.tp
open Go
theorem zqL {ns:List ze}{ts:List Ty}{r:List ze × List Ty}(hl:ns.length=ts.length)(h:zh3 ns ts [] []=some r):(∀ n∈ns,zh n=true)∧Up r.1∧r.1.length=r.2.length∧(r.1.zip r.2).Perm (ns.zip ts):=by
 obtain ⟨ys,vs⟩:=r;obtain ⟨h1,h2,h3⟩:=wK hl rfl List.Pairwise.nil h;rw [List.zip_nil_left,List.append_nil] at h3;refine ⟨fun n hn=>?_,h1,h2,h3⟩;cases hf:zh n with
 | true=>rfl
 | false =>
  have:zh3 ns ts [] []=none:=zdC hl (List.any_eq_true.2 ⟨n,hn,by rw [hf]; rfl⟩);rw [this] at h;cases h
theorem zkv {ns:List ze}{ts:List Ty}(h:(y0 ns ts).1=0):chk (y0 ns ts).2=0∧∃ xs us,(y0 ns ts).2=.mk 7 [] xs us .no∧xs.length=ns.length:=by
 unfold y0 at h ⊢;split at h
 ·rename_i hc;rw [if_pos hc];split at h
  ·cases h
  ·rename_i xs us hr;obtain ⟨g1,g2,g3,g4⟩:=zqL hc.1 hr;have px:xs.Perm ns:=by
    have:=g4.map Prod.fst
    rwa [yn g3,yn hc.1] at this
   have pu:us.Perm ts:=by
    have:=g4.map Prod.snd
    rwa [qE g3,qE hc.1] at this
   unfold kv at h ⊢;split at h
   ·cases h
   ·rename_i hs;rw [if_neg hs];have g3':xs.length=us.length:=g3;have ok:okT (.mk 7 [] xs us .no)=true:=by
     rw [zbQ,wY];have a1:own 7 [] xs us .no=true:=rfl;have a2:us.all okT=true:=List.all_eq_true.2 fun x hx=>(chk_ok (by simpa using List.all_eq_true.1 hc.2 x (pu.mem_iff.1 hx))).1
     have a3:okK 7 [] xs us=true:=by
      show (decide (xs.length=us.length)&&xs.all zh&&qL xs)=true;rw [decide_eq_true g3',List.all_eq_true.2 fun n hn=>g1 n (px.mem_iff.1 hn),za5 g2.srt g2.nodup];rfl
     rw [a1,a2,a3];rfl
    refine ⟨?_,xs,us,rfl,px.length_eq⟩;unfold chk;rw [if_neg (by intro h; cases h),if_neg hs,if_pos ok]
 ·cases h
end Go.Proofs.Ytcdigdplhlgcaaa.tp
end
section
set_option maxRecDepth 100000
set_option linter.unusedVariables false
set_option linter.unusedSectionVars false
set_option linter.unusedSimpArgs false
namespace Go.Proofs.Ytcdigdplhlgcaaa.gx
open Go Ev tp
section
variable (sa:AV) (n j:Int) (rest:List AFrame) (O:T AObj) (N:Nat) (G:T (T AV)) (s1 v:AV)
noncomputable def Wsm:AM:=⟨frm 55 17 (tX (tW (tX (tY sa) tZ) (.fn (Fn.func (56:FuncId)) [] []) (tX (tY (.int .i64 j)) tZ)) (tX (tX (tY (.int .i64 n)) tZ) tZ)) [cdi 55 [1,0,1,0,0],ili 55 [1,0,1,0,0],.inBlock 0,cdi 55 [1,1]],rest,⟨O,N,G⟩⟩
noncomputable def zon:AFrame:=frm 55 17 (tX (tW (tX (tY sa) tZ) (.fn (Fn.func (56:FuncId)) [] []) (tX (tY (.int .i64 j)) (tY (.fn (Fn.func (56:FuncId)) [] [])))) (tX (tX (tY (.int .i64 n)) tZ) (tX tZ (tY s1)))) [opi 55 [1,0,1,0,0,1,1,0,0,1,0] 2,cdi 55 [1,0,1,0,0,1,1,0,0,1,1],.inBlock 1,cdi 55 [1,0,1,0,0,1,1,1],ili 55 [1,0,1,0,0],.inBlock 0,cdi 55 [1,1]]
noncomputable def Fmnt:AFrame:=frm 56 6 (tX (tX (tY v) tZ) tZ) [opi 56 [1,0] 1,cdi 56 [1,1]]
noncomputable def Fw61:AFrame:=frm 61 8 (tW tZ v (tX (tY v) tZ)) [opi 61 [1,0,0] 1,cdi 61 [1,0,1],cdi 61 [1,1]]
noncomputable def Ffuz:AFrame:=frm 27 20 (tW (tY v) sa (tX tZ (tY sa))) [opi 27 [1,0,0] 1,cdi 27 [1,0,1],cdi 27 [1,1]]
noncomputable def zhw:AFrame:=frm 27 20 (tW (tW tZ v (tX (tY v) tZ)) sa (tX (tX (tY (.bool false)) tZ) tZ)) [opi 27 [1,0,0] 4,cdi 27 [1,0,1],cdi 27 [1,1]]
noncomputable def zag:AFrame:=frm 27 20 (tX (tY v) (tX (tX tZ (tY sa)) tZ)) [opi 27 [1,1,0] 1,cdi 56 [1,1]]
noncomputable def wT:AFrame:=frm 27 20 (tX tZ (tX (tX (tX (tY (.ptr N 0 0)) tZ) tZ) tZ)) [opi 27 [1,1,0] 5,cdi 56 [1,1]]
end
section
variable {R:AV→AHeap→Prop} {keep N Nc:Nat} {f0:FuncId} {rest:List AFrame} {O:T AObj} {v sa s1c prq2 prq3:AV} {G:T (T AV)} {K:AM→Prop} {td:List AItem} {blq0 blq1:Bool} {n j crq0 crq3:Int}
theorem t_mnt:(K (AM.mk (enF 46 [v]) ((Fmnt v)::rest) ⟨O,N,G⟩))=OT f0 R keep K (.seq [.run 7,.keep [3],.run 1] .fin) ((AM.mk (enF 56 [v]) rest ⟨O,N,G⟩)):=by kernel_rfl
theorem znI:(K (AM.mk (RF 56 6 (tX tZ (tY (.bool !blq0))) [cdi 56 [1,1]]) rest ⟨O,N,G⟩))=OT f0 R keep K (.seq [.run 5,.keep [2]] .fin) ((AM.mk (RF 46 6 (tX tZ (tY (.bool blq0))) td) ((Fmnt v)::rest) ⟨O,N,G⟩)):=by kernel_rfl
theorem zp5:(∃ (z1:Int),(lN O N G 33 sa z1)∧K (Wsm sa z1 0 rest O N G))=OT f0 R keep K (.ex fun z1:Int=>(.seq [.run 8,.hopn (.int .i64 z1) O (N),.run 4,.keep [1,7,8,9]] .fin)) ((AM.mk (enF 55 [sa,.fn (Fn.func 56) [] []]) rest ⟨O,N,G⟩)):=by kernel_rfl
theorem zoT:(((decide (j<n))=true→(∃ (i1:Nat) (i2:Nat) (i3:Nat) (s1:AV),(iX 33 sa j i1 i2 i3)∧(lR O N G i1 i2 i3 s1)∧K (AM.mk (enF 56 [s1]) ((zon sa n j s1)::rest) ⟨O,N,G⟩)))∧((decide (j<n))=false→(K (AM.mk (RF 55 17 (tX tZ (tX (tY (.bool false)) tZ)) [cdi 55 [1,0,1,0,0,1,1,0,0,1,1,0,1]]) rest ⟨O,N,G⟩))))=OT f0 R keep K (.seq [.run 5] (.fork 10 (.ex fun i1:Nat=>(.ex fun i2:Nat=>(.ex fun i3:Nat=>(.ex fun s1:AV=>(.seq [.run 6,.hopn (.ptr i1 i2 i3) O (N),.hop (s1) O,.run 6,.keep [1,7,8,9,13,14],.run 1] .fin))))) (.seq [.run 7,.keep [4]] .fin))) ((Wsm sa n j rest O N G)):=by kernel_rfl
theorem ziU:(((blq0)=true→(K (AM.mk (RF 55 17 (tX tZ (tX (tY (.bool true)) tZ)) [cdi 56 [1,1],.inBlock 1,cdi 55 [1,0,1,0,0,1,1,1],ili 55 [1,0,1,0,0],.inBlock 0,cdi 55 [1,1]]) rest ⟨O,N,G⟩)))∧((blq0)=false→(K (Wsm sa n (IntKind.i64.wrap (j+(1:Int))) rest O N G))))=OT f0 R keep K (.seq [.run 2] (.fork 15 (.seq [.run 6,.keep [4]] .fin) (.seq [.run 8,.keep [1,7,8,9]] .fin))) ((AM.mk (RF 56 6 (tX tZ (tY (.bool blq0))) td) ((zon sa n j s1c)::rest) ⟨O,N,G⟩)):=by kernel_rfl
theorem t_w61:(K (AM.mk (enF 14 [v]) ((Fw61 v)::rest) ⟨O,N,G⟩))=OT f0 R keep K (.seq [.run 9,.keep [0,4],.run 1] .fin) ((AM.mk (enF 61 [v]) rest ⟨O,N,G⟩)):=by kernel_rfl
theorem zhU:(((decide (crq0 > (60:Int)))=true→(K (AM.mk (RF 61 8 (tX (tX (tY (.int .i64 3)) tZ) (tY .nilp)) [cdi 14 [1,1,1,1],cdi 61 [1,1]]) rest ⟨O,N,G⟩)))∧((decide (crq0 > (60:Int)))=false→(K (AM.mk (RF 61 8 (tX (tX (tY (.int .i64 0)) tZ) (tY v)) [cdi 14 [1,1,1,1]]) rest ⟨O,N,G⟩))))=OT f0 R keep K (.seq [.run 3] (.fork 6 (.seq [.run 7,.keep [2,3]] .fin) (.seq [.run 9,.keep [2,3]] .fin))) ((AM.mk (RF 14 12 (tX tZ (tY (.int .i64 crq0))) td) ((Fw61 v)::rest) ⟨O,N,G⟩)):=by kernel_rfl
theorem ztL:(∃ (b1:Bool),(qq P (⟨O,N,G⟩) (BinOp.eql) (33) (true) (sa) (.nils 0 0)=(some (.bool b1)))∧((b1)=true→(K (AM.mk (RF 72 8 (tX tZ (tY (.nils 0 0))) [cdi 72 [1,0,1,0,1],cdi 72 [1,1]]) rest ⟨O,N,G⟩)))∧((b1)=false→(∃ (O1:T AObj) (s1:AV) (O2:T AObj) (N1:Nat),(zg P (⟨O,N,G⟩) (33) (0) ([])=(some (.slc N 0 0 0 0,⟨O1,N+1,G⟩)))∧(zi P (⟨O1,N+1,G⟩) (Builtin.append) ((some 33)) ((some 33)) ([.slc N 0 0 0 0,sa])=(some (.val s1 ⟨O2,N1,G⟩)))∧K (AM.mk (RF 72 8 (tX tZ (tY s1)) [cdi 72 [1,0,1,0,1]]) rest ⟨O2,N1,G⟩))))=OT f0 R keep K (.ex fun b1:Bool=>(.seq [.run 8,.hop (.bool b1) O,.run 1] (.fork 4 (.seq [.run 6,.keep [2]] .fin) (.ex fun O1:T AObj=>(.ex fun s1:AV=>(.ex fun O2:T AObj=>(.ex fun N1:Nat=>(.seq [.run 4,.hopn (.slc N 0 0 0 0) O1 (N+1),.run 1,.hopn (s1) O2 (N1),.run 3,.keep [2]] .fin)))))))) ((AM.mk (enF 72 [sa]) rest ⟨O,N,G⟩)):=by kernel_rfl
theorem t_fuz:(K (AM.mk (enF 55 [sa,.fn (Fn.func 56) [] []]) ((Ffuz sa v)::rest) ⟨O,N,G⟩))=OT f0 R keep K (.seq [.run 9,.keep [0,1,6],.run 1] .fin) ((AM.mk (enF 27 [sa,v]) rest ⟨O,N,G⟩)):=by kernel_rfl
theorem znh:(((blq0)=true→(K (AM.mk (RF 27 20 (tX (tX tZ (tY (.int .i64 2))) (tX (tY .nilp) tZ)) [cdi 55 [1,0,1,0,0,1,1,0,0,1,1,0,1],cdi 27 [1,1]]) rest ⟨O,N,G⟩)))∧((blq0)=false→(K (AM.mk (enF 56 [v]) ((zhw sa v)::rest) ⟨O,N,G⟩))))=OT f0 R keep K (.seq [.run 2] (.fork 8 (.seq [.run 11,.keep [4,5]] .fin) (.seq [.run 1,.keep [0,1,8,9],.run 1] .fin))) ((AM.mk (RF 55 17 (tX tZ (tX (tY (.bool blq0)) tZ)) td) ((Ffuz sa v)::rest) ⟨O,N,G⟩)):=by kernel_rfl
theorem zeO:(((blq1)=true→(K (AM.mk (RF 27 20 (tX (tX tZ (tY (.int .i64 2))) (tX (tY .nilp) tZ)) [cdi 56 [1,1],cdi 27 [1,1]]) rest ⟨O,N,G⟩)))∧((blq1)=false→(K (AM.mk (enF 72 [sa]) ((zag sa v)::rest) ⟨O,N,G⟩))))=OT f0 R keep K (.seq [.run 3] (.fork 11 (.seq [.run 7,.keep [4,5]] .fin) (.seq [.run 5,.keep [1,12],.run 1] .fin))) ((AM.mk (RF 56 6 (tX tZ (tY (.bool blq1))) td) ((zhw sa v)::rest) ⟨O,N,G⟩)):=by kernel_rfl
theorem zaL:(∃ (O1:T AObj),(qa P (44) ([(0,.int .i64 8),(3,prq2),(4,v)])=(some (.agg [.int .i64 8,.str [],.nils 0 0,prq2,v])))∧((Nat.beq (5) (AV.agg [AV.int IntKind.i64 (Int.ofNat (8)),AV.str [],AV.nils (0) (0),prq2,v]).cells.length&&(AV.agg [AV.int IntKind.i64 (Int.ofNat (8)),AV.str [],AV.nils (0) (0),prq2,v]).cells.all AV.one)=true∧T.set (some (AObj.cells (zd T.leaf 0 (AV.agg [AV.int IntKind.i64 (Int.ofNat (8)),AV.str [],AV.nils (0) (0),prq2,v]).cells) (AV.agg [AV.int IntKind.i64 (Int.ofNat (8)),AV.str [],AV.nils (0) (0),prq2,v]).cells.length 44 0 0 1 0 false T.leaf)) (⟨O,N,G⟩:AHeap).objs N=O1)∧K (AM.mk (enF 61 [.ptr N 0 0]) ((wT N)::rest) ⟨O1,N+1,G⟩))=OT f0 R keep K (.ex fun O1:T AObj=>(.seq [.run 2,.hopn (.agg [.int .i64 8,.str [],.nils 0 0,prq2,v]) O (N),.hopn (.nilp) O1 (N),.keep [16],.run 1] .fin)) ((AM.mk (RF 72 8 (tX tZ (tY prq2)) td) ((zag sa v)::rest) ⟨O,N,G⟩)):=by kernel_rfl
theorem vV:(K (AM.mk (RF 27 20 (tX (tX tZ (tY (.int .i64 crq3))) (tX (tY prq3) tZ)) [cdi 56 [1,1]]) rest ⟨O,N,G⟩))=OT f0 R keep K (.seq [.run 7,.keep [4,5]] .fin) ((AM.mk (RF 61 8 (tX (tX (tY (.int .i64 crq3)) tZ) (tY prq3)) td) ((wT Nc)::rest) ⟨O,N,G⟩)):=by kernel_rfl
end
variable {O O':T AObj} {N:Nat} {G:T (T AV)}
theorem zpq {t:Ty}{p:Option Nat}{hi:Nat}(ht:Tr O hi t p)(hN:hi≤N){keep:Nat}{f0:FuncId}{Q:AV→AHeap→Prop}{rest:List AFrame}
 (hK:∀ O' N' td,Ext O N O' N'→Goal P keep f0 Q (AM.mk (RF 56 6 (tX tZ (tY (.bool (!(chk t==0))))) td) rest ⟨O',N',G⟩)):Goal P keep f0 Q (AM.mk (enF 56 [pv p]) rest ⟨O,N,G⟩):=by
 refine ot t_mnt ?_;refine ot zrK ?_;refine gx.chk_ok ht hN fun O1 N1 td1 ex1=>?_;refine ot zmD ?_;exact ot znI (hK O1 N1 _ ex1)
theorem ziD {ts:List Ty}{ps:List (Option Nat)}{sa:AV}{hi:Nat}(hs:SV O 1 pE 0 hi ps sa)(hl:ps.length=ts.length)(hm:ts.length<1000000)(ht:∀ (j:Nat) (x:Ty) (p:Option Nat),ts[j]?=some x→ps[j]?=some p→Tr O hi x p)(hN:hi≤N){keep:Nat}{f0:FuncId}{Q:AV→AHeap→Prop}{rest:List AFrame}
 (hK:∀ O' N' td,Ext O N O' N'→Goal P keep f0 Q (AM.mk (RF 55 17 (tX tZ (tX (tY (.bool (ts.any (fun x=>!(chk x==0))))) tZ)) td) rest ⟨O',N',G⟩)):Goal P keep f0 Q (AM.mk (enF 55 [sa,.fn (Fn.func 56) [] []]) rest ⟨O,N,G⟩):=by
 have loop:∀ (c i:Nat) (O2:T AObj) (N2:Nat),i+c=ts.length→Ext O N O2 N2→ts.any (fun x=>!(chk x==0))=(ts.drop i).any (fun x=>!(chk x==0))→Goal P keep f0 Q (Wsm sa ((ps.length:Nat):Int) ((i:Nat):Int) rest O2 N2 G):=by
  intro c
  induction c with
  | zero =>
   intro i O2 N2 hi' ex hd;refine ot zoT (fkf (decide_eq_false (by omega)) ?_);have hf:ts.any (fun x=>!(chk x==0))=false:=by rw [hd,List.drop_of_length_le (by omega)]; rfl
   rw [hf] at hK;exact hK O2 N2 _ ex
  | succ c ih =>
   intro i O2 N2 hi' ex hd;obtain ⟨x,hx,_⟩:=nth (l:=ts) (j:=i) (by omega);obtain ⟨p,hp,_⟩:=nth (l:=ps) (j:=i) (by omega);refine ot zoT (fkt (decide_eq_true (by omega)) ?_);obtain ⟨i1,i2,i3,lo59,hi59,eA59,rd59,_⟩:=(hs.keep (O':=O2) (fun j _ hj=>ex.2 j (by omega)) (Nat.le_refl 0) (Nat.le_refl hi)).at pSl pEn hp;refine ⟨i1,i2,i3,_,eA59,rd59.load rfl _ _,?_⟩;refine zpq ((ht i x p hx hp).ext ex hN) (Nat.le_trans hN ex.1) fun O3 N3 td3 ex3=>?_;refine ot ziU ⟨fun hc58=>?_,fun hc58=>?_⟩
   ·
    have hf:ts.any (fun x=>!(chk x==0))=true:=by rw [hd,zr hx,List.any_cons,hc58]; rfl
    rw [hf] at hK;exact hK O3 N3 _ (ex.trans ex3)
   ·
    have nx:=ih (i+1) O3 N3 (by omega) (ex.trans ex3) (by rw [hd,zr hx,List.any_cons,hc58,Bool.false_or]);rw [← zq (i:=i) (by omega)] at nx;exact nx
 exact ot zp5 ⟨_,hs.len pSl _ _,loop ts.length 0 O N (Nat.zero_add _) Ext.refl rfl⟩
theorem za9 {t:Ty}{p:Option Nat}{hi:Nat}(ht:Tr O hi t p)(hN:hi≤N){keep:Nat}{f0:FuncId}{Q:AV→AHeap→Prop}{rest:List AFrame}
 (hK:∀ O' N' td p',Ext O N O' N'→Tr O' N' (kv t).2 p'→Goal P keep f0 Q (AM.mk (RF 61 8 (tX (tX (tY (.int .i64 (kv t).1)) tZ) (tY (pv p'))) td) rest ⟨O',N',G⟩)):Goal P keep f0 Q (AM.mk (enF 61 [pv p]) rest ⟨O,N,G⟩):=by
 refine ot t_w61 ?_;refine zlD ht hN fun O1 N1 td1 ex1=>?_
 by_cases h:60<cnt t
 ·have e:kv t=(3,.no):=if_pos h;rw [e] at hK;exact ot zhU (fkt (decide_eq_true (by omega)) (hK O1 N1 _ none ex1 Tr.no))
 ·have e:kv t=(0,t):=if_neg h;rw [e] at hK;exact ot zhU (fkf (decide_eq_false (by omega)) (hK O1 N1 _ p ex1 ((ht.ext ex1 hN).same (fun _ _=>rfl) (Nat.le_trans hN ex1.1))))
theorem zsn (O:T AObj)(N:Nat)(G:T (T AV)):∃ O1,zg P ⟨O,N,G⟩ 33 0 []=some (.slc N 0 0 0 0,⟨O1,N+1,G⟩)∧GV O1 23 1 pE N (N+1) ([]:List (Option Nat)) (.slc N 0 0 0 0)∧Frm O O1 N:=by
 refine ⟨T.set (some (.cells (zd T.leaf 0 []) 0 23 0 0 1 0 false T.leaf)) O N,by kernel_rfl,.inr (.inl ⟨N,0,0,rfl,Nat.le_refl _,Nat.lt_succ_self _,.inl ⟨_,_,_,_,_,_,_,_,_,0,by rw [T.get_set,if_pos rfl],rfl,Nat.le_refl _,Nat.le_refl _,Nat.le_refl _,fun k hk=>?_⟩⟩),fun j hj=>by rw [T.get_set,if_neg hj]⟩;exact absurd hk (Nat.not_lt_zero _)
theorem zn8 {ps:List (Option Nat)}{sa:AV}{hi:Nat}(hs:SV O 1 pE 0 hi ps sa)(hN:hi≤N)(hl:ps.length<1000000){keep:Nat}{f0:FuncId}{Q:AV→AHeap→Prop}{rest:List AFrame}
 (hK:∀ O' N' td s,Ext O N O' N'→SV O' 1 pE N N' ps s→Goal P keep f0 Q (AM.mk (RF 72 8 (tX tZ (tY s)) td) rest ⟨O',N',G⟩)):Goal P keep f0 Q (AM.mk (enF 72 [sa]) rest ⟨O,N,G⟩):=by
 by_cases hn:sa=.nils 0 0
 ·subst hn;obtain rfl:ps=[]:=by
   rcases hs with ⟨_,h⟩ | ⟨_,_,_,_,h,_⟩ | ⟨_,_,_,h,_⟩
   ·exact h
   ·cases h
   ·cases h
  exact ot ztL ⟨true,rfl,fkt rfl (hK O N _ _ Ext.refl SV.nil)⟩
 ·have e0:qq P ⟨O,N,G⟩ .eql 33 true sa (.nils 0 0)=some (.bool false):=by
   rcases hs with ⟨h,_⟩ | ⟨_,_,_,_,rfl,_⟩ | ⟨_,_,_,rfl,_⟩
   ·exact absurd h hn
   ·rfl
   ·rfl
  obtain ⟨O1,e1,g1,f1⟩:=zsn O N G;have hs1:=hs.keep (O':=O1) (fun j _ hj=>f1 j (by omega)) (Nat.le_refl 0) (Nat.le_refl hi);obtain ⟨O2,N2,s2,e2,g2,n2,_,f2,_⟩:=g1.app pSl pEn hs1 (Nat.le_succ N) (by simp only [List.length_nil]; omega) G;rw [List.nil_append] at g2;exact ot ztL ⟨false,e0,fkf rfl ⟨_,_,_,_,e1,e2,hK O2 N2 _ s2 ⟨by omega,fun j hj=>(f2 j (by omega) (fun _=>by show j≠N; omega)).trans (f1 j (by omega))⟩ (g2.sv pEn)⟩⟩
theorem zso {v w:AV}(h:AV.one v=true)(h2:AV.one w=true):qa P 44 [(0,.int .i64 8),(3,v),(4,w)]=some (.agg [.int .i64 8,.str [],.nils 0 0,v,w]):=by
 cases v with
 | _=>first | (cases h; done) | (cases w with | _=>first | (cases h2; done) | kernel_rfl)
theorem zhk {ts:List Ty}{ps:List (Option Nat)}{sa:AV}{r:Ty}{q:Option Nat}{hi:Nat}(hs:SV O 1 pE 0 hi ps sa)(hl:ps.length=ts.length)(hm:ts.length<1000000)(ht:∀ (j:Nat) (x:Ty) (p:Option Nat),ts[j]?=some x→ps[j]?=some p→Tr O hi x p)(tr:Tr O hi r q)(hN:hi≤N){keep:Nat}{f0:FuncId}{Q:AV→AHeap→Prop}{rest:List AFrame}
 (hK:∀ O' N' td p',Ext O N O' N'→Tr O' N' (zbK ts r).2 p'→Goal P keep f0 Q (AM.mk (RF 27 20 (tX (tX tZ (tY (.int .i64 (zbK ts r).1))) (tX (tY (pv p')) tZ)) td) rest ⟨O',N',G⟩)):Goal P keep f0 Q (AM.mk (enF 27 [sa,pv q]) rest ⟨O,N,G⟩):=by
 have bad:¬ (ts.all (fun x=>chk x==0)=true∧chk r=0)→∀ O' N' td,Ext O N O' N'→Goal P keep f0 Q (AM.mk (RF 27 20 (tX (tX tZ (tY (.int .i64 2))) (tX (tY .nilp) tZ)) td) rest ⟨O',N',G⟩):=fun e O' N' td ex=>by
  have h:zbK ts r=(2,.no):=if_neg e;have:=hK O' N' td none ex (by rw [h]; exact Tr.no);rw [h] at this;exact this
 have hany:ts.any (fun x=>!(chk x==0))=!ts.all (fun x=>chk x==0):=by rw [List.not_all_eq_any_not]
 refine ot t_fuz ?_;refine ziD hs hl hm ht hN fun O1 N1 td1 ex1=>?_;rw [hany];refine ot znh ⟨fun hb=>bad (fun h=>by rw [h.1] at hb; cases hb) O1 N1 _ ex1,fun hb=>?_⟩;refine zpq (tr.ext ex1 hN) (Nat.le_trans hN ex1.1) fun O2 N2 td2 ex2=>?_;have ex:=ex1.trans ex2;have nn:=ex.1;refine ot zeO ⟨fun hc=>bad (fun h=>by rw [h.2] at hc; cases hc) O2 N2 _ ex,fun hc=>?_⟩;have good:zbK ts r=kv (.mk 8 [] [] ts r):=if_pos ⟨by simpa using hb,by simpa using hc⟩
 rw [good] at hK;refine zn8 (hs.keep (O':=O2) (fun j _ hj=>ex.2 j (by omega)) (Nat.le_refl 0) (Nat.le_refl hi)) (Nat.le_trans hN nn) (by omega) fun O3 N3 td3 s3 ex3 v3=>?_;have e3:=ex.trans ex3;have nn3:=e3.1;obtain ⟨O4,e4,b4,f4⟩:=Obj.box (t:=44) [.int .i64 8,.str [],.nils 0 0,s3,pv q] (by simp only [List.all_cons,List.all_nil,Bool.and_true,v3.one]; cases q <;> rfl) O3 N3 5 rfl;have e5:Ext O N O4 (N3+1):=⟨by omega,fun j hj=>(f4 j (by omega)).trans (e3.2 j hj)⟩;have node:Tr O4 (N3+1) (.mk 8 [] [] ts r) (some N3):=Tr.mk (Nat.lt_succ_self _) b4 SV.nil (v3.keep (fun j _ hj=>f4 j (by omega)) (Nat.zero_le _) (Nat.le_succ _)) hl hm (by decide) (fun j x p a b=>((ht j x p a b).ext e5 hN).same (fun _ _=>rfl) (by omega)) ((tr.ext e5 hN).same (fun _ _=>rfl) (by omega));refine ot zaL ⟨_,zso v3.one (by cases q <;> rfl),e4,?_⟩;refine za9 (p:=some N3) node (Nat.le_refl _) fun O6 N6 td6 p6 ex6 t6=>?_;exact ot vV (hK O6 N6 _ p6 (e5.trans ex6) t6)
end Go.Proofs.Ytcdigdplhlgcaaa.gx
end
section
set_option maxRecDepth 100000
set_option linter.unusedVariables false
set_option linter.unusedSectionVars false
set_option linter.unusedSimpArgs false
namespace Go.Proofs.Ytcdigdplhlgcaaa.gx
open Go Ev tp
section
variable (n:Int) (sn:AV) (j j2:Int) (v:AV) (mk:Nat) (sl:AV) (rest:List AFrame) (O:T AObj) (N:Nat) (G:T (T AV)) (i1 i2 i3 i4 i5 i6:Nat) (l1 l2 w w2:List UInt8) (blq0:Bool) (z1 z2 crq0 z1c:Int)
noncomputable def Fbln:AFrame:=frm 104 8 (tX tZ (tX tZ (tY (.int .u64 n)))) [opi 104 [1,1,0] 1,cdi 104 [1,0,0,1]]
noncomputable def Wpdq:AM:=⟨frm 103 148 (tW (tW (tW tZ (.int .i64 j2) (tY (.bool true))) (.int .i64 j) tZ) sl (tW (tY v) (.int .i64 n) (tX (tY (.bool true)) tZ))) [cdi 103 [1,1,0,0],ili 103 [1,1,0,0],.inBlock 0],rest,⟨O,N,G⟩⟩
noncomputable def Fcmq:AFrame:=frm 58 15 (tW (tW (tX (tY (.int .i64 j)) (tY (.int .i64 j2))) (.int .i64 j2) (tW (tY (.str l1)) (.int .i64 0) (tY (.str l2)))) (.int .i64 j) (tW (tX (tY (.ptr i1 i2 i3)) (tY (.ptr i4 i5 i6))) (.ptr mk 0 0) (tW (tY sn) sn tZ))) [.drw (rg P 58 [1,0]) [8,9] [7,6,5,4,3,2,1,0],cdi 58 [1,1]]
noncomputable def Fcmp:AFrame:=frm 59 20 (tW (tW (tX (tY (.str w)) tZ) (.str w2) tZ) (.str w) tZ) [opi 59 [1,0] 1,cdi 59 [1,1]]
noncomputable def zkX:AFrame:=frm 59 20 (tW (tW tZ (.str w2) (tW (tY (.str w2)) (.bool blq0) tZ)) (.str w) tZ) [opi 59 [1,1,0] 1,cdi 59 [1,1,1]]
noncomputable def zrm:AM:=⟨frm 115 53 (tW (tW (tY (.fn (Fn.func (58:FuncId)) [] [.ptr mk 0 0])) (.int .i64 0) tZ) sl (tW (tX (tY (.int .i64 j)) tZ) (.int .i64 n) tZ)) [cdi 115 [1,0,0],ili 115 [1,0,0],.inBlock 0],rest,⟨O,N,G⟩⟩
noncomputable def Winl:AM:=⟨frm 115 53 (tW (tW (tY (.fn (Fn.func (58:FuncId)) [] [.ptr mk 0 0])) (.int .i64 0) (tX (tY (.int .i64 j2)) tZ)) sl (tW (tX (tY (.int .i64 j)) tZ) (.int .i64 n) tZ)) [cdi 115 [1,0,0,1,0,0,1,0,0],ili 115 [1,0,0,1,0,0,1,0,0],.inBlock 2,.inBlock 1,cdi 115 [1,0,0,1,1],ili 115 [1,0,0],.inBlock 0],rest,⟨O,N,G⟩⟩
noncomputable def ztC:AFrame:=frm 115 53 (tW (tW (tW (tX (tX (tY (.int .i64 z2)) tZ) (tY sl)) (.fn (Fn.func (58:FuncId)) [] [.ptr mk 0 0]) (tX (tY (.int .i64 0)) (tY sl))) (.int .i64 0) (tX (tW tZ (.int .i64 j2) (tY (.ptr i1 i2 i3))) (tX (tY (.bool true)) (tY (.int .i64 (IntKind.i64.wrap (j2 - (1:Int)))))))) sl (tW (tX (tW tZ (.int .i64 j) (tY (.int .i64 j2))) (tX (tY (.bool (decide (j2 > Int.ofNat 0)))) (tY (.int .i64 j2)))) (.int .i64 n) (tX (tX (tY (.int .i64 j2)) (tY (.int .i64 z1))) (tX (tY (.fn (Fn.func (58:FuncId)) [] [.ptr mk 0 0])) (tY (.ptr i4 i5 i6)))))) [.drw (rg P 115 [1,0,0,1,0,0,1,0,0,0,0]) [14,15,16] [13,12,11,10,9,8,7,6,5,4,3,2,1,0],cdi 115 [1,0,0,1,0,0,1,0,0,0,1],cdi 115 [1,0,0,1,0,0,1,0,0,1],ili 115 [1,0,0,1,0,0,1,0,0],.inBlock 2,.inBlock 1,cdi 115 [1,0,0,1,1],ili 115 [1,0,0],.inBlock 0]
noncomputable def zss:AFrame:=frm 103 148 (tX (tX (tX tZ (tX tZ (tY (.int .i64 j)))) (tX tZ (tX tZ (tY v)))) (tX (tX tZ (tX tZ (tY (.int .i64 n)))) (tX (tX tZ (tY sl)) tZ))) [opi 103 [1,1,0,0,0,1,0,1,0,0] 4,cdi 103 [1,1,0,0,0,1,0,1,0,1],cdi 103 [1,1,0,0,0,1,1],.inBlock 1,ili 103 [1,1,0,0],.inBlock 0]
noncomputable def Fsrt:AFrame:=frm 57 14 (tX (tW (tX (tY sl) tZ) v tZ) (tX (tX (tY (.int .i64 z1)) tZ) (tX (tY (.int .u64 (IntKind.u64.wrap z1))) tZ))) [opi 57 [1] 4]
noncomputable def zj3:AFrame:=frm 57 14 (tX (tX (tX (tY sl) (tY (.int .i64 crq0))) tZ) (tX (tX (tY (.int .i64 z1c)) (tY v)) tZ)) [opi 57 [1] 6]
end
section
variable {R:AV→AHeap→Prop} {keep N mk i1c i2c i3c i4c i5c i6c:Nat} {f0:FuncId} {rest:List AFrame} {O:T AObj} {w w2 l1c l2c:List UInt8} {G:T (T AV)} {K:AM→Prop} {td:List AItem} {blq0 blq1:Bool} {j j2 crq0 n z1c z2c:Int} {sn sl v:AV}
theorem ztK:(K (AM.mk (RF 105 6 (tX tZ (tY (.bool (!w==w)))) [cdi 105 [1,1]]) rest ⟨O,N,G⟩))=OT f0 R keep K (.seq [.run 12,.keep [2]] .fin) ((AM.mk (enF 105 [.str w]) rest ⟨O,N,G⟩)):=by kernel_rfl
theorem t_cmp:(K (AM.mk (enF 105 [.str w]) ((Fcmp w w2)::rest) ⟨O,N,G⟩))=OT f0 R keep K (.seq [.run 7,.keep [0,1,7],.run 1] .fin) ((AM.mk (enF 59 [.str w,.str w2]) rest ⟨O,N,G⟩)):=by kernel_rfl
theorem zoa:(K (AM.mk (enF 105 [.str w2]) ((zkX w w2 blq0)::rest) ⟨O,N,G⟩))=OT f0 R keep K (.seq [.run 6,.keep [0,1,5,9],.run 1] .fin) ((AM.mk (RF 105 6 (tX tZ (tY (.bool blq0))) td) ((Fcmp w w2)::rest) ⟨O,N,G⟩)):=by kernel_rfl
theorem zgr:(((blq0)=true→(((blq1)=true→(K (AM.mk (RF 59 20 (tX tZ (tX (tY (.int .i64 0)) tZ)) [cdi 105 [1,1],cdi 59 [1,1,1,0,1,0,1],cdi 59 [1,1,1,1]]) rest ⟨O,N,G⟩)))∧((blq1)=false→(K (AM.mk (RF 59 20 (tX tZ (tX (tY (.int .i64 (-1))) tZ)) [cdi 105 [1,1],cdi 59 [1,1,1,1]]) rest ⟨O,N,G⟩)))))∧((blq0)=false→(((blq1)=true→(K (AM.mk (RF 59 20 (tX tZ (tX (tY (.int .i64 1)) tZ)) [cdi 105 [1,1],cdi 59 [1,1,1,1,1]]) rest ⟨O,N,G⟩)))∧((blq1)=false→(((Op.bytesLess w w2)=true→(K (AM.mk (RF 59 20 (tX tZ (tX (tY (.int .i64 (-1))) tZ)) [cdi 105 [1,1],cdi 59 [1,1,1,1,1,1]]) rest ⟨O,N,G⟩)))∧((Op.bytesLess w w2)=false→((((!(Op.bytesLess w w2 || w==w2)))=true→(K (AM.mk (RF 59 20 (tX tZ (tX (tY (.int .i64 1)) tZ)) [cdi 105 [1,1],cdi 59 [1,1,1,1,1,1,1]]) rest ⟨O,N,G⟩)))∧(((!(Op.bytesLess w w2 || w==w2)))=false→(K (AM.mk (RF 59 20 (tX tZ (tX (tY (.int .i64 0)) tZ)) [cdi 105 [1,1]]) rest ⟨O,N,G⟩))))))))))=OT f0 R keep K (.seq [.run 8] (.fork 11 (.seq [.run 6] (.fork 12 (.seq [.run 6,.keep [4]] .fin) (.seq [.run 7,.keep [4]] .fin))) (.seq [.run 7] (.fork 13 (.seq [.run 6,.keep [4]] .fin) (.seq [.run 9] (.fork 16 (.seq [.run 6,.keep [4]] .fin) (.seq [.run 9] (.fork 19 (.seq [.run 6,.keep [4]] .fin) (.seq [.run 7,.keep [4]] .fin))))))))) ((AM.mk (RF 105 6 (tX tZ (tY (.bool blq1))) td) ((zkX w w2 blq0)::rest) ⟨O,N,G⟩)):=by kernel_rfl
theorem t_cmq:(∃ (i1:Nat) (i2:Nat) (i3:Nat) (l1:List UInt8) (i4:Nat) (i5:Nat) (i6:Nat) (l2:List UInt8),(lC O N G mk 0 sn)∧(iX 32 sn j i1 i2 i3)∧(lR O N G i1 i2 i3 (.str l1))∧(lC O N G mk 0 sn)∧(iX 32 sn j2 i4 i5 i6)∧(lR O N G i4 i5 i6 (.str l2))∧K (AM.mk (enF 59 [.str l1,.str l2]) ((Fcmq sn j j2 mk i1 i2 i3 i4 i5 i6 l1 l2)::rest) ⟨O,N,G⟩))=OT f0 R keep K (.ex fun i1:Nat=>(.ex fun i2:Nat=>(.ex fun i3:Nat=>(.ex fun l1:List UInt8=>(.ex fun i4:Nat=>(.ex fun i5:Nat=>(.ex fun i6:Nat=>(.ex fun l2:List UInt8=>(.seq [.run 6,.hop (sn) O,.run 1,.hopn (.ptr i1 i2 i3) O (N),.hop (.str l1) O,.hop (sn) O,.run 1,.hopn (.ptr i4 i5 i6) O (N),.hop (.str l2) O,.run 1] .fin))))))))) ((AM.mk (enF 58 [.int .i64 j,.int .i64 j2,.ptr mk 0 0]) rest ⟨O,N,G⟩)):=by kernel_rfl
theorem znV:(K (AM.mk (RF 58 15 (tX (tX tZ (tY (.int .i64 crq0))) tZ) [cdi 58 [1,1]]) rest ⟨O,N,G⟩))=OT f0 R keep K (.seq [.run 4,.keep [5]] .fin) ((AM.mk (RF 59 20 (tX tZ (tX (tY (.int .i64 crq0)) tZ)) td) ((Fcmq sn j j2 mk i1c i2c i3c i4c i5c i6c l1c l2c)::rest) ⟨O,N,G⟩)):=by kernel_rfl
theorem ztp:(K (zrm n 1 mk sl rest O N G))=OT f0 R keep K (.seq [.run 8,.keep [0,1,2,3,8]] .fin) ((AM.mk (enF 115 [sl,.int .i64 0,.int .i64 n,.fn (Fn.func 58) [] [.ptr mk 0 0]]) rest ⟨O,N,G⟩)):=by kernel_rfl
theorem zm4:(((decide (j<n))=true→(K (Winl n j j mk sl rest O N G)))∧((decide (j<n))=false→(K (AM.mk (RF 115 53 .leaf []) rest ⟨O,N,G⟩))))=OT f0 R keep K (.seq [.run 7] (.fork 14 (.seq [.run 11,.keep [0,1,2,3,8,9]] .fin) (.seq [.run 3,.keep []] .fin))) ((zrm n j mk sl rest O N G)):=by kernel_rfl
theorem zs7:(((decide (j2 > Int.ofNat (0)))=true→(∃ (i1:Nat) (i2:Nat) (i3:Nat) (z1:Int) (i4:Nat) (i5:Nat) (i6:Nat) (z2:Int),(iX 67 sl j2 i1 i2 i3)∧(lR O N G i1 i2 i3 (.int .i64 z1))∧(zf P (67) (sl) (.int .i64 (IntKind.i64.wrap (j2 - (1:Int))))=(some (.ptr i4 i5 i6)))∧(lR O N G i4 i5 i6 (.int .i64 z2))∧K (AM.mk (enF 58 [.int .i64 z1,.int .i64 z2,.ptr mk 0 0]) ((ztC n j j2 mk sl i1 i2 i3 i4 i5 i6 z1 z2)::rest) ⟨O,N,G⟩)))∧((decide (j2 > Int.ofNat (0)))=false→(K (zrm n (IntKind.i64.wrap (j+(1:Int))) mk sl rest O N G))))=OT f0 R keep K (.seq [.run 7] (.fork 21 (.ex fun i1:Nat=>(.ex fun i2:Nat=>(.ex fun i3:Nat=>(.ex fun z1:Int=>(.ex fun i4:Nat=>(.ex fun i5:Nat=>(.ex fun i6:Nat=>(.ex fun z2:Int=>(.seq [.run 3,.hopn (.ptr i1 i2 i3) O (N),.hop (.int .i64 z1) O,.run 3,.hopn (.ptr i4 i5 i6) O (N),.hop (.int .i64 z2) O,.run 1] .fin))))))))) (.seq [.run 23,.keep [0,1,2,3,8]] .fin))) ((Winl n j j2 mk sl rest O N G)):=by kernel_rfl
theorem zmk:(((decide (crq0<(0:Int)))=true→(∃ (i1:Nat) (i2:Nat) (i3:Nat) (z1:Int) (i4:Nat) (i5:Nat) (i6:Nat) (z2:Int) (i7:Nat) (i8:Nat) (i9:Nat) (O1:T AObj) (i10:Nat) (i11:Nat) (i12:Nat) (O2:T AObj),(zf P (67) (sl) (.int .i64 (IntKind.i64.wrap (j2 - (1:Int))))=(some (.ptr i1 i2 i3)))∧(lR O N G i1 i2 i3 (.int .i64 z1))∧(iX 67 sl j2 i4 i5 i6)∧(lR O N G i4 i5 i6 (.int .i64 z2))∧(iX 67 sl j2 i7 i8 i9)∧(zc (⟨O,N,G⟩) (i7) (i8) (i9) ([.int .i64 z1])=(some ⟨O1,N,G⟩))∧(qq P (⟨O1,N,G⟩) (BinOp.sub) (3) (true) (.int .i64 j2) (.int .i64 1)=(some (.int .i64 (IntKind.i64.wrap (j2 - (1:Int))))))∧(zf P (67) (sl) (.int .i64 (IntKind.i64.wrap (j2 - (1:Int))))=(some (.ptr i10 i11 i12)))∧(zc (⟨O1,N,G⟩) (i10) (i11) (i12) ([.int .i64 z2])=(some ⟨O2,N,G⟩))∧K (Winl n j (IntKind.i64.wrap (j2 - (1:Int))) mk sl rest O2 N G)))∧((decide (crq0<(0:Int)))=false→(K (zrm n (IntKind.i64.wrap (j+(1:Int))) mk sl rest O N G))))=OT f0 R keep K (.seq [.run 4] (.fork 34 (.ex fun i1:Nat=>(.ex fun i2:Nat=>(.ex fun i3:Nat=>(.ex fun z1:Int=>(.ex fun i4:Nat=>(.ex fun i5:Nat=>(.ex fun i6:Nat=>(.ex fun z2:Int=>(.ex fun i7:Nat=>(.ex fun i8:Nat=>(.ex fun i9:Nat=>(.ex fun O1:T AObj=>(.ex fun i10:Nat=>(.ex fun i11:Nat=>(.ex fun i12:Nat=>(.ex fun O2:T AObj=>(.seq [.run 13,.hopn (.ptr i1 i2 i3) O (N),.hop (.int .i64 z1) O,.run 2,.hopn (.ptr i4 i5 i6) O (N),.hop (.int .i64 z2) O,.hopn (.ptr i7 i8 i9) O (N),.hop (.nilp) O1,.hopn (.ptr i10 i11 i12) O1 (N),.hop (.nilp) O2,.run 8,.keep [0,1,2,3,8,9]] .fin))))))))))))))))) (.seq [.run 9,.keep [0,1,2,3,8]] .fin))) ((AM.mk (RF 58 15 (tX (tX tZ (tY (.int .i64 crq0))) tZ) td) ((ztC n j j2 mk sl i1c i2c i3c i4c i5c i6c z1c z2c)::rest) ⟨O,N,G⟩)):=by kernel_rfl
theorem t_bln:(K (AM.mk (enF 124 [.int .u64 n]) ((Fbln n)::rest) ⟨O,N,G⟩))=OT f0 R keep K (.seq [.run 10,.keep [6],.run 1] .fin) ((AM.mk (enF 104 [.int .u64 n]) rest ⟨O,N,G⟩)):=by kernel_rfl
theorem znB:(K (AM.mk (RF 104 8 (tX tZ (tY (.int .i64 crq0))) [cdi 104 [1,0,0,1]]) rest ⟨O,N,G⟩))=OT f0 R keep K (.seq [.run 4,.keep [2]] .fin) ((AM.mk (RF 124 25 (tX tZ (tY (.int .i64 crq0))) td) ((Fbln n)::rest) ⟨O,N,G⟩)):=by kernel_rfl
theorem zrH:(∃ (z1:Int),(lN O N G 67 sl z1)∧K (AM.mk (enF 104 [.int .u64 (IntKind.u64.wrap z1)]) ((Fsrt v sl z1)::rest) ⟨O,N,G⟩))=OT f0 R keep K (.ex fun z1:Int=>(.seq [.run 3,.hopn (.int .i64 z1) O (N),.run 7,.keep [1,7,8,10],.run 1] .fin)) ((AM.mk (enF 57 [sl,v]) rest ⟨O,N,G⟩)):=by kernel_rfl
theorem zhn:(K (AM.mk (enF 103 [sl,.int .i64 0,.int .i64 z1c,.int .i64 crq0,v]) ((zj3 v sl crq0 z1c)::rest) ⟨O,N,G⟩))=OT f0 R keep K (.seq [.run 2,.keep [7,8,11,12],.run 1] .fin) ((AM.mk (RF 104 8 (tX tZ (tY (.int .i64 crq0))) td) ((Fsrt v sl z1c)::rest) ⟨O,N,G⟩)):=by kernel_rfl
theorem zb6:(K (AM.mk (RF 57 14 .leaf []) rest ⟨O,N,G⟩))=OT f0 R keep K (.seq [.run 3,.keep []] .fin) ((AM.mk (RF 103 148 .leaf td) ((zj3 v sl crq0 z1c)::rest) ⟨O,N,G⟩)):=by kernel_rfl
theorem ztX:(K (Wpdq n j j2 v sl rest O N G))=OT f0 R keep K (.seq [.run 10,.keep [0,1,2,3,4,10,11]] .fin) ((AM.mk (enF 103 [sl,.int .i64 j,.int .i64 n,.int .i64 j2,v]) rest ⟨O,N,G⟩)):=by kernel_rfl
theorem zfk:(K (AM.mk (RF 103 148 .leaf [cdi 103 [1,1,0,0,0,1,0,1,0,1],cdi 103 [1,1,0,0,0,1,1],.inBlock 1,ili 103 [1,1,0,0],.inBlock 0]) rest ⟨O,N,G⟩))=OT f0 R keep K (.seq [.run 3,.keep []] .fin) ((AM.mk (RF 115 53 .leaf td) ((zss n j v sl)::rest) ⟨O,N,G⟩)):=by kernel_rfl
theorem zn3:((decide (n≥(4294967296:Int))=false)∧(decide (n≥(65536:Int))=false)∧(decide (n≥(256:Int))=false)∧((0:Int)≤IntKind.u8.wrap n∧IntKind.u8.wrap n<(↑(ByteArray.mk (([(0:UInt8),(1:UInt8),(2:UInt8),(2:UInt8),(3:UInt8),(3:UInt8),(3:UInt8),(3:UInt8),(4:UInt8),(4:UInt8),(4:UInt8),(4:UInt8),(4:UInt8),(4:UInt8),(4:UInt8),(4:UInt8),(5:UInt8),(5:UInt8),(5:UInt8),(5:UInt8),(5:UInt8),(5:UInt8),(5:UInt8),(5:UInt8),(5:UInt8),(5:UInt8),(5:UInt8),(5:UInt8),(5:UInt8),(5:UInt8),(5:UInt8),(5:UInt8),(6:UInt8),(6:UInt8),(6:UInt8),(6:UInt8),(6:UInt8),(6:UInt8),(6:UInt8),(6:UInt8),(6:UInt8),(6:UInt8),(6:UInt8),(6:UInt8),(6:UInt8),(6:UInt8),(6:UInt8),(6:UInt8),(6:UInt8),(6:UInt8),(6:UInt8),(6:UInt8),(6:UInt8),(6:UInt8),(6:UInt8),(6:UInt8),(6:UInt8),(6:UInt8),(6:UInt8),(6:UInt8),(6:UInt8),(6:UInt8),(6:UInt8),(6:UInt8)].append [(7:UInt8),(7:UInt8),(7:UInt8),(7:UInt8),(7:UInt8),(7:UInt8),(7:UInt8),(7:UInt8),(7:UInt8),(7:UInt8),(7:UInt8),(7:UInt8),(7:UInt8),(7:UInt8),(7:UInt8),(7:UInt8),(7:UInt8),(7:UInt8),(7:UInt8),(7:UInt8),(7:UInt8),(7:UInt8),(7:UInt8),(7:UInt8),(7:UInt8),(7:UInt8),(7:UInt8),(7:UInt8),(7:UInt8),(7:UInt8),(7:UInt8),(7:UInt8),(7:UInt8),(7:UInt8),(7:UInt8),(7:UInt8),(7:UInt8),(7:UInt8),(7:UInt8),(7:UInt8),(7:UInt8),(7:UInt8),(7:UInt8),(7:UInt8),(7:UInt8),(7:UInt8),(7:UInt8),(7:UInt8),(7:UInt8),(7:UInt8),(7:UInt8),(7:UInt8),(7:UInt8),(7:UInt8),(7:UInt8),(7:UInt8),(7:UInt8),(7:UInt8),(7:UInt8),(7:UInt8),(7:UInt8),(7:UInt8),(7:UInt8),(7:UInt8)]).append ([(8:UInt8),(8:UInt8),(8:UInt8),(8:UInt8),(8:UInt8),(8:UInt8),(8:UInt8),(8:UInt8),(8:UInt8),(8:UInt8),(8:UInt8),(8:UInt8),(8:UInt8),(8:UInt8),(8:UInt8),(8:UInt8),(8:UInt8),(8:UInt8),(8:UInt8),(8:UInt8),(8:UInt8),(8:UInt8),(8:UInt8),(8:UInt8),(8:UInt8),(8:UInt8),(8:UInt8),(8:UInt8),(8:UInt8),(8:UInt8),(8:UInt8),(8:UInt8),(8:UInt8),(8:UInt8),(8:UInt8),(8:UInt8),(8:UInt8),(8:UInt8),(8:UInt8),(8:UInt8),(8:UInt8),(8:UInt8),(8:UInt8),(8:UInt8),(8:UInt8),(8:UInt8),(8:UInt8),(8:UInt8),(8:UInt8),(8:UInt8),(8:UInt8),(8:UInt8),(8:UInt8),(8:UInt8),(8:UInt8),(8:UInt8),(8:UInt8),(8:UInt8),(8:UInt8),(8:UInt8),(8:UInt8),(8:UInt8),(8:UInt8),(8:UInt8)].append [(8:UInt8),(8:UInt8),(8:UInt8),(8:UInt8),(8:UInt8),(8:UInt8),(8:UInt8),(8:UInt8),(8:UInt8),(8:UInt8),(8:UInt8),(8:UInt8),(8:UInt8),(8:UInt8),(8:UInt8),(8:UInt8),(8:UInt8),(8:UInt8),(8:UInt8),(8:UInt8),(8:UInt8),(8:UInt8),(8:UInt8),(8:UInt8),(8:UInt8),(8:UInt8),(8:UInt8),(8:UInt8),(8:UInt8),(8:UInt8),(8:UInt8),(8:UInt8),(8:UInt8),(8:UInt8),(8:UInt8),(8:UInt8),(8:UInt8),(8:UInt8),(8:UInt8),(8:UInt8),(8:UInt8),(8:UInt8),(8:UInt8),(8:UInt8),(8:UInt8),(8:UInt8),(8:UInt8),(8:UInt8),(8:UInt8),(8:UInt8),(8:UInt8),(8:UInt8),(8:UInt8),(8:UInt8),(8:UInt8),(8:UInt8),(8:UInt8),(8:UInt8),(8:UInt8),(8:UInt8),(8:UInt8),(8:UInt8),(8:UInt8),(8:UInt8)])).toArray).data.toList.length:Int))∧K (AM.mk (RF 124 25 (tX tZ (tY (.int .i64 (IntKind.i64.wrap (Int.ofNat (0)+IntKind.i64.wrap (↑((ByteArray.mk (([(0:UInt8),(1:UInt8),(2:UInt8),(2:UInt8),(3:UInt8),(3:UInt8),(3:UInt8),(3:UInt8),(4:UInt8),(4:UInt8),(4:UInt8),(4:UInt8),(4:UInt8),(4:UInt8),(4:UInt8),(4:UInt8),(5:UInt8),(5:UInt8),(5:UInt8),(5:UInt8),(5:UInt8),(5:UInt8),(5:UInt8),(5:UInt8),(5:UInt8),(5:UInt8),(5:UInt8),(5:UInt8),(5:UInt8),(5:UInt8),(5:UInt8),(5:UInt8),(6:UInt8),(6:UInt8),(6:UInt8),(6:UInt8),(6:UInt8),(6:UInt8),(6:UInt8),(6:UInt8),(6:UInt8),(6:UInt8),(6:UInt8),(6:UInt8),(6:UInt8),(6:UInt8),(6:UInt8),(6:UInt8),(6:UInt8),(6:UInt8),(6:UInt8),(6:UInt8),(6:UInt8),(6:UInt8),(6:UInt8),(6:UInt8),(6:UInt8),(6:UInt8),(6:UInt8),(6:UInt8),(6:UInt8),(6:UInt8),(6:UInt8),(6:UInt8)].append [(7:UInt8),(7:UInt8),(7:UInt8),(7:UInt8),(7:UInt8),(7:UInt8),(7:UInt8),(7:UInt8),(7:UInt8),(7:UInt8),(7:UInt8),(7:UInt8),(7:UInt8),(7:UInt8),(7:UInt8),(7:UInt8),(7:UInt8),(7:UInt8),(7:UInt8),(7:UInt8),(7:UInt8),(7:UInt8),(7:UInt8),(7:UInt8),(7:UInt8),(7:UInt8),(7:UInt8),(7:UInt8),(7:UInt8),(7:UInt8),(7:UInt8),(7:UInt8),(7:UInt8),(7:UInt8),(7:UInt8),(7:UInt8),(7:UInt8),(7:UInt8),(7:UInt8),(7:UInt8),(7:UInt8),(7:UInt8),(7:UInt8),(7:UInt8),(7:UInt8),(7:UInt8),(7:UInt8),(7:UInt8),(7:UInt8),(7:UInt8),(7:UInt8),(7:UInt8),(7:UInt8),(7:UInt8),(7:UInt8),(7:UInt8),(7:UInt8),(7:UInt8),(7:UInt8),(7:UInt8),(7:UInt8),(7:UInt8),(7:UInt8),(7:UInt8)]).append ([(8:UInt8),(8:UInt8),(8:UInt8),(8:UInt8),(8:UInt8),(8:UInt8),(8:UInt8),(8:UInt8),(8:UInt8),(8:UInt8),(8:UInt8),(8:UInt8),(8:UInt8),(8:UInt8),(8:UInt8),(8:UInt8),(8:UInt8),(8:UInt8),(8:UInt8),(8:UInt8),(8:UInt8),(8:UInt8),(8:UInt8),(8:UInt8),(8:UInt8),(8:UInt8),(8:UInt8),(8:UInt8),(8:UInt8),(8:UInt8),(8:UInt8),(8:UInt8),(8:UInt8),(8:UInt8),(8:UInt8),(8:UInt8),(8:UInt8),(8:UInt8),(8:UInt8),(8:UInt8),(8:UInt8),(8:UInt8),(8:UInt8),(8:UInt8),(8:UInt8),(8:UInt8),(8:UInt8),(8:UInt8),(8:UInt8),(8:UInt8),(8:UInt8),(8:UInt8),(8:UInt8),(8:UInt8),(8:UInt8),(8:UInt8),(8:UInt8),(8:UInt8),(8:UInt8),(8:UInt8),(8:UInt8),(8:UInt8),(8:UInt8),(8:UInt8)].append [(8:UInt8),(8:UInt8),(8:UInt8),(8:UInt8),(8:UInt8),(8:UInt8),(8:UInt8),(8:UInt8),(8:UInt8),(8:UInt8),(8:UInt8),(8:UInt8),(8:UInt8),(8:UInt8),(8:UInt8),(8:UInt8),(8:UInt8),(8:UInt8),(8:UInt8),(8:UInt8),(8:UInt8),(8:UInt8),(8:UInt8),(8:UInt8),(8:UInt8),(8:UInt8),(8:UInt8),(8:UInt8),(8:UInt8),(8:UInt8),(8:UInt8),(8:UInt8),(8:UInt8),(8:UInt8),(8:UInt8),(8:UInt8),(8:UInt8),(8:UInt8),(8:UInt8),(8:UInt8),(8:UInt8),(8:UInt8),(8:UInt8),(8:UInt8),(8:UInt8),(8:UInt8),(8:UInt8),(8:UInt8),(8:UInt8),(8:UInt8),(8:UInt8),(8:UInt8),(8:UInt8),(8:UInt8),(8:UInt8),(8:UInt8),(8:UInt8),(8:UInt8),(8:UInt8),(8:UInt8),(8:UInt8),(8:UInt8),(8:UInt8),(8:UInt8)])).toArray).data.toList.getD (IntKind.u8.wrap n).toNat (0:UInt8)).toNat:Int)))))) [cdi 124 [1,1,1,1,1]]) rest ⟨O,N,G⟩))=OT f0 R keep K (.seq [.run 10,.know 4 false,.run 8,.know 8 false,.run 8,.know 14 false,.run 7,.op,.run 5,.keep [2]] .fin) ((AM.mk (enF 124 [.int .u64 n]) rest ⟨O,N,G⟩)):=by kernel_rfl
theorem zpn:((decide (IntKind.i64.wrap (n - j)≤(12:Int))=true)∧K (AM.mk (enF 115 [sl,.int .i64 j,.int .i64 n,v]) ((zss n j v sl)::rest) ⟨O,N,G⟩))=OT f0 R keep K (.seq [.run 14,.know 25 true,.run 7,.keep [26,27,28,29],.run 1] .fin) ((Wpdq n j j2 v sl rest O N G)):=by kernel_rfl
end
variable {O O':T AObj} {N:Nat} {G:T (T AV)}
def kE (k:Nat):AV:=.int .i64 ((k:Nat):Int)
theorem iSl:SlT 67 3 1 8:=SlT.mk' (by kernel_rfl) (by kernel_rfl) (by kernel_rfl) (by kernel_rfl) (by kernel_rfl) rfl rfl
theorem zny {id n j:Nat}(h:j<n):zf P 67 (.slc id 0 0 n n) (.int .i64 ((j:Nat):Int))=some (.ptr id 0 j):=by
 have hx:xZ id 0 0 n 1 ((j:Nat):Int)=some (.ptr id 0 (0+j*1)):=by
  unfold xZ;rw [if_pos ⟨by omega,by omega⟩];rfl
 rw [show 0+j*1=j by omega] at hx;unfold zf;rw [iSl.und];simp only [iSl.size];exact hx
theorem ziP {id n:Nat}(N:Nat)(G:T (T AV)):zL P ⟨O,N,G⟩ .len (some 67) [.slc id 0 0 n n]=some (.int .i64 ((n:Nat):Int)):=by
 have h:∀ s,zL P ⟨O,N,G⟩ .len (some 67) [s]=lenE P ⟨O,N,G⟩ 67 s:=fun _=>rfl;rw [h];unfold lenE zrd;rw [iSl.und];rfl
theorem zrQ {id j k:Nat}{ks:List Nat}(h:Obj O id (ks.map kE))(hk:ks[j]?=some k)(N:Nat)(G:T (T AV)):zb ⟨O,N,G⟩ id 0 j 1=some [.int .i64 ((k:Nat):Int)]:=by
 obtain ⟨h1,h2⟩:=List.getElem?_eq_some_iff.1 hk;have e:=h.load j N G (by rw [List.length_map]; omega);rw [List.getD_eq_getElem?_getD,List.getElem?_map,hk] at e;exact e
theorem st67 {id j:Nat}(k:Nat){ks:List Nat}(h:Obj O id (ks.map kE))(hj:j<ks.length)(N:Nat)(G:T (T AV)):∃ O',zc ⟨O,N,G⟩ id 0 j [.int .i64 ((k:Nat):Int)]=some ⟨O',N,G⟩∧Obj O' id ((ks.set j k).map kE)∧Frm O O' id:=by
 obtain ⟨O',e,b,f⟩:=h.store j [kE k] N G (by rw [List.length_map]; exact hj) rfl;refine ⟨O',e,?_,f⟩;rw [List.set_eq_take_append_cons_drop,if_pos hj,List.map_append,List.map_cons,List.map_take,List.map_drop];rw [List.append_assoc] at b;exact b
theorem zk3 {α:Type}{p t:List α}{x y:α}:((p++y::x::t).set (p.length+1) y).set p.length x=p++x::y::t:=by
 rw [List.set_append_right _ _ (by omega),Nat.add_sub_cancel_left];show (p++y::y::t).set p.length x=_;rw [List.set_append_right _ _ (Nat.le_refl _),Nat.sub_self];rfl
theorem zoq {w w2:List UInt8}{keep:Nat}{f0:FuncId}{Q:AV→AHeap→Prop}{rest:List AFrame}(hK:∀ z td,(z<0 ↔ Op.bytesLess w w2=true)→Goal P keep f0 Q (AM.mk (RF 59 20 (tX tZ (tX (tY (.int .i64 z)) tZ)) td) rest ⟨O,N,G⟩)):Goal P keep f0 Q (AM.mk (enF 59 [.str w,.str w2]) rest ⟨O,N,G⟩):=by
 refine ot t_cmp ?_;refine ot ztK ?_;refine ot zoa ?_;refine ot ztK ?_;refine ot zgr (fkf ((by simp)) ?_);refine fkf ((by simp)) ?_;refine ⟨fun hc2=>?_,fun hc2=>?_⟩
 ·
  exact hK _ _ ⟨fun _=>hc2,fun _=>by decide⟩
 ·
  refine ⟨fun hc3=>?_,fun hc3=>?_⟩
  ·
   exact hK _ _ ⟨fun h=>absurd h (by decide),fun h=>by rw [h] at hc2; cases hc2⟩
  ·
   exact hK _ _ ⟨fun h=>absurd h (by decide),fun h=>by rw [h] at hc2; cases hc2⟩
theorem zsU {ns:List ze}{sn:AV}{mk hi a b:Nat}{x y:ze}(hn:SV O 1 sE 0 hi ns sn)(ob:Obj O mk [sn])(ha:ns[a]?=some x)(hb:ns[b]?=some y){keep:Nat}{f0:FuncId}{Q:AV→AHeap→Prop}{rest:List AFrame}
 (hK:∀ z td,(z<0 ↔ Op.bytesLess x y=true)→Goal P keep f0 Q (AM.mk (RF 58 15 (tX (tX tZ (tY (.int .i64 z))) tZ) td) rest ⟨O,N,G⟩)):Goal P keep f0 Q (AM.mk (enF 58 [.int .i64 ((a:Nat):Int),.int .i64 ((b:Nat):Int),.ptr mk 0 0]) rest ⟨O,N,G⟩):=by
 obtain ⟨i1v,i2v,i3v,lo5,hi5,eA5,rd5,_⟩:=hn.at sSl sEn ha;obtain ⟨i4v,i5v,i6v,lo6,hi6,eA6,rd6,_⟩:=hn.at sSl sEn hb;refine ot (t_cmq (sn:=sn)) ⟨i1v,i2v,i3v,_,i4v,i5v,i6v,_,ob.ld 0 rfl,eA5,rd5.load rfl _ _,ob.ld 0 rfl,eA6,rd6.load rfl _ _,?_⟩;refine zoq fun z td hz=>?_;exact ot znV (hK z _ hz)
end Go.Proofs.Ytcdigdplhlgcaaa.gx
end
section
set_option maxRecDepth 100000
set_option linter.unusedVariables false
set_option linter.unusedSectionVars false
set_option linter.unusedSimpArgs false
namespace Go.Proofs.Ytcdigdplhlgcaaa.gx
open Go Ev tp
variable {O O':T AObj} {N:Nat} {G:T (T AV)}
theorem zqn {ns:List ze}{k:Nat}(h:k<ns.length):ns[k]?=some (ns.getD k []):=by
 rw [List.getD_eq_getElem?_getD,List.getElem?_eq_getElem h]; rfl
theorem zrI {id mk hi n i:Nat}{ns:List ze}{sn:AV}(hn:SV O 1 sE 0 hi ns sn)(ob:Obj O mk [sn])(hmk:mk≠id)(hid:hi≤id)(hn1:n<1000){keep:Nat}{f0:FuncId}{Q:AV→AHeap→Prop}{rest:List AFrame}{r:List Nat}{x:Nat}:∀ (m:Nat) (p q:List Nat) (O2:T AObj),p.length=m→p.length+q.length=i→(p++x::(q++r)).length=n→(∀ k∈p++x::(q++r),k<ns.length)→(∀ j,j≠id→O2.get j=O.get j)→Obj O2 id ((p++x::(q++r)).map kE) →
 Srt (fun k=>ns.getD k []) (p++q)→(∀ z∈q,Op.bytesLess (ns.getD x []) (ns.getD z [])=true)→(∀ O3 l,(∀ j,j≠id→O3.get j=O.get j)→Obj O3 id ((l++r).map kE)→l.Perm (p++x::q)→Srt (fun k=>ns.getD k []) l→Goal P keep f0 Q (zrm ((n:Nat):Int) (IntKind.i64.wrap (((i:Nat):Int)+(1:Int))) mk (.slc id 0 0 n n) rest O3 N G))→Goal P keep f0 Q (Winl ((n:Nat):Int) ((i:Nat):Int) ((m:Nat):Int) mk (.slc id 0 0 n n) rest O2 N G):=by
 intro m
 induction m with
 | zero =>
  intro p q O2 hm hi' hlen hlt f2 ob2 hs hq hK;obtain rfl:p=[]:=List.eq_nil_of_length_eq_zero hm;refine ot zs7 (fkf (decide_eq_false (by decide)) ?_);exact hK O2 (x::q) f2 ob2 (List.Perm.refl _) (zkT (p:=[]) hs hq (fun z hz=>by cases hz))
 | succ m ih =>
  intro p0 q O2 hm hi' hlen hlt f2 ob2 hs hq hK;rcases List.eq_nil_or_concat p0 with rfl | ⟨p,y,rfl⟩
  ·cases hm
  rw [List.concat_eq_append] at *;rw [List.append_assoc] at hlen hlt ob2;rw [List.length_append] at hm hi';simp only [List.length_cons,List.length_nil,Nat.zero_add] at hm hi';have hm:p.length=m:=by omega
  have hlen2:=hlen;simp only [List.length_append,List.length_cons,List.length_nil] at hlen2;have hx:(p++([y]++x::(q++r)))[m+1]?=some x:=by rw [← hm,List.getElem?_append_right (by omega),Nat.add_sub_cancel_left]; rfl
  have hy:(p++([y]++x::(q++r)))[m]?=some y:=by rw [← hm,List.getElem?_append_right (Nat.le_refl _),Nat.sub_self]; rfl
  have w1:IntKind.i64.wrap (((m+1:Nat):Int) - (1:Int))=((m:Nat):Int):=by rw [IntKind.wrap_i64]; omega
  have eA:=zny (id:=id) (n:=n) (j:=m+1) (by omega);have eB:zf P 67 (.slc id 0 0 n n) (.int .i64 (IntKind.i64.wrap (((m+1:Nat):Int) - (1:Int))))=some (.ptr id 0 m):=by rw [w1]; exact zny (by omega)
  obtain ⟨O3,e3,b3,f3⟩:=st67 y ob2 (j:=m+1) (by rw [List.length_append,List.length_append]; simp only [List.length_cons,List.length_nil]; omega) N G;obtain ⟨O4,e4,b4,f4⟩:=st67 x b3 (j:=m) (by rw [List.length_set,List.length_append,List.length_append]; simp only [List.length_cons,List.length_nil]; omega) N G;have sw:((p++([y]++x::(q++r))).set (m+1) y).set m x=p++x::(y::q++r):=by rw [← hm]; exact zk3
  rw [sw] at b4;refine ot zs7 (fkt (decide_eq_true (by show (0:Int)<_; omega)) ?_);refine ⟨id,0,(m+1),((x:Nat):Int),id,0,m,((y:Nat):Int),eA,(zrQ ob2 hx N G),eB,(zrQ ob2 hy N G),?_⟩;refine zsU (ns:=ns) (x:=ns.getD x []) (y:=ns.getD y []) (hn.keep (O':=O2) (fun j _ hj=>f2 j (by omega)) (Nat.le_refl 0) (Nat.le_refl hi)) (ob.same (f2 mk hmk)) (zqn (hlt x (by simp))) (zqn (hlt y (by simp))) fun z td hz=>?_;refine ot zmk ⟨fun hc10=>?_,fun hc10=>?_⟩
  ·
   refine ⟨id,0,m,((y:Nat):Int),id,0,(m+1),((x:Nat):Int),id,0,(m+1),O3,id,0,m,O4,eB,(zrQ ob2 hy N G),eA,(zrQ ob2 hx N G),eA,e3,rfl,eB,e4,?_⟩;have hc:Op.bytesLess (ns.getD x []) (ns.getD y [])=true:=hz.1 (of_decide_eq_true hc10);rw [w1];exact ih p (y::q) O4 hm (by simp only [List.length_cons]; omega) (by simp only [List.length_append,List.length_cons]; omega) (fun k hk=>hlt k (by simp at hk ⊢; rcases hk with h | h | h | h | h <;> simp [h])) (fun j hj=>(f4 j hj).trans ((f3 j hj).trans (f2 j hj))) b4 (by rw [List.append_assoc] at hs; exact hs) (fun z hz=>by rcases List.mem_cons.1 hz with rfl | hz; exact hc; exact hq z hz) (fun O5 l5 g5 o5 p5 s5=>hK O5 l5 g5 o5 (p5.trans (by rw [List.append_assoc]; exact (List.Perm.swap _ _ _).append_left p)) s5)
  ·
   have hc:Op.bytesLess (ns.getD x []) (ns.getD y [])=false:=by
    cases h:Op.bytesLess (ns.getD x []) (ns.getD y []) with
    | false=>rfl
    | true=>have:=hz.2 h; have:=of_decide_eq_false hc10; omega
   exact hK O2 (p++y::x::q) f2 (by rw [List.append_assoc]; exact ob2) (by simp) (by have:=zkT (x:=x) hs hq (zpQ hs.left hc); rw [List.append_assoc] at this; exact this)
end Go.Proofs.Ytcdigdplhlgcaaa.gx
end
section
set_option maxRecDepth 100000
set_option linter.unusedVariables false
set_option linter.unusedSectionVars false
set_option linter.unusedSimpArgs false
namespace Go.Proofs.Ytcdigdplhlgcaaa.gx
open Go Ev tp
variable {O O':T AObj} {N:Nat} {G:T (T AV)}
theorem zsB {id mk hi n:Nat}{ns:List ze}{sn:AV}{ks:List Nat}(hn:SV O 1 sE 0 hi ns sn)(ob:Obj O mk [sn])(hmk:mk≠id)(hid:hi≤id)(hlt:∀ k∈ks,k<ns.length)(hk:Obj O id (ks.map kE))(hlen:ks.length=n)(hn1:n<1000){keep:Nat}{f0:FuncId}{Q:AV→AHeap→Prop}{rest:List AFrame}
 (hK:(∀ O' l td,(∀ j,j≠id→O'.get j=O.get j)→Obj O' id (l.map kE)→l.Perm ks→Srt (fun k=>ns.getD k []) l→Goal P keep f0 Q (AM.mk (RF 115 53 .leaf td) rest ⟨O',N,G⟩))):Goal P keep f0 Q (AM.mk (enF 115 [(.slc id 0 0 n n),.int .i64 0,.int .i64 ((n:Nat):Int),(.fn (Fn.func 58) [] [.ptr mk 0 0])]) rest ⟨O,N,G⟩):=by
 have loop:∀ (c:Nat) (l m:List Nat) (O2:T AObj),m.length=c→l.length+c=n→(∀ j,j≠id→O2.get j=O.get j)→Obj O2 id ((l++m).map kE)→(l++m).Perm ks→Srt (fun k=>ns.getD k []) l→Goal P keep f0 Q (zrm ((n:Nat):Int) ((l.length:Nat):Int) mk (.slc id 0 0 n n) rest O2 N G):=by
  intro c
  induction c with
  | zero =>
   intro l m O2 hm hc f2 b2 p2 s2;refine ot zm4 (fkf (decide_eq_false (by omega)) ?_);rw [List.length_eq_zero_iff.1 hm,List.append_nil] at b2 p2;exact hK O2 l _ f2 b2 p2 s2
  | succ c ih =>
   intro l m0 O2 hm hc f2 b2 p2 s2;obtain ⟨x,m,rfl⟩:∃ x m,m0=x::m:=by
    cases m0 with
    | nil=>cases hm
    | cons x m=>exact ⟨x,m,rfl⟩
   have hm:m.length=c:=by simpa using hm
   refine ot zm4 (fkt (decide_eq_true (by omega)) ?_);refine zrI hn ob hmk hid hn1 (r:=m) (x:=x) l.length l [] O2 rfl rfl (by simp only [List.length_append,List.length_cons,List.nil_append]; omega) (fun k hk=>hlt k (p2.mem_iff.1 hk)) f2 b2 (by rw [List.append_nil]; exact s2) (fun z hz=>by cases hz) fun O3 l3 f3 b3 p3 s3=>?_;have hl3:l3.length=l.length+1:=by rw [p3.length_eq,List.length_append]; rfl
   have nx:=ih l3 m O3 hm (by omega) f3 b3 (((p3.append_right m).trans (by rw [List.append_assoc]; exact List.Perm.refl _)).trans p2) s3;rw [hl3,← zq (i:=l.length) (by omega)] at nx;exact nx
 refine ot ztp ?_;cases ks with
 | nil =>
  obtain rfl:n=0:=hlen.symm;exact ot zm4 (fkf (decide_eq_false (by decide)) (hK O [] _ (fun _ _=>rfl) hk (List.Perm.refl _) Srt.nil))
 | cons k m=>exact loop m.length [k] m O rfl (by rw [← hlen]; simp only [List.length_cons,List.length_nil]; omega) (fun _ _=>rfl) hk (List.Perm.refl _) (List.pairwise_singleton ..)
theorem zsI {n:Nat}(h:n<256){keep:Nat}{f0:FuncId}{Q:AV→AHeap→Prop}{rest:List AFrame}(hK:∀ z td,Goal P keep f0 Q (AM.mk (RF 104 8 (tX tZ (tY (.int .i64 z))) td) rest ⟨O,N,G⟩)):Goal P keep f0 Q (AM.mk (enF 104 [.int .u64 (IntKind.u64.wrap ((n:Nat):Int))]) rest ⟨O,N,G⟩):=by
 have w:IntKind.u64.wrap ((n:Nat):Int)=((n:Nat):Int):=by rw [IntKind.wrap_u64]; omega
 have w8:IntKind.u8.wrap ((n:Nat):Int)=((n:Nat):Int):=by rw [IntKind.wrap_u8]; omega
 rw [w];refine ot t_bln ?_;refine ot zn3 ⟨decide_eq_false (by omega),decide_eq_false (by omega),decide_eq_false (by omega),⟨by rw [w8]; omega,by rw [w8]; exact Int.lt_of_lt_of_le (show ((n:Nat):Int)<256 by omega) (Int.ofNat_le.2 (Nat.le_of_ble_eq_true (by kernel_rfl)))⟩,?_⟩;exact ot znB (hK _ _)
theorem zry {id mk hi n:Nat}{ns:List ze}{sn:AV}{ks:List Nat}(hn:SV O 1 sE 0 hi ns sn)(ob:Obj O mk [sn])(hmk:mk≠id)(hid:hi≤id)(hlt:∀ k∈ks,k<ns.length)(hk:Obj O id (ks.map kE))(hlen:ks.length=n)(hn1:n≤12){keep:Nat}{f0:FuncId}{Q:AV→AHeap→Prop}{rest:List AFrame}
 (hK:(∀ O' l td,(∀ j,j≠id→O'.get j=O.get j)→Obj O' id (l.map kE)→l.Perm ks→Srt (fun k=>ns.getD k []) l→Goal P keep f0 Q (AM.mk (RF 57 14 .leaf td) rest ⟨O',N,G⟩))):Goal P keep f0 Q (AM.mk (enF 57 [(.slc id 0 0 n n),(.fn (Fn.func 58) [] [.ptr mk 0 0])]) rest ⟨O,N,G⟩):=by
 refine ot zrH ⟨_,ziP N G,?_⟩;refine zsI (by omega) fun z td=>?_;refine ot zhn ?_;refine ot ztX ?_;refine ot zpn ⟨decide_eq_true (by rw [IntKind.wrap_i64]; omega),?_⟩;refine zsB hn ob hmk hid hlt hk hlen (by omega) fun O' l td2 f b p s=>?_;refine ot zfk ?_;exact ot zb6 (hK O' l _ f b p s)
end Go.Proofs.Ytcdigdplhlgcaaa.gx
end
section
set_option maxRecDepth 100000
set_option linter.unusedVariables false
set_option linter.unusedSectionVars false
set_option linter.unusedSimpArgs false
namespace Go.Proofs.Ytcdigdplhlgcaaa.gx
open Go Ev tp
noncomputable def Wra (sa:AV) (n:Int) (j:Int) (mk:Nat) (sl:AV) (rest:List AFrame) (O:T AObj) (N:Nat) (G:T (T AV)):AM:=⟨frm 22 85 (tX (tW tZ sa (tX tZ (tX tZ (tY (.int .i64 j))))) (tW (tX tZ (tX tZ (tY (.int .i64 n)))) (.ptr mk 0 0) (tY sl))) [cdi 22 [1,1,1,0,1,0,0],ili 22 [1,1,1,0,1,0,0],.inBlock 0,cdi 22 [1,1,1,1]],rest,⟨O,N,G⟩⟩
noncomputable def zkM (sa:AV) (mk:Nat) (sl:AV):AFrame:=frm 22 85 (tX (tW tZ sa (tX tZ (tX (tX (tY sl) tZ) tZ))) (tW tZ (.ptr mk 0 0) (tW tZ sl (tX (tX (tY (.fn (Fn.func 58) [] [.ptr mk 0 0])) tZ) tZ)))) [opi 22 [1,1,1,1,0] 2,cdi 22 [1,1,1,1,1]]
noncomputable def Wrn (sa:AV) (n:Int) (j:Int) (m:Nat) (mk:Nat) (sl:AV) (rest:List AFrame) (O:T AObj) (N:Nat) (G:T (T AV)):AM:=⟨frm 22 85 (tX (tW (tX tZ (tX tZ (tX (tY (.int .i64 n)) tZ))) sa tZ) (tW (tX (tY (.ptr m 0 0)) (tX tZ (tX (tY (.int .i64 j)) tZ))) (.ptr mk 0 0) (tX (tX tZ (tX (tY sl) tZ)) tZ))) [cdi 22 [1,1,1,1,1,1,0,1,0,0],ili 22 [1,1,1,1,1,1,0,1,0,0],.inBlock 2,cdi 22 [1,1,1,1,1,1,1]],rest,⟨O,N,G⟩⟩
noncomputable def zqa (sn2:AV) (m:Nat):AFrame:=frm 22 85 (tX tZ (tX (tX (tY (.ptr m 0 0)) tZ) (tX tZ (tX tZ (tX (tX (tY sn2) tZ) tZ))))) [opi 22 [1,1,1,1,1,1,1,0,0] 4,cdi 22 [1,1,1,1,1,1,1,0,1],cdi 22 [1,1,1,1,1,1,1,1]]
noncomputable def zfo (m:Nat):AFrame:=frm 22 85 (tX (tX tZ (tX (tX (tX tZ (tX (tY (.ptr m 0 0)) tZ)) tZ) tZ)) tZ) [opi 22 [1,1,1,1,1,1,1,1,0] 1,cdi 60 [1,0,1,0,0,1,0,0,1,0,1]]
noncomputable def ztl (N:Nat) (sn:AV) (sa:AV):AFrame:=frm 22 85 (tX (tW tZ sa (tX (tX (tY sn) tZ) tZ)) (tW (tX (tX (tY (.bool false)) tZ) tZ) (.ptr N 0 0) tZ)) [opi 22 [1,0,0] 7,cdi 22 [1,0,1],cdi 22 [1,1]]
noncomputable def zfF (sa:AV) (Nc:Nat):AFrame:=frm 22 85 (tX (tW tZ sa (tX tZ (tX (tY sa) tZ))) (tW (tX tZ (tX (tY (.bool false)) tZ)) (.ptr Nc 0 0) tZ)) [opi 22 [1,0,0] 11,cdi 22 [1,0,1],cdi 22 [1,1]]
section
variable {R:AV→AHeap→Prop} {keep N mk m Nc:Nat} {f0:FuncId} {rest:List AFrame} {O:T AObj} {sa sl sn sn2 sa2 prq1:AV} {n j crq1:Int} {G:T (T AV)} {K:AM→Prop} {td:List AItem} {blq0 blq1:Bool}
theorem zpD:(((decide (j<n))=true→(∃ (i1:Nat) (i2:Nat) (i3:Nat) (O1:T AObj),(iX 67 sl j i1 i2 i3)∧(zc (⟨O,N,G⟩) (i1) (i2) (i3) ([.int .i64 j])=(some ⟨O1,N,G⟩))∧K (Wra sa n (IntKind.i64.wrap (j+(1:Int))) mk sl rest O1 N G)))∧((decide (j<n))=false→(K (AM.mk (enF 57 [sl,.fn (Fn.func 58) [] [.ptr mk 0 0]]) ((zkM sa mk sl)::rest) ⟨O,N,G⟩))))=OT f0 R keep K (.seq [.run 5] (.fork 30 (.ex fun i1:Nat=>(.ex fun i2:Nat=>(.ex fun i3:Nat=>(.ex fun O1:T AObj=>(.seq [.run 13,.hopn (.ptr i1 i2 i3) O (N),.hop (.nilp) O1,.run 7,.keep [1,2,6,28,29]] .fin))))) (.seq [.run 6,.keep [1,2,6,37,38],.run 1] .fin))) ((Wra sa n j mk sl rest O N G)):=by kernel_rfl
theorem zqx:(((decide (j<n))=true→(∃ (i1:Nat) (i2:Nat) (i3:Nat) (z1:Int) (i4:Nat) (i5:Nat) (i6:Nat) (l1:List UInt8) (O1:T AObj) (i7:Nat) (i8:Nat) (i9:Nat) (s1:AV) (O2:T AObj) (s2:AV) (O3:T AObj) (N1:Nat) (s3:AV) (O4:T AObj) (N2:Nat) (O5:T AObj) (O6:T AObj),(iX 67 sl j i1 i2 i3)∧(lR O N G i1 i2 i3 (.int .i64 z1))∧(lC O N G m 2 sn2)∧(lC O N G mk 0 sn)∧(iX 32 sn z1 i4 i5 i6)∧(lR O N G i4 i5 i6 (.str l1))∧(zg P (⟨O,N,G⟩) (32) (1) ([(0,.str l1)])=(some (.slc N 0 0 1 1,⟨O1,N+1,G⟩)))∧(lR O1 (N+1) G i4 i5 i6 (.str l1))∧(lC O1 (N+1) G mk 0 sn)∧(okD 300 sn=true)∧(lC O1 (N+1) G m 2 sn2)∧(okD 300 sn2=true)∧(lC O1 (N+1) G m 3 sa2)∧(iX 33 sa z1 i7 i8 i9)∧(lR O1 (N+1) G i7 i8 i9 s1)∧(zg P (⟨O1,N+1,G⟩) (33) (1) ([(0,s1)])=(some (.slc (N+1) 0 0 1 1,⟨O2,N+2,G⟩)))∧(lR O2 (N+2) G i7 i8 i9 s1)∧(okD 300 s1=true)∧(lC O2 (N+2) G m 3 sa2)∧(okD 300 sa2=true)∧(lR O2 (N+2) G i4 i5 i6 (.str l1))∧(lC O2 (N+2) G mk 0 sn)∧(okD 300 sn=true)∧(lC O2 (N+2) G m 2 sn2)∧(okD 300 sn2=true)∧(zi P (⟨O2,N+2,G⟩) (Builtin.append) ((some 32)) ((some 32)) ([sn2,.slc N 0 0 1 1])=(some (.val s2 ⟨O3,N1,G⟩)))∧(lR O3 N1 G i7 i8 i9 s1)∧(okD 300 s1=true)∧(lC O3 N1 G m 3 sa2)∧(okD 300 sa2=true)∧(zi P (⟨O3,N1,G⟩) (Builtin.append) ((some 33)) ((some 33)) ([sa2,.slc (N+1) 0 0 1 1])=(some (.val s3 ⟨O4,N2,G⟩)))∧(s2.cells.length.beq (1)=true∧zc (⟨O4,N2,G⟩:AHeap) m (0) (2) s2.cells=some (⟨O5,N2,G⟩:AHeap))∧(s3.cells.length.beq (1)=true∧zc (⟨O5,N2,G⟩:AHeap) m (0) (3) s3.cells=some (⟨O6,N2,G⟩:AHeap))∧K (Wrn sa n (IntKind.i64.wrap (j+(1:Int))) m mk sl rest O6 N2 G)))∧((decide (j<n))=false→((lC O N G m 2 sn2)∧K (AM.mk (enF 60 [sn2]) ((zqa sn2 m)::rest) ⟨O,N,G⟩))))=OT f0 R keep K (.seq [.run 5] (.fork 45 (.ex fun i1:Nat=>(.ex fun i2:Nat=>(.ex fun i3:Nat=>(.ex fun z1:Int=>(.ex fun i4:Nat=>(.ex fun i5:Nat=>(.ex fun i6:Nat=>(.ex fun l1:List UInt8=>(.ex fun O1:T AObj=>(.ex fun i7:Nat=>(.ex fun i8:Nat=>(.ex fun i9:Nat=>(.ex fun s1:AV=>(.ex fun O2:T AObj=>(.ex fun s2:AV=>(.ex fun O3:T AObj=>(.ex fun N1:Nat=>(.ex fun s3:AV=>(.ex fun O4:T AObj=>(.ex fun N2:Nat=>(.ex fun O5:T AObj=>(.ex fun O6:T AObj=>(.seq [.run 6,.hopn (.ptr i1 i2 i3) O (N),.hop (.int .i64 z1) O,.run 8,.hop (sn2) O,.hop (sn) O,.run 1,.hopn (.ptr i4 i5 i6) O (N),.hop (.str l1) O,.hopn (.slc N 0 0 1 1) O1 (N+1),.run 3,.hop (sa2) O1,.run 2,.hopn (.ptr i7 i8 i9) O1 (N+1),.hop (s1) O1,.hopn (.slc (N+1) 0 0 1 1) O2 (N+2),.hopn (s2) O3 (N1),.hopn (s3) O4 (N2),.run 2,.hopn (.nilp) O5 (N2),.run 2,.hopn (.nilp) O6 (N2),.run 7,.keep [1,2,8,42,43,44]] .fin))))))))))))))))))))))) (.seq [.run 8,.hop (sn2) O,.keep [8,78],.run 1] .fin))) ((Wrn sa n j m mk sl rest O N G)):=by kernel_rfl
theorem zfg:((((!blq0))=true→(K (AM.mk (RF 22 85 (tX (tX tZ (tY (.int .i64 2))) (tX (tY .nilp) tZ)) [cdi 60 [1,0,1,0,0,1,0,0,1,0,1],cdi 22 [1,1,1,1,1,1,1,1]]) rest ⟨O,N,G⟩)))∧(((!blq0))=false→(K (AM.mk (enF 61 [.ptr m 0 0]) ((zfo m)::rest) ⟨O,N,G⟩))))=OT f0 R keep K (.seq [.run 3] (.fork 80 (.seq [.run 7,.keep [4,5]] .fin) (.seq [.run 5,.keep [81],.run 1] .fin))) ((AM.mk (RF 60 20 (tX tZ (tY (.bool blq0))) td) ((zqa sn2 m)::rest) ⟨O,N,G⟩)):=by kernel_rfl
theorem kP:(K (AM.mk (RF 22 85 (tX (tX tZ (tY (.int .i64 crq1))) (tX (tY prq1) tZ)) [cdi 60 [1,0,1,0,0,1,0,0,1,0,1]]) rest ⟨O,N,G⟩))=OT f0 R keep K (.seq [.run 7,.keep [4,5]] .fin) ((AM.mk (RF 61 8 (tX (tX (tY (.int .i64 crq1)) tZ) (tY prq1)) td) ((zfo m)::rest) ⟨O,N,G⟩)):=by kernel_rfl
theorem zrv:(∃ (O1:T AObj) (z1:Int) (z2:Int),((Nat.beq (1) sn.cells.length&&sn.cells.all AV.one)=true∧T.set (some (AObj.cells (zd T.leaf 0 sn.cells) sn.cells.length 32 0 0 1 0 false T.leaf)) (⟨O,N,G⟩:AHeap).objs N=O1)∧(lC O1 (N+1) G N 0 sn)∧(lN O1 (N+1) G 32 sn z1)∧(lN O1 (N+1) G 33 sa z2)∧(((z1 != z2))=true→(K (AM.mk (RF 22 85 (tX (tX tZ (tY (.int .i64 2))) (tX (tY .nilp) tZ)) [cdi 22 [1,0,1,0,1],cdi 22 [1,1]]) rest ⟨O1,N+1,G⟩)))∧(((z1 != z2))=false→((lC O1 (N+1) G N 0 sn)∧K (AM.mk (enF 53 [sn,.fn (Fn.func 54) [] []]) ((ztl N sn sa)::rest) ⟨O1,N+1,G⟩))))=OT f0 R keep K (.ex fun O1:T AObj=>(.ex fun z1:Int=>(.ex fun z2:Int=>(.seq [.run 2,.hopn (.nilp) O1 (N),.run 6,.hop (sn) O1,.hopn (.int .i64 z1) O1 (N+1),.run 1,.hopn (.int .i64 z2) O1 (N+1),.run 2] (.fork 16 (.seq [.run 15,.keep [4,5]] .fin) (.seq [.hop (sn) O1,.keep [1,2,16,17],.run 1] .fin)))))) ((AM.mk (enF 22 [sn,sa]) rest ⟨O,N,G⟩)):=by kernel_rfl
theorem zfG:(((blq0)=true→(K (AM.mk (RF 22 85 (tX (tX tZ (tY (.int .i64 2))) (tX (tY .nilp) tZ)) [cdi 53 [1,0,1,0,0,1,1,0,0,1,1,0,1],cdi 22 [1,1]]) rest ⟨O,N,G⟩)))∧((blq0)=false→(K (AM.mk (enF 55 [sa,.fn (Fn.func 56) [] []]) ((zfF sa Nc)::rest) ⟨O,N,G⟩))))=OT f0 R keep K (.seq [.run 3] (.fork 20 (.seq [.run 11,.keep [4,5]] .fin) (.seq [.run 1,.keep [1,2,20,21],.run 1] .fin))) ((AM.mk (RF 53 17 (tX tZ (tX (tY (.bool blq0)) tZ)) td) ((ztl Nc sn sa)::rest) ⟨O,N,G⟩)):=by kernel_rfl
theorem kR:(((blq1)=true→(K (AM.mk (RF 22 85 (tX (tX tZ (tY (.int .i64 2))) (tX (tY .nilp) tZ)) [cdi 55 [1,0,1,0,0,1,1,0,0,1,1,0,1],cdi 22 [1,1]]) rest ⟨O,N,G⟩)))∧((blq1)=false→(∃ (s1:AV) (z1:Int) (s2:AV) (O1:T AObj) (z2:Int),(lC O N G Nc 0 s1)∧(lN O N G 32 s1 z1)∧(zR P (⟨O,N,G⟩) (67) (.int .i64 z1) (.int .i64 z1)=(some (s2,⟨O1,N+1,G⟩)))∧(lN O1 (N+1) G 67 s2 z2)∧K (Wra sa z2 0 Nc s2 rest O1 (N+1) G))))=OT f0 R keep K (.seq [.run 3] (.fork 23 (.seq [.run 7,.keep [4,5]] .fin) (.ex fun s1:AV=>(.ex fun z1:Int=>(.ex fun s2:AV=>(.ex fun O1:T AObj=>(.ex fun z2:Int=>(.seq [.run 4,.hop (s1) O,.hopn (.int .i64 z1) O (N),.hopn (s2) O1 (N+1),.run 6,.hopn (.int .i64 z2) O1 (N+1),.run 4,.keep [1,2,6,28,29]] .fin)))))))) ((AM.mk (RF 55 17 (tX tZ (tX (tY (.bool blq1)) tZ)) td) ((zfF sa Nc)::rest) ⟨O,N,G⟩)):=by kernel_rfl
theorem zc7:(∃ (O1:T AObj) (z1:Int),(T.set ((some (.cells (tW (tW (tY (.nils 0 0)) (.str []) tZ) (.int .i64 7) (tW (tY .nilp) (.nils 0 0) tZ)) 5 44 0 0 1 0 false .leaf))) (O) (N)=O1)∧(lN O1 (N+1) G 67 sl z1)∧K (Wrn sa z1 0 N mk sl rest O1 (N+1) G))=OT f0 R keep K (.ex fun O1:T AObj=>(.ex fun z1:Int=>(.seq [.run 5,.hop (.nilp) O1,.run 6,.hopn (.int .i64 z1) O1 (N+1),.run 4,.keep [1,2,8,42,43,44]] .fin))) ((AM.mk (RF 57 14 .leaf td) ((zkM sa mk sl)::rest) ⟨O,N,G⟩)):=by kernel_rfl
end
variable {O O':T AObj} {N:Nat} {G:T (T AV)}
theorem ztv:∀ n,zC [.int .i64 0] n=(List.replicate n 0).map kE
 | 0=>rfl
 | n+1=>by
  show [AV.int .i64 0]++zC _ n=_;rw [ztv n,List.replicate_succ];rfl
theorem zou {n:Nat}(h:n≤1000)(O:T AObj)(N:Nat)(G:T (T AV)):∃ O1,zR P ⟨O,N,G⟩ 67 (.int .i64 ((n:Nat):Int)) (.int .i64 ((n:Nat):Int))=some (.slc N 0 0 n n,⟨O1,N+1,G⟩)∧Obj O1 N ((List.replicate n 0).map kE)∧Frm O O1 N:=by
 obtain ⟨i,h1,h2,h3⟩:=iSl.info;have hz:qj P 3=some (.int .i64 0):=by kernel_rfl
 obtain ⟨O1,e1,b1,f1⟩:=Obj.mk (c:=zd .leaf 0 ((List.replicate n 0).map kE)) (el:=3) ((List.replicate n 0).map kE) O N _ rfl (fun k hk=>by rw [zk,if_pos ⟨Nat.zero_le _,by omega⟩,Nat.sub_zero,List.getD_eq_getElem?_getD,List.getElem?_eq_getElem hk]; rfl);refine ⟨O1,?_,b1,f1⟩;unfold zR;rw [iSl.und];show yF P _ 3 _ _=_;unfold yF;rw [h1,hz];show (if 0≤((n:Nat):Int)∧((n:Nat):Int)≤((n:Nat):Int)∧((n:Nat):Int)<2 ^ 40∧i.bytes*((n:Nat):Int)≤2 ^ 48∧(AV.int .i64 0).cells.length=i.size∧0<i.size∧(AV.int .i64 0).cells.all AV.one=true then _ else _)=_
 rw [if_pos ⟨by omega,by omega,by omega,by rw [h3]; omega,by rw [h2]; rfl,by rw [h2]; decide,rfl⟩];show some (AV.slc N 0 0 n n,xu ⟨O,N,G⟩ 3 (zC [.int .i64 0] n) false)=_;rw [ztv,← e1];rfl
theorem zkx {id n mk:Nat}{sa:AV}(hn1:n<1000){keep:Nat}{f0:FuncId}{Q:AV→AHeap→Prop}{rest:List AFrame}(hK:∀ O3,(∀ j,j≠id→O3.get j=O.get j)→Obj O3 id ((List.range n).map kE)→Goal P keep f0 Q (AM.mk (enF 57 [(.slc id 0 0 n n),.fn (Fn.func 58) [] [.ptr mk 0 0]]) (zkM sa mk (.slc id 0 0 n n)::rest) ⟨O3,N,G⟩)):∀ (c i:Nat) (O2:T AObj),i+c=n→(∀ j,j≠id→O2.get j=O.get j)→Obj O2 id ((List.range i++List.replicate c 0).map kE)→Goal P keep f0 Q (Wra sa ((n:Nat):Int) ((i:Nat):Int) mk (.slc id 0 0 n n) rest O2 N G):=by
 intro c
 induction c with
 | zero =>
  intro i O2 hi' f2 b2;refine ot zpD (fkf (decide_eq_false (by omega)) ?_);rw [List.replicate_zero,List.append_nil] at b2;obtain rfl:i=n:=by omega
  exact hK O2 f2 b2
 | succ c ih =>
  intro i O2 hi' f2 b2;obtain ⟨O3,e3,b3,f3⟩:=st67 i b2 (j:=i) (by rw [List.length_append,List.length_range,List.length_replicate]; omega) N G;have hset:(List.range i++List.replicate (c+1) 0).set i i=List.range (i+1)++List.replicate c 0:=by
   rw [List.set_append_right _ _ (by rw [List.length_range]; omega),List.length_range,Nat.sub_self,List.replicate_succ,List.set_cons_zero,List.range_succ,List.append_assoc];rfl
  rw [hset] at b3;refine ot zpD (fkt (decide_eq_true (by omega)) ?_);refine ⟨id,0,i,O3,zny (by omega),e3,?_⟩;have nx:=ih (i+1) O3 (by omega) (fun j hj=>(f3 j hj).trans (f2 j hj)) b3;rw [← zq (i:=i) (by omega)] at nx;exact nx
end Go.Proofs.Ytcdigdplhlgcaaa.gx
end
section
set_option maxRecDepth 100000
set_option linter.unusedVariables false
set_option linter.unusedSectionVars false
set_option linter.unusedSimpArgs false
namespace Go.Proofs.Ytcdigdplhlgcaaa.gx
open Go Ev tp
variable {O O':T AObj} {N:Nat} {G:T (T AV)}
theorem ztc {ps:List (Option Nat)}{k:Nat}(h:k<ps.length):ps[k]?=some (ps.getD k none):=by
 rw [List.getD_eq_getElem?_getD,List.getElem?_eq_getElem h]; rfl
theorem zdv {α β:Type}{f:α→β}{l:List α}{i:Nat}{k:α}(h:l[i]?=some k):(l.take (i+1)).map f=(l.take i).map f++[f k]:=by
 rw [List.take_add_one,h,List.map_append]; rfl
theorem zsW {ns:List ze}{ps:List (Option Nat)}{sn sa:AV}{hi mk id m n:Nat}{l:List Nat}(hn:SV O 1 sE 0 hi ns sn)(hs:SV O 1 pE 0 hi ps sa)(ob:Obj O mk [sn])(hr:Obj O id (l.map kE))(hll:l.length=n)(hn1:n<1000)(hb:∀ k∈l,k<ns.length)(hps:ps.length=ns.length)(hm:m<N)(hmk:mk<N)(hid:id<N)(hmm:mk≠m)(hidm:id≠m)(hhi:hi≤m){keep:Nat}{f0:FuncId}{Q:AV→AHeap→Prop}{rest:List AFrame}
 (hK:∀ O' N' s2 s3,N≤N'→(∀ j,j<N→j≠m→O'.get j=O.get j)→Obj O' m [.int .i64 7,.str [],s2,s3,.nilp]→GV O' 9 1 sE N N' (l.map fun k=>ns.getD k []) s2→GV O' 23 1 pE N N' (l.map fun k=>ps.getD k none) s3→Goal P keep f0 Q (AM.mk (enF 60 [s2]) (zqa s2 m::rest) ⟨O',N',G⟩)) :
 ∀ (c i:Nat) (O2:T AObj) (N2:Nat) (s2 s3:AV),i+c=n→N≤N2→(∀ j,j<N→j≠m→O2.get j=O.get j)→Obj O2 m [.int .i64 7,.str [],s2,s3,.nilp]→GV O2 9 1 sE N N2 ((l.take i).map fun k=>ns.getD k []) s2→GV O2 23 1 pE N N2 ((l.take i).map fun k=>ps.getD k none) s3→(s2≠.nils 0 0→s3≠.nils 0 0→sid s2≠sid s3)→Goal P keep f0 Q (Wrn sa ((n:Nat):Int) ((i:Nat):Int) m mk (.slc id 0 0 n n) rest O2 N2 G):=by
 intro c
 induction c with
 | zero =>
  intro i O2 N2 s2 s3 hi' hN2 f2 om gs gp hd;rw [List.take_of_length_le (by omega)] at gs gp;exact ot (zqx (sn:=sn) (sn2:=s2) (sa2:=s3)) (fkf (decide_eq_false (by omega)) ⟨om.ld 2 rfl,hK O2 N2 s2 s3 hN2 f2 om gs gp⟩)
 | succ c ih =>
  intro i O2 N2 s2 s3 hi' hN2 f2 om gs gp hd;obtain ⟨k,hk,hmem⟩:=nth (l:=l) (j:=i) (by omega);have hkn:=hb k hmem;have hx:=zqn hkn;have hy:=ztc (ps:=ps) (k:=k) (by omega);have hn2:=hn.keep (O':=O2) (fun j _ hj=>f2 j (by omega) (by omega)) (Nat.le_refl 0) (Nat.le_refl hi);have hs2:=hs.keep (O':=O2) (fun j _ hj=>f2 j (by omega) (by omega)) (Nat.le_refl 0) (Nat.le_refl hi);have ob2:=ob.same (f2 mk hmk hmm);have hr2:=hr.same (f2 id hid hidm);obtain ⟨a1,a2,a3,la,ha,ea,ra,_⟩:=hn2.at sSl sEn hx;obtain ⟨c1,c2,c3,lc,hc,ec,rc,_⟩:=hs2.at pSl pEn hy;obtain ⟨O3,e3,v3,_,f3⟩:=kU sEn (ns.getD k []) O2 N2 G (st:=32) (el:=9) (litS _);obtain ⟨O4,e4,v4,_,f4⟩:=kU pEn (ps.getD k none) O3 (N2+1) G (st:=33) (el:=23) (zrf _);have g2:=gs.keep (O':=O4) (fun j h1 h2=>(f4 j (by omega)).trans (f3 j (by omega))) (Nat.le_refl _) (show N2≤N2+2 by omega);have g3:=gp.keep (O':=O4) (fun j h1 h2=>(f4 j (by omega)).trans (f3 j (by omega))) (Nat.le_refl _) (show N2≤N2+2 by omega);obtain ⟨O5,N3,s4,e5,g5,n5,m5,f5,h5⟩:=g2.app sSl sEn (v3.keep (O':=O4) (fun j h1 h2=>f4 j (by omega)) (Nat.le_refl _) (Nat.le_refl _)) (by omega) (by rw [List.length_map,List.length_take]; simp only [List.length_cons,List.length_nil]; omega) G;have g3b:=g3.same (O':=O5) (fun h=>f5 _ (g3.sid_lt h).2 (fun h2 h3=>hd h2 h h3.symm)) (Nat.le_refl _) n5;obtain ⟨O6,N4,s5,e6,g6,n6,m6,f6,h6⟩:=g3b.app pSl pEn (v4.keep (O':=O5) (fun j h1 h2=>f5 j (by omega) (fun h=>by have:=(gs.sid_lt h).2; omega)) (Nat.le_refl _) (Nat.le_refl _)) (by omega) (by rw [List.length_map,List.length_take]; simp only [List.length_cons,List.length_nil]; omega) G;have g5b:=g5.same (O':=O6) (fun h=>f6 _ (g5.sid_lt h).2 (fun h3 h4=>by
   have:=(gp.sid_lt h3).2;rcases h5 with h5 | h5 | ⟨h5,h7⟩
   ·exact h h5
   ·omega
   ·exact hd h5 h3 (by omega))) (Nat.le_refl _) n6
  have om3:=om.same (f3 m (by omega));have om4:=om3.same (f4 m (by omega));have om5:=om4.same (f5 m (by omega) (fun h=>by have:=(gs.sid_lt h).1; omega));have om6:=om5.same (f6 m (by omega) (fun h=>by have:=(gp.sid_lt h).1; omega));have ob3:=ob2.same (f3 mk (by omega));have ob4:=ob3.same (f4 mk (by omega));have ra3:=ra.same (f3 a1 (by omega));have ra4:=ra3.same (f4 a1 (by omega));have rc3:=rc.same (f3 c1 (by omega));have rc4:=rc3.same (f4 c1 (by omega));have rc5:=rc4.same (f5 c1 (by omega) (fun h=>by have:=(gs.sid_lt h).1; omega));obtain ⟨O7,e7,b7,f7⟩:=om6.store 2 [s4] N4 G (Nat.le_of_ble_eq_true rfl) (by rw [List.all_cons,(g5.sv sEn).one]; rfl);obtain ⟨O8,e8,b8,f8⟩:=Obj.store (l:=[.int .i64 7,.str [],s4,s3,.nilp]) b7 3 [s5] N4 G (Nat.le_of_ble_eq_true rfl) (by rw [List.all_cons,(g6.sv pEn).one]; rfl);refine ot (zqx (sn:=sn) (sn2:=s2) (sa2:=s3)) (fkt (decide_eq_true (by omega)) ?_);refine ⟨id,0,i,_,a1,a2,a3,_,O3,c1,c2,c3,pv (ps.getD k none),O4,s4,O5,N3,s5,O6,N4,O7,O8,zny (by omega),zrQ hr2 hk _ _,om.ld 2 rfl,ob2.ld 0 rfl,ea,ra.load rfl _ _,e3,ra3.load rfl _ _,ob3.ld 0 rfl,yT hn,om3.ld 2 rfl,yT (gs.sv sEn),om3.ld 3 rfl,ec,rc3.load rfl _ _,e4,rc4.load rfl _ _,zan _,om4.ld 3 rfl,yT (gp.sv pEn),ra4.load rfl _ _,ob4.ld 0 rfl,yT hn,om4.ld 2 rfl,yT (gs.sv sEn),e5,rc5.load rfl _ _,zan _,om5.ld 3 rfl,yT (gp.sv pEn),e6,st1 (g5.sv sEn).cells e7,st1 (g6.sv pEn).cells e8,?_⟩;have nx:=ih (i+1) O8 N4 s4 s5 (by omega) (by omega) (fun j hj hjm=>(f8 j hjm).trans ((f7 j hjm).trans ((f6 j (by omega) (fun h=>by have:=(gp.sid_lt h).1; omega)).trans ((f5 j (by omega) (fun h=>by have:=(gs.sid_lt h).1; omega)).trans ((f4 j (by omega)).trans ((f3 j (by omega)).trans (f2 j hj hjm))))))) b8
   (by rw [zdv hk]; exact g5b.same (fun h=>(f8 _ (by have:=(g5.sid_lt h).1; omega)).trans (f7 _ (by have:=(g5.sid_lt h).1; omega))) (Nat.le_refl _) (Nat.le_refl _))
   (by rw [zdv hk]; exact g6.same (fun h=>(f8 _ (by have:=(g6.sid_lt h).1; omega)).trans (f7 _ (by have:=(g6.sid_lt h).1; omega))) (Nat.le_refl _) (Nat.le_refl _))
   (fun h2 h3=>by
    have q5:=(g5.sid_lt h2).2;rcases h5 with h5 | h5 | ⟨h5,h7⟩
    ·exact absurd h5 h2
    ·rcases h6 with h6 | h6 | ⟨h6,h8⟩
     ·exact absurd h6 h3
     ·omega
     ·have:=(gp.sid_lt h6).2; omega
    ·have q2:=(gs.sid_lt h5).2;rcases h6 with h6 | h6 | ⟨h6,h8⟩
     ·exact absurd h6 h3
     ·omega
     ·have:=hd h5 h6; omega)
  rw [← zq (i:=i) (by omega)] at nx;exact nx
end Go.Proofs.Ytcdigdplhlgcaaa.gx
end
section
set_option maxRecDepth 100000
set_option linter.unusedVariables false
set_option linter.unusedSectionVars false
set_option linter.unusedSimpArgs false
namespace Go.Proofs.Ytcdigdplhlgcaaa.gx
open Go Ev tp
section
variable (n j j2:Int) (sl:AV) (jj:Int) (rest:List AFrame) (O:T AObj) (N:Nat) (G:T (T AV)) (w w2:List UInt8)
noncomputable def Wswr:AM:=⟨frm 143 38 (tW (tW (tY (.int .i64 n)) (.int .i64 j) tZ) sl (tW tZ (.int .i64 j2) (tX (tY (.int .i64 jj)) tZ))) [cdi 143 [1,0,0],ili 143 [1,0,0],.inBlock 0],rest,⟨O,N,G⟩⟩
noncomputable def Fcom:AFrame:=frm 69 10 (tX tZ (tX (tX (tY (.str w2)) tZ) (tY (.str w)))) [opi 69 [1,0] 4,cdi 69 [1,1]]
end
section
variable {R:AV→AHeap→Prop} {keep N:Nat} {f0:FuncId} {rest:List AFrame} {O:T AObj} {w w2:List UInt8} {v v2 sl:AV} {G:T (T AV)} {K:AM→Prop} {td:List AItem} {crq0 n j j2 jj:Int}
theorem t_com:(∃ (O1:T AObj) (O2:T AObj),((Nat.beq (2) (AV.agg [AV.str w,v]).cells.length&&(AV.agg [AV.str w,v]).cells.all AV.one)=true∧T.set (some (AObj.cells (zd T.leaf 0 (AV.agg [AV.str w,v]).cells) (AV.agg [AV.str w,v]).cells.length 79 0 0 1 0 false T.leaf)) (⟨O,N,G⟩:AHeap).objs N=O1)∧((Nat.beq (2) (AV.agg [AV.str w2,v2]).cells.length&&(AV.agg [AV.str w2,v2]).cells.all AV.one)=true∧T.set (some (AObj.cells (zd T.leaf 0 (AV.agg [AV.str w2,v2]).cells) (AV.agg [AV.str w2,v2]).cells.length 79 0 0 1 0 false T.leaf)) (⟨O1,N+1,G⟩:AHeap).objs (N+1)=O2)∧(lC O2 (N+2) G N 0 (.str w))∧(zb (⟨O2,N+2,G⟩) (N+1) (0) (0) (1)=(some [.str w2]))∧K (AM.mk (enF 59 [.str w,.str w2]) ((Fcom w w2)::rest) ⟨O2,N+2,G⟩))=OT f0 R keep K (.ex fun O1:T AObj=>(.ex fun O2:T AObj=>(.seq [.run 2,.hopn (.nilp) O1 (N),.hopn (.nilp) O2 (N+1),.run 5,.hop (.str w) O2,.run 1,.hop (.str w2) O2,.keep [6,8],.run 1] .fin))) ((AM.mk (enF 69 [.agg [.str w,v],.agg [.str w2,v2]]) rest ⟨O,N,G⟩)):=by kernel_rfl
theorem zm9:(K (AM.mk (RF 69 10 (tX tZ (tX (tY (.int .i64 crq0)) tZ)) [cdi 69 [1,1]]) rest ⟨O,N,G⟩))=OT f0 R keep K (.seq [.run 4,.keep [4]] .fin) ((AM.mk (RF 59 20 (tX tZ (tX (tY (.int .i64 crq0)) tZ)) td) ((Fcom w w2)::rest) ⟨O,N,G⟩)):=by kernel_rfl
theorem t_swr:(K (Wswr n j j2 sl 0 rest O N G))=OT f0 R keep K (.seq [.run 6,.keep [0,1,2,3,10]] .fin) ((AM.mk (enF 143 [sl,.int .i64 j,.int .i64 j2,.int .i64 n,.fn (Fn.func 69) [] []]) rest ⟨O,N,G⟩)):=by kernel_rfl
theorem ztV:(((decide (jj<n))=true→(∃ (i1:Nat) (i2:Nat) (i3:Nat) (l1:List UInt8) (s1:AV) (i4:Nat) (i5:Nat) (i6:Nat) (l2:List UInt8) (s2:AV) (i7:Nat) (i8:Nat) (i9:Nat) (O1:T AObj) (i10:Nat) (i11:Nat) (i12:Nat) (O2:T AObj),(zf P (75) (sl) (.int .i64 (IntKind.i64.wrap (j2+jj)))=(some (.ptr i1 i2 i3)))∧(zb (⟨O,N,G⟩) (i1) (i2) (i3) (2)=(some [.str l1,s1]))∧(zf P (75) (sl) (.int .i64 (IntKind.i64.wrap (j+jj)))=(some (.ptr i4 i5 i6)))∧(zb (⟨O,N,G⟩) (i4) (i5) (i6) (2)=(some [.str l2,s2]))∧(zf P (75) (sl) (.int .i64 (IntKind.i64.wrap (j+jj)))=(some (.ptr i7 i8 i9)))∧((AV.agg [AV.str l1,s1]).cells.length.beq (2)=true∧zc (⟨O,N,G⟩:AHeap) i7 i8 i9 (AV.agg [AV.str l1,s1]).cells=some (⟨O1,N,G⟩:AHeap))∧(qq P (⟨O1,N,G⟩) (BinOp.add) (3) (false) (.int .i64 j2) (.int .i64 jj)=(some (.int .i64 (IntKind.i64.wrap (j2+jj)))))∧(zf P (75) (sl) (.int .i64 (IntKind.i64.wrap (j2+jj)))=(some (.ptr i10 i11 i12)))∧((AV.agg [AV.str l2,s2]).cells.length.beq (2)=true∧zc (⟨O1,N,G⟩:AHeap) i10 i11 i12 (AV.agg [AV.str l2,s2]).cells=some (⟨O2,N,G⟩:AHeap))∧K (Wswr n j j2 sl (IntKind.i64.wrap (jj+(1:Int))) rest O2 N G)))∧((decide (jj<n))=false→(K (AM.mk (RF 143 38 .leaf []) rest ⟨O,N,G⟩))))=OT f0 R keep K (.seq [.run 7] (.fork 13 (.ex fun i1:Nat=>(.ex fun i2:Nat=>(.ex fun i3:Nat=>(.ex fun l1:List UInt8=>(.ex fun s1:AV=>(.ex fun i4:Nat=>(.ex fun i5:Nat=>(.ex fun i6:Nat=>(.ex fun l2:List UInt8=>(.ex fun s2:AV=>(.ex fun i7:Nat=>(.ex fun i8:Nat=>(.ex fun i9:Nat=>(.ex fun O1:T AObj=>(.ex fun i10:Nat=>(.ex fun i11:Nat=>(.ex fun i12:Nat=>(.ex fun O2:T AObj=>(.seq [.run 17,.hopn (.ptr i1 i2 i3) O (N),.hop (.agg [.str l1,s1]) O,.run 4,.hopn (.ptr i4 i5 i6) O (N),.hop (.agg [.str l2,s2]) O,.hopn (.ptr i7 i8 i9) O (N),.hopn (.nilp) O1 (N),.hopn (.ptr i10 i11 i12) O1 (N),.hopn (.nilp) O2 (N),.run 8,.keep [0,1,2,3,10]] .fin))))))))))))))))))) (.seq [.run 3,.keep []] .fin))) ((Wswr n j j2 sl jj rest O N G)):=by kernel_rfl
end
variable {O O':T AObj} {N:Nat} {G:T (T AV)}
abbrev TE:=ze × Option Nat
def tE (e:TE):List AV:=[.str e.1,pv e.2]
theorem tEn:Enc 2 tE:=⟨fun _=>rfl,fun a=>by obtain ⟨x,p⟩:=a; cases p <;> rfl,by decide⟩
theorem tSl:SlT 75 79 2 24:=SlT.mk' (by kernel_rfl) (by kernel_rfl) (by kernel_rfl) (by kernel_rfl) (by kernel_rfl) rfl rfl
theorem st2 {e:TE}{h:AHeap}{r:Option AHeap}{i v o:Nat}(g:zc h i v o (tE e)=r):(AV.agg [AV.str e.1,pv e.2]).cells.length.beq 2=true∧zc h i v o (AV.agg [AV.str e.1,pv e.2]).cells=r:=by
 obtain ⟨x,p⟩:=e;cases p <;> exact ⟨rfl,g⟩
theorem GV.put2 {α:Type}{enc:α→List AV}{sz:Nat}{st el:TypeId}{by' lo hi j:Nat}(S:SlT st el sz by')(E:Enc sz enc){xs:List α}{s:AV}{a b:α}(h:GV O el sz enc lo hi xs s)(hj:xs[j]?=some a)(hs:∃ ri q o n t,s=.slg ri q o n t)(N:Nat)(G:T (T AV)) :
 ∃ ri z off O',zf P st s (.int .i64 ((j:Nat):Int))=some (.ptr ri z off)∧zc ⟨O,N,G⟩ ri z off (enc b)=some ⟨O',N,G⟩∧GV O' el sz enc lo hi (xs.set j b) s∧Frm O O' ri∧ri=sid s:=by
 rcases h with ⟨rfl,rfl⟩ | ⟨ri,z,off,rfl,g1,g2,rd⟩ | ⟨ri,q,st',c,l0,sg,ex,rfl,g1,g2,g3,g4,g5⟩
 ·cases hj
 ·obtain ⟨_,_,_,_,_,h⟩:=hs;cases h
 ·obtain ⟨hjl,hja⟩:=List.getElem?_eq_some_iff.1 hj;have hext:zG ex (st'*sz+xs.length*sz) q q=some (st'*sz+xs.length*sz):=by unfold zG; rw [if_pos rfl]
  have hb:j*sz+sz≤xs.length*sz:=by
   calc j*sz+sz=(j+1)*sz:=by rw [Nat.add_mul]; omega
    _≤xs.length*sz:=Nat.mul_le_mul_right _ hjl
  have hset:(xs.set j b).flatMap enc=(xs.flatMap enc).take (j*sz)++enc b++(xs.flatMap enc).drop (j*sz+(enc b).length):=by
   rw [E.len,E.take _ _ (by omega),show j*sz+sz=(j+1)*sz by rw [Nat.add_mul]; omega,E.drop];rw [List.set_eq_take_append_cons_drop,if_pos hjl,List.flatMap_append,List.flatMap_cons,List.append_assoc]
  refine ⟨ri,q,st'*sz+j*sz,O.set (some (.cells (zd c (st'*sz+j*sz) (enc b)) (st'*sz+xs.length*sz) el q q (q+1) 0 sg ex)) ri,?_,?_,.inr (.inr ⟨ri,q,st',_,q,sg,ex,by rw [List.length_set],g1,g2,Nat.le_refl _,by rw [T.get_set,if_pos rfl,List.length_set],?_⟩),fun j hj=>by rw [T.get_set,if_neg hj],rfl⟩
  ·unfold zf;rw [S.und];simp only [S.size];unfold zc6;simp only;unfold xZ;rw [if_pos ⟨by omega,by omega⟩];rfl
  ·unfold zc;show (match O.get ri with | some (.cells c n el lo hi nv fz sg ex)=>_ | _=>_)=_
   rw [g4];simp only [hext];rw [if_pos ⟨g3,Nat.le_refl _,by rw [E.len]; omega,Nat.zero_le _,E.one b⟩,T.seq_eq];rfl
  ·rw [hset];exact g5.set (by rw [E.len,E.flat]; exact hb)
def Fx (xs:List TE) (i:Nat):TE:=xs.getD i ([],none)
theorem zbh {xs:List TE}{i:Nat}(h:i<xs.length):xs[i]?=some (Fx xs i):=by
 unfold Fx;rw [List.getD_eq_getElem?_getD,List.getElem?_eq_getElem h]; rfl
theorem zlF {xs:List TE}{i k:Nat}{v:TE}(h:i<xs.length):Fx (xs.set i v) k=if k=i then v else Fx xs k:=by
 unfold Fx;rw [List.getD_eq_getElem?_getD,List.getElem?_set]
 by_cases e:k=i
 ·subst e;rw [if_pos rfl,if_pos rfl,if_pos h];rfl
 ·rw [if_neg (fun g=>e g.symm),if_neg e,List.getD_eq_getElem?_getD]
def swp (xs:List TE) (i j:Nat):List TE:=(xs.set j (Fx xs i)).set i (Fx xs j)
theorem zd0 {xs:List TE}{i j:Nat}:(swp xs i j).length=xs.length:=by unfold swp; rw [List.length_set,List.length_set]
theorem zfC {xs:List TE}{i j k:Nat}(hi:i<xs.length)(hj:j<xs.length):Fx (swp xs i j) k=if k=i then Fx xs j else if k=j then Fx xs i else Fx xs k:=by
 unfold swp;rw [zlF (by rw [List.length_set]; exact hi),zlF hj]
structure Arr (O:T AObj) (lo hi:Nat) (s:AV) (xs:List TE):Prop where
 gv:GV O 79 2 tE lo hi xs s
 sg:∃ ri q o n t,s=.slg ri q o n t
theorem Arr.ne {lo hi:Nat}{s:AV}{xs:List TE}(h:Arr O lo hi s xs):s≠.nils 0 0:=by
 obtain ⟨_,_,_,_,_,e⟩:=h.sg;rw [e];intro h;cases h
theorem Arr.sid {lo hi:Nat}{s:AV}{xs:List TE}(h:Arr O lo hi s xs):lo≤sid s∧sid s<hi:=h.gv.sid_lt h.ne
def Chg (s:AV) (O:T AObj) (N:Nat) (O':T AObj) (N':Nat):Prop:=N≤N'∧∀ j,j<N→j≠sid s→O'.get j=O.get j
theorem Chg.refl {s:AV}:Chg s O N O N:=⟨Nat.le_refl _,fun _ _ _=>rfl⟩
theorem Chg.trans {s:AV}{O1 O2:T AObj}{N1 N2:Nat}(h:Chg s O N O1 N1)(g:Chg s O1 N1 O2 N2):Chg s O N O2 N2:=⟨Nat.le_trans h.1 g.1,fun j h1 h2=>(g.2 j (Nat.lt_of_lt_of_le h1 h.1) h2).trans (h.2 j h1 h2)⟩
theorem Chg.ext {s:AV}{O1:T AObj}{N1:Nat}(h:Ext O N O1 N1):Chg s O N O1 N1:=⟨h.1,fun j h1 _=>h.2 j h1⟩
theorem Arr.ext {lo hi:Nat}{s:AV}{xs:List TE}{O1:T AObj}{N1:Nat}(h:Arr O lo hi s xs)(e:Ext O N O1 N1)(hN:hi≤N):Arr O1 lo hi s xs:=⟨h.gv.keep (fun j _ hj=>e.2 j (by omega)) (Nat.le_refl _) (Nat.le_refl _),h.sg⟩
theorem Arr.elem {lo hi i:Nat}{s:AV}{xs:List TE}(h:Arr O lo hi s xs)(hi':i<xs.length):∃ a1 a2 a3,zf P 75 s (.int .i64 ((i:Nat):Int))=some (.ptr a1 a2 a3)∧∀ (N:Nat) (G:T (T AV)),zb ⟨O,N,G⟩ a1 a2 a3 2=some (tE (Fx xs i)):=by
 obtain ⟨a1,a2,a3,_,_,e,rd,_⟩:=(h.gv.sv tEn).at tSl tEn (zbh hi');exact ⟨a1,a2,a3,e,fun N G=>rd.load rfl N G⟩
theorem Arr.swap {lo hi i j:Nat}{s:AV}{xs:List TE}(h:Arr O lo hi s xs)(hi':i<xs.length)(hj:j<xs.length)(N:Nat)(G:T (T AV)):∃ a1 a2 a3 b1 b2 b3 O1 O2,
 zf P 75 s (.int .i64 ((i:Nat):Int))=some (.ptr a1 a2 a3)∧zb ⟨O,N,G⟩ a1 a2 a3 2=some (tE (Fx xs i))∧zf P 75 s (.int .i64 ((j:Nat):Int))=some (.ptr b1 b2 b3)∧zb ⟨O,N,G⟩ b1 b2 b3 2=some (tE (Fx xs j)) ∧
 zc ⟨O,N,G⟩ b1 b2 b3 (tE (Fx xs i))=some ⟨O1,N,G⟩∧zc ⟨O1,N,G⟩ a1 a2 a3 (tE (Fx xs j))=some ⟨O2,N,G⟩∧Arr O2 lo hi s (swp xs i j)∧Chg s O N O2 N:=by
 obtain ⟨a1,a2,a3,e1,l1⟩:=h.elem hi';obtain ⟨b1,b2,b3,e2,l2⟩:=h.elem hj;obtain ⟨p1,p2,p3,O1,e3,s3,g3,f3,d3⟩:=h.gv.put2 tSl tEn (b:=Fx xs i) (zbh hj) h.sg N G;obtain ⟨rfl,rfl,rfl⟩:b1=p1∧b2=p2∧b3=p3:=by
  rw [e2] at e3;injection e3 with e3;injection e3 with h1 h2 h3;exact ⟨h1,h2,h3⟩
 obtain ⟨q1,q2,q3,O2,e4,s4,g4,f4,d4⟩:=g3.put2 tSl tEn (j:=i) (b:=Fx xs j) (zbh (by rw [List.length_set]; exact hi')) h.sg N G;obtain ⟨rfl,rfl,rfl⟩:a1=q1∧a2=q2∧a3=q3:=by
  rw [e1] at e4;injection e4 with e4;injection e4 with h1 h2 h3;exact ⟨h1,h2,h3⟩
 exact ⟨a1,a2,a3,b1,b2,b3,O1,O2,e1,l1 N G,e2,l2 N G,s3,s4,⟨g4,h.sg⟩,Nat.le_refl _,fun k _ hk=>(f4 k (by rw [d4]; exact hk)).trans (f3 k (by rw [d3]; exact hk))⟩
theorem zhp {e e2:TE}{keep:Nat}{f0:FuncId}{Q:AV→AHeap→Prop}{rest:List AFrame}(hK:∀ O' N' z td,(z<0 ↔ Op.bytesLess e.1 e2.1=true)→Ext O N O' N'→Goal P keep f0 Q (AM.mk (RF 69 10 (tX tZ (tX (tY (.int .i64 z)) tZ)) td) rest ⟨O',N',G⟩)):Goal P keep f0 Q (AM.mk (enF 69 [.agg [.str e.1,pv e.2],.agg [.str e2.1,pv e2.2]]) rest ⟨O,N,G⟩):=by
 obtain ⟨O1,e1,b1,f1⟩:=Obj.box (t:=79) [.str e.1,pv e.2] (by cases e.2 <;> rfl) O N 2 rfl;obtain ⟨O2,e2',b2,f2⟩:=Obj.box (t:=79) [.str e2.1,pv e2.2] (by cases e2.2 <;> rfl) O1 (N+1) 2 rfl;refine ot t_com ⟨O1,O2,e1,e2',(b1.same (f2 N (by omega))).ld 0 rfl,b2.ld 0 rfl,?_⟩;refine zoq fun z td hz=>?_;exact ot zm9 (hK O2 (N+2) z _ hz ⟨by omega,fun j hj=>(f2 j (by omega)).trans (f1 j (by omega))⟩)
def swr (xs:List TE) (a b n:Nat) (k:Nat):TE:=if a≤k∧k<a+n then Fx xs (k - a+b) else if b≤k∧k<b+n then Fx xs (k - b+a) else Fx xs k
theorem zj0 {lo hi a b n:Nat}{s:AV}{xs:List TE}(h:Arr O lo hi s xs)(hab:a+n≤b)(hb:b+n≤xs.length)(hx:xs.length<1000000){keep:Nat}{f0:FuncId}{Q:AV→AHeap→Prop}{rest:List AFrame}
 (hK:∀ O' ys,Arr O' lo hi s ys→Chg s O N O' N→ys.length=xs.length→(∀ k,Fx ys k=swr xs a b n k)→Goal P keep f0 Q (AM.mk (RF 143 38 .leaf []) rest ⟨O',N,G⟩)):Goal P keep f0 Q (AM.mk (enF 143 [s,.int .i64 ((a:Nat):Int),.int .i64 ((b:Nat):Int),.int .i64 ((n:Nat):Int),.fn (Fn.func 69) [] []]) rest ⟨O,N,G⟩):=by
 have loop:∀ (c i:Nat) (O2:T AObj) (ys:List TE),i+c=n→Arr O2 lo hi s ys→Chg s O N O2 N→ys.length=xs.length→(∀ k,Fx ys k=swr xs a b i k)→Goal P keep f0 Q (Wswr ((n:Nat):Int) ((a:Nat):Int) ((b:Nat):Int) s ((i:Nat):Int) rest O2 N G):=by
  intro c
  induction c with
  | zero =>
   intro i O2 ys hi' h2 c2 l2 f2;obtain rfl:i=n:=by omega
   exact ot ztV (fkf (decide_eq_false (by omega)) (hK O2 ys h2 c2 l2 f2))
  | succ c ih =>
   intro i O2 ys hi' h2 c2 l2 f2;obtain ⟨a1,a2,a3,b1,b2,b3,O3,O4,eA,lA,eB,lB,sB,sA,h4,c4⟩:=h2.swap (i:=b+i) (j:=a+i) (by omega) (by omega) N G;have wA:IntKind.i64.wrap (((b:Nat):Int)+((i:Nat):Int))=((b+i:Nat):Int):=by rw [IntKind.wrap_i64]; omega
   have wB:IntKind.i64.wrap (((a:Nat):Int)+((i:Nat):Int))=((a+i:Nat):Int):=by rw [IntKind.wrap_i64]; omega
   rw [← wA] at eA;rw [← wB] at eB;refine ot ztV (fkt (decide_eq_true (by omega)) ?_);refine ⟨a1,a2,a3,_,_,b1,b2,b3,_,_,b1,b2,b3,O3,a1,a2,a3,O4,eA,lA,eB,lB,eB,(st2 sB),rfl,eA,(st2 sA),?_⟩;have nx:=ih (i+1) O4 (swp ys (b+i) (a+i)) (by omega) h4 (c2.trans c4) (by rw [zd0,l2]) (fun k=>?_)
   ·rw [← zq (i:=i) (by omega)] at nx;exact nx
   ·rw [zfC (by omega) (by omega),f2,f2,f2];unfold swr
    by_cases g1:k=b+i
    ·subst g1;rw [if_pos rfl,if_neg (by omega),if_neg (by omega),if_neg (by omega),if_pos (by omega)];congr 1;omega
    ·rw [if_neg g1]
     by_cases g2:k=a+i
     ·subst g2;rw [if_pos rfl,if_neg (by omega),if_neg (by omega),if_pos (by omega)];congr 1;omega
     ·rw [if_neg g2]
      by_cases g3:a≤k∧k<a+i
      ·rw [if_pos g3,if_pos (by omega)]
      ·rw [if_neg g3,if_neg (show ¬ (a≤k∧k<a+(i+1)) by omega)]
       by_cases g4:b≤k∧k<b+i
       ·rw [if_pos g4,if_pos (show b≤k∧k<b+(i+1) by omega)]
       ·rw [if_neg g4,if_neg (show ¬ (b≤k∧k<b+(i+1)) by omega)]
 exact ot t_swr (loop n 0 O xs (Nat.zero_add _) h Chg.refl rfl (fun k=>by unfold swr; rw [if_neg (by omega),if_neg (by omega)]))
end Go.Proofs.Ytcdigdplhlgcaaa.gx
end
section
set_option maxRecDepth 100000
set_option linter.unusedVariables false
set_option linter.unusedSectionVars false
set_option linter.unusedSimpArgs false
namespace Go.Proofs.Ytcdigdplhlgcaaa.gx
open Go Ev tp
section
variable (j2 n j:Int) (sl:AV) (i1 i2 i3 i4 i5 i6:Nat) (s1 s2:AV) (l1 l2:List UInt8) (a b:Int) (rest:List AFrame) (O:T AObj) (N:Nat) (G:T (T AV))
noncomputable def ztN:AM:=⟨frm 141 58 (tW (tX (tX tZ (tY (.int .i64 b))) tZ) sl (tW (tY (.fn (Fn.func (69:FuncId)) [] [])) (.int .i64 j2) (tX (tY (.int .i64 a)) tZ))) [cdi 141 [1,1,0,0,0],ili 141 [1,1,0,0,0],.inBlock 0,cdi 141 [1,1,1]],rest,⟨O,N,G⟩⟩
noncomputable def zro:AM:=⟨frm 125 53 (tW (tW (tY (.fn (Fn.func (69:FuncId)) [] [])) (.int .i64 j) tZ) sl (tW (tX (tY (.int .i64 a)) tZ) (.int .i64 n) tZ)) [cdi 125 [1,0,0],ili 125 [1,0,0],.inBlock 0],rest,⟨O,N,G⟩⟩
noncomputable def Winv:AM:=⟨frm 125 53 (tW (tW (tY (.fn (Fn.func (69:FuncId)) [] [])) (.int .i64 j) (tX (tY (.int .i64 b)) tZ)) sl (tW (tX (tY (.int .i64 a)) tZ) (.int .i64 n) tZ)) [cdi 125 [1,0,0,1,0,0,1,0,0],ili 125 [1,0,0,1,0,0,1,0,0],.inBlock 2,.inBlock 1,cdi 125 [1,0,0,1,1],ili 125 [1,0,0],.inBlock 0],rest,⟨O,N,G⟩⟩
noncomputable def zrw:AFrame:=frm 125 53 (tW (tW (tW (tX (tX (tY (.agg [.str l2,s2])) tZ) (tY sl)) (.fn (Fn.func (69:FuncId)) [] []) (tX (tY (.int .i64 j)) (tY sl))) (.int .i64 j) (tX (tW tZ (.int .i64 b) (tY (.ptr i1 i2 i3))) (tX (tY (.bool true)) (tY (.int .i64 (IntKind.i64.wrap (b - (1:Int)))))))) sl (tW (tX (tW tZ (.int .i64 a) (tY (.int .i64 b))) (tX (tY (.bool (decide (b > j)))) (tY (.int .i64 b)))) (.int .i64 n) (tX (tX (tY (.int .i64 b)) (tY (.agg [.str l1,s1]))) (tX (tY (.fn (Fn.func (69:FuncId)) [] [])) (tY (.ptr i4 i5 i6)))))) [.drw (rg P 125 [1,0,0,1,0,0,1,0,0,0,0]) [14,15,16] [13,12,11,10,9,8,7,6,5,4,3,2,1,0],cdi 125 [1,0,0,1,0,0,1,0,0,0,1],cdi 125 [1,0,0,1,0,0,1,0,0,1],ili 125 [1,0,0,1,0,0,1,0,0],.inBlock 2,.inBlock 1,cdi 125 [1,0,0,1,1],ili 125 [1,0,0],.inBlock 0]
noncomputable def zok:AFrame:=frm 141 58 (tW (tX (tX tZ (tW tZ (.int .i64 b) (tY (.int .i64 (IntKind.i64.wrap (j2 - a)))))) (tX tZ (tX tZ (tY (.int .i64 b))))) sl (tW (tW (tX tZ (tY sl)) (.fn (Fn.func (69:FuncId)) [] []) (tX tZ (tY (.int .i64 j2)))) (.int .i64 j2) (tX (tY (.int .i64 a)) (tX tZ (tY (.fn (Fn.func (69:FuncId)) [] [])))))) [opi 141 [1,1,0,0,0,1,0,1,0,0] 7,cdi 141 [1,1,0,0,0,1,0,1,0,1],.inBlock 1,ili 141 [1,1,0,0,0],.inBlock 0,cdi 141 [1,1,1]]
noncomputable def zo7:AFrame:=frm 141 58 (tW (tX (tX tZ (tW (tX (tY sl) tZ) (.int .i64 b) (tX (tY (.int .i64 (IntKind.i64.wrap (IntKind.i64.wrap (j2+b) - a)))) tZ))) (tX tZ (tX tZ (tX (tY (.fn (Fn.func (69:FuncId)) [] [])) tZ)))) sl (tW (tW tZ (.fn (Fn.func (69:FuncId)) [] []) (tX tZ (tX (tY (.int .i64 a)) tZ))) (.int .i64 j2) (tX (tY (.int .i64 a)) (tX (tX (tY (.int .i64 (IntKind.i64.wrap (j2 - a)))) tZ) tZ)))) [opi 141 [1,1,0,0,0,1,0,1,1,0] 11,cdi 141 [1,1,0,0,0,1,0,1,1,1],.inBlock 1,ili 141 [1,1,0,0,0],.inBlock 0,cdi 141 [1,1,1]]
noncomputable def zrr:AFrame:=frm 141 58 (tX (tX (tX (tX tZ (tX tZ (tY (.int .i64 a)))) tZ) (tX tZ (tX (tX tZ (tY (.int .i64 (IntKind.i64.wrap (j2 - a))))) tZ))) (tX (tX (tX tZ (tX tZ (tY (.fn (Fn.func (69:FuncId)) [] [])))) tZ) (tX (tX (tX tZ (tY sl)) tZ) (tX (tX tZ (tY (.int .i64 j2))) tZ)))) [opi 141 [1,1,1] 7]
end
section
variable {R:AV→AHeap→Prop} {keep N i1c i2c i3c i4c i5c i6c:Nat} {f0:FuncId} {rest:List AFrame} {O:T AObj} {n j j2 a b crq0:Int} {sl s1c s2c:AV} {G:T (T AV)} {K:AM→Prop} {td:List AItem} {l1c l2c:List UInt8}
theorem t_rot:(K (ztN j2 sl (IntKind.i64.wrap (j2 - j)) (IntKind.i64.wrap (n - j2)) rest O N G))=OT f0 R keep K (.seq [.run 17,.keep [0,2,4,10,11]] .fin) ((AM.mk (enF 141 [sl,.int .i64 j,.int .i64 j2,.int .i64 n,.fn (Fn.func 69) [] []]) rest ⟨O,N,G⟩)):=by kernel_rfl
theorem t_rol:((((a != b))=true→(((decide (a > b))=true→(K (AM.mk (enF 143 [sl,.int .i64 (IntKind.i64.wrap (j2 - a)),.int .i64 j2,.int .i64 b,.fn (Fn.func (69:FuncId)) [] []]) ((zok j2 sl a b)::rest) ⟨O,N,G⟩)))∧((decide (a > b))=false→(K (AM.mk (enF 143 [sl,.int .i64 (IntKind.i64.wrap (j2 - a)),.int .i64 (IntKind.i64.wrap (IntKind.i64.wrap (j2+b) - a)),.int .i64 a,.fn (Fn.func (69:FuncId)) [] []]) ((zo7 j2 sl a b)::rest) ⟨O,N,G⟩)))))∧(((a != b))=false→(K (AM.mk (enF 143 [sl,.int .i64 (IntKind.i64.wrap (j2 - a)),.int .i64 j2,.int .i64 a,.fn (Fn.func (69:FuncId)) [] []]) ((zrr j2 sl a)::rest) ⟨O,N,G⟩))))=OT f0 R keep K (.seq [.run 7] (.fork 20 (.seq [.run 9] (.fork 23 (.seq [.run 10,.keep [0,2,4,10,11,24,27,28,29,30],.run 1] .fin) (.seq [.run 14,.keep [0,2,4,10,11,35,38,43,44,45],.run 1] .fin))) (.seq [.run 10,.keep [50,53,54,55,56],.run 1] .fin))) ((ztN j2 sl a b rest O N G)):=by kernel_rfl
theorem zi0:(K (ztN j2 sl (IntKind.i64.wrap (a - b)) b rest O N G))=OT f0 R keep K (.seq [.run 10,.keep [0,2,4,10,11]] .fin) ((AM.mk (RF 143 38 .leaf td) ((zok j2 sl a b)::rest) ⟨O,N,G⟩)):=by kernel_rfl
theorem zjq:(K (ztN j2 sl a (IntKind.i64.wrap (b - a)) rest O N G))=OT f0 R keep K (.seq [.run 10,.keep [0,2,4,10,11]] .fin) ((AM.mk (RF 143 38 .leaf td) ((zo7 j2 sl a b)::rest) ⟨O,N,G⟩)):=by kernel_rfl
theorem zli:(K (AM.mk (RF 141 58 .leaf []) rest ⟨O,N,G⟩))=OT f0 R keep K (.seq [.run 3,.keep []] .fin) ((AM.mk (RF 143 38 .leaf td) ((zrr j2 sl a)::rest) ⟨O,N,G⟩)):=by kernel_rfl
theorem t_int:(K (zro n j sl (IntKind.i64.wrap (j+(1:Int))) rest O N G))=OT f0 R keep K (.seq [.run 8,.keep [0,1,2,3,8]] .fin) ((AM.mk (enF 125 [sl,.int .i64 j,.int .i64 n,.fn (Fn.func 69) [] []]) rest ⟨O,N,G⟩)):=by kernel_rfl
theorem zqe:(((decide (a<n))=true→(K (Winv n j sl a a rest O N G)))∧((decide (a<n))=false→(K (AM.mk (RF 125 53 .leaf []) rest ⟨O,N,G⟩))))=OT f0 R keep K (.seq [.run 7] (.fork 14 (.seq [.run 11,.keep [0,1,2,3,8,9]] .fin) (.seq [.run 3,.keep []] .fin))) ((zro n j sl a rest O N G)):=by kernel_rfl
theorem zsD:(((decide (b > j))=true→(∃ (i1:Nat) (i2:Nat) (i3:Nat) (l1:List UInt8) (s1:AV) (i4:Nat) (i5:Nat) (i6:Nat) (l2:List UInt8) (s2:AV),(iX 75 sl b i1 i2 i3)∧(zb (⟨O,N,G⟩) (i1) (i2) (i3) (2)=(some [.str l1,s1]))∧(zf P (75) (sl) (.int .i64 (IntKind.i64.wrap (b - (1:Int))))=(some (.ptr i4 i5 i6)))∧(zb (⟨O,N,G⟩) (i4) (i5) (i6) (2)=(some [.str l2,s2]))∧K (AM.mk (enF 69 [.agg [.str l1,s1],.agg [.str l2,s2]]) ((zrw n j sl i1 i2 i3 i4 i5 i6 s1 s2 l1 l2 a b)::rest) ⟨O,N,G⟩)))∧((decide (b > j))=false→(K (zro n j sl (IntKind.i64.wrap (a+(1:Int))) rest O N G))))=OT f0 R keep K (.seq [.run 7] (.fork 21 (.ex fun i1:Nat=>(.ex fun i2:Nat=>(.ex fun i3:Nat=>(.ex fun l1:List UInt8=>(.ex fun s1:AV=>(.ex fun i4:Nat=>(.ex fun i5:Nat=>(.ex fun i6:Nat=>(.ex fun l2:List UInt8=>(.ex fun s2:AV=>(.seq [.run 3,.hopn (.ptr i1 i2 i3) O (N),.hop (.agg [.str l1,s1]) O,.run 3,.hopn (.ptr i4 i5 i6) O (N),.hop (.agg [.str l2,s2]) O,.run 1] .fin))))))))))) (.seq [.run 23,.keep [0,1,2,3,8]] .fin))) ((Winv n j sl a b rest O N G)):=by kernel_rfl
theorem zjY:(((decide (crq0<(0:Int)))=true→(∃ (i1:Nat) (i2:Nat) (i3:Nat) (l1:List UInt8) (s1:AV) (i4:Nat) (i5:Nat) (i6:Nat) (l2:List UInt8) (s2:AV) (i7:Nat) (i8:Nat) (i9:Nat) (O1:T AObj) (i10:Nat) (i11:Nat) (i12:Nat) (O2:T AObj),(zf P (75) (sl) (.int .i64 (IntKind.i64.wrap (b - (1:Int))))=(some (.ptr i1 i2 i3)))∧(zb (⟨O,N,G⟩) (i1) (i2) (i3) (2)=(some [.str l1,s1]))∧(iX 75 sl b i4 i5 i6)∧(zb (⟨O,N,G⟩) (i4) (i5) (i6) (2)=(some [.str l2,s2]))∧(iX 75 sl b i7 i8 i9)∧((AV.agg [AV.str l1,s1]).cells.length.beq (2)=true∧zc (⟨O,N,G⟩:AHeap) i7 i8 i9 (AV.agg [AV.str l1,s1]).cells=some (⟨O1,N,G⟩:AHeap))∧(qq P (⟨O1,N,G⟩) (BinOp.sub) (3) (true) (.int .i64 b) (.int .i64 1)=(some (.int .i64 (IntKind.i64.wrap (b - (1:Int))))))∧(zf P (75) (sl) (.int .i64 (IntKind.i64.wrap (b - (1:Int))))=(some (.ptr i10 i11 i12)))∧((AV.agg [AV.str l2,s2]).cells.length.beq (2)=true∧zc (⟨O1,N,G⟩:AHeap) i10 i11 i12 (AV.agg [AV.str l2,s2]).cells=some (⟨O2,N,G⟩:AHeap))∧K (Winv n j sl a (IntKind.i64.wrap (b - (1:Int))) rest O2 N G)))∧((decide (crq0<(0:Int)))=false→(K (zro n j sl (IntKind.i64.wrap (a+(1:Int))) rest O N G))))=OT f0 R keep K (.seq [.run 4] (.fork 34 (.ex fun i1:Nat=>(.ex fun i2:Nat=>(.ex fun i3:Nat=>(.ex fun l1:List UInt8=>(.ex fun s1:AV=>(.ex fun i4:Nat=>(.ex fun i5:Nat=>(.ex fun i6:Nat=>(.ex fun l2:List UInt8=>(.ex fun s2:AV=>(.ex fun i7:Nat=>(.ex fun i8:Nat=>(.ex fun i9:Nat=>(.ex fun O1:T AObj=>(.ex fun i10:Nat=>(.ex fun i11:Nat=>(.ex fun i12:Nat=>(.ex fun O2:T AObj=>(.seq [.run 13,.hopn (.ptr i1 i2 i3) O (N),.hop (.agg [.str l1,s1]) O,.run 2,.hopn (.ptr i4 i5 i6) O (N),.hop (.agg [.str l2,s2]) O,.hopn (.ptr i7 i8 i9) O (N),.hopn (.nilp) O1 (N),.hopn (.ptr i10 i11 i12) O1 (N),.hopn (.nilp) O2 (N),.run 8,.keep [0,1,2,3,8,9]] .fin))))))))))))))))))) (.seq [.run 9,.keep [0,1,2,3,8]] .fin))) ((AM.mk (RF 69 10 (tX tZ (tX (tY (.int .i64 crq0)) tZ)) td) ((zrw n j sl i1c i2c i3c i4c i5c i6c s1c s2c l1c l2c a b)::rest) ⟨O,N,G⟩)):=by kernel_rfl
end
variable {O O':T AObj} {N:Nat} {G:T (T AV)}
theorem le_trans {x y z:ze}(h:Op.bytesLess y x=false)(g:Op.bytesLess z y=false):Op.bytesLess z x=false:=by
 cases e:Op.bytesLess z x with
 | false=>rfl
 | true=>rw [ziJ e h] at g; cases g
def Sor (xs:List TE) (a b:Nat):Prop:=∀ u v,a≤u→u<v→v<b→Op.bytesLess (Fx xs v).1 (Fx xs u).1=false
def Rg (xs ys:List TE) (a b:Nat):Prop:=ys.length=xs.length∧(∀ k,k<a∨b≤k→Fx ys k=Fx xs k)∧∀ v,(∃ k,a≤k∧k<b∧Fx ys k=v) ↔ ∃ k,a≤k∧k<b∧Fx xs k=v
theorem Rg.refl {xs:List TE}{a b:Nat}:Rg xs xs a b:=⟨rfl,fun _ _=>rfl,fun _=>Iff.rfl⟩
theorem Rg.trans {xs ys zs:List TE}{a b:Nat}(h:Rg xs ys a b)(g:Rg ys zs a b):Rg xs zs a b:=⟨g.1.trans h.1,fun k hk=>(g.2.1 k hk).trans (h.2.1 k hk),fun v=>(g.2.2 v).trans (h.2.2 v)⟩
theorem Rg.mono {xs ys:List TE}{a b a' b':Nat}(h:Rg xs ys a b)(ha:a'≤a)(hb:b≤b'):Rg xs ys a' b':=by
 refine ⟨h.1,fun k hk=>h.2.1 k (by omega),fun v=>⟨fun ⟨k,h1,h2,h3⟩=>?_,fun ⟨k,h1,h2,h3⟩=>?_⟩⟩
 ·by_cases hk:a≤k∧k<b
  ·obtain ⟨k',g1,g2,g3⟩:=(h.2.2 v).1 ⟨k,hk.1,hk.2,h3⟩;exact ⟨k',by omega,by omega,g3⟩
  ·exact ⟨k,h1,h2,by rw [← h.2.1 k (by omega)]; exact h3⟩
 ·by_cases hk:a≤k∧k<b
  ·obtain ⟨k',g1,g2,g3⟩:=(h.2.2 v).2 ⟨k,hk.1,hk.2,h3⟩;exact ⟨k',by omega,by omega,g3⟩
  ·exact ⟨k,h1,h2,by rw [h.2.1 k (by omega)]; exact h3⟩
theorem Rg.of {xs ys:List TE}{a b:Nat}(hl:ys.length=xs.length)(ho:∀ k,k<a∨b≤k→Fx ys k=Fx xs k)(h1:∀ k,a≤k→k<b→∃ k',a≤k'∧k'<b∧Fx ys k=Fx xs k')(h2:∀ k,a≤k→k<b→∃ k',a≤k'∧k'<b∧Fx xs k=Fx ys k'):Rg xs ys a b :=
 ⟨hl,ho,fun v=>⟨fun ⟨k,g1,g2,g3⟩=>by
  obtain ⟨k',e1,e2,e3⟩:=h1 k g1 g2;exact ⟨k',e1,e2,by rw [← e3,g3]⟩,fun ⟨k,g1,g2,g3⟩=>by
  obtain ⟨k',e1,e2,e3⟩:=h2 k g1 g2;exact ⟨k',e1,e2,by rw [← e3,g3]⟩⟩⟩
theorem Rg.swp {xs:List TE}{a b i j:Nat}(hi:a≤i∧i<b)(hj:a≤j∧j<b)(hb:b≤xs.length):Rg xs (swp xs i j) a b:=by
 have hf:=fun k=>zfC (xs:=xs) (i:=i) (j:=j) (k:=k) (by omega) (by omega);refine Rg.of zd0 (fun k hk=>by rw [hf,if_neg (by omega),if_neg (by omega)]) (fun k h1 h2=>?_) (fun k h1 h2=>?_)
 ·rw [hf];split
  ·exact ⟨j,hj.1,hj.2,rfl⟩
  ·split
   ·exact ⟨i,hi.1,hi.2,rfl⟩
   ·exact ⟨k,h1,h2,rfl⟩
 ·by_cases e1:k=i
  ·refine ⟨j,hj.1,hj.2,?_⟩;rw [hf];split
   ·rename_i e2; rw [e1,e2]
   ·rw [if_pos rfl,e1]
  ·by_cases e2:k=j
   ·exact ⟨i,hi.1,hi.2,by rw [hf,if_pos rfl,e2]⟩
   ·exact ⟨k,h1,h2,by rw [hf,if_neg e1,if_neg e2]⟩
def zaC (g:Nat→TE) (a m b k:Nat):TE:=if a≤k∧k<a+(b - m) then g (k - a+m) else if a+(b - m)≤k∧k<b then g (k - (b - m)) else g k
theorem ztQ {ys zs:List TE}{m i j:Nat}(hi:j<i)(hm:i≤m)(hf:∀ k,Fx zs k=swr ys (m - i) m j k)(k:Nat):zaC (Fx zs) (m - (i - j)) m (m+j) k=zaC (Fx ys) (m - i) m (m+j) k:=by
 unfold zaC;rw [hf,hf,hf];unfold swr
 repeat' split
 all_goals first | (exfalso; omega) | rfl | (congr 1; omega)
theorem zrY {ys zs:List TE}{m i j:Nat}(hi:i<j)(hm:i≤m)(hf:∀ k,Fx zs k=swr ys (m - i) (m+j - i) i k)(k:Nat):zaC (Fx zs) (m - i) m (m+(j - i)) k=zaC (Fx ys) (m - i) m (m+j) k:=by
 unfold zaC;rw [hf,hf,hf];unfold swr
 repeat' split
 all_goals first | (exfalso; omega) | rfl | (congr 1; omega)
theorem zs2 {ys zs:List TE}{m i:Nat}(hm:i≤m)(hf:∀ k,Fx zs k=swr ys (m - i) m i k)(k:Nat):Fx zs k=zaC (Fx ys) (m - i) m (m+i) k:=by
 unfold zaC;rw [hf];unfold swr
 repeat' split
 all_goals first | (exfalso; omega) | rfl | (congr 1; omega)
theorem ztU {lo hi a m b:Nat}{s:AV}{xs:List TE}(h:Arr O lo hi s xs)(ham:a<m)(hmb:m<b)(hb:b≤xs.length)(hx:xs.length<1000000){keep:Nat}{f0:FuncId}{Q:AV→AHeap→Prop}{rest:List AFrame}
 (hK:∀ O' ys,Arr O' lo hi s ys→Chg s O N O' N→ys.length=xs.length→(∀ k,Fx ys k=zaC (Fx xs) a m b k)→Goal P keep f0 Q (AM.mk (RF 141 58 .leaf []) rest ⟨O',N,G⟩)):Goal P keep f0 Q (AM.mk (enF 141 [s,.int .i64 ((a:Nat):Int),.int .i64 ((m:Nat):Int),.int .i64 ((b:Nat):Int),.fn (Fn.func 69) [] []]) rest ⟨O,N,G⟩):=by
 have loop:∀ (c i j:Nat) (O2:T AObj) (ys:List TE),i+j≤c→0<i→0<j→i≤m→m+j≤xs.length→Arr O2 lo hi s ys→Chg s O N O2 N→ys.length=xs.length→(∀ k,zaC (Fx ys) (m - i) m (m+j) k=zaC (Fx xs) a m b k)→Goal P keep f0 Q (ztN ((m:Nat):Int) s ((i:Nat):Int) ((j:Nat):Int) rest O2 N G):=by
  intro c
  induction c with
  | zero=>intro i j O2 ys h1; omega
  | succ c ih =>
   intro i j O2 ys hc hi0 hj0 him hmj h2 c2 l2 f2;have w1:IntKind.i64.wrap (((m:Nat):Int) - ((i:Nat):Int))=((m - i:Nat):Int):=by rw [IntKind.wrap_i64]; omega
   have w0:IntKind.i64.wrap (((m:Nat):Int)+((j:Nat):Int))=((m+j:Nat):Int):=by rw [IntKind.wrap_i64]; omega
   have w2:IntKind.i64.wrap (((m+j:Nat):Int) - ((i:Nat):Int))=((m+j - i:Nat):Int):=by rw [IntKind.wrap_i64]; omega
   refine ot t_rol ⟨fun hne=>⟨fun hgt=>?_,fun hgt=>?_⟩,fun heq=>?_⟩
   ·have g:j<i:=by have:=of_decide_eq_true hgt; omega
    rw [w1];refine zj0 h2 (by omega) (by omega) (by omega) fun O3 zs h3 c3 l3 f3=>?_;refine ot zi0 ?_;have w3:IntKind.i64.wrap (((i:Nat):Int) - ((j:Nat):Int))=((i - j:Nat):Int):=by rw [IntKind.wrap_i64]; omega
    rw [w3];exact ih (i - j) j O3 zs (by omega) (by omega) hj0 (by omega) hmj h3 (c2.trans c3) (l3.trans l2) (fun k=>(ztQ g him f3 k).trans (f2 k))
   ·have g:i<j:=by
     have h1:¬ (((i:Nat):Int) > ((j:Nat):Int)):=of_decide_eq_false hgt;have h2:((i:Nat):Int)≠((j:Nat):Int):=by simpa using hne
     omega
    rw [w1,w0,w2];refine zj0 h2 (by omega) (by omega) (by omega) fun O3 zs h3 c3 l3 f3=>?_;refine ot zjq ?_;have w3:IntKind.i64.wrap (((j:Nat):Int) - ((i:Nat):Int))=((j - i:Nat):Int):=by rw [IntKind.wrap_i64]; omega
    rw [w3];exact ih i (j - i) O3 zs (by omega) hi0 (by omega) him (by omega) h3 (c2.trans c3) (l3.trans l2) (fun k=>(zrY g him f3 k).trans (f2 k))
   ·obtain rfl:i=j:=by
     have h2:((i:Nat):Int)=((j:Nat):Int):=by simpa using heq
     omega
    rw [w1];refine zj0 h2 (by omega) (by omega) (by omega) fun O3 zs h3 c3 l3 f3=>?_;exact ot zli (hK O3 zs h3 (c2.trans c3) (l3.trans l2) (fun k=>(zs2 him f3 k).trans (f2 k)))
 have w1:IntKind.i64.wrap (((m:Nat):Int) - ((a:Nat):Int))=((m - a:Nat):Int):=by rw [IntKind.wrap_i64]; omega
 have w2:IntKind.i64.wrap (((b:Nat):Int) - ((m:Nat):Int))=((b - m:Nat):Int):=by rw [IntKind.wrap_i64]; omega
 refine ot t_rot ?_;rw [w1,w2];exact loop _ (m - a) (b - m) O xs (Nat.le_refl _) (by omega) (by omega) (by omega) (by omega) h Chg.refl rfl (fun k=>by rw [show m - (m - a)=a by omega,show m+(b - m)=b by omega])
theorem znW {xs:List TE}{i j:Nat}(hi:i<xs.length)(hj:j<xs.length):swp xs i j=swp xs j i:=by
 unfold swp
 by_cases e:i=j
 ·rw [e]
 ·exact List.set_comm _ _ (fun h=>e h.symm)
def Sin (xs:List TE) (a i p:Nat):Prop:=∀ u v,a≤u→u<v→v≤i→v≠p→Op.bytesLess (Fx xs v).1 (Fx xs u).1=false
theorem Sin.stop {xs:List TE}{a i p:Nat}(h:Sin xs a i p)(hp:p=a∨a<p∧p≤i∧Op.bytesLess (Fx xs p).1 (Fx xs (p - 1)).1=false):Sor xs a (i+1):=by
 intro u v h1 h2 h3
 by_cases e:v=p
 ·subst e;rcases hp with rfl | ⟨g1,g2,g3⟩
  ·omega
  ·by_cases e2:u=v - 1
   ·rw [e2]; exact g3
   ·exact le_trans (h u (v - 1) h1 (by omega) (by omega) (by omega)) g3
 ·exact h u v h1 h2 (by omega) e
theorem Sin.step {xs:List TE}{a i p:Nat}(h:Sin xs a i p)(ha:a<p)(hpi:p≤i)(hi:i<xs.length)(hl:Op.bytesLess (Fx xs p).1 (Fx xs (p - 1)).1=true):Sin (swp xs p (p - 1)) a i (p - 1):=by
 have hf:=fun k=>zfC (xs:=xs) (i:=p) (j:=p - 1) (k:=k) (by omega) (by omega);intro u v h1 h2 h3 h4;rw [hf,hf]
 by_cases e1:v=p
 ·rw [if_pos e1]
  by_cases e2:u=p - 1
  ·rw [if_neg (by omega),if_pos e2];exact vY hl
  ·rw [if_neg (by omega),if_neg e2];exact h u (p - 1) h1 (by omega) (by omega) (by omega)
 ·rw [if_neg e1,if_neg h4]
  by_cases e3:u=p
  ·rw [if_pos e3];exact h (p - 1) v (by omega) (by omega) h3 e1
  ·rw [if_neg e3]
   by_cases e2:u=p - 1
   ·rw [if_pos e2];exact h p v (by omega) (by omega) h3 e1
   ·rw [if_neg e2];exact h u v h1 h2 h3 e1
theorem zmd {lo hi a b:Nat}{s:AV}{xs:List TE}(h:Arr O lo hi s xs)(hN:hi≤N)(hb:b≤xs.length)(hx:xs.length<1000000)(hab:a≤b){keep:Nat}{f0:FuncId}{Q:AV→AHeap→Prop}{rest:List AFrame}
 (hK:∀ O' N' ys,Arr O' lo hi s ys→Chg s O N O' N'→Rg xs ys a b→Sor ys a b→Goal P keep f0 Q (AM.mk (RF 125 53 .leaf []) rest ⟨O',N',G⟩)):Goal P keep f0 Q (AM.mk (enF 125 [s,.int .i64 ((a:Nat):Int),.int .i64 ((b:Nat):Int),.fn (Fn.func 69) [] []]) rest ⟨O,N,G⟩):=by
 have inner:∀ (i:Nat),a≤i→i<b→(∀ O2 N2 ys,Arr O2 lo hi s ys→Chg s O N O2 N2→Rg xs ys a b→Sor ys a (i+1)→Goal P keep f0 Q (zro ((b:Nat):Int) ((a:Nat):Int) s ((i+1:Nat):Int) rest O2 N2 G))→∀ (c p:Nat) (O2:T AObj) (N2:Nat) (ys:List TE),p=a+c→p≤i→Arr O2 lo hi s ys→Chg s O N O2 N2→Rg xs ys a b→Sin ys a i p→Goal P keep f0 Q (Winv ((b:Nat):Int) ((a:Nat):Int) s ((i:Nat):Int) ((p:Nat):Int) rest O2 N2 G):=by
  intro i hai hib out c
  induction c with
  | zero =>
   intro p O2 N2 ys hp hpi h2 c2 r2 s2;refine ot zsD (fkf (decide_eq_false (by omega)) ?_);have:=out O2 N2 ys h2 c2 r2 (s2.stop (.inl hp));rw [← zq (i:=i) (by omega)] at this;exact this
  | succ c ih =>
   intro p O2 N2 ys hp hpi h2 c2 r2 s2;have l2:=r2.1;have nn:=c2.1;have w1:IntKind.i64.wrap (((p:Nat):Int) - (1:Int))=((p - 1:Nat):Int):=by rw [IntKind.wrap_i64]; omega
   obtain ⟨a1,a2,a3,eA,lA⟩:=h2.elem (i:=p) (by omega);obtain ⟨b1,b2,b3,eB,lB⟩:=h2.elem (i:=p - 1) (by omega);rw [← w1] at eB;refine ot zsD (fkt (decide_eq_true (by omega)) ⟨a1,a2,a3,_,_,b1,b2,b3,_,_,eA,lA _ _,eB,lB _ _,?_⟩);refine zhp fun O3 N3 z td hz ex3=>?_;have h3:=h2.ext ex3 (by omega);have c3:=c2.trans (Chg.ext ex3);refine ot zjY ⟨fun hc=>?_,fun hc=>?_⟩
   ·obtain ⟨d1,d2,d3,g1,g2,g3,O4,O5,eD,lD,eG,lG,sG,sD,h5,c5⟩:=h3.swap (i:=p - 1) (j:=p) (by omega) (by omega) N3 G;rw [← w1] at eD;refine ⟨d1,d2,d3,_,_,g1,g2,g3,_,_,g1,g2,g3,O4,d1,d2,d3,O5,eD,lD,eG,lG,eG,(st2 sG),rfl,eD,(st2 sD),?_⟩;rw [w1];exact ih (p - 1) O5 N3 (swp ys (p - 1) p) (by omega) (by omega) h5 (c3.trans c5) (r2.trans (Rg.swp (by omega) (by omega) (by omega))) (by
     have e:=hz.1 (of_decide_eq_true hc);have:=s2.step (by omega) hpi (by omega) e
     rwa [znW (by omega) (by omega)] at this)
   ·refine (?_:Goal P keep f0 Q _);have:=out O3 N3 ys h3 c3 r2 (s2.stop (.inr ⟨by omega,hpi,by
     cases e:Op.bytesLess (Fx ys p).1 (Fx ys (p - 1)).1 with
     | false=>rfl
     | true=>have:=hz.2 e; have:=of_decide_eq_false hc; omega⟩))
    rw [← zq (i:=i) (by omega)] at this;exact this
 have outer:∀ (c i:Nat) (O2:T AObj) (N2:Nat) (ys:List TE),i+c=b→a≤i→Arr O2 lo hi s ys→Chg s O N O2 N2→Rg xs ys a b→Sor ys a i→Goal P keep f0 Q (zro ((b:Nat):Int) ((a:Nat):Int) s ((i:Nat):Int) rest O2 N2 G):=by
  intro c
  induction c with
  | zero =>
   intro i O2 N2 ys hc hai h2 c2 r2 s2;obtain rfl:i=b:=by omega
   exact ot zqe (fkf (decide_eq_false (by omega)) (hK O2 N2 ys h2 c2 r2 s2))
  | succ c ih =>
   intro i O2 N2 ys hc hai h2 c2 r2 s2;refine ot zqe (fkt (decide_eq_true (by omega)) ?_);exact inner i hai (by omega) (fun O3 N3 zs h3 c3 r3 s3=>ih (i+1) O3 N3 zs (by omega) (by omega) h3 c3 r3 s3) (i - a) i O2 N2 ys (by omega) (Nat.le_refl _) h2 c2 r2 (fun u v g1 g2 g3 g4=>s2 u v g1 g2 (by omega))
 refine ot t_int ?_;have w:IntKind.i64.wrap (((a:Nat):Int)+(1:Int))=((a+1:Nat):Int):=zq (by omega);rw [w]
 by_cases e:a=b
 ·subst e;exact ot zqe (fkf (decide_eq_false (by omega)) (hK O N xs h Chg.refl Rg.refl (fun u v g1 g2 g3=>by omega)))
 ·exact outer (b - (a+1)) (a+1) O N xs (by omega) (by omega) h Chg.refl Rg.refl (fun u v g1 g2 g3=>by omega)
end Go.Proofs.Ytcdigdplhlgcaaa.gx
end
section
set_option maxRecDepth 100000
set_option linter.unusedVariables false
set_option linter.unusedSectionVars false
set_option linter.unusedSimpArgs false
namespace Go.Proofs.Ytcdigdplhlgcaaa.gx
open Go Ev tp
theorem ztB {x y z:ze}(h:Op.bytesLess y x=false)(g:Op.bytesLess y z=true):Op.bytesLess x z=true:=by
 cases e:Op.bytesLess x z with
 | true=>rfl
 | false=>rw [ziJ g e] at h; cases h
theorem zsR {x y z:ze}(h:Op.bytesLess x y=true)(g:Op.bytesLess z y=false):Op.bytesLess x z=true:=ziJ h g
theorem zdS {a b:Nat}(h:a+b<1000000000):IntKind.i64.wrap ((IntKind.u64.wrap (IntKind.i64.wrap (((a:Nat):Int)+((b:Nat):Int)))).fdiv ((2:Int) ^ min (Int.toNat (1:Int)) IntKind.u64.bits))=(((a+b) / 2:Nat):Int):=by
 have w1:IntKind.i64.wrap (((a:Nat):Int)+((b:Nat):Int))=((a+b:Nat):Int):=by rw [IntKind.wrap_i64]; omega
 have w2:IntKind.u64.wrap ((a+b:Nat):Int)=((a+b:Nat):Int):=by rw [IntKind.wrap_u64]; omega
 have w3:(2:Int) ^ min (Int.toNat (1:Int)) IntKind.u64.bits=2:=rfl;rw [w1,w2,w3,Int.fdiv_eq_ediv_of_nonneg _ (by decide)];have w4:((a+b:Nat):Int) / 2=(((a+b) / 2:Nat):Int):=by omega
 rw [w4,IntKind.wrap_i64];omega
def shl (xs:List TE) (a e k:Nat):TE:=if k<a then Fx xs k else if k<e then Fx xs (k+1) else if k=e then Fx xs a else Fx xs k
theorem zhN {xs:List TE}{a k:Nat}:Fx xs k=shl xs a a k:=by
 unfold shl
 by_cases h:k<a
 ·rw [if_pos h]
 ·rw [if_neg h,if_neg h]
  by_cases g:k=a
  ·rw [if_pos g,g]
  ·rw [if_neg g]
theorem zmX {xs ys:List TE}{a e:Nat}(hl:ys.length=xs.length)(he:a≤e∧e+1<xs.length)(hf:∀ k,Fx ys k=shl xs a e k)(k:Nat):Fx (swp ys (e+1) e) k=shl xs a (e+1) k:=by
 rw [zfC (by omega) (by omega),hf,hf,hf];unfold shl
 repeat' split
 all_goals first | (exfalso; omega) | rfl | (congr 1; omega)
theorem zrE {xs ys:List TE}{a e b:Nat}(hl:ys.length=xs.length)(he:a≤e∧e<b)(hf:∀ k,Fx ys k=shl xs a e k):Rg xs ys a b:=by
 refine Rg.of hl (fun k hk=>?_) (fun k h1 h2=>?_) (fun k h1 h2=>?_)
 ·rw [hf];unfold shl
  repeat' split
  all_goals first | (exfalso; omega) | rfl
 ·rw [hf];unfold shl;split
  ·omega
  ·split
   ·exact ⟨k+1,by omega,by omega,rfl⟩
   ·split
    ·exact ⟨a,by omega,by omega,rfl⟩
    ·exact ⟨k,h1,h2,rfl⟩
 ·by_cases h3:k=a
  ·exact ⟨e,he.1,he.2,by rw [hf,h3]; unfold shl; rw [if_neg (by omega),if_neg (by omega),if_pos rfl]⟩
  ·by_cases h4:k≤e
   ·refine ⟨k - 1,by omega,by omega,?_⟩;rw [hf];unfold shl;rw [if_neg (by omega),if_pos (by omega)];congr 1;omega
   ·exact ⟨k,h1,h2,by rw [hf]; unfold shl; rw [if_neg (by omega),if_neg (by omega),if_neg (by omega)]⟩
theorem zqX {xs ys:List TE}{a i b:Nat}(hi:a<i∧i≤b)(hf:∀ k,Fx ys k=shl xs a (i - 1) k)(h1:∀ u,a<u→u<i→Op.bytesLess (Fx xs u).1 (Fx xs a).1=true)(h2:∀ u,i≤u→u<b→Op.bytesLess (Fx xs u).1 (Fx xs a).1=false)(h3:Sor xs (a+1) b):Sor ys a b:=by
 intro u v g1 g2 g3;rw [hf,hf];unfold shl;rw [if_neg (show ¬ v<a by omega),if_neg (show ¬ u<a by omega)]
 by_cases e1:v<i - 1
 ·rw [if_pos e1,if_pos (show u<i - 1 by omega)];exact h3 _ _ (by omega) (by omega) (by omega)
 ·rw [if_neg e1]
  by_cases e2:v=i - 1
  ·rw [if_pos e2,if_pos (show u<i - 1 by omega)];exact vY (h1 _ (by omega) (by omega))
  ·rw [if_neg e2]
   by_cases e3:u<i - 1
   ·rw [if_pos e3];exact h3 _ _ (by omega) (by omega) (by omega)
   ·rw [if_neg e3]
    by_cases e4:u=i - 1
    ·rw [if_pos e4];exact h2 v (by omega) g3
    ·rw [if_neg e4];exact h3 _ _ (by omega) (by omega) (by omega)
def shr (xs:List TE) (e m k:Nat):TE:=if k<e then Fx xs k else if k=e then Fx xs m else if k≤m then Fx xs (k - 1) else Fx xs k
theorem zhm {xs:List TE}{m k:Nat}:Fx xs k=shr xs m m k:=by
 unfold shr;split
 ·rfl
 ·split
  ·rename_i h; rw [h]
  ·split
   ·omega
   ·rfl
theorem zm3 {xs ys:List TE}{e m:Nat}(hl:ys.length=xs.length)(he:0<e∧e≤m∧m<xs.length)(hf:∀ k,Fx ys k=shr xs e m k)(k:Nat):Fx (swp ys (e - 1) e) k=shr xs (e - 1) m k:=by
 rw [zfC (by omega) (by omega),hf,hf,hf];unfold shr
 repeat' split
 all_goals first | (exfalso; omega) | rfl | (congr 1; omega)
theorem zr1 {xs ys:List TE}{a e m:Nat}(hl:ys.length=xs.length)(he:a≤e∧e≤m)(hf:∀ k,Fx ys k=shr xs e m k):Rg xs ys a (m+1):=by
 refine Rg.of hl (fun k hk=>?_) (fun k h1 h2=>?_) (fun k h1 h2=>?_)
 ·rw [hf];unfold shr
  repeat' split
  all_goals first | (exfalso; omega) | rfl
 ·rw [hf];unfold shr;split
  ·exact ⟨k,h1,h2,rfl⟩
  ·split
   ·exact ⟨m,by omega,by omega,rfl⟩
   ·split
    ·exact ⟨k - 1,by omega,by omega,rfl⟩
    ·omega
 ·by_cases h3:k=m
  ·exact ⟨e,he.1,by omega,by rw [hf,h3]; unfold shr; rw [if_neg (by omega),if_pos rfl]⟩
  ·by_cases h4:k<e
   ·exact ⟨k,h1,h2,by rw [hf]; unfold shr; rw [if_pos h4]⟩
   ·refine ⟨k+1,by omega,by omega,?_⟩;rw [hf];unfold shr;rw [if_neg (by omega),if_neg (by omega),if_pos (by omega)];congr 1
theorem zqs {xs ys:List TE}{a i m:Nat}(hi:a≤i∧i≤m)(hf:∀ k,Fx ys k=shr xs i m k)(h1:∀ u,a≤u→u<i→Op.bytesLess (Fx xs m).1 (Fx xs u).1=false)(h2:∀ u,i≤u→u<m→Op.bytesLess (Fx xs m).1 (Fx xs u).1=true)(h3:Sor xs a m):Sor ys a (m+1):=by
 intro u v g1 g2 g3;rw [hf,hf];unfold shr
 by_cases e1:v<i
 ·rw [if_pos e1,if_pos (show u<i by omega)];exact h3 _ _ (by omega) (by omega) (by omega)
 ·rw [if_neg e1]
  by_cases e2:v=i
  ·rw [if_pos e2,if_pos (show u<i by omega)];exact h1 u g1 (by omega)
  ·rw [if_neg e2,if_pos (show v≤m by omega)]
   by_cases e3:u<i
   ·rw [if_pos e3];exact h3 _ _ (by omega) (by omega) (by omega)
   ·rw [if_neg e3]
    by_cases e4:u=i
    ·rw [if_pos e4];exact vY (h2 _ (by omega) (by omega))
    ·rw [if_neg e4,if_pos (show u≤m by omega)];exact h3 _ _ (by omega) (by omega) (by omega)
def s0 (a m b:Nat):Nat:=if (a+b) / 2<m then (a+b) / 2+m - b else a
def r0 (a m b:Nat):Nat:=if (a+b) / 2<m then (a+b) / 2 else m
theorem ztq {a m b:Nat}(h1:a<m)(h2:m<b):a≤s0 a m b∧s0 a m b≤r0 a m b∧r0 a m b≤m∧r0 a m b≤(a+b) / 2∧(a+b) / 2+m - s0 a m b≤b∧m≤(a+b) / 2+m - r0 a m b:=by
 unfold s0 r0;split <;> omega
theorem zs8 {xs ys:List TE}{a b s m e:Nat}(hl:ys.length=xs.length)(h1:a≤s)(h2:s≤m)(h3:m≤e)(h4:e≤b)(hf:∀ k,Fx ys k=zaC (Fx xs) s m e k):Rg xs ys a b:=by
 refine Rg.of hl (fun k hk=>?_) (fun k g1 g2=>?_) (fun k g1 g2=>?_)
 ·rw [hf];unfold zaC;rw [if_neg (by omega),if_neg (by omega)]
 ·rw [hf];unfold zaC;split
  ·exact ⟨k - s+m,by omega,by omega,rfl⟩
  ·split
   ·exact ⟨k - (e - m),by omega,by omega,rfl⟩
   ·exact ⟨k,g1,g2,rfl⟩
 ·by_cases e1:m≤k∧k<e
  ·refine ⟨k - m+s,by omega,by omega,?_⟩;rw [hf];unfold zaC;rw [if_pos (by omega)];congr 1;omega
  ·by_cases e2:s≤k∧k<m
   ·refine ⟨k+(e - m),by omega,by omega,?_⟩;rw [hf];unfold zaC;rw [if_neg (by omega),if_pos (by omega)];congr 1;omega
   ·exact ⟨k,g1,g2,by rw [hf]; unfold zaC; rw [if_neg (by omega),if_neg (by omega)]⟩
theorem zpE {xs:List TE}{s m e k:Nat}(h:s=m∨e=m)(hs:s≤m)(he:m≤e):Fx xs k=zaC (Fx xs) s m e k:=by
 unfold zaC;rcases h with rfl | rfl
 ·split
  ·congr 1; omega
  ·split
   ·omega
   ·rfl
 ·split
  ·omega
  ·split
   ·congr 1;omega
   ·rfl
theorem zn1 {xs ys:List TE}{a m b s:Nat}(h1:a<m)(h2:m<b)(hs:s0 a m b≤s∧s≤r0 a m b)(hf:∀ k,Fx ys k=zaC (Fx xs) s m ((a+b) / 2+m - s) k)(hA:∀ u,s0 a m b≤u→u<s→Op.bytesLess (Fx xs ((a+b) / 2+m - 1 - u)).1 (Fx xs u).1=false)(hB:∀ u,s≤u→u<r0 a m b→Op.bytesLess (Fx xs ((a+b) / 2+m - 1 - u)).1 (Fx xs u).1=true)(l:Sor xs a m)(r:Sor xs m b) :
 Sor ys a s∧Sor ys s ((a+b) / 2)∧Sor ys ((a+b) / 2) ((a+b) / 2+m - s)∧Sor ys ((a+b) / 2+m - s) b∧∀ u v,a≤u→u<(a+b) / 2→(a+b) / 2≤v→v<b→Op.bytesLess (Fx ys v).1 (Fx ys u).1=false:=by
 obtain ⟨q1,q2,q3,q4,q5,q6⟩:=ztq h1 h2;have hs0:s0 a m b=a∨(a+b) / 2+m - s0 a m b=b:=by unfold s0; split <;> omega
 have hr0:r0 a m b=(a+b) / 2∨r0 a m b=m:=by unfold r0; split <;> omega
 generalize hM:(a+b) / 2=M at *;generalize hS:s0 a m b=S at *;generalize hR:r0 a m b=R at *;have f1:∀ k,k<s→Fx ys k=Fx xs k:=fun k hk=>by rw [hf]; unfold zaC; rw [if_neg (by omega),if_neg (by omega)]
 have f2:∀ k,s≤k→k<M→Fx ys k=Fx xs (k - s+m):=fun k g1 g2=>by rw [hf]; unfold zaC; rw [if_pos (by omega)]
 have f3:∀ k,M≤k→k<M+m - s→Fx ys k=Fx xs (k - M+s):=fun k g1 g2=>by rw [hf]; unfold zaC; rw [if_neg (by omega),if_pos (by omega)]; congr 1; omega
 have f4:∀ k,M+m - s≤k→Fx ys k=Fx xs k:=fun k g1=>by rw [hf]; unfold zaC; rw [if_neg (by omega),if_neg (by omega)]
 refine ⟨fun u v g1 g2 g3=>?_,fun u v g1 g2 g3=>?_,fun u v g1 g2 g3=>?_,fun u v g1 g2 g3=>?_,fun u v g1 g2 g3 g4=>?_⟩
 ·rw [f1 v g3,f1 u (by omega)];exact l u v g1 g2 (by omega)
 ·rw [f2 v (by omega) g3,f2 u g1 (by omega)];exact r _ _ (by omega) (by omega) (by omega)
 ·rw [f3 v (by omega) g3,f3 u g1 (by omega)];exact l _ _ (by omega) (by omega) (by omega)
 ·rw [f4 v (by omega),f4 u g1];exact r _ _ (by omega) g2 g3
 ·by_cases e1:u<s
  ·rw [f1 u e1]
   by_cases e2:v<M+m - s
   ·rw [f3 v g3 e2];exact l _ _ g1 (by omega) (by omega)
   ·rw [f4 v (by omega)];have k1:Op.bytesLess (Fx xs (s - 1)).1 (Fx xs u).1=false:=by
     by_cases e:u=s - 1
     ·rw [e]; exact kX _
     ·exact l _ _ g1 (by omega) (by omega)
    have k2:=hA (s - 1) (by omega) (by omega);rw [show M+m - 1 - (s - 1)=M+m - s by omega] at k2;have k3:Op.bytesLess (Fx xs v).1 (Fx xs (M+m - s)).1=false:=by
     by_cases e:v=M+m - s
     ·rw [e]; exact kX _
     ·exact r _ _ (by omega) (by omega) (by omega)
    exact le_trans (le_trans k1 k2) k3
  ·rw [f2 u (by omega) g2]
   by_cases e2:v<M+m - s
   ·rw [f3 v g3 e2];have k1:Op.bytesLess (Fx xs (M+m - 1 - s)).1 (Fx xs (u - s+m)).1=false:=by
     by_cases e:u - s+m=M+m - 1 - s
     ·rw [e]; exact kX _
     ·exact r _ _ (by omega) (by omega) (by omega)
    have k2:=hB s (Nat.le_refl _) (by omega);have k3:Op.bytesLess (Fx xs (v - M+s)).1 (Fx xs s).1=false:=by
     by_cases e:v - M+s=s
     ·rw [e]; exact kX _
     ·exact l _ _ (by omega) (by omega) (by omega)
    exact le_trans (le_trans k1 (vY k2)) k3
   ·rw [f4 v (by omega)];exact r _ _ (by omega) (by omega) g4
theorem zqO {ys zs ws:List TE}{a M b:Nat}(ha:a≤M)(hb:M≤b)(h:∀ u v,a≤u→u<M→M≤v→v<b→Op.bytesLess (Fx ys v).1 (Fx ys u).1=false)(r1:Rg ys zs a M)(s1:Sor zs a M)(r2:Rg zs ws M b)(s2:Sor ws M b):Sor ws a b:=by
 intro u v g1 g2 g3
 by_cases e1:v<M
 ·rw [r2.2.1 v (.inl e1),r2.2.1 u (.inl (by omega))];exact s1 u v g1 g2 e1
 ·by_cases e2:M≤u
  ·exact s2 u v e2 g2 g3
  ·obtain ⟨v',k1,k2,k3⟩:=(r2.2.2 _).1 ⟨v,by omega,g3,rfl⟩;obtain ⟨u',k4,k5,k6⟩:=(r1.2.2 _).1 ⟨u,g1,by omega,rfl⟩;rw [← k3,r1.2.1 v' (.inr k1),r2.2.1 u (.inl (by omega)),← k6];exact h u' v' k4 k5 k1 k2
end Go.Proofs.Ytcdigdplhlgcaaa.gx
end
section
set_option maxRecDepth 100000
set_option linter.unusedVariables false
set_option linter.unusedSectionVars false
set_option linter.unusedSimpArgs false
namespace Go.Proofs.Ytcdigdplhlgcaaa.gx
open Go Ev tp
section
variable (n j j2:Int) (sl:AV) (nn:Int) (i1 i2 i3 i4 i5 i6:Nat) (s1 s2:AV) (l1 l2:List UInt8) (a b h p3:Int) (rest:List AFrame) (O:T AObj) (N:Nat) (G:T (T AV))
noncomputable def zrj:AM:=⟨frm 126 220 (tW (tW (tX tZ (tY (.int .i64 b))) (.int .i64 j) tZ) sl (tX (tY (.fn (Fn.func (69:FuncId)) [] [])) (tX (tY (.int .i64 a)) tZ))) [cdi 126 [0,1,0,1,1,0,0,0],ili 126 [0,1,0,1,1,0,0,0],.inBlock 0,cdi 126 [0,1,0,1,1,1],cdi 126 [1]],rest,⟨O,N,G⟩⟩
noncomputable def zrl:AM:=⟨frm 126 220 (tW (tX (tX (tX (tY (.int .i64 b)) tZ) tZ) tZ) sl (tW (tY (.fn (Fn.func (69:FuncId)) [] [])) (.int .i64 j2) (tX tZ (tY (.int .i64 a))))) [cdi 126 [1,0,1,0,1,1,0,0,0],ili 126 [1,0,1,0,1,1,0,0,0],.inBlock 4,cdi 126 [1,0,1,0,1,1,1],cdi 126 [1,1]],rest,⟨O,N,G⟩⟩
noncomputable def zqS:AM:=⟨frm 126 220 (tW (tW (tW tZ (.int .i64 n) (tX (tY (.int .i64 nn)) tZ)) (.int .i64 j) (tX tZ (tX (tY (.int .i64 b)) tZ))) sl (tW (tW tZ (.fn (Fn.func (69:FuncId)) [] []) (tX (tY (.int .i64 a)) tZ)) (.int .i64 j2) (tX (tX (tY (.int .i64 h)) tZ) (tX (tY (.int .i64 p3)) tZ)))) [cdi 126 [1,1,1,1,1,1,1,0,0,0],ili 126 [1,1,1,1,1,1,1,0,0,0],.inBlock 8,cdi 126 [1,1,1,1,1,1,1,1]],rest,⟨O,N,G⟩⟩
noncomputable def ztA:AFrame:=frm 126 220 (tW (tW (tW (tX (tX (tX tZ (tX (tY sl) tZ)) tZ) (tW (tX tZ (tX (tY (.ptr i4 i5 i6)) tZ)) (.int .i64 (IntKind.i64.wrap ((IntKind.u64.wrap (IntKind.i64.wrap (a+b))).fdiv ((2:Int) ^ min (Int.toNat (1:Int)) IntKind.u64.bits)))) (tX (tX (tY (.bool true)) tZ) tZ))) (.int .i64 n) (tX (tW (tX tZ (tX (tY (.ptr i1 i2 i3)) tZ)) (.int .i64 nn) tZ) (tX tZ (tX (tX (tY (.int .u64 (IntKind.u64.wrap (IntKind.i64.wrap (a+b))))) tZ) tZ)))) (.int .i64 j) (tX (tX (tX (tX tZ (tX (tY (.int .i64 (IntKind.i64.wrap ((IntKind.u64.wrap (IntKind.i64.wrap (a+b))).fdiv ((2:Int) ^ min (Int.toNat (1:Int)) IntKind.u64.bits))))) tZ)) tZ) (tX tZ (tX (tX (tY (.int .i64 b)) tZ) tZ))) (tX (tW (tX tZ (tX (tY sl) tZ)) (.int .i64 b) (tX (tX (tY (.int .i64 a)) tZ) tZ)) (tX tZ (tX (tX (tY (.int .i64 (IntKind.i64.wrap ((IntKind.u64.wrap (IntKind.i64.wrap (a+b))).fdiv ((2:Int) ^ min (Int.toNat (1:Int)) IntKind.u64.bits))))) tZ) tZ))))) sl (tW (tW (tX (tX (tX tZ (tX (tY (.int .i64 p3)) tZ)) tZ) (tX (tX tZ (tX (tY (.agg [.str l2,s2])) tZ)) (tX (tX (tY (.int .i64 a)) tZ) tZ))) (.fn (Fn.func (69:FuncId)) [] []) (tX (tW (tX tZ (tX (tY (.agg [.str l1,s1])) tZ)) (.int .i64 a) tZ) (tX tZ (tX (tX (tY (.int .u64 ((IntKind.u64.wrap (IntKind.i64.wrap (a+b))).fdiv ((2:Int) ^ min (Int.toNat (1:Int)) IntKind.u64.bits)))) tZ) tZ)))) (.int .i64 j2) (tX (tX (tW (tX tZ (tX (tY (.int .i64 (IntKind.i64.wrap (p3 - IntKind.i64.wrap ((IntKind.u64.wrap (IntKind.i64.wrap (a+b))).fdiv ((2:Int) ^ min (Int.toNat (1:Int)) IntKind.u64.bits)))))) tZ)) (.int .i64 h) tZ) (tX tZ (tX (tX (tY (.int .i64 (IntKind.i64.wrap (a+b)))) tZ) tZ))) (tX (tW (tX tZ (tX (tY (.int .i64 (IntKind.i64.wrap ((IntKind.u64.wrap (IntKind.i64.wrap (a+b))).fdiv ((2:Int) ^ min (Int.toNat (1:Int)) IntKind.u64.bits))))) tZ)) (.int .i64 p3) (tX (tX (tY (.int .i64 b)) tZ) tZ)) (tX tZ (tX (tX (tY (.fn (Fn.func (69:FuncId)) [] [])) tZ) tZ)))))) [.drw (rg P 126 [1,1,1,1,1,1,1,0,0,0,1,0,1,0]) [11,12,13] [10,9,8,7,6,5,4,3,2,1,0],cdi 126 [1,1,1,1,1,1,1,0,0,0,1,0,1,1],.inBlock 9,ili 126 [1,1,1,1,1,1,1,0,0,0],.inBlock 8,cdi 126 [1,1,1,1,1,1,1,1]]
noncomputable def zlB:AFrame:=frm 126 220 (tW (tW (tW tZ (.int .i64 n) (tX tZ (tX tZ (tX tZ (tX (tY (.int .i64 a)) tZ))))) (.int .i64 j) (tX tZ (tX tZ (tX tZ (tX tZ (tX (tY (.int .i64 (IntKind.i64.wrap (nn - a)))) tZ)))))) sl (tX (tW (tX tZ (tY (.int .i64 (IntKind.i64.wrap (nn - a))))) (.fn (Fn.func (69:FuncId)) [] []) (tX (tY (.int .i64 a)) (tX tZ (tX tZ (tX (tY (.int .i64 j2)) tZ))))) (tX (tX (tY (.int .i64 h)) (tX tZ (tX tZ (tX (tY sl) tZ)))) (tX tZ (tX tZ (tX tZ (tX (tY (.fn (Fn.func (69:FuncId)) [] [])) tZ))))))) [opi 126 [1,1,1,1,1,1,1,1,1,0,1,0] 5,cdi 126 [1,1,1,1,1,1,1,1,1,1]]
noncomputable def zrg:AM:=⟨frm 126 220 (tW (tW (tY (.int .i64 n)) (.int .i64 j) tZ) sl (tX (tW (tX tZ (tY (.int .i64 b))) (.fn (Fn.func (69:FuncId)) [] []) (tX (tY (.int .i64 a)) tZ)) (tX (tX (tY (.int .i64 h)) tZ) tZ))) [cdi 126 [1,1,1,1,1,1,1,1,1,1]],rest,⟨O,N,G⟩⟩
noncomputable def zpl:AFrame:=frm 126 220 (tW (tX (tW tZ (.int .i64 n) (tX tZ (tX (tX (tX tZ (tY (.int .i64 h))) tZ) tZ))) (tX (tX tZ (tX (tX (tX tZ (tY (.int .i64 j))) tZ) tZ)) tZ)) sl (tX (tW (tX tZ (tW (tX (tX tZ (tY sl)) tZ) (.int .i64 b) tZ)) (.fn (Fn.func (69:FuncId)) [] []) (tX tZ (tX (tX (tX tZ (tY (.fn (Fn.func (69:FuncId)) [] []))) tZ) tZ))) (tX (tX (tY (.int .i64 h)) (tX (tX (tX tZ (tY (.int .i64 a))) tZ) tZ)) tZ))) [opi 126 [1,1,1,1,1,1,1,1,1,1,0,1,0] 5,cdi 126 [1,1,1,1,1,1,1,1,1,1,1]]
noncomputable def zre:AM:=⟨frm 126 220 (tW (tX (tY (.int .i64 n)) tZ) sl (tX (tW (tX tZ (tY (.int .i64 b))) (.fn (Fn.func (69:FuncId)) [] []) tZ) (tX (tX (tY (.int .i64 h)) tZ) tZ))) [cdi 126 [1,1,1,1,1,1,1,1,1,1,1]],rest,⟨O,N,G⟩⟩
noncomputable def zoY:AFrame:=frm 126 220 (tX (tX (tX (tX tZ (tX tZ (tX (tX tZ (tY (.int .i64 h))) tZ))) tZ) (tX (tX tZ (tX tZ (tX (tX tZ (tY (.int .i64 n))) tZ))) tZ)) (tX (tX (tX tZ (tX tZ (tX (tX tZ (tY (.int .i64 b))) tZ))) tZ) (tX (tX tZ (tX tZ (tX (tX tZ (tY (.fn (Fn.func (69:FuncId)) [] []))) tZ))) (tX (tX tZ (tX (tX tZ (tY sl)) tZ)) tZ)))) [opi 126 [1,1,1,1,1,1,1,1,1,1,1,1,0] 5]
noncomputable def ztH:AFrame:=frm 126 220 (tW (tW (tX (tX (tX (tY (.int .i64 a)) (tY (.ptr i4 i5 i6))) (tX (tY (.int .i64 (IntKind.i64.wrap ((IntKind.u64.wrap (IntKind.i64.wrap (a+b))).fdiv ((2:Int) ^ min (Int.toNat (1:Int)) IntKind.u64.bits))))) tZ)) (tW (tX (tY (.int .i64 b)) tZ) (.int .i64 b) (tX (tY (.ptr i1 i2 i3)) tZ))) (.int .i64 j) (tX (tX (tX (tY (.bool true)) tZ) (tX (tY sl) tZ)) (tX (tX (tY (.int .u64 (IntKind.u64.wrap (IntKind.i64.wrap (a+b))))) tZ) (tX (tY sl) tZ)))) sl (tX (tW (tX (tX (tY (.int .i64 b)) (tY (.agg [.str l2,s2]))) (tX (tY (.fn (Fn.func (69:FuncId)) [] [])) tZ)) (.fn (Fn.func (69:FuncId)) [] []) (tW (tX (tY (.int .i64 (IntKind.i64.wrap (a+b)))) tZ) (.int .i64 (IntKind.i64.wrap ((IntKind.u64.wrap (IntKind.i64.wrap (a+b))).fdiv ((2:Int) ^ min (Int.toNat (1:Int)) IntKind.u64.bits)))) (tX (tY (.agg [.str l1,s1])) tZ))) (tX (tW (tX (tY (.int .i64 a)) tZ) (.int .i64 a) (tX (tY (.int .i64 (IntKind.i64.wrap ((IntKind.u64.wrap (IntKind.i64.wrap (a+b))).fdiv ((2:Int) ^ min (Int.toNat (1:Int)) IntKind.u64.bits))))) tZ)) (tX (tX (tY (.int .u64 ((IntKind.u64.wrap (IntKind.i64.wrap (a+b))).fdiv ((2:Int) ^ min (Int.toNat (1:Int)) IntKind.u64.bits)))) tZ) (tX (tY (.int .i64 j)) tZ))))) [.drw (rg P 126 [0,1,0,1,1,0,0,0,1,0,1,0]) [9,10] [8,7,6,5,4,3,2,1,0],cdi 126 [0,1,0,1,1,0,0,0,1,0,1,1],.inBlock 1,ili 126 [0,1,0,1,1,0,0,0],.inBlock 0,cdi 126 [0,1,0,1,1,1],cdi 126 [1]]
noncomputable def Wsyk:AM:=⟨frm 126 220 (tW (tX tZ (tX tZ (tY (.int .i64 h)))) sl (tX tZ (tX (tY (.int .i64 a)) tZ))) [cdi 126 [0,1,0,1,1,1,0,1,0,0],ili 126 [0,1,0,1,1,1,0,1,0,0],.inBlock 2,cdi 126 [0,1,0,1,1,1,1],cdi 126 [1]],rest,⟨O,N,G⟩⟩
noncomputable def zrW:AFrame:=frm 126 220 (tW (tX (tX (tX (tW (tX tZ (tY (.ptr i1 i2 i3))) (.int .i64 b) tZ) (tX tZ (tX (tY (.int .i64 b)) tZ))) (tX (tX (tX tZ (tY (.ptr i4 i5 i6))) (tX (tY (.int .i64 a)) tZ)) (tX tZ (tX (tY (.int .i64 (IntKind.i64.wrap ((IntKind.u64.wrap (IntKind.i64.wrap (a+b))).fdiv ((2:Int) ^ min (Int.toNat (1:Int)) IntKind.u64.bits))))) tZ)))) (tX (tX (tX (tX tZ (tY sl)) tZ) (tX tZ (tX (tY (.int .u64 (IntKind.u64.wrap (IntKind.i64.wrap (a+b))))) tZ))) (tX (tX tZ (tX (tY (.bool true)) tZ)) (tX tZ (tX (tY sl) tZ))))) sl (tW (tW (tX (tW (tX tZ (tY (.agg [.str l1,s1]))) (.int .i64 (IntKind.i64.wrap ((IntKind.u64.wrap (IntKind.i64.wrap (a+b))).fdiv ((2:Int) ^ min (Int.toNat (1:Int)) IntKind.u64.bits)))) tZ) (tX tZ (tX (tY (.int .i64 (IntKind.i64.wrap (a+b)))) tZ))) (.fn (Fn.func (69:FuncId)) [] []) (tX (tX (tX tZ (tY (.agg [.str l2,s2]))) (tX (tY (.int .i64 b)) tZ)) (tX tZ (tX (tY (.fn (Fn.func (69:FuncId)) [] [])) tZ)))) (.int .i64 j2) (tX (tX (tX (tX tZ (tY (.int .i64 (IntKind.i64.wrap ((IntKind.u64.wrap (IntKind.i64.wrap (a+b))).fdiv ((2:Int) ^ min (Int.toNat (1:Int)) IntKind.u64.bits)))))) tZ) (tX tZ (tX (tY (.int .u64 ((IntKind.u64.wrap (IntKind.i64.wrap (a+b))).fdiv ((2:Int) ^ min (Int.toNat (1:Int)) IntKind.u64.bits)))) tZ))) (tW (tX tZ (tX (tY (.int .i64 a)) tZ)) (.int .i64 a) (tX tZ (tX (tY (.int .i64 j2)) tZ)))))) [.drw (rg P 126 [1,0,1,0,1,1,0,0,0,1,0,1,0]) [9,10,11] [8,7,6,5,4,3,2,1,0],cdi 126 [1,0,1,0,1,1,0,0,0,1,0,1,1],.inBlock 5,ili 126 [1,0,1,0,1,1,0,0,0],.inBlock 4,cdi 126 [1,0,1,0,1,1,1],cdi 126 [1,1]]
noncomputable def Wsyl:AM:=⟨frm 126 220 (tW (tX tZ (tX (tX (tY (.int .i64 h)) tZ) tZ)) sl (tX tZ (tX tZ (tY (.int .i64 a))))) [cdi 126 [1,0,1,0,1,1,1,0,1,0,0],ili 126 [1,0,1,0,1,1,1,0,1,0,0],.inBlock 6,cdi 126 [0,1,0,1,1,1,1],cdi 126 [1,1]],rest,⟨O,N,G⟩⟩
end
section
variable {R:AV→AHeap→Prop} {keep N i1c i2c i3c i4c i5c i6c:Nat} {f0:FuncId} {rest:List AFrame} {O:T AObj} {n j j2 a b crq0 h nn p3:Int} {sl s1c s2c:AV} {G:T (T AV)} {K:AM→Prop} {td:List AItem} {l1c l2c:List UInt8}
theorem t_sym:((((IntKind.i64.wrap (j2 - j)==(1:Int)))=true→(K (zrj j sl j2 n rest O N G)))∧(((IntKind.i64.wrap (j2 - j)==(1:Int)))=false→((((IntKind.i64.wrap (n - j2)==(1:Int)))=true→(K (zrl j2 sl j j2 rest O N G)))∧(((IntKind.i64.wrap (n - j2)==(1:Int)))=false→(((decide (j2 > IntKind.i64.wrap ((IntKind.u64.wrap (IntKind.i64.wrap (j+n))).fdiv ((2:Int) ^ min (Int.toNat (1:Int)) IntKind.u64.bits))))=true→(K (zqS n j j2 sl (IntKind.i64.wrap (IntKind.i64.wrap ((IntKind.u64.wrap (IntKind.i64.wrap (j+n))).fdiv ((2:Int) ^ min (Int.toNat (1:Int)) IntKind.u64.bits))+j2)) (IntKind.i64.wrap (IntKind.i64.wrap (IntKind.i64.wrap ((IntKind.u64.wrap (IntKind.i64.wrap (j+n))).fdiv ((2:Int) ^ min (Int.toNat (1:Int)) IntKind.u64.bits))+j2) - n)) (IntKind.i64.wrap ((IntKind.u64.wrap (IntKind.i64.wrap (j+n))).fdiv ((2:Int) ^ min (Int.toNat (1:Int)) IntKind.u64.bits))) (IntKind.i64.wrap ((IntKind.u64.wrap (IntKind.i64.wrap (j+n))).fdiv ((2:Int) ^ min (Int.toNat (1:Int)) IntKind.u64.bits))) (IntKind.i64.wrap (IntKind.i64.wrap (IntKind.i64.wrap ((IntKind.u64.wrap (IntKind.i64.wrap (j+n))).fdiv ((2:Int) ^ min (Int.toNat (1:Int)) IntKind.u64.bits))+j2) - (1:Int))) rest O N G)))∧((decide (j2 > IntKind.i64.wrap ((IntKind.u64.wrap (IntKind.i64.wrap (j+n))).fdiv ((2:Int) ^ min (Int.toNat (1:Int)) IntKind.u64.bits))))=false→(K (zqS n j j2 sl (IntKind.i64.wrap (IntKind.i64.wrap ((IntKind.u64.wrap (IntKind.i64.wrap (j+n))).fdiv ((2:Int) ^ min (Int.toNat (1:Int)) IntKind.u64.bits))+j2)) j j2 (IntKind.i64.wrap ((IntKind.u64.wrap (IntKind.i64.wrap (j+n))).fdiv ((2:Int) ^ min (Int.toNat (1:Int)) IntKind.u64.bits))) (IntKind.i64.wrap (IntKind.i64.wrap (IntKind.i64.wrap ((IntKind.u64.wrap (IntKind.i64.wrap (j+n))).fdiv ((2:Int) ^ min (Int.toNat (1:Int)) IntKind.u64.bits))+j2) - (1:Int))) rest O N G))))))))=OT f0 R keep K (.seq [.run 8] (.fork 28 (.seq [.run 14,.keep [0,1,4,10,11]] .fin) (.seq [.run 10] (.fork 80 (.seq [.run 14,.keep [0,2,4,14,15]] .fin) (.seq [.run 31] (.fork 140 (.seq [.run 21,.keep [0,1,2,3,4,18,19,20,21,22]] .fin) (.seq [.run 19,.keep [0,1,2,3,4,18,19,20,21,22]] .fin))))))) ((AM.mk (enF 126 [sl,.int .i64 j,.int .i64 j2,.int .i64 n,.fn (Fn.func 69) [] []]) rest ⟨O,N,G⟩)):=by kernel_rfl
theorem zp2:(((decide (a<b))=true→(∃ (i1:Nat) (i2:Nat) (i3:Nat) (l1:List UInt8) (s1:AV) (i4:Nat) (i5:Nat) (i6:Nat) (l2:List UInt8) (s2:AV),(zf P (75) (sl) (.int .i64 (IntKind.i64.wrap ((IntKind.u64.wrap (IntKind.i64.wrap (a+b))).fdiv ((2:Int) ^ min (Int.toNat (1:Int)) IntKind.u64.bits))))=(some (.ptr i1 i2 i3)))∧(zb (⟨O,N,G⟩) (i1) (i2) (i3) (2)=(some [.str l1,s1]))∧(iX 75 sl j i4 i5 i6)∧(zb (⟨O,N,G⟩) (i4) (i5) (i6) (2)=(some [.str l2,s2]))∧K (AM.mk (enF 69 [.agg [.str l1,s1],.agg [.str l2,s2]]) ((ztH j sl i1 i2 i3 i4 i5 i6 s1 s2 l1 l2 a b)::rest) ⟨O,N,G⟩)))∧((decide (a<b))=false→(K (Wsyk sl a j rest O N G))))=OT f0 R keep K (.seq [.run 7] (.fork 33 (.ex fun i1:Nat=>(.ex fun i2:Nat=>(.ex fun i3:Nat=>(.ex fun l1:List UInt8=>(.ex fun s1:AV=>(.ex fun i4:Nat=>(.ex fun i5:Nat=>(.ex fun i6:Nat=>(.ex fun l2:List UInt8=>(.ex fun s2:AV=>(.seq [.run 18,.hopn (.ptr i1 i2 i3) O (N),.hop (.agg [.str l1,s1]) O,.run 2,.hopn (.ptr i4 i5 i6) O (N),.hop (.agg [.str l2,s2]) O,.run 1] .fin))))))))))) (.seq [.run 10,.keep [0,10,13]] .fin))) ((zrj j sl a b rest O N G)):=by kernel_rfl
theorem zkq:(((decide (crq0<(0:Int)))=true→(K (zrj j sl (IntKind.i64.wrap (IntKind.i64.wrap ((IntKind.u64.wrap (IntKind.i64.wrap (a+b))).fdiv ((2:Int) ^ min (Int.toNat (1:Int)) IntKind.u64.bits))+(1:Int))) b rest O N G)))∧((decide (crq0<(0:Int)))=false→(K (zrj j sl a (IntKind.i64.wrap ((IntKind.u64.wrap (IntKind.i64.wrap (a+b))).fdiv ((2:Int) ^ min (Int.toNat (1:Int)) IntKind.u64.bits))) rest O N G))))=OT f0 R keep K (.seq [.run 3] (.fork 50 (.seq [.run 8,.keep [0,1,4,10,11]] .fin) (.seq [.run 7,.keep [0,1,4,10,11]] .fin))) ((AM.mk (RF 69 10 (tX tZ (tX (tY (.int .i64 crq0)) tZ)) td) ((ztH j sl i1c i2c i3c i4c i5c i6c s1c s2c l1c l2c a b)::rest) ⟨O,N,G⟩)):=by kernel_rfl
theorem zsp:(((decide (h<IntKind.i64.wrap (a - (1:Int))))=true→(∃ (i1:Nat) (i2:Nat) (i3:Nat) (l1:List UInt8) (s1:AV) (i4:Nat) (i5:Nat) (i6:Nat) (l2:List UInt8) (s2:AV) (i7:Nat) (i8:Nat) (i9:Nat) (O1:T AObj) (i10:Nat) (i11:Nat) (i12:Nat) (O2:T AObj),(zf P (75) (sl) (.int .i64 (IntKind.i64.wrap (h+(1:Int))))=(some (.ptr i1 i2 i3)))∧(zb (⟨O,N,G⟩) (i1) (i2) (i3) (2)=(some [.str l1,s1]))∧(iX 75 sl h i4 i5 i6)∧(zb (⟨O,N,G⟩) (i4) (i5) (i6) (2)=(some [.str l2,s2]))∧(iX 75 sl h i7 i8 i9)∧((AV.agg [AV.str l1,s1]).cells.length.beq (2)=true∧zc (⟨O,N,G⟩:AHeap) i7 i8 i9 (AV.agg [AV.str l1,s1]).cells=some (⟨O1,N,G⟩:AHeap))∧(qq P (⟨O1,N,G⟩) (BinOp.add) (3) (true) (.int .i64 h) (.int .i64 1)=(some (.int .i64 (IntKind.i64.wrap (h+(1:Int))))))∧(zf P (75) (sl) (.int .i64 (IntKind.i64.wrap (h+(1:Int))))=(some (.ptr i10 i11 i12)))∧((AV.agg [AV.str l2,s2]).cells.length.beq (2)=true∧zc (⟨O1,N,G⟩:AHeap) i10 i11 i12 (AV.agg [AV.str l2,s2]).cells=some (⟨O2,N,G⟩:AHeap))∧K (Wsyk sl a (IntKind.i64.wrap (h+(1:Int))) rest O2 N G)))∧((decide (h<IntKind.i64.wrap (a - (1:Int))))=false→(K (AM.mk (RF 126 220 .leaf [cdi 126 [0,1,0,1,1,1,1],cdi 126 [1]]) rest ⟨O,N,G⟩))))=OT f0 R keep K (.seq [.run 8] (.fork 58 (.ex fun i1:Nat=>(.ex fun i2:Nat=>(.ex fun i3:Nat=>(.ex fun l1:List UInt8=>(.ex fun s1:AV=>(.ex fun i4:Nat=>(.ex fun i5:Nat=>(.ex fun i6:Nat=>(.ex fun l2:List UInt8=>(.ex fun s2:AV=>(.ex fun i7:Nat=>(.ex fun i8:Nat=>(.ex fun i9:Nat=>(.ex fun O1:T AObj=>(.ex fun i10:Nat=>(.ex fun i11:Nat=>(.ex fun i12:Nat=>(.ex fun O2:T AObj=>(.seq [.run 13,.hopn (.ptr i1 i2 i3) O (N),.hop (.agg [.str l1,s1]) O,.run 2,.hopn (.ptr i4 i5 i6) O (N),.hop (.agg [.str l2,s2]) O,.hopn (.ptr i7 i8 i9) O (N),.hopn (.nilp) O1 (N),.hopn (.ptr i10 i11 i12) O1 (N),.hopn (.nilp) O2 (N),.run 8,.keep [0,10,13]] .fin))))))))))))))))))) (.seq [.run 3,.keep []] .fin))) ((Wsyk sl a h rest O N G)):=by kernel_rfl
theorem zq6:(((decide (a<b))=true→(∃ (i1:Nat) (i2:Nat) (i3:Nat) (l1:List UInt8) (s1:AV) (i4:Nat) (i5:Nat) (i6:Nat) (l2:List UInt8) (s2:AV),(iX 75 sl j2 i1 i2 i3)∧(zb (⟨O,N,G⟩) (i1) (i2) (i3) (2)=(some [.str l1,s1]))∧(zf P (75) (sl) (.int .i64 (IntKind.i64.wrap ((IntKind.u64.wrap (IntKind.i64.wrap (a+b))).fdiv ((2:Int) ^ min (Int.toNat (1:Int)) IntKind.u64.bits))))=(some (.ptr i4 i5 i6)))∧(zb (⟨O,N,G⟩) (i4) (i5) (i6) (2)=(some [.str l2,s2]))∧K (AM.mk (enF 69 [.agg [.str l1,s1],.agg [.str l2,s2]]) ((zrW j2 sl i1 i2 i3 i4 i5 i6 s1 s2 l1 l2 a b)::rest) ⟨O,N,G⟩)))∧((decide (a<b))=false→(K (Wsyl sl a j2 rest O N G))))=OT f0 R keep K (.seq [.run 7] (.fork 85 (.ex fun i1:Nat=>(.ex fun i2:Nat=>(.ex fun i3:Nat=>(.ex fun l1:List UInt8=>(.ex fun s1:AV=>(.ex fun i4:Nat=>(.ex fun i5:Nat=>(.ex fun i6:Nat=>(.ex fun l2:List UInt8=>(.ex fun s2:AV=>(.seq [.run 18,.hopn (.ptr i1 i2 i3) O (N),.hop (.agg [.str l1,s1]) O,.run 2,.hopn (.ptr i4 i5 i6) O (N),.hop (.agg [.str l2,s2]) O,.run 1] .fin))))))))))) (.seq [.run 10,.keep [0,14,17]] .fin))) ((zrl j2 sl a b rest O N G)):=by kernel_rfl
theorem zkz:((((!decide (crq0<(0:Int))))=true→(K (zrl j2 sl (IntKind.i64.wrap (IntKind.i64.wrap ((IntKind.u64.wrap (IntKind.i64.wrap (a+b))).fdiv ((2:Int) ^ min (Int.toNat (1:Int)) IntKind.u64.bits))+(1:Int))) b rest O N G)))∧(((!decide (crq0<(0:Int))))=false→(K (zrl j2 sl a (IntKind.i64.wrap ((IntKind.u64.wrap (IntKind.i64.wrap (a+b))).fdiv ((2:Int) ^ min (Int.toNat (1:Int)) IntKind.u64.bits))) rest O N G))))=OT f0 R keep K (.seq [.run 4] (.fork 103 (.seq [.run 8,.keep [0,2,4,14,15]] .fin) (.seq [.run 7,.keep [0,2,4,14,15]] .fin))) ((AM.mk (RF 69 10 (tX tZ (tX (tY (.int .i64 crq0)) tZ)) td) ((zrW j2 sl i1c i2c i3c i4c i5c i6c s1c s2c l1c l2c a b)::rest) ⟨O,N,G⟩)):=by kernel_rfl
theorem zsF:(((decide (h > a))=true→(∃ (i1:Nat) (i2:Nat) (i3:Nat) (l1:List UInt8) (s1:AV) (i4:Nat) (i5:Nat) (i6:Nat) (l2:List UInt8) (s2:AV) (i7:Nat) (i8:Nat) (i9:Nat) (O1:T AObj) (i10:Nat) (i11:Nat) (i12:Nat) (O2:T AObj),(zf P (75) (sl) (.int .i64 (IntKind.i64.wrap (h - (1:Int))))=(some (.ptr i1 i2 i3)))∧(zb (⟨O,N,G⟩) (i1) (i2) (i3) (2)=(some [.str l1,s1]))∧(iX 75 sl h i4 i5 i6)∧(zb (⟨O,N,G⟩) (i4) (i5) (i6) (2)=(some [.str l2,s2]))∧(iX 75 sl h i7 i8 i9)∧((AV.agg [AV.str l1,s1]).cells.length.beq (2)=true∧zc (⟨O,N,G⟩:AHeap) i7 i8 i9 (AV.agg [AV.str l1,s1]).cells=some (⟨O1,N,G⟩:AHeap))∧(qq P (⟨O1,N,G⟩) (BinOp.sub) (3) (true) (.int .i64 h) (.int .i64 1)=(some (.int .i64 (IntKind.i64.wrap (h - (1:Int))))))∧(zf P (75) (sl) (.int .i64 (IntKind.i64.wrap (h - (1:Int))))=(some (.ptr i10 i11 i12)))∧((AV.agg [AV.str l2,s2]).cells.length.beq (2)=true∧zc (⟨O1,N,G⟩:AHeap) i10 i11 i12 (AV.agg [AV.str l2,s2]).cells=some (⟨O2,N,G⟩:AHeap))∧K (Wsyl sl a (IntKind.i64.wrap (h - (1:Int))) rest O2 N G)))∧((decide (h > a))=false→(K (AM.mk (RF 126 220 .leaf [cdi 126 [0,1,0,1,1,1,1],cdi 126 [1,1]]) rest ⟨O,N,G⟩))))=OT f0 R keep K (.seq [.run 7] (.fork 110 (.ex fun i1:Nat=>(.ex fun i2:Nat=>(.ex fun i3:Nat=>(.ex fun l1:List UInt8=>(.ex fun s1:AV=>(.ex fun i4:Nat=>(.ex fun i5:Nat=>(.ex fun i6:Nat=>(.ex fun l2:List UInt8=>(.ex fun s2:AV=>(.ex fun i7:Nat=>(.ex fun i8:Nat=>(.ex fun i9:Nat=>(.ex fun O1:T AObj=>(.ex fun i10:Nat=>(.ex fun i11:Nat=>(.ex fun i12:Nat=>(.ex fun O2:T AObj=>(.seq [.run 13,.hopn (.ptr i1 i2 i3) O (N),.hop (.agg [.str l1,s1]) O,.run 2,.hopn (.ptr i4 i5 i6) O (N),.hop (.agg [.str l2,s2]) O,.hopn (.ptr i7 i8 i9) O (N),.hopn (.nilp) O1 (N),.hopn (.ptr i10 i11 i12) O1 (N),.hopn (.nilp) O2 (N),.run 8,.keep [0,14,17]] .fin))))))))))))))))))) (.seq [.run 3,.keep []] .fin))) ((Wsyl sl a h rest O N G)):=by kernel_rfl
theorem ztY:(((decide (a<b))=true→(∃ (i1:Nat) (i2:Nat) (i3:Nat) (l1:List UInt8) (s1:AV) (i4:Nat) (i5:Nat) (i6:Nat) (l2:List UInt8) (s2:AV),(zf P (75) (sl) (.int .i64 (IntKind.i64.wrap (p3 - IntKind.i64.wrap ((IntKind.u64.wrap (IntKind.i64.wrap (a+b))).fdiv ((2:Int) ^ min (Int.toNat (1:Int)) IntKind.u64.bits)))))=(some (.ptr i1 i2 i3)))∧(zb (⟨O,N,G⟩) (i1) (i2) (i3) (2)=(some [.str l1,s1]))∧(zf P (75) (sl) (.int .i64 (IntKind.i64.wrap ((IntKind.u64.wrap (IntKind.i64.wrap (a+b))).fdiv ((2:Int) ^ min (Int.toNat (1:Int)) IntKind.u64.bits))))=(some (.ptr i4 i5 i6)))∧(zb (⟨O,N,G⟩) (i4) (i5) (i6) (2)=(some [.str l2,s2]))∧K (AM.mk (enF 69 [.agg [.str l1,s1],.agg [.str l2,s2]]) ((ztA n j j2 sl nn i1 i2 i3 i4 i5 i6 s1 s2 l1 l2 a b h p3)::rest) ⟨O,N,G⟩)))∧((decide (a<b))=false→(((decide (a<j2))=true→(((decide (j2<IntKind.i64.wrap (nn - a)))=true→(K (AM.mk (enF 141 [sl,.int .i64 a,.int .i64 j2,.int .i64 (IntKind.i64.wrap (nn - a)),.fn (Fn.func (69:FuncId)) [] []]) ((zlB n j j2 sl nn a h)::rest) ⟨O,N,G⟩)))∧((decide (j2<IntKind.i64.wrap (nn - a)))=false→(K (zrg n j sl a (IntKind.i64.wrap (nn - a)) h rest O N G)))))∧((decide (a<j2))=false→(K (zrg n j sl a (IntKind.i64.wrap (nn - a)) h rest O N G))))))=OT f0 R keep K (.seq [.run 7] (.fork 151 (.ex fun i1:Nat=>(.ex fun i2:Nat=>(.ex fun i3:Nat=>(.ex fun l1:List UInt8=>(.ex fun s1:AV=>(.ex fun i4:Nat=>(.ex fun i5:Nat=>(.ex fun i6:Nat=>(.ex fun l2:List UInt8=>(.ex fun s2:AV=>(.seq [.run 20,.hopn (.ptr i1 i2 i3) O (N),.hop (.agg [.str l1,s1]) O,.run 2,.hopn (.ptr i4 i5 i6) O (N),.hop (.agg [.str l2,s2]) O,.run 1] .fin))))))))))) (.seq [.run 16] (.fork 181 (.seq [.run 5] (.fork 185 (.seq [.run 7,.keep [0,1,3,4,18,20,24,186,187,188,189,190],.run 1] .fin) (.seq [.run 2,.keep [0,1,3,4,18,20,24]] .fin))) (.seq [.run 7,.keep [0,1,3,4,18,20,24]] .fin))))) ((zqS n j j2 sl nn a b h p3 rest O N G)):=by kernel_rfl
theorem zkQ:((((!decide (crq0<(0:Int))))=true→(K (zqS n j j2 sl nn (IntKind.i64.wrap (IntKind.i64.wrap ((IntKind.u64.wrap (IntKind.i64.wrap (a+b))).fdiv ((2:Int) ^ min (Int.toNat (1:Int)) IntKind.u64.bits))+(1:Int))) b h p3 rest O N G)))∧(((!decide (crq0<(0:Int))))=false→(K (zqS n j j2 sl nn a (IntKind.i64.wrap ((IntKind.u64.wrap (IntKind.i64.wrap (a+b))).fdiv ((2:Int) ^ min (Int.toNat (1:Int)) IntKind.u64.bits))) h p3 rest O N G))))=OT f0 R keep K (.seq [.run 4] (.fork 171 (.seq [.run 8,.keep [0,1,2,3,4,18,19,20,21,22]] .fin) (.seq [.run 7,.keep [0,1,2,3,4,18,19,20,21,22]] .fin))) ((AM.mk (RF 69 10 (tX tZ (tX (tY (.int .i64 crq0)) tZ)) td) ((ztA n j j2 sl nn i1c i2c i3c i4c i5c i6c s1c s2c l1c l2c a b h p3)::rest) ⟨O,N,G⟩)):=by kernel_rfl
theorem zgm:(K (zrg n j sl a (IntKind.i64.wrap (nn - a)) h rest O N G))=OT f0 R keep K (.seq [.run 2,.keep [0,1,3,4,18,20,24]] .fin) ((AM.mk (RF 141 58 .leaf td) ((zlB n j j2 sl nn a h)::rest) ⟨O,N,G⟩)):=by kernel_rfl
theorem t_syd:(((decide (j<a))=true→(((decide (a<h))=true→(K (AM.mk (enF 126 [sl,.int .i64 j,.int .i64 a,.int .i64 h,.fn (Fn.func (69:FuncId)) [] []]) ((zpl n j sl a b h)::rest) ⟨O,N,G⟩)))∧((decide (a<h))=false→(K (zre n sl b h rest O N G)))))∧((decide (j<a))=false→(K (zre n sl b h rest O N G))))=OT f0 R keep K (.seq [.run 7] (.fork 195 (.seq [.run 5] (.fork 199 (.seq [.run 7,.keep [0,3,4,18,24,200,201,202,203,204],.run 1] .fin) (.seq [.run 2,.keep [0,3,4,18,24]] .fin))) (.seq [.run 7,.keep [0,3,4,18,24]] .fin))) ((zrg n j sl a b h rest O N G)):=by kernel_rfl
theorem zjn:(K (zre n sl b h rest O N G))=OT f0 R keep K (.seq [.run 2,.keep [0,3,4,18,24]] .fin) ((AM.mk (RF 126 220 .leaf td) ((zpl n j sl a b h)::rest) ⟨O,N,G⟩)):=by kernel_rfl
theorem t_sye:(((decide (h<b))=true→(((decide (b<n))=true→(K (AM.mk (enF 126 [sl,.int .i64 h,.int .i64 b,.int .i64 n,.fn (Fn.func (69:FuncId)) [] []]) ((zoY n sl b h)::rest) ⟨O,N,G⟩)))∧((decide (b<n))=false→(K (AM.mk (RF 126 220 .leaf []) rest ⟨O,N,G⟩)))))∧((decide (h<b))=false→(K (AM.mk (RF 126 220 .leaf []) rest ⟨O,N,G⟩))))=OT f0 R keep K (.seq [.run 6] (.fork 209 (.seq [.run 5] (.fork 213 (.seq [.run 7,.keep [214,215,216,217,218],.run 1] .fin) (.seq [.run 3,.keep []] .fin))) (.seq [.run 8,.keep []] .fin))) ((zre n sl b h rest O N G)):=by kernel_rfl
theorem ziQ:(K (AM.mk (RF 126 220 .leaf []) rest ⟨O,N,G⟩))=OT f0 R keep K (.seq [.run 3,.keep []] .fin) ((AM.mk (RF 126 220 .leaf td) ((zoY n sl b h)::rest) ⟨O,N,G⟩)):=by kernel_rfl
end
variable {O O':T AObj} {N:Nat} {G:T (T AV)}
theorem zs1 {lo hi a b:Nat}{s:AV}{xs:List TE}(h:Arr O lo hi s xs)(hN:hi≤N)(hab:a+1<b)(hb:b≤xs.length)(hx:xs.length<1000000)(r:Sor xs (a+1) b){keep:Nat}{f0:FuncId}{Q:AV→AHeap→Prop}{rest:List AFrame}
 (hK:(∀ O' N' ys td,Arr O' lo hi s ys→Chg s O N O' N'→Rg xs ys a b→Sor ys a b→Goal P keep f0 Q (AM.mk (RF 126 220 .leaf td) rest ⟨O',N',G⟩))):Goal P keep f0 Q (zrj ((a:Nat):Int) s ((a+1:Nat):Int) ((b:Nat):Int) rest O N G):=by
 have shift:∀ (i:Nat),a<i→i≤b→(∀ u,a<u→u<i→Op.bytesLess (Fx xs u).1 (Fx xs a).1=true)→(∀ u,i≤u→u<b→Op.bytesLess (Fx xs u).1 (Fx xs a).1=false)→∀ (c e:Nat) (O2:T AObj) (N2:Nat) (ys:List TE),e+c=i - 1→a≤e→Arr O2 lo hi s ys→Chg s O N O2 N2→ys.length=xs.length→(∀ k,Fx ys k=shl xs a e k)→Goal P keep f0 Q (Wsyk s ((i:Nat):Int) ((e:Nat):Int) rest O2 N2 G):=by
  intro i hai hib k1 k2 c
  induction c with
  | zero =>
   intro e O2 N2 ys he hae h2 c2 l2 f2;have w2:IntKind.i64.wrap (((i:Nat):Int) - (1:Int))=((i - 1:Nat):Int):=by rw [IntKind.wrap_i64]; omega
   obtain rfl:e=i - 1:=by omega
   refine ot zsp (fkf (decide_eq_false (by rw [w2]; omega)) (hK O2 N2 ys _ h2 c2 (zrE l2 (by omega) f2) (zqX ⟨hai,hib⟩ f2 k1 k2 r)))
  | succ c ih =>
   intro e O2 N2 ys he hae h2 c2 l2 f2;have w2:IntKind.i64.wrap (((i:Nat):Int) - (1:Int))=((i - 1:Nat):Int):=by rw [IntKind.wrap_i64]; omega
   have w1:IntKind.i64.wrap (((e:Nat):Int)+(1:Int))=((e+1:Nat):Int):=zq (by omega);obtain ⟨d1,d2,d3,g1,g2,g3,O4,O5,eD,lD,eG,lG,sG,sD,h5,c5⟩:=h2.swap (i:=e+1) (j:=e) (by omega) (by omega) N2 G;rw [← w1] at eD;refine ot zsp (fkt (decide_eq_true (by rw [w2]; omega)) ?_);refine ⟨d1,d2,d3,_,_,g1,g2,g3,_,_,g1,g2,g3,O4,d1,d2,d3,O5,eD,lD,eG,lG,eG,(st2 sG),rfl,eD,(st2 sD),?_⟩;rw [w1];exact ih (e+1) O5 N2 (swp ys (e+1) e) (by omega) (by omega) h5 (c2.trans c5) (by rw [zd0,l2]) (zmX l2 (by omega) f2)
 have find:∀ (c i j:Nat) (O2:T AObj) (N2:Nat),j - i≤c→a<i→i≤j→j≤b→(∀ u,a<u→u<i→Op.bytesLess (Fx xs u).1 (Fx xs a).1=true)→(∀ u,j≤u→u<b→Op.bytesLess (Fx xs u).1 (Fx xs a).1=false)→Arr O2 lo hi s xs→Chg s O N O2 N2→Goal P keep f0 Q (zrj ((a:Nat):Int) s ((i:Nat):Int) ((j:Nat):Int) rest O2 N2 G):=by
  intro c
  induction c with
  | zero =>
   intro i j O2 N2 hc hai hij hjb k1 k2 h2 c2;obtain rfl:i=j:=by omega
   exact ot zp2 (fkf (decide_eq_false (by omega)) (shift i hai hjb k1 k2 (i - 1 - a) a O2 N2 xs (by omega) (Nat.le_refl _) h2 c2 rfl (fun k=>zhN)))
  | succ c ih =>
   intro i j O2 N2 hc hai hij hjb k1 k2 h2 c2
   by_cases hlt:i<j
   ·have wh:=zdS (a:=i) (b:=j) (by omega);obtain ⟨d1,d2,d3,eD,lD⟩:=h2.elem (i:=(i+j) / 2) (by omega);obtain ⟨g1,g2,g3,eG,lG⟩:=h2.elem (i:=a) (by omega);rw [← wh] at eD;have nn:=c2.1;refine ot zp2 (fkt (decide_eq_true (by omega)) ⟨d1,d2,d3,_,_,g1,g2,g3,_,_,eD,lD _ _,eG,lG _ _,?_⟩);refine zhp fun O3 N3 z td hz ex3=>?_;have h3:=h2.ext ex3 (by omega);have c3:=c2.trans (Chg.ext ex3);refine ot zkq ⟨fun hc=>?_,fun hc=>?_⟩
    ·have lt:=hz.1 (of_decide_eq_true hc);have w1:IntKind.i64.wrap ((((i+j) / 2:Nat):Int)+(1:Int))=(((i+j) / 2+1:Nat):Int):=zq (by omega);rw [wh,w1];exact ih ((i+j) / 2+1) j O3 N3 (by omega) (by omega) (by omega) hjb (fun u g1 g2=>by
      by_cases e:u=(i+j) / 2
      ·rw [e]; exact lt
      ·exact ztB (r u ((i+j) / 2) (by omega) (by omega) (by omega)) lt) k2 h3 c3
    ·have ge:Op.bytesLess (Fx xs ((i+j) / 2)).1 (Fx xs a).1=false:=by
      cases e:Op.bytesLess (Fx xs ((i+j) / 2)).1 (Fx xs a).1 with
      | false=>rfl
      | true=>have:=hz.2 e; have:=of_decide_eq_false hc; omega
     rw [wh];exact ih i ((i+j) / 2) O3 N3 (by omega) hai (by omega) (by omega) k1 (fun u g1 g2=>by
      by_cases e:u=(i+j) / 2
      ·rw [e]; exact ge
      ·exact le_trans ge (r ((i+j) / 2) u (by omega) (by omega) g2)) h3 c3
   ·obtain rfl:i=j:=by omega
    exact ot zp2 (fkf (decide_eq_false (by omega)) (shift i hai hjb k1 k2 (i - 1 - a) a O2 N2 xs (by omega) (Nat.le_refl _) h2 c2 rfl (fun k=>zhN)))
 exact find _ (a+1) b O N (Nat.le_refl _) (Nat.lt_succ_self _) (by omega) (Nat.le_refl _) (fun u g1 g2=>by omega) (fun u g1 g2=>by omega) h Chg.refl
theorem zr3 {lo hi a m:Nat}{s:AV}{xs:List TE}(h:Arr O lo hi s xs)(hN:hi≤N)(ham:a<m)(hb:m+1≤xs.length)(hx:xs.length<1000000)(l:Sor xs a m){keep:Nat}{f0:FuncId}{Q:AV→AHeap→Prop}{rest:List AFrame}
 (hK:∀ O' N' ys td,Arr O' lo hi s ys→Chg s O N O' N'→Rg xs ys a (m+1)→Sor ys a (m+1)→Goal P keep f0 Q (AM.mk (RF 126 220 .leaf td) rest ⟨O',N',G⟩)):Goal P keep f0 Q (zrl ((m:Nat):Int) s ((a:Nat):Int) ((m:Nat):Int) rest O N G):=by
 have shift:∀ (i:Nat),a≤i→i≤m→(∀ u,a≤u→u<i→Op.bytesLess (Fx xs m).1 (Fx xs u).1=false)→(∀ u,i≤u→u<m→Op.bytesLess (Fx xs m).1 (Fx xs u).1=true)→∀ (c e:Nat) (O2:T AObj) (N2:Nat) (ys:List TE),e=i+c→e≤m→Arr O2 lo hi s ys→Chg s O N O2 N2→ys.length=xs.length→(∀ k,Fx ys k=shr xs e m k)→Goal P keep f0 Q (Wsyl s ((i:Nat):Int) ((e:Nat):Int) rest O2 N2 G):=by
  intro i hai him k1 k2 c
  induction c with
  | zero =>
   intro e O2 N2 ys he hem h2 c2 l2 f2;obtain rfl:e=i:=by omega
   exact ot zsF (fkf (decide_eq_false (by omega)) (hK O2 N2 ys _ h2 c2 (zr1 l2 ⟨hai,him⟩ f2) (zqs ⟨hai,him⟩ f2 k1 k2 l)))
  | succ c ih =>
   intro e O2 N2 ys he hem h2 c2 l2 f2;have w1:IntKind.i64.wrap (((e:Nat):Int) - (1:Int))=((e - 1:Nat):Int):=by rw [IntKind.wrap_i64]; omega
   obtain ⟨d1,d2,d3,g1,g2,g3,O4,O5,eD,lD,eG,lG,sG,sD,h5,c5⟩:=h2.swap (i:=e - 1) (j:=e) (by omega) (by omega) N2 G;rw [← w1] at eD;refine ot zsF (fkt (decide_eq_true (by omega)) ?_);refine ⟨d1,d2,d3,_,_,g1,g2,g3,_,_,g1,g2,g3,O4,d1,d2,d3,O5,eD,lD,eG,lG,eG,(st2 sG),rfl,eD,(st2 sD),?_⟩;rw [w1];exact ih (e - 1) O5 N2 (swp ys (e - 1) e) (by omega) (by omega) h5 (c2.trans c5) (by rw [zd0,l2]) (zm3 l2 (by omega) f2)
 have find:∀ (c i j:Nat) (O2:T AObj) (N2:Nat),j - i≤c→a≤i→i≤j→j≤m→(∀ u,a≤u→u<i→Op.bytesLess (Fx xs m).1 (Fx xs u).1=false)→(∀ u,j≤u→u<m→Op.bytesLess (Fx xs m).1 (Fx xs u).1=true)→Arr O2 lo hi s xs→Chg s O N O2 N2→Goal P keep f0 Q (zrl ((m:Nat):Int) s ((i:Nat):Int) ((j:Nat):Int) rest O2 N2 G):=by
  intro c
  induction c with
  | zero =>
   intro i j O2 N2 hc hai hij hjm k1 k2 h2 c2;obtain rfl:i=j:=by omega
   exact ot zq6 (fkf (decide_eq_false (by omega)) (shift i hai hjm k1 k2 (m - i) m O2 N2 xs (by omega) (Nat.le_refl _) h2 c2 rfl (fun k=>zhm)))
  | succ c ih =>
   intro i j O2 N2 hc hai hij hjm k1 k2 h2 c2
   by_cases hlt:i<j
   ·have wh:=zdS (a:=i) (b:=j) (by omega);obtain ⟨d1,d2,d3,eD,lD⟩:=h2.elem (i:=m) (by omega);obtain ⟨g1,g2,g3,eG,lG⟩:=h2.elem (i:=(i+j) / 2) (by omega);rw [← wh] at eG;have nn:=c2.1;refine ot zq6 (fkt (decide_eq_true (by omega)) ⟨d1,d2,d3,_,_,g1,g2,g3,_,_,eD,lD _ _,eG,lG _ _,?_⟩);refine zhp fun O3 N3 z td hz ex3=>?_;have h3:=h2.ext ex3 (by omega);have c3:=c2.trans (Chg.ext ex3);refine ot zkz ⟨fun hc=>?_,fun hc=>?_⟩
    ·have ge:Op.bytesLess (Fx xs m).1 (Fx xs ((i+j) / 2)).1=false:=by
      cases e:Op.bytesLess (Fx xs m).1 (Fx xs ((i+j) / 2)).1 with
      | false=>rfl
      | true =>
       rw [decide_eq_true (hz.2 e)] at hc;cases hc
     have w1:IntKind.i64.wrap ((((i+j) / 2:Nat):Int)+(1:Int))=(((i+j) / 2+1:Nat):Int):=zq (by omega);rw [wh,w1];exact ih ((i+j) / 2+1) j O3 N3 (by omega) (by omega) (by omega) hjm (fun u g1 g2=>by
      by_cases e:u=(i+j) / 2
      ·rw [e]; exact ge
      ·exact le_trans (l u ((i+j) / 2) (by omega) (by omega) (by omega)) ge) k2 h3 c3
    ·have lt:Op.bytesLess (Fx xs m).1 (Fx xs ((i+j) / 2)).1=true:=hz.1 (by
      have:decide (z<0)=true:=by simpa using hc
      exact of_decide_eq_true this)
     rw [wh];exact ih i ((i+j) / 2) O3 N3 (by omega) hai (by omega) (by omega) k1 (fun u g1 g2=>by
      by_cases e:u=(i+j) / 2
      ·rw [e]; exact lt
      ·exact zsR lt (l ((i+j) / 2) u (by omega) (by omega) g2)) h3 c3
   ·obtain rfl:i=j:=by omega
    exact ot zq6 (fkf (decide_eq_false (by omega)) (shift i hai hjm k1 k2 (m - i) m O2 N2 xs (by omega) (Nat.le_refl _) h2 c2 rfl (fun k=>zhm)))
 exact find _ a m O N (Nat.le_refl _) (Nat.le_refl _) (by omega) (Nat.le_refl _) (fun u g1 g2=>by omega) (fun u g1 g2=>by omega) h Chg.refl
theorem zpL {lo hi:Nat}{s:AV}{keep:Nat}{f0:FuncId}{Q:AV→AHeap→Prop}:∀ (c a m b:Nat) (xs:List TE) (O:T AObj) (N:Nat) (rest:List AFrame),b - a≤c→a<m→m<b→b≤xs.length→xs.length<1000000→Arr O lo hi s xs→hi≤N→Sor xs a m→Sor xs m b →
 (∀ O' N' ys td,Arr O' lo hi s ys→Chg s O N O' N'→Rg xs ys a b→Sor ys a b→Goal P keep f0 Q (AM.mk (RF 126 220 .leaf td) rest ⟨O',N',G⟩))→Goal P keep f0 Q (AM.mk (enF 126 [s,.int .i64 ((a:Nat):Int),.int .i64 ((m:Nat):Int),.int .i64 ((b:Nat):Int),.fn (Fn.func 69) [] []]) rest ⟨O,N,G⟩):=by
 intro c
 induction c with
 | zero=>intro a m b xs O N rest h1 h2 h3; omega
 | succ c ih =>
  intro a m b xs O N rest hc ham hmb hb hx h hN l r hK;have w1:IntKind.i64.wrap (((m:Nat):Int) - ((a:Nat):Int))=((m - a:Nat):Int):=by rw [IntKind.wrap_i64]; omega
  have w2:IntKind.i64.wrap (((b:Nat):Int) - ((m:Nat):Int))=((b - m:Nat):Int):=by rw [IntKind.wrap_i64]; omega
  have wh:=zdS (a:=a) (b:=b) (by omega);obtain ⟨q1,q2,q3,q4,q5,q6⟩:=ztq ham hmb;have part3:∀ (O2:T AObj) (N2:Nat) (ys:List TE) (e:Nat),(a+b) / 2≤e→e≤b→Arr O2 lo hi s ys→Chg s O N O2 N2→ys.length=xs.length→Sor ys ((a+b) / 2) e→Sor ys e b→(∀ O3 N3 zs td,Arr O3 lo hi s zs→Chg s O N O3 N3→Rg ys zs ((a+b) / 2) b→Sor zs ((a+b) / 2) b→Goal P keep f0 Q (AM.mk (RF 126 220 .leaf td) rest ⟨O3,N3,G⟩))→Goal P keep f0 Q (zre ((b:Nat):Int) s ((e:Nat):Int) (((a+b) / 2:Nat):Int) rest O2 N2 G):=by
   intro O2 N2 ys e h1 h2 hA cA lA u1 u2 hK2;refine ot t_sye ⟨fun g1=>⟨fun g2=>?_,fun g2=>?_⟩,fun g1=>?_⟩
   ·have g1:=of_decide_eq_true g1;have g2:=of_decide_eq_true g2;refine ih ((a+b) / 2) e b ys O2 N2 _ (by omega) (by omega) (by omega) (by omega) (by omega) hA (Nat.le_trans hN cA.1) u1 u2 fun O3 N3 zs td h3 c3 r3 s3=>?_;exact ot ziQ (hK2 O3 N3 zs _ h3 (cA.trans c3) r3 s3)
   ·have g2:=of_decide_eq_false g2;obtain rfl:e=b:=by omega
    exact hK2 O2 N2 ys _ hA cA Rg.refl u1
   ·have g1:=of_decide_eq_false g1;have e1:e=(a+b) / 2:=by omega
    rw [e1] at u2;exact hK2 O2 N2 ys _ hA cA Rg.refl u2
  have part2:∀ (O2:T AObj) (N2:Nat) (ys:List TE) (i:Nat),s0 a m b≤i→i≤r0 a m b→Arr O2 lo hi s ys→Chg s O N O2 N2→Rg xs ys a b→Sor ys a i→Sor ys i ((a+b) / 2)→Sor ys ((a+b) / 2) ((a+b) / 2+m - i)→Sor ys ((a+b) / 2+m - i) b→(∀ u v,a≤u→u<(a+b) / 2→(a+b) / 2≤v→v<b→Op.bytesLess (Fx ys v).1 (Fx ys u).1=false)→Goal P keep f0 Q (zrg ((b:Nat):Int) ((a:Nat):Int) s ((i:Nat):Int) (((a+b) / 2+m - i:Nat):Int) (((a+b) / 2:Nat):Int) rest O2 N2 G):=by
   intro O2 N2 ys i h1 h2 hA cA rA u1 u2 u3 u4 u5;have lA:=rA.1;have fin:∀ (O3:T AObj) (N3:Nat) (zs:List TE),Arr O3 lo hi s zs→Chg s O N O3 N3→Rg ys zs a ((a+b) / 2)→Sor zs a ((a+b) / 2)→Goal P keep f0 Q (zre ((b:Nat):Int) s (((a+b) / 2+m - i:Nat):Int) (((a+b) / 2:Nat):Int) rest O3 N3 G):=by
    intro O3 N3 zs h3 c3 r3 s3;have same:∀ k,(a+b) / 2≤k→Fx zs k=Fx ys k:=fun k hk=>r3.2.1 k (.inr hk);refine part3 O3 N3 zs _ (by omega) (by omega) h3 c3 (r3.1.trans lA) (fun u v g1 g2 g3=>by rw [same v (by omega),same u g1]; exact u3 u v g1 g2 g3) (fun u v g1 g2 g3=>by rw [same v (by omega),same u (by omega)]; exact u4 u v g1 g2 g3) fun O4 N4 ws td h4 c4 r4 s4=>?_;exact hK O4 N4 ws _ h4 c4 ((rA.trans (r3.mono (Nat.le_refl _) (by omega))).trans (r4.mono (by omega) (Nat.le_refl _))) (zqO (by omega) (by omega) u5 r3 s3 r4 s4)
   refine ot t_syd ⟨fun g1=>⟨fun g2=>?_,fun g2=>?_⟩,fun g1=>?_⟩
   ·have g1:=of_decide_eq_true g1;have g2:=of_decide_eq_true g2;refine ih a i ((a+b) / 2) ys O2 N2 _ (by omega) (by omega) (by omega) (by omega) (by omega) hA (Nat.le_trans hN cA.1) u1 u2 fun O3 N3 zs td h3 c3 r3 s3=>?_;exact ot zjn (fin O3 N3 zs h3 (cA.trans c3) r3 s3)
   ·have g2:=of_decide_eq_false g2;have e1:i=(a+b) / 2:=by omega
    rw [e1] at u1;exact fin O2 N2 ys hA cA Rg.refl u1
   ·have g1:=of_decide_eq_false g1;have e1:i=a:=by omega
    rw [e1] at u2;exact fin O2 N2 ys hA cA Rg.refl u2
  have find:∀ (c i j:Nat) (O2:T AObj) (N2:Nat),j - i≤c→s0 a m b≤i→i≤j→j≤r0 a m b→(∀ u,s0 a m b≤u→u<i→Op.bytesLess (Fx xs ((a+b) / 2+m - 1 - u)).1 (Fx xs u).1=false)→(∀ u,j≤u→u<r0 a m b→Op.bytesLess (Fx xs ((a+b) / 2+m - 1 - u)).1 (Fx xs u).1=true)→Arr O2 lo hi s xs→Chg s O N O2 N2→Goal P keep f0 Q (zqS ((b:Nat):Int) ((a:Nat):Int) ((m:Nat):Int) s (((a+b) / 2+m:Nat):Int) ((i:Nat):Int) ((j:Nat):Int) (((a+b) / 2:Nat):Int) (((a+b) / 2+m - 1:Nat):Int) rest O2 N2 G):=by
   have out:∀ (i:Nat) (O2:T AObj) (N2:Nat),s0 a m b≤i→i≤r0 a m b→(∀ u,s0 a m b≤u→u<i→Op.bytesLess (Fx xs ((a+b) / 2+m - 1 - u)).1 (Fx xs u).1=false)→(∀ u,i≤u→u<r0 a m b→Op.bytesLess (Fx xs ((a+b) / 2+m - 1 - u)).1 (Fx xs u).1=true)→Arr O2 lo hi s xs→Chg s O N O2 N2→Goal P keep f0 Q (zqS ((b:Nat):Int) ((a:Nat):Int) ((m:Nat):Int) s (((a+b) / 2+m:Nat):Int) ((i:Nat):Int) ((i:Nat):Int) (((a+b) / 2:Nat):Int) (((a+b) / 2+m - 1:Nat):Int) rest O2 N2 G):=by
    intro i O2 N2 h1 h2 k1 k2 hA cA;have w3:IntKind.i64.wrap ((((a+b) / 2+m:Nat):Int) - ((i:Nat):Int))=(((a+b) / 2+m - i:Nat):Int):=by rw [IntKind.wrap_i64]; omega
    have go:∀ (O3:T AObj) (ys:List TE),Arr O3 lo hi s ys→Chg s O N O3 N2→ys.length=xs.length→(∀ k,Fx ys k=zaC (Fx xs) i m ((a+b) / 2+m - i) k)→Goal P keep f0 Q (zrg ((b:Nat):Int) ((a:Nat):Int) s ((i:Nat):Int) (((a+b) / 2+m - i:Nat):Int) (((a+b) / 2:Nat):Int) rest O3 N2 G):=by
     intro O3 ys h3 c3 l3 f3;obtain ⟨u1,u2,u3,u4,u5⟩:=zn1 ham hmb ⟨h1,h2⟩ f3 k1 k2 l r;exact part2 O3 N2 ys i h1 h2 h3 c3 (zs8 l3 (by omega) (by omega) (by omega) (by omega) f3) u1 u2 u3 u4 u5
    refine ot ztY (fkf (decide_eq_false (by omega)) ⟨fun g1=>⟨fun g2=>?_,fun g2=>?_⟩,fun g1=>?_⟩)
    ·have g1:=of_decide_eq_true g1;have g2:=of_decide_eq_true g2;rw [w3] at g2 ⊢;refine ztU hA (by omega) (by omega) (by omega) hx fun O3 ys h3 c3 l3 f3=>?_;refine ot zgm ?_;rw [w3];exact go O3 ys h3 (cA.trans c3) l3 f3
    ·have g2:=of_decide_eq_false g2;rw [w3] at g2 ⊢;exact go O2 xs hA cA rfl (fun k=>zpE (.inr (by omega)) (by omega) (by omega))
    ·have g1:=of_decide_eq_false g1;rw [w3];exact go O2 xs hA cA rfl (fun k=>zpE (.inl (by omega)) (by omega) (by omega))
   intro c
   induction c with
   | zero =>
    intro i j O2 N2 hc h1 hij h2 k1 k2 hA cA;obtain rfl:i=j:=by omega
    exact out i O2 N2 h1 h2 k1 k2 hA cA
   | succ c ihf =>
    intro i j O2 N2 hc h1 hij h2 k1 k2 hA cA
    by_cases hlt:i<j
    ·have whc:=zdS (a:=i) (b:=j) (by omega);have w4:IntKind.i64.wrap ((((a+b) / 2+m - 1:Nat):Int) - (((i+j) / 2:Nat):Int))=(((a+b) / 2+m - 1 - (i+j) / 2:Nat):Int):=by rw [IntKind.wrap_i64]; omega
     obtain ⟨d1,d2,d3,eD,lD⟩:=hA.elem (i:=(a+b) / 2+m - 1 - (i+j) / 2) (by omega);obtain ⟨g1,g2,g3,eG,lG⟩:=hA.elem (i:=(i+j) / 2) (by omega);rw [← w4,← whc] at eD;rw [← whc] at eG;have nn:=cA.1;refine ot ztY (fkt (decide_eq_true (by omega)) ⟨d1,d2,d3,_,_,g1,g2,g3,_,_,eD,lD _ _,eG,lG _ _,?_⟩);refine zhp fun O3 N3 z td hz ex3=>?_;have h3:=hA.ext ex3 (by omega);have c3:=cA.trans (Chg.ext ex3);refine ot zkQ ⟨fun hc=>?_,fun hc=>?_⟩
     ·have ge:Op.bytesLess (Fx xs ((a+b) / 2+m - 1 - (i+j) / 2)).1 (Fx xs ((i+j) / 2)).1=false:=by
       cases e:Op.bytesLess (Fx xs ((a+b) / 2+m - 1 - (i+j) / 2)).1 (Fx xs ((i+j) / 2)).1 with
       | false=>rfl
       | true =>
        rw [decide_eq_true (hz.2 e)] at hc;cases hc
      have w1:IntKind.i64.wrap ((((i+j) / 2:Nat):Int)+(1:Int))=(((i+j) / 2+1:Nat):Int):=zq (by omega);rw [whc,w1];exact ihf ((i+j) / 2+1) j O3 N3 (by omega) (by omega) (by omega) h2 (fun u g1 g2=>by
       by_cases e:u=(i+j) / 2
       ·rw [e]; exact ge
       ·exact le_trans (le_trans (l u ((i+j) / 2) (by omega) (by omega) (by omega)) ge) (r _ _ (by omega) (by omega) (by omega))) k2 h3 c3
     ·have lt:Op.bytesLess (Fx xs ((a+b) / 2+m - 1 - (i+j) / 2)).1 (Fx xs ((i+j) / 2)).1=true:=hz.1 (by
       have:decide (z<0)=true:=by simpa using hc
       exact of_decide_eq_true this)
      rw [whc];exact ihf i ((i+j) / 2) O3 N3 (by omega) h1 (by omega) (by omega) k1 (fun u g1 g2=>by
       by_cases e:u=(i+j) / 2
       ·rw [e]; exact lt
       ·exact zsR (ztB (r ((a+b) / 2+m - 1 - u) ((a+b) / 2+m - 1 - (i+j) / 2) (by omega) (by omega) (by omega)) lt) (l ((i+j) / 2) u (by omega) (by omega) (by omega))) h3 c3
    ·obtain rfl:i=j:=by omega
     exact out i O2 N2 h1 h2 k1 k2 hA cA
  refine ot t_sym ⟨fun g1=>?_,fun g1=>⟨fun g2=>?_,fun g2=>⟨fun g3=>?_,fun g3=>?_⟩⟩⟩
  ·obtain rfl:m=a+1:=by
    rw [w1] at g1;have:=eq_of_beq g1;omega
   exact zs1 h hN hmb hb hx r hK
  ·obtain rfl:b=m+1:=by
    rw [w2] at g2;have:=eq_of_beq g2;omega
   exact zr3 h hN ham hb hx l hK
  ·have g3:=of_decide_eq_true g3;rw [wh] at g3;have e1:s0 a m b=(a+b) / 2+m - b:=by unfold s0; rw [if_pos (by omega)]
   have e2:r0 a m b=(a+b) / 2:=by unfold r0; rw [if_pos (by omega)]
   have w3:IntKind.i64.wrap ((((a+b) / 2:Nat):Int)+((m:Nat):Int))=(((a+b) / 2+m:Nat):Int):=by rw [IntKind.wrap_i64]; omega
   have w4:IntKind.i64.wrap ((((a+b) / 2+m:Nat):Int) - ((b:Nat):Int))=(((a+b) / 2+m - b:Nat):Int):=by rw [IntKind.wrap_i64]; omega
   have w5:IntKind.i64.wrap ((((a+b) / 2+m:Nat):Int) - (1:Int))=(((a+b) / 2+m - 1:Nat):Int):=by rw [IntKind.wrap_i64]; omega
   rw [wh,w3,w4,w5];exact find _ ((a+b) / 2+m - b) ((a+b) / 2) O N (Nat.le_refl _) (by omega) (by omega) (by omega) (fun u k1 k2=>by omega) (fun u k1 k2=>by omega) h Chg.refl
  ·have g3:=of_decide_eq_false g3;rw [wh] at g3;have e1:s0 a m b=a:=by unfold s0; rw [if_neg (by omega)]
   have e2:r0 a m b=m:=by unfold r0; rw [if_neg (by omega)]
   have w3:IntKind.i64.wrap ((((a+b) / 2:Nat):Int)+((m:Nat):Int))=(((a+b) / 2+m:Nat):Int):=by rw [IntKind.wrap_i64]; omega
   have w5:IntKind.i64.wrap ((((a+b) / 2+m:Nat):Int) - (1:Int))=(((a+b) / 2+m - 1:Nat):Int):=by rw [IntKind.wrap_i64]; omega
   rw [wh,w3,w5];exact find _ a m O N (Nat.le_refl _) (by omega) (by omega) (by omega) (fun u k1 k2=>by omega) (fun u k1 k2=>by omega) h Chg.refl
end Go.Proofs.Ytcdigdplhlgcaaa.gx
end
