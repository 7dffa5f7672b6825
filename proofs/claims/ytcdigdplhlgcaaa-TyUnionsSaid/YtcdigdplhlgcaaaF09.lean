import Derived.Test.YtcdigdplhlgcaaaF00
import Derived.Test.YtcdigdplhlgcaaaF01
import Derived.Test.YtcdigdplhlgcaaaF02
import Derived.Test.YtcdigdplhlgcaaaF03
import Derived.Test.YtcdigdplhlgcaaaF04
import Derived.Test.YtcdigdplhlgcaaaF05
import Derived.Test.YtcdigdplhlgcaaaF06
import Derived.Test.YtcdigdplhlgcaaaF07
import Derived.Test.YtcdigdplhlgcaaaF08
section
set_option maxRecDepth 100000
set_option linter.unusedVariables false
set_option linter.unusedSectionVars false
set_option linter.unusedSimpArgs false
namespace Go.Proofs.Ytcdigdplhlgcaaa.gx
open Go Ev tp
section
variable (sa prq2:AV) (n j:Int) (m:Nat) (sl:AV) (rest:List AFrame) (O:T AObj) (N:Nat) (G:T (T AV))
noncomputable def zqz:AFrame:=⟨25,56,(tW (tX (tX tZ (tY (.bool false))) tZ) sa (tX (tX tZ (tY sa)) tZ)),   [.ops (rg P 25 [1,0,0]).toList ((rg P 25 [1,0,0]).toList.drop 5),.code (cd P 25 [1,0,1]),.code (cd P 25 [1,1])],[],.run,CallKind.normal,none⟩
noncomputable def zfu:AFrame:=⟨25,56,(tW (tX (tX (tX (tY sa) tZ) tZ) tZ) sa tZ),   [.ops (rg P 25 [1,1,0,0]).toList ((rg P 25 [1,1,0,0]).toList.drop 1),.code (cd P 25 [1,1,0,1]),.code (cd P 25 [1,1,1])],[],.run,CallKind.normal,none⟩
noncomputable def kI:AFrame:=⟨25,56,(tX (tX (tX tZ (tX (tY sa) tZ)) tZ) tZ),   [.ops (rg P 25 [1,1,1,0]).toList ((rg P 25 [1,1,1,0]).toList.drop 1),.code (cd P 25 [1,1,1,1])],[],.run,CallKind.normal,none⟩
noncomputable def qX:AFrame:=⟨25,56,(tX (tX tZ (tX tZ (tX (tY prq2) tZ))) (tX (tY prq2) tZ)),   [.ops (rg P 25 [1,1,1,1,0]).toList ((rg P 25 [1,1,1,1,0]).toList.drop 1),.code (cd P 25 [1,1,1,1,1])],[],.run,CallKind.normal,none⟩
noncomputable def yG:AFrame:=⟨25,56,(tX (tX (tX (tX tZ (tY prq2)) tZ) tZ) tZ),   [.ops (rg P 25 [1,1,1,1,1,0]).toList ((rg P 25 [1,1,1,1,1,0]).toList.drop 1),.code (cd P 25 [1,1,1,1,1,1])],[],.run,CallKind.normal,none⟩
noncomputable def Wunj:AM:=⟨⟨25,56,(tX (tX (tX tZ (tX (tX (tY (.int .i64 n)) tZ) tZ)) (tY (.ptr m 0 0))) (tX (tX tZ (tX (tX (tY (.int .i64 j)) tZ) tZ)) (tX (tX (tX (tY sl) tZ) tZ) tZ))),   [.code (cd P 25 [1,1,1,1,1,1,1,1,0,1,0,0]),.inLoop (cd P 25 [1,1,1,1,1,1,1,1,0,1,0,0]),.inBlock 0,.code (cd P 25 [1,1,1,1,1,1,1,1,1])],[],.run,CallKind.normal,none⟩,rest,⟨O,N,G⟩⟩
noncomputable def zqO:AFrame:=⟨25,56,(tX tZ (tX (tX tZ (tX (tX tZ (tY (.ptr m 0 0))) tZ)) tZ)),   [.ops (rg P 25 [1,1,1,1,1,1,1,1,1,0]).toList ((rg P 25 [1,1,1,1,1,1,1,1,1,0]).toList.drop 1),.code (cd P 25 [1,0,1,0,1])],[],.run,CallKind.normal,none⟩
end
section
variable {R:AV→AHeap→Prop} {keep N m:Nat} {f0:FuncId} {rest:List AFrame} {O:T AObj} {sa prq2 prq4 sl sa2 prq0:AV} {G:T (T AV)} {K:AM→Prop} {td:List AItem} {blq0 blq1:Bool} {n j crq0:Int}
theorem t_unj:(∃ (z1:Int),(lN O N G 33 sa z1)∧(((z1==(0:Int)))=true→(K (AM.mk (RF 25 56 (tX (tX (tY (.int .i64 2)) tZ) (tY .nilp)) [.code (cd P 25 [1,0,1,0,1]),.code (cd P 25 [1,1])]) rest ⟨O,N,G⟩)))∧(((z1==(0:Int)))=false→(K (AM.mk (enF 55 [sa,.fn (Fn.func 56) [] []]) ((zqz sa)::rest) ⟨O,N,G⟩))))=OT f0 R keep K (.ex fun z1:Int=>(.seq [.run 9,.hopn (.int .i64 z1) O (N),.run 2] (.fork 11 (.seq [.run 11,.keep [2,3]] .fin) (.seq [.run 1,.keep [0,11,12],.run 1] .fin)))) ((AM.mk (enF 25 [sa]) rest ⟨O,N,G⟩)):=by kernel_rfl
theorem zjS:(((blq0)=true→(K (AM.mk (RF 25 56 (tX (tX (tY (.int .i64 2)) tZ) (tY .nilp)) [.code (cd P 55 [1,0,1,0,0,1,1,0,0,1,1,0,1]),.code (cd P (25:FuncId) [1,1])]) rest ⟨O,N,G⟩)))∧((blq0)=false→(K (AM.mk (enF 55 [sa,.fn (Fn.func 66) [] []]) ((zfu sa)::rest) ⟨O,N,G⟩))))=OT f0 R keep K (.seq [.run 3] (.fork 14 (.seq [.run 7,.keep [2,3]] .fin) (.seq [.run 6,.keep [0,15],.run 1] .fin))) ((AM.mk (RF 55 17 (tX tZ (tX (tY (.bool blq0)) tZ)) td) ((zqz sa)::rest) ⟨O,N,G⟩)):=by kernel_rfl
theorem zda:(((blq1)=true→(∃ (O1:T AObj),(T.set ((some (.cells (tW (tW (tY (.nils 0 0)) (.str []) tZ) (.int .i64 1) (tW (tY .nilp) (.nils 0 0) tZ)) 5 44 0 0 1 0 false .leaf))) (O) (N)=O1)∧K (AM.mk (RF 25 56 (tX (tX (tY (.int .i64 0)) tZ) (tY (.ptr N 0 0))) [.code (cd P 55 [1,0,1,0,0,1,1,0,0,1,1,0,1]),.code (cd P (25:FuncId) [1,1,1])]) rest ⟨O1,N+1,G⟩)))∧((blq1)=false→(K (AM.mk (enF 67 [sa]) ((kI sa)::rest) ⟨O,N,G⟩))))=OT f0 R keep K (.seq [.run 2] (.fork 16 (.ex fun O1:T AObj=>(.seq [.run 4,.hop (.nilp) O1,.run 4,.keep [2,3]] .fin)) (.seq [.run 5,.keep [19],.run 1] .fin))) ((AM.mk (RF 55 17 (tX tZ (tX (tY (.bool blq1)) tZ)) td) ((zfu sa)::rest) ⟨O,N,G⟩)):=by kernel_rfl
theorem jB:(K (AM.mk (enF 68 [prq2,.fn (Fn.func 69) [] []]) ((qX prq2)::rest) ⟨O,N,G⟩))=OT f0 R keep K (.seq [.run 6,.keep [4,21],.run 1] .fin) ((AM.mk (RF 67 45 (tX tZ (tY prq2)) td) ((kI sa)::rest) ⟨O,N,G⟩)):=by kernel_rfl
theorem vl:(K (AM.mk (enF 70 [prq2,.fn (Fn.func 71) [] []]) ((yG prq2)::rest) ⟨O,N,G⟩))=OT f0 R keep K (.seq [.run 5,.keep [23],.run 1] .fin) ((AM.mk (RF 68 9 .leaf td) ((qX prq2)::rest) ⟨O,N,G⟩)):=by kernel_rfl
theorem qE:(∃ (z1:Int),(lN O N G 75 prq4 z1)∧(((z1==(1:Int)))=true→(∃ (i1:Nat) (i2:Nat) (i3:Nat) (s1:AV),(iX 75 prq4 0 i1 i2 i3)∧(zb (⟨O,N,G⟩) (i1) (i2) (i3+1) (1)=(some [s1]))∧K (AM.mk (RF 25 56 (tX (tX (tY (.int .i64 0)) tZ) (tY s1)) [.code (cd P 70 [1,0,1,0,1]),.code (cd P 25 [1,1,1,1,1,1,1])]) rest ⟨O,N,G⟩)))∧(((z1==(1:Int)))=false→(∃ (O1:T AObj) (z2:Int),(T.set ((some (.cells (tW (tW (tY (.nils 0 0)) (.str []) tZ) (.int .i64 9) (tW (tY .nilp) (.nils 0 0) tZ)) 5 44 0 0 1 0 false .leaf))) (O) (N)=O1)∧(lN O1 (N+1) G 75 prq4 z2)∧K (Wunj z2 0 N prq4 rest O1 (N+1) G))))=OT f0 R keep K (.ex fun z1:Int=>(.seq [.run 7,.hopn (.int .i64 z1) O (N),.run 2] (.fork 27 (.ex fun i1:Nat=>(.ex fun i2:Nat=>(.ex fun i3:Nat=>(.ex fun s1:AV=>(.seq [.run 4,.hopn (.ptr i1 i2 i3) O (N),.run 1,.hop (s1) O,.run 4,.keep [2,3]] .fin))))) (.ex fun O1:T AObj=>(.ex fun z2:Int=>(.seq [.run 5,.hop (.nilp) O1,.run 6,.hopn (.int .i64 z2) O1 (N+1),.run 4,.keep [5,34,35,36]] .fin)))))) ((AM.mk (RF 70 66 (tX tZ (tX (tY prq4) tZ)) td) ((yG prq2)::rest) ⟨O,N,G⟩)):=by kernel_rfl
theorem zrR:(((decide (j<n))=true→(∃ (i1:Nat) (i2:Nat) (i3:Nat) (l1:List UInt8) (s1:AV) (O1:T AObj) (O2:T AObj) (O3:T AObj) (s2:AV) (O4:T AObj) (N1:Nat) (O5:T AObj),(iX 75 sl j i1 i2 i3)∧(zb (⟨O,N,G⟩) (i1) (i2) (i3) (2)=(some [.str l1,s1]))∧(T.set ((some (.cells (tW (tY .nilp) (.str []) tZ) 2 79 0 0 1 0 false .leaf))) (O) (N)=O1)∧((AV.agg [AV.str l1,s1]).cells.length.beq (2)=true∧zc (⟨O1,N+1,G⟩:AHeap) N (0) (0) (AV.agg [AV.str l1,s1]).cells=some (⟨O2,(N+1),G⟩:AHeap))∧(lC O2 (N+1) G m 3 sa2)∧(lC O2 (N+1) G N 1 s1)∧(ze P (⟨O2,N+1,G⟩) (33) (1) ([(0,s1)])=(some (.slc (N+1) 0 0 1 1,⟨O3,N+2,G⟩)))∧(lC O3 (N+2) G N 1 s1)∧(okD 300 s1=true)∧(lC O3 (N+2) G m 3 sa2)∧(okD 300 sa2=true)∧(zh P (⟨O3,N+2,G⟩) (Builtin.append) ((some 33)) ((some 33)) ([sa2,.slc (N+1) 0 0 1 1])=(some (.val s2 ⟨O4,N1,G⟩)))∧(s2.cells.length.beq (1)=true∧zc (⟨O4,N1,G⟩:AHeap) m (0) (3) s2.cells=some (⟨O5,N1,G⟩:AHeap))∧K (Wunj n (IntKind.i64.wrap (j+(1:Int))) m sl rest O5 N1 G)))∧((decide (j<n))=false→(K (AM.mk (enF 61 [.ptr m 0 0]) ((zqO m)::rest) ⟨O,N,G⟩))))=OT f0 R keep K (.seq [.run 5] (.fork 37 (.ex fun i1:Nat=>(.ex fun i2:Nat=>(.ex fun i3:Nat=>(.ex fun l1:List UInt8=>(.ex fun s1:AV=>(.ex fun O1:T AObj=>(.ex fun O2:T AObj=>(.ex fun O3:T AObj=>(.ex fun s2:AV=>(.ex fun O4:T AObj=>(.ex fun N1:Nat=>(.ex fun O5:T AObj=>(.seq [.run 6,.hopn (.ptr i1 i2 i3) O (N),.hop (.agg [.str l1,s1]) O,.hop (.nilp) O1,.hopn (.nilp) O2 (N+1),.run 6,.hop (sa2) O2,.run 1,.hop (s1) O2,.hopn (.slc (N+1) 0 0 1 1) O3 (N+2),.hopn (s2) O4 (N1),.run 2,.hopn (.nilp) O5 (N1),.run 7,.keep [5,34,35,36]] .fin))))))))))))) (.seq [.run 5,.keep [52],.run 1] .fin))) ((Wunj n j m sl rest O N G)):=by kernel_rfl
theorem zl8:(K (AM.mk (RF 25 56 (tX (tX (tY (.int .i64 crq0)) tZ) (tY prq0)) [.code (cd P (25:FuncId) [1,0,1,0,1])]) rest ⟨O,N,G⟩))=OT f0 R keep K (.seq [.run 7,.keep [2,3]] .fin) ((AM.mk (RF 61 8 (tX (tX (tY (.int .i64 crq0)) tZ) (tY prq0)) td) ((zqO m)::rest) ⟨O,N,G⟩)):=by kernel_rfl
end
variable {O O':T AObj} {N:Nat} {G:T (T AV)}
theorem zcu {hi:Nat}{fs:List Ty}:∀ {cs:List TE},(∀ c∈cs,∃ x∈fs,c.1=wr x∧Tr O hi x c.2)→∃ us:List Ty,us.length=cs.length∧us.map wr=cs.map Prod.fst∧(∀ u∈us,u∈fs)∧∀ (j:Nat) (u:Ty) (p:Option Nat),us[j]?=some u→(cs.map Prod.snd)[j]?=some p→Tr O hi u p
 | [],_=>⟨[],rfl,rfl,(fun u hu=>by cases hu),(fun j u p h=>by simp at h)⟩
 | c::cs,h=>by
  obtain ⟨us,h1,h2,h3,h4⟩:=zcu (cs:=cs) fun c hc=>h c (List.mem_cons_of_mem _ hc)
  obtain ⟨x,hx,e,t⟩:=h c (List.mem_cons_self ..)
  refine ⟨x::us,by rw [List.length_cons,List.length_cons,h1],by rw [List.map_cons,List.map_cons,h2,e],fun u hu=>?_,fun j u p a b=>?_⟩
  ·rcases List.mem_cons.1 hu with rfl | hu
   ·exact hx
   ·exact h3 u hu
  ·cases j with
   | zero =>
    simp only [List.map_cons,List.getElem?_cons_zero,Option.some.injEq] at a b
    subst a
    subst b
    exact t
   | succ j =>
    rw [List.getElem?_cons_succ] at a
    rw [List.map_cons,List.getElem?_cons_succ] at b
    exact h4 j u p a b
theorem Inc.up {cs:List TE}(h:Inc cs cs.length):Up (cs.map Prod.fst):=by
 refine List.pairwise_map.2 (List.pairwise_iff_getElem.2 fun i j hi hj hij=>?_)
 have h1:=h i j hij hj
 have f:∀ k (hk:k<cs.length),Fx cs k=cs[k]:=fun k hk=>by
  have:=zaZ hk
  rw [List.getElem?_eq_getElem hk] at this
  exact (Option.some.inj this).symm
 rwa [f i hi,f j hj] at h1
theorem kG {ts:List Ty}{ps:List (Option Nat)}{sa:AV}{hi:Nat}(hs:SV O 1 pE 0 hi ps sa)(hl:ps.length=ts.length)(hm:ts.length<1000)(ht:∀ (j:Nat) (x:Ty) (p:Option Nat),ts[j]?=some x→ps[j]?=some p→Tr O hi x p)(hnm:∀ x∈ts,NM x)(hN:hi≤N){keep:Nat}{f0:FuncId}{Q:AV→AHeap→Prop}{rest:List AFrame}
 (hK:∀ O' N' td p',Ext O N O' N'→Tr O' N' (xB ts).2 p'→Goal P keep f0 Q (AM.mk (RF 25 56 (tX (tX (tY (.int .i64 (xB ts).1)) tZ) (tY (pv p'))) td) rest ⟨O',N',G⟩)):Goal P keep f0 Q (AM.mk (enF 25 [sa]) rest ⟨O,N,G⟩):=by
 have bad:xB ts=(2,.no)→∀ O' N' td,Ext O N O' N'→Goal P keep f0 Q (AM.mk (RF 25 56 (tX (tX (tY (.int .i64 2)) tZ) (tY .nilp)) td) rest ⟨O',N',G⟩):=fun e O' N' td ex=>by
  have:=hK O' N' td none ex (by rw [e]; exact Tr.no)
  rw [e] at this
  exact this
 refine ot t_unj ⟨_,hs.len pSl _ _,fun h0=>?_,fun h0=>?_⟩
 ·have h1:ps.length=0:=by have:=eq_of_beq h0; omega
  obtain rfl:ts=[]:=List.length_eq_zero_iff.1 (by omega)
  exact bad (if_neg fun h=>h.1 rfl) _ _ _ Ext.refl
 have hne:ts≠[]:=fun h=>by
  rw [h] at hl
  rw [hl] at h0
  exact absurd h0 (by decide)
 refine zsv hs hl (by omega) ht hN fun O1 N1 td1 x1=>?_
 refine ot zjS ⟨fun hb=>?_,fun hb=>?_⟩
 ·refine bad (if_neg fun h=>?_) _ _ _ x1
  rw [List.all_eq_not_any_not,hb] at h
  exact absurd h.2 (by decide)
 have hall:ts.all (fun x=>chk x==0)=true:=by rw [List.all_eq_not_any_not,hb]; rfl
 have hc:∀ x∈ts,okT x=true∧cnt x≤60:=fun x hx=>tp.chk_ok (by simpa using List.all_eq_true.1 hall x hx)
 have hs1:=hs.keep (O':=O1) (fun j _ hj=>x1.2 j (by omega)) (Nat.le_refl 0) (Nat.le_refl hi)
 have ht1:∀ (j:Nat) (x:Ty) (p:Option Nat),ts[j]?=some x→ps[j]?=some p→Tr O1 hi x p:=fun j x p a b=>(ht j x p a b).ext x1 hN
 have n1:=x1.1
 refine zsl hs1 hl (by omega) ht1 (fun x hx=>by
  cases x with
  | no=>have:=(hc _ hx).1; rw [xY] at this; cases this
  | mk=>rfl) fun td2=>?_
 refine ot zda ⟨fun hb2=>?_,fun hb2=>?_⟩
 ·obtain ⟨O2,e2,b2,f2⟩:=Obj.mk (c:=(tW (tW (tY (.nils 0 0)) (.str []) tZ) (.int .i64 1) (tW (tY .nilp) (.nils 0 0) tZ))) (el:=44) [.int .i64 1,.str [],.nils 0 0,.nils 0 0,.nilp] O1 N1 5 rfl (fun k hk=>by rcases k with _ | _ | _ | _ | _ | k <;> first | rfl | omega)
  have e:xB ts=(0,.mk 1 [] [] [] .no):=by unfold xB; rw [if_pos ⟨hne,hall⟩,if_pos hb2]
  have:=fun td=>hK O2 (N1+1) td (some N1) ⟨by omega,fun j hj=>(f2 j (by omega)).trans (x1.2 j hj)⟩ (by rw [e]; exact Tr.mk (q:=none) (ps:=[]) (Nat.lt_succ_self _) b2 SV.nil SV.nil rfl (by decide) (by decide) (fun j x p a=>by simp at a) Tr.no)
  rw [e] at this
  exact ⟨O2,e2,this _⟩
 refine zrP hs1 hl (by omega) ht1 hc (Nat.le_trans hN x1.1) fun O2 N2 td3 es s x2 gv sl al le=>?_
 refine ot jB ?_
 have n2:=x2.1
 have fne:ts.flatMap zJ≠[]:=by
  cases ts with
  | nil=>exact absurd rfl hne
  | cons x l =>
   have ok:=(hc x (List.mem_cons_self ..)).1
   intro h
   rw [List.flatMap_cons] at h
   have h:=(List.append_eq_nil_iff.1 h).1
   unfold zJ at h
   split at h
   ·rename_i h9
    cases x with
    | no=>rw [xY] at ok; cases ok
    | mk k nm ns aa r =>
     have h9:k=9:=h9
     have h4:=(xH ok).2.2.2
     subst h9
     have h4:(decide (2≤aa.length)&&aa.all (fun x=>!(kd x==9 || kd x==1))&&vz (aa.map wr))=true:=h4
     simp only [Bool.and_eq_true,decide_eq_true_eq] at h4
     have h:aa=[]:=h
     rw [h] at h4
     exact absurd h4.1.1 (by decide)
   ·cases h
 have ene:es≠[]:=fun h=>fne (List.length_eq_zero_iff.1 (by rw [← al.1,h]; rfl))
 have hA:Arr O2 N1 N2 s es:=⟨gv,sl ene⟩
 refine zq0 hA (Nat.le_refl _) (by omega) fun O3 N3 ys td4 h3 c3 r3 s3=>?_
 refine ot vl ?_
 refine zqW h3 c3.1 (by rw [r3.1]; omega) (by rw [r3.1]; exact s3) fun O4 N4 cs s4 td5 c4 sv inc from1 to1 lc=>?_
 have c24:=c3.trans c4
 have n4:=c24.1
 have sidl:=hA.sid
 have y14:Ext O1 N1 O4 N4:=⟨by omega,fun j hj=>(c24.2 j (by omega) (by omega)).trans (x2.2 j hj)⟩
 have y04:=x1.trans y14
 have hfs:∀ x∈ts.flatMap zJ,okT x=true∧nmT x=true:=fun x hx=>by
  obtain ⟨w,hw,hz⟩:=List.mem_flatMap.1 hx
  exact ⟨(za5 (hc w hw) hz).1,zgu (hnm w hw (hc w hw).1) hz⟩
 have ye:∀ e,e∈ys ↔ e∈es:=fun e=>by
  constructor
  ·intro h
   obtain ⟨i,h1,h2⟩:=zh5 h
   obtain ⟨k,_,k2,k3⟩:=(r3.2.2 e).1 ⟨i,Nat.zero_le _,by rw [← r3.1]; exact h1,h2⟩
   rw [← k3]
   exact zhU k2
  ·intro h
   obtain ⟨i,h1,h2⟩:=zh5 h
   obtain ⟨k,_,k2,k3⟩:=(r3.2.2 e).2 ⟨i,Nat.zero_le _,h1,h2⟩
   rw [← k3]
   exact zhU (by rw [r3.1]; exact k2)
 obtain ⟨us,u1,u2,u3,u4⟩:=zcu (O:=O1) (hi:=hi) (fs:=ts.flatMap zJ) (cs:=cs) fun c hcm=>by
  obtain ⟨j,hj,he⟩:=List.mem_iff_getElem.1 ((ye c).1 (from1 c hcm))
  have hj2:j<(ts.flatMap zJ).length:=by rw [← al.1]; exact hj
  obtain ⟨a1,a2⟩:=al.2 j c _ (by rw [List.getElem?_eq_getElem hj,he]) (List.getElem?_eq_getElem hj2)
  exact ⟨_,List.getElem_mem hj2,a1,a2⟩
 have heq:us=jH (ts.flatMap zJ) []:=by
  refine zrk hfs u3 (by rw [u2]; exact inc.up) fun x hx=>?_
  obtain ⟨j,hj,he⟩:=List.mem_iff_getElem.1 hx
  have hj2:j<es.length:=by rw [al.1]; exact hj
  have a1:=(al.2 j _ x (List.getElem?_eq_getElem hj2) (by rw [List.getElem?_eq_getElem hj,he])).1
  obtain ⟨c,g1,g2⟩:=to1 _ ((ye _).2 (List.getElem_mem hj2))
  have:c.1∈us.map wr:=by rw [u2]; exact List.mem_map.2 ⟨c,g1,rfl⟩
  obtain ⟨u,k1,k2⟩:=List.mem_map.1 this
  exact ⟨u,k1,by rw [k2,g2,a1]⟩
 have hU:xB ts=zhl us:=by
  unfold xB
  rw [if_pos ⟨hne,hall⟩,if_neg (by rw [hb2]; exact Bool.false_ne_true),heq]
 rw [hU] at hK
 refine ot qE ⟨_,sv.len tSl _ _,fun h1=>?_,fun h1=>?_⟩
 ·have h1':cs.length=1:=by have:=eq_of_beq h1; omega
  obtain ⟨i1,i2,i3,_,_,eA,rd,_⟩:=sv.at tSl tEn (zaZ (xs:=cs) (i:=0) (by omega))
  have e0:zhl us=(0,us.headD .no):=if_pos (by omega)
  refine ⟨i1,i2,i3,pv (Fx cs 0).2,eA,rd.nth (u:=1) rfl _ _,?_⟩
  have tr:Tr O4 N4 (us.headD .no) (Fx cs 0).2:=by
   cases us with
   | nil=>rw [h1'] at u1; cases u1
   | cons u l =>
    refine ((u4 0 u _ rfl ?_).ext y14 (by omega)).same (fun _ _=>rfl) (by omega)
    rw [List.getElem?_map,zaZ (by omega)]
    rfl
  rw [e0] at hK
  exact hK O4 N4 _ (Fx cs 0).2 y04 tr
 obtain ⟨O5,e5,b5,f5⟩:=Obj.mk (c:=(tW (tW (tY (.nils 0 0)) (.str []) tZ) (.int .i64 9) (tW (tY .nilp) (.nils 0 0) tZ))) (el:=44) [.int .i64 9,.str [],.nils 0 0,.nils 0 0,.nilp] O4 N4 5 rfl (fun k hk=>by rcases k with _ | _ | _ | _ | _ | k <;> first | rfl | omega)
 have sv5:=sv.keep (O':=O5) (fun j _ hj=>f5 j (by omega)) (Nat.le_refl _) (Nat.le_refl _)
 refine ⟨O5,_,e5,sv5.len tSl _ _,?_⟩
 have h1':¬ cs.length=1:=fun h=>by rw [h] at h1; exact absurd h1 (by decide)
 have e0:zhl us=zbR (.mk 9 [] [] us .no):=if_neg (by omega)
 have lcs:cs.length<1000000:=by
  rw [r3.1] at lc
  omega
 have loop:∀ (c i:Nat) (O6:T AObj) (N6:Nat) (s6:AV),i+c=cs.length→N4+1≤N6→(∀ j,j<N4+1→j≠N4→O6.get j=O4.get j)→Obj O6 N4 [.int .i64 9,.str [],.nils 0 0,s6,.nilp]→GV O6 23 1 pE (N4+1) N6 ((cs.take i).map Prod.snd) s6→Goal P keep f0 Q (Wunj ((cs.length:Nat):Int) ((i:Nat):Int) N4 s4 rest O6 N6 G):=by
  intro c
  induction c with
  | zero =>
   intro i O6 N6 s6 hc6 hN6 f6 b6 g6
   refine ot (zrR (sa2:=s6)) (fkf (decide_eq_false (by omega)) ?_)
   rw [List.take_of_length_le (by omega)] at g6
   have y16:Ext O1 N1 O6 N6:=⟨by omega,fun j hj=>(f6 j (by omega) (by omega)).trans (y14.2 j hj)⟩
   refine znh (t:=.mk 9 [] [] us .no) (p:=some N4) (hi:=N6) (Tr.mk (q:=none) (by omega) b6 SV.nil ((g6.sv pEn).keep (fun _ _ _=>rfl) (Nat.zero_le _) (Nat.le_refl _)) (by rw [List.length_map,u1]) (by omega) (by decide) (fun j x p a b=>((u4 j x p a b).ext y16 (by omega)).same (fun _ _=>rfl) (by omega)) Tr.no) (Nat.le_refl _) fun O7 N7 td7 p' x7 t7=>?_
   refine ot zl8 ?_
   rw [e0] at hK
   exact hK O7 N7 _ p' ((x1.trans y16).trans x7) t7
  | succ c ih =>
   intro i O6 N6 s6 hc6 hN6 f6 b6 g6
   have hci:=zaZ (xs:=cs) (i:=i) (by omega)
   have sv6:=sv.keep (O':=O6) (fun j _ hj=>f6 j (by omega) (by omega)) (Nat.le_refl _) (Nat.le_refl _)
   obtain ⟨i1,i2,i3,_,_,eA,rd,_⟩:=sv6.at tSl tEn hci
   obtain ⟨O7,e7,b7,f7⟩:=Obj.mk (c:=(tW (tY .nilp) (.str []) tZ)) (el:=79) [.str [],.nilp] O6 N6 2 rfl (fun k hk=>by rcases k with _ | _ | k <;> first | rfl | omega)
   obtain ⟨O8,e8,b8,f8⟩:=b7.store 0 (tE (Fx cs i)) (N6+1) G (Nat.le_of_ble_eq_true rfl) (tEn.one _)
   have b8':Obj O8 N6 (tE (Fx cs i)):=b8
   have om8:=(b6.same (f7 N4 (by omega))).same (f8 N4 (by omega))
   obtain ⟨O9,e9,v9,_,f9⟩:=j8 pEn (Fx cs i).2 O8 (N6+1) G (st:=33) (el:=23) (zqi _)
   have g9:=g6.keep (O':=O9) (fun j h1 h2=>(f9 j (by omega)).trans ((f8 j (by omega)).trans (f7 j (by omega)))) (Nat.le_refl _) (show N6≤N6+2 by omega)
   obtain ⟨O10,N10,s10,e10,g10,n10,m10,f10,h10⟩:=g9.app pSl pEn v9 (by omega) (by rw [List.length_map,List.length_take]; simp only [List.length_cons,List.length_nil]; omega) G
   have om9:=om8.same (f9 N4 (by omega))
   have om10:=om9.same (f10 N4 (by omega) (fun h=>by have:=(g9.sid_lt h).1; omega))
   obtain ⟨O11,e11,b11,f11⟩:=om10.store 3 [s10] N10 G (Nat.le_of_ble_eq_true rfl) (by rw [List.all_cons,(g10.sv pEn).one]; rfl)
   refine ot (zrR (sa2:=s6)) (fkt (decide_eq_true (by omega)) ?_)
   refine ⟨i1,i2,i3,(Fx cs i).1,pv (Fx cs i).2,O7,O8,O9,s10,O10,N10,O11,eA,rd.load rfl _ _,e7,st2 e8,om8.ld 3 rfl,b8'.ld 1 rfl,e9,(b8'.same (f9 N6 (by omega))).ld 1 rfl,zcr _,om9.ld 3 rfl,kM (g6.sv pEn),e10,st1 (g10.sv pEn).cells e11,?_⟩
   have nx:=ih (i+1) O11 N10 s10 (by omega) (by omega) (fun j hj hjm=>(f11 j hjm).trans ((f10 j (by omega) (fun h=>by have:=(g9.sid_lt h).1; omega)).trans ((f9 j (by omega)).trans ((f8 j (by omega)).trans ((f7 j (by omega)).trans (f6 j hj hjm)))))) b11 (by
    rw [zmt hci]
    exact g10.same (fun h=>f11 _ (by have:=(g10.sid_lt h).1; omega)) (Nat.le_refl _) (Nat.le_refl _))
   rw [← zq (i:=i) (by omega)] at nx
   exact nx
 exact loop cs.length 0 O5 (N4+1) (.nils 0 0) (Nat.zero_add _) (Nat.le_refl _) (fun j _ hj=>f5 j hj) b5 GV.nil
end Go.Proofs.Ytcdigdplhlgcaaa.gx
end
section
set_option maxRecDepth 100000
set_option linter.unusedVariables false
set_option linter.unusedSectionVars false
namespace Go.Proofs.Ytcdigdplhlgcaaa.gx
open Go Ev tp
theorem zk8 {t:Ty}(h:okT t=true)(hc:cnt t≤60):chk t=0:=by
 cases t with
 | no=>rw [xY] at h; cases h
 | mk k nm ns aa r =>
  unfold chk
  rw [if_neg (by intro h; cases h),if_neg (by omega),if_pos h]
theorem zpD {t:Ty}(ho:okT t=true)(h:(zbR t).1=0):(zbR t).2=t∧chk t=0:=by
 unfold zbR at h ⊢
 split at h
 ·cases h
 ·rename_i hs
  rw [if_neg hs]
  exact ⟨rfl,zk8 ho (by omega)⟩
theorem zdC {fs out:List Ty}{u:Ty}(h:u∈jH fs out):u∈out∨u∈fs:=zdZ h
theorem zlY {w z:Ty}(h:okT w=true)(ha:kd w≠1)(hz:z∈zJ w):kd z≠9∧kd z≠1:=by
 unfold zJ at hz
 split at hz
 ·rename_i h9
  cases w with
  | no=>cases hz
  | mk k nm ns aa r =>
   have h9:k=9:=h9
   have h4:=(xH h).2.2.2
   subst h9
   have h4:(decide (2≤aa.length)&&aa.all (fun x=>!(kd x==9 || kd x==1))&&vz (aa.map wr))=true:=h4
   simp only [Bool.and_eq_true,List.all_eq_true] at h4
   have:=h4.1.2 z hz
   simp at this
   exact this
 ·rename_i h9
  rw [List.mem_singleton] at hz
  rw [hz]
  exact ⟨h9,ha⟩
theorem zr3 {ts:List Ty}(h:ts≠[])(hc:∀ x∈ts,okT x=true):ts.flatMap zJ≠[]:=by
 cases ts with
 | nil=>exact absurd rfl h
 | cons x l =>
  have ok:=hc x (List.mem_cons_self ..)
  intro h
  rw [List.flatMap_cons] at h
  have h:=(List.append_eq_nil_iff.1 h).1
  unfold zJ at h
  split at h
  ·rename_i h9
   cases x with
   | no=>rw [xY] at ok; cases ok
   | mk k nm ns aa r =>
    have h9:k=9:=h9
    have h4:=(xH ok).2.2.2
    subst h9
    have h4:(decide (2≤aa.length)&&aa.all (fun x=>!(kd x==9 || kd x==1))&&vz (aa.map wr))=true:=h4
    simp only [Bool.and_eq_true,decide_eq_true_eq] at h4
    have h:aa=[]:=h
    rw [h] at h4
    exact absurd h4.1.1 (by decide)
  ·cases h
theorem zia {ts:List Ty}(h:(xB ts).1=0):chk (xB ts).2=0:=by
 unfold xB at h ⊢
 split at h
 ·rename_i hc
  rw [if_pos hc]
  have hok:∀ x∈ts,okT x=true∧cnt x≤60:=fun x hx=>tp.chk_ok (by simpa using List.all_eq_true.1 hc.2 x hx)
  split at h
  ·rename_i ha
   rw [if_pos ha]
   exact zk8 (by simp [ze3,jO,own,okK,isNo]) (by simp [xo,zcS,zlx])
  ·rename_i ha
   rw [if_neg ha]
   have hfs:∀ x∈ts.flatMap zJ,(okT x=true∧cnt x≤60)∧kd x≠9∧kd x≠1:=fun x hx=>by
    obtain ⟨w,hw,hz⟩:=List.mem_flatMap.1 hx
    refine ⟨za5 (hok w hw) hz,zlY (hok w hw).1 (fun e=>ha (List.any_eq_true.2 ⟨w,hw,by rw [e]; rfl⟩)) hz⟩
   obtain ⟨up,mem⟩:=vW (fs:=ts.flatMap zJ) (out:=[]) List.Pairwise.nil
   have hS:∀ x∈jH (ts.flatMap zJ) [],(okT x=true∧cnt x≤60)∧kd x≠9∧kd x≠1:=fun x hx=>hfs x ((zdC hx).resolve_left List.not_mem_nil)
   have hne:jH (ts.flatMap zJ) []≠[]:=fun e=>by
    cases hf:ts.flatMap zJ with
    | nil=>exact zr3 hc.1 (fun x hx=>(hok x hx).1) hf
    | cons z l =>
     have:=(mem (wr z)).2 (.inl (by rw [hf]; exact List.mem_cons_self ..))
     rw [e] at this
     cases this
   revert h hS hne up
   generalize jH (ts.flatMap zJ) []=out
   intro h up hS hne
   unfold zhl at h ⊢
   split at h
   ·rename_i h1
    rw [if_pos h1]
    cases out with
    | nil=>exact absurd rfl hne
    | cons u l =>
     have:=hS u (List.mem_cons_self ..)
     exact zk8 this.1.1 this.1.2
   ·rename_i h1
    rw [if_neg h1]
    have h2:2≤out.length:=by
     cases out with
     | nil=>exact absurd rfl hne
     | cons u l =>
      cases l with
      | nil=>exact absurd rfl h1
      | cons v l=>simp
    have ok:okT (.mk 9 [] [] out .no)=true:=by
     rw [ze3,jO]
     have a1:own 9 [] [] out .no=true:=rfl
     have a2:out.all okT=true:=List.all_eq_true.2 fun x hx=>(hS x hx).1.1
     have a3:okK 9 [] [] out=true:=by
      show (decide (2≤out.length)&&out.all (fun x=>!(kd x==9 || kd x==1))&&vz (out.map wr))=true
      rw [decide_eq_true h2,List.all_eq_true.2 (fun x hx=>by simp [(hS x hx).2.1,(hS x hx).2.2]),zh6 up.srt up.nodup]
      rfl
     rw [a1,a2,a3]
     rfl
    obtain ⟨g1,g2⟩:=zpD ok h
    rw [g1]
    exact g2
 ·cases h
end Go.Proofs.Ytcdigdplhlgcaaa.gx
end
section
set_option maxRecDepth 100000
set_option linter.unusedVariables false
set_option linter.unusedSectionVars false
namespace Go.Proofs.Ytcdigdplhlgcaaa.gx
open Go Ev tp
theorem allC {ts:List Ty}(h:ts.all (fun x=>chk x==0)=true):∀ x∈ts,okT x=true∧cnt x≤60:=fun x hx=>tp.chk_ok (by simpa using List.all_eq_true.1 h x hx)
theorem zry {ts:List Ty}(h:∀ x∈ts,okT x=true∧cnt x≤60)(n:∀ x∈ts,NM x):∀ x∈ts.flatMap zJ,okT x=true∧nmT x=true:=fun x hx=>by
 obtain ⟨w,hw,hz⟩:=List.mem_flatMap.1 hx
 exact ⟨(za5 (h w hw) hz).1,zgu (n w hw (h w hw).1) hz⟩
theorem zdr {ts:List Ty}(h1:ts≠[])(c1:ts.all (fun x=>chk x==0)=true):xB ts=if ts.any (fun x=>kd x==1)=true then (0,.mk 1 [] [] [] .no) else zhl (jH (ts.flatMap zJ) []):=if_pos ⟨h1,c1⟩
theorem zgl {ts us:List Ty}(h1:ts≠[])(h2:us≠[])(c1:ts.all (fun x=>chk x==0)=true)(c2:us.all (fun x=>chk x==0)=true)(n1:∀ x∈ts,NM x)(n2:∀ x∈us,NM x)(ha:ts.any (fun x=>kd x==1)=us.any (fun x=>kd x==1))(hw:us.any (fun x=>kd x==1)=false→∀ w,w∈(ts.flatMap zJ).map wr ↔ w∈(us.flatMap zJ).map wr):xB ts=xB us:=by
 rw [zdr h1 c1,zdr h2 c2,ha]
 cases hb:us.any (fun x=>kd x==1) with
 | true=>rw [if_pos rfl,if_pos rfl]
 | false =>
  rw [if_neg (by simp),if_neg (by simp)]
  obtain ⟨u1,m1⟩:=vW (fs:=ts.flatMap zJ) (out:=[]) List.Pairwise.nil
  obtain ⟨u2,m2⟩:=vW (fs:=us.flatMap zJ) (out:=[]) List.Pairwise.nil
  rw [zke (fun x hx=>zry (allC c1) n1 x ((zdC hx).resolve_left List.not_mem_nil)) (fun x hx=>zry (allC c2) n2 x ((zdC hx).resolve_left List.not_mem_nil)) (zlg u1 u2 fun w=>?_)]
  rw [m1,m2,hw hb w]
theorem zpG {ts us:List Ty}{p:Ty→Bool}(h:∀ x,x∈ts ↔ x∈us):ts.any p=us.any p:=by
 refine Bool.eq_iff_iff.2 ?_
 rw [List.any_eq_true,List.any_eq_true]
 exact ⟨fun ⟨x,h1,h2⟩=>⟨x,(h x).1 h1,h2⟩,fun ⟨x,h1,h2⟩=>⟨x,(h x).2 h1,h2⟩⟩
theorem zgQ {ts us:List Ty}(n:∀ x∈us,NM x)(h:∀ x,x∈ts ↔ x∈us):xB ts=xB us:=by
 have hall:ts.all (fun x=>chk x==0)=us.all (fun x=>chk x==0):=by
  refine Bool.eq_iff_iff.2 ?_
  rw [List.all_eq_true,List.all_eq_true]
  exact ⟨fun g x hx=>g x ((h x).2 hx),fun g x hx=>g x ((h x).1 hx)⟩
 have hnil:ts=[] ↔ us=[]:=by
  constructor
  ·intro e
   cases us with
   | nil=>rfl
   | cons x l=>have:=(h x).2 (List.mem_cons_self ..); rw [e] at this; cases this
  ·intro e
   cases ts with
   | nil=>rfl
   | cons x l=>have:=(h x).1 (List.mem_cons_self ..); rw [e] at this; cases this
 by_cases hc:us≠[]∧us.all (fun x=>chk x==0)=true
 ·refine zgl (fun e=>hc.1 (hnil.1 e)) hc.1 (hall.trans hc.2) hc.2 (fun x hx=>n x ((h x).1 hx)) n (zpG h) fun _ w=>?_
  rw [List.mem_map,List.mem_map]
  have hf:∀ x,x∈ts.flatMap zJ ↔ x∈us.flatMap zJ:=fun x=>by
   rw [List.mem_flatMap,List.mem_flatMap]
   exact ⟨fun ⟨a,h1,h2⟩=>⟨a,(h a).1 h1,h2⟩,fun ⟨a,h1,h2⟩=>⟨a,(h a).2 h1,h2⟩⟩
  exact ⟨fun ⟨x,h1,h2⟩=>⟨x,(hf x).1 h1,h2⟩,fun ⟨x,h1,h2⟩=>⟨x,(hf x).2 h1,h2⟩⟩
 ·have h2:¬ (ts≠[]∧ts.all (fun x=>chk x==0)=true):=fun g=>hc ⟨fun e=>g.1 (hnil.2 e),hall.symm.trans g.2⟩
  unfold xB
  rw [if_neg hc,if_neg h2]
theorem zfg {ts:List Ty}(h:(xB ts).1=0):ts≠[]∧ts.all (fun x=>chk x==0)=true:=by
 unfold xB at h
 split at h
 ·assumption
 ·cases h
theorem zfT {pre rest:List Ty}(n1:∀ x∈pre,NM x)(n2:∀ x∈rest,NM x)(h:(xB pre).1=0)(hr:rest.all (fun x=>chk x==0)=true):xB ((xB pre).2::rest)=xB (pre++rest):=by
 obtain ⟨hne,hall⟩:=zfg h
 have hc:=zia h
 have hnm:NM (xB pre).2:=fun _=>zdK n1
 have ok:=allC hall
 have c1:((xB pre).2::rest).all (fun x=>chk x==0)=true:=by rw [List.all_cons,hc,hr]; rfl
 have c2:(pre++rest).all (fun x=>chk x==0)=true:=by rw [List.all_append,hall,hr]; rfl
 have n3:=NM.cons hnm n2
 have n4:∀ x∈pre++rest,NM x:=fun x hx=>(List.mem_append.1 hx).elim (n1 x) (n2 x)
 cases hb:pre.any (fun x=>kd x==1) with
 | true =>
  have e:xB pre=(0,.mk 1 [] [] [] .no):=by rw [zdr hne hall,if_pos hb]
  refine zgl (List.cons_ne_nil _ _) (by simp [hne]) c1 c2 n3 n4 (by rw [List.any_cons,List.any_append,hb,e]; rfl) fun hf=>?_
  rw [List.any_append,hb] at hf
  cases hf
 | false =>
  have e:xB pre=zhl (jH (pre.flatMap zJ) []):=by rw [zdr hne hall,if_neg (by rw [hb]; simp)]
  obtain ⟨up,mem⟩:=vW (fs:=pre.flatMap zJ) (out:=[]) List.Pairwise.nil
  have hS:∀ x∈jH (pre.flatMap zJ) [],kd x≠9∧kd x≠1:=fun x hx=>by
   obtain ⟨w,hw,hz⟩:=List.mem_flatMap.1 ((zdC hx).resolve_left List.not_mem_nil)
   exact zlY (ok w hw).1 (fun e=>by
    have:pre.any (fun x=>kd x==1)=true:=List.any_eq_true.2 ⟨w,hw,by rw [e]; rfl⟩
    rw [hb] at this
    cases this) hz
  have key:zJ (xB pre).2=jH (pre.flatMap zJ) []∧kd (xB pre).2≠1:=by
   rw [e] at h ⊢
   revert h hS
   generalize jH (pre.flatMap zJ) []=out
   intro h hS
   unfold zhl at h ⊢
   split at h
   ·rename_i h1
    rw [if_pos h1]
    cases out with
    | nil=>cases h1
    | cons u l =>
     obtain rfl:l=[]:=List.length_eq_zero_iff.1 (by simpa using h1)
     have:=hS u (List.mem_cons_self ..)
     exact ⟨if_neg this.1,this.2⟩
   ·rename_i h1
    rw [if_neg h1]
    unfold zbR at h ⊢
    split at h
    ·cases h
    ·rename_i h2
     rw [if_neg h2]
     exact ⟨rfl,by show (9:Int)≠1; decide⟩
  refine zgl (List.cons_ne_nil _ _) (by simp [hne]) c1 c2 n3 n4 (by rw [List.any_cons,List.any_append,hb,beq_false_of_ne key.2]) fun _ w=>?_
  rw [List.flatMap_cons,List.map_append,List.mem_append,key.1,mem,List.flatMap_append,List.map_append,List.mem_append]
  simp
end Go.Proofs.Ytcdigdplhlgcaaa.gx
end
