import Derived.Test.YtcdigdplhlgcaaaC00
import Derived.Test.YtcdigdplhlgcaaaC01
import Derived.Test.YtcdigdplhlgcaaaC02
import Derived.Test.YtcdigdplhlgcaaaC03
import Derived.Test.YtcdigdplhlgcaaaC04
import Derived.Test.YtcdigdplhlgcaaaC05
import Derived.Test.YtcdigdplhlgcaaaC06
import Derived.Test.YtcdigdplhlgcaaaC07
section
set_option maxRecDepth 100000
set_option linter.unusedVariables false
set_option linter.unusedSectionVars false
set_option linter.unusedSimpArgs false
namespace Go.Proofs.Ytcdigdplhlgcaaa.gx
open Go Ev tp
section
variable (N:Nat) (v v2:AV) (q m:Nat)
noncomputable def Ftyq:AFrame:=⟨11,13,(tX (tX (tX tZ (tY (.ptr N 0 0))) tZ) tZ),   [.ops (rg P 11 [1,1,0]).toList ((rg P 11 [1,1,0]).toList.drop 1),.code (cd P 11 [1,1,1])],[],.run,CallKind.normal,none⟩
noncomputable def zps:AFrame:=⟨17,8,(tW (tX (tY v) tZ) v tZ),   [.ops (rg P 17 [1,0,0]).toList ((rg P 17 [1,0,0]).toList.drop 1),.code (cd P 17 [1,0,1]),.code (cd P 17 [1,1])],[],.run,CallKind.normal,none⟩
noncomputable def zd8:AFrame:=⟨17,8,(tX tZ (tX tZ (tY v))),   [.ops (rg P 17 [1,1,0]).toList ((rg P 17 [1,1,0]).toList.drop 1),.code (cd P 13 [1,0,1,0,1])],[],.run,CallKind.normal,none⟩
noncomputable def zpu:AFrame:=⟨46,6,(tX (tX (tY v) tZ) tZ),   [.ops (rg P 46 [1,0]).toList ((rg P 46 [1,0]).toList.drop 1),.code (cd P 46 [1,1])],[],.run,CallKind.normal,none⟩
noncomputable def zo3:AFrame:=⟨16,8,(tW (tX (tY v) tZ) v tZ),   [.ops (rg P 16 [1,0,0]).toList ((rg P 16 [1,0,0]).toList.drop 1),.code (cd P 16 [1,0,1]),.code (cd P 16 [1,1])],[],.run,CallKind.normal,none⟩
noncomputable def zes:AFrame:=⟨16,8,(tX tZ (tX tZ (tY v))),   [.ops (rg P 16 [1,1,0]).toList ((rg P 16 [1,1,0]).toList.drop 1),.code (cd P 46 [1,1])],[],.run,CallKind.normal,none⟩
noncomputable def zos:AFrame:=⟨18,18,(tW (tW tZ v2 (tY v)) v tZ),   [.ops (rg P 18 [1,0]).toList ((rg P 18 [1,0]).toList.drop 1),.code (cd P 18 [1,1])],[],.run,CallKind.normal,none⟩
noncomputable def zdr:AFrame:=⟨18,18,(tW (tW tZ v2 (tX (tY v2) tZ)) v (tX (tX (tY (.bool true)) tZ) tZ)),   [.ops (rg P (18:FuncId) [1,0]).toList ((rg P (18:FuncId) [1,0]).toList.drop 5),.code (cd P (18:FuncId) [1,1])],[],.run,CallKind.normal,none⟩
noncomputable def vW:AFrame:=⟨18,18,(tX (tX (tX (tX (tY v2) tZ) tZ) (tX tZ (tY (.bool true)))) (tX tZ (tX tZ (tY v)))),   [.ops (rg P (18:FuncId) [1,0]).toList ((rg P (18:FuncId) [1,0]).toList.drop 11),.code (cd P (18:FuncId) [1,1])],[],.run,CallKind.normal,none⟩
noncomputable def zio:AFrame:=⟨19,30,(tW (tW tZ (.ptr m 0 0) (tX (tX (tY (.ptr q 0 0)) tZ) tZ)) (.ptr q 0 0) tZ),   [.ops (rg P 19 [1,1,0]).toList ((rg P 19 [1,1,0]).toList.drop 1),.code (cd P 19 [1,0,1,0,1])],[],.run,CallKind.normal,none⟩
noncomputable def zaZ:AFrame:=⟨19,30,(tW (tW tZ (.ptr m 0 0) (tX tZ (tX (tY (.ptr m 0 0)) tZ))) (.ptr q 0 0) (tX (tX tZ (tX (tY (.bool true)) tZ)) tZ)),   [.ops (rg P (19:FuncId) [1,1,0]).toList ((rg P (19:FuncId) [1,1,0]).toList.drop 5),.code (cd P (19:FuncId) [1,0,1,0,1])],[],.run,CallKind.normal,none⟩
noncomputable def wd:AFrame:=⟨19,30,(tX (tX (tX tZ (tX tZ (tY (.ptr m 0 0)))) (tX (tX tZ (tY (.bool true))) tZ)) (tX tZ (tX (tX tZ (tY (.ptr q 0 0))) tZ))),   [.ops (rg P (19:FuncId) [1,1,0]).toList ((rg P (19:FuncId) [1,1,0]).toList.drop 11),.code (cd P (19:FuncId) [1,0,1,0,1])],[],.run,CallKind.normal,none⟩
end
section
variable {R:AV→AHeap→Prop} {keep N Nc m q:Nat} {f0:FuncId} {rest:List AFrame} {O:T AObj} {sa prq0 v v2:AV} {G:T (T AV)} {K:AM→Prop} {td:List AItem} {crq0 crq1:Int} {blq0 blq2:Bool} {lrq1:List UInt8}
theorem t_tyq:(∃ (z1:Int) (s1:AV) (O1:T AObj),(lN O N G 22 sa z1)∧(xQ P (⟨O,N,G⟩) (22) (sa) (none) ((some (if decide ((300:Int)<z1)=true then (300:Int) else z1))) (none)=(some s1))∧(wU P (59) ([(0,s1)])=(some (.agg [s1,.int .i64 0])))∧((Nat.beq (2) (AV.agg [s1,AV.int IntKind.i64 (Int.ofNat (0))]).cells.length&&(AV.agg [s1,AV.int IntKind.i64 (Int.ofNat (0))]).cells.all AV.one)=true∧T.set (some (AObj.cells (zd T.leaf 0 (AV.agg [s1,AV.int IntKind.i64 (Int.ofNat (0))]).cells) (AV.agg [s1,AV.int IntKind.i64 (Int.ofNat (0))]).cells.length 59 0 0 1 0 false T.leaf)) (⟨O,N,G⟩:AHeap).objs N=O1)∧K (AM.mk (enF 41 [.ptr N 0 0,.int .i64 4]) ((Ftyq N)::rest) ⟨O1,N+1,G⟩))=OT f0 R keep K (.ex fun z1:Int=>(.ex fun s1:AV=>(.ex fun O1:T AObj=>(.seq [.run 8,.hopn (.int .i64 z1) O (N),.run 1,.hop (s1) O,.hopn (.agg [s1,.int .i64 0]) O (N),.hopn (.nilp) O1 (N),.run 5,.keep [11],.run 1] .fin)))) ((AM.mk (enF 11 [sa]) rest ⟨O,N,G⟩)):=by kernel_rfl
theorem zkH:(K (AM.mk (RF 11 13 (tX tZ (tY prq0)) [.code (cd P (11:FuncId) [1,1,1])]) rest ⟨O,N,G⟩))=OT f0 R keep K (.seq [.run 4,.keep [2]] .fin) ((AM.mk (RF 41 137 (tX tZ (tX (tY prq0) tZ)) td) ((Ftyq Nc)::rest) ⟨O,N,G⟩)):=by kernel_rfl
theorem zoj:(K (AM.mk (enF 12 [v]) ((zpu v)::rest) ⟨O,N,G⟩))=OT f0 R keep K (.seq [.run 7,.keep [3],.run 1] .fin) ((AM.mk (enF 46 [v]) rest ⟨O,N,G⟩)):=by kernel_rfl
theorem zkl:(K (AM.mk (RF 46 6 (tX tZ (tY (.bool (crq0==(0:Int))))) [.code (cd P (46:FuncId) [1,1])]) rest ⟨O,N,G⟩))=OT f0 R keep K (.seq [.run 5,.keep [2]] .fin) ((AM.mk (RF 12 14 (tX tZ (tY (.int .i64 crq0))) td) ((zpu v)::rest) ⟨O,N,G⟩)):=by kernel_rfl
theorem zpx:(K (AM.mk (enF 46 [v]) ((zo3 v)::rest) ⟨O,N,G⟩))=OT f0 R keep K (.seq [.run 8,.keep [0,3],.run 1] .fin) ((AM.mk (enF 16 [v]) rest ⟨O,N,G⟩)):=by kernel_rfl
theorem zd3:((((!blq0))=true→(K (AM.mk (RF 16 8 (tX tZ (tY (.str []))) [.code (cd P 46 [1,1]),.code (cd P (16:FuncId) [1,1])]) rest ⟨O,N,G⟩)))∧(((!blq0))=false→(K (AM.mk (enF 47 [v]) ((zes v)::rest) ⟨O,N,G⟩))))=OT f0 R keep K (.seq [.run 3] (.fork 5 (.seq [.run 6,.keep [2]] .fin) (.seq [.run 5,.keep [6],.run 1] .fin))) ((AM.mk (RF 46 6 (tX tZ (tY (.bool blq0))) td) ((zo3 v)::rest) ⟨O,N,G⟩)):=by kernel_rfl
theorem zcn:(K (AM.mk (RF 16 8 (tX tZ (tY (.str lrq1))) [.code (cd P (46:FuncId) [1,1])]) rest ⟨O,N,G⟩))=OT f0 R keep K (.seq [.run 4,.keep [2]] .fin) ((AM.mk (RF 47 12 (tX tZ (tY (.str lrq1))) td) ((zes v)::rest) ⟨O,N,G⟩)):=by kernel_rfl
theorem zpa:(K (AM.mk (enF 13 [v]) ((zps v)::rest) ⟨O,N,G⟩))=OT f0 R keep K (.seq [.run 8,.keep [0,3],.run 1] .fin) ((AM.mk (enF 17 [v]) rest ⟨O,N,G⟩)):=by kernel_rfl
theorem zey:((((crq0 != (0:Int)))=true→(K (AM.mk (RF 17 8 (tX tZ (tY (.str []))) [.code (cd P 13 [1,0,1,0,1]),.code (cd P (17:FuncId) [1,1])]) rest ⟨O,N,G⟩)))∧(((crq0 != (0:Int)))=false→(K (AM.mk (enF 48 [v]) ((zd8 v)::rest) ⟨O,N,G⟩))))=OT f0 R keep K (.seq [.run 3] (.fork 5 (.seq [.run 6,.keep [2]] .fin) (.seq [.run 5,.keep [6],.run 1] .fin))) ((AM.mk (RF 13 11 (tX tZ (tY (.int .i64 crq0))) td) ((zps v)::rest) ⟨O,N,G⟩)):=by kernel_rfl
theorem zcm:(K (AM.mk (RF 17 8 (tX tZ (tY (.str lrq1))) [.code (cd P (13:FuncId) [1,0,1,0,1])]) rest ⟨O,N,G⟩))=OT f0 R keep K (.seq [.run 4,.keep [2]] .fin) ((AM.mk (RF 48 146 (tX tZ (tY (.str lrq1))) td) ((zd8 v)::rest) ⟨O,N,G⟩)):=by kernel_rfl
theorem zob:(K (AM.mk (enF 14 [v]) ((zos v v2)::rest) ⟨O,N,G⟩))=OT f0 R keep K (.seq [.run 7,.keep [0,1,5],.run 1] .fin) ((AM.mk (enF 18 [v,v2]) rest ⟨O,N,G⟩)):=by kernel_rfl
theorem zkn:(((decide (crq0≤(60:Int)))=true→(K (AM.mk (enF 14 [v2]) ((zdr v v2)::rest) ⟨O,N,G⟩)))∧((decide (crq0≤(60:Int)))=false→(K (AM.mk (RF 18 18 (tX tZ (tX (tY (.bool false)) tZ)) [.code (cd P (18:FuncId) [1,1])]) rest ⟨O,N,G⟩))))=OT f0 R keep K (.seq [.run 3] (.fork 8 (.seq [.run 1,.keep [0,1,8,9],.run 1] .fin) (.seq [.run 12,.keep [4]] .fin))) ((AM.mk (RF 14 12 (tX tZ (tY (.int .i64 crq0))) td) ((zos v v2)::rest) ⟨O,N,G⟩)):=by kernel_rfl
theorem zct:(((decide (crq1≤(60:Int)))=true→(K (AM.mk (enF 49 [v,v2]) ((vW v v2)::rest) ⟨O,N,G⟩)))∧((decide (crq1≤(60:Int)))=false→(K (AM.mk (RF 18 18 (tX tZ (tX (tY (.bool false)) tZ)) [.code (cd P (18:FuncId) [1,1])]) rest ⟨O,N,G⟩))))=OT f0 R keep K (.seq [.run 4] (.fork 13 (.seq [.run 2,.keep [13,14,15],.run 1] .fin) (.seq [.run 7,.keep [4]] .fin))) ((AM.mk (RF 14 12 (tX tZ (tY (.int .i64 crq1))) td) ((zdr v v2)::rest) ⟨O,N,G⟩)):=by kernel_rfl
theorem kU:(K (AM.mk (RF 18 18 (tX tZ (tX (tY (.bool blq2)) tZ)) [.code (cd P (18:FuncId) [1,1])]) rest ⟨O,N,G⟩))=OT f0 R keep K (.seq [.run 5,.keep [4]] .fin) ((AM.mk (RF 49 67 (tX tZ (tX (tY (.bool blq2)) tZ)) td) ((vW v v2)::rest) ⟨O,N,G⟩)):=by kernel_rfl
theorem zkP:(K (AM.mk (RF 19 30 (tX tZ (tX (tY (.bool true)) tZ)) [.code (cd P 19 [1,0,1,0,1]),.code (cd P 19 [1,1])]) rest ⟨O,N,G⟩))=OT f0 R keep K (.seq [.run 26,.keep [4]] .fin) ((AM.mk (enF 19 [.nilp,.nilp]) rest ⟨O,N,G⟩)):=by kernel_rfl
theorem zkS:(K (AM.mk (RF 19 30 (tX tZ (tX (tY (.bool false)) tZ)) [.code (cd P 19 [1,0,1,0,1]),.code (cd P 19 [1,1])]) rest ⟨O,N,G⟩))=OT f0 R keep K (.seq [.run 26,.keep [4]] .fin) ((AM.mk (enF 19 [.nilp,.ptr m 0 0]) rest ⟨O,N,G⟩)):=by kernel_rfl
theorem zlD:(K (AM.mk (RF 19 30 (tX tZ (tX (tY (.bool false)) tZ)) [.code (cd P 19 [1,0,1,0,1]),.code (cd P 19 [1,1])]) rest ⟨O,N,G⟩))=OT f0 R keep K (.seq [.run 26,.keep [4]] .fin) ((AM.mk (enF 19 [.ptr q 0 0,.nilp]) rest ⟨O,N,G⟩)):=by kernel_rfl
theorem zkO:(K (AM.mk (enF 15 [.ptr q 0 0]) ((zio q m)::rest) ⟨O,N,G⟩))=OT f0 R keep K (.seq [.run 19,.keep [0,1,17],.run 1] .fin) ((AM.mk (enF 19 [.ptr q 0 0,.ptr m 0 0]) rest ⟨O,N,G⟩)):=by kernel_rfl
theorem zfn:(((decide (crq0≤(60:Int)))=true→(K (AM.mk (enF 15 [.ptr m 0 0]) ((zaZ q m)::rest) ⟨O,N,G⟩)))∧((decide (crq0≤(60:Int)))=false→(K (AM.mk (RF 19 30 (tX tZ (tX (tY (.bool false)) tZ)) [.code (cd P (19:FuncId) [1,0,1,0,1])]) rest ⟨O,N,G⟩))))=OT f0 R keep K (.seq [.run 3] (.fork 20 (.seq [.run 1,.keep [0,1,20,21],.run 1] .fin) (.seq [.run 12,.keep [4]] .fin))) ((AM.mk (RF 15 5 (tX tZ (tY (.int .i64 crq0))) td) ((zio q m)::rest) ⟨O,N,G⟩)):=by kernel_rfl
theorem zaB:(((decide (crq1≤(60:Int)))=true→(K (AM.mk (enF 50 [.ptr q 0 0,.ptr m 0 0]) ((wd q m)::rest) ⟨O,N,G⟩)))∧((decide (crq1≤(60:Int)))=false→(K (AM.mk (RF 19 30 (tX tZ (tX (tY (.bool false)) tZ)) [.code (cd P (19:FuncId) [1,0,1,0,1])]) rest ⟨O,N,G⟩))))=OT f0 R keep K (.seq [.run 4] (.fork 25 (.seq [.run 2,.keep [25,26,27],.run 1] .fin) (.seq [.run 7,.keep [4]] .fin))) ((AM.mk (RF 15 5 (tX tZ (tY (.int .i64 crq1))) td) ((zaZ q m)::rest) ⟨O,N,G⟩)):=by kernel_rfl
theorem vg:(K (AM.mk (RF 19 30 (tX tZ (tX (tY (.bool blq2)) tZ)) [.code (cd P (19:FuncId) [1,0,1,0,1])]) rest ⟨O,N,G⟩))=OT f0 R keep K (.seq [.run 5,.keep [4]] .fin) ((AM.mk (RF 50 126 (tX tZ (tX (tY (.bool blq2)) tZ)) td) ((wd q m)::rest) ⟨O,N,G⟩)):=by kernel_rfl
end
variable {O O':T AObj} {N:Nat} {G:T (T AV)}
theorem bld59 {s1:AV}(hv:AV.one s1=true):wU P 59 [(0,s1)]=some (.agg [s1,.int .i64 0]):=by
 cases s1 with
 | _=>first | (cases hv; done) | kernel_rfl
theorem zlS (xs:List UInt8):∃ t:Ty,∀ {hi:Nat} {O:T AObj} {N:Nat} {G:T (T AV)} {sa:AV} {keep:Nat} {f0:FuncId} {Q:AV→AHeap→Prop} {rest:List AFrame},SVe O hi xs sa→hi≤N →
 (∀ O' N' td p,Ext O N O' N'→Tr O' N' t p→Goal P keep f0 Q (AM.mk (RF 11 13 (tX tZ (tY (pv p))) td) rest ⟨O',N',G⟩))→Goal P keep f0 Q (AM.mk (enF 11 [sa]) rest ⟨O,N,G⟩):=by
 have one:zmX 4:=znl 4 (by decide)
 obtain ⟨t,ys,nn',run⟩:=one (xs.take 300) 0
 refine ⟨t,?_⟩
 intro hi O N G sa keep f0 Q rest sv hN hK
 have hmin:(if decide ((300:Int)<((xs.length:Nat):Int))=true then (300:Int) else ((xs.length:Nat):Int))=((min 300 xs.length:Nat):Int):=by
  by_cases h:(300:Int)<((xs.length:Nat):Int)
  · rw [if_pos (decide_eq_true h)]; omega
  · rw [if_neg (by simpa using h)]; omega
 have hx:((xs.drop 0).take (min 300 xs.length - 0))=xs.take 300:=by
  rw [List.drop_zero,Nat.sub_zero]
  by_cases h:300≤xs.length
  · rw [Nat.min_eq_left h]
  · rw [Nat.min_eq_right (by omega),List.take_length,List.take_of_length_le (by omega)]
 obtain ⟨s1,es,sv1⟩:∃ s1,xQ P ⟨O,N,G⟩ 22 sa none (some (if decide ((300:Int)<((xs.length:Nat):Int))=true then (300:Int) else ((xs.length:Nat):Int))) none=some s1∧SVe O hi (xs.take 300) s1:=by
  rcases sv with sv | ⟨rfl,rfl⟩
  · obtain ⟨s1,es,sv1,_⟩:=sv.sub bSl bEn (a:=0) (b:=min 300 xs.length) (Nat.zero_le _) (by omega) none (some (if decide ((300:Int)<((xs.length:Nat):Int))=true then (300:Int) else ((xs.length:Nat):Int))) (.inr ⟨rfl,rfl⟩) (.inl (by rw [hmin])) N G
    rw [hx] at sv1
    exact ⟨s1,es,.inl sv1⟩
  · exact ⟨.sle,by kernel_rfl,.inr ⟨rfl,rfl⟩⟩
 obtain ⟨O1,e1,b1,f1⟩:=Obj.box (t:=59) [s1,.int .i64 0] (by simp only [List.all_cons,List.all_nil,Bool.and_true,sv1.one]; rfl) O N 2 rfl
 have lo:∀ j,j<N→O1.get j=O.get j:=fun j hj=>f1 j (by omega)
 have m1:MK2 O1 hi N (xs.take 300) 0:=⟨s1,b1,sv1.keep (fun j hj=>lo j (by omega))⟩
 refine ot t_tyq ⟨((xs.length:Nat):Int),s1,O1,sv.len _ _,es,bld59 sv1.one,e1,?_⟩
 refine run (A:=fun j=>j=N) hN m1 (Nat.lt_succ_self N) (fun j h=>by omega) rfl fun O2 N2 td p hN2 hO2 m2 tr=>?_
 exact ot zkH (hK O2 N2 _ p ⟨by omega,fun j hj=>(hO2 j (by omega) (by omega)).trans (lo j hj)⟩ tr.tr)
def zn5 (t:Ty):List UInt8:=if chk t=0 then wr t else []
theorem zig {t:Ty}{p:Option Nat}{hi:Nat}(ht:Tr O hi t p)(hN:hi≤N){keep:Nat}{f0:FuncId}{Q:AV→AHeap→Prop}{rest:List AFrame}
 (hK:∀ O' N' td,Ext O N O' N'→Goal P keep f0 Q (AM.mk (RF 16 8 (tX tZ (tY (.str (zn5 t)))) td) rest ⟨O',N',G⟩)):Goal P keep f0 Q (AM.mk (enF 16 [pv p]) rest ⟨O,N,G⟩):=by
 refine ot zpx ?_
 refine ot zoj ?_
 refine gx.chk_ok ht hN fun O1 N1 td1 ex1=>?_
 refine ot zkl ?_
 by_cases h:chk t=0
 · rw [show zn5 t=wr t from if_pos h] at hK
   refine ot zd3 (fkf ((by simp [h])) ?_)
   refine zjK (tp.chk_ok h).1 (tp.chk_ok h).2 keep f0 Q hi p _ O1 N1 (ht.ext ex1 hN) (Nat.le_trans hN ex1.1) fun O2 N2 td2 ex2=>?_
   exact ot zcn (hK O2 N2 _ (ex1.trans ex2))
 · rw [show zn5 t=[] from if_neg h] at hK
   refine ot zd3 (fkt ((by simp [h])) ?_)
   exact hK O1 N1 _ ex1
theorem zj2 {t:Ty}{p:Option Nat}{hi:Nat}(ht:Tr O hi t p)(hN:hi≤N){keep:Nat}{f0:FuncId}{Q:AV→AHeap→Prop}{rest:List AFrame}
 (hK:∀ O' N' td,Ext O N O' N'→Goal P keep f0 Q (AM.mk (RF 17 8 (tX tZ (tY (.str (zn5 t)))) td) rest ⟨O',N',G⟩)):Goal P keep f0 Q (AM.mk (enF 17 [pv p]) rest ⟨O,N,G⟩):=by
 refine ot zpa ?_
 refine zcw ht hN fun O1 N1 td1 ex1=>?_
 by_cases h:chk t=0
 · rw [show zn5 t=wr t from if_pos h] at hK
   refine ot zey (fkf ((by simp [h])) ?_)
   refine wR (cnt t) t p _ O1 N1 ⟨Nat.le_refl _,(tp.chk_ok h).2⟩ (tp.chk_ok h).1 (ht.ext ex1 hN) (Nat.le_trans hN ex1.1) fun O2 N2 td2 ex2=>?_
   exact ot zcm (hK O2 N2 _ (ex1.trans ex2))
 · rw [show zn5 t=[] from if_neg h] at hK
   refine ot zey (fkt ((by simp [h])) ?_)
   exact hK O1 N1 _ ex1
theorem zeo {t u:Ty}{p p2:Option Nat}{hi:Nat}(ht:Tr O hi t p)(hu:Tr O hi u p2)(hN:hi≤N){keep:Nat}{f0:FuncId}{Q:AV→AHeap→Prop}{rest:List AFrame}
 (hK:∀ O' N' td b,(b=true ↔ cnt t≤60∧cnt u≤60∧t=u)→Ext O N O' N'→Goal P keep f0 Q (AM.mk (RF 18 18 (tX tZ (tX (tY (.bool b)) tZ)) td) rest ⟨O',N',G⟩)):Goal P keep f0 Q (AM.mk (enF 18 [pv p,pv p2]) rest ⟨O,N,G⟩):=by
 refine ot zob ?_
 refine zcF ht hN fun O1 N1 td1 ex1=>?_
 refine ot zkn ⟨fun hc47=>?_,fun hc47=>?_⟩
 ·
  have c1:cnt t≤60:=by have:=of_decide_eq_true hc47; omega
  refine zcF (hu.ext ex1 hN) (Nat.le_trans hN ex1.1) fun O2 N2 td2 ex2=>?_
  refine ot zct ⟨fun hc49=>?_,fun hc49=>?_⟩
  ·
   have c2:cnt u≤60:=by have:=of_decide_eq_true hc49; omega
   have ex:=ex1.trans ex2
   refine zfc (cnt t) t u p p2 _ (Nat.le_refl _) (ht.ext ex hN) (hu.ext ex hN) fun td3 b hb=>?_
   exact ot kU (hK O2 N2 _ b ⟨fun e=>⟨c1,c2,hb.1 e⟩,fun x=>hb.2 x.2.2⟩ ex)
  ·
   exact hK O2 N2 _ false (bF fun x=>by have:=of_decide_eq_false hc49; omega) (ex1.trans ex2)
 ·
  exact hK O1 N1 _ false (bF fun x=>by have:=of_decide_eq_false hc47; omega) ex1
theorem zdo {hi:Nat}{keep:Nat}{f0:FuncId}{Q:AV→AHeap→Prop}{rest:List AFrame}:∀ {t u:Ty} {p p2:Option Nat},Tr O hi t p→Tr O hi u p2 →
 (∀ td b,(b=true ↔ cnt t≤60∧cnt u≤60∧t=u)→Goal P keep f0 Q (AM.mk (RF 19 30 (tX tZ (tX (tY (.bool b)) tZ)) td) rest ⟨O,N,G⟩))→Goal P keep f0 Q (AM.mk (enF 19 [pv p,pv p2]) rest ⟨O,N,G⟩)
 | .no,.no,p,p2,ht,hu,hK=>by
  cases ht
  cases hu
  have c0:cnt .no=0:=by simp only [cnt]
  exact ot zkP (hK _ true (bT ⟨by omega,by omega,rfl⟩))
 | .no,.mk k2 nm2 ns2 ts2 r2,p,p2,ht,hu,hK=>by
  cases ht
  obtain ⟨m,sn2,sa2,ps2,rq2,rfl,_⟩:=hu.inv
  exact ot zkS (hK _ false (bF fun e=>by cases e.2.2))
 | .mk k nm ns ts r,.no,p,p2,ht,hu,hK=>by
  cases hu
  obtain ⟨q,sn,sa,ps,rq,rfl,_⟩:=ht.inv
  exact ot zlD (hK _ false (bF fun e=>by cases e.2.2))
 | .mk k nm ns ts r,.mk k2 nm2 ns2 ts2 r2,p,p2,ht,hu,hK=>by
  have ht0:=ht
  have hu0:=hu
  obtain ⟨q,sn,sa,ps,rq,rfl,_⟩:=ht.inv
  obtain ⟨m,sn2,sa2,ps2,rq2,rfl,_⟩:=hu.inv
  refine ot zkO ?_
  refine vB ht0 fun td1=>?_
  refine ot zfn ⟨fun hc52=>?_,fun hc52=>?_⟩
  ·
   have c1:cnt (Ty.mk k nm ns ts r)≤60:=by have:=of_decide_eq_true hc52; omega
   refine vB hu0 fun td2=>?_
   refine ot zaB ⟨fun hc54=>?_,fun hc54=>?_⟩
   ·
    have c2:cnt (Ty.mk k2 nm2 ns2 ts2 r2)≤60:=by have:=of_decide_eq_true hc54; omega
    refine zcA _ _ _ (some q) (some m) _ (Nat.le_refl _) ht0 hu0 fun td3 b hb=>?_
    exact ot vg (hK _ b ⟨fun e=>⟨c1,c2,hb.1 e⟩,fun x=>hb.2 x.2.2⟩)
   ·
    exact hK _ false (bF fun x=>by have:=of_decide_eq_false hc54; omega)
  ·
   exact hK _ false (bF fun x=>by have:=of_decide_eq_false hc52; omega)
theorem biff {a b:Bool}{X:Prop}(h1:a=true ↔ X)(h2:b=true ↔ X):a=b:=by
 cases a with
 | true=>exact (h2.2 (h1.1 rfl)).symm
 | false =>
  cases b with
  | false=>rfl
  | true=>exact h1.2 (h2.1 rfl)
end Go.Proofs.Ytcdigdplhlgcaaa.gx
end
