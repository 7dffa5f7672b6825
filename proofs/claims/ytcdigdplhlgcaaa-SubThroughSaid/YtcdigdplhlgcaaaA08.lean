import Derived.Test.YtcdigdplhlgcaaaA00
import Derived.Test.YtcdigdplhlgcaaaA01
import Derived.Test.YtcdigdplhlgcaaaA02
import Derived.Test.YtcdigdplhlgcaaaA03
import Derived.Test.YtcdigdplhlgcaaaA04
import Derived.Test.YtcdigdplhlgcaaaA05
import Derived.Test.YtcdigdplhlgcaaaA06
import Derived.Test.YtcdigdplhlgcaaaA07
section
set_option maxRecDepth 100000
set_option linter.unusedVariables false
set_option linter.unusedSectionVars false
set_option linter.unusedSimpArgs false
namespace Go.Proofs.Ytcdigdplhlgcaaa.gx
open Go Ev tp
noncomputable def Fsom (n:Int) (mk:Nat):AFrame:=⟨79,20,(tW (tW (tX (tY (.ptr mk 0 0)) tZ) (.int .i64 n) (tY (.nils 0 0))) (.ptr mk 0 0) tZ),   [.ops (rg P 79 [1,1,0,0]).toList ((rg P 79 [1,1,0,0]).toList.drop 1),.code (cd P 79 [1,1,0,1]),.code (cd P 79 [1,1,1])],[],.run,CallKind.normal,none⟩
noncomputable def Wsom (n:Int) (j:Int) (mk:Nat) (sl2:AV) (rest:List AFrame) (O:T AObj) (N:Nat) (G:T (T AV)):AM:=⟨⟨79,20,(tW (tW tZ (.int .i64 n) (tY sl2)) (.ptr mk 0 0) (tX tZ (tY (.int .i64 j)))),   [.code (cd P 79 [1,1,0,1,0,0]),.inLoop (cd P 79 [1,1,0,1,0,0]),.inBlock 0,.code (cd P (79:FuncId) [1,1,1])],[],.run,CallKind.normal,none⟩,rest,⟨O,N,G⟩⟩
noncomputable def znc (n:Int) (j:Int) (mk:Nat) (sl2:AV):AFrame:=⟨79,20,(tW (tW (tX (tX (tY (.int .i64 n)) tZ) tZ) (.int .i64 n) (tX tZ (tY sl2))) (.ptr mk 0 0) (tX tZ (tW tZ (.int .i64 j) (tY (.ptr mk 0 0))))),   [.ops (rg P 79 [1,1,0,1,0,0,1,0,0]).toList ((rg P 79 [1,1,0,1,0,0,1,0,0]).toList.drop 3),.inBlock 1,.code (cd P 79 [1,1,0,1,0,0,1,1]),.inLoop (cd P (79:FuncId) [1,1,0,1,0,0]),.inBlock 0,.code (cd P (79:FuncId) [1,1,1])],[],.run,CallKind.normal,none⟩
noncomputable def zqG (mk:Nat):AFrame:=⟨39,78,(tX (tX tZ (tX (tX tZ (tY (.ptr mk 0 0))) tZ)) tZ),   [.ops (rg P 39 [1,1,0,1,0,0]).toList ((rg P 39 [1,1,0,1,0,0]).toList.drop 1),.code (cd P 39 [1,1,0,1,0,1]),.code (cd P 39 [1,1,1])],[],.run,CallKind.normal,none⟩
noncomputable def zn1 (mk:Nat):AFrame:=⟨39,78,(tX (tX tZ (tX (tX tZ (tY (.ptr mk 0 0))) tZ)) tZ),   [.ops (rg P 39 [1,1,0,1,0,0]).toList ((rg P 39 [1,1,0,1,0,0]).toList.drop 1),.code (cd P 39 [1,1,0,1,0,1]),.code (cd P 39 [1,1,1])],[],.run,CallKind.normal,none⟩
noncomputable def zmO (N:Nat) (n:Int) (mk:Nat):AFrame:=⟨39,78,(tW (tW tZ (.int .i64 n) (tY (.ptr N 0 0))) (.ptr mk 0 0) (tX (tX tZ (tX tZ (tY (.ptr mk 0 0)))) tZ)),   [.ops (rg P 39 [1,1,1,1,0,0]).toList ((rg P 39 [1,1,1,1,0,0]).toList.drop 1),.code (cd P 39 [1,1,1,1,0,1]),.code (cd P 39 [1,1,1,1,1])],[],.run,CallKind.normal,none⟩
noncomputable def zco (n:Int) (mk:Nat) (Nc:Nat):AFrame:=⟨39,78,(tX (tX tZ (tY (.ptr Nc 0 0))) (tX (tX (tX (tX (tY (.ptr mk 0 0)) tZ) tZ) tZ) (tX (tX (tX (tY (.int .i64 (IntKind.i64.wrap (n - (1:Int))))) tZ) tZ) tZ))),   [.ops (rg P 39 [1,1,1,1,0,1,0,1,0,0]).toList ((rg P 39 [1,1,1,1,0,1,0,1,0,0]).toList.drop 3),.code (cd P 39 [1,1,1,1,0,1,0,1,0,1]),.inBlock 0,.code (cd P (39:FuncId) [1,1,1,1,1])],[],.run,CallKind.normal,none⟩
noncomputable def zbR (n:Int) (mk:Nat):AFrame:=⟨39,78,(tW (tY (.int .i64 n)) (.ptr mk 0 0) (tX (tX (tX (tX tZ (tY (.int .i64 (IntKind.i64.wrap (n - (1:Int)))))) tZ) tZ) (tX tZ (tX tZ (tX (tY (.ptr mk 0 0)) tZ))))),   [.ops (rg P 39 [1,1,1,1,0,1,0,1,1,1,0,0]).toList ((rg P 39 [1,1,1,1,0,1,0,1,1,1,0,0]).toList.drop 3),.code (cd P 39 [1,1,1,1,0,1,0,1,1,1,0,1]),.inBlock 0,.code (cd P (39:FuncId) [1,1,1,1,1])],[],.run,CallKind.normal,none⟩
noncomputable def zac (n:Int) (mk:Nat):AFrame:=⟨39,78,(tW (tW (tX (tX (tX (tX (tY (.int .i64 (IntKind.i64.wrap (n - (1:Int))))) tZ) tZ) tZ) tZ) (.int .i64 n) (tX tZ (tX tZ (tX tZ (tY (.ptr mk 0 0)))))) (.ptr mk 0 0) tZ),   [.ops (rg P 39 [1,1,1,1,0,1,0,1,1,1,1,1,0,0]).toList ((rg P 39 [1,1,1,1,0,1,0,1,1,1,1,1,0,0]).toList.drop 3),.code (cd P 39 [1,1,1,1,0,1,0,1,1,1,1,1,0,1]),.inBlock 0,.code (cd P (39:FuncId) [1,1,1,1,1])],[],.run,CallKind.normal,none⟩
noncomputable def jY (mk:Nat):AFrame:=⟨39,78,(tX tZ (tX (tX tZ (tX tZ (tX (tX (tY (.ptr mk 0 0)) tZ) tZ))) tZ)),   [.ops (rg P 39 [1,1,1,1,1,0]).toList ((rg P 39 [1,1,1,1,1,0]).toList.drop 1),.code (cd P 78 [1,1,0,0,1,0,1])],[],.run,CallKind.normal,none⟩
noncomputable def kB (prq1:AV) (s1:AV):AFrame:=⟨39,78,(tX (tX (tX (tX tZ (tX (tY prq1) tZ)) tZ) tZ) (tX tZ (tX tZ (tX (tX (tY s1) tZ) tZ)))),   [.ops (rg P 39 [1,1,1,1,0,1,0,1,0,1,0]).toList ((rg P 39 [1,1,1,1,0,1,0,1,0,1,0]).toList.drop 4),.code (cd P 79 [1,1,1,1]),.inBlock 0,.code (cd P (39:FuncId) [1,1,1,1,1])],[],.run,CallKind.normal,none⟩
noncomputable def vA (n:Int) (mk:Nat) (prq1:AV):AFrame:=⟨39,78,(tX (tX (tX tZ (tX (tX tZ (tY (.ptr mk 0 0))) tZ)) (tX tZ (tX (tX tZ (tY (.int .i64 (IntKind.i64.wrap (n - (1:Int)))))) tZ))) (tX tZ (tX (tX (tX tZ (tY prq1)) tZ) tZ))),   [.ops (rg P 39 [1,1,1,1,0,1,0,1,1,1,0,1,0]).toList ((rg P 39 [1,1,1,1,0,1,0,1,1,1,0,1,0]).toList.drop 4),.code (cd P 79 [1,1,1,1]),.inBlock 0,.code (cd P (39:FuncId) [1,1,1,1,1])],[],.run,CallKind.normal,none⟩
noncomputable def wJ (n:Int) (mk:Nat) (prq1:AV):AFrame:=⟨39,78,(tX (tX tZ (tX (tX (tX (tX (tY prq1) tZ) tZ) tZ) tZ)) (tX (tX tZ (tX (tX (tX (tY (.int .i64 (IntKind.i64.wrap (n - (1:Int))))) tZ) tZ) tZ)) (tX (tX (tX (tX (tY (.ptr mk 0 0)) tZ) tZ) tZ) tZ))),   [.ops (rg P 39 [1,1,1,1,0,1,0,1,1,1,1,1,0,1,0]).toList ((rg P 39 [1,1,1,1,0,1,0,1,1,1,1,1,0,1,0]).toList.drop 4),.code (cd P 79 [1,1,1,1]),.inBlock 0,.code (cd P (39:FuncId) [1,1,1,1,1])],[],.run,CallKind.normal,none⟩
noncomputable def wl (crq2:Int) (prq2:AV):AFrame:=⟨39,78,(tX (tX tZ (tX (tX tZ (tX (tY prq2) tZ)) tZ)) (tX tZ (tX (tX tZ (tX (tY (.int .i64 crq2)) tZ)) tZ))),   [.ops (rg P (39:FuncId) [1,1,1,1,0,1,0,1,0,1,0]).toList ((rg P (39:FuncId) [1,1,1,1,0,1,0,1,0,1,0]).toList.drop 7),.code (cd P (79:FuncId) [1,1,1,1]),.inBlock 0,.code (cd P (39:FuncId) [1,1,1,1,1])],[],.run,CallKind.normal,none⟩
noncomputable def qk (prq1:AV) (prq2:AV):AFrame:=⟨39,78,(tX tZ (tX tZ (tX (tX (tX tZ (tY prq1)) tZ) (tX (tX tZ (tY prq2)) tZ)))),   [.ops (rg P (39:FuncId) [1,1,1,1,0,1,0,1,1,1,0,1,0]).toList ((rg P (39:FuncId) [1,1,1,1,0,1,0,1,1,1,0,1,0]).toList.drop 5),.code (cd P (79:FuncId) [1,1,1,1]),.inBlock 0,.code (cd P (39:FuncId) [1,1,1,1,1])],[],.run,CallKind.normal,none⟩
noncomputable def qa (s1:AV):AFrame:=⟨39,78,(tX (tX (tX (tX tZ (tX (tX (tY s1) tZ) tZ)) tZ) tZ) tZ),   [.ops (rg P (39:FuncId) [1,1,1,1,0,1,0,1,1,1,1,1,0,1,0]).toList ((rg P (39:FuncId) [1,1,1,1,0,1,0,1,1,1,1,1,0,1,0]).toList.drop 7),.code (cd P (79:FuncId) [1,1,1,1]),.inBlock 0,.code (cd P (39:FuncId) [1,1,1,1,1])],[],.run,CallKind.normal,none⟩
noncomputable def yB (crq3:Int) (prq3:AV):AFrame:=⟨39,78,(tX (tX tZ (tX (tX tZ (tX tZ (tY (.int .i64 crq3)))) tZ)) (tX (tX (tX tZ (tX tZ (tY prq3))) tZ) tZ)),   [.ops (rg P (39:FuncId) [1,1,1,1,0,1,0,1,1,1,0,1,0]).toList ((rg P (39:FuncId) [1,1,1,1,0,1,0,1,1,1,0,1,0]).toList.drop 8),.code (cd P (79:FuncId) [1,1,1,1]),.inBlock 0,.code (cd P (39:FuncId) [1,1,1,1,1])],[],.run,CallKind.normal,none⟩
noncomputable def yl (crq3:Int) (prq3:AV):AFrame:=⟨39,78,(tX (tX tZ (tX (tX tZ (tX (tX (tY prq3) tZ) tZ)) tZ)) (tX tZ (tX (tX tZ (tX (tX (tY (.int .i64 crq3)) tZ) tZ)) tZ))),   [.ops (rg P (39:FuncId) [1,1,1,1,0,1,0,1,1,1,1,1,0,1,0]).toList ((rg P (39:FuncId) [1,1,1,1,0,1,0,1,1,1,1,1,0,1,0]).toList.drop 10),.code (cd P (79:FuncId) [1,1,1,1]),.inBlock 0,.code (cd P (39:FuncId) [1,1,1,1,1])],[],.run,CallKind.normal,none⟩
section
variable {R:AV→AHeap→Prop} {keep N mk Nc:Nat} {f0:FuncId} {rest:List AFrame} {O:T AObj} {e n crq0 j nn crq2 crq3:Int} {s1 sl2 prq0 prq1 prq2 s1c prq3 prq4:AV} {G:T (T AV)} {K:AM→Prop} {td:List AItem}
theorem t_orr:((((e != (0:Int)))=true→(∃ (O1:T AObj),(T.set ((some (.cells (tW (tW (tY (.nils 0 0)) (.str []) tZ) (.int .i64 2) (tW (tY .nilp) (.nils 0 0) tZ)) 5 44 0 0 1 0 false .leaf))) (O) (N)=O1)∧K (AM.mk (RF 80 10 (tX tZ (tX (tY (.ptr N 0 0)) tZ)) [.code (cd P 80 [1,0,1,0,1]),.code (cd P 80 [1,1])]) rest ⟨O1,N+1,G⟩)))∧(((e != (0:Int)))=false→(K (AM.mk (RF 80 10 (tX tZ (tX (tY s1) tZ)) [.code (cd P 80 [1,0,1,0,1])]) rest ⟨O,N,G⟩))))=OT f0 R keep K (.seq [.run 10] (.fork 6 (.ex fun O1:T AObj=>(.seq [.run 4,.hop (.nilp) O1,.run 3,.keep [4]] .fin)) (.seq [.run 8,.keep [4]] .fin))) ((AM.mk (enF 80 [s1,.int .i64 e]) rest ⟨O,N,G⟩)):=by kernel_rfl
theorem t_som:(K (AM.mk (enF 73 [.ptr mk 0 0,.int .i64 4]) ((Fsom n mk)::rest) ⟨O,N,G⟩))=OT f0 R keep K (.seq [.run 12,.keep [0,1,5,7],.run 1] .fin) ((AM.mk (enF 79 [.ptr mk 0 0,.int .i64 n]) rest ⟨O,N,G⟩)):=by kernel_rfl
theorem zlU:(K (Wsom n crq0 mk (.nils 0 0) rest O N G))=OT f0 R keep K (.seq [.run 5,.keep [0,1,5,6]] .fin) ((AM.mk (RF 73 30 (tX tZ (tX (tY (.int .i64 crq0)) tZ)) td) ((Fsom n mk)::rest) ⟨O,N,G⟩)):=by kernel_rfl
theorem zmG:(((decide (j > (0:Int)))=true→(K (AM.mk (enF 39 [.ptr mk 0 0,.int .i64 n]) ((znc n j mk sl2)::rest) ⟨O,N,G⟩)))∧((decide (j > (0:Int)))=false→(K (AM.mk (RF 79 20 (tX tZ (tX (tY sl2) tZ)) [.code (cd P 79 [1,1,1,1])]) rest ⟨O,N,G⟩))))=OT f0 R keep K (.seq [.run 6] (.fork 10 (.seq [.run 8,.keep [0,1,6,13,14,15],.run 1] .fin) (.seq [.run 8,.keep [4]] .fin))) ((Wsom n j mk sl2 rest O N G)):=by kernel_rfl
theorem zil:(∃ (O1:T AObj) (s1:AV) (O2:T AObj) (N1:Nat),(zd P (⟨O,N,G⟩) (33) (1) ([(0,prq0)])=(some (.slc N 0 0 1 1,⟨O1,N+1,G⟩)))∧(zf P (⟨O1,N+1,G⟩) (Builtin.append) ((some 33)) ((some 33)) ([sl2,.slc N 0 0 1 1])=(some (.val s1 ⟨O2,N1,G⟩)))∧K (Wsom n (IntKind.i64.wrap (j - (1:Int))) mk s1 rest O2 N1 G))=OT f0 R keep K (.ex fun O1:T AObj=>(.ex fun s1:AV=>(.ex fun O2:T AObj=>(.ex fun N1:Nat=>(.seq [.run 1,.hopn (.slc N 0 0 1 1) O1 (N+1),.hopn (s1) O2 (N1),.run 9,.keep [0,1,5,6]] .fin))))) ((AM.mk (RF 39 78 (tX tZ (tX (tY prq0) tZ)) td) ((znc n j mk sl2)::rest) ⟨O,N,G⟩)):=by kernel_rfl
theorem zmK:(∃ (O1:T AObj),(lC O N G mk 1 (.int .i64 nn))∧(zc (⟨O,N,G⟩) (mk) (0) (1) ([.int .i64 (IntKind.i64.wrap (nn+(1:Int)))])=(some ⟨O1,N,G⟩))∧((decide (n<(1:Int)))=true→(K (AM.mk (enF 78 [.ptr mk 0 0]) ((zqG mk)::rest) ⟨O1,N,G⟩)))∧((decide (n<(1:Int)))=false→((lC O1 N G mk 1 (.int .i64 (IntKind.i64.wrap (nn+(1:Int)))))∧((decide (IntKind.i64.wrap (nn+(1:Int)) > (60:Int)))=true→(K (AM.mk (enF 78 [.ptr mk 0 0]) ((zn1 mk)::rest) ⟨O1,N,G⟩)))∧((decide (IntKind.i64.wrap (nn+(1:Int)) > (60:Int)))=false→(∃ (O2:T AObj) (O3:T AObj),(T.set ((some (.cells (tW (tY (.str [])) (.str []) (tY (.str []))) 3 90 0 0 1 0 false .leaf))) (O1) (N)=O2)∧(zc (⟨O2,N+1,G⟩) (N) (0) (0) ([.str [UInt8.ofNat (97)],.str [UInt8.ofNat (98)],.str [UInt8.ofNat (99)]])=(some ⟨O3,N+1,G⟩))∧K (AM.mk (enF 73 [.ptr mk 0 0,.int .i64 5]) ((zmO N n mk)::rest) ⟨O3,N+1,G⟩))))))=OT f0 R keep K (.ex fun O1:T AObj=>(.seq [.run 9,.hop (.int .i64 nn) O,.run 3,.hop (.nilp) O1,.run 7] (.fork 18 (.seq [.run 11,.keep [25],.run 1] .fin) (.seq [.run 3,.hop (.int .i64 (IntKind.i64.wrap (nn+(1:Int)))) O1,.run 3] (.fork 24 (.seq [.run 4,.keep [25],.run 1] .fin) (.ex fun O2:T AObj=>(.ex fun O3:T AObj=>(.seq [.run 5,.hop (.nilp) O2,.hop (.nilp) O3,.run 5,.keep [0,1,5,28],.run 1] .fin)))))))) ((AM.mk (enF 39 [.ptr mk 0 0,.int .i64 n]) rest ⟨O,N,G⟩)):=by kernel_rfl
theorem zjI:(K (AM.mk (RF 39 78 (tX tZ (tX (tY prq0) tZ)) [.code (cd P (39:FuncId) [1,1,0,1,0,1]),.code (cd P (39:FuncId) [1,1,1])]) rest ⟨O,N,G⟩))=OT f0 R keep K (.seq [.run 4,.keep [4]] .fin) ((AM.mk (RF 78 32 (tX tZ (tY prq0)) td) ((zqG mk)::rest) ⟨O,N,G⟩)):=by kernel_rfl
theorem ziW:(K (AM.mk (RF 39 78 (tX tZ (tX (tY prq0) tZ)) [.code (cd P (39:FuncId) [1,1,0,1,0,1]),.code (cd P (39:FuncId) [1,1,1])]) rest ⟨O,N,G⟩))=OT f0 R keep K (.seq [.run 4,.keep [4]] .fin) ((AM.mk (RF 78 32 (tX tZ (tY prq0)) td) ((zn1 mk)::rest) ⟨O,N,G⟩)):=by kernel_rfl
theorem zin:((((crq0==(1:Int)))=true→(K (AM.mk (enF 79 [.ptr mk 0 0,.int .i64 (IntKind.i64.wrap (n - (1:Int)))]) ((zco n mk Nc)::rest) ⟨O,N,G⟩)))∧(((crq0==(1:Int)))=false→((((crq0==(2:Int)))=true→(K (AM.mk (enF 79 [.ptr mk 0 0,.int .i64 (IntKind.i64.wrap (n - (1:Int)))]) ((zbR n mk)::rest) ⟨O,N,G⟩)))∧(((crq0==(2:Int)))=false→((((crq0==(3:Int)))=true→(K (AM.mk (enF 79 [.ptr mk 0 0,.int .i64 (IntKind.i64.wrap (n - (1:Int)))]) ((zac n mk)::rest) ⟨O,N,G⟩)))∧(((crq0==(3:Int)))=false→(K (AM.mk (enF 78 [.ptr mk 0 0]) ((jY mk)::rest) ⟨O,N,G⟩))))))))=OT f0 R keep K (.seq [.run 8] (.fork 30 (.seq [.run 6,.keep [5,32,34],.run 1] .fin) (.seq [.run 6] (.fork 44 (.seq [.run 6,.keep [0,1,46,48],.run 1] .fin) (.seq [.run 6] (.fork 59 (.seq [.run 6,.keep [0,1,61,63],.run 1] .fin) (.seq [.run 6,.keep [76],.run 1] .fin))))))) ((AM.mk (RF 73 30 (tX tZ (tX (tY (.int .i64 crq0)) tZ)) td) ((zmO Nc n mk)::rest) ⟨O,N,G⟩)):=by kernel_rfl
theorem zal:(K (AM.mk (RF 39 78 (tX tZ (tX (tY prq1) tZ)) [.code (cd P (78:FuncId) [1,1,0,0,1,0,1])]) rest ⟨O,N,G⟩))=OT f0 R keep K (.seq [.run 4,.keep [4]] .fin) ((AM.mk (RF 78 32 (tX tZ (tY prq1)) td) ((jY mk)::rest) ⟨O,N,G⟩)):=by kernel_rfl
theorem zca:(∃ (z1:Int) (s1:AV),(lN O N G 33 prq1 z1)∧(xD P (⟨O,N,G⟩) (90) (.ptr Nc 0 0) (none) ((some z1)) (none)=(some s1))∧K (AM.mk (enF 23 [s1,prq1]) ((kB prq1 s1)::rest) ⟨O,N,G⟩))=OT f0 R keep K (.ex fun z1:Int=>(.ex fun s1:AV=>(.seq [.run 6,.hopn (.int .i64 z1) O (N),.hop (s1) O,.run 1,.keep [38,39],.run 1] .fin))) ((AM.mk (RF 79 20 (tX tZ (tX (tY prq1) tZ)) td) ((zco n mk Nc)::rest) ⟨O,N,G⟩)):=by kernel_rfl
theorem jr:(K (AM.mk (enF 80 [prq2,.int .i64 crq2]) ((wl crq2 prq2)::rest) ⟨O,N,G⟩))=OT f0 R keep K (.seq [.run 3,.keep [41,42],.run 1] .fin) ((AM.mk (RF 23 135 (tX (tX tZ (tY (.int .i64 crq2))) (tX (tY prq2) tZ)) td) ((kB prq1 s1c)::rest) ⟨O,N,G⟩)):=by kernel_rfl
theorem vi:(K (AM.mk (RF 39 78 (tX tZ (tX (tY prq3) tZ)) [.code (cd P (79:FuncId) [1,1,1,1]),.inBlock 0,.code (cd P (39:FuncId) [1,1,1,1,1])]) rest ⟨O,N,G⟩))=OT f0 R keep K (.seq [.run 4,.keep [4]] .fin) ((AM.mk (RF 80 10 (tX tZ (tX (tY prq3) tZ)) td) ((wl crq2 prq2)::rest) ⟨O,N,G⟩)):=by kernel_rfl
theorem zbn:(K (AM.mk (enF 39 [.ptr mk 0 0,.int .i64 (IntKind.i64.wrap (n - (1:Int)))]) ((vA n mk prq1)::rest) ⟨O,N,G⟩))=OT f0 R keep K (.seq [.run 9,.keep [50,51,53],.run 1] .fin) ((AM.mk (RF 79 20 (tX tZ (tX (tY prq1) tZ)) td) ((zbR n mk)::rest) ⟨O,N,G⟩)):=by kernel_rfl
theorem kI:(K (AM.mk (enF 28 [prq1,prq2]) ((qk prq1 prq2)::rest) ⟨O,N,G⟩))=OT f0 R keep K (.seq [.run 1,.keep [50,54],.run 1] .fin) ((AM.mk (RF 39 78 (tX tZ (tX (tY prq2) tZ)) td) ((vA n mk prq1)::rest) ⟨O,N,G⟩)):=by kernel_rfl
theorem wx:(K (AM.mk (enF 80 [prq3,.int .i64 crq3]) ((yB crq3 prq3)::rest) ⟨O,N,G⟩))=OT f0 R keep K (.seq [.run 3,.keep [56,57],.run 1] .fin) ((AM.mk (RF 28 31 (tX (tX tZ (tY (.int .i64 crq3))) (tX (tY prq3) tZ)) td) ((qk prq1 prq2)::rest) ⟨O,N,G⟩)):=by kernel_rfl
theorem qp:(K (AM.mk (RF 39 78 (tX tZ (tX (tY prq4) tZ)) [.code (cd P (79:FuncId) [1,1,1,1]),.inBlock 0,.code (cd P (39:FuncId) [1,1,1,1,1])]) rest ⟨O,N,G⟩))=OT f0 R keep K (.seq [.run 4,.keep [4]] .fin) ((AM.mk (RF 80 10 (tX tZ (tX (tY prq4) tZ)) td) ((yB crq3 prq3)::rest) ⟨O,N,G⟩)):=by kernel_rfl
theorem zak:(K (AM.mk (enF 39 [.ptr mk 0 0,.int .i64 (IntKind.i64.wrap (n - (1:Int)))]) ((wJ n mk prq1)::rest) ⟨O,N,G⟩))=OT f0 R keep K (.seq [.run 9,.keep [65,66,68],.run 1] .fin) ((AM.mk (RF 79 20 (tX tZ (tX (tY prq1) tZ)) td) ((zac n mk)::rest) ⟨O,N,G⟩)):=by kernel_rfl
theorem vX:(∃ (O1:T AObj) (s1:AV) (O2:T AObj) (N1:Nat),(zd P (⟨O,N,G⟩) (33) (1) ([(0,prq2)])=(some (.slc N 0 0 1 1,⟨O1,N+1,G⟩)))∧(zf P (⟨O1,N+1,G⟩) (Builtin.append) ((some 33)) ((some 33)) ([prq1,.slc N 0 0 1 1])=(some (.val s1 ⟨O2,N1,G⟩)))∧K (AM.mk (enF 26 [s1]) ((qa s1)::rest) ⟨O2,N1,G⟩))=OT f0 R keep K (.ex fun O1:T AObj=>(.ex fun s1:AV=>(.ex fun O2:T AObj=>(.ex fun N1:Nat=>(.seq [.run 1,.hopn (.slc N 0 0 1 1) O1 (N+1),.hopn (s1) O2 (N1),.keep [71],.run 1] .fin))))) ((AM.mk (RF 39 78 (tX tZ (tX (tY prq2) tZ)) td) ((wJ n mk prq1)::rest) ⟨O,N,G⟩)):=by kernel_rfl
theorem wq:(K (AM.mk (enF 80 [prq3,.int .i64 crq3]) ((yl crq3 prq3)::rest) ⟨O,N,G⟩))=OT f0 R keep K (.seq [.run 3,.keep [73,74],.run 1] .fin) ((AM.mk (RF 26 129 (tX (tX (tY (.int .i64 crq3)) tZ) (tY prq3)) td) ((qa s1c)::rest) ⟨O,N,G⟩)):=by kernel_rfl
theorem qe:(K (AM.mk (RF 39 78 (tX tZ (tX (tY prq4) tZ)) [.code (cd P (79:FuncId) [1,1,1,1]),.inBlock 0,.code (cd P (39:FuncId) [1,1,1,1,1])]) rest ⟨O,N,G⟩))=OT f0 R keep K (.seq [.run 4,.keep [4]] .fin) ((AM.mk (RF 80 10 (tX tZ (tX (tY prq4) tZ)) td) ((yl crq3 prq3)::rest) ⟨O,N,G⟩)):=by kernel_rfl
end
variable {O O':T AObj} {N:Nat} {G:T (T AV)}
theorem ku {M:Ty→Prop}{A:Nat→Prop}{t:Ty}{p:Option Nat}{e:Int}(h0:M (.mk 2 [] [] [] .no))(ht:e=0→Tra O N A t p∧M t)(hA:∀ j,A j→j<N){keep:Nat}{f0:FuncId}{Q:AV→AHeap→Prop}{rest:List AFrame}
 (hK:∀ O' N' td t' p',Ext O N O' N'→Tra O' N' A t' p'→M t'→Goal P keep f0 Q (AM.mk (RF 80 10 (tX tZ (tX (tY (pv p')) tZ)) td) rest ⟨O',N',G⟩)):Goal P keep f0 Q (AM.mk (enF 80 [pv p,.int .i64 e]) rest ⟨O,N,G⟩):=by
 refine ot t_orr ⟨fun hc2=>?_,fun hc2=>?_⟩
 ·
  obtain ⟨O1v,e3,b3,f3⟩:=Obj.mk (c:=(tW (tW (tY (.nils 0 0)) (.str []) tZ) (.int .i64 2) (tW (tY .nilp) (.nils 0 0) tZ))) (el:=44) [(.int .i64 2),(.str []),(.nils 0 0),(.nils 0 0),.nilp] O N 5 rfl (fun u hu=>by rcases u with _ | _ | _ | _ | _ | u <;> first | rfl | omega)
  exact ⟨O1v,e3,hK O1v (N+1) _ _ (some N) (Ext.new f3) (Tra.node (ps:=[]) (q:=none) (by omega) (fun h=>by have:=hA _ h; omega) b3 SV.nil (fun h=>absurd rfl h) SV.nil (fun h=>absurd rfl h) rfl (by decide) (by decide) (fun j x p h=>by simp at h) Tra.nil) h0⟩
 ·
  obtain ⟨tr,m⟩:=ht (by simpa using hc2)
  exact hK O N _ t p Ext.refl tr m
def ONE (hi mk:Nat) (an:Bool) (d:Nat):Prop:=∀ {A:Nat→Prop} {xs:List UInt8} {nn:Int} {O:T AObj} {N:Nat} {G:T (T AV)} {keep:Nat} {f0:FuncId} {Q:AV→AHeap→Prop} {rest:List AFrame},MKo O hi mk xs nn an→mk<N→(∀ j,A j→j<N)→A mk →
 (∀ (O':T AObj) (N':Nat) (td:List AItem) (ys:List UInt8) (nn':Int) (t:Ty) (p:Option Nat),N≤N'→(∀ j,j<N→j≠mk→O'.get j=O.get j)→MKo O' hi mk ys nn' an→Tra O' N' A t p→MadeT an t→Goal P keep f0 Q (AM.mk (RF 39 78 (tX tZ (tX (tY (pv p)) tZ)) td) rest ⟨O',N',G⟩))→Goal P keep f0 Q (AM.mk (enF 39 [.ptr mk 0 0,.int .i64 ((d:Nat):Int)]) rest ⟨O,N,G⟩)
def SOME (hi mk:Nat) (an:Bool) (d:Nat):Prop:=∀ {A:Nat→Prop} {xs:List UInt8} {nn:Int} {O:T AObj} {N:Nat} {G:T (T AV)} {keep:Nat} {f0:FuncId} {Q:AV→AHeap→Prop} {rest:List AFrame},MKo O hi mk xs nn an→mk<N→(∀ j,A j→j<N)→A mk →
 (∀ (O':T AObj) (N':Nat) (td:List AItem) (ys:List UInt8) (nn':Int) (ts:List Ty) (ps:List (Option Nat)) (s:AV),N≤N'→(∀ j,j<N→j≠mk→O'.get j=O.get j)→MKo O' hi mk ys nn' an→GV O' 23 1 pE N N' ps s→ps.length=ts.length→ts.length≤3→(∀ (j:Nat) (x:Ty) (p:Option Nat),ts[j]?=some x→ps[j]?=some p→Tra O' N' (AvS A s) x p)→(∀ x∈ts,MadeT an x)→Goal P keep f0 Q (AM.mk (RF 79 20 (tX tZ (tX (tY s) tZ)) td) rest ⟨O',N',G⟩))→Goal P keep f0 Q (AM.mk (enF 79 [.ptr mk 0 0,.int .i64 ((d:Nat):Int)]) rest ⟨O,N,G⟩)
theorem zlQ {hi mk:Nat}{an:Bool}(hmk:hi≤mk){d:Nat}(one:ONE hi mk an d):SOME hi mk an d:=by
 intro A xs nn O N G keep f0 Q rest hm hmN hA hAm hK
 refine ot t_som ?_
 refine wU hm hmk (n:=4) (by omega) fun O1 td c ys hl c0 c4 f1 m1=>?_
 refine ot zlU ?_
 have loop:∀ (k:Nat) (O2:T AObj) (N2:Nat) (zs:List UInt8) (n2:Int) (ts:List Ty) (ps:List (Option Nat)) (s:AV),N≤N2→(∀ j,j<N→j≠mk→O2.get j=O.get j)→MKo O2 hi mk zs n2 an→GV O2 23 1 pE N N2 ps s→ps.length=ts.length→ts.length+k≤3→(∀ (j:Nat) (x:Ty) (p:Option Nat),ts[j]?=some x→ps[j]?=some p→Tra O2 N2 (AvS A s) x p)→(∀ x∈ts,MadeT an x)→Goal P keep f0 Q (Wsom ((d:Nat):Int) ((k:Nat):Int) mk s rest O2 N2 G):=by
  intro k
  induction k with
  | zero =>
   intro O2 N2 zs n2 ts ps s hNN hO m2 gv hl h3 hr hmd
   refine ot zmG (fkf (decide_eq_false (by omega)) ?_)
   exact hK O2 N2 _ zs n2 ts ps s hNN hO m2 gv hl (by omega) hr hmd
  | succ k ih =>
   intro O2 N2 zs n2 ts ps s hNN hO m2 gv hl h3 hr hmd
   refine ot zmG (fkt (decide_eq_true (by omega)) ?_)
   refine one (A:=AvS A s) m2 (by omega) (fun j hj=>hj.elim (fun h=>by have:=hA j h; omega) fun h=>by have:=gv.sid_lt h.1; omega) (.inl hAm) fun O3 N3 td3 zs3 n3 t p hN3 hO3 m3 tx md=>?_
   have gv3:=gv.same (O':=O3) (fun hs=>hO3 _ (gv.sid_lt hs).2 (by have:=(gv.sid_lt hs).1; omega)) (Nat.le_refl _) hN3
   have hr3:=fun (j:Nat) (x:Ty) (p:Option Nat) a b=>(hr j x p a b).same (O':=O3) (fun i h1 h2=>hO3 i h1 (fun h=>h2 (.inl (h▸hAm)))) hN3
   obtain ⟨O4,s1,O5,N5,e1,e2,g5,n5,f5,r5⟩:=zkW gv3 (by omega) hl (by omega) hr3 tx G
   have nx:=ih O5 N5 zs3 n3 (ts++[t]) (ps++[p]) s1 (by omega) (fun j h1 h2=>(f5 j (by omega) (fun hs=>by have:=(gv.sid_lt hs).1; omega)).trans ((hO3 j (by omega) h2).trans (hO j h1 h2))) (m3.same (fun j hj=>f5 j (by omega) (fun hs=>by have:=(gv.sid_lt hs).1; omega)) (f5 mk (by omega) (fun hs=>by have:=(gv.sid_lt hs).1; omega))) g5 (by rw [List.length_append,List.length_append,hl]; rfl) (by rw [List.length_append]; simp only [List.length_cons,List.length_nil]; omega) r5 (fun x hx=>by rw [List.mem_append,List.mem_singleton] at hx; exact hx.elim (hmd x) fun h=>h▸md)
   rw [show ((k:Nat):Int)=IntKind.i64.wrap (((k+1:Nat):Int) - (1:Int)) by rw [IntKind.wrap_i64]; omega] at nx
   exact ot zil ⟨_,_,_,_,e1,e2,nx⟩
 have:=loop c.toNat O1 N ys nn [] [] (.nils 0 0) (Nat.le_refl _) (fun j _ h2=>f1 j h2) m1 GV.nil rfl (by simp only [List.length_nil]; omega) (fun j x p h=>by simp at h) (fun x h=>by cases h)
 rw [show ((c.toNat:Nat):Int)=c by omega] at this
 exact this
theorem MKo.mk {hi mk:Nat}{an:Bool}{xs:List UInt8}{n2:Int}{sl:AV}(sv:SVe O hi xs sl)(hmk:hi≤mk)(f:Frm O O' mk)(ob:Obj O' mk [sl,.int .i64 n2,.bool an]):MKo O' hi mk xs n2 an :=
 ⟨sl,ob,sv.keep (fun j hj=>f j (by omega))⟩
theorem zf0 {hi mk:Nat}{an:Bool}(hmk:hi≤mk)(d:Nat)(hd:d≤1000):ONE hi mk an d:=by
 induction d with
 | zero =>
  intro A xs nn O N G keep f0 Q rest hm hmN hA hAm hK
  obtain ⟨sl,ob,sv⟩:=hm
  obtain ⟨O1v,e9,b9,f9⟩:=ob.store 1 [.int .i64 (IntKind.i64.wrap (nn+(1:Int)))] N G (Nat.le_of_ble_eq_true rfl) rfl
  refine ot (zmK (nn:=nn)) ⟨O1v,ob.ld 1 rfl,e9,fkt ((by decide)) ?_⟩
  have m2:=MKo.mk sv hmk f9 b9
  refine zgu m2 hmk hmN (A:=A) hA fun O3 N3 td3 ys t p hl3 hN3 hO3 m3 tx md=>?_
  exact ot zjI (hK O3 N3 _ ys _ t p hN3 (fun j h1 h2=>(hO3 j h1 h2).trans (f9 j h2)) m3 tx md)
 | succ d ih =>
  have one:ONE hi mk an d:=ih (by omega)
  have sme:SOME hi mk an d:=zlQ hmk one
  have w1:IntKind.i64.wrap (((d+1:Nat):Int) - (1:Int))=((d:Nat):Int):=by rw [IntKind.wrap_i64]; omega
  intro A xs nn O N G keep f0 Q rest hm hmN hA hAm hK
  obtain ⟨sl,ob,sv⟩:=hm
  obtain ⟨O1v,e11,b11,f11⟩:=ob.store 1 [.int .i64 (IntKind.i64.wrap (nn+(1:Int)))] N G (Nat.le_of_ble_eq_true rfl) rfl
  refine ot (zmK (nn:=nn)) ⟨O1v,ob.ld 1 rfl,e11,fkf ((decide_eq_false (by omega))) ?_⟩
  refine ⟨b11.ld 1 rfl,fun hc12=>?_,fun hc12=>?_⟩
  ·
   have m2:=MKo.mk sv hmk f11 b11
   refine zgu m2 hmk hmN (A:=A) hA fun O3 N3 td3 ys t p hl3 hN3 hO3 m3 tx md=>?_
   exact ot ziW (hK O3 N3 _ ys _ t p hN3 (fun j h1 h2=>(hO3 j h1 h2).trans (f11 j h2)) m3 tx md)
  ·
   obtain ⟨O2v,e13,b13,f13⟩:=Obj.mk (c:=(tW (tY (.str [])) (.str []) (tY (.str [])))) (el:=90) [(.str []),(.str []),(.str [])] O1v N 3 rfl (fun u hu=>by rcases u with _ | _ | _ | u <;> first | rfl | omega)
   have b14:=b11.same (f13 _ (by omega))
   obtain ⟨O3v,e15,b15,f15⟩:=b13.store 0 [.str [UInt8.ofNat (97)],.str [UInt8.ofNat (98)],.str [UInt8.ofNat (99)]] (N+1) G (Nat.le_of_ble_eq_true rfl) rfl
   have b16:=b14.same (f15 _ (by omega))
   refine ⟨O2v,O3v,e13,e15,?_⟩
   have lo3:∀ j,j<N→j≠mk→O3v.get j=O.get j:=fun j h1 h2=>(f15 j (by omega)).trans ((f13 j (by omega)).trans (f11 j h2))
   have m2:MKo O3v hi mk xs _ an:=MKo.same (MKo.mk sv hmk f11 (by assumption)) (fun j hj=>(f15 j (by omega)).trans (f13 j (by omega))) ((f15 mk (by omega)).trans (f13 mk (by omega)))
   have obN:=b15
   refine wU m2 hmk (n:=5) (by omega) fun O4 td4 c ys hl c0 c5 f4 m4=>?_
   have obN4:=obN.same (f4 N (by omega))
   have lo4:∀ j,j<N→j≠mk→O4.get j=O.get j:=fun j h1 h2=>(f4 j h2).trans (lo3 j h1 h2)
   have hA1:∀ j,A j→j<N+1:=fun j h=>by have:=hA j h; omega
   refine ot zin ⟨fun hc18=>?_,fun hc18=>?_⟩
   ·
    rw [w1]
    refine sme (A:=fun j=>A j∨j=N) m4 (by omega) (fun j hj=>hj.elim (fun h=>by have:=hA j h; omega) fun h=>by omega) (.inl hAm) fun O5 N5 td5 ys5 n5 ts ps s hN5 hO5 m5 g5 hl5 h35 hr5 hmd5=>?_
    have obN5:=obN4.same (hO5 N (by omega) (by omega))
    have lo5:∀ j,j<N→j≠mk→O5.get j=O.get j:=fun j h1 h2=>(hO5 j (by omega) h2).trans (lo4 j h1 h2)
    have hrA:∀ (j:Nat) (x:Ty) (p:Option Nat),ts[j]?=some x→ps[j]?=some p→Tra O5 N5 A x p:=fun j x p a b=>(hr5 j x p a b).imp fun j _ h=>.inl (.inl h)
    obtain ⟨sn,es,vn⟩:=zlO obN5 (hi:=N5) (n:=ts.length) (by omega) h35 N5 G
    refine ot zca ⟨_,_,(g5.sv pEn).lenE pSl hl5 _ _,es,?_⟩
    refine zf2 vn ((g5.sv pEn).keep (fun _ _ _=>rfl) (Nat.zero_le _) (Nat.le_refl _)) hl5 (by omega) hrA (Nat.le_refl _) (fun j h=>by have:=hA j h; omega) fun O8 N8 td8 p8 ex8 tx8=>?_
    have nn8:=ex8.1
    refine ot jr ?_
    have lo8:∀ j,j<N→j≠mk→O8.get j=O.get j:=fun j h1 h2=>(ex8.2 j (by omega)).trans (lo5 j h1 h2)
    have m8:=m5.same (fun j hj=>ex8.2 j (by omega)) (ex8.2 mk (by omega))
    refine ku (M:=MadeT an) (MadeT.leaf (by decide) (by decide) (fun _=>by decide)) (fun h=>⟨tx8,zdy h (fun ha x hx=>(by obtain ⟨_,_,_,_,_,_,_,_,_,_,q⟩:=hmd5 x hx; exact q ha))⟩) (fun j h=>by have:=hA j h; omega) fun O9 N9 td9 t9 p9 ex9 tx9 md9=>?_
    have nn9:=ex9.1
    exact ot vi (hK O9 N9 _ _ _ t9 p9 (by omega) (fun j h1 h2=>(ex9.2 j (by omega)).trans (lo8 j h1 h2)) (m8.same (fun j hj=>ex9.2 j (by omega)) (ex9.2 mk (by omega))) tx9 md9)
   ·
    refine ⟨fun hc19=>?_,fun hc19=>?_⟩
    ·
     rw [w1]
     refine sme (A:=fun j=>A j∨j=N) m4 (by omega) (fun j hj=>hj.elim (fun h=>by have:=hA j h; omega) fun h=>by omega) (.inl hAm) fun O5 N5 td5 ys5 n5 ts ps s hN5 hO5 m5 g5 hl5 h35 hr5 hmd5=>?_
     have obN5:=obN4.same (hO5 N (by omega) (by omega))
     have lo5:∀ j,j<N→j≠mk→O5.get j=O.get j:=fun j h1 h2=>(hO5 j (by omega) h2).trans (lo4 j h1 h2)
     have hrA:∀ (j:Nat) (x:Ty) (p:Option Nat),ts[j]?=some x→ps[j]?=some p→Tra O5 N5 A x p:=fun j x p a b=>(hr5 j x p a b).imp fun j _ h=>.inl (.inl h)
     refine ot zbn ?_
     rw [w1]
     refine one (A:=AvS A s) m5 (by omega) (fun j hj=>hj.elim (fun h=>by have:=hA j h; omega) fun h=>by have:=g5.sid_lt h.1; omega) (.inl hAm) fun O6 N6 td6 ys6 n6 r q hN6 hO6 m6 tr6 md6=>?_
     have g6:=g5.same (O':=O6) (fun hs=>hO6 _ (g5.sid_lt hs).2 (by have:=(g5.sid_lt hs).1; omega)) (Nat.le_refl _) hN6
     have lo6:∀ j,j<N→j≠mk→O6.get j=O.get j:=fun j h1 h2=>(hO6 j (by omega) h2).trans (lo5 j h1 h2)
     have hr6:=fun (j:Nat) (x:Ty) (p:Option Nat) a b=>(hr5 j x p a b).same (O':=O6) (fun i h1 h2=>hO6 i h1 (fun h=>h2 (.inl (.inl (h▸hAm))))) hN6
     refine ot kI ?_
     refine zgO (mk:=A) (an:=an) ((g6.sv pEn).keep (fun _ _ _=>rfl) (Nat.zero_le _) (Nat.le_refl _)) hl5 (by omega) (fun j x p a b=>(hr6 j x p a b).imp fun j _ h=>.inl (.inl h)) (tr6.imp fun j _ h=>.inl h) (fun ha=>⟨fun x hx=>(by obtain ⟨_,_,_,_,_,_,_,_,_,_,q⟩:=hmd5 x hx; exact q ha),(by obtain ⟨_,_,_,_,_,_,_,_,_,_,q⟩:=md6; exact q ha)⟩) (Nat.le_refl _) (fun j h=>by have:=hA j h; omega) fun O8 N8 td8 t8 p8 e8 ex8 h8=>?_
     have nn8:=ex8.1
     refine ot wx ?_
     have lo8:∀ j,j<N→j≠mk→O8.get j=O.get j:=fun j h1 h2=>(ex8.2 j (by omega)).trans (lo6 j h1 h2)
     have m8:=m6.same (fun j hj=>ex8.2 j (by omega)) (ex8.2 mk (by omega))
     refine ku (M:=MadeT an) (MadeT.leaf (by decide) (by decide) (fun _=>by decide)) (fun h=>⟨(h8 h).1,(h8 h).2⟩) (fun j h=>by have:=hA j h; omega) fun O9 N9 td9 t9 p9 ex9 tx9 md9=>?_
     have nn9:=ex9.1
     exact ot qp (hK O9 N9 _ _ _ t9 p9 (by omega) (fun j h1 h2=>(ex9.2 j (by omega)).trans (lo8 j h1 h2)) (m8.same (fun j hj=>ex9.2 j (by omega)) (ex9.2 mk (by omega))) tx9 md9)
    ·
     refine ⟨fun hc20=>?_,fun hc20=>?_⟩
     ·
      rw [w1]
      refine sme (A:=fun j=>A j∨j=N) m4 (by omega) (fun j hj=>hj.elim (fun h=>by have:=hA j h; omega) fun h=>by omega) (.inl hAm) fun O5 N5 td5 ys5 n5 ts ps s hN5 hO5 m5 g5 hl5 h35 hr5 hmd5=>?_
      have obN5:=obN4.same (hO5 N (by omega) (by omega))
      have lo5:∀ j,j<N→j≠mk→O5.get j=O.get j:=fun j h1 h2=>(hO5 j (by omega) h2).trans (lo4 j h1 h2)
      have hrA:∀ (j:Nat) (x:Ty) (p:Option Nat),ts[j]?=some x→ps[j]?=some p→Tra O5 N5 A x p:=fun j x p a b=>(hr5 j x p a b).imp fun j _ h=>.inl (.inl h)
      refine ot zak ?_
      rw [w1]
      refine one (A:=AvS A s) m5 (by omega) (fun j hj=>hj.elim (fun h=>by have:=hA j h; omega) fun h=>by have:=g5.sid_lt h.1; omega) (.inl hAm) fun O6 N6 td6 ys6 n6 r q hN6 hO6 m6 tr6 md6=>?_
      have g6:=g5.same (O':=O6) (fun hs=>hO6 _ (g5.sid_lt hs).2 (by have:=(g5.sid_lt hs).1; omega)) (Nat.le_refl _) hN6
      have lo6:∀ j,j<N→j≠mk→O6.get j=O.get j:=fun j h1 h2=>(hO6 j (by omega) h2).trans (lo5 j h1 h2)
      have hr6:=fun (j:Nat) (x:Ty) (p:Option Nat) a b=>(hr5 j x p a b).same (O':=O6) (fun i h1 h2=>hO6 i h1 (fun h=>h2 (.inl (.inl (h▸hAm))))) hN6
      obtain ⟨O7,s1,OB,N7,e1,e2,g7,n7,f7,r7⟩:=zkW (A:=A) g6 (by omega) hl5 (by omega) (fun j x p a b=>(hr6 j x p a b).imp fun j _ h=>h.elim (fun h=>.inl (.inl h)) .inr) tr6 G
      have lo7:∀ j,j<N→j≠mk→OB.get j=O.get j:=fun j h1 h2=>(f7 j (by omega) (fun hs=>by have:=(g6.sid_lt hs).1; omega)).trans (lo6 j h1 h2)
      have m7:=m6.same (O':=OB) (fun j hj=>f7 j (by omega) (fun hs=>by have:=(g6.sid_lt hs).1; omega)) (f7 mk (by omega) (fun hs=>by have:=(g6.sid_lt hs).1; omega))
      refine ot vX ⟨_,_,_,_,e1,e2,?_⟩
      refine zgP (mk:=A) ((g7.sv pEn).keep (fun _ _ _=>rfl) (Nat.zero_le _) (Nat.le_refl _)) (by rw [List.length_append,List.length_append,hl5]; rfl) (by rw [List.length_append]; simp only [List.length_cons,List.length_nil]; omega) (fun j x p a b=>(r7 j x p a b).imp fun j _ h=>.inl h) (Nat.le_refl _) (fun j h=>by have:=hA j h; omega) fun O8 N8 td8 p8 ex8 tx8=>?_
      have nn8:=ex8.1
      refine ot wq ?_
      have lo8:∀ j,j<N→j≠mk→O8.get j=O.get j:=fun j h1 h2=>(ex8.2 j (by omega)).trans (lo7 j h1 h2)
      have m8:=m7.same (fun j hj=>ex8.2 j (by omega)) (ex8.2 mk (by omega))
      refine ku (M:=MadeT an) (MadeT.leaf (by decide) (by decide) (fun _=>by decide)) (fun h=>⟨tx8,zc5 h (fun ha x hx=>by rw [List.mem_append,List.mem_singleton] at hx; exact hx.elim (fun hx=>(by obtain ⟨_,_,_,_,_,_,_,_,_,_,q⟩:=hmd5 x hx; exact q ha)) (fun hx=>hx▸(by obtain ⟨_,_,_,_,_,_,_,_,_,_,q⟩:=md6; exact q ha)))⟩) (fun j h=>by have:=hA j h; omega) fun O9 N9 td9 t9 p9 ex9 tx9 md9=>?_
      have nn9:=ex9.1
      exact ot qe (hK O9 N9 _ _ _ t9 p9 (by omega) (fun j h1 h2=>(ex9.2 j (by omega)).trans (lo8 j h1 h2)) (m8.same (fun j hj=>ex9.2 j (by omega)) (ex9.2 mk (by omega))) tx9 md9)
     ·
      refine zgu m4 hmk (by omega) (A:=A) hA1 fun O8 N8 td8 ys8 t p hl8 hN8 hO8 m8 tx md=>?_
      exact ot zal (hK O8 N8 _ ys8 _ t p (by omega) (fun j h1 h2=>(hO8 j (by omega) h2).trans (lo4 j h1 h2)) m8 tx md)
end Go.Proofs.Ytcdigdplhlgcaaa.gx
end
section
set_option maxRecDepth 100000
set_option linter.unusedVariables false
set_option linter.unusedSectionVars false
set_option linter.unusedSimpArgs false
namespace Go.Proofs.Ytcdigdplhlgcaaa.gx
open Go Ev tp
section
variable (q:Nat) (crq0 k2:Int) (sa2 rp2:AV) (n j j2:Int) (mk:Nat) (prq0:AV) (crq1:Int) (prq1:AV) (z2:Int) (s1 s2 sn2 sl sl2:AV) (rest:List AFrame) (O:T AObj) (N:Nat) (G:T (T AV))
noncomputable def zpw:AM:=⟨⟨81,46,(tW (tW (tX (tY (.int .i64 j)) tZ) (.int .i64 n) (tY sl)) (.ptr q 0 0) (tX tZ (tY sl2))),   [.code (cd P 81 [1,1,1,0,1,0,0]),.inLoop (cd P 81 [1,1,1,0,1,0,0]),.inBlock 0,.code (cd P 81 [1,1,1,1])],[],.run,CallKind.normal,none⟩,rest,⟨O,N,G⟩⟩
noncomputable def zmY:AFrame:=⟨81,46,(tX (tX tZ (tX (tX tZ (tX (tY sl2) tZ)) tZ)) (tX (tX (tX tZ (tX (tY sl) tZ)) tZ) tZ)),   [.ops (rg P 81 [1,1,1,1,0]).toList ((rg P 81 [1,1,1,1,0]).toList.drop 2),.code (cd P 81 [1,1,1,1,1])],[],.run,CallKind.normal,none⟩
noncomputable def zfh:AFrame:=⟨81,46,(tX (tX (tX tZ (tX tZ (tX (tY prq0) tZ))) tZ) (tX (tX tZ (tX tZ (tX (tY (.int .i64 crq0)) tZ))) tZ)),   [.ops (rg P (81:FuncId) [1,1,1,1,0]).toList ((rg P (81:FuncId) [1,1,1,1,0]).toList.drop 5),.code (cd P (81:FuncId) [1,1,1,1,1])],[],.run,CallKind.normal,none⟩
noncomputable def Fnea:AFrame:=⟨40,133,(tW (tY (.ptr q 0 0)) (.ptr mk 0 0) (tW tZ (.int .i64 n) (tX (tY (.ptr mk 0 0)) tZ))),   [.ops (rg P 40 [1,0]).toList ((rg P 40 [1,0]).toList.drop 1),.code (cd P 40 [1,1])],[],.run,CallKind.normal,none⟩
noncomputable def zg8:AFrame:=⟨40,133,(tW (tY (.ptr q 0 0)) (.ptr mk 0 0) (tW tZ (.int .i64 n) (tX tZ (tY (.ptr mk 0 0))))),   [.ops (rg P 40 [1,1,0,1,0]).toList ((rg P 40 [1,1,0,1,0]).toList.drop 1),.code (cd P 40 [1,1,1])],[],.run,CallKind.normal,none⟩
noncomputable def Wneb:AM:=⟨⟨40,133,(tW (tW (tX (tY (.int .i64 j)) tZ) (.ptr q 0 0) tZ) (.ptr mk 0 0) (tY (.int .i64 n))),   [.code (cd P 40 [1,1,1])],[],.run,CallKind.normal,none⟩,rest,⟨O,N,G⟩⟩
noncomputable def zp6:AFrame:=⟨40,133,(tX (tX (tX tZ (tX (tY (.ptr mk 0 0)) tZ)) tZ) (tX tZ (tX (tX (tY (.ptr q 0 0)) tZ) tZ))),   [.ops (rg P 40 [1,1,1,0,1,0,0]).toList ((rg P 40 [1,1,1,0,1,0,0]).toList.drop 2),.code (cd P 40 [1,1,1,0,1,0,1]),.code (cd P 40 [1,1,1,1])],[],.run,CallKind.normal,none⟩
noncomputable def zmL:AFrame:=⟨40,133,(tX tZ (tX (tX tZ (tX tZ (tY (.ptr mk 0 0)))) tZ)),   [.ops (rg P 40 [1,1,1,1,0,1,0,0]).toList ((rg P 40 [1,1,1,1,0,1,0,0]).toList.drop 1),.code (cd P 40 [1,1,1,0,1,0,1]),.code (cd P 40 [1,1,1,1,1])],[],.run,CallKind.normal,none⟩
noncomputable def zha:AFrame:=⟨40,133,(tW (tW (tX (tY (.int .i64 j)) tZ) (.ptr q 0 0) (tX (tX tZ (tX (tY (.ptr mk 0 0)) tZ)) tZ)) (.ptr mk 0 0) (tW tZ (.int .i64 n) (tX tZ (tX tZ (tX (tY (.int .i64 z2)) tZ))))),   [.ops (rg P 40 [1,1,1,1,1,1,0]).toList ((rg P 40 [1,1,1,1,1,1,0]).toList.drop 6),.code (cd P 40 [1,1,1,1,1,1,1])],[],.run,CallKind.normal,none⟩
noncomputable def zhW:AFrame:=⟨40,133,(tX (tX tZ (tX tZ (tX (tY (.slc N 0 0 2 2)) tZ))) tZ),   [.ops (rg P (40:FuncId) [1,1,1,0,1,0,0]).toList ((rg P (40:FuncId) [1,1,1,0,1,0,0]).toList.drop 4),.code (cd P (40:FuncId) [1,1,1,0,1,0,1]),.code (cd P (40:FuncId) [1,1,1,1])],[],.run,CallKind.normal,none⟩
noncomputable def kz:AFrame:=⟨40,133,(tX (tX tZ (tX (tX tZ (tX tZ (tY (.ptr q 0 0)))) tZ)) (tX tZ (tX (tX tZ (tX tZ (tY (.int .i64 crq0)))) tZ))),   [.ops (rg P 40 [1,1,1,1,1,1,1,0,1,0,0]).toList ((rg P 40 [1,1,1,1,1,1,1,0,1,0,0]).toList.drop 2),.code (cd P 39 [1,1,0,1,0,1]),.code (cd P 40 [1,1,1,1,1,1,1,1])],[],.run,CallKind.normal,none⟩
noncomputable def Wnee:AM:=⟨⟨40,133,(tW (tW (tX (tY (.int .i64 j)) tZ) (.ptr q 0 0) tZ) (.ptr mk 0 0) (tW (tX (tY (.int .i64 j2)) tZ) (.int .i64 n) tZ)),   [.code (cd P 40 [1,1,1,1,1,1,1,1])],[],.run,CallKind.normal,none⟩,rest,⟨O,N,G⟩⟩
noncomputable def zbo:AFrame:=⟨40,133,(tX (tX (tX (tX tZ (tY prq1)) tZ) tZ) (tX (tX (tX tZ (tY (.int .i64 crq1))) tZ) tZ)),   [.ops (rg P (40:FuncId) [1,1,1,0,1,0,0]).toList ((rg P (40:FuncId) [1,1,1,0,1,0,0]).toList.drop 7),.code (cd P (40:FuncId) [1,1,1,0,1,0,1]),.code (cd P (40:FuncId) [1,1,1,1])],[],.run,CallKind.normal,none⟩
noncomputable def znu:AFrame:=⟨40,133,(tW (tW (tX (tW (tX (tX (tY (.ptr q 0 0)) tZ) (tX (tY (.int .i64 (IntKind.i64.wrap (n - (1:Int))))) tZ)) (.int .i64 j) (tX (tX (tY (.ptr q 0 3)) tZ) tZ)) (tX (tX (tX (tY (.bool (k2==(8:Int)))) tZ) tZ) (tX (tX (tY (.ptr q 0 0)) tZ) tZ))) (.ptr q 0 0) (tX (tX (tX (tX (tY (.ptr q 0 0)) tZ) tZ) (tX (tX (tY (.ptr mk 0 0)) tZ) tZ)) (tX (tX (tX (tY (.ptr q 0 0)) tZ) tZ) (tX (tX (tY rp2) tZ) (tY (.bool (j==(4:Int)))))))) (.ptr mk 0 0) (tW (tX (tW (tX (tX (tY (.ptr q 0 0)) tZ) tZ) (.int .i64 j2) (tX (tX (tY sa2) tZ) tZ)) (tX (tX (tX (tY (.bool true)) tZ) tZ) (tX (tX (tY (.ptr q 0 4)) tZ) (tY (.int .i64 j))))) (.int .i64 n) (tX (tX (tX (tX (tY (.int .i64 k2)) tZ) tZ) (tX (tX (tY (.ptr q 0 0)) tZ) tZ)) (tX (tX (tX (tY (.ptr q 0 0)) tZ) tZ) (tX (tX (tY (.int .i64 n)) tZ) (tY (.bool true))))))),   [.drw (rg P 40 [1,1,1,1,1,1,1,1,0,1,0,0]) [11,12,13,14,15,16] [10,9,8,7,6,5,4,3,2,1,0],.code (cd P 40 [1,1,1,0,1,0,1]),.code (cd P 40 [1,1,1,1,1,1,1,1,1])],[],.run,CallKind.normal,none⟩
noncomputable def Wnec:AM:=⟨⟨40,133,(tW (tY (.ptr q 0 0)) (.ptr mk 0 0) (tW (tX (tY (.int .i64 j2)) tZ) (.int .i64 n) tZ)),   [.code (cd P 40 [1,1,1,1,1,1,1,1,1])],[],.run,CallKind.normal,none⟩,rest,⟨O,N,G⟩⟩
noncomputable def zek:AFrame:=⟨40,133,(tW (tW (tX (tW (tX (tX (tY (.ptr q 0 0)) tZ) (tX (tY (.int .i64 (IntKind.i64.wrap (n - (1:Int))))) tZ)) (.int .i64 j) (tX (tX (tY (.ptr q 0 3)) tZ) tZ)) (tX (tX (tX (tY (.bool (k2==(8:Int)))) tZ) tZ) (tX (tX (tY (.ptr q 0 0)) tZ) tZ))) (.ptr q 0 0) (tX (tX (tX (tX (tY (.ptr q 0 0)) tZ) tZ) (tX (tX (tY (.ptr mk 0 0)) tZ) tZ)) (tX (tX (tX (tY (.ptr q 0 0)) tZ) tZ) (tX (tX (tY rp2) tZ) (tY (.bool (j==(4:Int)))))))) (.ptr mk 0 0) (tW (tX (tW (tX (tX (tY (.ptr q 0 0)) tZ) (tX (tY prq0) tZ)) (.int .i64 j2) (tX (tX (tY sa2) tZ) tZ)) (tX (tX (tX (tY (.bool true)) tZ) tZ) (tX (tX (tY (.ptr q 0 4)) tZ) (tY (.int .i64 j))))) (.int .i64 n) (tX (tX (tX (tX (tY (.int .i64 k2)) tZ) tZ) (tX (tX (tY (.ptr q 0 0)) tZ) tZ)) (tX (tX (tX (tY (.ptr q 0 0)) tZ) tZ) (tX (tX (tY (.int .i64 n)) tZ) (tY (.bool true))))))),   [.drw (rg P (40:FuncId) [1,1,1,1,1,1,1,1,0,1,0,0]) [12,13,14,15,16] [11,10,9,8,7,6,5,4,3,2,1,0],.code (cd P (40:FuncId) [1,1,1,0,1,0,1]),.code (cd P (40:FuncId) [1,1,1,1,1,1,1,1,1])],[],.run,CallKind.normal,none⟩
noncomputable def jS:AFrame:=⟨40,133,(tW (tW (tX (tW (tX (tX (tY (.ptr q 0 0)) tZ) (tX (tY (.int .i64 (IntKind.i64.wrap (n - (1:Int))))) tZ)) (.int .i64 j) (tX (tX (tY (.ptr q 0 3)) tZ) tZ)) (tX (tX (tX (tY (.bool (k2==(8:Int)))) tZ) (tX (tY (.int .i64 crq1)) tZ)) (tX (tX (tY (.ptr q 0 0)) tZ) tZ))) (.ptr q 0 0) (tX (tX (tX (tX (tY (.ptr q 0 0)) tZ) (tX (tY (.tup [prq1,.int .i64 crq1])) tZ)) (tX (tX (tY (.ptr mk 0 0)) tZ) tZ)) (tX (tX (tX (tY (.ptr q 0 0)) tZ) tZ) (tX (tX (tY rp2) tZ) (tY (.bool (j==(4:Int)))))))) (.ptr mk 0 0) (tW (tX (tW (tX (tX (tY (.ptr q 0 0)) tZ) (tX (tY prq0) tZ)) (.int .i64 j2) (tX (tX (tY sa2) tZ) tZ)) (tX (tX (tX (tY (.bool true)) tZ) tZ) (tX (tX (tY (.ptr q 0 4)) tZ) (tY (.int .i64 j))))) (.int .i64 n) (tX (tX (tX (tX (tY (.int .i64 k2)) tZ) (tX (tY prq1) tZ)) (tX (tX (tY (.ptr q 0 0)) tZ) tZ)) (tX (tX (tX (tY (.ptr q 0 0)) tZ) tZ) (tX (tX (tY (.int .i64 n)) tZ) (tY (.bool true))))))),   [.drw (rg P (40:FuncId) [1,1,1,1,1,1,1,1,0,1,0,0]) [15,16] [14,13,12,11,10,9,8,7,6,5,4,3,2,1,0],.code (cd P (40:FuncId) [1,1,1,0,1,0,1]),.code (cd P (40:FuncId) [1,1,1,1,1,1,1,1,1])],[],.run,CallKind.normal,none⟩
noncomputable def Fnec:AFrame:=⟨40,133,(tX (tW (tX tZ (tX (tX (tX tZ (tY (.int .i64 (IntKind.i64.wrap (n - (1:Int)))))) tZ) (tX tZ (tX (tY s1) tZ)))) (.ptr q 0 0) (tX (tW (tX (tX tZ (tY s2)) tZ) s1 tZ) (tX tZ (tX tZ (tX (tY (.ptr mk 0 0)) tZ))))) (tX (tX tZ (tX tZ (tX tZ (tX (tY (.int .i64 j2)) tZ)))) tZ)),   [.ops (rg P 40 [1,1,1,1,1,1,1,1,1,1,1,0]).toList ((rg P 40 [1,1,1,1,1,1,1,1,1,1,1,0]).toList.drop 9),.code (cd P 40 [1,1,1,1,1,1,1,1,1,1,1,1])],[],.run,CallKind.normal,none⟩
noncomputable def Wned:AM:=⟨⟨40,133,(tX (tW tZ (.ptr q 0 0) (tX (tY sl) tZ)) tZ),   [.code (cd P (40:FuncId) [1,1,1,1,1,1,1,1,1,1,1,1])],[],.run,CallKind.normal,none⟩,rest,⟨O,N,G⟩⟩
noncomputable def zqw:AFrame:=⟨40,133,(tX (tX (tX (tX (tX tZ (tX tZ (tY sn2))) tZ) tZ) tZ) (tX (tX (tX (tX tZ (tX tZ (tY sl))) tZ) tZ) tZ)),   [.ops (rg P 40 [1,1,1,1,1,1,1,1,1,1,1,1,0,1,0,1,0,0]).toList ((rg P 40 [1,1,1,1,1,1,1,1,1,1,1,1,0,1,0,1,0,0]).toList.drop 5),.code (cd P 40 [1,1,1,0,1,0,1]),.inBlock 0,.code (cd P 40 [1,1,1,1,1,1,1,1,1,1,1,1,1])],[],.run,CallKind.normal,none⟩
noncomputable def znV:AFrame:=⟨40,133,(tX (tX (tX (tX tZ (tX tZ (tX tZ (tY sl)))) (tX tZ (tX tZ (tX tZ (tY rp2))))) tZ) tZ),   [.ops (rg P 40 [1,1,1,1,1,1,1,1,1,1,1,1,0,1,0,1,1,1,0,0]).toList ((rg P 40 [1,1,1,1,1,1,1,1,1,1,1,1,0,1,0,1,1,1,0,0]).toList.drop 5),.code (cd P 40 [1,1,1,0,1,0,1]),.inBlock 0,.code (cd P 40 [1,1,1,1,1,1,1,1,1,1,1,1,1])],[],.run,CallKind.normal,none⟩
noncomputable def znS:AFrame:=⟨40,133,(tX tZ (tX (tX (tX (tX (tX (tX (tY sl) tZ) tZ) tZ) tZ) tZ) tZ)),   [.ops (rg P 40 [1,1,1,1,1,1,1,1,1,1,1,1,1,0]).toList ((rg P 40 [1,1,1,1,1,1,1,1,1,1,1,1,1,0]).toList.drop 1),.code (cd P 40 [1,1,1,0,1,0,1])],[],.run,CallKind.normal,none⟩
noncomputable def zhR:AFrame:=⟨40,133,(tX (tX (tX tZ (tX (tX tZ (tX tZ (tY (.int .i64 crq0)))) tZ)) tZ) (tX tZ (tX (tX (tX tZ (tX tZ (tY prq0))) tZ) tZ))),   [.ops (rg P (40:FuncId) [1,1,1,1,1,1,1,1,1,1,1,1,0,1,0,1,0,0]).toList ((rg P (40:FuncId) [1,1,1,1,1,1,1,1,1,1,1,1,0,1,0,1,0,0]).toList.drop 8),.code (cd P (40:FuncId) [1,1,1,0,1,0,1]),.inBlock 0,.code (cd P (40:FuncId) [1,1,1,1,1,1,1,1,1,1,1,1,1])],[],.run,CallKind.normal,none⟩
noncomputable def zea:AFrame:=⟨40,133,(tX (tX tZ (tX tZ (tX tZ (tX tZ (tX tZ (tY prq0)))))) (tX tZ (tX tZ (tX tZ (tX tZ (tX tZ (tY (.int .i64 crq0)))))))),   [.ops (rg P (40:FuncId) [1,1,1,1,1,1,1,1,1,1,1,1,0,1,0,1,1,1,0,0]).toList ((rg P (40:FuncId) [1,1,1,1,1,1,1,1,1,1,1,1,0,1,0,1,1,1,0,0]).toList.drop 8),.code (cd P (40:FuncId) [1,1,1,0,1,0,1]),.inBlock 0,.code (cd P (40:FuncId) [1,1,1,1,1,1,1,1,1,1,1,1,1])],[],.run,CallKind.normal,none⟩
noncomputable def zeN:AFrame:=⟨40,133,(tX (tX (tX tZ (tX (tX (tX (tX (tY (.int .i64 crq0)) tZ) tZ) tZ) tZ)) tZ) (tX tZ (tX (tX (tX (tX (tX (tY prq0) tZ) tZ) tZ) tZ) tZ))),   [.ops (rg P (40:FuncId) [1,1,1,1,1,1,1,1,1,1,1,1,1,0]).toList ((rg P (40:FuncId) [1,1,1,1,1,1,1,1,1,1,1,1,1,0]).toList.drop 4),.code (cd P (40:FuncId) [1,1,1,0,1,0,1])],[],.run,CallKind.normal,none⟩
end
section
variable {R:AV→AHeap→Prop} {keep N q mk Nc:Nat} {f0:FuncId} {rest:List AFrame} {O:T AObj} {n j crq0 crq1 z2c k2 j2:Int} {G:T (T AV)} {K:AM→Prop} {sl sl2 sn2 sa2 prq0 prq1 prq2 rp2 s1c s2c:AV} {td:List AItem}
theorem t_wit:(K (zpw q n 0 (.nils 0 0) (.nils 0 0) rest O N G))=OT f0 R keep K (.seq [.run 19,.keep [0,1,5,6,7]] .fin) ((AM.mk (enF 81 [.ptr q 0 0,.int .i64 n]) rest ⟨O,N,G⟩)):=by kernel_rfl
theorem znx:(∃ (z1:Int),(lC O N G q 2 sn2)∧(lN O N G 32 sn2 z1)∧((decide (j<z1))=true→((((j != n))=true→(∃ (i1:Nat) (i2:Nat) (i3:Nat) (l1:List UInt8) (O1:T AObj) (s1:AV) (O2:T AObj) (N1:Nat) (i4:Nat) (i5:Nat) (i6:Nat) (s2:AV) (O3:T AObj) (s3:AV) (O4:T AObj) (N2:Nat),(lC O N G q 2 sn2)∧(iX 32 sn2 j i1 i2 i3)∧(lR O N G i1 i2 i3 (.str l1))∧(zd P (⟨O,N,G⟩) (32) (1) ([(0,.str l1)])=(some (.slc N 0 0 1 1,⟨O1,N+1,G⟩)))∧(zf P (⟨O1,N+1,G⟩) (Builtin.append) ((some 32)) ((some 32)) ([sl,.slc N 0 0 1 1])=(some (.val s1 ⟨O2,N1,G⟩)))∧(lC O2 N1 G q 3 sa2)∧(iX 33 sa2 j i4 i5 i6)∧(lR O2 N1 G i4 i5 i6 s2)∧(zd P (⟨O2,N1,G⟩) (33) (1) ([(0,s2)])=(some (.slc N1 0 0 1 1,⟨O3,N1+1,G⟩)))∧(zf P (⟨O3,N1+1,G⟩) (Builtin.append) ((some 33)) ((some 33)) ([sl2,.slc N1 0 0 1 1])=(some (.val s3 ⟨O4,N2,G⟩)))∧K (zpw q n (IntKind.i64.wrap (j+(1:Int))) s1 s3 rest O4 N2 G)))∧(((j != n))=false→(K (zpw q n (IntKind.i64.wrap (j+(1:Int))) sl sl2 rest O N G)))))∧((decide (j<z1))=false→(K (AM.mk (enF 23 [sl,sl2]) ((zmY sl sl2)::rest) ⟨O,N,G⟩))))=OT f0 R keep K (.ex fun z1:Int=>(.seq [.run 7,.hop (sn2) O,.hopn (.int .i64 z1) O (N),.run 2] (.fork 14 (.seq [.run 10] (.fork 19 (.ex fun i1:Nat=>(.ex fun i2:Nat=>(.ex fun i3:Nat=>(.ex fun l1:List UInt8=>(.ex fun O1:T AObj=>(.ex fun s1:AV=>(.ex fun O2:T AObj=>(.ex fun N1:Nat=>(.ex fun i4:Nat=>(.ex fun i5:Nat=>(.ex fun i6:Nat=>(.ex fun s2:AV=>(.ex fun O3:T AObj=>(.ex fun s3:AV=>(.ex fun O4:T AObj=>(.ex fun N2:Nat=>(.seq [.run 7,.hop (sn2) O,.run 1,.hopn (.ptr i1 i2 i3) O (N),.hop (.str l1) O,.hopn (.slc N 0 0 1 1) O1 (N+1),.hopn (s1) O2 (N1),.run 7,.hop (sa2) O2,.run 1,.hopn (.ptr i4 i5 i6) O2 (N1),.hop (s2) O2,.hopn (.slc N1 0 0 1 1) O3 (N1+1),.hopn (s3) O4 (N2),.run 9,.keep [0,1,5,6,7]] .fin))))))))))))))))) (.seq [.run 9,.keep [0,1,5,6,7]] .fin))) (.seq [.run 6,.keep [40,41],.run 1] .fin)))) ((zpw q n j sl sl2 rest O N G)):=by kernel_rfl
theorem ziU:(K (AM.mk (enF 80 [prq0,.int .i64 crq0]) ((zfh crq0 prq0)::rest) ⟨O,N,G⟩))=OT f0 R keep K (.seq [.run 3,.keep [43,44],.run 1] .fin) ((AM.mk (RF 23 135 (tX (tX tZ (tY (.int .i64 crq0))) (tX (tY prq0) tZ)) td) ((zmY sl sl2)::rest) ⟨O,N,G⟩)):=by kernel_rfl
theorem zdb:(K (AM.mk (RF 81 46 (tX tZ (tX (tY prq1) tZ)) [.code (cd P (81:FuncId) [1,1,1,1,1])]) rest ⟨O,N,G⟩))=OT f0 R keep K (.seq [.run 4,.keep [4]] .fin) ((AM.mk (RF 80 10 (tX tZ (tX (tY prq1) tZ)) td) ((zfh crq0 prq0)::rest) ⟨O,N,G⟩)):=by kernel_rfl
theorem t_nea:(K (AM.mk (enF 73 [.ptr mk 0 0,.int .i64 6]) ((Fnea q n mk)::rest) ⟨O,N,G⟩))=OT f0 R keep K (.seq [.run 7,.keep [0,1,2,10],.run 1] .fin) ((AM.mk (enF 40 [.ptr mk 0 0,.ptr q 0 0,.int .i64 n]) rest ⟨O,N,G⟩)):=by kernel_rfl
theorem zlZ:(((decide (n<(1:Int)))=true→(K (AM.mk (enF 73 [.ptr mk 0 0,.int .i64 2]) ((zg8 q n mk)::rest) ⟨O,N,G⟩)))∧((decide (n<(1:Int)))=false→(K (Wneb q n crq0 mk rest O N G))))=OT f0 R keep K (.seq [.run 9] (.fork 13 (.seq [.run 3,.keep [0,1,2,14],.run 1] .fin) (.seq [.run 2,.keep [0,1,2,7]] .fin))) ((AM.mk (RF 73 30 (tX tZ (tX (tY (.int .i64 crq0)) tZ)) td) ((Fnea q n mk)::rest) ⟨O,N,G⟩)):=by kernel_rfl
theorem zff:(K (Wneb q n crq1 mk rest O N G))=OT f0 R keep K (.seq [.run 3,.keep [0,1,2,7]] .fin) ((AM.mk (RF 73 30 (tX tZ (tX (tY (.int .i64 crq1)) tZ)) td) ((zg8 q n mk)::rest) ⟨O,N,G⟩)):=by kernel_rfl
theorem t_neb:((((j==(1:Int)))=true→(K (AM.mk (enF 39 [.ptr mk 0 0,.int .i64 1]) ((zp6 q mk)::rest) ⟨O,N,G⟩)))∧(((j==(1:Int)))=false→((((j==(2:Int)))=true→(K (AM.mk (enF 39 [.ptr mk 0 0,.int .i64 2]) ((zmL mk)::rest) ⟨O,N,G⟩)))∧(((j==(2:Int)))=false→((((j==(0:Int)))=true→(K (AM.mk (RF 40 133 (tX tZ (tX tZ (tY (.ptr q 0 0)))) [.code (cd P 40 [1,1,1,0,1,0,1]),.code (cd P 40 [1,1,1,1,1,1])]) rest ⟨O,N,G⟩)))∧(((j==(0:Int)))=false→(∃ (z1:Int),(lC O N G q 3 sa2)∧(lN O N G 33 sa2 z1)∧(((z1==(0:Int)))=true→(K (AM.mk (RF 40 133 (tX tZ (tX tZ (tY (.ptr q 0 0)))) [.code (cd P 40 [1,1,1,0,1,0,1]),.code (cd P 40 [1,1,1,1,1,1])]) rest ⟨O,N,G⟩)))∧(((z1==(0:Int)))=false→(∃ (z2:Int),(lC O N G q 3 sa2)∧(lN O N G 33 sa2 z2)∧K (AM.mk (enF 73 [.ptr mk 0 0,.int .i64 z2]) ((zha q n j mk z2)::rest) ⟨O,N,G⟩))))))))))=OT f0 R keep K (.seq [.run 6] (.fork 17 (.seq [.run 5,.keep [18,19],.run 1] .fin) (.seq [.run 8] (.fork 27 (.seq [.run 4,.keep [28],.run 1] .fin) (.seq [.run 8] (.fork 32 (.seq [.run 15,.keep [6]] .fin) (.ex fun z1:Int=>(.seq [.run 3,.hop (sa2) O,.hopn (.int .i64 z1) O (N),.run 3] (.fork 39 (.seq [.run 7,.keep [6]] .fin) (.ex fun z2:Int=>(.seq [.run 8,.hop (sa2) O,.hopn (.int .i64 z2) O (N),.keep [0,1,2,7,41,46],.run 1] .fin))))))))))) ((Wneb q n j mk rest O N G)):=by kernel_rfl
theorem zln:(∃ (O1:T AObj),(zd P (⟨O,N,G⟩) (33) (2) ([(0,.ptr q 0 0),(1,prq0)])=(some (.slc N 0 0 2 2,⟨O1,N+1,G⟩)))∧K (AM.mk (enF 26 [.slc N 0 0 2 2]) ((zhW N)::rest) ⟨O1,N+1,G⟩))=OT f0 R keep K (.ex fun O1:T AObj=>(.seq [.run 1,.hopn (.slc N 0 0 2 2) O1 (N+1),.keep [21],.run 1] .fin)) ((AM.mk (RF 39 78 (tX tZ (tX (tY prq0) tZ)) td) ((zp6 q mk)::rest) ⟨O,N,G⟩)):=by kernel_rfl
theorem zfo:(K (AM.mk (enF 80 [prq1,.int .i64 crq1]) ((zbo crq1 prq1)::rest) ⟨O,N,G⟩))=OT f0 R keep K (.seq [.run 3,.keep [23,24],.run 1] .fin) ((AM.mk (RF 26 129 (tX (tX (tY (.int .i64 crq1)) tZ) (tY prq1)) td) ((zhW Nc)::rest) ⟨O,N,G⟩)):=by kernel_rfl
theorem zbd:(K (AM.mk (RF 40 133 (tX tZ (tX tZ (tY prq2))) [.code (cd P (40:FuncId) [1,1,1,0,1,0,1]),.code (cd P (40:FuncId) [1,1,1,1])]) rest ⟨O,N,G⟩))=OT f0 R keep K (.seq [.run 4,.keep [6]] .fin) ((AM.mk (RF 80 10 (tX tZ (tX (tY prq2) tZ)) td) ((zbo crq1 prq1)::rest) ⟨O,N,G⟩)):=by kernel_rfl
theorem zit:(K (AM.mk (RF 40 133 (tX tZ (tX tZ (tY prq0))) [.code (cd P (40:FuncId) [1,1,1,0,1,0,1]),.code (cd P (40:FuncId) [1,1,1,1,1])]) rest ⟨O,N,G⟩))=OT f0 R keep K (.seq [.run 4,.keep [6]] .fin) ((AM.mk (RF 39 78 (tX tZ (tX (tY prq0) tZ)) td) ((zmL mk)::rest) ⟨O,N,G⟩)):=by kernel_rfl
theorem zeU:((((j==(3:Int)))=true→((lC O N G q 0 (.int .i64 k2))∧(((k2==(7:Int)))=true→(K (AM.mk (enF 81 [.ptr q 0 0,.int .i64 crq0]) ((kz q crq0)::rest) ⟨O,N,G⟩)))∧(((k2==(7:Int)))=false→(K (Wnee q n j crq0 mk rest O N G)))))∧(((j==(3:Int)))=false→(K (Wnee q n j crq0 mk rest O N G))))=OT f0 R keep K (.seq [.run 9] (.fork 50 (.seq [.run 3,.hop (.int .i64 k2) O,.run 3] (.fork 56 (.seq [.run 5,.keep [57,58],.run 1] .fin) (.seq [.run 2,.keep [0,1,2,7,8]] .fin))) (.seq [.run 9,.keep [0,1,2,7,8]] .fin))) ((AM.mk (RF 73 30 (tX tZ (tX (tY (.int .i64 crq0)) tZ)) td) ((zha q n j mk z2c)::rest) ⟨O,N,G⟩)):=by kernel_rfl
theorem jJ:(K (AM.mk (RF 40 133 (tX tZ (tX tZ (tY prq1))) [.code (cd P (39:FuncId) [1,1,0,1,0,1]),.code (cd P (40:FuncId) [1,1,1,1,1,1,1,1])]) rest ⟨O,N,G⟩))=OT f0 R keep K (.seq [.run 4,.keep [6]] .fin) ((AM.mk (RF 81 46 (tX tZ (tX (tY prq1) tZ)) td) ((kz q crq0)::rest) ⟨O,N,G⟩)):=by kernel_rfl
theorem t_nee:((((j==(4:Int)))=true→((lC O N G q 0 (.int .i64 k2))∧(((k2==(8:Int)))=true→((lC O N G q 3 sa2)∧(lC O N G q 4 rp2)∧K (AM.mk (enF 40 [.ptr mk 0 0,rp2,.int .i64 (IntKind.i64.wrap (n - (1:Int)))]) ((znu q k2 sa2 rp2 n j j2 mk)::rest) ⟨O,N,G⟩)))∧(((k2==(8:Int)))=false→(K (Wnec q n j2 mk rest O N G)))))∧(((j==(4:Int)))=false→(K (Wnec q n j2 mk rest O N G))))=OT f0 R keep K (.seq [.run 6] (.fork 62 (.seq [.run 3,.hop (.int .i64 k2) O,.run 3] (.fork 68 (.seq [.run 6,.hop (sa2) O,.run 4,.hop (rp2) O,.run 3] .fin) (.seq [.run 2,.keep [0,1,2,8]] .fin))) (.seq [.run 9,.keep [0,1,2,8]] .fin))) ((Wnee q n j j2 mk rest O N G)):=by kernel_rfl
theorem zje:((True)∧(lC O N G q 3 sa2)∧(okD 300 sa2=true)∧K (AM.mk (enF 28 [sa2,prq0]) ((zek q k2 sa2 rp2 n j j2 mk prq0)::rest) ⟨O,N,G⟩))=OT f0 R keep K (.seq [.hret [.nilp],.run 1] .fin) ((AM.mk (RF 40 133 (tX tZ (tX tZ (tY prq0))) td) ((znu q k2 sa2 rp2 n j j2 mk)::rest) ⟨O,N,G⟩)):=by kernel_rfl
theorem zcT:(K (AM.mk (enF 80 [prq1,.int .i64 crq1]) ((jS q k2 sa2 rp2 n j j2 mk prq0 crq1 prq1)::rest) ⟨O,N,G⟩))=OT f0 R keep K (.seq [.run 4] .fin) ((AM.mk (RF 28 31 (tX (tX tZ (tY (.int .i64 crq1))) (tX (tY prq1) tZ)) td) ((zek q k2 sa2 rp2 n j j2 mk prq0)::rest) ⟨O,N,G⟩)):=by kernel_rfl
theorem zah:(K (AM.mk (RF 40 133 (tX tZ (tX tZ (tY prq2))) [.code (cd P (40:FuncId) [1,1,1,0,1,0,1]),.code (cd P (40:FuncId) [1,1,1,1,1,1,1,1,1])]) rest ⟨O,N,G⟩))=OT f0 R keep K (.seq [.run 4,.keep [6]] .fin) ((AM.mk (RF 80 10 (tX tZ (tX (tY prq2) tZ)) td) ((jS q k2 sa2 rp2 n j j2 mk prq0 crq1 prq1)::rest) ⟨O,N,G⟩)):=by kernel_rfl
theorem t_nec:(∃ (s1:AV) (O1:T AObj) (N1:Nat) (i1:Nat) (i2:Nat) (i3:Nat) (s2:AV),(lC O N G q 3 sa2)∧(zf P (⟨O,N,G⟩) (Builtin.append) ((some 33)) ((some 33)) ([.nils 0 0,sa2])=(some (.val s1 ⟨O1,N1,G⟩)))∧(iX 33 s1 j2 i1 i2 i3)∧(lR O1 N1 G i1 i2 i3 s2)∧K (AM.mk (enF 40 [.ptr mk 0 0,s2,.int .i64 (IntKind.i64.wrap (n - (1:Int)))]) ((Fnec q n j2 mk s1 s2)::rest) ⟨O1,N1,G⟩))=OT f0 R keep K (.ex fun s1:AV=>(.ex fun O1:T AObj=>(.ex fun N1:Nat=>(.ex fun i1:Nat=>(.ex fun i2:Nat=>(.ex fun i3:Nat=>(.ex fun s2:AV=>(.seq [.run 10,.hop (sa2) O,.hopn (s1) O1 (N1),.run 9,.hopn (.ptr i1 i2 i3) O1 (N1),.hop (s2) O1,.run 2,.keep [1,9,91,92,93,97,99],.run 1] .fin)))))))) ((Wnec q n j2 mk rest O N G)):=by kernel_rfl
theorem zmz:(∃ (i1:Nat) (i2:Nat) (i3:Nat) (O1:T AObj),(iX 33 s1c j2 i1 i2 i3)∧(prq0.cells.length.beq (1)=true∧zc (⟨O,N,G⟩:AHeap) i1 i2 i3 prq0.cells=some (⟨O1,N,G⟩:AHeap))∧K (Wned q s1c rest O1 N G))=OT f0 R keep K (.ex fun i1:Nat=>(.ex fun i2:Nat=>(.ex fun i3:Nat=>(.ex fun O1:T AObj=>(.seq [.run 1,.hopn (.ptr i1 i2 i3) O (N),.hopn (.nilp) O1 (N),.run 1,.keep [1,9]] .fin))))) ((AM.mk (RF 40 133 (tX tZ (tX tZ (tY prq0))) td) ((Fnec q n j2 mk s1c s2c)::rest) ⟨O,N,G⟩)):=by kernel_rfl
theorem t_ned:((lC O N G q 0 (.int .i64 k2))∧(((k2==(7:Int)))=true→((lC O N G q 2 sn2)∧K (AM.mk (enF 23 [sn2,sl]) ((zqw sn2 sl)::rest) ⟨O,N,G⟩)))∧(((k2==(7:Int)))=false→((((k2==(8:Int)))=true→((lC O N G q 4 rp2)∧K (AM.mk (enF 28 [sl,rp2]) ((znV rp2 sl)::rest) ⟨O,N,G⟩)))∧(((k2==(8:Int)))=false→(K (AM.mk (enF 26 [sl]) ((znS sl)::rest) ⟨O,N,G⟩))))))=OT f0 R keep K (.seq [.run 6,.hop (.int .i64 k2) O,.run 7] (.fork 106 (.seq [.run 6,.hop (sn2) O,.run 1,.keep [111,112],.run 1] .fin) (.seq [.run 6] (.fork 117 (.seq [.run 7,.hop (rp2) O,.keep [119,123],.run 1] .fin) (.seq [.run 6,.keep [128],.run 1] .fin))))) ((Wned q sl rest O N G)):=by kernel_rfl
theorem zkY:(K (AM.mk (enF 80 [prq0,.int .i64 crq0]) ((zhR crq0 prq0)::rest) ⟨O,N,G⟩))=OT f0 R keep K (.seq [.run 3,.keep [114,115],.run 1] .fin) ((AM.mk (RF 23 135 (tX (tX tZ (tY (.int .i64 crq0))) (tX (tY prq0) tZ)) td) ((zqw sn2 sl)::rest) ⟨O,N,G⟩)):=by kernel_rfl
theorem zfs:(K (AM.mk (RF 40 133 (tX tZ (tX tZ (tY prq1))) [.code (cd P (40:FuncId) [1,1,1,0,1,0,1]),.inBlock 0,.code (cd P (40:FuncId) [1,1,1,1,1,1,1,1,1,1,1,1,1])]) rest ⟨O,N,G⟩))=OT f0 R keep K (.seq [.run 4,.keep [6]] .fin) ((AM.mk (RF 80 10 (tX tZ (tX (tY prq1) tZ)) td) ((zhR crq0 prq0)::rest) ⟨O,N,G⟩)):=by kernel_rfl
theorem zii:(K (AM.mk (enF 80 [prq0,.int .i64 crq0]) ((zea crq0 prq0)::rest) ⟨O,N,G⟩))=OT f0 R keep K (.seq [.run 3,.keep [125,126],.run 1] .fin) ((AM.mk (RF 28 31 (tX (tX tZ (tY (.int .i64 crq0))) (tX (tY prq0) tZ)) td) ((znV rp2 sl)::rest) ⟨O,N,G⟩)):=by kernel_rfl
theorem zc6:(K (AM.mk (RF 40 133 (tX tZ (tX tZ (tY prq1))) [.code (cd P (40:FuncId) [1,1,1,0,1,0,1]),.inBlock 0,.code (cd P (40:FuncId) [1,1,1,1,1,1,1,1,1,1,1,1,1])]) rest ⟨O,N,G⟩))=OT f0 R keep K (.seq [.run 4,.keep [6]] .fin) ((AM.mk (RF 80 10 (tX tZ (tX (tY prq1) tZ)) td) ((zea crq0 prq0)::rest) ⟨O,N,G⟩)):=by kernel_rfl
theorem ziH:(K (AM.mk (enF 80 [prq0,.int .i64 crq0]) ((zeN crq0 prq0)::rest) ⟨O,N,G⟩))=OT f0 R keep K (.seq [.run 3,.keep [130,131],.run 1] .fin) ((AM.mk (RF 26 129 (tX (tX (tY (.int .i64 crq0)) tZ) (tY prq0)) td) ((znS sl)::rest) ⟨O,N,G⟩)):=by kernel_rfl
theorem zdi:(K (AM.mk (RF 40 133 (tX tZ (tX tZ (tY prq1))) [.code (cd P (40:FuncId) [1,1,1,0,1,0,1])]) rest ⟨O,N,G⟩))=OT f0 R keep K (.seq [.run 4,.keep [6]] .fin) ((AM.mk (RF 80 10 (tX tZ (tX (tY prq1) tZ)) td) ((zeN crq0 prq0)::rest) ⟨O,N,G⟩)):=by kernel_rfl
end
variable {O O':T AObj} {N:Nat} {G:T (T AV)}
theorem zpo {A:Nat→Prop}{an:Bool}{q n:Nat}{k2:Int}{nm:zi}{ns:List zi}{ts:List Ty}{ps:List (Option Nat)}{sn2 sa2 rp2:AV}(obq0:Obj O q [.int .i64 k2,.str nm,sn2,sa2,rp2])(hq:q<N)(vn0:SV O 1 sE 0 N ns sn2)(va0:SV O 1 pE 0 N ps sa2)(hl:ps.length=ts.length)(hl2:ns.length=ts.length)(hm:ts.length<1000000)(h8:∀ (j:Nat) (x:Ty) (p:Option Nat),ts[j]?=some x→ps[j]?=some p→Tra O N A x p)(na:an=false→∀ x∈ts,naT x=true)(hA:∀ j,A j→j<N){keep:Nat}{f0:FuncId}{Q:AV→AHeap→Prop}{rest:List AFrame}
 (hK:∀ O' N' td t' p',Ext O N O' N'→Tra O' N' A t' p'→MadeT an t'→Goal P keep f0 Q (AM.mk (RF 81 46 (tX tZ (tX (tY (pv p')) tZ)) td) rest ⟨O',N',G⟩)):Goal P keep f0 Q (AM.mk (enF 81 [.ptr q 0 0,.int .i64 ((n:Nat):Int)]) rest ⟨O,N,G⟩):=by
 have loop:∀ (k i:Nat) (O2:T AObj) (N2:Nat) (ms:List zi) (us:List Ty) (rs:List (Option Nat)) (sl sl2:AV),i+k=ns.length→Ext O N O2 N2→GV O2 9 1 sE N N2 ms sl→GV O2 23 1 pE N N2 rs sl2→(sl≠.nils 0 0→sl2≠.nils 0 0→sid sl≠sid sl2)→ms.length=us.length→rs.length=us.length→us.length≤i →
  (∀ (j:Nat) (x:Ty) (p:Option Nat),us[j]?=some x→rs[j]?=some p→Tra O N A x p)→(∀ u∈us,u∈ts)→Goal P keep f0 Q (zpw q ((n:Nat):Int) ((i:Nat):Int) sl sl2 rest O2 N2 G):=by
  intro k
  induction k with
  | zero =>
   intro i O2 N2 ms us rs sl sl2 hk ex gm gr hd l1 l2 l3 hr hmem
   have nn:=ex.1
   have obq:=obq0.same (ex.2 q hq)
   have vn2:=vn0.keep (O':=O2) (fun j _ hj=>ex.2 j hj) (Nat.le_refl 0) (Nat.le_refl N)
   refine ot (znx (sn2:=sn2) (sa2:=sa2)) ⟨_,obq.ld 2 rfl,vn2.len sSl _ _,fkf (decide_eq_false (by omega)) ?_⟩
   refine zf2 (mk:=A) ((gm.sv sEn).keep (fun _ _ _=>rfl) (Nat.zero_le _) (Nat.le_refl _)) ((gr.sv pEn).keep (fun _ _ _=>rfl) (Nat.zero_le _) (Nat.le_refl _)) l2 (by omega) (fun j x p a b=>(hr j x p a b).same (fun i h1 h2=>ex.2 i h1) ex.1) (Nat.le_refl _) (fun j h=>by have:=hA j h; omega) fun O8 N8 td8 p8 ex8 tx8=>?_
   have nn8:=ex8.1
   refine ot ziU ?_
   refine ku (M:=MadeT an) (MadeT.leaf (by decide) (by decide) (fun _=>by decide)) (fun h=>⟨tx8,zdy h (fun ha x hx=>na ha x (hmem x hx))⟩) (fun j h=>by have:=hA j h; omega) fun O9 N9 td9 t9 p9 ex9 tx9 md9=>?_
   exact ot zdb (hK O9 N9 _ t9 p9 (ex.trans (ex8.trans ex9)) tx9 md9)
  | succ k ih =>
   intro i O2 N2 ms us rs sl sl2 hk ex gm gr hd l1 l2 l3 hr hmem
   have nn:=ex.1
   have obq:=obq0.same (ex.2 q hq)
   have vn2:=vn0.keep (O':=O2) (fun j _ hj=>ex.2 j hj) (Nat.le_refl 0) (Nat.le_refl N)
   have va2:=va0.keep (O':=O2) (fun j _ hj=>ex.2 j hj) (Nat.le_refl 0) (Nat.le_refl N)
   obtain ⟨x,hx,hxm⟩:=nth (l:=ns) (j:=i) (by omega)
   obtain ⟨t,hxt,hxtm⟩:=nth (l:=ts) (j:=i) (by omega)
   obtain ⟨y,hy,_⟩:=nth (l:=ps) (j:=i) (by omega)
   refine ot (znx (sn2:=sn2) (sa2:=sa2)) ⟨_,obq.ld 2 rfl,vn2.len sSl _ _,fkt (decide_eq_true (by omega)) ?_⟩
   refine ⟨fun hc3=>?_,fun hc3=>?_⟩
   ·
    obtain ⟨O3,e1,v1,_,f1⟩:=wg sEn x O2 N2 G (st:=32) (el:=9) (litS x)
    have gm1:=gm.keep (O':=O3) (fun j h1 h2=>f1 j (by omega)) (Nat.le_refl _) (Nat.le_succ N2)
    obtain ⟨O4,N4,s1,e2,gm2,n4,n4',f2,hs2⟩:=gm1.app sSl sEn v1 (by omega) (by simp only [List.length_cons,List.length_nil]; omega) G
    have lo4:∀ j,j<N2→(sl≠.nils 0 0→j≠sid sl)→O4.get j=O2.get j:=fun j hj h=>(f2 j (by omega) h).trans (f1 j (by omega))
    have gr4:=gr.same (O':=O4) (fun h=>lo4 _ (gr.sid_lt h).2 (fun h2 h3=>hd h2 h h3.symm)) (Nat.le_refl _) (show N2≤N4 by omega)
    obtain ⟨O5,e3,v3,_,f3⟩:=wg pEn y O4 N4 G (st:=33) (el:=23) (zpI y)
    have gr5:=gr4.keep (O':=O5) (fun j h1 h2=>f3 j (by omega)) (Nat.le_refl _) (Nat.le_succ N4)
    obtain ⟨O6,N6,s3,e4,gr6,n6,n6',f4,hs4⟩:=gr5.app pSl pEn v3 (by omega) (by simp only [List.length_cons,List.length_nil]; omega) G
    have lo6:∀ j,j<N4→(sl2≠.nils 0 0→j≠sid sl2)→O6.get j=O4.get j:=fun j hj h=>(f4 j (by omega) h).trans (f3 j (by omega))
    have dis:s1≠.nils 0 0→sl2≠.nils 0 0→sid s1≠sid sl2:=fun h1 h2=>by
     have:=(gr.sid_lt h2).2
     rcases hs2 with h | h | ⟨h3,h⟩
     · exact absurd h h1
     · omega
     · rw [h]; exact hd h3 h2
    have dis2:s1≠.nils 0 0→s3≠.nils 0 0→sid s1≠sid s3:=fun h1 h2=>by
     have:=(gm2.sid_lt h1).2
     rcases hs4 with h | h | ⟨h3,h⟩
     · exact absurd h h2
     · omega
     · rw [h]; exact dis h1 h3
    have gm6:=gm2.same (O':=O6) (fun h=>lo6 _ (gm2.sid_lt h).2 (fun h2=>dis h h2)) (Nat.le_refl _) (show N4≤N6 by omega)
    have low6:∀ j,j<N→O6.get j=O.get j:=fun j hj=>(lo6 j (by omega) (fun h=>by have:=(gr.sid_lt h).1; omega)).trans ((lo4 j (by omega) (fun h=>by have:=(gm.sid_lt h).1; omega)).trans (ex.2 j hj))
    have obq4:=obq.same (lo4 q (by omega) (fun h=>by have:=(gm.sid_lt h).1; omega))
    have va4:=va2.keep (O':=O4) (fun j _ hj=>lo4 j (by omega) (fun h=>by have:=(gm.sid_lt h).1; omega)) (Nat.le_refl 0) (Nat.le_refl N)
    obtain ⟨r1,r2,r3,lor,hir,eR,rdR,_⟩:=vn2.at sSl sEn hx
    obtain ⟨p1,p2,p3,lop,hip,eP,rdP,_⟩:=va4.at pSl pEn hy
    have nx:=ih (i+1) O6 N6 (ms++[x]) (us++[t]) (rs++[y]) s1 s3 (by omega) ⟨by omega,low6⟩ gm6 gr6 dis2 (by rw [List.length_append,List.length_append,l1]; rfl) (by rw [List.length_append,List.length_append,l2]; rfl) (by rw [List.length_append]; simp only [List.length_cons,List.length_nil]; omega) (zcZ l2 hr (fun j z w a b=>by rcases j with _ | j <;> simp at a b; subst a; subst b; exact h8 i t y hxt hy)) (fun u hu=>by rw [List.mem_append,List.mem_singleton] at hu; exact hu.elim (hmem u) (fun h=>h▸hxtm))
    rw [← zC (i:=i) (by omega)] at nx
    exact ⟨_,_,_,_,_,_,_,_,_,_,_,_,_,_,_,_,obq.ld 2 rfl,eR,rdR.load rfl _ _,e1,e2,obq4.ld 3 rfl,eP,rdP.load rfl _ _,e3,e4,nx⟩
   ·
    have nx:=ih (i+1) O2 N2 ms us rs sl sl2 (by omega) ex gm gr hd l1 l2 (by omega) hr hmem
    rw [← zC (i:=i) (by omega)] at nx
    exact nx
 refine ot t_wit ?_
 exact loop ns.length 0 O N [] [] [] _ _ (Nat.zero_add _) Ext.refl GV.nil GV.nil (fun h=>absurd rfl h) rfl rfl (Nat.le_refl _) (fun j x p h=>by simp at h) (fun u h=>by cases h)
theorem zoz {α β:Type}{R:α→β→Prop}{l:List α}{m:List β}{a:Nat}{v:α}{w:β}(h:∀ (j:Nat) x y,l[j]?=some x→m[j]?=some y→R x y)(hv:R v w)(j:Nat)(x:α)(y:β)(h1:(l.set a v)[j]?=some x)(h2:(m.set a w)[j]?=some y):R x y:=by
 rw [List.getElem?_set] at h1 h2
 by_cases hj:a=j
 · rw [if_pos hj] at h1 h2
   split at h1
   · split at h2
     · cases h1; cases h2; exact hv
     · cases h2
   · cases h1
 · rw [if_neg hj] at h1 h2
   exact h j x y h1 h2
theorem rel2 {α β:Type}{R:α→β→Prop}{a b:α}{p q:β}(h1:R a p)(h2:R b q)(j:Nat)(x:α)(y:β)(e1:[a,b][j]?=some x)(e2:[p,q][j]?=some y):R x y:=by
 rcases j with _ | _ | j
 · cases e1; cases e2; exact h1
 · cases e1; cases e2; exact h2
 · cases e1
theorem zmm {p:Option Nat}:(pv p).cells=[pv p]:=by cases p <;> rfl
theorem litPP (q:Nat)(p:Option Nat):∀ h:AHeap,zd P h 33 2 [(0,.ptr q 0 0),(1,pv p)]=some (.slc h.next 0 0 2 2,xp h 23 (pE (some q)++pE p) false):=fun h=>by cases p <;> kernel_rfl
def zmw (hi mk:Nat) (an:Bool) (d:Nat):Prop:=∀ {A:Nat→Prop} {xs:List UInt8} {nn:Int} {t:Ty} {p:Option Nat} {O:T AObj} {N:Nat} {G:T (T AV)} {keep:Nat} {f0:FuncId} {Q:AV→AHeap→Prop} {rest:List AFrame},MKo O hi mk xs nn an→mk<N→(∀ j,A j→j<N)→A mk→Tra O N A t p→MadeT an t →
 (∀ (O':T AObj) (N':Nat) (td:List AItem) (ys:List UInt8) (nn':Int) (t':Ty) (p':Option Nat),N≤N'→(∀ j,j<N→j≠mk→O'.get j=O.get j)→MKo O' hi mk ys nn' an→Tra O' N' A t' p'→MadeT an t'→Goal P keep f0 Q (AM.mk (RF 40 133 (tX tZ (tX tZ (tY (pv p')))) td) rest ⟨O',N',G⟩))→Goal P keep f0 Q (AM.mk (enF 40 [.ptr mk 0 0,pv p,.int .i64 ((d:Nat):Int)]) rest ⟨O,N,G⟩)
theorem zfm {hi mk d:Nat}{an:Bool}(hmk:hi≤mk)(hd1:d≤1000)(hrec:d=0∨∃ d',d=d'+1∧zmw hi mk an d'):zmw hi mk an d:=by
 intro A xs nn t p O N G keep f0 Q rest hm hmN hA hAm tt md hK
 have znE:ONE hi mk an 1:=zf0 hmk 1 (by decide)
 have one2:ONE hi mk an 2:=zf0 hmk 2 (by decide)
 obtain ⟨k2,nm,ns,ts,r,rfl,c60,oks,k7,k8,hna⟩:=id md
 obtain ⟨q,sn2,sa2,ps,qr,rfl,hqN,hqA,obq0,vn0,mn0,va0,ma0,hl,hl6,hn6,h8,h9⟩:=tt.inv
 have hqm:q≠mk:=fun h=>hqA (h▸hAm)
 have hnr:an=false→naT r=true:=fun ha=>(yg (hna ha)).2.2
 have cl:=zcV (l:=ts) (fun z hz=>zdk (oks z hz))
 have hts:ts.length<10000:=by rw [zT] at c60; omega
 have stD:∀ (O7:T AObj) (N7:Nat) (zs:List UInt8) (n7:Int) (us:List Ty) (rs:List (Option Nat)) (s:AV),N≤N7→(∀ j,j<N→j≠mk→O7.get j=O.get j)→MKo O7 hi mk zs n7 an→SV O7 1 pE 0 N7 rs s→rs.length=us.length→us.length<10000→(∀ (j:Nat) (x:Ty) (p:Option Nat),us[j]?=some x→rs[j]?=some p→Tra O7 N7 A x p)→(an=false→∀ x∈us,naT x=true)→Goal P keep f0 Q (Wned q s rest O7 N7 G):=by
  intro O7 N7 zs n7 us rs s hN7 low7 m7 vs hls hus hrs hnas
  have obO7:=obq0.same (low7 q hqN hqm)
  have vaO7:SV O7 1 pE 0 N ps sa2:=va0.same (fun h=>low7 _ (va0.sid_lt h).2 (fun e=>ma0 h (e▸hAm))) (Nat.le_refl _) (Nat.le_refl _)
  have vnO7:SV O7 1 sE 0 N ns sn2:=vn0.same (fun h=>low7 _ (vn0.sid_lt h).2 (fun e=>mn0 h (e▸hAm))) (Nat.le_refl _) (Nat.le_refl _)
  have mvO7:∀ {x:Ty} {y:Option Nat} {M:Nat},N≤M→Tra O N A x y→Tra O7 M A x y:=fun hM h=>h.same (fun j h1 h2=>low7 j h1 (fun e=>h2 (e▸hAm))) hM
  refine ot (t_ned (k2:=k2) (sn2:=sn2) (rp2:=pv qr)) ⟨obO7.ld 0 rfl,fun hc7=>?_,fun hc7=>?_⟩
  ·
   refine ⟨obO7.ld 2 rfl,?_⟩
   refine zf2 (mk:=A) (vnO7.keep (fun _ _ _=>rfl) (Nat.le_refl _) hN7) vs hls (by omega) hrs (Nat.le_refl _) (fun j h=>by have:=hA j h; omega) fun O8 N8 td8 p8 ex8 tx8=>?_
   refine ot zkY ?_
   have nn8:=ex8.1
   have low8:∀ j,j<N→j≠mk→O8.get j=O.get j:=fun j h1 h2=>(ex8.2 j (by omega)).trans (low7 j h1 h2)
   have m8:=m7.same (fun j hj=>ex8.2 j (by omega)) (ex8.2 mk (by omega))
   refine ku (M:=MadeT an) (MadeT.leaf (by decide) (by decide) (fun _=>by decide)) (fun h=>⟨tx8,zdy h hnas⟩) (fun j h=>by have:=hA j h; omega) fun O9 N9 td9 t9 p9 ex9 tx9 md9=>?_
   have nn9:=ex9.1
   exact ot zfs (hK O9 N9 _ _ _ t9 p9 (by omega) (fun j h1 h2=>(ex9.2 j (by omega)).trans (low8 j h1 h2)) (m8.same (fun j hj=>ex9.2 j (by omega)) (ex9.2 mk (by omega))) tx9 md9)
  ·
   refine ⟨fun hc8=>?_,fun hc8=>?_⟩
   ·
    refine ⟨obO7.ld 4 rfl,?_⟩
    refine zgO (mk:=A) (an:=an) vs hls (by omega) hrs (mvO7 hN7 h9) (fun ha=>⟨hnas ha,hnr ha⟩) (Nat.le_refl _) (fun j h=>by have:=hA j h; omega) fun O8 N8 td8 t8 p8 e8 ex8 h8'=>?_
    refine ot zii ?_
    have nn8:=ex8.1
    have low8:∀ j,j<N→j≠mk→O8.get j=O.get j:=fun j h1 h2=>(ex8.2 j (by omega)).trans (low7 j h1 h2)
    have m8:=m7.same (fun j hj=>ex8.2 j (by omega)) (ex8.2 mk (by omega))
    refine ku (M:=MadeT an) (MadeT.leaf (by decide) (by decide) (fun _=>by decide)) (fun h=>⟨(h8' h).1,(h8' h).2⟩) (fun j h=>by have:=hA j h; omega) fun O9 N9 td9 t9 p9 ex9 tx9 md9=>?_
    have nn9:=ex9.1
    exact ot zc6 (hK O9 N9 _ _ _ t9 p9 (by omega) (fun j h1 h2=>(ex9.2 j (by omega)).trans (low8 j h1 h2)) (m8.same (fun j hj=>ex9.2 j (by omega)) (ex9.2 mk (by omega))) tx9 md9)
   ·
    refine zgP (mk:=A) vs hls hus hrs (Nat.le_refl _) (fun j h=>by have:=hA j h; omega) fun O8 N8 td8 p8 ex8 tx8=>?_
    refine ot ziH ?_
    have nn8:=ex8.1
    have low8:∀ j,j<N→j≠mk→O8.get j=O.get j:=fun j h1 h2=>(ex8.2 j (by omega)).trans (low7 j h1 h2)
    have m8:=m7.same (fun j hj=>ex8.2 j (by omega)) (ex8.2 mk (by omega))
    refine ku (M:=MadeT an) (MadeT.leaf (by decide) (by decide) (fun _=>by decide)) (fun h=>⟨tx8,zc5 h hnas⟩) (fun j h=>by have:=hA j h; omega) fun O9 N9 td9 t9 p9 ex9 tx9 md9=>?_
    have nn9:=ex9.1
    exact ot zdi (hK O9 N9 _ _ _ t9 p9 (by omega) (fun j h1 h2=>(ex9.2 j (by omega)).trans (low8 j h1 h2)) (m8.same (fun j hj=>ex9.2 j (by omega)) (ex9.2 mk (by omega))) tx9 md9)
 have stC:∀ (d':Nat),d=d'+1→zmw hi mk an d'→∀ (O4:T AObj) (zs:List UInt8) (n4:Int) (a:Nat),(∀ j,j<N→j≠mk→O4.get j=O.get j)→MKo O4 hi mk zs n4 an→a<ts.length→Goal P keep f0 Q (Wnec q ((d:Nat):Int) ((a:Nat):Int) mk rest O4 N G):=by
  intro d' hd near O4 zs n4 a low4 m4 ha
  have obO4:=obq0.same (low4 q hqN hqm)
  have vaO4:SV O4 1 pE 0 N ps sa2:=va0.same (fun h=>low4 _ (va0.sid_lt h).2 (fun e=>ma0 h (e▸hAm))) (Nat.le_refl _) (Nat.le_refl _)
  have vnO4:SV O4 1 sE 0 N ns sn2:=vn0.same (fun h=>low4 _ (vn0.sid_lt h).2 (fun e=>mn0 h (e▸hAm))) (Nat.le_refl _) (Nat.le_refl _)
  have mvO4:∀ {x:Ty} {y:Option Nat} {M:Nat},N≤M→Tra O N A x y→Tra O4 M A x y:=fun hM h=>h.same (fun j h1 h2=>low4 j h1 (fun e=>h2 (e▸hAm))) hM
  have w1:IntKind.i64.wrap (((d:Nat):Int) - (1:Int))=((d':Nat):Int):=by rw [IntKind.wrap_i64,hd]; omega
  obtain ⟨x,hx,hxm⟩:=nth (l:=ts) (j:=a) ha
  obtain ⟨y,hy,hym⟩:=nth (l:=ps) (j:=a) (by omega)
  have g0:GV O4 23 1 pE N N ([]:List (Option Nat)) (.nils 0 0):=GV.nil
  obtain ⟨O5,N5,s1,ea,g5,n5,n5',f5,_,hsl⟩:=g0.app2 pSl pEn vaO4 (Nat.le_refl _) (by simp only [List.length_nil]; omega) G
  rw [List.nil_append] at g5
  have hne:s1≠.nils 0 0:=fun h=>by
   obtain ⟨_,_,_,_,_,e⟩:=hsl (fun e=>by rw [e] at hy; cases hy)
   rw [h] at e
   cases e
  have hs5:=g5.sid_lt hne
  have low5:∀ j,j<N→O5.get j=O4.get j:=fun j hj=>f5 j hj (fun h=>absurd rfl h)
  obtain ⟨i1v,i2v,i3v,loI,hiI,eI,rdI,_⟩:=(g5.sv pEn).at pSl pEn hy
  have toS:∀ {x:Ty} {y:Option Nat},Tra O N A x y→Tra O5 N5 (AvS A s1) x y:=fun h=>((h.same (O':=O5) (fun j h1 h2=>(low5 j h1).trans (low4 j h1 (fun e=>h2 (e▸hAm)))) (Nat.le_refl _)).imp fun j hj hb=>hb.elim id fun h=>by omega).same (fun _ _ _=>rfl) n5
  have m5:=m4.same (O':=O5) (fun j hj=>low5 j (by omega)) (low5 mk (by omega))
  have mdx:MadeT an x:=zdh (oks x hxm) (by have:=zk hxm; rw [zT] at c60; omega) (fun ha=>(yg (hna ha)).2.1 x hxm)
  refine ot (t_nec (sa2:=sa2)) ⟨s1,O5,N5,_,_,_,(pv y),obO4.ld 3 rfl,ea,eI,rdI.load rfl _ _,?_⟩
  rw [w1]
  refine near (A:=AvS A s1) m5 (by omega) (fun j hj=>hj.elim (fun h=>by have:=hA j h; omega) fun h=>by omega) (.inl hAm) (toS (h8 a x y hx hy)) mdx fun O6 N6 td6 zs6 n6 t6 p6 hN6 hO6 m6 tx6 md6=>?_
  have g6:=g5.same (O':=O6) (fun _=>hO6 _ hs5.2 (by omega)) (Nat.le_refl _) hN6
  obtain ⟨ri,z,off,O7,e1,e2,v7,f7,hri,_⟩:=g6.put (b:=p6) pSl pEn hy (hsl (fun e=>by rw [e] at hy; cases hy)) N6 G
  have low7:∀ j,j<N→j≠mk→O7.get j=O.get j:=fun j h1 h2=>(f7 j (by omega)).trans ((hO6 j (by omega) h2).trans ((low5 j h1).trans (low4 j h1 h2)))
  have m7:=m6.same (O':=O7) (fun j hj=>f7 j (by omega)) (f7 mk (by omega))
  have toA:∀ {x:Ty} {y:Option Nat},Tra O6 N6 (AvS A s1) x y→Tra O7 N6 A x y:=fun h=>(h.same (fun j h1 h2=>f7 j (fun e=>h2 (.inr ⟨hne,by omega⟩))) (Nat.le_refl _)).imp fun _ _ h=>.inl h
  have nx:=stD O7 N6 zs6 n6 (ts.set a t6) (ps.set a p6) s1 (by omega) low7 m7 (v7.keep (fun _ _ _=>rfl) (Nat.zero_le _) (Nat.le_refl _)) (by rw [List.length_set,List.length_set,hl]) (by rw [List.length_set]; omega) (zoz (fun j x y h1 h2=>toA ((toS (h8 j x y h1 h2)).same (fun i h1 h2=>hO6 i h1 (fun e=>h2 (.inl (e▸hAm)))) hN6)) (toA tx6)) (fun ha w hw=>(List.mem_or_eq_of_mem_set hw).elim (fun h=>(yg (hna ha)).2.1 w h) (fun h=>h▸(by obtain ⟨_,_,_,_,_,_,_,_,_,_,w⟩:=md6; exact w ha)))
  exact ot zmz ⟨ri,z,off,_,e1,(by rw [zmm]; exact ⟨rfl,e2⟩),nx⟩
 have stE:∀ (d':Nat),d=d'+1→zmw hi mk an d'→∀ (O4:T AObj) (zs:List UInt8) (n4:Int) (a:Nat) (j:Int),(∀ j,j<N→j≠mk→O4.get j=O.get j)→MKo O4 hi mk zs n4 an→a<ts.length→Goal P keep f0 Q (Wnee q ((d:Nat):Int) j ((a:Nat):Int) mk rest O4 N G):=by
  intro d' hd near O4 zs n4 a j low4 m4 ha
  have cc:=stC d' hd near O4 zs n4 a low4 m4 ha
  have obO4:=obq0.same (low4 q hqN hqm)
  have vaO4:SV O4 1 pE 0 N ps sa2:=va0.same (fun h=>low4 _ (va0.sid_lt h).2 (fun e=>ma0 h (e▸hAm))) (Nat.le_refl _) (Nat.le_refl _)
  have vnO4:SV O4 1 sE 0 N ns sn2:=vn0.same (fun h=>low4 _ (vn0.sid_lt h).2 (fun e=>mn0 h (e▸hAm))) (Nat.le_refl _) (Nat.le_refl _)
  have mvO4:∀ {x:Ty} {y:Option Nat} {M:Nat},N≤M→Tra O N A x y→Tra O4 M A x y:=fun hM h=>h.same (fun j h1 h2=>low4 j h1 (fun e=>h2 (e▸hAm))) hM
  have w1:IntKind.i64.wrap (((d:Nat):Int) - (1:Int))=((d':Nat):Int):=by rw [IntKind.wrap_i64,hd]; omega
  refine ot (t_nee (k2:=k2) (sa2:=sa2) (rp2:=pv qr)) ⟨fun hc12=>?_,fun hc12=>?_⟩
  ·
   refine ⟨obO4.ld 0 rfl,fun hc13=>?_,fun hc13=>?_⟩
   ·
    refine ⟨obO4.ld 3 rfl,obO4.ld 4 rfl,?_⟩
    have h8k:k2=8:=by simpa using hc13
    have mdr:MadeT an r:=zdh (k8 h8k) (by rw [zT] at c60; omega) hnr
    rw [w1]
    refine near m4 hmN hA hAm (mvO4 (Nat.le_refl _) h9) mdr fun O5 N5 td5 zs5 n5 t5 p5 hN5 hO5 m5 tx5 md5=>?_
    have low5:∀ j,j<N→j≠mk→O5.get j=O.get j:=fun j h1 h2=>(hO5 j h1 h2).trans (low4 j h1 h2)
    have obO5:=obq0.same (low5 q hqN hqm)
    have vaO5:SV O5 1 pE 0 N ps sa2:=va0.same (fun h=>low5 _ (va0.sid_lt h).2 (fun e=>ma0 h (e▸hAm))) (Nat.le_refl _) (Nat.le_refl _)
    have vnO5:SV O5 1 sE 0 N ns sn2:=vn0.same (fun h=>low5 _ (vn0.sid_lt h).2 (fun e=>mn0 h (e▸hAm))) (Nat.le_refl _) (Nat.le_refl _)
    have mvO5:∀ {x:Ty} {y:Option Nat} {M:Nat},N≤M→Tra O N A x y→Tra O5 M A x y:=fun hM h=>h.same (fun j h1 h2=>low5 j h1 (fun e=>h2 (e▸hAm))) hM
    refine ot (zje (sa2:=sa2)) ⟨trivial,obO5.ld 3 rfl,zbx vaO5,?_⟩
    refine zgO (mk:=A) (an:=an) (vaO5.keep (fun _ _ _=>rfl) (Nat.le_refl _) hN5) hl (by omega) (fun j x p a b=>mvO5 hN5 (h8 j x p a b)) tx5 (fun ha=>⟨(yg (hna ha)).2.1,(by obtain ⟨_,_,_,_,_,_,_,_,_,_,w⟩:=md5; exact w ha)⟩) (Nat.le_refl _) (fun j h=>by have:=hA j h; omega) fun O8 N8 td8 t8 p8 e8 ex8 h8'=>?_
    refine ot zcT ?_
    have nn8:=ex8.1
    have low8:∀ j,j<N→j≠mk→O8.get j=O.get j:=fun j h1 h2=>(ex8.2 j (by omega)).trans (low5 j h1 h2)
    have m8:=m5.same (fun j hj=>ex8.2 j (by omega)) (ex8.2 mk (by omega))
    refine ku (M:=MadeT an) (MadeT.leaf (by decide) (by decide) (fun _=>by decide)) (fun h=>⟨(h8' h).1,(h8' h).2⟩) (fun j h=>by have:=hA j h; omega) fun O9 N9 td9 t9 p9 ex9 tx9 md9=>?_
    have nn9:=ex9.1
    exact ot zah (hK O9 N9 _ _ _ t9 p9 (by omega) (fun j h1 h2=>(ex9.2 j (by omega)).trans (low8 j h1 h2)) (m8.same (fun j hj=>ex9.2 j (by omega)) (ex9.2 mk (by omega))) tx9 md9)
   ·
    exact cc
  ·
   exact cc
 have stB:∀ (O2:T AObj) (zs:List UInt8) (n2 j:Int),(∀ j,j<N→j≠mk→O2.get j=O.get j)→MKo O2 hi mk zs n2 an→0≤j→(d=0→j<2)→Goal P keep f0 Q (Wneb q ((d:Nat):Int) j mk rest O2 N G):=by
  intro O2 zs n2 j low2 m2 hj0 hj2
  have own:∀ td,Goal P keep f0 Q (AM.mk (RF 40 133 (tX tZ (tX tZ (tY (.ptr q 0 0)))) td) rest ⟨O2,N,G⟩):=fun td=>hK O2 N td zs n2 _ (some q) (Nat.le_refl _) low2 m2 (tt.same (fun j h1 h2=>low2 j h1 (fun e=>h2 (e▸hAm))) (Nat.le_refl _)) md
  have obO2:=obq0.same (low2 q hqN hqm)
  have vaO2:SV O2 1 pE 0 N ps sa2:=va0.same (fun h=>low2 _ (va0.sid_lt h).2 (fun e=>ma0 h (e▸hAm))) (Nat.le_refl _) (Nat.le_refl _)
  have vnO2:SV O2 1 sE 0 N ns sn2:=vn0.same (fun h=>low2 _ (vn0.sid_lt h).2 (fun e=>mn0 h (e▸hAm))) (Nat.le_refl _) (Nat.le_refl _)
  have mvO2:∀ {x:Ty} {y:Option Nat} {M:Nat},N≤M→Tra O N A x y→Tra O2 M A x y:=fun hM h=>h.same (fun j h1 h2=>low2 j h1 (fun e=>h2 (e▸hAm))) hM
  refine ot (t_neb (sa2:=sa2)) ⟨fun hc15=>?_,fun hc15=>?_⟩
  ·
   refine znE (A:=A) m2 hmN hA hAm fun O3 N3 td3 ys3 n3 t1 p1 hN3 hO3 m3 tx3 md3=>?_
   have low3:∀ j,j<N→j≠mk→O3.get j=O.get j:=fun j h1 h2=>(hO3 j h1 h2).trans (low2 j h1 h2)
   have obO3:=obq0.same (low3 q hqN hqm)
   have vaO3:SV O3 1 pE 0 N ps sa2:=va0.same (fun h=>low3 _ (va0.sid_lt h).2 (fun e=>ma0 h (e▸hAm))) (Nat.le_refl _) (Nat.le_refl _)
   have vnO3:SV O3 1 sE 0 N ns sn2:=vn0.same (fun h=>low3 _ (vn0.sid_lt h).2 (fun e=>mn0 h (e▸hAm))) (Nat.le_refl _) (Nat.le_refl _)
   have mvO3:∀ {x:Ty} {y:Option Nat} {M:Nat},N≤M→Tra O N A x y→Tra O3 M A x y:=fun hM h=>h.same (fun j h1 h2=>low3 j h1 (fun e=>h2 (e▸hAm))) hM
   obtain ⟨OL,el,vL,fL⟩:=zoW pEn (some q) p1 O3 N3 G (st:=33) (el:=23) (v:=.ptr q 0 0) (w:=pv p1) (litPP q p1)
   refine ot zln ⟨_,el,?_⟩
   refine zgP (mk:=A) (ts:=[.mk k2 nm ns ts r,t1]) (vL.keep (fun _ _ _=>rfl) (Nat.zero_le _) (Nat.le_refl _)) rfl (by simp) (rel2 ((mvO3 hN3 tt).same (fun i h1 _=>fL i (by omega)) (by omega)) (tx3.same (fun i h1 _=>fL i (by omega)) (by omega))) (Nat.le_refl _) (fun j h=>by have:=hA j h; omega) fun O8 N8 td8 p8 ex8 tx8=>?_
   refine ot zfo ?_
   have lowL:∀ j,j<N→j≠mk→OL.get j=O.get j:=fun j h1 h2=>(fL j (by omega)).trans (low3 j h1 h2)
   have mL:=m3.same (O':=OL) (fun j hj=>fL j (by omega)) (fL mk (by omega))
   have nn8:=ex8.1
   have low8:∀ j,j<N→j≠mk→O8.get j=O.get j:=fun j h1 h2=>(ex8.2 j (by omega)).trans (lowL j h1 h2)
   have m8:=mL.same (fun j hj=>ex8.2 j (by omega)) (ex8.2 mk (by omega))
   refine ku (M:=MadeT an) (MadeT.leaf (by decide) (by decide) (fun _=>by decide)) (fun h=>⟨tx8,zc5 h (fun ha x hx=>by rcases List.mem_cons.1 hx with h | h; exact h▸hna ha; rw [List.mem_singleton] at h; exact h▸(by obtain ⟨_,_,_,_,_,_,_,_,_,_,w⟩:=md3; exact w ha))⟩) (fun j h=>by have:=hA j h; omega) fun O9 N9 td9 t9 p9 ex9 tx9 md9=>?_
   have nn9:=ex9.1
   exact ot zbd (hK O9 N9 _ _ _ t9 p9 (by omega) (fun j h1 h2=>(ex9.2 j (by omega)).trans (low8 j h1 h2)) (m8.same (fun j hj=>ex9.2 j (by omega)) (ex9.2 mk (by omega))) tx9 md9)
  ·
   refine ⟨fun hc16=>?_,fun hc16=>?_⟩
   ·
    refine one2 (A:=A) m2 hmN hA hAm fun O3 N3 td3 ys3 n3 t1 p1 hN3 hO3 m3 tx3 md3=>?_
    have low3:∀ j,j<N→j≠mk→O3.get j=O.get j:=fun j h1 h2=>(hO3 j h1 h2).trans (low2 j h1 h2)
    exact ot zit (hK O3 N3 _ ys3 n3 t1 p1 hN3 low3 m3 tx3 md3)
   ·
    refine ⟨fun hc17=>?_,fun hc17=>?_⟩
    ·
     exact own _
    ·
     refine ⟨_,obO2.ld 3 rfl,vaO2.lenE pSl hl _ _,fun hc18=>?_,fun hc18=>?_⟩
     ·
      exact own _
     ·
      refine ⟨_,obO2.ld 3 rfl,vaO2.lenE pSl hl _ _,?_⟩
      have hj3:¬ d=0:=fun h=>by
       have h1:=beq_eq_false_iff_ne.1 hc15
       have h2:=beq_eq_false_iff_ne.1 hc16
       have h3:=beq_eq_false_iff_ne.1 hc17
       have h4:=hj2 h
       have h5:=hj0
       have h6:j≠1:=h1
       have h7:j≠0:=h3
       omega
      have hlen:0<ts.length:=by
       have:=beq_eq_false_iff_ne.1 hc18
       omega
      obtain ⟨d',hd,near⟩:=hrec.resolve_left hj3
      refine wU m2 hmk (n:=((ts.length:Nat):Int)) (by omega) fun O4 td4 c zs4 hl4 c0 c1 f4 m4=>?_
      obtain ⟨a,rfl⟩:∃ a:Nat,c=((a:Nat):Int):=⟨c.toNat,by omega⟩
      have low4:∀ j,j<N→j≠mk→O4.get j=O.get j:=fun j h1 h2=>(f4 j h2).trans (low2 j h1 h2)
      have ee:=stE d' hd near O4 zs4 n2 a j low4 m4 (by omega)
      have obO4:=obq0.same (low4 q hqN hqm)
      have vaO4:SV O4 1 pE 0 N ps sa2:=va0.same (fun h=>low4 _ (va0.sid_lt h).2 (fun e=>ma0 h (e▸hAm))) (Nat.le_refl _) (Nat.le_refl _)
      have vnO4:SV O4 1 sE 0 N ns sn2:=vn0.same (fun h=>low4 _ (vn0.sid_lt h).2 (fun e=>mn0 h (e▸hAm))) (Nat.le_refl _) (Nat.le_refl _)
      have mvO4:∀ {x:Ty} {y:Option Nat} {M:Nat},N≤M→Tra O N A x y→Tra O4 M A x y:=fun hM h=>h.same (fun j h1 h2=>low4 j h1 (fun e=>h2 (e▸hAm))) hM
      refine ot (zeU (k2:=k2)) ⟨fun hc20=>?_,fun hc20=>?_⟩
      ·
       refine ⟨obO4.ld 0 rfl,fun hc21=>?_,fun hc21=>?_⟩
       ·
        have h7k:k2=7:=by simpa using hc21
        refine zpo (an:=an) obO4 hqN vnO4 vaO4 hl (k7 h7k) (by omega) (fun j x p a b=>mvO4 (Nat.le_refl _) (h8 j x p a b)) (fun ha=>(yg (hna ha)).2.1) hA fun O8 N8 td8 t8 p8 ex8 tx8 md8=>?_
        exact ot jJ (hK O8 N8 _ zs4 n2 t8 p8 ex8.1 (fun j h1 h2=>(ex8.2 j h1).trans (low4 j h1 h2)) (m4.same (fun j hj=>ex8.2 j (by omega)) (ex8.2 mk hmN)) tx8 md8)
       ·
        exact ee
      ·
       exact ee
 refine ot t_nea ?_
 refine wU hm hmk (n:=6) (by omega) fun O1 td1 c ys hl1 c0 c6 f1 m1=>?_
 refine ot zlZ ⟨fun hc23=>?_,fun hc23=>?_⟩
 ·
  refine wU m1 hmk (n:=2) (by omega) fun O2 td2 c2 ys2 hl2 c20 c22 f2 m2=>?_
  exact ot zff (stB O2 ys2 _ c2 (fun j _ h2=>(f2 j h2).trans (f1 j h2)) m2 c20 (fun _=>c22))
 ·
  exact stB O1 ys _ c (fun j _ h2=>f1 j h2) m1 c0 (fun h=>by have:=of_decide_eq_false hc23; omega)
theorem zlp {hi mk:Nat}{an:Bool}(hmk:hi≤mk)(d:Nat)(hd:d≤1000):zmw hi mk an d:=by
 induction d with
 | zero=>exact zfm hmk hd (.inl rfl)
 | succ d ih =>
  have near:zmw hi mk an d:=ih (by omega)
  have h:d+1=0∨∃ d',d+1=d'+1∧zmw hi mk an d':=.inr ⟨d,rfl,@near⟩
  exact @zfm hi mk (d+1) an hmk hd h
end Go.Proofs.Ytcdigdplhlgcaaa.gx
end
section
set_option maxRecDepth 100000
set_option linter.unusedVariables false
set_option linter.unusedSectionVars false
set_option linter.unusedSimpArgs false
namespace Go.Proofs.Ytcdigdplhlgcaaa.gx
open Go Ev tp
section
variable (sn sa prq0 prq1 prq2:AV) (crq4:Int)
end
section
variable {R:AV→AHeap→Prop} {keep N:Nat} {f0:FuncId} {rest:List AFrame} {O:T AObj} {sn sa prq0 prq1 prq2 prq5 prq4:AV} {G:T (T AV)} {K:AM→Prop} {td:List AItem} {crq3 crq4:Int}
end
variable {O O':T AObj} {N:Nat} {G:T (T AV)}
theorem zfy {a b:Ty}{f:Nat}(h:(zfA a b).1=true)(hf:cnt a+cnt b≤f):okT a=true∧okT b=true∧(tp.look f a b).1=true:=by
 unfold zfA at h
 split at h
 · rename_i hc
   have oa:=qR hc.1
   have ob:=qR hc.2
   exact ⟨oa,ob,by rw [zfb oa ob (Nat.le_refl _) hf]; exact h⟩
 · cases h
theorem km {a b c:Ty}(na:naT a=true)(nb:naT b=true)(nc:naT c=true)(h1:(zfA a b).1=true)(h2:(zfA b c).1=true):(zfA a c).1=true:=by
 have ha:chk a=0∧chk b=0:=by
  unfold zfA at h1
  split at h1
  · assumption
  · cases h1
 have hc:chk b=0∧chk c=0:=by
  unfold zfA at h2
  split at h2
  · assumption
  · cases h2
 obtain ⟨oa,ob,l1⟩:=zfy (f:=cnt a+cnt b+cnt c) h1 (by omega)
 obtain ⟨_,oc,l2⟩:=zfy (f:=cnt a+cnt b+cnt c) h2 (by omega)
 have l3:=yd (cnt a+cnt b+cnt c) a b c (Nat.le_refl _) oa ob oc na nb nc l1 l2
 unfold zfA
 rw [if_pos ⟨ha.1,hc.2⟩,← zfb oa oc (Nat.le_refl _) (show cnt a+cnt c≤cnt a+cnt b+cnt c by omega)]
 exact l3
end Go.Proofs.Ytcdigdplhlgcaaa.gx
end
section
set_option maxRecDepth 100000
set_option linter.unusedVariables false
set_option linter.unusedSectionVars false
namespace Go.Proofs.Ytcdigdplhlgcaaa.gx
open Go Ev tp
theorem bi_of {n:Int}(h:(Lit.int .u8 n).wf=true):bi (UInt8.ofNat n.toNat)=n:=by
 have hb:0≤n∧n≤255:=by
  have:=bounds_u8 h
  omega
 unfold bi
 rw [UInt8.toNat_ofNat']
 omega
theorem zgf {l:List Inp}{G:T (T AV)}{i:Nat}{x:Inp}(h:l[i]?=some x):(jy l G).objs.get i=x.obj:=by
 show (vM l 0 .leaf).get i=_
 rw [vZ,if_pos ⟨Nat.zero_le _,by have:=(List.getElem?_eq_some_iff.1 h).1; omega⟩,Nat.sub_zero,h]
 rfl
theorem zmk {xs:List UInt8}:∀ {k:Nat},(xs.flatMap bE)[k]?=xs[k]?.map fun c=>AV.int .u8 (bi c):=by
 induction xs with
 | nil=>intro k; simp
 | cons x xs ih =>
  intro k
  rw [List.flatMap_cons]
  cases k with
  | zero=>rfl
  | succ k =>
   show ([AV.int .u8 (bi x)]++xs.flatMap bE)[k+1]?=_
   rw [List.cons_append,List.nil_append,List.getElem?_cons_succ,List.getElem?_cons_succ]
   exact ih
theorem zdd {w:World}{v:Value}(h:v=.slice none 0 0∨∃ (a:Addr) (len cap:Nat) (zs:List Int),v=.slice (some a) len cap∧len≤cap∧cap≤maxLen∧zs.length=cap∧(∀ i,i<zs.length→w.cell? (a.add i)=some (.int .u8 (zs.getD i 0)))∧(∀ n∈zs,(Lit.int .u8 n).wf=true)) :
 ∃ (x:Inp) (s:Nat→AV) (xs:List UInt8),x.holds w∧∀ (l:List Inp) (i:Nat) (G:T (T AV)),l[i]?=some x→VRel (kE l) (s i) v∧SVe (jy l G).objs l.length xs (s i):=by
 rcases h with rfl | ⟨a,len,cap,zs,rfl,hl,_,hz,hc,hwf⟩
 · exact ⟨⟨false,0,.leaf,0,0⟩,fun _=>.nils 0 0,[],fun h=>(by cases h),fun l i G e=>⟨rfl,.inl SV.nil⟩⟩
 · by_cases h0:cap=0
   · subst h0
     obtain rfl:len=0:=by omega
     exact ⟨⟨false,0,.leaf,0,0⟩,fun _=>.sle,[],fun h=>(by cases h),fun l i G e=>⟨⟨a,rfl⟩,.inr ⟨rfl,rfl⟩⟩⟩
   · obtain ⟨b,off,rfl,hold⟩:=zqC (w:=w) (a:=a) (n:=cap) (f:=fun i=>.int .u8 (zs.getD i 0)) (g:=fun i=>.int .u8 (zs.getD i 0)) (fun i hi=>hc i (by omega)) (fun i _=>rfl) (by omega)
     have hxl:((zs.take len).map fun n=>UInt8.ofNat n.toNat).length=len:=by rw [List.length_map,List.length_take]; omega
     refine ⟨_,fun i=>.slc i 0 off len cap,(zs.take len).map fun n=>UInt8.ofNat n.toNat,hold,fun l i G e=>⟨⟨⟨b,0,0⟩,?_,Nat.zero_le _,rfl⟩,.inl (.inr (.inl ⟨i,0,off,cap,by rw [hxl],by rw [hxl]; exact hl,Nat.zero_le _,(List.getElem?_eq_some_iff.1 e).1,.inr ⟨_,off,off+cap,(zgf e).trans rfl,rfl,Nat.le_refl _,?_,fun k hk=>?_⟩⟩))⟩⟩
     · unfold kE
       rw [if_pos rfl,e]
     · rw [bEn.flat,hxl]
       omega
     · rw [bEn.flat,hxl] at hk
       rw [zmk]
       show some (AV.int .u8 (zs.getD (off+k - off) 0))=_
       rw [Nat.add_sub_cancel_left,List.getElem?_map,List.getElem?_take_of_lt (by omega),List.getD_eq_getElem?_getD,List.getElem?_eq_getElem (by omega)]
       show some (AV.int .u8 zs[k])=some (AV.int .u8 (bi (UInt8.ofNat (zs[k]).toNat)))
       rw [bi_of (hwf _ (List.getElem_mem _))]
theorem qN {G:T (T AV)}:Goal P 0 34 (fun x _=>x=AV.bool true) (vD P 34 [] G):=Goal.ofRun mix (n:=100000) (by kernel_rfl) fun _=>rfl
end Go.Proofs.Ytcdigdplhlgcaaa.gx
end
