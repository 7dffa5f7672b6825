import Derived.Test.YtcdigdplhlgcaaaD00
import Derived.Test.YtcdigdplhlgcaaaD01
import Derived.Test.YtcdigdplhlgcaaaD02
import Derived.Test.YtcdigdplhlgcaaaD03
import Derived.Test.YtcdigdplhlgcaaaD04
import Derived.Test.YtcdigdplhlgcaaaD05
import Derived.Test.YtcdigdplhlgcaaaD06
section
set_option maxRecDepth 100000
set_option linter.unusedVariables false
set_option linter.unusedSectionVars false
set_option linter.unusedSimpArgs false
namespace Go.Proofs.Ytcdigdplhlgcaaa.gx
open Go Ev tp
section
variable (sa:AV) (j j2:Int) (sl sl2:AV) (rest:List AFrame) (O:T AObj) (N:Nat) (G:T (T AV)) (i1 i2 i3 i4 i5 i6:Nat) (s1 s2:AV) (z1:Int) (lrq0 lrq1:List UInt8) (i1c i2c i3c i4c i5c i6c:Nat) (s1c s2c:AV) (z1c:Int)
noncomputable def zqd:AFrame:=⟨26,129,(tW (tX tZ (tX tZ (tY (.bool false)))) sa (tX tZ (tX tZ (tY sa)))),   [.ops (rg P 26 [1,0,0]).toList ((rg P 26 [1,0,0]).toList.drop 5),.code (cd P 26 [1,0,1]),.code (cd P 26 [1,1])],[],.run,CallKind.normal,none⟩
noncomputable def zo4:AM:=⟨⟨26,129,(tW (tX tZ (tY (.int .i64 j))) sa (tX (tY sl) tZ)),   [.code (cd P 26 [1,1,1,0,1,0,0]),.inLoop (cd P 26 [1,1,1,0,1,0,0]),.inBlock 0,.code (cd P 26 [1,1,1,1])],[],.run,CallKind.normal,none⟩,rest,⟨O,N,G⟩⟩
noncomputable def zoS:AM:=⟨⟨26,129,(tX (tX (tX (tY (.int .i64 j)) tZ) tZ) (tX (tY sl) (tY sl2))),   [.code (cd P 26 [1,1,1,1,1,0,1,0,0]),.inLoop (cd P 26 [1,1,1,1,1,0,1,0,0]),.inBlock 2,.code (cd P 26 [1,1,1,1,1,1])],[],.run,CallKind.normal,none⟩,rest,⟨O,N,G⟩⟩
noncomputable def Wunc:AM:=⟨⟨26,129,(tX (tX (tX (tY (.int .i64 j)) tZ) tZ) (tX (tW (tY (.int .i64 j2)) sl tZ) (tY sl2))),   [.code (cd P 26 [1,1,1,1,1,0,1,0,0,1,0,0,1,0,0,0]),.inLoop (cd P 26 [1,1,1,1,1,0,1,0,0,1,0,0,1,0,0,0]),.inBlock 4,.code (cd P 26 [1,1,1,1,1,0,1,0,0,1,0,0,1,1]),.inBlock 3,.code (cd P 26 [1,1,1,1,1,0,1,0,0,1,1]),.inLoop (cd P (26:FuncId) [1,1,1,1,1,0,1,0,0]),.inBlock 2,.code (cd P (26:FuncId) [1,1,1,1,1,1])],[],.run,CallKind.normal,none⟩,rest,⟨O,N,G⟩⟩
noncomputable def Wund:AM:=⟨⟨26,129,(tX tZ (tX tZ (tY sl2))),   [.code (cd P (26:FuncId) [1,1,1,1,1,1])],[],.run,CallKind.normal,none⟩,rest,⟨O,N,G⟩⟩
noncomputable def zmQ:AFrame:=⟨26,129,(tX (tX (tX (tW tZ (.int .i64 j) (tX (tX (tY (.ptr i1 i2 i3)) tZ) tZ)) (tX (tX (tX (tY (.bool (decide (j2<z1)))) tZ) tZ) (tX (tX (tY (.int .i64 j)) tZ) tZ))) (tX (tX (tX (tX (tY sl2) tZ) tZ) tZ) (tX (tX (tX (tY sl2) tZ) tZ) (tX (tX (tY s2) tZ) tZ)))) (tX (tW (tW (tX (tX (tY (.int .i64 j2)) tZ) tZ) (.int .i64 j2) (tX (tX (tY s1) tZ) tZ)) sl (tX (tX (tX (tY (.bool true)) tZ) tZ) (tX (tX (tY (.ptr i4 i5 i6)) tZ) tZ))) (tW (tX (tX (tX (tY (.int .i64 z1)) tZ) tZ) (tX (tX (tY sl) tZ) tZ)) sl2 (tX (tX (tX (tY (.int .i64 j2)) tZ) tZ) tZ)))),   [.drw (rg P 26 [1,1,1,1,1,0,1,0,0,1,0,0,1,0,0,0,0,0]) [9,14,15,16] [13,12,11,10,8,7,6,5,4,3,2,1,0],.code (cd P 26 [1,1,1,1,1,0,1,0,0,1,0,0,1,0,0,0,0,1]),.code (cd P 26 [1,1,1,1,1,0,1,0,0,1,0,0,1,0,0,0,1]),.inLoop (cd P (26:FuncId) [1,1,1,1,1,0,1,0,0,1,0,0,1,0,0,0]),.inBlock 4,.code (cd P (26:FuncId) [1,1,1,1,1,0,1,0,0,1,0,0,1,1]),.inBlock 3,.code (cd P (26:FuncId) [1,1,1,1,1,0,1,0,0,1,1]),.inLoop (cd P (26:FuncId) [1,1,1,1,1,0,1,0,0]),.inBlock 2,.code (cd P (26:FuncId) [1,1,1,1,1,1])],[],.run,CallKind.normal,none⟩
noncomputable def Wune:AM:=⟨⟨26,129,(tX (tX (tX (tY (.int .i64 j)) tZ) tZ) (tX (tW (tY (.int .i64 j2)) sl tZ) (tY sl2))),   [.code (cd P (26:FuncId) [1,1,1,1,1,0,1,0,0,1,0,0,1,1]),.inBlock 3,.code (cd P (26:FuncId) [1,1,1,1,1,0,1,0,0,1,1]),.inLoop (cd P (26:FuncId) [1,1,1,1,1,0,1,0,0]),.inBlock 2,.code (cd P (26:FuncId) [1,1,1,1,1,1])],[],.run,CallKind.normal,none⟩,rest,⟨O,N,G⟩⟩
noncomputable def zdW:AFrame:=⟨26,129,(tX (tX (tX (tW tZ (.int .i64 j) (tX (tX (tY (.ptr i1c i2c i3c)) tZ) tZ)) (tX (tX (tX (tY (.bool (decide (j2<z1c)))) tZ) tZ) (tX (tX (tY (.int .i64 j)) tZ) tZ))) (tX (tX (tX (tX (tY sl2) tZ) tZ) (tX (tX (tY (.str lrq0)) tZ) tZ)) (tX (tX (tX (tY sl2) tZ) tZ) (tX (tX (tY s2c) tZ) tZ)))) (tX (tW (tW (tX (tX (tY (.int .i64 j2)) tZ) tZ) (.int .i64 j2) (tX (tX (tY s1c) tZ) tZ)) sl (tX (tX (tX (tY (.bool true)) tZ) tZ) (tX (tX (tY (.ptr i4c i5c i6c)) tZ) tZ))) (tW (tX (tX (tX (tY (.int .i64 z1c)) tZ) tZ) (tX (tX (tY sl) tZ) tZ)) sl2 (tX (tX (tX (tY (.int .i64 j2)) tZ) tZ) tZ)))),   [.drw (rg P (26:FuncId) [1,1,1,1,1,0,1,0,0,1,0,0,1,0,0,0,0,0]) [14,15,16] [9,13,12,11,10,8,7,6,5,4,3,2,1,0],.code (cd P (26:FuncId) [1,1,1,1,1,0,1,0,0,1,0,0,1,0,0,0,0,1]),.code (cd P (26:FuncId) [1,1,1,1,1,0,1,0,0,1,0,0,1,0,0,0,1]),.inLoop (cd P (26:FuncId) [1,1,1,1,1,0,1,0,0,1,0,0,1,0,0,0]),.inBlock 4,.code (cd P (26:FuncId) [1,1,1,1,1,0,1,0,0,1,0,0,1,1]),.inBlock 3,.code (cd P (26:FuncId) [1,1,1,1,1,0,1,0,0,1,1]),.inLoop (cd P (26:FuncId) [1,1,1,1,1,0,1,0,0]),.inBlock 2,.code (cd P (26:FuncId) [1,1,1,1,1,1])],[],.run,CallKind.normal,none⟩
noncomputable def jD:AFrame:=⟨26,129,(tX (tX (tX (tW tZ (.int .i64 j) (tX (tX (tY (.ptr i1c i2c i3c)) tZ) tZ)) (tX (tX (tX (tY (.bool (decide (j2<z1c)))) tZ) tZ) (tX (tX (tY (.int .i64 j)) tZ) tZ))) (tX (tX (tX (tX (tY sl2) tZ) tZ) (tX (tX (tY (.str lrq0)) tZ) tZ)) (tX (tX (tX (tY sl2) tZ) tZ) (tX (tX (tY s2c) tZ) tZ)))) (tX (tW (tW (tX (tX (tY (.int .i64 j2)) tZ) tZ) (.int .i64 j2) (tX (tX (tY s1c) tZ) tZ)) sl (tX (tX (tX (tY (.bool true)) tZ) tZ) (tX (tX (tY (.ptr i4c i5c i6c)) tZ) tZ))) (tW (tX (tX (tX (tY (.int .i64 z1c)) tZ) tZ) (tX (tX (tY sl) tZ) tZ)) sl2 (tX (tX (tX (tY (.int .i64 j2)) tZ) tZ) (tX (tX (tY (.str lrq1)) tZ) tZ))))),   [.drw (rg P (26:FuncId) [1,1,1,1,1,0,1,0,0,1,0,0,1,0,0,0,0,0]) [15,16] [14,9,13,12,11,10,8,7,6,5,4,3,2,1,0],.code (cd P (26:FuncId) [1,1,1,1,1,0,1,0,0,1,0,0,1,0,0,0,0,1]),.code (cd P (26:FuncId) [1,1,1,1,1,0,1,0,0,1,0,0,1,0,0,0,1]),.inLoop (cd P (26:FuncId) [1,1,1,1,1,0,1,0,0,1,0,0,1,0,0,0]),.inBlock 4,.code (cd P (26:FuncId) [1,1,1,1,1,0,1,0,0,1,0,0,1,1]),.inBlock 3,.code (cd P (26:FuncId) [1,1,1,1,1,0,1,0,0,1,1]),.inLoop (cd P (26:FuncId) [1,1,1,1,1,0,1,0,0]),.inBlock 2,.code (cd P (26:FuncId) [1,1,1,1,1,1])],[],.run,CallKind.normal,none⟩
noncomputable def znh:AFrame:=⟨26,129,(tX (tX (tX (tW (tX (tX tZ (tY (.ptr i4 i5 i6))) tZ) (.int .i64 j) (tX tZ (tX (tY (.bool true)) tZ))) (tX (tX tZ (tX (tY (.int .i64 j2)) tZ)) (tX tZ (tX (tY s1) tZ)))) (tX (tX tZ (tX tZ (tX (tY (.int .i64 j2)) tZ))) (tX (tX tZ (tX (tY (.int .i64 z1)) tZ)) (tX tZ (tX (tY sl) tZ))))) (tX (tW (tW (tX (tX tZ (tY s2)) tZ) (.int .i64 j2) (tX tZ (tX (tY sl2) tZ))) sl (tX (tX tZ (tX (tY sl2) tZ)) tZ)) (tW (tX tZ (tX tZ (tX (tY (.ptr i1 i2 i3)) tZ))) sl2 (tX (tX tZ (tX (tY (.bool (decide (j2<z1)))) tZ)) (tX tZ (tX (tY (.int .i64 j)) tZ)))))),   [.drw (rg P 26 [1,1,1,1,1,0,1,0,0,1,0,0,1,1,0,0]) [9,14,15,16] [13,12,11,10,8,7,6,5,4,3,2,1,0],.code (cd P 26 [1,1,1,1,1,0,1,0,0,1,0,0,1,1,0,1]),.code (cd P 26 [1,1,1,1,1,0,1,0,0,1,0,0,1,1,1]),.inBlock 3,.code (cd P (26:FuncId) [1,1,1,1,1,0,1,0,0,1,1]),.inLoop (cd P (26:FuncId) [1,1,1,1,1,0,1,0,0]),.inBlock 2,.code (cd P (26:FuncId) [1,1,1,1,1,1])],[],.run,CallKind.normal,none⟩
noncomputable def Wunf:AM:=⟨⟨26,129,(tX (tX (tX (tY (.int .i64 j)) tZ) tZ) (tX (tW (tY (.int .i64 j2)) sl tZ) (tY sl2))),   [.code (cd P 26 [1,1,1,1,1,0,1,0,0,1,0,0,1,1,1]),.inBlock 3,.code (cd P (26:FuncId) [1,1,1,1,1,0,1,0,0,1,1]),.inLoop (cd P (26:FuncId) [1,1,1,1,1,0,1,0,0]),.inBlock 2,.code (cd P (26:FuncId) [1,1,1,1,1,1])],[],.run,CallKind.normal,none⟩,rest,⟨O,N,G⟩⟩
noncomputable def ze2:AFrame:=⟨26,129,(tX (tX (tX (tW (tX (tX tZ (tY (.ptr i4c i5c i6c))) tZ) (.int .i64 j) (tX tZ (tX (tY (.bool true)) tZ))) (tX (tX tZ (tX (tY (.int .i64 j2)) tZ)) (tX tZ (tX (tY s1c) tZ)))) (tX (tX tZ (tX tZ (tX (tY (.int .i64 j2)) tZ))) (tX (tX tZ (tX (tY (.int .i64 z1c)) tZ)) (tX tZ (tX (tY sl) tZ))))) (tX (tW (tW (tX (tX tZ (tY s2c)) tZ) (.int .i64 j2) (tX tZ (tX (tY sl2) tZ))) sl (tX (tX tZ (tX (tY sl2) tZ)) (tX tZ (tX (tY (.str lrq0)) tZ)))) (tW (tX tZ (tX tZ (tX (tY (.ptr i1c i2c i3c)) tZ))) sl2 (tX (tX tZ (tX (tY (.bool (decide (j2<z1c)))) tZ)) (tX tZ (tX (tY (.int .i64 j)) tZ)))))),   [.drw (rg P (26:FuncId) [1,1,1,1,1,0,1,0,0,1,0,0,1,1,0,0]) [14,15,16] [9,13,12,11,10,8,7,6,5,4,3,2,1,0],.code (cd P (26:FuncId) [1,1,1,1,1,0,1,0,0,1,0,0,1,1,0,1]),.code (cd P (26:FuncId) [1,1,1,1,1,0,1,0,0,1,0,0,1,1,1]),.inBlock 3,.code (cd P (26:FuncId) [1,1,1,1,1,0,1,0,0,1,1]),.inLoop (cd P (26:FuncId) [1,1,1,1,1,0,1,0,0]),.inBlock 2,.code (cd P (26:FuncId) [1,1,1,1,1,1])],[],.run,CallKind.normal,none⟩
noncomputable def znu:AFrame:=⟨26,129,(tX (tX tZ (tX tZ (tX tZ (tX tZ (tX tZ (tY (.ptr N 0 0))))))) tZ),   [.ops (rg P 26 [1,1,1,1,1,1,1,0]).toList ((rg P 26 [1,1,1,1,1,1,1,0]).toList.drop 3),.code (cd P 26 [1,0,1,0,1])],[],.run,CallKind.normal,none⟩
end
section
variable {R:AV→AHeap→Prop} {keep N q i1c i2c i3c i4c i5c i6c Nc:Nat} {f0:FuncId} {rest:List AFrame} {O:T AObj} {sa sl sa2 sl2 s1c s2c prq0:AV} {G:T (T AV)} {K:AM→Prop} {td:List AItem} {blq0 blq2:Bool} {j k2 j2 z1c crq0:Int} {lrq0 lrq1:List UInt8}
theorem t_uni:(∃ (z1:Int),(lN O N G 33 sa z1)∧(((z1==(0:Int)))=true→(K (AM.mk (RF 26 129 (tX (tX (tY (.int .i64 2)) tZ) (tY .nilp)) [.code (cd P 26 [1,0,1,0,1]),.code (cd P 26 [1,1])]) rest ⟨O,N,G⟩)))∧(((z1==(0:Int)))=false→(K (AM.mk (enF 62 [sa]) ((zqd sa)::rest) ⟨O,N,G⟩))))=OT f0 R keep K (.ex fun z1:Int=>(.seq [.run 9,.hopn (.int .i64 z1) O (N),.run 2] (.fork 13 (.seq [.run 12,.keep [2,3]] .fin) (.seq [.run 1,.keep [0,13,14],.run 1] .fin)))) ((AM.mk (enF 26 [sa]) rest ⟨O,N,G⟩)):=by kernel_rfl
theorem zkq:((((!blq0))=true→(K (AM.mk (RF 26 129 (tX (tX (tY (.int .i64 2)) tZ) (tY .nilp)) [.code (cd P 62 [1,0,1,0,0,1,0,0,1,0,1]),.code (cd P (26:FuncId) [1,1])]) rest ⟨O,N,G⟩)))∧(((!blq0))=false→(K (zo4 sa 0 (.nils 0 0) rest O N G))))=OT f0 R keep K (.seq [.run 4] (.fork 17 (.seq [.run 7,.keep [2,3]] .fin) (.seq [.run 13,.keep [0,4,5]] .fin))) ((AM.mk (RF 62 16 (tX tZ (tY (.bool blq0))) td) ((zqd sa)::rest) ⟨O,N,G⟩)):=by kernel_rfl
theorem zmq:(∃ (z1:Int),(lN O N G 33 sa z1)∧((decide (j<z1))=true→(∃ (i1:Nat) (i2:Nat) (i3:Nat),(iX 33 sa j i1 i2 i3)∧(lR O N G i1 i2 i3 (.ptr q 0 0))∧(lC O N G q 0 (.int .i64 k2))∧(((k2==(1:Int)))=true→(∃ (O1:T AObj),(T.set ((some (.cells (tW (tW (tY (.nils 0 0)) (.str []) tZ) (.int .i64 1) (tW (tY .nilp) (.nils 0 0) tZ)) 5 44 0 0 1 0 false .leaf))) (O) (N)=O1)∧K (AM.mk (RF 26 129 (tX (tX (tY (.int .i64 0)) tZ) (tY (.ptr N 0 0))) [.code (cd P 26 [1,0,1,0,1]),.code (cd P 26 [1,1,1,0,1,0,0,1,0,0,1]),.inBlock 1,.code (cd P 26 [1,1,1,0,1,0,0,1,1]),.inLoop (cd P (26:FuncId) [1,1,1,0,1,0,0]),.inBlock 0,.code (cd P (26:FuncId) [1,1,1,1])]) rest ⟨O1,N+1,G⟩)))∧(((k2==(1:Int)))=false→(∃ (i4:Nat) (i5:Nat) (i6:Nat),(iX 33 sa j i4 i5 i6)∧(lR O N G i4 i5 i6 (.ptr q 0 0))∧(lC O N G q 0 (.int .i64 k2))∧(((k2==(9:Int)))=true→(∃ (i7:Nat) (i8:Nat) (i9:Nat) (s1:AV) (O1:T AObj) (N1:Nat),(iX 33 sa j i7 i8 i9)∧(lR O N G i7 i8 i9 (.ptr q 0 0))∧(lC O N G q 3 sa2)∧(zg P (⟨O,N,G⟩) (Builtin.append) ((some 33)) ((some 33)) ([sl,sa2])=(some (.val s1 ⟨O1,N1,G⟩)))∧K (zo4 sa (IntKind.i64.wrap (j+(1:Int))) s1 rest O1 N1 G)))∧(((k2==(9:Int)))=false→(∃ (i7:Nat) (i8:Nat) (i9:Nat) (O1:T AObj) (s1:AV) (O2:T AObj) (N1:Nat),(iX 33 sa j i7 i8 i9)∧(lR O N G i7 i8 i9 (.ptr q 0 0))∧(zf P (⟨O,N,G⟩) (33) (1) ([(0,.ptr q 0 0)])=(some (.slc N 0 0 1 1,⟨O1,N+1,G⟩)))∧(zg P (⟨O1,N+1,G⟩) (Builtin.append) ((some 33)) ((some 33)) ([sl,.slc N 0 0 1 1])=(some (.val s1 ⟨O2,N1,G⟩)))∧K (zo4 sa (IntKind.i64.wrap (j+(1:Int))) s1 rest O2 N1 G)))))))∧((decide (j<z1))=false→(K (zoS 0 sl (.nils 0 0) rest O N G))))=OT f0 R keep K (.ex fun z1:Int=>(.seq [.run 5,.hopn (.int .i64 z1) O (N),.run 2] (.fork 21 (.ex fun i1:Nat=>(.ex fun i2:Nat=>(.ex fun i3:Nat=>(.seq [.run 9,.hopn (.ptr i1 i2 i3) O (N),.hop (.ptr q 0 0) O,.run 2,.hop (.int .i64 k2) O,.run 2] (.fork 31 (.ex fun O1:T AObj=>(.seq [.run 4,.hop (.nilp) O1,.run 4,.keep [2,3]] .fin)) (.ex fun i4:Nat=>(.ex fun i5:Nat=>(.ex fun i6:Nat=>(.seq [.run 6,.hopn (.ptr i4 i5 i6) O (N),.hop (.ptr q 0 0) O,.run 2,.hop (.int .i64 k2) O,.run 2] (.fork 41 (.ex fun i7:Nat=>(.ex fun i8:Nat=>(.ex fun i9:Nat=>(.ex fun s1:AV=>(.ex fun O1:T AObj=>(.ex fun N1:Nat=>(.seq [.run 5,.hopn (.ptr i7 i8 i9) O (N),.hop (.ptr q 0 0) O,.run 2,.hop (sa2) O,.hopn (s1) O1 (N1),.run 9,.keep [0,4,5]] .fin))))))) (.ex fun i7:Nat=>(.ex fun i8:Nat=>(.ex fun i9:Nat=>(.ex fun O1:T AObj=>(.ex fun s1:AV=>(.ex fun O2:T AObj=>(.ex fun N1:Nat=>(.seq [.run 5,.hopn (.ptr i7 i8 i9) O (N),.hop (.ptr q 0 0) O,.hopn (.slc N 0 0 1 1) O1 (N+1),.hopn (s1) O2 (N1),.run 9,.keep [0,4,5]] .fin)))))))))))))))))) (.seq [.run 13,.keep [4,6,7]] .fin)))) ((zo4 sa j sl rest O N G)):=by kernel_rfl
theorem zm2:(∃ (z1:Int),(lN O N G 33 sl z1)∧((decide (j<z1))=true→(K (Wunc j 0 sl sl2 rest O N G)))∧((decide (j<z1))=false→(K (Wund sl2 rest O N G))))=OT f0 R keep K (.ex fun z1:Int=>(.seq [.run 5,.hopn (.int .i64 z1) O (N),.run 2] (.fork 61 (.seq [.run 11,.keep [4,6,7,8]] .fin) (.seq [.run 2,.keep [6]] .fin)))) ((zoS j sl sl2 rest O N G)):=by kernel_rfl
theorem zmr:(∃ (z1:Int),(lN O N G 33 sl2 z1)∧((decide (j2<z1))=true→(∃ (i1:Nat) (i2:Nat) (i3:Nat) (s1:AV) (i4:Nat) (i5:Nat) (i6:Nat) (s2:AV),(iX 33 sl2 j2 i1 i2 i3)∧(lR O N G i1 i2 i3 s1)∧(iX 33 sl j i4 i5 i6)∧(lR O N G i4 i5 i6 s2)∧K (AM.mk (enF 48 [s1]) ((zmQ j j2 sl sl2 i1 i2 i3 i4 i5 i6 s1 s2 z1)::rest) ⟨O,N,G⟩)))∧((decide (j2<z1))=false→(K (Wune j j2 sl sl2 rest O N G))))=OT f0 R keep K (.ex fun z1:Int=>(.seq [.run 5,.hopn (.int .i64 z1) O (N),.run 2] (.fork 68 (.ex fun i1:Nat=>(.ex fun i2:Nat=>(.ex fun i3:Nat=>(.ex fun s1:AV=>(.ex fun i4:Nat=>(.ex fun i5:Nat=>(.ex fun i6:Nat=>(.ex fun s2:AV=>(.seq [.run 2,.hopn (.ptr i1 i2 i3) O (N),.hop (s1) O,.run 2,.hopn (.ptr i4 i5 i6) O (N),.hop (s2) O,.run 1] .fin))))))))) (.seq [.run 15,.keep [4,6,7,8]] .fin)))) ((Wunc j j2 sl sl2 rest O N G)):=by kernel_rfl
theorem zh8:((True)∧(lR O N G i4c i5c i6c s2c)∧(okD 300 s2c=true)∧K (AM.mk (enF 48 [s2c]) ((zdW j j2 sl sl2 lrq0 i1c i2c i3c i4c i5c i6c s1c s2c z1c)::rest) ⟨O,N,G⟩))=OT f0 R keep K (.seq [.hret [.nilp],.run 1] .fin) ((AM.mk (RF 48 146 (tX tZ (tY (.str lrq0))) td) ((zmQ j j2 sl sl2 i1c i2c i3c i4c i5c i6c s1c s2c z1c)::rest) ⟨O,N,G⟩)):=by kernel_rfl
theorem zdy:(K (AM.mk (enF 64 [.str lrq0,.str lrq1]) ((jD j j2 sl sl2 lrq0 lrq1 i1c i2c i3c i4c i5c i6c s1c s2c z1c)::rest) ⟨O,N,G⟩))=OT f0 R keep K (.seq [.run 2] .fin) ((AM.mk (RF 48 146 (tX tZ (tY (.str lrq1))) td) ((zdW j j2 sl sl2 lrq0 i1c i2c i3c i4c i5c i6c s1c s2c z1c)::rest) ⟨O,N,G⟩)):=by kernel_rfl
theorem jZ:(((blq2)=true→(K (Wunc j (IntKind.i64.wrap (j2+(1:Int))) sl sl2 rest O N G)))∧((blq2)=false→(K (Wune j j2 sl sl2 rest O N G))))=OT f0 R keep K (.seq [.run 3] (.fork 80 (.seq [.run 10,.keep [4,6,7,8]] .fin) (.seq [.run 2,.keep [4,6,7,8]] .fin))) ((AM.mk (RF 64 37 (tX tZ (tX (tY (.bool blq2)) tZ)) td) ((jD j j2 sl sl2 lrq0 lrq1 i1c i2c i3c i4c i5c i6c s1c s2c z1c)::rest) ⟨O,N,G⟩)):=by kernel_rfl
theorem zmV:(∃ (z1:Int),(lN O N G 33 sl2 z1)∧((decide (j2<z1))=true→(∃ (i1:Nat) (i2:Nat) (i3:Nat) (s1:AV) (i4:Nat) (i5:Nat) (i6:Nat) (s2:AV),(iX 33 sl2 j2 i1 i2 i3)∧(lR O N G i1 i2 i3 s1)∧(iX 33 sl j i4 i5 i6)∧(lR O N G i4 i5 i6 s2)∧K (AM.mk (enF 48 [s1]) ((znh j j2 sl sl2 i1 i2 i3 i4 i5 i6 s1 s2 z1)::rest) ⟨O,N,G⟩)))∧((decide (j2<z1))=false→(K (Wunf j j2 sl sl2 rest O N G))))=OT f0 R keep K (.ex fun z1:Int=>(.seq [.run 5,.hopn (.int .i64 z1) O (N),.run 2] (.fork 87 (.ex fun i1:Nat=>(.ex fun i2:Nat=>(.ex fun i3:Nat=>(.ex fun s1:AV=>(.ex fun i4:Nat=>(.ex fun i5:Nat=>(.ex fun i6:Nat=>(.ex fun s2:AV=>(.seq [.run 2,.hopn (.ptr i1 i2 i3) O (N),.hop (s1) O,.run 2,.hopn (.ptr i4 i5 i6) O (N),.hop (s2) O,.run 1] .fin))))))))) (.seq [.run 15,.keep [4,6,7,8]] .fin)))) ((Wune j j2 sl sl2 rest O N G)):=by kernel_rfl
theorem zie:((True)∧(lR O N G i4c i5c i6c s2c)∧(okD 300 s2c=true)∧K (AM.mk (enF 48 [s2c]) ((ze2 j j2 sl sl2 lrq0 i1c i2c i3c i4c i5c i6c s1c s2c z1c)::rest) ⟨O,N,G⟩))=OT f0 R keep K (.seq [.hret [.nilp],.run 1] .fin) ((AM.mk (RF 48 146 (tX tZ (tY (.str lrq0))) td) ((znh j j2 sl sl2 i1c i2c i3c i4c i5c i6c s1c s2c z1c)::rest) ⟨O,N,G⟩)):=by kernel_rfl
theorem zcB:((((lrq0==lrq1))=true→(K (zoS (IntKind.i64.wrap (j+(1:Int))) sl sl2 rest O N G)))∧(((lrq0==lrq1))=false→(K (Wunf j j2 sl sl2 rest O N G))))=OT f0 R keep K (.seq [.run 4] (.fork 99 (.seq [.run 8,.keep [4,6,7]] .fin) (.seq [.run 2,.keep [4,6,7,8]] .fin))) ((AM.mk (RF 48 146 (tX tZ (tY (.str lrq1))) td) ((ze2 j j2 sl sl2 lrq0 i1c i2c i3c i4c i5c i6c s1c s2c z1c)::rest) ⟨O,N,G⟩)):=by kernel_rfl
theorem zps:(∃ (s1:AV) (s2:AV) (O1:T AObj) (N1:Nat) (i1:Nat) (i2:Nat) (i3:Nat) (s3:AV) (O2:T AObj) (s4:AV) (O3:T AObj) (N2:Nat) (s5:AV) (s6:AV) (O4:T AObj) (N3:Nat),(xB P (⟨O,N,G⟩) (33) (sl2) (none) ((some j2)) (none)=(some s1))∧(zg P (⟨O,N,G⟩) (Builtin.append) ((some 33)) ((some 33)) ([.nils 0 0,s1])=(some (.val s2 ⟨O1,N1,G⟩)))∧(iX 33 sl j i1 i2 i3)∧(lR O1 N1 G i1 i2 i3 s3)∧(zf P (⟨O1,N1,G⟩) (33) (1) ([(0,s3)])=(some (.slc N1 0 0 1 1,⟨O2,N1+1,G⟩)))∧(zg P (⟨O2,N1+1,G⟩) (Builtin.append) ((some 33)) ((some 33)) ([s2,.slc N1 0 0 1 1])=(some (.val s4 ⟨O3,N2,G⟩)))∧(xB P (⟨O3,N2,G⟩) (33) (sl2) ((some j2)) (none) (none)=(some s5))∧(zg P (⟨O3,N2,G⟩) (Builtin.append) ((some 33)) ((some 33)) ([s4,s5])=(some (.val s6 ⟨O4,N3,G⟩)))∧K (zoS (IntKind.i64.wrap (j+(1:Int))) sl s6 rest O4 N3 G))=OT f0 R keep K (.ex fun s1:AV=>(.ex fun s2:AV=>(.ex fun O1:T AObj=>(.ex fun N1:Nat=>(.ex fun i1:Nat=>(.ex fun i2:Nat=>(.ex fun i3:Nat=>(.ex fun s3:AV=>(.ex fun O2:T AObj=>(.ex fun s4:AV=>(.ex fun O3:T AObj=>(.ex fun N2:Nat=>(.ex fun s5:AV=>(.ex fun s6:AV=>(.ex fun O4:T AObj=>(.ex fun N3:Nat=>(.seq [.run 9,.hop (s1) O,.hopn (s2) O1 (N1),.run 7,.hopn (.ptr i1 i2 i3) O1 (N1),.hop (s3) O1,.hopn (.slc N1 0 0 1 1) O2 (N1+1),.hopn (s4) O3 (N2),.run 6,.hop (s5) O3,.hopn (s6) O4 (N3),.run 9,.keep [4,6,7]] .fin))))))))))))))))) ((Wunf j j2 sl sl2 rest O N G)):=by kernel_rfl
theorem zne:(∃ (z1:Int),(lN O N G 33 sl2 z1)∧(((z1==(1:Int)))=true→(∃ (i1:Nat) (i2:Nat) (i3:Nat) (s1:AV),(iX 33 sl2 0 i1 i2 i3)∧(lR O N G i1 i2 i3 s1)∧K (AM.mk (RF 26 129 (tX (tX (tY (.int .i64 0)) tZ) (tY s1)) [.code (cd P 26 [1,0,1,0,1]),.code (cd P 26 [1,1,1,1,1,1,1])]) rest ⟨O,N,G⟩)))∧(((z1==(1:Int)))=false→(∃ (O1:T AObj),(w7 P (44) ([(0,.int .i64 9),(3,sl2)])=(some (.agg [.int .i64 9,.str [],.nils 0 0,sl2,.nilp])))∧((Nat.beq (5) (AV.agg [AV.int IntKind.i64 (Int.ofNat (9)),AV.str [],AV.nils (0) (0),sl2,AV.nilp]).cells.length&&(AV.agg [AV.int IntKind.i64 (Int.ofNat (9)),AV.str [],AV.nils (0) (0),sl2,AV.nilp]).cells.all AV.one)=true∧T.set (some (AObj.cells (zd T.leaf 0 (AV.agg [AV.int IntKind.i64 (Int.ofNat (9)),AV.str [],AV.nils (0) (0),sl2,AV.nilp]).cells) (AV.agg [AV.int IntKind.i64 (Int.ofNat (9)),AV.str [],AV.nils (0) (0),sl2,AV.nilp]).cells.length 44 0 0 1 0 false T.leaf)) (⟨O,N,G⟩:AHeap).objs N=O1)∧K (AM.mk (enF 65 [.ptr N 0 0]) ((znu N)::rest) ⟨O1,N+1,G⟩))))=OT f0 R keep K (.ex fun z1:Int=>(.seq [.run 4,.hopn (.int .i64 z1) O (N),.run 2] (.fork 119 (.ex fun i1:Nat=>(.ex fun i2:Nat=>(.ex fun i3:Nat=>(.ex fun s1:AV=>(.seq [.run 4,.hopn (.ptr i1 i2 i3) O (N),.hop (s1) O,.run 4,.keep [2,3]] .fin))))) (.ex fun O1:T AObj=>(.seq [.run 5,.hopn (.agg [.int .i64 9,.str [],.nils 0 0,sl2,.nilp]) O (N),.hopn (.nilp) O1 (N),.keep [125],.run 1] .fin))))) ((Wund sl2 rest O N G)):=by kernel_rfl
theorem zck:(K (AM.mk (RF 26 129 (tX (tX (tY (.int .i64 crq0)) tZ) (tY prq0)) [.code (cd P (26:FuncId) [1,0,1,0,1])]) rest ⟨O,N,G⟩))=OT f0 R keep K (.seq [.run 7,.keep [2,3]] .fin) ((AM.mk (RF 65 8 (tX (tX (tY (.int .i64 crq0)) tZ) (tY prq0)) td) ((znu Nc)::rest) ⟨O,N,G⟩)):=by kernel_rfl
end
variable {O O':T AObj} {N:Nat} {G:T (T AV)}
theorem bld9 {s:AV}(h:AV.one s=true):w7 P 44 [(0,.int .i64 9),(3,s)]=some (.agg [.int .i64 9,.str [],.nils 0 0,s,.nilp]):=by
 cases s <;> first | (cases h; done) | kernel_rfl
theorem znY {w z:Ty}(h:okT w=true∧cnt w≤60)(hz:z∈zdj w):okT z=true∧cnt z≤60:=by
 unfold zdj at hz
 split at hz
 · cases w with
   | no=>cases hz
   | mk k nm ns aas r =>
    have hz':z∈aas:=hz
    have:=xu hz'
    have h2:=h.2
    rw [xF] at h2
    exact ⟨(wQ h.1).2.1 z hz',by omega⟩
 · rw [List.mem_singleton] at hz
   rw [hz]
   exact h
theorem zoQ {ts:List Ty}{ps:List (Option Nat)}{sa:AV}{hi:Nat}{mk:Nat→Prop}(hs:SV O 1 pE 0 hi ps sa)(hl:ps.length=ts.length)(hm:ts.length<10000)(ht:∀ (j:Nat) (x:Ty) (p:Option Nat),ts[j]?=some x→ps[j]?=some p→Tra O hi mk x p)(hN:hi≤N)(hmN:∀ j,mk j→j<N){keep:Nat}{f0:FuncId}{Q:AV→AHeap→Prop}{rest:List AFrame}
 (hK:∀ O' N' td p',Ext O N O' N'→Tra O' N' mk (zfC ts).2 p'→Goal P keep f0 Q (AM.mk (RF 26 129 (tX (tX (tY (.int .i64 (zfC ts).1)) tZ) (tY (pv p'))) td) rest ⟨O',N',G⟩)):Goal P keep f0 Q (AM.mk (enF 26 [sa]) rest ⟨O,N,G⟩):=by
 have bad:zfC ts=(2,.no)→∀ O' N' td,Ext O N O' N'→Goal P keep f0 Q (AM.mk (RF 26 129 (tX (tX (tY (.int .i64 2)) tZ) (tY .nilp)) td) rest ⟨O',N',G⟩):=fun e O' N' td ex=>by
  have:=hK O' N' td none ex (by rw [e]; exact Tra.nil)
  rw [e] at this
  exact this
 refine ot t_uni ⟨_,hs.len pSl _ _,fun hc30=>?_,fun hc30=>?_⟩
 ·
  exact bad (by unfold zfC; rw [if_neg (fun h=>h.1 (List.eq_nil_of_length_eq_zero (by have:=eq_of_beq hc30; omega)))]) O N _ Ext.refl
 ·
  have hne:ts≠[]:=fun h=>by
   have:=beq_eq_false_iff_ne.1 hc30
   rw [hl,h] at this
   exact this rfl
  refine ziE hs hl (by omega) (fun j x p a b=>(ht j x p a b).tr) hN fun O1 N1 td1 ex1=>?_
  have nn1:=ex1.1
  refine ot zkq ⟨fun hc18=>?_,fun hc18=>?_⟩
  ·
   exact bad (by unfold zfC; rw [if_neg (fun h=>by rw [h.2] at hc18; cases hc18)]) O1 N1 _ ex1
  ·
   have hok:ts.all (fun x=>chk x==0)=true:=by simpa using hc18
   have oks:∀ z∈ts,okT z=true∧cnt z≤60:=fun z hz=>tp.chk_ok (by simpa using List.all_eq_true.1 hok z hz)
   have stD:∀ (os:List Ty) (rs:List (Option Nat)) (O2:T AObj) (N2:Nat) (sl2:AV),Ext O N O2 N2→SV O2 1 pE N N2 rs sl2→rs.length=os.length→(∀ (j:Nat) (x:Ty) (p:Option Nat),os[j]?=some x→rs[j]?=some p→Tra O hi mk x p)→os.length<1000000→(∀ z∈os,okT z=true∧cnt z≤60)→zfC ts=zoU os→Goal P keep f0 Q (Wund sl2 rest O2 N2 G):=by
    intro os rs O2 N2 sl2 ex vo hrl hr hol hos eU
    have nn:=ex.1
    by_cases h1:os.length=1
    · have hd1:(((os.length:Nat):Int)==(1:Int))=true:=by rw [h1]; rfl
      obtain ⟨z,hz0,_⟩:=nth (l:=os) (j:=0) (by omega)
      obtain ⟨rp,hz,_⟩:=nth (l:=rs) (j:=0) (by omega)
      have e3:zfC ts=(0,z):=by
       rw [eU]
       unfold zoU
       rw [if_pos h1]
       cases os with
       | nil=>simp at h1
       | cons w l=>simp at hz0; rw [hz0]; rfl
      have:=fun td=>hK O2 N2 td rp ex (by rw [e3]; exact (hr 0 z rp hz0 hz).same (fun i h1 _=>ex.2 i (by omega)) (by omega))
      rw [e3] at this
      obtain ⟨i1v,i2v,i3v,loI,hiI,eI,rdI,_⟩:=vo.at pSl pEn hz
      refine ot zne ⟨_,vo.lenE pSl hrl _ _,fkt (hd1) ?_⟩
      exact ⟨_,_,_,(pv rp),eI,rdI.load rfl _ _,this _⟩
    · have hd1:(((os.length:Nat):Int)==(1:Int))=false:=beq_eq_false_iff_ne.2 (by omega)
      obtain ⟨OB,eb,bB,fB⟩:=Obj.box (t:=44) [.int .i64 9,.str [],.nils 0 0,sl2,.nilp] (by simp only [List.all_cons,List.all_nil,Bool.and_true,vo.one]; rfl) O2 N2 5 rfl
      refine ot zne ⟨_,vo.lenE pSl hrl _ _,fkf (hd1) ?_⟩
      refine ⟨_,bld9 vo.one,eb,?_⟩
      have node:Tra OB (N2+1) mk (.mk 9 [] [] os .no) (some N2):=Tra.node (by omega) (fun h=>by have:=hmN _ h; omega) bB SV.nil (fun h=>absurd rfl h) (vo.keep (fun j _ hj=>fB j (by omega)) (Nat.zero_le _) (Nat.le_succ _)) (fun h hA=>by have:=(vo.sid_lt h).1; have:=hmN _ hA; omega) hrl (by omega) (by decide) (fun j x p a b=>(hr j x p a b).same (fun i h1 _=>(fB i (by omega)).trans (ex.2 i (by omega))) (by omega)) Tra.nil
      have exB:Ext O N OB (N2+1):=ex.trans (Ext.new fB)
      refine zkQ (p:=some N2) node.tr (fun h td=>?_) (fun h td=>?_)
      · have e3:zfC ts=(3,.no):=by rw [eU]; unfold zoU zbT; rw [if_neg h1,if_pos h]
        have:=fun td=>hK OB (N2+1) td none exB (by rw [e3]; exact Tra.nil)
        rw [e3] at this
        exact ot zck (this _)
      · have e3:zfC ts=(0,.mk 9 [] [] os .no):=by rw [eU]; unfold zoU zbT; rw [if_neg h1,if_neg (by omega)]
        have:=fun td=>hK OB (N2+1) td (some N2) exB (by rw [e3]; exact node)
        rw [e3] at this
        exact ot zck (this _)
   have stB:∀ (OF:T AObj) (NF:Nat) (fs:List Ty) (qs:List (Option Nat)) (sl:AV),Ext O N OF NF→SV OF 1 pE N NF qs sl→qs.length=fs.length→fs=ts.flatMap zdj→(∀ z∈ts,kd z≠1)→(∀ (j:Nat) (x:Ty) (p:Option Nat),fs[j]?=some x→qs[j]?=some p→Tra O hi mk x p)→fs.length≤60*ts.length→Goal P keep f0 Q (zoS 0 sl (.nils 0 0) rest OF NF G):=by
    intro OF NF fs qs sl exF vF hq hfs hany hrF hfl
    have okf:∀ z∈fs,okT z=true∧cnt z≤60:=fun z hz=>by
     rw [hfs,List.mem_flatMap] at hz
     obtain ⟨w,hw,hz⟩:=hz
     exact znY (oks w hw) hz
    have eU:zfC ts=zoU (zle fs []):=by
     unfold zfC
     rw [if_pos ⟨hne,hok⟩,if_neg (fun h=>by obtain ⟨w,hw,h⟩:=List.any_eq_true.1 h; exact hany w hw (by simpa using h)),hfs]
    have loopB:∀ (k i:Nat) (O2:T AObj) (N2:Nat) (os:List Ty) (rs:List (Option Nat)) (sl2:AV),i+k=fs.length→Ext OF NF O2 N2→SV O2 1 pE N N2 rs sl2→rs.length=os.length→(∀ (j:Nat) (x:Ty) (p:Option Nat),os[j]?=some x→rs[j]?=some p→Tra O hi mk x p)→os.length≤i→(∀ z∈os,okT z=true∧cnt z≤60)→zle fs []=zle (fs.drop i) os→Goal P keep f0 Q (zoS ((i:Nat):Int) sl sl2 rest O2 N2 G):=by
     intro k
     induction k with
     | zero =>
      intro i O2 N2 os rs sl2 hk exB vo hrl hr hil hos hv
      have nnB:=exB.1
      have nnF:=exF.1
      have ex:Ext O N O2 N2:=exF.trans exB
      have vf:=vF.keep (O':=O2) (fun j _ hj=>exB.2 j hj) (Nat.le_refl _) nnB
      rw [List.drop_of_length_le (by omega),zl8] at hv
      rw [hv] at eU
      have nx:=stD os rs O2 N2 sl2 ex vo hrl hr (by omega) hos eU
      refine ot zm2 ⟨_,vf.lenE pSl hq _ _,fkf (decide_eq_false (by omega)) ?_⟩
      exact nx
     | succ k ih0 =>
      intro i O2 N2 os rs sl2 hk exB vo hrl hr hil hos hv
      have nnB:=exB.1
      have nnF:=exF.1
      have ex:Ext O N O2 N2:=exF.trans exB
      have vf:=vF.keep (O':=O2) (fun j _ hj=>exB.2 j hj) (Nat.le_refl _) nnB
      have ih:=fun i=>fun O3 N3 os rs sl2 h1 (h2:Ext O2 N2 O3 N3)=>ih0 i O3 N3 os rs sl2 h1 (exB.trans h2)
      obtain ⟨x,hx,hxm⟩:=nth (l:=fs) (j:=i) (by omega)
      obtain ⟨y,hy,_⟩:=nth (l:=qs) (j:=i) (by omega)
      have okx:=okf x hxm
      have tx0:=hrF i x y hx hy
      rw [zx hx,zjh] at hv
      have after:∀ (a:Nat) (O3:T AObj) (N3:Nat),Ext O2 N2 O3 N3→vI (fun z=>Op.bytesLess (wr z) (wr x)) os=a→Goal P keep f0 Q (Wune ((i:Nat):Int) ((a:Nat):Int) sl sl2 rest O3 N3 G):=by
       intro a O3 N3 ex3 hua
       have nn3:=ex3.1
       have hal:a≤os.length:=hua▸zbo
       rw [hua] at hv
       have vo3:=vo.keep (O':=O3) (fun j _ hj=>ex3.2 j (by omega)) (Nat.le_refl _) (Nat.le_refl _)
       have vf3:=vf.keep (O':=O3) (fun j _ hj=>ex3.2 j (by omega)) (Nat.le_refl _) (Nat.le_refl _)
       have low3:∀ j,j<N→O3.get j=O.get j:=fun j hj=>(ex3.2 j (by omega)).trans (ex.2 j hj)
       have insd:∀ (O3:T AObj) (N3:Nat),Ext O2 N2 O3 N3→(os[a]?).map wr≠some (wr x)→Goal P keep f0 Q (Wunf ((i:Nat):Int) ((a:Nat):Int) sl sl2 rest O3 N3 G):=by
        intro O3 N3 ex3 hne
        have nn3:=ex3.1
        have vo3:=vo.keep (O':=O3) (fun j _ hj=>ex3.2 j (by omega)) (Nat.le_refl _) (Nat.le_refl _)
        have vf3:=vf.keep (O':=O3) (fun j _ hj=>ex3.2 j (by omega)) (Nat.le_refl _) (Nat.le_refl _)
        rw [if_neg hne] at hv
        obtain ⟨r1,r2,r3,lor,hir,eR,rdR,_⟩:=vf3.at pSl pEn hy
        obtain ⟨s1,O4,N4,s2,O5,O6,N6,s3,s4,O7,N7,s5,a1,a2,a3,a4,a5,a6,g6,m1,m2,m3,f3,f5,f6⟩:=za5 pSl pEn vo3 (by omega) (a:=a) (by omega) y (zpw y) (by omega) G
        have nx:=ih (i+1) O7 N7 (ins a x os) (ins a y rs) s5 (by omega) ⟨by omega,fun j hj=>(f6 j (by omega)).trans (ex3.2 j (by omega))⟩ ((g6.sv pEn).keep (fun _ _ _=>rfl) (by omega) (Nat.le_refl _)) (by rw [y0 (by omega),y0 (by omega)]; omega) (zkk hrl hal tx0 hr) (by rw [y0 hal]; omega) (fun z hz=>(zk5.1 hz).elim (fun h=>h▸okx) (hos z)) hv
        rw [← zG (i:=i) (by omega)] at nx
        exact ot zps ⟨_,_,_,_,_,_,_,_,_,_,_,_,_,_,_,_,a1,a2,eR,(rdR.same (f3 _ (by omega))).load rfl _ _,a3,a4,a5,a6,nx⟩
       by_cases hla:a<os.length
       · obtain ⟨z,hz,hzm⟩:=nth (l:=os) (j:=a) hla
         obtain ⟨zp,hzp,_⟩:=nth (l:=rs) (j:=a) (by omega)
         refine ot zmV ⟨_,vo3.lenE pSl hrl _ _,fkt (decide_eq_true (by omega)) ?_⟩
         obtain ⟨i1v,i2v,i3v,lo8,hi8,eA8,rd8,_⟩:=vo3.at pSl pEn hzp
         obtain ⟨i4v,i5v,i6v,lo9,hi9,eA9,rd9,_⟩:=vf3.at pSl pEn hy
         refine ⟨i1v,i2v,i3v,(pv zp),i4v,i5v,i6v,(pv y),eA8,rd8.load rfl _ _,eA9,rd9.load rfl _ _,?_⟩
         have rdF:=rd9
         have tz:=(hr _ _ _ hz hzp).tr.same (O':=O3) (fun j hj=>low3 j (by omega)) (Nat.le_refl _)
         refine vA (cnt z) z zp _ O3 N3 ⟨Nat.le_refl _,(hos z hzm).2⟩ (hos z hzm).1 tz (by omega) fun O4 N4 td4 ex4=>?_
         have nn4:=ex4.1
         have ty4:=tx0.tr.same (O':=O4) (fun j hj=>(ex4.2 j (by omega)).trans (low3 j (by omega))) (Nat.le_refl _)
         refine ot zie ⟨trivial,(rdF.same (ex4.2 _ (by omega))).load rfl _ _,zaS _,?_⟩
         refine vA (cnt x) x y _ O4 N4 ⟨Nat.le_refl _,okx.2⟩ okx.1 ty4 (by omega) fun O5 N5 td5 ex5=>?_
         have nn5:=ex5.1
         refine ot zcB ⟨fun hc11=>?_,fun hc11=>?_⟩
         ·
          have he:=eq_of_beq hc11
          rw [if_pos (by rw [hz,Option.map_some,he])] at hv
          have ex5':=ex3.trans (ex4.trans ex5)
          have nx:=ih (i+1) O5 N5 os rs sl2 (by omega) ex5' (vo.keep (fun j _ hj=>ex5'.2 j (by omega)) (Nat.le_refl _) (by omega)) hrl hr (by omega) hos hv
          rw [← zG (i:=i) (by omega)] at nx
          exact nx
         ·
          have he:=beq_eq_false_iff_ne.1 hc11
          exact insd O5 N5 (ex3.trans (ex4.trans ex5)) (by rw [hz,Option.map_some]; intro h; injection h with h; exact he h)
       · skip
         refine ot zmV ⟨_,vo3.lenE pSl hrl _ _,fkf (decide_eq_false (by omega)) ?_⟩
         exact insd O3 N3 ex3 (by rw [List.getElem?_eq_none (by omega)]; simp)
      have inner:∀ (k' a:Nat) (O3:T AObj) (N3:Nat),a+k'=os.length→Ext O2 N2 O3 N3→(∀ k,k<a→∃ z,os[k]?=some z∧Op.bytesLess (wr z) (wr x)=true)→Goal P keep f0 Q (Wunc ((i:Nat):Int) ((a:Nat):Int) sl sl2 rest O3 N3 G):=by
       intro k'
       induction k' with
       | zero =>
        intro a O3 N3 hk' ex3 hbel
        have nn3:=ex3.1
        have vo3:=vo.keep (O':=O3) (fun j _ hj=>ex3.2 j (by omega)) (Nat.le_refl _) (Nat.le_refl _)
        have nx:=after a O3 N3 ex3 (zaN hbel (.inl (by omega)))
        refine ot zmr ⟨_,vo3.lenE pSl hrl _ _,fkf (decide_eq_false (by omega)) ?_⟩
        exact nx
       | succ k' ih' =>
        intro a O3 N3 hk' ex3 hbel
        have nn3:=ex3.1
        have vo3:=vo.keep (O':=O3) (fun j _ hj=>ex3.2 j (by omega)) (Nat.le_refl _) (Nat.le_refl _)
        have vf3:=vf.keep (O':=O3) (fun j _ hj=>ex3.2 j (by omega)) (Nat.le_refl _) (Nat.le_refl _)
        have low3:∀ j,j<N→O3.get j=O.get j:=fun j hj=>(ex3.2 j (by omega)).trans (ex.2 j hj)
        obtain ⟨z,hz,hzm⟩:=nth (l:=os) (j:=a) (by omega)
        obtain ⟨zp,hzp,_⟩:=nth (l:=rs) (j:=a) (by omega)
        refine ot zmr ⟨_,vo3.lenE pSl hrl _ _,fkt (decide_eq_true (by omega)) ?_⟩
        obtain ⟨i1v,i2v,i3v,lo2,hi2,eA2,rd2,_⟩:=vo3.at pSl pEn hzp
        obtain ⟨i4v,i5v,i6v,lo3,hi3,eA3,rd3,_⟩:=vf3.at pSl pEn hy
        refine ⟨i1v,i2v,i3v,(pv zp),i4v,i5v,i6v,(pv y),eA2,rd2.load rfl _ _,eA3,rd3.load rfl _ _,?_⟩
        have rdF:=rd3
        have tz:=(hr _ _ _ hz hzp).tr.same (O':=O3) (fun j hj=>low3 j (by omega)) (Nat.le_refl _)
        refine vA (cnt z) z zp _ O3 N3 ⟨Nat.le_refl _,(hos z hzm).2⟩ (hos z hzm).1 tz (by omega) fun O4 N4 td4 ex4=>?_
        have nn4:=ex4.1
        have ty4:=tx0.tr.same (O':=O4) (fun j hj=>(ex4.2 j (by omega)).trans (low3 j (by omega))) (Nat.le_refl _)
        refine ot zh8 ⟨trivial,(rdF.same (ex4.2 _ (by omega))).load rfl _ _,zaS _,?_⟩
        refine vA (cnt x) x y _ O4 N4 ⟨Nat.le_refl _,okx.2⟩ okx.1 ty4 (by omega) fun O5 N5 td5 ex5=>?_
        have nn5:=ex5.1
        refine ot zdy ?_
        have w1:=yd (hos z hzm).1 (hos z hzm).2
        have w2:=yd okx.1 okx.2
        refine zhh (wr z) (wr x) (by omega) (by omega) fun td6=>?_
        refine ot jZ ⟨fun hc5=>?_,fun hc5=>?_⟩
        ·
         have nx:=ih' (a+1) O5 N5 (by omega) (ex3.trans (ex4.trans ex5)) (fun k hk=>by
          by_cases hka:k=a
          · exact ⟨z,hka▸hz,hc5⟩
          · exact hbel k (by omega))
         rw [← zG (i:=a) (by omega)] at nx
         exact nx
        ·
         exact after a O5 N5 (ex3.trans (ex4.trans ex5)) (zaN hbel (.inr ⟨z,hz,hc5⟩))
      have nx:=inner os.length 0 O2 N2 (Nat.zero_add _) Ext.refl (fun k h=>absurd h (Nat.not_lt_zero _))
      refine ot zm2 ⟨_,vf.lenE pSl hq _ _,fkt (decide_eq_true (by omega)) ?_⟩
      exact nx
    exact loopB fs.length 0 OF NF [] [] (.nils 0 0) (Nat.zero_add _) Ext.refl SV.nil rfl (fun j x p h=>by simp at h) (Nat.zero_le _) (fun z h=>by cases h) (by rw [List.drop_zero])
   have loopA:∀ (k i:Nat) (O2:T AObj) (N2:Nat) (fs:List Ty) (qs:List (Option Nat)) (sl:AV),i+k=ts.length→Ext O N O2 N2→GV O2 23 1 pE N N2 qs sl→qs.length=fs.length→fs=(ts.take i).flatMap zdj→(∀ z∈ts.take i,kd z≠1) →
    (∀ (j:Nat) (x:Ty) (p:Option Nat),fs[j]?=some x→qs[j]?=some p→Tra O hi mk x p)→fs.length≤60*i→Goal P keep f0 Q (zo4 sa ((i:Nat):Int) sl rest O2 N2 G):=by
    intro k
    induction k with
    | zero =>
     intro i O2 N2 fs qs sl hk ex gv hq hfs hany hr hfl
     have nn:=ex.1
     have hs2:=hs.keep (O':=O2) (fun j _ hj=>ex.2 j (by omega)) (Nat.le_refl 0) (Nat.le_refl hi)
     have hall:ts.take i=ts:=List.take_of_length_le (by omega)
     rw [hall] at hfs hany
     have nx:=stB O2 N2 fs qs sl ex (gv.sv pEn) hq hfs hany hr (by omega)
     refine ot (zmq (q:=0) (k2:=0) (sa2:=.nilp)) ⟨_,hs2.lenE pSl hl _ _,fkf (decide_eq_false (by omega)) ?_⟩
     exact nx
    | succ k ih =>
     intro i O2 N2 fs qs sl hk ex gv hq hfs hany hr hfl
     have nn:=ex.1
     have hNN:N≤N2:=nn
     have hs2:=hs.keep (O':=O2) (fun j _ hj=>ex.2 j (by omega)) (Nat.le_refl 0) (Nat.le_refl hi)
     obtain ⟨x,hx,hxm⟩:=nth (l:=ts) (j:=i) (by omega)
     obtain ⟨y,hy,_⟩:=nth (l:=ps) (j:=i) (by omega)
     have tx0:=ht i x y hx hy
     have okx:=oks x hxm
     cases x with
     | no=>have:=okx.1; rw [qU] at this; cases this
     | mk kx nmx nsx asx rx =>
      obtain ⟨id,snx,sax,psx,qx,rfl,ix,imk,obx0,svn0,mn0,svx0,mx0,lx,lx6,ln6,rx8,tr9⟩:=Tra.inv tx0
      have obx:=obx0.same (ex.2 id (by omega))
      have svx:=svx0.keep (O':=O2) (fun j _ hj=>ex.2 j (by omega)) (Nat.le_refl 0) (Nat.le_refl hi)
      have c60:=okx.2
      rw [xF] at c60
      have cl:=zgq (l:=asx) (fun z hz=>zjw ((wQ okx.1).2.1 z hz))
      refine ot (zmq (q:=id) (k2:=kx) (sa2:=sax)) ⟨_,hs2.lenE pSl hl _ _,fkt (decide_eq_true (by omega)) ?_⟩
      obtain ⟨i1v,i2v,i3v,lo21,hi21,eA21,rd21,_⟩:=hs2.at pSl pEn hy
      refine ⟨i1v,i2v,i3v,eA21,rd21.load rfl _ _,obx.ld 0 rfl,fun hc22=>?_,fun hc22=>?_⟩
      ·
       obtain ⟨O1v,e23,b23,f23⟩:=Obj.mk (c:=(tW (tW (tY (.nils 0 0)) (.str []) tZ) (.int .i64 1) (tW (tY .nilp) (.nils 0 0) tZ))) (el:=44) [(.int .i64 1),(.str []),(.nils 0 0),(.nils 0 0),.nilp] O2 N2 5 rfl (fun u hu=>by rcases u with _ | _ | _ | _ | _ | u <;> first | rfl | omega)
       have b24:=obx.same (f23 _ (by omega))
       refine ⟨O1v,e23,?_⟩
       have tl:Tra O1v (N2+1) mk (.mk 1 [] [] [] .no) (some N2):=Tra.node (ps:=[]) (q:=none) (by omega) (fun h=>by have:=hmN _ h; omega) b23 SV.nil (fun h=>absurd rfl h) SV.nil (fun h=>absurd rfl h) rfl (by decide) (by decide) (fun j x p h=>by simp at h) Tra.nil
       have e1:zfC ts=(0,.mk 1 [] [] [] .no):=by
        unfold zfC
        rw [if_pos ⟨hne,hok⟩,if_pos (List.any_eq_true.2 ⟨_,hxm,by show (kx==1)=true; exact hc22⟩)]
       have:=fun td=>hK O1v (N2+1) td (some N2) (ex.trans (Ext.new f23)) (by rw [e1]; exact tl)
       rw [e1] at this
       exact this _
      ·
       obtain ⟨i4v,i5v,i6v,lo25,hi25,eA25,rd25,_⟩:=hs2.at pSl pEn hy
       refine ⟨i4v,i5v,i6v,eA25,rd25.load rfl _ _,obx.ld 0 rfl,fun hc26=>?_,fun hc26=>?_⟩
       ·
        obtain ⟨i7v,i8v,i9v,lo27,hi27,eA27,rd27,_⟩:=hs2.at pSl pEn hy
        have hk1:kd (.mk kx nmx nsx asx rx)≠1:=by show ¬ kx=1; simpa using hc22
        have hx9:zdj (.mk kx nmx nsx asx rx)=asx:=by unfold zdj; rw [if_pos (by show kx=9; simpa using hc26)]; rfl
        obtain ⟨O3,N3,s3,ea,g3,m1,m2,f3,_⟩:=gv.app pSl pEn svx hNN (by rw [lx,hq]; omega) G
        have low3:∀ j,j<N→O3.get j=O2.get j:=fun j hj=>f3 j (by omega) (fun h=>by have:=(gv.sid_lt h).1; omega)
        have nx:=ih (i+1) O3 N3 (fs++asx) (qs++psx) s3 (by omega) ⟨by omega,fun j hj=>(low3 j hj).trans (ex.2 j hj)⟩ g3 (by rw [List.length_append,List.length_append,hq,lx]) (by rw [kQ hx,List.flatMap_append,← hfs,List.flatMap_cons,hx9]; simp) (fun z hz=>by rw [kQ hx,List.mem_append,List.mem_singleton] at hz; exact hz.elim (hany z) (fun h=>by rw [h]; exact hk1)) (zcz hq hr (fun j x p a b=>(rx8 j x p a b))) (by rw [List.length_append]; have:=c60; omega)
        rw [← zG (i:=i) (by omega)] at nx
        exact ⟨i7v,i8v,i9v,_,_,_,eA27,rd27.load rfl _ _,obx.ld 3 rfl,ea,nx⟩
       ·
        obtain ⟨i7v,i8v,i9v,lo28,hi28,eA28,rd28,_⟩:=hs2.at pSl pEn hy
        have hk1:kd (.mk kx nmx nsx asx rx)≠1:=by show ¬ kx=1; simpa using hc22
        have hx9:zdj (.mk kx nmx nsx asx rx)=[.mk kx nmx nsx asx rx]:=by unfold zdj; rw [if_neg (by show ¬ kx=9; simpa using hc26)]
        obtain ⟨OL,el,vL,_,fL⟩:=zaW pEn (some id) O2 N2 G (st:=33) (el:=23) (zpw (some id))
        have gvL:=gv.keep (O':=OL) (fun j h1 h2=>fL j (by omega)) (Nat.le_refl _) (Nat.le_succ N2)
        obtain ⟨O3,N3,s3,ea,g3,m1,m2,f3,_⟩:=gvL.app pSl pEn vL (by omega) (by rw [hq]; simp only [List.length_cons,List.length_nil]; omega) G
        have low3:∀ j,j<N→O3.get j=O2.get j:=fun j hj=>(f3 j (by omega) (fun h=>by have:=(gv.sid_lt h).1; omega)).trans (fL j (by omega))
        have nx:=ih (i+1) O3 N3 (fs++[.mk kx nmx nsx asx rx]) (qs++[some id]) s3 (by omega) ⟨by omega,fun j hj=>(low3 j hj).trans (ex.2 j hj)⟩ g3 (by rw [List.length_append,List.length_append,hq]; rfl) (by rw [kQ hx,List.flatMap_append,← hfs,List.flatMap_cons,hx9]; simp) (fun z hz=>by rw [kQ hx,List.mem_append,List.mem_singleton] at hz; exact hz.elim (hany z) (fun h=>by rw [h]; exact hk1)) (zcz hq hr (fun j x p a b=>by rcases j with _ | j <;> simp at a b; subst a; subst b; exact tx0)) (by rw [List.length_append]; simp only [List.length_cons,List.length_nil]; omega)
        rw [← zG (i:=i) (by omega)] at nx
        exact ⟨i7v,i8v,i9v,_,_,_,_,eA28,rd28.load rfl _ _,el,ea,nx⟩
   exact loopA ts.length 0 O1 N1 [] [] (.nils 0 0) (Nat.zero_add _) ex1 GV.nil rfl rfl (fun z hz=>by simp at hz) (fun j x p h=>by simp at h) (by simp)
end Go.Proofs.Ytcdigdplhlgcaaa.gx
end
section
set_option maxRecDepth 100000
set_option linter.unusedVariables false
set_option linter.unusedSectionVars false
namespace Go.Proofs.Ytcdigdplhlgcaaa.gx
open Go Ev tp
variable {O O':T AObj} {N:Nat} {G:T (T AV)}
def AvS (A:Nat→Prop) (s:AV) (j:Nat):Prop:=A j∨(s≠.nils 0 0∧j=sid s)
theorem AvS.nil {A:Nat→Prop}{j:Nat}(h:AvS A (.nils 0 0) j):A j:=h.elim id fun h=>absurd rfl h.1
theorem zkm {A:Nat→Prop}{lo:Nat}{ts:List Ty}{ps:List (Option Nat)}{s:AV}{t:Ty}{p:Option Nat}(gv:GV O 23 1 pE lo N ps s)(hlo:lo≤N)(hl:ps.length=ts.length)(hn:ts.length<1000)(hr:∀ (j:Nat) (x:Ty) (p:Option Nat),ts[j]?=some x→ps[j]?=some p→Tra O N (AvS A s) x p)(tx:Tra O N (AvS A s) t p)(G:T (T AV)) :
 ∃ O1 s1 O2 N1,zf P ⟨O,N,G⟩ 33 1 [(0,pv p)]=some (.slc N 0 0 1 1,⟨O1,N+1,G⟩)∧zg P ⟨O1,N+1,G⟩ .append (some 33) (some 33) [s,.slc N 0 0 1 1]=some (.val s1 ⟨O2,N1,G⟩)∧GV O2 23 1 pE lo N1 (ps++[p]) s1∧N≤N1∧(∀ j,j<N→(s≠.nils 0 0→j≠sid s)→O2.get j=O.get j) ∧
  (∀ (j:Nat) (x:Ty) (q:Option Nat),(ts++[t])[j]?=some x→(ps++[p])[j]?=some q→Tra O2 N1 (AvS A s1) x q):=by
 obtain ⟨O1,e1,v1,_,f1⟩:=zaW pEn p O N G (st:=33) (el:=23) (zpw p)
 have g1:=gv.keep (O':=O1) (fun j h1 h2=>f1 j (by omega)) (Nat.le_refl _) (Nat.le_succ N)
 obtain ⟨O2,N1,s1,e2,g2,n1,n2,f2,hs⟩:=g1.app pSl pEn v1 (by omega) (by rw [hl]; simp only [List.length_cons,List.length_nil]; omega) G
 have lo2:∀ j,j<N→(s≠.nils 0 0→j≠sid s)→O2.get j=O.get j:=fun j hj hs=>(f2 j (by omega) hs).trans (f1 j (by omega))
 have mv:∀ {x:Ty} {q:Option Nat},Tra O N (AvS A s) x q→Tra O2 N1 (AvS A s1) x q:=fun h =>
  ((h.same (fun j hj hb=>lo2 j hj fun hs hj=>hb (.inr ⟨hs,hj⟩)) (Nat.le_refl _)).imp fun j hj hb=>by
   rcases hb with hb | ⟨h1,h2⟩
   · exact .inl hb
   · rcases hs with h | h | ⟨h3,h⟩
     · exact absurd h h1
     · omega
     · exact .inr ⟨h3,by omega⟩).same (fun _ _ _=>rfl) (by omega)
 exact ⟨O1,s1,O2,N1,e1,e2,g2,by omega,lo2,zcz hl (fun j x y a b=>mv (hr j x y a b)) (fun j x y a b=>by
  rcases j with _ | j <;> simp at a b
  subst a
  subst b
  exact mv tx)⟩
end Go.Proofs.Ytcdigdplhlgcaaa.gx
end
section
set_option maxRecDepth 100000
set_option linter.unusedVariables false
set_option linter.unusedSectionVars false
set_option linter.unusedSimpArgs false
namespace Go.Proofs.Ytcdigdplhlgcaaa.gx
open Go Ev tp
section
variable {R:AV→AHeap→Prop} {keep N mk Nc:Nat} {f0:FuncId} {rest:List AFrame} {O:T AObj} {e n crq0 j nn crq2 crq3:Int} {s1 sl2 prq0 prq1 prq2 s1c prq3 prq4:AV} {G:T (T AV)} {K:AM→Prop} {td:List AItem}
end
variable {O O':T AObj} {N:Nat} {G:T (T AV)}
theorem MKo.mk {hi mk:Nat}{an:Bool}{xs:List UInt8}{n2:Int}{sl:AV}(sv:SVe O hi xs sl)(hmk:hi≤mk)(f:Frm O O' mk)(ob:Obj O' mk [sl,.int .i64 n2,.bool an]):MKo O' hi mk xs n2 an :=
 ⟨sl,ob,sv.keep (fun j hj=>f j (by omega))⟩
end Go.Proofs.Ytcdigdplhlgcaaa.gx
end
section
set_option maxRecDepth 100000
set_option linter.unusedVariables false
set_option linter.unusedSectionVars false
set_option linter.unusedSimpArgs false
namespace Go.Proofs.Ytcdigdplhlgcaaa.gx
open Go Ev tp
section
variable (q:Nat) (crq0 k2:Int) (sa2 rp2:AV) (n j j2:Int) (mk:Nat) (prq0:AV) (crq1:Int) (prq1:AV) (z2:Int) (s1 s2 sn2 sl sl2:AV) (rest:List AFrame) (O:T AObj) (N:Nat) (G:T (T AV))
end
section
variable {R:AV→AHeap→Prop} {keep N q mk Nc:Nat} {f0:FuncId} {rest:List AFrame} {O:T AObj} {n j crq0 crq1 z2c k2 j2:Int} {G:T (T AV)} {K:AM→Prop} {sl sl2 sn2 sa2 prq0 prq1 prq2 rp2 s1c s2c:AV} {td:List AItem}
end
variable {O O':T AObj} {N:Nat} {G:T (T AV)}
theorem zl6 {p:Option Nat}:(pv p).cells=[pv p]:=by cases p <;> rfl
end Go.Proofs.Ytcdigdplhlgcaaa.gx
end
section
set_option maxRecDepth 100000
set_option linter.unusedVariables false
set_option linter.unusedSectionVars false
namespace Go.Proofs.Ytcdigdplhlgcaaa.gx
open Go Ev tp
theorem bi_of {n:Int}(h:(Lit.int .u8 n).wf=true):bi (UInt8.ofNat n.toNat)=n:=by
 have hb:0≤n∧n≤255:=by
  have:=bounds_u8 h
  omega
 unfold bi
 rw [UInt8.toNat_ofNat']
 omega
theorem zfP {l:List Inp}{G:T (T AV)}{i:Nat}{x:Inp}(h:l[i]?=some x):(jj l G).objs.get i=x.obj:=by
 show (vv l 0 .leaf).get i=_
 rw [vK,if_pos ⟨Nat.zero_le _,by have:=(List.getElem?_eq_some_iff.1 h).1; omega⟩,Nat.sub_zero,h]
 rfl
theorem zl4 {xs:List UInt8}:∀ {k:Nat},(xs.flatMap bE)[k]?=xs[k]?.map fun c=>AV.int .u8 (bi c):=by
 induction xs with
 | nil=>intro k; simp
 | cons x xs ih =>
  intro k
  rw [List.flatMap_cons]
  cases k with
  | zero=>rfl
  | succ k =>
   show ([AV.int .u8 (bi x)]++xs.flatMap bE)[k+1]?=_
   rw [List.cons_append,List.nil_append,List.getElem?_cons_succ,List.getElem?_cons_succ]
   exact ih
theorem zlt {w:World}{v:Value}(h:v=.slice none 0 0∨∃ (a:Addr) (len cap:Nat) (zs:List Int),v=.slice (some a) len cap∧len≤cap∧cap≤maxLen∧zs.length=cap∧(∀ i,i<zs.length→w.cell? (a.add i)=some (.int .u8 (zs.getD i 0)))∧(∀ n∈zs,(Lit.int .u8 n).wf=true)) :
 ∃ (x:Inp) (s:Nat→AV) (xs:List UInt8),x.holds w∧∀ (l:List Inp) (i:Nat) (G:T (T AV)),l[i]?=some x→VRel (kg l) (s i) v∧SVe (jj l G).objs l.length xs (s i):=by
 rcases h with rfl | ⟨a,len,cap,zs,rfl,hl,_,hz,hc,hwf⟩
 · exact ⟨⟨false,0,.leaf,0,0⟩,fun _=>.nils 0 0,[],fun h=>(by cases h),fun l i G e=>⟨rfl,.inl SV.nil⟩⟩
 · by_cases h0:cap=0
   · subst h0
     obtain rfl:len=0:=by omega
     exact ⟨⟨false,0,.leaf,0,0⟩,fun _=>.sle,[],fun h=>(by cases h),fun l i G e=>⟨⟨a,rfl⟩,.inr ⟨rfl,rfl⟩⟩⟩
   · obtain ⟨b,off,rfl,hold⟩:=zqI (w:=w) (a:=a) (n:=cap) (f:=fun i=>.int .u8 (zs.getD i 0)) (g:=fun i=>.int .u8 (zs.getD i 0)) (fun i hi=>hc i (by omega)) (fun i _=>rfl) (by omega)
     have hxl:((zs.take len).map fun n=>UInt8.ofNat n.toNat).length=len:=by rw [List.length_map,List.length_take]; omega
     refine ⟨_,fun i=>.slc i 0 off len cap,(zs.take len).map fun n=>UInt8.ofNat n.toNat,hold,fun l i G e=>⟨⟨⟨b,0,0⟩,?_,Nat.zero_le _,rfl⟩,.inl (.inr (.inl ⟨i,0,off,cap,by rw [hxl],by rw [hxl]; exact hl,Nat.zero_le _,(List.getElem?_eq_some_iff.1 e).1,.inr ⟨_,off,off+cap,(zfP e).trans rfl,rfl,Nat.le_refl _,?_,fun k hk=>?_⟩⟩))⟩⟩
     · unfold kg
       rw [if_pos rfl,e]
     · rw [bEn.flat,hxl]
       omega
     · rw [bEn.flat,hxl] at hk
       rw [zl4]
       show some (AV.int .u8 (zs.getD (off+k - off) 0))=_
       rw [Nat.add_sub_cancel_left,List.getElem?_map,List.getElem?_take_of_lt (by omega),List.getD_eq_getElem?_getD,List.getElem?_eq_getElem (by omega)]
       show some (AV.int .u8 zs[k])=some (AV.int .u8 (bi (UInt8.ofNat (zs[k]).toNat)))
       rw [bi_of (hwf _ (List.getElem_mem _))]
end Go.Proofs.Ytcdigdplhlgcaaa.gx
end
section
set_option maxRecDepth 100000
set_option linter.unusedVariables false
set_option linter.unusedSectionVars false
set_option linter.unusedSimpArgs false
namespace Go.Proofs.Ytcdigdplhlgcaaa.gx
open Go Ev tp
section
variable (sa s1 s1c:AV) (N:Nat)
noncomputable def Frfx:AFrame:=⟨28,31,(tW (tW (tX (tY sa) tZ) s1 tZ) sa tZ),   [.ops (rg P 28 [1,0,0]).toList ((rg P 28 [1,0,0]).toList.drop 1),.code (cd P 28 [1,0,1]),.code (cd P 28 [1,1])],[],.run,CallKind.normal,none⟩
noncomputable def zhb:AFrame:=⟨28,31,(tW (tW (tX tZ (tY s1c)) s1c tZ) sa (tX tZ (tX (tY (.bool false)) tZ))),   [.ops (rg P (28:FuncId) [1,0,0]).toList ((rg P (28:FuncId) [1,0,0]).toList.drop 5),.code (cd P (28:FuncId) [1,0,1]),.code (cd P (28:FuncId) [1,1])],[],.run,CallKind.normal,none⟩
noncomputable def jO:AFrame:=⟨28,31,(tX (tX (tX tZ (tX tZ (tY (.ptr N 0 0)))) tZ) tZ),   [.ops (rg P 28 [1,1,1,1,0]).toList ((rg P 28 [1,1,1,1,0]).toList.drop 1),.code (cd P 13 [1,0,1,0,1])],[],.run,CallKind.normal,none⟩
end
section
variable {R:AV→AHeap→Prop} {keep N Nc:Nat} {f0:FuncId} {rest:List AFrame} {O:T AObj} {sa s1 s1c prq2:AV} {G:T (T AV)} {K:AM→Prop} {td:List AItem} {blq0:Bool} {crq1 crq2:Int}
theorem t_rfx:(K (AM.mk (enF 62 [sa]) ((Frfx sa s1)::rest) ⟨O,N,G⟩))=OT f0 R keep K (.seq [.run 9,.keep [0,1,7],.run 1] .fin) ((AM.mk (enF 28 [sa,s1]) rest ⟨O,N,G⟩)):=by kernel_rfl
theorem zlC:((((!blq0))=true→(K (AM.mk (RF 28 31 (tX (tX tZ (tY (.int .i64 2))) (tX (tY .nilp) tZ)) [.code (cd P 62 [1,0,1,0,0,1,0,0,1,0,1]),.code (cd P (28:FuncId) [1,1])]) rest ⟨O,N,G⟩)))∧(((!blq0))=false→(K (AM.mk (enF 13 [s1c]) ((zhb sa s1c)::rest) ⟨O,N,G⟩))))=OT f0 R keep K (.seq [.run 3] (.fork 10 (.seq [.run 12,.keep [4,5]] .fin) (.seq [.run 1,.keep [0,1,10,11],.run 1] .fin))) ((AM.mk (RF 62 16 (tX tZ (tY (.bool blq0))) td) ((Frfx sa s1c)::rest) ⟨O,N,G⟩)):=by kernel_rfl
theorem zdY:((((crq1 != (0:Int)))=true→(K (AM.mk (RF 28 31 (tX (tX tZ (tY (.int .i64 2))) (tX (tY .nilp) tZ)) [.code (cd P 13 [1,0,1,0,1]),.code (cd P (28:FuncId) [1,1])]) rest ⟨O,N,G⟩)))∧(((crq1 != (0:Int)))=false→(∃ (O1:T AObj) (s1:AV) (O2:T AObj) (N1:Nat) (O3:T AObj),(w7 P (44) ([(0,.int .i64 8),(4,s1c)])=(some (.agg [.int .i64 8,.str [],.nils 0 0,.nils 0 0,s1c])))∧((Nat.beq (5) (AV.agg [AV.int IntKind.i64 (Int.ofNat (8)),AV.str [],AV.nils (0) (0),AV.nils (0) (0),s1c]).cells.length&&(AV.agg [AV.int IntKind.i64 (Int.ofNat (8)),AV.str [],AV.nils (0) (0),AV.nils (0) (0),s1c]).cells.all AV.one)=true∧T.set (some (AObj.cells (zd T.leaf 0 (AV.agg [AV.int IntKind.i64 (Int.ofNat (8)),AV.str [],AV.nils (0) (0),AV.nils (0) (0),s1c]).cells) (AV.agg [AV.int IntKind.i64 (Int.ofNat (8)),AV.str [],AV.nils (0) (0),AV.nils (0) (0),s1c]).cells.length 44 0 0 1 0 false T.leaf)) (⟨O,N,G⟩:AHeap).objs N=O1)∧(lC O1 (N+1) G N 3 (.nils 0 0))∧(zg P (⟨O1,N+1,G⟩) (Builtin.append) ((some 33)) ((some 33)) ([.nils 0 0,sa])=(some (.val s1 ⟨O2,N1,G⟩)))∧(s1.cells.length.beq (1)=true∧zb (⟨O2,N1,G⟩:AHeap) N (0) (3) s1.cells=some (⟨O3,N1,G⟩:AHeap))∧K (AM.mk (enF 65 [.ptr N 0 0]) ((jO N)::rest) ⟨O3,N1,G⟩))))=OT f0 R keep K (.seq [.run 4] (.fork 14 (.seq [.run 7,.keep [4,5]] .fin) (.ex fun O1:T AObj=>(.ex fun s1:AV=>(.ex fun O2:T AObj=>(.ex fun N1:Nat=>(.ex fun O3:T AObj=>(.seq [.run 5,.hopn (.agg [.int .i64 8,.str [],.nils 0 0,.nils 0 0,s1c]) O (N),.hopn (.nilp) O1 (N),.run 8,.hop (.nils 0 0) O1,.run 1,.hopn (s1) O2 (N1),.run 2,.hopn (.nilp) O3 (N1),.run 4,.keep [27],.run 1] .fin)))))))) ((AM.mk (RF 13 11 (tX tZ (tY (.int .i64 crq1))) td) ((zhb sa s1c)::rest) ⟨O,N,G⟩)):=by kernel_rfl
theorem qY:(K (AM.mk (RF 28 31 (tX (tX tZ (tY (.int .i64 crq2))) (tX (tY prq2) tZ)) [.code (cd P (13:FuncId) [1,0,1,0,1])]) rest ⟨O,N,G⟩))=OT f0 R keep K (.seq [.run 7,.keep [4,5]] .fin) ((AM.mk (RF 65 8 (tX (tX (tY (.int .i64 crq2)) tZ) (tY prq2)) td) ((jO Nc)::rest) ⟨O,N,G⟩)):=by kernel_rfl
end
variable {O O':T AObj} {N:Nat} {G:T (T AV)}
def zm6 (ts:List Ty) (r:Ty):Int × Ty:=if ts.all (fun x=>chk x==0)=true∧chk r=0 then zbT (.mk 8 [] [] ts r) else (2,.no)
theorem zlF {ts:List Ty}{ps:List (Option Nat)}{sa:AV}{r:Ty}{q:Option Nat}{hi:Nat}{mk:Nat→Prop}(hs:SV O 1 pE 0 hi ps sa)(hl:ps.length=ts.length)(hm:ts.length<1000000)(ht:∀ (j:Nat) (x:Ty) (p:Option Nat),ts[j]?=some x→ps[j]?=some p→Tra O hi mk x p)(tr:Tra O hi mk r q)(hN:hi≤N)(hmN:∀ j,mk j→j<N){keep:Nat}{f0:FuncId}{Q:AV→AHeap→Prop}{rest:List AFrame}
 (hK:∀ O' N' td p',Ext O N O' N'→Tra O' N' mk (zm6 ts r).2 p'→Goal P keep f0 Q (AM.mk (RF 28 31 (tX (tX tZ (tY (.int .i64 (zm6 ts r).1))) (tX (tY (pv p')) tZ)) td) rest ⟨O',N',G⟩)):Goal P keep f0 Q (AM.mk (enF 28 [sa,pv q]) rest ⟨O,N,G⟩):=by
 have bad:¬ (ts.all (fun x=>chk x==0)=true∧chk r=0)→∀ O' N' td,Ext O N O' N'→Goal P keep f0 Q (AM.mk (RF 28 31 (tX (tX tZ (tY (.int .i64 2))) (tX (tY .nilp) tZ)) td) rest ⟨O',N',G⟩):=fun e O' N' td ex=>by
  have h:zm6 ts r=(2,.no):=if_neg e
  have:=hK O' N' td none ex (by rw [h]; exact Tra.nil)
  rw [h] at this
  exact this
 refine ot t_rfx ?_
 refine ziE hs hl hm (fun j x p a b=>(ht j x p a b).tr) hN fun O1 N1 td1 ex1=>?_
 refine ot zlC ⟨fun hb=>bad (fun h=>by rw [h.1] at hb; cases hb) O1 N1 _ ex1,fun hb=>?_⟩
 have tr1:=tr.same (O':=O1) (fun j hj _=>ex1.2 j (by omega)) (Nat.le_refl _)
 refine zjK tr1.tr (Nat.le_trans hN ex1.1) fun O2 N2 td2 ex2=>?_
 have ex:=ex1.trans ex2
 have nn:=ex.1
 refine ot zdY ⟨fun hc=>bad (fun h=>by rw [h.2] at hc; cases hc) O2 N2 _ ex,fun hc=>?_⟩
 have good:zm6 ts r=zbT (.mk 8 [] [] ts r):=if_pos ⟨by simpa using hb,by simpa using hc⟩
 obtain ⟨O3,e3,b3,f3⟩:=Obj.box (t:=44) [.int .i64 8,.str [],.nils 0 0,.nils 0 0,pv q] (by cases q <;> rfl) O2 N2 5 rfl
 have sv3:=hs.keep (O':=O3) (fun j _ hj=>(f3 j (by omega)).trans (ex.2 j (by omega))) (Nat.le_refl 0) (Nat.le_refl hi)
 have g3:GV O3 23 1 pE (N2+1) (N2+1) ([]:List (Option Nat)) (.nils 0 0):=GV.nil
 obtain ⟨O4,N4,s4,e4,g4,n4,n4',f4,_⟩:=g3.app pSl pEn sv3 (Nat.le_refl _) (by rw [hl]; simp only [List.length_nil]; omega) G
 rw [List.nil_append] at g4
 have b4:=b3.same (f4 N2 (by omega) (fun h=>absurd rfl h))
 obtain ⟨O5,e5,b5,f5⟩:=b4.store 3 [s4] N4 G (Nat.le_of_ble_eq_true rfl) (by simp only [List.all_cons,List.all_nil,Bool.and_true]; exact (g4.sv pEn).one)
 have sid4:s4≠.nils 0 0→N2+1≤sid s4:=fun h=>(g4.sid_lt h).1
 have lo5:∀ j,j<N2→O5.get j=O2.get j:=fun j hj=>(f5 j (by omega)).trans ((f4 j (by omega) (fun h=>absurd rfl h)).trans (f3 j (by omega)))
 have ex5:Ext O N O5 N4:=⟨by omega,fun j hj=>(lo5 j (by omega)).trans (ex.2 j hj)⟩
 have node:Tra O5 N4 mk (.mk 8 [] [] ts r) (some N2):=Tra.node (by omega) (fun h=>by have:=hmN _ h; omega) b5 SV.nil (fun h=>absurd rfl h) ((g4.sv pEn).same (fun h=>f5 _ (by have:=sid4 h; omega)) (Nat.zero_le _) (Nat.le_refl _)) (fun h hA=>by have:=sid4 h; have:=hmN _ hA; omega) hl hm (by decide) (fun j x p a b=>(ht j x p a b).same (fun i h1 _=>ex5.2 i (by omega)) (by omega)) (tr.same (fun i h1 _=>ex5.2 i (by omega)) (by omega))
 refine ⟨_,_,_,_,_,bld44,e3,b3.ld 3 rfl,e4,(by rw [(g4.sv pEn).cells]; exact ⟨rfl,e5⟩),?_⟩
 refine zkQ (p:=some N2) node.tr (fun h td=>?_) (fun h td=>?_)
 · have e3:zm6 ts r=(3,.no):=by rw [good]; unfold zbT; rw [if_pos h]
   have:=fun td=>hK O5 N4 td none ex5 (by rw [e3]; exact Tra.nil)
   rw [e3] at this
   exact ot qY (this _)
 · have e3:zm6 ts r=(0,.mk 8 [] [] ts r):=by rw [good]; unfold zbT; rw [if_neg (by omega)]
   have:=fun td=>hK O5 N4 td (some N2) ex5 (by rw [e3]; exact node)
   rw [e3] at this
   exact ot qY (this _)
end Go.Proofs.Ytcdigdplhlgcaaa.gx
end
section
set_option maxRecDepth 100000
set_option linter.unusedVariables false
set_option linter.unusedSectionVars false
set_option linter.unusedSimpArgs false
namespace Go.Proofs.Ytcdigdplhlgcaaa.gx
open Go Ev tp
noncomputable def znt (q:Nat) (k2:Int) (sn2:AV) (sa2:AV):AFrame:=⟨84,44,(tW (tX (tW (tW (tY (.ptr q 0 0)) (.int .i64 k2) tZ) (.int .i64 0) (tY (.ptr q 0 0))) (tW (tW (tY sa2) (.bool (k2==(7:Int))) tZ) (.ptr q 0 0) (tY sn2))) (.ptr q 0 0) (tW (tW (tW (tY (.ptr q 0 3)) (.bool true) tZ) (.ptr q 0 0) (tY (.ptr q 0 2))) .nilp (tW (tY (.ptr q 0 0)) (.ptr q 0 0) (tY (.ptr q 0 0))))),   [.drw (rg P 84 [1,0,1,0,1,0,0]) [8,9,10,11,12] [7,6,5,4,3,2,1,0],.code (cd P 84 [1,0,1,0,1,0,1]),.inBlock 0,.code (cd P 84 [1,1])],[],.run,CallKind.normal,none⟩
noncomputable def ziI (q:Nat) (k2:Int) (sa2:AV) (rp2:AV):AFrame:=⟨84,44,(tW (tX (tW (tW tZ (.int .i64 k2) (tY (.ptr q 0 0))) (.int .i64 0) (tX tZ (tY (.ptr q 0 0)))) (tW (tW tZ (.bool (k2==(7:Int))) (tY (.ptr q 0 3))) (.ptr q 0 0) (tX (tY (.bool true)) (tY (.ptr q 0 4))))) (.ptr q 0 0) (tW (tW (tW tZ (.bool false) (tY (.ptr q 0 0))) (.ptr q 0 0) (tX tZ (tY (.ptr q 0 0)))) .nilp (tW (tX tZ (tY sa2)) (.ptr q 0 0) (tX (tY (.bool (k2==(8:Int)))) (tY rp2))))),   [.drw (rg P 84 [1,0,1,0,1,1,1,0,0]) [8,9,10,11,12] [7,6,5,4,3,2,1,0],.code (cd P 84 [1,0,1,0,1,0,1]),.inBlock 0,.code (cd P 84 [1,1])],[],.run,CallKind.normal,none⟩
noncomputable def zgG (sa2:AV):AFrame:=⟨84,44,(tX (tX (tX (tX tZ (tX (tY sa2) tZ)) tZ) tZ) tZ),   [.ops (rg P 84 [1,0,1,0,1,1,1,1,1,0,0]).toList ((rg P 84 [1,0,1,0,1,1,1,1,1,0,0]).toList.drop 4),.code (cd P 84 [1,0,1,0,1,0,1]),.inBlock 0,.code (cd P 84 [1,1])],[],.run,CallKind.normal,none⟩
noncomputable def zpq (N:Nat) (mk:Nat):AFrame:=⟨83,16,(tW (tX (tY (.ptr N 0 0)) (tY (.ptr mk 0 0))) (.ptr mk 0 0) tZ),   [.ops (rg P 83 [1,1,0,0]).toList ((rg P 83 [1,1,0,0]).toList.drop 1),.code (cd P 83 [1,1,0,1]),.code (cd P 83 [1,1,1])],[],.run,CallKind.normal,none⟩
noncomputable def zeA (mk:Nat) (Nc:Nat):AFrame:=⟨83,16,(tX (tX (tY (.ptr Nc 0 0)) tZ) (tX (tX (tY (.ptr mk 0 0)) tZ) tZ)),   [.ops (rg P 83 [1,1,0,1,0,0]).toList ((rg P 83 [1,1,0,1,0,0]).toList.drop 1),.code (cd P 52 [1,0,1,0,1]),.code (cd P (83:FuncId) [1,1,1])],[],.run,CallKind.normal,none⟩
noncomputable def ze6 (mk:Nat) (Nc:Nat):AFrame:=⟨83,16,(tX (tX (tY (.ptr Nc 0 0)) tZ) (tX (tX tZ (tY (.ptr mk 0 0))) tZ)),   [.ops (rg P 83 [1,1,1,0]).toList ((rg P 83 [1,1,1,0]).toList.drop 1),.code (cd P 52 [1,0,1,0,1])],[],.run,CallKind.normal,none⟩
noncomputable def zpt (n:Int) (mk:Nat):AFrame:=⟨82,20,(tW (tW (tX (tY (.ptr mk 0 0)) tZ) (.int .i64 n) (tY (.nils 0 0))) (.ptr mk 0 0) tZ),   [.ops (rg P 82 [1,1,0,0]).toList ((rg P 82 [1,1,0,0]).toList.drop 1),.code (cd P 82 [1,1,0,1]),.code (cd P 82 [1,1,1])],[],.run,CallKind.normal,none⟩
noncomputable def zlQ (n:Int) (j:Int) (mk:Nat) (sl2:AV) (rest:List AFrame) (O:T AObj) (N:Nat) (G:T (T AV)):AM:=⟨⟨82,20,(tW (tW tZ (.int .i64 n) (tY sl2)) (.ptr mk 0 0) (tX tZ (tY (.int .i64 j)))),   [.code (cd P 82 [1,1,0,1,0,0]),.inLoop (cd P 82 [1,1,0,1,0,0]),.inBlock 0,.code (cd P (82:FuncId) [1,1,1])],[],.run,CallKind.normal,none⟩,rest,⟨O,N,G⟩⟩
noncomputable def zlb (n:Int) (j:Int) (mk:Nat) (sl2:AV):AFrame:=⟨82,20,(tW (tW (tX (tX (tY (.int .i64 n)) tZ) tZ) (.int .i64 n) (tX tZ (tY sl2))) (.ptr mk 0 0) (tX tZ (tW tZ (.int .i64 j) (tY (.ptr mk 0 0))))),   [.ops (rg P 82 [1,1,0,1,0,0,1,0,0]).toList ((rg P 82 [1,1,0,1,0,0,1,0,0]).toList.drop 3),.inBlock 1,.code (cd P 82 [1,1,0,1,0,0,1,1]),.inLoop (cd P (82:FuncId) [1,1,0,1,0,0]),.inBlock 0,.code (cd P (82:FuncId) [1,1,1])],[],.run,CallKind.normal,none⟩
section
variable {R:AV→AHeap→Prop} {keep N mk Nc q:Nat} {f0:FuncId} {rest:List AFrame} {O:T AObj} {n crq0 crq1 j k2:Int} {sl sl2 prq0 sn2 sa2 rp2 sa:AV} {G:T (T AV)} {K:AM→Prop} {td:List AItem}
theorem zqj:(∃ (z1:Int),(lC O N G mk 0 sl)∧(lN O N G 22 sl z1)∧(((z1==(0:Int)))=true→(K (AM.mk (RF 52 30 (tX tZ (tX (tY (.int .i64 0)) tZ)) [.code (cd P 52 [1,0,1,0,1]),.code (cd P 52 [1,1])]) rest ⟨O,N,G⟩)))∧(((z1==(0:Int)))=false→(∃ (i1:Nat) (i2:Nat) (i3:Nat) (z2:Int) (s1:AV) (O1:T AObj),(lC O N G mk 0 sl)∧(iX 22 sl 0 i1 i2 i3)∧(lR O N G i1 i2 i3 (.int .u8 z2))∧(n≠(0:Int))∧(lC O N G mk 0 sl)∧(xB P (⟨O,N,G⟩) (22) (sl) ((some 1)) (none) (none)=(some s1))∧(s1.cells.length.beq (1)=true∧zb (⟨O,N,G⟩:AHeap) mk (0) (0) s1.cells=some (⟨O1,N,G⟩:AHeap))∧K (AM.mk (RF 52 30 (tX tZ (tX (tY (.int .i64 ((IntKind.i64.wrap z2).tmod n))) tZ)) [.code (cd P 52 [1,0,1,0,1])]) rest ⟨O1,N,G⟩))))=OT f0 R keep K (.ex fun z1:Int=>(.seq [.run 10,.hop (sl) O,.hopn (.int .i64 z1) O (N),.run 2] (.fork 11 (.seq [.run 6,.keep [4]] .fin) (.ex fun i1:Nat=>(.ex fun i2:Nat=>(.ex fun i3:Nat=>(.ex fun z2:Int=>(.ex fun s1:AV=>(.ex fun O1:T AObj=>(.seq [.run 7,.hop (sl) O,.hopn (.ptr i1 i2 i3) O (N),.hop (.int .u8 z2) O,.run 2,.op,.run 8,.hop (sl) O,.hop (s1) O,.run 2,.hopn (.nilp) O1 (N),.run 7,.keep [4]] .fin)))))))))) ((AM.mk (enF 52 [.ptr mk 0 0,.int .i64 n]) rest ⟨O,N,G⟩)):=by kernel_rfl
theorem zmt:(∃ (O1:T AObj) (O2:T AObj),(T.set ((some (.cells (tW (tW (tW (tY (.str [])) (.str []) tZ) (.str []) (tY (.str []))) (.str []) (tW (tW (tY (.str [])) (.str []) tZ) (.str []) (tY (.str [])))) 9 116 0 0 1 0 false .leaf))) (O) (N)=O1)∧(zb (⟨O1,N+1,G⟩) (N) (0) (0) ([.str [UInt8.ofNat (97)],.str [UInt8.ofNat (98)],.str [UInt8.ofNat (99)],.str [UInt8.ofNat (100)],.str [UInt8.ofNat (95),UInt8.ofNat (120)],.str [UInt8.ofNat (97)],.str [UInt8.ofNat (98)],.str [],.str [UInt8.ofNat (49)]])=(some ⟨O2,N+1,G⟩))∧K (AM.mk (enF 52 [.ptr mk 0 0,.int .i64 20]) ((zpq N mk)::rest) ⟨O2,N+1,G⟩))=OT f0 R keep K (.ex fun O1:T AObj=>(.ex fun O2:T AObj=>(.seq [.run 7,.hop (.nilp) O1,.hop (.nilp) O2,.run 5,.keep [0,3,5],.run 1] .fin))) ((AM.mk (enF 83 [.ptr mk 0 0]) rest ⟨O,N,G⟩)):=by kernel_rfl
theorem zdG:(((decide (crq0<(19:Int)))=true→(K (AM.mk (enF 52 [.ptr mk 0 0,.int .i64 7]) ((zeA mk Nc)::rest) ⟨O,N,G⟩)))∧((decide (crq0<(19:Int)))=false→(K (AM.mk (enF 52 [.ptr mk 0 0,.int .i64 9]) ((ze6 mk Nc)::rest) ⟨O,N,G⟩))))=OT f0 R keep K (.seq [.run 3] (.fork 7 (.seq [.run 4,.keep [3,8],.run 1] .fin) (.seq [.run 5,.keep [3,12],.run 1] .fin))) ((AM.mk (RF 52 30 (tX tZ (tX (tY (.int .i64 crq0)) tZ)) td) ((zpq Nc mk)::rest) ⟨O,N,G⟩)):=by kernel_rfl
theorem zdp:(∃ (l1:List UInt8),((0:Int)≤crq1∧crq1<(↑9:Int))∧(zc (⟨O,N,G⟩) (Nc) (0) (0+crq1.toNat*1) (1)=(some [.str l1]))∧K (AM.mk (RF 83 16 (tX tZ (tY (.str l1))) [.code (cd P (52:FuncId) [1,0,1,0,1]),.code (cd P (83:FuncId) [1,1,1])]) rest ⟨O,N,G⟩))=OT f0 R keep K (.ex fun l1:List UInt8=>(.seq [.run 1,.op,.hop (.str l1) O,.run 3,.keep [2]] .fin)) ((AM.mk (RF 52 30 (tX tZ (tX (tY (.int .i64 crq1)) tZ)) td) ((zeA mk Nc)::rest) ⟨O,N,G⟩)):=by kernel_rfl
theorem zcE:(∃ (l1:List UInt8),((0:Int)≤crq1∧crq1<(↑9:Int))∧(zc (⟨O,N,G⟩) (Nc) (0) (0+crq1.toNat*1) (1)=(some [.str l1]))∧K (AM.mk (RF 83 16 (tX tZ (tY (.str l1))) [.code (cd P (52:FuncId) [1,0,1,0,1])]) rest ⟨O,N,G⟩))=OT f0 R keep K (.ex fun l1:List UInt8=>(.seq [.run 1,.op,.hop (.str l1) O,.run 3,.keep [2]] .fin)) ((AM.mk (RF 52 30 (tX tZ (tX (tY (.int .i64 crq1)) tZ)) td) ((ze6 mk Nc)::rest) ⟨O,N,G⟩)):=by kernel_rfl
theorem zm5:(K (AM.mk (enF 52 [.ptr mk 0 0,.int .i64 4]) ((zpt n mk)::rest) ⟨O,N,G⟩))=OT f0 R keep K (.seq [.run 12,.keep [0,1,5,7],.run 1] .fin) ((AM.mk (enF 82 [.ptr mk 0 0,.int .i64 n]) rest ⟨O,N,G⟩)):=by kernel_rfl
theorem zkG:(K (zlQ n crq0 mk (.nils 0 0) rest O N G))=OT f0 R keep K (.seq [.run 5,.keep [0,1,5,6]] .fin) ((AM.mk (RF 52 30 (tX tZ (tX (tY (.int .i64 crq0)) tZ)) td) ((zpt n mk)::rest) ⟨O,N,G⟩)):=by kernel_rfl
theorem zkR:(((decide (j > (0:Int)))=true→(K (AM.mk (enF 41 [.ptr mk 0 0,.int .i64 n]) ((zlb n j mk sl2)::rest) ⟨O,N,G⟩)))∧((decide (j > (0:Int)))=false→(K (AM.mk (RF 82 20 (tX tZ (tX (tY sl2) tZ)) [.code (cd P 82 [1,1,1,1])]) rest ⟨O,N,G⟩))))=OT f0 R keep K (.seq [.run 6] (.fork 10 (.seq [.run 8,.keep [0,1,6,13,14,15],.run 1] .fin) (.seq [.run 8,.keep [4]] .fin))) ((zlQ n j mk sl2 rest O N G)):=by kernel_rfl
theorem zf8:(∃ (O1:T AObj) (s1:AV) (O2:T AObj) (N1:Nat),(zf P (⟨O,N,G⟩) (33) (1) ([(0,prq0)])=(some (.slc N 0 0 1 1,⟨O1,N+1,G⟩)))∧(zg P (⟨O1,N+1,G⟩) (Builtin.append) ((some 33)) ((some 33)) ([sl2,.slc N 0 0 1 1])=(some (.val s1 ⟨O2,N1,G⟩)))∧K (zlQ n (IntKind.i64.wrap (j - (1:Int))) mk s1 rest O2 N1 G))=OT f0 R keep K (.ex fun O1:T AObj=>(.ex fun s1:AV=>(.ex fun O2:T AObj=>(.ex fun N1:Nat=>(.seq [.run 1,.hopn (.slc N 0 0 1 1) O1 (N+1),.hopn (s1) O2 (N1),.run 9,.keep [0,1,5,6]] .fin))))) ((AM.mk (RF 41 137 (tX tZ (tX (tY prq0) tZ)) td) ((zlb n j mk sl2)::rest) ⟨O,N,G⟩)):=by kernel_rfl
theorem zgz:((lC O N G q 0 (.int .i64 k2))∧(((k2==(7:Int)))=true→((lC O N G q 2 sn2)∧(lC O N G q 3 sa2)∧K (AM.mk (enF 23 [sn2,sa2]) ((znt q k2 sn2 sa2)::rest) ⟨O,N,G⟩)))∧(((k2==(7:Int)))=false→((((k2==(8:Int)))=true→((lC O N G q 3 sa2)∧(lC O N G q 4 rp2)∧K (AM.mk (enF 28 [sa2,rp2]) ((ziI q k2 sa2 rp2)::rest) ⟨O,N,G⟩)))∧(((k2==(8:Int)))=false→((((k2==(9:Int)))=true→((lC O N G q 3 sa2)∧K (AM.mk (enF 26 [sa2]) ((zgG sa2)::rest) ⟨O,N,G⟩)))∧(((k2==(9:Int)))=false→(K (AM.mk (RF 84 44 (tX (tX (tY (.int .i64 0)) tZ) (tY (.ptr q 0 0))) [.code (cd P 84 [1,0,1,0,1,0,1])]) rest ⟨O,N,G⟩))))))))=OT f0 R keep K (.seq [.run 11,.hop (.int .i64 k2) O,.run 7] (.fork 8 (.seq [.run 6,.hop (sn2) O,.run 3,.hop (sa2) O,.run 1] .fin) (.seq [.run 6] (.fork 21 (.seq [.run 6,.hop (sa2) O,.run 3,.hop (rp2) O,.run 1] .fin) (.seq [.run 6] (.fork 34 (.seq [.run 6,.hop (sa2) O,.keep [39],.run 1] .fin) (.seq [.run 10,.keep [2,3]] .fin))))))) ((AM.mk (enF 84 [.ptr q 0 0]) rest ⟨O,N,G⟩)):=by kernel_rfl
theorem zhw:(K (AM.mk (RF 84 44 (tX (tX (tY (.int .i64 crq0)) tZ) (tY prq0)) [.code (cd P (84:FuncId) [1,0,1,0,1,0,1]),.inBlock 0,.code (cd P (84:FuncId) [1,1])]) rest ⟨O,N,G⟩))=OT f0 R keep K (.seq [.run 7,.keep [2,3]] .fin) ((AM.mk (RF 23 135 (tX (tX tZ (tY (.int .i64 crq0))) (tX (tY prq0) tZ)) td) ((znt q k2 sn2 sa2)::rest) ⟨O,N,G⟩)):=by kernel_rfl
theorem zfw:(K (AM.mk (RF 84 44 (tX (tX (tY (.int .i64 crq0)) tZ) (tY prq0)) [.code (cd P (84:FuncId) [1,0,1,0,1,0,1]),.inBlock 0,.code (cd P (84:FuncId) [1,1])]) rest ⟨O,N,G⟩))=OT f0 R keep K (.seq [.run 7,.keep [2,3]] .fin) ((AM.mk (RF 28 31 (tX (tX tZ (tY (.int .i64 crq0))) (tX (tY prq0) tZ)) td) ((ziI q k2 sa2 rp2)::rest) ⟨O,N,G⟩)):=by kernel_rfl
theorem zdK:(K (AM.mk (RF 84 44 (tX (tX (tY (.int .i64 crq0)) tZ) (tY prq0)) [.code (cd P (84:FuncId) [1,0,1,0,1,0,1]),.inBlock 0,.code (cd P (84:FuncId) [1,1])]) rest ⟨O,N,G⟩))=OT f0 R keep K (.seq [.run 7,.keep [2,3]] .fin) ((AM.mk (RF 26 129 (tX (tX (tY (.int .i64 crq0)) tZ) (tY prq0)) td) ((zgG sa2)::rest) ⟨O,N,G⟩)):=by kernel_rfl
end
variable {O O':T AObj} {N:Nat} {G:T (T AV)}
def MK2 (O:T AObj) (hi mk:Nat) (xs:List UInt8) (nn:Int):Prop:=∃ sl,Obj O mk [sl,.int .i64 nn]∧SVe O hi xs sl
theorem MK2.same {hi mk:Nat}{xs:List UInt8}{nn:Int}(h:MK2 O hi mk xs nn)(e:∀ j,j<hi→O'.get j=O.get j)(e2:O'.get mk=O.get mk):MK2 O' hi mk xs nn:=by
 obtain ⟨sl,ob,sv⟩:=h
 exact ⟨sl,ob.same e2,sv.keep e⟩
def nx (n:Int) (xs:List UInt8):Int × List UInt8:=match xs with
 | []=>(0,[])
 | x::r=>((bi x).tmod n,r)
theorem zl {hi mk:Nat}{xs:List UInt8}{nn n c:Int}{ys:List UInt8}(hx:nx n xs=(c,ys))(hm:MK2 O hi mk xs nn)(hmk:hi≤mk)(hn:0<n){keep:Nat}{f0:FuncId}{Q:AV→AHeap→Prop}{rest:List AFrame}
 (hK:∀ O' td,0≤c→c<n→(∀ j,j≠mk→O'.get j=O.get j)→MK2 O' hi mk ys nn→Goal P keep f0 Q (AM.mk (RF 52 30 (tX tZ (tX (tY (.int .i64 c)) tZ)) td) rest ⟨O',N,G⟩)):Goal P keep f0 Q (AM.mk (enF 52 [.ptr mk 0 0,.int .i64 n]) rest ⟨O,N,G⟩):=by
 obtain ⟨sl,ob,sv⟩:=hm
 cases xs with
 | nil =>
  cases hx
  refine ot (zqj (sl:=sl)) ⟨_,ob.ld 0 rfl,sv.len _ _,fkt ((by simp)) ?_⟩
  exact hK O _ (Int.le_refl _) hn (fun _ _=>rfl) ⟨sl,ob,sv⟩
 | cons x xs =>
  obtain ⟨rfl,rfl⟩:(bi x).tmod n=c∧xs=ys:=Prod.mk.inj hx
  have svl:=sv
  replace sv:=sv.resolve_right (fun h=>by cases h.2)
  obtain ⟨i1,i2,i3,lo1,hi1,eA,rd,_⟩:=sv.at (j:=0) bSl bEn rfl
  obtain ⟨s1,es,sv1,_⟩:=sv.sub bSl bEn (a:=1) (b:=(x::xs).length) (by simp) (Nat.le_refl _) (some 1) none (.inl rfl) (.inr ⟨rfl,rfl⟩) N G
  obtain ⟨O1,st,b1,f1⟩:=ob.store 0 [s1] N G (Nat.le_of_ble_eq_true rfl) (by simp only [List.all_cons,List.all_nil,Bool.and_true]; exact sv1.one)
  have hz:IntKind.i64.wrap (bi x)=bi x:=by
   have:=x.toNat_lt
   unfold bi
   rw [IntKind.wrap_i64]
   omega
  have hb0:0≤bi x:=by unfold bi; omega
  refine ot (zqj (sl:=sl)) ⟨_,ob.ld 0 rfl,svl.len _ _,fkf ((by simp; omega)) ?_⟩
  refine ⟨_,_,_,(bi x),s1,O1,ob.ld 0 rfl,eA,rd.load rfl _ _,(by omega),ob.ld 0 rfl,es,(by rw [sv1.cells]; exact ⟨rfl,st⟩),?_⟩
  have sv2:=sv1.keep (O':=O1) (fun j _ hj=>f1 j (by omega)) (Nat.le_refl 0) (Nat.le_refl hi)
  rw [show ((x::xs).drop 1).take ((x::xs).length - 1)=xs by simp] at sv2
  rw [hz]
  exact hK O1 _ (Int.tmod_nonneg _ hb0) (Int.tmod_lt_of_pos _ hn) (fun j hj=>f1 j hj) ⟨s1,b1,.inl sv2⟩
theorem pick {id k:Nat}{tab:List (List UInt8)}(ob:Obj O id (tab.map AV.str))(hk:k<tab.length)(N:Nat)(G:T (T AV)):zc ⟨O,N,G⟩ id 0 (0+k*1) 1=some [.str (tab.getD k [])]:=by
 have e:=ob.load (0+k*1) N G (by rw [List.length_map]; omega)
 rw [List.getD_eq_getElem?_getD,show 0+k*1=k by omega,List.getElem?_map,List.getElem?_eq_getElem hk] at e
 rw [show 0+k*1=k by omega,List.getD_eq_getElem?_getD,List.getElem?_eq_getElem hk]
 exact e
def tab9:List (List UInt8):=[[97],[98],[99],[100],[95,120],[97],[98],[],[49]]
theorem zlw (xs:List UInt8):∃ (s ys:List UInt8),∀ {hi mk:Nat} {nn:Int} {O:T AObj} {N:Nat} {G:T (T AV)} {keep:Nat} {f0:FuncId} {Q:AV→AHeap→Prop} {rest:List AFrame},hi≤mk→MK2 O hi mk xs nn→mk<N →
 (∀ (O':T AObj) (N':Nat) (td:List AItem),N≤N'→(∀ j,j<N→j≠mk→O'.get j=O.get j)→MK2 O' hi mk ys nn→Goal P keep f0 Q (AM.mk (RF 83 16 (tX tZ (tY (.str s))) td) rest ⟨O',N',G⟩))→Goal P keep f0 Q (AM.mk (enF 83 [.ptr mk 0 0]) rest ⟨O,N,G⟩):=by
 rcases h1:nx 20 xs with ⟨c,y1⟩
 rcases h2:nx 7 y1 with ⟨c7,y7⟩
 rcases h3:nx 9 y1 with ⟨c9,y9⟩
 by_cases hc:c<19
 · refine ⟨tab9.getD c7.toNat [],y7,?_⟩
   intro hi mk nn O N G keep f0 Q rest hmk hm hmN hK
   obtain ⟨O1v,e10,b10,f10⟩:=Obj.mk (c:=(tW (tW (tW (tY (.str [])) (.str []) tZ) (.str []) (tY (.str []))) (.str []) (tW (tW (tY (.str [])) (.str []) tZ) (.str []) (tY (.str []))))) (el:=116) [(.str []),(.str []),(.str []),(.str []),(.str []),(.str []),(.str []),(.str []),(.str [])] O N 9 rfl (fun u hu=>by rcases u with _ | _ | _ | _ | _ | _ | _ | _ | _ | u <;> first | rfl | omega)
   obtain ⟨O2v,e11,b11,f11⟩:=b10.store 0 [.str [UInt8.ofNat (97)],.str [UInt8.ofNat (98)],.str [UInt8.ofNat (99)],.str [UInt8.ofNat (100)],.str [UInt8.ofNat (95),UInt8.ofNat (120)],.str [UInt8.ofNat (97)],.str [UInt8.ofNat (98)],.str [],.str [UInt8.ofNat (49)]] (N+1) G (Nat.le_of_ble_eq_true rfl) rfl
   refine ot zmt ⟨O1v,O2v,e10,e11,?_⟩
   have b2:=b11
   have lo2:∀ j,j<N→O2v.get j=O.get j:=fun j hj=>(f11 j (by omega)).trans (f10 j (by omega))
   have m2:MK2 O2v hi mk xs nn:=hm.same (fun j hj=>lo2 j (by omega)) (lo2 mk hmN)
   refine zl h1 m2 hmk (by omega) fun O3 td3 c0 c20 f3 m3=>?_
   have b3:=b2.same (f3 N (by omega))
   refine ot zdG (fkt (decide_eq_true hc) ?_)
   refine zl h2 m3 hmk (by omega) fun O4 td4 c20' c2n f4 m4=>?_
   have b4:=b3.same (f4 N (by omega))
   exact ot zdp ⟨_,⟨c20',by omega⟩,pick (tab:=tab9) b4 (show c7.toNat<9 by omega) _ _,hK O4 (N+1) _ (by omega) (fun j h1 h2=>(f4 j h2).trans ((f3 j h2).trans (lo2 j h1))) m4⟩
 · refine ⟨tab9.getD c9.toNat [],y9,?_⟩
   intro hi mk nn O N G keep f0 Q rest hmk hm hmN hK
   obtain ⟨O1v,e14,b14,f14⟩:=Obj.mk (c:=(tW (tW (tW (tY (.str [])) (.str []) tZ) (.str []) (tY (.str []))) (.str []) (tW (tW (tY (.str [])) (.str []) tZ) (.str []) (tY (.str []))))) (el:=116) [(.str []),(.str []),(.str []),(.str []),(.str []),(.str []),(.str []),(.str []),(.str [])] O N 9 rfl (fun u hu=>by rcases u with _ | _ | _ | _ | _ | _ | _ | _ | _ | u <;> first | rfl | omega)
   obtain ⟨O2v,e15,b15,f15⟩:=b14.store 0 [.str [UInt8.ofNat (97)],.str [UInt8.ofNat (98)],.str [UInt8.ofNat (99)],.str [UInt8.ofNat (100)],.str [UInt8.ofNat (95),UInt8.ofNat (120)],.str [UInt8.ofNat (97)],.str [UInt8.ofNat (98)],.str [],.str [UInt8.ofNat (49)]] (N+1) G (Nat.le_of_ble_eq_true rfl) rfl
   refine ot zmt ⟨O1v,O2v,e14,e15,?_⟩
   have b2:=b15
   have lo2:∀ j,j<N→O2v.get j=O.get j:=fun j hj=>(f15 j (by omega)).trans (f14 j (by omega))
   have m2:MK2 O2v hi mk xs nn:=hm.same (fun j hj=>lo2 j (by omega)) (lo2 mk hmN)
   refine zl h1 m2 hmk (by omega) fun O3 td3 c0 c20 f3 m3=>?_
   have b3:=b2.same (f3 N (by omega))
   refine ot zdG (fkf (decide_eq_false hc) ?_)
   refine zl h3 m3 hmk (by omega) fun O4 td4 c20' c2n f4 m4=>?_
   have b4:=b3.same (f4 N (by omega))
   exact ot zcE ⟨_,⟨c20',by omega⟩,pick (tab:=tab9) b4 (show c9.toNat<9 by omega) _ _,hK O4 (N+1) _ (by omega) (fun j h1 h2=>(f4 j h2).trans ((f3 j h2).trans (lo2 j h1))) m4⟩
def znM (d:Nat):Prop:=∀ (xs:List UInt8) (nn:Int),∃ (t:Ty) (ys:List UInt8) (nn':Int),∀ {hi mk:Nat} {A:Nat→Prop} {O:T AObj} {N:Nat} {G:T (T AV)} {keep:Nat} {f0:FuncId} {Q:AV→AHeap→Prop} {rest:List AFrame},hi≤mk→MK2 O hi mk xs nn→mk<N→(∀ j,A j→j<N)→A mk →
 (∀ (O':T AObj) (N':Nat) (td:List AItem) (p:Option Nat),N≤N'→(∀ j,j<N→j≠mk→O'.get j=O.get j)→MK2 O' hi mk ys nn'→Tra O' N' A t p→Goal P keep f0 Q (AM.mk (RF 41 137 (tX tZ (tX (tY (pv p)) tZ)) td) rest ⟨O',N',G⟩))→Goal P keep f0 Q (AM.mk (enF 41 [.ptr mk 0 0,.int .i64 ((d:Nat):Int)]) rest ⟨O,N,G⟩)
def zlu (d:Nat):Prop:=∀ (xs:List UInt8) (nn:Int),∃ (ts:List Ty) (ys:List UInt8) (nn':Int),ts.length≤3∧∀ {hi mk:Nat} {A:Nat→Prop} {O:T AObj} {N:Nat} {G:T (T AV)} {keep:Nat} {f0:FuncId} {Q:AV→AHeap→Prop} {rest:List AFrame},hi≤mk→MK2 O hi mk xs nn→mk<N→(∀ j,A j→j<N)→A mk →
 (∀ (O':T AObj) (N':Nat) (td:List AItem) (ps:List (Option Nat)) (s:AV),N≤N'→(∀ j,j<N→j≠mk→O'.get j=O.get j)→MK2 O' hi mk ys nn'→GV O' 23 1 pE N N' ps s→ps.length=ts.length→(∀ (j:Nat) (x:Ty) (p:Option Nat),ts[j]?=some x→ps[j]?=some p→Tra O' N' (AvS A s) x p)→Goal P keep f0 Q (AM.mk (RF 82 20 (tX tZ (tX (tY s) tZ)) td) rest ⟨O',N',G⟩))→Goal P keep f0 Q (AM.mk (enF 82 [.ptr mk 0 0,.int .i64 ((d:Nat):Int)]) rest ⟨O,N,G⟩)
theorem zc1 {d:Nat}(one:znM d):zlu d:=by
 intro xs nn
 have loop:∀ (k:Nat) (zs:List UInt8) (n2:Int),∃ (us:List Ty) (ys:List UInt8) (nn':Int),us.length=k∧∀ {hi mk:Nat} {A:Nat→Prop} {O:T AObj} {N:Nat} {G:T (T AV)} {keep:Nat} {f0:FuncId} {Q:AV→AHeap→Prop} {rest:List AFrame} (ts:List Ty),hi≤mk→mk<N→(∀ j,A j→j<N)→A mk→ts.length+k≤3 →
  (∀ (O':T AObj) (N':Nat) (td:List AItem) (ps:List (Option Nat)) (s:AV),N≤N'→(∀ j,j<N→j≠mk→O'.get j=O.get j)→MK2 O' hi mk ys nn'→GV O' 23 1 pE N N' ps s→ps.length=(ts++us).length→(∀ (j:Nat) (x:Ty) (p:Option Nat),(ts++us)[j]?=some x→ps[j]?=some p→Tra O' N' (AvS A s) x p)→Goal P keep f0 Q (AM.mk (RF 82 20 (tX tZ (tX (tY s) tZ)) td) rest ⟨O',N',G⟩)) →
  ∀ (O2:T AObj) (N2:Nat) (ps:List (Option Nat)) (s:AV),N≤N2→(∀ j,j<N→j≠mk→O2.get j=O.get j)→MK2 O2 hi mk zs n2→GV O2 23 1 pE N N2 ps s→ps.length=ts.length→(∀ (j:Nat) (x:Ty) (p:Option Nat),ts[j]?=some x→ps[j]?=some p→Tra O2 N2 (AvS A s) x p)→Goal P keep f0 Q (zlQ ((d:Nat):Int) ((k:Nat):Int) mk s rest O2 N2 G):=by
  intro k
  induction k with
  | zero =>
   intro zs n2
   refine ⟨[],zs,n2,rfl,?_⟩
   intro hi mk A O N G keep f0 Q rest ts hmk hmN hA hAm h3 hK O2 N2 ps s hNN hO m2 gv hl hr
   rw [List.append_nil] at hK
   refine ot zkR (fkf (decide_eq_false (by omega)) ?_)
   exact hK O2 N2 _ ps s hNN hO m2 gv hl hr
  | succ k ih =>
   intro zs n2
   obtain ⟨t,y1,n1,onek⟩:=one zs n2
   obtain ⟨us,ys,nn',hus,run⟩:=ih y1 n1
   refine ⟨t::us,ys,nn',by rw [List.length_cons,hus],?_⟩
   intro hi mk A O N G keep f0 Q rest ts hmk hmN hA hAm h3 hK O2 N2 ps s hNN hO m2 gv hl hr
   refine ot zkR (fkt (decide_eq_true (by omega)) ?_)
   refine onek (A:=AvS A s) hmk m2 (by omega) (fun j hj=>hj.elim (fun h=>by have:=hA j h; omega) fun h=>by have:=gv.sid_lt h.1; omega) (.inl hAm) fun O3 N3 td3 p hN3 hO3 m3 tx=>?_
   have gv3:=gv.same (O':=O3) (fun hs=>hO3 _ (gv.sid_lt hs).2 (by have:=(gv.sid_lt hs).1; omega)) (Nat.le_refl _) hN3
   have hr3:=fun (j:Nat) (x:Ty) (p:Option Nat) a b=>(hr j x p a b).same (O':=O3) (fun i h1 h2=>hO3 i h1 (fun h=>h2 (.inl (h▸hAm)))) hN3
   obtain ⟨O4,s1,O5,N5,e1,e2,g5,n5,f5,r5⟩:=zkm gv3 (by omega) hl (by omega) hr3 tx G
   have nx:=run (ts++[t]) hmk hmN hA hAm (by rw [List.length_append]; simp only [List.length_cons,List.length_nil]; omega) (by rw [List.append_assoc]; exact hK) O5 N5 (ps++[p]) s1 (by omega) (fun j h1 h2=>(f5 j (by omega) (fun hs=>by have:=(gv.sid_lt hs).1; omega)).trans ((hO3 j (by omega) h2).trans (hO j h1 h2))) (m3.same (fun j hj=>f5 j (by omega) (fun hs=>by have:=(gv.sid_lt hs).1; omega)) (f5 mk (by omega) (fun hs=>by have:=(gv.sid_lt hs).1; omega))) g5 (by rw [List.length_append,List.length_append,hl]; rfl) r5
   rw [show ((k:Nat):Int)=IntKind.i64.wrap (((k+1:Nat):Int) - (1:Int)) by rw [IntKind.wrap_i64]; omega] at nx
   exact ot zf8 ⟨_,_,_,_,e1,e2,nx⟩
 rcases h1:nx 4 xs with ⟨c,y1⟩
 obtain ⟨us,ys,nn',hus,run⟩:=loop c.toNat y1 nn
 by_cases hc3:c.toNat≤3
 · refine ⟨us,ys,nn',by omega,?_⟩
   intro hi mk A O N G keep f0 Q rest hmk hm hmN hA hAm hK
   refine ot zm5 ?_
   refine zl h1 hm hmk (by omega) fun O1 td c0 c4 f1 m1=>?_
   refine ot zkG ?_
   have:=run (A:=A) (O:=O) (N:=N) (G:=G) (keep:=keep) (f0:=f0) (Q:=Q) (rest:=rest) [] hmk hmN hA hAm (by simp only [List.length_nil]; omega) hK O1 N [] (.nils 0 0) (Nat.le_refl _) (fun j _ h2=>f1 j h2) m1 GV.nil rfl (fun j x p h=>by simp at h)
   rw [show ((c.toNat:Nat):Int)=c by omega] at this
   exact this
 · refine ⟨[],[],0,by simp,?_⟩
   intro hi mk A O N G keep f0 Q rest hmk hm hmN hA hAm hK
   refine ot zm5 ?_
   refine zl h1 hm hmk (by omega) fun O1 td c0 c4 f1 m1=>?_
   omega
structure RAW (O:T AObj) (N:Nat) (A:Nat→Prop) (m:Nat) (k:Int) (nm:List UInt8) (ns:List (List UInt8)) (ts:List Ty) (r:Ty) (sn sa:AV) (ps:List (Option Nat)) (q:Option Nat):Prop where
 lt:m<N
 nA:¬ A m
 ob:Obj O m [.int .i64 k,.str nm,sn,sa,pv q]
 vn:SV O 1 sE 0 N ns sn
 mn:sn≠.nils 0 0→¬ A (sid sn)∧sid sn≠m
 va:SV O 1 pE 0 N ps sa
 ma:sa≠.nils 0 0→¬ A (sid sa)∧sid sa≠m
 l1:ps.length=ts.length
 l2:ts.length≤3
 l3:ns.length≤3
 hr:∀ (j:Nat) (x:Ty) (p:Option Nat),ts[j]?=some x→ps[j]?=some p→Tra O N (fun j=>A j∨j=m) x p
 hq:Tra O N (fun j=>A j∨j=m) r q
variable {A:Nat→Prop} {m:Nat} {k:Int} {nm:List UInt8} {ns:List (List UInt8)} {ts:List Ty} {r:Ty} {sn sa:AV} {ps:List (Option Nat)} {q:Option Nat}
theorem RAW.same (h:RAW O N A m k nm ns ts r sn sa ps q)(e:∀ j,j<N→¬ A j→O'.get j=O.get j):RAW O' N A m k nm ns ts r sn sa ps q :=
 ⟨h.lt,h.nA,h.ob.same (e m h.lt h.nA),h.vn.same (fun hn=>e _ (h.vn.sid_lt hn).2 (h.mn hn).1) (Nat.le_refl _) (Nat.le_refl _),h.mn,h.va.same (fun hn=>e _ (h.va.sid_lt hn).2 (h.ma hn).1) (Nat.le_refl _) (Nat.le_refl _),h.ma,h.l1,h.l2,h.l3,fun j x p a b=>(h.hr j x p a b).same (fun i h1 h2=>e i h1 (fun h=>h2 (.inl h))) (Nat.le_refl _),h.hq.same (fun i h1 h2=>e i h1 (fun h=>h2 (.inl h))) (Nat.le_refl _)⟩
theorem RAW.put (h:RAW O N A m k nm ns ts r sn sa ps q)(f:Frm O O' m){k':Int}{nm':List UInt8}(b:Obj O' m [.int .i64 k',.str nm',sn,sa,pv q]):RAW O' N A m k' nm' ns ts r sn sa ps q :=
 ⟨h.lt,h.nA,b,h.vn.same (fun hn=>f _ (h.mn hn).2) (Nat.le_refl _) (Nat.le_refl _),h.mn,h.va.same (fun hn=>f _ (h.ma hn).2) (Nat.le_refl _) (Nat.le_refl _),h.ma,h.l1,h.l2,h.l3,fun j x p a b=>(h.hr j x p a b).same (fun i h1 h2=>f i (fun e=>h2 (.inr e))) (Nat.le_refl _),h.hq.same (fun i h1 h2=>f i (fun e=>h2 (.inr e))) (Nat.le_refl _)⟩
theorem RAW.node (h:RAW O N A m k nm ns ts r sn sa ps q):Tra O N A (.mk k nm ns ts r) (some m) :=
 Tra.node h.lt h.nA h.ob h.vn (fun hn=>(h.mn hn).1) h.va (fun hn=>(h.ma hn).1) h.l1 (by have:=h.l2; omega) (by have:=h.l3; omega) (fun j x p a b=>(h.hr j x p a b).imp fun _ _=>.inl) (h.hq.imp fun _ _=>.inl)
def zeJ (k:Int) (nm:List UInt8) (ns:List (List UInt8)) (ts:List Ty) (r:Ty):Int × Ty:=if k=7 then y8 ns ts else if k=8 then zm6 ts r else if k=9 then zfC ts else (0,.mk k nm ns ts r)
theorem zgX (h:RAW O N A m k nm ns ts r sn sa ps q)(hA:∀ j,A j→j<N){keep:Nat}{f0:FuncId}{Q:AV→AHeap→Prop}{rest:List AFrame}
 (hK:∀ O' N' td p',Ext O N O' N'→Tra O' N' A (zeJ k nm ns ts r).2 p'→Goal P keep f0 Q (AM.mk (RF 84 44 (tX (tX (tY (.int .i64 (zeJ k nm ns ts r).1)) tZ) (tY (pv p'))) td) rest ⟨O',N',G⟩)):Goal P keep f0 Q (AM.mk (enF 84 [.ptr m 0 0]) rest ⟨O,N,G⟩):=by
 by_cases h7:k=7
 · rw [show zeJ k nm ns ts r=y8 ns ts from if_pos h7] at hK
   refine ot (zgz (k2:=k) (sn2:=sn) (sa2:=sa) (rp2:=pv q)) ⟨h.ob.ld 0 rfl,fkt ((by rw [h7]; rfl)) ?_⟩
   refine ⟨h.ob.ld 2 rfl,h.ob.ld 3 rfl,?_⟩
   refine zn8 (mk:=A) h.vn h.va h.l1 (by have:=h.l2; omega) (fun j x p a b=>(h.hr j x p a b).imp fun _ _=>.inl) (Nat.le_refl _) hA fun O8 N8 td8 p8 ex8 tx8=>?_
   exact ot zhw (hK O8 N8 _ p8 ex8 tx8)
 by_cases h8:k=8
 · rw [show zeJ k nm ns ts r=zm6 ts r from (if_neg h7).trans (if_pos h8)] at hK
   refine ot (zgz (k2:=k) (sn2:=sn) (sa2:=sa) (rp2:=pv q)) ⟨h.ob.ld 0 rfl,fkf ((beq_eq_false_iff_ne.2 h7)) ?_⟩
   refine fkt ((by rw [h8]; rfl)) ?_
   refine ⟨h.ob.ld 3 rfl,h.ob.ld 4 rfl,?_⟩
   refine zlF (mk:=A) h.va h.l1 (by have:=h.l2; omega) (fun j x p a b=>(h.hr j x p a b).imp fun _ _=>.inl) (h.hq.imp fun _ _=>.inl) (Nat.le_refl _) hA fun O8 N8 td8 p8 ex8 tx8=>?_
   exact ot zfw (hK O8 N8 _ p8 ex8 tx8)
 by_cases h9:k=9
 · rw [show zeJ k nm ns ts r=zfC ts from (if_neg h7).trans ((if_neg h8).trans (if_pos h9))] at hK
   refine ot (zgz (k2:=k) (sn2:=sn) (sa2:=sa) (rp2:=pv q)) ⟨h.ob.ld 0 rfl,fkf ((beq_eq_false_iff_ne.2 h7)) ?_⟩
   refine fkf ((beq_eq_false_iff_ne.2 h8)) ?_
   refine fkt ((by rw [h9]; rfl)) ?_
   refine ⟨h.ob.ld 3 rfl,?_⟩
   refine zoQ (mk:=A) h.va h.l1 (by have:=h.l2; omega) (fun j x p a b=>(h.hr j x p a b).imp fun _ _=>.inl) (Nat.le_refl _) hA fun O8 N8 td8 p8 ex8 tx8=>?_
   exact ot zdK (hK O8 N8 _ p8 ex8 tx8)
 rw [show zeJ k nm ns ts r=(0,.mk k nm ns ts r) from (if_neg h7).trans ((if_neg h8).trans (if_neg h9))] at hK
 refine ot (zgz (k2:=k) (sn2:=sn) (sa2:=sa) (rp2:=pv q)) ⟨h.ob.ld 0 rfl,fkf ((beq_eq_false_iff_ne.2 h7)) ?_⟩
 refine fkf ((beq_eq_false_iff_ne.2 h8)) ?_
 refine fkf ((beq_eq_false_iff_ne.2 h9)) ?_
 exact hK O N _ (some m) Ext.refl h.node
end Go.Proofs.Ytcdigdplhlgcaaa.gx
end
section
set_option maxRecDepth 100000
set_option linter.unusedVariables false
set_option linter.unusedSectionVars false
set_option linter.unusedSimpArgs false
namespace Go.Proofs.Ytcdigdplhlgcaaa.gx
open Go Ev tp
noncomputable def zpY (n:Int) (mk:Nat):AFrame:=⟨41,137,(tW (tW (tX tZ (tX (tY (.ptr mk 0 0)) tZ)) (.int .i64 n) tZ) (.ptr mk 0 0) tZ),   [.ops (rg P 41 [1,1,0]).toList ((rg P 41 [1,1,0]).toList.drop 1),.code (cd P 41 [1,1,1])],[],.run,CallKind.normal,none⟩
noncomputable def ze8 (n:Int) (mk:Nat):AFrame:=⟨41,137,(tW (tW (tX (tX (tX (tY (.ptr mk 0 0)) tZ) tZ) tZ) (.int .i64 n) tZ) (.ptr mk 0 0) tZ),   [.ops (rg P 41 [1,1,1,0,1,0]).toList ((rg P 41 [1,1,1,0,1,0]).toList.drop 1),.code (cd P 41 [1,1,1,1])],[],.run,CallKind.normal,none⟩
noncomputable def zb9 (n:Int) (mk:Nat):AFrame:=⟨41,137,(tW (tW (tX (tX (tX (tY (.ptr mk 0 0)) tZ) tZ) tZ) (.int .i64 n) tZ) (.ptr mk 0 0) tZ),   [.ops (rg P 41 [1,1,1,0,1,0]).toList ((rg P 41 [1,1,1,0,1,0]).toList.drop 1),.code (cd P 41 [1,1,1,1])],[],.run,CallKind.normal,none⟩
noncomputable def zo5 (k:Int) (n:Int) (mk:Nat) (rest:List AFrame) (O:T AObj) (N:Nat) (G:T (T AV)):AM:=⟨⟨41,137,(tW (tW tZ (.int .i64 n) (tY (.int .i64 k))) (.ptr mk 0 0) tZ),   [.code (cd P 41 [1,1,1,1])],[],.run,CallKind.normal,none⟩,rest,⟨O,N,G⟩⟩
noncomputable def Fona (k:Int) (n:Int) (mk:Nat):AFrame:=⟨41,137,(tW (tW tZ (.int .i64 n) (tY (.int .i64 k))) (.ptr mk 0 0) (tX tZ (tX (tX (tX (tY (.ptr mk 0 0)) tZ) tZ) tZ))),   [.ops (rg P 41 [1,1,1,1,0]).toList ((rg P 41 [1,1,1,1,0]).toList.drop 1),.code (cd P 41 [1,1,1,1,1])],[],.run,CallKind.normal,none⟩
noncomputable def zg3 (N:Nat) (mk:Nat) (crq0:Int):AFrame:=⟨41,137,(tW (tX (tX (tY (.ptr N 0 0)) tZ) (tX tZ (tX tZ (tX (tY (.ptr mk 0 0)) tZ)))) (.ptr mk 0 0) (tX (tX (tY (.ptr (N+1) 0 0)) (tX tZ (tX (tY (.ptr N 0 0)) tZ))) (tY (.bool (crq0==(29:Int)))))),   [.ops (rg P 41 [1,1,1,1,1,1,0,1,0,1,0,1,0]).toList ((rg P 41 [1,1,1,1,1,1,0,1,0,1,0,1,0]).toList.drop 2),.code (cd P 41 [1,1,1,1,1,1,0,1,0,1,0,1,1]),.inBlock 0,.code (cd P 41 [1,1,1,1,1,1,1])],[],.run,CallKind.normal,none⟩
noncomputable def zeN (N:Nat) (n:Int) (mk:Nat) (crq0:Int):AFrame:=⟨41,137,(tW (tX (tX (tY (.ptr N 0 0)) tZ) (tX tZ (tX tZ (tX tZ (tY (.ptr N 0 0)))))) (.ptr mk 0 0) (tX (tX (tX (tX (tX (tY (.int .i64 (IntKind.i64.wrap (n - (1:Int))))) tZ) tZ) tZ) tZ) (tW tZ (.bool (crq0==(29:Int))) (tX tZ (tX tZ (tY (.ptr mk 0 0))))))),   [.ops (rg P 41 [1,1,1,1,1,1,0,1,0,1,1,1,0,0]).toList ((rg P 41 [1,1,1,1,1,1,0,1,0,1,1,1,0,0]).toList.drop 4),.code (cd P 41 [1,1,1,1,1,1,0,1,0,1,1,1,0,1]),.inBlock 0,.code (cd P 41 [1,1,1,1,1,1,1])],[],.run,CallKind.normal,none⟩
noncomputable def zb2 (N:Nat) (n:Int) (mk:Nat) (crq0:Int):AFrame:=⟨41,137,(tW (tW (tX (tY (.ptr N 0 0)) (tX tZ (tX tZ (tX (tY (.ptr mk 0 0)) tZ)))) (.int .i64 n) (tX tZ (tX tZ (tX tZ (tX (tY (.int .i64 (IntKind.i64.wrap (n - (1:Int))))) tZ))))) (.ptr mk 0 0) (tX tZ (tW (tX tZ (tX tZ (tX (tY (.ptr N 0 0)) tZ))) (.bool (crq0==(29:Int))) tZ))),   [.ops (rg P 41 [1,1,1,1,1,1,0,1,0,1,1,1,1,1,0,0]).toList ((rg P 41 [1,1,1,1,1,1,0,1,0,1,1,1,1,1,0,0]).toList.drop 4),.code (cd P 41 [1,1,1,1,1,1,0,1,0,1,1,1,1,1,0,1]),.inBlock 0,.code (cd P 41 [1,1,1,1,1,1,1])],[],.run,CallKind.normal,none⟩
noncomputable def zbr (N:Nat) (n:Int) (mk:Nat) (crq0:Int):AFrame:=⟨41,137,(tW (tX (tX (tY (.ptr N 0 0)) (tX tZ (tX (tX tZ (tY (.ptr mk 0 0))) tZ))) (tX tZ (tX tZ (tX (tX tZ (tY (.int .i64 (IntKind.i64.wrap (n - (1:Int)))))) tZ)))) (.ptr mk 0 0) (tX tZ (tW (tX tZ (tX (tX tZ (tY (.ptr N 0 0))) tZ)) (.bool (crq0==(29:Int))) tZ))),   [.ops (rg P 41 [1,1,1,1,1,1,0,1,0,1,1,1,1,1,1,1,0]).toList ((rg P 41 [1,1,1,1,1,1,0,1,0,1,1,1,1,1,1,1,0]).toList.drop 4),.inBlock 0,.code (cd P 41 [1,1,1,1,1,1,1])],[],.run,CallKind.normal,none⟩
noncomputable def zlS (m:Nat) (mk:Nat) (bl:Bool) (rest:List AFrame) (O:T AObj) (N:Nat) (G:T (T AV)):AM:=⟨⟨41,137,(tW (tX (tX (tY (.ptr m 0 0)) tZ) tZ) (.ptr mk 0 0) (tX tZ (tY (.bool bl)))),   [.code (cd P 41 [1,1,1,1,1,1,1])],[],.run,CallKind.normal,none⟩,rest,⟨O,N,G⟩⟩
noncomputable def jH (mk:Nat) (crq0:Int) (Nc:Nat):AFrame:=⟨41,137,(tW (tX (tX (tY (.ptr Nc 0 0)) tZ) (tX tZ (tX (tX tZ (tY (.ptr mk 0 0))) tZ))) (.ptr mk 0 0) (tX (tX (tY (.ptr (Nc+1) 0 0)) (tX (tX tZ (tY (.ptr Nc 0 0))) tZ)) (tY (.bool (crq0==(29:Int)))))),   [.ops (rg P 41 [1,1,1,1,1,1,0,1,0,1,0,1,1,1,0]).toList ((rg P 41 [1,1,1,1,1,1,0,1,0,1,0,1,1,1,0]).toList.drop 2),.inBlock 0,.code (cd P (41:FuncId) [1,1,1,1,1,1,1])],[],.run,CallKind.normal,none⟩
noncomputable def Wonc (j:Int) (m:Nat) (mk:Nat) (bl:Bool) (rest:List AFrame) (O:T AObj) (N:Nat) (G:T (T AV)):AM:=⟨⟨41,137,(tW (tX (tX (tY (.ptr m 0 0)) tZ) (tX (tY (.int .i64 j)) tZ)) (.ptr mk 0 0) (tX tZ (tY (.bool bl)))),   [.code (cd P 41 [1,1,1,1,1,1,0,1,0,1,1,1,0,1,1,0,0]),.inLoop (cd P 41 [1,1,1,1,1,1,0,1,0,1,1,1,0,1,1,0,0]),.inBlock 1,.inBlock 0,.code (cd P (41:FuncId) [1,1,1,1,1,1,1])],[],.run,CallKind.normal,none⟩,rest,⟨O,N,G⟩⟩
noncomputable def kA (n:Int) (mk:Nat) (crq0:Int) (Nc:Nat):AFrame:=⟨41,137,(tW (tX (tX (tY (.ptr Nc 0 0)) tZ) (tX (tX (tX (tX tZ (tY (.ptr Nc 0 0))) tZ) tZ) tZ)) (.ptr mk 0 0) (tX (tX tZ (tX (tX (tX tZ (tY (.int .i64 (IntKind.i64.wrap (n - (1:Int)))))) tZ) tZ)) (tW (tX (tX (tX tZ (tY (.ptr mk 0 0))) tZ) tZ) (.bool (crq0==(29:Int))) tZ))),   [.ops (rg P 41 [1,1,1,1,1,1,0,1,0,1,1,1,1,1,0,1]).toList ((rg P 41 [1,1,1,1,1,1,0,1,0,1,1,1,1,1,0,1]).toList.drop 4),.inBlock 0,.code (cd P (41:FuncId) [1,1,1,1,1,1,1])],[],.run,CallKind.normal,none⟩
noncomputable def zph (m:Nat) (mk:Nat):AFrame:=⟨41,137,(tW (tX (tX (tY (.ptr m 0 0)) tZ) tZ) (.ptr mk 0 0) (tX tZ (tX (tX (tX tZ (tX tZ (tY (.ptr mk 0 0)))) tZ) tZ))),   [.ops (rg P 41 [1,1,1,1,1,1,1,0,1,0,0,0]).toList ((rg P 41 [1,1,1,1,1,1,1,0,1,0,0,0]).toList.drop 1),.code (cd P 41 [1,1,1,1,1,1,1,0,1,0,0,1]),.code (cd P 41 [1,1,1,1,1,1,1,0,1,0,1]),.code (cd P 41 [1,1,1,1,1,1,1,1])],[],.run,CallKind.normal,none⟩
noncomputable def Wond (m:Nat) (rest:List AFrame) (O:T AObj) (N:Nat) (G:T (T AV)):AM:=⟨⟨41,137,(tX (tX (tX (tY (.ptr m 0 0)) tZ) tZ) tZ),   [.code (cd P 41 [1,1,1,1,1,1,1,1])],[],.run,CallKind.normal,none⟩,rest,⟨O,N,G⟩⟩
noncomputable def zeR (m:Nat) (mk:Nat):AFrame:=⟨41,137,(tW (tX (tX (tY (.ptr m 0 0)) tZ) (tX tZ (tX (tX tZ (tX tZ (tY (.ptr m 0 0)))) tZ))) (.ptr mk 0 0) (tX tZ (tX tZ (tX (tX tZ (tX tZ (tY (.ptr mk 0 0)))) tZ)))),   [.ops (rg P 41 [1,1,1,1,1,1,1,0,1,0,0,1,0]).toList ((rg P 41 [1,1,1,1,1,1,1,0,1,0,0,1,0]).toList.drop 2),.code (cd P (41:FuncId) [1,1,1,1,1,1,1,0,1,0,1]),.code (cd P (41:FuncId) [1,1,1,1,1,1,1,1])],[],.run,CallKind.normal,none⟩
noncomputable def zeX (m:Nat) (mk:Nat):AFrame:=⟨41,137,(tX (tX (tX (tY (.ptr m 0 0)) (tX tZ (tX tZ (tX tZ (tY (.ptr mk 0 0)))))) tZ) tZ),   [.ops (rg P 41 [1,1,1,1,1,1,1,0,1,0,1,0,0]).toList ((rg P 41 [1,1,1,1,1,1,1,0,1,0,1,0,0]).toList.drop 1),.code (cd P 41 [1,1,1,1,1,1,1,0,1,0,1,0,1]),.code (cd P 41 [1,1,1,1,1,1,1,0,1,0,1,1]),.code (cd P (41:FuncId) [1,1,1,1,1,1,1,1])],[],.run,CallKind.normal,none⟩
noncomputable def jJ (m:Nat) (mk:Nat):AFrame:=⟨41,137,(tX (tX (tX (tY (.ptr m 0 0)) (tX tZ (tX tZ (tX tZ (tY (.ptr mk 0 0)))))) tZ) tZ),   [.ops (rg P 41 [1,1,1,1,1,1,1,0,1,0,1,0,0]).toList ((rg P 41 [1,1,1,1,1,1,1,0,1,0,1,0,0]).toList.drop 1),.code (cd P 41 [1,1,1,1,1,1,1,0,1,0,1,0,1]),.code (cd P 41 [1,1,1,1,1,1,1,0,1,0,1,1]),.code (cd P (41:FuncId) [1,1,1,1,1,1,1,1])],[],.run,CallKind.normal,none⟩
noncomputable def Fond (m:Nat):AFrame:=⟨41,137,(tX tZ (tX (tX (tX (tX (tX (tX (tY (.ptr m 0 0)) tZ) tZ) tZ) tZ) tZ) tZ)),   [.ops (rg P 41 [1,1,1,1,1,1,1,1,0]).toList ((rg P 41 [1,1,1,1,1,1,1,1,0]).toList.drop 1),.code (cd P 41 [1,1,1,1,1,1,1,1,1])],[],.run,CallKind.normal,none⟩
noncomputable def zpn (sn2:AV) (sa2:AV) (j:Int) (m:Nat) (mk:Nat) (bl:Bool) (z1:Int):AFrame:=⟨41,137,(tW (tX (tX (tW (tX tZ (tX (tY (.ptr m 0 0)) tZ)) (.ptr m 0 0) (tX (tX (tY (.ptr m 0 3)) tZ) tZ)) tZ) (tX (tW (tX tZ (tX (tY sn2) tZ)) (.int .i64 j) (tX (tX (tY (.int .i64 z1)) tZ) tZ)) (tX (tX (tX (tY (.ptr m 0 0)) tZ) tZ) (tX (tX (tY (.ptr m 0 0)) tZ) tZ)))) (.ptr mk 0 0) (tX (tX (tX (tX tZ (tX (tY (.ptr m 0 2)) tZ)) (tX (tX (tY sa2) tZ) tZ)) (tX (tX (tX (tY (.int .i64 j)) tZ) tZ) tZ)) (tW (tX (tX tZ (tX (tY (.ptr mk 0 0)) tZ)) (tX (tX (tY (.bool true)) tZ) tZ)) (.bool bl) (tX (tX (tX (tY (.ptr m 0 0)) tZ) tZ) (tX (tX (tY (.ptr m 0 0)) tZ) tZ))))),   [.drw (rg P 41 [1,1,1,1,1,1,0,1,0,1,1,1,0,1,1,0,0,1,0,0]) [6,7,8,9,10,11] [5,4,3,2,1,0],.inBlock 2,.code (cd P 41 [1,1,1,1,1,1,0,1,0,1,1,1,0,1,1,0,0,1,1]),.inLoop (cd P (41:FuncId) [1,1,1,1,1,1,0,1,0,1,1,1,0,1,1,0,0]),.inBlock 1,.inBlock 0,.code (cd P (41:FuncId) [1,1,1,1,1,1,1])],[],.run,CallKind.normal,none⟩
section
variable {R:AV→AHeap→Prop} {keep N mk Nc m:Nat} {f0:FuncId} {rest:List AFrame} {O:T AObj} {n nn crq0 crq1 k crq2 j z1c:Int} {G:T (T AV)} {K:AM→Prop} {td:List AItem} {prq1 sn2 sa2 prq2 prq0:AV} {bl:Bool} {lrq0:List UInt8}
theorem zkB:(∃ (O1:T AObj),(lC O N G mk 1 (.int .i64 nn))∧(zb (⟨O,N,G⟩) (mk) (0) (1) ([.int .i64 (IntKind.i64.wrap (nn+(1:Int)))])=(some ⟨O1,N,G⟩))∧K (AM.mk (enF 52 [.ptr mk 0 0,.int .i64 9]) ((zpY n mk)::rest) ⟨O1,N,G⟩))=OT f0 R keep K (.ex fun O1:T AObj=>(.seq [.run 9,.hop (.int .i64 nn) O,.run 3,.hop (.nilp) O1,.run 4,.keep [0,1,19],.run 1] .fin)) ((AM.mk (enF 41 [.ptr mk 0 0,.int .i64 n]) rest ⟨O,N,G⟩)):=by kernel_rfl
theorem za4:(((decide (n<(1:Int)))=true→(K (AM.mk (enF 52 [.ptr mk 0 0,.int .i64 6]) ((ze8 n mk)::rest) ⟨O,N,G⟩)))∧((decide (n<(1:Int)))=false→((lC O N G mk 1 (.int .i64 nn))∧((decide (nn > (150:Int)))=true→(K (AM.mk (enF 52 [.ptr mk 0 0,.int .i64 6]) ((zb9 n mk)::rest) ⟨O,N,G⟩)))∧((decide (nn > (150:Int)))=false→(K (zo5 (IntKind.i64.wrap ((1:Int)+crq0)) n mk rest O N G))))))=OT f0 R keep K (.seq [.run 10] (.fork 24 (.seq [.run 10,.keep [0,1,31],.run 1] .fin) (.seq [.run 3,.hop (.int .i64 nn) O,.run 3] (.fork 30 (.seq [.run 3,.keep [0,1,31],.run 1] .fin) (.seq [.run 2,.keep [0,1,5]] .fin))))) ((AM.mk (RF 52 30 (tX tZ (tX (tY (.int .i64 crq0)) tZ)) td) ((zpY n mk)::rest) ⟨O,N,G⟩)):=by kernel_rfl
theorem zdh:(K (zo5 (IntKind.i64.wrap ((1:Int)+crq1)) n mk rest O N G))=OT f0 R keep K (.seq [.run 4,.keep [0,1,5]] .fin) ((AM.mk (RF 52 30 (tX tZ (tX (tY (.int .i64 crq1)) tZ)) td) ((ze8 n mk)::rest) ⟨O,N,G⟩)):=by kernel_rfl
theorem zbL:(K (zo5 (IntKind.i64.wrap ((1:Int)+crq1)) n mk rest O N G))=OT f0 R keep K (.seq [.run 4,.keep [0,1,5]] .fin) ((AM.mk (RF 52 30 (tX tZ (tX (tY (.int .i64 crq1)) tZ)) td) ((zb9 n mk)::rest) ⟨O,N,G⟩)):=by kernel_rfl
theorem zia:(K (AM.mk (enF 52 [.ptr mk 0 0,.int .i64 30]) ((Fona k n mk)::rest) ⟨O,N,G⟩))=OT f0 R keep K (.seq [.run 3,.keep [0,1,5,34],.run 1] .fin) ((zo5 k n mk rest O N G)):=by kernel_rfl
theorem wY:(∃ (O1:T AObj),(T.set ((some (.cells (tW (tW (tY (.nils 0 0)) (.str []) tZ) (.int .i64 k) (tW (tY .nilp) (.nils 0 0) tZ)) 5 44 0 0 1 0 false .leaf))) (O) (N)=O1)∧(((k==(6:Int)))=true→(∃ (O2:T AObj) (O3:T AObj),(T.set ((some (.cells (tW (tW (tY (.str [])) (.str []) tZ) (.str []) (tW (tY (.str [])) (.str []) tZ)) 5 93 0 0 1 0 false .leaf))) (O1) (N+1)=O2)∧(zb (⟨O2,N+2,G⟩) (N+1) (0) (0) ([.str [UInt8.ofNat (109),UInt8.ofNat (46),UInt8.ofNat (84)],.str [UInt8.ofNat (109),UInt8.ofNat (46),UInt8.ofNat (85)],.str [UInt8.ofNat (108),UInt8.ofNat (105),UInt8.ofNat (98),UInt8.ofNat (47),UInt8.ofNat (120),UInt8.ofNat (46),UInt8.ofNat (84)],.str [],.str [UInt8.ofNat (97),UInt8.ofNat (32),UInt8.ofNat (98)]])=(some ⟨O3,N+2,G⟩))∧K (AM.mk (enF 52 [.ptr mk 0 0,.int .i64 3]) ((zg3 N mk crq0)::rest) ⟨O3,N+2,G⟩)))∧(((k==(6:Int)))=false→((((k==(7:Int)))=true→(K (AM.mk (enF 82 [.ptr mk 0 0,.int .i64 (IntKind.i64.wrap (n - (1:Int)))]) ((zeN N n mk crq0)::rest) ⟨O1,N+1,G⟩)))∧(((k==(7:Int)))=false→((((k==(8:Int)))=true→(K (AM.mk (enF 82 [.ptr mk 0 0,.int .i64 (IntKind.i64.wrap (n - (1:Int)))]) ((zb2 N n mk crq0)::rest) ⟨O1,N+1,G⟩)))∧(((k==(8:Int)))=false→((((k==(9:Int)))=true→(K (AM.mk (enF 82 [.ptr mk 0 0,.int .i64 (IntKind.i64.wrap (n - (1:Int)))]) ((zbr N n mk crq0)::rest) ⟨O1,N+1,G⟩)))∧(((k==(9:Int)))=false→(K (zlS N mk (crq0==(29:Int)) rest O1 (N+1) G))))))))))=OT f0 R keep K (.ex fun O1:T AObj=>(.seq [.run 8,.hop (.nilp) O1,.run 13] (.fork 41 (.ex fun O2:T AObj=>(.ex fun O3:T AObj=>(.seq [.run 4,.hop (.nilp) O2,.hop (.nilp) O3,.run 5,.keep [0,6,7,8,44,45],.run 1] .fin))) (.seq [.run 6] (.fork 59 (.seq [.run 7,.keep [0,6,7,61,62,64],.run 1] .fin) (.seq [.run 6] (.fork 88 (.seq [.run 7,.keep [0,1,6,7,90,91,93],.run 1] .fin) (.seq [.run 6] (.fork 104 (.seq [.run 6,.keep [0,6,7,106,107,109],.run 1] .fin) (.seq [.run 3,.keep [0,6,7]] .fin)))))))))) ((AM.mk (RF 52 30 (tX tZ (tX (tY (.int .i64 crq0)) tZ)) td) ((Fona k n mk)::rest) ⟨O,N,G⟩)):=by kernel_rfl
theorem jG:(∃ (l1:List UInt8) (O1:T AObj),((0:Int)≤crq1∧crq1<(↑5:Int))∧(zc (⟨O,N,G⟩) (Nc+1) (0) (0+crq1.toNat*1) (1)=(some [.str l1]))∧(zb (⟨O,N,G⟩) (Nc) (0) (1) ([.str l1])=(some ⟨O1,N,G⟩))∧(((crq0==(29:Int)))=true→(K (AM.mk (enF 52 [.ptr mk 0 0,.int .i64 5]) ((jH mk crq0 Nc)::rest) ⟨O1,N,G⟩)))∧(((crq0==(29:Int)))=false→(K (zlS Nc mk (crq0==(29:Int)) rest O1 N G))))=OT f0 R keep K (.ex fun l1:List UInt8=>(.ex fun O1:T AObj=>(.seq [.run 1,.op,.hop (.str l1) O,.run 2,.hop (.nilp) O1,.run 5] (.fork 51 (.seq [.run 4,.keep [0,6,7,8,52,53],.run 1] .fin) (.seq [.run 3,.keep [0,6,7]] .fin))))) ((AM.mk (RF 52 30 (tX tZ (tX (tY (.int .i64 crq1)) tZ)) td) ((zg3 Nc mk crq0)::rest) ⟨O,N,G⟩)):=by kernel_rfl
theorem zaa:(∃ (l1:List UInt8) (O1:T AObj),((0:Int)≤crq2∧crq2<(↑5:Int))∧(zc (⟨O,N,G⟩) (Nc+1) (0) (0+crq2.toNat*1) (1)=(some [.str l1]))∧(zb (⟨O,N,G⟩) (Nc) (0) (1) ([.str l1])=(some ⟨O1,N,G⟩))∧K (zlS Nc mk (crq0==(29:Int)) rest O1 N G))=OT f0 R keep K (.ex fun l1:List UInt8=>(.ex fun O1:T AObj=>(.seq [.run 1,.op,.hop (.str l1) O,.run 2,.hop (.nilp) O1,.run 2,.keep [0,6,7]] .fin))) ((AM.mk (RF 52 30 (tX tZ (tX (tY (.int .i64 crq2)) tZ)) td) ((jH mk crq0 Nc)::rest) ⟨O,N,G⟩)):=by kernel_rfl
theorem zcW:(∃ (O1:T AObj),(prq1.cells.length.beq (1)=true∧zb (⟨O,N,G⟩:AHeap) Nc (0) (3) prq1.cells=some (⟨O1,N,G⟩:AHeap))∧K (Wonc 0 Nc mk (crq0==(29:Int)) rest O1 N G))=OT f0 R keep K (.ex fun O1:T AObj=>(.seq [.run 3,.hopn (.nilp) O1 (N),.run 7,.keep [0,6,7,9]] .fin)) ((AM.mk (RF 82 20 (tX tZ (tX (tY prq1) tZ)) td) ((zeN Nc n mk crq0)::rest) ⟨O,N,G⟩)):=by kernel_rfl
theorem zpB:(∃ (z1:Int),(lC O N G m 3 sa2)∧(lN O N G 33 sa2 z1)∧((decide (j<z1))=true→((lC O N G m 2 sn2)∧K (AM.mk (enF 83 [.ptr mk 0 0]) ((zpn sn2 sa2 j m mk bl z1)::rest) ⟨O,N,G⟩)))∧((decide (j<z1))=false→(K (zlS m mk bl rest O N G))))=OT f0 R keep K (.ex fun z1:Int=>(.seq [.run 7,.hop (sa2) O,.hopn (.int .i64 z1) O (N),.run 2] (.fork 74 (.seq [.run 9,.hop (sn2) O,.run 2] .fin) (.seq [.run 3,.keep [0,6,7]] .fin)))) ((Wonc j m mk bl rest O N G)):=by kernel_rfl
theorem zjC:(∃ (O1:T AObj) (s1:AV) (O2:T AObj) (N1:Nat) (O3:T AObj),(True)∧(lC O N G m 2 sn2)∧(okD 300 sn2=true)∧(zf P (⟨O,N,G⟩) (32) (1) ([(0,.str lrq0)])=(some (.slc N 0 0 1 1,⟨O1,N+1,G⟩)))∧(lC O1 (N+1) G m 2 sn2)∧(okD 300 sn2=true)∧(zg P (⟨O1,N+1,G⟩) (Builtin.append) ((some 32)) ((some 32)) ([sn2,.slc N 0 0 1 1])=(some (.val s1 ⟨O2,N1,G⟩)))∧(s1.cells.length.beq (1)=true∧zb (⟨O2,N1,G⟩:AHeap) m (0) (2) s1.cells=some (⟨O3,N1,G⟩:AHeap))∧K (Wonc (IntKind.i64.wrap (j+(1:Int))) m mk bl rest O3 N1 G))=OT f0 R keep K (.ex fun O1:T AObj=>(.ex fun s1:AV=>(.ex fun O2:T AObj=>(.ex fun N1:Nat=>(.ex fun O3:T AObj=>(.seq [.hret [.nilp],.hopn (.slc N 0 0 1 1) O1 (N+1),.hopn (s1) O2 (N1),.run 2,.hopn (.nilp) O3 (N1),.run 8,.keep [0,6,7,9]] .fin)))))) ((AM.mk (RF 83 16 (tX tZ (tY (.str lrq0))) td) ((zpn sn2 sa2 j m mk bl z1c)::rest) ⟨O,N,G⟩)):=by kernel_rfl
theorem zbI:(∃ (O1:T AObj),(prq1.cells.length.beq (1)=true∧zb (⟨O,N,G⟩:AHeap) Nc (0) (3) prq1.cells=some (⟨O1,N,G⟩:AHeap))∧K (AM.mk (enF 41 [.ptr mk 0 0,.int .i64 (IntKind.i64.wrap (n - (1:Int)))]) ((kA n mk crq0 Nc)::rest) ⟨O1,N,G⟩))=OT f0 R keep K (.ex fun O1:T AObj=>(.seq [.run 3,.hopn (.nilp) O1 (N),.run 6,.keep [0,6,7,97,98,100],.run 1] .fin)) ((AM.mk (RF 82 20 (tX tZ (tX (tY prq1) tZ)) td) ((zb2 Nc n mk crq0)::rest) ⟨O,N,G⟩)):=by kernel_rfl
theorem ju:(∃ (O1:T AObj),(prq2.cells.length.beq (1)=true∧zb (⟨O,N,G⟩:AHeap) Nc (0) (4) prq2.cells=some (⟨O1,N,G⟩:AHeap))∧K (zlS Nc mk (crq0==(29:Int)) rest O1 N G))=OT f0 R keep K (.ex fun O1:T AObj=>(.seq [.run 3,.hopn (.nilp) O1 (N),.run 2,.keep [0,6,7]] .fin)) ((AM.mk (RF 41 137 (tX tZ (tX (tY prq2) tZ)) td) ((kA n mk crq0 Nc)::rest) ⟨O,N,G⟩)):=by kernel_rfl
theorem zbn:(∃ (O1:T AObj),(prq1.cells.length.beq (1)=true∧zb (⟨O,N,G⟩:AHeap) Nc (0) (3) prq1.cells=some (⟨O1,N,G⟩:AHeap))∧K (zlS Nc mk (crq0==(29:Int)) rest O1 N G))=OT f0 R keep K (.ex fun O1:T AObj=>(.seq [.run 3,.hopn (.nilp) O1 (N),.run 2,.keep [0,6,7]] .fin)) ((AM.mk (RF 82 20 (tX tZ (tX (tY prq1) tZ)) td) ((zbr Nc n mk crq0)::rest) ⟨O,N,G⟩)):=by kernel_rfl
theorem zis:(((bl)=true→(K (AM.mk (enF 52 [.ptr mk 0 0,.int .i64 6]) ((zph m mk)::rest) ⟨O,N,G⟩)))∧((bl)=false→(K (Wond m rest O N G))))=OT f0 R keep K (.seq [.run 5] (.fork 113 (.seq [.run 5,.keep [0,7,114],.run 1] .fin) (.seq [.run 2,.keep [7]] .fin))) ((zlS m mk bl rest O N G)):=by kernel_rfl
theorem vZ:((((crq0==(5:Int)))=true→(K (AM.mk (enF 52 [.ptr mk 0 0,.int .i64 12]) ((zeR m mk)::rest) ⟨O,N,G⟩)))∧(((crq0==(5:Int)))=false→(K (AM.mk (enF 52 [.ptr mk 0 0,.int .i64 9]) ((zeX m mk)::rest) ⟨O,N,G⟩))))=OT f0 R keep K (.seq [.run 3] (.fork 116 (.seq [.run 4,.keep [0,7,117,118],.run 1] .fin) (.seq [.run 6,.keep [7,123],.run 1] .fin))) ((AM.mk (RF 52 30 (tX tZ (tX (tY (.int .i64 crq0)) tZ)) td) ((zph m mk)::rest) ⟨O,N,G⟩)):=by kernel_rfl
theorem kK:(∃ (O1:T AObj),(zb (⟨O,N,G⟩) (m) (0) (0) ([.int .i64 (IntKind.i64.wrap (crq1 - (1:Int)))])=(some ⟨O1,N,G⟩))∧K (AM.mk (enF 52 [.ptr mk 0 0,.int .i64 9]) ((jJ m mk)::rest) ⟨O1,N,G⟩))=OT f0 R keep K (.ex fun O1:T AObj=>(.seq [.run 4,.hop (.nilp) O1,.run 5,.keep [7,123],.run 1] .fin)) ((AM.mk (RF 52 30 (tX tZ (tX (tY (.int .i64 crq1)) tZ)) td) ((zeR m mk)::rest) ⟨O,N,G⟩)):=by kernel_rfl
theorem qX:((((crq2==(8:Int)))=true→(K (AM.mk (RF 41 137 (tX tZ (tX (tY .nilp) tZ)) [.code (cd P 52 [1,0,1,0,1]),.code (cd P (41:FuncId) [1,1,1,1,1,1,1,0,1,0,1,1]),.code (cd P (41:FuncId) [1,1,1,1,1,1,1,1])]) rest ⟨O,N,G⟩)))∧(((crq2==(8:Int)))=false→(K (AM.mk (RF 41 137 (tX tZ (tX (tY (.ptr m 0 0)) tZ)) [.code (cd P 52 [1,0,1,0,1]),.code (cd P (41:FuncId) [1,1,1,1,1,1,1,1])]) rest ⟨O,N,G⟩))))=OT f0 R keep K (.seq [.run 3] (.fork 125 (.seq [.run 6,.keep [4]] .fin) (.seq [.run 8,.keep [4]] .fin))) ((AM.mk (RF 52 30 (tX tZ (tX (tY (.int .i64 crq2)) tZ)) td) ((jJ m mk)::rest) ⟨O,N,G⟩)):=by kernel_rfl
theorem vQ:((((crq1==(8:Int)))=true→(K (AM.mk (RF 41 137 (tX tZ (tX (tY .nilp) tZ)) [.code (cd P 52 [1,0,1,0,1]),.code (cd P (41:FuncId) [1,1,1,1,1,1,1,0,1,0,1,1]),.code (cd P (41:FuncId) [1,1,1,1,1,1,1,1])]) rest ⟨O,N,G⟩)))∧(((crq1==(8:Int)))=false→(K (AM.mk (RF 41 137 (tX tZ (tX (tY (.ptr m 0 0)) tZ)) [.code (cd P 52 [1,0,1,0,1]),.code (cd P (41:FuncId) [1,1,1,1,1,1,1,1])]) rest ⟨O,N,G⟩))))=OT f0 R keep K (.seq [.run 3] (.fork 125 (.seq [.run 6,.keep [4]] .fin) (.seq [.run 8,.keep [4]] .fin))) ((AM.mk (RF 52 30 (tX tZ (tX (tY (.int .i64 crq1)) tZ)) td) ((zeX m mk)::rest) ⟨O,N,G⟩)):=by kernel_rfl
theorem zo9:(K (AM.mk (enF 84 [.ptr m 0 0]) ((Fond m)::rest) ⟨O,N,G⟩))=OT f0 R keep K (.seq [.run 3,.keep [128],.run 1] .fin) ((Wond m rest O N G)):=by kernel_rfl
theorem zhm:((((crq0 != (0:Int)))=true→(∃ (O1:T AObj),(T.set ((some (.cells (tW (tW (tY (.nils 0 0)) (.str []) tZ) (.int .i64 2) (tW (tY .nilp) (.nils 0 0) tZ)) 5 44 0 0 1 0 false .leaf))) (O) (N)=O1)∧K (AM.mk (RF 41 137 (tX tZ (tX (tY (.ptr N 0 0)) tZ)) [.code (cd P 84 [1,0,1,0,1,0,1]),.code (cd P 41 [1,1,1,1,1,1,1,1,1,1])]) rest ⟨O1,N+1,G⟩)))∧(((crq0 != (0:Int)))=false→(K (AM.mk (RF 41 137 (tX tZ (tX (tY prq0) tZ)) [.code (cd P 84 [1,0,1,0,1,0,1])]) rest ⟨O,N,G⟩))))=OT f0 R keep K (.seq [.run 13] (.fork 133 (.ex fun O1:T AObj=>(.seq [.run 4,.hop (.nilp) O1,.run 3,.keep [4]] .fin)) (.seq [.run 8,.keep [4]] .fin))) ((AM.mk (RF 84 44 (tX (tX (tY (.int .i64 crq0)) tZ) (tY prq0)) td) ((Fond m)::rest) ⟨O,N,G⟩)):=by kernel_rfl
end
variable {O O':T AObj} {N:Nat} {G:T (T AV)}
def tab5:List (List UInt8):=[[109,46,84],[109,46,85],[108,105,98,47,120,46,84],[],[97,32,98]]
theorem zmy {n c:Int}{xs ys:List UInt8}(h:nx n xs=(c,ys))(hn:0<n):0≤c∧c<n:=by
 cases xs with
 | nil =>
  obtain ⟨rfl,_⟩:(0:Int)=c∧[]=ys:=Prod.mk.inj h
  exact ⟨Int.le_refl _,hn⟩
 | cons x r =>
  obtain ⟨rfl,_⟩:(bi x).tmod n=c∧r=ys:=Prod.mk.inj h
  have hb:0≤bi x:=by unfold bi; omega
  exact ⟨Int.tmod_nonneg _ hb,Int.tmod_lt_of_pos _ hn⟩
def CTX (hi mk:Nat) (A:Nat→Prop) (O:T AObj) (N:Nat) (G:T (T AV)) (keep:Nat) (f0:FuncId) (Q:AV→AHeap→Prop) (rest:List AFrame) (t:Ty) (ys:List UInt8) (nn':Int):Prop :=
 ∀ (O':T AObj) (N':Nat) (td:List AItem) (p:Option Nat),N≤N'→(∀ j,j<N→j≠mk→O'.get j=O.get j)→MK2 O' hi mk ys nn'→Tra O' N' A t p→Goal P keep f0 Q (AM.mk (RF 41 137 (tX tZ (tX (tY (pv p)) tZ)) td) rest ⟨O',N',G⟩)
theorem zfe {d:Nat}(hd1:d≤1000)(hrec:d=0∨∃ d',d=d'+1∧znM d'):znM d:=by
 intro xs nn
 have stB:∀ (zs:List UInt8) (n2 k:Int) (nm:List UInt8) (ns:List (List UInt8)) (ts:List Ty) (r:Ty) (bl:Bool),∃ (t:Ty) (ys:List UInt8) (nn':Int),∀ {hi mk:Nat} {A:Nat→Prop} {O:T AObj} {N:Nat} {G:T (T AV)} {keep:Nat} {f0:FuncId} {Q:AV→AHeap→Prop} {rest:List AFrame},hi≤mk→mk<N→(∀ j,A j→j<N)→A mk→CTX hi mk A O N G keep f0 Q rest t ys nn' →
  ∀ (O2:T AObj) (N2:Nat) (m:Nat) (sn sa:AV) (ps:List (Option Nat)) (q:Option Nat),N≤N2→N≤m→(∀ j,j<N→j≠mk→O2.get j=O.get j)→MK2 O2 hi mk zs n2→RAW O2 N2 A m k nm ns ts r sn sa ps q→Goal P keep f0 Q (zlS m mk bl rest O2 N2 G):=by
  intro zs n2 k nm ns ts r bl
  cases bl with
  | true =>
   rcases h6:nx 6 zs with ⟨c3,y3⟩
   rcases h12:nx 12 y3 with ⟨c4,y4⟩
   rcases h9:nx 9 y4 with ⟨c9,y9⟩
   rcases h9':nx 9 y3 with ⟨c9',y9'⟩
   by_cases e5:c3=5
   · by_cases e8:c9=8
     · refine ⟨.no,y9,n2,?_⟩
       intro hi mk A O N G keep f0 Q rest hmk hmN hA hAm hK
       intro O2 N2 m sn sa ps q hN2 hNm low2 m2 raw
       have hmm:m≠mk:=by omega
       have hA2:∀ j,A j→j<N2:=fun j h=>by have:=hA j h; omega
       refine ot zis (fkt (rfl) ?_)
       refine zl h6 m2 hmk (by omega) fun O3 td3 c30 c36 f3 m3=>?_
       have low3:∀ j,j<N→j≠mk→O3.get j=O.get j:=fun j h1 h2=>(f3 j h2).trans (low2 j h1 h2)
       have raw3:=raw.same (O':=O3) (fun j _ h2=>f3 j (fun e=>h2 (e▸hAm)))
       refine ot vZ (fkt ((by rw [e5]; rfl)) ?_)
       refine zl h12 m3 hmk (by omega) fun O4 td4 c40 c46 f4 m4=>?_
       have low4:∀ j,j<N→j≠mk→O4.get j=O.get j:=fun j h1 h2=>(f4 j h2).trans (low3 j h1 h2)
       have raw4:=raw3.same (O':=O4) (fun j _ h2=>f4 j (fun e=>h2 (e▸hAm)))
       obtain ⟨O5,st5,b5,f5⟩:=raw4.ob.store 0 [.int .i64 (IntKind.i64.wrap (c4 - (1:Int)))] N2 G (Nat.le_of_ble_eq_true rfl) rfl
       have raw5:=raw4.put f5 b5
       have low5:∀ j,j<N→j≠mk→O5.get j=O.get j:=fun j h1 h2=>(f5 j (by omega)).trans (low4 j h1 h2)
       have m5:=m4.same (O':=O5) (fun j hj=>f5 j (by omega)) (f5 mk (by omega))
       refine ot kK ⟨O5,st5,?_⟩
       refine zl h9 m5 hmk (by omega) fun O6 td6 c60 c66 f6 m6=>?_
       have low6:∀ j,j<N→j≠mk→O6.get j=O.get j:=fun j h1 h2=>(f6 j h2).trans (low5 j h1 h2)
       have raw6:=raw5.same (O':=O6) (fun j _ h2=>f6 j (fun e=>h2 (e▸hAm)))
       refine ot qX (fkt ((by rw [e8]; rfl)) ?_)
       exact hK O6 N2 _ none hN2 low6 m6 Tra.nil
     · refine ⟨.mk (IntKind.i64.wrap (c4 - (1:Int))) nm ns ts r,y9,n2,?_⟩
       intro hi mk A O N G keep f0 Q rest hmk hmN hA hAm hK
       intro O2 N2 m sn sa ps q hN2 hNm low2 m2 raw
       have hmm:m≠mk:=by omega
       have hA2:∀ j,A j→j<N2:=fun j h=>by have:=hA j h; omega
       refine ot zis (fkt (rfl) ?_)
       refine zl h6 m2 hmk (by omega) fun O3 td3 c30 c36 f3 m3=>?_
       have low3:∀ j,j<N→j≠mk→O3.get j=O.get j:=fun j h1 h2=>(f3 j h2).trans (low2 j h1 h2)
       have raw3:=raw.same (O':=O3) (fun j _ h2=>f3 j (fun e=>h2 (e▸hAm)))
       refine ot vZ (fkt ((by rw [e5]; rfl)) ?_)
       refine zl h12 m3 hmk (by omega) fun O4 td4 c40 c46 f4 m4=>?_
       have low4:∀ j,j<N→j≠mk→O4.get j=O.get j:=fun j h1 h2=>(f4 j h2).trans (low3 j h1 h2)
       have raw4:=raw3.same (O':=O4) (fun j _ h2=>f4 j (fun e=>h2 (e▸hAm)))
       obtain ⟨O5,st5,b5,f5⟩:=raw4.ob.store 0 [.int .i64 (IntKind.i64.wrap (c4 - (1:Int)))] N2 G (Nat.le_of_ble_eq_true rfl) rfl
       have raw5:=raw4.put f5 b5
       have low5:∀ j,j<N→j≠mk→O5.get j=O.get j:=fun j h1 h2=>(f5 j (by omega)).trans (low4 j h1 h2)
       have m5:=m4.same (O':=O5) (fun j hj=>f5 j (by omega)) (f5 mk (by omega))
       refine ot kK ⟨O5,st5,?_⟩
       refine zl h9 m5 hmk (by omega) fun O6 td6 c60 c66 f6 m6=>?_
       have low6:∀ j,j<N→j≠mk→O6.get j=O.get j:=fun j h1 h2=>(f6 j h2).trans (low5 j h1 h2)
       have raw6:=raw5.same (O':=O6) (fun j _ h2=>f6 j (fun e=>h2 (e▸hAm)))
       refine ot qX (fkf ((beq_eq_false_iff_ne.2 e8)) ?_)
       exact hK O6 N2 _ (some m) hN2 low6 m6 raw6.node
   · by_cases e8:c9'=8
     · refine ⟨.no,y9',n2,?_⟩
       intro hi mk A O N G keep f0 Q rest hmk hmN hA hAm hK
       intro O2 N2 m sn sa ps q hN2 hNm low2 m2 raw
       have hmm:m≠mk:=by omega
       have hA2:∀ j,A j→j<N2:=fun j h=>by have:=hA j h; omega
       refine ot zis (fkt (rfl) ?_)
       refine zl h6 m2 hmk (by omega) fun O3 td3 c30 c36 f3 m3=>?_
       have low3:∀ j,j<N→j≠mk→O3.get j=O.get j:=fun j h1 h2=>(f3 j h2).trans (low2 j h1 h2)
       have raw3:=raw.same (O':=O3) (fun j _ h2=>f3 j (fun e=>h2 (e▸hAm)))
       refine ot vZ (fkf ((beq_eq_false_iff_ne.2 e5)) ?_)
       refine zl h9' m3 hmk (by omega) fun O6 td6 c60 c66 f6 m6=>?_
       have low6:∀ j,j<N→j≠mk→O6.get j=O.get j:=fun j h1 h2=>(f6 j h2).trans (low3 j h1 h2)
       have raw6:=raw3.same (O':=O6) (fun j _ h2=>f6 j (fun e=>h2 (e▸hAm)))
       refine ot vQ (fkt ((by rw [e8]; rfl)) ?_)
       exact hK O6 N2 _ none hN2 low6 m6 Tra.nil
     · refine ⟨.mk k nm ns ts r,y9',n2,?_⟩
       intro hi mk A O N G keep f0 Q rest hmk hmN hA hAm hK
       intro O2 N2 m sn sa ps q hN2 hNm low2 m2 raw
       have hmm:m≠mk:=by omega
       have hA2:∀ j,A j→j<N2:=fun j h=>by have:=hA j h; omega
       refine ot zis (fkt (rfl) ?_)
       refine zl h6 m2 hmk (by omega) fun O3 td3 c30 c36 f3 m3=>?_
       have low3:∀ j,j<N→j≠mk→O3.get j=O.get j:=fun j h1 h2=>(f3 j h2).trans (low2 j h1 h2)
       have raw3:=raw.same (O':=O3) (fun j _ h2=>f3 j (fun e=>h2 (e▸hAm)))
       refine ot vZ (fkf ((beq_eq_false_iff_ne.2 e5)) ?_)
       refine zl h9' m3 hmk (by omega) fun O6 td6 c60 c66 f6 m6=>?_
       have low6:∀ j,j<N→j≠mk→O6.get j=O.get j:=fun j h1 h2=>(f6 j h2).trans (low3 j h1 h2)
       have raw6:=raw3.same (O':=O6) (fun j _ h2=>f6 j (fun e=>h2 (e▸hAm)))
       refine ot vQ (fkf ((beq_eq_false_iff_ne.2 e8)) ?_)
       exact hK O6 N2 _ (some m) hN2 low6 m6 raw6.node
  | false =>
   by_cases e0:(zeJ k nm ns ts r).1=0
   · refine ⟨(zeJ k nm ns ts r).2,zs,n2,?_⟩
     intro hi mk A O N G keep f0 Q rest hmk hmN hA hAm hK
     intro O2 N2 m sn sa ps q hN2 hNm low2 m2 raw
     have hmm:m≠mk:=by omega
     have hA2:∀ j,A j→j<N2:=fun j h=>by have:=hA j h; omega
     refine ot zis (fkf (rfl) ?_)
     refine ot zo9 ?_
     refine zgX raw hA2 fun O8 N8 td8 p8 ex8 tx8=>?_
     have nn8:=ex8.1
     have low8:∀ j,j<N→j≠mk→O8.get j=O.get j:=fun j h1 h2=>(ex8.2 j (by omega)).trans (low2 j h1 h2)
     have m8:=m2.same (O':=O8) (fun j hj=>ex8.2 j (by omega)) (ex8.2 mk (by omega))
     refine ot zhm (fkf ((by rw [e0]; rfl)) ?_)
     exact hK O8 N8 _ p8 (by omega) low8 m8 tx8
   · refine ⟨.mk 2 [] [] [] .no,zs,n2,?_⟩
     intro hi mk A O N G keep f0 Q rest hmk hmN hA hAm hK
     intro O2 N2 m sn sa ps q hN2 hNm low2 m2 raw
     have hmm:m≠mk:=by omega
     have hA2:∀ j,A j→j<N2:=fun j h=>by have:=hA j h; omega
     refine ot zis (fkf (rfl) ?_)
     refine ot zo9 ?_
     refine zgX raw hA2 fun O8 N8 td8 p8 ex8 tx8=>?_
     have nn8:=ex8.1
     have low8:∀ j,j<N→j≠mk→O8.get j=O.get j:=fun j h1 h2=>(ex8.2 j (by omega)).trans (low2 j h1 h2)
     have m8:=m2.same (O':=O8) (fun j hj=>ex8.2 j (by omega)) (ex8.2 mk (by omega))
     refine ot zhm (fkt ((bne_iff_ne.2 e0)) ?_)
     obtain ⟨O1w,e33,b33,f33⟩:=Obj.mk (c:=(tW (tW (tY (.nils 0 0)) (.str []) tZ) (.int .i64 2) (tW (tY .nilp) (.nils 0 0) tZ))) (el:=44) [(.int .i64 2),(.str []),(.nils 0 0),(.nils 0 0),.nilp] O8 N8 5 rfl (fun u hu=>by rcases u with _ | _ | _ | _ | _ | u <;> first | rfl | omega)
     exact ⟨O1w,e33,hK O1w (N8+1) _ (some N8) (by omega) (fun j h1 h2=>(f33 j (by omega)).trans (low8 j h1 h2)) (m8.same (fun j hj=>f33 j (by omega)) (f33 mk (by omega))) (Tra.node (ps:=[]) (q:=none) (by omega) (fun h=>by have:=hA _ h; omega) b33 SV.nil (fun h=>absurd rfl h) SV.nil (fun h=>absurd rfl h) rfl (by decide) (by decide) (fun j x p h=>by simp at h) Tra.nil)⟩
 have stN:∀ (k:Nat) (zs:List UInt8),∃ (ws:List (List UInt8)) (ys:List UInt8),ws.length=k∧∀ {hi mk:Nat} {A:Nat→Prop} {O:T AObj} {N:Nat} {G:T (T AV)} {keep:Nat} {f0:FuncId} {Q:AV→AHeap→Prop} {rest:List AFrame} (n2:Int) (O1:T AObj) (N1 m i:Nat) (ts:List Ty) (ps:List (Option Nat)) (sa:AV) (bl:Bool) (ns:List (List UInt8)),hi≤mk→mk<N→A mk→N≤m→m<N1→SV O1 1 pE 0 N1 ps sa→(sa≠.nils 0 0→¬ A (sid sa)∧sid sa≠m)→ps.length=ts.length→ts.length≤3→i+k=ts.length→ns.length=i→(∀ (O2:T AObj) (N2:Nat) (sn:AV),N1≤N2→(∀ j,j<N→j≠mk→O2.get j=O.get j)→(∀ j,j<N1→j≠m→j≠mk→O2.get j=O1.get j)→MK2 O2 hi mk ys n2→Obj O2 m [.int .i64 7,.str [],sn,sa,.nilp]→GV O2 9 1 sE N1 N2 (ns++ws) sn→Goal P keep f0 Q (zlS m mk bl rest O2 N2 G)) →
  ∀ (O2:T AObj) (N2:Nat) (sn:AV),N1≤N2→(∀ j,j<N→j≠mk→O2.get j=O.get j)→(∀ j,j<N1→j≠m→j≠mk→O2.get j=O1.get j)→MK2 O2 hi mk zs n2→Obj O2 m [.int .i64 7,.str [],sn,sa,.nilp]→GV O2 9 1 sE N1 N2 ns sn→Goal P keep f0 Q (Wonc ((i:Nat):Int) m mk bl rest O2 N2 G):=by
  intro k
  induction k with
  | zero =>
   intro zs
   refine ⟨[],zs,rfl,?_⟩
   intro hi mk A O N G keep f0 Q rest n2 O1 N1 m i ts ps sa bl ns hmk hmN hAm hNm hmN1 va ma l1 l2 hk hi' hS O2 N2 sn hN12 low2 low1 m2 ob gn
   have hmm:m≠mk:=by omega
   rw [List.append_nil] at hS
   have va2:=va.same (O':=O2) (fun hn=>low1 _ (va.sid_lt hn).2 (ma hn).2 (fun e=>(ma hn).1 (e▸hAm))) (Nat.le_refl _) hN12
   have nx:=hS O2 N2 sn hN12 low2 low1 m2 ob gn
   refine ot (zpB (sn2:=sn) (sa2:=sa)) ⟨_,ob.ld 3 rfl,va2.lenE pSl l1 _ _,fkf (decide_eq_false (by omega)) ?_⟩
   exact nx
  | succ k ih =>
   intro zs
   obtain ⟨w,y1,nam⟩:=zlw zs
   obtain ⟨ws,ys,hws,run⟩:=ih y1
   refine ⟨w::ws,ys,by rw [List.length_cons,hws],?_⟩
   intro hi mk A O N G keep f0 Q rest n2 O1 N1 m i ts ps sa bl ns hmk hmN hAm hNm hmN1 va ma l1 l2 hk hi' hS O2 N2 sn hN12 low2 low1 m2 ob gn
   have hmm:m≠mk:=by omega
   have va2:=va.same (O':=O2) (fun hn=>low1 _ (va.sid_lt hn).2 (ma hn).2 (fun e=>(ma hn).1 (e▸hAm))) (Nat.le_refl _) hN12
   refine ot (zpB (sn2:=sn) (sa2:=sa)) ⟨_,ob.ld 3 rfl,va2.lenE pSl l1 _ _,fkt (decide_eq_true (by omega)) ?_⟩
   refine ⟨ob.ld 2 rfl,?_⟩
   refine nam hmk m2 (by omega) fun O3 N3 td3 hN3 hO3 m3=>?_
   have ob3:=ob.same (hO3 m (by omega) hmm)
   have gn3:=gn.same (O':=O3) (fun hn=>hO3 _ (gn.sid_lt hn).2 (by have:=(gn.sid_lt hn).1; omega)) (Nat.le_refl _) hN3
   obtain ⟨O4,e4,v4,_,f4⟩:=zaW sEn w O3 N3 G (st:=32) (el:=9) (litS w)
   have gn4:=gn3.keep (O':=O4) (fun j h1 h2=>f4 j (by omega)) (Nat.le_refl _) (Nat.le_succ N3)
   obtain ⟨O5,N5,s5,e5,g5,n5,n5',f5,_⟩:=gn4.app sSl sEn v4 (by omega) (by simp only [List.length_cons,List.length_nil]; omega) G
   have lo5:∀ j,j<N1→O5.get j=O3.get j:=fun j hj=>(f5 j (by omega) (fun h=>by have:=(gn.sid_lt h).1; omega)).trans (f4 j (by omega))
   have ob4:=ob3.same (f4 m (by omega))
   have ob5:=ob3.same (lo5 m (by omega))
   obtain ⟨O6,st6,b6,f6⟩:=ob5.store 2 [s5] N5 G (Nat.le_of_ble_eq_true rfl) (by simp only [List.all_cons,List.all_nil,Bool.and_true]; exact (g5.sv sEn).one)
   have nx:=run n2 O1 N1 m (i+1) ts ps sa bl (ns++[w]) hmk hmN hAm hNm hmN1 va ma l1 l2 (by omega) (by rw [List.length_append]; simp only [List.length_cons,List.length_nil]; omega) (by rw [List.append_assoc]; exact hS) O6 N5 s5 (by omega) (fun j h1 h2=>(f6 j (by omega)).trans ((lo5 j (by omega)).trans ((hO3 j (by omega) h2).trans (low2 j h1 h2)))) (fun j h1 h2 h3=>(f6 j h2).trans ((lo5 j h1).trans ((hO3 j (by omega) h3).trans (low1 j h1 h2 h3)))) (m3.same (fun j hj=>(f6 j (by omega)).trans (lo5 j (by omega))) ((f6 mk (by omega)).trans (lo5 mk (by omega)))) b6 (g5.same (fun h=>f6 _ (by have:=(g5.sid_lt h).1; omega)) (Nat.le_refl _) (Nat.le_refl _))
   rw [← zG (i:=i) (by omega)] at nx
   exact ot (zjC (sn2:=sn)) ⟨_,_,_,_,_,trivial,ob3.ld 2 rfl,yU (gn3.sv sEn),e4,ob4.ld 2 rfl,yU (gn3.sv sEn),e5,(by rw [(g5.sv sEn).cells]; exact ⟨rfl,st6⟩),nx⟩
 have stA:∀ (zs:List UInt8) (n2 k:Int),(d=0→k<7)→∃ (t:Ty) (ys:List UInt8) (nn':Int),∀ {hi mk:Nat} {A:Nat→Prop} {O:T AObj} {N:Nat} {G:T (T AV)} {keep:Nat} {f0:FuncId} {Q:AV→AHeap→Prop} {rest:List AFrame},hi≤mk→mk<N→(∀ j,A j→j<N)→A mk→CTX hi mk A O N G keep f0 Q rest t ys nn' →
  ∀ (O2:T AObj),(∀ j,j<N→j≠mk→O2.get j=O.get j)→MK2 O2 hi mk zs n2→Goal P keep f0 Q (zo5 k ((d:Nat):Int) mk rest O2 N G):=by
  intro zs n2 k hk
  rcases h30:nx 30 zs with ⟨c,y1⟩
  by_cases k6:k=6
  · rcases h3:nx 3 y1 with ⟨c3,y3⟩
    rcases h5:nx 5 y3 with ⟨c5,y5⟩
    by_cases e29:c=29
    · obtain ⟨t,ys,nn',run⟩:=stB y5 n2 k (tab5.getD c5.toNat []) [] [] .no (c==(29:Int))
      refine ⟨t,ys,nn',?_⟩
      intro hi mk A O N G keep f0 Q rest hmk hmN hA hAm hK
      intro O2 low2 m2
      refine ot zia ?_
      refine zl h30 m2 hmk (by omega) fun O3 td3 c30 c36 f3 m3=>?_
      have low3:∀ j,j<N→j≠mk→O3.get j=O.get j:=fun j h1 h2=>(f3 j h2).trans (low2 j h1 h2)
      obtain ⟨O1v,e45,b45,f45⟩:=Obj.mk (c:=(tW (tW (tY (.nils 0 0)) (.str []) tZ) (.int .i64 k) (tW (tY .nilp) (.nils 0 0) tZ))) (el:=44) [(.int .i64 k),(.str []),(.nils 0 0),(.nils 0 0),.nilp] O3 N 5 rfl (fun u hu=>by rcases u with _ | _ | _ | _ | _ | u <;> first | rfl | omega)
      refine ot wY ⟨O1v,e45,fkt ((by rw [k6]; rfl)) ?_⟩
      obtain ⟨O2v,e46,b46,f46⟩:=Obj.mk (c:=(tW (tW (tY (.str [])) (.str []) tZ) (.str []) (tW (tY (.str [])) (.str []) tZ))) (el:=93) [(.str []),(.str []),(.str []),(.str []),(.str [])] O1v (N+1) 5 rfl (fun u hu=>by rcases u with _ | _ | _ | _ | _ | u <;> first | rfl | omega)
      have b47:=b45.same (f46 _ (by omega))
      obtain ⟨O3v,e48,b48,f48⟩:=b46.store 0 [.str [UInt8.ofNat (109),UInt8.ofNat (46),UInt8.ofNat (84)],.str [UInt8.ofNat (109),UInt8.ofNat (46),UInt8.ofNat (85)],.str [UInt8.ofNat (108),UInt8.ofNat (105),UInt8.ofNat (98),UInt8.ofNat (47),UInt8.ofNat (120),UInt8.ofNat (46),UInt8.ofNat (84)],.str [],.str [UInt8.ofNat (97),UInt8.ofNat (32),UInt8.ofNat (98)]] (N+2) G (Nat.le_of_ble_eq_true rfl) rfl
      have b49:=b47.same (f48 _ (by omega))
      refine ⟨O2v,O3v,e46,e48,?_⟩
      have obn:=b48
      have obt:=b49
      have lowT:∀ j,j<N→O3v.get j=O3.get j:=fun j hj=>(f48 j (by omega)).trans ((f46 j (by omega)).trans (f45 j (by omega)))
      have mT:=m3.same (O':=O3v) (fun j hj=>lowT j (by omega)) (lowT mk (by omega))
      refine zl h3 mT hmk (by omega) fun O4 td4 c20 c26 f4 m4=>?_
      have obn4:=obn.same (f4 (N+1) (by omega))
      have obt4:=obt.same (f4 N (by omega))
      have hl1:=pick (tab:=tab5) obn4 (show c3.toNat<5 by omega) (N+2) G
      obtain ⟨O5,st5,b5,f5⟩:=obt4.store 1 [.str (tab5.getD c3.toNat [])] (N+2) G (Nat.le_of_ble_eq_true rfl) rfl
      have obn5:=obn4.same (f5 (N+1) (by omega))
      have low5:∀ j,j<N→j≠mk→O5.get j=O.get j:=fun j h1 h2=>(f5 j (by omega)).trans ((f4 j h2).trans ((lowT j h1).trans (low3 j h1 h2)))
      have m5:=m4.same (O':=O5) (fun j hj=>f5 j (by omega)) (f5 mk (by omega))
      have raw:∀ (O6:T AObj) (l:List UInt8),Obj O6 N [.int .i64 k,.str l,.nils 0 0,.nils 0 0,pv none]→RAW O6 (N+2) A N k l [] [] .no (.nils 0 0) (.nils 0 0) [] none:=fun O6 l b=>⟨by omega,fun h=>by have:=hA _ h; omega,b,SV.nil,fun h=>absurd rfl h,SV.nil,fun h=>absurd rfl h,rfl,by simp,by simp,fun j x p h=>by simp at h,Tra.nil⟩
      refine ot jG ⟨(tab5.getD c3.toNat []),O5,⟨c20,by omega⟩,hl1,st5,fkt ((by rw [e29]; rfl)) ?_⟩
      refine zl h5 m5 hmk (by omega) fun O7 td7 c70 c76 f7 m7=>?_
      have obn7:=obn5.same (f7 (N+1) (by omega))
      have obt7:=Obj.same b5 (f7 N (by omega))
      have hl2:=pick (tab:=tab5) obn7 (show c5.toNat<5 by omega) (N+2) G
      obtain ⟨O8,st8,b8,f8⟩:=obt7.store 1 [.str (tab5.getD c5.toNat [])] (N+2) G (Nat.le_of_ble_eq_true rfl) rfl
      exact ot zaa ⟨_,O8,⟨c70,by omega⟩,hl2,st8,run hmk hmN hA hAm hK O8 (N+2) N _ _ [] none (by omega) (Nat.le_refl _) (fun j h1 h2=>(f8 j (by omega)).trans ((f7 j h2).trans (low5 j h1 h2))) (m7.same (fun j hj=>f8 j (by omega)) (f8 mk (by omega))) (raw O8 _ b8)⟩
    · obtain ⟨t,ys,nn',run⟩:=stB y3 n2 k (tab5.getD c3.toNat []) [] [] .no (c==(29:Int))
      refine ⟨t,ys,nn',?_⟩
      intro hi mk A O N G keep f0 Q rest hmk hmN hA hAm hK
      intro O2 low2 m2
      refine ot zia ?_
      refine zl h30 m2 hmk (by omega) fun O3 td3 c30 c36 f3 m3=>?_
      have low3:∀ j,j<N→j≠mk→O3.get j=O.get j:=fun j h1 h2=>(f3 j h2).trans (low2 j h1 h2)
      obtain ⟨O1v,e52,b52,f52⟩:=Obj.mk (c:=(tW (tW (tY (.nils 0 0)) (.str []) tZ) (.int .i64 k) (tW (tY .nilp) (.nils 0 0) tZ))) (el:=44) [(.int .i64 k),(.str []),(.nils 0 0),(.nils 0 0),.nilp] O3 N 5 rfl (fun u hu=>by rcases u with _ | _ | _ | _ | _ | u <;> first | rfl | omega)
      refine ot wY ⟨O1v,e52,fkt ((by rw [k6]; rfl)) ?_⟩
      obtain ⟨O2v,e53,b53,f53⟩:=Obj.mk (c:=(tW (tW (tY (.str [])) (.str []) tZ) (.str []) (tW (tY (.str [])) (.str []) tZ))) (el:=93) [(.str []),(.str []),(.str []),(.str []),(.str [])] O1v (N+1) 5 rfl (fun u hu=>by rcases u with _ | _ | _ | _ | _ | u <;> first | rfl | omega)
      have b54:=b52.same (f53 _ (by omega))
      obtain ⟨O3v,e55,b55,f55⟩:=b53.store 0 [.str [UInt8.ofNat (109),UInt8.ofNat (46),UInt8.ofNat (84)],.str [UInt8.ofNat (109),UInt8.ofNat (46),UInt8.ofNat (85)],.str [UInt8.ofNat (108),UInt8.ofNat (105),UInt8.ofNat (98),UInt8.ofNat (47),UInt8.ofNat (120),UInt8.ofNat (46),UInt8.ofNat (84)],.str [],.str [UInt8.ofNat (97),UInt8.ofNat (32),UInt8.ofNat (98)]] (N+2) G (Nat.le_of_ble_eq_true rfl) rfl
      have b56:=b54.same (f55 _ (by omega))
      refine ⟨O2v,O3v,e53,e55,?_⟩
      have obn:=b55
      have obt:=b56
      have lowT:∀ j,j<N→O3v.get j=O3.get j:=fun j hj=>(f55 j (by omega)).trans ((f53 j (by omega)).trans (f52 j (by omega)))
      have mT:=m3.same (O':=O3v) (fun j hj=>lowT j (by omega)) (lowT mk (by omega))
      refine zl h3 mT hmk (by omega) fun O4 td4 c20 c26 f4 m4=>?_
      have obn4:=obn.same (f4 (N+1) (by omega))
      have obt4:=obt.same (f4 N (by omega))
      have hl1:=pick (tab:=tab5) obn4 (show c3.toNat<5 by omega) (N+2) G
      obtain ⟨O5,st5,b5,f5⟩:=obt4.store 1 [.str (tab5.getD c3.toNat [])] (N+2) G (Nat.le_of_ble_eq_true rfl) rfl
      have obn5:=obn4.same (f5 (N+1) (by omega))
      have low5:∀ j,j<N→j≠mk→O5.get j=O.get j:=fun j h1 h2=>(f5 j (by omega)).trans ((f4 j h2).trans ((lowT j h1).trans (low3 j h1 h2)))
      have m5:=m4.same (O':=O5) (fun j hj=>f5 j (by omega)) (f5 mk (by omega))
      have raw:∀ (O6:T AObj) (l:List UInt8),Obj O6 N [.int .i64 k,.str l,.nils 0 0,.nils 0 0,pv none]→RAW O6 (N+2) A N k l [] [] .no (.nils 0 0) (.nils 0 0) [] none:=fun O6 l b=>⟨by omega,fun h=>by have:=hA _ h; omega,b,SV.nil,fun h=>absurd rfl h,SV.nil,fun h=>absurd rfl h,rfl,by simp,by simp,fun j x p h=>by simp at h,Tra.nil⟩
      refine ot jG ⟨(tab5.getD c3.toNat []),O5,⟨c20,by omega⟩,hl1,st5,fkf ((beq_eq_false_iff_ne.2 e29)) ?_⟩
      exact run hmk hmN hA hAm hK O5 (N+2) N _ _ [] none (by omega) (Nat.le_refl _) low5 m5 (raw O5 _ b5)
  by_cases k7:k=7
  · obtain ⟨d',hd,one⟩:=hrec.resolve_left (fun h=>by have:=hk h; omega)
    have sme0:zlu d':=zc1 one
    have w1:IntKind.i64.wrap (((d:Nat):Int) - (1:Int))=((d':Nat):Int):=by rw [IntKind.wrap_i64,hd]; omega
    obtain ⟨ts,y4,n4,l53,sme⟩:=sme0 y1 n2
    obtain ⟨ns,y5,hns,nms⟩:=stN ts.length y4
    obtain ⟨t,ys,nn',run⟩:=stB y5 n4 7 [] ns ts .no (c==(29:Int))
    refine ⟨t,ys,nn',?_⟩
    intro hi mk A O N G keep f0 Q rest hmk hmN hA hAm hK
    intro O2 low2 m2
    refine ot zia ?_
    refine zl h30 m2 hmk (by omega) fun O3 td3 c30 c36 f3 m3=>?_
    have low3:∀ j,j<N→j≠mk→O3.get j=O.get j:=fun j h1 h2=>(f3 j h2).trans (low2 j h1 h2)
    obtain ⟨O1v,e37,b37,f37⟩:=Obj.mk (c:=(tW (tW (tY (.nils 0 0)) (.str []) tZ) (.int .i64 k) (tW (tY .nilp) (.nils 0 0) tZ))) (el:=44) [(.int .i64 k),(.str []),(.nils 0 0),(.nils 0 0),.nilp] O3 N 5 rfl (fun u hu=>by rcases u with _ | _ | _ | _ | _ | u <;> first | rfl | omega)
    refine ot wY ⟨O1v,e37,fkf ((beq_eq_false_iff_ne.2 k6)) ?_⟩
    refine fkt ((by rw [k7]; rfl)) ?_
    have obt:=b37
    have lowT:∀ j,j<N→j≠mk→O1v.get j=O.get j:=fun j h1 h2=>(f37 j (by omega)).trans (low3 j h1 h2)
    have mT:=m3.same (O':=O1v) (fun j hj=>f37 j (by omega)) (f37 mk (by omega))
    rw [w1]
    refine sme (A:=fun j=>A j∨j=N) hmk mT (by omega) (fun j h=>h.elim (fun h=>by have:=hA j h; omega) fun h=>by omega) (.inl hAm) fun O5 N5 td5 ps s hN5 hO5 m5 g5 l5 r5=>?_
    have ob5:=obt.same (hO5 N (by omega) (by omega))
    have low5:∀ j,j<N→j≠mk→O5.get j=O.get j:=fun j h1 h2=>(hO5 j (by omega) h2).trans (lowT j h1 h2)
    obtain ⟨O6,st6,b6,f6⟩:=ob5.store 3 [s] N5 G (Nat.le_of_ble_eq_true rfl) (by simp only [List.all_cons,List.all_nil,Bool.and_true]; exact (g5.sv pEn).one)
    have cel:s.cells.length.beq 1=true∧zb ⟨O5,N5,G⟩ N 0 3 s.cells=some ⟨O6,N5,G⟩:=by rw [(g5.sv pEn).cells]; exact ⟨rfl,st6⟩
    have hsN:s≠.nils 0 0→N+1≤sid s:=fun h=>(g5.sid_lt h).1
    have g6:=g5.same (O':=O6) (fun h=>f6 _ (by have:=hsN h; omega)) (Nat.le_refl _) (Nat.le_refl _)
    have low6:∀ j,j<N→j≠mk→O6.get j=O.get j:=fun j h1 h2=>(f6 j (by omega)).trans (low5 j h1 h2)
    have m6:=m5.same (O':=O6) (fun j hj=>f6 j (by omega)) (f6 mk (by omega))
    have va6:SV O6 1 pE 0 N5 ps s:=(g6.sv pEn).keep (fun _ _ _=>rfl) (Nat.zero_le _) (Nat.le_refl _)
    have ma6:s≠.nils 0 0→¬ A (sid s)∧sid s≠N:=fun h=>⟨fun h2=>by have:=hA _ h2; have:=hsN h; omega,by have:=hsN h; omega⟩
    have r6:∀ (j:Nat) (x:Ty) (p:Option Nat),ts[j]?=some x→ps[j]?=some p→Tra O6 N5 (fun j=>A j∨j=N) x p:=fun j x p a b=>((r5 j x p a b).imp fun j _ h=>.inl h).same (fun i _ h2=>f6 i (fun e=>h2 (.inr e))) (Nat.le_refl _)
    refine ot zcW ⟨O6,cel,?_⟩
    refine nms n4 O6 N5 N 0 ts ps s _ [] hmk hmN hAm (Nat.le_refl _) (by omega) va6 ma6 l5 l53 (Nat.zero_add _) rfl ?_ O6 N5 _ (Nat.le_refl _) low6 (fun _ _ _ _=>rfl) m6 (k7▸b6) GV.nil
    intro O7 N7 sn hN7 low7 low17 m7 ob7 gn7
    rw [List.nil_append] at gn7
    have va7:=va6.same (O':=O7) (fun hn=>low17 _ (va6.sid_lt hn).2 (ma6 hn).2 (fun e=>(ma6 hn).1 (e▸hAm))) (Nat.le_refl _) hN7
    have raw:RAW O7 N7 A N 7 [] ns ts .no sn s ps none:=⟨by omega,fun h=>by have:=hA _ h; omega,ob7,(gn7.sv sEn).keep (fun _ _ _=>rfl) (Nat.zero_le _) (Nat.le_refl _),fun hn=>⟨fun h=>by have:=hA _ h; have:=(gn7.sid_lt hn).1; omega,by have:=(gn7.sid_lt hn).1; omega⟩,va7,ma6,l5,l53,by omega,fun j x p a b=>(r6 j x p a b).same (fun i h1 h2=>low17 i h1 (fun e=>h2 (.inr e)) (fun e=>h2 (.inl (e▸hAm)))) hN7,Tra.nil⟩
    exact run hmk hmN hA hAm hK O7 N7 N sn s ps none (by omega) (Nat.le_refl _) low7 m7 raw
  by_cases k8:k=8
  · obtain ⟨d',hd,one⟩:=hrec.resolve_left (fun h=>by have:=hk h; omega)
    have sme0:zlu d':=zc1 one
    have w1:IntKind.i64.wrap (((d:Nat):Int) - (1:Int))=((d':Nat):Int):=by rw [IntKind.wrap_i64,hd]; omega
    obtain ⟨ts,y4,n4,l53,sme⟩:=sme0 y1 n2
    obtain ⟨r,y5,n5,one8⟩:=one y4 n4
    obtain ⟨t,ys,nn',run⟩:=stB y5 n5 k [] [] ts r (c==(29:Int))
    refine ⟨t,ys,nn',?_⟩
    intro hi mk A O N G keep f0 Q rest hmk hmN hA hAm hK
    intro O2 low2 m2
    refine ot zia ?_
    refine zl h30 m2 hmk (by omega) fun O3 td3 c30 c36 f3 m3=>?_
    have low3:∀ j,j<N→j≠mk→O3.get j=O.get j:=fun j h1 h2=>(f3 j h2).trans (low2 j h1 h2)
    obtain ⟨O1v,e39,b39,f39⟩:=Obj.mk (c:=(tW (tW (tY (.nils 0 0)) (.str []) tZ) (.int .i64 k) (tW (tY .nilp) (.nils 0 0) tZ))) (el:=44) [(.int .i64 k),(.str []),(.nils 0 0),(.nils 0 0),.nilp] O3 N 5 rfl (fun u hu=>by rcases u with _ | _ | _ | _ | _ | u <;> first | rfl | omega)
    refine ot wY ⟨O1v,e39,fkf ((beq_eq_false_iff_ne.2 k6)) ?_⟩
    refine fkf ((beq_eq_false_iff_ne.2 k7)) ?_
    refine fkt ((by rw [k8]; rfl)) ?_
    have obt:=b39
    have lowT:∀ j,j<N→j≠mk→O1v.get j=O.get j:=fun j h1 h2=>(f39 j (by omega)).trans (low3 j h1 h2)
    have mT:=m3.same (O':=O1v) (fun j hj=>f39 j (by omega)) (f39 mk (by omega))
    rw [w1]
    refine sme (A:=fun j=>A j∨j=N) hmk mT (by omega) (fun j h=>h.elim (fun h=>by have:=hA j h; omega) fun h=>by omega) (.inl hAm) fun O5 N5 td5 ps s hN5 hO5 m5 g5 l5 r5=>?_
    have ob5:=obt.same (hO5 N (by omega) (by omega))
    have low5:∀ j,j<N→j≠mk→O5.get j=O.get j:=fun j h1 h2=>(hO5 j (by omega) h2).trans (lowT j h1 h2)
    obtain ⟨O6,st6,b6,f6⟩:=ob5.store 3 [s] N5 G (Nat.le_of_ble_eq_true rfl) (by simp only [List.all_cons,List.all_nil,Bool.and_true]; exact (g5.sv pEn).one)
    have cel:s.cells.length.beq 1=true∧zb ⟨O5,N5,G⟩ N 0 3 s.cells=some ⟨O6,N5,G⟩:=by rw [(g5.sv pEn).cells]; exact ⟨rfl,st6⟩
    have hsN:s≠.nils 0 0→N+1≤sid s:=fun h=>(g5.sid_lt h).1
    have g6:=g5.same (O':=O6) (fun h=>f6 _ (by have:=hsN h; omega)) (Nat.le_refl _) (Nat.le_refl _)
    have low6:∀ j,j<N→j≠mk→O6.get j=O.get j:=fun j h1 h2=>(f6 j (by omega)).trans (low5 j h1 h2)
    have m6:=m5.same (O':=O6) (fun j hj=>f6 j (by omega)) (f6 mk (by omega))
    have va6:SV O6 1 pE 0 N5 ps s:=(g6.sv pEn).keep (fun _ _ _=>rfl) (Nat.zero_le _) (Nat.le_refl _)
    have ma6:s≠.nils 0 0→¬ A (sid s)∧sid s≠N:=fun h=>⟨fun h2=>by have:=hA _ h2; have:=hsN h; omega,by have:=hsN h; omega⟩
    have r6:∀ (j:Nat) (x:Ty) (p:Option Nat),ts[j]?=some x→ps[j]?=some p→Tra O6 N5 (fun j=>A j∨j=N) x p:=fun j x p a b=>((r5 j x p a b).imp fun j _ h=>.inl h).same (fun i _ h2=>f6 i (fun e=>h2 (.inr e))) (Nat.le_refl _)
    refine ot zbI ⟨O6,cel,?_⟩
    rw [w1]
    refine one8 (A:=fun j=>(A j∨j=N)∨(s≠.nils 0 0∧j=sid s)) hmk m6 (by omega) (fun j h=>h.elim (fun h=>h.elim (fun h=>by have:=hA j h; omega) fun h=>by omega) fun h=>by have:=g5.sid_lt h.1; omega) (.inl (.inl hAm)) fun O7 N7 td7 q hN7 hO7 m7 tr7=>?_
    have b7:=Obj.same b6 (hO7 N (by omega) (by omega))
    have low7:∀ j,j<N→j≠mk→O7.get j=O.get j:=fun j h1 h2=>(hO7 j (by omega) h2).trans (low6 j h1 h2)
    obtain ⟨O8,st8,b8,f8⟩:=b7.store 4 [pv q] N7 G (Nat.le_of_ble_eq_true rfl) (by cases q <;> rfl)
    have va8:=va6.same (O':=O8) (fun h=>(f8 _ (ma6 h).2).trans (hO7 _ (va6.sid_lt h).2 (by have:=hsN h; omega))) (Nat.le_refl 0) hN7
    have raw:RAW O8 N7 A N k [] [] ts r (.nils 0 0) s ps q:=⟨by omega,fun h=>by have:=hA _ h; omega,b8,SV.nil,fun h=>absurd rfl h,va8,ma6,l5,l53,by simp,fun j x p a b=>((r6 j x p a b).same (fun i h1 h2=>hO7 i h1 (fun e=>h2 (.inl (e▸hAm)))) hN7).same (fun i _ h2=>f8 i (fun e=>h2 (.inr e))) (Nat.le_refl _),(tr7.imp fun j _ h=>.inl h).same (fun i _ h2=>f8 i (fun e=>h2 (.inr e))) (Nat.le_refl _)⟩
    exact ot ju ⟨O8,(by rw [zl6]; exact ⟨rfl,st8⟩),run hmk hmN hA hAm hK O8 N7 N _ s ps q (by omega) (Nat.le_refl _) (fun j h1 h2=>(f8 j (by omega)).trans (low7 j h1 h2)) (m7.same (fun j hj=>f8 j (by omega)) (f8 mk (by omega))) raw⟩
  by_cases k9:k=9
  · obtain ⟨d',hd,one⟩:=hrec.resolve_left (fun h=>by have:=hk h; omega)
    have sme0:zlu d':=zc1 one
    have w1:IntKind.i64.wrap (((d:Nat):Int) - (1:Int))=((d':Nat):Int):=by rw [IntKind.wrap_i64,hd]; omega
    obtain ⟨ts,y4,n4,l53,sme⟩:=sme0 y1 n2
    obtain ⟨t,ys,nn',run⟩:=stB y4 n4 k [] [] ts .no (c==(29:Int))
    refine ⟨t,ys,nn',?_⟩
    intro hi mk A O N G keep f0 Q rest hmk hmN hA hAm hK
    intro O2 low2 m2
    refine ot zia ?_
    refine zl h30 m2 hmk (by omega) fun O3 td3 c30 c36 f3 m3=>?_
    have low3:∀ j,j<N→j≠mk→O3.get j=O.get j:=fun j h1 h2=>(f3 j h2).trans (low2 j h1 h2)
    obtain ⟨O1v,e41,b41,f41⟩:=Obj.mk (c:=(tW (tW (tY (.nils 0 0)) (.str []) tZ) (.int .i64 k) (tW (tY .nilp) (.nils 0 0) tZ))) (el:=44) [(.int .i64 k),(.str []),(.nils 0 0),(.nils 0 0),.nilp] O3 N 5 rfl (fun u hu=>by rcases u with _ | _ | _ | _ | _ | u <;> first | rfl | omega)
    refine ot wY ⟨O1v,e41,fkf ((beq_eq_false_iff_ne.2 k6)) ?_⟩
    refine fkf ((beq_eq_false_iff_ne.2 k7)) ?_
    refine fkf ((beq_eq_false_iff_ne.2 k8)) ?_
    refine fkt ((by rw [k9]; rfl)) ?_
    have obt:=b41
    have lowT:∀ j,j<N→j≠mk→O1v.get j=O.get j:=fun j h1 h2=>(f41 j (by omega)).trans (low3 j h1 h2)
    have mT:=m3.same (O':=O1v) (fun j hj=>f41 j (by omega)) (f41 mk (by omega))
    rw [w1]
    refine sme (A:=fun j=>A j∨j=N) hmk mT (by omega) (fun j h=>h.elim (fun h=>by have:=hA j h; omega) fun h=>by omega) (.inl hAm) fun O5 N5 td5 ps s hN5 hO5 m5 g5 l5 r5=>?_
    have ob5:=obt.same (hO5 N (by omega) (by omega))
    have low5:∀ j,j<N→j≠mk→O5.get j=O.get j:=fun j h1 h2=>(hO5 j (by omega) h2).trans (lowT j h1 h2)
    obtain ⟨O6,st6,b6,f6⟩:=ob5.store 3 [s] N5 G (Nat.le_of_ble_eq_true rfl) (by simp only [List.all_cons,List.all_nil,Bool.and_true]; exact (g5.sv pEn).one)
    have cel:s.cells.length.beq 1=true∧zb ⟨O5,N5,G⟩ N 0 3 s.cells=some ⟨O6,N5,G⟩:=by rw [(g5.sv pEn).cells]; exact ⟨rfl,st6⟩
    have hsN:s≠.nils 0 0→N+1≤sid s:=fun h=>(g5.sid_lt h).1
    have g6:=g5.same (O':=O6) (fun h=>f6 _ (by have:=hsN h; omega)) (Nat.le_refl _) (Nat.le_refl _)
    have low6:∀ j,j<N→j≠mk→O6.get j=O.get j:=fun j h1 h2=>(f6 j (by omega)).trans (low5 j h1 h2)
    have m6:=m5.same (O':=O6) (fun j hj=>f6 j (by omega)) (f6 mk (by omega))
    have va6:SV O6 1 pE 0 N5 ps s:=(g6.sv pEn).keep (fun _ _ _=>rfl) (Nat.zero_le _) (Nat.le_refl _)
    have ma6:s≠.nils 0 0→¬ A (sid s)∧sid s≠N:=fun h=>⟨fun h2=>by have:=hA _ h2; have:=hsN h; omega,by have:=hsN h; omega⟩
    have r6:∀ (j:Nat) (x:Ty) (p:Option Nat),ts[j]?=some x→ps[j]?=some p→Tra O6 N5 (fun j=>A j∨j=N) x p:=fun j x p a b=>((r5 j x p a b).imp fun j _ h=>.inl h).same (fun i _ h2=>f6 i (fun e=>h2 (.inr e))) (Nat.le_refl _)
    have raw:RAW O6 N5 A N k [] [] ts .no (.nils 0 0) s ps none:=⟨by omega,fun h=>by have:=hA _ h; omega,b6,SV.nil,fun h=>absurd rfl h,va6,ma6,l5,l53,by simp,r6,Tra.nil⟩
    exact ot zbn ⟨O6,cel,run hmk hmN hA hAm hK O6 N5 N _ s ps none (by omega) (Nat.le_refl _) low6 m6 raw⟩
  obtain ⟨t,ys,nn',run⟩:=stB y1 n2 k [] [] [] .no (c==(29:Int))
  refine ⟨t,ys,nn',?_⟩
  intro hi mk A O N G keep f0 Q rest hmk hmN hA hAm hK
  intro O2 low2 m2
  refine ot zia ?_
  refine zl h30 m2 hmk (by omega) fun O3 td3 c30 c36 f3 m3=>?_
  have low3:∀ j,j<N→j≠mk→O3.get j=O.get j:=fun j h1 h2=>(f3 j h2).trans (low2 j h1 h2)
  obtain ⟨O1v,e43,b43,f43⟩:=Obj.mk (c:=(tW (tW (tY (.nils 0 0)) (.str []) tZ) (.int .i64 k) (tW (tY .nilp) (.nils 0 0) tZ))) (el:=44) [(.int .i64 k),(.str []),(.nils 0 0),(.nils 0 0),.nilp] O3 N 5 rfl (fun u hu=>by rcases u with _ | _ | _ | _ | _ | u <;> first | rfl | omega)
  refine ot wY ⟨O1v,e43,fkf ((beq_eq_false_iff_ne.2 k6)) ?_⟩
  refine fkf ((beq_eq_false_iff_ne.2 k7)) ?_
  refine fkf ((beq_eq_false_iff_ne.2 k8)) ?_
  refine fkf ((beq_eq_false_iff_ne.2 k9)) ?_
  have obt:=b43
  have lowT:∀ j,j<N→j≠mk→O1v.get j=O.get j:=fun j h1 h2=>(f43 j (by omega)).trans (low3 j h1 h2)
  have mT:=m3.same (O':=O1v) (fun j hj=>f43 j (by omega)) (f43 mk (by omega))
  exact run hmk hmN hA hAm hK O1v (N+1) N _ _ [] none (by omega) (Nat.le_refl _) lowT mT ⟨by omega,fun h=>by have:=hA _ h; omega,obt,SV.nil,fun h=>absurd rfl h,SV.nil,fun h=>absurd rfl h,rfl,by simp,by simp,fun j x p h=>by simp at h,Tra.nil⟩
 rcases h9:nx 9 xs with ⟨c,y1⟩
 rcases h6:nx 6 y1 with ⟨c6,y6⟩
 have k6:∀ {q:Int},0≤q→q<6→IntKind.i64.wrap ((1:Int)+q)<7:=fun h1 h2=>by rw [IntKind.wrap_i64]; omega
 have r6:0≤c6∧c6<6:=zmy h6 (by omega)
 by_cases hd0:((d:Nat):Int)<(1:Int)
 · obtain ⟨t,ys,nn',run⟩:=stA y6 (IntKind.i64.wrap (nn+(1:Int))) (IntKind.i64.wrap ((1:Int)+c6)) (fun _=>k6 r6.1 r6.2)
   refine ⟨t,ys,nn',?_⟩
   intro hi mk A O N G keep f0 Q rest hmk hm hmN hA hAm hK
   obtain ⟨sl,ob,sv⟩:=hm
   obtain ⟨O1v,e59,b59,f59⟩:=ob.store 1 [.int .i64 (IntKind.i64.wrap (nn+(1:Int)))] N G (Nat.le_of_ble_eq_true rfl) rfl
   refine ot (zkB (nn:=nn)) ⟨O1v,ob.ld 1 rfl,e59,?_⟩
   have m1:MK2 O1v hi mk xs _:=⟨sl,b59,sv.keep fun j hj=>f59 j (by omega)⟩
   refine zl h9 m1 hmk (by omega) fun O2 td2 c0 c9 f2 m2=>?_
   have low2:∀ j,j<N→j≠mk→O2.get j=O.get j:=fun j h1 h2=>(f2 j h2).trans (f59 j h2)
   have m2':=m2
   obtain ⟨sl2,ob2,sv2⟩:=m2'
   refine ot (za4 (nn:=IntKind.i64.wrap (nn+(1:Int)))) (fkt (decide_eq_true hd0) ?_)
   refine zl h6 m2 hmk (by omega) fun O3 td3 c30 c36 f3 m3=>?_
   exact ot zdh (run hmk hmN hA hAm hK O3 (fun j h1 h2=>(f3 j h2).trans (low2 j h1 h2)) m3)
 by_cases hnn:IntKind.i64.wrap (nn+(1:Int)) > (150:Int)
 · obtain ⟨t,ys,nn',run⟩:=stA y6 (IntKind.i64.wrap (nn+(1:Int))) (IntKind.i64.wrap ((1:Int)+c6)) (fun _=>k6 r6.1 r6.2)
   refine ⟨t,ys,nn',?_⟩
   intro hi mk A O N G keep f0 Q rest hmk hm hmN hA hAm hK
   obtain ⟨sl,ob,sv⟩:=hm
   obtain ⟨O1v,e62,b62,f62⟩:=ob.store 1 [.int .i64 (IntKind.i64.wrap (nn+(1:Int)))] N G (Nat.le_of_ble_eq_true rfl) rfl
   refine ot (zkB (nn:=nn)) ⟨O1v,ob.ld 1 rfl,e62,?_⟩
   have m1:MK2 O1v hi mk xs _:=⟨sl,b62,sv.keep fun j hj=>f62 j (by omega)⟩
   refine zl h9 m1 hmk (by omega) fun O2 td2 c0 c9 f2 m2=>?_
   have low2:∀ j,j<N→j≠mk→O2.get j=O.get j:=fun j h1 h2=>(f2 j h2).trans (f62 j h2)
   have m2':=m2
   obtain ⟨sl2,ob2,sv2⟩:=m2'
   refine ot (za4 (nn:=IntKind.i64.wrap (nn+(1:Int)))) (fkf (decide_eq_false hd0) ?_)
   refine ⟨ob2.ld 1 rfl,fkt (decide_eq_true hnn) ?_⟩
   refine zl h6 m2 hmk (by omega) fun O3 td3 c30 c36 f3 m3=>?_
   exact ot zbL (run hmk hmN hA hAm hK O3 (fun j h1 h2=>(f3 j h2).trans (low2 j h1 h2)) m3)
 obtain ⟨t,ys,nn',run⟩:=stA y1 (IntKind.i64.wrap (nn+(1:Int))) (IntKind.i64.wrap ((1:Int)+c)) (fun h=>by omega)
 refine ⟨t,ys,nn',?_⟩
 intro hi mk A O N G keep f0 Q rest hmk hm hmN hA hAm hK
 obtain ⟨sl,ob,sv⟩:=hm
 obtain ⟨O1v,e65,b65,f65⟩:=ob.store 1 [.int .i64 (IntKind.i64.wrap (nn+(1:Int)))] N G (Nat.le_of_ble_eq_true rfl) rfl
 refine ot (zkB (nn:=nn)) ⟨O1v,ob.ld 1 rfl,e65,?_⟩
 have m1:MK2 O1v hi mk xs _:=⟨sl,b65,sv.keep fun j hj=>f65 j (by omega)⟩
 refine zl h9 m1 hmk (by omega) fun O2 td2 c0 c9 f2 m2=>?_
 have low2:∀ j,j<N→j≠mk→O2.get j=O.get j:=fun j h1 h2=>(f2 j h2).trans (f65 j h2)
 have m2':=m2
 obtain ⟨sl2,ob2,sv2⟩:=m2'
 refine ot (za4 (nn:=IntKind.i64.wrap (nn+(1:Int)))) (fkf (decide_eq_false hd0) ?_)
 refine ⟨ob2.ld 1 rfl,fkf (decide_eq_false hnn) ?_⟩
 exact run hmk hmN hA hAm hK O2 low2 m2
theorem zof (d:Nat)(hd:d≤1000):znM d:=by
 induction d with
 | zero=>exact zfe hd (.inl rfl)
 | succ d ih =>
  have one:znM d:=ih (by omega)
  have h:d+1=0∨∃ d',d+1=d'+1∧znM d':=.inr ⟨d,rfl,@one⟩
  exact @zfe (d+1) hd h
end Go.Proofs.Ytcdigdplhlgcaaa.gx
end
section
set_option maxRecDepth 100000
set_option linter.unusedVariables false
set_option linter.unusedSectionVars false
set_option linter.unusedSimpArgs false
namespace Go.Proofs.Ytcdigdplhlgcaaa.gx
open Go Ev tp
section
variable (q:Nat) (k k2:Int) (nm nm2:List UInt8) (sn sa sn2 sa2 rp rp2:AV) (n j:Int) (m:Nat) (blq0 blq1:Bool) (rest:List AFrame) (O:T AObj) (N:Nat) (G:T (T AV)) (i1 i2 i3 i4 i5 i6:Nat) (s1 s2:AV) (z1 z2 z3 z4:Int)
noncomputable def zes:AFrame:=⟨49,67,(tW (tW (tX (tW (tW (tY (.str nm2)) (.ptr q 0 0) tZ) (.bool false) (tW (tY (.ptr m 0 0)) (.bool true) tZ)) (tX (tW (tY (.ptr q 0 0)) (.ptr m 0 0) tZ) (tY (.str nm)))) (.ptr m 0 0) (tW (tW (tW (tY (.bool (nm==nm2))) (.int .i64 k) tZ) (.bool false) (tW (tY (.ptr m 0 2)) (.ptr q 0 0) tZ)) (.ptr q 0 0) (tX (tW (tY (.ptr q 0 2)) (.int .i64 k2) tZ) (tY (.ptr m 0 0))))) (.ptr q 0 0) (tX (tW (tW (tW (tY (.bool (nm==nm2))) (.ptr q 0 0) tZ) (.ptr m 0 0) (tW (tY (.ptr m 0 0)) (.ptr q 0 0) tZ)) (.bool false) (tX (tW (tY (.ptr q 0 0)) (.ptr m 0 0) tZ) (tY (.ptr m 0 0)))) (tW (tW (tW (tY (.bool true)) (.ptr m 0 0) tZ) (.bool false) (tW (tY sn2) (.ptr q 0 1) tZ)) (.bool false) (tW (tW (tY sn) (.bool (k==k2)) tZ) (.ptr q 0 0) (tY (.ptr m 0 1)))))),   [.drw (rg P 49 [1,1,0]) [29,30,31,32,33,34,35,36,37,38,39,40,41,42,43,44,45,46,47,48,49,50,51,52,53] [28,27,26,25,24,23,22,21,20,19,18,17,16,15,14,13,12,11,10,9,8,7,6,5,4,3,2,1,0],.code (cd P 49 [1,0,1,0,1])],[],.run,CallKind.normal,none⟩
noncomputable def kU:AFrame:=⟨49,67,(tW (tW (tX (tW (tW (tY (.str nm2)) (.ptr q 0 0) (tY (.ptr q 0 0))) (.bool false) (tW (tY (.ptr m 0 0)) (.bool true) tZ)) (tX (tW (tY (.ptr q 0 0)) (.ptr m 0 0) (tY (.ptr m 0 0))) (tW (tY (.bool blq0)) (.str nm) tZ))) (.ptr m 0 0) (tW (tW (tW (tY (.bool (nm==nm2))) (.int .i64 k) (tY sa)) (.bool false) (tW (tY (.ptr m 0 2)) (.ptr q 0 0) tZ)) (.ptr q 0 0) (tX (tW (tY (.ptr q 0 2)) (.int .i64 k2) (tY sa2)) (tW (tY (.bool true)) (.ptr m 0 0) tZ)))) (.ptr q 0 0) (tX (tW (tW (tW (tY (.bool (nm==nm2))) (.ptr q 0 0) (tY (.ptr q 0 3))) (.ptr m 0 0) (tW (tY (.ptr m 0 0)) (.ptr q 0 0) tZ)) (.bool false) (tX (tW (tY (.ptr q 0 0)) (.ptr m 0 0) (tY (.ptr m 0 3))) (tW (tY (.bool blq0)) (.ptr m 0 0) tZ))) (tW (tW (tW (tY (.bool true)) (.ptr m 0 0) (tY (.ptr m 0 0))) (.bool false) (tW (tY sn2) (.ptr q 0 1) tZ)) (.bool false) (tW (tW (tY sn) (.bool (k==k2)) tZ) (.ptr q 0 0) (tW (tY (.ptr q 0 0)) (.ptr m 0 1) tZ))))),   [.drw (rg P (49:FuncId) [1,1,0]) [40,41,42,43,44,45,46,47,48,49,50,51,52,53] [39,38,37,36,35,34,33,32,31,30,29,28,27,26,25,24,23,22,21,20,19,18,17,16,15,14,13,12,11,10,9,8,7,6,5,4,3,2,1,0],.code (cd P (49:FuncId) [1,0,1,0,1])],[],.run,CallKind.normal,none⟩
noncomputable def qt:AFrame:=⟨49,67,(tW (tW (tX (tW (tW (tW (tY (.ptr m 0 4)) (.str nm2) tZ) (.ptr q 0 0) (tY (.ptr q 0 0))) (.bool false) (tW (tY (.ptr m 0 0)) (.bool true) (tY (.bool blq1)))) (tX (tW (tY (.ptr q 0 0)) (.ptr m 0 0) (tY (.ptr m 0 0))) (tW (tY (.bool blq0)) (.str nm) (tY (.ptr q 0 4))))) (.ptr m 0 0) (tW (tW (tW (tY (.bool (nm==nm2))) (.int .i64 k) (tY sa)) (.bool false) (tW (tY (.ptr m 0 2)) (.ptr q 0 0) (tY (.ptr q 0 0)))) (.ptr q 0 0) (tX (tW (tY (.ptr q 0 2)) (.int .i64 k2) (tY sa2)) (tW (tY (.bool true)) (.ptr m 0 0) (tY (.ptr m 0 0)))))) (.ptr q 0 0) (tX (tW (tW (tW (tW (tY rp2) (.bool (nm==nm2)) tZ) (.ptr q 0 0) (tY (.ptr q 0 3))) (.ptr m 0 0) (tW (tY (.ptr m 0 0)) (.ptr q 0 0) (tY (.bool true)))) (.bool false) (tX (tW (tY (.ptr q 0 0)) (.ptr m 0 0) (tY (.ptr m 0 3))) (tW (tY (.bool blq0)) (.ptr m 0 0) (tY rp)))) (tW (tW (tW (tY (.bool true)) (.ptr m 0 0) (tY (.ptr m 0 0))) (.bool false) (tW (tY sn2) (.ptr q 0 1) (tY (.ptr q 0 0)))) (.bool false) (tW (tW (tY sn) (.bool (k==k2)) (tY (.bool blq1))) (.ptr q 0 0) (tW (tY (.ptr q 0 0)) (.ptr m 0 1) (tY (.ptr m 0 0))))))),   [.drw (rg P (49:FuncId) [1,1,0]) [51,52,53] [50,49,48,47,46,45,44,43,42,41,40,39,38,37,36,35,34,33,32,31,30,29,28,27,26,25,24,23,22,21,20,19,18,17,16,15,14,13,12,11,10,9,8,7,6,5,4,3,2,1,0],.code (cd P (49:FuncId) [1,0,1,0,1])],[],.run,CallKind.normal,none⟩
noncomputable def Weqs:AM:=⟨⟨98,26,(tW (tW tZ sn2 (tX tZ (tY (.int .i64 j)))) sn (tX (tX tZ (tY (.int .i64 n))) tZ)),   [.code (cd P 98 [1,1,0,1,0,0]),.inLoop (cd P 98 [1,1,0,1,0,0]),.inBlock 0,.code (cd P 98 [1,1,1])],[],.run,CallKind.normal,none⟩,rest,⟨O,N,G⟩⟩
noncomputable def Weqf:AM:=⟨⟨99,32,(tX (tW (tX (tX (tY sa) tZ) tZ) sa2 (tX (tX (tY (.int .i64 j)) tZ) tZ)) (tW (tX (tX (tY (.int .i64 n)) tZ) tZ) (.fn (Fn.func (49:FuncId)) [] []) tZ)),   [.code (cd P 99 [1,1,0,1,0,0]),.inLoop (cd P 99 [1,1,0,1,0,0]),.inBlock 0,.code (cd P 99 [1,1,1])],[],.run,CallKind.normal,none⟩,rest,⟨O,N,G⟩⟩
noncomputable def znj:AFrame:=⟨99,32,(tX (tW (tX (tX (tY sa) tZ) (tX tZ (tY s1))) sa2 (tX (tX (tY (.int .i64 j)) tZ) tZ)) (tW (tX (tX (tY (.int .i64 n)) tZ) (tX tZ (tY s2))) (.fn (Fn.func (49:FuncId)) [] []) (tX (tX tZ (tY (.fn (Fn.func (49:FuncId)) [] []))) tZ))),   [.ops (rg P 99 [1,1,0,1,0,0,1,1,0,0,1,1,0]).toList ((rg P 99 [1,1,0,1,0,0,1,1,0,0,1,1,0]).toList.drop 3),.code (cd P 99 [1,1,0,1,0,0,1,1,0,0,1,1,1]),.inBlock 1,.code (cd P 99 [1,1,0,1,0,0,1,1,1]),.inLoop (cd P (99:FuncId) [1,1,0,1,0,0]),.inBlock 0,.code (cd P (99:FuncId) [1,1,1])],[],.run,CallKind.normal,none⟩
end
section
variable {R:AV→AHeap→Prop} {keep N m q i1c i2c i3c i4c i5c i6c:Nat} {f0:FuncId} {rest:List AFrame} {O:T AObj} {G:T (T AV)} {K:AM→Prop} {k k2 n j z1c z2c z3c z4c:Int} {nm nm2:List UInt8} {sn sn2 sa sa2 rp rp2 s1c s2c:AV} {td:List AItem} {blq0 blq1 blq2:Bool}
theorem zlI:(K (AM.mk (RF 49 67 (tX tZ (tX (tY (.bool true)) tZ)) [.code (cd P 49 [1,0,1,0,1]),.code (cd P 49 [1,1])]) rest ⟨O,N,G⟩))=OT f0 R keep K (.seq [.run 23,.keep [4]] .fin) ((AM.mk (enF 49 [.nilp,.nilp]) rest ⟨O,N,G⟩)):=by kernel_rfl
theorem zlm:(K (AM.mk (RF 49 67 (tX tZ (tX (tY (.bool false)) tZ)) [.code (cd P 49 [1,0,1,0,1]),.code (cd P 49 [1,1])]) rest ⟨O,N,G⟩))=OT f0 R keep K (.seq [.run 23,.keep [4]] .fin) ((AM.mk (enF 49 [.nilp,.ptr m 0 0]) rest ⟨O,N,G⟩)):=by kernel_rfl
theorem zlK:(K (AM.mk (RF 49 67 (tX tZ (tX (tY (.bool false)) tZ)) [.code (cd P 49 [1,0,1,0,1]),.code (cd P 49 [1,1])]) rest ⟨O,N,G⟩))=OT f0 R keep K (.seq [.run 23,.keep [4]] .fin) ((AM.mk (enF 49 [.ptr q 0 0,.nilp]) rest ⟨O,N,G⟩)):=by kernel_rfl
theorem zmi:((lC O N G q 0 (.int .i64 k))∧(lC O N G m 0 (.int .i64 k2))∧(((k==k2))=true→((lC O N G q 1 (.str nm))∧(lC O N G m 1 (.str nm2))∧(((nm==nm2))=true→((lC O N G q 2 sn)∧(lC O N G m 2 sn2)∧K (AM.mk (enF 98 [sn,sn2]) ((zes q k k2 nm nm2 sn sn2 m)::rest) ⟨O,N,G⟩)))∧(((nm==nm2))=false→(K (AM.mk (RF 49 67 (tX tZ (tX (tY (.bool false)) tZ)) [.code (cd P 49 [1,0,1,0,1])]) rest ⟨O,N,G⟩)))))∧(((k==k2))=false→(K (AM.mk (RF 49 67 (tX tZ (tX (tY (.bool false)) tZ)) [.code (cd P 49 [1,0,1,0,1])]) rest ⟨O,N,G⟩))))=OT f0 R keep K (.seq [.run 21,.hop (.int .i64 k) O,.run 3,.hop (.int .i64 k2) O,.run 2] (.fork 23 (.seq [.run 3,.hop (.str nm) O,.run 3,.hop (.str nm2) O,.run 3] (.fork 34 (.seq [.run 3,.hop (sn) O,.run 3,.hop (sn2) O,.run 1] .fin) (.seq [.run 35,.keep [4]] .fin))) (.seq [.run 46,.keep [4]] .fin))) ((AM.mk (enF 49 [.ptr q 0 0,.ptr m 0 0]) rest ⟨O,N,G⟩)):=by kernel_rfl
theorem zdo:(((blq0)=true→((lC O N G q 3 sa)∧(lC O N G m 3 sa2)∧K (AM.mk (enF 99 [sa,sa2,.fn (Fn.func 49) [] []]) ((kU q k k2 nm nm2 sn sa sn2 sa2 m blq0)::rest) ⟨O,N,G⟩)))∧((blq0)=false→(K (AM.mk (RF 49 67 (tX tZ (tX (tY (.bool false)) tZ)) [.code (cd P (49:FuncId) [1,0,1,0,1])]) rest ⟨O,N,G⟩))))=OT f0 R keep K (.seq [.run 3] (.fork 45 (.seq [.run 3,.hop (sa) O,.run 3,.hop (sa2) O,.run 1] .fin) (.seq [.run 24,.keep [4]] .fin))) ((AM.mk (RF 98 26 (tX tZ (tX (tY (.bool blq0)) tZ)) td) ((zes q k k2 nm nm2 sn sn2 m)::rest) ⟨O,N,G⟩)):=by kernel_rfl
theorem js:(((blq1)=true→((lC O N G q 4 rp)∧(lC O N G m 4 rp2)∧K (AM.mk (enF 49 [rp,rp2]) ((qt q k k2 nm nm2 sn sa sn2 sa2 rp rp2 m blq0 blq1)::rest) ⟨O,N,G⟩)))∧((blq1)=false→(K (AM.mk (RF 49 67 (tX tZ (tX (tY (.bool false)) tZ)) [.code (cd P (49:FuncId) [1,0,1,0,1])]) rest ⟨O,N,G⟩))))=OT f0 R keep K (.seq [.run 3] (.fork 56 (.seq [.run 3,.hop (rp) O,.run 3,.hop (rp2) O,.run 1] .fin) (.seq [.run 13,.keep [4]] .fin))) ((AM.mk (RF 99 32 (tX tZ (tX tZ (tY (.bool blq1)))) td) ((kU q k k2 nm nm2 sn sa sn2 sa2 m blq0)::rest) ⟨O,N,G⟩)):=by kernel_rfl
theorem wm:(K (AM.mk (RF 49 67 (tX tZ (tX (tY (.bool blq2)) tZ)) [.code (cd P (49:FuncId) [1,0,1,0,1])]) rest ⟨O,N,G⟩))=OT f0 R keep K (.seq [.run 5,.keep [4]] .fin) ((AM.mk (RF 49 67 (tX tZ (tX (tY (.bool blq2)) tZ)) td) ((qt q k k2 nm nm2 sn sa sn2 sa2 rp rp2 m blq0 blq1)::rest) ⟨O,N,G⟩)):=by kernel_rfl
theorem t_eqs:(∃ (z1:Int) (z2:Int),(lN O N G 32 sn z1)∧(lN O N G 32 sn2 z2)∧(((z1 != z2))=true→(K (AM.mk (RF 98 26 (tX tZ (tX (tY (.bool false)) tZ)) [.code (cd P 98 [1,0,1,0,1]),.code (cd P 98 [1,1])]) rest ⟨O,N,G⟩)))∧(((z1 != z2))=false→(∃ (z3:Int),(lN O N G 32 sn z3)∧K (Weqs sn sn2 z3 0 rest O N G))))=OT f0 R keep K (.ex fun z1:Int=>(.ex fun z2:Int=>(.seq [.run 8,.hopn (.int .i64 z1) O (N),.run 1,.hopn (.int .i64 z2) O (N),.run 2] (.fork 10 (.seq [.run 6,.keep [4]] .fin) (.ex fun z3:Int=>(.seq [.run 6,.hopn (.int .i64 z3) O (N),.run 4,.keep [0,1,12,13]] .fin)))))) ((AM.mk (enF 98 [sn,sn2]) rest ⟨O,N,G⟩)):=by kernel_rfl
theorem zny:(((decide (j<n))=true→(∃ (i1:Nat) (i2:Nat) (i3:Nat) (l1:List UInt8) (i4:Nat) (i5:Nat) (i6:Nat) (l2:List UInt8),(iX 32 sn j i1 i2 i3)∧(lR O N G i1 i2 i3 (.str l1))∧(iX 32 sn2 j i4 i5 i6)∧(lR O N G i4 i5 i6 (.str l2))∧(((!l1==l2))=true→(K (AM.mk (RF 98 26 (tX tZ (tX (tY (.bool false)) tZ)) [.code (cd P 98 [1,0,1,0,1]),.inBlock 1,.code (cd P 98 [1,1,0,1,0,0,1,1,1]),.inLoop (cd P (98:FuncId) [1,1,0,1,0,0]),.inBlock 0,.code (cd P (98:FuncId) [1,1,1])]) rest ⟨O,N,G⟩)))∧(((!l1==l2))=false→(K (Weqs sn sn2 n (IntKind.i64.wrap (j+(1:Int))) rest O N G)))))∧((decide (j<n))=false→(K (AM.mk (RF 98 26 (tX tZ (tX (tY (.bool true)) tZ)) [.code (cd P 98 [1,0,1,0,1])]) rest ⟨O,N,G⟩))))=OT f0 R keep K (.seq [.run 5] (.fork 14 (.ex fun i1:Nat=>(.ex fun i2:Nat=>(.ex fun i3:Nat=>(.ex fun l1:List UInt8=>(.ex fun i4:Nat=>(.ex fun i5:Nat=>(.ex fun i6:Nat=>(.ex fun l2:List UInt8=>(.seq [.run 13,.hopn (.ptr i1 i2 i3) O (N),.hop (.str l1) O,.run 2,.hopn (.ptr i4 i5 i6) O (N),.hop (.str l2) O,.run 2] (.fork 24 (.seq [.run 6,.keep [4]] .fin) (.seq [.run 8,.keep [0,1,12,13]] .fin))))))))))) (.seq [.run 7,.keep [4]] .fin))) ((Weqs sn sn2 n j rest O N G)):=by kernel_rfl
theorem t_eqf:(∃ (z1:Int) (z2:Int),(lN O N G 33 sa z1)∧(lN O N G 33 sa2 z2)∧(((z1 != z2))=true→(K (AM.mk (RF 99 32 (tX tZ (tX tZ (tY (.bool false)))) [.code (cd P 99 [1,0,1,0,1]),.code (cd P 99 [1,1])]) rest ⟨O,N,G⟩)))∧(((z1 != z2))=false→(∃ (z3:Int),(lN O N G 33 sa z3)∧K (Weqf sa sa2 z3 0 rest O N G))))=OT f0 R keep K (.ex fun z1:Int=>(.ex fun z2:Int=>(.seq [.run 8,.hopn (.int .i64 z1) O (N),.run 1,.hopn (.int .i64 z2) O (N),.run 2] (.fork 14 (.seq [.run 6,.keep [6]] .fin) (.ex fun z3:Int=>(.seq [.run 6,.hopn (.int .i64 z3) O (N),.run 4,.keep [1,2,15,16,17]] .fin)))))) ((AM.mk (enF 99 [sa,sa2,.fn (Fn.func 49) [] []]) rest ⟨O,N,G⟩)):=by kernel_rfl
theorem zmJ:(((decide (j<n))=true→(∃ (i1:Nat) (i2:Nat) (i3:Nat) (s1:AV) (i4:Nat) (i5:Nat) (i6:Nat) (s2:AV),(iX 33 sa j i1 i2 i3)∧(lR O N G i1 i2 i3 s1)∧(iX 33 sa2 j i4 i5 i6)∧(lR O N G i4 i5 i6 s2)∧K (AM.mk (enF 49 [s1,s2]) ((znj sa sa2 n j s1 s2)::rest) ⟨O,N,G⟩)))∧((decide (j<n))=false→(K (AM.mk (RF 99 32 (tX tZ (tX tZ (tY (.bool true)))) [.code (cd P 99 [1,0,1,0,1])]) rest ⟨O,N,G⟩))))=OT f0 R keep K (.seq [.run 5] (.fork 18 (.ex fun i1:Nat=>(.ex fun i2:Nat=>(.ex fun i3:Nat=>(.ex fun s1:AV=>(.ex fun i4:Nat=>(.ex fun i5:Nat=>(.ex fun i6:Nat=>(.ex fun s2:AV=>(.seq [.run 7,.hopn (.ptr i1 i2 i3) O (N),.hop (s1) O,.run 7,.hopn (.ptr i4 i5 i6) O (N),.hop (s2) O,.run 7,.keep [1,2,15,16,17,26,27,28],.run 1] .fin))))))))) (.seq [.run 7,.keep [6]] .fin))) ((Weqf sa sa2 n j rest O N G)):=by kernel_rfl
theorem zh5:((((!blq0))=true→(K (AM.mk (RF 99 32 (tX tZ (tX tZ (tY (.bool false)))) [.code (cd P 49 [1,0,1,0,1]),.inBlock 1,.code (cd P (99:FuncId) [1,1,0,1,0,0,1,1,1]),.inLoop (cd P (99:FuncId) [1,1,0,1,0,0]),.inBlock 0,.code (cd P (99:FuncId) [1,1,1])]) rest ⟨O,N,G⟩)))∧(((!blq0))=false→(K (Weqf sa sa2 n (IntKind.i64.wrap (j+(1:Int))) rest O N G))))=OT f0 R keep K (.seq [.run 3] (.fork 30 (.seq [.run 6,.keep [6]] .fin) (.seq [.run 8,.keep [1,2,15,16,17]] .fin))) ((AM.mk (RF 49 67 (tX tZ (tX (tY (.bool blq0)) tZ)) td) ((znj sa sa2 n j s1c s2c)::rest) ⟨O,N,G⟩)):=by kernel_rfl
end
variable {O O':T AObj} {N:Nat} {G:T (T AV)}
theorem bF {X:Prop}(h:¬ X):(false=true ↔ X):=⟨fun e=>(by cases e),fun x=>(h x).elim⟩
theorem bT {X:Prop}(h:X):(true=true ↔ X):=⟨fun _=>h,fun _=>rfl⟩
theorem zb1 {k k2:Int}{nm nm2:zi}{ns ns2:List zi}{ts ts2:List Ty}{r r2:Ty}:Ty.mk k nm ns ts r=.mk k2 nm2 ns2 ts2 r2 ↔ k=k2∧nm=nm2∧ns=ns2∧ts=ts2∧r=r2 :=
 ⟨fun h=>(by injection h with a b c d e; exact ⟨a,b,c,d,e⟩),fun h=>(by obtain ⟨a,b,c,d,e⟩:=h; rw [a,b,c,d,e])⟩
theorem zpy {hi:Nat}{ns ns2:List zi}{sn sn2:AV}(hn:SV O 1 sE 0 hi ns sn)(hm:SV O 1 sE 0 hi ns2 sn2)(hl:ns.length<1000000){keep:Nat}{f0:FuncId}{Q:AV→AHeap→Prop}{rest:List AFrame}
 (hK:∀ td b,(b=true ↔ ns=ns2)→Goal P keep f0 Q (AM.mk (RF 98 26 (tX tZ (tX (tY (.bool b)) tZ)) td) rest ⟨O,N,G⟩)):Goal P keep f0 Q (AM.mk (enF 98 [sn,sn2]) rest ⟨O,N,G⟩):=by
 refine ot t_eqs ⟨_,_,hn.len sSl _ _,hm.len sSl _ _,fun hc7=>?_,fun hc7=>?_⟩
 ·
  refine hK _ false (bF fun e=>?_)
  rw [e] at hc7
  simp at hc7
 ·
  refine ⟨_,hn.len sSl _ _,?_⟩
  have hlen:ns.length=ns2.length:=by have:=hc7; simp at this; omega
  have loop:∀ (c i:Nat),i+c=ns.length→ns.take i=ns2.take i→Goal P keep f0 Q (Weqs sn sn2 ((ns.length:Nat):Int) ((i:Nat):Int) rest O N G):=by
   intro c
   induction c with
   | zero =>
    intro i hi' ht
    refine ot zny (fkf (decide_eq_false (by omega)) ?_)
    refine hK _ true (bT ?_)
    have hi2:i=ns.length:=by omega
    rw [hi2,List.take_length,hlen,List.take_length] at ht
    exact ht
   | succ c ih =>
    intro i hi' ht
    obtain ⟨x,hx,_⟩:=nth (l:=ns) (j:=i) (by omega)
    obtain ⟨y,hy,_⟩:=nth (l:=ns2) (j:=i) (by omega)
    refine ot zny (fkt (decide_eq_true (by omega)) ?_)
    obtain ⟨i1,i2,i3,lo3,hi3,eA3,rd3,_⟩:=hn.at sSl sEn hx
    obtain ⟨i4,i5,i6,lo4,hi4,eA4,rd4,_⟩:=hm.at sSl sEn hy
    refine ⟨i1,i2,i3,_,i4,i5,i6,_,eA3,rd3.load rfl _ _,eA4,rd4.load rfl _ _,fun hc5=>?_,fun hc5=>?_⟩
    ·
     refine hK _ false (bF fun e=>?_)
     rw [e] at hx
     have hxy:x=y:=Option.some.inj (hx.symm.trans hy)
     rw [hxy] at hc5
     simp at hc5
    ·
     have hxy:x=y:=by simpa using hc5
     have nx:=ih (i+1) (by omega) (by rw [List.take_add_one,List.take_add_one,ht,hx,hy,hxy])
     rw [← zG (i:=i) (by omega)] at nx
     exact nx
  exact loop ns.length 0 (Nat.zero_add _) rfl
theorem zpF {hi:Nat}{ts ts2:List Ty}{ps ps2:List (Option Nat)}{sa sa2:AV}(ha:SV O 1 pE 0 hi ps sa)(hb:SV O 1 pE 0 hi ps2 sa2)(h1:ps.length=ts.length)(h2:ps2.length=ts2.length)(hl:ts.length<1000000){keep:Nat}{f0:FuncId}{Q:AV→AHeap→Prop}{rest:List AFrame}
 (rec:∀ (j:Nat) (x:Ty) (p:Option Nat) (y:Ty) (p2:Option Nat),ts[j]?=some x→ps[j]?=some p→ts2[j]?=some y→ps2[j]?=some p2→∀ rest,(∀ td b,(b=true ↔ x=y)→Goal P keep f0 Q (AM.mk (RF 49 67 (tX tZ (tX (tY (.bool b)) tZ)) td) rest ⟨O,N,G⟩))→Goal P keep f0 Q (AM.mk (enF 49 [pv p,pv p2]) rest ⟨O,N,G⟩))
 (hK:∀ td b,(b=true ↔ ts=ts2)→Goal P keep f0 Q (AM.mk (RF 99 32 (tX tZ (tX tZ (tY (.bool b)))) td) rest ⟨O,N,G⟩)):Goal P keep f0 Q (AM.mk (enF 99 [sa,sa2,.fn (Fn.func 49) [] []]) rest ⟨O,N,G⟩):=by
 refine ot t_eqf ⟨_,_,ha.len pSl _ _,hb.len pSl _ _,fun hc15=>?_,fun hc15=>?_⟩
 ·
  refine hK _ false (bF fun e=>?_)
  rw [h1,h2,e] at hc15
  simp at hc15
 ·
  refine ⟨_,ha.len pSl _ _,?_⟩
  have hlen:ts.length=ts2.length:=by have:=hc15; rw [h1,h2] at this; simp at this; omega
  have loop:∀ (c i:Nat),i+c=ts.length→ts.take i=ts2.take i→Goal P keep f0 Q (Weqf sa sa2 ((ps.length:Nat):Int) ((i:Nat):Int) rest O N G):=by
   intro c
   induction c with
   | zero =>
    intro i hi' ht
    refine ot zmJ (fkf (decide_eq_false (by omega)) ?_)
    refine hK _ true (bT ?_)
    have hi2:i=ts.length:=by omega
    rw [hi2,List.take_length,hlen,List.take_length] at ht
    exact ht
   | succ c ih =>
    intro i hi' ht
    obtain ⟨x,hx,_⟩:=nth (l:=ts) (j:=i) (by omega)
    obtain ⟨y,hy,_⟩:=nth (l:=ts2) (j:=i) (by omega)
    obtain ⟨p,hp,_⟩:=nth (l:=ps) (j:=i) (by omega)
    obtain ⟨p2,hp2,_⟩:=nth (l:=ps2) (j:=i) (by omega)
    refine ot zmJ (fkt (decide_eq_true (by omega)) ?_)
    obtain ⟨i1,i2,i3,lo12,hi12,eA12,rd12,_⟩:=ha.at pSl pEn hp
    obtain ⟨i4,i5,i6,lo13,hi13,eA13,rd13,_⟩:=hb.at pSl pEn hp2
    refine ⟨i1,i2,i3,_,i4,i5,i6,_,eA12,rd12.load rfl _ _,eA13,rd13.load rfl _ _,?_⟩
    refine rec i x p y p2 hx hp hy hp2 _ fun td b hb=>?_
    refine ot zh5 ⟨fun hc11=>?_,fun hc11=>?_⟩
    ·
     refine hK _ false (bF fun e=>?_)
     rw [e] at hx
     rw [hb.2 (Option.some.inj (hx.symm.trans hy))] at hc11
     cases hc11
    ·
     have hxy:x=y:=hb.1 (by simpa using hc11)
     have nx:=ih (i+1) (by omega) (by rw [List.take_add_one,List.take_add_one,ht,hx,hy,hxy])
     rw [← zG (i:=i) (by omega)] at nx
     exact nx
  exact loop ts.length 0 (Nat.zero_add _) rfl
theorem zfB {hi:Nat}{keep:Nat}{f0:FuncId}{Q:AV→AHeap→Prop}:∀ (g:Nat) (t u:Ty) (p p2:Option Nat) (rest:List AFrame),cnt t≤g→Tr O hi t p→Tr O hi u p2 →
 (∀ td b,(b=true ↔ t=u)→Goal P keep f0 Q (AM.mk (RF 49 67 (tX tZ (tX (tY (.bool b)) tZ)) td) rest ⟨O,N,G⟩))→Goal P keep f0 Q (AM.mk (enF 49 [pv p,pv p2]) rest ⟨O,N,G⟩)
 | g,.no,.no,p,p2,rest,hg,ht,hu,hK=>by
  cases ht
  cases hu
  exact ot zlI (hK _ true (bT rfl))
 | g,.no,.mk k2 nm2 ns2 ts2 r2,p,p2,rest,hg,ht,hu,hK=>by
  cases ht
  obtain ⟨m,sn2,sa2,ps2,rq2,rfl,j1',j2',j3',j4',j5',j6',j7',j8',j9'⟩:=hu.inv
  exact ot zlm (hK _ false (bF fun e=>by cases e))
 | g,.mk k nm ns ts r,.no,p,p2,rest,hg,ht,hu,hK=>by
  cases hu
  obtain ⟨q,sn,sa,ps,rq,rfl,i1',i2',i3',i4',i5',i6',i7',i8',i9'⟩:=ht.inv
  exact ot zlK (hK _ false (bF fun e=>by cases e))
 | 0,.mk k nm ns ts r,.mk k2 nm2 ns2 ts2 r2,p,p2,rest,hg,ht,hu,hK=>by rw [xF] at hg; omega
 | g+1,.mk k nm ns ts r,.mk k2 nm2 ns2 ts2 r2,p,p2,rest,hg,ht,hu,hK=>by
  rw [xF] at hg
  obtain ⟨q,sn,sa,ps,rq,rfl,i1',i2',i3',i4',i5',i6',i7',i8',i9'⟩:=ht.inv
  obtain ⟨m,sn2,sa2,ps2,rq2,rfl,j1',j2',j3',j4',j5',j6',j7',j8',j9'⟩:=hu.inv
  refine ot (zmi (k:=k) (k2:=k2) (nm:=nm) (nm2:=nm2) (sn:=sn) (sn2:=sn2)) ⟨i2'.ld 0 rfl,j2'.ld 0 rfl,fun hc17=>?_,fun hc17=>?_⟩
  ·
   refine ⟨i2'.ld 1 rfl,j2'.ld 1 rfl,fun hc18=>?_,fun hc18=>?_⟩
   ·
    refine ⟨i2'.ld 2 rfl,j2'.ld 2 rfl,?_⟩
    have hk:k=k2:=by simpa using hc17
    have hnm:nm=nm2:=by simpa using hc18
    refine zpy i3' j3' i7' fun td b h0=>?_
    refine ot (zdo (sa:=sa) (sa2:=sa2)) ⟨fun hc20=>?_,fun hc20=>?_⟩
    ·
     refine ⟨i2'.ld 3 rfl,j2'.ld 3 rfl,?_⟩
     have hns:=h0.1 hc20
     refine zpF i4' j4' i5' j5' i6' (fun j x p y p2 hx hp hy hp2 rest2 k3=>zfB g x y p p2 rest2 (by have:=xu (List.mem_of_getElem? hx); omega) (i8' j x p hx hp) (j8' j y p2 hy hp2) k3) fun td2 b2 h2=>?_
     refine ot (js (rp:=pv rq) (rp2:=pv rq2)) ⟨fun hc22=>?_,fun hc22=>?_⟩
     ·
      refine ⟨i2'.ld 4 rfl,j2'.ld 4 rfl,?_⟩
      have hts:=h2.1 hc22
      refine zfB g r r2 rq rq2 _ (by omega) i9' j9' fun td3 b3 h3=>?_
      exact ot (wm (q:=q) (k:=k) (k2:=k2) (nm:=nm) (nm2:=nm2) (sn:=sn) (sa:=sa) (sn2:=sn2) (sa2:=sa2) (rp:=pv rq) (rp2:=pv rq2) (m:=m) (blq0:=b) (blq1:=b2)) (hK _ b3 ⟨fun e=>zb1.2 ⟨hk,hnm,hns,hts,h3.1 e⟩,fun e=>h3.2 ((·.2.2.2.2) (zb1.1 e))⟩)
     ·
      refine hK _ false (bF fun e=>?_)
      rw [h2.2 ((·.2.2.2.1) (zb1.1 e))] at hc22
      cases hc22
    ·
     refine hK _ false (bF fun e=>?_)
     rw [h0.2 ((·.2.2.1) (zb1.1 e))] at hc20
     cases hc20
   ·
    refine hK _ false (bF fun e=>?_)
    have e2:=(·.2.1) (zb1.1 e)
    rw [e2] at hc18
    simp at hc18
  ·
   refine hK _ false (bF fun e=>?_)
   have e2:=(·.1) (zb1.1 e)
   rw [e2] at hc17
   simp at hc17
end Go.Proofs.Ytcdigdplhlgcaaa.gx
end
section
set_option maxRecDepth 100000
set_option linter.unusedVariables false
set_option linter.unusedSectionVars false
set_option linter.unusedSimpArgs false
namespace Go.Proofs.Ytcdigdplhlgcaaa.gx
open Go Ev tp
section
variable (N:Nat) (v v2:AV) (q m:Nat)
noncomputable def zqA:AFrame:=⟨46,6,(tX (tX (tY v) tZ) tZ),   [.ops (rg P 46 [1,0]).toList ((rg P 46 [1,0]).toList.drop 1),.code (cd P 46 [1,1])],[],.run,CallKind.normal,none⟩
noncomputable def zp1:AFrame:=⟨16,8,(tW (tX (tY v) tZ) v tZ),   [.ops (rg P 16 [1,0,0]).toList ((rg P 16 [1,0,0]).toList.drop 1),.code (cd P 16 [1,0,1]),.code (cd P 16 [1,1])],[],.run,CallKind.normal,none⟩
noncomputable def zeP:AFrame:=⟨16,8,(tX tZ (tX tZ (tY v))),   [.ops (rg P 16 [1,1,0]).toList ((rg P 16 [1,1,0]).toList.drop 1),.code (cd P 46 [1,1])],[],.run,CallKind.normal,none⟩
noncomputable def zpm:AFrame:=⟨18,18,(tW (tW tZ v2 (tY v)) v tZ),   [.ops (rg P 18 [1,0]).toList ((rg P 18 [1,0]).toList.drop 1),.code (cd P 18 [1,1])],[],.run,CallKind.normal,none⟩
noncomputable def zdP:AFrame:=⟨18,18,(tW (tW tZ v2 (tX (tY v2) tZ)) v (tX (tX (tY (.bool true)) tZ) tZ)),   [.ops (rg P (18:FuncId) [1,0]).toList ((rg P (18:FuncId) [1,0]).toList.drop 5),.code (cd P (18:FuncId) [1,1])],[],.run,CallKind.normal,none⟩
noncomputable def kl:AFrame:=⟨18,18,(tX (tX (tX (tX (tY v2) tZ) tZ) (tX tZ (tY (.bool true)))) (tX tZ (tX tZ (tY v)))),   [.ops (rg P (18:FuncId) [1,0]).toList ((rg P (18:FuncId) [1,0]).toList.drop 11),.code (cd P (18:FuncId) [1,1])],[],.run,CallKind.normal,none⟩
end
section
variable {R:AV→AHeap→Prop} {keep N Nc m q:Nat} {f0:FuncId} {rest:List AFrame} {O:T AObj} {sa prq0 v v2:AV} {G:T (T AV)} {K:AM→Prop} {td:List AItem} {crq0 crq1:Int} {blq0 blq2:Bool} {lrq1:List UInt8}
theorem zmv:(K (AM.mk (enF 12 [v]) ((zqA v)::rest) ⟨O,N,G⟩))=OT f0 R keep K (.seq [.run 7,.keep [3],.run 1] .fin) ((AM.mk (enF 46 [v]) rest ⟨O,N,G⟩)):=by kernel_rfl
theorem zfc:(K (AM.mk (RF 46 6 (tX tZ (tY (.bool (crq0==(0:Int))))) [.code (cd P (46:FuncId) [1,1])]) rest ⟨O,N,G⟩))=OT f0 R keep K (.seq [.run 5,.keep [2]] .fin) ((AM.mk (RF 12 14 (tX tZ (tY (.int .i64 crq0))) td) ((zqA v)::rest) ⟨O,N,G⟩)):=by kernel_rfl
theorem zqD:(K (AM.mk (enF 46 [v]) ((zp1 v)::rest) ⟨O,N,G⟩))=OT f0 R keep K (.seq [.run 8,.keep [0,3],.run 1] .fin) ((AM.mk (enF 16 [v]) rest ⟨O,N,G⟩)):=by kernel_rfl
theorem zeq:((((!blq0))=true→(K (AM.mk (RF 16 8 (tX tZ (tY (.str []))) [.code (cd P 46 [1,1]),.code (cd P (16:FuncId) [1,1])]) rest ⟨O,N,G⟩)))∧(((!blq0))=false→(K (AM.mk (enF 47 [v]) ((zeP v)::rest) ⟨O,N,G⟩))))=OT f0 R keep K (.seq [.run 3] (.fork 5 (.seq [.run 6,.keep [2]] .fin) (.seq [.run 5,.keep [6],.run 1] .fin))) ((AM.mk (RF 46 6 (tX tZ (tY (.bool blq0))) td) ((zp1 v)::rest) ⟨O,N,G⟩)):=by kernel_rfl
theorem zcI:(K (AM.mk (RF 16 8 (tX tZ (tY (.str lrq1))) [.code (cd P (46:FuncId) [1,1])]) rest ⟨O,N,G⟩))=OT f0 R keep K (.seq [.run 4,.keep [2]] .fin) ((AM.mk (RF 47 12 (tX tZ (tY (.str lrq1))) td) ((zeP v)::rest) ⟨O,N,G⟩)):=by kernel_rfl
theorem zo3:(K (AM.mk (enF 14 [v]) ((zpm v v2)::rest) ⟨O,N,G⟩))=OT f0 R keep K (.seq [.run 7,.keep [0,1,5],.run 1] .fin) ((AM.mk (enF 18 [v,v2]) rest ⟨O,N,G⟩)):=by kernel_rfl
theorem zk2:(((decide (crq0≤(60:Int)))=true→(K (AM.mk (enF 14 [v2]) ((zdP v v2)::rest) ⟨O,N,G⟩)))∧((decide (crq0≤(60:Int)))=false→(K (AM.mk (RF 18 18 (tX tZ (tX (tY (.bool false)) tZ)) [.code (cd P (18:FuncId) [1,1])]) rest ⟨O,N,G⟩))))=OT f0 R keep K (.seq [.run 3] (.fork 8 (.seq [.run 1,.keep [0,1,8,9],.run 1] .fin) (.seq [.run 12,.keep [4]] .fin))) ((AM.mk (RF 14 12 (tX tZ (tY (.int .i64 crq0))) td) ((zpm v v2)::rest) ⟨O,N,G⟩)):=by kernel_rfl
theorem zcR:(((decide (crq1≤(60:Int)))=true→(K (AM.mk (enF 49 [v,v2]) ((kl v v2)::rest) ⟨O,N,G⟩)))∧((decide (crq1≤(60:Int)))=false→(K (AM.mk (RF 18 18 (tX tZ (tX (tY (.bool false)) tZ)) [.code (cd P (18:FuncId) [1,1])]) rest ⟨O,N,G⟩))))=OT f0 R keep K (.seq [.run 4] (.fork 13 (.seq [.run 2,.keep [13,14,15],.run 1] .fin) (.seq [.run 7,.keep [4]] .fin))) ((AM.mk (RF 14 12 (tX tZ (tY (.int .i64 crq1))) td) ((zdP v v2)::rest) ⟨O,N,G⟩)):=by kernel_rfl
theorem jm:(K (AM.mk (RF 18 18 (tX tZ (tX (tY (.bool blq2)) tZ)) [.code (cd P (18:FuncId) [1,1])]) rest ⟨O,N,G⟩))=OT f0 R keep K (.seq [.run 5,.keep [4]] .fin) ((AM.mk (RF 49 67 (tX tZ (tX (tY (.bool blq2)) tZ)) td) ((kl v v2)::rest) ⟨O,N,G⟩)):=by kernel_rfl
end
variable {O O':T AObj} {N:Nat} {G:T (T AV)}
theorem bld59 {s1:AV}(hv:AV.one s1=true):w7 P 59 [(0,s1)]=some (.agg [s1,.int .i64 0]):=by
 cases s1 with
 | _=>first | (cases hv; done) | kernel_rfl
def zpP (t:Ty):List UInt8:=if chk t=0 then wr t else []
theorem ziN {t:Ty}{p:Option Nat}{hi:Nat}(ht:Tr O hi t p)(hN:hi≤N){keep:Nat}{f0:FuncId}{Q:AV→AHeap→Prop}{rest:List AFrame}
 (hK:∀ O' N' td,Ext O N O' N'→Goal P keep f0 Q (AM.mk (RF 16 8 (tX tZ (tY (.str (zpP t)))) td) rest ⟨O',N',G⟩)):Goal P keep f0 Q (AM.mk (enF 16 [pv p]) rest ⟨O,N,G⟩):=by
 refine ot zqD ?_
 refine ot zmv ?_
 refine gx.chk_ok ht hN fun O1 N1 td1 ex1=>?_
 refine ot zfc ?_
 by_cases h:chk t=0
 · rw [show zpP t=wr t from if_pos h] at hK
   refine ot zeq (fkf ((by simp [h])) ?_)
   refine zkp (tp.chk_ok h).1 (tp.chk_ok h).2 keep f0 Q hi p _ O1 N1 (ht.ext ex1 hN) (Nat.le_trans hN ex1.1) fun O2 N2 td2 ex2=>?_
   exact ot zcI (hK O2 N2 _ (ex1.trans ex2))
 · rw [show zpP t=[] from if_neg h] at hK
   refine ot zeq (fkt ((by simp [h])) ?_)
   exact hK O1 N1 _ ex1
theorem zkb {t u:Ty}{p p2:Option Nat}{hi:Nat}(ht:Tr O hi t p)(hu:Tr O hi u p2)(hN:hi≤N){keep:Nat}{f0:FuncId}{Q:AV→AHeap→Prop}{rest:List AFrame}
 (hK:∀ O' N' td b,(b=true ↔ cnt t≤60∧cnt u≤60∧t=u)→Ext O N O' N'→Goal P keep f0 Q (AM.mk (RF 18 18 (tX tZ (tX (tY (.bool b)) tZ)) td) rest ⟨O',N',G⟩)):Goal P keep f0 Q (AM.mk (enF 18 [pv p,pv p2]) rest ⟨O,N,G⟩):=by
 refine ot zo3 ?_
 refine zc2 ht hN fun O1 N1 td1 ex1=>?_
 refine ot zk2 ⟨fun hc47=>?_,fun hc47=>?_⟩
 ·
  have c1:cnt t≤60:=by have:=of_decide_eq_true hc47; omega
  refine zc2 (hu.ext ex1 hN) (Nat.le_trans hN ex1.1) fun O2 N2 td2 ex2=>?_
  refine ot zcR ⟨fun hc49=>?_,fun hc49=>?_⟩
  ·
   have c2:cnt u≤60:=by have:=of_decide_eq_true hc49; omega
   have ex:=ex1.trans ex2
   refine zfB (cnt t) t u p p2 _ (Nat.le_refl _) (ht.ext ex hN) (hu.ext ex hN) fun td3 b hb=>?_
   exact ot jm (hK O2 N2 _ b ⟨fun e=>⟨c1,c2,hb.1 e⟩,fun x=>hb.2 x.2.2⟩ ex)
  ·
   exact hK O2 N2 _ false (bF fun x=>by have:=of_decide_eq_false hc49; omega) (ex1.trans ex2)
 ·
  exact hK O1 N1 _ false (bF fun x=>by have:=of_decide_eq_false hc47; omega) ex1
end Go.Proofs.Ytcdigdplhlgcaaa.gx
end
section
set_option maxRecDepth 100000
set_option linter.unusedVariables false
set_option linter.unusedSectionVars false
set_option linter.unusedSimpArgs false
namespace Go.Proofs.Ytcdigdplhlgcaaa.gx
open Go Ev tp
section
variable (j:Int) (mk:Nat) (sl2:AV) (rest:List AFrame) (O:T AObj) (N:Nat) (G:T (T AV))
noncomputable def Flis:AFrame:=⟨21,25,(tX (tX (tY (.ptr N 0 0)) (tX tZ (tY (.ptr N 0 0)))) (tX (tY (.nils 0 0)) tZ)),   [.ops (rg P 21 [1,1,1,0,0]).toList ((rg P 21 [1,1,1,0,0]).toList.drop 1),.code (cd P 21 [1,1,1,0,1]),.code (cd P 21 [1,1,1,1])],[],.run,CallKind.normal,none⟩
noncomputable def Wlis:AM:=⟨⟨21,25,(tX (tX (tY (.ptr mk 0 0)) (tY (.int .i64 j))) (tX (tY sl2) tZ)),   [.code (cd P 21 [1,1,1,0,1,0,0]),.inLoop (cd P 21 [1,1,1,0,1,0,0]),.inBlock 0,.code (cd P (21:FuncId) [1,1,1,1])],[],.run,CallKind.normal,none⟩,rest,⟨O,N,G⟩⟩
noncomputable def znp:AFrame:=⟨21,25,(tX (tX (tW tZ (.ptr mk 0 0) (tX (tY sl2) tZ)) (tY (.int .i64 j))) (tX (tX tZ (tX (tY (.ptr mk 0 0)) tZ)) tZ)),   [.ops (rg P 21 [1,1,1,0,1,0,0,1,0,0]).toList ((rg P 21 [1,1,1,0,1,0,0,1,0,0]).toList.drop 2),.inBlock 1,.code (cd P 21 [1,1,1,0,1,0,0,1,1]),.inLoop (cd P (21:FuncId) [1,1,1,0,1,0,0]),.inBlock 0,.code (cd P (21:FuncId) [1,1,1,1])],[],.run,CallKind.normal,none⟩
end
section
variable {R:AV→AHeap→Prop} {keep N Nc mk:Nat} {f0:FuncId} {rest:List AFrame} {O:T AObj} {sa sl2 prq0:AV} {G:T (T AV)} {K:AM→Prop} {td:List AItem} {crq0 j:Int}
theorem t_lis:(∃ (z1:Int) (s1:AV) (O1:T AObj),(lN O N G 22 sa z1)∧(xB P (⟨O,N,G⟩) (22) (sa) (none) ((some (if decide ((300:Int)<z1)=true then (300:Int) else z1))) (none)=(some s1))∧(w7 P (59) ([(0,s1)])=(some (.agg [s1,.int .i64 0])))∧((Nat.beq (2) (AV.agg [s1,AV.int IntKind.i64 (Int.ofNat (0))]).cells.length&&(AV.agg [s1,AV.int IntKind.i64 (Int.ofNat (0))]).cells.all AV.one)=true∧T.set (some (AObj.cells (zd T.leaf 0 (AV.agg [s1,AV.int IntKind.i64 (Int.ofNat (0))]).cells) (AV.agg [s1,AV.int IntKind.i64 (Int.ofNat (0))]).cells.length 59 0 0 1 0 false T.leaf)) (⟨O,N,G⟩:AHeap).objs N=O1)∧K (AM.mk (enF 52 [.ptr N 0 0,.int .i64 6]) ((Flis N)::rest) ⟨O1,N+1,G⟩))=OT f0 R keep K (.ex fun z1:Int=>(.ex fun s1:AV=>(.ex fun O1:T AObj=>(.seq [.run 8,.hopn (.int .i64 z1) O (N),.run 1,.hop (s1) O,.hopn (.agg [s1,.int .i64 0]) O (N),.hopn (.nilp) O1 (N),.run 10,.keep [3,4,13],.run 1] .fin)))) ((AM.mk (enF 21 [sa]) rest ⟨O,N,G⟩)):=by kernel_rfl
theorem zlY:(K (Wlis crq0 Nc (.nils 0 0) rest O N G))=OT f0 R keep K (.seq [.run 5,.keep [3,4,5]] .fin) ((AM.mk (RF 52 30 (tX tZ (tX (tY (.int .i64 crq0)) tZ)) td) ((Flis Nc)::rest) ⟨O,N,G⟩)):=by kernel_rfl
theorem zm9:(((decide (j > (0:Int)))=true→(K (AM.mk (enF 41 [.ptr mk 0 0,.int .i64 3]) ((znp j mk sl2)::rest) ⟨O,N,G⟩)))∧((decide (j > (0:Int)))=false→(K (AM.mk (RF 21 25 (tX tZ (tY sl2)) [.code (cd P 21 [1,1,1,1,1])]) rest ⟨O,N,G⟩))))=OT f0 R keep K (.seq [.run 6] (.fork 16 (.seq [.run 7,.keep [3,5,19,20],.run 1] .fin) (.seq [.run 8,.keep [2]] .fin))) ((Wlis j mk sl2 rest O N G)):=by kernel_rfl
theorem zil:(∃ (O1:T AObj) (s1:AV) (O2:T AObj) (N1:Nat),(zf P (⟨O,N,G⟩) (33) (1) ([(0,prq0)])=(some (.slc N 0 0 1 1,⟨O1,N+1,G⟩)))∧(zg P (⟨O1,N+1,G⟩) (Builtin.append) ((some 33)) ((some 33)) ([sl2,.slc N 0 0 1 1])=(some (.val s1 ⟨O2,N1,G⟩)))∧K (Wlis (IntKind.i64.wrap (j - (1:Int))) mk s1 rest O2 N1 G))=OT f0 R keep K (.ex fun O1:T AObj=>(.ex fun s1:AV=>(.ex fun O2:T AObj=>(.ex fun N1:Nat=>(.seq [.run 1,.hopn (.slc N 0 0 1 1) O1 (N+1),.hopn (s1) O2 (N1),.run 9,.keep [3,4,5]] .fin))))) ((AM.mk (RF 41 137 (tX tZ (tX (tY prq0) tZ)) td) ((znp j mk sl2)::rest) ⟨O,N,G⟩)):=by kernel_rfl
end
variable {O O':T AObj} {N:Nat} {G:T (T AV)}
theorem znI (xs:List UInt8):∃ us:List Ty,us.length≤5∧∀ {hi:Nat} {O:T AObj} {N:Nat} {G:T (T AV)} {sa:AV} {keep:Nat} {f0:FuncId} {Q:AV→AHeap→Prop} {rest:List AFrame},SVe O hi xs sa→hi≤N →
 (∀ O' N' td ps s,Ext O N O' N'→SV O' 1 pE (N+1) N' ps s→ps.length=us.length→(∀ (j:Nat) (x:Ty) (p:Option Nat),us[j]?=some x→ps[j]?=some p→Tr O' N' x p)→Goal P keep f0 Q (AM.mk (RF 21 25 (tX tZ (tY s)) td) rest ⟨O',N',G⟩))→Goal P keep f0 Q (AM.mk (enF 21 [sa]) rest ⟨O,N,G⟩):=by
 have one:znM 3:=zof 3 (by decide)
 have loop:∀ (k:Nat) (zs:List UInt8) (n2:Int),∃ (us:List Ty),us.length=k∧∀ {hi mk:Nat} {A:Nat→Prop} {O:T AObj} {N:Nat} {G:T (T AV)} {keep:Nat} {f0:FuncId} {Q:AV→AHeap→Prop} {rest:List AFrame} (ts:List Ty),hi≤mk→mk<N→(∀ j,A j→j<N)→A mk→ts.length+k≤5 →
  (∀ (O':T AObj) (N':Nat) (td:List AItem) (ps:List (Option Nat)) (s:AV),N≤N'→(∀ j,j<N→j≠mk→O'.get j=O.get j)→GV O' 23 1 pE N N' ps s→ps.length=(ts++us).length→(∀ (j:Nat) (x:Ty) (p:Option Nat),(ts++us)[j]?=some x→ps[j]?=some p→Tra O' N' (AvS A s) x p)→Goal P keep f0 Q (AM.mk (RF 21 25 (tX tZ (tY s)) td) rest ⟨O',N',G⟩)) →
  ∀ (O2:T AObj) (N2:Nat) (ps:List (Option Nat)) (s:AV),N≤N2→(∀ j,j<N→j≠mk→O2.get j=O.get j)→MK2 O2 hi mk zs n2→GV O2 23 1 pE N N2 ps s→ps.length=ts.length→(∀ (j:Nat) (x:Ty) (p:Option Nat),ts[j]?=some x→ps[j]?=some p→Tra O2 N2 (AvS A s) x p)→Goal P keep f0 Q (Wlis ((k:Nat):Int) mk s rest O2 N2 G):=by
  intro k
  induction k with
  | zero =>
   intro zs n2
   refine ⟨[],rfl,?_⟩
   intro hi mk A O N G keep f0 Q rest ts hmk hmN hA hAm h3 hK O2 N2 ps s hNN hO m2 gv hl hr
   rw [List.append_nil] at hK
   refine ot zm9 (fkf (decide_eq_false (by omega)) ?_)
   exact hK O2 N2 _ ps s hNN hO gv hl hr
  | succ k ih =>
   intro zs n2
   obtain ⟨t,y1,n1,onek⟩:=one zs n2
   obtain ⟨us,hus,run⟩:=ih y1 n1
   refine ⟨t::us,by rw [List.length_cons,hus],?_⟩
   intro hi mk A O N G keep f0 Q rest ts hmk hmN hA hAm h3 hK O2 N2 ps s hNN hO m2 gv hl hr
   refine ot zm9 (fkt (decide_eq_true (by omega)) ?_)
   refine onek (A:=AvS A s) hmk m2 (by omega) (fun j hj=>hj.elim (fun h=>by have:=hA j h; omega) fun h=>by have:=gv.sid_lt h.1; omega) (.inl hAm) fun O3 N3 td3 p hN3 hO3 m3 tx=>?_
   have gv3:=gv.same (O':=O3) (fun hs=>hO3 _ (gv.sid_lt hs).2 (by have:=(gv.sid_lt hs).1; omega)) (Nat.le_refl _) hN3
   have hr3:=fun (j:Nat) (x:Ty) (p:Option Nat) a b=>(hr j x p a b).same (O':=O3) (fun i h1 h2=>hO3 i h1 (fun h=>h2 (.inl (h▸hAm)))) hN3
   obtain ⟨O4,s1,O5,N5,e1,e2,g5,n5,f5,r5⟩:=zkm gv3 (by omega) hl (by omega) hr3 tx G
   have nx:=run (ts++[t]) hmk hmN hA hAm (by rw [List.length_append]; simp only [List.length_cons,List.length_nil]; omega) (by rw [List.append_assoc]; exact hK) O5 N5 (ps++[p]) s1 (by omega) (fun j h1 h2=>(f5 j (by omega) (fun hs=>by have:=(gv.sid_lt hs).1; omega)).trans ((hO3 j (by omega) h2).trans (hO j h1 h2))) (m3.same (fun j hj=>f5 j (by omega) (fun hs=>by have:=(gv.sid_lt hs).1; omega)) (f5 mk (by omega) (fun hs=>by have:=(gv.sid_lt hs).1; omega))) g5 (by rw [List.length_append,List.length_append,hl]; rfl) r5
   rw [show ((k:Nat):Int)=IntKind.i64.wrap (((k+1:Nat):Int) - (1:Int)) by rw [IntKind.wrap_i64]; omega] at nx
   exact ot zil ⟨_,_,_,_,e1,e2,nx⟩
 rcases h1:nx 6 (xs.take 300) with ⟨c,y1⟩
 have hc:0≤c∧c<6:=zmy h1 (by omega)
 obtain ⟨us,hus,run⟩:=loop c.toNat y1 0
 refine ⟨us,by omega,?_⟩
 intro hi O N G sa keep f0 Q rest sv hN hK
 have hmin:(if decide ((300:Int)<((xs.length:Nat):Int))=true then (300:Int) else ((xs.length:Nat):Int))=((min 300 xs.length:Nat):Int):=by
  by_cases h:(300:Int)<((xs.length:Nat):Int)
  · rw [if_pos (decide_eq_true h)]; omega
  · rw [if_neg (by simpa using h)]; omega
 have hx:((xs.drop 0).take (min 300 xs.length - 0))=xs.take 300:=by
  rw [List.drop_zero,Nat.sub_zero]
  by_cases h:300≤xs.length
  · rw [Nat.min_eq_left h]
  · rw [Nat.min_eq_right (by omega),List.take_length,List.take_of_length_le (by omega)]
 obtain ⟨s1,es,sv1⟩:∃ s1,xB P ⟨O,N,G⟩ 22 sa none (some (if decide ((300:Int)<((xs.length:Nat):Int))=true then (300:Int) else ((xs.length:Nat):Int))) none=some s1∧SVe O hi (xs.take 300) s1:=by
  rcases sv with sv | ⟨rfl,rfl⟩
  · obtain ⟨s1,es,sv1,_⟩:=sv.sub bSl bEn (a:=0) (b:=min 300 xs.length) (Nat.zero_le _) (by omega) none (some (if decide ((300:Int)<((xs.length:Nat):Int))=true then (300:Int) else ((xs.length:Nat):Int))) (.inr ⟨rfl,rfl⟩) (.inl (by rw [hmin])) N G
    rw [hx] at sv1
    exact ⟨s1,es,.inl sv1⟩
  · exact ⟨.sle,by kernel_rfl,.inr ⟨rfl,rfl⟩⟩
 obtain ⟨O1,e1,b1,f1⟩:=Obj.box (t:=59) [s1,.int .i64 0] (by simp only [List.all_cons,List.all_nil,Bool.and_true,sv1.one]; rfl) O N 2 rfl
 have lo:∀ j,j<N→O1.get j=O.get j:=fun j hj=>f1 j (by omega)
 have m1:MK2 O1 hi N (xs.take 300) 0:=⟨s1,b1,sv1.keep (fun j hj=>lo j (by omega))⟩
 refine ot t_lis ⟨((xs.length:Nat):Int),s1,O1,sv.len _ _,es,bld59 sv1.one,e1,?_⟩
 refine zl h1 m1 hN (by omega) fun O2 td2 c0 c6 f2 m2=>?_
 refine ot zlY ?_
 have nx:=run (A:=fun j=>j=N) (O:=O1) (N:=N+1) (G:=G) (keep:=keep) (f0:=f0) (Q:=Q) (rest:=rest) [] hN (Nat.lt_succ_self N) (fun j h=>by omega) rfl (by simp only [List.length_nil]; omega) (fun O' N' td ps s hN1 hO gv hl hr=>hK O' N' td ps s ⟨by omega,fun j hj=>(hO j (by omega) (by omega)).trans (lo j hj)⟩ (gv.sv pEn) hl (fun j x p a b=>(hr j x p a b).tr)) O2 (N+1) [] (.nils 0 0) (Nat.le_refl _) (fun j _ h2=>f2 j h2) m2 GV.nil rfl (fun j x p h=>by simp at h)
 rw [show ((c.toNat:Nat):Int)=c by omega] at nx
 exact nx
end Go.Proofs.Ytcdigdplhlgcaaa.gx
end
