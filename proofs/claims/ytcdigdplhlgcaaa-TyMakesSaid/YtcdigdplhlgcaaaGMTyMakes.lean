/- The statement TyMakes: whatever bytes come in as choices, and whatever names, the call returns true and leaves all that was there as it was: records, functions and unions of any parts are what the document has. No condition: it is shown of all arguments. -/
import Derived.Test.YtcdigdplhlgcaaaRows
import Derived.WalkKit
import Derived.ProofKit
import Derived.OpenShut
import Derived.ChangeMaps5
import Derived.Deep.Slices
import Derived.Deep.Strs
import Derived.Laws.IdiomStrings
import Derived.Laws.Externs
import Derived.Lib.Bytealg
import Derived.Lib.MakeNoZero
import Derived.Lib.UnsafeStr
import Derived.Laws.World
import Derived.Below
import Derived.Test.YtcdigdplhlgcaaaChecked
import GoSem.Dispatch
import GoSem.Step
import Derived.Laws.Sem
import Derived.Calls
import Derived.Carry
import Derived.ChangeSlices
import Derived.SliceStrings
import Derived.Laws.Strings
import Derived.Orders
import Derived.Test.YtcdigdplhlgcaaaG00
import Derived.Test.YtcdigdplhlgcaaaG01
import Derived.Test.YtcdigdplhlgcaaaG02
import Derived.Test.YtcdigdplhlgcaaaG03
import Derived.Test.YtcdigdplhlgcaaaG04
import Derived.Test.YtcdigdplhlgcaaaG05
import Derived.Test.YtcdigdplhlgcaaaG06
import Derived.Test.YtcdigdplhlgcaaaG07
import Derived.Test.YtcdigdplhlgcaaaG08
import Derived.Test.YtcdigdplhlgcaaaG09
set_option maxRecDepth 100000
set_option linter.unusedVariables false
namespace Go.Proofs.Ytcdigdplhlgcaaa.gx
open Go Ev tp
section
variable (sn sa prq0 s1:AV) (crq1:Int) (prq1:AV) (crq2:Int) (prq2:AV) (crq4:Int) (prq4:AV) (crq5:Int) (prq5:AV) (crq7:Int) (prq7:AV) (crq8:Int) (prq8 s1c:AV)
noncomputable def Ftmk:AFrame:=frm 4 78 (tX (tW (tX tZ (tY sa)) sn tZ) tZ) [opi 4 [1,0] 1,cdi 4 [1,1]]
noncomputable def Ftmk_a_:AFrame:=frm 4 78 (tX (tW (tX tZ (tX (tY s1) tZ)) s1 (tY prq0)) (tX (tX tZ (tX (tY prq0) tZ)) tZ)) [opi 4 [1,1,1,0] 2,cdi 4 [1,1,1,1]]
noncomputable def Ftmk_a__a_:AFrame:=frm 4 78 (tX (tX (tX (tY (.int .i64 crq1)) tZ) (tW (tX tZ (tY s1c)) prq0 tZ)) (tX tZ (tW (tX tZ (tY prq0)) prq1 tZ))) [opi 4 [1,1,1,1,0] 2,cdi 4 [1,1,1,1,1]]
noncomputable def Ftmk_a__a__a_y:AFrame:=frm 24 17 (tX (tX tZ (tX tZ (tY prq1))) (tX (tX tZ (tY (.bool true))) (tX tZ (tY prq2)))) [opi 24 [1,0] 6,cdi 23 [1,0,1,0,1]]
noncomputable def Ftmk_a__a__a_y_1:AFrame:=frm 4 78 (tX (tX (tX (tW (tX (tY (.int .i64 crq1)) tZ) (.int .i64 crq1) tZ) (tX tZ (tY (.tup [prq2,.int .i64 crq2])))) (tW (tW (tX (tY (.int .i64 crq2)) tZ) (.int .i64 crq2) (tY s1c)) prq0 (tX tZ (tY (.int .i64 crq2))))) (tX (tX (tW (tX (tY prq2) tZ) prq2 (tY (.tup [prq2,.int .i64 crq2]))) (tX tZ (tY prq2))) (tW (tX tZ (tY prq0)) prq1 (tX tZ (tY prq1))))) [opi 4 [1,1,1,1,1,0,0] 4,cdi 4 [1,1,1,1,1,0,1],cdi 4 [1,1,1,1,1,1]]
noncomputable def Ftmk_a__a__a_y_a_n:AFrame:=frm 4 78 (tX (tX tZ (tW tZ prq0 (tX (tX (tY prq0) tZ) tZ))) tZ) [opi 4 [1,1,1,1,1,1,0] 1,cdi 4 [1,1,1,1,1,1,1]]
noncomputable def Ftmk_a__a__a_y_a_n_a_:AFrame:=frm 4 78 (tX (tX (tX (tY (.int .i64 crq4)) tZ) (tY prq0)) (tX tZ (tW (tX tZ (tX (tY prq0) tZ)) prq4 tZ))) [opi 4 [1,1,1,1,1,1,1,0] 1,cdi 4 [1,1,1,1,1,1,1,1]]
noncomputable def Ftmk_a__a__a_y_a_n_a__a_y:AFrame:=frm 24 17 (tX (tX tZ (tX tZ (tY prq4))) (tX (tX tZ (tY (.bool true))) (tX tZ (tY prq5)))) [opi 24 [1,0] 6,cdi 26 [1,0,1,0,1]]
noncomputable def Ftmk_a__a__a_y_a_n_a__a_y_1:AFrame:=frm 4 78 (tX (tX (tX (tW (tX tZ (tY (.int .i64 crq4))) (.int .i64 crq4) tZ) (tX tZ (tX (tY (.tup [prq5,.int .i64 crq5])) tZ))) (tW (tW (tX tZ (tY (.int .i64 crq5))) (.int .i64 crq5) (tX (tY (.tup [prq5,.int .i64 crq5])) tZ)) prq0 (tX tZ (tX (tY (.int .i64 crq5)) tZ)))) (tX (tX (tW (tX tZ (tY prq5)) prq5 tZ) (tX tZ (tX (tY prq5) tZ))) (tW (tX tZ (tX (tY prq0) tZ)) prq4 (tX tZ (tX (tY prq4) tZ))))) [opi 4 [1,1,1,1,1,1,1,1,0,0] 4,cdi 4 [1,1,1,1,1,1,1,1,0,1],cdi 4 [1,1,1,1,1,1,1,1,1]]
noncomputable def Ftmk_a__a__a_y_a_n_a__a_y_a_ny:AFrame:=frm 4 78 (tX (tX (tX tZ (tX tZ (tX tZ (tY prq0)))) (tY prq0)) (tX (tX tZ (tX tZ (tX tZ (tY s1)))) (tX (tY s1) tZ))) [opi 4 [1,1,1,1,1,1,1,1,1,1,1,0] 2,cdi 4 [1,1,1,1,1,1,1,1,1,1,1,1]]
noncomputable def Ftmk_a__a__a_y_a_n_a__a_y_a_nn:AFrame:=frm 4 78 (tX (tX (tX tZ (tX tZ (tX tZ (tY prq0)))) (tY prq0)) (tX (tX tZ (tX tZ (tX tZ (tY .nilp)))) (tX (tY .nilp) tZ))) [opi 4 [1,1,1,1,1,1,1,1,1,1,1,0] 2,cdi 4 [1,1,1,1,1,1,1,1,1,1,1,1]]
noncomputable def Ftmk_a__a__a_y_a_n_a__a_y_a_ny_a_:AFrame:=frm 4 78 (tX (tX (tX (tY (.int .i64 crq7)) tZ) (tX (tX (tX (tX (tY prq0) tZ) tZ) tZ) tZ)) (tX tZ (tW (tX (tX (tX (tY s1c) tZ) tZ) tZ) prq7 tZ))) [opi 4 [1,1,1,1,1,1,1,1,1,1,1,1,0] 2,cdi 4 [1,1,1,1,1,1,1,1,1,1,1,1,1]]
noncomputable def Ftmk_a__a__a_y_a_n_a__a_y_a_nn_a_:AFrame:=frm 4 78 (tX (tX (tX (tY (.int .i64 crq7)) tZ) (tX (tX (tX (tX (tY prq0) tZ) tZ) tZ) tZ)) (tX tZ (tW (tX (tX (tX (tY .nilp) tZ) tZ) tZ) prq7 tZ))) [opi 4 [1,1,1,1,1,1,1,1,1,1,1,1,0] 2,cdi 4 [1,1,1,1,1,1,1,1,1,1,1,1,1]]
noncomputable def Ftmk_a__a__a_y_a_n_a__a_y_a_ny_a__a_y:AFrame:=frm 24 17 (tX (tX tZ (tX tZ (tY prq7))) (tX (tX tZ (tY (.bool true))) (tX tZ (tY prq8)))) [opi 24 [1,0] 6,cdi 28 [1,0,1,0,1]]
noncomputable def Ftmk_a__a__a_y_a_n_a__a_y_a_ny_a__a_y_1:AFrame:=frm 4 78 (tX (tX (tX (tW tZ (.int .i64 crq7) (tX (tX (tY (.int .i64 crq7)) tZ) tZ)) (tX (tX (tX (tY (.tup [prq8,.int .i64 crq8])) tZ) tZ) tZ)) (tX (tW (tX (tX (tY prq0) tZ) tZ) (.int .i64 crq8) (tX (tX (tY (.int .i64 crq8)) tZ) tZ)) (tX (tX (tX (tY (.int .i64 crq8)) tZ) tZ) tZ))) (tX (tX (tW (tX (tX (tY (.tup [prq8,.int .i64 crq8])) tZ) tZ) prq8 (tX (tX (tY prq8) tZ) tZ)) (tX (tX (tX (tY prq8) tZ) tZ) tZ)) (tW (tX (tX (tX (tY s1c) tZ) tZ) tZ) prq7 (tX (tX (tX (tY prq7) tZ) tZ) tZ)))) [opi 4 [1,1,1,1,1,1,1,1,1,1,1,1,1,0] 4,cdi 28 [1,0,1,0,1]]
noncomputable def Ftmk_a__a__a_y_a_n_a__a_y_a_nn_a__a_y:AFrame:=frm 24 17 (tX (tX tZ (tX tZ (tY prq7))) (tX (tX tZ (tY (.bool true))) (tX tZ (tY prq8)))) [opi 24 [1,0] 6,cdi 28 [1,0,1,0,1]]
noncomputable def Ftmk_a__a__a_y_a_n_a__a_y_a_nn_a__a_y_1:AFrame:=frm 4 78 (tX (tX (tX (tW tZ (.int .i64 crq7) (tX (tX (tY (.int .i64 crq7)) tZ) tZ)) (tX (tX (tX (tY (.tup [prq8,.int .i64 crq8])) tZ) tZ) tZ)) (tX (tW (tX (tX (tY prq0) tZ) tZ) (.int .i64 crq8) (tX (tX (tY (.int .i64 crq8)) tZ) tZ)) (tX (tX (tX (tY (.int .i64 crq8)) tZ) tZ) tZ))) (tX (tX (tW (tX (tX (tY (.tup [prq8,.int .i64 crq8])) tZ) tZ) prq8 (tX (tX (tY prq8) tZ) tZ)) (tX (tX (tX (tY prq8) tZ) tZ) tZ)) (tW (tX (tX (tX (tY .nilp) tZ) tZ) tZ) prq7 (tX (tX (tX (tY prq7) tZ) tZ) tZ)))) [opi 4 [1,1,1,1,1,1,1,1,1,1,1,1,1,0] 4,cdi 28 [1,0,1,0,1]]
end
section
variable {R:AV→AHeap→Prop} {O:T AObj} {N:Nat} {sn sa prq0 prq1 s1c prq2 prq4 prq5 prq7 prq8:AV} {G:T (T AV)} {K:AM→Prop} {td:List AItem} {crq1 crq2 crq4 crq5 crq7 crq8:Int} {blq3 blq6 blq9:Bool}
theorem t_tmk:(K (AM.mk (enF 21 [sa]) [Ftmk sn sa] ⟨O,N,G⟩))=OT 4 R 0 K (.seq [.run 7,.keep [1,11],.run 1] .fin) ((AM.mk (enF 4 [sa,sn]) [] ⟨O,N,G⟩)):=by kernel_rfl
theorem t_tmk_a_:(∃ (z1:Int) (s1:AV),(lN O N G 32 sn z1)∧(zN P (⟨O,N,G⟩) (32) (sn) (none) ((some (if decide ((20:Int)<z1)=true then (20:Int) else z1))) (none)=(some s1))∧K (AM.mk (enF 22 [s1,prq0]) [Ftmk_a_ prq0 s1] ⟨O,N,G⟩))=OT 4 R 0 K (.ex fun z1:Int=>(.ex fun s1:AV=>(.seq [.run 7,.hopn (.int .i64 z1) O (N),.run 1,.hop (s1) O,.run 6,.keep [1,5,19,20],.run 1] .fin))) ((AM.mk (RF 21 25 (tX tZ (tY prq0)) td) ((Ftmk sn sa)::[]) ⟨O,N,G⟩)):=by kernel_rfl
theorem t_tmk_a__a_:(K (AM.mk (enF 23 [s1c,prq0]) [Ftmk_a__a_ prq0 crq1 prq1 s1c] ⟨O,N,G⟩))=OT 4 R 0 K (.seq [.run 11,.keep [5,6,7,25,26],.run 1] .fin) ((AM.mk (RF 22 85 (tX (tX tZ (tY (.int .i64 crq1))) (tX (tY prq1) tZ)) td) ((Ftmk_a_ prq0 s1c)::[]) ⟨O,N,G⟩)):=by kernel_rfl
theorem t_tmk_a__a__a_:((((crq1==crq2))=true→(K (AM.mk (enF 19 [prq1,prq2]) [Ftmk_a__a__a_y prq1 prq2,Ftmk_a__a__a_y_1 prq0 crq1 prq1 crq2 prq2 s1c] ⟨O,N,G⟩)))∧(((crq1==crq2))=false→((R (.bool false) (⟨O,N,G⟩)))))=OT 4 R 0 K (.seq [.run 25] (.fork 12 (.seq [.run 2,.keep [12,13,14],.run 1] .fin) (.seq [.run 16,.done] .fin))) ((AM.mk (RF 23 135 (tX (tX tZ (tY (.int .i64 crq2))) (tX (tY prq2) tZ)) td) ((Ftmk_a__a_ prq0 crq1 prq1 s1c)::[]) ⟨O,N,G⟩)):=by kernel_rfl
theorem t_tmk_a__a__a_y_a_:((((!blq3))=true→((R (.bool false) (⟨O,N,G⟩))))∧(((!blq3))=false→(K (AM.mk (enF 25 [prq0]) [Ftmk_a__a__a_y_a_n prq0] ⟨O,N,G⟩))))=OT 4 R 0 K (.seq [.run 8] (.fork 35 (.seq [.run 6,.done] .fin) (.seq [.run 5,.keep [5,37],.run 1] .fin))) ((AM.mk (RF 19 30 (tX tZ (tX (tY (.bool blq3)) tZ)) td) ((Ftmk_a__a__a_y prq1 prq2)::(Ftmk_a__a__a_y_1 prq0 crq1 prq1 crq2 prq2 s1c)::[]) ⟨O,N,G⟩)):=by kernel_rfl
theorem t_tmk_a__a__a_y_a_n_a_:(K (AM.mk (enF 26 [prq0]) [Ftmk_a__a__a_y_a_n_a_ prq0 crq4 prq4] ⟨O,N,G⟩))=OT 4 R 0 K (.seq [.run 10,.keep [5,6,7,42],.run 1] .fin) ((AM.mk (RF 25 56 (tX (tX (tY (.int .i64 crq4)) tZ) (tY prq4)) td) ((Ftmk_a__a__a_y_a_n prq0)::[]) ⟨O,N,G⟩)):=by kernel_rfl
theorem t_tmk_a__a__a_y_a_n_a__a_:((((crq4==crq5))=true→(K (AM.mk (enF 19 [prq4,prq5]) [Ftmk_a__a__a_y_a_n_a__a_y prq4 prq5,Ftmk_a__a__a_y_a_n_a__a_y_1 prq0 crq4 prq4 crq5 prq5] ⟨O,N,G⟩)))∧(((crq4==crq5))=false→((R (.bool false) (⟨O,N,G⟩)))))=OT 4 R 0 K (.seq [.run 25] (.fork 12 (.seq [.run 2,.keep [12,13,14],.run 1] .fin) (.seq [.run 16,.done] .fin))) ((AM.mk (RF 26 129 (tX (tX (tY (.int .i64 crq5)) tZ) (tY prq5)) td) ((Ftmk_a__a__a_y_a_n_a_ prq0 crq4 prq4)::[]) ⟨O,N,G⟩)):=by kernel_rfl
theorem t_tmk_a__a__a_y_a_n_a__a_y_a_:((((!blq6))=true→((R (.bool false) (⟨O,N,G⟩))))∧(((!blq6))=false→(∃ (z1:Int),(lN O N G 33 prq0 z1)∧((decide (z1 > (0:Int)))=true→(∃ (i1:Nat) (i2:Nat) (i3:Nat) (s1:AV),(iX 33 prq0 0 i1 i2 i3)∧(lR O N G i1 i2 i3 s1)∧K (AM.mk (enF 27 [prq0,s1]) [Ftmk_a__a__a_y_a_n_a__a_y_a_ny prq0 s1] ⟨O,N,G⟩)))∧((decide (z1 > (0:Int)))=false→(K (AM.mk (enF 27 [prq0,.nilp]) [Ftmk_a__a__a_y_a_n_a__a_y_a_nn prq0] ⟨O,N,G⟩))))))=OT 4 R 0 K (.seq [.run 8] (.fork 51 (.seq [.run 6,.done] .fin) (.ex fun z1:Int=>(.seq [.run 10,.hopn (.int .i64 z1) O (N),.run 2] (.fork 54 (.ex fun i1:Nat=>(.ex fun i2:Nat=>(.ex fun i3:Nat=>(.ex fun s1:AV=>(.seq [.run 3,.hopn (.ptr i1 i2 i3) O (N),.hop (s1) O,.run 6,.keep [5,10,59,60],.run 1] .fin))))) (.seq [.run 6,.keep [5,10,59,60],.run 1] .fin)))))) ((AM.mk (RF 19 30 (tX tZ (tX (tY (.bool blq6)) tZ)) td) ((Ftmk_a__a__a_y_a_n_a__a_y prq4 prq5)::(Ftmk_a__a__a_y_a_n_a__a_y_1 prq0 crq4 prq4 crq5 prq5)::[]) ⟨O,N,G⟩)):=by kernel_rfl
theorem t_tmk_a__a__a_y_a_n_a__a_y_a_ny_a_:(K (AM.mk (enF 28 [prq0,s1c]) [Ftmk_a__a__a_y_a_n_a__a_y_a_ny_a_ prq0 crq7 prq7 s1c] ⟨O,N,G⟩))=OT 4 R 0 K (.seq [.run 11,.keep [6,7,65,66],.run 1] .fin) ((AM.mk (RF 27 20 (tX (tX tZ (tY (.int .i64 crq7))) (tX (tY prq7) tZ)) td) ((Ftmk_a__a__a_y_a_n_a__a_y_a_ny prq0 s1c)::[]) ⟨O,N,G⟩)):=by kernel_rfl
theorem t_tmk_a__a__a_y_a_n_a__a_y_a_ny_a__a_:((((crq7==crq8))=true→(K (AM.mk (enF 19 [prq7,prq8]) [Ftmk_a__a__a_y_a_n_a__a_y_a_ny_a__a_y prq7 prq8,Ftmk_a__a__a_y_a_n_a__a_y_a_ny_a__a_y_1 prq0 crq7 prq7 crq8 prq8 s1c] ⟨O,N,G⟩)))∧(((crq7==crq8))=false→((R (.bool false) (⟨O,N,G⟩)))))=OT 4 R 0 K (.seq [.run 24] (.fork 12 (.seq [.run 2,.keep [12,13,14],.run 1] .fin) (.seq [.run 14,.done] .fin))) ((AM.mk (RF 28 31 (tX (tX tZ (tY (.int .i64 crq8))) (tX (tY prq8) tZ)) td) ((Ftmk_a__a__a_y_a_n_a__a_y_a_ny_a_ prq0 crq7 prq7 s1c)::[]) ⟨O,N,G⟩)):=by kernel_rfl
theorem t_tmk_a__a__a_y_a_n_a__a_y_a_ny_a__a_y_a_:(((blq9)=true→((Goal P (0) 20 (fun x x_1=>x=AV.bool true) (zlY P 20 [] G))∧(R (.bool true) (⟨O,N,G⟩))))∧((blq9)=false→((R (.bool false) (⟨O,N,G⟩)))))=OT 4 R 0 K (.seq [.run 7] (.fork 75 (.seq [.run 1,.callv [] (.bool true),.run 4,.done] .fin) (.seq [.run 5,.done] .fin))) ((AM.mk (RF 19 30 (tX tZ (tX (tY (.bool blq9)) tZ)) td) ((Ftmk_a__a__a_y_a_n_a__a_y_a_ny_a__a_y prq7 prq8)::(Ftmk_a__a__a_y_a_n_a__a_y_a_ny_a__a_y_1 prq0 crq7 prq7 crq8 prq8 s1c)::[]) ⟨O,N,G⟩)):=by kernel_rfl
theorem t_tmk_a__a__a_y_a_n_a__a_y_a_nn_a_:(K (AM.mk (enF 28 [prq0,.nilp]) [Ftmk_a__a__a_y_a_n_a__a_y_a_nn_a_ prq0 crq7 prq7] ⟨O,N,G⟩))=OT 4 R 0 K (.seq [.run 11,.keep [6,7,65,66],.run 1] .fin) ((AM.mk (RF 27 20 (tX (tX tZ (tY (.int .i64 crq7))) (tX (tY prq7) tZ)) td) ((Ftmk_a__a__a_y_a_n_a__a_y_a_nn prq0)::[]) ⟨O,N,G⟩)):=by kernel_rfl
theorem t_tmk_a__a__a_y_a_n_a__a_y_a_nn_a__a_:((((crq7==crq8))=true→(K (AM.mk (enF 19 [prq7,prq8]) [Ftmk_a__a__a_y_a_n_a__a_y_a_nn_a__a_y prq7 prq8,Ftmk_a__a__a_y_a_n_a__a_y_a_nn_a__a_y_1 prq0 crq7 prq7 crq8 prq8] ⟨O,N,G⟩)))∧(((crq7==crq8))=false→((R (.bool false) (⟨O,N,G⟩)))))=OT 4 R 0 K (.seq [.run 24] (.fork 12 (.seq [.run 2,.keep [12,13,14],.run 1] .fin) (.seq [.run 14,.done] .fin))) ((AM.mk (RF 28 31 (tX (tX tZ (tY (.int .i64 crq8))) (tX (tY prq8) tZ)) td) ((Ftmk_a__a__a_y_a_n_a__a_y_a_nn_a_ prq0 crq7 prq7)::[]) ⟨O,N,G⟩)):=by kernel_rfl
theorem t_tmk_a__a__a_y_a_n_a__a_y_a_nn_a__a_y_a_:(((blq9)=true→((Goal P (0) 20 (fun x x_1=>x=AV.bool true) (zlY P 20 [] G))∧(R (.bool true) (⟨O,N,G⟩))))∧((blq9)=false→((R (.bool false) (⟨O,N,G⟩)))))=OT 4 R 0 K (.seq [.run 7] (.fork 75 (.seq [.run 1,.callv [] (.bool true),.run 4,.done] .fin) (.seq [.run 5,.done] .fin))) ((AM.mk (RF 19 30 (tX tZ (tX (tY (.bool blq9)) tZ)) td) ((Ftmk_a__a__a_y_a_n_a__a_y_a_nn_a__a_y prq7 prq8)::(Ftmk_a__a__a_y_a_n_a__a_y_a_nn_a__a_y_1 prq0 crq7 prq7 crq8 prq8)::[]) ⟨O,N,G⟩)):=by kernel_rfl
end
theorem works20 {G:T (T AV)}:Goal P 0 20 (fun x _=>x=AV.bool true) (zlY P 20 [] G):=Goal.ofRun mix (n:=100000) (by kernel_rfl) fun _=>rfl
theorem recT_bad {ns:List ze}{ts:List Ty}(h:(y0 ns ts).1≠0):(y0 ns ts).2=.no:=by
  unfold y0 at h ⊢;split
  ·rename_i hc;rw [if_pos hc] at h;split
   ·rfl
   ·rename_i xs us hr;rw [hr] at h;exact zdF h
  ·rfl
theorem cntR (ns:List ze)(ts:List Ty):cnt (y0 ns ts).2≤60:=by
  by_cases h:(y0 ns ts).1=0
  ·exact (tp.chk_ok (zkv h).1).2
  ·rw [recT_bad h,jq];omega
theorem cntU (ts:List Ty):cnt (vh ts).2≤60:=by
  by_cases h:(vh ts).1=0
  ·exact (tp.chk_ok (znY h)).2
  ·rw [zns h,jq];omega
theorem cntF (ts:List Ty)(r:Ty):cnt (zbK ts r).2≤60:=by
  by_cases h:(zbK ts r).1=0
  ·exact (znv h).2
  ·rw [zmZ h,jq];omega
theorem makes_goal {O:T AObj}{N:Nat}{xs:List UInt8}{ns:List ze}{sa sn:AV}(hx:SVe O N xs sa)(hs:SVn O N ns sn):Goal P 0 4 (fun v _=>v=.bool true) (AM.mk (enF 4 [sa,sn]) [] ⟨O,N,.leaf⟩):=by
  obtain ⟨us,hu5,hnm,ls⟩:=zpP xs;refine ot t_tmk ?_;refine ls hx (Nat.le_refl _) fun O1 N1 td1 ps s ex1 sv0 hl tr=>?_;have sv:SV O1 1 pE 0 N1 ps s:=sv0.keep (fun _ _ _=>rfl) (Nat.zero_le _) (Nat.le_refl _);have svx:∀ {O2:T AObj} {N2:Nat},Ext O1 N1 O2 N2→SV O2 1 pE 0 N2 ps s:=fun ex=>sv.keep (fun j _ hj=>ex.2 j hj) (Nat.le_refl _) ex.1;have trx:∀ {O2:T AObj} {N2:Nat},Ext O1 N1 O2 N2→∀ (j:Nat) (x:Ty) (p:Option Nat),us[j]?=some x→ps[j]?=some p→Tr O2 N2 x p:=fun ex j x p a b=>((tr j x p a b).ext ex (Nat.le_refl _)).same (fun _ _=>rfl) ex.1;have hs1:SVn O1 N1 ns sn:=hs.keep (fun j hj=>ex1.2 j hj) ex1.1
  -- the first twenty names
  obtain ⟨z1,s1,ms,el,es,hm⟩:∃ (z1:Int) (s1:AV) (ms:List ze),zL P ⟨O1,N1,.leaf⟩ .len (some 32) [sn]=some (.int .i64 z1)∧zN P ⟨O1,N1,.leaf⟩ 32 sn none (some (if decide ((20:Int)<z1)=true then (20:Int) else z1)) none=some s1∧SVn O1 N1 ms s1:=by
    rcases hs1 with h | ⟨rfl,rfl⟩
    ·have w:(if decide ((20:Int)<((ns.length:Nat):Int))=true then (20:Int) else ((ns.length:Nat):Int))=((min ns.length 20:Nat):Int):=by
       by_cases h20:20<ns.length
       ·rw [if_pos (decide_eq_true (by omega)),Nat.min_eq_right (by omega)];rfl
       ·rw [if_neg (by rw [decide_eq_false (by omega)]; exact Bool.false_ne_true),Nat.min_eq_left (by omega)]
     obtain ⟨s1,e1,r1,_⟩:=h.sub sSl sEn (a:=0) (b:=min ns.length 20) (Nat.zero_le _) (Nat.min_le_left _ _) none (some ((min ns.length 20:Nat):Int)) (.inr ⟨rfl,rfl⟩) (.inl rfl) N1 .leaf;exact ⟨_,s1,_,h.len sSl _ _,by rw [w]; exact e1,.inl r1⟩
    ·exact ⟨_,.sle,[],zab _ _,by kernel_rfl,.inr ⟨rfl,rfl⟩⟩
  refine ot t_tmk_a_ ⟨z1,s1,el,es,?_⟩;refine zsA hm sv hl (by omega) tr (Nat.le_refl _) fun O2 N2 td2 p2 x2 t2=>?_;refine ot t_tmk_a__a_ ?_;refine rrecN (hm.keep (fun j hj=>x2.2 j hj) x2.1) (svx x2) hl (by omega) (trx x2) (Nat.le_refl _) fun O3 N3 td3 p3 x3 t3=>?_;have X3:=x2.trans x3;refine ot t_tmk_a__a__a_ ⟨fun _=>?_,fun g=>absurd g (by simp)⟩;refine kC ((t2.ext x3 (Nat.le_refl _)).same (fun _ _=>rfl) x3.1) t3 fun td4 b4 h4=>?_;have b4t:b4=true:=h4.2 ⟨cntR _ _,cntR _ _,rfl⟩;rw [b4t];refine ot t_tmk_a__a__a_y_a_ ⟨fun g=>absurd g (by decide),fun _=>?_⟩;refine znu (svx X3) hl (by omega) (trx X3) hnm (Nat.le_refl _) fun O5 N5 td5 p5 x5 t5=>?_;have X5:=X3.trans x5;refine ot t_tmk_a__a__a_y_a_n_a_ ?_;refine zmO (mk:=fun _=>False) (svx X5) hl (by omega) (fun j x p a b=>Tra.of (trx X5 j x p a b) (fun _ _ h=>h)) (Nat.le_refl _) (fun _ h=>h.elim) fun O8 N8 td6 p6 x6 t6=>?_;have X8:=X5.trans x6;refine ot t_tmk_a__a__a_y_a_n_a__a_ ⟨fun _=>?_,fun g=>absurd g (by simp)⟩;refine kC ((t5.ext x6 (Nat.le_refl _)).same (fun _ _=>rfl) x6.1) t6.tr fun td7 b7 h7=>?_;have b7t:b7=true:=h7.2 ⟨cntU _,cntU _,rfl⟩;rw [b7t];refine ot t_tmk_a__a__a_y_a_n_a__a_y_a_ ⟨fun g=>absurd g (by decide),fun _=>⟨_,(svx X8).len pSl _ _,fun hp=>?_,fun hp=>?_⟩⟩
  ·have hp0:0<ps.length:=by have:=of_decide_eq_true hp; omega
   obtain ⟨x,hx0,hxm⟩:=nth (l:=us) (j:=0) (by omega);obtain ⟨p,hp1,_⟩:=nth (l:=ps) (j:=0) hp0;obtain ⟨a1,a2,a3,_,_,eA,rA,_⟩:=(svx X8).at pSl pEn hp1;refine ⟨a1,a2,a3,pv p,eA,rA.load rfl _ _,?_⟩;refine zhk (svx X8) hl (by omega) (trx X8) (r:=x) (q:=p) (trx X8 0 x p hx0 hp1) (Nat.le_refl _) fun O9 N9 td9 p9 x9 t9=>?_;have X9:=X8.trans x9;refine ot t_tmk_a__a__a_y_a_n_a__a_y_a_ny_a_ ?_;refine zdI (mk:=fun _=>False) (r:=x) (q:=p) (svx X9) hl (by omega) (fun j x p a b=>Tra.of (trx X9 j x p a b) (fun _ _ h=>h)) (Tra.of (trx X9 0 x p hx0 hp1) (fun _ _ h=>h)) (Nat.le_refl _) (fun _ h=>h.elim) fun O10 N10 td10 p10 x10 t10=>?_;refine ot t_tmk_a__a__a_y_a_n_a__a_y_a_ny_a__a_ ⟨fun _=>?_,fun g=>absurd g (by simp)⟩;refine kC ((t9.ext x10 (Nat.le_refl _)).same (fun _ _=>rfl) x10.1) t10.tr fun td11 b11 h11=>?_;have b11t:b11=true:=h11.2 ⟨cntF _ _,cntF _ _,rfl⟩;rw [b11t];exact ot t_tmk_a__a__a_y_a_n_a__a_y_a_ny_a__a_y_a_ ⟨fun _=>⟨works20,rfl⟩,fun g=>absurd g (by decide)⟩
  ·refine zhk (svx X8) hl (by omega) (trx X8) (r:=.no) (q:=none) Tr.no (Nat.le_refl _) fun O9 N9 td9 p9 x9 t9=>?_;have X9:=X8.trans x9;refine ot t_tmk_a__a__a_y_a_n_a__a_y_a_nn_a_ ?_;refine zdI (mk:=fun _=>False) (r:=.no) (q:=none) (svx X9) hl (by omega) (fun j x p a b=>Tra.of (trx X9 j x p a b) (fun _ _ h=>h)) (Tra.of (Tr.no) (fun _ _ h=>h)) (Nat.le_refl _) (fun _ h=>h.elim) fun O10 N10 td10 p10 x10 t10=>?_;refine ot t_tmk_a__a__a_y_a_n_a__a_y_a_nn_a__a_ ⟨fun _=>?_,fun g=>absurd g (by simp)⟩;refine kC ((t9.ext x10 (Nat.le_refl _)).same (fun _ _=>rfl) x10.1) t10.tr fun td11 b11 h11=>?_;have b11t:b11=true:=h11.2 ⟨cntF _ _,cntF _ _,rfl⟩;rw [b11t];exact ot t_tmk_a__a__a_y_a_n_a__a_y_a_nn_a__a_y_a_ ⟨fun _=>⟨works20,rfl⟩,fun g=>absurd g (by decide)⟩
end Go.Proofs.Ytcdigdplhlgcaaa.gx
namespace Go.Proofs.Ytcdigdplhlgcaaa.tyMakes
open Go Go.ChangeShapes Go.WideShapes Go.ChangeAt Go.RowKit Go.ChangeMaps
open Ev gx
theorem own:ownKnob Try.prog.godebug=none:=by kernel_rfl
/-! ### The row's step -/
theorem lifted (os:Os)(started:os.Started)(H:Type)(enc:TypeId × Value→H) :
    ReturnsInHanded {} Try.checked os 4 .any (Rows.tyMakesSpec.pre6 enc Try.prog Try.f4 Rows.tyMakesRow.domain false) (Rows.tyMakesSpec.post enc Try.prog Try.f4 false true false false):=by
  refine returnsInHanded_of_change (C:=Try.checked) own started (by kernel_rfl) Try.func4
    (ChangeSpec.witness6 (enc:=enc) (C:=Try.checked) false ⟨#[],#[.slice none 0 0,.slice none 0 0],[]⟩ 8 (by kernel_rfl) (by kernel_rfl) (by kernel_rfl) (by kernel_rfl)) ?_
  intro W base args ds gs before hval0 hW hcnd _;have hval:∀ (j:Nat) t v,Try.f4.params[j]?=some t→args[j]?=some v→Value.okWide Try.prog W .any base t v:=hval0;have hW':=hW;obtain ⟨p,q,hA0,hV,rfl,hfz,hnd⟩:=hW;have hA:DataW.TrodAll enc Try.prog W 0 (fun _=>true) true Try.f4.params.toList args.toList ds p:=hA0;rw [Try.params4] at hA hval;obtain ⟨v0,vs0,d0,ds0,p0,q0,hargs,rfl,rfl,h0,r0⟩:=trodAll_cons hA;obtain ⟨v1,vs1,d1,ds1,p1,q1,rfl,rfl,rfl,h1,r1⟩:=trodAll_cons r0;obtain ⟨rfl,rfl,rfl⟩:=trodAll_nil r1;obtain rfl:args=#[v0,v1]:=by cases args; simp_all
  obtain ⟨rfl,rfl⟩:=trodVars_none hV;obtain ⟨x0,s0,xs0,hi0,hv0⟩:=znd (Ev.in_ints Try.underlying22 Try.underlying5 (by kernel_rfl) (hval 0 22 v0 rfl rfl) h0);obtain ⟨x1,s1,xs1,hi1,hv1⟩:=zq9 (Ev.in_strings Try.underlying32 Try.underlying9 (by kernel_rfl) (hval 1 32 v1 rfl rfl) h1)
  let l:List Inp:=[x0,x1]
  have hG:znE .leaf W:=fun g c e=>by cases e
  have run:Calls Try.prog 4 #[v0,v1] W fun r w'=>r=.returned (.bool true)∧Old W w' :=
    zmi (f:=4) (args:=[s0 0,s1 1]) (a:=enF 4 [s0 0,s1 1]) (l:=l) (G:=.leaf) (vs:=[v0,v1]) (by kernel_rfl) hG
      (fun x hx=>by
        simp only [l,List.mem_cons,List.not_mem_nil,or_false] at hx;rcases hx with rfl | rfl <;> assumption)
      ⟨_,_,rfl,(hv0 l 0 .leaf rfl).1,⟨_,_,rfl,(hv1 l 1 .leaf rfl).1,rfl⟩⟩
      (makes_goal (hv0 l 0 .leaf rfl).2 (hv1 l 1 .leaf rfl).2)
  refine run.mono fun e W' ⟨he,hg⟩=>?_;subst he;exact ⟨_,rfl,Ev.post_law (by kernel_rfl) (by kernel_rfl) rfl Try.underlying4 rfl hW' rfl hg⟩
theorem held:Rows.tyMakesRow.holds Try.pinned (OpenSpec.ofChange Rows.tyMakesSpec) :=
  OpenClaim.holds_of_wide 4 Try.f4 rfl rfl rfl rfl rfl rfl rfl ⟨rfl,rfl,rfl,rfl,rfl⟩ rfl rfl rfl rfl rfl (by kernel_rfl) Try.func4 (by kernel_rfl)
    (of_decide_eq_true (by kernel_rfl)) (by unfold Func.isWrapper; first | (rw [if_pos (by decide +kernel)]; kernel_rfl) | (rw [if_neg (by decide +kernel)]; exact ⟨rfl,rfl⟩))
    (fun os started H enc _=>lifted os started H enc)
/-- The statement. -/
theorem proved:Rows.TyMakesSaid :=
  held
#print axioms proved
end Go.Proofs.Ytcdigdplhlgcaaa.tyMakes
