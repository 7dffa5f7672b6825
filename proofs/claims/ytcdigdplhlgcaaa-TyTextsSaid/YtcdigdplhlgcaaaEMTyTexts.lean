/- The statement TyTexts: whatever bytes come in as choices, the call returns true and leaves all that was there as it was: what the calls answer may be, and two types that may be are the same just if their texts are. No condition: it is shown of all arguments. -/
import Derived.Test.YtcdigdplhlgcaaaRows
import Derived.WalkKit
import Derived.ProofKit
import Derived.OpenShut
import Derived.ChangeMaps5
import Derived.Deep.Slices
import Derived.Deep.Strs
import Derived.Laws.IdiomStrings
import Derived.Laws.Externs
import Derived.Lib.Bytealg
import Derived.Lib.MakeNoZero
import Derived.Lib.UnsafeStr
import Derived.Laws.World
import Derived.Below
import Derived.Test.YtcdigdplhlgcaaaChecked
import GoSem.Dispatch
import GoSem.Step
import Derived.Laws.Sem
import Derived.Calls
import Derived.Carry
import Derived.ChangeSlices
import Derived.SliceStrings
import Derived.Laws.Strings
import Derived.Orders
import Derived.Test.YtcdigdplhlgcaaaE00
import Derived.Test.YtcdigdplhlgcaaaE01
import Derived.Test.YtcdigdplhlgcaaaE02
import Derived.Test.YtcdigdplhlgcaaaE03
import Derived.Test.YtcdigdplhlgcaaaE04
import Derived.Test.YtcdigdplhlgcaaaE05
import Derived.Test.YtcdigdplhlgcaaaE06
import Derived.Test.YtcdigdplhlgcaaaE07
import Derived.Test.YtcdigdplhlgcaaaE08
import Derived.Test.YtcdigdplhlgcaaaE09
set_option maxRecDepth 100000
set_option linter.unusedVariables false
namespace Go.Proofs.Ytcdigdplhlgcaaa.gx
open Go Ev tp
section
variable (sa sl prq0:AV) (crq1:Int) (prq1:AV) (crq0:Int) (i1 i2 i3 i4 i5 i6 i7 i8 i9 i10 i11 i12:Nat) (s1:AV) (z1:Int) (s2 s3 s4:AV) (lrq1 lrq2:List UInt8) (z1c:Int) (s1c s2c:AV) (i1c i2c i3c i4c i5c i6c:Nat) (a b:Int) (rest:List AFrame) (O:T AObj) (N:Nat) (G:T (T AV)) (i1cc i10c i11c i12c i2cc i3cc i7c i8c i9c:Nat) (s1cc s3c s4c:AV)
noncomputable def Fttx:AFrame:=⟨5,99,(tX tZ (tX (tX tZ (tY sa)) tZ)),   [.ops (rg P 5 [1,1,0]).toList ((rg P 5 [1,1,0]).toList.drop 1),.code (cd P 5 [1,1,1])],[],.run,CallKind.normal,none⟩
noncomputable def Wtta:AM:=⟨⟨5,99,(tX (tX (tY sl) tZ) (tX (tY (.int .i64 a)) tZ)),   [.code (cd P 5 [1,1,1,0,1,0,0]),.inLoop (cd P 5 [1,1,1,0,1,0,0]),.inBlock 0,.code (cd P 5 [1,1,1,1])],[],.run,CallKind.normal,none⟩,rest,⟨O,N,G⟩⟩
noncomputable def Fttay:AFrame:=⟨5,99,(tX (tX (tW (tX tZ (tY s1)) sl tZ) tZ) (tX (tY (.int .i64 a)) tZ)),   [.ops (rg P 5 [1,1,1,0,1,0,0,1,0,0,0,0]).toList ((rg P 5 [1,1,1,0,1,0,0,1,0,0,0,0]).toList.drop 4),.code (cd P 5 [1,1,1,0,1,0,0,1,0,0,0,1]),.code (cd P 5 [1,1,1,0,1,0,0,1,0,0,1]),.inBlock 1,.code (cd P 5 [1,1,1,0,1,0,0,1,1]),.inLoop (cd P (5:FuncId) [1,1,1,0,1,0,0]),.inBlock 0,.code (cd P (5:FuncId) [1,1,1,1])],[],.run,CallKind.normal,none⟩
noncomputable def Fttan:AFrame:=⟨5,99,(tX (tX (tY sl) tZ) (tX (tX tZ (tX (tX (tX (tY sl) tZ) tZ) tZ)) tZ)),   [.ops (rg P 5 [1,1,1,1,0]).toList ((rg P 5 [1,1,1,1,0]).toList.drop 1),.code (cd P 5 [1,1,1,1,1])],[],.run,CallKind.normal,none⟩
noncomputable def Fttay_a_y:AFrame:=⟨5,99,(tX (tX (tY sl) (tX tZ (tX tZ (tY s1)))) (tX (tY (.int .i64 a)) tZ)),   [.ops (rg P 5 [1,1,1,0,1,0,0,1,0,0,0,1,0,0,0]).toList ((rg P 5 [1,1,1,0,1,0,0,1,0,0,0,1,0,0,0]).toList.drop 4),.code (cd P 5 [1,1,1,0,1,0,0,1,0,0,0,1,0,0,1]),.code (cd P 5 [1,1,1,0,1,0,0,1,0,0,0,1,0,1]),.code (cd P (5:FuncId) [1,1,1,0,1,0,0,1,0,0,1]),.inBlock 1,.code (cd P (5:FuncId) [1,1,1,0,1,0,0,1,1]),.inLoop (cd P (5:FuncId) [1,1,1,0,1,0,0]),.inBlock 0,.code (cd P (5:FuncId) [1,1,1,1])],[],.run,CallKind.normal,none⟩
noncomputable def Wttb:AM:=⟨⟨5,99,(tX (tX (tY sl) (tY (.int .i64 b))) (tX (tY (.int .i64 a)) tZ)),   [.code (cd P 5 [1,1,1,0,1,0,0,1,0,0,1,1,0,0]),.inLoop (cd P 5 [1,1,1,0,1,0,0,1,0,0,1,1,0,0]),.inBlock 2,.inBlock 1,.code (cd P (5:FuncId) [1,1,1,0,1,0,0,1,1]),.inLoop (cd P (5:FuncId) [1,1,1,0,1,0,0]),.inBlock 0,.code (cd P (5:FuncId) [1,1,1,1])],[],.run,CallKind.normal,none⟩,rest,⟨O,N,G⟩⟩
noncomputable def Fttan_a_n:AFrame:=⟨5,99,(tX (tX tZ (tX tZ (tX tZ (tX (tX (tY sl) tZ) tZ)))) (tX tZ (tW tZ prq0 (tX tZ (tX (tX (tY prq0) tZ) tZ))))),   [.ops (rg P 5 [1,1,1,1,1,1,0]).toList ((rg P 5 [1,1,1,1,1,1,0]).toList.drop 2),.code (cd P 5 [1,1,1,1,1,1,1])],[],.run,CallKind.normal,none⟩
noncomputable def Fttan_a_n_a_:AFrame:=⟨5,99,(tX (tX tZ (tX (tY (.int .i64 crq1)) tZ)) (tX (tX (tY prq1) tZ) (tX (tX (tX tZ (tX (tY prq0) tZ)) tZ) tZ))),   [.ops (rg P 5 [1,1,1,1,1,1,1,0]).toList ((rg P 5 [1,1,1,1,1,1,1,0]).toList.drop 1),.code (cd P 16 [1,0,1,0,1])],[],.run,CallKind.normal,none⟩
noncomputable def Fttan_a_n_a__a_yn:AFrame:=⟨5,99,(tX (tX tZ (tX (tX tZ (tX tZ (tX (tY prq1) tZ))) (tX (tX tZ (tX (tY (.bool true)) tZ)) tZ))) (tX (tX (tW tZ prq1 (tX tZ (tX (tY (.bool false)) tZ))) tZ) tZ)),   [.ops (rg P (5:FuncId) [1,1,1,1,1,1,1,0]).toList ((rg P (5:FuncId) [1,1,1,1,1,1,1,0]).toList.drop 8),.code (cd P (16:FuncId) [1,0,1,0,1])],[],.run,CallKind.normal,none⟩
noncomputable def Fttan_a_n_a__a_yn_a_y:AFrame:=⟨5,99,(tX (tX tZ (tX tZ (tX (tX tZ (tX (tY (.bool true)) tZ)) (tX tZ (tX (tY prq1) tZ))))) (tX (tX (tX tZ (tX tZ (tX (tY (.bool false)) tZ))) (tX tZ (tX tZ (tX (tY (.bool true)) tZ)))) tZ)),   [.ops (rg P (5:FuncId) [1,1,1,1,1,1,1,0]).toList ((rg P (5:FuncId) [1,1,1,1,1,1,1,0]).toList.drop 12),.code (cd P (16:FuncId) [1,0,1,0,1])],[],.run,CallKind.normal,none⟩
noncomputable def Fttby:AFrame:=⟨5,99,(tX (tX (tW (tX tZ (tX (tY (.int .i64 b)) tZ)) sl (tX (tX (tY (.bool true)) tZ) tZ)) (tW (tX (tX (tY sl) tZ) (tX (tY s1) tZ)) (.int .i64 b) tZ)) (tX (tW (tX (tX (tY (.int .i64 b)) tZ) (tX (tY (.ptr i1 i2 i3)) tZ)) (.int .i64 a) tZ) (tX (tX (tX (tY (.int .i64 z1)) tZ) tZ) (tX (tX (tY sl) tZ) tZ)))),   [.drw (rg P 5 [1,1,1,0,1,0,0,1,0,0,1,1,0,0,1,0,0,0]) [4,5,6,7,8,9,10,12,13,14,15,18,19,20,21,22,23,24,25,11,16,17,26,27,28] [3,2,1,0],.code (cd P 5 [1,1,1,0,1,0,0,1,0,0,1,1,0,0,1,0,0,1]),.inBlock 3,.code (cd P 5 [1,1,1,0,1,0,0,1,0,0,1,1,0,0,1,1]),.inLoop (cd P (5:FuncId) [1,1,1,0,1,0,0,1,0,0,1,1,0,0]),.inBlock 2,.inBlock 1,.code (cd P (5:FuncId) [1,1,1,0,1,0,0,1,1]),.inLoop (cd P (5:FuncId) [1,1,1,0,1,0,0]),.inBlock 0,.code (cd P (5:FuncId) [1,1,1,1])],[],.run,CallKind.normal,none⟩
noncomputable def Fttby_a_y:AFrame:=⟨5,99,(tX (tX (tW (tX (tX (tX (tY s4) tZ) (tY (.ptr i1 i2 i3))) (tX (tY (.int .i64 b)) tZ)) sl (tX (tX (tY (.bool true)) (tY (.int .i64 b))) (tX (tY (.bool (crq0==(0:Int)))) (tY s3)))) (tW (tX (tX (tY sl) tZ) (tX (tY s1c) (tY (.int .i64 a)))) (.int .i64 b) (tX (tX tZ (tY s2)) (tX (tY sl) (tY (.int .i64 b)))))) (tX (tW (tX (tX (tY (.int .i64 b)) (tY s1)) (tX (tY (.ptr i1c i2c i3c)) (tY sl))) (.int .i64 a) (tX (tX tZ (tY (.ptr i4 i5 i6))) (tX (tY (.bool true)) (tY sl)))) (tX (tX (tX (tY (.int .i64 z1c)) (tY sl)) (tX (tY (.int .i64 crq0)) (tY (.ptr i7 i8 i9)))) (tX (tX (tY sl) tZ) (tX (tY (.int .i64 a)) (tY (.ptr i10 i11 i12))))))),   [.drw (rg P (5:FuncId) [1,1,1,0,1,0,0,1,0,0,1,1,0,0,1,0,0,0]) [11,16,17,26,27,28] [25,24,23,22,21,20,19,18,15,14,13,12,10,9,8,7,6,5,4,3,2,1,0],.code (cd P (5:FuncId) [1,1,1,0,1,0,0,1,0,0,1,1,0,0,1,0,0,1]),.inBlock 3,.code (cd P (5:FuncId) [1,1,1,0,1,0,0,1,0,0,1,1,0,0,1,1]),.inLoop (cd P (5:FuncId) [1,1,1,0,1,0,0,1,0,0,1,1,0,0]),.inBlock 2,.inBlock 1,.code (cd P (5:FuncId) [1,1,1,0,1,0,0,1,1]),.inLoop (cd P (5:FuncId) [1,1,1,0,1,0,0]),.inBlock 0,.code (cd P (5:FuncId) [1,1,1,1])],[],.run,CallKind.normal,none⟩
noncomputable def Fttby_a_y_a_:AFrame:=⟨5,99,(tX (tX (tW (tX (tX (tX (tY s4c) tZ) (tY (.ptr i1cc i2cc i3cc))) (tX (tY (.int .i64 b)) tZ)) sl (tX (tX (tY (.bool true)) (tY (.int .i64 b))) (tX (tY (.bool (crq0==(0:Int)))) (tY s3c)))) (tW (tX (tX (tY sl) (tY (.str lrq1))) (tX (tY s1c) (tY (.int .i64 a)))) (.int .i64 b) (tX (tX tZ (tY s2c)) (tX (tY sl) (tY (.int .i64 b)))))) (tX (tW (tX (tX (tY (.int .i64 b)) (tY s1cc)) (tX (tY (.ptr i1c i2c i3c)) (tY sl))) (.int .i64 a) (tX (tX tZ (tY (.ptr i4c i5c i6c))) (tX (tY (.bool true)) (tY sl)))) (tX (tX (tX (tY (.int .i64 z1c)) (tY sl)) (tX (tY (.int .i64 crq0)) (tY (.ptr i7c i8c i9c)))) (tX (tX (tY sl) tZ) (tX (tY (.int .i64 a)) (tY (.ptr i10c i11c i12c))))))),   [.drw (rg P (5:FuncId) [1,1,1,0,1,0,0,1,0,0,1,1,0,0,1,0,0,0]) [16,17,26,27,28] [11,25,24,23,22,21,20,19,18,15,14,13,12,10,9,8,7,6,5,4,3,2,1,0],.code (cd P (5:FuncId) [1,1,1,0,1,0,0,1,0,0,1,1,0,0,1,0,0,1]),.inBlock 3,.code (cd P (5:FuncId) [1,1,1,0,1,0,0,1,0,0,1,1,0,0,1,1]),.inLoop (cd P (5:FuncId) [1,1,1,0,1,0,0,1,0,0,1,1,0,0]),.inBlock 2,.inBlock 1,.code (cd P (5:FuncId) [1,1,1,0,1,0,0,1,1]),.inLoop (cd P (5:FuncId) [1,1,1,0,1,0,0]),.inBlock 0,.code (cd P (5:FuncId) [1,1,1,1])],[],.run,CallKind.normal,none⟩
noncomputable def Fttby_a_y_a__a_:AFrame:=⟨5,99,(tX (tX (tW (tX (tX (tX (tY s4c) tZ) (tY (.ptr i1cc i2cc i3cc))) (tX (tY (.int .i64 b)) (tY (.bool (lrq1==lrq2))))) sl (tX (tX (tY (.bool true)) (tY (.int .i64 b))) (tX (tY (.bool (crq0==(0:Int)))) (tY s3c)))) (tW (tX (tX (tY sl) (tY (.str lrq1))) (tX (tY s1c) (tY (.int .i64 a)))) (.int .i64 b) (tX (tX tZ (tY s2c)) (tX (tY sl) (tY (.int .i64 b)))))) (tX (tW (tX (tX (tY (.int .i64 b)) (tY s1cc)) (tX (tY (.ptr i1c i2c i3c)) (tY sl))) (.int .i64 a) (tX (tX tZ (tY (.ptr i4c i5c i6c))) (tX (tY (.bool true)) (tY sl)))) (tX (tX (tX (tY (.int .i64 z1c)) (tY sl)) (tX (tY (.int .i64 crq0)) (tY (.ptr i7c i8c i9c)))) (tX (tX (tY sl) (tY (.str lrq2))) (tX (tY (.int .i64 a)) (tY (.ptr i10c i11c i12c))))))),   [.drw (rg P (5:FuncId) [1,1,1,0,1,0,0,1,0,0,1,1,0,0,1,0,0,0]) [26,27,28] [17,16,11,25,24,23,22,21,20,19,18,15,14,13,12,10,9,8,7,6,5,4,3,2,1,0],.code (cd P (5:FuncId) [1,1,1,0,1,0,0,1,0,0,1,1,0,0,1,0,0,1]),.inBlock 3,.code (cd P (5:FuncId) [1,1,1,0,1,0,0,1,0,0,1,1,0,0,1,1]),.inLoop (cd P (5:FuncId) [1,1,1,0,1,0,0,1,0,0,1,1,0,0]),.inBlock 2,.inBlock 1,.code (cd P (5:FuncId) [1,1,1,0,1,0,0,1,1]),.inLoop (cd P (5:FuncId) [1,1,1,0,1,0,0]),.inBlock 0,.code (cd P (5:FuncId) [1,1,1,1])],[],.run,CallKind.normal,none⟩
end
section
variable {R:AV→AHeap→Prop} {O:T AObj} {N i1c i2c i3c i4c i5c i6c i1cc i10c i11c i12c i2cc i3cc i7c i8c i9c:Nat} {sa prq0 sl s1c prq1 s2c s1cc s3c s4c:AV} {G:T (T AV)} {K:AM→Prop} {td:List AItem} {a crq0 crq1 crq2 crq3 crq4 b z1c:Int} {lrq1 lrq2:List UInt8} {blq3:Bool}
theorem t_ttx:((Goal P (0) 20 (fun x x_1=>x=AV.bool true) (zoz P 20 [] G))∧K (AM.mk (enF 21 [sa]) [Fttx sa] ⟨O,N,G⟩))=OT 5 R 0 K (.seq [.run 8,.callv [] (.bool true),.run 7,.keep [12],.run 1] .fin) ((AM.mk (enF 5 [sa]) [] ⟨O,N,G⟩)):=by kernel_rfl
theorem t_ttx_a_:(K (Wtta prq0 0 [] O N G))=OT 5 R 0 K (.seq [.run 10,.keep [3,4]] .fin) ((AM.mk (RF 21 25 (tX tZ (tY prq0)) td) ((Fttx sa)::[]) ⟨O,N,G⟩)):=by kernel_rfl
theorem t_tta:(∃ (z1:Int),(lN O N G 33 sl z1)∧((decide (a<z1))=true→(∃ (i1:Nat) (i2:Nat) (i3:Nat) (s1:AV),(iX 33 sl a i1 i2 i3)∧(lR O N G i1 i2 i3 s1)∧K (AM.mk (enF 12 [s1]) [Fttay sl s1 a] ⟨O,N,G⟩)))∧((decide (a<z1))=false→(K (AM.mk (enF 25 [sl]) [Fttan sl] ⟨O,N,G⟩))))=OT 5 R 0 K (.ex fun z1:Int=>(.seq [.run 5,.hopn (.int .i64 z1) O (N),.run 2] (.fork 17 (.ex fun i1:Nat=>(.ex fun i2:Nat=>(.ex fun i3:Nat=>(.ex fun s1:AV=>(.seq [.run 9,.hopn (.ptr i1 i2 i3) O (N),.hop (s1) O,.keep [3,4,23],.run 1] .fin))))) (.seq [.run 5,.keep [3,68],.run 1] .fin)))) ((Wtta sl a [] O N G)):=by kernel_rfl
theorem t_ttay_a_:((((crq0 != (0:Int)))=true→(∃ (i1:Nat) (i2:Nat) (i3:Nat) (s1:AV),(iX 33 sl a i1 i2 i3)∧(lR O N G i1 i2 i3 s1)∧K (AM.mk (enF 16 [s1]) [Fttay_a_y sl s1 a] ⟨O,N,G⟩)))∧(((crq0 != (0:Int)))=false→(K (Wttb sl a 0 [] O N G))))=OT 5 R 0 K (.seq [.run 3] (.fork 25 (.ex fun i1:Nat=>(.ex fun i2:Nat=>(.ex fun i3:Nat=>(.ex fun s1:AV=>(.seq [.run 6,.hopn (.ptr i1 i2 i3) O (N),.hop (s1) O,.keep [3,4,29],.run 1] .fin))))) (.seq [.run 8,.keep [3,4,5]] .fin))) ((AM.mk (RF 12 14 (tX tZ (tY (.int .i64 crq0))) td) ((Fttay sl s1c a)::[]) ⟨O,N,G⟩)):=by kernel_rfl
theorem t_ttay_a_y_a_:((((!lrq1==([]:List UInt8)))=true→((R (.bool false) (⟨O,N,G⟩))))∧(((!lrq1==([]:List UInt8)))=false→(K (Wtta sl (IntKind.i64.wrap (a+(1:Int))) [] O N G))))=OT 5 R 0 K (.seq [.run 3] (.fork 31 (.seq [.run 6,.done] .fin) (.seq [.run 9,.keep [3,4]] .fin))) ((AM.mk (RF 16 8 (tX tZ (tY (.str lrq1))) td) ((Fttay_a_y sl s1c a)::[]) ⟨O,N,G⟩)):=by kernel_rfl
theorem t_ttan_a_:((((crq0 != (0:Int)))=true→(∃ (b1:Bool),(qg P (⟨O,N,G⟩) (BinOp.eql) (23) (true) (prq0) (.nilp)=(some (.bool b1)))∧(R (.bool b1) (⟨O,N,G⟩))))∧(((crq0 != (0:Int)))=false→(K (AM.mk (enF 27 [sl,prq0]) [Fttan_a_n sl prq0] ⟨O,N,G⟩))))=OT 5 R 0 K (.seq [.run 13] (.fork 73 (.ex fun b1:Bool=>(.seq [.run 4,.hop (.bool b1) O,.run 3,.done] .fin)) (.seq [.run 6,.keep [6,77,78],.run 1] .fin))) ((AM.mk (RF 25 56 (tX (tX (tY (.int .i64 crq0)) tZ) (tY prq0)) td) ((Fttan sl)::[]) ⟨O,N,G⟩)):=by kernel_rfl
theorem t_ttan_a_n_a_:(K (AM.mk (enF 12 [prq0]) [Fttan_a_n_a_ prq0 crq1 prq1] ⟨O,N,G⟩))=OT 5 R 0 K (.seq [.run 10,.keep [8,9,82],.run 1] .fin) ((AM.mk (RF 27 20 (tX (tX tZ (tY (.int .i64 crq1))) (tX (tY prq1) tZ)) td) ((Fttan_a_n sl prq0)::[]) ⟨O,N,G⟩)):=by kernel_rfl
theorem t_ttan_a_n_a__a_:((((crq2==(0:Int)))=true→((((crq1 != (0:Int)))=true→((R (.bool true) (⟨O,N,G⟩))))∧(((crq1 != (0:Int)))=false→(K (AM.mk (enF 12 [prq1]) [Fttan_a_n_a__a_yn prq1] ⟨O,N,G⟩)))))∧(((crq2==(0:Int)))=false→((R (.bool false) (⟨O,N,G⟩)))))=OT 5 R 0 K (.seq [.run 3] (.fork 85 (.seq [.run 3] (.fork 88 (.seq [.run 13,.done] .fin) (.seq [.run 1,.keep [8,85,88,89],.run 1] .fin))) (.seq [.run 16,.done] .fin))) ((AM.mk (RF 12 14 (tX tZ (tY (.int .i64 crq2))) td) ((Fttan_a_n_a_ prq0 crq1 prq1)::[]) ⟨O,N,G⟩)):=by kernel_rfl
theorem t_ttan_a_n_a__a_yn_a_:((((crq3==(0:Int)))=true→(K (AM.mk (enF 14 [prq1]) [Fttan_a_n_a__a_yn_a_y prq1] ⟨O,N,G⟩)))∧(((crq3==(0:Int)))=false→((R (.bool false) (⟨O,N,G⟩)))))=OT 5 R 0 K (.seq [.run 3] (.fork 92 (.seq [.run 1,.keep [85,88,92,93],.run 1] .fin) (.seq [.run 9,.done] .fin))) ((AM.mk (RF 12 14 (tX tZ (tY (.int .i64 crq3))) td) ((Fttan_a_n_a__a_yn prq1)::[]) ⟨O,N,G⟩)):=by kernel_rfl
theorem t_ttan_a_n_a__a_yn_a_y_a_:((R (.bool (decide (crq4≤(60:Int)))) (⟨O,N,G⟩)))=OT 5 R 0 K (.seq [.run 8,.done] .fin) ((AM.mk (RF 14 12 (tX tZ (tY (.int .i64 crq4))) td) ((Fttan_a_n_a__a_yn_a_y prq1)::[]) ⟨O,N,G⟩)):=by kernel_rfl
theorem t_ttb:(∃ (z1:Int),(lN O N G 33 sl z1)∧((decide (b<z1))=true→(∃ (i1:Nat) (i2:Nat) (i3:Nat) (s1:AV),(iX 33 sl b i1 i2 i3)∧(lR O N G i1 i2 i3 s1)∧K (AM.mk (enF 12 [s1]) [Fttby sl i1 i2 i3 s1 z1 a b] ⟨O,N,G⟩)))∧((decide (b<z1))=false→(K (Wtta sl (IntKind.i64.wrap (a+(1:Int))) [] O N G))))=OT 5 R 0 K (.ex fun z1:Int=>(.seq [.run 5,.hopn (.int .i64 z1) O (N),.run 2] (.fork 35 (.ex fun i1:Nat=>(.ex fun i2:Nat=>(.ex fun i3:Nat=>(.ex fun s1:AV=>(.seq [.run 8,.hopn (.ptr i1 i2 i3) O (N),.hop (s1) O,.run 1] .fin))))) (.seq [.run 9,.keep [3,4]] .fin)))) ((Wttb sl a b [] O N G)):=by kernel_rfl
theorem t_ttby_a_:((((crq0==(0:Int)))=true→(∃ (i1:Nat) (i2:Nat) (i3:Nat) (s1:AV) (i4:Nat) (i5:Nat) (i6:Nat) (s2:AV) (i7:Nat) (i8:Nat) (i9:Nat) (s3:AV) (i10:Nat) (i11:Nat) (i12:Nat) (s4:AV),(iX 33 sl a i1 i2 i3)∧(lR O N G i1 i2 i3 s1)∧(iX 33 sl b i4 i5 i6)∧(lR O N G i4 i5 i6 s2)∧(iX 33 sl a i7 i8 i9)∧(lR O N G i7 i8 i9 s3)∧(iX 33 sl b i10 i11 i12)∧(lR O N G i10 i11 i12 s4)∧K (AM.mk (enF 16 [s1]) [Fttby_a_y sl crq0 i1 i2 i3 i4 i5 i6 i7 i8 i9 i10 i11 i12 s1 s2 s3 s4 z1c s1c i1c i2c i3c a b] ⟨O,N,G⟩)))∧(((crq0==(0:Int)))=false→(K (Wttb sl a (IntKind.i64.wrap (b+(1:Int))) [] O N G))))=OT 5 R 0 K (.seq [.run 3] (.fork 44 (.ex fun i1:Nat=>(.ex fun i2:Nat=>(.ex fun i3:Nat=>(.ex fun s1:AV=>(.ex fun i4:Nat=>(.ex fun i5:Nat=>(.ex fun i6:Nat=>(.ex fun s2:AV=>(.ex fun i7:Nat=>(.ex fun i8:Nat=>(.ex fun i9:Nat=>(.ex fun s3:AV=>(.ex fun i10:Nat=>(.ex fun i11:Nat=>(.ex fun i12:Nat=>(.ex fun s4:AV=>(.seq [.run 2,.hopn (.ptr i1 i2 i3) O (N),.hop (s1) O,.run 2,.hopn (.ptr i4 i5 i6) O (N),.hop (s2) O,.run 2,.hopn (.ptr i7 i8 i9) O (N),.hop (s3) O,.run 2,.hopn (.ptr i10 i11 i12) O (N),.hop (s4) O,.run 1] .fin))))))))))))))))) (.seq [.run 32,.keep [3,4,5]] .fin))) ((AM.mk (RF 12 14 (tX tZ (tY (.int .i64 crq0))) td) ((Fttby sl i1c i2c i3c s1c z1c a b)::[]) ⟨O,N,G⟩)):=by kernel_rfl
theorem t_ttby_a_y_a_:((True)∧(lR O N G i10c i11c i12c s4c)∧(okD 300 s4c=true)∧(lR O N G i7c i8c i9c s3c)∧(okD 300 s3c=true)∧(lR O N G i4c i5c i6c s2c)∧(okD 300 s2c=true)∧K (AM.mk (enF 16 [s2c]) [Fttby_a_y_a_ sl crq0 lrq1 z1c s1c s2c i1c i2c i3c i4c i5c i6c a b i1cc i10c i11c i12c i2cc i3cc i7c i8c i9c s1cc s3c s4c] ⟨O,N,G⟩))=OT 5 R 0 K (.seq [.hret [.nilp],.run 1] .fin) ((AM.mk (RF 16 8 (tX tZ (tY (.str lrq1))) td) ((Fttby_a_y sl crq0 i1cc i2cc i3cc i4c i5c i6c i7c i8c i9c i10c i11c i12c s1cc s2c s3c s4c z1c s1c i1c i2c i3c a b)::[]) ⟨O,N,G⟩)):=by kernel_rfl
theorem t_ttby_a_y_a__a_:((True)∧(lR O N G i10c i11c i12c s4c)∧(okD 300 s4c=true)∧(lR O N G i7c i8c i9c s3c)∧(okD 300 s3c=true)∧K (AM.mk (enF 18 [s3c,s4c]) [Fttby_a_y_a__a_ sl crq0 lrq1 lrq2 z1c s1c s2c i1c i2c i3c i4c i5c i6c a b i1cc i10c i11c i12c i2cc i3cc i7c i8c i9c s1cc s3c s4c] ⟨O,N,G⟩))=OT 5 R 0 K (.seq [.hret [.nilp],.run 2] .fin) ((AM.mk (RF 16 8 (tX tZ (tY (.str lrq2))) td) ((Fttby_a_y_a_ sl crq0 lrq1 z1c s1c s2c i1c i2c i3c i4c i5c i6c a b i1cc i10c i11c i12c i2cc i3cc i7c i8c i9c s1cc s3c s4c)::[]) ⟨O,N,G⟩)):=by kernel_rfl
theorem t_ttby_a_y_a__a__a_:((some (AV.bool (lrq1==lrq2))=some (AV.bool (lrq1==lrq2)))∧(((!(lrq1==lrq2)==blq3))=true→((R (.bool false) (⟨O,N,G⟩))))∧(((!(lrq1==lrq2)==blq3))=false→(K (Wttb sl a (IntKind.i64.wrap (b+(1:Int))) [] O N G))))=OT 5 R 0 K (.seq [.step,.run 3] (.fork 66 (.seq [.run 6,.done] .fin) (.seq [.run 9,.keep [3,4,5]] .fin))) ((AM.mk (RF 18 18 (tX tZ (tX (tY (.bool blq3)) tZ)) td) ((Fttby_a_y_a__a_ sl crq0 lrq1 lrq2 z1c s1c s2c i1c i2c i3c i4c i5c i6c a b i1cc i10c i11c i12c i2cc i3cc i7c i8c i9c s1cc s3c s4c)::[]) ⟨O,N,G⟩)):=by kernel_rfl
end
theorem works20 {G:T (T AV)}:Goal P 0 20 (fun x _=>x=AV.bool true) (zoz P 20 [] G):=Goal.ofRun mix (n:=100000) (by kernel_rfl) fun _=>rfl
theorem txt_bad {t:Ty}(h:chk t≠0):zol t=[]:=if_neg h
/-- The texts are the same just if the types are. -/
theorem txt_same {t u:Ty}{b:Bool}(ht:chk t=0)(hu:chk u=0)(nt:NM t)(nu:NM u)(h:b=true ↔ cnt t≤60∧cnt u≤60∧t=u):(zol t==zol u)=b:=by
  have e1:zol t=wr t:=if_pos ht
  have e2:zol u=wr u:=if_pos hu
  obtain ⟨o1,c1⟩:=tp.chk_ok ht
  obtain ⟨o2,c2⟩:=tp.chk_ok hu
  refine Bool.eq_iff_iff.2 ?_
  rw [h,e1,e2,beq_iff_eq]
  exact ⟨fun e=>⟨c1,c2,znE o1 o2 (nt o1) (nu o2) e⟩,fun e=>by rw [e.2.2]⟩
theorem texts_goal {O:T AObj}{N:Nat}{xs:List UInt8}{sa:AV}(hx:SVe O N xs sa):Goal P 0 5 (fun v _=>v=.bool true) (AM.mk (enF 5 [sa]) [] ⟨O,N,.leaf⟩):=by
  obtain ⟨us,hu5,hnm,ls⟩:=zo8 xs
  refine ot t_ttx ⟨works20,?_⟩
  refine ls hx (Nat.le_refl _) fun O1 N1 td1 ps s ex1 sv0 hl tr=>?_
  refine ot t_ttx_a_ ?_
  have sv:SV O1 1 pE 0 N1 ps s:=sv0.keep (fun _ _ _=>rfl) (Nat.zero_le _) (Nat.le_refl _)
  have svx:∀ {O2:T AObj} {N2:Nat},Ext O1 N1 O2 N2→SV O2 1 pE 0 N1 ps s:=fun ex=>sv.keep (fun j _ hj=>ex.2 j hj) (Nat.le_refl _) (Nat.le_refl _)
  have trx:∀ {O2:T AObj} {N2:Nat},Ext O1 N1 O2 N2→∀ (j:Nat) (x:Ty) (p:Option Nat),us[j]?=some x→ps[j]?=some p→Tr O2 N1 x p:=fun ex j x p a b=>(tr j x p a b).ext ex (Nat.le_refl _)
  have last:∀ (O2:T AObj) (N2:Nat),Ext O1 N1 O2 N2→Goal P 0 5 (fun v _=>v=.bool true) (AM.mk (enF 25 [s]) [Fttan s] ⟨O2,N2,.leaf⟩):=by
    intro O2 N2 ex2
    refine zmK (svx ex2) hl (by omega) (trx ex2) hnm ex2.1 fun O3 N3 td3 p3 ex3 t3=>?_
    have ex13:=ex2.trans ex3
    refine ot t_ttan_a_ ⟨fun h=>?_,fun h=>?_⟩
    ·have h':(wi us).1≠0:=by simpa using h
     rw [zmH h'] at t3
     cases t3
     exact ⟨true,by kernel_rfl,rfl⟩
    ·have h':(wi us).1=0:=by simpa using h
     have hu:=znd h'
     refine zmc (hi:=N3) ((svx ex13).keep (fun _ _ _=>rfl) (Nat.le_refl _) ex13.1) hl (by omega) (fun j x p a b=>(trx ex13 j x p a b).same (fun _ _=>rfl) ex13.1) t3 (Nat.le_refl _) fun O4 N4 td4 p4 ex4 t4=>?_
     refine ot t_ttan_a_n_a_ ?_
     refine gx.chk_ok (t3.ext ex4 (Nat.le_refl _)) ex4.1 fun O5 N5 td5 ex5=>?_
     rw [hu]
     refine ot t_ttan_a_n_a__a_ ⟨fun _=>⟨fun _=>rfl,fun g=>?_⟩,fun g=>absurd g (by decide)⟩
     have g':(zdj us (wi us).2).1=0:=by simpa using g
     obtain ⟨f1,f2⟩:=zmL g'
     refine gx.chk_ok (t4.ext ex5 (Nat.le_refl _)) ex5.1 fun O6 N6 td6 ex6=>?_
     rw [f1]
     refine ot t_ttan_a_n_a__a_yn_a_ ⟨fun _=>?_,fun g=>absurd g (by decide)⟩
     have ex46:=ex5.trans ex6
     refine zbv (t4.ext ex46 (Nat.le_refl _)) ex46.1 fun O7 N7 td7 ex7=>?_
     refine ot t_ttan_a_n_a__a_yn_a_y_a_ ?_
     show AV.bool _=AV.bool true
     rw [decide_eq_true (by rw [Nat.min_eq_left (by omega)]; omega)]
  have inner:∀ (i:Nat) (x:Ty) (p:Option Nat),us[i]?=some x→ps[i]?=some p→chk x=0→(∀ (O3:T AObj) (N3:Nat),Ext O1 N1 O3 N3→Goal P 0 5 (fun v _=>v=.bool true) (Wtta s ((i+1:Nat):Int) [] O3 N3 .leaf))→∀ (c k:Nat) (O2:T AObj) (N2:Nat),k+c=us.length→Ext O1 N1 O2 N2→Goal P 0 5 (fun v _=>v=.bool true) (Wttb s ((i:Nat):Int) ((k:Nat):Int) [] O2 N2 .leaf):=by
    intro i x p hxi hpi hcx nxt c
    have hi':i<us.length:=(List.getElem?_eq_some_iff.1 hxi).1
    induction c with
    | zero =>
      intro k O2 N2 hk ex2
      refine ot t_ttb ⟨_,(svx ex2).len pSl _ _,fkf (decide_eq_false (by omega)) ?_⟩
      have:=nxt O2 N2 ex2
      rw [← zq (i:=i) (by omega)] at this
      exact this
    | succ c ih =>
      intro k O2 N2 hk ex2
      obtain ⟨y,hy,hym⟩:=nth (l:=us) (j:=k) (by omega)
      obtain ⟨q,hq,_⟩:=nth (l:=ps) (j:=k) (by omega)
      have w1:IntKind.i64.wrap (((k:Nat):Int)+(1:Int))=((k+1:Nat):Int):=zq (by omega)
      obtain ⟨b1,b2,b3,_,_,eB,rB,_⟩:=(svx ex2).at pSl pEn hq
      refine ot t_ttb ⟨_,(svx ex2).len pSl _ _,fkt (decide_eq_true (by omega)) ⟨b1,b2,b3,pv q,eB,rB.load rfl _ _,?_⟩⟩
      refine gx.chk_ok (trx ex2 k y q hy hq) ex2.1 fun O3 N3 td3 ex3=>?_
      have e3:=ex2.trans ex3
      refine ot t_ttby_a_ ⟨fun h=>?_,fun h=>?_⟩
      ·have hcy:chk y=0:=by simpa using h
       obtain ⟨a1,a2,a3,_,al,eA,rA,_⟩:=(svx e3).at pSl pEn hpi
       obtain ⟨d1,d2,d3,_,dl,eD,rD,_⟩:=(svx e3).at pSl pEn hq
       refine ⟨a1,a2,a3,pv p,d1,d2,d3,pv q,a1,a2,a3,pv p,d1,d2,d3,pv q,eA,rA.load rfl _ _,eD,rD.load rfl _ _,eA,rA.load rfl _ _,eD,rD.load rfl _ _,?_⟩
       refine zaT (trx e3 i x p hxi hpi) e3.1 fun O4 N4 td4 ex4=>?_
       have e4:=e3.trans ex4
       have n3:=e3.1
       have rA4:=rA.same (ex4.2 a1 (by omega))
       have rD4:=rD.same (ex4.2 d1 (by omega))
       refine ot t_ttby_a_y_a_ ⟨trivial,rD4.load rfl _ _,wq _,rA4.load rfl _ _,wq _,rD4.load rfl _ _,wq _,?_⟩
       refine zaT (trx e4 k y q hy hq) e4.1 fun O5 N5 td5 ex5=>?_
       have e5:=e4.trans ex5
       have n4:=e4.1
       have rA5:=rA4.same (ex5.2 a1 (by omega))
       have rD5:=rD4.same (ex5.2 d1 (by omega))
       refine ot t_ttby_a_y_a__a_ ⟨trivial,rD5.load rfl _ _,wq _,rA5.load rfl _ _,wq _,?_⟩
       refine zk2 (trx e5 i x p hxi hpi) (trx e5 k y q hy hq) e5.1 fun O6 N6 td6 b6 hb6 ex6=>?_
       have e6:=e5.trans ex6
       have eq:=txt_same hcx hcy (hnm x (List.mem_of_getElem? hxi)) (hnm y hym) hb6
       refine ot t_ttby_a_y_a__a__a_ ⟨rfl,fun g=>?_,fun g=>?_⟩
       ·rw [eq] at g
        cases b6 <;> cases g
       ·rw [w1]
        exact ih (k+1) O6 N6 (by omega) e6
      ·rw [w1]
       exact ih (k+1) O3 N3 (by omega) e3
  have outer:∀ (c i:Nat) (O2:T AObj) (N2:Nat),i+c=us.length→Ext O1 N1 O2 N2→Goal P 0 5 (fun v _=>v=.bool true) (Wtta s ((i:Nat):Int) [] O2 N2 .leaf):=by
    intro c
    induction c with
    | zero =>
      intro i O2 N2 hi' ex2
      exact ot t_tta ⟨_,(svx ex2).len pSl _ _,fkf (decide_eq_false (by omega)) (last O2 N2 ex2)⟩
    | succ c ih =>
      intro i O2 N2 hi' ex2
      obtain ⟨x,hxi,hxm⟩:=nth (l:=us) (j:=i) (by omega)
      obtain ⟨p,hpi,_⟩:=nth (l:=ps) (j:=i) (by omega)
      have w1:IntKind.i64.wrap (((i:Nat):Int)+(1:Int))=((i+1:Nat):Int):=zq (by omega)
      obtain ⟨b1,b2,b3,_,_,eB,rB,_⟩:=(svx ex2).at pSl pEn hpi
      refine ot t_tta ⟨_,(svx ex2).len pSl _ _,fkt (decide_eq_true (by omega)) ⟨b1,b2,b3,pv p,eB,rB.load rfl _ _,?_⟩⟩
      refine gx.chk_ok (trx ex2 i x p hxi hpi) ex2.1 fun O3 N3 td3 ex3=>?_
      have e3:=ex2.trans ex3
      refine ot t_ttay_a_ ⟨fun h=>?_,fun h=>?_⟩
      ·have hcx:chk x≠0:=by simpa using h
       obtain ⟨a1,a2,a3,_,_,eA,rA,_⟩:=(svx e3).at pSl pEn hpi
       refine ⟨a1,a2,a3,pv p,eA,rA.load rfl _ _,?_⟩
       refine zaT (trx e3 i x p hxi hpi) e3.1 fun O4 N4 td4 ex4=>?_
       rw [txt_bad hcx]
       refine ot t_ttay_a_y_a_ ⟨fun g=>absurd g (by decide),fun _=>?_⟩
       rw [w1]
       exact ih (i+1) O4 N4 (by omega) (e3.trans ex4)
      ·have hcx:chk x=0:=by simpa using h
       exact inner i x p hxi hpi hcx (fun O4 N4 e4=>ih (i+1) O4 N4 (by omega) e4) us.length 0 O3 N3 (Nat.zero_add _) e3
  exact outer us.length 0 O1 N1 (Nat.zero_add _) Ext.refl
end Go.Proofs.Ytcdigdplhlgcaaa.gx
namespace Go.Proofs.Ytcdigdplhlgcaaa.tyTexts
open Go Go.ChangeShapes Go.WideShapes Go.ChangeAt Go.RowKit Go.ChangeMaps
open Ev gx
theorem own:ownKnob Try.prog.godebug=none:=by kernel_rfl
/-! ### The row's step -/
theorem lifted (os:Os)(started:os.Started)(H:Type)(enc:TypeId × Value→H) :
    ReturnsInHanded {} Try.checked os 5 .any (Rows.tyTextsSpec.pre6 enc Try.prog Try.f5 Rows.tyTextsRow.domain false) (Rows.tyTextsSpec.post enc Try.prog Try.f5 false true false false):=by
  refine returnsInHanded_of_change (C:=Try.checked) own started (by kernel_rfl) Try.func5
    (ChangeSpec.witness6 (enc:=enc) (C:=Try.checked) false ⟨#[],#[.slice none 0 0],[]⟩ 8 (by kernel_rfl) (by kernel_rfl) (by kernel_rfl) (by kernel_rfl)) ?_
  intro W base args ds gs before hval0 hW hcnd _
  have hval:∀ (j:Nat) t v,Try.f5.params[j]?=some t→args[j]?=some v→Value.okWide Try.prog W .any base t v:=hval0
  have hW':=hW
  obtain ⟨p,q,hA0,hV,rfl,hfz,hnd⟩:=hW
  have hA:DataW.TrodAll enc Try.prog W 0 (fun _=>true) true Try.f5.params.toList args.toList ds p:=hA0
  rw [Try.params5] at hA hval
  obtain ⟨v0,vs0,d0,ds0,p0,q0,hargs,rfl,rfl,h0,r0⟩:=trodAll_cons hA
  obtain ⟨rfl,rfl,rfl⟩:=trodAll_nil r0
  obtain rfl:args=#[v0]:=by cases args; simp_all
  obtain ⟨rfl,rfl⟩:=trodVars_none hV
  obtain ⟨x0,s0,xs0,hi0,hv0⟩:=zms (Ev.in_ints Try.underlying22 Try.underlying5 (by kernel_rfl) (hval 0 22 v0 rfl rfl) h0)
  let l:List Inp:=[x0]
  have hG:zmU .leaf W:=fun g c e=>by cases e
  have run:Calls Try.prog 5 #[v0] W fun r w'=>r=.returned (.bool true)∧Old W w' :=
    zlC (f:=5) (args:=[s0 0]) (a:=enF 5 [s0 0]) (l:=l) (G:=.leaf) (vs:=[v0]) (by kernel_rfl) hG
      (fun x hx=>by
        simp only [l,List.mem_cons,List.not_mem_nil,or_false] at hx
        rcases hx with rfl <;> assumption)
      ⟨_,_,rfl,(hv0 l 0 .leaf rfl).1,rfl⟩
      (texts_goal (hv0 l 0 .leaf rfl).2)
  refine run.mono fun e W' ⟨he,hg⟩=>?_
  subst he
  exact ⟨_,rfl,Ev.post_law (by kernel_rfl) (by kernel_rfl) rfl Try.underlying4 rfl hW' rfl hg⟩
theorem held:Rows.tyTextsRow.holds Try.pinned (OpenSpec.ofChange Rows.tyTextsSpec) :=
  OpenClaim.holds_of_wide 5 Try.f5 rfl rfl rfl rfl rfl rfl rfl ⟨rfl,rfl,rfl,rfl,rfl⟩ rfl rfl rfl rfl rfl (by kernel_rfl) Try.func5 (by kernel_rfl)
    (of_decide_eq_true (by kernel_rfl)) (by unfold Func.isWrapper; first | (rw [if_pos (by decide +kernel)]; kernel_rfl) | (rw [if_neg (by decide +kernel)]; exact ⟨rfl,rfl⟩))
    (fun os started H enc _=>lifted os started H enc)
/-- The statement. -/
theorem proved:Rows.TyTextsSaid :=
  held
#print axioms proved
end Go.Proofs.Ytcdigdplhlgcaaa.tyTexts
