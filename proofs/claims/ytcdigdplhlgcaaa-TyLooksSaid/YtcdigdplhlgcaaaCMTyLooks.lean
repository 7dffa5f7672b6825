/- The statement TyLooks: whatever bytes come in as choices,the call returns true and zl2 all that was there as it was: of two types that are made of these choices,Check,Size,Text and znB answer as the document has it. No condition: it is shown of all arguments. -/
import Derived.Test.YtcdigdplhlgcaaaRows
import Derived.WalkKit
import Derived.ProofKit
import Derived.OpenShut
import Derived.ChangeMaps5
import Derived.Deep.Slices
import Derived.Deep.Strs
import Derived.Laws.IdiomStrings
import Derived.Laws.Externs
import Derived.Lib.Bytealg
import Derived.Lib.MakeNoZero
import Derived.Lib.UnsafeStr
import Derived.Laws.World
import Derived.Below
import Derived.Test.YtcdigdplhlgcaaaChecked
import GoSem.Dispatch
import GoSem.Step
import Derived.Laws.Sem
import Derived.Calls
import Derived.Carry
import Derived.ChangeSlices
import Derived.SliceStrings
import Derived.Laws.Strings
import Derived.Orders
import Derived.Test.YtcdigdplhlgcaaaC00
import Derived.Test.YtcdigdplhlgcaaaC01
import Derived.Test.YtcdigdplhlgcaaaC02
import Derived.Test.YtcdigdplhlgcaaaC03
import Derived.Test.YtcdigdplhlgcaaaC04
import Derived.Test.YtcdigdplhlgcaaaC05
import Derived.Test.YtcdigdplhlgcaaaC06
import Derived.Test.YtcdigdplhlgcaaaC07
import Derived.Test.YtcdigdplhlgcaaaC08
set_option maxRecDepth 100000
set_option linter.unusedVariables false
namespace Go.Proofs.Ytcdigdplhlgcaaa.gx
open Go Ev tp
section
variable (sn sa prq0 prq1:AV) (crq2 crq4:Int) (lrq6:List UInt8) (blq8:Bool) (prq10:AV) (blq11:Bool)
noncomputable def Ftlk:AFrame:=⟨3,52,(tW (tW (tX (tY sa) tZ) sn tZ) sa tZ),   [.ops (rg P 3 [1,0]).toList ((rg P 3 [1,0]).toList.drop 1),.code (cd P 3 [1,1])],[],.run,CallKind.normal,none⟩
noncomputable def Ftlk_a_:AFrame:=⟨3,52,(tW (tX tZ (tX (tY sn) tZ)) sa (tX (tX (tY prq0) tZ) tZ)),   [.ops (rg P (3:FuncId) [1,0]).toList ((rg P (3:FuncId) [1,0]).toList.drop 3),.code (cd P (3:FuncId) [1,1])],[],.run,CallKind.normal,none⟩
noncomputable def Ftlk_a__a_:AFrame:=⟨3,52,(tW (tX (tX tZ (tY prq0)) (tY prq0)) sa (tX tZ (tY prq1))),   [.ops (rg P 3 [1,1,0]).toList ((rg P 3 [1,1,0]).toList.drop 1),.code (cd P 11 [1,1,1])],[],.run,CallKind.normal,none⟩
noncomputable def Ftlk_a__a__a_:AFrame:=⟨3,52,(tW (tX tZ (tW tZ prq0 (tY prq0))) sa (tX (tX tZ (tY (.int .i64 crq2))) (tY prq1))),   [.ops (rg P (3:FuncId) [1,1,0]).toList ((rg P (3:FuncId) [1,1,0]).toList.drop 3),.code (cd P (11:FuncId) [1,1,1])],[],.run,CallKind.normal,none⟩
noncomputable def Ftlk_a__a__a__a_y:AFrame:=⟨3,52,(tW (tX tZ (tW (tX (tY prq0) tZ) prq0 tZ)) sa (tX (tX (tX (tY (.bool true)) tZ) tZ) (tY prq1))),   [.ops (rg P (3:FuncId) [1,1,0]).toList ((rg P (3:FuncId) [1,1,0]).toList.drop 7),.code (cd P (11:FuncId) [1,1,1])],[],.run,CallKind.normal,none⟩
noncomputable def Ftlk_a__a__a__a_y_a_:AFrame:=⟨3,52,(tW (tX (tX tZ (tX (tY prq0) tZ)) (tY prq0)) sa (tX (tX (tX (tY (.bool true)) tZ) tZ) (tW (tX (tY (.int .i64 crq4)) tZ) prq1 tZ))),   [.ops (rg P (3:FuncId) [1,1,0]).toList ((rg P (3:FuncId) [1,1,0]).toList.drop 9),.code (cd P (11:FuncId) [1,1,1])],[],.run,CallKind.normal,none⟩
noncomputable def Ftlk_a__a__a__a_y_a__a_y:AFrame:=⟨3,52,(tW (tX (tX (tX tZ (tY (.bool true))) tZ) (tY prq0)) sa (tX (tX (tX tZ (tY prq0)) tZ) (tY prq1))),   [.ops (rg P (3:FuncId) [1,1,0]).toList ((rg P (3:FuncId) [1,1,0]).toList.drop 14),.code (cd P (11:FuncId) [1,1,1])],[],.run,CallKind.normal,none⟩
noncomputable def Ftlk_a__a__a__a_y_a__a_y_a_:AFrame:=⟨3,52,(tW (tX (tX (tX tZ (tY (.bool true))) tZ) (tW (tX tZ (tY (.str lrq6))) prq0 tZ)) sa (tX tZ (tW (tX tZ (tY prq0)) prq1 tZ))),   [.ops (rg P (3:FuncId) [1,1,0]).toList ((rg P (3:FuncId) [1,1,0]).toList.drop 16),.code (cd P (11:FuncId) [1,1,1])],[],.run,CallKind.normal,none⟩
noncomputable def Ftlk_a__a__a__a_y_a__a_y_a__a_y:AFrame:=⟨3,52,(tW (tX (tX (tX (tX (tY prq0) tZ) tZ) tZ) (tY prq0)) sa (tX (tX (tX (tX (tY prq1) tZ) tZ) tZ) (tW tZ prq1 (tX tZ (tY (.bool true)))))),   [.ops (rg P (3:FuncId) [1,1,0]).toList ((rg P (3:FuncId) [1,1,0]).toList.drop 22),.code (cd P (11:FuncId) [1,1,1])],[],.run,CallKind.normal,none⟩
noncomputable def Ftlk_a__a__a__a_y_a__a_y_a__a_y_a_:AFrame:=⟨3,52,(tW (tX (tX tZ (tX (tX (tY prq1) tZ) tZ)) (tW (tX (tX (tY (.bool blq8)) tZ) tZ) prq0 tZ)) sa (tX tZ (tX (tX (tX (tY prq0) tZ) tZ) (tX tZ (tY (.bool true)))))),   [.ops (rg P (3:FuncId) [1,1,0]).toList ((rg P (3:FuncId) [1,1,0]).toList.drop 25),.code (cd P (11:FuncId) [1,1,1])],[],.run,CallKind.normal,none⟩
noncomputable def Ftlk_a__a__a__a_y_a__a_y_a__a_y_a__a_y:AFrame:=⟨3,52,(tX (tX (tX (tX tZ (tX (tY (.bool true)) tZ)) tZ) (tW (tX tZ (tX (tY sa) tZ)) prq0 tZ)) (tX (tX (tX tZ (tX (tY prq0) tZ)) tZ) tZ)),   [.ops (rg P (3:FuncId) [1,1,0]).toList ((rg P (3:FuncId) [1,1,0]).toList.drop 31),.code (cd P (11:FuncId) [1,1,1])],[],.run,CallKind.normal,none⟩
noncomputable def Ftlk_a__a__a__a_y_a__a_y_a__a_y_a__a_y_a_:AFrame:=⟨3,52,(tX (tX (tX (tX tZ (tX (tY (.bool true)) tZ)) tZ) (tY prq0)) (tX (tX (tX tZ (tX (tY prq0) tZ)) tZ) (tX (tX tZ (tX (tY prq10) tZ)) tZ))),   [.ops (rg P (3:FuncId) [1,1,0]).toList ((rg P (3:FuncId) [1,1,0]).toList.drop 32),.code (cd P (11:FuncId) [1,1,1])],[],.run,CallKind.normal,none⟩
noncomputable def Ftlk_a__a__a__a_y_a__a_y_a__a_y_a__a_y_a__a_:AFrame:=⟨3,52,(tX (tX (tX (tX tZ (tX (tY (.bool true)) tZ)) (tX tZ (tX (tY (.bool blq11)) tZ))) (tX tZ (tX tZ (tX (tY prq0) tZ)))) (tX (tX tZ (tX tZ (tX (tY prq0) tZ))) tZ)),   [.ops (rg P (3:FuncId) [1,1,0]).toList ((rg P (3:FuncId) [1,1,0]).toList.drop 35),.code (cd P (11:FuncId) [1,1,1])],[],.run,CallKind.normal,none⟩
end
section
variable {R:AV→AHeap→Prop} {O:T AObj} {N:Nat} {sn sa prq0 prq1 prq10:AV} {G:T (T AV)} {K:AM→Prop} {td:List AItem} {crq2 crq3 crq4 crq5:Int} {lrq6 lrq7:List UInt8} {blq8 blq9 blq11 blq12:Bool}
theorem t_tlk:(K (AM.mk (enF 11 [sa]) [Ftlk sn sa] ⟨O,N,G⟩))=OT 3 R 0 K (.seq [.run 7,.keep [0,1,7],.run 1] .fin) ((AM.mk (enF 3 [sa,sn]) [] ⟨O,N,G⟩)):=by kernel_rfl
theorem t_tlk_a_:(K (AM.mk (enF 11 [sn]) [Ftlk_a_ sn sa prq0] ⟨O,N,G⟩))=OT 3 R 0 K (.seq [.run 2,.keep [0,8,9],.run 1] .fin) ((AM.mk (RF 11 13 (tX tZ (tY prq0)) td) ((Ftlk sn sa)::[]) ⟨O,N,G⟩)):=by kernel_rfl
theorem t_tlk_a__a_:(K (AM.mk (enF 12 [prq0]) [Ftlk_a__a_ sa prq0 prq1] ⟨O,N,G⟩))=OT 3 R 0 K (.seq [.run 7,.keep [0,5,6,11],.run 1] .fin) ((AM.mk (RF 11 13 (tX tZ (tY prq1)) td) ((Ftlk_a_ sn sa prq0)::[]) ⟨O,N,G⟩)):=by kernel_rfl
theorem t_tlk_a__a__a_:(K (AM.mk (enF 13 [prq0]) [Ftlk_a__a__a_ sa prq0 prq1 crq2] ⟨O,N,G⟩))=OT 3 R 0 K (.seq [.run 2,.keep [0,5,6,12,13],.run 1] .fin) ((AM.mk (RF 12 14 (tX tZ (tY (.int .i64 crq2))) td) ((Ftlk_a__a_ sa prq0 prq1)::[]) ⟨O,N,G⟩)):=by kernel_rfl
theorem t_tlk_a__a__a__a_:((((crq2==crq3))=true→(K (AM.mk (enF 14 [prq0]) [Ftlk_a__a__a__a_y sa prq0 prq1] ⟨O,N,G⟩)))∧(((crq2==crq3))=false→((R (.bool false) (⟨O,N,G⟩)))))=OT 3 R 0 K (.seq [.run 3] (.fork 16 (.seq [.run 1,.keep [0,5,6,16,17],.run 1] .fin) (.seq [.run 38,.done] .fin))) ((AM.mk (RF 13 11 (tX tZ (tY (.int .i64 crq3))) td) ((Ftlk_a__a__a_ sa prq0 prq1 crq2)::[]) ⟨O,N,G⟩)):=by kernel_rfl
theorem t_tlk_a__a__a__a_y_a_:(K (AM.mk (enF 15 [prq0]) [Ftlk_a__a__a__a_y_a_ sa prq0 prq1 crq4] ⟨O,N,G⟩))=OT 3 R 0 K (.seq [.run 2,.keep [0,5,6,16,18,19],.run 1] .fin) ((AM.mk (RF 14 12 (tX tZ (tY (.int .i64 crq4))) td) ((Ftlk_a__a__a__a_y sa prq0 prq1)::[]) ⟨O,N,G⟩)):=by kernel_rfl
theorem t_tlk_a__a__a__a_y_a__a_:((((crq4==crq5))=true→(K (AM.mk (enF 16 [prq0]) [Ftlk_a__a__a__a_y_a__a_y sa prq0 prq1] ⟨O,N,G⟩)))∧(((crq4==crq5))=false→((R (.bool false) (⟨O,N,G⟩)))))=OT 3 R 0 K (.seq [.run 4] (.fork 23 (.seq [.run 1,.keep [0,5,6,23,24],.run 1] .fin) (.seq [.run 31,.done] .fin))) ((AM.mk (RF 15 5 (tX tZ (tY (.int .i64 crq5))) td) ((Ftlk_a__a__a__a_y_a_ sa prq0 prq1 crq4)::[]) ⟨O,N,G⟩)):=by kernel_rfl
theorem t_tlk_a__a__a__a_y_a__a_y_a_:(K (AM.mk (enF 17 [prq0]) [Ftlk_a__a__a__a_y_a__a_y_a_ sa prq0 prq1 lrq6] ⟨O,N,G⟩))=OT 3 R 0 K (.seq [.run 2,.keep [0,5,6,23,25,26],.run 1] .fin) ((AM.mk (RF 16 8 (tX tZ (tY (.str lrq6))) td) ((Ftlk_a__a__a__a_y_a__a_y sa prq0 prq1)::[]) ⟨O,N,G⟩)):=by kernel_rfl
theorem t_tlk_a__a__a__a_y_a__a_y_a__a_:((((lrq6==lrq7))=true→(K (AM.mk (enF 18 [prq0,prq1]) [Ftlk_a__a__a__a_y_a__a_y_a__a_y sa prq0 prq1] ⟨O,N,G⟩)))∧(((lrq6==lrq7))=false→((R (.bool false) (⟨O,N,G⟩)))))=OT 3 R 0 K (.seq [.run 4] (.fork 30 (.seq [.run 2,.keep [0,5,6,30,31,32],.run 1] .fin) (.seq [.run 24,.done] .fin))) ((AM.mk (RF 17 8 (tX tZ (tY (.str lrq7))) td) ((Ftlk_a__a__a__a_y_a__a_y_a_ sa prq0 prq1 lrq6)::[]) ⟨O,N,G⟩)):=by kernel_rfl
theorem t_tlk_a__a__a__a_y_a__a_y_a__a_y_a_:(K (AM.mk (enF 19 [prq0,prq1]) [Ftlk_a__a__a__a_y_a__a_y_a__a_y_a_ sa prq0 prq1 blq8] ⟨O,N,G⟩))=OT 3 R 0 K (.seq [.run 3,.keep [0,5,30,33,34,35],.run 1] .fin) ((AM.mk (RF 18 18 (tX tZ (tX (tY (.bool blq8)) tZ)) td) ((Ftlk_a__a__a__a_y_a__a_y_a__a_y sa prq0 prq1)::[]) ⟨O,N,G⟩)):=by kernel_rfl
theorem t_tlk_a__a__a__a_y_a__a_y_a__a_y_a__a_:((((blq8==blq9))=true→(K (AM.mk (enF 11 [sa]) [Ftlk_a__a__a__a_y_a__a_y_a__a_y_a__a_y sa prq0] ⟨O,N,G⟩)))∧(((blq8==blq9))=false→((R (.bool false) (⟨O,N,G⟩)))))=OT 3 R 0 K (.seq [.run 4] (.fork 39 (.seq [.run 2,.keep [5,39,40,41],.run 1] .fin) (.seq [.run 15,.done] .fin))) ((AM.mk (RF 19 30 (tX tZ (tX (tY (.bool blq9)) tZ)) td) ((Ftlk_a__a__a__a_y_a__a_y_a__a_y_a_ sa prq0 prq1 blq8)::[]) ⟨O,N,G⟩)):=by kernel_rfl
theorem t_tlk_a__a__a__a_y_a__a_y_a__a_y_a__a_y_a_:(K (AM.mk (enF 18 [prq0,prq10]) [Ftlk_a__a__a__a_y_a__a_y_a__a_y_a__a_y_a_ prq0 prq10] ⟨O,N,G⟩))=OT 3 R 0 K (.seq [.run 1,.keep [5,39,40,42],.run 1] .fin) ((AM.mk (RF 11 13 (tX tZ (tY prq10)) td) ((Ftlk_a__a__a__a_y_a__a_y_a__a_y_a__a_y sa prq0)::[]) ⟨O,N,G⟩)):=by kernel_rfl
theorem t_tlk_a__a__a__a_y_a__a_y_a__a_y_a__a_y_a__a_:(K (AM.mk (enF 19 [prq0,prq0]) [Ftlk_a__a__a__a_y_a__a_y_a__a_y_a__a_y_a__a_ prq0 blq11] ⟨O,N,G⟩))=OT 3 R 0 K (.seq [.run 3,.keep [39,43,44,45],.run 1] .fin) ((AM.mk (RF 18 18 (tX tZ (tX (tY (.bool blq11)) tZ)) td) ((Ftlk_a__a__a__a_y_a__a_y_a__a_y_a__a_y_a_ prq0 prq10)::[]) ⟨O,N,G⟩)):=by kernel_rfl
theorem t_tlk_a__a__a__a_y_a__a_y_a__a_y_a__a_y_a__a__a_:((((blq11==blq12))=true→((Goal P (0) 20 (fun x x_1=>x=AV.bool true) (zmw P 20 [] G))∧(R (.bool true) (⟨O,N,G⟩))))∧(((blq11==blq12))=false→((R (.bool false) (⟨O,N,G⟩)))))=OT 3 R 0 K (.seq [.run 4] (.fork 49 (.seq [.run 1,.callv [] (.bool true),.run 4,.done] .fin) (.seq [.run 5,.done] .fin))) ((AM.mk (RF 19 30 (tX tZ (tX (tY (.bool blq12)) tZ)) td) ((Ftlk_a__a__a__a_y_a__a_y_a__a_y_a__a_y_a__a_ prq0 blq11)::[]) ⟨O,N,G⟩)):=by kernel_rfl
end
theorem works20 {G:T (T AV)}:Goal P 0 20 (fun x _=>x=AV.bool true) (zmw P 20 [] G):=Goal.ofRun mix (n:=100000) (by kernel_rfl) fun _=>rfl
theorem looks_goal {O:T AObj}{N:Nat}{xs ys:List UInt8}{sa sn:AV}(hx:SVe O N xs sa)(hy:SVe O N ys sn):Goal P 0 3 (fun v _=>v=.bool true) (AM.mk (enF 3 [sa,sn]) [] ⟨O,N,.leaf⟩):=by
  obtain ⟨t,typx⟩:=zlS xs
  obtain ⟨u,typy⟩:=zlS ys
  refine ot t_tlk ?_
  refine typx hx (Nat.le_refl _) fun O1 N1 td1 p ex1 tx1=>?_
  refine ot t_tlk_a_ ?_
  refine typy (hy.keep fun j hj=>ex1.2 j hj) ex1.1 fun O2 N2 td2 p2 ex2 tu=>?_
  have tx:Tr O2 N2 t p:=(tx1.ext ex2 (Nat.le_refl _)).same (fun _ _=>rfl) ex2.1
  have e2:=ex1.trans ex2
  refine ot t_tlk_a__a_ ?_
  refine gx.chk_ok tx (Nat.le_refl _) fun O3 N3 td3 ex3=>?_
  refine ot t_tlk_a__a__a_ ?_
  refine zcw (tx.ext ex3 (Nat.le_refl _)) ex3.1 fun O4 N4 td4 ex4=>?_
  have c4:=ex3.trans ex4
  refine ot t_tlk_a__a__a__a_ (fkt ((by simp)) ?_)
  refine zcF (tx.ext c4 (Nat.le_refl _)) c4.1 fun O5 N5 td5 ex5=>?_
  have c5:=c4.trans ex5
  refine ot t_tlk_a__a__a__a_y_a_ ?_
  refine vB (tx.ext c5 (Nat.le_refl _)) fun td5b=>?_
  refine ot t_tlk_a__a__a__a_y_a__a_ (fkt ((by simp)) ?_)
  refine zig (tx.ext c5 (Nat.le_refl _)) c5.1 fun O10 N10 td6 ex6=>?_
  have c10:=c5.trans ex6
  refine ot t_tlk_a__a__a__a_y_a__a_y_a_ ?_
  refine zj2 (tx.ext c10 (Nat.le_refl _)) c10.1 fun O6 N6 td7 ex8=>?_
  have c6:=c10.trans ex8
  refine ot t_tlk_a__a__a__a_y_a__a_y_a__a_ (fkt ((by simp)) ?_)
  refine zeo (tx.ext c6 (Nat.le_refl _)) (tu.ext c6 (Nat.le_refl _)) c6.1 fun O7 N7 td8 b8 h8 ex7=>?_
  have c7:=c6.trans ex7
  refine ot t_tlk_a__a__a__a_y_a__a_y_a__a_y_a_ ?_
  refine zdo (tx.ext c7 (Nat.le_refl _)) (tu.ext c7 (Nat.le_refl _)) fun td10 b9 h9=>?_
  refine ot t_tlk_a__a__a__a_y_a__a_y_a__a_y_a__a_ (fkt ((by rw [biff h8 h9]; simp)) ?_)
  have e7:=e2.trans c7
  refine typx (hx.keep fun j hj=>e7.2 j hj) e7.1 fun O9 N9 td9 p3 ex9 tx9=>?_
  have c9:=c7.trans ex9
  refine ot t_tlk_a__a__a__a_y_a__a_y_a__a_y_a__a_y_a_ ?_
  have e9:=e7.trans ex9
  refine zeo (hi:=N9) ((tx.ext c9 (Nat.le_refl _)).same (fun _ _=>rfl) c9.1) tx9 (Nat.le_refl _) fun O8 N8 td11 b11 h11 ex10=>?_
  have c8:=c9.trans ex10
  refine ot t_tlk_a__a__a__a_y_a__a_y_a__a_y_a__a_y_a__a_ ?_
  refine zdo (tx.ext c8 (Nat.le_refl _)) (tx.ext c8 (Nat.le_refl _)) fun td12 b12 h12=>?_
  refine ot t_tlk_a__a__a__a_y_a__a_y_a__a_y_a__a_y_a__a__a_ (fkt ((by rw [biff h11 h12]; simp)) ?_)
  exact ⟨works20,rfl⟩
end Go.Proofs.Ytcdigdplhlgcaaa.gx
namespace Go.Proofs.Ytcdigdplhlgcaaa.tyLooks
open Go Go.ChangeShapes Go.WideShapes Go.ChangeAt Go.RowKit Go.ChangeMaps
open Ev gx
theorem own:ownKnob Try.prog.godebug=none:=by kernel_rfl
/-! ### The row's step -/
theorem lifted (os:Os)(started:os.Started)(H:Type)(enc:TypeId × Value→H) :
    ReturnsInHanded {} Try.checked os 3 .any (Rows.tyLooksSpec.pre6 enc Try.prog Try.f3 Rows.tyLooksRow.domain false) (Rows.tyLooksSpec.post enc Try.prog Try.f3 false true false false):=by
  refine returnsInHanded_of_change (C:=Try.checked) own started (by kernel_rfl) Try.func3
    (ChangeSpec.witness6 (enc:=enc) (C:=Try.checked) false ⟨#[],#[.slice none 0 0,.slice none 0 0],[]⟩ 8 (by kernel_rfl) (by kernel_rfl) (by kernel_rfl) (by kernel_rfl)) ?_
  intro W base args ds gs before hval0 hW hcnd _
  have hval:∀ (j:Nat) t v,Try.f3.params[j]?=some t→args[j]?=some v→Value.okWide Try.prog W .any base t v:=hval0
  have hW':=hW
  obtain ⟨p,q,hA0,hV,rfl,hfz,hnd⟩:=hW
  have hA:DataW.TrodAll enc Try.prog W 0 (fun _=>true) true Try.f3.params.toList args.toList ds p:=hA0
  rw [Try.params3] at hA hval
  obtain ⟨v0,vs0,d0,ds0,p0,q0,hargs,rfl,rfl,h0,r0⟩:=trodAll_cons hA
  obtain ⟨v1,vs1,d1,ds1,p1,q1,rfl,rfl,rfl,h1,r1⟩:=trodAll_cons r0
  obtain ⟨rfl,rfl,rfl⟩:=trodAll_nil r1
  obtain rfl:args=#[v0,v1]:=by cases args; simp_all
  obtain ⟨rfl,rfl⟩:=trodVars_none hV
  obtain ⟨x0,s0,xs0,hi0,hv0⟩:=zgl (Ev.in_ints Try.underlying22 Try.underlying5 (by kernel_rfl) (hval 0 22 v0 rfl rfl) h0)
  obtain ⟨x1,s1,xs1,hi1,hv1⟩:=zgl (Ev.in_ints Try.underlying22 Try.underlying5 (by kernel_rfl) (hval 1 22 v1 rfl rfl) h1)
  let l:List Inp:=[x0,x1]
  have hG:zlf .leaf W:=fun g c e=>by cases e
  have run:Calls Try.prog 3 #[v0,v1] W fun r w'=>r=.returned (.bool true)∧Old W w' :=
    zj1 (f:=3) (args:=[s0 0,s1 1]) (a:=enF 3 [s0 0,s1 1]) (l:=l) (G:=.leaf) (vs:=[v0,v1]) (by kernel_rfl) hG
      (fun x hx=>by
        simp only [l,List.mem_cons,List.not_mem_nil,or_false] at hx
        rcases hx with rfl | rfl <;> assumption)
      ⟨_,_,rfl,(hv0 l 0 .leaf rfl).1,⟨_,_,rfl,(hv1 l 1 .leaf rfl).1,rfl⟩⟩
      (looks_goal (hv0 l 0 .leaf rfl).2 (hv1 l 1 .leaf rfl).2)
  refine run.mono fun e W' ⟨he,hg⟩=>?_
  subst he
  exact ⟨_,rfl,Ev.post_law (by kernel_rfl) (by kernel_rfl) rfl Try.underlying4 rfl hW' rfl hg⟩
theorem held:Rows.tyLooksRow.holds Try.pinned (OpenSpec.ofChange Rows.tyLooksSpec) :=
  OpenClaim.holds_of_wide 3 Try.f3 rfl rfl rfl rfl rfl rfl rfl ⟨rfl,rfl,rfl,rfl,rfl⟩ rfl rfl rfl rfl rfl (by kernel_rfl) Try.func3 (by kernel_rfl)
    (of_decide_eq_true (by kernel_rfl)) (by unfold Func.isWrapper; first | (rw [if_pos (by decide +kernel)]; kernel_rfl) | (rw [if_neg (by decide +kernel)]; exact ⟨rfl,rfl⟩))
    (fun os started H enc _=>lifted os started H enc)
/-- The statement. -/
theorem proved:Rows.TyLooksSaid :=
  held
#print axioms proved
end Go.Proofs.Ytcdigdplhlgcaaa.tyLooks
