/- The statement SubThrough: whatever bytes come in as choices,the call returns true and zm1 all that was there as it was: of three types without any that are made of these choices,if the first may be handed in for the second and that for the third,then the first may for the third. No condition: it is shown of all arguments. -/
import Derived.Test.YtcdigdplhlgcaaaRows
import Derived.WalkKit
import Derived.ProofKit
import Derived.OpenShut
import Derived.ChangeMaps5
import Derived.Deep.Slices
import Derived.Deep.Strs
import Derived.Laws.IdiomStrings
import Derived.Laws.Externs
import Derived.Lib.Bytealg
import Derived.Lib.MakeNoZero
import Derived.Lib.UnsafeStr
import Derived.Laws.World
import Derived.Below
import Derived.Test.YtcdigdplhlgcaaaChecked
import GoSem.Dispatch
import GoSem.Step
import Derived.Laws.Sem
import Derived.Calls
import Derived.Carry
import Derived.ChangeSlices
import Derived.SliceStrings
import Derived.Laws.Strings
import Derived.Orders
import Derived.Test.YtcdigdplhlgcaaaA00
import Derived.Test.YtcdigdplhlgcaaaA01
import Derived.Test.YtcdigdplhlgcaaaA02
import Derived.Test.YtcdigdplhlgcaaaA03
import Derived.Test.YtcdigdplhlgcaaaA04
import Derived.Test.YtcdigdplhlgcaaaA05
import Derived.Test.YtcdigdplhlgcaaaA06
import Derived.Test.YtcdigdplhlgcaaaA07
import Derived.Test.YtcdigdplhlgcaaaA08
set_option maxRecDepth 100000
set_option linter.unusedVariables false
namespace Go.Proofs.Ytcdigdplhlgcaaa.gx
open Go Ev tp
section
variable (sn sa sn2 prq0 prq1 prq2 prq3 prq4 prq5:AV) (blq6 blq7 blq8 blq9 blq10:Bool)
noncomputable def Fsth:AFrame:=⟨10,92,(tX (tY sn) (tW tZ sn2 (tX tZ (tX (tY sa) tZ)))),   [.ops (rg P 10 [1,0]).toList ((rg P 10 [1,0]).toList.drop 1),.code (cd P 10 [1,1])],[],.run,CallKind.normal,none⟩
noncomputable def Fsth_a_:AFrame:=⟨10,92,(tX (tW (tX (tX tZ (tY prq0)) tZ) sn tZ) (tY sn2)),   [.ops (rg P (10:FuncId) [1,0]).toList ((rg P (10:FuncId) [1,0]).toList.drop 2),.code (cd P (10:FuncId) [1,1])],[],.run,CallKind.normal,none⟩
noncomputable def Fsth_a__a_:AFrame:=⟨10,92,(tX (tX (tX (tY prq1) tZ) (tX (tX tZ (tY sn)) tZ)) (tY sn2)),   [.ops (rg P 10 [1,1,0]).toList ((rg P 10 [1,1,0]).toList.drop 1),.code (cd P 10 [1,1,1])],[],.run,CallKind.normal,none⟩
noncomputable def Fsth_a__a__a_:AFrame:=⟨10,92,(tX (tX (tX (tY prq1) (tX tZ (tY prq1))) tZ) (tW tZ sn2 (tX (tX tZ (tY prq2)) tZ))),   [.ops (rg P (10:FuncId) [1,1,0]).toList ((rg P (10:FuncId) [1,1,0]).toList.drop 3),.code (cd P (10:FuncId) [1,1,1])],[],.run,CallKind.normal,none⟩
noncomputable def Fsth_a__a__a__a_:AFrame:=⟨10,92,(tX (tX (tX (tY prq1) tZ) (tX tZ (tX tZ (tY sn2)))) (tX (tX tZ (tX tZ (tY prq3))) tZ)),   [.ops (rg P (10:FuncId) [1,1,0]).toList ((rg P (10:FuncId) [1,1,0]).toList.drop 5),.code (cd P (10:FuncId) [1,1,1])],[],.run,CallKind.normal,none⟩
noncomputable def Fsth_a__a__a__a__a_:AFrame:=⟨10,92,(tX (tX (tX (tW (tX (tY prq1) tZ) prq1 tZ) tZ) tZ) (tX (tX tZ (tX tZ (tY prq3))) (tX tZ (tX tZ (tY prq4))))),   [.ops (rg P (10:FuncId) [1,1,0]).toList ((rg P (10:FuncId) [1,1,0]).toList.drop 7),.code (cd P (10:FuncId) [1,1,1])],[],.run,CallKind.normal,none⟩
noncomputable def Fsth_a__a__a__a__a__a_:AFrame:=⟨10,92,(tX (tX (tX (tY prq1) (tX (tX (tY prq1) tZ) tZ)) (tX (tY prq5) tZ)) (tX (tX (tY prq3) tZ) (tX (tX (tX (tY prq3) tZ) tZ) tZ))),   [.ops (rg P 10 [1,1,1,0]).toList ((rg P 10 [1,1,1,0]).toList.drop 2),.code (cd P 10 [1,1,1,1])],[],.run,CallKind.normal,none⟩
noncomputable def Fsth_a__a__a__a__a__a__a_:AFrame:=⟨10,92,(tX (tX (tX (tY prq1) tZ) (tX (tW tZ prq5 (tX (tY prq5) tZ)) tZ)) (tX (tX (tW tZ prq3 (tX (tY prq1) tZ)) tZ) (tX (tY (.bool blq6)) tZ))),   [.ops (rg P 10 [1,1,1,1,0]).toList ((rg P 10 [1,1,1,1,0]).toList.drop 2),.code (cd P 10 [1,1,1,1,1])],[],.run,CallKind.normal,none⟩
noncomputable def Fsth_a__a__a__a__a__a__a__a_:AFrame:=⟨10,92,(tX (tX (tX (tW (tX tZ (tY prq5)) prq1 tZ) tZ) (tX (tY prq5) tZ)) (tX (tX (tY prq3) (tY (.bool blq7))) (tX (tY (.bool blq6)) (tX tZ (tX (tY prq3) tZ))))),   [.ops (rg P 10 [1,1,1,1,1,0]).toList ((rg P 10 [1,1,1,1,1,0]).toList.drop 2),.code (cd P 10 [1,1,1,1,1,1])],[],.run,CallKind.normal,none⟩
noncomputable def Fsth_a__a__a__a__a__a__a__a__a_:AFrame:=⟨10,92,(tX (tX (tX (tY prq1) tZ) (tX (tY prq5) (tX (tX tZ (tY prq1)) tZ))) (tX (tX (tY prq3) (tW (tX tZ (tY prq5)) (.bool blq7) tZ)) (tX (tY (.bool blq6)) (tY (.bool blq8))))),   [.ops (rg P 10 [1,1,1,1,1,1,0]).toList ((rg P 10 [1,1,1,1,1,1,0]).toList.drop 2),.code (cd P 10 [1,1,1,1,1,1,1])],[],.run,CallKind.normal,none⟩
noncomputable def Fsth_a__a__a__a__a__a__a__a__a__a_:AFrame:=⟨10,92,(tX (tX (tX tZ (tX tZ (tX tZ (tY prq3)))) (tX (tY prq5) tZ)) (tX (tX (tW (tY (.bool blq9)) prq3 tZ) (tY (.bool blq7))) (tX (tW tZ (.bool blq6) (tX tZ (tY prq1))) (tY (.bool blq8))))),   [.ops (rg P 10 [1,1,1,1,1,1,1,0]).toList ((rg P 10 [1,1,1,1,1,1,1,0]).toList.drop 2),.code (cd P 10 [1,1,1,1,1,1,1,1])],[],.run,CallKind.normal,none⟩
noncomputable def Fsth_a__a__a__a__a__a__a__a__a__a__a_:AFrame:=⟨10,92,(tX (tX tZ (tX (tX (tX (tX (tY prq3) tZ) tZ) tZ) tZ)) (tX (tX (tX (tW (tX (tY prq5) tZ) (.bool blq9) tZ) tZ) (tY (.bool blq7))) (tX (tW (tY (.bool blq10)) (.bool blq6) tZ) (tY (.bool blq8))))),   [.ops (rg P 10 [1,1,1,1,1,1,1,1,0]).toList ((rg P 10 [1,1,1,1,1,1,1,1,0]).toList.drop 2),.code (cd P 10 [1,1,1,1,1,1,1,1,1])],[],.run,CallKind.normal,none⟩
end
section
variable {R:AV→AHeap→Prop} {O:T AObj} {N:Nat} {sn sa sn2 prq0 prq1 prq2 prq3 prq4 prq5:AV} {G:T (T AV)} {K:AM→Prop} {td:List AItem} {blq6 blq7 blq8 blq9 blq10 blq11:Bool} {mmq6 mmq7 mmq8 mmq9 mmq10 mmq11:Int}
theorem t_sth:(K (AM.mk (enF 38 [sa,.bool false]) [Fsth sn sa sn2] ⟨O,N,G⟩))=OT 10 R 0 K (.seq [.run 7,.keep [1,2,22],.run 1] .fin) ((AM.mk (enF 10 [sa,sn,sn2]) [] ⟨O,N,G⟩)):=by kernel_rfl
theorem t_sth_a_:(K (AM.mk (enF 39 [prq0,.int .i64 3]) [Fsth_a_ sn sn2 prq0] ⟨O,N,G⟩))=OT 10 R 0 K (.seq [.run 1,.keep [1,2,23],.run 1] .fin) ((AM.mk (RF 38 13 (tX tZ (tX (tY prq0) tZ)) td) ((Fsth sn sa sn2)::[]) ⟨O,N,G⟩)):=by kernel_rfl
theorem t_sth_a__a_:(K (AM.mk (enF 38 [sn,.bool false]) [Fsth_a__a_ sn sn2 prq1] ⟨O,N,G⟩))=OT 10 R 0 K (.seq [.run 6,.keep [2,7,25],.run 1] .fin) ((AM.mk (RF 39 78 (tX tZ (tX (tY prq1) tZ)) td) ((Fsth_a_ sn sn2 prq0)::[]) ⟨O,N,G⟩)):=by kernel_rfl
theorem t_sth_a__a__a_:(K (AM.mk (enF 40 [prq2,prq1,.int .i64 3]) [Fsth_a__a__a_ sn2 prq1 prq2] ⟨O,N,G⟩))=OT 10 R 0 K (.seq [.run 2,.keep [2,7,26,27],.run 1] .fin) ((AM.mk (RF 38 13 (tX tZ (tX (tY prq2) tZ)) td) ((Fsth_a__a_ sn sn2 prq1)::[]) ⟨O,N,G⟩)):=by kernel_rfl
theorem t_sth_a__a__a__a_:(K (AM.mk (enF 38 [sn2,.bool false]) [Fsth_a__a__a__a_ sn2 prq1 prq3] ⟨O,N,G⟩))=OT 10 R 0 K (.seq [.run 2,.keep [7,28,29],.run 1] .fin) ((AM.mk (RF 40 133 (tX tZ (tX tZ (tY prq3))) td) ((Fsth_a__a__a_ sn2 prq1 prq2)::[]) ⟨O,N,G⟩)):=by kernel_rfl
theorem t_sth_a__a__a__a__a_:(K (AM.mk (enF 40 [prq4,prq1,.int .i64 3]) [Fsth_a__a__a__a__a_ prq1 prq3 prq4] ⟨O,N,G⟩))=OT 10 R 0 K (.seq [.run 2,.keep [7,28,30,31],.run 1] .fin) ((AM.mk (RF 38 13 (tX tZ (tX (tY prq4) tZ)) td) ((Fsth_a__a__a__a_ sn2 prq1 prq3)::[]) ⟨O,N,G⟩)):=by kernel_rfl
theorem t_sth_a__a__a__a__a__a_:(K (AM.mk (enF 30 [prq3,prq1]) [Fsth_a__a__a__a__a__a_ prq1 prq3 prq5] ⟨O,N,G⟩))=OT 10 R 0 K (.seq [.run 8,.keep [7,8,9,34,35],.run 1] .fin) ((AM.mk (RF 40 133 (tX tZ (tX tZ (tY prq5))) td) ((Fsth_a__a__a__a__a_ prq1 prq3 prq4)::[]) ⟨O,N,G⟩)):=by kernel_rfl
theorem t_sth_a__a__a__a__a__a__a_:(K (AM.mk (enF 30 [prq1,prq5]) [Fsth_a__a__a__a__a__a__a_ prq1 prq3 prq5 blq6] ⟨O,N,G⟩))=OT 10 R 0 K (.seq [.run 11,.keep [7,8,9,10,40,41],.run 1] .fin) ((AM.mk (RF 30 22 (tX (tX tZ (tY (.int .u64 mmq6))) (tX (tY (.bool blq6)) tZ)) td) ((Fsth_a__a__a__a__a__a_ prq1 prq3 prq5)::[]) ⟨O,N,G⟩)):=by kernel_rfl
theorem t_sth_a__a__a__a__a__a__a__a_:(K (AM.mk (enF 30 [prq3,prq5]) [Fsth_a__a__a__a__a__a__a__a_ prq1 prq3 prq5 blq6 blq7] ⟨O,N,G⟩))=OT 10 R 0 K (.seq [.run 11,.keep [7,8,9,10,12,46,47],.run 1] .fin) ((AM.mk (RF 30 22 (tX (tX tZ (tY (.int .u64 mmq7))) (tX (tY (.bool blq7)) tZ)) td) ((Fsth_a__a__a__a__a__a__a_ prq1 prq3 prq5 blq6)::[]) ⟨O,N,G⟩)):=by kernel_rfl
theorem t_sth_a__a__a__a__a__a__a__a__a_:(K (AM.mk (enF 30 [prq5,prq1]) [Fsth_a__a__a__a__a__a__a__a__a_ prq1 prq3 prq5 blq6 blq7 blq8] ⟨O,N,G⟩))=OT 10 R 0 K (.seq [.run 11,.keep [7,8,9,10,12,14,52,53],.run 1] .fin) ((AM.mk (RF 30 22 (tX (tX tZ (tY (.int .u64 mmq8))) (tX (tY (.bool blq8)) tZ)) td) ((Fsth_a__a__a__a__a__a__a__a_ prq1 prq3 prq5 blq6 blq7)::[]) ⟨O,N,G⟩)):=by kernel_rfl
theorem t_sth_a__a__a__a__a__a__a__a__a__a_:(K (AM.mk (enF 30 [prq1,prq3]) [Fsth_a__a__a__a__a__a__a__a__a__a_ prq1 prq3 prq5 blq6 blq7 blq8 blq9] ⟨O,N,G⟩))=OT 10 R 0 K (.seq [.run 11,.keep [8,9,10,12,14,16,58,59],.run 1] .fin) ((AM.mk (RF 30 22 (tX (tX tZ (tY (.int .u64 mmq9))) (tX (tY (.bool blq9)) tZ)) td) ((Fsth_a__a__a__a__a__a__a__a__a_ prq1 prq3 prq5 blq6 blq7 blq8)::[]) ⟨O,N,G⟩)):=by kernel_rfl
theorem t_sth_a__a__a__a__a__a__a__a__a__a__a_:(K (AM.mk (enF 30 [prq5,prq3]) [Fsth_a__a__a__a__a__a__a__a__a__a__a_ prq3 prq5 blq6 blq7 blq8 blq9 blq10] ⟨O,N,G⟩))=OT 10 R 0 K (.seq [.run 11,.keep [10,12,14,16,18,64,65],.run 1] .fin) ((AM.mk (RF 30 22 (tX (tX tZ (tY (.int .u64 mmq10))) (tX (tY (.bool blq10)) tZ)) td) ((Fsth_a__a__a__a__a__a__a__a__a__a_ prq1 prq3 prq5 blq6 blq7 blq8 blq9)::[]) ⟨O,N,G⟩)):=by kernel_rfl
theorem t_sth_a__a__a__a__a__a__a__a__a__a__a__a_:((((!blq6))=true→((((!blq9))=true→((Goal P (0) 34 (fun x x_1=>x=AV.bool true) (vD P 34 [] G))∧(R (.bool true) (⟨O,N,G⟩))))∧(((!blq9))=false→((((!blq10))=true→((Goal P (0) 34 (fun x x_1=>x=AV.bool true) (vD P 34 [] G))∧(R (.bool true) (⟨O,N,G⟩))))∧(((!blq10))=false→(((blq11)=true→((Goal P (0) 34 (fun x x_1=>x=AV.bool true) (vD P 34 [] G))∧(R (.bool true) (⟨O,N,G⟩))))∧((blq11)=false→((R (.bool false) (⟨O,N,G⟩))))))))))∧(((!blq6))=false→((((!blq7))=true→((((!blq9))=true→((Goal P (0) 34 (fun x x_1=>x=AV.bool true) (vD P 34 [] G))∧(R (.bool true) (⟨O,N,G⟩))))∧(((!blq9))=false→((((!blq10))=true→((Goal P (0) 34 (fun x x_1=>x=AV.bool true) (vD P 34 [] G))∧(R (.bool true) (⟨O,N,G⟩))))∧(((!blq10))=false→(((blq11)=true→((Goal P (0) 34 (fun x x_1=>x=AV.bool true) (vD P 34 [] G))∧(R (.bool true) (⟨O,N,G⟩))))∧((blq11)=false→((R (.bool false) (⟨O,N,G⟩))))))))))∧(((!blq7))=false→(((blq8)=true→((((!blq9))=true→((Goal P (0) 34 (fun x x_1=>x=AV.bool true) (vD P 34 [] G))∧(R (.bool true) (⟨O,N,G⟩))))∧(((!blq9))=false→((((!blq10))=true→((Goal P (0) 34 (fun x x_1=>x=AV.bool true) (vD P 34 [] G))∧(R (.bool true) (⟨O,N,G⟩))))∧(((!blq10))=false→(((blq11)=true→((Goal P (0) 34 (fun x x_1=>x=AV.bool true) (vD P 34 [] G))∧(R (.bool true) (⟨O,N,G⟩))))∧((blq11)=false→((R (.bool false) (⟨O,N,G⟩))))))))))∧((blq8)=false→((R (.bool false) (⟨O,N,G⟩)))))))))=OT 10 R 0 K (.seq [.run 12] (.fork 71 (.seq [.run 10] (.fork 81 (.seq [.run 9,.callv [] (.bool true),.run 4,.done] .fin) (.seq [.run 4] (.fork 85 (.seq [.run 5,.callv [] (.bool true),.run 4,.done] .fin) (.seq [.run 4] (.fork 89 (.seq [.run 1,.callv [] (.bool true),.run 4,.done] .fin) (.seq [.run 5,.done] .fin))))))) (.seq [.run 4] (.fork 75 (.seq [.run 6] (.fork 81 (.seq [.run 9,.callv [] (.bool true),.run 4,.done] .fin) (.seq [.run 4] (.fork 85 (.seq [.run 5,.callv [] (.bool true),.run 4,.done] .fin) (.seq [.run 4] (.fork 89 (.seq [.run 1,.callv [] (.bool true),.run 4,.done] .fin) (.seq [.run 5,.done] .fin))))))) (.seq [.run 3] (.fork 78 (.seq [.run 3] (.fork 81 (.seq [.run 9,.callv [] (.bool true),.run 4,.done] .fin) (.seq [.run 4] (.fork 85 (.seq [.run 5,.callv [] (.bool true),.run 4,.done] .fin) (.seq [.run 4] (.fork 89 (.seq [.run 1,.callv [] (.bool true),.run 4,.done] .fin) (.seq [.run 5,.done] .fin))))))) (.seq [.run 16,.done] .fin))))))) ((AM.mk (RF 30 22 (tX (tX tZ (tY (.int .u64 mmq11))) (tX (tY (.bool blq11)) tZ)) td) ((Fsth_a__a__a__a__a__a__a__a__a__a__a_ prq3 prq5 blq6 blq7 blq8 blq9 blq10)::[]) ⟨O,N,G⟩)):=by kernel_rfl
end
theorem through_goal {O:T AObj}{N:Nat}{xs ys zs:List UInt8}{sa sn sn2:AV}(hx:SVe O N xs sa)(hy:SVe O N ys sn)(hz:SVe O N zs sn2):Goal P 0 10 (fun v _=>v=.bool true) (AM.mk (enF 10 [sa,sn,sn2]) [] ⟨O,N,.leaf⟩):=by
  refine ot t_sth ?_
  refine zgN hx (Nat.le_refl _) fun O1 td1 ex1 m1=>?_
  refine ot t_sth_a_ ?_
  have one:ONE N N false 3:=zf0 (Nat.le_refl _) 3 (by decide)
  refine one (A:=fun j=>j=N) m1 (Nat.lt_succ_self N) (fun j h=>by omega) rfl fun O2 N2 td2 ys2 n2 b pb hN2 hO2 m2 tb mb=>?_
  refine ot t_sth_a__a_ ?_
  have lo2:∀ j,j<N→O2.get j=O.get j:=fun j hj=>(hO2 j (by omega) (by omega)).trans (ex1.2 j hj)
  refine zgN (hy.keep fun j hj=>lo2 j hj) (show N≤N2 by omega) fun O3 td3 ex3 m3=>?_
  refine ot t_sth_a__a__a_ ?_
  have hmk3:N≤N2:=by omega
  have tb3:Tra O3 (N2+1) (fun j=>j=N2) b pb:=((Tra.of tb.tr (fun j h1 h2=>by omega)).same (fun j h1 h2=>ex3.2 j h1) (Nat.le_succ N2))
  have near:zmw N N2 false 3:=zlp hmk3 3 (by decide)
  refine near (A:=fun j=>j=N2) m3 (Nat.lt_succ_self N2) (fun j h=>by omega) rfl tb3 mb fun O4 N4 td4 ys4 n4 a pa hN4 hO4 m4 ta ma=>?_
  refine ot t_sth_a__a__a__a_ ?_
  have lo4:∀ j,j<N→O4.get j=O.get j:=fun j hj=>(hO4 j (by omega) (by omega)).trans ((ex3.2 j (by omega)).trans (lo2 j hj))
  have tb4:Tr O4 N4 b pb:=(tb3.same (O':=O4) (fun j h1 h2=>hO4 j h1 h2) hN4).tr
  refine zgN (hz.keep fun j hj=>lo4 j hj) (show N≤N4 by omega) fun O5 td5 ex5 m5=>?_
  refine ot t_sth_a__a__a__a__a_ ?_
  have hmk5:N≤N4:=by omega
  have tb5:Tra O5 (N4+1) (fun j=>j=N4) b pb:=((Tra.of tb4 (fun j h1 h2=>by omega)).same (fun j h1 h2=>ex5.2 j h1) (Nat.le_succ N4))
  have ta5:Tra O5 (N4+1) (fun j=>j=N4) a pa:=((Tra.of ta.tr (fun j h1 h2=>by omega)).same (fun j h1 h2=>ex5.2 j h1) (Nat.le_succ N4))
  have near2:zmw N N4 false 3:=zlp hmk5 3 (by decide)
  refine near2 (A:=fun j=>j=N4) m5 (Nat.lt_succ_self N4) (fun j h=>by omega) rfl tb5 mb fun O6 N6 td6 ys6 n6 c pc hN6 hO6 m6 tc mc=>?_
  refine ot t_sth_a__a__a__a__a__a_ ?_
  have ta6:Tr O6 N6 a pa:=(ta5.same (O':=O6) (fun j h1 h2=>hO6 j h1 h2) hN6).tr
  have tb6:Tr O6 N6 b pb:=(tb5.same (O':=O6) (fun j h1 h2=>hO6 j h1 h2) hN6).tr
  have tc6:Tr O6 N6 c pc:=tc.tr
  have na:naT a=true:=by obtain ⟨_,_,_,_,_,_,_,_,_,_,h⟩:=ma; exact h rfl
  have nb:naT b=true:=by obtain ⟨_,_,_,_,_,_,_,_,_,_,h⟩:=mb; exact h rfl
  have nc:naT c=true:=by obtain ⟨_,_,_,_,_,_,_,_,_,_,h⟩:=mc; exact h rfl
  have e6:Ext O6 N6 O6 N6:=Ext.refl
  refine zcB (ta6.ext e6 (Nat.le_refl _)) (tb6.ext e6 (Nat.le_refl _)) e6.1 fun O7 N7 td7 ex7=>?_
  have e7:=e6.trans ex7
  refine ot t_sth_a__a__a__a__a__a__a_ ?_
  refine zcB (tb6.ext e7 (Nat.le_refl _)) (tc6.ext e7 (Nat.le_refl _)) e7.1 fun O8 N8 td8 ex8=>?_
  have e8:=e7.trans ex8
  refine ot t_sth_a__a__a__a__a__a__a__a_ ?_
  refine zcB (ta6.ext e8 (Nat.le_refl _)) (tc6.ext e8 (Nat.le_refl _)) e8.1 fun O9 N9 td9 ex9=>?_
  have e9:=e8.trans ex9
  refine ot t_sth_a__a__a__a__a__a__a__a__a_ ?_
  refine zcB (tc6.ext e9 (Nat.le_refl _)) (tb6.ext e9 (Nat.le_refl _)) e9.1 fun O10 N10 td10 ex10=>?_
  have e10:=e9.trans ex10
  refine ot t_sth_a__a__a__a__a__a__a__a__a__a_ ?_
  refine zcB (tb6.ext e10 (Nat.le_refl _)) (ta6.ext e10 (Nat.le_refl _)) e10.1 fun O11 N11 td11 ex11=>?_
  have e11:=e10.trans ex11
  refine ot t_sth_a__a__a__a__a__a__a__a__a__a__a_ ?_
  refine zcB (tc6.ext e11 (Nat.le_refl _)) (ta6.ext e11 (Nat.le_refl _)) e11.1 fun O12 N12 td12 ex12=>?_
  have e12:=e11.trans ex12
  refine ot t_sth_a__a__a__a__a__a__a__a__a__a__a__a_ ⟨fun hc4=>?_,fun hc4=>?_⟩
  · -- true
    refine ⟨fun hc5=>?_,fun hc5=>?_⟩
    · -- true
      exact ⟨qN,rfl⟩
    · -- false
      refine ⟨fun hc6=>?_,fun hc6=>?_⟩
      · -- true
        exact ⟨qN,rfl⟩
      · -- false
        refine ⟨fun hc7=>?_,fun hc7=>?_⟩
        · -- true
          exact ⟨qN,rfl⟩
        · -- false
          have:=km nc nb na (by simpa using hc5) (by simpa using hc6)
          rw [show (zfA c a).1=false from hc7] at this
          cases this
  · -- false
    refine ⟨fun hc8=>?_,fun hc8=>?_⟩
    · -- true
      refine ⟨fun hc9=>?_,fun hc9=>?_⟩
      · -- true
        exact ⟨qN,rfl⟩
      · -- false
        refine ⟨fun hc10=>?_,fun hc10=>?_⟩
        · -- true
          exact ⟨qN,rfl⟩
        · -- false
          refine ⟨fun hc11=>?_,fun hc11=>?_⟩
          · -- true
            exact ⟨qN,rfl⟩
          · -- false
            have:=km nc nb na (by simpa using hc9) (by simpa using hc10)
            rw [show (zfA c a).1=false from hc11] at this
            cases this
    · -- false
      refine ⟨fun hc12=>?_,fun hc12=>?_⟩
      · -- true
        refine ⟨fun hc13=>?_,fun hc13=>?_⟩
        · -- true
          exact ⟨qN,rfl⟩
        · -- false
          refine ⟨fun hc14=>?_,fun hc14=>?_⟩
          · -- true
            exact ⟨qN,rfl⟩
          · -- false
            refine ⟨fun hc15=>?_,fun hc15=>?_⟩
            · -- true
              exact ⟨qN,rfl⟩
            · -- false
              have:=km nc nb na (by simpa using hc13) (by simpa using hc14)
              rw [show (zfA c a).1=false from hc15] at this
              cases this
      · -- false
        have:=km na nb nc (by simpa using hc4) (by simpa using hc8)
        rw [show (zfA a c).1=false from hc12] at this
        cases this
end Go.Proofs.Ytcdigdplhlgcaaa.gx
namespace Go.Proofs.Ytcdigdplhlgcaaa.subThrough
open Go Go.ChangeShapes Go.WideShapes Go.ChangeAt Go.RowKit Go.ChangeMaps
open Ev gx
theorem own:ownKnob Try.prog.godebug=none:=by kernel_rfl
/-! ### The row's step -/
theorem lifted (os:Os)(started:os.Started)(H:Type)(enc:TypeId × Value→H) :
    ReturnsInHanded {} Try.checked os 10 .any (Rows.subThroughSpec.pre6 enc Try.prog Try.f10 Rows.subThroughRow.domain false) (Rows.subThroughSpec.post enc Try.prog Try.f10 false true false false):=by
  refine returnsInHanded_of_change (C:=Try.checked) own started (by kernel_rfl) Try.func10
    (ChangeSpec.witness6 (enc:=enc) (C:=Try.checked) false ⟨#[],#[.slice none 0 0,.slice none 0 0,.slice none 0 0],[]⟩ 8 (by kernel_rfl) (by kernel_rfl) (by kernel_rfl) (by kernel_rfl)) ?_
  intro W base args ds gs before hval0 hW hcnd _
  have hval:∀ (j:Nat) t v,Try.f10.params[j]?=some t→args[j]?=some v→Value.okWide Try.prog W .any base t v:=hval0
  have hW':=hW
  obtain ⟨p,q,hA0,hV,rfl,hfz,hnd⟩:=hW
  have hA:DataW.TrodAll enc Try.prog W 0 (fun _=>true) true Try.f10.params.toList args.toList ds p:=hA0
  rw [Try.params10] at hA hval
  obtain ⟨v0,vs0,d0,ds0,p0,q0,hargs,rfl,rfl,h0,r0⟩:=trodAll_cons hA
  obtain ⟨v1,vs1,d1,ds1,p1,q1,rfl,rfl,rfl,h1,r1⟩:=trodAll_cons r0
  obtain ⟨v2,vs2,d2,ds2,p2,q2,rfl,rfl,rfl,h2,r2⟩:=trodAll_cons r1
  obtain ⟨rfl,rfl,rfl⟩:=trodAll_nil r2
  obtain rfl:args=#[v0,v1,v2]:=by cases args; simp_all
  obtain ⟨rfl,rfl⟩:=trodVars_none hV
  obtain ⟨x0,s0,xs0,hi0,hv0⟩:=zdd (Ev.in_ints Try.underlying22 Try.underlying5 (by kernel_rfl) (hval 0 22 v0 rfl rfl) h0)
  obtain ⟨x1,s1,xs1,hi1,hv1⟩:=zdd (Ev.in_ints Try.underlying22 Try.underlying5 (by kernel_rfl) (hval 1 22 v1 rfl rfl) h1)
  obtain ⟨x2,s2,xs2,hi2,hv2⟩:=zdd (Ev.in_ints Try.underlying22 Try.underlying5 (by kernel_rfl) (hval 2 22 v2 rfl rfl) h2)
  let l:List Inp:=[x0,x1,x2]
  have hG:zmb .leaf W:=fun g c e=>by cases e
  have run:Calls Try.prog 10 #[v0,v1,v2] W fun r w'=>r=.returned (.bool true)∧Old W w' :=
    zle (f:=10) (args:=[s0 0,s1 1,s2 2]) (a:=enF 10 [s0 0,s1 1,s2 2]) (l:=l) (G:=.leaf) (vs:=[v0,v1,v2]) (by kernel_rfl) hG
      (fun x hx=>by
        simp only [l,List.mem_cons,List.not_mem_nil,or_false] at hx
        rcases hx with rfl | rfl | rfl <;> assumption)
      ⟨_,_,rfl,(hv0 l 0 .leaf rfl).1,⟨_,_,rfl,(hv1 l 1 .leaf rfl).1,⟨_,_,rfl,(hv2 l 2 .leaf rfl).1,rfl⟩⟩⟩
      (through_goal (hv0 l 0 .leaf rfl).2 (hv1 l 1 .leaf rfl).2 (hv2 l 2 .leaf rfl).2)
  refine run.mono fun e W' ⟨he,hg⟩=>?_
  subst he
  exact ⟨_,rfl,Ev.post_law (by kernel_rfl) (by kernel_rfl) rfl Try.underlying4 rfl hW' rfl hg⟩
theorem held:Rows.subThroughRow.holds Try.pinned (OpenSpec.ofChange Rows.subThroughSpec) :=
  OpenClaim.holds_of_wide 10 Try.f10 rfl rfl rfl rfl rfl rfl rfl ⟨rfl,rfl,rfl,rfl,rfl⟩ rfl rfl rfl rfl rfl (by kernel_rfl) Try.func10 (by kernel_rfl)
    (of_decide_eq_true (by kernel_rfl)) (by unfold Func.isWrapper; first | (rw [if_pos (by decide +kernel)]; kernel_rfl) | (rw [if_neg (by decide +kernel)]; exact ⟨rfl,rfl⟩))
    (fun os started H enc _=>lifted os started H enc)
/-- The statement. -/
theorem proved:Rows.SubThroughSaid :=
  held
#print axioms proved
end Go.Proofs.Ytcdigdplhlgcaaa.subThrough
