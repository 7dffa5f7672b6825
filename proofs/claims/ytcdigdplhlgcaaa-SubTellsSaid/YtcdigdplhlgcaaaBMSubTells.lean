/- The statement SubTells: whatever bytes come in as choices and turns,the call returns true and znu all that was there as it was: of two types that are made of these choices,Sub and Meet answer,and count,as the document has it. No condition: it is shown of all arguments. -/
import Derived.Test.YtcdigdplhlgcaaaRows
import Derived.WalkKit
import Derived.ProofKit
import Derived.OpenShut
import Derived.ChangeMaps5
import Derived.Deep.Slices
import Derived.Deep.Strs
import Derived.Laws.IdiomStrings
import Derived.Laws.Externs
import Derived.Lib.Bytealg
import Derived.Lib.MakeNoZero
import Derived.Lib.UnsafeStr
import Derived.Laws.World
import Derived.Below
import Derived.Test.YtcdigdplhlgcaaaChecked
import GoSem.Dispatch
import GoSem.Step
import Derived.Laws.Sem
import Derived.Calls
import Derived.Carry
import Derived.ChangeSlices
import Derived.SliceStrings
import Derived.Laws.Strings
import Derived.Orders
import Derived.Test.YtcdigdplhlgcaaaB00
import Derived.Test.YtcdigdplhlgcaaaB01
import Derived.Test.YtcdigdplhlgcaaaB02
import Derived.Test.YtcdigdplhlgcaaaB03
import Derived.Test.YtcdigdplhlgcaaaB04
import Derived.Test.YtcdigdplhlgcaaaB05
import Derived.Test.YtcdigdplhlgcaaaB06
import Derived.Test.YtcdigdplhlgcaaaB07
import Derived.Test.YtcdigdplhlgcaaaB08
set_option maxRecDepth 100000
set_option linter.unusedVariables false
namespace Go.Proofs.Ytcdigdplhlgcaaa.gx
open Go Ev tp
section
variable (sn sa prq0:AV) (blq1 blq3 blq4 blq5:Bool) (psq0:AV) (mmq1 mmq3 mmq4 mmq5:Int)
noncomputable def Fstl:AFrame:=⟨8,90,(tX (tX tZ (tX tZ (tX (tY sn) tZ))) (tX (tX tZ (tX (tY sa) tZ)) tZ)),   [.ops (rg P 8 [1,0]).toList ((rg P 8 [1,0]).toList.drop 2),.code (cd P 8 [1,1])],[],.run,CallKind.normal,none⟩
noncomputable def Fstl_a_:AFrame:=⟨8,90,(tX (tX (tX tZ (tX tZ (tY prq0))) (tY prq0)) (tX tZ (tW (tX tZ (tY psq0)) psq0 tZ))),   [.ops (rg P 8 [1,1,0]).toList ((rg P 8 [1,1,0]).toList.drop 2),.code (cd P 8 [1,1,1])],[],.run,CallKind.normal,none⟩
noncomputable def Fstl_a__a_:AFrame:=⟨8,90,(tX (tX (tX (tY (.bool blq1)) tZ) (tW (tX (tX (tY prq0) tZ) tZ) prq0 tZ)) (tX (tX (tW (tX (tY psq0) tZ) (.int .u64 mmq1) tZ) tZ) (tY psq0))),   [.ops (rg P 8 [1,1,1,0]).toList ((rg P 8 [1,1,1,0]).toList.drop 2),.code (cd P 8 [1,1,1,1])],[],.run,CallKind.normal,none⟩
noncomputable def Fstl_a__a__a_nn:AFrame:=⟨8,90,(tX (tX (tX (tX (tX tZ (tY psq0)) tZ) tZ) (tY prq0)) (tX tZ (tW tZ psq0 (tX tZ (tX (tY prq0) tZ))))),   [.ops (rg P 8 [1,1,1,1,1,0]).toList ((rg P 8 [1,1,1,1,1,0]).toList.drop 2),.code (cd P 8 [1,1,1,1,1,1])],[],.run,CallKind.normal,none⟩
noncomputable def Fstl_a__a__a_nn_a_:AFrame:=⟨8,90,(tX (tX (tX tZ (tY (.bool blq3))) (tW tZ prq0 (tX (tX tZ (tY psq0)) tZ))) (tX (tX tZ (tW (tX tZ (tY prq0)) (.int .u64 mmq3) tZ)) (tY psq0))),   [.ops (rg P 8 [1,1,1,1,1,1,0]).toList ((rg P 8 [1,1,1,1,1,1,0]).toList.drop 2),.code (cd P 8 [1,1,1,1,1,1,1])],[],.run,CallKind.normal,none⟩
noncomputable def Fstl_a__a__a_nn_a__a_:AFrame:=⟨8,90,(tX (tX (tX tZ (tW tZ (.bool blq3) (tX tZ (tY psq0)))) (tW tZ prq0 (tY (.bool blq4)))) (tX (tX tZ (tY (.int .u64 mmq3))) (tW (tX tZ (tX tZ (tY prq0))) psq0 (tY (.int .u64 mmq4))))),   [.ops (rg P 8 [1,1,1,1,1,1,1,0]).toList ((rg P 8 [1,1,1,1,1,1,1,0]).toList.drop 2),.code (cd P 8 [1,1,1,1,1,1,1,1])],[],.run,CallKind.normal,none⟩
noncomputable def Fstl_a__a__a_nn_a__a__a_:AFrame:=⟨8,90,(tX (tX (tX (tX (tY (.bool blq5)) tZ) (tY (.bool blq3))) (tX (tX (tX (tX (tY psq0) tZ) tZ) tZ) (tY (.bool blq4)))) (tX (tX (tX (tW (tX (tY prq0) tZ) (.int .u64 mmq5) tZ) tZ) (tY (.int .u64 mmq3))) (tX tZ (tY (.int .u64 mmq4))))),   [.ops (rg P 8 [1,1,1,1,1,1,1,1,0]).toList ((rg P 8 [1,1,1,1,1,1,1,1,0]).toList.drop 2),.code (cd P 8 [1,1,1,1,1,1,1,1,1])],[],.run,CallKind.normal,none⟩
end
section
variable {R:AV→AHeap→Prop} {O:T AObj} {N:Nat} {sn sa prq0 psq0:AV} {G:T (T AV)} {K:AM→Prop} {td:List AItem} {blq1 blq2 blq3 blq4 blq5 blq6:Bool} {mmq1 mmq2 mmq3 mmq4 mmq5 mmq6:Int}
theorem t_stl:(K (AM.mk (enF 29 [sa,sn]) [Fstl sn sa] ⟨O,N,G⟩))=OT 8 R 0 K (.seq [.run 8,.keep [20,21],.run 1] .fin) ((AM.mk (enF 8 [sa,sn]) [] ⟨O,N,G⟩)):=by kernel_rfl
theorem t_stl_a_:(K (AM.mk (enF 30 [psq0,prq0]) [Fstl_a_ prq0 psq0] ⟨O,N,G⟩))=OT 8 R 0 K (.seq [.run 11,.keep [5,6,26,27],.run 1] .fin) ((AM.mk (RF 29 24 (tX (tX tZ (tY psq0)) (tX (tY prq0) tZ)) td) ((Fstl sn sa)::[]) ⟨O,N,G⟩)):=by kernel_rfl
theorem t_stl_a__a_:(K (AM.mk (enF 31 [psq0,prq0]) [Fstl_a__a_ prq0 blq1 psq0 mmq1] ⟨O,N,G⟩))=OT 8 R 0 K (.seq [.run 11,.keep [5,6,7,8,32,33],.run 1] .fin) ((AM.mk (RF 30 22 (tX (tX tZ (tY (.int .u64 mmq1))) (tX (tY (.bool blq1)) tZ)) td) ((Fstl_a_ prq0 psq0)::[]) ⟨O,N,G⟩)):=by kernel_rfl
theorem t_stl_a__a__a_:((((!blq1==blq2))=true→((R (.bool false) (⟨O,N,G⟩))))∧(((!blq1==blq2))=false→((((mmq1 != mmq2))=true→((R (.bool false) (⟨O,N,G⟩))))∧(((mmq1 != mmq2))=false→(K (AM.mk (enF 30 [prq0,psq0]) [Fstl_a__a__a_nn prq0 psq0] ⟨O,N,G⟩))))))=OT 8 R 0 K (.seq [.run 14] (.fork 40 (.seq [.run 11,.done] .fin) (.seq [.run 5] (.fork 44 (.seq [.run 6,.done] .fin) (.seq [.run 6,.keep [5,6,46,47],.run 1] .fin))))) ((AM.mk (RF 31 19 (tX (tX tZ (tY (.int .u64 mmq2))) (tX (tY (.bool blq2)) tZ)) td) ((Fstl_a__a_ prq0 blq1 psq0 mmq1)::[]) ⟨O,N,G⟩)):=by kernel_rfl
theorem t_stl_a__a__a_nn_a_:(K (AM.mk (enF 31 [prq0,psq0]) [Fstl_a__a__a_nn_a_ prq0 blq3 psq0 mmq3] ⟨O,N,G⟩))=OT 8 R 0 K (.seq [.run 11,.keep [5,6,11,12,52,53],.run 1] .fin) ((AM.mk (RF 30 22 (tX (tX tZ (tY (.int .u64 mmq3))) (tX (tY (.bool blq3)) tZ)) td) ((Fstl_a__a__a_nn prq0 psq0)::[]) ⟨O,N,G⟩)):=by kernel_rfl
theorem t_stl_a__a__a_nn_a__a_:(K (AM.mk (enF 32 [prq0,psq0]) [Fstl_a__a__a_nn_a__a_ prq0 blq3 blq4 psq0 mmq3 mmq4] ⟨O,N,G⟩))=OT 8 R 0 K (.seq [.run 11,.keep [5,6,11,12,13,14,58,59],.run 1] .fin) ((AM.mk (RF 31 19 (tX (tX tZ (tY (.int .u64 mmq4))) (tX (tY (.bool blq4)) tZ)) td) ((Fstl_a__a__a_nn_a_ prq0 blq3 psq0 mmq3)::[]) ⟨O,N,G⟩)):=by kernel_rfl
theorem t_stl_a__a__a_nn_a__a__a_:(K (AM.mk (enF 33 [prq0,psq0]) [Fstl_a__a__a_nn_a__a__a_ prq0 blq3 blq4 blq5 psq0 mmq3 mmq4 mmq5] ⟨O,N,G⟩))=OT 8 R 0 K (.seq [.run 11,.keep [11,12,13,14,15,16,64,65],.run 1] .fin) ((AM.mk (RF 32 27 (tX (tX tZ (tY (.int .u64 mmq5))) (tX (tY (.bool blq5)) tZ)) td) ((Fstl_a__a__a_nn_a__a_ prq0 blq3 blq4 psq0 mmq3 mmq4)::[]) ⟨O,N,G⟩)):=by kernel_rfl
theorem t_stl_a__a__a_nn_a__a__a__a_:((((blq3==blq4))=true→((((mmq3==mmq4))=true→((((blq5==blq6))=true→((((mmq5==mmq6))=true→((Goal P (0) 34 (fun x x_1=>x=AV.bool true) (zn5 P 34 [] G))∧(R (.bool true) (⟨O,N,G⟩))))∧(((mmq5==mmq6))=false→((R (.bool false) (⟨O,N,G⟩))))))∧(((blq5==blq6))=false→((R (.bool false) (⟨O,N,G⟩))))))∧(((mmq3==mmq4))=false→((R (.bool false) (⟨O,N,G⟩))))))∧(((blq3==blq4))=false→((R (.bool false) (⟨O,N,G⟩)))))=OT 8 R 0 K (.seq [.run 13] (.fork 72 (.seq [.run 5] (.fork 77 (.seq [.run 5] (.fork 82 (.seq [.run 5] (.fork 87 (.seq [.run 1,.callv [] (.bool true),.run 4,.done] .fin) (.seq [.run 5,.done] .fin))) (.seq [.run 10,.done] .fin))) (.seq [.run 15,.done] .fin))) (.seq [.run 20,.done] .fin))) ((AM.mk (RF 33 28 (tX (tX tZ (tY (.int .u64 mmq6))) (tX (tY (.bool blq6)) tZ)) td) ((Fstl_a__a__a_nn_a__a__a_ prq0 blq3 blq4 blq5 psq0 mmq3 mmq4 mmq5)::[]) ⟨O,N,G⟩)):=by kernel_rfl
end
theorem tells_goal {O:T AObj}{N:Nat}{xs ys:List UInt8}{sa sn:AV}(hx:SVe O N xs sa)(hy:SVe O N ys sn):Goal P 0 8 (fun v _=>v=.bool true) (AM.mk (enF 8 [sa,sn]) [] ⟨O,N,.leaf⟩):=by
  refine ot t_stl ?_
  refine zqT hx hy (Nat.le_refl _) fun O1 N1 td1 a b pa pb ta tb=>?_
  refine ot t_stl_a_ ?_
  refine zh2 tb ta (Nat.le_refl _) fun O2 N2 td2 ex2=>?_
  refine ot t_stl_a__a_ ?_
  refine zdS (tb.ext ex2 (Nat.le_refl _)) (ta.ext ex2 (Nat.le_refl _)) ex2.1 fun O3 N3 td3 ex3=>?_
  have e3:=ex2.trans ex3
  refine ot t_stl_a__a__a_ (fkf ((by simp)) ?_)
  refine fkf ((by simp)) ?_
  refine zh2 (ta.ext e3 (Nat.le_refl _)) (tb.ext e3 (Nat.le_refl _)) e3.1 fun O4 N4 td4 ex4=>?_
  have e4:=e3.trans ex4
  refine ot t_stl_a__a__a_nn_a_ ?_
  refine zdS (ta.ext e4 (Nat.le_refl _)) (tb.ext e4 (Nat.le_refl _)) e4.1 fun O5 N5 td5 ex5=>?_
  have e5:=e4.trans ex5
  refine ot t_stl_a__a__a_nn_a__a_ ?_
  refine zoY (ta.ext e5 (Nat.le_refl _)) (tb.ext e5 (Nat.le_refl _)) e5.1 fun O6 N6 td6 ex6=>?_
  have e6:=e5.trans ex6
  refine ot t_stl_a__a__a_nn_a__a__a_ ?_
  refine zma (ta.ext e6 (Nat.le_refl _)) (tb.ext e6 (Nat.le_refl _)) e6.1 fun O7 N7 td7 ex7=>?_
  refine ot t_stl_a__a__a_nn_a__a__a__a_ (fkt ((by simp)) ?_)
  refine fkt ((by simp)) ?_
  refine fkt ((by simp)) ?_
  refine fkt ((by simp)) ?_
  exact ⟨zo0,rfl⟩
end Go.Proofs.Ytcdigdplhlgcaaa.gx
namespace Go.Proofs.Ytcdigdplhlgcaaa.subTells
open Go Go.ChangeShapes Go.WideShapes Go.ChangeAt Go.RowKit Go.ChangeMaps
open Ev gx
theorem own:ownKnob Try.prog.godebug=none:=by kernel_rfl
/-! ### The row's step -/
theorem lifted (os:Os)(started:os.Started)(H:Type)(enc:TypeId × Value→H) :
    ReturnsInHanded {} Try.checked os 8 .any (Rows.subTellsSpec.pre6 enc Try.prog Try.f8 Rows.subTellsRow.domain false) (Rows.subTellsSpec.post enc Try.prog Try.f8 false true false false):=by
  refine returnsInHanded_of_change (C:=Try.checked) own started (by kernel_rfl) Try.func8
    (ChangeSpec.witness6 (enc:=enc) (C:=Try.checked) false ⟨#[],#[.slice none 0 0,.slice none 0 0],[]⟩ 8 (by kernel_rfl) (by kernel_rfl) (by kernel_rfl) (by kernel_rfl)) ?_
  intro W base args ds gs before hval0 hW hcnd _
  have hval:∀ (j:Nat) t v,Try.f8.params[j]?=some t→args[j]?=some v→Value.okWide Try.prog W .any base t v:=hval0
  have hW':=hW
  obtain ⟨p,q,hA0,hV,rfl,hfz,hnd⟩:=hW
  have hA:DataW.TrodAll enc Try.prog W 0 (fun _=>true) true Try.f8.params.toList args.toList ds p:=hA0
  rw [Try.params8] at hA hval
  obtain ⟨v0,vs0,d0,ds0,p0,q0,hargs,rfl,rfl,h0,r0⟩:=trodAll_cons hA
  obtain ⟨v1,vs1,d1,ds1,p1,q1,rfl,rfl,rfl,h1,r1⟩:=trodAll_cons r0
  obtain ⟨rfl,rfl,rfl⟩:=trodAll_nil r1
  obtain rfl:args=#[v0,v1]:=by cases args; simp_all
  obtain ⟨rfl,rfl⟩:=trodVars_none hV
  obtain ⟨x0,s0,xs0,hi0,hv0⟩:=zhw (Ev.in_ints Try.underlying22 Try.underlying5 (by kernel_rfl) (hval 0 22 v0 rfl rfl) h0)
  obtain ⟨x1,s1,xs1,hi1,hv1⟩:=zhw (Ev.in_ints Try.underlying22 Try.underlying5 (by kernel_rfl) (hval 1 22 v1 rfl rfl) h1)
  let l:List Inp:=[x0,x1]
  have hG:zmE .leaf W:=fun g c e=>by cases e
  have run:Calls Try.prog 8 #[v0,v1] W fun r w'=>r=.returned (.bool true)∧Old W w' :=
    zlF (f:=8) (args:=[s0 0,s1 1]) (a:=enF 8 [s0 0,s1 1]) (l:=l) (G:=.leaf) (vs:=[v0,v1]) (by kernel_rfl) hG
      (fun x hx=>by
        simp only [l,List.mem_cons,List.not_mem_nil,or_false] at hx
        rcases hx with rfl | rfl <;> assumption)
      ⟨_,_,rfl,(hv0 l 0 .leaf rfl).1,⟨_,_,rfl,(hv1 l 1 .leaf rfl).1,rfl⟩⟩
      (tells_goal (hv0 l 0 .leaf rfl).2 (hv1 l 1 .leaf rfl).2)
  refine run.mono fun e W' ⟨he,hg⟩=>?_
  subst he
  exact ⟨_,rfl,Ev.post_law (by kernel_rfl) (by kernel_rfl) rfl Try.underlying4 rfl hW' rfl hg⟩
theorem held:Rows.subTellsRow.holds Try.pinned (OpenSpec.ofChange Rows.subTellsSpec) :=
  OpenClaim.holds_of_wide 8 Try.f8 rfl rfl rfl rfl rfl rfl rfl ⟨rfl,rfl,rfl,rfl,rfl⟩ rfl rfl rfl rfl rfl (by kernel_rfl) Try.func8 (by kernel_rfl)
    (of_decide_eq_true (by kernel_rfl)) (by unfold Func.isWrapper; first | (rw [if_pos (by decide +kernel)]; kernel_rfl) | (rw [if_neg (by decide +kernel)]; exact ⟨rfl,rfl⟩))
    (fun os started H enc _=>lifted os started H enc)
/-- The statement. -/
theorem proved:Rows.SubTellsSaid :=
  held
#print axioms proved
end Go.Proofs.Ytcdigdplhlgcaaa.subTells
