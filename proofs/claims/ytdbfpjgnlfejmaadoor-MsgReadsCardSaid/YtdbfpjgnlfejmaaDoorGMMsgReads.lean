/- The statement MsgReads: whatever bytes come in,the call returns true and zin all that was there as it was: read as a request and as a response,they are what the document says; with the condition that the package variable of the words holds what its own initialiser lays. -/
import Derived.Test.YtdbfpjgnlfejmaaDoorRows
import Derived.Test.YtdbfpjgnlfejmaaDoorCards
import Derived.Test.YtdbfpjgnlfejmaaDoorTie
import Derived.SevenTiedAt
import Derived.WalkKit
import Derived.ProofKit
import Derived.OpenShut
import Derived.ChangeMaps5
import Derived.Deep.Grids
import Derived.IntWalk
import Derived.Shelf.SlSortCmp.WholeK
import Derived.Ground.SlsfProg
import Derived.Test.YtdbfpjgnlfejmaaDoorProg
import Derived.MakeChecks
import Derived.LaidMore
import Derived.Stop.Joined
import Derived.Laws.IdiomStrings
import Derived.Laws.Externs
import Derived.Lib.Bytealg
import Derived.Lib.MakeNoZero
import Derived.Lib.UnsafeStr
import Derived.Laws.World
import Derived.Below
import GoSem.Dispatch
import GoSem.Step
import Derived.Laws.Sem
import Derived.Calls
import Derived.Carry
import Derived.ChangeSlices
import Derived.SliceStrings
import Derived.Deep.Slices
import Derived.Sort.Statements
import Derived.Shelf.SlSortCmp.Insertion
import Derived.Deep.Strs
import Derived.Laws.Strings
import Derived.FnData
import Derived.Orders
import Derived.Test.YtdbfpjgnlfejmaaDoorG00
import Derived.Test.YtdbfpjgnlfejmaaDoorG01
import Derived.Test.YtdbfpjgnlfejmaaDoorG02
import Derived.Test.YtdbfpjgnlfejmaaDoorG03
import Derived.Test.YtdbfpjgnlfejmaaDoorG04
import Derived.Test.YtdbfpjgnlfejmaaDoorG05
import Derived.Test.YtdbfpjgnlfejmaaDoorG06
import Derived.Test.YtdbfpjgnlfejmaaDoorG07
import Derived.Test.YtdbfpjgnlfejmaaDoorG08
import Derived.Test.YtdbfpjgnlfejmaaDoorG09
set_option maxRecDepth 100000
namespace Go.Proofs.YtdbfpjgnlfejmaaDoor.msgReads
open Go Go.ChangeShapes Go.WideShapes Go.ChangeAt Go.RowKit Go.ChangeMaps
open Ev dg
open mq (GW zo4 zgr)
theorem own:ownKnob Tryd.prog.godebug=none:=by kernel_rfl
theorem str_rel (R:Bij)(b:ByteArray):VRel R (.str b.data.toList) (.string b):=by
  show Value.string b=.string ⟨b.data.toList.toArray⟩
  rw [Array.toArray_toList]
theorem walk (t:ByteArray)(w:World)(hG:zg6 GW w) :
    Calls P 7 #[.string t] w fun r w'=>r=.returned (.bool true)∧Old w w' :=
  zjY (a:=_) (l:=[]) (args:=[.str t.data.toList]) (vs:=[.string t]) rfl hG (fun _ hx=>absurd hx List.not_mem_nil) ⟨_,_,rfl,str_rel _ _,rfl⟩ (zkl _)
/-! ### The row's step -/
set_option maxRecDepth 100000 in
theorem lifted (os:Os)(started:os.Started)(H:Type)(enc:TypeId × Value→H) :
    ReturnsInHanded {} Tryd.checked os 7 .any (fun w args => (Rows.msgReadsSpec.pre enc Tryd.prog Tryd.f7 [] false w args ∧ laidMetH Tryd.prog [("lodger/diag.words", Rows.laid_lodger_diag_words)] w) ∧ sizedMet enc Tryd.prog Tryd.f7 (OpenSpec.ofChange Rows.msgReadsSpec) false w args)
      (Rows.msgReadsSpec.post enc Tryd.prog Tryd.f7 false true false false):=by
  refine returnsInHanded_of_change_and (C := Tryd.checked) (X := fun w _ => laidMetH Tryd.prog [("lodger/diag.words", Rows.laid_lodger_diag_words)] w) (fun _ _ _ hh h => h.of_heap hh) own started (by kernel_rfl) Tryd.func7
    (ChangeSpec.witness_shaped (enc := enc) (C := Tryd.checked) (os := os) (X := fun w _ => laidMetH Tryd.prog [("lodger/diag.words", Rows.laid_lodger_diag_words)] w) false (World.doorLaid Tryd.prog 400 os) #[.string .empty] 8 rfl (World.shaped_of_RefB (by kernel_rfl) (by kernel_rfl)) (by kernel_rfl) (by kernel_rfl) (by kernel_rfl) (zgr os _)) ?_
  intro W base args ds gs before hval0 hW _ _ hL _
  have hval:∀ (j:Nat) t v,Tryd.f7.params[j]?=some t→args[j]?=some v→Value.okWide Tryd.prog W .any base t v:=hval0
  have hW':=hW
  obtain ⟨p,q,hA0,hV,rfl,hfz,hnd⟩:=hW
  have hA:DataW.TrodAll enc Tryd.prog W 0 (fun _=>true) true Tryd.f7.params.toList args.toList ds p:=hA0
  rw [Tryd.params7] at hA hval
  obtain ⟨v0,vs0,d0,ds0,p0,q0,hargs,rfl,rfl,h0,r0⟩:=trodAll_cons hA
  obtain ⟨rfl,rfl,rfl⟩:=trodAll_nil r0
  obtain rfl:args=#[v0]:=by cases args; simp_all
  obtain ⟨rfl,rfl⟩:=trodVars_none hV
  obtain ⟨a0,rfl,rfl,rfl,w0⟩:=open_string Tryd.underlying9 (hval 0 9 v0 rfl rfl) h0
  refine (walk a0 W (zo4 hL)).mono fun e W' ⟨he,hg⟩=>?_
  subst he
  exact ⟨_,rfl,Ev.post_law (by kernel_rfl) (by kernel_rfl) rfl Tryd.underlying4 rfl hW' rfl hg⟩
theorem over:Rows.msgReadsRow.holds Tryd.pinned (OpenSpec.ofChange Rows.msgReadsSpec) :=
  OpenClaim.holds_of_wide 7 Tryd.f7 rfl rfl rfl rfl rfl rfl rfl ⟨rfl,rfl,rfl,rfl,rfl⟩ rfl rfl rfl rfl rfl (by kernel_rfl) Tryd.func7 (by kernel_rfl)
    (of_decide_eq_true (by kernel_rfl)) (by unfold Func.isWrapper; first | (rw [if_pos (by decide +kernel)]; kernel_rfl) | (rw [if_neg (by decide +kernel)]; exact ⟨rfl,rfl⟩))
    (fun os started H enc _=>lifted os started H enc)
/-- The statement's row. -/
theorem row:Rows.MsgReadsSaid :=
  over
set_option maxRecDepth 100000 in
/-- The statement,its row tied to the text of the program. -/
theorem proved:Rows.MsgReadsCardSaid :=
  Claim7.holds_tied_plain_at .later [] [.data] true (true, "a7bebf9a0ed2280a856f9b17a72e71a0ed185be35e8fe28c10c7a8eb0fd3d898") false
    row (fun _ h=>by cases h) (by kernel_rfl) (fun _ h=>by cases h) msgReads_row_tie rfl ⟨rfl,rfl⟩ (by kernel_rfl) rfl
    (fun f fn hf hfn=>by
      obtain rfl : f = 7 := Option.some.inj ((show Tryd.prog.funcNamed "lodger/lodgerlaw27.MsgReads" = some 7 by kernel_rfl).symm.trans hf) |>.symm
      obtain rfl:fn=Tryd.f7:=(Option.some.inj (Tryd.func7.symm.trans hfn)).symm
      exact ⟨by kernel_rfl,fun j t ht=>by
        rw [Tryd.params7] at ht
        obtain rfl:t=9:=by
          rcases j with _ | j
          · simpa using ht.symm
          · simp at ht
        kernel_rfl⟩)
    (by kernel_rfl)
#print axioms proved
end Go.Proofs.YtdbfpjgnlfejmaaDoor.msgReads
