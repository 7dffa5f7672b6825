/- A closed call that the evaluator has run leaves what was there as it was. -/
import Derived.Test.YtcdpmiebmhjmpaaEvWg
import Derived.WalkKit
import Derived.ProofKit
import Derived.OpenShut
namespace Go.Proofs.Ytcdpmiebmhjmpaa.Ev
open Go Go.ChangeShapes Go.WideShapes

theorem Old.kept {w w' : World} (k : Old w w') (may : MemPlace → Prop) : w.keptBut w' may :=
  ⟨k.os, k.output, fun i hi => by rw [k.other i hi]; exact (World.keptBut_refl w may).2.2 i hi⟩

/-- What a call without arguments, that reads no variable, leaves. -/
theorem post_closed {H : Type} {enc : TypeId × Value → H} {P : Program} {f : Func} {s : ChangeSpec} {apart fresh handsOn again : Bool} {W W' : World} {args : Array Value} {v : Value} {ds gs : List (DataW H)}
    (hW : DataW.Whole enc P f.params.toList s.vars apart W args.toList ds gs [])
    (hres : ∀ (b : Nat) (sp : Nat → Bool) (hd : Bool), DataW.TrodAll enc P W' b sp hd f.resultTypes.toList (v.resultList f.resultTypes.size) (s.fn H (ds ++ gs)).results [])
    (hargs : ∀ sp : Nat → Bool, DataW.TrodAll enc P W' 0 sp true f.params.toList args.toList (s.fn H (ds ++ gs)).args [])
    (hvars : ∀ sp : Nat → Bool, DataW.TrodVars enc P W' sp s.vars (s.fn H (ds ++ gs)).vars [])
    (hk : ∀ may, W.keptBut W' may)
    (hok : ∀ (j : Nat) (t : TypeId) (r : Value), f.resultTypes[j]? = some t → (v.resultList f.resultTypes.size)[j]? = some r → Value.okWide P W' .any 0 t r) :
    s.post enc P f apart fresh handsOn again W args v W' := by
  refine ⟨ds, gs, [], [], [], [], hW, hres _ _ _, hargs _, hvars _, hk _, fun _ => ⟨hok, _, _, [], ⟨[], [], trodAll_append (hargs _) (hres _ _ _), hvars _, rfl, ?_, ?_⟩, ?_⟩⟩
  · intro b off hp; exact absurd hp List.not_mem_nil
  · intro _; exact List.nodup_nil
  · intro p hp; exact absurd hp List.not_mem_nil

end Go.Proofs.Ytcdpmiebmhjmpaa.Ev
