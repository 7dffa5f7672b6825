/- ParseBinds: nine pairs of signs, the first of number 0. -/
import Derived.Test.YtnocdpnbafhmfaaGreatDoorParseBindsC
set_option maxRecDepth 100000
namespace Go.Proofs.YtnocdpnbafhmfaaGreatDoor.parseBinds
open Go Ev

theorem r00 : runA P 3 17793 (M 0 0) = some (.bool true) := by kernel_rfl
theorem w00 (a b : Int) (ha : no a = 0) (hb : no b = 0) (w : World) (hG : Globs glob w) : Calls P 3 #[.int .u8 a, .int .u8 b] w fun r w' => r = .returned (.bool true) ∧ Old w w' :=
  law_ok (K := Goal P 0 3 _) mix (cast (pre a b 0 0 _).symm ⟨works_ok, by rw [ha], by rw [hb], Goal.ofRun mix r00 fun _ => rfl⟩) (fun _ h => h) (vs := [.int .u8 a, .int .u8 b]) hG (fun _ hx => absurd hx List.not_mem_nil) ⟨_, _, rfl, rfl, _, _, rfl, rfl, rfl⟩

theorem r01 : runA P 3 17781 (M 0 1) = some (.bool true) := by kernel_rfl
theorem w01 (a b : Int) (ha : no a = 0) (hb : no b = 1) (w : World) (hG : Globs glob w) : Calls P 3 #[.int .u8 a, .int .u8 b] w fun r w' => r = .returned (.bool true) ∧ Old w w' :=
  law_ok (K := Goal P 0 3 _) mix (cast (pre a b 0 1 _).symm ⟨works_ok, by rw [ha], by rw [hb], Goal.ofRun mix r01 fun _ => rfl⟩) (fun _ h => h) (vs := [.int .u8 a, .int .u8 b]) hG (fun _ hx => absurd hx List.not_mem_nil) ⟨_, _, rfl, rfl, _, _, rfl, rfl, rfl⟩

theorem r02 : runA P 3 17539 (M 0 2) = some (.bool true) := by kernel_rfl
theorem w02 (a b : Int) (ha : no a = 0) (hb : no b = 2) (w : World) (hG : Globs glob w) : Calls P 3 #[.int .u8 a, .int .u8 b] w fun r w' => r = .returned (.bool true) ∧ Old w w' :=
  law_ok (K := Goal P 0 3 _) mix (cast (pre a b 0 2 _).symm ⟨works_ok, by rw [ha], by rw [hb], Goal.ofRun mix r02 fun _ => rfl⟩) (fun _ h => h) (vs := [.int .u8 a, .int .u8 b]) hG (fun _ hx => absurd hx List.not_mem_nil) ⟨_, _, rfl, rfl, _, _, rfl, rfl, rfl⟩

theorem r03 : runA P 3 17652 (M 0 3) = some (.bool true) := by kernel_rfl
theorem w03 (a b : Int) (ha : no a = 0) (hb : no b = 3) (w : World) (hG : Globs glob w) : Calls P 3 #[.int .u8 a, .int .u8 b] w fun r w' => r = .returned (.bool true) ∧ Old w w' :=
  law_ok (K := Goal P 0 3 _) mix (cast (pre a b 0 3 _).symm ⟨works_ok, by rw [ha], by rw [hb], Goal.ofRun mix r03 fun _ => rfl⟩) (fun _ h => h) (vs := [.int .u8 a, .int .u8 b]) hG (fun _ hx => absurd hx List.not_mem_nil) ⟨_, _, rfl, rfl, _, _, rfl, rfl, rfl⟩

theorem r04 : runA P 3 17555 (M 0 4) = some (.bool true) := by kernel_rfl
theorem w04 (a b : Int) (ha : no a = 0) (hb : no b = 4) (w : World) (hG : Globs glob w) : Calls P 3 #[.int .u8 a, .int .u8 b] w fun r w' => r = .returned (.bool true) ∧ Old w w' :=
  law_ok (K := Goal P 0 3 _) mix (cast (pre a b 0 4 _).symm ⟨works_ok, by rw [ha], by rw [hb], Goal.ofRun mix r04 fun _ => rfl⟩) (fun _ h => h) (vs := [.int .u8 a, .int .u8 b]) hG (fun _ hx => absurd hx List.not_mem_nil) ⟨_, _, rfl, rfl, _, _, rfl, rfl, rfl⟩

theorem r05 : runA P 3 17555 (M 0 5) = some (.bool true) := by kernel_rfl
theorem w05 (a b : Int) (ha : no a = 0) (hb : no b = 5) (w : World) (hG : Globs glob w) : Calls P 3 #[.int .u8 a, .int .u8 b] w fun r w' => r = .returned (.bool true) ∧ Old w w' :=
  law_ok (K := Goal P 0 3 _) mix (cast (pre a b 0 5 _).symm ⟨works_ok, by rw [ha], by rw [hb], Goal.ofRun mix r05 fun _ => rfl⟩) (fun _ h => h) (vs := [.int .u8 a, .int .u8 b]) hG (fun _ hx => absurd hx List.not_mem_nil) ⟨_, _, rfl, rfl, _, _, rfl, rfl, rfl⟩

theorem r06 : runA P 3 17506 (M 0 6) = some (.bool true) := by kernel_rfl
theorem w06 (a b : Int) (ha : no a = 0) (hb : no b = 6) (w : World) (hG : Globs glob w) : Calls P 3 #[.int .u8 a, .int .u8 b] w fun r w' => r = .returned (.bool true) ∧ Old w w' :=
  law_ok (K := Goal P 0 3 _) mix (cast (pre a b 0 6 _).symm ⟨works_ok, by rw [ha], by rw [hb], Goal.ofRun mix r06 fun _ => rfl⟩) (fun _ h => h) (vs := [.int .u8 a, .int .u8 b]) hG (fun _ hx => absurd hx List.not_mem_nil) ⟨_, _, rfl, rfl, _, _, rfl, rfl, rfl⟩

theorem r07 : runA P 3 17458 (M 0 7) = some (.bool true) := by kernel_rfl
theorem w07 (a b : Int) (ha : no a = 0) (hb : no b = 7) (w : World) (hG : Globs glob w) : Calls P 3 #[.int .u8 a, .int .u8 b] w fun r w' => r = .returned (.bool true) ∧ Old w w' :=
  law_ok (K := Goal P 0 3 _) mix (cast (pre a b 0 7 _).symm ⟨works_ok, by rw [ha], by rw [hb], Goal.ofRun mix r07 fun _ => rfl⟩) (fun _ h => h) (vs := [.int .u8 a, .int .u8 b]) hG (fun _ hx => absurd hx List.not_mem_nil) ⟨_, _, rfl, rfl, _, _, rfl, rfl, rfl⟩

theorem r08 : runA P 3 17458 (M 0 8) = some (.bool true) := by kernel_rfl
theorem w08 (a b : Int) (ha : no a = 0) (hb : no b = 8) (w : World) (hG : Globs glob w) : Calls P 3 #[.int .u8 a, .int .u8 b] w fun r w' => r = .returned (.bool true) ∧ Old w w' :=
  law_ok (K := Goal P 0 3 _) mix (cast (pre a b 0 8 _).symm ⟨works_ok, by rw [ha], by rw [hb], Goal.ofRun mix r08 fun _ => rfl⟩) (fun _ h => h) (vs := [.int .u8 a, .int .u8 b]) hG (fun _ hx => absurd hx List.not_mem_nil) ⟨_, _, rfl, rfl, _, _, rfl, rfl, rfl⟩

end Go.Proofs.YtnocdpnbafhmfaaGreatDoor.parseBinds
