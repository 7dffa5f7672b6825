/- ParseBinds: pairs of signs, nine of which have the first of number 5. -/
import Derived.Test.YtnocdpnbafhmfaaGreatDoorParseBindsC
set_option maxRecDepth 100000
namespace Go.Proofs.YtnocdpnbafhmfaaGreatDoor.parseBinds
open Go Ev

theorem r50 : runA P 3 17556 (M 5 0) = some (.bool true) := by kernel_rfl
theorem w50 (a b : Int) (ha : no a = 5) (hb : no b = 0) (w : World) (hG : Globs glob w) : Calls P 3 #[.int .u8 a, .int .u8 b] w fun r w' => r = .returned (.bool true) ∧ Old w w' :=
  law_ok (K := Goal P 0 3 _) mix (cast (pre a b 5 0 _).symm ⟨works_ok, by rw [ha], by rw [hb], Goal.ofRun mix r50 fun _ => rfl⟩) (fun _ h => h) (vs := [.int .u8 a, .int .u8 b]) hG (fun _ hx => absurd hx List.not_mem_nil) ⟨_, _, rfl, rfl, _, _, rfl, rfl, rfl⟩

theorem r51 : runA P 3 17545 (M 5 1) = some (.bool true) := by kernel_rfl
theorem w51 (a b : Int) (ha : no a = 5) (hb : no b = 1) (w : World) (hG : Globs glob w) : Calls P 3 #[.int .u8 a, .int .u8 b] w fun r w' => r = .returned (.bool true) ∧ Old w w' :=
  law_ok (K := Goal P 0 3 _) mix (cast (pre a b 5 1 _).symm ⟨works_ok, by rw [ha], by rw [hb], Goal.ofRun mix r51 fun _ => rfl⟩) (fun _ h => h) (vs := [.int .u8 a, .int .u8 b]) hG (fun _ hx => absurd hx List.not_mem_nil) ⟨_, _, rfl, rfl, _, _, rfl, rfl, rfl⟩

theorem r52 : runA P 3 17303 (M 5 2) = some (.bool true) := by kernel_rfl
theorem w52 (a b : Int) (ha : no a = 5) (hb : no b = 2) (w : World) (hG : Globs glob w) : Calls P 3 #[.int .u8 a, .int .u8 b] w fun r w' => r = .returned (.bool true) ∧ Old w w' :=
  law_ok (K := Goal P 0 3 _) mix (cast (pre a b 5 2 _).symm ⟨works_ok, by rw [ha], by rw [hb], Goal.ofRun mix r52 fun _ => rfl⟩) (fun _ h => h) (vs := [.int .u8 a, .int .u8 b]) hG (fun _ hx => absurd hx List.not_mem_nil) ⟨_, _, rfl, rfl, _, _, rfl, rfl, rfl⟩

theorem r53 : runA P 3 17416 (M 5 3) = some (.bool true) := by kernel_rfl
theorem w53 (a b : Int) (ha : no a = 5) (hb : no b = 3) (w : World) (hG : Globs glob w) : Calls P 3 #[.int .u8 a, .int .u8 b] w fun r w' => r = .returned (.bool true) ∧ Old w w' :=
  law_ok (K := Goal P 0 3 _) mix (cast (pre a b 5 3 _).symm ⟨works_ok, by rw [ha], by rw [hb], Goal.ofRun mix r53 fun _ => rfl⟩) (fun _ h => h) (vs := [.int .u8 a, .int .u8 b]) hG (fun _ hx => absurd hx List.not_mem_nil) ⟨_, _, rfl, rfl, _, _, rfl, rfl, rfl⟩

theorem r54 : runA P 3 17319 (M 5 4) = some (.bool true) := by kernel_rfl
theorem w54 (a b : Int) (ha : no a = 5) (hb : no b = 4) (w : World) (hG : Globs glob w) : Calls P 3 #[.int .u8 a, .int .u8 b] w fun r w' => r = .returned (.bool true) ∧ Old w w' :=
  law_ok (K := Goal P 0 3 _) mix (cast (pre a b 5 4 _).symm ⟨works_ok, by rw [ha], by rw [hb], Goal.ofRun mix r54 fun _ => rfl⟩) (fun _ h => h) (vs := [.int .u8 a, .int .u8 b]) hG (fun _ hx => absurd hx List.not_mem_nil) ⟨_, _, rfl, rfl, _, _, rfl, rfl, rfl⟩

theorem r55 : runA P 3 17319 (M 5 5) = some (.bool true) := by kernel_rfl
theorem w55 (a b : Int) (ha : no a = 5) (hb : no b = 5) (w : World) (hG : Globs glob w) : Calls P 3 #[.int .u8 a, .int .u8 b] w fun r w' => r = .returned (.bool true) ∧ Old w w' :=
  law_ok (K := Goal P 0 3 _) mix (cast (pre a b 5 5 _).symm ⟨works_ok, by rw [ha], by rw [hb], Goal.ofRun mix r55 fun _ => rfl⟩) (fun _ h => h) (vs := [.int .u8 a, .int .u8 b]) hG (fun _ hx => absurd hx List.not_mem_nil) ⟨_, _, rfl, rfl, _, _, rfl, rfl, rfl⟩

theorem r56 : runA P 3 17270 (M 5 6) = some (.bool true) := by kernel_rfl
theorem w56 (a b : Int) (ha : no a = 5) (hb : no b = 6) (w : World) (hG : Globs glob w) : Calls P 3 #[.int .u8 a, .int .u8 b] w fun r w' => r = .returned (.bool true) ∧ Old w w' :=
  law_ok (K := Goal P 0 3 _) mix (cast (pre a b 5 6 _).symm ⟨works_ok, by rw [ha], by rw [hb], Goal.ofRun mix r56 fun _ => rfl⟩) (fun _ h => h) (vs := [.int .u8 a, .int .u8 b]) hG (fun _ hx => absurd hx List.not_mem_nil) ⟨_, _, rfl, rfl, _, _, rfl, rfl, rfl⟩

theorem r57 : runA P 3 17221 (M 5 7) = some (.bool true) := by kernel_rfl
theorem w57 (a b : Int) (ha : no a = 5) (hb : no b = 7) (w : World) (hG : Globs glob w) : Calls P 3 #[.int .u8 a, .int .u8 b] w fun r w' => r = .returned (.bool true) ∧ Old w w' :=
  law_ok (K := Goal P 0 3 _) mix (cast (pre a b 5 7 _).symm ⟨works_ok, by rw [ha], by rw [hb], Goal.ofRun mix r57 fun _ => rfl⟩) (fun _ h => h) (vs := [.int .u8 a, .int .u8 b]) hG (fun _ hx => absurd hx List.not_mem_nil) ⟨_, _, rfl, rfl, _, _, rfl, rfl, rfl⟩

theorem r58 : runA P 3 17221 (M 5 8) = some (.bool true) := by kernel_rfl
theorem w58 (a b : Int) (ha : no a = 5) (hb : no b = 8) (w : World) (hG : Globs glob w) : Calls P 3 #[.int .u8 a, .int .u8 b] w fun r w' => r = .returned (.bool true) ∧ Old w w' :=
  law_ok (K := Goal P 0 3 _) mix (cast (pre a b 5 8 _).symm ⟨works_ok, by rw [ha], by rw [hb], Goal.ofRun mix r58 fun _ => rfl⟩) (fun _ h => h) (vs := [.int .u8 a, .int .u8 b]) hG (fun _ hx => absurd hx List.not_mem_nil) ⟨_, _, rfl, rfl, _, _, rfl, rfl, rfl⟩

theorem r80 : runA P 3 17459 (M 8 0) = some (.bool true) := by kernel_rfl
theorem w80 (a b : Int) (ha : no a = 8) (hb : no b = 0) (w : World) (hG : Globs glob w) : Calls P 3 #[.int .u8 a, .int .u8 b] w fun r w' => r = .returned (.bool true) ∧ Old w w' :=
  law_ok (K := Goal P 0 3 _) mix (cast (pre a b 8 0 _).symm ⟨works_ok, by rw [ha], by rw [hb], Goal.ofRun mix r80 fun _ => rfl⟩) (fun _ h => h) (vs := [.int .u8 a, .int .u8 b]) hG (fun _ hx => absurd hx List.not_mem_nil) ⟨_, _, rfl, rfl, _, _, rfl, rfl, rfl⟩

theorem r81 : runA P 3 17448 (M 8 1) = some (.bool true) := by kernel_rfl
theorem w81 (a b : Int) (ha : no a = 8) (hb : no b = 1) (w : World) (hG : Globs glob w) : Calls P 3 #[.int .u8 a, .int .u8 b] w fun r w' => r = .returned (.bool true) ∧ Old w w' :=
  law_ok (K := Goal P 0 3 _) mix (cast (pre a b 8 1 _).symm ⟨works_ok, by rw [ha], by rw [hb], Goal.ofRun mix r81 fun _ => rfl⟩) (fun _ h => h) (vs := [.int .u8 a, .int .u8 b]) hG (fun _ hx => absurd hx List.not_mem_nil) ⟨_, _, rfl, rfl, _, _, rfl, rfl, rfl⟩

theorem r82 : runA P 3 17206 (M 8 2) = some (.bool true) := by kernel_rfl
theorem w82 (a b : Int) (ha : no a = 8) (hb : no b = 2) (w : World) (hG : Globs glob w) : Calls P 3 #[.int .u8 a, .int .u8 b] w fun r w' => r = .returned (.bool true) ∧ Old w w' :=
  law_ok (K := Goal P 0 3 _) mix (cast (pre a b 8 2 _).symm ⟨works_ok, by rw [ha], by rw [hb], Goal.ofRun mix r82 fun _ => rfl⟩) (fun _ h => h) (vs := [.int .u8 a, .int .u8 b]) hG (fun _ hx => absurd hx List.not_mem_nil) ⟨_, _, rfl, rfl, _, _, rfl, rfl, rfl⟩

theorem r83 : runA P 3 17319 (M 8 3) = some (.bool true) := by kernel_rfl
theorem w83 (a b : Int) (ha : no a = 8) (hb : no b = 3) (w : World) (hG : Globs glob w) : Calls P 3 #[.int .u8 a, .int .u8 b] w fun r w' => r = .returned (.bool true) ∧ Old w w' :=
  law_ok (K := Goal P 0 3 _) mix (cast (pre a b 8 3 _).symm ⟨works_ok, by rw [ha], by rw [hb], Goal.ofRun mix r83 fun _ => rfl⟩) (fun _ h => h) (vs := [.int .u8 a, .int .u8 b]) hG (fun _ hx => absurd hx List.not_mem_nil) ⟨_, _, rfl, rfl, _, _, rfl, rfl, rfl⟩

theorem r84 : runA P 3 17222 (M 8 4) = some (.bool true) := by kernel_rfl
theorem w84 (a b : Int) (ha : no a = 8) (hb : no b = 4) (w : World) (hG : Globs glob w) : Calls P 3 #[.int .u8 a, .int .u8 b] w fun r w' => r = .returned (.bool true) ∧ Old w w' :=
  law_ok (K := Goal P 0 3 _) mix (cast (pre a b 8 4 _).symm ⟨works_ok, by rw [ha], by rw [hb], Goal.ofRun mix r84 fun _ => rfl⟩) (fun _ h => h) (vs := [.int .u8 a, .int .u8 b]) hG (fun _ hx => absurd hx List.not_mem_nil) ⟨_, _, rfl, rfl, _, _, rfl, rfl, rfl⟩

end Go.Proofs.YtnocdpnbafhmfaaGreatDoor.parseBinds
