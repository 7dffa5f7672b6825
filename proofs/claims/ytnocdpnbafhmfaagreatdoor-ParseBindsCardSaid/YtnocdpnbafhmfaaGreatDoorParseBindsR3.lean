/- ParseBinds: pairs of signs, nine of which have the first of number 3. -/
import Derived.Test.YtnocdpnbafhmfaaGreatDoorParseBindsC
set_option maxRecDepth 100000
namespace Go.Proofs.YtnocdpnbafhmfaaGreatDoor.parseBinds
open Go Ev

theorem r30 : runA P 3 17653 (M 3 0) = some (.bool true) := by kernel_rfl
theorem w30 (a b : Int) (ha : no a = 3) (hb : no b = 0) (w : World) (hG : Globs glob w) : Calls P 3 #[.int .u8 a, .int .u8 b] w fun r w' => r = .returned (.bool true) ∧ Old w w' :=
  law_ok (K := Goal P 0 3 _) mix (cast (pre a b 3 0 _).symm ⟨works_ok, by rw [ha], by rw [hb], Goal.ofRun mix r30 fun _ => rfl⟩) (fun _ h => h) (vs := [.int .u8 a, .int .u8 b]) hG (fun _ hx => absurd hx List.not_mem_nil) ⟨_, _, rfl, rfl, _, _, rfl, rfl, rfl⟩

theorem r31 : runA P 3 17642 (M 3 1) = some (.bool true) := by kernel_rfl
theorem w31 (a b : Int) (ha : no a = 3) (hb : no b = 1) (w : World) (hG : Globs glob w) : Calls P 3 #[.int .u8 a, .int .u8 b] w fun r w' => r = .returned (.bool true) ∧ Old w w' :=
  law_ok (K := Goal P 0 3 _) mix (cast (pre a b 3 1 _).symm ⟨works_ok, by rw [ha], by rw [hb], Goal.ofRun mix r31 fun _ => rfl⟩) (fun _ h => h) (vs := [.int .u8 a, .int .u8 b]) hG (fun _ hx => absurd hx List.not_mem_nil) ⟨_, _, rfl, rfl, _, _, rfl, rfl, rfl⟩

theorem r32 : runA P 3 17400 (M 3 2) = some (.bool true) := by kernel_rfl
theorem w32 (a b : Int) (ha : no a = 3) (hb : no b = 2) (w : World) (hG : Globs glob w) : Calls P 3 #[.int .u8 a, .int .u8 b] w fun r w' => r = .returned (.bool true) ∧ Old w w' :=
  law_ok (K := Goal P 0 3 _) mix (cast (pre a b 3 2 _).symm ⟨works_ok, by rw [ha], by rw [hb], Goal.ofRun mix r32 fun _ => rfl⟩) (fun _ h => h) (vs := [.int .u8 a, .int .u8 b]) hG (fun _ hx => absurd hx List.not_mem_nil) ⟨_, _, rfl, rfl, _, _, rfl, rfl, rfl⟩

theorem r33 : runA P 3 17513 (M 3 3) = some (.bool true) := by kernel_rfl
theorem w33 (a b : Int) (ha : no a = 3) (hb : no b = 3) (w : World) (hG : Globs glob w) : Calls P 3 #[.int .u8 a, .int .u8 b] w fun r w' => r = .returned (.bool true) ∧ Old w w' :=
  law_ok (K := Goal P 0 3 _) mix (cast (pre a b 3 3 _).symm ⟨works_ok, by rw [ha], by rw [hb], Goal.ofRun mix r33 fun _ => rfl⟩) (fun _ h => h) (vs := [.int .u8 a, .int .u8 b]) hG (fun _ hx => absurd hx List.not_mem_nil) ⟨_, _, rfl, rfl, _, _, rfl, rfl, rfl⟩

theorem r34 : runA P 3 17415 (M 3 4) = some (.bool true) := by kernel_rfl
theorem w34 (a b : Int) (ha : no a = 3) (hb : no b = 4) (w : World) (hG : Globs glob w) : Calls P 3 #[.int .u8 a, .int .u8 b] w fun r w' => r = .returned (.bool true) ∧ Old w w' :=
  law_ok (K := Goal P 0 3 _) mix (cast (pre a b 3 4 _).symm ⟨works_ok, by rw [ha], by rw [hb], Goal.ofRun mix r34 fun _ => rfl⟩) (fun _ h => h) (vs := [.int .u8 a, .int .u8 b]) hG (fun _ hx => absurd hx List.not_mem_nil) ⟨_, _, rfl, rfl, _, _, rfl, rfl, rfl⟩

theorem r35 : runA P 3 17415 (M 3 5) = some (.bool true) := by kernel_rfl
theorem w35 (a b : Int) (ha : no a = 3) (hb : no b = 5) (w : World) (hG : Globs glob w) : Calls P 3 #[.int .u8 a, .int .u8 b] w fun r w' => r = .returned (.bool true) ∧ Old w w' :=
  law_ok (K := Goal P 0 3 _) mix (cast (pre a b 3 5 _).symm ⟨works_ok, by rw [ha], by rw [hb], Goal.ofRun mix r35 fun _ => rfl⟩) (fun _ h => h) (vs := [.int .u8 a, .int .u8 b]) hG (fun _ hx => absurd hx List.not_mem_nil) ⟨_, _, rfl, rfl, _, _, rfl, rfl, rfl⟩

theorem r36 : runA P 3 17366 (M 3 6) = some (.bool true) := by kernel_rfl
theorem w36 (a b : Int) (ha : no a = 3) (hb : no b = 6) (w : World) (hG : Globs glob w) : Calls P 3 #[.int .u8 a, .int .u8 b] w fun r w' => r = .returned (.bool true) ∧ Old w w' :=
  law_ok (K := Goal P 0 3 _) mix (cast (pre a b 3 6 _).symm ⟨works_ok, by rw [ha], by rw [hb], Goal.ofRun mix r36 fun _ => rfl⟩) (fun _ h => h) (vs := [.int .u8 a, .int .u8 b]) hG (fun _ hx => absurd hx List.not_mem_nil) ⟨_, _, rfl, rfl, _, _, rfl, rfl, rfl⟩

theorem r37 : runA P 3 17318 (M 3 7) = some (.bool true) := by kernel_rfl
theorem w37 (a b : Int) (ha : no a = 3) (hb : no b = 7) (w : World) (hG : Globs glob w) : Calls P 3 #[.int .u8 a, .int .u8 b] w fun r w' => r = .returned (.bool true) ∧ Old w w' :=
  law_ok (K := Goal P 0 3 _) mix (cast (pre a b 3 7 _).symm ⟨works_ok, by rw [ha], by rw [hb], Goal.ofRun mix r37 fun _ => rfl⟩) (fun _ h => h) (vs := [.int .u8 a, .int .u8 b]) hG (fun _ hx => absurd hx List.not_mem_nil) ⟨_, _, rfl, rfl, _, _, rfl, rfl, rfl⟩

theorem r38 : runA P 3 17318 (M 3 8) = some (.bool true) := by kernel_rfl
theorem w38 (a b : Int) (ha : no a = 3) (hb : no b = 8) (w : World) (hG : Globs glob w) : Calls P 3 #[.int .u8 a, .int .u8 b] w fun r w' => r = .returned (.bool true) ∧ Old w w' :=
  law_ok (K := Goal P 0 3 _) mix (cast (pre a b 3 8 _).symm ⟨works_ok, by rw [ha], by rw [hb], Goal.ofRun mix r38 fun _ => rfl⟩) (fun _ h => h) (vs := [.int .u8 a, .int .u8 b]) hG (fun _ hx => absurd hx List.not_mem_nil) ⟨_, _, rfl, rfl, _, _, rfl, rfl, rfl⟩

theorem r70 : runA P 3 17459 (M 7 0) = some (.bool true) := by kernel_rfl
theorem w70 (a b : Int) (ha : no a = 7) (hb : no b = 0) (w : World) (hG : Globs glob w) : Calls P 3 #[.int .u8 a, .int .u8 b] w fun r w' => r = .returned (.bool true) ∧ Old w w' :=
  law_ok (K := Goal P 0 3 _) mix (cast (pre a b 7 0 _).symm ⟨works_ok, by rw [ha], by rw [hb], Goal.ofRun mix r70 fun _ => rfl⟩) (fun _ h => h) (vs := [.int .u8 a, .int .u8 b]) hG (fun _ hx => absurd hx List.not_mem_nil) ⟨_, _, rfl, rfl, _, _, rfl, rfl, rfl⟩

theorem r71 : runA P 3 17448 (M 7 1) = some (.bool true) := by kernel_rfl
theorem w71 (a b : Int) (ha : no a = 7) (hb : no b = 1) (w : World) (hG : Globs glob w) : Calls P 3 #[.int .u8 a, .int .u8 b] w fun r w' => r = .returned (.bool true) ∧ Old w w' :=
  law_ok (K := Goal P 0 3 _) mix (cast (pre a b 7 1 _).symm ⟨works_ok, by rw [ha], by rw [hb], Goal.ofRun mix r71 fun _ => rfl⟩) (fun _ h => h) (vs := [.int .u8 a, .int .u8 b]) hG (fun _ hx => absurd hx List.not_mem_nil) ⟨_, _, rfl, rfl, _, _, rfl, rfl, rfl⟩

theorem r72 : runA P 3 17206 (M 7 2) = some (.bool true) := by kernel_rfl
theorem w72 (a b : Int) (ha : no a = 7) (hb : no b = 2) (w : World) (hG : Globs glob w) : Calls P 3 #[.int .u8 a, .int .u8 b] w fun r w' => r = .returned (.bool true) ∧ Old w w' :=
  law_ok (K := Goal P 0 3 _) mix (cast (pre a b 7 2 _).symm ⟨works_ok, by rw [ha], by rw [hb], Goal.ofRun mix r72 fun _ => rfl⟩) (fun _ h => h) (vs := [.int .u8 a, .int .u8 b]) hG (fun _ hx => absurd hx List.not_mem_nil) ⟨_, _, rfl, rfl, _, _, rfl, rfl, rfl⟩

theorem r73 : runA P 3 17319 (M 7 3) = some (.bool true) := by kernel_rfl
theorem w73 (a b : Int) (ha : no a = 7) (hb : no b = 3) (w : World) (hG : Globs glob w) : Calls P 3 #[.int .u8 a, .int .u8 b] w fun r w' => r = .returned (.bool true) ∧ Old w w' :=
  law_ok (K := Goal P 0 3 _) mix (cast (pre a b 7 3 _).symm ⟨works_ok, by rw [ha], by rw [hb], Goal.ofRun mix r73 fun _ => rfl⟩) (fun _ h => h) (vs := [.int .u8 a, .int .u8 b]) hG (fun _ hx => absurd hx List.not_mem_nil) ⟨_, _, rfl, rfl, _, _, rfl, rfl, rfl⟩

theorem r74 : runA P 3 17222 (M 7 4) = some (.bool true) := by kernel_rfl
theorem w74 (a b : Int) (ha : no a = 7) (hb : no b = 4) (w : World) (hG : Globs glob w) : Calls P 3 #[.int .u8 a, .int .u8 b] w fun r w' => r = .returned (.bool true) ∧ Old w w' :=
  law_ok (K := Goal P 0 3 _) mix (cast (pre a b 7 4 _).symm ⟨works_ok, by rw [ha], by rw [hb], Goal.ofRun mix r74 fun _ => rfl⟩) (fun _ h => h) (vs := [.int .u8 a, .int .u8 b]) hG (fun _ hx => absurd hx List.not_mem_nil) ⟨_, _, rfl, rfl, _, _, rfl, rfl, rfl⟩

end Go.Proofs.YtnocdpnbafhmfaaGreatDoor.parseBinds
