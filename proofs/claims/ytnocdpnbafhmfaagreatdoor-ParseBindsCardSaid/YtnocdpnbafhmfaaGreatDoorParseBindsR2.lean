/- ParseBinds: nine pairs of signs, the first of number 2. -/
import Derived.Test.YtnocdpnbafhmfaaGreatDoorParseBindsC
set_option maxRecDepth 100000
namespace Go.Proofs.YtnocdpnbafhmfaaGreatDoor.parseBinds
open Go Ev

theorem r20 : runA P 3 17540 (M 2 0) = some (.bool true) := by kernel_rfl
theorem w20 (a b : Int) (ha : no a = 2) (hb : no b = 0) (w : World) (hG : Globs glob w) : Calls P 3 #[.int .u8 a, .int .u8 b] w fun r w' => r = .returned (.bool true) ∧ Old w w' :=
  law_ok (K := Goal P 0 3 _) mix (cast (pre a b 2 0 _).symm ⟨works_ok, by rw [ha], by rw [hb], Goal.ofRun mix r20 fun _ => rfl⟩) (fun _ h => h) (vs := [.int .u8 a, .int .u8 b]) hG (fun _ hx => absurd hx List.not_mem_nil) ⟨_, _, rfl, rfl, _, _, rfl, rfl, rfl⟩

theorem r21 : runA P 3 17529 (M 2 1) = some (.bool true) := by kernel_rfl
theorem w21 (a b : Int) (ha : no a = 2) (hb : no b = 1) (w : World) (hG : Globs glob w) : Calls P 3 #[.int .u8 a, .int .u8 b] w fun r w' => r = .returned (.bool true) ∧ Old w w' :=
  law_ok (K := Goal P 0 3 _) mix (cast (pre a b 2 1 _).symm ⟨works_ok, by rw [ha], by rw [hb], Goal.ofRun mix r21 fun _ => rfl⟩) (fun _ h => h) (vs := [.int .u8 a, .int .u8 b]) hG (fun _ hx => absurd hx List.not_mem_nil) ⟨_, _, rfl, rfl, _, _, rfl, rfl, rfl⟩

theorem r22 : runA P 3 17287 (M 2 2) = some (.bool true) := by kernel_rfl
theorem w22 (a b : Int) (ha : no a = 2) (hb : no b = 2) (w : World) (hG : Globs glob w) : Calls P 3 #[.int .u8 a, .int .u8 b] w fun r w' => r = .returned (.bool true) ∧ Old w w' :=
  law_ok (K := Goal P 0 3 _) mix (cast (pre a b 2 2 _).symm ⟨works_ok, by rw [ha], by rw [hb], Goal.ofRun mix r22 fun _ => rfl⟩) (fun _ h => h) (vs := [.int .u8 a, .int .u8 b]) hG (fun _ hx => absurd hx List.not_mem_nil) ⟨_, _, rfl, rfl, _, _, rfl, rfl, rfl⟩

theorem r23 : runA P 3 17400 (M 2 3) = some (.bool true) := by kernel_rfl
theorem w23 (a b : Int) (ha : no a = 2) (hb : no b = 3) (w : World) (hG : Globs glob w) : Calls P 3 #[.int .u8 a, .int .u8 b] w fun r w' => r = .returned (.bool true) ∧ Old w w' :=
  law_ok (K := Goal P 0 3 _) mix (cast (pre a b 2 3 _).symm ⟨works_ok, by rw [ha], by rw [hb], Goal.ofRun mix r23 fun _ => rfl⟩) (fun _ h => h) (vs := [.int .u8 a, .int .u8 b]) hG (fun _ hx => absurd hx List.not_mem_nil) ⟨_, _, rfl, rfl, _, _, rfl, rfl, rfl⟩

theorem r24 : runA P 3 17302 (M 2 4) = some (.bool true) := by kernel_rfl
theorem w24 (a b : Int) (ha : no a = 2) (hb : no b = 4) (w : World) (hG : Globs glob w) : Calls P 3 #[.int .u8 a, .int .u8 b] w fun r w' => r = .returned (.bool true) ∧ Old w w' :=
  law_ok (K := Goal P 0 3 _) mix (cast (pre a b 2 4 _).symm ⟨works_ok, by rw [ha], by rw [hb], Goal.ofRun mix r24 fun _ => rfl⟩) (fun _ h => h) (vs := [.int .u8 a, .int .u8 b]) hG (fun _ hx => absurd hx List.not_mem_nil) ⟨_, _, rfl, rfl, _, _, rfl, rfl, rfl⟩

theorem r25 : runA P 3 17302 (M 2 5) = some (.bool true) := by kernel_rfl
theorem w25 (a b : Int) (ha : no a = 2) (hb : no b = 5) (w : World) (hG : Globs glob w) : Calls P 3 #[.int .u8 a, .int .u8 b] w fun r w' => r = .returned (.bool true) ∧ Old w w' :=
  law_ok (K := Goal P 0 3 _) mix (cast (pre a b 2 5 _).symm ⟨works_ok, by rw [ha], by rw [hb], Goal.ofRun mix r25 fun _ => rfl⟩) (fun _ h => h) (vs := [.int .u8 a, .int .u8 b]) hG (fun _ hx => absurd hx List.not_mem_nil) ⟨_, _, rfl, rfl, _, _, rfl, rfl, rfl⟩

theorem r26 : runA P 3 17253 (M 2 6) = some (.bool true) := by kernel_rfl
theorem w26 (a b : Int) (ha : no a = 2) (hb : no b = 6) (w : World) (hG : Globs glob w) : Calls P 3 #[.int .u8 a, .int .u8 b] w fun r w' => r = .returned (.bool true) ∧ Old w w' :=
  law_ok (K := Goal P 0 3 _) mix (cast (pre a b 2 6 _).symm ⟨works_ok, by rw [ha], by rw [hb], Goal.ofRun mix r26 fun _ => rfl⟩) (fun _ h => h) (vs := [.int .u8 a, .int .u8 b]) hG (fun _ hx => absurd hx List.not_mem_nil) ⟨_, _, rfl, rfl, _, _, rfl, rfl, rfl⟩

theorem r27 : runA P 3 17205 (M 2 7) = some (.bool true) := by kernel_rfl
theorem w27 (a b : Int) (ha : no a = 2) (hb : no b = 7) (w : World) (hG : Globs glob w) : Calls P 3 #[.int .u8 a, .int .u8 b] w fun r w' => r = .returned (.bool true) ∧ Old w w' :=
  law_ok (K := Goal P 0 3 _) mix (cast (pre a b 2 7 _).symm ⟨works_ok, by rw [ha], by rw [hb], Goal.ofRun mix r27 fun _ => rfl⟩) (fun _ h => h) (vs := [.int .u8 a, .int .u8 b]) hG (fun _ hx => absurd hx List.not_mem_nil) ⟨_, _, rfl, rfl, _, _, rfl, rfl, rfl⟩

theorem r28 : runA P 3 17205 (M 2 8) = some (.bool true) := by kernel_rfl
theorem w28 (a b : Int) (ha : no a = 2) (hb : no b = 8) (w : World) (hG : Globs glob w) : Calls P 3 #[.int .u8 a, .int .u8 b] w fun r w' => r = .returned (.bool true) ∧ Old w w' :=
  law_ok (K := Goal P 0 3 _) mix (cast (pre a b 2 8 _).symm ⟨works_ok, by rw [ha], by rw [hb], Goal.ofRun mix r28 fun _ => rfl⟩) (fun _ h => h) (vs := [.int .u8 a, .int .u8 b]) hG (fun _ hx => absurd hx List.not_mem_nil) ⟨_, _, rfl, rfl, _, _, rfl, rfl, rfl⟩

end Go.Proofs.YtnocdpnbafhmfaaGreatDoor.parseBinds
