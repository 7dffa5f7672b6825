/- ParseBinds: nine pairs of signs, the first of number 1. -/
import Derived.Test.YtnocdpnbafhmfaaGreatDoorParseBindsC
set_option maxRecDepth 100000
namespace Go.Proofs.YtnocdpnbafhmfaaGreatDoor.parseBinds
open Go Ev

theorem r10 : runA P 3 17782 (M 1 0) = some (.bool true) := by kernel_rfl
theorem w10 (a b : Int) (ha : no a = 1) (hb : no b = 0) (w : World) (hG : Globs glob w) : Calls P 3 #[.int .u8 a, .int .u8 b] w fun r w' => r = .returned (.bool true) ∧ Old w w' :=
  law_ok (K := Goal P 0 3 _) mix (cast (pre a b 1 0 _).symm ⟨works_ok, by rw [ha], by rw [hb], Goal.ofRun mix r10 fun _ => rfl⟩) (fun _ h => h) (vs := [.int .u8 a, .int .u8 b]) hG (fun _ hx => absurd hx List.not_mem_nil) ⟨_, _, rfl, rfl, _, _, rfl, rfl, rfl⟩

theorem r11 : runA P 3 17771 (M 1 1) = some (.bool true) := by kernel_rfl
theorem w11 (a b : Int) (ha : no a = 1) (hb : no b = 1) (w : World) (hG : Globs glob w) : Calls P 3 #[.int .u8 a, .int .u8 b] w fun r w' => r = .returned (.bool true) ∧ Old w w' :=
  law_ok (K := Goal P 0 3 _) mix (cast (pre a b 1 1 _).symm ⟨works_ok, by rw [ha], by rw [hb], Goal.ofRun mix r11 fun _ => rfl⟩) (fun _ h => h) (vs := [.int .u8 a, .int .u8 b]) hG (fun _ hx => absurd hx List.not_mem_nil) ⟨_, _, rfl, rfl, _, _, rfl, rfl, rfl⟩

theorem r12 : runA P 3 17528 (M 1 2) = some (.bool true) := by kernel_rfl
theorem w12 (a b : Int) (ha : no a = 1) (hb : no b = 2) (w : World) (hG : Globs glob w) : Calls P 3 #[.int .u8 a, .int .u8 b] w fun r w' => r = .returned (.bool true) ∧ Old w w' :=
  law_ok (K := Goal P 0 3 _) mix (cast (pre a b 1 2 _).symm ⟨works_ok, by rw [ha], by rw [hb], Goal.ofRun mix r12 fun _ => rfl⟩) (fun _ h => h) (vs := [.int .u8 a, .int .u8 b]) hG (fun _ hx => absurd hx List.not_mem_nil) ⟨_, _, rfl, rfl, _, _, rfl, rfl, rfl⟩

theorem r13 : runA P 3 17641 (M 1 3) = some (.bool true) := by kernel_rfl
theorem w13 (a b : Int) (ha : no a = 1) (hb : no b = 3) (w : World) (hG : Globs glob w) : Calls P 3 #[.int .u8 a, .int .u8 b] w fun r w' => r = .returned (.bool true) ∧ Old w w' :=
  law_ok (K := Goal P 0 3 _) mix (cast (pre a b 1 3 _).symm ⟨works_ok, by rw [ha], by rw [hb], Goal.ofRun mix r13 fun _ => rfl⟩) (fun _ h => h) (vs := [.int .u8 a, .int .u8 b]) hG (fun _ hx => absurd hx List.not_mem_nil) ⟨_, _, rfl, rfl, _, _, rfl, rfl, rfl⟩

theorem r14 : runA P 3 17544 (M 1 4) = some (.bool true) := by kernel_rfl
theorem w14 (a b : Int) (ha : no a = 1) (hb : no b = 4) (w : World) (hG : Globs glob w) : Calls P 3 #[.int .u8 a, .int .u8 b] w fun r w' => r = .returned (.bool true) ∧ Old w w' :=
  law_ok (K := Goal P 0 3 _) mix (cast (pre a b 1 4 _).symm ⟨works_ok, by rw [ha], by rw [hb], Goal.ofRun mix r14 fun _ => rfl⟩) (fun _ h => h) (vs := [.int .u8 a, .int .u8 b]) hG (fun _ hx => absurd hx List.not_mem_nil) ⟨_, _, rfl, rfl, _, _, rfl, rfl, rfl⟩

theorem r15 : runA P 3 17544 (M 1 5) = some (.bool true) := by kernel_rfl
theorem w15 (a b : Int) (ha : no a = 1) (hb : no b = 5) (w : World) (hG : Globs glob w) : Calls P 3 #[.int .u8 a, .int .u8 b] w fun r w' => r = .returned (.bool true) ∧ Old w w' :=
  law_ok (K := Goal P 0 3 _) mix (cast (pre a b 1 5 _).symm ⟨works_ok, by rw [ha], by rw [hb], Goal.ofRun mix r15 fun _ => rfl⟩) (fun _ h => h) (vs := [.int .u8 a, .int .u8 b]) hG (fun _ hx => absurd hx List.not_mem_nil) ⟨_, _, rfl, rfl, _, _, rfl, rfl, rfl⟩

theorem r16 : runA P 3 17495 (M 1 6) = some (.bool true) := by kernel_rfl
theorem w16 (a b : Int) (ha : no a = 1) (hb : no b = 6) (w : World) (hG : Globs glob w) : Calls P 3 #[.int .u8 a, .int .u8 b] w fun r w' => r = .returned (.bool true) ∧ Old w w' :=
  law_ok (K := Goal P 0 3 _) mix (cast (pre a b 1 6 _).symm ⟨works_ok, by rw [ha], by rw [hb], Goal.ofRun mix r16 fun _ => rfl⟩) (fun _ h => h) (vs := [.int .u8 a, .int .u8 b]) hG (fun _ hx => absurd hx List.not_mem_nil) ⟨_, _, rfl, rfl, _, _, rfl, rfl, rfl⟩

theorem r17 : runA P 3 17447 (M 1 7) = some (.bool true) := by kernel_rfl
theorem w17 (a b : Int) (ha : no a = 1) (hb : no b = 7) (w : World) (hG : Globs glob w) : Calls P 3 #[.int .u8 a, .int .u8 b] w fun r w' => r = .returned (.bool true) ∧ Old w w' :=
  law_ok (K := Goal P 0 3 _) mix (cast (pre a b 1 7 _).symm ⟨works_ok, by rw [ha], by rw [hb], Goal.ofRun mix r17 fun _ => rfl⟩) (fun _ h => h) (vs := [.int .u8 a, .int .u8 b]) hG (fun _ hx => absurd hx List.not_mem_nil) ⟨_, _, rfl, rfl, _, _, rfl, rfl, rfl⟩

theorem r18 : runA P 3 17447 (M 1 8) = some (.bool true) := by kernel_rfl
theorem w18 (a b : Int) (ha : no a = 1) (hb : no b = 8) (w : World) (hG : Globs glob w) : Calls P 3 #[.int .u8 a, .int .u8 b] w fun r w' => r = .returned (.bool true) ∧ Old w w' :=
  law_ok (K := Goal P 0 3 _) mix (cast (pre a b 1 8 _).symm ⟨works_ok, by rw [ha], by rw [hb], Goal.ofRun mix r18 fun _ => rfl⟩) (fun _ h => h) (vs := [.int .u8 a, .int .u8 b]) hG (fun _ hx => absurd hx List.not_mem_nil) ⟨_, _, rfl, rfl, _, _, rfl, rfl, rfl⟩

end Go.Proofs.YtnocdpnbafhmfaaGreatDoor.parseBinds
