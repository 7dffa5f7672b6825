/- ParseBinds: pairs of signs, nine of which have the first of number 4. -/
import Derived.Test.YtnocdpnbafhmfaaGreatDoorParseBindsC
set_option maxRecDepth 100000
namespace Go.Proofs.YtnocdpnbafhmfaaGreatDoor.parseBinds
open Go Ev

theorem r40 : runA P 3 17556 (M 4 0) = some (.bool true) := by kernel_rfl
theorem w40 (a b : Int) (ha : no a = 4) (hb : no b = 0) (w : World) (hG : Globs glob w) : Calls P 3 #[.int .u8 a, .int .u8 b] w fun r w' => r = .returned (.bool true) ∧ Old w w' :=
  law_ok (K := Goal P 0 3 _) mix (cast (pre a b 4 0 _).symm ⟨works_ok, by rw [ha], by rw [hb], Goal.ofRun mix r40 fun _ => rfl⟩) (fun _ h => h) (vs := [.int .u8 a, .int .u8 b]) hG (fun _ hx => absurd hx List.not_mem_nil) ⟨_, _, rfl, rfl, _, _, rfl, rfl, rfl⟩

theorem r41 : runA P 3 17545 (M 4 1) = some (.bool true) := by kernel_rfl
theorem w41 (a b : Int) (ha : no a = 4) (hb : no b = 1) (w : World) (hG : Globs glob w) : Calls P 3 #[.int .u8 a, .int .u8 b] w fun r w' => r = .returned (.bool true) ∧ Old w w' :=
  law_ok (K := Goal P 0 3 _) mix (cast (pre a b 4 1 _).symm ⟨works_ok, by rw [ha], by rw [hb], Goal.ofRun mix r41 fun _ => rfl⟩) (fun _ h => h) (vs := [.int .u8 a, .int .u8 b]) hG (fun _ hx => absurd hx List.not_mem_nil) ⟨_, _, rfl, rfl, _, _, rfl, rfl, rfl⟩

theorem r42 : runA P 3 17303 (M 4 2) = some (.bool true) := by kernel_rfl
theorem w42 (a b : Int) (ha : no a = 4) (hb : no b = 2) (w : World) (hG : Globs glob w) : Calls P 3 #[.int .u8 a, .int .u8 b] w fun r w' => r = .returned (.bool true) ∧ Old w w' :=
  law_ok (K := Goal P 0 3 _) mix (cast (pre a b 4 2 _).symm ⟨works_ok, by rw [ha], by rw [hb], Goal.ofRun mix r42 fun _ => rfl⟩) (fun _ h => h) (vs := [.int .u8 a, .int .u8 b]) hG (fun _ hx => absurd hx List.not_mem_nil) ⟨_, _, rfl, rfl, _, _, rfl, rfl, rfl⟩

theorem r43 : runA P 3 17416 (M 4 3) = some (.bool true) := by kernel_rfl
theorem w43 (a b : Int) (ha : no a = 4) (hb : no b = 3) (w : World) (hG : Globs glob w) : Calls P 3 #[.int .u8 a, .int .u8 b] w fun r w' => r = .returned (.bool true) ∧ Old w w' :=
  law_ok (K := Goal P 0 3 _) mix (cast (pre a b 4 3 _).symm ⟨works_ok, by rw [ha], by rw [hb], Goal.ofRun mix r43 fun _ => rfl⟩) (fun _ h => h) (vs := [.int .u8 a, .int .u8 b]) hG (fun _ hx => absurd hx List.not_mem_nil) ⟨_, _, rfl, rfl, _, _, rfl, rfl, rfl⟩

theorem r44 : runA P 3 17319 (M 4 4) = some (.bool true) := by kernel_rfl
theorem w44 (a b : Int) (ha : no a = 4) (hb : no b = 4) (w : World) (hG : Globs glob w) : Calls P 3 #[.int .u8 a, .int .u8 b] w fun r w' => r = .returned (.bool true) ∧ Old w w' :=
  law_ok (K := Goal P 0 3 _) mix (cast (pre a b 4 4 _).symm ⟨works_ok, by rw [ha], by rw [hb], Goal.ofRun mix r44 fun _ => rfl⟩) (fun _ h => h) (vs := [.int .u8 a, .int .u8 b]) hG (fun _ hx => absurd hx List.not_mem_nil) ⟨_, _, rfl, rfl, _, _, rfl, rfl, rfl⟩

theorem r45 : runA P 3 17319 (M 4 5) = some (.bool true) := by kernel_rfl
theorem w45 (a b : Int) (ha : no a = 4) (hb : no b = 5) (w : World) (hG : Globs glob w) : Calls P 3 #[.int .u8 a, .int .u8 b] w fun r w' => r = .returned (.bool true) ∧ Old w w' :=
  law_ok (K := Goal P 0 3 _) mix (cast (pre a b 4 5 _).symm ⟨works_ok, by rw [ha], by rw [hb], Goal.ofRun mix r45 fun _ => rfl⟩) (fun _ h => h) (vs := [.int .u8 a, .int .u8 b]) hG (fun _ hx => absurd hx List.not_mem_nil) ⟨_, _, rfl, rfl, _, _, rfl, rfl, rfl⟩

theorem r46 : runA P 3 17270 (M 4 6) = some (.bool true) := by kernel_rfl
theorem w46 (a b : Int) (ha : no a = 4) (hb : no b = 6) (w : World) (hG : Globs glob w) : Calls P 3 #[.int .u8 a, .int .u8 b] w fun r w' => r = .returned (.bool true) ∧ Old w w' :=
  law_ok (K := Goal P 0 3 _) mix (cast (pre a b 4 6 _).symm ⟨works_ok, by rw [ha], by rw [hb], Goal.ofRun mix r46 fun _ => rfl⟩) (fun _ h => h) (vs := [.int .u8 a, .int .u8 b]) hG (fun _ hx => absurd hx List.not_mem_nil) ⟨_, _, rfl, rfl, _, _, rfl, rfl, rfl⟩

theorem r47 : runA P 3 17221 (M 4 7) = some (.bool true) := by kernel_rfl
theorem w47 (a b : Int) (ha : no a = 4) (hb : no b = 7) (w : World) (hG : Globs glob w) : Calls P 3 #[.int .u8 a, .int .u8 b] w fun r w' => r = .returned (.bool true) ∧ Old w w' :=
  law_ok (K := Goal P 0 3 _) mix (cast (pre a b 4 7 _).symm ⟨works_ok, by rw [ha], by rw [hb], Goal.ofRun mix r47 fun _ => rfl⟩) (fun _ h => h) (vs := [.int .u8 a, .int .u8 b]) hG (fun _ hx => absurd hx List.not_mem_nil) ⟨_, _, rfl, rfl, _, _, rfl, rfl, rfl⟩

theorem r48 : runA P 3 17221 (M 4 8) = some (.bool true) := by kernel_rfl
theorem w48 (a b : Int) (ha : no a = 4) (hb : no b = 8) (w : World) (hG : Globs glob w) : Calls P 3 #[.int .u8 a, .int .u8 b] w fun r w' => r = .returned (.bool true) ∧ Old w w' :=
  law_ok (K := Goal P 0 3 _) mix (cast (pre a b 4 8 _).symm ⟨works_ok, by rw [ha], by rw [hb], Goal.ofRun mix r48 fun _ => rfl⟩) (fun _ h => h) (vs := [.int .u8 a, .int .u8 b]) hG (fun _ hx => absurd hx List.not_mem_nil) ⟨_, _, rfl, rfl, _, _, rfl, rfl, rfl⟩

theorem r75 : runA P 3 17222 (M 7 5) = some (.bool true) := by kernel_rfl
theorem w75 (a b : Int) (ha : no a = 7) (hb : no b = 5) (w : World) (hG : Globs glob w) : Calls P 3 #[.int .u8 a, .int .u8 b] w fun r w' => r = .returned (.bool true) ∧ Old w w' :=
  law_ok (K := Goal P 0 3 _) mix (cast (pre a b 7 5 _).symm ⟨works_ok, by rw [ha], by rw [hb], Goal.ofRun mix r75 fun _ => rfl⟩) (fun _ h => h) (vs := [.int .u8 a, .int .u8 b]) hG (fun _ hx => absurd hx List.not_mem_nil) ⟨_, _, rfl, rfl, _, _, rfl, rfl, rfl⟩

theorem r76 : runA P 3 17173 (M 7 6) = some (.bool true) := by kernel_rfl
theorem w76 (a b : Int) (ha : no a = 7) (hb : no b = 6) (w : World) (hG : Globs glob w) : Calls P 3 #[.int .u8 a, .int .u8 b] w fun r w' => r = .returned (.bool true) ∧ Old w w' :=
  law_ok (K := Goal P 0 3 _) mix (cast (pre a b 7 6 _).symm ⟨works_ok, by rw [ha], by rw [hb], Goal.ofRun mix r76 fun _ => rfl⟩) (fun _ h => h) (vs := [.int .u8 a, .int .u8 b]) hG (fun _ hx => absurd hx List.not_mem_nil) ⟨_, _, rfl, rfl, _, _, rfl, rfl, rfl⟩

theorem r77 : runA P 3 17125 (M 7 7) = some (.bool true) := by kernel_rfl
theorem w77 (a b : Int) (ha : no a = 7) (hb : no b = 7) (w : World) (hG : Globs glob w) : Calls P 3 #[.int .u8 a, .int .u8 b] w fun r w' => r = .returned (.bool true) ∧ Old w w' :=
  law_ok (K := Goal P 0 3 _) mix (cast (pre a b 7 7 _).symm ⟨works_ok, by rw [ha], by rw [hb], Goal.ofRun mix r77 fun _ => rfl⟩) (fun _ h => h) (vs := [.int .u8 a, .int .u8 b]) hG (fun _ hx => absurd hx List.not_mem_nil) ⟨_, _, rfl, rfl, _, _, rfl, rfl, rfl⟩

theorem r78 : runA P 3 17125 (M 7 8) = some (.bool true) := by kernel_rfl
theorem w78 (a b : Int) (ha : no a = 7) (hb : no b = 8) (w : World) (hG : Globs glob w) : Calls P 3 #[.int .u8 a, .int .u8 b] w fun r w' => r = .returned (.bool true) ∧ Old w w' :=
  law_ok (K := Goal P 0 3 _) mix (cast (pre a b 7 8 _).symm ⟨works_ok, by rw [ha], by rw [hb], Goal.ofRun mix r78 fun _ => rfl⟩) (fun _ h => h) (vs := [.int .u8 a, .int .u8 b]) hG (fun _ hx => absurd hx List.not_mem_nil) ⟨_, _, rfl, rfl, _, _, rfl, rfl, rfl⟩

end Go.Proofs.YtnocdpnbafhmfaaGreatDoor.parseBinds
