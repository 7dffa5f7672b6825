/- ParseBinds: pairs of signs, nine of which have the first of number 6. -/
import Derived.Test.YtnocdpnbafhmfaaGreatDoorParseBindsC
set_option maxRecDepth 100000
namespace Go.Proofs.YtnocdpnbafhmfaaGreatDoor.parseBinds
open Go Ev

theorem r60 : runA P 3 17507 (M 6 0) = some (.bool true) := by kernel_rfl
theorem w60 (a b : Int) (ha : no a = 6) (hb : no b = 0) (w : World) (hG : Globs glob w) : Calls P 3 #[.int .u8 a, .int .u8 b] w fun r w' => r = .returned (.bool true) ∧ Old w w' :=
  law_ok (K := Goal P 0 3 _) mix (cast (pre a b 6 0 _).symm ⟨works_ok, by rw [ha], by rw [hb], Goal.ofRun mix r60 fun _ => rfl⟩) (fun _ h => h) (vs := [.int .u8 a, .int .u8 b]) hG (fun _ hx => absurd hx List.not_mem_nil) ⟨_, _, rfl, rfl, _, _, rfl, rfl, rfl⟩

theorem r61 : runA P 3 17496 (M 6 1) = some (.bool true) := by kernel_rfl
theorem w61 (a b : Int) (ha : no a = 6) (hb : no b = 1) (w : World) (hG : Globs glob w) : Calls P 3 #[.int .u8 a, .int .u8 b] w fun r w' => r = .returned (.bool true) ∧ Old w w' :=
  law_ok (K := Goal P 0 3 _) mix (cast (pre a b 6 1 _).symm ⟨works_ok, by rw [ha], by rw [hb], Goal.ofRun mix r61 fun _ => rfl⟩) (fun _ h => h) (vs := [.int .u8 a, .int .u8 b]) hG (fun _ hx => absurd hx List.not_mem_nil) ⟨_, _, rfl, rfl, _, _, rfl, rfl, rfl⟩

theorem r62 : runA P 3 17254 (M 6 2) = some (.bool true) := by kernel_rfl
theorem w62 (a b : Int) (ha : no a = 6) (hb : no b = 2) (w : World) (hG : Globs glob w) : Calls P 3 #[.int .u8 a, .int .u8 b] w fun r w' => r = .returned (.bool true) ∧ Old w w' :=
  law_ok (K := Goal P 0 3 _) mix (cast (pre a b 6 2 _).symm ⟨works_ok, by rw [ha], by rw [hb], Goal.ofRun mix r62 fun _ => rfl⟩) (fun _ h => h) (vs := [.int .u8 a, .int .u8 b]) hG (fun _ hx => absurd hx List.not_mem_nil) ⟨_, _, rfl, rfl, _, _, rfl, rfl, rfl⟩

theorem r63 : runA P 3 17367 (M 6 3) = some (.bool true) := by kernel_rfl
theorem w63 (a b : Int) (ha : no a = 6) (hb : no b = 3) (w : World) (hG : Globs glob w) : Calls P 3 #[.int .u8 a, .int .u8 b] w fun r w' => r = .returned (.bool true) ∧ Old w w' :=
  law_ok (K := Goal P 0 3 _) mix (cast (pre a b 6 3 _).symm ⟨works_ok, by rw [ha], by rw [hb], Goal.ofRun mix r63 fun _ => rfl⟩) (fun _ h => h) (vs := [.int .u8 a, .int .u8 b]) hG (fun _ hx => absurd hx List.not_mem_nil) ⟨_, _, rfl, rfl, _, _, rfl, rfl, rfl⟩

theorem r64 : runA P 3 17270 (M 6 4) = some (.bool true) := by kernel_rfl
theorem w64 (a b : Int) (ha : no a = 6) (hb : no b = 4) (w : World) (hG : Globs glob w) : Calls P 3 #[.int .u8 a, .int .u8 b] w fun r w' => r = .returned (.bool true) ∧ Old w w' :=
  law_ok (K := Goal P 0 3 _) mix (cast (pre a b 6 4 _).symm ⟨works_ok, by rw [ha], by rw [hb], Goal.ofRun mix r64 fun _ => rfl⟩) (fun _ h => h) (vs := [.int .u8 a, .int .u8 b]) hG (fun _ hx => absurd hx List.not_mem_nil) ⟨_, _, rfl, rfl, _, _, rfl, rfl, rfl⟩

theorem r65 : runA P 3 17270 (M 6 5) = some (.bool true) := by kernel_rfl
theorem w65 (a b : Int) (ha : no a = 6) (hb : no b = 5) (w : World) (hG : Globs glob w) : Calls P 3 #[.int .u8 a, .int .u8 b] w fun r w' => r = .returned (.bool true) ∧ Old w w' :=
  law_ok (K := Goal P 0 3 _) mix (cast (pre a b 6 5 _).symm ⟨works_ok, by rw [ha], by rw [hb], Goal.ofRun mix r65 fun _ => rfl⟩) (fun _ h => h) (vs := [.int .u8 a, .int .u8 b]) hG (fun _ hx => absurd hx List.not_mem_nil) ⟨_, _, rfl, rfl, _, _, rfl, rfl, rfl⟩

theorem r66 : runA P 3 17221 (M 6 6) = some (.bool true) := by kernel_rfl
theorem w66 (a b : Int) (ha : no a = 6) (hb : no b = 6) (w : World) (hG : Globs glob w) : Calls P 3 #[.int .u8 a, .int .u8 b] w fun r w' => r = .returned (.bool true) ∧ Old w w' :=
  law_ok (K := Goal P 0 3 _) mix (cast (pre a b 6 6 _).symm ⟨works_ok, by rw [ha], by rw [hb], Goal.ofRun mix r66 fun _ => rfl⟩) (fun _ h => h) (vs := [.int .u8 a, .int .u8 b]) hG (fun _ hx => absurd hx List.not_mem_nil) ⟨_, _, rfl, rfl, _, _, rfl, rfl, rfl⟩

theorem r67 : runA P 3 17172 (M 6 7) = some (.bool true) := by kernel_rfl
theorem w67 (a b : Int) (ha : no a = 6) (hb : no b = 7) (w : World) (hG : Globs glob w) : Calls P 3 #[.int .u8 a, .int .u8 b] w fun r w' => r = .returned (.bool true) ∧ Old w w' :=
  law_ok (K := Goal P 0 3 _) mix (cast (pre a b 6 7 _).symm ⟨works_ok, by rw [ha], by rw [hb], Goal.ofRun mix r67 fun _ => rfl⟩) (fun _ h => h) (vs := [.int .u8 a, .int .u8 b]) hG (fun _ hx => absurd hx List.not_mem_nil) ⟨_, _, rfl, rfl, _, _, rfl, rfl, rfl⟩

theorem r68 : runA P 3 17172 (M 6 8) = some (.bool true) := by kernel_rfl
theorem w68 (a b : Int) (ha : no a = 6) (hb : no b = 8) (w : World) (hG : Globs glob w) : Calls P 3 #[.int .u8 a, .int .u8 b] w fun r w' => r = .returned (.bool true) ∧ Old w w' :=
  law_ok (K := Goal P 0 3 _) mix (cast (pre a b 6 8 _).symm ⟨works_ok, by rw [ha], by rw [hb], Goal.ofRun mix r68 fun _ => rfl⟩) (fun _ h => h) (vs := [.int .u8 a, .int .u8 b]) hG (fun _ hx => absurd hx List.not_mem_nil) ⟨_, _, rfl, rfl, _, _, rfl, rfl, rfl⟩

theorem r85 : runA P 3 17222 (M 8 5) = some (.bool true) := by kernel_rfl
theorem w85 (a b : Int) (ha : no a = 8) (hb : no b = 5) (w : World) (hG : Globs glob w) : Calls P 3 #[.int .u8 a, .int .u8 b] w fun r w' => r = .returned (.bool true) ∧ Old w w' :=
  law_ok (K := Goal P 0 3 _) mix (cast (pre a b 8 5 _).symm ⟨works_ok, by rw [ha], by rw [hb], Goal.ofRun mix r85 fun _ => rfl⟩) (fun _ h => h) (vs := [.int .u8 a, .int .u8 b]) hG (fun _ hx => absurd hx List.not_mem_nil) ⟨_, _, rfl, rfl, _, _, rfl, rfl, rfl⟩

theorem r86 : runA P 3 17173 (M 8 6) = some (.bool true) := by kernel_rfl
theorem w86 (a b : Int) (ha : no a = 8) (hb : no b = 6) (w : World) (hG : Globs glob w) : Calls P 3 #[.int .u8 a, .int .u8 b] w fun r w' => r = .returned (.bool true) ∧ Old w w' :=
  law_ok (K := Goal P 0 3 _) mix (cast (pre a b 8 6 _).symm ⟨works_ok, by rw [ha], by rw [hb], Goal.ofRun mix r86 fun _ => rfl⟩) (fun _ h => h) (vs := [.int .u8 a, .int .u8 b]) hG (fun _ hx => absurd hx List.not_mem_nil) ⟨_, _, rfl, rfl, _, _, rfl, rfl, rfl⟩

theorem r87 : runA P 3 17125 (M 8 7) = some (.bool true) := by kernel_rfl
theorem w87 (a b : Int) (ha : no a = 8) (hb : no b = 7) (w : World) (hG : Globs glob w) : Calls P 3 #[.int .u8 a, .int .u8 b] w fun r w' => r = .returned (.bool true) ∧ Old w w' :=
  law_ok (K := Goal P 0 3 _) mix (cast (pre a b 8 7 _).symm ⟨works_ok, by rw [ha], by rw [hb], Goal.ofRun mix r87 fun _ => rfl⟩) (fun _ h => h) (vs := [.int .u8 a, .int .u8 b]) hG (fun _ hx => absurd hx List.not_mem_nil) ⟨_, _, rfl, rfl, _, _, rfl, rfl, rfl⟩

theorem r88 : runA P 3 17125 (M 8 8) = some (.bool true) := by kernel_rfl
theorem w88 (a b : Int) (ha : no a = 8) (hb : no b = 8) (w : World) (hG : Globs glob w) : Calls P 3 #[.int .u8 a, .int .u8 b] w fun r w' => r = .returned (.bool true) ∧ Old w w' :=
  law_ok (K := Goal P 0 3 _) mix (cast (pre a b 8 8 _).symm ⟨works_ok, by rw [ha], by rw [hb], Goal.ofRun mix r88 fun _ => rfl⟩) (fun _ h => h) (vs := [.int .u8 a, .int .u8 b]) hG (fun _ hx => absurd hx List.not_mem_nil) ⟨_, _, rfl, rfl, _, _, rfl, rfl, rfl⟩

end Go.Proofs.YtnocdpnbafhmfaaGreatDoor.parseBinds
