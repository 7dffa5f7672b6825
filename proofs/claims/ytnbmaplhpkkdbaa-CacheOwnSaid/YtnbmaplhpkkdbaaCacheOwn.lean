/- The statement CacheOwn: what was handed to a cache, and what was got, may be changed, and what is kept stays. No condition: it is shown of all numbers and every world. -/
import Derived.Test.YtnbmaplhpkkdbaaCacheB0
import Derived.Test.YtnbmaplhpkkdbaaCacheB1
import Derived.Test.YtnbmaplhpkkdbaaCacheB2
import Derived.Test.YtnbmaplhpkkdbaaCacheB3
import Derived.Test.YtnbmaplhpkkdbaaCacheB4
import Derived.Test.YtnbmaplhpkkdbaaCacheB5
import Derived.Test.YtnbmaplhpkkdbaaCacheB6
import Derived.Test.YtnbmaplhpkkdbaaCacheB7
import Derived.WalkKit
import Derived.ProofKit
import Derived.OpenShut
import Derived.ChangeMaps5
set_option maxRecDepth 100000
namespace Go.Proofs.Ytnbmaplhpkkdbaa.cacheOwn
open Go Go.ChangeShapes Go.WideShapes Go.ChangeAt Go.RowKit Go.ChangeMaps
open Ev

theorem ran (n : Nat) (h : n ≤ 255) : runA P 3 8000 (M (Int.ofNat n)) = some (.bool true) := by
  by_cases h0 : n < 8
  · exact chk_run 8 0 r0 n (by omega) (by omega)
  by_cases h8 : n < 16
  · exact chk_run 8 8 r8 n (by omega) (by omega)
  by_cases h16 : n < 24
  · exact chk_run 8 16 r16 n (by omega) (by omega)
  by_cases h24 : n < 32
  · exact chk_run 8 24 r24 n (by omega) (by omega)
  by_cases h32 : n < 40
  · exact chk_run 8 32 r32 n (by omega) (by omega)
  by_cases h40 : n < 48
  · exact chk_run 8 40 r40 n (by omega) (by omega)
  by_cases h48 : n < 56
  · exact chk_run 8 48 r48 n (by omega) (by omega)
  by_cases h56 : n < 64
  · exact chk_run 8 56 r56 n (by omega) (by omega)
  by_cases h64 : n < 72
  · exact chk_run 8 64 r64 n (by omega) (by omega)
  by_cases h72 : n < 80
  · exact chk_run 8 72 r72 n (by omega) (by omega)
  by_cases h80 : n < 88
  · exact chk_run 8 80 r80 n (by omega) (by omega)
  by_cases h88 : n < 96
  · exact chk_run 8 88 r88 n (by omega) (by omega)
  by_cases h96 : n < 104
  · exact chk_run 8 96 r96 n (by omega) (by omega)
  by_cases h104 : n < 112
  · exact chk_run 8 104 r104 n (by omega) (by omega)
  by_cases h112 : n < 120
  · exact chk_run 8 112 r112 n (by omega) (by omega)
  by_cases h120 : n < 128
  · exact chk_run 8 120 r120 n (by omega) (by omega)
  by_cases h128 : n < 136
  · exact chk_run 8 128 r128 n (by omega) (by omega)
  by_cases h136 : n < 144
  · exact chk_run 8 136 r136 n (by omega) (by omega)
  by_cases h144 : n < 152
  · exact chk_run 8 144 r144 n (by omega) (by omega)
  by_cases h152 : n < 160
  · exact chk_run 8 152 r152 n (by omega) (by omega)
  by_cases h160 : n < 168
  · exact chk_run 8 160 r160 n (by omega) (by omega)
  by_cases h168 : n < 176
  · exact chk_run 8 168 r168 n (by omega) (by omega)
  by_cases h176 : n < 184
  · exact chk_run 8 176 r176 n (by omega) (by omega)
  by_cases h184 : n < 192
  · exact chk_run 8 184 r184 n (by omega) (by omega)
  by_cases h192 : n < 200
  · exact chk_run 8 192 r192 n (by omega) (by omega)
  by_cases h200 : n < 208
  · exact chk_run 8 200 r200 n (by omega) (by omega)
  by_cases h208 : n < 216
  · exact chk_run 8 208 r208 n (by omega) (by omega)
  by_cases h216 : n < 224
  · exact chk_run 8 216 r216 n (by omega) (by omega)
  by_cases h224 : n < 232
  · exact chk_run 8 224 r224 n (by omega) (by omega)
  by_cases h232 : n < 240
  · exact chk_run 8 232 r232 n (by omega) (by omega)
  by_cases h240 : n < 248
  · exact chk_run 8 240 r240 n (by omega) (by omega)
  exact chk_run 8 248 r248 n (by omega) (by omega)

theorem begins (n : Int) (K : AM → Prop) : optK (startL P 3 [.int .u8 n] [] .leaf) (Obl P 3 Q 0 K []) = K (startM P 3 [.int .u8 n] .leaf) := by kernel_rfl

theorem walk (n : Int) (hn : (Lit.int .u8 n).wf = true) (w : World) : Calls P 3 #[.int .u8 n] w fun r w' => r = .returned (.bool true) ∧ Old w w' := by
  obtain ⟨h0, h1⟩ := bounds_u8 hn
  obtain ⟨k, rfl⟩ := Int.eq_ofNat_of_zero_le h0
  have g : Goal P 0 3 Q (M (k : Int)) := Goal.ofRun mix (n := 8000) (v := .bool true) (ran k (by omega)) fun _ => rfl
  have hs : Goal P 0 3 Q (startM P 3 [.int .u8 (k : Int)] .leaf) := Obl.goal (K := Goal P 0 3 Q) mix (fun _ h => h) (cast (start k _).symm ⟨works, g⟩)
  exact law_ok (K := Goal P 0 3 Q) mix (cast (begins (k : Int) _).symm hs) (fun _ h => h) (vs := [.int .u8 (k : Int)]) (fun g c e => by cases e) (fun x hx => absurd hx List.not_mem_nil) ⟨_, _, rfl, rfl, rfl⟩

theorem own : ownKnob Try.prog.godebug = none := by kernel_rfl

/-! ### The row's step -/
theorem lifted (os : Os) (started : os.Started) (H : Type) (enc : TypeId × Value → H) :
    ReturnsInHanded {} Try.checked os 3 .any (Rows.cacheOwnSpec.pre6 enc Try.prog Try.f3 Rows.cacheOwnRow.domain false) (Rows.cacheOwnSpec.post enc Try.prog Try.f3 false true false false) := by
  refine returnsInHanded_of_change (C := Try.checked) own started (by kernel_rfl) Try.func3
    (ChangeSpec.witness6 (enc := enc) (C := Try.checked) false ⟨#[], #[.int .u8 0], []⟩ 8 (by kernel_rfl) (by kernel_rfl) (by kernel_rfl) (by kernel_rfl)) ?_
  intro W base args ds gs before hval0 hW hcnd _
  have hval : ∀ (j : Nat) t v, Try.f3.params[j]? = some t → args[j]? = some v → Value.okWide Try.prog W .any base t v := hval0
  have hW' := hW
  obtain ⟨p, q, hA0, hV, rfl, hfz, hnd⟩ := hW
  have hA : DataW.TrodAll enc Try.prog W 0 (fun _ => true) true Try.f3.params.toList args.toList ds p := hA0
  rw [Try.params3] at hA hval
  obtain ⟨v0, vs0, d0, ds0, p0, q0, hargs, rfl, rfl, h0, r0⟩ := trodAll_cons hA
  obtain ⟨rfl, rfl, rfl⟩ := trodAll_nil r0
  obtain rfl : args = #[v0] := by cases args; simp_all
  obtain ⟨rfl, rfl⟩ := trodVars_none hV
  obtain ⟨a0, rfl, rfl, rfl, w0⟩ := open_int Try.underlying5 (hval 0 5 v0 rfl rfl) h0
  refine (walk a0 w0 W).mono fun e W' ⟨he, hg⟩ => ?_
  subst he
  exact ⟨_, rfl, Ev.post_law (by kernel_rfl) (by kernel_rfl) rfl Try.underlying4 rfl hW' rfl hg⟩

theorem held : Rows.cacheOwnRow.holds Try.pinned (OpenSpec.ofChange Rows.cacheOwnSpec) :=
  OpenClaim.holds_of_wide 3 Try.f3 rfl rfl rfl rfl rfl rfl rfl ⟨rfl, rfl, rfl, rfl, rfl⟩ rfl rfl rfl rfl rfl (by kernel_rfl) Try.func3 (by kernel_rfl)
    (of_decide_eq_true (by kernel_rfl)) (by unfold Func.isWrapper; first | (rw [if_pos (by decide +kernel)]; kernel_rfl) | (rw [if_neg (by decide +kernel)]; exact ⟨rfl, rfl⟩))
    (fun os started H enc _ => lifted os started H enc)

/-- The statement. -/
theorem proved : Rows.CacheOwnSaid :=
  held
#print axioms proved
end Go.Proofs.Ytnbmaplhpkkdbaa.cacheOwn
