/- The statement QueueOrder: whatever ways of putting some and taking some come in, the call returns true and leaves all that was there as it was. No condition: it is shown of all arguments and every world. The runs are reckoned by the evaluator of the texts Ev*, which is shown to follow the model. -/
import Derived.Test.YtijkclfajopjkaaRows
import Derived.Test.YtijkclfajopjkaaEvZ
import Derived.Test.YtijkclfajopjkaaQf
import Derived.WalkKit
import Derived.ProofKit
import Derived.OpenShut
import Derived.ChangeMaps5
import Derived.Deep.Slices
set_option maxRecDepth 100000
namespace Go.Proofs.Ytijkclfajopjkaa.queueOrder
open Go Go.ChangeShapes Go.WideShapes Go.ChangeAt Go.RowKit Go.ChangeMaps
open Ev qo

theorem add_add (a : Addr) (i j : Nat) : (a.add i).add j = a.add (i + j) := by
  obtain ⟨b, o, s⟩ := a
  unfold Addr.add
  by_cases hi : i = 0
  · subst hi
    by_cases hj : j = 0
    · subst hj; rfl
    · simp [hj]
  · by_cases hj : j = 0
    · subst hj; simp [hi]
    · have : i + j ≠ 0 := by omega
      simp [hi, hj, Nat.add_assoc]

theorem in_pairs {H : Type} {enc' : TypeId × Value → H} {w : World} {b0 : Nat} {v : Value} {d : DataW H} {ps : List MemPlace} (hv : Value.okWide P w .any b0 43 v) (h : DataW.Trod enc' P w 0 (fun _ => true) true 43 v d ps) :
    v = .slice none 0 0 ∨ ∃ (a : Addr) (len cap : Nat) (g : Nat → Nat), v = .slice (some a) len cap ∧ len ≤ cap ∧ (∀ j, g j ≤ 255) ∧ ∀ i, i < cap * 2 → w.cell? (a.add i) = some (.int .u8 ((g i : Nat) : Int)) := by
  have u43 : P.underlying 43 = some (.slice 44) := by kernel_rfl
  have u44 : P.underlying 44 = some (.array 2 5) := by kernel_rfl
  have u5 : P.underlying 5 = some (.int .u8) := by kernel_rfl
  have c44 : P.cellsOf 44 = 2 := by kernel_rfl
  have c5 : P.cellsOf 5 = 1 := by kernel_rfl
  obtain ⟨a, l, c, rfl⟩ := okWide_slice u43 hv
  obtain ⟨fuel, h⟩ := h
  rcases Go.Deep.open_slice u43 h with ⟨hcs, _⟩ | ⟨a', len, cap, m, n, D, Pl, hcs, _, hl, hm, hmm, _, hx⟩
  · simp only [Value.cells, List.cons.injEq, and_true] at hcs
    exact .inl hcs
  simp only [Value.cells, List.cons.injEq, and_true] at hcs
  have hmc : m = cap := by simpa using hmm
  subst hmc
  have each : ∀ i, i < m → ∃ q : Nat × Nat, q.1 ≤ 255 ∧ q.2 ≤ 255 ∧ w.cell? (a'.add (i * 2)) = some (.int .u8 ((q.1 : Nat) : Int)) ∧ w.cell? (a'.add (i * 2 + 1)) = some (.int .u8 ((q.2 : Nat) : Int)) := by
    intro i hi
    obtain ⟨cs', h1, h2⟩ := hx i hi
    rw [c44] at h1
    obtain ⟨_, hlen, hcell⟩ := World.cells?_some h1
    obtain ⟨xs, k, hk, hxy, hxz, hxl, hel⟩ := DataW.trod_array u44 h2
    match cs', hlen with
    | [v0, v1], _ =>
      have k0 : DataW.trod enc' P w 0 (fun _ => true) true k 5 [v0] = xs[0]? := by
        have := hel 0 (by omega)
        rwa [c5] at this
      have k1 : DataW.trod enc' P w 0 (fun _ => true) true k 5 [v1] = xs[1]? := by
        have := hel 1 (by omega)
        rwa [c5] at this
      rw [List.getElem?_eq_getElem (by omega)] at k0 k1
      obtain ⟨n0, e0, _, w0⟩ := DataW.trod_int u5 k0
      obtain ⟨n1, e1, _, w1⟩ := DataW.trod_int u5 k1
      simp only [List.cons.injEq, and_true] at e0 e1
      subst e0 e1
      have q0 := bounds_u8 w0
      have q1 := bounds_u8 w1
      have t0 := hcell 0 (by omega)
      have t1 := hcell 1 (by omega)
      rw [add_add] at t0 t1
      refine ⟨(n0.toNat, n1.toNat), by show n0.toNat ≤ 255; omega, by show n1.toNat ≤ 255; omega, ?_, ?_⟩
      · rw [show ((n0.toNat : Nat) : Int) = n0 by omega]
        simpa using t0
      · rw [show ((n1.toNat : Nat) : Int) = n1 by omega]
        simpa using t1
  obtain ⟨q, hq⟩ := Go.Deep.choose_lt each
  refine .inr ⟨a', len, m, fun j => if j < m * 2 then (if j % 2 = 0 then (q (j / 2)).1 else (q (j / 2)).2) else 0, hcs, hl, fun j => ?_, fun i hi => ?_⟩
  · show (if j < m * 2 then (if j % 2 = 0 then (q (j / 2)).1 else (q (j / 2)).2) else 0) ≤ 255
    split
    · obtain ⟨g1, g2, _, _⟩ := hq (j / 2) (by omega)
      split <;> assumption
    · omega
  · obtain ⟨_, _, g0, g1⟩ := hq (i / 2) (by omega)
    show _ = some (Value.int .u8 (((if i < m * 2 then (if i % 2 = 0 then (q (i / 2)).1 else (q (i / 2)).2) else 0 : Nat)) : Int))
    rw [if_pos hi]
    by_cases e : i % 2 = 0
    · rw [if_pos e]
      rw [show i / 2 * 2 = i by omega] at g0
      exact g0
    · rw [if_neg e]
      rw [show i / 2 * 2 + 1 = i by omega] at g1
      exact g1

theorem start_ok {b off len cap : Nat} {g : Nat → Nat} (K : AM → Prop) (hK : ∀ O, Q off cap g O 2 0 0 → K (L0 off len cap 0 0 0 O 2 .leaf)) :
    ∃ cmds, optK (startL P 4 [.slc 0 0 off len cap] [Inp.mk true b (.fn fun j => some (.int .u8 ((g (j - off) : Nat) : Int))) off (off + cap * 2)] .leaf) (Obl P 4 (fun v _ => v = .bool true) 0 K cmds) := by
  refine ⟨_, cast (st (fun v => v = .bool true) off len cap b .leaf K (fun k => .int .u8 ((g k : Nat) : Int)) (off + cap * 2)).symm (hK _ ⟨⟨by omega, by omega, fun j hj => by omega, .inl ⟨rfl, .nilp, .nilp, 0, _, _, rfl, fun k hk => ?_⟩⟩, rfl⟩)⟩
  rcases k with _ | _ | _ | _ | k <;> first | rfl | omega

theorem str_rel (R : Bij) (b : ByteArray) : VRel R (.str b.data.toList) (.string b) := by
  show Value.string b = .string ⟨b.data.toList.toArray⟩
  rw [Array.toArray_toList]

theorem nil_ok : Goal P 0 4 (fun v _ => v = .bool true) (startM P 4 [.nils 0 0] .leaf) := Goal.ofRun mix (n := 20000) (by kernel_rfl) fun _ => rfl
theorem sle_ok : Goal P 0 4 (fun v _ => v = .bool true) (startM P 4 [.sle] .leaf) := Goal.ofRun mix (n := 20000) (by kernel_rfl) fun _ => rfl

theorem walk (v : Value) (w : World) (hv : v = .slice none 0 0 ∨ ∃ (a : Addr) (len cap : Nat) (g : Nat → Nat), v = .slice (some a) len cap ∧ len ≤ cap ∧ (∀ j, g j ≤ 255) ∧ ∀ i, i < cap * 2 → w.cell? (a.add i) = some (.int .u8 ((g i : Nat) : Int))) :
    Calls P 4 #[v] w fun r w' => r = .returned (.bool true) ∧ Old w w' := by
  have hG : Globs .leaf w := fun g c e => by cases e
  rcases hv with rfl | ⟨a, len, cap, g, rfl, hl, hg, hc⟩
  · exact law_calls (a := _) (l := []) (args := [.nils 0 0]) (vs := [.slice none 0 0]) rfl hG (fun _ hx => absurd hx List.not_mem_nil) ⟨_, _, rfl, rfl, rfl⟩ nil_ok
  by_cases h0 : cap = 0
  · subst h0
    obtain rfl : len = 0 := by omega
    exact law_calls (a := _) (l := []) (args := [.sle]) (vs := [.slice (some a) 0 0]) rfl hG (fun _ hx => absurd hx List.not_mem_nil) ⟨_, _, rfl, ⟨a, rfl⟩, rfl⟩ sle_ok
  · obtain ⟨b, off, rfl, hi⟩ := inp_at (g := fun i => AV.int .u8 ((g i : Nat) : Int)) hc (fun i _ => rfl) (by omega)
    obtain ⟨cmds, e⟩ := start_ok (b := b) (off := off) (len := len) GG fun O hQ => l0 hl hg 60 0 0 0 2 O (by omega) (by omega) hQ
    exact law_ok mix e (fun _ h => h) (vs := [.slice (some ⟨b, off, none⟩) len cap]) hG (fun x hx => by rw [List.mem_singleton.1 hx]; exact hi) ⟨_, _, rfl, ⟨⟨b, 0, 0⟩, rfl, Nat.zero_le _, rfl⟩, rfl⟩

theorem own : ownKnob Try.prog.godebug = none := by kernel_rfl

/-! ### The row's step -/
theorem lifted (os : Os) (started : os.Started) (H : Type) (enc : TypeId × Value → H) :
    ReturnsInHanded {} Try.checked os 4 .any (Rows.queueOrderSpec.pre6 enc Try.prog Try.f4 Rows.queueOrderRow.domain false) (Rows.queueOrderSpec.post enc Try.prog Try.f4 false true false false) := by
  refine returnsInHanded_of_change (C := Try.checked) own started (by kernel_rfl) Try.func4
    (ChangeSpec.witness6 (enc := enc) (C := Try.checked) false ⟨#[], #[.slice none 0 0], []⟩ 8 (by kernel_rfl) (by kernel_rfl) (by kernel_rfl) (by kernel_rfl)) ?_
  intro W base args ds gs before hval0 hW hcnd _
  have hval : ∀ (j : Nat) t v, Try.f4.params[j]? = some t → args[j]? = some v → Value.okWide Try.prog W .any base t v := hval0
  have hW' := hW
  obtain ⟨p, q, hA0, hV, rfl, hfz, hnd⟩ := hW
  have hA : DataW.TrodAll enc Try.prog W 0 (fun _ => true) true Try.f4.params.toList args.toList ds p := hA0
  rw [Try.params4] at hA hval
  obtain ⟨v0, vs0, d0, ds0, p0, q0, hargs, rfl, rfl, h0, r0⟩ := trodAll_cons hA
  obtain ⟨rfl, rfl, rfl⟩ := trodAll_nil r0
  obtain rfl : args = #[v0] := by cases args; simp_all
  obtain ⟨rfl, rfl⟩ := trodVars_none hV
  refine (walk v0 W (in_pairs (hval 0 43 v0 rfl rfl) h0)).mono fun e W' ⟨he, hg⟩ => ?_
  subst he
  exact ⟨_, rfl, Ev.post_law (by kernel_rfl) (by kernel_rfl) rfl Try.underlying4 rfl hW' rfl hg⟩

theorem held : Rows.queueOrderRow.holds Try.pinned (OpenSpec.ofChange Rows.queueOrderSpec) :=
  OpenClaim.holds_of_wide 4 Try.f4 rfl rfl rfl rfl rfl rfl rfl ⟨rfl, rfl, rfl, rfl, rfl⟩ rfl rfl rfl rfl rfl (by kernel_rfl) Try.func4 (by kernel_rfl)
    (of_decide_eq_true (by kernel_rfl)) (by unfold Func.isWrapper; first | (rw [if_pos (by decide +kernel)]; kernel_rfl) | (rw [if_neg (by decide +kernel)]; exact ⟨rfl, rfl⟩))
    (fun os started H enc _ => lifted os started H enc)

/-- The statement. -/
theorem proved : Rows.QueueOrderSaid :=
  held
#print axioms proved
end Go.Proofs.Ytijkclfajopjkaa.queueOrder
