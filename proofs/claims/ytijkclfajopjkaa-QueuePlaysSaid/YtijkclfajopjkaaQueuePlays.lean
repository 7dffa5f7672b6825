/- The statement QueuePlays: whatever requests and acts come in, the call returns true and leaves all that was there as it was: whatever is put and taken, what is answered, and how many wait, is as the document says. No condition: it is shown of all arguments and every world. The runs are reckoned by the evaluator of the texts Ev*, which is shown to follow the model. -/
import Derived.Test.YtijkclfajopjkaaRows
import Derived.Test.YtijkclfajopjkaaEvZ
import Derived.Test.YtijkclfajopjkaaQl
import Derived.WalkKit
import Derived.ProofKit
import Derived.OpenShut
import Derived.ChangeMaps5
import Derived.Deep.Slices
import Derived.Deep.Strs
set_option maxRecDepth 100000
set_option linter.unusedVariables false
namespace Go.Proofs.Ytijkclfajopjkaa.queuePlays
open Go Go.ChangeShapes Go.WideShapes Go.ChangeAt Go.RowKit Go.ChangeMaps
open Ev qo

theorem q_st (R : AV → Prop) (b : Nat) (b2 : Nat) (off : Nat) (n : Nat) (len : Nat) (cap : Nat) (hi : Nat) (off2 : Nat) (len2 : Nat) (cap2 : Nat) (hi2 : Nat) (cell : Nat → AV) (cell2 : Nat → AV) (G : T (T AV)) (K : AM → Prop) : optK ((startL P 3 [.slc 0 0 off len cap, .slc 1 0 off2 len2 cap2] [⟨true, b, .fn (fun j => some (cell (j - off))), off, hi⟩, ⟨true, b2, .fn (fun j => some (cell2 (j - off2))), off2, hi2⟩] G)) (Obl P 3 (fun v _ => R v) 0 K [.run 10, .op, .run 41, .keep [0, 1, 5, 6, 7, 8], .slot 0 (.slc 0 0 off n cap)]) = ((((0 : Int) ≤ if decide ((40 : Int) < (↑len : Int)) = true then (40 : Int) else (↑len : Int)) ∧ (if decide ((40 : Int) < (↑len : Int)) = true then (40 : Int) else (↑len : Int)) ≤ (↑cap : Int)) ∧ (AV.slc (0) (0) (if cap = 0 then off else off) ((if decide ((40 : Int) < (↑len : Int)) = true then (40 : Int) else (↑len : Int)).toNat - 0) (cap - 0) = AV.slc (0) (0) off n cap) ∧ K (QL (AV.slc (0) (0) off n cap) off2 len2 cap2 (0) (0) (((T.leaf.node (some (AObj.cells (T.leaf.node (some (.nils 0 0)) T.leaf) (1) (29) (0) (0) (1) (0) false T.leaf)) T.leaf).node (some (AObj.ro (T.fn fun j => some (cell2 (j - off2))) off2 hi2)) T.leaf).node (some (AObj.ro (T.fn fun j => some (cell (j - off))) off hi)) (T.leaf.node (some (AObj.cells (((T.leaf.node (some (AV.int IntKind.i64 (0))) T.leaf).node (some AV.nilp) T.leaf).node (some AV.nilp) (T.leaf.node (some (AV.int IntKind.i64 (0))) T.leaf)) (4) (48) (0) (0) (1) (0) false T.leaf)) T.leaf)) (4) G)) := by kernel_rfl

theorem q_stn (R : AV → Prop) (b2 : Nat) (off2 : Nat) (len2 : Nat) (cap2 : Nat) (hi2 : Nat) (cell2 : Nat → AV) (G : T (T AV)) (K : AM → Prop) : optK ((startL P 3 [.nils 0 0, .slc 1 0 off2 len2 cap2] [⟨false, 0, .leaf, 0, 0⟩, ⟨true, b2, .fn (fun j => some (cell2 (j - off2))), off2, hi2⟩] G)) (Obl P 3 (fun v _ => R v) 0 K [.run 52, .keep [0, 1, 5, 6, 7, 8]]) = (K (QL (.nils 0 0) off2 len2 cap2 (0) (0) (((T.leaf.node (some (AObj.cells (T.leaf.node (some (.nils 0 0)) T.leaf) (1) (29) (0) (0) (1) (0) false T.leaf)) T.leaf).node (some (AObj.ro (T.fn fun j => some (cell2 (j - off2))) off2 hi2)) T.leaf).node none (T.leaf.node (some (AObj.cells (((T.leaf.node (some (AV.int IntKind.i64 (0))) T.leaf).node (some AV.nilp) T.leaf).node (some AV.nilp) (T.leaf.node (some (AV.int IntKind.i64 (0))) T.leaf)) (4) (48) (0) (0) (1) (0) false T.leaf)) T.leaf)) (4) G)) := by kernel_rfl

theorem q_sts (R : AV → Prop) (b2 : Nat) (off2 : Nat) (len2 : Nat) (cap2 : Nat) (hi2 : Nat) (cell2 : Nat → AV) (G : T (T AV)) (K : AM → Prop) : optK ((startL P 3 [.sle, .slc 1 0 off2 len2 cap2] [⟨false, 0, .leaf, 0, 0⟩, ⟨true, b2, .fn (fun j => some (cell2 (j - off2))), off2, hi2⟩] G)) (Obl P 3 (fun v _ => R v) 0 K [.run 52, .keep [0, 1, 5, 6, 7, 8]]) = (K (QL AV.sle off2 len2 cap2 (0) (0) (((T.leaf.node (some (AObj.cells (T.leaf.node (some (.nils 0 0)) T.leaf) (1) (29) (0) (0) (1) (0) false T.leaf)) T.leaf).node (some (AObj.ro (T.fn fun j => some (cell2 (j - off2))) off2 hi2)) T.leaf).node none (T.leaf.node (some (AObj.cells (((T.leaf.node (some (AV.int IntKind.i64 (0))) T.leaf).node (some AV.nilp) T.leaf).node (some AV.nilp) (T.leaf.node (some (AV.int IntKind.i64 (0))) T.leaf)) (4) (48) (0) (0) (1) (0) false T.leaf)) T.leaf)) (4) G)) := by kernel_rfl

theorem q_sen (R : AV → Prop) (b : Nat) (off : Nat) (len : Nat) (cap : Nat) (hi : Nat) (cell : Nat → AV) (G : T (T AV)) (_K : AM → Prop) : optK ((startL P 3 [.slc 0 0 off len cap, .nils 0 0] [⟨true, b, .fn (fun j => some (cell (j - off))), off, hi⟩] G)) (Obl P 3 (fun v _ => R v) 0 _K [.run 10, .op, .run 58, .callv [] (.bool true), .run 3, .done]) = ((((0 : Int) ≤ if decide ((40 : Int) < (↑len : Int)) = true then (40 : Int) else (↑len : Int)) ∧ (if decide ((40 : Int) < (↑len : Int)) = true then (40 : Int) else (↑len : Int)) ≤ (↑cap : Int)) ∧ (Goal P (0) 14 (fun x x_1 => x = AV.bool true) (startM P 14 [] G)) ∧ (R (.bool true))) := by kernel_rfl

theorem q_ses (R : AV → Prop) (b : Nat) (off : Nat) (len : Nat) (cap : Nat) (hi : Nat) (cell : Nat → AV) (G : T (T AV)) (_K : AM → Prop) : optK ((startL P 3 [.slc 0 0 off len cap, .sle] [⟨true, b, .fn (fun j => some (cell (j - off))), off, hi⟩] G)) (Obl P 3 (fun v _ => R v) 0 _K [.run 10, .op, .run 58, .callv [] (.bool true), .run 3, .done]) = ((((0 : Int) ≤ if decide ((40 : Int) < (↑len : Int)) = true then (40 : Int) else (↑len : Int)) ∧ (if decide ((40 : Int) < (↑len : Int)) = true then (40 : Int) else (↑len : Int)) ≤ (↑cap : Int)) ∧ (Goal P (0) 14 (fun x x_1 => x = AV.bool true) (startM P 14 [] G)) ∧ (R (.bool true))) := by kernel_rfl

theorem in_mades {H : Type} {enc' : TypeId × Value → H} {w : World} {b0 : Nat} {v : Value} {d : DataW H} {ps : List MemPlace} (hv : Value.okWide P w .any b0 22 v) (h : DataW.Trod enc' P w 0 (fun _ => true) true 22 v d ps) :
    v = .slice none 0 0 ∨ ∃ (a : Addr) (len cap : Nat) (md : Nat → Md), v = .slice (some a) len cap ∧ len ≤ cap ∧ ∀ i, i < cap * 5 → ∃ y, w.cell? (a.add i) = some y ∧ VRel (fun _ _ => none) (mcell md i) y := by
  have u22 : P.underlying 22 = some (.slice 36) := by kernel_rfl
  have u3 : P.underlying 3 = some (.int .i64) := by kernel_rfl
  have u9 : P.underlying 9 = some .string := by kernel_rfl
  have u30 : P.underlying 30 = some (.int .u64) := by kernel_rfl
  have u4 : P.underlying 4 = some .bool := by kernel_rfl
  have c36 : P.cellsOf 36 = 5 := by kernel_rfl
  have c3 : P.cellsOf 3 = 1 := by kernel_rfl
  have c9 : P.cellsOf 9 = 1 := by kernel_rfl
  have c30 : P.cellsOf 30 = 1 := by kernel_rfl
  have c4 : P.cellsOf 4 = 1 := by kernel_rfl
  obtain ⟨fs, u36, f0, f1, f2, f3, f4⟩ : ∃ fs : Array Field, P.underlying 36 = some (.struct fs) ∧ (fs[0]?.map fun f => (f.type, f.offset)) = some (3, 0) ∧ (fs[1]?.map fun f => (f.type, f.offset)) = some (9, 1) ∧ (fs[2]?.map fun f => (f.type, f.offset)) = some (9, 2) ∧ (fs[3]?.map fun f => (f.type, f.offset)) = some (30, 3) ∧ (fs[4]?.map fun f => (f.type, f.offset)) = some (4, 4) :=
    ⟨(match P.underlying 36 with | some (.struct fs) => fs | _ => #[]), by kernel_rfl, by kernel_rfl, by kernel_rfl, by kernel_rfl, by kernel_rfl, by kernel_rfl⟩
  obtain ⟨a, l, c, rfl⟩ := okWide_slice u22 hv
  obtain ⟨fuel, h⟩ := h
  rcases Go.Deep.open_slice u22 h with ⟨hcs, _⟩ | ⟨a', len, cap, m, n, D, Pl, hcs, _, hl, hm, hmm, _, hx⟩
  · simp only [Value.cells, List.cons.injEq, and_true] at hcs
    exact .inl hcs
  simp only [Value.cells, List.cons.injEq, and_true] at hcs
  have hmc : m = cap := by simpa using hmm
  subst hmc
  have each : ∀ i, i < m → ∃ q : Md, ∀ u, u < 5 → ∃ y, w.cell? (a'.add (i * 5 + u)) = some y ∧ VRel (fun _ _ => none) ((mrow q).getD u undefA) y := by
    intro i hi
    obtain ⟨cs', h1, h2⟩ := hx i hi
    rw [c36] at h1
    obtain ⟨_, hlen, hcell⟩ := World.cells?_some h1
    obtain ⟨xs, k, hk, hxy, _, hxl, hf⟩ := DataW.trod_struct u36 h2
    match cs', hlen with
    | [v0, v1, v2, v3, v4], _ =>
      obtain ⟨g0, q0, r0⟩ := Option.map_eq_some_iff.1 f0
      obtain ⟨g1, q1, r1⟩ := Option.map_eq_some_iff.1 f1
      obtain ⟨g2, q2, r2⟩ := Option.map_eq_some_iff.1 f2
      obtain ⟨g3, q3, r3⟩ := Option.map_eq_some_iff.1 f3
      obtain ⟨g4, q4, r4⟩ := Option.map_eq_some_iff.1 f4
      simp only [Prod.mk.injEq] at r0 r1 r2 r3 r4
      have hn : 4 < xs.length := by
        rw [hxl]
        exact (Array.getElem?_eq_some_iff.1 q4).1
      have k0 := hf 0 g0 q0
      have k1 := hf 1 g1 q1
      have k2 := hf 2 g2 q2
      have k3 := hf 3 g3 q3
      have k4 := hf 4 g4 q4
      rw [r0.1, r0.2, c3, List.getElem?_eq_getElem (by omega)] at k0
      rw [r1.1, r1.2, c9, List.getElem?_eq_getElem (by omega)] at k1
      rw [r2.1, r2.2, c9, List.getElem?_eq_getElem (by omega)] at k2
      rw [r3.1, r3.2, c30, List.getElem?_eq_getElem (by omega)] at k3
      rw [r4.1, r4.2, c4, List.getElem?_eq_getElem (by omega)] at k4
      obtain ⟨n0, e0, _, _⟩ := DataW.trod_int u3 k0
      obtain ⟨n1, e1, _, _⟩ := DataW.trod_string u9 k1
      obtain ⟨n2, e2, _, _⟩ := DataW.trod_string u9 k2
      obtain ⟨n3, e3, _, _⟩ := DataW.trod_int u30 k3
      obtain ⟨n4, e4, _⟩ := DataW.trod_bool u4 k4
      obtain rfl : v0 = Value.int .i64 n0 := (List.cons.inj (show [v0] = [Value.int .i64 n0] from e0)).1
      obtain rfl : v1 = Value.string n1 := (List.cons.inj (show [v1] = [Value.string n1] from e1)).1
      obtain rfl : v2 = Value.string n2 := (List.cons.inj (show [v2] = [Value.string n2] from e2)).1
      obtain rfl : v3 = Value.int .u64 n3 := (List.cons.inj (show [v3] = [Value.int .u64 n3] from e3)).1
      obtain rfl : v4 = Value.bool n4 := (List.cons.inj (show [v4] = [Value.bool n4] from e4)).1
      refine ⟨(n0, n1.data.toList, n2.data.toList, n3, n4), fun u hu => ?_⟩
      have tt := hcell u hu
      rw [Go.Deep.add_add] at tt
      rcases u with _ | _ | _ | _ | _ | u
      · exact ⟨_, tt, rfl⟩
      · exact ⟨_, tt, by show Value.string n1 = .string ⟨n1.data.toList.toArray⟩; rw [Array.toArray_toList]⟩
      · exact ⟨_, tt, by show Value.string n2 = .string ⟨n2.data.toList.toArray⟩; rw [Array.toArray_toList]⟩
      · exact ⟨_, tt, rfl⟩
      · exact ⟨_, tt, rfl⟩
      · omega
  obtain ⟨q, hq⟩ := Go.Deep.choose_lt each
  refine .inr ⟨a', len, m, q, hcs, hl, fun i hi => ?_⟩
  obtain ⟨y, h1, h2⟩ := hq (i / 5) (by omega) (i % 5) (by omega)
  rw [show i / 5 * 5 + i % 5 = i by omega] at h1
  exact ⟨y, h1, h2⟩

/-- The forms of the requests: none; a row without room; a row. -/
theorem mades_form {w : World} {v : Value} (h : v = .slice none 0 0 ∨ ∃ (a : Addr) (len cap : Nat) (md : Nat → Md), v = .slice (some a) len cap ∧ len ≤ cap ∧ ∀ i, i < cap * 5 → ∃ y, w.cell? (a.add i) = some y ∧ VRel (fun _ _ => none) (mcell md i) y) :
    v = .slice none 0 0 ∨ (∃ a, v = .slice (some a) 0 0) ∨ ∃ (b off len cap : Nat) (md : Nat → Md), v = .slice (some ⟨b, off, none⟩) len cap ∧ len ≤ cap ∧ (Inp.mk true b (.fn fun j => some (mcell md (j - off))) off (off + cap * 5)).holds w := by
  rcases h with h | ⟨a, len, cap, md, rfl, hl, hc⟩
  · exact .inl h
  by_cases h0 : cap = 0
  · subst h0
    obtain rfl : len = 0 := by omega
    exact .inr (.inl ⟨a, rfl⟩)
  · obtain ⟨f, hf⟩ := Go.Deep.choose_lt hc
    obtain ⟨b, off, rfl, hi⟩ := inp_at (f := f) (g := fun i => mcell md i) (fun i hi => (hf i hi).1) (fun i hi => (hf i hi).2) (by omega)
    exact .inr (.inr ⟨b, off, len, cap, md, rfl, hl, hi⟩)

/-- The forms of the acts. -/
theorem acts_form {H : Type} {enc' : TypeId × Value → H} {w : World} {b0 : Nat} {v : Value} {d : DataW H} {ps : List MemPlace} (hv : Value.okWide P w .any b0 23 v) (h : DataW.Trod enc' P w 0 (fun _ => true) true 23 v d ps) :
    v = .slice none 0 0 ∨ (∃ a, v = .slice (some a) 0 0) ∨ ∃ (b off len cap : Nat) (ga : Nat → Nat), v = .slice (some ⟨b, off, none⟩) len cap ∧ len ≤ cap ∧ (∀ j, ga j ≤ 255) ∧ (Inp.mk true b (.fn fun j => some (.int .u8 ((ga (j - off) : Nat) : Int))) off (off + cap)).holds w := by
  rcases in_ints (e := 5) (k := .u8) (by kernel_rfl) (by kernel_rfl) (by kernel_rfl) hv h with rfl | ⟨a, len, cap, zs, rfl, hl, hm, hz, hc, hwf⟩
  · exact .inl rfl
  by_cases h0 : cap = 0
  · subst h0
    obtain rfl : len = 0 := by omega
    exact .inr (.inl ⟨a, rfl⟩)
  · have hb : ∀ i, i < cap → 0 ≤ zs.getD i 0 ∧ zs.getD i 0 ≤ 255 := fun i hi => by
      have hm : zs.getD i 0 ∈ zs := by
        rw [List.getD_eq_getElem?_getD, List.getElem?_eq_getElem (by omega)]
        exact List.getElem_mem _
      have := bounds_u8 (hwf _ hm)
      omega
    obtain ⟨b, off, rfl, hi⟩ := inp_at (g := fun i => AV.int .u8 (((if i < cap then (zs.getD i 0).toNat else 0 : Nat)) : Int)) (f := fun i => .int .u8 (zs.getD i 0)) (n := cap) (fun i hi => hc i (by omega)) (fun i hi => by
      show Value.int .u8 (zs.getD i 0) = .int .u8 (((if i < cap then (zs.getD i 0).toNat else 0 : Nat)) : Int)
      rw [if_pos hi]
      have := hb i hi
      congr 1
      omega) (by omega)
    refine .inr (.inr ⟨b, off, len, cap, fun i => if i < cap then (zs.getD i 0).toNat else 0, rfl, hl, fun j => ?_, hi⟩)
    show (if j < cap then (zs.getD j 0).toNat else 0) ≤ 255
    split
    · rename_i hj
      have := hb j hj
      omega
    · omega

theorem qi_start {md : Nat → Md} {n : Nat} {o0 o1 : Option AObj} (O : T AObj) (h2 : O.get 2 = some (.cells (.node (.node (.node .leaf (some (.int .i64 0)) .leaf) (some .nilp) .leaf) (some .nilp) (.node .leaf (some (.int .i64 0)) .leaf)) 4 48 0 0 1 0 false .leaf))
    (h3 : O.get 3 = some (.cells (.node .leaf (some (.nils 0 0)) .leaf) 1 29 0 0 1 0 false .leaf)) : QI O md n [0, 1, 3] O 4 0 0 0 0 0 := by
  refine ⟨⟨by omega, by simp, fun j hj => ?_, .inl ⟨rfl, .nilp, .nilp, 0, _, _, h2, fun k hk => ?_⟩⟩, by simp, ⟨by omega, ⟨_, _, h3, fun k hk => ?_⟩, fun h => absurd rfl h⟩, rfl, rfl⟩
  · simp only [List.mem_cons, List.not_mem_nil, or_false] at hj
    omega
  · rcases k with _ | _ | _ | _ | k <;> first | rfl | omega
  · rcases k with _ | k <;> first | rfl | (exact absurd hk (by simp))

theorem cut40 {len cap : Nat} (hl : len ≤ cap) : ((0 : Int) ≤ (if decide ((40 : Int) < (len : Int)) = true then (40 : Int) else (len : Int)) ∧ (if decide ((40 : Int) < (len : Int)) = true then (40 : Int) else (len : Int)) ≤ (cap : Int)) ∧
    (if decide ((40 : Int) < (len : Int)) = true then (40 : Int) else (len : Int)).toNat = min len 40 := by
  by_cases h : (40 : Int) < (len : Int)
  · rw [decide_eq_true h, if_pos rfl]; omega
  · rw [decide_eq_false h, if_neg (by simp)]; omega

abbrev R0 (v : AV) : Prop := v = AV.bool true

theorem cc1 : Goal P 0 3 (fun v _ => v = .bool true) (startM P 3 [.nils 0 0, .nils 0 0] .leaf) := Goal.ofRun mix (n := 20000) (by kernel_rfl) fun _ => rfl
theorem cc2 : Goal P 0 3 (fun v _ => v = .bool true) (startM P 3 [.nils 0 0, .sle] .leaf) := Goal.ofRun mix (n := 20000) (by kernel_rfl) fun _ => rfl
theorem cc3 : Goal P 0 3 (fun v _ => v = .bool true) (startM P 3 [.sle, .nils 0 0] .leaf) := Goal.ofRun mix (n := 20000) (by kernel_rfl) fun _ => rfl
theorem cc4 : Goal P 0 3 (fun v _ => v = .bool true) (startM P 3 [.sle, .sle] .leaf) := Goal.ofRun mix (n := 20000) (by kernel_rfl) fun _ => rfl

theorem none_holds (w : World) : (Inp.mk false 0 .leaf 0 0).holds w := fun h => by cases h

theorem walk (v u : Value) (w : World) (hv : v = .slice none 0 0 ∨ (∃ a, v = .slice (some a) 0 0) ∨ ∃ (b off len cap : Nat) (md : Nat → Md), v = .slice (some ⟨b, off, none⟩) len cap ∧ len ≤ cap ∧ (Inp.mk true b (.fn fun j => some (mcell md (j - off))) off (off + cap * 5)).holds w)
    (hu : u = .slice none 0 0 ∨ (∃ a, u = .slice (some a) 0 0) ∨ ∃ (b off len cap : Nat) (ga : Nat → Nat), u = .slice (some ⟨b, off, none⟩) len cap ∧ len ≤ cap ∧ (∀ j, ga j ≤ 255) ∧ (Inp.mk true b (.fn fun j => some (.int .u8 ((ga (j - off) : Nat) : Int))) off (off + cap)).holds w) :
    Calls P 3 #[v, u] w fun r w' => r = .returned (.bool true) ∧ Old w w' := by
  have hG : Globs .leaf w := fun g c e => by cases e
  rcases hu with rfl | ⟨a2, rfl⟩ | ⟨b2, off2, len2, cap2, ga, rfl, hl2, hga, hi2⟩
  · rcases hv with rfl | ⟨a, rfl⟩ | ⟨b, off, len, cap, md, rfl, hl, hi⟩
    · exact law_calls (a := _) (l := []) (args := [.nils 0 0, .nils 0 0]) (vs := [.slice none 0 0, .slice none 0 0]) rfl hG (fun _ hx => absurd hx List.not_mem_nil) ⟨_, _, rfl, rfl, _, _, rfl, rfl, rfl⟩ cc1
    · exact law_calls (a := _) (l := []) (args := [.sle, .nils 0 0]) (vs := [.slice (some a) 0 0, .slice none 0 0]) rfl hG (fun _ hx => absurd hx List.not_mem_nil) ⟨_, _, rfl, ⟨a, rfl⟩, _, _, rfl, rfl, rfl⟩ cc3
    · obtain ⟨q1, q2⟩ := cut40 hl
      exact law_ok mix (K := GP) (cast (q_sen R0 b off len cap (off + cap * 5) (fun j => mcell md j) .leaf GP).symm ⟨q1, works_ok, rfl⟩) (fun _ h => h) (vs := [.slice (some ⟨b, off, none⟩) len cap, .slice none 0 0]) hG (fun x hx => by rw [List.mem_singleton.1 hx]; exact hi) ⟨_, _, rfl, ⟨⟨b, 0, 0⟩, rfl, Nat.zero_le _, rfl⟩, _, _, rfl, rfl, rfl⟩
  · rcases hv with rfl | ⟨a, rfl⟩ | ⟨b, off, len, cap, md, rfl, hl, hi⟩
    · exact law_calls (a := _) (l := []) (args := [.nils 0 0, .sle]) (vs := [.slice none 0 0, .slice (some a2) 0 0]) rfl hG (fun _ hx => absurd hx List.not_mem_nil) ⟨_, _, rfl, rfl, _, _, rfl, ⟨a2, rfl⟩, rfl⟩ cc2
    · exact law_calls (a := _) (l := []) (args := [.sle, .sle]) (vs := [.slice (some a) 0 0, .slice (some a2) 0 0]) rfl hG (fun _ hx => absurd hx List.not_mem_nil) ⟨_, _, rfl, ⟨a, rfl⟩, _, _, rfl, ⟨a2, rfl⟩, rfl⟩ cc4
    · obtain ⟨q1, q2⟩ := cut40 hl
      exact law_ok mix (K := GP) (cast (q_ses R0 b off len cap (off + cap * 5) (fun j => mcell md j) .leaf GP).symm ⟨q1, works_ok, rfl⟩) (fun _ h => h) (vs := [.slice (some ⟨b, off, none⟩) len cap, .slice (some a2) 0 0]) hG (fun x hx => by rw [List.mem_singleton.1 hx]; exact hi) ⟨_, _, rfl, ⟨⟨b, 0, 0⟩, rfl, Nat.zero_le _, rfl⟩, _, _, rfl, ⟨a2, rfl⟩, rfl⟩
  · rcases hv with rfl | ⟨a, rfl⟩ | ⟨b, off, len, cap, md, rfl, hl, hi⟩
    · refine law_ok mix (K := GP) (cast (q_stn R0 b2 off2 len2 cap2 (off2 + cap2) (fun j => .int .u8 ((ga j : Nat) : Int)) .leaf GP).symm ?_) (fun _ h => h) (vs := [.slice none 0 0, .slice (some ⟨b2, off2, none⟩) len2 cap2]) hG (fun x hx => ?_) ⟨_, _, rfl, rfl, _, _, rfl, ⟨⟨b2, 0, 0⟩, rfl, Nat.zero_le _, rfl⟩, rfl⟩
      · exact w_all (md := fun _ => (0, [], [], 0, false)) (n := 1) (off := 0) (cap := 0) ⟨hl2, hga, rfl⟩ (.inr (.inr (.inl rfl))) 500 0 0 0 4 0 _ [0, 1, 3] (by omega) (by omega) (qi_start (o0 := none) (o1 := none) _ rfl rfl) (.inl rfl)
      · rcases List.mem_cons.1 hx with rfl | hx
        · exact none_holds w
        · rw [List.mem_singleton.1 hx]; exact hi2
    · refine law_ok mix (K := GP) (cast (q_sts R0 b2 off2 len2 cap2 (off2 + cap2) (fun j => .int .u8 ((ga j : Nat) : Int)) .leaf GP).symm ?_) (fun _ h => h) (vs := [.slice (some a) 0 0, .slice (some ⟨b2, off2, none⟩) len2 cap2]) hG (fun x hx => ?_) ⟨_, _, rfl, ⟨a, rfl⟩, _, _, rfl, ⟨⟨b2, 0, 0⟩, rfl, Nat.zero_le _, rfl⟩, rfl⟩
      · exact w_all (md := fun _ => (0, [], [], 0, false)) (n := 1) (off := 0) (cap := 0) ⟨hl2, hga, rfl⟩ (.inr (.inr (.inr rfl))) 500 0 0 0 4 0 _ [0, 1, 3] (by omega) (by omega) (qi_start (o0 := none) (o1 := none) _ rfl rfl) (.inl rfl)
      · rcases List.mem_cons.1 hx with rfl | hx
        · exact none_holds w
        · rw [List.mem_singleton.1 hx]; exact hi2
    · obtain ⟨q1, q2⟩ := cut40 hl
      have hm : AV.slc 0 0 (if cap = 0 then off else off) ((if decide ((40 : Int) < (len : Int)) = true then (40 : Int) else (len : Int)).toNat - 0) (cap - 0) = AV.slc 0 0 off (min len 40) cap := by
        rw [q2, ite_self, Nat.sub_zero, Nat.sub_zero]
      refine law_ok mix (K := GP) (cast (q_st R0 b b2 off (min len 40) len cap (off + cap * 5) off2 len2 cap2 (off2 + cap2) (fun j => mcell md j) (fun j => .int .u8 ((ga j : Nat) : Int)) .leaf GP).symm ⟨q1, hm, ?_⟩) (fun _ h => h) (vs := [.slice (some ⟨b, off, none⟩) len cap, .slice (some ⟨b2, off2, none⟩) len2 cap2]) hG (fun x hx => ?_) ⟨_, _, rfl, ⟨⟨b, 0, 0⟩, rfl, Nat.zero_le _, rfl⟩, _, _, rfl, ⟨⟨b2, 0, 0⟩, rfl, Nat.zero_le _, rfl⟩, rfl⟩
      · by_cases h0 : len = 0
        · subst h0
          exact w_all (md := md) (n := 1) (off := off) (cap := cap) ⟨hl2, hga, rfl⟩ (.inr (.inl ⟨cap, rfl⟩)) 500 0 0 0 4 0 _ [0, 1, 3] (by omega) (by omega) (qi_start (o0 := none) (o1 := none) _ rfl rfl) (.inl rfl)
        · exact w_all (md := md) (n := min len 40) (off := off) (cap := cap) ⟨hl2, hga, rfl⟩ (.inl ⟨rfl, by omega, by omega, rfl⟩) 500 0 0 0 4 0 _ [0, 1, 3] (by omega) (by omega) (qi_start (o0 := none) (o1 := none) _ rfl rfl) (.inl rfl)
      · rcases List.mem_cons.1 hx with rfl | hx
        · exact hi
        · rw [List.mem_singleton.1 hx]; exact hi2

theorem own : ownKnob Try.prog.godebug = none := by kernel_rfl

/-! ### The row's step -/
theorem lifted (os : Os) (started : os.Started) (H : Type) (enc : TypeId × Value → H) :
    ReturnsInHanded {} Try.checked os 3 .any (Rows.queuePlaysSpec.pre6 enc Try.prog Try.f3 Rows.queuePlaysRow.domain false) (Rows.queuePlaysSpec.post enc Try.prog Try.f3 false true false false) := by
  refine returnsInHanded_of_change (C := Try.checked) own started (by kernel_rfl) Try.func3
    (ChangeSpec.witness6 (enc := enc) (C := Try.checked) false ⟨#[], #[.slice none 0 0, .slice none 0 0], []⟩ 8 (by kernel_rfl) (by kernel_rfl) (by kernel_rfl) (by kernel_rfl)) ?_
  intro W base args ds gs before hval0 hW hcnd _
  have hval : ∀ (j : Nat) t v, Try.f3.params[j]? = some t → args[j]? = some v → Value.okWide Try.prog W .any base t v := hval0
  have hW' := hW
  obtain ⟨p, q, hA0, hV, rfl, hfz, hnd⟩ := hW
  have hA : DataW.TrodAll enc Try.prog W 0 (fun _ => true) true Try.f3.params.toList args.toList ds p := hA0
  rw [Try.params3] at hA hval
  obtain ⟨v0, vs0, d0, ds0, p0, q0, hargs, rfl, rfl, h0, r0⟩ := trodAll_cons hA
  obtain ⟨v1, vs1, d1, ds1, p1, q1, rfl, rfl, rfl, h1, r1⟩ := trodAll_cons r0
  obtain ⟨rfl, rfl, rfl⟩ := trodAll_nil r1
  obtain rfl : args = #[v0, v1] := by cases args; simp_all
  obtain ⟨rfl, rfl⟩ := trodVars_none hV
  refine (walk v0 v1 W (mades_form (in_mades (hval 0 22 v0 rfl rfl) h0)) (acts_form (hval 1 23 v1 rfl rfl) h1)).mono fun e W' ⟨he, hg⟩ => ?_
  subst he
  exact ⟨_, rfl, Ev.post_law (by kernel_rfl) (by kernel_rfl) rfl Try.underlying4 rfl hW' rfl hg⟩

theorem held : Rows.queuePlaysRow.holds Try.pinned (OpenSpec.ofChange Rows.queuePlaysSpec) :=
  OpenClaim.holds_of_wide 3 Try.f3 rfl rfl rfl rfl rfl rfl rfl ⟨rfl, rfl, rfl, rfl, rfl⟩ rfl rfl rfl rfl rfl (by kernel_rfl) Try.func3 (by kernel_rfl)
    (of_decide_eq_true (by kernel_rfl)) (by unfold Func.isWrapper; first | (rw [if_pos (by decide +kernel)]; kernel_rfl) | (rw [if_neg (by decide +kernel)]; exact ⟨rfl, rfl⟩))
    (fun os started H enc _ => lifted os started H enc)

/-- The statement. -/
theorem proved : Rows.QueuePlaysSaid :=
  held
#print axioms proved
end Go.Proofs.Ytijkclfajopjkaa.queuePlays
