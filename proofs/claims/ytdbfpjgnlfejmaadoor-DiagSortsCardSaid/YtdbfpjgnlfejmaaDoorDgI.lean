/- A list of diagnostics that comes in. -/
import Derived.Test.YtdbfpjgnlfejmaaDoorDgC
import Derived.Deep.Slices
import Derived.Deep.Strs
import Derived.OpenShut
set_option maxRecDepth 100000
namespace Go.Proofs.YtdbfpjgnlfejmaaDoor.dg
open Go Ev mq Go.ChangeShapes Go.WideShapes Go.Deep

/-- A row that begins elsewhere. -/
def elo (f : Nat → Dg) (off c : Nat) : AV := el f (c - off)

theorem agg_elo (f : Nat → Dg) (off u : Nat) : AV.agg [elo f off (off + u * 3), elo f off (off + u * 3 + 1), elo f off (off + u * 3 + 2)] = AV.agg [.str (f u).1, .int .i64 (f u).2.1, .int .i64 (f u).2.2] := by
  unfold elo
  rw [show off + u * 3 - off = 0 + u * 3 by omega, show off + u * 3 + 1 - off = 0 + u * 3 + 1 by omega, show off + u * 3 + 2 - off = 0 + u * 3 + 2 by omega]
  exact agg_el f u

theorem in_diags {H : Type} {enc' : TypeId × Value → H} {w : World} {b0 : Nat} {v : Value} {d : DataW H} {ps : List MemPlace} (hv : Value.okWide P w .any b0 22 v) (h : DataW.Trod enc' P w 0 (fun _ => true) true 22 v d ps) :
    v = .slice none 0 0 ∨ ∃ (a : Addr) (len cap : Nat) (f : Nat → Dg), v = .slice (some a) len cap ∧ len ≤ cap ∧ cap ≤ maxLen ∧ ∀ i, i < cap * 3 → w.cell? (a.add i) = some (enc (f (i / 3)))[i % 3]! := by
  have u22 : P.underlying 22 = some (.slice 35) := by kernel_rfl
  have u3 : P.underlying 3 = some (.int .i64) := by kernel_rfl
  have u9 : P.underlying 9 = some .string := by kernel_rfl
  have c35 : P.cellsOf 35 = 3 := by kernel_rfl
  have c3 : P.cellsOf 3 = 1 := by kernel_rfl
  have c9 : P.cellsOf 9 = 1 := by kernel_rfl
  obtain ⟨fs, u35, f0, f1, f2⟩ : ∃ fs : Array Field, P.underlying 35 = some (.struct fs) ∧ (fs[0]?.map fun f => (f.type, f.offset)) = some (9, 0) ∧ (fs[1]?.map fun f => (f.type, f.offset)) = some (3, 1) ∧ (fs[2]?.map fun f => (f.type, f.offset)) = some (3, 2) :=
    ⟨(match P.underlying 35 with | some (.struct fs) => fs | _ => #[]), by kernel_rfl, by kernel_rfl, by kernel_rfl, by kernel_rfl⟩
  obtain ⟨a, l, c, rfl⟩ := okWide_slice u22 hv
  obtain ⟨fuel, h⟩ := h
  rcases Go.Deep.open_slice u22 h with ⟨hcs, _⟩ | ⟨a', len, cap, m, n, D, Pl, hcs, _, hl, hm, hmm, _, hx⟩
  · simp only [Value.cells, List.cons.injEq, and_true] at hcs
    exact .inl hcs
  simp only [Value.cells, List.cons.injEq, and_true] at hcs
  refine .inr ⟨a', len, cap, ?_⟩
  have hmc : m = cap := by simpa using hmm
  subst hmc
  have each : ∀ i, i < m → ∃ q : Dg, w.cell? (a'.add (i * 3)) = some (.string ⟨q.1.toArray⟩) ∧ w.cell? (a'.add (i * 3 + 1)) = some (.int .i64 q.2.1) ∧ w.cell? (a'.add (i * 3 + 2)) = some (.int .i64 q.2.2) := by
    intro i hi
    obtain ⟨cs', h1, h2⟩ := hx i hi
    rw [c35] at h1
    obtain ⟨_, hlen, hcell⟩ := World.cells?_some h1
    obtain ⟨xs, k, hk, hxy, _, hxl, hf⟩ := DataW.trod_struct u35 h2
    match cs', hlen with
    | [v0, v1, v2], _ =>
      obtain ⟨g0, q0, r0⟩ := Option.map_eq_some_iff.1 f0
      obtain ⟨g1, q1, r1⟩ := Option.map_eq_some_iff.1 f1
      obtain ⟨g2, q2, r2⟩ := Option.map_eq_some_iff.1 f2
      simp only [Prod.mk.injEq] at r0 r1 r2
      have hn : 2 < xs.length := by
        rw [hxl]
        exact (Array.getElem?_eq_some_iff.1 q2).1
      have k0 := hf 0 g0 q0
      have k1 := hf 1 g1 q1
      have k2 := hf 2 g2 q2
      rw [r0.1, r0.2, c9, List.getElem?_eq_getElem (by omega)] at k0
      rw [r1.1, r1.2, c3, List.getElem?_eq_getElem (by omega)] at k1
      rw [r2.1, r2.2, c3, List.getElem?_eq_getElem (by omega)] at k2
      obtain ⟨n0, e0, _, _⟩ := DataW.trod_string u9 k0
      obtain ⟨n1, e1, _, _⟩ := DataW.trod_int u3 k1
      obtain ⟨n2, e2, _, _⟩ := DataW.trod_int u3 k2
      obtain rfl : v0 = Value.string n0 := (List.cons.inj (show [v0] = [Value.string n0] from e0)).1
      obtain rfl : v1 = Value.int .i64 n1 := (List.cons.inj (show [v1] = [Value.int .i64 n1] from e1)).1
      obtain rfl : v2 = Value.int .i64 n2 := (List.cons.inj (show [v2] = [Value.int .i64 n2] from e2)).1
      have t0 := hcell 0 (by omega)
      have t1 := hcell 1 (by omega)
      have t2 := hcell 2 (by omega)
      rw [add_add] at t0 t1 t2
      refine ⟨(n0.data.toList, n1, n2), ?_, by simpa using t1, by simpa using t2⟩
      rw [Array.toArray_toList]
      simpa using t0
  obtain ⟨q, hq⟩ := Go.Deep.choose_lt each
  refine ⟨q, hcs, hl, hm, fun i hi => ?_⟩
  obtain ⟨g0, g1, g2⟩ := hq (i / 3) (by omega)
  have hr : i % 3 = 0 ∨ i % 3 = 1 ∨ i % 3 = 2 := by omega
  rcases hr with e | e | e
  · rw [show i / 3 * 3 = i by omega] at g0
    rw [g0, e]; rfl
  · rw [show i / 3 * 3 + 1 = i by omega] at g1
    rw [g1, e]; rfl
  · rw [show i / 3 * 3 + 2 = i by omega] at g2
    rw [g2, e]; rfl

/-- The forms of such an argument: none; a row without room; a row. -/
theorem diags_form {w : World} {v : Value} (h : v = .slice none 0 0 ∨ ∃ (a : Addr) (len cap : Nat) (f : Nat → Dg), v = .slice (some a) len cap ∧ len ≤ cap ∧ cap ≤ maxLen ∧ ∀ i, i < cap * 3 → w.cell? (a.add i) = some (enc (f (i / 3)))[i % 3]!) :
    v = .slice none 0 0 ∨ (∃ a, v = .slice (some a) 0 0) ∨ ∃ (b off len cap : Nat) (f : Nat → Dg), v = .slice (some ⟨b, off, none⟩) len cap ∧ len ≤ cap ∧ (Inp.mk true b (.fn fun j => some (elo f off j)) off (off + cap * 3)).holds w := by
  rcases h with h | ⟨a, len, cap, f, rfl, hl, hm, hc⟩
  · exact .inl h
  by_cases h0 : cap = 0
  · subst h0
    obtain rfl : len = 0 := by omega
    exact .inr (.inl ⟨a, rfl⟩)
  · obtain ⟨b, off, rfl, hi⟩ := inp_at (g := fun i => el f i) hc (fun i _ => enc_el _ f i _ rfl) (by omega)
    exact .inr (.inr ⟨b, off, len, cap, f, rfl, hl, hi⟩)
end Go.Proofs.YtdbfpjgnlfejmaaDoor.dg
