/- The walk of TallyMay. -/
import Derived.Test.YtioijfmamdnhnaaTallyM
import Derived.Deep.RegionHeld3
namespace Go.Proofs.Ytioijfmamdnhnaa
open Go.RowKit Go.Lib

theorem held {w w' : World} {c : Array Value} {t : TypeId} (h : Below (w.heap.size + 1) (w.alloc (.cells c t)) w') (k : Nat) (v : Value) (hv : c[k]? = some v) : w'.cell? ⟨w.heap.size, k, none⟩ = some v := by
  unfold World.cell?
  rw [h.block w.heap.size (Nat.lt_succ_self _)]
  show (match (w.heap.push (Obj.cells c t))[w.heap.size]? with | some (.cells c _ _) => c[k]? | _ => none) = some v
  simpa using hv

theorem keepB {w W w1 : World} {c : Array Value} {t : TypeId} (h : Below (w.heap.size + 1) (w.alloc (.cells c t)) W) (g : Below W.heap.size W w1) : Below (w.heap.size + 1) (w.alloc (.cells c t)) w1 :=
  h.trans (g.mono (by have := h.size; have e : (w.alloc (.cells c t)).heap.size = w.heap.size + 1 := by { show (w.heap.push _).size = _; simp }; omega))

theorem allS {w w' : World} {a b c t s : Int} {ty : TypeId} (h : Below (w.heap.size + 1) (w.alloc (.cells #[.int .i64 a, .int .i64 b, .int .i64 c, .int .u64 t, .int .u64 s] ty)) w') :
    w'.cell? ⟨w.heap.size, 0, none⟩ = some (.int .i64 a) ∧ w'.cell? ⟨w.heap.size, 1, none⟩ = some (.int .i64 b) ∧ w'.cell? ⟨w.heap.size, 2, none⟩ = some (.int .i64 c) ∧ w'.cell? ⟨w.heap.size, 3, none⟩ = some (.int .u64 t) ∧ w'.cell? ⟨w.heap.size, 4, none⟩ = some (.int .u64 s) ∧
      Below (w.heap.size + 1) (w.alloc (.cells #[.int .i64 a, .int .i64 b, .int .i64 c, .int .u64 t, .int .u64 s] ty)) w' :=
  ⟨held h 0 _ rfl, held h 1 _ rfl, held h 2 _ rfl, held h 3 _ rfl, held h 4 _ rfl, h⟩

set_option maxHeartbeats 2000000 in
theorem maylaw_any (a b c t s : Int) (w : World) : Calls Try.prog 4 #[.agg #[.int .i64 a, .int .i64 b, .int .i64 c, .int .u64 t, .int .u64 s]] w (Res (.bool true) w) := by
  have C := may_any a b c t s
  have D := rmay_any a b c t s
  generalize mayB a b c = m at *
  go_enter Try.func4, Try.ntmps4
  go_wp2
  go_region_held3 (fun w' => w'.cell? ⟨w.heap.size, 0, none⟩ = some (.int .i64 a) ∧ w'.cell? ⟨w.heap.size, 1, none⟩ = some (.int .i64 b) ∧ w'.cell? ⟨w.heap.size, 2, none⟩ = some (.int .i64 c) ∧ w'.cell? ⟨w.heap.size, 3, none⟩ = some (.int .u64 t) ∧ w'.cell? ⟨w.heap.size, 4, none⟩ = some (.int .u64 s) ∧ Below (w.heap.size + 1) (w.alloc (.cells #[.int .i64 a, .int .i64 b, .int .i64 c, .int .u64 t, .int .u64 s] 30)) w')
    (first
      | exact allS (Below.refl _ _).drew
      | exact allS (keepB (Below.refl _ _).drew (by assumption))
      | exact allS (keepB (keepB (Below.refl _ _).drew (by assumption)) (by assumption))
      | exact allS (keepB (keepB (keepB (Below.refl _ _).drew (by assumption)) (by assumption)) (by assumption)))
    (first
      | (go_at_call 17; refine (C _).mono ?_; rintro e w1 ⟨rfl, g1⟩)
      | (go_at_call 18; refine (D _).mono ?_; rintro e w2 ⟨rfl, g2⟩)
      | (go_at_call 16; refine (works_any _).mono ?_; rintro e w3 ⟨rfl, g3⟩))
  rename_i hS
  go_wp2
  go_ret
  exact ⟨rfl, ((Below.refl _ _).alloc (Nat.le_refl _) _).trans (hS.2.2.2.2.2.mono (Nat.le_succ _))⟩

end Go.Proofs.Ytioijfmamdnhnaa
