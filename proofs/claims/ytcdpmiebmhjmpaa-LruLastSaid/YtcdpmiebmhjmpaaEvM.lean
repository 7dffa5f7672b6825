/- What the evaluator's operations say is what the model's do: appends. -/
import Derived.Test.YtcdpmiebmhjmpaaEvL
namespace Go.Proofs.Ytcdpmiebmhjmpaa.Ev
open Go

section
variable {P : Program} {B : Base} {R : Bij} {h : AHeap} {w : World}

/-- What is appended: so many elements, with these cells; out of a slice, a string, or zeros. -/
structure Apd (P : Program) (w : World) (el : TypeId) (inf : TypeInfo) (zv : Value) (ud : TypeDesc) (x' : Value) (n : Nat) (vs : List Value) : Prop where
  more : (∃ k, ud = .int k) → ∃ k l, x' = .int k l ∧ 0 ≤ l ∧ l < 2 ^ 40 ∧ n = l.toNat ∧ l * inf.bytes ≤ 2 ^ 48 ∧ vs = (Builtin.zeroCells zv.cells n).toList
  plain : (∀ k, ud ≠ .int k) → (Builtin.lenOf x').run P w = .ok n w ∧ (Builtin.firstCells inf.size n x').run P w = .ok vs.toArray w

theorem wrap_small {l : Int} (h0 : 0 ≤ l) (h1 : l < 2 ^ 40) : IntKind.i64.wrap l = l := by
  simp only [IntKind.wrap, IntKind.bits, IntKind.signed]; simp; omega

theorem append_in {argTypes : Array TypeId} {ty t u el : TypeId} {ud : TypeDesc} {inf : TypeInfo} {zv x' : Value} {n sLen sCap : Nat} {vs : List Value} {a : Addr} {w' : World}
    (ht : argTypes[0]? = some t) (hu : argTypes[1]? = some u) (htd : P.underlying t = some (.slice el)) (hud : P.underlying u = some ud) (hi : P.info? el = some inf) (hz : inf.zero = some zv) (_hzs : zv.cells.size = inf.size) (hs0 : 0 < inf.size)
    (ha : Apd P w el inf zv ud x' n vs) (hle : sLen + n ≤ sCap) (hst : (storeCells (a.add (sLen * inf.size)) vs 0).run P w = .ok () w') :
    (Builtin.append_ argTypes ty #[.slice (some a) sLen sCap, x']).run P w = .ok (.slice (some a) (sLen + n) sCap) w' := by
  by_cases hk : ∃ k, ud = .int k
  · obtain ⟨k, l, rfl, h0, h1, rfl, hb, rfl⟩ := ha.more hk
    obtain ⟨k', rfl⟩ := hk
    have hw := wrap_small h0 h1
    have hneg : ¬ l < 0 := by omega
    have hbig : ¬ l * (inf.bytes : Int) > 2 ^ 48 := by omega
    simp only [Builtin.append_, ht, hu, List.getElem?_toArray, List.getElem?_cons_zero, List.getElem?_cons_succ, Sem.run_bind, r_underlying w htd, r_underlying w hud, Result.andThen_ok, r_sizeOf w hi, Sem.run_pure, if_true, asInt, asIntOf, hw, hneg, if_false, r_typeInfo w hi, hbig, hle]
    by_cases hn0 : l.toNat * inf.size = 0
    · have hl0 : l.toNat = 0 := by rcases Nat.mul_eq_zero.1 hn0 with h | h <;> omega
      have hr0 : Array.range 0 = #[] := rfl
      simp only [hl0, Nat.zero_mul, if_true]
      simp only [hl0, Builtin.zeroCells, Nat.zero_mul, hr0] at hst
      simp at hst ⊢
      rw [hst]; rfl
    · simp only [hn0, if_false, Bool.not_true, Bool.false_eq_true, Sem.run_bind, r_zeroValue w hi hz, Result.andThen_ok, Sem.run_pure, hst]
  · obtain ⟨h1, h2⟩ := ha.plain (fun k e => hk ⟨k, e⟩)
    simp only [Builtin.append_, ht, hu, List.getElem?_toArray, List.getElem?_cons_zero, List.getElem?_cons_succ, Sem.run_bind, r_underlying w htd, r_underlying w hud, Result.andThen_ok, r_sizeOf w hi, Sem.run_pure]
    cases ud <;> first
      | exact absurd ⟨_, rfl⟩ hk
      | simp only [Bool.false_eq_true, if_false, Sem.run_bind, Result.andThen_ok, h1, hle, if_true, Bool.not_false, h2, hst, Sem.run_pure]

theorem nextslicecap_le (need cap : Nat) (h : cap < need) : Builtin.nextslicecap need cap ≤ 2 * need + 1000 := by
  unfold Builtin.nextslicecap
  split
  · omega
  · split
    · omega
    · have grow : ∀ (r c : Nat), c ≤ need + (need + 768) / 4 → Builtin.growBy need r c ≤ need + (need + 768) / 4 := by
        intro r
        induction r with
        | zero => intro c hc; exact hc
        | succ r ih =>
          intro c hc
          simp only [Builtin.growBy]
          split
          · exact hc
          · exact ih _ (by omega)
      have := grow 4 cap (by omega)
      omega

theorem append_fresh {argTypes : Array TypeId} {ty t u el : TypeId} {ud : TypeDesc} {inf : TypeInfo} {zv x' : Value} {n sLen sCap : Nat} {vs olds : List Value} {b : Option Addr}
    (ht : argTypes[0]? = some t) (hu : argTypes[1]? = some u) (htd : P.underlying t = some (.slice el)) (hud : P.underlying u = some ud) (hi : P.info? el = some inf) (hz : inf.zero = some zv) (_hzs : zv.cells.size = inf.size) (hs0 : 0 < inf.size)
    (ha : ∀ w', w'.heap = w.heap → Apd P w' el inf zv ud x' n vs) (hgt : sCap < sLen + n) (hroom : roomA (sLen + n) inf.bytes = true)
    (hold : ∀ w', w'.heap = w.heap → (Builtin.firstCells inf.size sLen (.slice b sLen sCap)).run P w' = .ok olds.toArray w') :
    ∃ newCap, (sLen + n ≤ newCap ∧ newCap ≤ 9223372036854775807) ∧ (Builtin.append_ argTypes ty #[.slice b sLen sCap, x']).run P w =
      .ok (.slice (some ⟨w.heap.size, 0, none⟩) (sLen + n) newCap) (w.drew.alloc (.cells (olds.toArray ++ vs.toArray ++ Builtin.zeroCells zv.cells (newCap - (sLen + n))) el)) := by
  simp only [roomA, Bool.and_eq_true, Nat.ble_eq, Nat.blt_eq] at hroom
  obtain ⟨hr1, hr2⟩ := hroom
  have hcap : ¬ Builtin.nextslicecap (sLen + n) sCap * inf.bytes > 2 ^ 48 := by
    have := Nat.mul_le_mul_right inf.bytes (nextslicecap_le (sLen + n) sCap hgt)
    omega
  have hmax : ¬ (((sLen + n : Nat) : Int) > IntKind.i64.max) := by
    have : IntKind.i64.max = 9223372036854775807 := by decide
    rw [this]; omega
  have hnle : ¬ sLen + n ≤ sCap := by omega
  refine ⟨(Question.appendCap (sLen + n) sCap el).cut (w.tape w.drawn (Question.appendCap (sLen + n) sCap el)), ⟨by simp only [Question.cut]; omega, by simp only [Question.cut]; have := Nat.mod_lt (w.tape w.drawn (Question.appendCap (sLen + n) sCap el)) (show 2 ^ 63 - (sLen + n) > 0 by omega); omega⟩, ?_⟩
  have hf : (Question.appendCap (sLen + n) sCap el).forced = false := rfl
  have hd : w.drew.heap = w.heap := rfl
  have hti : ∀ w'', (typeInfo el).run P w'' = .ok inf w'' := fun w'' => r_typeInfo w'' hi
  have hzv : ∀ w'', (zeroValue el).run P w'' = .ok zv w'' := fun w'' => r_zeroValue w'' hi hz
  by_cases hk : ∃ k, ud = .int k
  · obtain ⟨k, l, rfl, h0, h1, rfl, hb, rfl⟩ := (ha w rfl).more hk
    obtain ⟨k', rfl⟩ := hk
    have hw := wrap_small h0 h1
    have hneg : ¬ l < 0 := by omega
    have hbig : ¬ l * (inf.bytes : Int) > 2 ^ 48 := by omega
    simp only [Builtin.append_, ht, hu, List.getElem?_toArray, List.getElem?_cons_zero, List.getElem?_cons_succ, Sem.run_bind, r_underlying w htd, r_underlying w hud, Result.andThen_ok, r_sizeOf w hi, Sem.run_pure, if_true, asInt, asIntOf, hw, hneg, if_false, hti, hbig, hnle, hcap,
      hmax, false_and, run_choose, hf, Bool.false_eq_true, World.drew_eq, run_askRoom, hold _ hd, Bool.not_true]
    by_cases hn0 : l.toNat * inf.size = 0
    · have hl0 : l.toNat = 0 := by rcases Nat.mul_eq_zero.1 hn0 with h | h <;> omega
      have hr0 : Array.range 0 = #[] := rfl
      simp only [hl0, Nat.zero_mul, if_true, Sem.run_pure, Result.andThen_ok, hzv, Sem.run_bind, newRow, run_newObj, World.alloc_eq, Builtin.zeroCells, hr0]
      simp
    · simp only [hn0, if_false, Sem.run_bind, hzv, Result.andThen_ok, Sem.run_pure, newRow, run_newObj, World.alloc_eq, Array.toArray_toList]
      rfl
  · obtain ⟨h1, h2⟩ := (ha w.drew rfl).plain (fun k e => hk ⟨k, e⟩)
    obtain ⟨h1', h2'⟩ := (ha w rfl).plain (fun k e => hk ⟨k, e⟩)
    simp only [Builtin.append_, ht, hu, List.getElem?_toArray, List.getElem?_cons_zero, List.getElem?_cons_succ, Sem.run_bind, r_underlying w htd, r_underlying w hud, Result.andThen_ok, r_sizeOf w hi, Sem.run_pure]
    cases ud <;> first
      | exact absurd ⟨_, rfl⟩ hk
      | (simp only [Bool.false_eq_true, if_false, Sem.run_bind, Result.andThen_ok, h1', hnle, hti, hmax, false_and, hcap, run_choose, hf, World.drew_eq, run_askRoom, hold _ hd, Bool.not_false, if_true, h2, hzv, newRow, run_newObj, World.alloc_eq, Sem.run_pure]; rfl)

end

end Go.Proofs.Ytcdpmiebmhjmpaa.Ev
