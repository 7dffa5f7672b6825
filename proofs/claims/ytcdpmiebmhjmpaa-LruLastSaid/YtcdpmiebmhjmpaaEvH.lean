/- What the evaluator's operations say is what the model's do: conversions, maps that are read, assertions. -/
import Derived.Test.YtcdpmiebmhjmpaaEvG
namespace Go.Proofs.Ytcdpmiebmhjmpaa.Ev
open Go

section
variable {P : Program} {B : Base} {R : Bij} {h : AHeap} {w : World}

theorem byteA_rel {v : AV} {b : UInt8} {x : Value} (e : byteA v = some b) (hx : VRel R v x) : ∃ n : Int, x = .int .u8 n ∧ b = UInt8.ofNat n.toNat := by
  unfold byteA at e
  split at e
  · split at e
    · cases e; cases hx; exact ⟨_, rfl, rfl⟩
    · cases e
  · cases e

theorem bytesLoop (body : Value → ByteArray → Sem (ForInStep ByteArray)) (hbody : ∀ n r, body (.int .u8 n) r = pure (.yield (r.push (UInt8.ofNat n.toNat)))) {l : List AV} {s : List UInt8} {vs : List Value} (w : World) (e : bytesA l = some s) (hr : VRels R l vs) : ∀ acc : ByteArray,
    (forIn vs acc body).run P w = .ok ⟨acc.data ++ s.toArray⟩ w := by
  induction l generalizing s vs with
  | nil =>
    intro acc
    cases hr
    simp [bytesA, mapO_nil] at e
    subst e
    simp
  | cons v l ih =>
    intro acc
    obtain ⟨y, ys, rfl, hy, hys⟩ := hr
    simp only [bytesA, mapO_cons] at e
    cases hb : byteA v with
    | none => simp [hb] at e
    | some b =>
      rw [hb] at e
      cases hl : mapO byteA l with
      | none => simp [hl] at e
      | some s' =>
        rw [hl] at e; simp at e; subst e
        obtain ⟨n, rfl, rfl⟩ := byteA_rel hb hy
        simp only [List.forIn_cons, Sem.run_bind, hbody, Sem.run_pure, Result.andThen_ok]
        rw [ih hl hys]
        congr 1
        apply ByteArray.ext
        simp [ByteArray.push]

theorem bytesToString_sound {l : List AV} {s : List UInt8} {vs : List Value} {a : Addr} {n cap : Nat} (e : bytesA l = some s) (hr : VRels R l vs)
    (hl : (loadCells a n).run P w = .ok vs.toArray w) : (Conv.bytesToString (.slice (some a) n cap)).run P w = .ok (.string ⟨s.toArray⟩) w := by
  simp only [Conv.bytesToString, Sem.run_bind, hl, Result.andThen_ok]
  rw [← Array.forIn_toList]
  rw [bytesLoop (P := P) (R := R) _ ?_ w e hr ByteArray.empty]
  · simp
  · intro _ _; rfl

theorem isByteT_sound {e : TypeId} (h : isByteT P e = true) : P.underlying e = some (.int .u8) := by
  unfold isByteT at h
  split at h
  · assumption
  · cases h

theorem isSliceT_false {t : TypeId} (h : isSliceT P t = false) : ∀ e, P.underlying t ≠ some (.slice e) := by
  intro e he
  simp [isSliceT, he] at h

theorem isByteSlice_true {t : TypeId} (h : isByteSlice P t = true) : ∃ e, P.underlying t = some (.slice e) ∧ P.underlying e = some (.int .u8) := by
  unfold isByteSlice at h
  split at h
  · rename_i e he; exact ⟨e, he, isByteT_sound h⟩
  · cases h

/-- Bytes that are shown as a string. -/
theorem convStr_sound (k : HRel P B R h w) {src dst _us _ud : TypeId} {x v : AV} {x' : Value} {dd : TypeDesc} {b : Bool} (hs : P.underlying src = some dd) (hd : P.underlying dst = some .string)
    (hb : isByteSlice P src = b) (e : convStr h b x = some v) (hx : VRel R x x') : ∃ v', (convert src dst x').run P w = .ok v' w ∧ VRel R v v' := by
  unfold convStr at e
  have hsl : ∀ _ : AV, b = true → ∃ el, dd = .slice el ∧ P.underlying el = some (.int .u8) := by
    intro y hb'
    rw [hb'] at hb
    obtain ⟨el, h1, h2⟩ := isByteSlice_true hb
    rw [hs] at h1; cases h1
    exact ⟨el, rfl, h2⟩
  have hnil : ∀ {i r o len} {l : List AV} {a : Addr} {vs : List Value} {cap : Nat}, b = true → cellsStr (some l) = some v → VRels R l vs → loadCellsA h i r o len = some l →
      (loadCells a len).run P w = .ok vs.toArray w → ∃ v', (convert src dst (.slice (some a) len cap)).run P w = .ok v' w ∧ VRel R v v' := by
    intro i r o len l a vs cap hb' e hr _ hl
    obtain ⟨el, rfl, hel⟩ := hsl v hb'
    simp only [cellsStr] at e
    unfold strAV at e
    split at e
    · cases e
    · rename_i s hsx
      cases e
      exact ⟨.string ⟨s.toArray⟩, by simp [convert, r_underlying w hs, r_underlying w hd, r_underlying w hel, bytesToString_sound hsx hr hl], rfl⟩
  split at e
  · split at e
    · cases e
    · cases e; cases hx
      exact ⟨_, by simp only [convert, Sem.run_bind, r_underlying w hs, r_underlying w hd, Result.andThen_ok]; cases dd <;> rfl, rfl⟩
  · split at e
    · cases e
    · cases e; cases hx
      refine ⟨.string (Utf8.encode _), by simp only [convert, Sem.run_bind, r_underlying w hs, r_underlying w hd, Result.andThen_ok]; cases dd <;> rfl, ?_⟩
      simp [VRel]
  · split at e
    · cases e; cases hx
      obtain ⟨el, rfl, hel⟩ := hsl .nilp rfl
      exact ⟨.string .empty, by simp [convert, r_underlying w hs, r_underlying w hd, r_underlying w hel, Conv.bytesToString], rfl⟩
    · cases e
  · split at e
    · rename_i i r o len c _
      obtain ⟨L, hL, hm, rfl⟩ := hx
      cases hl : loadCellsA h i r o len with
      | none => simp [hl, cellsStr] at e
      | some l =>
        rw [hl] at e
        obtain ⟨vs, e1, e2, _⟩ := loadCellsA_sound k hl hL hm
        exact hnil rfl e e2 hl e1
    · cases e
  · split at e
    · rename_i i r o len st _
      obtain ⟨L, a, hL, hm, hk, rfl, ha⟩ := hx
      cases hl : loadCellsA h i r o len with
      | none => simp [hl, cellsStr] at e
      | some l =>
        rw [hl] at e
        obtain ⟨vs, e1, e2, e3⟩ := loadCellsA_sound k hl hL hm
        by_cases hlt : st < L.kap
        · obtain rfl := ha hlt
          exact hnil rfl e e2 hl e1
        · have hlen : len = 0 := by omega
          subst hlen
          have hl0 : l = [] := List.eq_nil_of_length_eq_zero e3
          subst hl0
          cases e2
          exact hnil rfl e VRels.nil hl (by simp [loadCells, loadCellsFrom])
    · cases e
  · cases e

/-! ## Pointers without a type -/

theorem notView {b : Nat} {cs : Array Value} {el : TypeId} {fz : Nat × Nat} (w : World) (e : w.heap[b]? = some (.cells cs el fz)) : (viewAt b).run P w = .ok none w := by
  simp [viewAt, World.shape?, e]

theorem toUnsafe_sound (k : HRel P B R h w) {src dst t : TypeId} {x v : AV} {x' : Value} (hs : P.underlying src = some (.pointer t)) (hd : P.underlying dst = some .unsafePointer)
    (e : toUnsafe h (sizeT P t) x = some v) (hx : VRel R x x') : ∃ v', (convert src dst x').run P w = .ok v' w ∧ VRel R v v' := by
  unfold toUnsafe at e
  split at e
  · rename_i i r o
    split at e
    · rename_i n c m el lo hi nv fz sg ex hsz ho
      obtain ⟨inf, hinf, hn⟩ := sizeT_info hsz
      split at e
      · rename_i e' he
        split at e
        · rename_i hc
          cases e
          have hx0 := hx
          obtain ⟨L, hL, hm, rfl⟩ := hx
          obtain ⟨L', hL', hv⟩ := k.ver hL ho hc.1 hc.2.1 he
          rw [hL] at hL'; cases hL'
          obtain ⟨cs, a, b, f1, f2, _⟩ := hv
          refine ⟨_, ?_, hx0⟩
          have hsh : w.shape? L.block = some (el, cs.size) := by simp [World.shape?, f1]
          have hlt : o - L.minus < cs.size := by omega
          simp only [convert, Sem.run_bind, r_underlying w hs, r_underlying w hd, Result.andThen_ok, Conv.unsafePointer, Conv.seenAt, notView w f1, Sem.run_pure, cellsIn, run_shape, hsh, r_sizeOf w hinf, hn]
          have : ¬ (cs.size ≤ o - L.minus) := by omega
          simp [this]
        · cases e
      · cases e
    · cases e
  · cases e

theorem fieldFits_sound {f : TypeId → Nat → Bool} {r : Nat} : ∀ {l : List Field}, fieldFits P f r l = true →
    ∃ x ∈ l, x.offset ≤ r ∧ r < x.offset + P.cellsOf x.type ∧ f x.type (r - x.offset) = true
  | [], e => by cases e
  | x :: l, e => by
    unfold fieldFits at e
    split at e
    · cases e
    · rename_i s hs
      obtain ⟨i, hi, hsz⟩ := sizeT_info hs
      split at e
      · rename_i hc
        simp only [Bool.and_eq_true, Nat.ble_eq, Nat.blt_eq] at hc
        exact ⟨x, by simp, hc.1, by rw [cellsOf_info hi, hsz]; exact hc.2, e⟩
      · obtain ⟨y, h1, h2⟩ := fieldFits_sound e
        exact ⟨y, by simp [h1], h2⟩

theorem fitsIn_sound {u : TypeId} {fits : TypeId → Bool} (hf : fits u = true) : ∀ {d D : Nat} {e : TypeId} {r i count : Nat}, d ≤ D → fitsIn P u d e r = true → r < P.cellsOf e → i < count →
    rowAt P fits D e count (i * P.cellsOf e + r) 1 = true
  | 0, _, _, _, _, _, _, e, _, _ => by cases e
  | d + 1, 0, _, _, _, _, h, _, _, _ => by omega
  | d + 1, D + 1, e, r, i, count, h, hfit, hr, hi => by
    have hs0 : P.cellsOf e ≠ 0 := by omega
    have hdiv : (i * P.cellsOf e + r) / P.cellsOf e = i := by
      rw [Nat.add_comm, Nat.add_mul_div_right _ _ (by omega), Nat.div_eq_of_lt hr, Nat.zero_add]
    have hmod : (i * P.cellsOf e + r) % P.cellsOf e = r := by
      rw [Nat.add_comm, Nat.add_mul_mod_self_right, Nat.mod_eq_of_lt hr]
    simp only [rowAt, hs0, if_false, hdiv, hmod]
    unfold fitsIn at hfit
    split at hfit
    · rename_i hc
      simp only [Bool.and_eq_true] at hc
      have h1 := Nat.eq_of_beq_eq_true hc.1
      have h2 : e = u := Nat.eq_of_beq_eq_true hc.2
      subst h1 h2
      have : i + 1 ≤ count := hi
      simp [this, hf]
    · split at hfit
      · rename_i fs hu
        simp only [Bool.and_eq_true, Bool.not_eq_true'] at hfit
        obtain ⟨x, m1, m2, m3, m4⟩ := fieldFits_sound hfit.2
        have ih := fitsIn_sound hf (d := d) (D := D) (i := 0) (count := 1) (by omega) m4 (by omega) (by omega)
        rw [Nat.zero_mul, Nat.zero_add] at ih
        rw [hu]
        have hany : (fs.any fun f => f.offset ≤ r && r < f.offset + P.cellsOf f.type && rowAt P fits D f.type 1 (r - f.offset) 1) = true := by
          rw [Array.any_eq_true']
          exact ⟨x, by simpa using m1, by simp [m2, m3, ih]⟩
        simp [hi, hfit.1, hany]
      · rename_i m e' hu
        unfold arrFits at hfit
        split at hfit
        · cases hfit
        · rename_i s hs
          obtain ⟨inf, hinf, hsz⟩ := sizeT_info hs
          split at hfit
          · cases hfit
          · rename_i s'
            simp only [Bool.and_eq_true, Nat.blt_eq] at hfit
            have hcel : P.cellsOf e' = s' + 1 := by rw [cellsOf_info hinf, hsz]
            have ih := fitsIn_sound hf (d := d) (D := D) (i := r / (s' + 1)) (count := m) (by omega) hfit.2 (by rw [hcel]; exact Nat.mod_lt _ (by omega)) hfit.1
            rw [hcel, Nat.mul_comm, Nat.div_add_mod] at ih
            rw [hu]
            simp [hi, ih]
      · cases hfit

theorem fromUnsafe_sound (k : HRel P B R h w) {src dst t : TypeId} {x v : AV} {x' : Value} (hs : P.underlying src = some .unsafePointer) (hd : P.underlying dst = some (.pointer t))
    (e : fromUnsafe P h t (sizeT P t) x = some v) (hx : VRel R x x') : ∃ v', (convert src dst x').run P w = .ok v' w ∧ VRel R v v' := by
  unfold fromUnsafe at e
  split at e
  · rename_i i r o
    split at e
    · rename_i n c m el lo hi nv fz sg ex hsz ho
      obtain ⟨inf, hinf, hn⟩ := sizeT_info hsz
      split at e
      · rename_i ee hee
        split at e
        · rename_i hc
          obtain ⟨c1, c2, c3, c4⟩ := hc
          cases e
          have hx0 := hx
          obtain ⟨L, hL, hm, rfl⟩ := hx
          obtain ⟨L', hL', hv⟩ := k.ver hL ho c1 c2 hee
          rw [hL] at hL'; cases hL'
          obtain ⟨cs, a, b, f1, f2, ⟨f3, q, f4⟩, _⟩ := hv
          refine ⟨_, ?_, hx0⟩
          have hsh : w.shape? L.block = some (el, cs.size) := by simp [World.shape?, f1]
          have hd' : ∃ d, P.depth = d + 1 ∧ 9 ≤ d + 1 := ⟨2 * (P.types.size + Made.depth) + 1, rfl, by simp only [Made.depth]; omega⟩
          obtain ⟨d, hd', hd9⟩ := hd'
          have hvar : liesAt P P.depth el (cs.size / P.cellsOf el) (o - L.minus) t 1 = true := by
            unfold fitsAt at c4
            split at c4
            · cases c4
            · rename_i s hs
              obtain ⟨inf2, hinf2, hn2⟩ := sizeT_info hs
              split at c4
              · cases c4
              · rename_i s0
                have hcel : P.cellsOf el = s0 + 1 := by rw [cellsOf_info hinf2]; exact hn2
                rw [hcel] at f3 f4
                have hoff : o - L.minus = (o - L.minus) / (s0 + 1) * P.cellsOf el + o % (s0 + 1) := by
                  rw [hcel]
                  have h1 : o = (o - L.minus) + (s0 + 1) * q := by omega
                  have h2 : o % (s0 + 1) = (o - L.minus) % (s0 + 1) := by
                    conv => lhs; rw [h1, Nat.add_mul_mod_self_left]
                  rw [h2]
                  exact (Nat.div_add_mod' _ _).symm
                have hcnt : (o - L.minus) / (s0 + 1) < cs.size / P.cellsOf el := by
                  rw [hcel]
                  have h1 : L.kap * (s0 + 1) = cs.size + (s0 + 1) * q := by omega
                  have h2 : cs.size = (L.kap - q) * (s0 + 1) := by rw [Nat.mul_comm (s0 + 1) q] at h1; rw [Nat.sub_mul]; omega
                  rw [h2, Nat.mul_div_cancel _ (by omega)]
                  rw [Nat.div_lt_iff_lt_mul (by omega), ← h2]; omega
                have hrow := fitsIn_sound (P := P) (u := t) (fits := (sameLayout P P.depth · t)) (by rw [hd']; simp [sameLayout]) (d := 9) (D := P.depth) (by omega) c4 (by rw [hcel]; exact Nat.mod_lt _ (by omega)) hcnt
                rw [← hoff] at hrow
                rw [hd'] at hrow ⊢
                simp only [liesAt]
                rw [hd', hrow]; rfl
          simp only [convert, Sem.run_bind, r_underlying w hs, r_underlying w hd, Result.andThen_ok, Conv.unsafePointer, Conv.seenAt, notView w f1, Sem.run_pure, r_sizeOf w hinf, variablesAt, run_program, run_shape, hsh, hvar]
          simp
        · cases e
      · cases e
    · cases e
  · cases e

theorem convA_sound (k : HRel P B R h w) {src dst : TypeId} {x v : AV} {x' : Value} (e : convA P h src dst x = some v) (hx : VRel R x x') :
    ∃ v', (convert src dst x').run P w = .ok v' w ∧ VRel R v v' := by
  unfold convA at e
  split at e
  · cases e
  · rename_i dd hs
    split at e
    · cases e
    · rename_i u hd
      split at e
      · rename_i kk
        unfold convInt at e
        split at e
        · cases hx; cases e
          exact ⟨_, by simp only [convert, Sem.run_bind, r_underlying w hs, r_underlying w hd, Result.andThen_ok]; cases dd <;> rfl, rfl⟩
        · cases e
      · exact convStr_sound (_us := 0) (_ud := 0) k hs hd rfl e hx
      · split at e
        · cases e
        · rename_i t ht
          unfold isPtrT at ht
          split at ht
          · rename_i e0 he0; cases ht
            exact toUnsafe_sound k he0 hd e hx
          · cases ht
      · split at e
        · rename_i ht
          unfold isUnsafeT at ht
          split at ht
          · rename_i he0; exact fromUnsafe_sound k he0 hd e hx
          · cases ht
        · cases e
      · cases e


/-! ## Keys -/

theorem keyFields_sound {ck : TypeId → AV → Bool} {ck' : TypeId → Value → Sem Unit} (w : World) (hq : ∀ t x x', ck t x = true → VRel R x x' → (ck' t x').run P w = .ok () w)
    {cs : List AV} {cs' : List Value} (hx : VRels R cs cs') : ∀ {fs : List Field}, keyFields P ck cs fs = true →
    (forIn fs PUnit.unit fun f _ => do
      if f.name ≠ "_" then
        ck' f.type (← part f.type cs'.toArray f.offset)
        pure (.yield ⟨⟩)
      else pure (.yield ⟨⟩) : Sem PUnit).run P w = .ok ⟨⟩ w
  | [], _ => by simp
  | f :: r, e => by
    simp only [keyFields, Bool.and_eq_true] at e
    obtain ⟨e1, e2⟩ := e
    have ih := keyFields_sound w hq hx e2
    split at e1
    · rename_i hn
      split at e1
      · cases e1
      · rename_i v hv
        obtain ⟨v', ev', rv⟩ := partA_sound w hv hx
        simp only [List.forIn_cons, Sem.run_bind, hn, ne_eq, not_false_eq_true, if_true, ev', Result.andThen_ok, hq _ _ _ e1 rv, Sem.run_pure]
        exact ih
    · rename_i hn
      simp only [List.forIn_cons, Sem.run_bind, hn, if_false, Sem.run_pure, Result.andThen_ok]
      exact ih

theorem keyElems_sound {ck : AV → Bool} {ck' : Value → Sem Unit} {el : TypeId} {inf : TypeInfo} (w : World) (hi : P.info? el = some inf) (hq : ∀ x x', ck x = true → VRel R x x' → (ck' x').run P w = .ok () w)
    {cs : List AV} {cs' : List Value} (hx : VRels R cs cs') : ∀ {n i : Nat}, keyElems P ck el inf.size cs n i = true →
    (forIn (List.range' i n) PUnit.unit fun i _ => do
      ck' (← part el cs'.toArray (i * (← sizeOf el)))
      pure (.yield ⟨⟩) : Sem PUnit).run P w = .ok ⟨⟩ w
  | 0, _, _ => by simp
  | n + 1, i, e => by
    simp only [keyElems, Bool.and_eq_true] at e
    obtain ⟨e1, e2⟩ := e
    have ih := keyElems_sound w hi hq hx e2
    rw [List.range'_succ]
    split at e1
    · cases e1
    · rename_i v hv
      obtain ⟨v', ev', rv⟩ := partA_sound w hv hx
      simp only [List.forIn_cons, Sem.run_bind, r_sizeOf w hi, ev', Result.andThen_ok, hq _ _ e1 rv, Sem.run_pure]
      exact ih

theorem keyOk_sound (w : World) : ∀ {d : Nat} {t : TypeId} {x : AV} {x' : Value} (em : Bool) (D : Nat), keyOk P d t x = true → VRel R x x' → (Instr.checkKey em (D + d) t x').run P w = .ok () w
  | 0, t, x, x', em, D, e, _ => by simp [keyOk] at e
  | d + 1, t, x, x', em, D, e, hx => by
    have ih : ∀ t x x', keyOk P d t x = true → VRel R x x' → (Instr.checkKey em (D + d) t x').run P w = .ok () w := fun t x x' e hx => keyOk_sound w em D e hx
    simp only [keyOk] at e
    split at e
    · cases e
    · rename_i u hu
      rw [show D + (d + 1) = (D + d) + 1 from rfl, Instr.checkKey]
      simp only [Sem.run_bind, r_underlying w hu, Result.andThen_ok]
      split at e
      · cases x' <;> rfl
      · cases x' <;> rfl
      · cases x' <;> rfl
      · rename_i n el
        unfold keyArr at e
        split at e
        · obtain ⟨a, rfl, ha⟩ := hx
          split at e
          · cases e
          · rename_i s hs
            obtain ⟨inf, hi, rfl⟩ := sizeT_info hs
            have := keyElems_sound (P := P) w hi (fun x x' => ih el x x') ha e
            simp only [Std.Legacy.Range.forIn_eq_forIn_range', Std.Legacy.Range.size, Nat.sub_zero, Nat.add_one_sub_one, Nat.div_one] at this ⊢
            simpa using this
        · cases e
      · rename_i fs
        unfold keyRec at e
        split at e
        · obtain ⟨a, rfl, ha⟩ := hx
          have := keyFields_sound (P := P) w (fun t x x' => ih t x x') ha e
          simp only [← Array.forIn_toList]
          simpa using this
        · cases e
      · cases e

/-! ## Entries -/

/-- What was found, in either list, at one place. -/
def FindRel (P : Program) (h : AHeap) (kt : TypeId) (key : AV) (es : List AEntry) (es' : List MapEntry) (i : Nat) : Option (Nat × AEntry) → Option (Nat × Value) → Prop
  | none, r' => r' = none
  | some (j, a), r' => ∃ b, i ≤ j ∧ es[j - i]? = some a ∧ es'[j - i]? = some b ∧ r' = some (j, b.val) ∧ eqA P h 9 kt key a.key = some true

theorem findAsking_sound (k : HRel P B R h w) {kt : TypeId} {key : AV} {key' : Value} (hk : VRel R key key') : ∀ {es : List AEntry} {es' : List MapEntry} {i : Nat} {r : Option (Nat × AEntry)},
    findA (eqA P h 9 kt) key es i = some r → All2 (ERel R) es es' →
    ∃ r', (Instr.findAsking kt key' es' i).run P w = .ok r' w ∧ FindRel P h kt key es es' i r r'
  | [], es', i, r, e, he => by
    cases he
    simp [findA] at e; subst e
    exact ⟨none, by simp [Instr.findAsking], rfl⟩
  | a :: es, es', i, r, e, he => by
    obtain ⟨b, bs, rfl, hab, hrest⟩ := he
    simp only [findA] at e
    split at e
    · cases e
    · rename_i bb hb
      have heq := equal_sound k hb hk hab.1
      split at e
      · cases e
        exact ⟨some (i, b.val), by simp [Instr.findAsking, heq], b, Nat.le_refl _, by simp, by simp, rfl, hb⟩
      · obtain ⟨r', e1, e2⟩ := findAsking_sound k hk e hrest
        refine ⟨r', by simp [Instr.findAsking, heq, e1], ?_⟩
        cases r with
        | none => exact e2
        | some ja =>
          obtain ⟨j, a'⟩ := ja
          obtain ⟨c, g1, g2, g3, g4, g5⟩ := e2
          have hj : j - i = (j - (i + 1)) + 1 := by omega
          exact ⟨c, by omega, by rw [hj]; simpa using g2, by rw [hj]; simpa using g3, g4, g5⟩

theorem sameNow_of {u : TypeDesc} {kt : TypeId} {x y : AV} {x' y' : Value} {b : Bool} (_k : HRel P B R h w) (hu : P.underlying kt = some u) (e : eqA P h 9 kt x y = some b) (hx : VRel R x x') (hy : VRel R y y') :
    Instr.sameNow u x' y' = some b ∨ Instr.sameNow u x' y' = none := by
  simp only [eqA, hu] at e
  split at e
  · unfold eqB at e
    split at e
    · split at e
      · cases e; cases hx; cases hy; left; rfl
      · cases e
    · cases e
  · unfold eqN at e
    split at e
    · split at e
      · cases hx; cases hy
        split at e
        · rename_i hk; subst hk; cases e; left; simp [Instr.sameNow]
        · cases e
      · cases e
    · cases e
  · unfold eqT at e
    split at e
    · split at e
      · cases e; cases hx; cases hy; left; simp only [Instr.sameNow, beq_bytes]
      · cases e
    · cases e
  all_goals first | (right; rfl) | cases e

theorem findKey_sound (k : HRel P B R h w) {kt : TypeId} {key : AV} {key' : Value} (hk : VRel R key key') {es : List AEntry} {es' : List MapEntry} {r : Option (Nat × AEntry)} {u : TypeDesc} (hu : P.underlying kt = some u)
    (e : findA (eqA P h 9 kt) key es 0 = some r) (he : All2 (ERel R) es es') :
    ∃ r', (Instr.findKey kt key' es').run P w = .ok r' w ∧ FindRel P h kt key es es' 0 r r' := by
  obtain ⟨r', e1, e2⟩ := findAsking_sound k hk e he
  refine ⟨r', ?_, e2⟩
  simp only [Instr.findKey, Sem.run_bind, r_underlying w hu, Result.andThen_ok]
  -- what is compared at once is the same
  have hn : Instr.findNow u key' es' 0 = some r' ∨ Instr.findNow u key' es' 0 = none := by
    clear e2
    generalize hi : 0 = i at e e1 ⊢
    clear hi
    induction es generalizing es' i r r' with
    | nil =>
      cases he
      simp [Instr.findAsking] at e1; subst e1; exact .inl rfl
    | cons a es ih =>
      obtain ⟨b, bs, rfl, hab, hrest⟩ := he
      simp only [findA] at e
      split at e
      · cases e
      · rename_i bb hb
        have heq := equal_sound k hb hk hab.1
        simp only [Instr.findAsking, Sem.run_bind, heq, Result.andThen_ok] at e1
        simp only [Instr.findNow]
        rcases sameNow_of k hu hb hk hab.1 with h1 | h1
        · rw [h1]
          cases bb with
          | true => simp at e1; subst e1; exact .inl rfl
          | false =>
            simp at e1 e
            apply ih <;> assumption
        · rw [h1]; exact .inr rfl
  rcases hn with hn | hn
  · rw [hn]; rfl
  · rw [hn]; exact e1

theorem mapOf_sound {t kt el : TypeId} (e : mapOf P t = some (kt, el)) : P.underlying t = some (.map kt el) := by
  unfold mapOf at e
  split at e
  · rename_i a b hab; cases e; exact hab
  · cases e

theorem keyOk_und {d : Nat} {t : TypeId} {x : AV} (e : keyOk P d t x = true) : ∃ u, P.underlying t = some u := by
  cases d with
  | zero => simp [keyOk] at e
  | succ d =>
    simp only [keyOk] at e
    split at e
    · cases e
    · rename_i u hu; exact ⟨u, hu⟩

theorem okOf_sound {ok b : Bool} {v r : AV} {v' : Value} (e : okOf ok v b = some r) (hv : VRel R v v') : VRel R r (if ok then .tuple #[v', .bool b] else v') := by
  unfold okOf at e
  split at e
  · cases e; exact ⟨[v', .bool b], by simp, .cons hv (.cons rfl .nil)⟩
  · cases e; exact hv

theorem lookupA_sound (k : HRel P B R h w) {t : TypeId} {m key v : AV} {m' key' : Value} {ok : Bool} (e : lookupA P h t m key ok = some v) (hm : VRel R m m') (hk : VRel R key key') :
    ∃ v', (Instr.lookup t m' key' ok).run P w = .ok v' w ∧ VRel R v v' := by
  unfold lookupA at e
  split at e
  · cases e
  · rename_i kt el hmo
    have hmap := mapOf_sound hmo
    have go : ∀ {es : List AEntry} {es' : Array MapEntry} {r : Option (Nat × AEntry)}, keyOk P 9 kt key = true → findA (eqA P h 9 kt) key es 0 = some r → All2 (ERel R) es es'.toList →
        (match r with
          | some (_, a) => okOf ok a.val true
          | none => match zeroA P el with
            | none => none
            | some z => okOf ok z false) = some v →
        ∃ v', (do
          Instr.checkKey es'.isEmpty 10000 kt key'
          let (v, ok') ← match ← Instr.findKey kt key' es'.toList with
            | some (_, v) => pure (v, true)
            | none => pure (← zeroValue el, false)
          pure (if ok then .tuple #[v, .bool ok'] else v) : Sem Value).run P w = .ok v' w ∧ VRel R v v' := by
      intro es es' r hko hf hes hr
      obtain ⟨u, hu⟩ := keyOk_und hko
      obtain ⟨r', e1, e2⟩ := findKey_sound k hk hu hf hes
      have hck := keyOk_sound w es'.isEmpty 9991 hko hk
      simp only [Sem.run_bind, hck, Result.andThen_ok, e1]
      cases r with
      | none =>
        cases e2
        simp only [] at hr
        split at hr
        · cases hr
        · rename_i z hz
          obtain ⟨inf, zv, hi, hzv, hzr⟩ := zeroA_sound R hz
          exact ⟨_, by simp [r_zeroValue w hi hzv], okOf_sound hr hzr⟩
      | some ja =>
        obtain ⟨j, a⟩ := ja
        obtain ⟨b, _, g1, g2, rfl, _⟩ := e2
        simp only [Nat.sub_zero] at g1 g2
        obtain ⟨b', hb', hab⟩ := hes.get j a g1
        rw [g2] at hb'; cases hb'
        exact ⟨_, by simp, okOf_sound hr hab.2.1⟩
    have fin : ∀ {r : Option (Nat × AEntry)}, findIn P h kt key m = some r → keyOk P 9 kt key = true ∧ ∃ es, entriesOf h m = some es ∧ findA (eqA P h 9 kt) key es 0 = some r := by
      intro r hr
      unfold findIn at hr
      split at hr
      · rename_i hko
        split at hr
        · cases hr
        · rename_i es hes
          exact ⟨hko, es, hes, hr⟩
      · cases hr
    have ent : ∀ {es : List AEntry}, entriesOf h m = some es → (m' = .map none ∧ es = []) ∨ ∃ (i : Nat) (L : Loc) (es' : Array MapEntry) (clock : Nat), m = .mp i ∧ m' = .map (some L.block) ∧ w.heap[L.block]? = some (.map es' clock) ∧ All2 (ERel R) es es'.toList := by
      intro es hes
      unfold entriesOf at hes
      split at hes
      · cases hes; cases hm; exact .inl ⟨rfl, rfl⟩
      · rename_i i
        split at hes
        · rename_i es0 clock ho
          cases hes
          obtain ⟨L, hL, rfl⟩ := hm
          obtain ⟨L', es', hL', hh, hr⟩ := k.obj' hL ho
          rw [hL] at hL'; cases hL'
          exact .inr ⟨i, L, es', clock, rfl, rfl, hh, hr⟩
        · cases hes
      · cases hes
    have all : ∀ {r : Option (Nat × AEntry)}, findIn P h kt key m = some r →
        (match r with
          | some (_, a) => okOf ok a.val true
          | none => match zeroA P el with
            | none => none
            | some z => okOf ok z false) = some v → ∃ v', (Instr.lookup t m' key' ok).run P w = .ok v' w ∧ VRel R v v' := by
      intro r hr hv
      obtain ⟨hko, es, hes, hf⟩ := fin hr
      rcases ent hes with ⟨rfl, rfl⟩ | ⟨i, L, es', clock, rfl, rfl, hh, hrel⟩
      · obtain ⟨v', e1, e2⟩ := go (es' := #[]) hko hf rfl hv
        refine ⟨v', Eq.trans ?_ e1, e2⟩
        simp only [Instr.lookup, Sem.run_bind, r_underlying w hmap, Result.andThen_ok, Sem.run_pure]
        rfl
      · obtain ⟨v', e1, e2⟩ := go hko hf hrel hv
        refine ⟨v', Eq.trans ?_ e1, e2⟩
        simp only [Instr.lookup, Sem.run_bind, r_underlying w hmap, Result.andThen_ok]
        have hg : (getObj L.block).run P w = .ok (.map es' clock) w := by simp [getObj, Sem.run, hh]
        simp only [hg, Result.andThen_ok, Sem.run_pure, Sem.run_bind]
        rfl
    split at e
    · cases e
    · rename_i a hfi
      exact all hfi e
    · rename_i hfi
      exact all hfi e

end

end Go.Proofs.Ytcdpmiebmhjmpaa.Ev
