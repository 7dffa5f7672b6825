import Derived.Laws.IdiomStrings
import Derived.Laws.Externs
import Derived.Lib.Bytealg
import Derived.Lib.MakeNoZero
import Derived.Lib.UnsafeStr
import Derived.Test.YtdbfpjgnlfejmaaDoorC00
section
namespace Go.Proofs.YtdbfpjgnlfejmaaDoor.Ev
open Go
section
variable {P : Program} {B : Base} {R : Bij} {h : AHeap} {w : World}
theorem zdq {v : AV} {b : UInt8} {x : Value} (e : zcN v = some b) (hx : zl R v x) : ∃ n : Int, x = .int .u8 n ∧ b = UInt8.ofNat n.toNat := by
 unfold zcN at e
 split at e
 · split at e
   · cases e; cases hx; exact ⟨_, rfl, rfl⟩
   · cases e
 · cases e
theorem zhZ (body : Value → ByteArray → Sem (ForInStep ByteArray)) (hbody : ∀ n r, body (.int .u8 n) r = pure (.yield (r.push (UInt8.ofNat n.toNat)))) {l : List AV} {s : List UInt8} {vs : List Value} (w : World) (e : yu l = some s) (hr : zm R l vs) : ∀ acc : ByteArray,
 (forIn vs acc body).run P w = .ok ⟨acc.data ++ s.toArray⟩ w := by
 induction l generalizing s vs with
 | nil =>
  intro acc
  cases hr
  simp [yu, zcC] at e
  subst e
  simp
 | cons v l ih =>
  intro acc
  obtain ⟨y, ys, rfl, hy, hys⟩ := hr
  simp only [yu, qo] at e
  cases hb : zcN v with
  | none => simp [hb] at e
  | some b =>
   rw [hb] at e
   cases hl : qE zcN l with
   | none => simp [hl] at e
   | some s' =>
    rw [hl] at e; simp at e; subst e
    obtain ⟨n, rfl, rfl⟩ := zdq hb hy
    simp only [List.forIn_cons, Sem.run_bind, hbody, Sem.run_pure, Result.andThen_ok]
    rw [ih hl hys]
    congr 1
    apply ByteArray.ext
    simp [ByteArray.push]
theorem vu {l : List AV} {s : List UInt8} {vs : List Value} {a : Addr} {n cap : Nat} (e : yu l = some s) (hr : zm R l vs)
 (hl : (loadCells a n).run P w = .ok vs.toArray w) : (Conv.bytesToString (.slice (some a) n cap)).run P w = .ok (.string ⟨s.toArray⟩) w := by
 simp only [Conv.bytesToString, Sem.run_bind, hl, Result.andThen_ok]
 rw [← Array.forIn_toList]
 rw [zhZ (P := P) (R := R) _ ?_ w e hr ByteArray.empty]
 · simp
 · intro _ _; rfl
theorem kc {e : TypeId} (h : jj P e = true) : P.underlying e = some (.int .u8) := by
 unfold jj at h
 split at h
 · assumption
 · cases h
theorem jH {t : TypeId} (h : yR P t = true) : ∃ e, P.underlying t = some (.slice e) ∧ P.underlying e = some (.int .u8) := by
 unfold yR at h
 split at h
 · rename_i e he; exact ⟨e, he, kc h⟩
 · cases h
theorem zcV (k : HRel P B R h w) {src dst _us _ud : TypeId} {x v : AV} {x' : Value} {dd : TypeDesc} {b : Bool} (hs : P.underlying src = some dd) (hd : P.underlying dst = some .string)
 (hb : yR P src = b) (e : zeZ h b x = some v) (hx : zl R x x') : ∃ v', (convert src dst x').run P w = .ok v' w ∧ zl R v v' := by
 unfold zeZ at e
 have hsl : ∀ _ : AV, b = true → ∃ el, dd = .slice el ∧ P.underlying el = some (.int .u8) := by
  intro y hb'
  rw [hb'] at hb
  obtain ⟨el, h1, h2⟩ := jH hb
  rw [hs] at h1; cases h1
  exact ⟨el, rfl, h2⟩
 have hnil : ∀ {i r o len} {l : List AV} {a : Addr} {vs : List Value} {cap : Nat}, b = true → zY (some l) = some v → zm R l vs → zo h i r o len = some l →
  (loadCells a len).run P w = .ok vs.toArray w → ∃ v', (convert src dst (.slice (some a) len cap)).run P w = .ok v' w ∧ zl R v v' := by
  intro i r o len l a vs cap hb' e hr _ hl
  obtain ⟨el, rfl, hel⟩ := hsl v hb'
  simp only [zY] at e
  unfold zio at e
  split at e
  · cases e
  · rename_i s hsx
    cases e
    exact ⟨.string ⟨s.toArray⟩, by simp [convert, za w hs, za w hd, za w hel, vu hsx hr hl], rfl⟩
 split at e
 · split at e
   · cases e
   · cases e; cases hx
     exact ⟨_, by simp only [convert, Sem.run_bind, za w hs, za w hd, Result.andThen_ok]; cases dd <;> rfl, rfl⟩
 · split at e
   · cases e
   · cases e; cases hx
     refine ⟨.string (Utf8.encode _), by simp only [convert, Sem.run_bind, za w hs, za w hd, Result.andThen_ok]; cases dd <;> rfl, ?_⟩
     simp [zl]
 · split at e
   · cases e; cases hx
     obtain ⟨el, rfl, hel⟩ := hsl .nilp rfl
     exact ⟨.string .empty, by simp [convert, za w hs, za w hd, za w hel, Conv.bytesToString], rfl⟩
   · cases e
 · split at e
   · rename_i i r o len c _
     obtain ⟨L, hL, hm, rfl⟩ := hx
     cases hl : zo h i r o len with
     | none => simp [hl, zY] at e
     | some l =>
      rw [hl] at e
      obtain ⟨vs, e1, e2, _⟩ := zO k hl hL hm
      exact hnil rfl e e2 hl e1
   · cases e
 · split at e
   · rename_i i r o len st _
     obtain ⟨L, a, hL, hm, hk, rfl, ha⟩ := hx
     cases hl : zo h i r o len with
     | none => simp [hl, zY] at e
     | some l =>
      rw [hl] at e
      obtain ⟨vs, e1, e2, e3⟩ := zO k hl hL hm
      by_cases hlt : st < L.kap
      · obtain rfl := ha hlt
        exact hnil rfl e e2 hl e1
      · have hlen : len = 0 := by omega
        subst hlen
        have hl0 : l = [] := List.eq_nil_of_length_eq_zero e3
        subst hl0
        cases e2
        exact hnil rfl e zm.nil hl (by simp [loadCells, loadCellsFrom])
   · cases e
 · cases e
theorem zhw {b : Nat} {cs : Array Value} {el : TypeId} {fz : Nat × Nat} (w : World) (e : w.heap[b]? = some (.cells cs el fz)) : (viewAt b).run P w = .ok none w := by
 simp [viewAt, World.shape?, e]
theorem za9 (k : HRel P B R h w) {src dst t : TypeId} {x v : AV} {x' : Value} (hs : P.underlying src = some (.pointer t)) (hd : P.underlying dst = some .unsafePointer)
 (e : zcx h (yt P t) x = some v) (hx : zl R x x') : ∃ v', (convert src dst x').run P w = .ok v' w ∧ zl R v v' := by
 unfold zcx at e
 split at e
 · rename_i i r o
   split at e
   · rename_i n c m el lo hi nv fz sg ex hsz ho
     obtain ⟨inf, hinf, hn⟩ := zC hsz
     split at e
     · rename_i e' he
       split at e
       · rename_i hc
         cases e
         have hx0 := hx
         obtain ⟨L, hL, hm, rfl⟩ := hx
         obtain ⟨L', hL', hv⟩ := k.ver hL ho hc.1 hc.2.1 he
         rw [hL] at hL'; cases hL'
         obtain ⟨cs, a, b, f1, f2, _⟩ := hv
         refine ⟨_, ?_, hx0⟩
         have hsh : w.shape? L.block = some (el, cs.size) := by simp [World.shape?, f1]
         have hlt : o - L.minus < cs.size := by omega
         simp only [convert, Sem.run_bind, za w hs, za w hd, Result.andThen_ok, Conv.unsafePointer, Conv.seenAt, zhw w f1, Sem.run_pure, cellsIn, run_shape, hsh, zp w hinf, hn]
         have : ¬ (cs.size ≤ o - L.minus) := by omega
         simp [this]
       · cases e
     · cases e
   · cases e
 · cases e
theorem wC {f : TypeId → Nat → Bool} {r : Nat} : ∀ {l : List Field}, kE P f r l = true →
 ∃ x ∈ l, x.offset ≤ r ∧ r < x.offset + P.cellsOf x.type ∧ f x.type (r - x.offset) = true
 | [], e => by cases e
 | x :: l, e => by
  unfold kE at e
  split at e
  · cases e
  · rename_i s hs
    obtain ⟨i, hi, hsz⟩ := zC hs
    split at e
    · rename_i hc
      simp only [Bool.and_eq_true, Nat.ble_eq, Nat.blt_eq] at hc
      exact ⟨x, by simp, hc.1, by rw [zG hi, hsz]; exact hc.2, e⟩
    · obtain ⟨y, h1, h2⟩ := wC e
      exact ⟨y, by simp [h1], h2⟩
theorem wv {u : TypeId} {fits : TypeId → Bool} (hf : fits u = true) : ∀ {d D : Nat} {e : TypeId} {r i count : Nat}, d ≤ D → zd2 P u d e r = true → r < P.cellsOf e → i < count →
 rowAt P fits D e count (i * P.cellsOf e + r) 1 = true
 | 0, _, _, _, _, _, _, e, _, _ => by cases e
 | d + 1, 0, _, _, _, _, h, _, _, _ => by omega
 | d + 1, D + 1, e, r, i, count, h, hfit, hr, hi => by
  have hs0 : P.cellsOf e ≠ 0 := by omega
  have hdiv : (i * P.cellsOf e + r) / P.cellsOf e = i := by
   rw [Nat.add_comm, Nat.add_mul_div_right _ _ (by omega), Nat.div_eq_of_lt hr, Nat.zero_add]
  have hmod : (i * P.cellsOf e + r) % P.cellsOf e = r := by
   rw [Nat.add_comm, Nat.add_mul_mod_self_right, Nat.mod_eq_of_lt hr]
  simp only [rowAt, hs0, if_false, hdiv, hmod]
  unfold zd2 at hfit
  split at hfit
  · rename_i hc
    simp only [Bool.and_eq_true] at hc
    have h1 := Nat.eq_of_beq_eq_true hc.1
    have h2 : e = u := Nat.eq_of_beq_eq_true hc.2
    subst h1 h2
    have : i + 1 ≤ count := hi
    simp [this, hf]
  · split at hfit
    · rename_i fs hu
      simp only [Bool.and_eq_true, Bool.not_eq_true'] at hfit
      obtain ⟨x, m1, m2, m3, m4⟩ := wC hfit.2
      have ih := wv hf (d := d) (D := D) (i := 0) (count := 1) (by omega) m4 (by omega) (by omega)
      rw [Nat.zero_mul, Nat.zero_add] at ih
      rw [hu]
      have hany : (fs.any fun f => f.offset ≤ r && r < f.offset + P.cellsOf f.type && rowAt P fits D f.type 1 (r - f.offset) 1) = true := by
       rw [Array.any_eq_true']
       exact ⟨x, by simpa using m1, by simp [m2, m3, ih]⟩
      simp [hi, hfit.1, hany]
    · rename_i m e' hu
      unfold zjr at hfit
      split at hfit
      · cases hfit
      · rename_i s hs
        obtain ⟨inf, hinf, hsz⟩ := zC hs
        split at hfit
        · cases hfit
        · rename_i s'
          simp only [Bool.and_eq_true, Nat.blt_eq] at hfit
          have hcel : P.cellsOf e' = s' + 1 := by rw [zG hinf, hsz]
          have ih := wv hf (d := d) (D := D) (i := r / (s' + 1)) (count := m) (by omega) hfit.2 (by rw [hcel]; exact Nat.mod_lt _ (by omega)) hfit.1
          rw [hcel, Nat.mul_comm, Nat.div_add_mod] at ih
          rw [hu]
          simp [hi, ih]
    · cases hfit
theorem jI (k : HRel P B R h w) {src dst t : TypeId} {x v : AV} {x' : Value} (hs : P.underlying src = some .unsafePointer) (hd : P.underlying dst = some (.pointer t))
 (e : jo P h t (yt P t) x = some v) (hx : zl R x x') : ∃ v', (convert src dst x').run P w = .ok v' w ∧ zl R v v' := by
 unfold jo at e
 split at e
 · rename_i i r o
   split at e
   · rename_i n c m el lo hi nv fz sg ex hsz ho
     obtain ⟨inf, hinf, hn⟩ := zC hsz
     split at e
     · rename_i ee hee
       split at e
       · rename_i hc
         obtain ⟨c1, c2, c3, c4⟩ := hc
         cases e
         have hx0 := hx
         obtain ⟨L, hL, hm, rfl⟩ := hx
         obtain ⟨L', hL', hv⟩ := k.ver hL ho c1 c2 hee
         rw [hL] at hL'; cases hL'
         obtain ⟨cs, a, b, f1, f2, ⟨f3, q, f4⟩, _⟩ := hv
         refine ⟨_, ?_, hx0⟩
         have hsh : w.shape? L.block = some (el, cs.size) := by simp [World.shape?, f1]
         have hd' : ∃ d, P.depth = d + 1 ∧ 9 ≤ d + 1 := ⟨2 * (P.types.size + zcY.depth) + 1, rfl, by simp only [zcY.depth]; omega⟩
         obtain ⟨d, hd', hd9⟩ := hd'
         have hvar : liesAt P P.depth el (cs.size / P.cellsOf el) (o - L.minus) t 1 = true := by
          unfold zkX at c4
          split at c4
          · cases c4
          · rename_i s hs
            obtain ⟨inf2, hinf2, hn2⟩ := zC hs
            split at c4
            · cases c4
            · rename_i s0
              have hcel : P.cellsOf el = s0 + 1 := by rw [zG hinf2]; exact hn2
              rw [hcel] at f3 f4
              have hoff : o - L.minus = (o - L.minus) / (s0 + 1) * P.cellsOf el + o % (s0 + 1) := by
               rw [hcel]
               have h1 : o = (o - L.minus) + (s0 + 1) * q := by omega
               have h2 : o % (s0 + 1) = (o - L.minus) % (s0 + 1) := by
                conv => lhs; rw [h1, Nat.add_mul_mod_self_left]
               rw [h2]
               exact (Nat.div_add_mod' _ _).symm
              have hcnt : (o - L.minus) / (s0 + 1) < cs.size / P.cellsOf el := by
               rw [hcel]
               have h1 : L.kap * (s0 + 1) = cs.size + (s0 + 1) * q := by omega
               have h2 : cs.size = (L.kap - q) * (s0 + 1) := by rw [Nat.mul_comm (s0 + 1) q] at h1; rw [Nat.sub_mul]; omega
               rw [h2, Nat.mul_div_cancel _ (by omega)]
               rw [Nat.div_lt_iff_lt_mul (by omega), ← h2]; omega
              have hrow := wv (P := P) (u := t) (fits := (sameLayout P P.depth · t)) (by rw [hd']; simp [sameLayout]) (d := 9) (D := P.depth) (by omega) c4 (by rw [hcel]; exact Nat.mod_lt _ (by omega)) hcnt
              rw [← hoff] at hrow
              rw [hd'] at hrow ⊢
              simp only [liesAt]
              rw [hd', hrow]; rfl
         simp only [convert, Sem.run_bind, za w hs, za w hd, Result.andThen_ok, Conv.unsafePointer, Conv.seenAt, zhw w f1, Sem.run_pure, zp w hinf, variablesAt, run_program, run_shape, hsh, hvar]
         simp
       · cases e
     · cases e
   · cases e
 · cases e
theorem ze2 (k : HRel P B R h w) {src dst : TypeId} {x v : AV} {x' : Value} (e : zgG P h src dst x = some v) (hx : zl R x x') :
 ∃ v', (convert src dst x').run P w = .ok v' w ∧ zl R v v' := by
 unfold zgG at e
 split at e
 · cases e
 · rename_i dd hs
   split at e
   · cases e
   · rename_i u hd
     split at e
     · rename_i kk
       unfold ziZ at e
       split at e
       · cases hx; cases e
         exact ⟨_, by simp only [convert, Sem.run_bind, za w hs, za w hd, Result.andThen_ok]; cases dd <;> rfl, rfl⟩
       · cases e
     · exact zcV (_us := 0) (_ud := 0) k hs hd rfl e hx
     · split at e
       · cases e
       · rename_i t ht
         unfold vm at ht
         split at ht
         · rename_i e0 he0; cases ht
           exact za9 k he0 hd e hx
         · cases ht
     · split at e
       · rename_i ht
         unfold zea at ht
         split at ht
         · rename_i he0; exact jI k he0 hd e hx
         · cases ht
       · cases e
     · cases e
theorem wH {ck : TypeId → AV → Bool} {ck' : TypeId → Value → Sem Unit} (w : World) (hq : ∀ t x x', ck t x = true → zl R x x' → (ck' t x').run P w = .ok () w)
 {cs : List AV} {cs' : List Value} (hx : zm R cs cs') : ∀ {fs : List Field}, vR P ck cs fs = true →
 (forIn fs PUnit.unit fun f _ => do
  if f.name ≠ "_" then
   ck' f.type (← part f.type cs'.toArray f.offset)
   pure (.yield ⟨⟩)
  else pure (.yield ⟨⟩) : Sem PUnit).run P w = .ok ⟨⟩ w
 | [], _ => by simp
 | f :: r, e => by
  simp only [vR, Bool.and_eq_true] at e
  obtain ⟨e1, e2⟩ := e
  have ih := wH w hq hx e2
  split at e1
  · rename_i hn
    split at e1
    · cases e1
    · rename_i v hv
      obtain ⟨v', ev', rv⟩ := xG w hv hx
      simp only [List.forIn_cons, Sem.run_bind, hn, ne_eq, not_false_eq_true, if_true, ev', Result.andThen_ok, hq _ _ _ e1 rv, Sem.run_pure]
      exact ih
  · rename_i hn
    simp only [List.forIn_cons, Sem.run_bind, hn, if_false, Sem.run_pure, Result.andThen_ok]
    exact ih
theorem vo {ck : AV → Bool} {ck' : Value → Sem Unit} {el : TypeId} {inf : TypeInfo} (w : World) (hi : P.info? el = some inf) (hq : ∀ x x', ck x = true → zl R x x' → (ck' x').run P w = .ok () w)
 {cs : List AV} {cs' : List Value} (hx : zm R cs cs') : ∀ {n i : Nat}, jU P ck el inf.size cs n i = true →
 (forIn (List.range' i n) PUnit.unit fun i _ => do
  ck' (← part el cs'.toArray (i * (← sizeOf el)))
  pure (.yield ⟨⟩) : Sem PUnit).run P w = .ok ⟨⟩ w
 | 0, _, _ => by simp
 | n + 1, i, e => by
  simp only [jU, Bool.and_eq_true] at e
  obtain ⟨e1, e2⟩ := e
  have ih := vo w hi hq hx e2
  rw [List.range'_succ]
  split at e1
  · cases e1
  · rename_i v hv
    obtain ⟨v', ev', rv⟩ := xG w hv hx
    simp only [List.forIn_cons, Sem.run_bind, zp w hi, ev', Result.andThen_ok, hq _ _ e1 rv, Sem.run_pure]
    exact ih
theorem yh (w : World) : ∀ {d : Nat} {t : TypeId} {x : AV} {x' : Value} (em : Bool) (D : Nat), jz P d t x = true → zl R x x' → (Instr.checkKey em (D + d) t x').run P w = .ok () w
 | 0, t, x, x', em, D, e, _ => by simp [jz] at e
 | d + 1, t, x, x', em, D, e, hx => by
  have ih : ∀ t x x', jz P d t x = true → zl R x x' → (Instr.checkKey em (D + d) t x').run P w = .ok () w := fun t x x' e hx => yh w em D e hx
  simp only [jz] at e
  split at e
  · cases e
  · rename_i u hu
    rw [show D + (d + 1) = (D + d) + 1 from rfl, Instr.checkKey]
    simp only [Sem.run_bind, za w hu, Result.andThen_ok]
    split at e
    · cases x' <;> rfl
    · cases x' <;> rfl
    · cases x' <;> rfl
    · rename_i n el
      unfold zk1 at e
      split at e
      · obtain ⟨a, rfl, ha⟩ := hx
        split at e
        · cases e
        · rename_i s hs
          obtain ⟨inf, hi, rfl⟩ := zC hs
          have := vo (P := P) w hi (fun x x' => ih el x x') ha e
          simp only [Std.Legacy.Range.forIn_eq_forIn_range', Std.Legacy.Range.size, Nat.sub_zero, Nat.add_one_sub_one, Nat.div_one] at this ⊢
          simpa using this
      · cases e
    · rename_i fs
      unfold zlf at e
      split at e
      · obtain ⟨a, rfl, ha⟩ := hx
        have := wH (P := P) w (fun t x x' => ih t x x') ha e
        simp only [← Array.forIn_toList]
        simpa using this
      · cases e
    · cases e
def ziL (P : Program) (h : AHeap) (kt : TypeId) (key : AV) (es : List AEntry) (es' : List MapEntry) (i : Nat) : Option (Nat × AEntry) → Option (Nat × Value) → Prop
 | none, r' => r' = none
 | some (j, a), r' => ∃ b, i ≤ j ∧ es[j - i]? = some a ∧ es'[j - i]? = some b ∧ r' = some (j, b.val) ∧ eqA P h 9 kt key a.key = some true
theorem q7 (k : HRel P B R h w) {kt : TypeId} {key : AV} {key' : Value} (hk : zl R key key') : ∀ {es : List AEntry} {es' : List MapEntry} {i : Nat} {r : Option (Nat × AEntry)},
 zcv (eqA P h 9 kt) key es i = some r → xU (zjy R) es es' →
 ∃ r', (Instr.findAsking kt key' es' i).run P w = .ok r' w ∧ ziL P h kt key es es' i r r'
 | [], es', i, r, e, he => by
  cases he
  simp [zcv] at e; subst e
  exact ⟨none, by simp [Instr.findAsking], rfl⟩
 | a :: es, es', i, r, e, he => by
  obtain ⟨b, bs, rfl, hab, hrest⟩ := he
  simp only [zcv] at e
  split at e
  · cases e
  · rename_i bb hb
    have heq := qM k hb hk hab.1
    split at e
    · cases e
      exact ⟨some (i, b.val), by simp [Instr.findAsking, heq], b, Nat.le_refl _, by simp, by simp, rfl, hb⟩
    · obtain ⟨r', e1, e2⟩ := q7 k hk e hrest
      refine ⟨r', by simp [Instr.findAsking, heq, e1], ?_⟩
      cases r with
      | none => exact e2
      | some ja =>
       obtain ⟨j, a'⟩ := ja
       obtain ⟨c, g1, g2, g3, g4, g5⟩ := e2
       have hj : j - i = (j - (i + 1)) + 1 := by omega
       exact ⟨c, by omega, by rw [hj]; simpa using g2, by rw [hj]; simpa using g3, g4, g5⟩
theorem zha {u : TypeDesc} {kt : TypeId} {x y : AV} {x' y' : Value} {b : Bool} (_k : HRel P B R h w) (hu : P.underlying kt = some u) (e : eqA P h 9 kt x y = some b) (hx : zl R x x') (hy : zl R y y') :
 Instr.sameNow u x' y' = some b ∨ Instr.sameNow u x' y' = none := by
 simp only [eqA, hu] at e
 split at e
 · unfold eqB at e
   split at e
   · split at e
     · cases e; cases hx; cases hy; left; rfl
     · cases e
   · cases e
 · unfold eqN at e
   split at e
   · split at e
     · cases hx; cases hy
       split at e
       · rename_i hk; subst hk; cases e; left; simp [Instr.sameNow]
       · cases e
     · cases e
   · cases e
 · unfold eqT at e
   split at e
   · split at e
     · cases e; cases hx; cases hy; left; simp only [Instr.sameNow, zdz]
     · cases e
   · cases e
 all_goals first | (right; rfl) | cases e
theorem yB (k : HRel P B R h w) {kt : TypeId} {key : AV} {key' : Value} (hk : zl R key key') {es : List AEntry} {es' : List MapEntry} {r : Option (Nat × AEntry)} {u : TypeDesc} (hu : P.underlying kt = some u)
 (e : zcv (eqA P h 9 kt) key es 0 = some r) (he : xU (zjy R) es es') :
 ∃ r', (Instr.findKey kt key' es').run P w = .ok r' w ∧ ziL P h kt key es es' 0 r r' := by
 obtain ⟨r', e1, e2⟩ := q7 k hk e he
 refine ⟨r', ?_, e2⟩
 simp only [Instr.findKey, Sem.run_bind, za w hu, Result.andThen_ok]
 have hn : Instr.findNow u key' es' 0 = some r' ∨ Instr.findNow u key' es' 0 = none := by
  clear e2
  generalize hi : 0 = i at e e1 ⊢
  clear hi
  induction es generalizing es' i r r' with
  | nil =>
   cases he
   simp [Instr.findAsking] at e1; subst e1; exact .inl rfl
  | cons a es ih =>
   obtain ⟨b, bs, rfl, hab, hrest⟩ := he
   simp only [zcv] at e
   split at e
   · cases e
   · rename_i bb hb
     have heq := qM k hb hk hab.1
     simp only [Instr.findAsking, Sem.run_bind, heq, Result.andThen_ok] at e1
     simp only [Instr.findNow]
     rcases zha k hu hb hk hab.1 with h1 | h1
     · rw [h1]
       cases bb with
       | true => simp at e1; subst e1; exact .inl rfl
       | false =>
        simp at e1 e
        apply ih <;> assumption
     · rw [h1]; exact .inr rfl
 rcases hn with hn | hn
 · rw [hn]; rfl
 · rw [hn]; exact e1
theorem yX {t kt el : TypeId} (e : zeq P t = some (kt, el)) : P.underlying t = some (.map kt el) := by
 unfold zeq at e
 split at e
 · rename_i a b hab; cases e; exact hab
 · cases e
theorem kK {d : Nat} {t : TypeId} {x : AV} (e : jz P d t x = true) : ∃ u, P.underlying t = some u := by
 cases d with
 | zero => simp [jz] at e
 | succ d =>
  simp only [jz] at e
  split at e
  · cases e
  · rename_i u hu; exact ⟨u, hu⟩
theorem wS {ok b : Bool} {v r : AV} {v' : Value} (e : zjA ok v b = some r) (hv : zl R v v') : zl R r (if ok then .tuple #[v', .bool b] else v') := by
 unfold zjA at e
 split at e
 · cases e; exact ⟨[v', .bool b], by simp, .cons hv (.cons rfl .nil)⟩
 · cases e; exact hv
theorem zb2 (k : HRel P B R h w) {t : TypeId} {m key v : AV} {m' key' : Value} {ok : Bool} (e : zeE P h t m key ok = some v) (hm : zl R m m') (hk : zl R key key') :
 ∃ v', (Instr.lookup t m' key' ok).run P w = .ok v' w ∧ zl R v v' := by
 unfold zeE at e
 split at e
 · cases e
 · rename_i kt el hmo
   have hmap := yX hmo
   have go : ∀ {es : List AEntry} {es' : Array MapEntry} {r : Option (Nat × AEntry)}, jz P 9 kt key = true → zcv (eqA P h 9 kt) key es 0 = some r → xU (zjy R) es es'.toList →
    (match r with
     | some (_, a) => zjA ok a.val true
     | none => match wJ P el with
      | none => none
      | some z => zjA ok z false) = some v →
    ∃ v', (do
     Instr.checkKey es'.isEmpty 10000 kt key'
     let (v, ok') ← match ← Instr.findKey kt key' es'.toList with
      | some (_, v) => pure (v, true)
      | none => pure (← zeroValue el, false)
     pure (if ok then .tuple #[v, .bool ok'] else v) : Sem Value).run P w = .ok v' w ∧ zl R v v' := by
    intro es es' r hko hf hes hr
    obtain ⟨u, hu⟩ := kK hko
    obtain ⟨r', e1, e2⟩ := yB k hk hu hf hes
    have hck := yh w es'.isEmpty 9991 hko hk
    simp only [Sem.run_bind, hck, Result.andThen_ok, e1]
    cases r with
    | none =>
     cases e2
     simp only [] at hr
     split at hr
     · cases hr
     · rename_i z hz
       obtain ⟨inf, zv, hi, hzv, hzr⟩ := zV R hz
       exact ⟨_, by simp [zx w hi hzv], wS hr hzr⟩
    | some ja =>
     obtain ⟨j, a⟩ := ja
     obtain ⟨b, _, g1, g2, rfl, _⟩ := e2
     simp only [Nat.sub_zero] at g1 g2
     obtain ⟨b', hb', hab⟩ := hes.get j a g1
     rw [g2] at hb'; cases hb'
     exact ⟨_, by simp, wS hr hab.2.1⟩
   have fin : ∀ {r : Option (Nat × AEntry)}, vg P h kt key m = some r → jz P 9 kt key = true ∧ ∃ es, yJ h m = some es ∧ zcv (eqA P h 9 kt) key es 0 = some r := by
    intro r hr
    unfold vg at hr
    split at hr
    · rename_i hko
      split at hr
      · cases hr
      · rename_i es hes
        exact ⟨hko, es, hes, hr⟩
    · cases hr
   have ent : ∀ {es : List AEntry}, yJ h m = some es → (m' = .map none ∧ es = []) ∨ ∃ (i : Nat) (L : Loc) (es' : Array MapEntry) (clock : Nat), m = .mp i ∧ m' = .map (some L.block) ∧ w.heap[L.block]? = some (.map es' clock) ∧ xU (zjy R) es es'.toList := by
    intro es hes
    unfold yJ at hes
    split at hes
    · cases hes; cases hm; exact .inl ⟨rfl, rfl⟩
    · rename_i i
      split at hes
      · rename_i es0 clock ho
        cases hes
        obtain ⟨L, hL, rfl⟩ := hm
        obtain ⟨L', es', hL', hh, hr⟩ := k.obj' hL ho
        rw [hL] at hL'; cases hL'
        exact .inr ⟨i, L, es', clock, rfl, rfl, hh, hr⟩
      · cases hes
    · cases hes
   have all : ∀ {r : Option (Nat × AEntry)}, vg P h kt key m = some r →
    (match r with
     | some (_, a) => zjA ok a.val true
     | none => match wJ P el with
      | none => none
      | some z => zjA ok z false) = some v → ∃ v', (Instr.lookup t m' key' ok).run P w = .ok v' w ∧ zl R v v' := by
    intro r hr hv
    obtain ⟨hko, es, hes, hf⟩ := fin hr
    rcases ent hes with ⟨rfl, rfl⟩ | ⟨i, L, es', clock, rfl, rfl, hh, hrel⟩
    · obtain ⟨v', e1, e2⟩ := go (es' := #[]) hko hf rfl hv
      refine ⟨v', Eq.trans ?_ e1, e2⟩
      simp only [Instr.lookup, Sem.run_bind, za w hmap, Result.andThen_ok, Sem.run_pure]
      rfl
    · obtain ⟨v', e1, e2⟩ := go hko hf hrel hv
      refine ⟨v', Eq.trans ?_ e1, e2⟩
      simp only [Instr.lookup, Sem.run_bind, za w hmap, Result.andThen_ok]
      have hg : (getObj L.block).run P w = .ok (.map es' clock) w := by simp [getObj, Sem.run, hh]
      simp only [hg, Result.andThen_ok, Sem.run_pure, Sem.run_bind]
      rfl
   split at e
   · cases e
   · rename_i a hfi
     exact all hfi e
   · rename_i hfi
     exact all hfi e
end
end Go.Proofs.YtdbfpjgnlfejmaaDoor.Ev
end
section
namespace Go.Proofs.YtdbfpjgnlfejmaaDoor.Ev
open Go
section
variable {P : Program} {B : Base} {R : Bij} {h : AHeap} {w : World}
theorem wF {t : TypeId} {ok : Bool} {v : AV} (R : Bij) (_w : World) (e : zdf P t ok = some v) :
 ok = true ∧ ∃ i z, P.info? t = some i ∧ i.zero = some z ∧ zl R v (.tuple #[z, .bool false]) := by
 unfold zdf at e
 split at e
 · cases e
 · split at e
   · cases e
   · rename_i z hz
     cases e
     obtain ⟨inf, zv, hi, hzv, hzr⟩ := zV R hz
     exact ⟨rfl, inf, zv, hi, hzv, [zv, .bool false], rfl, .cons hzr (.cons rfl .nil)⟩
theorem za4 (want : Array (String × TypeId)) (got : Array Method) : (want.toList.filter fun (x : String × TypeId) => !got.any fun m => m.name == x.1 && m.sig == x.2) = want.toList.filter fun p => !(got.toList.any fun m => m.name == p.1 && m.sig == p.2) := by
 congr 1
 funext p
 rw [Array.any_toList]
theorem zix {want : Array (String × TypeId)} {got : Array Method} (h : zii want got = false) : Instr.missingMethod want got = none := by
 have he : (want.toList.filter fun (x : String × TypeId) => !got.any fun m => m.name == x.1 && m.sig == x.2) = [] := by
  rw [za4, List.filter_eq_nil_iff]
  intro p hp
  unfold zii at h
  rw [List.any_eq_false] at h
  exact h p hp
 unfold Instr.missingMethod
 simp only [he, List.map_nil, List.partition_eq_filter_filter, List.filter_nil]
 rfl
theorem zhs {want : Array (String × TypeId)} {got : Array Method} (h : zii want got = true) : ∃ m, Instr.missingMethod want got = some m := by
 have hne : ((want.toList.filter fun (x : String × TypeId) => !got.any fun m => m.name == x.1 && m.sig == x.2).map (·.1)) ≠ [] := by
  rw [za4]
  unfold zii at h
  rw [List.any_eq_true] at h
  obtain ⟨p, hp, hq⟩ := h
  intro e
  have : p ∈ want.toList.filter fun p => !(got.toList.any fun m => m.name == p.1 && m.sig == p.2) := List.mem_filter.2 ⟨hp, hq⟩
  rw [List.map_eq_nil_iff] at e
  rw [e] at this
  cases this
 unfold Instr.missingMethod
 generalize ((want.toList.filter fun (x : String × TypeId) => !got.any fun m => m.name == x.1 && m.sig == x.2).map (·.1)) = l at hne ⊢
 simp only [List.partition_eq_filter_filter]
 cases h1 : l.filter (fun x => !x.contains (Char.ofNat 46)) with
 | cons a r =>
  have h2 : List.filter (not ∘ fun x => x.contains (Char.ofNat 46)) l = a :: r := h1
  rw [h2]
  exact ⟨_, rfl⟩
 | nil =>
  have h2 : List.filter (not ∘ fun x => x.contains (Char.ofNat 46)) l = [] := h1
  rw [h2]
  cases h3 : l.filter (fun x => x.contains (Char.ofNat 46)) with
  | cons a r =>
   exact ⟨_, rfl⟩
  | nil =>
   exfalso
   cases l with
   | nil => exact hne rfl
   | cons a r =>
    have e1 := List.filter_eq_nil_iff.1 h1 a List.mem_cons_self
    have e2 := List.filter_eq_nil_iff.1 h3 a List.mem_cons_self
    cases h : a.contains (Char.ofNat 46) with
    | true => exact e2 h
    | false =>
     rw [h] at e1
     exact e1 rfl
theorem zcy {x v : AV} {x' : Value} {xt t : TypeId} {ok : Bool} (w : World) (e : zfg P x t ok = some v) (hx : zl R x x') :
 ∃ v', (Instr.typeAssert x' xt t ok).run P w = .ok v' w ∧ zl R v v' := by
 unfold zfg at e
 split at e
 · cases e
 · rename_i u hu
   split at e
   · cases hx
     obtain ⟨rfl, i, z, hi, hz, hr⟩ := wF R w e
     refine ⟨_, ?_, hr⟩
     cases u <;> simp [Instr.typeAssert, za w hu, zx w hi hz]
   · rename_i ti y
     obtain ⟨y', rfl, hy⟩ := hx
     split at e
     · rename_i want
       unfold zh3 at e
       split at e
       · cases e
       · rename_i inf hinf
         split at e
         · rename_i hmm
           refine ⟨_, ?_, wS e (show zl R (.ifc ti y) (.iface ti y') from ⟨y', rfl, hy⟩)⟩
           simp [Instr.typeAssert, za w hu, zN w hinf, zix hmm]
         · rename_i hmm
           obtain ⟨s, hmm⟩ := zhs hmm
           obtain ⟨rfl, i, z, hi, hz, hr⟩ := wF R w e
           refine ⟨_, ?_, hr⟩
           simp [Instr.typeAssert, za w hu, zN w hinf, hmm, zx w hi hz]
     · rename_i hni
       split at e
       · rename_i ht
         subst ht
         refine ⟨_, ?_, wS e hy⟩
         cases u <;> first | exact absurd rfl (hni _) | simp [Instr.typeAssert, za w hu]
       · rename_i ht
         obtain ⟨rfl, i, z, hi, hz, hr⟩ := wF R w e
         refine ⟨_, ?_, hr⟩
         cases u <;> first | exact absurd rfl (hni _) | simp [Instr.typeAssert, za w hu, ht, zx w hi hz]
   · cases e
theorem zbe {t : TypeId} {x v : AV} {x' : Value} (w : World) (e : zbW P t x = some v) (hx : zl R x x') :
 ∃ v', (Instr.makeInterface t x').run P w = .ok v' w ∧ zl R v v' := by
 unfold zbW at e
 split at e
 · cases e
 · rename_i u hu
   split at e
   · cases e
   · rename_i hni
     cases e
     refine ⟨.iface t x', ?_, x', rfl, hx⟩
     cases u <;> first | exact absurd rfl (hni _) | simp [Instr.makeInterface, za w hu]
theorem zeo {t e : TypeId} (h : vm P t = some e) : P.underlying t = some (.pointer e) := by
 unfold vm at h
 split at h
 · rename_i x hx; cases h; exact hx
 · cases h
theorem zff {t : TypeId} {u : TypeDesc} (h : vm P t = none) (hu : P.underlying t = some u) : ∀ e, u ≠ .pointer e := by
 intro e he; subst he; simp [vm, hu] at h
theorem zmC {argTypes : Array TypeId} {t : TypeId} {a : Addr} {x y : ByteArray} (w : World) :
 (Builtin.ssaWrapNilChk_ argTypes t #[.pointer (some a), .string x, .string y]).run P w = .ok (.pointer (some a)) w := rfl
theorem zcI (k : HRel P B R h w) {t : TypeId} {v r : AV} {v' : Value} {name : String} {f : FuncId} (e : zfd P h t v name = some (f, r)) (hv : zl R v v') (n : Nat) :
 ∃ r', (method (n + 1) t v' name).run P w = .ok (f, r') w ∧ zl R r r' := by
 unfold zfd at e
 split at e
 · cases e
 · rename_i inf hinf
   split at e
   · cases e
   · rename_i m hm
     split at e
     · rename_i hp
       split at e
       · cases e
       · rename_i g isPtr hf
         split at e
         · cases e
         · rename_i u hu
           unfold zk0 at e
           split at e
           · rename_i el hel
             have hptr := zeo hel
             rw [hu] at hptr; cases hptr
             split at e
             · cases e
               refine ⟨v', ?_, hv⟩
               simp [method, zN w hinf, hm, hp, follow, hf, receiverAt, za w hu, Place.get]
             · split at e
               · rename_i i0 r0 o0
                 split at e
                 · cases e
                 · rename_i x hl
                   cases e
                   have hv0 := hv
                   obtain ⟨L, hL, hmm, rfl⟩ := hv
                   obtain ⟨x', e1, e2⟩ := qJ k hl hv0
                   refine ⟨x', ?_, e2⟩
                   have e1' : (loadVar el ⟨L.block, o0 - L.minus, none⟩).run P w = .ok x' w := by simpa [Instr.loadAt, Instr.sureAddr] using e1
                   have hpe : m.path = #[] := by apply Array.ext'; simpa using hp
                   simp [method, zN w hinf, hm, follow, hf, receiverAt, za w hu, Place.get, hpe, strVal, zmC, asAddr, e1']
               · cases e
           · rename_i hel
             have hnp := zff hel hu
             split at e
             · cases e
             · cases e
               refine ⟨v', ?_, hv⟩
               cases u <;> first | exact absurd rfl (hnp _) | simp [method, zN w hinf, hm, hp, follow, hf, receiverAt, za w hu, Place.get]
     · rename_i s rest hp
       split at e
       · cases e
       · split at e
         · cases e
         · rename_i g isPtr hf
           unfold hopA at e
           split at e
           · cases e
           · rename_i hd
             split at e
             · rename_i fs hs
               split at e
               · cases e
               · rename_i fl hfl
                 split at e
                 · cases e
                 · rename_i u hu
                   split at e
                   · cases e
                   · rename_i hnp
                     split at e
                     · rename_i i0 r0 o0
                       obtain ⟨L, hL, hmm, rfl⟩ := hv
                       unfold znC jV at e
                       simp only at e
                       split at e
                       · cases e
                       · rename_i q hq
                         split at hq
                         · cases hq
                         · cases hq
                         · rename_i sz hsz
                           cases hq
                           obtain ⟨inf2, hi2, hsz2⟩ := zC hsz
                           have hfp : (fieldPlace ⟨L.block, o0 - L.minus, none⟩ fl).run P w = .ok ⟨L.block, o0 + fl.offset - L.minus, none⟩ w := by
                            have : inf2.size ≠ 0 := by omega
                            simp [fieldPlace, zp w hi2, this, zz]
                            omega
                           have hq : zl R (.ptr i0 r0 (o0 + fl.offset)) (.pointer (some ⟨L.block, o0 + fl.offset - L.minus, none⟩)) := ⟨L, hL, by omega, rfl⟩
                           split at e
                           · cases e
                             refine ⟨_, ?_, hq⟩
                             cases u <;> first | exact absurd rfl (hnp _) | simp [method, zN w hinf, hm, hp, follow, za w hs, hfl, hd, Place.get, asAddr, hfp, hf, receiverAt, za w hu]
                           · split at e
                             · cases e
                             · rename_i x hl
                               cases e
                               obtain ⟨x', e1, e2⟩ := qJ k hl hq
                               have e1' : (loadVar fl.type ⟨L.block, o0 + fl.offset - L.minus, none⟩).run P w = .ok x' w := by simpa [Instr.loadAt, Instr.sureAddr] using e1
                               refine ⟨x', ?_, e2⟩
                               cases u <;> first | exact absurd rfl (hnp _) | simp [method, zN w hinf, hm, hp, follow, za w hs, hfl, hd, Place.get, asAddr, hfp, hf, receiverAt, za w hu, e1']
                     · cases e
             · cases e
theorem zdy {len s : Nat} (h : len * s ≤ 2 ^ 24) (h0 : 0 < s) : len ≤ 9223372036854775807 := by
 have h1 := Nat.le_mul_of_pos_right len h0
 have h2 := Nat.le_trans h1 h
 clear h h1 h0
 omega
theorem zae (k : HRel P B R h w) (hB : B.n ≤ w.heap.size) {el : TypeId} {l : List AV} {vs : List Value} {kap : Nat} {w' : World} (hr : zm R l vs) (hk : kap * P.cellsOf el = l.length) (hkb : kap ≤ 9223372036854775807)
 (hh : w'.heap = w.heap.push (.cells vs.toArray el)) (hos : w'.os = w.os) (ht : w'.tape = w.tape) (hout : w'.output = w.output) (hdr : w.drawn ≤ w'.drawn := by first | exact Nat.le_refl _ | exact Nat.le_succ _ | assumption) :
 HRel P B (R.upd h.next 0 ⟨w.heap.size, 0, kap⟩) (xV h el l false) w' ∧ Keeps R w (R.upd h.next 0 ⟨w.heap.size, 0, kap⟩) w' := by
 have hfree := k.fresh h.next (Nat.le_refl _)
 refine k.new hB _ _ ⟨w.heap.size, 0, kap⟩ rfl hh hos ht hout ?_
 refine ⟨Nat.le_refl _, by omega, fun r hr' => ?_, fun r e h1 h2 h3 => ?_, fun r e h1 h2 h3 => ?_⟩
 rotate_left 2
 · obtain rfl : r = 0 := by omega
   simp [zJ] at h3; omega
 · rw [R.upd_other _ (by omega)]; exact hfree r
 · obtain rfl : r = 0 := by omega
   simp [zJ] at h3; subst h3
   refine ⟨_, R.upd_same _ _ _, vs.toArray, 0, 0, ?_, by simp [hr.length], by simp [hr.length, hk], ⟨⟨Nat.le_refl _, fun _ => Nat.le_trans hkb (Nat.le_add_left _ _)⟩, fun j a b => by omega⟩, fun j x a _ c => ?_⟩
   · rw [hh]; simp
   · rw [zr] at c
     simp only [Nat.zero_le, true_and, Nat.zero_add, Nat.sub_zero] at c ⊢
     rw [if_pos a] at c
     obtain ⟨y, hy, hyr⟩ := hr.get j x c
     exact ⟨y, by simpa using hy, zl.mono (R.le_upd _ (hfree 0)) _ _ hyr⟩
theorem zja {kap n : Nat} {i : Nat} (R : Bij) : zl (R.upd i 0 ⟨n, 0, kap⟩) (.ptr i 0 0) (.pointer (some ⟨n, 0, none⟩)) :=
 ⟨⟨n, 0, kap⟩, R.upd_same _ _ _, by simp, by simp⟩
def xM (P : Program) (B : Base) (R : Bij) (w : World) (s : Sem Next) : AR → Prop
 | .val v h' => ∃ R' v' w', s.run P w = .ok (.value v') w' ∧ zl R' v v' ∧ HRel P B R' h' w' ∧ Keeps R w R' w'
 | .skip h' => ∃ R' w', s.run P w = .ok .skip w' ∧ HRel P B R' h' w' ∧ Keeps R w R' w'
 | .enter f args h' => ∃ (as : List Value), s.run P w = .ok (.enter f as.toArray) w ∧ zm R args as ∧ HRel P B R h' w
 | .round i args => ∃ (L : Loc) (as : List Value), R i 0 = some L ∧ zm R args as ∧ s.run P w = (Instr.yield L.block as.toArray).run P w
 | .dfr d => ∃ d', s.run P w = .ok (.defer d') w ∧ yL R d d'
 | .recover => s.run P w = .ok .recover w
 | .panic v => ∃ v', s.run P w = .halt (.panic v') w ∧ zl R v v'
theorem zE (k : HRel P B R h w) {s : Sem Value} {v : AV} (e : ∃ v', s.run P w = .ok v' w ∧ zl R v v') : xM P B R w (do pure (.value (← s))) (.val v h) := by
 obtain ⟨v', e1, e2⟩ := e
 exact ⟨R, v', w, by simp [e1], e2, k, Keeps.refl _ _⟩
theorem zbw {l : List AV} {vs : List Value} (hr : zm R l vs) (ho : l.all AV.one = true) : ∀ v ∈ vs, v.oneCell' = true := by
 intro v hv
 obtain ⟨i, hi, rfl⟩ := List.getElem_of_mem hv
 have hl : i < l.length := by rw [← hr.length]; exact hi
 obtain ⟨y, hy, hyr⟩ := hr.get i l[i] (List.getElem?_eq_getElem hl)
 rw [List.getElem?_eq_getElem hi] at hy; cases hy
 exact hyr.one (by rw [List.all_eq_true] at ho; exact ho _ (List.getElem_mem hl))
theorem zbD (k : HRel P B R h w) (hB : B.n ≤ w.heap.size) {t : TypeId} {x v : AV} {h' : AHeap} {x' : Value} (e : zk5 P h t x = some (v, h')) (hx : zl R x x') :
 ∃ R' v' w', (newVar t x').run P w = .ok v' w' ∧ zl R' v (.pointer (some v')) ∧ HRel P B R' h' w' ∧ Keeps R w R' w' := by
 unfold zk5 at e
 split at e
 · rename_i hc
   cases e
   have hcx := hx.cells
   have hkap : 1 * P.cellsOf t = x.cells.length := by
    obtain ⟨inf, hi, hs⟩ := zC hc.2
    rw [zG hi, hs, Nat.one_mul]
   obtain ⟨g1, g2⟩ := zae (w' := w.alloc (.cells x'.cells t)) k hB hcx hkap (by decide) (by show w.heap.push (.cells x'.cells t) = w.heap.push (.cells x'.cells.toList.toArray t); simp) rfl rfl rfl
   exact ⟨_, ⟨w.heap.size, 0, none⟩, w.alloc (.cells x'.cells t), by simp [newVar, newRow], zja R, g1, g2⟩
 · cases e
theorem xq {w : World} {b : Nat} {o : Obj} (e : w.heap[b]? = some o) : b < w.heap.size := by
 rcases Nat.lt_or_ge b w.heap.size with h' | h'
 · exact h'
 · rw [Array.getElem?_eq_none h'] at e; cases e
theorem zD (k : HRel P B R h w) {i r off : Nat} {vs : List AV} {h' : AHeap} {L : Loc} {vs' : List Value} (e : zI h i r off vs = some h') (hL : R i r = some L) (hm : L.minus ≤ off) (hr : zm R vs vs') :
 ∃ w', (storeCells ⟨L.block, off - L.minus, none⟩ vs' 0).run P w = .ok () w' ∧ HRel P B R h' w' ∧ Keeps R w R w' := by
 unfold zI at e
 simp only [T.seq_eq] at e
 split at e
 · rename_i c n el lo hi nv fz sg ex ho
   split at e
   · cases e
   · rename_i ee he
     split at e
     · rename_i hc
       obtain ⟨c1, c2, c3, c4, c5⟩ := hc
       cases e
       obtain ⟨L', hL', cs, f0, f1, g1, g2, g3, g4, g5⟩ := k.ver hL ho c1 c2 he
       rw [hL] at hL'; cases hL'
       have hlen := hr.length
       have hrun := wh P L.block (off - L.minus) el f0 f1 vs' 0 w cs g1 (zbw hr c5) (by omega) (fun j a b hj => by
        rcases g4.2 j hj.1 hj.2 with h1 | h1
        · omega
        · omega)
       have hlt := xq g1
       have hob := k.obj' hL ho
       refine ⟨_, hrun, ?_, ?_⟩
       · refine k.touch i _ (k.live hL) R.le_refl (by rw [yj]; exact Nat.le_refl _) ?_ (fun j => zat h i j _) (fun _ _ _ => rfl) (fun j r' M hj e => zR w _ _ _ ?_) ?_ (by rw [xp]; exact Nat.le_refl _) (fun r' M e => ⟨(k.place i r' M e).1, by rw [xp]; exact (k.place i r' M e).2, fun j r'' M' hj e' hb => hj (k.apart _ _ _ _ _ _ e' e hb (.inr (k.notRo ho rfl)))⟩) (k.same i) (ke _ _ _) (fun b hb => zR w _ _ _ (k.off hL (k.notRo ho rfl) hb)) (k.notRo ho rfl)
         · rw [yj]
           rcases Nat.lt_or_ge i h.next with h1 | h1
           · exact h1
           · rw [k.fresh i h1] at hL; cases hL
         · exact fun hb => hj (k.apart _ _ _ _ _ _ e hL hb (.inr (k.notRo ho rfl)))
         · refine ⟨Nat.le_refl _, by have := hob.2.1; omega, hob.2.2.1, fun r' e' a1 a2 a3 => ?_, fun r' e' a1 a2 a3 => by
            obtain rfl : r' = r := by omega
            simp [zJ] at a3; omega⟩
           obtain rfl : r' = r := by omega
           simp [zJ] at a3; subst a3
           refine ⟨L, hL, zds cs (off - L.minus + 0) vs', f0, f1, qK w _ _ _ _ hlt, by rw [xS]; exact g2, by rw [xS]; exact g3, ⟨g4.1, fun j a b => by rw [xS]; exact g4.2 j a b⟩, fun j v a1 a2 a3 => ?_⟩
           rw [zr] at a3
           rw [jX _ _ _ _ (by omega), hlen]
           split at a3
           · rename_i hj
             rw [if_pos (by omega)]
             obtain ⟨y, hy, hyr⟩ := hr.get _ v a3
             exact ⟨y, by rw [← hy]; congr 1; omega, hyr⟩
           · rename_i hj
             rw [if_neg (by omega)]
             exact g5 j v a1 a2 a3
       · exact ⟨rfl, rfl, rfl, by rw [xp]; exact Nat.le_refl _, R.le_refl, fun b hb hn => ⟨zR w _ _ _ (fun e => hn i r L hL e.symm), hn⟩, Nat.le_refl _⟩
     · cases e
 · cases e
theorem zdm (k : HRel P B R h w) {t : TypeId} {p v : AV} {h' : AHeap} {p' v' : Value} (e : zcZ P h t p v = some h') (hp : zl R p p') (hv : zl R v v') :
 ∃ w', (Instr.storeAt t p' v').run P w = .ok () w' ∧ HRel P B R h' w' ∧ Keeps R w R w' := by
 unfold zcZ at e
 split at e
 · rename_i i r off
   obtain ⟨L, hL, hm, rfl⟩ := hp
   split at e
   · cases e
   · rename_i inf hi
     split at e
     · rename_i hs
       have hcv := hv.cells
       obtain ⟨w', e1, e2, e3⟩ := zD k e hL hm hcv
       refine ⟨w', ?_, e2, e3⟩
       have hsz : v'.cells.size = inf.size := by have := hcv.length; rw [← hs, ← this]; simp
       simp [Instr.storeAt, Instr.sureAddr, storeVar, zp w hi, hsz, e1]
     · cases e
 · cases e
theorem zH (l : List AV) : ∀ n, (zZ l n).length = n * l.length
 | 0 => by simp [zZ]
 | n + 1 => by simp [zZ, zH l n, Nat.succ_mul]; omega
theorem vp (l : List AV) : ∀ (n i : Nat), i < n * l.length → (zZ l n)[i]? = l[i % l.length]?
 | 0, i, h => by simp at h
 | n + 1, i, h => by
  rw [zZ, List.getElem?_append]
  rw [Nat.succ_mul] at h
  by_cases hi : i < l.length
  · rw [if_pos hi, Nat.mod_eq_of_lt hi]
  · rw [if_neg hi, vp l n (i - l.length) (by omega)]
    congr 1
    rw [Nat.mod_eq_sub_mod (by omega : i ≥ l.length)]
theorem qn {z : AV} {zv : Value} (hz : zl R z zv) (n : Nat) : zm R (zZ z.cells n) ((Array.range (n * zv.cells.size)).map (zv.cells[· % zv.cells.size]!)).toList := by
 have hc := hz.cells
 have hl : zv.cells.size = z.cells.length := by have := hc.length; simpa using this
 refine .of_get (by simp [zH, hl]) fun i x e => ?_
 have hi : i < n * z.cells.length := by
  rw [← zH]
  rcases Nat.lt_or_ge i (zZ z.cells n).length with h1 | h1
  · exact h1
  · rw [List.getElem?_eq_none h1] at e; cases e
 rw [vp _ _ _ hi] at e
 obtain ⟨y, hy, hyr⟩ := hc.get _ x e
 refine ⟨y, ?_, hyr⟩
 have hpos : 0 < z.cells.length := by
  rcases Nat.eq_zero_or_pos z.cells.length with h0 | h0
  · rw [h0] at hi; omega
  · exact h0
 have hmod : i % zv.cells.size < zv.cells.size := Nat.mod_lt _ (by omega)
 simp only [Array.getElem?_toList, Array.getElem?_map]
 rw [Array.getElem?_range, if_pos (by rw [hl]; exact hi)]
 simp only [Option.map_some]
 rw [Array.getElem?_toList] at hy
 rw [← hl] at hy
 rw [Array.getElem!_eq_getD, Array.getD_eq_getD_getElem?, hy]
 rfl
theorem zaK {l : List AV} (h : l.all AV.one = true) (n : Nat) : (zZ l n).all AV.one = true := by
 induction n with
 | zero => rfl
 | succ n ih => simp only [zZ, List.all_append, h, ih, Bool.and_self]
end
end Go.Proofs.YtdbfpjgnlfejmaaDoor.Ev
end
section
namespace Go.Proofs.YtdbfpjgnlfejmaaDoor.Ev
open Go
section
variable {P : Program} {B : Base} {R : Bij} {h : AHeap} {w : World}
def zcY (P : Program) (B : Base) (R : Bij) (w : World) (s : Sem Value) (v : AV) (h' : AHeap) : Prop :=
 ∃ R' v' w', s.run P w = .ok v' w' ∧ zl R' v v' ∧ HRel P B R' h' w' ∧ Keeps R w R' w'
theorem zcS {kap n o c : Nat} {i : Nat} (R : Bij) : zl (R.upd i 0 ⟨n, 0, kap⟩) (.slc i 0 0 o c) (.slice (some ⟨n, 0, none⟩) o c) :=
 ⟨⟨n, 0, kap⟩, R.upd_same _ _ _, by simp, by simp⟩
theorem zfc {kap n o : Nat} {i : Nat} (R : Bij) (h : o ≤ kap) : zl (R.upd i 0 ⟨n, 0, kap⟩) (.slg i 0 0 o 0) (.slice (some ⟨n, 0, none⟩) o kap) :=
 ⟨⟨n, 0, kap⟩, ⟨n, 0, none⟩, R.upd_same _ _ _, by simp, by simp; exact h, by simp, by simp⟩
theorem kO (k : HRel P B R h w) (hB : B.n ≤ w.heap.size) {t : TypeId} {len : Nat} {parts : List (Nat × AV)} {parts' : Array (Nat × Value)} {v : AV} {h' : AHeap}
 (e : x0 P h t len parts = some (v, h')) (hp : xU (zm3 R) parts parts'.toList) : zcY P B R w (Instr.buildSlice t len parts') v h' := by
 unfold x0 at e
 split at e
 · rename_i el hu
   split at e
   · cases e
   · rename_i inf hi
     split at e
     · rename_i hsz
       split at e
       · cases e
       · rename_i z hz
         obtain ⟨inf', zv, hi', hzv, hzr⟩ := zV R hz
         rw [hi] at hi'; cases hi'
         split at e
         · rename_i hc
           split at e
           · cases e
           · rename_i cells hf
             split at e
             · cases e
               have hzl : zv.cells.size = inf.size := by have := hzr.cells.length; rw [← hc.1, ← this]; simp
               have hzeros := qn hzr len
               rw [hzl] at hzeros
               obtain ⟨r', e1, e2, e3⟩ := yW (place' := fun i => some (i * inf.size, inf.size)) (fun i r h => h) hf hp hzeros
               have hkap : len * P.cellsOf el = cells.length := by rw [zG hi, e3, zH, hc.1]
               obtain ⟨g1, g2⟩ := zae (w' := w.alloc (.cells r' el)) k hB e2 hkap (zdy hsz hc.2) (by show w.heap.push (.cells r' el) = w.heap.push (.cells r'.toList.toArray el); simp) rfl rfl rfl
               refine ⟨_, .slice (some ⟨w.heap.size, 0, none⟩) len len, w.alloc (.cells r' el), ?_, zcS R, g1, g2⟩
               by_cases h0 : len * inf.size = 0
               · have hl0 : len = 0 := by rcases Nat.mul_eq_zero.1 h0 with h | h <;> omega
                 subst hl0
                 have hr0 : Array.range 0 = #[] := rfl
                 simp only [Nat.zero_mul, hr0, Array.map_empty] at e1
                 simp [Instr.buildSlice, za w hu, zp w hi, hr0, e1, newRow]
               · have : ¬ (2 ^ 24 < len * inf.size) := by omega
                 simp only [Instr.buildSlice, za w hu, zp w hi, zx w hi hzv, Sem.run_bind, Result.andThen_ok, Sem.run_ite, gt_iff_lt, this, if_false, h0, Sem.run_pure, hzl, e1, newRow, run_newObj, World.alloc_eq]
             · cases e
         · cases e
     · cases e
 · cases e
theorem jE (k : HRel P B R h w) (hB : B.n ≤ w.heap.size) {t : TypeId} {l c v : AV} {l' c' : Value} {h' : AHeap}
 (e : xI P h t l c = some (v, h')) (hl : zl R l l') (hc : zl R c c') : zcY P B R w (Instr.makeSlice t l' c') v h' := by
 unfold xI at e
 split at e
 · rename_i el hu
   split at e
   · rename_i k1 l0
     cases hl
     split at e
     · rename_i k2 c0
       cases hc
       unfold qA at e
       split at e
       · cases e
       · rename_i inf hi
         split at e
         · cases e
         · rename_i z hz
           obtain ⟨inf', zv, hi', hzv, hzr⟩ := zV R hz
           rw [hi] at hi'; cases hi'
           split at e
           · rename_i hcond
             obtain ⟨c1, c2, c3, c4, c5, c6, c7⟩ := hcond
             cases e
             have hzl : zv.cells.size = inf.size := by have := hzr.cells.length; rw [← c5, ← this]; simp
             have hzeros := qn hzr c0.toNat
             rw [hzl] at hzeros
             have hkap : c0.toNat * P.cellsOf el = (zZ z.cells c0.toNat).length := by rw [zG hi, zH, c5]
             obtain ⟨g1, g2⟩ := zae (w' := w.alloc (.cells ((Array.range (c0.toNat * inf.size)).map (zv.cells[· % inf.size]!)) el)) k hB hzeros hkap (by omega) (by rw [Array.toArray_toList]; rfl) rfl rfl rfl
             refine ⟨_, .slice (some ⟨w.heap.size, 0, none⟩) l0.toNat c0.toNat, _, ?_, zcS R, g1, g2⟩
             have w1 : IntKind.i64.wrap l0 = l0 := by simp only [IntKind.wrap, IntKind.bits, IntKind.signed]; simp; omega
             have w2 : IntKind.i64.wrap c0 = c0 := by simp only [IntKind.wrap, IntKind.bits, IntKind.signed]; simp; omega
             have b1 : (decide (c0 < 0) || decide ((inf.bytes : Int) * c0 > 2 ^ 48)) = false := by simp; omega
             have b2 : decide (l0 < 0) = false := by simp; omega
             have b3 : decide (l0 > c0) = false := by simp; omega
             simp only [Instr.makeSlice, Sem.run_bind, za w hu, Result.andThen_ok, asInt, asIntOf, Sem.run_pure, zN w hi, w1, w2, b1, b2, b3, Bool.or_self, Bool.false_eq_true, if_false, run_askRoom, zp w hi]
             by_cases h0 : c0.toNat * inf.size = 0
             · have hc0 : c0.toNat = 0 := by rcases Nat.mul_eq_zero.1 h0 with h | h <;> omega
               have hr0 : Array.range 0 = #[] := rfl
               simp [hc0, newRow, hr0]
             · simp only [h0, if_false, Sem.run_bind, zx w hi hzv, Result.andThen_ok, Sem.run_pure, hzl, newRow, run_newObj, World.alloc_eq]
           · cases e
     · cases e
   · cases e
 · cases e
theorem kH (k : HRel P B R h w) (hB : B.n ≤ w.heap.size) (o : AObj) (ob : Obj)
 (ho : ∀ R' : Bij, R.le R' → R' h.next 0 = some ⟨w.heap.size, 0, 0⟩ → xd P R' (w.alloc ob) h.next o) :
 HRel P B (R.upd h.next 0 ⟨w.heap.size, 0, 0⟩) (h.new o) (w.alloc ob) ∧ Keeps R w (R.upd h.next 0 ⟨w.heap.size, 0, 0⟩) (w.alloc ob) :=
 k.new hB o ob ⟨w.heap.size, 0, 0⟩ rfl rfl rfl rfl rfl (ho _ (R.le_upd _ (k.fresh _ (Nat.le_refl _) 0)) (R.upd_same _ _ _))
theorem zdO (k : HRel P B R h w) (hB : B.n ≤ w.heap.size) : ∃ R', zl R' (.mp h.next) (.map (some w.heap.size)) ∧ HRel P B R' (h.new (.map [] 0)) (w.alloc (.map #[] 0)) ∧ Keeps R w R' (w.alloc (.map #[] 0)) := by
 obtain ⟨g1, g2⟩ := kH k hB (.map [] 0) (.map #[] 0) (fun R' _ e => ⟨_, #[], e, xx w _, rfl⟩)
 exact ⟨_, ⟨_, R.upd_same _ _ _, rfl⟩, g1, g2⟩
theorem zb4 (k : HRel P B R h w) (hB : B.n ≤ w.heap.size) (s : List UInt8) : ∃ R', zl R' (.ptr h.next 0 0) (.pointer (some ⟨w.heap.size, 0, none⟩)) ∧ HRel P B R' (h.new (.iter s 0)) (w.alloc (.stringIter ⟨s.toArray⟩ 0)) ∧ Keeps R w R' (w.alloc (.stringIter ⟨s.toArray⟩ 0)) := by
 obtain ⟨g1, g2⟩ := kH k hB (.iter s 0) (.stringIter ⟨s.toArray⟩ 0) (fun R' _ e => ⟨_, e, xx w _⟩)
 exact ⟨_, ⟨_, R.upd_same _ _ _, Nat.le_refl _, rfl⟩, g1, g2⟩
def xE (w : World) (b : Nat) (o : Obj) : World := { w with heap := w.heap.setIfInBounds b o }
theorem xi (w : World) (b : Nat) (o : Obj) (h : b < w.heap.size) : (xE w b o).heap[b]? = some o := by simp [xE, h]
theorem ws (w : World) {b b' : Nat} (o : Obj) (h : b' ≠ b) : (xE w b o).heap[b']? = w.heap[b']? := by
 simp only [xE]; rw [Array.getElem?_setIfInBounds, if_neg (fun e => h e.symm)]
theorem vv (w : World) (b : Nat) (o : Obj) : (xE w b o).heap.size = w.heap.size := by simp [xE]
theorem xT (k : HRel P B R h w) {i : Nat} {L : Loc} (hL : R i 0 = some L) (hnr : ¬ B.ro i) (o : AObj) (ob : Obj)
 (ho : xd P R (xE w L.block ob) i o) : HRel P B R (h.put i o) (xE w L.block ob) ∧ Keeps R w R (xE w L.block ob) := by
 have hi : i < h.next := by
  rcases Nat.lt_or_ge i h.next with h1 | h1
  · exact h1
  · rw [k.fresh i h1] at hL; cases hL
 refine ⟨k.touch i _ (k.live hL) R.le_refl (by rw [yj]; exact Nat.le_refl _) (by rw [yj]; exact hi) (fun j => zat h i j _) (fun _ _ _ => rfl) (fun j r' M hj e => ws w _ (fun hb => hj (k.apart _ _ _ _ _ _ e hL hb (.inr hnr)))) ho (by rw [vv]; exact Nat.le_refl _) (fun r' M e => ⟨(k.place i r' M e).1, by rw [vv]; exact (k.place i r' M e).2, fun j r'' M' hj e' hb => hj (k.apart _ _ _ _ _ _ e' e hb (.inr hnr))⟩) (k.same i) (ke _ _ _) (fun b hb => ws w _ (k.off hL hnr hb)) hnr, ?_⟩
 exact ⟨rfl, rfl, rfl, by rw [vv]; exact Nat.le_refl _, R.le_refl, fun b hb hn => ⟨ws w _ (fun e => hn i 0 L hL e.symm), hn⟩, Nat.le_refl _⟩
theorem xk (P : Program) {w : World} {b : Nat} {o ob : Obj} (e : w.heap[b]? = some o) (hc : ∀ c t z, o ≠ .cells c t z) : (setObj b ob).run P w = .ok () (xE w b ob) := by
 cases o <;> first | exact absurd rfl (hc _ _ _) | (simp [setObj, Sem.run, e, xE])
theorem zfn (k : HRel P B R h w) {x : AV} {x' : Value} {s : Bool} {ty : TypeId} {r : AR} (e : zj5 h x s = some r) (hx : zl R x x') : xM P B R w (do pure (.value (← Instr.next x' s ty))) r := by
 unfold zj5 at e
 split at e
 · cases e
 · split at e
   · rename_i i r0 o0
     split at e
     · split at e
       · obtain ⟨L, hL, _, rfl⟩ := hx
         unfold zjm at e
         split at e
         · rename_i str pos ho
           obtain ⟨L', hL', hh⟩ := k.obj' hL ho
           rw [hL] at hL'; cases hL'
           have hg : (getObj L.block).run P w = .ok (.stringIter ⟨str.toArray⟩ pos) w := by simp [getObj, Sem.run, hh]
           split at e
           · rename_i hp
             cases e
             have hs := xk P (ob := .stringIter ⟨str.toArray⟩ (pos + (Utf8.decode ⟨str.toArray⟩ pos).2)) hh (by simp)
             obtain ⟨g1, g2⟩ := xT k hL (k.notRo ho rfl) (.iter str (pos + (Utf8.decode ⟨str.toArray⟩ pos).2)) (.stringIter ⟨str.toArray⟩ (pos + (Utf8.decode ⟨str.toArray⟩ pos).2)) ⟨L, hL, xi w _ _ (xq hh)⟩
             refine ⟨R, .tuple #[.bool true, goInt pos, .int .i32 (Utf8.decode ⟨str.toArray⟩ pos).1], _, ?_, ⟨_, rfl, .cons rfl (.cons rfl (.cons rfl .nil))⟩, g1, g2⟩
             have hsz : pos < (ByteArray.mk str.toArray).size := by simpa [ByteArray.size] using hp
             simp [Instr.next, hg, hsz, hs]
           · rename_i hp
             cases e
             refine ⟨R, .tuple #[.bool false], w, ?_, ⟨_, rfl, .cons rfl .nil⟩, k, Keeps.refl _ _⟩
             have hsz : ¬ pos < (ByteArray.mk str.toArray).size := by simpa [ByteArray.size] using hp
             simp [Instr.next, hg, hsz]
         · cases e
       · cases e
     · cases e
   · cases e
end
end Go.Proofs.YtdbfpjgnlfejmaaDoor.Ev
end
section
namespace Go.Proofs.YtdbfpjgnlfejmaaDoor.Ev
open Go
mutual
theorem wB : ∀ (n : Nat) (x y : AV), vd n x y = true → x = y
 | 0, _, _, h => by simp [vd] at h
 | n + 1, x, y, h => by
  cases x <;> cases y <;> simp only [vd, Bool.and_eq_true, decide_eq_true_eq, beq_iff_eq, Bool.false_eq_true] at h
  all_goals first
   | rfl
   | (obtain ⟨⟨rfl, h1⟩, h2⟩ := h; rw [ky n _ _ h1, ky n _ _ h2])
   | (rw [ky n _ _ h])
   | (obtain ⟨e0, h1⟩ := h; have e1 := wB n _ _ h1; simp_all; done)
   | (simp_all; done)
theorem ky : ∀ (n : Nat) (x y : List AV), w9 n x y = true → x = y
 | 0, _, _, h => by simp [w9] at h
 | n + 1, x, y, h => by
  cases x <;> cases y <;> simp only [w9, Bool.and_eq_true, Bool.false_eq_true] at h
  · rfl
  · rw [wB n _ _ h.1, ky n _ _ h.2]
end
section
variable {P : Program} {B : Base} {R : Bij} {h : AHeap} {w : World}
theorem HRel.heap_eq {w' : World} (k : HRel P B R h w) (e : w'.heap = w.heap) : HRel P B R h w' where
 fresh := k.fresh
 pend := k.pend
 obj i o ho hp := (k.obj i o ho hp).mono R.le_refl (fun _ => rfl) (fun _ _ _ => by rw [e])
 place i r L hL := by rw [e]; exact k.place i r L hL
 apart := k.apart
 same := k.same
 glob g c hg := by rw [e]; exact k.glob g c hg
 rd := k.rd
 rp := k.rp
 rol := k.rol
 pin := k.pin
 low b hb := by rw [e]; exact k.low b hb
theorem zf8 (P : Program) (old new : Value) (w : World) : ∃ v w', (Instr.keyThatStays old new).run P w = .ok v w' ∧ (v = old ∨ v = new) ∧ w'.heap = w.heap ∧ w'.os = w.os ∧ w'.tape = w.tape ∧ w'.output = w.output ∧ w.drawn ≤ w'.drawn := by
 unfold Instr.keyThatStays
 split
 · exact ⟨new, w, rfl, .inr rfl, rfl, rfl, rfl, rfl, Nat.le_refl _⟩
 · have hf : (Question.extern "map.whichKeyStays" 2).forced = false := rfl
   refine ⟨if (Question.extern "map.whichKeyStays" 2).cut (w.tape w.drawn (Question.extern "map.whichKeyStays" 2)) = 0 then new else old, w.drew, ?_, by split <;> simp, rfl, rfl, rfl, rfl, Nat.le_succ _⟩
   simp [hf]
theorem v8 (k : HRel P B R h w) {t : TypeId} {m key v : AV} {h' : AHeap} {m' key' v' : Value} (e : zfi P h t m key v = some h') (hm : zl R m m') (hk : zl R key key') (hv : zl R v v') :
 ∃ w', (Instr.mapUpdate t m' key' v').run P w = .ok () w' ∧ HRel P B R h' w' ∧ Keeps R w R w' := by
 unfold zfi at e
 split at e
 · cases e
 · rename_i kt el hmo
   have hmap := yX hmo
   split at e
   · rename_i i
     obtain ⟨L, hL, rfl⟩ := hm
     split at e
     · cases e
     · rename_i r hr
       unfold vg at hr
       split at hr
       · rename_i hko
         split at hr
         · cases hr
         · rename_i es hes
           unfold yJ at hes
           simp only [] at hes
           unfold zfZ at e
           split at e
           · rename_i es0 clock ho
             rw [ho] at hes; cases hes
             obtain ⟨L', es', hL', hh, hrel⟩ := k.obj' hL ho
             rw [hL] at hL'; cases hL'
             obtain ⟨u, hu⟩ := kK hko
             obtain ⟨r', e1, e2⟩ := yB k hk hu hr hrel
             have hck := yh w false 9991 hko hk
             have hg : (getObj L.block).run P w = .ok (.map es' clock) w := by simp [getObj, Sem.run, hh]
             split at e
             · rename_i j a
               obtain ⟨b, _, g1, g2, rfl, g4⟩ := e2
               simp only [Nat.sub_zero] at g1 g2
               split at e
               · rename_i hsame
                 cases e
                 have heq := wB _ _ _ hsame
                 obtain ⟨b', hb', hab⟩ := hrel.get j a g1
                 rw [g2] at hb'; cases hb'
                 obtain ⟨kk, w1, s1, s2, s3, s4, s5, s6, s7⟩ := zf8 P b.key key' w
                 have hkk : zl R key kk := by
                  rcases s2 with rfl | rfl
                  · rw [heq]; exact hab.1
                  · exact hk
                 have hg2 : es'[j]? = some b := by simpa using g2
                 have hh1 : w1.heap[L.block]? = some (.map es' clock) := by rw [s3]; exact hh
                 have hj : j < es.length := (List.getElem?_eq_some_iff.1 g1).1
                 have hj' : j < es'.size := by have := hrel.length; simp at this; omega
                 have hs := xk P (ob := .map (es'.modify j fun e => { e with key := kk, val := v' }) clock) hh1 (by simp)
                 obtain ⟨p1, p2⟩ := xT (k.heap_eq s3) hL (k.notRo ho rfl) (.map (es.take j ++ { key := key, val := v, born := a.born } :: es.drop (j + 1)) clock) (.map (es'.modify j fun e => { e with key := kk, val := v' }) clock)
                  ⟨L, _, hL, xi w1 _ _ (xq hh1), by
                   have : (es'.modify j fun e => { e with key := kk, val := v' }).toList = es'.toList.take j ++ { b with key := kk, val := v' } :: es'.toList.drop (j + 1) := by
                    rw [Array.toList_modify, List.modify_eq_take_cons_drop (by simpa using hj')]
                    congr 2
                    have : es'.toList[j] = b := by
                     have := (List.getElem?_eq_some_iff.1 g2).2; exact this
                    rw [this]
                   rw [this]
                   exact (hrel.take j).append ⟨_, _, rfl, ⟨hkk, hv, hab.2.2⟩, hrel.drop (j + 1)⟩⟩
                 refine ⟨_, ?_, p1, (⟨s4, s5, s6, by rw [s3]; exact Nat.le_refl _, R.le_refl, fun b hb hn => ⟨by rw [s3], hn⟩, s7⟩ : Keeps R w R w1).trans p2⟩
                 simp only [Instr.mapUpdate, Sem.run_bind, za w hmap, Result.andThen_ok, hg, hck, e1, hg2, Option.map_some, Option.getD_some, s1, hs]
               · cases e
             · cases e2
               cases e
               have hs := xk P (ob := .map (es'.push { key := key', val := v', born := clock }) (clock + 1)) hh (by simp)
               obtain ⟨p1, p2⟩ := xT k hL (k.notRo ho rfl) (.map (es ++ [{ key := key, val := v, born := clock }]) (clock + 1)) (.map (es'.push { key := key', val := v', born := clock }) (clock + 1))
                ⟨L, _, hL, xi w _ _ (xq hh), by rw [Array.toList_push]; exact hrel.append ⟨_, _, rfl, ⟨hk, hv, rfl⟩, rfl⟩⟩
               refine ⟨_, ?_, p1, p2⟩
               simp only [Instr.mapUpdate, Sem.run_bind, za w hmap, Result.andThen_ok, hg, hck, e1, hs]
           · cases e
       · cases hr
   · cases e
theorem jw : ∀ {es : List AEntry} {es' : List MapEntry} {n i j : Nat}, xU (zjy R) es es' → zdi n es i = some j →
 i ≤ j ∧ es'.findIdx? (fun e => (e.born : Int) == (n : Int)) = some (j - i)
 | [], _, _, _, _, _, e => by simp [zdi] at e
 | a :: r, es', n, i, j, h, e => by
  obtain ⟨b, bs, rfl, hab, hr⟩ := h
  unfold zdi at e
  split at e
  · rename_i hb
    cases e
    have : a.born = n := Nat.eq_of_beq_eq_true hb
    refine ⟨Nat.le_refl _, ?_⟩
    rw [List.findIdx?_cons, ← hab.2.2, this]
    simp
  · rename_i hb
    have hne : a.born ≠ n := Nat.ne_of_beq_eq_false hb
    obtain ⟨h1, h2⟩ := jw hr e
    refine ⟨by omega, ?_⟩
    have hf : ((b.born : Int) == (n : Int)) = false := by
     rw [← hab.2.2]; simp; omega
    rw [List.findIdx?_cons, hf, h2]
    simp only [Bool.false_eq_true, if_false, Option.map_some, Option.some.injEq]
    omega
theorem zaw (k : HRel P B R h w) {t : TypeId} {m key v : AV} {h' : AHeap} {m' key' : Value} (e : zax P h t m key = some (v, h')) (hm : zl R m m') (hk : zl R key key') :
 zcY P B R w (Instr.mapEntry t m' key') v h' := by
 unfold zax at e
 split at e
 · cases e
 · rename_i kt el hmo
   have hmap := yX hmo
   split at e
   · rename_i i
     obtain ⟨L, hL, rfl⟩ := hm
     split at e
     · cases e
     · rename_i r hr
       unfold vg at hr
       split at hr
       · rename_i hko
         split at hr
         · cases hr
         · rename_i es hes
           unfold yJ at hes
           simp only [] at hes
           unfold zhA at e
           split at e
           · rename_i es0 clock ho
             rw [ho] at hes; cases hes
             obtain ⟨L', es', hL', hh, hrel⟩ := k.obj' hL ho
             rw [hL] at hL'; cases hL'
             obtain ⟨u, hu⟩ := kK hko
             obtain ⟨r', e1, e2⟩ := yB k hk hu hr hrel
             have hck := yh w false 9991 hko hk
             have hg : (getObj L.block).run P w = .ok (.map es' clock) w := by simp [getObj, Sem.run, hh]
             split at e
             · rename_i j a
               obtain ⟨b, _, g1, g2, rfl, g4⟩ := e2
               simp only [Nat.sub_zero] at g1 g2
               split at e
               · rename_i hsame
                 cases e
                 have heq := wB _ _ _ hsame
                 obtain ⟨b', hb', hab⟩ := hrel.get j a g1
                 rw [g2] at hb'; cases hb'
                 obtain ⟨kk, w1, s1, s2, s3, s4, s5, s6, s7⟩ := zf8 P b.key key' w
                 have hkk : zl R a.key kk := by
                  rcases s2 with rfl | rfl
                  · exact hab.1
                  · rw [← heq]; exact hk
                 have hg2 : es'[j]? = some b := by simpa using g2
                 have hh1 : w1.heap[L.block]? = some (.map es' clock) := by rw [s3]; exact hh
                 have hj : j < es.length := (List.getElem?_eq_some_iff.1 g1).1
                 have hj' : j < es'.size := by have := hrel.length; simp at this; omega
                 have hs := xk P (ob := .map (es'.modify j fun e => { e with key := kk }) clock) hh1 (by simp)
                 have hes : es = es.take j ++ a :: es.drop (j + 1) := by
                  have : es[j] = a := (List.getElem?_eq_some_iff.1 g1).2
                  rw [← this]; simp
                 obtain ⟨p1, p2⟩ := xT (k.heap_eq s3) hL (k.notRo ho rfl) (.map es clock) (.map (es'.modify j fun e => { e with key := kk }) clock)
                  ⟨L, _, hL, xi w1 _ _ (xq hh1), by
                   have : (es'.modify j fun e => { e with key := kk }).toList = es'.toList.take j ++ { b with key := kk } :: es'.toList.drop (j + 1) := by
                    rw [Array.toList_modify, List.modify_eq_take_cons_drop (by simpa using hj')]
                    congr 2
                    have : es'.toList[j] = b := by
                     have := (List.getElem?_eq_some_iff.1 g2).2; exact this
                    rw [this]
                   rw [this, hes]
                   have hlen : (es.take j).length = j := by simp; omega
                   exact (hrel.take j).append ⟨_, _, rfl, ⟨hkk, hab.2.1, hab.2.2⟩, hrel.drop (j + 1)⟩⟩
                 refine ⟨R, .tuple #[b.val, goInt b.born], _, ?_, ?_, p1, (⟨s4, s5, s6, by rw [s3]; exact Nat.le_refl _, R.le_refl, fun b hb hn => ⟨by rw [s3], hn⟩, s7⟩ : Keeps R w R w1).trans p2⟩
                 · simp only [Instr.mapEntry, Sem.run_bind, za w hmap, Result.andThen_ok, hg, hck, e1, hg2, Option.map_some, Option.getD_some, s1, hs, Sem.run_pure]
                 · refine ⟨[_, _], rfl, _, _, rfl, hab.2.1, _, _, rfl, ?_, rfl⟩
                   rw [hab.2.2]; rfl
               · cases e
             · cases e2
               unfold zfv at e
               split at e
               · cases e
               rename_i z hz
               cases e
               obtain ⟨inf, zv, hinf, hzv, hzr⟩ := zV R hz
               have hs := xk P (ob := .map (es'.push { key := key', val := zv, born := clock }) (clock + 1)) hh (by simp)
               obtain ⟨p1, p2⟩ := xT k hL (k.notRo ho rfl) (.map (es ++ [{ key := key, val := z, born := clock }]) (clock + 1)) (.map (es'.push { key := key', val := zv, born := clock }) (clock + 1))
                ⟨L, _, hL, xi w _ _ (xq hh), by rw [Array.toList_push]; exact hrel.append ⟨_, _, rfl, ⟨hk, hzr, rfl⟩, rfl⟩⟩
               refine ⟨R, .tuple #[zv, goInt clock], _, ?_, ?_, p1, p2⟩
               · simp only [Instr.mapEntry, Sem.run_bind, za w hmap, Result.andThen_ok, hg, hck, e1, zx w hinf hzv, hs, Sem.run_pure]
               · exact ⟨[_, _], rfl, _, _, rfl, hzr, _, _, rfl, rfl, rfl⟩
           · cases e
       · cases hr
   · cases e
theorem kP (k : HRel P B R h w) {t : TypeId} {m s v : AV} {h' : AHeap} {m' s' v' : Value} (e : vK h m s v = some h') (hm : zl R m m') (hs : zl R s s') (hv : zl R v v') :
 ∃ w', (Instr.entryStore t m' s' v').run P w = .ok () w' ∧ HRel P B R h' w' ∧ Keeps R w R w' := by
 unfold vK at e
 split at e
 · rename_i i
   obtain ⟨L, hL, rfl⟩ := hm
   split at e
   · rename_i kk nn
     cases hs
     split at e
     · rename_i n
       unfold zfM at e
       split at e
       · rename_i es clock ho
         obtain ⟨L', es', hL', hh, hrel⟩ := k.obj' hL ho
         rw [hL] at hL'; cases hL'
         have hg : (getObj L.block).run P w = .ok (.map es' clock) w := by simp [getObj, Sem.run, hh]
         split at e
         · cases e
         · rename_i j hj
           obtain ⟨_, hfi⟩ := jw hrel hj
           rw [Nat.sub_zero] at hfi
           split at e
           · cases e
           · rename_i a g1
             cases e
             obtain ⟨b, g2, hab⟩ := hrel.get j a g1
             have hj' : j < es'.size := by simpa using (List.getElem?_eq_some_iff.1 g2).1
             have hfa : es'.findIdx? (fun e => (e.born : Int) == Int.ofNat n) = some j := by
              rw [show es' = es'.toList.toArray from Array.toArray_toList.symm, List.findIdx?_toArray]; exact hfi
             have hso := xk P (ob := .map (es'.modify j fun e => { e with val := v' }) clock) hh (by simp)
             obtain ⟨p1, p2⟩ := xT k hL (k.notRo ho rfl) (.map (es.take j ++ { key := a.key, val := v, born := a.born } :: es.drop (j + 1)) clock) (.map (es'.modify j fun e => { e with val := v' }) clock)
              ⟨L, _, hL, xi w _ _ (xq hh), by
               have : (es'.modify j fun e => { e with val := v' }).toList = es'.toList.take j ++ { b with val := v' } :: es'.toList.drop (j + 1) := by
                rw [Array.toList_modify, List.modify_eq_take_cons_drop (by simpa using hj')]
                congr 2
                have : es'.toList[j] = b := (List.getElem?_eq_some_iff.1 g2).2
                rw [this]
               rw [this]
               exact (hrel.take j).append ⟨_, _, rfl, ⟨hab.1, hv, hab.2.2⟩, hrel.drop (j + 1)⟩⟩
             have hai : (asInt (.int kk (Int.ofNat n))).run P w = .ok (Int.ofNat n) w := rfl
             refine ⟨_, ?_, p1, p2⟩
             simp only [Instr.entryStore, Sem.run_bind, hg, Result.andThen_ok, hai, hfa, hso]
       · cases e
     · cases e
   · cases e
 · cases e
theorem zci (k : HRel P B R h w) {t : TypeId} {m key : AV} {h' : AHeap} {m' key' : Value} {argTypes : Array TypeId} {ty : TypeId} (e : zeR P h t m key = some h') (hm : zl R m m') (hk : zl R key key') (ht : argTypes[0]? = some t) :
 ∃ w', (Builtin.delete_ argTypes ty #[m', key']).run P w = .ok (.tuple #[]) w' ∧ HRel P B R h' w' ∧ Keeps R w R w' := by
 unfold zeR at e
 split at e
 · cases e
 · rename_i kt el hmo
   have hmap := yX hmo
   split at e
   · cases e
   · rename_i r hr
     unfold vg at hr
     split at hr
     · rename_i hko
       split at hr
       · cases hr
       · rename_i es hes
         split at e
         · cases e
           cases hm
           have hck := yh w true 9991 hko hk
           exact ⟨w, by simp [Builtin.delete_, ht, za w hmap, hck], k, Keeps.refl _ _⟩
         · rename_i i
           obtain ⟨L, hL, rfl⟩ := hm
           unfold yJ at hes
           simp only [] at hes
           unfold zd3 at e
           split at e
           · rename_i es0 clock ho
             rw [ho] at hes; cases hes
             obtain ⟨L', es', hL', hh, hrel⟩ := k.obj' hL ho
             rw [hL] at hL'; cases hL'
             obtain ⟨u, hu⟩ := kK hko
             obtain ⟨r', e1, e2⟩ := yB k hk hu hr hrel
             have hck := yh w es'.isEmpty 9991 hko hk
             have hg : (getObj L.block).run P w = .ok (.map es' clock) w := by simp [getObj, Sem.run, hh]
             split at e
             · rename_i j a
               obtain ⟨b, _, g1, g2, rfl, g4⟩ := e2
               simp only [Nat.sub_zero] at g1 g2
               cases e
               have hs := xk P (ob := .map (es'.eraseIdxIfInBounds j) clock) hh (by simp)
               obtain ⟨p1, p2⟩ := xT k hL (k.notRo ho rfl) (.map (es.take j ++ es.drop (j + 1)) clock) (.map (es'.eraseIdxIfInBounds j) clock)
                ⟨L, _, hL, xi w _ _ (xq hh), by
                 have : (es'.eraseIdxIfInBounds j).toList = es'.toList.take j ++ es'.toList.drop (j + 1) := by
                  rw [Array.toList_eraseIdxIfInBounds, List.eraseIdx_eq_take_drop_succ]
                 rw [this]
                 exact (hrel.take j).append (hrel.drop (j + 1))⟩
               refine ⟨_, ?_, p1, p2⟩
               simp [Builtin.delete_, ht, za w hmap, hg, hck, e1, hs]
             · cases e2
               cases e
               have hs := xk P (ob := .map es' clock) hh (by simp)
               have hsame : (xE w L.block (.map es' clock)).heap = w.heap := by
                simp only [xE]
                apply Array.ext_getElem?
                intro j
                rw [Array.getElem?_setIfInBounds]
                by_cases hj : L.block = j
                · subst hj; rw [if_pos rfl, if_pos (xq hh), hh]
                · rw [if_neg hj]
               refine ⟨_, ?_, k.heap_eq hsame, ⟨rfl, rfl, rfl, by rw [hsame]; exact Nat.le_refl _, R.le_refl, fun b hb hn => ⟨by rw [hsame], hn⟩, Nat.le_refl _⟩⟩
               simp [Builtin.delete_, ht, za w hmap, hg, hck, e1, hs]
           · cases e
         · cases e
     · cases hr
end
end Go.Proofs.YtdbfpjgnlfejmaaDoor.Ev
end
section
namespace Go.Proofs.YtdbfpjgnlfejmaaDoor.Ev
open Go
section
variable {P : Program} {B : Base} {R : Bij} {h : AHeap} {w : World}
theorem kF (R : Bij) (s : List UInt8) : zm R (zw s) (s.map fun b => .int .u8 b.toNat) := by
 induction s with
 | nil => rfl
 | cons b s ih => exact .cons rfl ih
theorem ju (k : HRel P B R h w) {size n : Nat} {x : AV} {x' : Value} {l : List AV} (e : qd h size n x = some l) (hx : zl R x x') (hn : ∀ i r o len st, x = .slg i r o len st → n ≤ len) :
 ∃ vs : List Value, (Builtin.firstCells size n x').run P w = .ok vs.toArray w ∧ zm R l vs := by
 unfold qd at e
 split at e
 · cases e; cases hx; exact ⟨[], by simp [Builtin.firstCells], rfl⟩
 · obtain ⟨L, hL, hm, rfl⟩ := hx
   obtain ⟨vs, e1, e2, _⟩ := zO k e hL hm
   exact ⟨vs, by simpa [Builtin.firstCells] using e1, e2⟩
 · rename_i i r o len st
   obtain ⟨L, a, hL, hm, hk, rfl, ha⟩ := hx
   obtain ⟨vs, e1, e2, e3⟩ := zO k e hL hm
   by_cases hlt : st < L.kap
   · obtain rfl := ha hlt
     exact ⟨vs, by simpa [Builtin.firstCells] using e1, e2⟩
   · have hn0 := hn _ _ _ _ _ rfl
     have : n = 0 := by omega
     subst this
     simp at e3
     have hl0 : l = [] := by simpa using e3
     subst hl0
     cases e2
     exact ⟨[], by simp [Builtin.firstCells, loadCells, loadCellsFrom], rfl⟩
 · rename_i s
   cases e; cases hx
   refine ⟨(s.take n).map fun b => .int .u8 b.toNat, ?_, kF R _⟩
   simp only [Builtin.firstCells, Sem.run_pure]
   congr 1
   rw [kY]
   simp
 · split at e
   · cases e
     obtain ⟨a, rfl⟩ := hx
     exact ⟨[], by simp [Builtin.firstCells, loadCells, loadCellsFrom], rfl⟩
   · cases e
 · cases e
theorem zg6 {size : Nat} {x : AV} {l : List AV} (e : qd h size 0 x = some l) : l = [] := by
 have aux : ∀ {i r o : Nat} {l : List AV}, zo h i r o (0 * size) = some l → l = [] := by
  intro i r o l e
  unfold zo at e
  split at e
  · split at e
    · cases e
    · split at e
      · rw [Nat.zero_mul] at e; simp [zM, zad] at e; first | exact e | exact e.symm
      · cases e
  · split at e
    · rw [Nat.zero_mul] at e; simp [zM, zad] at e; first | exact e | exact e.symm
    · cases e
  · cases e
 unfold qd at e
 split at e
 · cases e; rfl
 · exact aux e
 · exact aux e
 · cases e; rfl
 · cases e; rfl
 · cases e
theorem wc {x : AV} {x' : Value} {n : Nat} (w : World) (e : zay x = some n) (hx : zl R x x') : (Builtin.lenOf x').run P w = .ok n w := by
 unfold zay at e
 split at e
 · cases e; cases hx; rfl
 · cases e; obtain ⟨L, _, _, rfl⟩ := hx; rfl
 · cases e; obtain ⟨L, a, _, _, _, rfl, _⟩ := hx; rfl
 · cases e; cases hx; simp [Builtin.lenOf, zgh]
 · cases e; obtain ⟨a, rfl⟩ := hx; rfl
 · cases e
theorem zbj {x : AV} {x' : Value} {n : Nat} (e : xK x = some n) (hx : zl R x x') : ∃ a c, x' = .slice a n c := by
 unfold xK at e
 split at e
 · cases e; cases hx; exact ⟨_, _, rfl⟩
 · cases e; obtain ⟨L, _, _, rfl⟩ := hx; exact ⟨_, _, rfl⟩
 · cases e; obtain ⟨L, a, _, _, _, rfl, _⟩ := hx; exact ⟨_, _, rfl⟩
 · cases e; obtain ⟨a, rfl⟩ := hx; exact ⟨_, _, rfl⟩
 · cases e
theorem zeN (k : HRel P B R h w) {t : TypeId} {d s v : AV} {d' s' : Value} {h' : AHeap} {argTypes : Array TypeId} {ty : TypeId} (e : ziw P h t d s = some (v, h')) (hd : zl R d d') (hs : zl R s s') (ht : argTypes[0]? = some t) :
 zcY P B R w (Builtin.copy_ argTypes ty #[d', s']) v h' := by
 unfold ziw at e
 split at e
 · cases e
 · rename_i u hu
   split at e
   · rename_i el
     unfold zhx at e
     split at e
     · cases e
     · rename_i sz hsz
       obtain ⟨inf, hi, rfl⟩ := zC hsz
       split at e
       · cases e
       · rename_i dn hdn
         split at e
         · cases e
         · rename_i sn hsn
           split at e
           · cases e
           · rename_i cells hcells
             obtain ⟨vs, f1, f2⟩ := ju k hcells hs (by
              rintro i r o len st rfl
              simp [zay] at hsn; subst hsn; exact Nat.min_le_left _ _)
             obtain ⟨a0, c0, rfl⟩ := zbj hdn hd
             have base : ∀ w', (match a0 with | some a => storeCells a vs | none => pure () : Sem Unit).run P w = .ok () w' → (Builtin.copy_ argTypes ty #[.slice a0 dn c0, s']).run P w = .ok (goInt (Nat.min sn dn)) w' := by
              intro w' hw'
              cases a0 with
              | none => simp at hw'; subst hw'; simp [Builtin.copy_, ht, za w hu, wc w hsn hs, zp w hi, f1]
              | some a => simp only [] at hw'; simp [Builtin.copy_, ht, za w hu, wc w hsn hs, zp w hi, f1, hw']
             unfold zfV at e
             split at e
             · cases e; cases hd
               exact ⟨R, _, w, base w rfl, rfl, k, Keeps.refl _ _⟩
             · split at e
               · cases e
               · rename_i h1 hst
                 cases e
                 obtain ⟨L, hL, hm, heq⟩ := hd
                 cases heq
                 obtain ⟨w', g1, g2, g3⟩ := zD k hst hL hm f2
                 exact ⟨R, _, w', base w' g1, rfl, g2, g3⟩
             · rename_i i r o len st
               split at e
               · cases e
               · rename_i h1 hst
                 cases e
                 simp only [xK, Option.some.injEq] at hdn
                 subst hdn
                 obtain ⟨L, a, hL, hm, hk, heq, ha⟩ := hd
                 cases heq
                 by_cases hlt : st < L.kap
                 · obtain rfl := ha hlt
                   obtain ⟨w', g1, g2, g3⟩ := zD k hst hL hm f2
                   exact ⟨R, _, w', base w' g1, rfl, g2, g3⟩
                 ·
                  have hlen : len = 0 := by omega
                  subst hlen
                  obtain ⟨w', g1, g2, g3⟩ := zD k hst hL hm f2
                  have h00 : sn.min 0 = 0 := Nat.min_zero _
                  rw [h00] at hcells
                  have hc0 : cells = [] := zg6 hcells
                  subst hc0
                  cases f2
                  have hww : w' = w := by
                   simp [storeCells] at g1; exact g1.symm
                  subst hww
                  exact ⟨R, _, w', base w' (by simp [storeCells]), rfl, g2, g3⟩
             · cases e
   · cases e
theorem zdl (k : HRel P B R h w) {t : TypeId} {x : AV} {x' : Value} {h' : AHeap} {argTypes : Array TypeId} {ty : TypeId} (e : zdN P h t x = some h') (hx : zl R x x') (ht : argTypes[0]? = some t) :
 ∃ w', (Builtin.clear_ argTypes ty #[x']).run P w = .ok (.tuple #[]) w' ∧ HRel P B R h' w' ∧ Keeps R w R w' := by
 unfold zdN at e
 split at e
 · cases e
 · rename_i u hu
   have slice : ∀ {i r o n : Nat} {L : Loc} {c : Nat}, R i r = some L → L.minus ≤ o → vA h (qG P t) i r o n = some h' →
    ∃ w', (Builtin.clear_ argTypes ty #[.slice (some ⟨L.block, o - L.minus, none⟩) n c]).run P w = .ok (.tuple #[]) w' ∧ HRel P B R h' w' ∧ Keeps R w R w' := by
    intro i r o n L c hL hm e
    unfold vA at e
    split at e
    · cases e
      exact ⟨w, by simp [Builtin.clear_, ht, za w hu], k, Keeps.refl _ _⟩
    · rename_i n0
      split at e
      · cases e
      · rename_i z hz
        unfold qG at hz
        split at hz
        · rename_i el hel
          rw [hel] at hu; cases hu
          obtain ⟨inf, zv, hi, hzv, hzr⟩ := zV R hz
          obtain ⟨w', g1, g2, g3⟩ := zD k e hL hm (qn hzr (n0 + 1))
          refine ⟨w', ?_, g2, g3⟩
          simp only [Builtin.clear_, ht, List.getElem?_toArray, List.getElem?_cons_zero, Sem.run_bind, za w hel, Result.andThen_ok, zx w hi hzv, Builtin.zeroCells, g1, Sem.run_pure]
        · cases hz
   split at e
   · cases e; cases hx
     exact ⟨w, by simp [Builtin.clear_, ht, za w hu], k, Keeps.refl _ _⟩
   · cases e; cases hx
     exact ⟨w, by simp [Builtin.clear_, ht, za w hu], k, Keeps.refl _ _⟩
   · rename_i i
     obtain ⟨L, hL, rfl⟩ := hx
     unfold zf3 at e
     split at e
     · rename_i es clock ho
       cases e
       obtain ⟨L', es', hL', hh, hrel⟩ := k.obj' hL ho
       rw [hL] at hL'; cases hL'
       have hg : (getObj L.block).run P w = .ok (.map es' clock) w := by simp [getObj, Sem.run, hh]
       have hs := xk P (ob := .map #[] clock) hh (by simp)
       obtain ⟨p1, p2⟩ := xT k hL (k.notRo ho rfl) (.map [] clock) (.map #[] clock) ⟨L, #[], hL, xi w _ _ (xq hh), rfl⟩
       exact ⟨_, by simp [Builtin.clear_, ht, za w hu, hg, hs], p1, p2⟩
     · cases e
   · rename_i i r o n c
     obtain ⟨L, hL, hm, rfl⟩ := hx
     exact slice hL hm e
   · rename_i i r o n st
     obtain ⟨L, a, hL, hm, hk, rfl, ha⟩ := hx
     by_cases hlt : st < L.kap
     · obtain rfl := ha hlt
       exact slice hL hm e
     · have hn : n = 0 := by omega
       subst hn
       simp only [vA] at e
       cases e
       exact ⟨w, by simp [Builtin.clear_, ht, za w hu], k, Keeps.refl _ _⟩
   · cases e
end
end Go.Proofs.YtdbfpjgnlfejmaaDoor.Ev
end
section
namespace Go.Proofs.YtdbfpjgnlfejmaaDoor.Ev
open Go
section
variable {P : Program} {B : Base} {R : Bij} {h : AHeap} {w : World}
structure Apd (P : Program) (w : World) (el : TypeId) (inf : TypeInfo) (zv : Value) (ud : TypeDesc) (x' : Value) (n : Nat) (vs : List Value) : Prop where
 more : (∃ k, ud = .int k) → ∃ k l, x' = .int k l ∧ 0 ≤ l ∧ l < 2 ^ 40 ∧ n = l.toNat ∧ l * inf.bytes ≤ 2 ^ 48 ∧ vs = (Builtin.zeroCells zv.cells n).toList
 plain : (∀ k, ud ≠ .int k) → (Builtin.lenOf x').run P w = .ok n w ∧ (Builtin.firstCells inf.size n x').run P w = .ok vs.toArray w
theorem kX {l : Int} (h0 : 0 ≤ l) (h1 : l < 2 ^ 40) : IntKind.i64.wrap l = l := by
 simp only [IntKind.wrap, IntKind.bits, IntKind.signed]; simp; omega
theorem kC {argTypes : Array TypeId} {ty t u el : TypeId} {ud : TypeDesc} {inf : TypeInfo} {zv x' : Value} {n sLen sCap : Nat} {vs : List Value} {a : Addr} {w' : World}
 (ht : argTypes[0]? = some t) (hu : argTypes[1]? = some u) (htd : P.underlying t = some (.slice el)) (hud : P.underlying u = some ud) (hi : P.info? el = some inf) (hz : inf.zero = some zv) (_hzs : zv.cells.size = inf.size) (hs0 : 0 < inf.size)
 (ha : Apd P w el inf zv ud x' n vs) (hle : sLen + n ≤ sCap) (hst : (storeCells (a.add (sLen * inf.size)) vs 0).run P w = .ok () w') :
 (Builtin.append_ argTypes ty #[.slice (some a) sLen sCap, x']).run P w = .ok (.slice (some a) (sLen + n) sCap) w' := by
 by_cases hk : ∃ k, ud = .int k
 · obtain ⟨k, l, rfl, h0, h1, rfl, hb, rfl⟩ := ha.more hk
   obtain ⟨k', rfl⟩ := hk
   have hw := kX h0 h1
   have hneg : ¬ l < 0 := by omega
   have hbig : ¬ l * (inf.bytes : Int) > 2 ^ 48 := by omega
   simp only [Builtin.append_, ht, hu, List.getElem?_toArray, List.getElem?_cons_zero, List.getElem?_cons_succ, Sem.run_bind, za w htd, za w hud, Result.andThen_ok, zp w hi, Sem.run_pure, if_true, asInt, asIntOf, hw, hneg, if_false, zN w hi, hbig, hle]
   by_cases hn0 : l.toNat * inf.size = 0
   · have hl0 : l.toNat = 0 := by rcases Nat.mul_eq_zero.1 hn0 with h | h <;> omega
     have hr0 : Array.range 0 = #[] := rfl
     simp only [hl0, Nat.zero_mul, if_true]
     simp only [hl0, Builtin.zeroCells, Nat.zero_mul, hr0] at hst
     simp at hst ⊢
     rw [hst]; rfl
   · simp only [hn0, if_false, Bool.not_true, Bool.false_eq_true, Sem.run_bind, zx w hi hz, Result.andThen_ok, Sem.run_pure, hst]
 · obtain ⟨h1, h2⟩ := ha.plain (fun k e => hk ⟨k, e⟩)
   simp only [Builtin.append_, ht, hu, List.getElem?_toArray, List.getElem?_cons_zero, List.getElem?_cons_succ, Sem.run_bind, za w htd, za w hud, Result.andThen_ok, zp w hi, Sem.run_pure]
   cases ud <;> first
    | exact absurd ⟨_, rfl⟩ hk
    | simp only [Bool.false_eq_true, if_false, Sem.run_bind, Result.andThen_ok, h1, hle, if_true, Bool.not_false, h2, hst, Sem.run_pure]
theorem zaL (need cap : Nat) (h : cap < need) : Builtin.nextslicecap need cap ≤ 2 * need + 1000 := by
 unfold Builtin.nextslicecap
 split
 · omega
 · split
   · omega
   · have grow : ∀ (r c : Nat), c ≤ need + (need + 768) / 4 → Builtin.growBy need r c ≤ need + (need + 768) / 4 := by
      intro r
      induction r with
      | zero => intro c hc; exact hc
      | succ r ih =>
       intro c hc
       simp only [Builtin.growBy]
       split
       · exact hc
       · exact ih _ (by omega)
     have := grow 4 cap (by omega)
     omega
theorem jv {argTypes : Array TypeId} {ty t u el : TypeId} {ud : TypeDesc} {inf : TypeInfo} {zv x' : Value} {n sLen sCap : Nat} {vs olds : List Value} {b : Option Addr}
 (ht : argTypes[0]? = some t) (hu : argTypes[1]? = some u) (htd : P.underlying t = some (.slice el)) (hud : P.underlying u = some ud) (hi : P.info? el = some inf) (hz : inf.zero = some zv) (_hzs : zv.cells.size = inf.size) (hs0 : 0 < inf.size)
 (ha : ∀ w', w'.heap = w.heap → Apd P w' el inf zv ud x' n vs) (hgt : sCap < sLen + n) (hroom : x9 (sLen + n) inf.bytes = true)
 (hold : ∀ w', w'.heap = w.heap → (Builtin.firstCells inf.size sLen (.slice b sLen sCap)).run P w' = .ok olds.toArray w') :
 ∃ newCap, (sLen + n ≤ newCap ∧ newCap ≤ 9223372036854775807) ∧ (Builtin.append_ argTypes ty #[.slice b sLen sCap, x']).run P w =
  .ok (.slice (some ⟨w.heap.size, 0, none⟩) (sLen + n) newCap) (w.drew.alloc (.cells (olds.toArray ++ vs.toArray ++ Builtin.zeroCells zv.cells (newCap - (sLen + n))) el)) := by
 simp only [x9, Bool.and_eq_true, Nat.ble_eq, Nat.blt_eq] at hroom
 obtain ⟨hr1, hr2⟩ := hroom
 have hcap : ¬ Builtin.nextslicecap (sLen + n) sCap * inf.bytes > 2 ^ 48 := by
  have := Nat.mul_le_mul_right inf.bytes (zaL (sLen + n) sCap hgt)
  omega
 have hmax : ¬ (((sLen + n : Nat) : Int) > IntKind.i64.max) := by
  have : IntKind.i64.max = 9223372036854775807 := by decide
  rw [this]; omega
 have hnle : ¬ sLen + n ≤ sCap := by omega
 refine ⟨(Question.appendCap (sLen + n) sCap el).cut (w.tape w.drawn (Question.appendCap (sLen + n) sCap el)), ⟨by simp only [Question.cut]; omega, by simp only [Question.cut]; have := Nat.mod_lt (w.tape w.drawn (Question.appendCap (sLen + n) sCap el)) (show 2 ^ 63 - (sLen + n) > 0 by omega); omega⟩, ?_⟩
 have hf : (Question.appendCap (sLen + n) sCap el).forced = false := rfl
 have hd : w.drew.heap = w.heap := rfl
 have hti : ∀ w'', (typeInfo el).run P w'' = .ok inf w'' := fun w'' => zN w'' hi
 have hzv : ∀ w'', (zeroValue el).run P w'' = .ok zv w'' := fun w'' => zx w'' hi hz
 by_cases hk : ∃ k, ud = .int k
 · obtain ⟨k, l, rfl, h0, h1, rfl, hb, rfl⟩ := (ha w rfl).more hk
   obtain ⟨k', rfl⟩ := hk
   have hw := kX h0 h1
   have hneg : ¬ l < 0 := by omega
   have hbig : ¬ l * (inf.bytes : Int) > 2 ^ 48 := by omega
   simp only [Builtin.append_, ht, hu, List.getElem?_toArray, List.getElem?_cons_zero, List.getElem?_cons_succ, Sem.run_bind, za w htd, za w hud, Result.andThen_ok, zp w hi, Sem.run_pure, if_true, asInt, asIntOf, hw, hneg, if_false, hti, hbig, hnle, hcap,
    hmax, false_and, run_choose, hf, Bool.false_eq_true, World.drew_eq, run_askRoom, hold _ hd, Bool.not_true]
   by_cases hn0 : l.toNat * inf.size = 0
   · have hl0 : l.toNat = 0 := by rcases Nat.mul_eq_zero.1 hn0 with h | h <;> omega
     have hr0 : Array.range 0 = #[] := rfl
     simp only [hl0, Nat.zero_mul, if_true, Sem.run_pure, Result.andThen_ok, hzv, Sem.run_bind, newRow, run_newObj, World.alloc_eq, Builtin.zeroCells, hr0]
     simp
   · simp only [hn0, if_false, Sem.run_bind, hzv, Result.andThen_ok, Sem.run_pure, newRow, run_newObj, World.alloc_eq, Array.toArray_toList]
     rfl
 · obtain ⟨h1, h2⟩ := (ha w.drew rfl).plain (fun k e => hk ⟨k, e⟩)
   obtain ⟨h1', h2'⟩ := (ha w rfl).plain (fun k e => hk ⟨k, e⟩)
   simp only [Builtin.append_, ht, hu, List.getElem?_toArray, List.getElem?_cons_zero, List.getElem?_cons_succ, Sem.run_bind, za w htd, za w hud, Result.andThen_ok, zp w hi, Sem.run_pure]
   cases ud <;> first
    | exact absurd ⟨_, rfl⟩ hk
    | (simp only [Bool.false_eq_true, if_false, Sem.run_bind, Result.andThen_ok, h1', hnle, hti, hmax, false_and, hcap, run_choose, hf, World.drew_eq, run_askRoom, hold _ hd, Bool.not_false, if_true, h2, hzv, newRow, run_newObj, World.alloc_eq, Sem.run_pure]; rfl)
end
end Go.Proofs.YtdbfpjgnlfejmaaDoor.Ev
end
section
namespace Go.Proofs.YtdbfpjgnlfejmaaDoor.Ev
open Go
section
variable {P : Program} {B : Base} {R : Bij} {h : AHeap} {w : World}
theorem w8 (zero : Array Value) (n : Nat) : (Builtin.zeroCells zero n).size = n * zero.size := by simp [Builtin.zeroCells]
theorem ziK (k : HRel P B R h w) (hB : B.n ≤ w.heap.size) {el : TypeId} {l : List AV} {vs : List Value} {need newCap : Nat} {zs : Array Value} {inf : TypeInfo} (hi : P.info? el = some inf)
 (hr : zm R l vs) (hl : l.length = need * inf.size) (hz : zs.size = (newCap - need) * inf.size) (hle : need ≤ newCap) (hcb : newCap ≤ 9223372036854775807) :
 HRel P B (R.upd h.next 0 ⟨w.heap.size, 0, newCap⟩) (xV h el l false) (w.drew.alloc (.cells (vs.toArray ++ zs) el)) ∧
  Keeps R w (R.upd h.next 0 ⟨w.heap.size, 0, newCap⟩) (w.drew.alloc (.cells (vs.toArray ++ zs) el)) := by
 have hfree := k.fresh h.next (Nat.le_refl _)
 have hvl := hr.length
 have hmul : (newCap - need) * inf.size + need * inf.size = newCap * inf.size := by rw [← Nat.add_mul]; congr 1; omega
 refine k.new hB _ (.cells (vs.toArray ++ zs) el) ⟨w.heap.size, 0, newCap⟩ rfl rfl rfl rfl rfl ?_
 refine ⟨Nat.le_refl _, by omega, fun r hr' => ?_, fun r e h1 h2 h3 => ?_, fun r e h1 h2 h3 => ?_⟩
 rotate_left 2
 · obtain rfl : r = 0 := by omega
   simp [zJ] at h3; omega
 · rw [R.upd_other _ (by omega)]; exact hfree r
 · obtain rfl : r = 0 := by omega
   simp [zJ] at h3; subst h3
   refine ⟨_, R.upd_same _ _ _, vs.toArray ++ zs, 0, 0, ?_, by simp; omega, ?_, ⟨⟨Nat.le_refl _, fun _ => Nat.le_trans hcb (Nat.le_add_left _ _)⟩, fun j a b => by omega⟩, fun j x a _ c => ?_⟩
   · show (w.heap.push _)[w.heap.size]? = _; simp
   · rw [zG hi]; simp; omega
   · rw [zr] at c
     simp only [Nat.zero_le, true_and, Nat.zero_add, Nat.sub_zero] at c ⊢
     rw [if_pos a] at c
     obtain ⟨y, hy, hyr⟩ := hr.get j x c
     refine ⟨y, ?_, zl.mono (R.le_upd _ (hfree 0)) _ _ hyr⟩
     rw [Array.getElem?_append, if_pos (by simp; omega)]
     simpa using hy
theorem jA {s v : AV} {h' : AHeap} {s' : Value} (e : qs h s = some (v, h')) (hs : zl R s s') : v = s ∧ h' = h ∧ ∃ b l c, s' = .slice b l c ∧ l ≤ c := by
 unfold qs at e
 split at e
 · split at e
   · cases e; cases hs; exact ⟨rfl, rfl, _, _, _, rfl, by assumption⟩
   · cases e
 · split at e
   · cases e; obtain ⟨L, _, _, rfl⟩ := hs; exact ⟨rfl, rfl, _, _, _, rfl, by assumption⟩
   · cases e
 · cases e; obtain ⟨L, a, _, _, hk, rfl, _⟩ := hs; exact ⟨rfl, rfl, _, _, _, rfl, by omega⟩
 · cases e
theorem append_nil {argTypes : Array TypeId} {ty t u el : TypeId} {ud : TypeDesc} {inf : TypeInfo} {zv x' : Value} {sLen sCap : Nat}
 (ht : argTypes[0]? = some t) (hu : argTypes[1]? = some u) (htd : P.underlying t = some (.slice el)) (hud : P.underlying u = some ud) (hi : P.info? el = some inf) (_hz : inf.zero = some zv)
 (ha : Apd P w el inf zv ud x' 0 []) (hle : sLen ≤ sCap) :
 (Builtin.append_ argTypes ty #[.slice none sLen sCap, x']).run P w = .ok (.slice none sLen sCap) w := by
 by_cases hk : ∃ k, ud = .int k
 · obtain ⟨k, l, rfl, h0, h1, hn, hb, _⟩ := ha.more hk
   obtain ⟨k', rfl⟩ := hk
   have hw := kX h0 h1
   have hneg : ¬ l < 0 := by omega
   have hbig : ¬ l * (inf.bytes : Int) > 2 ^ 48 := by omega
   simp only [Builtin.append_, ht, hu, List.getElem?_toArray, List.getElem?_cons_zero, List.getElem?_cons_succ, Sem.run_bind, za w htd, za w hud, Result.andThen_ok, zp w hi, Sem.run_pure, if_true, asInt, asIntOf, hw, hneg, if_false, zN w hi, hbig, ← hn, Nat.add_zero, hle, Nat.zero_mul]
   rfl
 · obtain ⟨h1, h2⟩ := ha.plain (fun k e => hk ⟨k, e⟩)
   simp only [Builtin.append_, ht, hu, List.getElem?_toArray, List.getElem?_cons_zero, List.getElem?_cons_succ, Sem.run_bind, za w htd, za w hud, Result.andThen_ok, zp w hi, Sem.run_pure]
   cases ud <;> first
    | exact absurd ⟨_, rfl⟩ hk
    | (simp only [Bool.false_eq_true, if_false, Sem.run_bind, Result.andThen_ok, h1, Nat.add_zero, hle, if_true, Bool.not_false, h2, Sem.run_pure])
theorem jN (k : HRel P B R h w) (hB : B.n ≤ w.heap.size) {argTypes : Array TypeId} {ty t u el : TypeId} {ud : TypeDesc} {inf : TypeInfo} {zv x' s' : Value} {i r off st sLen n : Nat} {new : List AV} {vs : List Value} {v : AV} {h' : AHeap}
 (ht : argTypes[0]? = some t) (hu : argTypes[1]? = some u) (htd : P.underlying t = some (.slice el)) (hud : P.underlying u = some ud) (hi : P.info? el = some inf) (hz : inf.zero = some zv) (hzs : zv.cells.size = inf.size) (hs0 : 0 < inf.size)
 (ha : ∀ w', w'.heap = w.heap → Apd P w' el inf zv ud x' n vs) (hnew : zm R new vs) (hone : new.all AV.one = true) (hnl : new.length = n * inf.size) (hn0 : 0 < n)
 (hs : zl R (.slg i r off sLen st) s') (e : wL h el inf.size inf.bytes i r off st sLen (sLen + n) new = some (v, h')) :
 zcY P B R w (Builtin.append_ argTypes ty #[s', x']) v h' := by
 obtain ⟨L, a, hL, hm, hk, rfl, haddr⟩ := hs
 unfold wL at e
 simp only [T.seq_eq] at e
 split at e
 · rename_i c m el' lo hi' nv fz sg ex ho
   split at e
   · cases e
   · rename_i ee he
     split at e
     · rename_i hc
       obtain ⟨c1, c2, c3, c4, rfl, c6, c7, c8⟩ := hc
       obtain ⟨L', hL', cs, f0, f1, g1, g2, g3, g4, g5⟩ := k.ver hL ho c1 c2 he
       rw [hL] at hL'; cases hL'
       have hob := k.obj' hL ho
       obtain ⟨o1, o2, o3, o4, o5⟩ := hob
       have hcell := zG hi
       rw [hcell] at g3
       have hlt := xq g1
       have hnv : R i nv = none := o3 nv (Nat.le_refl _)
       have hvl := hnew.length
       have hinext : i < h.next := by
        rcases Nat.lt_or_ge i h.next with h1 | h1
        · exact h1
        · rw [k.fresh i h1] at hL; cases hL
       have hat : off + sLen * inf.size = (st + sLen) * inf.size := by rw [c6, Nat.add_mul]
       have hend : (st + sLen) * inf.size + n * inf.size = (st + (sLen + n)) * inf.size := by rw [← Nat.add_mul, Nat.add_assoc]
       have fin : ∀ (R' : Bij) (w' : World) (L1 : Loc), R' = R.upd i nv L1 → R.le R' → (∀ b, ¬ B.may b → w'.heap[b]? = w.heap[b]?) → (B.may L1.block ∨ B.ro i) → L1.block < w'.heap.size → w.heap.size ≤ w'.heap.size →
        (∀ j r' M, j ≠ i → R j r' = some M → M.block ≠ L1.block) → (∀ j r' M, j ≠ i → R j r' = some M → w'.heap[M.block]? = w.heap[M.block]?) →
        (∀ r' M, R i r' = some M → M.block = L1.block → M.minus = L1.minus) →
        wq P R' w' (zA c (off + sLen * inf.size) new) el' fz sg (off + sLen * inf.size + new.length) L1 →
        (m ≤ off + sLen * inf.size → ∀ r' e', lo ≤ r' → r' ≤ hi' → zJ ex m hi' r' = some e' → ∃ M, R i r' = some M ∧ wq P R' w' (zA c (off + sLen * inf.size) new) el' fz sg e' M) →
        v = .slg i nv off (sLen + n) st ∧ HRel P B R' h' w' := by
        intro R' w' L1 hR' hle b0 b1 b2 b3 b4 b5 b6 b7 b8
        have hother : ∀ j s, j ≠ i → R' j s = R j s := fun j s hj => by rw [hR']; exact R.upd_other L1 (fun e => hj e.1)
        have hnewL : ∀ s M, R' i s = some M → (s = nv ∧ M = L1) ∨ (s ≠ nv ∧ R i s = some M) := by
         intro s M hM
         rw [hR'] at hM
         by_cases hs : s = nv
         · subst hs; rw [R.upd_same] at hM; cases hM; exact .inl ⟨rfl, rfl⟩
         · rw [R.upd_other L1 (fun e => hs e.2)] at hM; exact .inr ⟨hs, hM⟩
        have nvfree : ∀ r', nv + 1 ≤ r' → R' i r' = none := fun r' hr => by
         rw [hR', R.upd_other L1 (by omega)]; exact o3 r' (by omega)
        have common : ∀ (o : AObj), xd P R' w' i o → HRel P B R' (h.put i o) w' := fun o hobj =>
         k.touch i o (k.live hL) hle (by rw [yj]; exact Nat.le_refl _) (by rw [yj]; exact hinext) (fun j => zat h i j _) (fun j s hj => hother j s hj) b5 hobj b3
          (fun s M hM => by
           rcases hnewL s M hM with ⟨_, rfl⟩ | ⟨_, hM⟩
           · exact ⟨b1, b2, fun j r' M' hj e' => b4 j r' M' hj e'⟩
           · exact ⟨(k.place i s M hM).1, Nat.lt_of_lt_of_le (k.place i s M hM).2 b3, fun j r' M' hj e' hb => hj (k.apart _ _ _ _ _ _ e' hM hb (.inr (k.notRo ho rfl)))⟩)
          (fun s s' M M' hM hM' hb => by
           rcases hnewL s M hM with ⟨_, rfl⟩ | ⟨_, hM⟩
           · rcases hnewL s' M' hM' with ⟨_, rfl⟩ | ⟨_, hM'⟩
             · rfl
             · exact (b6 s' M' hM' hb.symm).symm
           · rcases hnewL s' M' hM' with ⟨_, rfl⟩ | ⟨_, hM'⟩
             · exact b6 s M hM hb
             · exact k.same i s s' M M' hM hM' hb) (ke _ _ _) b0 (k.notRo ho rfl)
        split at e
        · rename_i hkeep
          cases e
          refine ⟨rfl, common _ ⟨by omega, by omega, nvfree, fun r' e' a1 a2 a3 => ?_, fun r' e' a1 a2 a3 => ?_⟩⟩
          · by_cases hr : r' = nv
            · subst hr
              simp [zJ] at a3; subst a3
              exact ⟨L1, by rw [hR']; exact R.upd_same _ _ _, b7⟩
            · have hold : zJ ex m hi' r' = some e' := by
               simp only [zJ, if_neg hr] at a3
               simp only [zJ]
               rw [T.get_set] at a3
               exact a3
              obtain ⟨M, hM, hv⟩ := b8 hkeep.1 r' e' a1 (by omega) hold
              exact ⟨M, hle _ _ _ hM, hv⟩
          · by_cases hr : r' = nv
            · subst hr; simp [zJ] at a3; omega
            · have hold : zJ ex m hi' r' = some e' := by
               simp only [zJ, if_neg hr] at a3
               simp only [zJ]
               rw [T.get_set] at a3
               exact a3
              have := o5 r' e' a1 (by omega) hold
              omega
        · cases e
          refine ⟨rfl, common _ ⟨Nat.le_refl _, by omega, nvfree, fun r' e' a1 a2 a3 => ?_, fun r' e' a1 a2 a3 => ?_⟩⟩
          · obtain rfl : r' = nv := by omega
            simp [zJ] at a3; subst a3
            exact ⟨L1, by rw [hR']; exact R.upd_same _ _ _, b7⟩
          · obtain rfl : r' = nv := by omega
            simp [zJ] at a3; omega
       by_cases hcap : sLen + n ≤ L.kap - st
       ·
        have hst : st < L.kap := by omega
        obtain rfl := haddr hst
        have hbound : (st + (sLen + n)) * inf.size ≤ cs.size + L.minus := by
         rw [← g3.1]; exact Nat.mul_le_mul_right _ (by omega)
        have hrun := wh P L.block (off - L.minus + sLen * inf.size) el' f0 f1 vs 0 w cs g1 (zbw hnew hone) (by omega) (fun j a1 a2 hj => by
         rcases g4.2 j hj.1 hj.2 with h1 | h1
         · omega
         · omega)
        have happ := kC (argTypes := argTypes) (ty := ty) (a := ⟨L.block, off - L.minus, none⟩) ht hu htd hud hi hz hzs hs0 (ha w rfl) hcap (by rw [zz]; exact hrun)
        have hle := R.le_upd (i := i) (r := nv) L hnv
        have hidx : off - L.minus + sLen * inf.size + 0 = off + sLen * inf.size - L.minus := by omega
        rw [hidx] at hrun happ
        have hself := qK w L.block (zds cs (off + sLen * inf.size - L.minus) vs) el' (f0, f1) hlt
        have upd_rel : ∀ e', (∀ k, off + sLen * inf.size ≤ k → k < e' → k < off + sLen * inf.size + new.length) → (∀ k v, k < e' → k < off + sLen * inf.size → L.minus ≤ k → c.get k = some v → ∃ x, cs[k - L.minus]? = some x ∧ zl R v x) → e' ≤ cs.size + L.minus →
         wq P (R.upd i nv L) (x7 w L.block (zds cs (off + sLen * inf.size - L.minus) vs) el' (f0, f1)) (zA c (off + sLen * inf.size) new) el' fz sg e' L := by
         intro e' q1 q2 q3
         refine ⟨_, f0, f1, hself, by rw [xS]; exact q3, by rw [xS, hcell]; exact g3, ⟨g4.1, fun j a b => by rw [xS]; exact g4.2 j a b⟩, fun j x a1 a2 a3 => ?_⟩
         rw [zr] at a3
         rw [jX _ _ _ _ (by omega), hvl]
         split at a3
         · rename_i hj
           rw [if_pos (by omega)]
           obtain ⟨y, hy, hyr⟩ := hnew.get _ x a3
           exact ⟨y, by rw [← hy]; congr 1; omega, zl.mono hle _ _ hyr⟩
         · rename_i hj
           have hjlt : j < off + sLen * inf.size := by
            rcases Nat.lt_or_ge j (off + sLen * inf.size) with h1 | h1
            · exact h1
            · exact absurd ⟨h1, q1 j h1 a1⟩ hj
           rw [if_neg (by omega)]
           obtain ⟨y, hy, hyr⟩ := q2 j x a1 hjlt a2 a3
           exact ⟨y, hy, zl.mono hle _ _ hyr⟩
        obtain ⟨hv, hH⟩ := fin (R.upd i nv L) (x7 w L.block (zds cs (off + sLen * inf.size - L.minus) vs) el' (f0, f1)) L rfl hle (fun b hb => zR w _ _ _ (k.off hL (k.notRo ho rfl) hb)) (k.place i r L hL).1 (by rw [xp]; exact hlt) (by rw [xp]; exact Nat.le_refl _)
         (fun j r' M hj e hb => hj (k.apart _ _ _ _ _ _ e hL hb (.inr (k.notRo ho rfl)))) (fun j r' M hj e => zR w _ _ _ (fun hb => hj (k.apart _ _ _ _ _ _ e hL hb (.inr (k.notRo ho rfl)))))
         (fun r' M e hb => k.same i r' r M L e hL hb)
         (upd_rel _ (fun k a b => by omega) (fun k v a b c d => g5 k v (by omega) c d) (by omega))
         (fun hkeep r' e' a1 a2 a3 => by
          obtain ⟨M, hM, hv⟩ := o4 r' e' a1 a2 a3
          have he' := o5 r' e' a1 a2 a3
          refine ⟨M, hM, ?_⟩
          by_cases hb : M.block = L.block
          · obtain ⟨cs2, q0, q1, q2, q3, q4, q5, q6⟩ := hv
            have hmin := k.same i r' r M L hM hL hb
            rw [hb, g1] at q2
            cases q2
            obtain ⟨cs3, z0, z1, z2, z3, z4, z5, z6⟩ := upd_rel e' (fun k a b => by omega) (fun k v a b c d => by rw [← hmin] at c ⊢; exact q6 k v a c d) (by omega)
            rw [hself] at z2; cases z2
            exact ⟨_, f0, f1, by rw [hb]; exact hself, by omega, by rw [xS]; exact q4, ⟨q5.1, fun j a b => by rw [xS]; exact q5.2 j a b⟩, fun k v a b c => by rw [hmin] at b ⊢; exact z6 k v a b c⟩
          · have hold := hv.mono (w' := x7 w L.block (zds cs (off + sLen * inf.size - L.minus) vs) el' (f0, f1)) hle (zR w _ _ _ hb)
            obtain ⟨cs2, q0, q1, q2, q3, q4, q5, q6⟩ := hold
            refine ⟨cs2, q0, q1, q2, q3, q4, q5, fun k v a b c => ?_⟩
            rw [zr, if_neg (by omega)] at c
            exact q6 k v a b c)
        subst hv
        refine ⟨_, _, _, happ, ⟨L, _, R.upd_same _ _ _, hm, by omega, rfl, fun _ => rfl⟩, hH, ⟨rfl, rfl, rfl, by rw [xp]; exact Nat.le_refl _, hle, fun b hb hn => ⟨zR w _ _ _ (fun e => hn i r L hL e.symm), fun j s M hM => ?_⟩, Nat.le_refl _⟩⟩
        by_cases hc : j = i ∧ s = nv
        · rw [hc.1, hc.2, R.upd_same] at hM; cases hM; exact hn i r L hL
        · rw [R.upd_other L hc] at hM; exact hn j s M hM
       ·
        have hold : ∀ w', w'.heap = w.heap → (Builtin.firstCells inf.size sLen (.slice (some a) sLen (L.kap - st))).run P w' = .ok ((cs.extract (off - L.minus) (off - L.minus + sLen * inf.size)).toList.toArray) w' := by
         intro w' hw'
         simp only [Builtin.firstCells, Array.toArray_toList]
         by_cases hst : st < L.kap
         · obtain rfl := haddr hst
           have := yT P L.block (off - L.minus) el' (f0, f1) w' cs (by rw [hw']; exact g1) (sLen * inf.size) 0 #[] (by omega)
           rw [loadCells, this, Array.empty_append]; rfl
         · have hl0 : sLen = 0 := by omega
           subst hl0
           simp [loadCells, loadCellsFrom]
           exact Nat.min_le_left _ _
        obtain ⟨newCap, ⟨hge, hcb⟩, happ⟩ := jv (argTypes := argTypes) (ty := ty) ht hu htd hud hi hz hzs hs0 ha (by omega) c8 hold
        have kapb : newCap + st ≤ off + 9223372036854775807 := by have := Nat.le_mul_of_pos_right st hs0; omega
        have hle := R.le_upd (i := i) (r := nv) ⟨w.heap.size, off, newCap + st⟩ hnv
        have hosz : (cs.extract (off - L.minus) (off - L.minus + sLen * inf.size)).toList.length = sLen * inf.size := by simp; omega
        have hzsz : (Builtin.zeroCells zv.cells (newCap - (sLen + n))).size = (newCap - (sLen + n)) * inf.size := by rw [w8, hzs]
        have hmul : sLen * inf.size + n * inf.size + (newCap - (sLen + n)) * inf.size = newCap * inf.size := by rw [← Nat.add_mul, ← Nat.add_mul]; congr 1; omega
        generalize hrow : ((cs.extract (off - L.minus) (off - L.minus + sLen * inf.size)).toList.toArray ++ vs.toArray ++ Builtin.zeroCells zv.cells (newCap - (sLen + n))) = row at happ
        have hrs : row.size = newCap * inf.size := by rw [← hrow]; simp only [Array.size_append, List.size_toArray, hosz, hzsz]; omega
        have hbnew : (w.drew.alloc (.cells row el')).heap[w.heap.size]? = some (.cells row el' (0, 0)) := by show (w.heap.push _)[w.heap.size]? = _; simp
        have hbold : ∀ b, b < w.heap.size → (w.drew.alloc (.cells row el')).heap[b]? = w.heap[b]? := fun b hb => by show (w.heap.push _)[b]? = _; rw [Array.getElem?_push, if_neg (by omega)]
        have hsz : (w.drew.alloc (.cells row el')).heap.size = w.heap.size + 1 := by show (w.heap.push _).size = _; simp
        obtain ⟨hv, hH⟩ := fin (R.upd i nv ⟨w.heap.size, off, newCap + st⟩) (w.drew.alloc (.cells row el')) ⟨w.heap.size, off, newCap + st⟩ rfl hle (fun b hb => hbold b (Nat.lt_of_lt_of_le (Base.low_lt hb) hB)) (.inl (.inl hB)) (by rw [hsz]; exact Nat.lt_succ_self _) (by rw [hsz]; omega)
         (fun j r' M hj e hb => by have := (k.place j r' M e).2; simp only at hb; omega) (fun j r' M hj e => hbold _ (k.place j r' M e).2)
         (fun r' M e hb => by have := (k.place i r' M e).2; simp only at hb; omega)
         ⟨row, 0, 0, hbnew, by simp only; omega, ⟨by simp only; rw [hcell, hrs, Nat.add_mul, ← c6], by simp only; rw [hcell, c6]; exact Nat.dvd_mul_left _ _⟩, ⟨⟨Nat.le_refl _, fun _ => kapb⟩, fun j a b => by omega⟩, fun j x a1 a2 a3 => by
          simp only at a2
          rw [zr] at a3
          split at a3
          · rename_i hj
            obtain ⟨y, hy, hyr⟩ := hnew.get _ x a3
            refine ⟨y, (?_ : row[j - off]? = some y), zl.mono hle _ _ hyr⟩
            rw [← hrow, Array.getElem?_append, if_pos (by simp only [Array.size_append, List.size_toArray, hosz]; omega), Array.getElem?_append, if_neg (by simp only [List.size_toArray, hosz]; omega)]
            simp only [List.size_toArray, hosz, List.getElem?_toArray]
            rw [← hy]; congr 1; omega
          · rename_i hj
            obtain ⟨y, hy, hyr⟩ := g5 j x (by omega) (by omega) a3
            refine ⟨y, (?_ : row[j - off]? = some y), zl.mono hle _ _ hyr⟩
            rw [← hrow, Array.getElem?_append, if_pos (by simp only [Array.size_append, List.size_toArray, hosz]; omega), Array.getElem?_append, if_pos (by simp only [List.size_toArray, hosz]; omega)]
            rw [Array.toArray_toList, Array.getElem?_extract, if_pos (by omega), ← hy]
            congr 1; omega⟩
         (fun hkeep r' e' a1 a2 a3 => by
          obtain ⟨M, hM, hv⟩ := o4 r' e' a1 a2 a3
          have he' := o5 r' e' a1 a2 a3
          refine ⟨M, hM, ?_⟩
          obtain ⟨cs2, q0, q1, q2, q3, q4, q5, q6⟩ := hv.mono (w' := w.drew.alloc (.cells row el')) hle (hbold _ (k.place i r' M hM).2)
          refine ⟨cs2, q0, q1, q2, q3, q4, q5, fun k v a b c => ?_⟩
          rw [zr, if_neg (by omega)] at c
          exact q6 k v a b c)
        subst hv
        refine ⟨_, _, _, happ, ⟨_, _, R.upd_same _ _ _, Nat.le_refl _, by simp only; omega, by simp only; congr 1; omega, fun _ => by simp⟩, hH, ⟨rfl, rfl, rfl, by rw [hsz]; omega, hle, fun b hb hn => ⟨hbold b hb, fun j s M hM => ?_⟩, Nat.le_succ _⟩⟩
        by_cases hc : j = i ∧ s = nv
        · rw [hc.1, hc.2, R.upd_same] at hM; cases hM; simp only; omega
        · rw [R.upd_other _ hc] at hM; exact hn j s M hM
     · cases e
 · cases e
theorem kJ {w w' : World} {a : Addr} (hw : w'.heap = w.heap) (hrow : ∃ cs el fz, w.heap[a.block]? = some (.cells cs el fz)) : ∀ (m i : Nat) (acc r : Array Value) (w2 : World),
 (loadCellsFrom a i m acc).run P w = .ok r w2 → (loadCellsFrom a i m acc).run P w' = .ok r w'
 | 0, i, acc, r, w2, hr => by simp [loadCellsFrom] at hr ⊢; exact hr.1
 | m + 1, i, acc, r, w2, hr => by
  simp only [loadCellsFrom, Sem.run_bind, run_load] at hr ⊢
  have hce : w'.cell? (a.add i) = w.cell? (a.add i) := by simp only [World.cell?, hw]
  rw [hce]
  cases hcc : w.cell? (a.add i) with
  | some x => rw [hcc] at hr; simp only [Result.andThen_ok] at hr ⊢; exact kJ hw hrow m _ _ _ _ hr
  | none =>
   rw [hcc] at hr
   obtain ⟨cs, el, fz, hb⟩ := hrow
   have hblk : (a.add i).block = a.block := by simp only [Addr.add]; split <;> rfl
   simp only [World.farLoad, hblk, hb] at hr
   cases hr
theorem zl4 (k : HRel P B R h w) {s : AV} {a : Addr} {l c size n : Nat} {old : List AV} (hs : zl R s (.slice (some a) l c)) (hns : ∀ i r o len st, s ≠ .slg i r o len st) (hsl : s ≠ .sle) (e : qd h size n s = some old) :
 ∃ cs el fz, w.heap[a.block]? = some (.cells cs el fz) := by
 unfold qd at e
 split at e
 · cases hs
 · obtain ⟨L, hL, hm, hh⟩ := hs
   cases hh
   unfold zo at e
   split at e
   · rename_i c m el lo hi nv fz sg ex ho
     split at e
     · cases e
     · rename_i e' he
       split at e
       · rename_i hc
         obtain ⟨L', hL', cs, f0, f1, g1, _⟩ := k.ver hL ho hc.1 hc.2.1 he
         rw [hL] at hL'; cases hL'
         exact ⟨_, _, _, g1⟩
       · cases e
   · rename_i c lo m ho
     split at e
     · rename_i hc
       obtain ⟨L', cs, el, fz, hL', q1, q2, q3, q4⟩ := k.obj' hL ho
       rw [hc.1, hL'] at hL; cases hL
       exact ⟨_, _, _, q2⟩
     · cases e
   · cases e
 · exact absurd rfl (hns _ _ _ _ _)
 · cases hs
 · exact absurd rfl hsl
 · cases e
theorem ql (k : HRel P B R h w) (hB : B.n ≤ w.heap.size) {argTypes : Array TypeId} {ty t u el : TypeId} {ud : TypeDesc} {inf : TypeInfo} {zv x' : Value} {b : Option Addr} {sLen sCap n : Nat} {s : AV} {new : List AV} {vs : List Value} {v : AV} {h' : AHeap}
 (ht : argTypes[0]? = some t) (hu : argTypes[1]? = some u) (htd : P.underlying t = some (.slice el)) (hud : P.underlying u = some ud) (hi : P.info? el = some inf) (hz : inf.zero = some zv) (hzs : zv.cells.size = inf.size) (hs0 : 0 < inf.size)
 (ha : ∀ w', w'.heap = w.heap → Apd P w' el inf zv ud x' n vs) (hnew : zm R new vs) (hnl : new.length = n * inf.size) (hgt : sCap < sLen + n)
 (hs : zl R s (.slice b sLen sCap)) (hns : ∀ i r o len st, s ≠ .slg i r o len st) (hsl : s ≠ .sle) (e : yg h el inf.size inf.bytes sLen (sLen + n) s new = some (v, h')) :
 zcY P B R w (Builtin.append_ argTypes ty #[.slice b sLen sCap, x']) v h' := by
 unfold yg at e
 split at e
 · rename_i hroom
   split at e
   · cases e
   · rename_i old hold
     split at e
     · rename_i hc
       cases e
       obtain ⟨ovs, f1, f2⟩ := ju k hold hs (fun i r o len st hh => absurd hh (hns _ _ _ _ _))
       have hold' : ∀ w', w'.heap = w.heap → (Builtin.firstCells inf.size sLen (.slice b sLen sCap)).run P w' = .ok ovs.toArray w' := by
        intro w' hw'
        cases b with
        | none => simp [Builtin.firstCells] at f1 ⊢; exact f1
        | some a => simp only [Builtin.firstCells] at f1 ⊢; exact kJ hw' (zl4 k hs hns hsl hold) _ _ _ _ _ f1
       obtain ⟨newCap, ⟨hge, hcb⟩, happ⟩ := jv (argTypes := argTypes) (ty := ty) ht hu htd hud hi hz hzs hs0 ha hgt hroom hold'
       have hl : (old ++ new).length = (sLen + n) * inf.size := by rw [List.length_append, hc.2, hnl, Nat.add_mul]
       obtain ⟨g1, g2⟩ := ziK k hB hi (f2.append hnew) hl (zs := Builtin.zeroCells zv.cells (newCap - (sLen + n))) (by rw [w8, hzs]) hge hcb
       refine ⟨_, _, _, happ, zfc R hge, ?_, ?_⟩
       · simpa using g1
       · simpa using g2
     · cases e
 · cases e
end
end Go.Proofs.YtdbfpjgnlfejmaaDoor.Ev
end
section
namespace Go.Proofs.YtdbfpjgnlfejmaaDoor.Ev
open Go
section
variable {P : Program} {B : Base} {R : Bij} {h : AHeap} {w : World}
theorem zc2 (k : HRel P B R h w) {i r off n : Nat} {l : List AV} (e : zo h i r off n = some l) {L : Loc} (hL : R i r = some L) : ∃ cs el fz, w.heap[L.block]? = some (.cells cs el fz) := by
 unfold zo at e
 split at e
 · rename_i c m el lo hi nv fz sg ex ho
   split at e
   · cases e
   · rename_i e' he
     split at e
     · rename_i hc
       obtain ⟨L', hL', cs, f0, f1, g1, _⟩ := k.ver hL ho hc.1 hc.2.1 he
       rw [hL] at hL'; cases hL'
       exact ⟨_, _, _, g1⟩
     · cases e
 · rename_i c lo m ho
   split at e
   · rename_i hc
     obtain ⟨L', cs, el, fz, hL', q1, q2, q3, q4⟩ := k.obj' hL ho
     rw [hc.1, hL'] at hL; cases hL
     exact ⟨_, _, _, q2⟩
   · cases e
 · cases e
theorem zgT (k : HRel P B R h w) {size n : Nat} {x : AV} {x' : Value} {l : List AV} (e : qd h size n x = some l) (hx : zl R x x') (hn : ∀ i r o len st, x = .slg i r o len st → n ≤ len) :
 ∃ vs : List Value, zm R l vs ∧ ∀ w' : World, w'.heap = w.heap → (Builtin.firstCells size n x').run P w' = .ok vs.toArray w' := by
 unfold qd at e
 split at e
 · cases e; cases hx; exact ⟨[], rfl, fun _ _ => by simp [Builtin.firstCells]⟩
 · obtain ⟨L, hL, hm, rfl⟩ := hx
   obtain ⟨vs, e1, e2, _⟩ := zO k e hL hm
   exact ⟨vs, e2, fun w' hw => by simp only [Builtin.firstCells]; exact kJ hw (a := ⟨L.block, _, none⟩) (zc2 k e hL) _ _ _ _ _ e1⟩
 · rename_i i r o len st
   obtain ⟨L, a, hL, hm, hk, rfl, ha⟩ := hx
   obtain ⟨vs, e1, e2, e3⟩ := zO k e hL hm
   by_cases hlt : st < L.kap
   · obtain rfl := ha hlt
     exact ⟨vs, e2, fun w' hw => by simp only [Builtin.firstCells]; exact kJ hw (a := ⟨L.block, _, none⟩) (zc2 k e hL) _ _ _ _ _ e1⟩
   · have hn0 := hn _ _ _ _ _ rfl
     have : n = 0 := by omega
     subst this
     simp at e3
     have hl0 : l = [] := by simpa using e3
     subst hl0
     cases e2
     exact ⟨[], rfl, fun _ _ => by simp [Builtin.firstCells, loadCells, loadCellsFrom]⟩
 · rename_i s
   cases e; cases hx
   refine ⟨(s.take n).map fun b => .int .u8 b.toNat, kF R _, fun w' _ => ?_⟩
   simp only [Builtin.firstCells, Sem.run_pure]
   congr 1
   rw [kY]
   simp
 · split at e
   · cases e
     obtain ⟨a, rfl⟩ := hx
     exact ⟨[], rfl, fun _ _ => by simp [Builtin.firstCells, loadCells, loadCellsFrom]⟩
   · cases e
 · cases e
theorem zfb {u : TypeId} (e : jy P u = some true) : ∃ k, P.underlying u = some (.int k) := by
 unfold jy at e
 split at e
 · cases e
 · rename_i d hd
   split at e
   · exact ⟨_, hd⟩
   · cases e
theorem zdT {u : TypeId} (e : jy P u = some false) : ∃ d, P.underlying u = some d ∧ ∀ k, d ≠ .int k := by
 unfold jy at e
 split at e
 · cases e
 · rename_i d hd
   split at e
   · cases e
   · rename_i hn
     exact ⟨d, hd, fun k hk => hn k hk⟩
theorem zcG {z : AV} {zv : Value} (hz : zl R z zv) (n : Nat) : zm R (zZ z.cells n) (Builtin.zeroCells zv.cells n).toList := qn hz n
theorem zbh (k : HRel P B R h w) {u el : TypeId} {inf : TypeInfo} {z x : AV} {zv x' : Value} {zeros : Bool} {n : Nat} {new : List AV} (hzr : zl R z zv) (hu : jy P u = some zeros) (hx : zl R x x')
 (e : kl h inf.size z zeros x = some (n, new)) (hb : zeros = true → Nat.ble (n * inf.bytes) (2 ^ 48) = true) :
 ∃ ud vs, P.underlying u = some ud ∧ zm R new vs ∧ ∀ w', w'.heap = w.heap → Apd P w' el inf zv ud x' n vs := by
 unfold kl at e
 split at e
 · obtain ⟨k', hud⟩ := zfb hu
   split at e
   · rename_i kk l
     split at e
     · rename_i hl
       cases e
       cases hx
       refine ⟨_, _, hud, zcG hzr l.toNat, fun w' _ => ⟨fun _ => ⟨kk, l, rfl, hl.1, hl.2, rfl, ?_, rfl⟩, fun hn => absurd rfl (hn k')⟩⟩
       have := hb rfl
       rw [Nat.ble_eq] at this
       have h2 : ((l.toNat * inf.bytes : Nat) : Int) ≤ 2 ^ 48 := by exact_mod_cast this
       have h3 : ((l.toNat : Nat) : Int) = l := Int.toNat_of_nonneg hl.1
       rw [Int.natCast_mul, h3] at h2
       exact h2
     · cases e
   · cases e
 · obtain ⟨ud, hud, hni⟩ := zdT hu
   split at e
   · cases e
   · rename_i m hm
     split at e
     · cases e
     · rename_i nw hnw
       cases e
       obtain ⟨vs, f1, f2⟩ := zgT k hnw hx (fun i r o len st hh => by subst hh; cases hm; exact Nat.le_refl _)
       exact ⟨ud, vs, hud, f1, fun w' hw => ⟨fun ⟨k', hk'⟩ => absurd hk' (hni k'), fun _ => ⟨wc w' hm hx, f2 w' hw⟩⟩⟩
theorem jk (k : HRel P B R h w) {argTypes : Array TypeId} {ty t u el : TypeId} {ud : TypeDesc} {inf : TypeInfo} {zv x' s' : Value} {i r off st sLen n : Nat} {new : List AV} {vs : List Value} {v : AV} {h' : AHeap}
 (ht : argTypes[0]? = some t) (hu : argTypes[1]? = some u) (htd : P.underlying t = some (.slice el)) (hud : P.underlying u = some ud) (hi : P.info? el = some inf) (hz : inf.zero = some zv) (hzs : zv.cells.size = inf.size) (hs0 : 0 < inf.size)
 (ha : Apd P w el inf zv ud x' n vs) (hnew : zm R new vs) (hn0 : 0 < n)
 (hs : zl R (.slg i r off sLen st) s') (e : yd h el inf.size i r off st sLen (sLen + n) new = some (v, h')) :
 zcY P B R w (Builtin.append_ argTypes ty #[s', x']) v h' := by
 obtain ⟨L, a, hL, hm, hk, rfl, haddr⟩ := hs
 unfold yd at e
 split at e
 · rename_i c m el' lo hi' nv fz sg ex ho
   split at e
   · cases e
   · rename_i ee he
     split at e
     · rename_i hc
       obtain ⟨c0, c1, c2, rfl, c4⟩ := hc
       split at e
       · cases e
       · rename_i h2 hst
         cases e
         obtain ⟨L', hL', cs, f0, f1, g1, g2, g3, g4, g5⟩ := k.ver hL ho c1 c2 he
         rw [hL] at hL'; cases hL'
         rw [zG hi] at g3
         have hkap : st + (sLen + n) ≤ L.kap := by
          refine Nat.le_of_mul_le_mul_right ?_ hs0
          rw [g3.1, Nat.add_mul, ← c4]
          exact Nat.le_trans c0 g2
         obtain rfl := haddr (by omega)
         obtain ⟨w', q1, q2, q3⟩ := zD k hst hL (by omega) hnew
         refine ⟨R, _, w', kC (a := ⟨L.block, off - L.minus, none⟩) ht hu htd hud hi hz hzs hs0 ha (by omega) ?_, ⟨L, _, hL, hm, hkap, rfl, fun _ => rfl⟩, q2, q3⟩
         rw [zz, ← q1]; congr 3; omega
     · cases e
 · cases e
theorem zcD (k : HRel P B R h w) (hB : B.n ≤ w.heap.size) {t u ty : TypeId} {argTypes : Array TypeId} {zeros : Bool} {s x v : AV} {s' x' : Value} {h' : AHeap} (e : wo P h t zeros s x = some (v, h'))
 (ht : argTypes[0]? = some t) (hu : argTypes[1]? = some u) (hz : jy P u = some zeros) (hs : zl R s s') (hx : zl R x x') :
 zcY P B R w (Builtin.append_ argTypes ty #[s', x']) v h' := by
 unfold wo at e
 split at e
 · cases e
 · rename_i ut hut
   split at e
   · rename_i el
     unfold zcj at e
     split at e
     · cases e
     · rename_i inf hi
       split at e
       · cases e
       · rename_i z hzt
         split at e
         · cases e
         · rename_i sLen hsl
           split at e
           · cases e
           · rename_i n new hap
             split at e
             · rename_i hc
               obtain ⟨c1, c2, c3, c4, c5, c6⟩ := hc
               obtain ⟨inf', zv, hi', hzv, hzr⟩ := zV R hzt
               rw [hi] at hi'; cases hi'
               have hzs : zv.cells.size = inf.size := by have := hzr.cells.length; rw [← c2, ← this]; simp
               obtain ⟨ud, vs, hud, hnew, ha⟩ := zbh (el := el) k hzr hz hx hap c6
               split at e
               ·
                obtain ⟨rfl, rfl, b, l, c, rfl, hlc⟩ := jA e hs
                have hn0 : new = [] := by simpa using c5
                subst hn0
                cases hnew
                refine ⟨R, .slice b l c, w, ?_, hs, k, Keeps.refl _ _⟩
                cases b with
                | none => exact append_nil ht hu hut hud hi hzv (ha w rfl) hlc
                | some a => exact kC ht hu hut hud hi hzv hzs c1 (ha w rfl) (by omega) (by simp [storeCells])
               · rename_i n0
                 unfold y9 at e
                 split at e
                 · rename_i l cap
                   split at e
                   · cases hs; cases hsl
                     exact ql (s := .nils sLen 0) k hB ht hu hut hud hi hzv hzs c1 ha hnew c5 (by omega) rfl (by simp) (by simp) e
                   · cases e
                 · rename_i i r off l cap
                   obtain ⟨L, hL, hm, rfl⟩ := hs
                   cases hsl
                   split at e
                   · rename_i hle
                     unfold zb3 at e
                     split at e
                     · cases e
                     · rename_i h2 hst
                       cases e
                       obtain ⟨w', g1, g2, g3⟩ := zD k hst hL (by omega) hnew
                       refine ⟨R, _, w', kC (a := ⟨L.block, off - L.minus, none⟩) ht hu hut hud hi hzv hzs c1 (ha w rfl) hle ?_, ⟨L, hL, hm, rfl⟩, g2, g3⟩
                       rw [zz, ← g1]; congr 3; omega
                   · exact ql (s := .slc i r off sLen cap) k hB ht hu hut hud hi hzv hzs c1 ha hnew c5 (by omega) ⟨L, hL, hm, rfl⟩ (by simp) (by simp) e
                 · cases hsl
                   split at e
                   · rename_i hap2
                     cases e
                     exact jk k ht hu hut hud hi hzv hzs c1 (ha w rfl) hnew (by omega) hs hap2
                   · exact jN k hB ht hu hut hud hi hzv hzs c1 ha hnew c4 c5 (by omega) hs e
                 · cases e
             · cases e
   · cases e
theorem za1 {mx : Bool} {a b v : AV} {a' b' : Value} (w : World) (e : zlU mx a b = some v) (ha : zl R a a') (hb : zl R b b') :
 ∃ v', ((if mx then Builtin.max2 a' b' else Builtin.min2 a' b')).run P w = .ok v' w ∧ zl R v v' := by
 unfold zlU at e
 split at e
 · split at e
   · cases e; cases ha; cases hb
     cases mx
     · exact ⟨_, rfl, by simp [zl]⟩
     · exact ⟨_, rfl, by simp [zl]⟩
   · cases e
 · cases e
theorem vN {f : AV → AV → Option AV} {g : Value → Value → Sem Value} (w : World) (hf : ∀ a b v a' b', f a b = some v → zl R a a' → zl R b b' → ∃ v', (g a' b').run P w = .ok v' w ∧ zl R v v') :
 ∀ {l : List AV} {l' : List Value} {x v : AV} {x' : Value}, zjN f x l = some v → zl R x x' → zm R l l' → ∃ v', (l'.foldlM g x').run P w = .ok v' w ∧ zl R v v'
 | [], _, x, v, x', e, hx, hl => by cases e; cases hl; exact ⟨x', by simp, hx⟩
 | y :: r, _, x, v, x', e, hx, hl => by
  obtain ⟨y', ys, rfl, hy, hr⟩ := hl
  simp only [zjN] at e
  split at e
  · cases e
  · rename_i z hz
    obtain ⟨z', e1, e2⟩ := hf _ _ _ _ _ hz hx hy
    obtain ⟨v', e3, e4⟩ := vN w hf e e2 hr
    exact ⟨v', by simp [List.foldlM_cons, e1, e3], e4⟩
theorem zaJ {mx : Bool} {l : List AV} {l' : List Value} {v : AV} {ats : Array TypeId} {ty : TypeId} (w : World) (e : zj7 mx l = some v) (hl : zm R l l') :
 ∃ v', (if mx then Builtin.max_ ats ty l'.toArray else Builtin.min_ ats ty l'.toArray).run P w = .ok v' w ∧ zl R v v' := by
 unfold zj7 at e
 split at e
 · cases e
 · rename_i x r
   obtain ⟨y, ys, rfl, hy, hr⟩ := hl
   cases mx
   · exact vN w (fun a b v a' b' h1 h2 h3 => by simpa using za1 (P := P) (mx := false) w h1 h2 h3) e hy hr
   · exact vN w (fun a b v a' b' h1 h2 h3 => by simpa using za1 (P := P) (mx := true) w h1 h2 h3) e hy hr
theorem zaN {x v : AV} {x' : Value} {ats : Array TypeId} {ty : TypeId} (w : World) (e : zaA x = some v) (hx : zl R x x') : ∃ v', (Builtin.unsafeSliceData_ ats ty #[x']).run P w = .ok v' w ∧ zl R v v' := by
 unfold zaA at e
 split at e
 · cases e; cases hx; exact ⟨.pointer none, rfl, rfl⟩
 · split at e
   · cases e
   · cases e
     obtain ⟨L, hL, hm, rfl⟩ := hx
     exact ⟨_, rfl, L, hL, hm, rfl⟩
 · rename_i i r o l st
   split at e
   · cases e
   · cases e
     obtain ⟨L, a, hL, hm, hk, rfl, ha⟩ := hx
     obtain rfl := ha (by omega)
     obtain ⟨q, hq⟩ : ∃ q, L.kap - st = q + 1 := ⟨L.kap - st - 1, by omega⟩
     rw [hq]
     exact ⟨_, rfl, L, hL, hm, rfl⟩
 · cases e
theorem zg8 {t : TypeId} {x v : AV} {x' : Value} {ats : Array TypeId} {ty : TypeId} (w : World) (e : capE P t x = some v) (hx : zl R x x') (ht : ats[0]? = some t) : ∃ v', (Builtin.cap_ ats ty #[x']).run P w = .ok v' w ∧ zl R v v' := by
 unfold capE at e
 split at e
 · rename_i hs
   unfold v6 at hs
   split at hs
   · rename_i el hel
     unfold capA at e
     split at e
     · cases e
       obtain ⟨L, hL, hm, rfl⟩ := hx
       exact ⟨_, by simp [Builtin.cap_, ht, za w hel]; rfl, rfl⟩
     · cases e; cases hx
       exact ⟨_, by simp [Builtin.cap_, ht, za w hel]; rfl, rfl⟩
     · cases e
   · cases hs
 · cases e
theorem zef (k : HRel P B R h w) (hB : B.n ≤ w.heap.size) {t : TypeId} {x : AV} {x' : Value} {r : AR} (e : zfI P h t x = some r) (hx : zl R x x') : xM P B R w (do pure (.value (← Instr.range t x'))) r := by
 unfold zfI at e
 split at e
 · rename_i s
   split at e
   · rename_i hu
     cases e; cases hx
     obtain ⟨R', g1, g2, g3⟩ := zb4 k hB s
     exact ⟨R', _, _, by simp [Instr.range, za w hu], g1, g2, g3⟩
   · cases e
 · cases e
end
end Go.Proofs.YtdbfpjgnlfejmaaDoor.Ev
end
section
namespace Go.Proofs.YtdbfpjgnlfejmaaDoor.Ev
open Go
section
variable {P : Program} {B : Base} {R : Bij} {h : AHeap} {w : World}
theorem zK {v : Option AV} {r : AR} (e : qi h v = some r) : ∃ x, v = some x ∧ r = .val x h := by
 unfold qi at e
 split at e
 · cases e
 · cases e; exact ⟨_, rfl, rfl⟩
theorem xb {v : Option (AV × AHeap)} {r : AR} (e : zbH v = some r) : ∃ x h', v = some (x, h') ∧ r = .val x h' := by
 unfold zbH at e
 split at e
 · cases e
 · cases e; exact ⟨_, _, rfl, rfl⟩
theorem wi {v : Option AHeap} {r : AR} (e : zfk v = some r) : ∃ h', v = some h' ∧ r = .skip h' := by
 unfold zfk at e
 split at e
 · cases e
 · cases e; exact ⟨_, rfl, rfl⟩
theorem zaH {v : Option AHeap} {r : AR} (e : zg4 v = some r) : ∃ h', v = some h' ∧ r = .val (.tup []) h' := by
 unfold zg4 at e
 split at e
 · cases e
 · cases e; exact ⟨_, rfl, rfl⟩
theorem zu {ρ : Operand → Option AV} {x : Operand} {f : AV → Option AR} {r : AR} (e : wb ρ x f = some r) : ∃ a, ρ x = some a ∧ f a = some r := by
 unfold wb at e
 split at e
 · cases e
 · exact ⟨_, by assumption, e⟩
theorem xr {ρ : Operand → Option AV} {x y : Operand} {f : AV → AV → Option AR} {r : AR} (e : two ρ x y f = some r) : ∃ a b, ρ x = some a ∧ ρ y = some b ∧ f a b = some r := by
 unfold two at e
 split at e
 · cases e
 · split at e
   · cases e
   · exact ⟨_, _, by assumption, by assumption, e⟩
theorem jT {l : List AV} {x : AV} (e : zdZ l = some x) : l = [x] := by
 unfold zdZ at e
 split at e
 · cases e; rfl
 · cases e
theorem wM {l : List AV} {x y : AV} (e : zkM l = some (x, y)) : l = [x, y] := by
 unfold zkM at e
 split at e
 · cases e; rfl
 · cases e
theorem xj {s : Sem Value} {v : AV} {h' : AHeap} (e : zcY P B R w s v h') : xM P B R w (do pure (.value (← s))) (.val v h') := by
 obtain ⟨R', v', w', e1, e2, e3, e4⟩ := e
 exact ⟨R', v', w', by simp [e1], e2, e3, e4⟩
theorem wW {s : Sem Unit} {h' : AHeap} (e : ∃ w', s.run P w = .ok () w' ∧ HRel P B R h' w' ∧ Keeps R w R w') : xM P B R w (do s; pure .skip) (.skip h') := by
 obtain ⟨w', e1, e2, e3⟩ := e
 exact ⟨R, w', by simp [e1], e2, e3⟩
theorem zbn {s : Sem Value} {h' : AHeap} (e : ∃ w', s.run P w = .ok (.tuple #[]) w' ∧ HRel P B R h' w' ∧ Keeps R w R w') : xM P B R w (do pure (.value (← s))) (.val (.tup []) h') := by
 obtain ⟨w', e1, e2, e3⟩ := e
 exact ⟨R, .tuple #[], w', by simp [e1], ⟨[], rfl, rfl⟩, e2, e3⟩
theorem xM.congr {s s' : Sem Next} {r : AR} (k : xM P B R w s' r) (e : s.run P w = s'.run P w) : xM P B R w s r := by
 cases r <;> simpa only [xM, e] using k
theorem jZ {ρ : Operand → Option AV} {ρ' : Operand → Value} (hρ : ∀ x v, ρ x = some v → zl R v (ρ' x)) {l : List Operand} {r : List AV} (e : qE ρ l = some r) : zm R r (l.map ρ') :=
 .of_mapO e fun x v hv => hρ x v hv
theorem zL {fn : Func} {n : String} {e : Array Value → Sem Value} (hn : fn.name = n) (ho : fn.origin = "") (h1 : Extern.allGenericRows.lookup n = none) (h2 : Extern.allTypedRows.lookup n = none) (h3 : Extern.allRows.lookup n = some e)
 (h4 : Extern.allNextRows.lookup n = none) (h5 : Extern.allNextRows.lookup "" = none) : Extern.find fn = some e ∧ Extern.findNext fn = none := by
 constructor
 · unfold Extern.find
   simp only [hn, h1, h2, h3]
   rfl
 · unfold Extern.findNext
   simp only [hn, ho, h4, h5]
   rfl
theorem zgJ {fn : Func} {n : String} {e : Array TypeId → Array TypeId → Array Value → Sem Value} (hn : fn.name = n) (ho : fn.origin = "") (h1 : Extern.allGenericRows.lookup n = none) (h2 : Extern.allTypedRows.lookup n = some e)
 (h4 : Extern.allNextRows.lookup n = none) (h5 : Extern.allNextRows.lookup "" = none) : Extern.find fn = some (e fn.params fn.resultTypes) ∧ Extern.findNext fn = none := by
 constructor
 · unfold Extern.find
   simp only [hn, h1, h2]
   rfl
 · unfold Extern.findNext
   simp only [hn, ho, h4, h5]
   rfl
theorem zgu (q : Question) (w : World) : ∃ n w', (choose q).run P w = .ok n w' ∧ w'.heap = w.heap ∧ w'.os = w.os ∧ w'.tape = w.tape ∧ w'.output = w.output ∧ w.drawn ≤ w'.drawn := by
 rw [run_choose]
 split
 · exact ⟨_, _, rfl, rfl, rfl, rfl, rfl, Nat.le_refl _⟩
 · exact ⟨_, _, rfl, rfl, rfl, rfl, rfl, Nat.le_succ _⟩
theorem zba (ps rs : Array TypeId) (n : Int) : Extern.BytealgMakeNoZero.makeNoZero ps rs #[.int .i64 n] =
 (do
  let some t := rs[0]? | stuck "bytealg.MakeNoZero: no result type"
  let .slice elem ← underlying t | stuck "bytealg.MakeNoZero: slice type expected"
  if n < 0 || n > 2 ^ 48 then runtimePanic (.error "makeslice: len out of range")
  let cap ← choose (.appendCap n.toNat 0 elem)
  askRoom cap
  let bytes ← choose (.extern "internal/bytealg.MakeNoZero.bytes" 0)
  let a ← newRow elem (Extern.BytealgMakeNoZero.digits cap bytes #[])
  pure (.slice (some a) n.toNat cap)) := rfl
theorem jK (k : HRel P B R h w) (hB : B.n ≤ w.heap.size) {t el : TypeId} {ps rs : Array TypeId} {n : Int} (ht : rs[0]? = some t) (hu : P.underlying t = some (.slice el)) (h0 : 0 ≤ n) (h1 : n < 2 ^ 40) (hc : P.cellsOf el = 1) :
 zcY P B R w (Extern.BytealgMakeNoZero.makeNoZero ps rs #[.int .i64 n]) (.slg h.next 0 0 n.toNat 0) (h.new (.cells .leaf n.toNat el 0 0 1 0 false .leaf)) := by
 have hf : (Question.appendCap n.toNat 0 el).forced = false := rfl
 have hcap : n.toNat ≤ (Question.appendCap n.toNat 0 el).cut (w.tape w.drawn (Question.appendCap n.toNat 0 el)) := by simp only [Question.cut]; omega
 have hcb : (Question.appendCap n.toNat 0 el).cut (w.tape w.drawn (Question.appendCap n.toNat 0 el)) ≤ 9223372036854775807 := by
  simp only [Question.cut]
  have := Nat.mod_lt (w.tape w.drawn (Question.appendCap n.toNat 0 el)) (show 2 ^ 63 - n.toNat > 0 by omega)
  omega
 generalize hg : (Question.appendCap n.toNat 0 el).cut (w.tape w.drawn (Question.appendCap n.toNat 0 el)) = cap at hcap hcb
 obtain ⟨bs, w2, c1, c2, c3, c4, c5, c6⟩ := zgu (P := P) (.extern "internal/bytealg.MakeNoZero.bytes" 0) w.drew
 have hsz : (Extern.BytealgMakeNoZero.digits cap bs #[]).size = cap := by rw [Lib.size_digits]; simp
 have hneg : ¬ n < 0 := by omega
 have hbig : ¬ n > 2 ^ 48 := by omega
 have hfree := k.fresh h.next (Nat.le_refl _)
 have hheap : w2.heap = w.heap := c2
 have hn := k.new hB (.cells .leaf n.toNat el 0 0 1 0 false .leaf) (.cells (Extern.BytealgMakeNoZero.digits cap bs #[]) el) ⟨w.heap.size, 0, cap⟩ (w' := w2.alloc (.cells (Extern.BytealgMakeNoZero.digits cap bs #[]) el)) rfl
  (by show w2.heap.push _ = _; rw [hheap]) c3 c4 c5 ?_ (hdr := Nat.le_trans (Nat.le_succ _) c6)
 · refine ⟨_, .slice (some ⟨w.heap.size, 0, none⟩) n.toNat cap, _, ?_, zfc R hcap, hn.1, hn.2⟩
   rw [zba]
   have hcr : (choose (.appendCap n.toNat 0 el)).run P w = .ok cap w.drew := by simp only [run_choose, hf, Bool.false_eq_true, if_false, World.drew_eq, hg]
   simp only [ht, Sem.run_bind, za w hu, Result.andThen_ok, hneg, hbig, decide_false, Bool.or_self, Bool.false_eq_true, if_false, Sem.run_pure, hcr, run_askRoom, c1, newRow, run_newObj, World.alloc_eq, hheap]
 · refine ⟨Nat.le_refl _, by omega, fun r hr' => ?_, fun r e h1 h2 h3 => ?_, fun r e h1 h2 h3 => ?_⟩
   rotate_left 2
   · obtain rfl : r = 0 := by omega
     simp [zJ] at h3; omega
   · rw [R.upd_other _ (by omega)]; exact hfree r
   · obtain rfl : r = 0 := by omega
     simp [zJ] at h3; subst h3
     refine ⟨_, R.upd_same _ _ _, _, 0, 0, ?_, by rw [hsz]; exact hcap, by rw [hc, hsz]; exact ⟨(by show cap * 1 = cap + 0; omega), Nat.dvd_zero _⟩, ⟨⟨Nat.le_refl _, fun _ => Nat.le_trans hcb (Nat.le_add_left _ _)⟩, fun j a b => by omega⟩, fun j x a _ c => ?_⟩
     · show (w2.heap.push _)[w.heap.size]? = _
       rw [hheap]; simp
     · cases c
theorem zgw (t : TypeId) (v : Value) : Extern.ReflectliteType.typeOf #[.iface t v] = Extern.ReflectliteType.toType t := rfl
theorem zgl (f : TypeId → Sem Value) (x : Value) : Extern.ReflectliteType.method f #[x] = (do f (← Extern.ReflectliteType.ofRtype x)) := rfl
theorem zeP (h : Value) : Extern.ReflectliteType.ofRtype (.agg #[h]) = (do
 let t ← Extern.Rtype.ofHandle h
 Extern.Rtype.noPack "a Type asked or handed on" t
 pure t) := rfl
theorem zgE {t r : TypeId} {v : Value} (hr : zeM P = some r) (w : World) : (Extern.ReflectliteType.typeOf #[.iface t v]).run P w = .ok (.iface r (.agg #[.pointer (some ⟨P.globals.size, t, none⟩)])) w := by
 unfold zeM at hr
 split at hr
 · cases hr
 · rename_i c hc
   cases hr
   simp only [zgw, Extern.ReflectliteType.toType, cutType, Extern.Rtype.handle, typeHandle, Sem.run_bind, run_program, Result.andThen_ok, hc, Sem.run_pure]
theorem za7 {t : TypeId} {i : TypeInfo} (h1 : P.packed t = false) (h2 : P.holdsPacked P.depth t = false) (hi : P.info? t = some i) (w : World) :
 ((Extern.ReflectliteType.method fun t => do Extern.Rtype.noPackHeld "Comparable" t; pure (.bool (← typeInfo t).comparable)) #[.agg #[.pointer (some ⟨P.globals.size, t, none⟩)]]).run P w = .ok (.bool i.comparable) w := by
 simp only [zgl, zeP, Extern.Rtype.ofHandle, handleType, Extern.Rtype.noPack, Extern.Rtype.noPackHeld, Sem.run_bind, run_program, Result.andThen_ok, BEq.rfl, if_true, h1, h2, Bool.false_eq_true, if_false, Sem.run_pure, zN w hi]
theorem qO (k : HRel P B R h w) {x : AV} {x' : Value} {kd : IntKind} {n : Int} (hx : zl R x x') (e : zgM h x = some (kd, n)) :
 ∃ a, x' = .pointer (some a) ∧ w.cell? a = some (.int kd n) ∧ (∃ cs el fz, w.heap[a.block]? = some (.cells cs el fz)) := by
 unfold zgM at e
 split at e
 · rename_i i r off
   obtain ⟨L, hL, hm, rfl⟩ := hx
   unfold zla at e
   split at e
   · rename_i l hl
     split at e
     · rename_i v
       unfold znf at e
       split at e
       · cases e
         refine ⟨_, rfl, ?_⟩
         unfold zo at hl
         split at hl
         · rename_i c m el lo hi nv fz sg ex ho
           split at hl
           · cases hl
           · rename_i e' he
             split at hl
             · rename_i hc
               obtain ⟨L', hL', cs, a, b, v1, _, _, _, v5⟩ := k.ver hL ho hc.1 hc.2.1 he
               rw [hL] at hL'; cases hL'
               have g := (xf hl).2 0 _ rfl
               obtain ⟨x, hx, hr⟩ := v5 off _ (by omega) hm (by simpa using g)
               cases hr
               exact ⟨by rw [cell?_row _ _ _ v1]; exact hx, _, _, _, v1⟩
             · cases hl
         · rename_i c lo m ho
           split at hl
           · rename_i hc
             obtain ⟨L', cs, el, fz, hL', q1, q2, q3, q4⟩ := k.obj' hL ho
             rw [hc.1, hL'] at hL; cases hL
             have g := (xf hl).2 0 _ rfl
             obtain ⟨x, hx, hr⟩ := q4 off _ hc.2.1 (by omega) (by simpa using g)
             cases hr
             exact ⟨by rw [q1, Nat.sub_zero, cell?_row _ _ _ q2]; exact hx, _, _, _, q2⟩
           · cases hl
         · cases hl
       · cases e
     · cases e
   · cases e
 · cases e
theorem vL (k : HRel P B R h w) {x : AV} {a : Addr} {kd : IntKind} {n : Int} {h' : AHeap} (hx : zl R x (.pointer (some a))) (e : zml h x (.int kd n) = some h') {u : Value} (hc : w.cell? a = some u) :
 ∃ w', (store a (.int kd n) .atomic).run P w = .ok () w' ∧ w.frozen? a = false ∧ HRel P B R h' w' ∧ Keeps R w R w' := by
 unfold zml at e
 split at e
 · rename_i i r off
   obtain ⟨L, hL, hm, hv⟩ := hx
   cases hv
   obtain ⟨w', s1, s2, s3⟩ := zD k e hL hm (.cons (y := .int kd n) rfl .nil)
   have h1 := run_store P w ⟨L.block, off - L.minus, none⟩ (.int kd n) .plain rfl
   have h2 := run_store P w ⟨L.block, off - L.minus, none⟩ (.int kd n) .atomic rfl
   simp only [hc] at h1 h2
   simp only [storeCells, zz, Nat.add_zero, Sem.run_bind, h1] at s1
   split at s1
   · cases s1
   · rename_i hf
     rw [if_neg hf] at h2
     simp only [Result.andThen_ok, Sem.run_pure] at s1
     cases s1
     exact ⟨_, h2, by simpa using hf, s2, s3⟩
 · cases e
theorem ziU (t : Extern.Atomic.T) (x : Value) : Extern.Atomic.loadT t #[x] = (do Extern.Atomic.read t (← asAddr x)) := rfl
theorem zg0 (x v : Value) : Extern.Atomic.storeT #[x, v] = (do
 store (← asAddr x) v .atomic
 pure Extern.Atomic.none_) := rfl
theorem zkd (t : Extern.Atomic.T) (x o n : Value) : Extern.Atomic.casT t #[x, o, n] = (do
 let a ← asAddr x
 if ← Extern.Atomic.touchesFrozen a then unsupported (.unsafePointer "a write to bytes that a string shares")
 let eq ← match t, ← Extern.Atomic.read t a, o with
  | _, .int _ x, .int _ y => pure (x == y)
  | .ptr, .pointer x, .pointer y => samePointer x y
  | .int _, .pointer (some _), .int _ 0 | .int _, .int _ 0, .pointer (some _) => pure false
  | .int _, .pointer (some _), _ | .int _, _, .pointer (some _) => unsupported .addressObserved
  | _, _, _ => stuck "atomic.CompareAndSwap: old is no T"
 if eq then store a n .atomic
 pure (.bool eq)) := rfl
theorem zgx (op : IntKind → Int → Int → Sem Value) (k : IntKind) (r : Bool) (x y : Value) : Extern.Atomic.update op k r #[x, y] = (do
 let a ← asAddr x
 let old ← Extern.Atomic.read (.int k) a
 let new ← op k (← asInt old) (← asInt y)
 store a new .atomic
 pure (if r then new else old)) := rfl
theorem zcl {kd : IntKind} {n : Int} {a : Addr} (hc : w.cell? a = some (.int kd n)) : (Extern.Atomic.read (.int kd) a).run P w = .ok (.int kd n) w := by
 simp only [Extern.Atomic.read, Sem.run_bind, run_load, hc, Result.andThen_ok, if_true, Sem.run_pure]
theorem zeK {a : Addr} (hb : ∃ cs el fz, w.heap[a.block]? = some (.cells cs el fz)) (hf : w.frozen? a = false) : (Extern.Atomic.touchesFrozen a).run P w = .ok false w := by
 obtain ⟨cs, el, fz, hb⟩ := hb
 simp only [Extern.Atomic.touchesFrozen, viewAt, Sem.run_bind, run_shape, Result.andThen_ok, World.shape?, hb, Option.isSome_some, if_true, Sem.run_pure, run_frozen, hf]
theorem ziG (k : HRel P B R h w) {fn : Func} {f : FuncId} {args : List AV} {args' : List Value} {r : AR} {m : Addr → Mark} (hf : P.funcs[f]? = some fn) (hbn : fn.body.isNone = true) (hnm : (fn.name == "runtime.NumGoroutine") = false)
 (g1 : Extern.find fn = some (Extern.Race.marked m)) (g2 : Extern.findNext fn = none) (ha : zm R args args') (e : wk h args = some r) : xM P B R w (callFunc f args'.toArray) r := by
 unfold wk at e
 split at e
 · cases e
   obtain ⟨x', ys, rfl, hx, hys⟩ := ha
   cases hys
   obtain ⟨L, _, _, rfl⟩ := hx
   refine ⟨R, Extern.Race.none_, w, ?_, ⟨[], rfl, rfl⟩, k, Keeps.refl _ _⟩
   rw [run_callFunc_extern hf hnm hbn g2 g1]
   rfl
 · cases e
theorem znO (k : HRel P B R h w) {fn : Func} {f : FuncId} {args : List AV} {args' : List Value} {r : AR} {m : Mark} (hf : P.funcs[f]? = some fn) (hbn : fn.body.isNone = true) (hnm : (fn.name == "runtime.NumGoroutine") = false)
 (g1 : Extern.find fn = some (fun _ => do mark m; pure Extern.Race.none_)) (g2 : Extern.findNext fn = none) (ha : zm R args args') (e : zaz h args = some r) : xM P B R w (callFunc f args'.toArray) r := by
 unfold zaz at e
 split at e
 · cases e
   cases ha
   refine ⟨R, Extern.Race.none_, w, ?_, ⟨[], rfl, rfl⟩, k, Keeps.refl _ _⟩
   rw [run_callFunc_extern hf hnm hbn g2 g1]
   rfl
 · cases e
theorem zco (k : HRel P B R h w) {fn : Func} {f : FuncId} {args : List AV} {args' : List Value} {r : AR} (hb : fn.body = none) (hf : P.funcs[f]? = some fn) (ho : fn.origin = "")
 (ha : zm R args args') (e : zcn h fn.name args = some r) : xM P B R w (callFunc f args'.toArray) r := by
 have hbn : fn.body.isNone = true := by rw [hb]; rfl
 unfold zcn at e
 split at e
 · rename_i hn
   have hn := eq_of_beq hn
   obtain ⟨g1, g2⟩ := zL hn ho (by kernel_rfl) (by kernel_rfl) (show _ = some (Extern.Atomic.loadT (.int .u32)) by kernel_rfl) (by kernel_rfl) (by kernel_rfl)
   unfold ze7 at e
   split at e
   · rename_i x
     obtain ⟨x', ys, rfl, hx, hys⟩ := ha
     cases hys
     split at e
     · rename_i k' n hi
       split at e
       · rename_i hk
         subst hk
         cases e
         obtain ⟨a, rfl, hc, _⟩ := qO k hx hi
         refine ⟨R, .int .u32 n, w, ?_, rfl, k, Keeps.refl _ _⟩
         rw [run_callFunc_extern hf (by rw [hn]; decide) hbn g2 g1]
         simp only [ziU, asAddr, Sem.run_bind, Sem.run_pure, Result.andThen_ok, zcl hc]
       · cases e
     · cases e
   · cases e
 · split at e
   · rename_i hn
     have hn := eq_of_beq hn
     obtain ⟨g1, g2⟩ := zL hn ho (by kernel_rfl) (by kernel_rfl) (show _ = some Extern.Atomic.storeT by kernel_rfl) (by kernel_rfl) (by kernel_rfl)
     unfold zcz at e
     split at e
     · rename_i x k' n
       obtain ⟨x', ys, rfl, hx, y', zs, rfl, hy, hys⟩ := ha
       cases hys; cases hy
       split at e
       · rename_i pr hi
         obtain ⟨k1, n1⟩ := pr
         split at e
         · rename_i hk
           subst hk
           unfold zak at e
           split at e
           · cases e
           · rename_i h2 hs
             cases e
             obtain ⟨a, rfl, hc, _⟩ := qO k hx hi
             obtain ⟨w', s1, _, s3, s4⟩ := vL k hx hs hc
             refine ⟨R, Extern.Atomic.none_, w', ?_, ⟨[], rfl, rfl⟩, s3, s4⟩
             rw [run_callFunc_extern hf (by rw [hn]; decide) hbn g2 g1]
             simp only [zg0, asAddr, Sem.run_bind, Sem.run_pure, Result.andThen_ok, s1]
         · cases e
       · cases e
     · cases e
   · split at e
     · rename_i hn
       have hn := eq_of_beq hn
       obtain ⟨g1, g2⟩ := zL hn ho (by kernel_rfl) (by kernel_rfl) (show _ = some (Extern.Atomic.casT (.int .i32)) by kernel_rfl) (by kernel_rfl) (by kernel_rfl)
       unfold zhd at e
       split at e
       · rename_i x ko o k' n
         obtain ⟨x', ys, rfl, hx, y', zs, rfl, hy, z', us, rfl, hz, hys⟩ := ha
         cases hys; cases hy; cases hz
         split at e
         · rename_i k1 m hi
           split at e
           · rename_i hk
             obtain ⟨rfl, rfl, rfl⟩ := hk
             unfold zak at e
             split at e
             · cases e
             · rename_i h2 hs
               cases e
               obtain ⟨a, rfl, hc, hbk⟩ := qO k hx hi
               obtain ⟨w', s1, s2, s3, s4⟩ := vL k hx hs hc
               refine ⟨R, .bool true, w', ?_, rfl, s3, s4⟩
               rw [run_callFunc_extern hf (by rw [hn]; decide) hbn g2 g1]
               simp only [zkd, asAddr, Sem.run_bind, Sem.run_pure, Result.andThen_ok, zeK hbk s2, Bool.false_eq_true, if_false, zcl hc, BEq.rfl, if_true, s1]
           · cases e
         · cases e
       · cases e
     · split at e
       · rename_i hn
         have hn := eq_of_beq hn
         obtain ⟨g1, g2⟩ := zL hn ho (by kernel_rfl) (by kernel_rfl) (show _ = some (Extern.Atomic.update (Op.intArith .add) .i32 true) by kernel_rfl) (by kernel_rfl) (by kernel_rfl)
         unfold zhW at e
         split at e
         · rename_i x kd d
           obtain ⟨x', ys, rfl, hx, y', zs, rfl, hy, hys⟩ := ha
           cases hys; cases hy
           split at e
           · rename_i k1 m hi
             split at e
             · rename_i hk
               subst hk
               unfold zak at e
               split at e
               · cases e
               · rename_i h2 hs
                 cases e
                 obtain ⟨a, rfl, hc, hbk⟩ := qO k hx hi
                 obtain ⟨w', s1, s2, s3, s4⟩ := vL k hx hs hc
                 refine ⟨R, .int .i32 (IntKind.i32.wrap (m + d)), w', ?_, rfl, s3, s4⟩
                 rw [run_callFunc_extern hf (by rw [hn]; decide) hbn g2 g1]
                 simp only [zgx, asAddr, asInt, asIntOf, Op.intArith, Sem.run_bind, Sem.run_pure, Result.andThen_ok, zcl hc, if_true, s1]
             · cases e
           · cases e
         · cases e
       · split at e
         · rename_i hn
           have hn := eq_of_beq hn
           obtain ⟨g1, g2⟩ := zL hn ho (by kernel_rfl) (by kernel_rfl) (show _ = some (Extern.Race.marked .acquire) by kernel_rfl) (by kernel_rfl) (by kernel_rfl)
           exact ziG k hf hbn (by rw [hn]; decide) g1 g2 ha e
         · split at e
           · rename_i hn
             have hn := eq_of_beq hn
             obtain ⟨g1, g2⟩ := zL hn ho (by kernel_rfl) (by kernel_rfl) (show _ = some (Extern.Race.marked .releaseMerge) by kernel_rfl) (by kernel_rfl) (by kernel_rfl)
             exact ziG k hf hbn (by rw [hn]; decide) g1 g2 ha e
           · split at e
             · rename_i hn
               have hn := eq_of_beq hn
               obtain ⟨g1, g2⟩ := zL hn ho (by kernel_rfl) (by kernel_rfl) (show _ = some (fun _ => do mark .disable; pure Extern.Race.none_) by kernel_rfl) (by kernel_rfl) (by kernel_rfl)
               exact znO k hf hbn (by rw [hn]; decide) g1 g2 ha e
             · split at e
               · rename_i hn
                 have hn := eq_of_beq hn
                 obtain ⟨g1, g2⟩ := zL hn ho (by kernel_rfl) (by kernel_rfl) (show _ = some (fun _ => do mark .enable; pure Extern.Race.none_) by kernel_rfl) (by kernel_rfl) (by kernel_rfl)
                 exact znO k hf hbn (by rw [hn]; decide) g1 g2 ha e
               · cases e
theorem zcf (k : HRel P B R h w) (hB : B.n ≤ w.heap.size) {fn : Func} {f : FuncId} {args : List AV} {args' : List Value} {r : AR} (e : jn P h fn args = some r) (hb : fn.body = none) (hf : P.funcs[f]? = some fn)
 (ha : zm R args args') : xM P B R w (callFunc f args'.toArray) r := by
 have hbn : fn.body.isNone = true := by rw [hb]; rfl
 have strs : ∀ {a : AV} {x : Value} {s : List UInt8}, a = .str s → zl R a x → x = .string ⟨s.toArray⟩ := fun h1 h2 => by subst h1; exact h2
 unfold jn at e
 split at e
 · cases e
 · rename_i ho
   have ho := eq_of_beq ho
   split at e
   · rename_i hn
     have hn := eq_of_beq hn
     obtain ⟨g1, g2⟩ := zL hn ho (by kernel_rfl) (by kernel_rfl) (show _ = some Extern.AbiNoEscape.same by kernel_rfl) (by kernel_rfl) (by kernel_rfl)
     unfold vw at e
     split at e
     · cases e
       obtain ⟨x', ys, rfl, hx, hys⟩ := ha
       cases hys
       refine ⟨R, x', w, ?_, hx, k, Keeps.refl _ _⟩
       rw [run_callFunc_extern hf (by rw [hn]; decide) hbn g2 g1]
       rfl
     · cases e
   · split at e
     · rename_i hn
       have hn := eq_of_beq hn
       obtain ⟨g1, g2⟩ := zL hn ho (by kernel_rfl) (by kernel_rfl) (show _ = some Extern.BytealgCompare.compare by kernel_rfl) (by kernel_rfl) (by kernel_rfl)
       unfold zil at e
       split at e
       · rename_i a b
         cases e
         obtain ⟨x', ys, rfl, hx, y', zs, rfl, hy, hys⟩ := ha
         cases hys; cases hx; cases hy
         refine ⟨R, .int .i64 (Lib.compareBytes a b), w, ?_, rfl, k, Keeps.refl _ _⟩
         rw [run_callFunc_extern hf (by rw [hn]; decide) hbn g2 g1]
         show (((Extern.BytealgCompare.compare #[.string ⟨a.toArray⟩, .string ⟨b.toArray⟩]).run P w).andThen _) = _
         rw [Lib.run_compareString]
         simp
       · cases e
     · split at e
       · rename_i hn
         have hn := eq_of_beq hn
         obtain ⟨g1, g2⟩ := zL hn ho (by kernel_rfl) (by kernel_rfl) (show _ = some Extern.BytealgIndexByte.indexByte by kernel_rfl) (by kernel_rfl) (by kernel_rfl)
         unfold wD at e
         split at e
         · rename_i s c
           cases e
           obtain ⟨x', ys, rfl, hx, y', zs, rfl, hy, hys⟩ := ha
           cases hys; cases hx; cases hy
           refine ⟨R, .int .i64 (Lib.indexByte s c.toNat.toUInt8), w, ?_, rfl, k, Keeps.refl _ _⟩
           rw [run_callFunc_extern hf (by rw [hn]; decide) hbn g2 g1]
           show (((Extern.BytealgIndexByte.indexByte #[.string ⟨s.toArray⟩, .int .u8 c]).run P w).andThen _) = _
           rw [Lib.run_indexByteString]
           simp
         · cases e
       · split at e
         · rename_i hn
           have hn := eq_of_beq hn
           obtain ⟨g1, g2⟩ := zL hn ho (by kernel_rfl) (by kernel_rfl) (show _ = some Extern.BytealgCount.count by kernel_rfl) (by kernel_rfl) (by kernel_rfl)
           unfold zcF at e
           split at e
           · rename_i s c
             cases e
             obtain ⟨x', ys, rfl, hx, y', zs, rfl, hy, hys⟩ := ha
             cases hys; cases hx; cases hy
             refine ⟨R, .int .i64 (Lib.countByte s c.toNat.toUInt8), w, ?_, rfl, k, Keeps.refl _ _⟩
             rw [run_callFunc_extern hf (by rw [hn]; decide) hbn g2 g1]
             show (((Extern.BytealgCount.count #[.string ⟨s.toArray⟩, .int .u8 c]).run P w).andThen _) = _
             rw [Lib.run_countString]
             simp
           · cases e
         · split at e
           · rename_i hn
             have hn := eq_of_beq hn
             obtain ⟨g1, g2⟩ := zgJ hn ho (by kernel_rfl) (show _ = some Extern.BytealgMakeNoZero.makeNoZero by kernel_rfl) (by kernel_rfl) (by kernel_rfl)
             unfold yz at e
             split at e
             · cases e
             · rename_i t ht
               split at e
               · rename_i el hu
                 split at e
                 · rename_i n
                   split at e
                   · rename_i hc
                     cases e
                     obtain ⟨x', ys, rfl, hx, hys⟩ := ha
                     cases hys; cases hx
                     obtain ⟨R', v', w', q1, q2, q3, q4⟩ := jK (ps := fn.params) k hB ht hu hc.1 hc.2.1 hc.2.2
                     refine ⟨R', v', w', ?_, q2, q3, q4⟩
                     rw [run_callFunc_extern hf (by rw [hn]; decide) hbn g2 g1]
                     show (((Extern.BytealgMakeNoZero.makeNoZero fn.params fn.resultTypes #[.int .i64 n]).run P w).andThen _) = _
                     rw [q1]
                     simp
                   · cases e
                 · cases e
               · cases e
           · split at e
             · rename_i hn
               have hn := eq_of_beq hn
               obtain ⟨g1, g2⟩ := zL hn ho (by kernel_rfl) (by kernel_rfl) (show _ = some Extern.ReflectliteType.typeOf by kernel_rfl) (by kernel_rfl) (by kernel_rfl)
               unfold zaG at e
               split at e
               · rename_i t v
                 split at e
                 · cases e
                 · rename_i r hr
                   cases e
                   obtain ⟨x', ys, rfl, hx, hys⟩ := ha
                   cases hys
                   obtain ⟨y, rfl, _⟩ := hx
                   refine ⟨R, .iface r (.agg #[.pointer (some ⟨P.globals.size, t, none⟩)]), w, ?_, ⟨_, rfl, [.pointer (some ⟨P.globals.size, t, none⟩)], rfl, _, _, rfl, rfl, rfl⟩, k, Keeps.refl _ _⟩
                   rw [run_callFunc_extern hf (by rw [hn]; decide) hbn g2 g1]
                   show (((Extern.ReflectliteType.typeOf #[.iface t y]).run P w).andThen _) = _
                   rw [zgE hr]
                   simp
               · cases e
             · split at e
               · rename_i hn
                 have hn := eq_of_beq hn
                 obtain ⟨g1, g2⟩ := zL hn ho (by kernel_rfl) (by kernel_rfl) (show _ = some (Extern.ReflectliteType.method fun t => do Extern.Rtype.noPackHeld "Comparable" t; pure (.bool (← typeInfo t).comparable)) by kernel_rfl) (by kernel_rfl) (by kernel_rfl)
                 unfold qS at e
                 split at e
                 · rename_i g t
                   split at e
                   · rename_i hc
                     obtain ⟨rfl, c1, c2⟩ := hc
                     split at e
                     · cases e
                     · rename_i inf hi
                       cases e
                       obtain ⟨x', ys, rfl, hx, hys⟩ := ha
                       cases hys
                       obtain ⟨l, rfl, y, zs, rfl, hy, hz⟩ := hx
                       cases hz
                       cases hy
                       refine ⟨R, .bool inf.comparable, w, ?_, rfl, k, Keeps.refl _ _⟩
                       rw [run_callFunc_extern hf (by rw [hn]; decide) hbn g2 g1]
                       show (((Extern.ReflectliteType.method (fun t => do Extern.Rtype.noPackHeld "Comparable" t; pure (.bool (← typeInfo t).comparable)) #[.agg #[.pointer (some ⟨P.globals.size, t, none⟩)]]).run P w).andThen _) = _
                       rw [za7 c1 c2 hi]
                       simp
                   · cases e
                 · cases e
               · exact zco k hb hf ho ha e
theorem za3 (k : HRel P B R h w) (hB : B.n ≤ w.heap.size) {f : FuncId} {args : List AV} {args' : List Value} {r : AR} (e : zdn P h f args = some r) (ha : zm R args args') : xM P B R w (callFunc f args'.toArray) r := by
 unfold zdn at e
 split at e
 · cases e
 · rename_i fn hfn
   split at e
   · rename_i c hc
     split at e
     · cases e
     · rename_i hn
       cases e
       refine ⟨args', ?_, ha, k⟩
       simp only [callFunc, Sem.run_bind, run_program, Result.andThen_ok, hfn, hn, Bool.false_eq_true, if_false, hc, Option.isNone_some, Sem.run_pure]
   · rename_i hc
     exact zcf k hB e hc hfn ha
theorem xJ (k : HRel P B R h w) (hB : B.n ≤ w.heap.size) {x : AV} {x' : Value} {name : String} {args : List AV} {args' : List Value} {r : AR} (e : xZ P h x name args = some r) (hx : zl R x x') (ha : zm R args args') :
 xM P B R w (callMethod x' name args'.toArray) r := by
 unfold xZ at e
 split at e
 · rename_i t v
   split at e
   · cases e
   · rename_i f rc hm
     obtain ⟨v', rfl, hv⟩ := hx
     obtain ⟨r', e1, e2⟩ := zcI k hm hv (P.types.size + zcY.depth - 1)
     refine (za3 k hB e (.cons e2 ha)).congr ?_
     have hd : P.types.size + zcY.depth - 1 + 1 = P.types.size + zcY.depth := by
      have : 0 < zcY.depth := by decide
      omega
     rw [hd] at e1
     simp only [callMethod, Sem.run_bind, run_program, Result.andThen_ok, e1]
     congr 2
     simp
 · cases e
theorem ww (k : HRel P B R h w) (hB : B.n ≤ w.heap.size) {f : Fn} {args cap : List AV} {args' cap' : List Value} {r : AR} (e : qx P h f args cap = some r) (ha : zm R args args') (hc : zm R cap cap') :
 xM P B R w (invoke (.fn f cap'.toArray) args'.toArray) r := by
 unfold qx at e
 split at e
 · refine (za3 k hB e (ha.append hc)).congr ?_
   simp [invoke]
 · split at e
   · cases e
   · obtain ⟨x', r', rfl, hx, hr⟩ := ha
     refine (xJ k hB e hx hr).congr ?_
     simp [invoke]
 · split at e
   · cases e
   · split at e
     · cases e
     · rename_i y hy
       obtain ⟨x', r', rfl, hx, hr⟩ := ha
       unfold zfX at hy
       split at hy
       · cases hy
       · rename_i u hu
         split at hy
         · cases hy
           refine (xJ k hB e hx hr).congr ?_
           simp [invoke, za w hu]
         · rename_i hni
           cases hy
           refine (xJ k hB e ⟨x', rfl, hx⟩ hr).congr ?_
           simp only [invoke, List.getElem?_toArray, List.getElem?_cons_zero, Sem.run_bind, za w hu, Result.andThen_ok]
           cases u <;> first
            | exact absurd rfl (hni _)
            | simp
 · cases e
theorem zaB (k : HRel P B R h w) (hB : B.n ≤ w.heap.size) {f : AV} {f' : Value} {args : List AV} {args' : List Value} {r : AR} (e : zjo P h f args = some r) (hf : zl R f f') (ha : zm R args args') :
 xM P B R w (do let d ← Deferred.ofValue f' args'.toArray; invoke d.target d.args) r := by
 unfold zjo at e
 split at e
 · obtain ⟨hn, fs, cs, rfl, h1, h2⟩ := hf
   refine (ww k hB e (h1.append ha) h2).congr ?_
   simp [Deferred.ofValue]
 · cases e
   obtain ⟨L, hL, rfl⟩ := hf
   refine ⟨L, args', hL, ha, ?_⟩
   simp [Deferred.ofValue, invoke]
 · cases e
theorem zbg (k : HRel P B R h w) {b : Builtin} {ats : Array TypeId} {ty : TypeId} {cs : Array Bool} {args : List AV} {args' : List Value} {v : AV} (e : zck P h b ats[0]? args = some v) (ha : zm R args args') :
 xM P B R w (builtin b ats ty cs args'.toArray) (.val v h) := by
 unfold zck at e
 split at e
 · split at e
   · cases e
   · rename_i t ht
     split at e
     · cases e
     · rename_i x hx
       obtain rfl := jT hx
       obtain ⟨x', ys, rfl, hx', hr⟩ := ha
       cases hr
       unfold lenE at e
       split at e
       · cases e
       · rename_i n hn
         cases e
         exact zE k ⟨_, zgL k hn hx' ht (by simp), rfl⟩
 · split at e
   · cases e
   · rename_i t ht
     split at e
     · cases e
     · rename_i x hx
       obtain rfl := jT hx
       obtain ⟨x', ys, rfl, hx', hr⟩ := ha
       cases hr
       exact zE k (zg8 w e hx' ht)
 · have := zaJ (P := P) (ats := ats) (ty := ty) w e ha
   simp only [if_true] at this
   exact zE k this
 · have := zaJ (P := P) (ats := ats) (ty := ty) w e ha
   simp only [Bool.false_eq_true, if_false] at this
   exact zE k this
 · split at e
   · cases e
   · rename_i x hx
     obtain rfl := jT hx
     obtain ⟨x', ys, rfl, hx', hr⟩ := ha
     cases hr
     exact zE k (zaN w e hx')
 · cases e
theorem kj {b : Nat} : ∀ {l : List AV} {s : List UInt8} (o : Nat) (acc : ByteArray), yu l = some s → (∀ (j : Nat) v, l[j]? = some v → ∃ y, w.cell? ⟨b, o + j, none⟩ = some y ∧ zl R v y) →
 (loadBytes ⟨b, o, none⟩ acc l.length).run P w = .ok ⟨acc.data ++ s.toArray⟩ w
 | [], s, o, acc, e, _ => by
  simp [yu, zcC] at e
  subst e
  simp [loadBytes]
 | v :: l, s, o, acc, e, h => by
  simp only [yu, qo] at e
  cases hb : zcN v with
  | none => simp [hb] at e
  | some b' =>
   rw [hb] at e
   cases hl : qE zcN l with
   | none => simp [hl] at e
   | some s' =>
    rw [hl] at e; simp at e; subst e
    obtain ⟨y, hy, hyr⟩ := h 0 v rfl
    obtain ⟨n, rfl, rfl⟩ := zdq hb hyr
    rw [Nat.add_zero] at hy
    have ih := kj (b := b) (l := l) (s := s') (o + 1) (acc.push (UInt8.ofNat n.toNat)) hl (fun j x hj => by
     have := h (j + 1) x (by simpa using hj)
     rwa [show o + (j + 1) = o + 1 + j by omega] at this)
    have hx : n.toNat.toUInt8 = UInt8.ofNat n.toNat := rfl
    simp only [List.length_cons, loadBytes, Sem.run_bind, run_load, hy, Result.andThen, zz, hx]
    rw [ih]
    congr 1
    apply ByteArray.ext
    simp [ByteArray.push]
theorem zca {b n : Nat} {cs : Array Value} {el : TypeId} {f0 f1 : Nat} (g : w.heap[b]? = some (.cells cs el (f0, f1))) (hn : 0 < n) :
 w.freeze ⟨b, 0, none⟩ n = x7 w b cs el (if f0 == f1 then (0, n) else (min f0 0, max f1 n)) := by
 unfold World.freeze x7
 rw [if_neg (by omega)]
 congr 1
 apply Array.ext_getElem?
 intro j
 rw [Array.getElem?_modify, Array.getElem?_setIfInBounds]
 have hb := xq g
 by_cases hj : b = j
 · subst hj
   simp only [if_true, g, Option.map_some, hb, Nat.zero_add]
 · simp only [hj, if_false]
theorem zdH (k : HRel P B R h w) {i r n m : Nat} {c : T AV} {el : TypeId} {lo hi nv fz : Nat} {ex : T Nat} {L : Loc} (hL : R i r = some L) (ho : h.get i = some (.cells c m el lo hi nv fz false ex)) (hm : L.minus = 0)
 {cs : Array Value} {f0 f1 : Nat} (g1 : w.heap[L.block]? = some (.cells cs el (f0, f1))) (hf : f0 ≤ f1) (hn : 0 < n) :
 HRel P B R (h.put i (.cells c m el lo hi nv (max fz n) false ex)) (w.freeze ⟨L.block, 0, none⟩ n) ∧ Keeps R w R (w.freeze ⟨L.block, 0, none⟩ n) := by
 have hi' : i < h.next := by
  rcases Nat.lt_or_ge i h.next with h1 | h1
  · exact h1
  · rw [k.fresh i h1] at hL; cases hL
 have hlt := xq g1
 obtain ⟨o1, o2, o3, o4, o5⟩ := k.obj' hL ho
 rw [zca g1 hn]
 obtain ⟨f0', f1', hff, hle, hin⟩ : ∃ f0' f1', (if f0 == f1 then (0, n) else (min f0 0, max f1 n)) = (f0', f1') ∧ f0' ≤ f1' ∧ ∀ j, j < f1' → j < n ∨ (f0 < f1 ∧ j < f1) := by
  by_cases he : f0 = f1
  · exact ⟨0, n, by simp [he], by omega, fun j hj => .inl hj⟩
  · refine ⟨min f0 0, max f1 n, by simp [he], by omega, fun j hj => ?_⟩
    rcases Nat.lt_or_ge j n with h1 | h1
    · exact .inl h1
    · exact .inr ⟨by omega, by omega⟩
 rw [hff]
 refine ⟨k.touch i _ (k.live hL) R.le_refl (by rw [yj]; exact Nat.le_refl _) (by rw [yj]; exact hi') (fun j => zat h i j _) (fun _ _ _ => rfl) (fun j r' M hj e => zR w _ _ _ (fun hb => hj (k.apart _ _ _ _ _ _ e hL hb (.inr (k.notRo ho rfl))))) ?_
  (by rw [xp]; exact Nat.le_refl _) (fun r' M e => ⟨(k.place i r' M e).1, by rw [xp]; exact (k.place i r' M e).2, fun j r'' M' hj e' hb => hj (k.apart _ _ _ _ _ _ e' e hb (.inr (k.notRo ho rfl)))⟩) (k.same i) (ke _ _ _) (fun b hb => zR w _ _ _ (k.off hL (k.notRo ho rfl) hb)) (k.notRo ho rfl), ?_⟩
 · refine ⟨o1, o2, o3, fun r' e' a1 a2 a3 => ?_, o5⟩
   obtain ⟨M, hM, hv⟩ := o4 r' e' a1 a2 a3
   refine ⟨M, hM, ?_⟩
   by_cases hb : M.block = L.block
   · obtain ⟨cs2, q0, q1, q2, q3, q4, q5, q6⟩ := hv
     rw [hb, g1] at q2
     cases q2
     have hmin := k.same i r' r M L hM hL hb
     refine ⟨cs, f0', f1', by rw [hb]; exact qK w _ _ _ _ hlt, q3, q4, ⟨⟨hle, q5.1.2⟩, fun j a b => .inl ?_⟩, q6⟩
     rw [hmin, hm]
     rcases hin j b with h1 | ⟨h1, h2⟩
     · have := Nat.le_max_right fz n; omega
     · have h3 := q5.2 (f1 - 1) (by omega) (by omega)
       rw [hmin, hm] at h3
       rcases h3 with h3 | h3
       · have := Nat.le_max_left fz n; omega
       · exact absurd h3.1 (by simp)
   · obtain ⟨cs2, q0, q1, q2, q3, q4, q5, q6⟩ := hv.mono (w' := x7 w L.block cs el (f0', f1')) R.le_refl (zR w _ _ _ hb)
     exact ⟨cs2, q0, q1, q2, q3, q4, ⟨q5.1, fun j a b => (q5.2 j a b).imp (fun h => Nat.lt_of_lt_of_le h (Nat.le_max_left _ _)) id⟩, q6⟩
 · exact ⟨rfl, rfl, rfl, by rw [xp]; exact Nat.le_refl _, R.le_refl, fun b hb hn => ⟨zR w _ _ _ (fun e => hn i r L hL e.symm), hn⟩, Nat.le_refl _⟩
theorem yq (ats : Array TypeId) (ty : TypeId) (q : Option Addr) (n : Int) : Builtin.unsafeString_ ats ty #[.pointer q, .int .i64 n] =
 (do
  let n ← asInt (.int .i64 n)
  let some pt := ats[0]? | stuck "unsafe.String: no argument types"
  if n < 0 then runtimePanic (.error "unsafe.String: len out of range")
  if n > IntKind.i64.max then unsupported (.unsafePointer "String: a length above the largest int")
  match q with
  | none =>
   if n = 0 then pure (.string .empty)
   else runtimePanic (.error "unsafe.String: ptr is nil and len is not zero")
  | some a =>
   if n = 0 then pure (.string .empty)
   else if ← variablesAt a (← elemOf pt) n.toNat then do
    let s ← loadBytes a .empty n.toNat
    freeze a n.toNat
    pure (.string s)
   else unsupported (.unsafePointer "String: not so many bytes at ptr")) := rfl
theorem jG (k : HRel P B R h w) {t el ty : TypeId} {ats : Array TypeId} {p n v : AV} {p' n' : Value} {h' : AHeap} (e : qv P h el p n = some (v, h')) (ht : ats[0]? = some t) (hu : P.underlying t = some (.pointer el))
 (hp : zl R p p') (hn : zl R n n') : zcY P B R w (Builtin.unsafeString_ ats ty #[p', n']) v h' := by
 have hmax : IntKind.i64.max = 9223372036854775807 := rfl
 unfold qv at e
 split at e
 · rename_i z
   cases hn
   split at e
   · split at e
     · rename_i hz
       cases e; cases hp; subst hz
       exact ⟨R, .string .empty, w, by simp [yq, ht, asInt, asIntOf, hmax], rfl, k, Keeps.refl _ _⟩
     · cases e
   · rename_i i r off
     obtain ⟨L, hL, hm, rfl⟩ := hp
     split at e
     · rename_i hz
       cases e; subst hz
       exact ⟨R, .string .empty, w, by simp [yq, ht, asInt, asIntOf, hmax], rfl, k, Keeps.refl _ _⟩
     · rename_i hz
       split at e
       · rename_i hb
         obtain ⟨hb1, hb2⟩ := hb
         unfold zch at e
         split at e
         · rename_i c m el' lo hi nv fz sg ex ho
           split at e
           · cases e
           · rename_i ee he
             split at e
             · rename_i hc
               obtain ⟨c1, c2, c3, rfl, rfl, rfl, c7⟩ := hc
               split at e
               · cases e
               · rename_i l hl
                 split at e
                 · cases e
                 · rename_i s hs
                   cases e
                   have hm0 : L.minus = 0 := by omega
                   obtain ⟨L', hL', cs, f0, f1, g1, g2, g3, g4, g5⟩ := k.ver hL ho c1 c2 he
                   rw [hL] at hL'; cases hL'
                   obtain ⟨gl1, gl2⟩ := xf hl
                   have hsh : w.shape? L.block = some (el', cs.size) := by unfold World.shape?; rw [g1]
                   have hlies := Go.Lib.liesAt_bytes (P := P) c7 (cs.size / P.cellsOf el') z.toNat (by rw [c7, Nat.div_one]; omega)
                   have hlb := kj (P := P) (R := R) (w := w) (b := L.block) 0 .empty hs (fun j x hj => by
                    have hjn : j < z.toNat := by
                     rw [← gl1]; rcases Nat.lt_or_ge j l.length with h | h
                     · exact h
                     · rw [List.getElem?_eq_none h] at hj; cases hj
                    obtain ⟨y, hy, hyr⟩ := g5 j x (by omega) (by omega) (by have := gl2 j x hj; rwa [Nat.zero_add] at this)
                    rw [hm0, Nat.sub_zero] at hy
                    exact ⟨y, by rw [Nat.zero_add, cell?_row w _ _ g1]; exact hy, hyr⟩)
                   rw [gl1] at hlb
                   obtain ⟨f1', f2'⟩ := zdH k hL ho hm0 g1 g4.1.1 (n := z.toNat) (by omega)
                   refine ⟨R, .string ⟨s.toArray⟩, _, ?_, rfl, f1', f2'⟩
                   have hneg : ¬ z < 0 := by omega
                   have hbig : ¬ (9223372036854775807 : Int) < z := by omega
                   simp [yq, ht, asInt, asIntOf, hmax, hneg, hbig, hz, variablesAt, hsh, elemOf, za w hu, hlies, hm0, hlb]
             · cases e
         · cases e
       · cases e
   · cases e
 · cases e
theorem za6 (k : HRel P B R h w) (hB : B.n ≤ w.heap.size) {b : Builtin} {ats : Array TypeId} {ty : TypeId} {cs : Array Bool} {args : List AV} {args' : List Value} {r : AR} (e : yA P h b ats[0]? ats[1]? args = some r) (ha : zm R args args') :
 xM P B R w (builtin b ats ty cs args'.toArray) r := by
 unfold yA at e
 split at e
 · unfold zbY at e
   split at e
   · cases e
   · rename_i t ht
     split at e
     · cases e
     · rename_i u hu
       split at e
       · cases e
       · rename_i z hz
         split at e
         · cases e
         · rename_i s x hsx
           obtain rfl := wM hsx
           obtain ⟨s', ys, rfl, hs', x', zs, rfl, hx', hr⟩ := ha
           cases hr
           obtain ⟨v, h', e1, rfl⟩ := xb e
           exact xj (zcD k hB e1 ht hu hz hs' hx')
 · split at e
   · cases e; cases ha
     simp only [xM, builtin, Sem.run_pure]
   · cases e
 · split at e
   · cases e
   · rename_i t ht
     split at e
     · unfold zjR at e
       split at e
       · cases e
       · rename_i s x hsx
         obtain rfl := wM hsx
         obtain ⟨s', ys, rfl, hs', x', zs, rfl, hx', hr⟩ := ha
         cases hr
         obtain ⟨v, h', e1, rfl⟩ := xb e
         exact xj (zeN k e1 hs' hx' ht)
     · unfold zfP at e
       split at e
       · cases e
       · rename_i x hx
         obtain rfl := jT hx
         obtain ⟨x', ys, rfl, hx', hr⟩ := ha
         cases hr
         obtain ⟨h', e1, rfl⟩ := zaH e
         exact zbn (zdl k e1 hx' ht)
     · unfold ze0 at e
       split at e
       · cases e
       · rename_i s x hsx
         obtain rfl := wM hsx
         obtain ⟨s', ys, rfl, hs', x', zs, rfl, hx', hr⟩ := ha
         cases hr
         obtain ⟨h', e1, rfl⟩ := zaH e
         exact zbn (zci k e1 hs' hx' ht)
     · unfold zb5 at e
       split at e
       · cases e
       · rename_i el hel
         split at e
         · cases e
         · split at e
           · cases e
           · rename_i s x hsx
             obtain rfl := wM hsx
             obtain ⟨s', ys, rfl, hs', x', zs, rfl, hx', hr⟩ := ha
             cases hr
             obtain ⟨v, h', e1, rfl⟩ := xb e
             have hu : P.underlying t = some (.pointer el) := by
              unfold vm at hel
              split at hel
              · cases hel; assumption
              · cases hel
             exact xj (jG k e1 ht hu hs' hx')
     · cases e
theorem za8 (k : HRel P B R h w) (hB : B.n ≤ w.heap.size) {b : Builtin} {ats : Array TypeId} {ty : TypeId} {cs : Array Bool} {args : List AV} {args' : List Value} {r : AR} (e : yD P h b ats args = some r) (ha : zm R args args') :
 xM P B R w (builtin b ats ty cs args'.toArray) r := by
 unfold yD at e
 split at e
 · obtain ⟨v, e1, rfl⟩ := zK e
   exact zbg k e1 ha
 · exact za6 k hB e ha
theorem xC (f : Operand → Value) (a : Array Operand) : a.map f = (a.toList.map f).toArray := by rw [← Array.toList_map, Array.toArray_toList]
theorem zb1 (k : HRel P B R h w) (hB : B.n ≤ w.heap.size) {ρ : Operand → Option AV} {ρ' : Operand → Value} (hρ : ∀ x v, ρ x = some v → zl R v (ρ' x)) {c : Call} {ty : TypeId} {r : AR} (e : x8 P ρ h c = some r) :
 xM P B R w (do let d ← resolve ρ' c ty; invoke d.target d.args) r := by
 unfold x8 at e
 split at e
 · cases e
 · rename_i args ha
   have ha := jZ hρ ha
   split at e
   · rename_i b hc
     refine (za8 (ty := ty) (cs := c.args.map fun | .const _ => true | _ => false) k hB e ha).congr ?_
     simp only [resolve, hc, Sem.run_bind, Sem.run_pure, Result.andThen_ok, invoke, xC ρ']
     rfl
   · rename_i x name hc
     split at e
     · cases e
     · rename_i v hv
       refine (xJ k hB e (hρ _ _ hv) ha).congr ?_
       simp only [resolve, hc, Sem.run_bind, Sem.run_pure, Result.andThen_ok, invoke, xC ρ']
       simp
       rw [List.take_of_length_le (by simp)]
   · rename_i f hc
     split at e
     · cases e
     · rename_i v hv
       refine (zaB k hB e (hρ _ _ hv) ha).congr ?_
       simp only [resolve, hc, xC ρ']
theorem zbf (k : HRel P B R h w) (hB : B.n ≤ w.heap.size) {src dst : TypeId} {x v : AV} {x' : Value} {h' : AHeap} (e : zcq P h src dst x = some (v, h')) (hx : zl R x x') : zcY P B R w (convert src dst x') v h' := by
 unfold zcq at e
 split at e
 · rename_i hs
   split at e
   · rename_i el hd
     unfold zfx at e
     split at e
     · rename_i s
       split at e
       · rename_i hc
         obtain ⟨hb, hone⟩ := hc
         cases e
         cases hx
         have hfree := k.fresh h.next (Nat.le_refl _)
         have hsz : (⟨s.toArray⟩ : ByteArray).size = s.length := by simp [ByteArray.size]
         have hrun := run_bytes_of_string (P := P) w src dst el ⟨s.toArray⟩ hs hd (kc hb)
         have hge := grownCap_ge w (⟨s.toArray⟩ : ByteArray).size 0 el
         generalize hcap : grownCap w (⟨s.toArray⟩ : ByteArray).size 0 el = cap at hrun hge
         have hrow : (bytesRow ⟨s.toArray⟩ cap).size = cap := by simp [bytesRow]; omega
         have hbl : (zw s).length = s.length := by simp [zw]
         rw [hsz] at hge
         have hn := k.new hB (.cells (zA .leaf 0 (zw s)) (zw s).length el 0 0 1 0 true .leaf)
          (.cells (bytesRow ⟨s.toArray⟩ cap) el ((bytesRow ⟨s.toArray⟩ cap).size, (bytesRow ⟨s.toArray⟩ cap).size + 1)) ⟨w.heap.size, 0, cap⟩ (w' := w.drew.alloc (.cells (bytesRow ⟨s.toArray⟩ cap) el ((bytesRow ⟨s.toArray⟩ cap).size, (bytesRow ⟨s.toArray⟩ cap).size + 1))) rfl rfl rfl rfl rfl ?_
         · refine ⟨_, _, _, hrun, ?_, hn.1, hn.2⟩
           rw [hsz]
           exact zfc R hge
         · refine ⟨Nat.le_refl _, by omega, fun r hr' => ?_, fun r e h1 h2 h3 => ?_, fun r e h1 h2 h3 => ?_⟩
           rotate_left 2
           · obtain rfl : r = 0 := by omega
             simp [zJ] at h3; omega
           · rw [R.upd_other _ (by omega)]; exact hfree r
           · obtain rfl : r = 0 := by omega
             simp [zJ] at h3; subst h3
             refine ⟨_, R.upd_same _ _ _, bytesRow ⟨s.toArray⟩ cap, (bytesRow ⟨s.toArray⟩ cap).size, (bytesRow ⟨s.toArray⟩ cap).size + 1, ?_, by rw [hrow, hbl]; omega, ?_, ⟨⟨Nat.le_succ _, fun h => by cases h⟩, fun j a b => Or.inr ⟨rfl, by omega⟩⟩, fun j x a _ c => ?_⟩
             · show (w.heap.push _)[w.heap.size]? = _; simp
             · rw [hone, hrow]; exact ⟨(by show cap * 1 = cap + 0; omega), Nat.dvd_zero _⟩
             · rw [zr] at c
               simp only [Nat.zero_le, true_and, Nat.zero_add, Nat.sub_zero] at c ⊢
               rw [if_pos a] at c
               have hj : j < s.length := by omega
               simp only [zw, List.getElem?_map, List.getElem?_eq_getElem hj, Option.map_some, Option.some.injEq] at c
               subst c
               refine ⟨.int .u8 (s[j].toNat), ?_, rfl⟩
               rw [bytesRow, Array.getElem?_append, if_pos (by simpa using hj)]
               simp [hj]
       · cases e
     · cases e
   · cases e
 · cases e
theorem zc5 {ρ : Operand → Option AV} {ρ' : Operand → Value} (hρ : ∀ x v, ρ x = some v → zl R v (ρ' x)) {c : Call} {ty : TypeId} {r : AR} (e : js ρ c = some r) :
 xM P B R w (do pure (.defer (← resolve ρ' c ty))) r := by
 unfold js at e
 split at e
 · cases e
 · rename_i args ha
   have ha := jZ hρ ha
   split at e
   · rename_i f hc
     split at e
     · rename_i f fs cap hv
       cases e
       obtain ⟨hn, a, b, hf, h1, h2⟩ := hρ _ _ hv
       refine ⟨{ target := .fn f b.toArray, args := a.toArray ++ (c.args.toList.map ρ').toArray }, ?_, ⟨hn, b, rfl, h2⟩, ?_⟩
       · simp only [resolve, hc, hf, Deferred.ofValue, Sem.run_bind, Sem.run_pure, Result.andThen_ok, xC ρ']
       · simpa using h1.append ha
     · cases e
   · rename_i x name hc
     split at e
     · cases e
     · rename_i v hv
       cases e
       refine ⟨{ target := .fn (.method name) #[], args := #[ρ' x] ++ (c.args.toList.map ρ').toArray }, ?_, ⟨by simp, [], rfl, rfl⟩, ?_⟩
       · simp only [resolve, hc, Sem.run_bind, Sem.run_pure, Result.andThen_ok, xC ρ']
       · simpa using zm.cons (hρ _ _ hv) ha
   · cases e
end
end Go.Proofs.YtdbfpjgnlfejmaaDoor.Ev
end
section
namespace Go.Proofs.YtdbfpjgnlfejmaaDoor.Ev
open Go
section
variable {P : Program} {B : Base} {R : Bij} {h : AHeap} {w : World}
theorem zby (k : HRel P B R h w) {v : AV} {v' : Value} (hv : zl R v v') : xM P B R w (pure (.value v')) (.val v h) := ⟨R, v', w, by simp, hv, k, Keeps.refl _ _⟩
theorem zaP {ρ : Operand → Option AV} {ρ' : Operand → Value} (hρ : ∀ x v, ρ x = some v → zl R v (ρ' x)) {o : Option Operand} {l : Option Int} (e : qF ρ o = some l) : zg1 R l (o.map ρ') := by
 unfold qF at e
 split at e
 · cases e; rfl
 · split at e
   · rename_i hx
     cases e
     exact ⟨_, by rw [Option.map_some, hρ _ _ hx]⟩
   · cases e
theorem kS {ρ : Operand → Option AV} {ρ' : Operand → Value} (hρ : ∀ x v, ρ x = some v → zl R v (ρ' x)) {l : List (Nat × Operand)} {r : List (Nat × AV)} (e : vV ρ l = some r) :
 xU (zm3 R) r (l.map fun p => (p.1, ρ' p.2)) := by
 obtain ⟨e1, e2⟩ := wd e
 refine .of_get (by simp [e1]) fun i x hx => ?_
 have hi : i < l.length := by
  have := (List.getElem?_eq_some_iff.1 hx).1
  omega
 obtain ⟨b, hb, hf⟩ := e2 i l[i] (List.getElem?_eq_getElem hi)
 rw [hx] at hb; cases hb
 refine ⟨(l[i].1, ρ' l[i].2), by rw [List.getElem?_map, List.getElem?_eq_getElem hi]; rfl, ?_⟩
 split at hf
 · cases hf
 · rename_i v hv
   cases hf
   exact ⟨rfl, hρ _ _ hv⟩
theorem qT (ρ' : Operand → Value) (a : Array (Nat × Operand)) : (a.map fun (i, x) => (i, ρ' x)).toList = a.toList.map fun p => (p.1, ρ' p.2) := by
 rw [Array.toList_map]
theorem zjn (k : HRel P B R h w) (hB : B.n ≤ w.heap.size) {ρ : Operand → Option AV} {ρ' : Operand → Value} (hρ : ∀ x v, ρ x = some v → zl R v (ρ' x)) {o : Oper} {r : AR} (e : opA P ρ h o.op = some r) :
 xM P B R w (execOp ρ' o) r := by
 unfold execOp
 cases hop : o.op with
 | move x =>
  rw [hop] at e; change zin P x ρ h = some r at e
  obtain ⟨v, e1, rfl⟩ := zK e
  exact zby k (hρ _ _ e1)
 | assign x =>
  rw [hop] at e; change zc6 P x ρ h = some r at e
  obtain ⟨v, e1, rfl⟩ := zK e
  exact zby k (hρ _ _ e1)
 | pick c a b =>
  rw [hop] at e; change zan P c a b ρ h = some r at e
  obtain ⟨v, e1, rfl⟩ := zK e
  unfold zlw at e1
  split at e1
  · rename_i t hc
    have hc : ρ' c = .bool t := hρ _ _ hc
    refine ⟨R, if t then ρ' a else ρ' b, w, by simp only [hc, asBool, Sem.run_bind, Sem.run_pure, Result.andThen_ok], ?_, k, Keeps.refl _ _⟩
    cases t
    · exact hρ _ _ e1
    · exact hρ _ _ e1
  · cases e1
 | alloc t =>
  rw [hop] at e; change yC P t ρ h = some r at e
  unfold yC zaE at e
  split at e
  · cases e
  · rename_i z hz
    obtain ⟨v, h', e1, rfl⟩ := xb e
    obtain ⟨inf, zv, hi, hzv, hzr⟩ := zV R hz
    obtain ⟨R', a', w', g1, g2, g3, g4⟩ := zbD k hB e1 hzr
    exact xj ⟨R', .pointer (some a'), w', by simp [Instr.alloc, zx w hi hzv, g1], g2, g3, g4⟩
 | box t x =>
  rw [hop] at e; change zbo P t x ρ h = some r at e
  obtain ⟨a, ha, e⟩ := zu e
  obtain ⟨v, h', e1, rfl⟩ := xb e
  obtain ⟨R', a', w', g1, g2, g3, g4⟩ := zbD k hB e1 (hρ _ _ ha)
  exact xj ⟨R', .pointer (some a'), w', by simp [Instr.box, g1], g2, g3, g4⟩
 | build t parts =>
  rw [hop] at e; change zcH P t parts ρ h = some r at e
  unfold zcH vQ at e
  split at e
  · cases e
  · rename_i l hl
    obtain ⟨v, e1, rfl⟩ := zK e
    refine zE k (zdr w e1 ?_)
    rw [qT]; exact kS hρ hl
 | buildSlice t n parts =>
  rw [hop] at e; change zX P t n parts ρ h = some r at e
  unfold zX xF at e
  split at e
  · cases e
  · rename_i l hl
    obtain ⟨v, h', e1, rfl⟩ := xb e
    refine xj (kO k hB e1 ?_)
    rw [qT]; exact kS hρ hl
 | insert t m key x =>
  rw [hop] at e; change qq P t m key x ρ h = some r at e
  unfold qq qh at e
  split at e
  · cases e
  · rename_i a ha
    split at e
    · cases e
    · rename_i b hb
      split at e
      · cases e
      · rename_i c hc
        obtain ⟨h', e1, rfl⟩ := wi e
        exact wW (v8 k e1 (hρ _ _ ha) (hρ _ _ hb) (hρ _ _ hc))
 | load t a =>
  rw [hop] at e; change jl P t a ρ h = some r at e
  obtain ⟨p, hp, e⟩ := zu e
  obtain ⟨v, e1, rfl⟩ := zK e
  exact zE k (qJ k e1 (hρ _ _ hp))
 | store t a x =>
  rw [hop] at e; change jW P t a x ρ h = some r at e
  obtain ⟨p, v, hp, hv, e⟩ := xr e
  obtain ⟨h', e1, rfl⟩ := wi e
  exact wW (zdm k e1 (hρ _ _ hp) (hρ _ _ hv))
 | ready g => rw [hop] at e; change (none : Option AR) = some r at e; cases e
 | waits g => rw [hop] at e; change (none : Option AR) = some r at e; cases e
 | nilCheck x =>
  rw [hop] at e; change j9 P x ρ h = some r at e
  obtain ⟨a, ha, e⟩ := zu e
  obtain ⟨v, e1, rfl⟩ := zK e
  have ha := hρ _ _ ha
  unfold zd6 at e1
  split at e1
  · cases e1
    obtain ⟨L, hL, hm, hx⟩ := ha
    refine ⟨R, ρ' x, w, ?_, ⟨L, hL, hm, hx⟩, k, Keeps.refl _ _⟩
    simp only [hx, Sem.run_pure]
  · cases e1
    refine ⟨R, ρ' x, w, ?_, ha, k, Keeps.refl _ _⟩
    simp only [show ρ' x = .pointer (some ⟨_, _, none⟩) from ha, Sem.run_pure]
  · split at e1
    · cases e1
      obtain ⟨hn, fs, cs, hx, h1, h2⟩ := ha
      refine ⟨R, ρ' x, w, ?_, ⟨hn, fs, cs, hx, h1, h2⟩, k, Keeps.refl _ _⟩
      simp only [hx, Sem.run_pure]
    · cases e1
  · cases e1
    obtain ⟨y, hx, h1⟩ := ha
    refine ⟨R, ρ' x, w, ?_, ⟨y, hx, h1⟩, k, Keeps.refl _ _⟩
    simp only [hx, Sem.run_pure]
  · cases e1
    obtain ⟨L, hL, hx⟩ := ha
    refine ⟨R, ρ' x, w, ?_, ⟨L, hL, hx⟩, k, Keeps.refl _ _⟩
    simp only [hx, Sem.run_pure]
  · cases e1
 | binOp op t x y u =>
  rw [hop] at e; change wU P op t x y u ρ h = some r at e
  obtain ⟨a, b, ha, hb, e⟩ := xr e
  obtain ⟨v, e1, rfl⟩ := zK e
  exact zE k (zgZ k e1 (hρ _ _ ha) (hρ _ _ hb))
 | unOp op t x =>
  rw [hop] at e; change zjh P op t x ρ h = some r at e
  obtain ⟨a, ha, e⟩ := zu e
  obtain ⟨v, e1, rfl⟩ := zK e
  exact zE k (ziE w e1 (hρ _ _ ha))
 | convert s d x =>
  rw [hop] at e; change zbu P s d x ρ h = some r at e
  obtain ⟨a, ha, e⟩ := zu e
  unfold zfl at e
  split at e
  · obtain ⟨v, h', e1, rfl⟩ := xb e
    exact xj (zbf k hB e1 (hρ _ _ ha))
  · obtain ⟨v, e1, rfl⟩ := zK e
    exact zE k (ze2 k e1 (hρ _ _ ha))
 | sliceToArrayPointer t x => rw [hop] at e; change (none : Option AR) = some r at e; cases e
 | makeInterface t x =>
  rw [hop] at e; change qX P t x ρ h = some r at e
  obtain ⟨a, ha, e⟩ := zu e
  obtain ⟨v, e1, rfl⟩ := zK e
  exact zE k (zbe w e1 (hρ _ _ ha))
 | makeFunc f first cap =>
  rw [hop] at e; change yO P f first cap ρ h = some r at e
  obtain ⟨v, e1, rfl⟩ := zK e
  unfold zeJ at e1
  split at e1
  · cases e1
  · rename_i hy
    split at e1
    · cases e1
    · rename_i fs hfs
      split at e1
      · cases e1
      · rename_i cs hcs
        cases e1
        refine zE k ⟨.func f (first.map ρ') (cap.map ρ'), by simp only [Instr.makeFunc, Sem.run_pure], fun l hl => hy l hl, _, _, ?_, jZ hρ hfs, jZ hρ hcs⟩
        rw [xC ρ', xC ρ']
 | makeMap t r' =>
  rw [hop] at e; change yH P t r' ρ h = some r at e
  unfold yH zdI at e
  obtain ⟨R', g1, g2, g3⟩ := zdO k hB
  split at e
  · cases e
    exact xj ⟨R', _, _, by simp [Instr.makeMap], g1, g2, g3⟩
  · rename_i x
    split at e
    · rename_i kk n hx
      split at e
      · cases e
      · rename_i kt hm
        cases e
        obtain ⟨kt, el⟩ := kt
        have hu := yX hm
        have hx : ρ' x = .int kk n := hρ _ _ hx
        exact xj ⟨R', _, _, by simp [Instr.makeMap, hx, za w hu, asInt, asIntOf], g1, g2, g3⟩
    · cases e
 | makeChan t s => rw [hop] at e; change (none : Option AR) = some r at e; cases e
 | makeSlice t l c =>
  rw [hop] at e; change xn P t l c ρ h = some r at e
  obtain ⟨a, b, ha, hb, e⟩ := xr e
  obtain ⟨v, h', e1, rfl⟩ := xb e
  exact xj (jE k hB e1 (hρ _ _ ha) (hρ _ _ hb))
 | slice t x lo hi mx =>
  rw [hop] at e; change qR P t x lo hi mx ρ h = some r at e
  obtain ⟨v, e1, rfl⟩ := zK e
  unfold vF at e1
  split at e1
  · cases e1
  · rename_i a ha
    split at e1
    · cases e1
    · rename_i l hl
      split at e1
      · cases e1
      · rename_i hh hhi
        split at e1
        · cases e1
        · rename_i m hm
          exact zE k (zd1 k e1 (hρ _ _ ha) (zaP hρ hl) (zaP hρ hhi) (zaP hρ hm))
 | fieldAddr s x f =>
  rw [hop] at e; change jt P s x f ρ h = some r at e
  obtain ⟨a, ha, e⟩ := zu e
  obtain ⟨v, e1, rfl⟩ := zK e
  exact zE k (jB w e1 (hρ _ _ ha))
 | field t x f =>
  rw [hop] at e; change zfp P t x f ρ h = some r at e
  obtain ⟨a, ha, e⟩ := zu e
  obtain ⟨v, e1, rfl⟩ := zK e
  exact zE k (zdM w e1 (hρ _ _ ha))
 | indexAddr t x ix =>
  rw [hop] at e; change qf P t x ix ρ h = some r at e
  obtain ⟨a, b, ha, hb, e⟩ := xr e
  obtain ⟨v, e1, rfl⟩ := zK e
  exact zE k (jL w e1 (hρ _ _ ha) (hρ _ _ hb))
 | index t x ix =>
  rw [hop] at e; change jO P t x ix ρ h = some r at e
  obtain ⟨a, b, ha, hb, e⟩ := xr e
  obtain ⟨v, e1, rfl⟩ := zK e
  exact zE k (zc7 w e1 (hρ _ _ ha) (hρ _ _ hb))
 | lookup t m key ok =>
  rw [hop] at e; change zdc P t m key ok ρ h = some r at e
  obtain ⟨a, b, ha, hb, e⟩ := xr e
  obtain ⟨v, e1, rfl⟩ := zK e
  exact zE k (zb2 k e1 (hρ _ _ ha) (hρ _ _ hb))
 | mapUpdate t m key x =>
  rw [hop] at e; change x6 P t m key x ρ h = some r at e
  unfold x6 qh at e
  split at e
  · cases e
  · rename_i a ha
    split at e
    · cases e
    · rename_i b hb
      split at e
      · cases e
      · rename_i c hc
        obtain ⟨h', e1, rfl⟩ := wi e
        exact wW (v8 k e1 (hρ _ _ ha) (hρ _ _ hb) (hρ _ _ hc))
 | mapEntry t m key =>
  rw [hop] at e; change zaa P t m key ρ h = some r at e
  obtain ⟨a, b, ha, hb, e⟩ := xr e
  obtain ⟨v, h', e1, rfl⟩ := xb e
  exact xj (zaw k e1 (hρ _ _ ha) (hρ _ _ hb))
 | entryStore t m s x =>
  rw [hop] at e; change xL P t m s x ρ h = some r at e
  unfold xL wA at e
  split at e
  · cases e
  · rename_i a ha
    split at e
    · cases e
    · rename_i b hb
      split at e
      · cases e
      · rename_i c hc
        obtain ⟨h', e1, rfl⟩ := wi e
        exact wW (kP k e1 (hρ _ _ ha) (hρ _ _ hb) (hρ _ _ hc))
 | range t x =>
  rw [hop] at e; change zfw P t x ρ h = some r at e
  obtain ⟨a, ha, e⟩ := zu e
  exact zef k hB e (hρ _ _ ha)
 | next it s =>
  rw [hop] at e; change ziz P it s ρ h = some r at e
  obtain ⟨a, ha, e⟩ := zu e
  exact zfn k e (hρ _ _ ha)
 | entry it => rw [hop] at e; change (none : Option AR) = some r at e; cases e
 | typeAssert x u t ok =>
  rw [hop] at e; change vT P x u t ok ρ h = some r at e
  obtain ⟨a, ha, e⟩ := zu e
  obtain ⟨v, e1, rfl⟩ := zK e
  exact zE k (zcy w e1 (hρ _ _ ha))
 | extract x i =>
  rw [hop] at e; change qm P x i ρ h = some r at e
  obtain ⟨v, e1, rfl⟩ := zK e
  unfold zfE at e1
  split at e1
  · rename_i vs hx
    obtain ⟨vs', hv, hr⟩ := hρ _ _ hx
    obtain ⟨y, hy, hyr⟩ := hr.get i v e1
    refine zE k ⟨y, ?_, hyr⟩
    simp [Instr.extract, hv, hy]
  · cases e1
 | call c =>
  rw [hop] at e; change zcO P c ρ h = some r at e
  exact zb1 k hB hρ e
 | go c => rw [hop] at e; change (none : Option AR) = some r at e; cases e
 | «defer» c =>
  rw [hop] at e; change zfQ P c ρ h = some r at e
  exact zc5 hρ e
 | panic x =>
  rw [hop] at e; change zfJ P x ρ h = some r at e
  obtain ⟨a, ha, e⟩ := zu e
  unfold zik at e
  split at e
  · cases e
    obtain ⟨y, hx, hy⟩ := hρ _ _ ha
    refine ⟨.iface _ y, ?_, y, rfl, hy⟩
    simp only [Instr.panic, hx, goPanic, Sem.run_bind, Sem.run]
    rfl
  · cases e
 | send a b => rw [hop] at e; change (none : Option AR) = some r at e; cases e
 | recv a b c => rw [hop] at e; change (none : Option AR) = some r at e; cases e
 | select a b => rw [hop] at e; change (none : Option AR) = some r at e; cases e
end
end Go.Proofs.YtdbfpjgnlfejmaaDoor.Ev
end
