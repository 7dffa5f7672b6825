/- What the evaluator's operations say is what the model's do: slices, composites, numbers, equality. -/
import Derived.Test.YtcdpmiebmhjmpaaEvE
import Derived.Laws.Strings
namespace Go.Proofs.Ytcdpmiebmhjmpaa.Ev
open Go

section
variable {P : Program} {B : Base} {R : Bij} {h : AHeap} {w : World}

theorem strExtract (s : List UInt8) (l hh : Nat) : (ByteArray.mk s.toArray).extract l hh = ByteArray.mk ((s.drop l).take (hh - l)).toArray := by
  apply ByteArray.ext
  rw [ByteArray.data_extract]
  apply Array.ext'
  simp

theorem boundsA_zero {lo hi mx : Option Int} {l hh m : Nat} (h : boundsA 0 0 lo hi mx = some (l, hh, m)) : l = 0 ∧ hh = 0 ∧ m = 0 := by
  have hb : ∀ {v : Int} {y k : Nat}, boundA v y = some k → k ≤ y := by
    intro v y k e
    unfold boundA at e
    split at e
    · cases e; omega
    · cases e
  unfold boundsA at h
  split at h
  · cases h
  rename_i m' hm
  split at h
  · cases h
  rename_i h' hh'
  split at h
  · cases h
  rename_i l' hl
  cases h
  have a1 : m = 0 := by
    unfold boundsMx at hm
    split at hm
    · cases hm; rfl
    · have := hb hm; omega
  have a2 : hh = 0 := by
    unfold boundsHi at hh'
    split at hh'
    · split at hh'
      · cases hh'
      · cases hh'; rfl
    · have := hb hh'; omega
  have a3 : l = 0 := by
    unfold boundsLo at hl
    split at hl
    · cases hl; rfl
    · have := hb hl; omega
  exact ⟨a3, a2, a1⟩

theorem sliceA_sound {t : TypeId} {x v : AV} {x' : Value} {lo hi mx : Option Int} {lo' hi' mx' : Option Value} (w : World) (e : sliceA P t x lo hi mx = some v) (hx : VRel R x x')
    (h1 : ORel R lo lo') (h2 : ORel R hi hi') (h3 : ORel R mx mx') : ∃ v', (Instr.sliceAt t x' lo' hi' mx').run P w = .ok v' w ∧ VRel R v v' := by
  unfold sliceA at e
  split at e
  · cases e
  · rename_i u hu
    split at e
    · rename_i n el
      unfold sliceArr at e
      split at e
      · rename_i i r o
        obtain ⟨L, hL, hm, rfl⟩ := hx
        split at e
        · cases e
        · rename_i s hs
          obtain ⟨inf, hinf, rfl⟩ := sizeT_info hs
          unfold slcOf at e
          split at e
          · cases e
          · rename_i l hh m hb
            cases e
            have hb' := boundsA_sound (P := P) (isSl := false) w hb h1 h2 h3
            refine ⟨_, by simp [Instr.sliceAt, r_underlying w hu, Instr.sureAddr, hb', r_sizeOf w hinf]; rfl, L, hL, by split <;> omega, ?_⟩
            by_cases hml : m = l
            · simp [hml]
            · simp [hml, add_plain]; omega
      · cases e
    · unfold sliceStr at e
      split at e
      · rename_i s
        cases hx
        split at e
        · cases e
        · cases h3
          unfold strOf at e
          split at e
          · cases e
          · rename_i l hh m hb
            cases e
            have hb' := boundsA_sound (P := P) (isSl := false) w hb h1 h2 rfl
            refine ⟨.string ((ByteArray.mk s.toArray).extract l hh), ?_, ?_⟩
            · have hz : (ByteArray.mk s.toArray).size = s.length := by simp [ByteArray.size]
              simp [Instr.sliceAt, Instr.slice, r_underlying w hu, hz, hb']
            · simp only [VRel]; rw [strExtract]
      · cases e
    · rename_i el
      unfold sliceSl at e
      split at e
      · cases e
      · rename_i s hs
        obtain ⟨inf, hinf, rfl⟩ := sizeT_info hs
        split at e
        · rename_i len cap
          cases hx
          unfold nilsOf at e
          split at e
          · cases e
          · rename_i l hh m hb
            cases e
            have hb' := boundsA_sound (P := P) (isSl := true) w hb h1 h2 h3
            refine ⟨.slice none (hh - l) (m - l), ?_, rfl⟩
            simp [Instr.sliceAt, Instr.slice, r_underlying w hu, hb', r_sizeOf w hinf]
        · rename_i i r o len cap
          obtain ⟨L, hL, hm, rfl⟩ := hx
          unfold slcOf at e
          split at e
          · cases e
          · rename_i l hh m hb
            cases e
            have hb' := boundsA_sound (P := P) (isSl := true) w hb h1 h2 h3
            refine ⟨_, by simp [Instr.sliceAt, Instr.slice, r_underlying w hu, hb', r_sizeOf w hinf]; rfl, L, hL, by split <;> omega, ?_⟩
            by_cases hml : m = l
            · simp [hml]
            · simp [hml, add_plain]; omega
        · rename_i i r o len st
          obtain ⟨L, a, hL, hm, hk, rfl, ha⟩ := hx
          unfold slgOf at e
          split at e
          · rename_i mxv
            obtain ⟨k3, rfl⟩ := h3
            split at e
            · cases e
            · rename_i n0
              unfold slcOf at e
              split at e
              · cases e
              · rename_i l hh m hb
                cases e
                have hb'' : boundsA (n0 + 1) (L.kap - st) lo hi (some mxv) = some (l, hh, m) := by
                  unfold boundsA at hb ⊢
                  simp only [boundsMx] at hb ⊢
                  have : boundA mxv (L.kap - st) = boundA mxv (n0 + 1) ∨ boundA mxv (n0 + 1) = none := by
                    unfold boundA
                    by_cases hc : 0 ≤ mxv ∧ mxv ≤ ((n0 + 1 : Nat) : Int)
                    · left; rw [if_pos hc, if_pos ⟨hc.1, by omega⟩]
                    · right; rw [if_neg hc]
                  rcases this with e1 | e1
                  · rw [e1]; exact hb
                  · rw [e1] at hb; simp at hb
                have hb' := boundsA_sound (P := P) (isSl := true) w hb'' h1 h2 ⟨k3, rfl⟩
                obtain rfl := ha (by omega)
                refine ⟨_, by simp [Instr.sliceAt, Instr.slice, r_underlying w hu, hb', r_sizeOf w hinf]; rfl, L, hL, by split <;> omega, ?_⟩
                by_cases hml : m = l
                · simp [hml]
                · simp [hml, add_plain]; omega
          · cases h3
            split at e
            · cases e
            · rename_i l hh m hb
              cases e
              have hcap := boundsA_cap (c' := L.kap - st) (by omega) hb
              have hb' := boundsA_sound (P := P) (isSl := true) w hcap h1 h2 rfl
              obtain ⟨g1, g2, g3, g4⟩ := boundsA_le hb
              have hm' := g3 rfl
              refine ⟨.slice (some (if L.kap - st = l then a else a.add (l * inf.size))) (hh - l) (L.kap - st - l), ?_, L, (if L.kap - st = l then a else a.add (l * inf.size)), hL, by omega, by omega, ?_, ?_⟩
              · simp only [Instr.sliceAt, Instr.slice, r_underlying w hu, hb', r_sizeOf w hinf, Sem.run_bind, Result.andThen_ok, Sem.run_pure, Option.map_some]
                by_cases hml : L.kap - st = l
                · simp [hml]
                · simp [hml]
              · rw [Nat.sub_sub]
              · intro hlt
                rw [if_neg (by omega)]
                obtain rfl := ha (by omega)
                rw [add_plain]
                congr 1
                omega
        · obtain ⟨a, rfl⟩ := hx
          split at e
          · cases e
          · rename_i b hb
            obtain ⟨l, hh, m⟩ := b
            cases e
            have hb' := boundsA_sound (P := P) (isSl := true) w hb h1 h2 h3
            obtain ⟨rfl, rfl, rfl⟩ := boundsA_zero hb
            refine ⟨_, by simp [Instr.sliceAt, Instr.slice, r_underlying w hu, hb', r_sizeOf w hinf]; rfl, _, rfl⟩
        · cases e
    · cases e

theorem roomOf_le (k : HRel P B R h w) {i r off len st : Nat} {el : TypeId} {inf : TypeInfo} {L : Loc} (hi : P.info? el = some inf) (hL : R i r = some L) (hk : st + len ≤ L.kap) : st + roomOf h el inf.size i r off len st ≤ L.kap ∧ len ≤ roomOf h el inf.size i r off len st := by
  unfold roomOf
  split
  · rename_i c n el' lo hi' nv fz sg ex ho
    split
    · rename_i e he
      split
      · rename_i hc
        obtain ⟨c1, c2, rfl, c4, c5, c6⟩ := hc
        obtain ⟨L', hL', cs, f0, f1, g1, g2, g3, g4, g5⟩ := k.ver hL ho c1 c2 he
        rw [hL] at hL'; cases hL'
        rw [cellsOf_info hi] at g3
        have h1 : e / inf.size ≤ L.kap := by
          refine Nat.le_of_mul_le_mul_right ?_ c5
          rw [g3.1]
          exact Nat.le_trans (Nat.div_mul_le_self _ _) g2
        omega
      · omega
    · omega
  · omega

theorem sliceX_sound (k : HRel P B R h w) {t : TypeId} {x v : AV} {x' : Value} {lo hi mx : Option Int} {lo' hi' mx' : Option Value} (e : sliceX P h t x lo hi mx = some v) (hx : VRel R x x')
    (h1 : ORel R lo lo') (h2 : ORel R hi hi') (h3 : ORel R mx mx') : ∃ v', (Instr.sliceAt t x' lo' hi' mx').run P w = .ok v' w ∧ VRel R v v' := by
  unfold sliceX at e
  split at e
  · cases e
  · cases h3
    split at e
    · rename_i el hu
      split at e
      · cases e
      · rename_i s hs
        obtain ⟨inf, hinf, rfl⟩ := sizeT_info hs
        unfold sliceRoom at e
        split at e
        · rename_i i r o len st
          obtain ⟨L, a, hL, hm, hk, rfl, ha⟩ := hx
          obtain ⟨q1, q2⟩ := roomOf_le (el := el) (off := o) k hinf hL hk
          unfold slgOf at e
          simp only at e
          split at e
          · cases e
          · rename_i l hh m hb
            cases e
            have hcap := boundsA_cap (c' := L.kap - st) (by omega) hb
            have hb' := boundsA_sound (P := P) (isSl := true) w hcap h1 h2 rfl
            obtain ⟨g1, g2, g3, g4⟩ := boundsA_le hb
            have hm' := g3 rfl
            refine ⟨.slice (some (if L.kap - st = l then a else a.add (l * inf.size))) (hh - l) (L.kap - st - l), ?_, L, (if L.kap - st = l then a else a.add (l * inf.size)), hL, by omega, by omega, ?_, ?_⟩
            · simp only [Instr.sliceAt, Instr.slice, r_underlying w hu, hb', r_sizeOf w hinf, Sem.run_bind, Result.andThen_ok, Sem.run_pure, Option.map_some]
              by_cases hml : L.kap - st = l
              · simp [hml]
              · simp [hml]
            · rw [Nat.sub_sub]
            · intro hlt
              rw [if_neg (by omega)]
              obtain rfl := ha (by omega)
              rw [add_plain]
              congr 1
              omega
        · cases e
    · cases e

theorem sliceH_sound (k : HRel P B R h w) {t : TypeId} {x v : AV} {x' : Value} {lo hi mx : Option Int} {lo' hi' mx' : Option Value} (e : sliceH P h t x lo hi mx = some v) (hx : VRel R x x')
    (h1 : ORel R lo lo') (h2 : ORel R hi hi') (h3 : ORel R mx mx') : ∃ v', (Instr.sliceAt t x' lo' hi' mx').run P w = .ok v' w ∧ VRel R v v' := by
  unfold sliceH at e
  split at e
  · rename_i hs
    cases e
    exact sliceA_sound w hs hx h1 h2 h3
  · exact sliceX_sound k e hx h1 h2 h3

/-! ## Composites -/

theorem foldl_updL : ∀ (vs : List Value) (cs : Array Value) (off k : Nat), off + k + vs.length ≤ cs.size →
    (vs.zipIdx k).foldl (fun cs (x : Value × Nat) => cs.setIfInBounds (off + x.2) x.1) cs = updL cs (off + k) vs
  | [], _, _, _, _ => rfl
  | v :: r, cs, off, k, h => by
    simp only [List.length_cons] at h
    simp only [List.zipIdx_cons, List.foldl_cons, updL]
    rw [foldl_updL r _ off (k + 1) (by simp; omega)]
    rfl

theorem spliceA_get (cells : List AV) (off : Nat) (vs : List AV) (h : off + vs.length ≤ cells.length) (k : Nat) :
    (spliceA cells off vs)[k]? = if off ≤ k ∧ k < off + vs.length then vs[k - off]? else cells[k]? := by
  unfold spliceA
  rw [List.append_assoc, List.getElem?_append]
  have h1 : (cells.take off).length = off := by simp; omega
  rw [h1]
  by_cases a : k < off
  · rw [if_pos a, if_neg (by omega), List.getElem?_take, if_pos a]
  · rw [if_neg a, List.getElem?_append]
    by_cases b : k - off < vs.length
    · rw [if_pos b, if_pos (by omega)]
    · rw [if_neg b, if_neg (by omega), List.getElem?_drop]
      congr 1; omega

theorem spliceA_length (cells : List AV) (off : Nat) (vs : List AV) (h : off + vs.length ≤ cells.length) : (spliceA cells off vs).length = cells.length := by
  unfold spliceA; simp; omega

def PRel (R : Bij) (a : Nat × AV) (b : Nat × Value) : Prop := a.1 = b.1 ∧ VRel R a.2 b.2

theorem fillA_sound {place place' : Nat → Option (Nat × Nat)} (hp : ∀ i r, place i = some r → place' i = some r) : ∀ {parts : List (Nat × AV)} {parts' : List (Nat × Value)} {cells r : List AV} {cells' : Array Value},
    fillA place cells parts = some r → All2 (PRel R) parts parts' → VRels R cells cells'.toList → ∃ r', Instr.fill place' cells' parts' = some r' ∧ VRels R r r'.toList ∧ r.length = cells.length
  | [], _, cells, r, cells', e, hl, hc => by cases hl; simp [fillA] at e; subst e; exact ⟨cells', rfl, hc, rfl⟩
  | (i, v) :: rest, parts', cells, r, cells', e, hl, hc => by
    obtain ⟨⟨i', v'⟩, ps, rfl, ⟨rfl, hv⟩, hrest⟩ := hl
    simp only [fillA] at e
    split at e
    · cases e
    · rename_i off size hpl
      split at e
      · rename_i hcond
        have hvc := hv.cells
        have hsz : cells'.size = cells.length := by have := hc.length; simpa using this
        have hvs : v'.cells.size = v.cells.length := by have := hvc.length; simpa using this
        have hupd : v'.cells.zipIdx.foldl (fun cs (x : Value × Nat) => cs.setIfInBounds (off + x.2) x.1) cells' = updL cells' off v'.cells.toList := by
          rw [← Array.foldl_toList, Array.toList_zipIdx, foldl_updL _ _ off 0 (by simp; omega)]; rfl
        have hr2 : VRels R (spliceA cells off v.cells) (updL cells' off v'.cells.toList).toList := by
          refine .of_get (by simp [updL_size, spliceA_length _ _ _ (by omega : off + v.cells.length ≤ cells.length), hsz]) fun k x ek => ?_
          rw [spliceA_get _ _ _ (by omega)] at ek
          rw [Array.getElem?_toList, updL_get _ _ _ _ (by simp; omega)]
          have hlen : v'.cells.toList.length = v.cells.length := hvc.length
          rw [hlen]
          split at ek
          · rename_i hk; rw [if_pos hk]; exact hvc.get _ x ek
          · rename_i hk; rw [if_neg hk]; obtain ⟨y, hy, hyr⟩ := hc.get k x ek; exact ⟨y, by simpa using hy, hyr⟩
        obtain ⟨r', e1, e2, e3⟩ := fillA_sound hp e hrest hr2
        refine ⟨r', ?_, e2, by rw [e3, spliceA_length _ _ _ (by omega)]⟩
        simp only [Instr.fill, hp _ _ hpl]
        rw [if_neg (by simp; omega)]
        rw [← e1]
        congr 1
      · cases e

theorem fieldPlaces_sound (w : World) : ∀ {fs : List Field} {l : List (Nat × Nat)}, fieldPlaces P fs = some l →
    (fs.mapM fun f => Prod.mk f.offset <$> sizeOf f.type : Sem (List (Nat × Nat))).run P w = .ok l w
  | [], l, e => by simp [fieldPlaces] at e; subst e; simp
  | f :: r, l, e => by
    simp only [fieldPlaces] at e
    split at e
    · cases e
    · rename_i i hi
      split at e
      · cases e
      · rename_i l' hl
        cases e
        simp only [List.mapM_cons, Sem.run_bind, Sem.run_map, r_sizeOf w hi, Result.andThen_ok, fieldPlaces_sound w hl, Sem.run_pure]

theorem buildA_sound {t : TypeId} {parts : List (Nat × AV)} {parts' : Array (Nat × Value)} {v : AV} (w : World) (e : buildA P t parts = some v) (hp : All2 (PRel R) parts parts'.toList) :
    ∃ v', (Instr.build t parts').run P w = .ok v' w ∧ VRel R v v' := by
  unfold buildA at e
  split at e
  · cases e
  · rename_i z hz
    obtain ⟨inf, zv, hi, hzv, hzr⟩ := zeroA_sound R hz
    split at e
    · rename_i fs hu
      split at e
      · cases e
      · rename_i pl hpl
        cases hf : fillA (fun i => pl[i]?) z.cells parts with
        | none => simp [hf] at e
        | some r =>
          simp [hf] at e; subst e
          have hm : (fs.mapM fun f => Prod.mk f.offset <$> sizeOf f.type : Sem (Array (Nat × Nat))).run P w = .ok pl.toArray w := by
            rw [Array.mapM_eq_mapM_toList]
            simp only [Sem.run_map, fieldPlaces_sound w hpl, Result.andThen_ok]
          obtain ⟨r', e1, e2, _⟩ := fillA_sound (place' := fun i => pl[i]?) (fun i r h => h) hf hp hzr.cells
          refine ⟨.agg r', ?_, r'.toList, by simp, e2⟩
          simp [Instr.build, r_zeroValue w hi hzv, r_underlying w hu, hm, e1]
    · rename_i n el hu
      split at e
      · cases e
      · rename_i inf2 hi2
        cases hf : fillA (fun k => some (k * inf2.size, inf2.size)) z.cells parts with
        | none => simp [hf] at e
        | some r =>
          simp [hf] at e; subst e
          obtain ⟨r', e1, e2, _⟩ := fillA_sound (place' := fun i => some (i * inf2.size, inf2.size)) (fun i r h => h) hf hp hzr.cells
          refine ⟨.agg r', ?_, r'.toList, by simp, e2⟩
          simp [Instr.build, r_zeroValue w hi hzv, r_underlying w hu, r_sizeOf w hi2, e1]
    · cases e

/-! ## Numbers and strings -/

theorem intBin_sound {op : BinOp} {k k' : IntKind} {a b : Int} {v : AV} {t : TypeId} (w : World) (e : intBin op k a b = some v) (hk : k = k' ∨ isShift op = true) :
    ∃ v', (binOp op t (.int k a) (.int k' b)).run P w = .ok v' w ∧ VRel R v v' := by
  cases op <;> simp only [intBin, bin_add, bin_sub, bin_mul, bin_eql, bin_neq, bin_lss, bin_leq, bin_gtr, bin_geq, wrapA, quoA, remA, andA, orA, xorA, andNotA, bitsA, shlA, shrA, boolA'] at e
  case shl => split at e <;> cases e; rename_i hb; exact ⟨_, by simp [binOp, Op.shift, hb], rfl⟩
  case shr => split at e <;> cases e; rename_i hb; exact ⟨_, by simp [binOp, Op.shift, hb], rfl⟩
  all_goals (simp [isShift] at hk; subst hk)
  case quo => split at e <;> cases e; rename_i hb; exact ⟨_, by simp [binOp, Op.intDiv, hb], rfl⟩
  case rem => split at e <;> cases e; rename_i hb; exact ⟨_, by simp [binOp, Op.intDiv, hb], rfl⟩
  all_goals (cases e; exact ⟨_, by simp [binOp, Op.intArith, Op.intBits, Op.intCmp], rfl⟩)

theorem bytes_toList (s : List UInt8) : (ByteArray.mk s.toArray).toList = s := by
  simp [ByteArray.toList_eq]


theorem strBin_sound {op : BinOp} {a b : List UInt8} {v : AV} {t : TypeId} (w : World) (e : strBin op a b = some v) :
    ∃ v', (binOp op t (.string ⟨a.toArray⟩) (.string ⟨b.toArray⟩)).run P w = .ok v' w ∧ VRel R v v' := by
  cases op <;> simp only [strBin, catA, boolA'] at e
  case add =>
    split at e
    · rename_i hl
      cases e
      refine ⟨.string (⟨a.toArray⟩ ++ ⟨b.toArray⟩), ?_, ?_⟩
      · have hz : ∀ s : List UInt8, (ByteArray.mk s.toArray).size = s.length := fun s => by simp [ByteArray.size]
        have hmax : ¬ (((a.length + b.length : Nat) : Int) > IntKind.i64.max) := by
          have : IntKind.i64.max = 9223372036854775807 := by decide
          rw [this]; omega
        simp only [binOp, Op.stringOp, hz, hmax, if_false, Sem.run_pure]
      · simp only [VRel]
        congr 1
    · cases e
  all_goals first
    | (cases e; exact ⟨_, by simp [binOp, Op.stringOp], rfl⟩)
    | (cases e)

/-! ## Equality -/

theorem eqFieldsA_sound {eq : TypeId → AV → AV → Option Bool} {eq' : TypeId → Value → Value → Sem Bool} (w : World)
    (hq : ∀ t x y x' y' b, eq t x y = some b → VRel R x x' → VRel R y y' → (eq' t x' y').run P w = .ok b w)
    {xs ys : List AV} {xs' ys' : List Value} (hx : VRels R xs xs') (hy : VRels R ys ys') : ∀ {fs : List Field} {b : Bool}, eqFieldsA P eq xs ys fs = some b →
    ∃ c, (forIn fs ((none : Option Bool), ()) fun f _r => do
        if f.name ≠ "_" then
          if !(← eq' f.type (← part f.type xs'.toArray f.offset) (← part f.type ys'.toArray f.offset)) then pure (.done (some false, ())) else pure (.yield (none, ()))
        else pure (.yield (none, ())) : Sem (Option Bool × Unit)).run P w = .ok c w ∧ c.fst = (if b then none else some false)
  | [], b, e => by
    simp [eqFieldsA] at e; subst e
    exact ⟨(none, ()), by simp, rfl⟩
  | f :: r, b, e => by
    simp only [eqFieldsA] at e
    split at e
    · rename_i hn
      split at e
      · rename_i u v hu hv
        obtain ⟨u', eu, ru⟩ := partA_sound w hu hx
        obtain ⟨v', ev', rv⟩ := partA_sound w hv hy
        split at e
        · rename_i hb
          obtain ⟨c, e1, e2⟩ := eqFieldsA_sound w hq hx hy e
          refine ⟨c, ?_, e2⟩
          simp only [List.forIn_cons, Sem.run_bind, eu, ev', hq _ _ _ _ _ _ hb ru rv, Result.andThen_ok, hn, ne_eq, not_false_eq_true, if_true, Bool.not_true, Bool.false_eq_true, if_false, Sem.run_pure]
          exact e1
        · rename_i hb
          cases e
          refine ⟨(some false, ()), ?_, rfl⟩
          simp only [List.forIn_cons, Sem.run_bind, eu, ev', hq _ _ _ _ _ _ hb ru rv, Result.andThen_ok, hn, ne_eq, not_false_eq_true, if_true, Bool.not_false, Sem.run_pure]
        · cases e
      · cases e
    · rename_i hn
      obtain ⟨c, e1, e2⟩ := eqFieldsA_sound w hq hx hy e
      refine ⟨c, ?_, e2⟩
      simp only [List.forIn_cons, Sem.run_bind, hn, if_false, Sem.run_pure, Result.andThen_ok]
      exact e1

/-- A block of which no cell is frozen. -/
theorem HRel.plain (k : HRel P B R h w) {i r : Nat} {L : Loc} (hL : R i r = some L) (hv : verOk h i r = true) (hp : plainFz h i = true) :
    ∃ (cs : Array Value) (el : TypeId), (∃ fz, w.heap[L.block]? = some (.cells cs el fz)) ∧ ∀ j, w.frozen? ⟨L.block, j, none⟩ = false := by
  unfold verOk at hv
  unfold plainFz at hp
  split at hv
  · rename_i c n el lo hi nv fz sg ex ho
    rw [ho] at hp
    simp only [Bool.and_eq_true, beq_iff_eq, Bool.not_eq_true'] at hp hv
    split at hv
    · rename_i e he
      simp only [Bool.and_eq_true, decide_eq_true_eq] at hv
      obtain ⟨L', hL', cs, a, b, f1, _, _, f4, _⟩ := k.ver hL ho hv.1 hv.2 he
      rw [hL] at hL'; cases hL'
      refine ⟨cs, el, ⟨(a, b), f1⟩, fun j => ?_⟩
      rw [frozen?_row w _ _ f1]
      simp only [Bool.and_eq_false_iff, decide_eq_false_iff_not]
      by_cases hc : a ≤ j
      · right
        intro hj
        rcases f4.2 j hc hj with h | h
        · omega
        · rw [hp.2] at h; cases h.1
      · left; exact hc
    · cases hv
  · cases hv

theorem HRel.plainRo (k : HRel P B R h w) {i : Nat} (e : plainFz h i = true) : ¬ B.ro i := by
  unfold plainFz at e
  split at e
  · rename_i ho; exact k.notRo ho rfl
  · cases e

theorem samePtrA_sound (k : HRel P B R h w) {i r o i' r' o' : Nat} {b : Bool} {L L' : Loc} (e : samePtrA h i r o i' r' o' = some b)
    (h1 : R i r = some L) (h2 : R i' r' = some L') (m1 : L.minus ≤ o) (m2 : L'.minus ≤ o') :
    (sameAddr ⟨L.block, o - L.minus, none⟩ ⟨L'.block, o' - L'.minus, none⟩).run P w = .ok b w := by
  unfold samePtrA at e
  split at e
  · rename_i hi
    subst hi
    split at e
    · rename_i hr
      obtain ⟨rfl, hv⟩ := hr
      rw [h1] at h2; cases h2
      cases e
      simp only [sameAddr, beq_self_eq_true, if_true]
      have : ((⟨L.block, o - L.minus, none⟩ : Addr) == ⟨L.block, o' - L.minus, none⟩) = (o == o') := by
        rw [Bool.eq_iff_iff]; simp; omega
      simp [this]
    · cases e
  · rename_i hi
    split at e
    · rename_i hc
      cases e
      simp only [Bool.and_eq_true] at hc
      obtain ⟨⟨⟨v1, v2⟩, p1⟩, p2⟩ := hc
      have hb : L.block ≠ L'.block := fun hb => hi (k.apart _ _ _ _ _ _ h1 h2 hb (.inl (k.plainRo p1)))
      obtain ⟨cs, el, ⟨z1, f1⟩, g1⟩ := k.plain h1 v1 p1
      obtain ⟨cs', el', ⟨z2, f2⟩, g2⟩ := k.plain h2 v2 p2
      have s1 : w.shape? L.block = some (el, cs.size) := by simp [World.shape?, f1]
      have s2 : w.shape? L'.block = some (el', cs'.size) := by simp [World.shape?, f2]
      have hne : (L.block == L'.block) = false := by simpa using hb
      simp [sameAddr, hne, g1, noView, viewAt, mayBeOne, stringish, s1, s2, g2]
    · cases e

end

end Go.Proofs.Ytcdpmiebmhjmpaa.Ev
