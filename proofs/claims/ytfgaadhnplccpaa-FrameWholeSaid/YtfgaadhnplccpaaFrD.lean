/- A cutter's Feed: what it tells, and what it keeps. -/
import Derived.Test.YtfgaadhnplccpaaFrC
set_option maxRecDepth 100000
namespace Go.Proofs.Ytfgaadhnplccpaa.frm
open Go Ev

/-- What a cutter has left, as a slice of the row. -/
inductive LV (b : Nat → Int) (m : Nat) (L : List UInt8) : Bool → AV → Prop where
  | bad : L = [] → LV b m L true (.nils 0 0)
  | grown (n : Nat) : L.length = n + 1 → m = n + 1 → Holds b 0 L → LV b m L false (.slg 2 0 0 (n + 1) 0)
  | rest (o n : Nat) : L.length = n → o + n ≤ m → Holds b o L → LV b m L false (.slc 2 0 o n n)

noncomputable def HK (G : T (T AV)) (bad : Bool) (w : AV) (b : Nat → Int) (m : Nat) : List (List UInt8) → AHeap
  | [] => HK0 w bad b m G
  | x :: r => HK1 w bad b m (x :: r).length (rowF (x :: r)) G

noncomputable def MR (G : T (T AV)) (b : Nat → Int) (o n m : Nat) : List (List UInt8) → AM
  | [] => MF0 (.slc 2 0 o n n) b m G
  | x :: r => MF1 (x :: r).length (rowF (x :: r)) (.slc 2 0 o n n) b m G

def LoopOk (G : T (T AV)) (b : Nat → Int) (m : Nat) (pre : List (List UInt8)) (c : Cut) (M : AM) : Prop :=
  ∃ w : AV, LV b m c.left c.bad w ∧ Goal P 3 8 (fun v h => v = lv 3 (pre ++ c.fs) ∧ h = HK G c.bad w b m (pre ++ c.fs)) M

theorem headN {b : Nat → Int} {o : Nat} {L : List UInt8} (hh : Holds b o L) (h2 : ¬ L.length < 2) :
    AV.int IntKind.i64 (IntKind.i64.wrap (↑(BitVec.ofInt (64) (IntKind.i64.wrap (IntKind.i64.wrap (b o) * (2 : Int) ^ min (Int.toNat (8 : Int)) IntKind.i64.bits)) ||| BitVec.ofInt (64) (IntKind.i64.wrap (b (o + 1)))).toNat : Int)) = AV.int IntKind.i64 (hdn L : Int) := by
  have e0 := hh 0 (by omega)
  have e1 := hh 1 (by omega)
  rw [Nat.add_zero] at e0
  rw [e0, e1, num_or _ _ (u8_lt _) (u8_lt _)]
  rfl

theorem loop_rest (G : T (T AV)) (d : Nat) : ∀ (L : List UInt8) (pre : List (List UInt8)) (b : Nat → Int) (o m : Nat), L.length < d → o + L.length ≤ m → Holds b o L → pre.length + L.length < 2 ^ 39 →
    LoopOk G b m pre (cut L) (MR G b o L.length m pre) := by
  induction d with
  | zero => exact fun L pre b o m h => absurd h (Nat.not_lt_zero _)
  | succ d ih =>
    intro L pre b o m hd hm hb hs
    by_cases h2 : L.length < 2
    · rw [cut_short h2]
      have hc : decide ((L.length : Int) < 2) = true := decide_eq_true (by omega)
      refine ⟨_, .rest o L.length rfl hm hb, ?_⟩
      rw [List.append_nil]
      cases pre with
      | nil => exact Obl.goal (K := fun _ => False) mix (fun _ h => h.elim) (cast (loCy G 0 b [] o L.length m 0 (rowF []) (rowF []) _ _).symm ⟨hc, plain_int b, rfl, rfl⟩)
      | cons x r => exact Obl.goal (K := fun _ => False) mix (fun _ h => h.elim) (cast (loDy G 0 b [] o L.length m _ _ (rowF []) _ _).symm ⟨hc, plain_int b, plain_str _, rfl, rfl⟩)
    have hc : decide ((L.length : Int) < 2) = false := decide_eq_false (by omega)
    have a2 : (0 : Int) ≤ 0 ∧ (0 : Int) < (L.length : Int) := by omega
    have a3 : o + 1 ≤ m := by omega
    have a4 : (0 : Int) ≤ 1 ∧ (1 : Int) < (L.length : Int) := by omega
    have a5 : o + 1 + 1 ≤ m := by omega
    have a6 := headN hb h2
    by_cases hx : hdn L < 1 ∨ 8192 < hdn L
    · rw [cut_bad h2 hx]
      refine ⟨_, .bad rfl, ?_⟩
      rw [List.append_nil]
      by_cases h1 : hdn L < 1
      · have c1 : decide ((hdn L : Int) < 1) = true := decide_eq_true (by omega)
        cases pre with
        | nil => exact Obl.goal (K := fun _ => False) mix (fun _ h => h.elim) (cast (loCny G (hdn L) b [] o L.length m 0 (rowF []) (rowF []) _ _).symm ⟨hc, a2, a3, a4, a5, a6, c1, plain_int b, rfl, rfl⟩)
        | cons x r => exact Obl.goal (K := fun _ => False) mix (fun _ h => h.elim) (cast (loDny G (hdn L) b [] o L.length m _ _ (rowF []) _ _).symm ⟨hc, a2, a3, a4, a5, a6, c1, plain_int b, plain_str _, rfl, rfl⟩)
      · have c1 : decide ((hdn L : Int) < 1) = false := decide_eq_false (by omega)
        have c2 : decide ((hdn L : Int) > 8192) = true := decide_eq_true (by omega)
        cases pre with
        | nil => exact Obl.goal (K := fun _ => False) mix (fun _ h => h.elim) (cast (loCnny G (hdn L) b [] o L.length m 0 (rowF []) (rowF []) _ _).symm ⟨hc, a2, a3, a4, a5, a6, c1, c2, plain_int b, rfl, rfl⟩)
        | cons x r => exact Obl.goal (K := fun _ => False) mix (fun _ h => h.elim) (cast (loDnny G (hdn L) b [] o L.length m _ _ (rowF []) _ _).symm ⟨hc, a2, a3, a4, a5, a6, c1, c2, plain_int b, plain_str _, rfl, rfl⟩)
    have c1 : decide ((hdn L : Int) < 1) = false := decide_eq_false (by omega)
    have c2 : decide ((hdn L : Int) > 8192) = false := decide_eq_false (by omega)
    have e3 : IntKind.i64.wrap ((2 : Int) + (hdn L : Int)) = ((2 + hdn L : Nat) : Int) := by rw [wi]; omega
    by_cases hl : L.length < 2 + hdn L
    · rw [cut_part h2 hx hl]
      refine ⟨_, .rest o L.length rfl hm hb, ?_⟩
      have c3 : (!decide ((L.length : Int) ≥ IntKind.i64.wrap ((2 : Int) + (hdn L : Int)))) = true := by rw [e3, decide_eq_false (by omega)]; rfl
      rw [List.append_nil]
      cases pre with
      | nil => exact Obl.goal (K := fun _ => False) mix (fun _ h => h.elim) (cast (loCnnny G (hdn L) b [] o L.length m 0 (rowF []) (rowF []) _ _).symm ⟨hc, a2, a3, a4, a5, a6, c1, c2, rfl, rfl, rfl, rfl, c3, plain_int b, rfl, rfl⟩)
      | cons x r => exact Obl.goal (K := fun _ => False) mix (fun _ h => h.elim) (cast (loDnnny G (hdn L) b [] o L.length m _ _ (rowF []) _ _).symm ⟨hc, a2, a3, a4, a5, a6, c1, c2, rfl, rfl, rfl, rfl, c3, plain_int b, plain_str _, rfl, rfl⟩)
    have c3 : (!decide ((L.length : Int) ≥ IntKind.i64.wrap ((2 : Int) + (hdn L : Int)))) = false := by rw [e3, decide_eq_true (by omega)]; rfl
    rw [cut_more h2 hx hl]
    have hlen : (L.drop (2 + hdn L)).length = L.length - 2 - hdn L := by rw [List.length_drop]; omega
    have hX : ((L.drop 2).take (hdn L)).length = hdn L := by rw [List.length_take, List.length_drop]; omega
    have hbX : Holds b (o + 2) ((L.drop 2).take (hdn L)) := fun j hj => by
      have := (hb.drop 2) j (by rw [List.length_drop]; omega)
      rw [this]
      congr 2
      rw [List.getD_eq_getElem?_getD, List.getD_eq_getElem?_getD, List.getElem?_take, if_pos (by omega)]
    have hby : cellsStr (loadList (T.fn fun j => some (AV.int IntKind.u8 (b j))) (o + 2) (hdn L)) = some (.str ((L.drop 2).take (hdn L))) := by
      have := row_bytes (c := T.fn fun j => some (AV.int IntKind.u8 (b j))) (off := o + 2) ((L.drop 2).take (hdn L)) fun k hk => by
        show some (AV.int IntKind.u8 (b (o + 2 + k))) = _
        rw [hbX k hk]
      rwa [hX] at this
    have l0 : (((L.length : Nat) : Int)).toNat = L.length := Int.toNat_natCast _
    have n0 : (((hdn L : Nat) : Int)).toNat = hdn L := Int.toNat_natCast _
    have l1 : (((L.length - 2 : Nat) : Int)).toNat = L.length - 2 := Int.toNat_natCast _
    have b14 : ((0 : Int) ≤ Int.ofNat 2 ∧ Int.ofNat 2 ≤ (L.length : Int)) ∧ (0 : Int) ≤ Int.ofNat 2 ∧ Int.ofNat 2 ≤ ((2 : Nat) : Int) := ⟨⟨by decide, by show (2 : Int) ≤ _; omega⟩, by decide, by decide⟩
    have b15 : (((0 : Int) ≤ (L.length : Int) ∧ (L.length : Int) ≤ (L.length : Int)) ∧ (0 : Int) ≤ (L.length : Int) ∧ (L.length : Int) ≤ (((L.length : Int).toNat : Nat) : Int)) ∧ (0 : Int) ≤ Int.ofNat 2 ∧ Int.ofNat 2 ≤ (((L.length : Int).toNat : Nat) : Int) := by
      rw [l0]; exact ⟨⟨by omega, by omega⟩, by decide, by show (2 : Int) ≤ _; omega⟩
    have b16 : ((0 : Int) ≤ (hdn L : Int) ∧ (hdn L : Int) ≤ (((L.length : Int).toNat - 2 : Nat) : Int)) ∧ (0 : Int) ≤ (hdn L : Int) ∧ (hdn L : Int) ≤ (((hdn L : Int).toNat : Nat) : Int) := by
      rw [l0, n0]; omega
    have b17 : (((0 : Int) ≤ (((L.length : Int).toNat - 2 : Nat) : Int) ∧ (((L.length : Int).toNat - 2 : Nat) : Int) ≤ (((L.length : Int).toNat - 2 : Nat) : Int)) ∧ (0 : Int) ≤ (((L.length : Int).toNat - 2 : Nat) : Int) ∧ (((L.length : Int).toNat - 2 : Nat) : Int) ≤ ((((((L.length : Int).toNat - 2 : Nat) : Int)).toNat : Nat) : Int)) ∧ (0 : Int) ≤ (hdn L : Int) ∧ (hdn L : Int) ≤ ((((((L.length : Int).toNat - 2 : Nat) : Int)).toNat : Nat) : Int) := by
      rw [l0, l1]; omega
    generalize ho' : (if L.length - 2 = hdn L then if L.length = 2 then o else o + 2 else (if L.length = 2 then o else o + 2) + hdn L * 1) = o'
    have ho1 : o' + (L.length - 2 - hdn L) ≤ m := by rw [← ho']; split <;> split <;> omega
    have ho2 : L.length - 2 - hdn L ≠ 0 → o' = o + (2 + hdn L) := fun h => by rw [← ho']; rw [if_neg (by omega), if_neg (by omega)]; omega
    have hb' : Holds b o' (L.drop (2 + hdn L)) := by
      by_cases hz : L.length - 2 - hdn L = 0
      · intro j hj; omega
      · rw [ho2 hz]; exact hb.drop _
    have hn := ih (L.drop (2 + hdn L)) (pre ++ [(L.drop 2).take (hdn L)]) b o' m (by omega) (by omega) hb' (by rw [List.length_append, hlen]; simp only [List.length_cons, List.length_nil]; omega)
    obtain ⟨w, f1, f3⟩ := hn
    refine ⟨w, f1, ?_⟩
    generalize (L.drop 2).take (hdn L) = X at hby f3 ⊢
    rw [hlen] at f3
    simp only [List.append_assoc, List.singleton_append] at f3
    cases pre with
    | nil =>
      refine Obl.goal (K := Goal P 3 8 _) mix (fun _ h => h) (cast (loCnnnn G (hdn L) b X o L.length m 0 (rowF []) (rowF [X]) _ _).symm ⟨hc, a2, a3, a4, a5, a6, c1, c2, rfl, rfl, rfl, rfl, c3, b14, b15, b16, b17, ?_, ?_, rfl, plain_int b, plain_str _, ?_⟩)
      · rw [n0, l0, if_neg (by omega), if_neg (by omega), Nat.sub_zero]
        exact ⟨by omega, hby⟩
      · exact tells_one _ rfl
      · rw [n0, l0, l1, ho']
        exact f3
    | cons x r =>
      refine Obl.goal (K := Goal P 3 8 _) mix (fun _ h => h) (cast (loDnnnn G (hdn L) b X o L.length m _ _ (rowF ((x :: r) ++ [X])) _ _).symm ⟨hc, a2, a3, a4, a5, a6, c1, c2, rfl, rfl, rfl, rfl, c3, b14, b15, b16, b17, ?_, ?_, ?_, ?_, plain_int b, plain_str _, ?_⟩)
      · rw [n0, l0, if_neg (by omega), if_neg (by omega), Nat.sub_zero]
        exact ⟨by omega, hby⟩
      · exact grow_ok _ rfl (by omega)
      · exact tells_grow _ _ (rowF_last _ _) (rowF_old _ _)
      · omega
      · rw [n0, l0, l1, ho']
        have hm' : MR G b o' (L.length - 2 - hdn L) m (x :: r ++ [X]) = MF1 ((x :: r).length + 1) (rowF (x :: r ++ [X])) (.slc 2 0 o' (L.length - 2 - hdn L) (L.length - 2 - hdn L)) b m G := by
          show MF1 (x :: r ++ [X]).length _ _ _ _ _ = _
          rw [List.length_append]; rfl
        rw [← hm']; exact f3

end Go.Proofs.Ytfgaadhnplccpaa.frm
