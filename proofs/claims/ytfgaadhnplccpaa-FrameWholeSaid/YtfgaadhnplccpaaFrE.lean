/- A cutter's Feed, whatever is left ahead. -/
import Derived.Test.YtfgaadhnplccpaaFrD
set_option maxRecDepth 100000
namespace Go.Proofs.Ytfgaadhnplccpaa.frm
open Go Ev

theorem loop_grown (G : T (T AV)) (L : List UInt8) (b : Nat → Int) (n : Nat) (hn1 : L.length = n + 1) (hb : Holds b 0 L) (hs : L.length < 2 ^ 39) :
    LoopOk G b (n + 1) [] (cut L) (MF0 (.slg 2 0 0 (n + 1) 0) b (n + 1) G) := by
  have en : ((n + 1 : Nat) : Int) = (L.length : Int) := by rw [hn1]
  by_cases h2 : L.length < 2
  · rw [cut_short h2]
    have hc : decide (((n + 1 : Nat) : Int) < 2) = true := decide_eq_true (by omega)
    refine ⟨_, .grown n hn1 rfl hb, ?_⟩
    exact Obl.goal (K := fun _ => False) mix (fun _ h => h.elim) (cast (loBy G 0 b [] 0 n (n + 1) 0 (rowF []) (rowF []) _ _).symm ⟨hc, plain_int b, rfl, rfl⟩)
  have hc : decide (((n + 1 : Nat) : Int) < 2) = false := decide_eq_false (by omega)
  have a2 : (0 : Int) ≤ 0 ∧ (0 : Int) < ((n + 1 : Nat) : Int) := by omega
  have a3 : 1 ≤ n + 1 := by omega
  have a4 : (0 : Int) ≤ 1 ∧ (1 : Int) < ((n + 1 : Nat) : Int) := by omega
  have a5 : 2 ≤ n + 1 := by omega
  have a6 := headN hb h2
  by_cases hx : hdn L < 1 ∨ 8192 < hdn L
  · rw [cut_bad h2 hx]
    refine ⟨_, .bad rfl, ?_⟩
    by_cases h1 : hdn L < 1
    · have c1 : decide ((hdn L : Int) < 1) = true := decide_eq_true (by omega)
      exact Obl.goal (K := fun _ => False) mix (fun _ h => h.elim) (cast (loBny G (hdn L) b [] 0 n (n + 1) 0 (rowF []) (rowF []) _ _).symm ⟨hc, a2, a3, a4, a5, a6, c1, plain_int b, rfl, rfl⟩)
    · have c1 : decide ((hdn L : Int) < 1) = false := decide_eq_false (by omega)
      have c2 : decide ((hdn L : Int) > 8192) = true := decide_eq_true (by omega)
      exact Obl.goal (K := fun _ => False) mix (fun _ h => h.elim) (cast (loBnny G (hdn L) b [] 0 n (n + 1) 0 (rowF []) (rowF []) _ _).symm ⟨hc, a2, a3, a4, a5, a6, c1, c2, plain_int b, rfl, rfl⟩)
  have c1 : decide ((hdn L : Int) < 1) = false := decide_eq_false (by omega)
  have c2 : decide ((hdn L : Int) > 8192) = false := decide_eq_false (by omega)
  have e3 : IntKind.i64.wrap ((2 : Int) + (hdn L : Int)) = ((2 + hdn L : Nat) : Int) := by rw [wi]; omega
  by_cases hl : L.length < 2 + hdn L
  · rw [cut_part h2 hx hl]
    refine ⟨_, .grown n hn1 rfl hb, ?_⟩
    have c3 : (!decide (((n + 1 : Nat) : Int) ≥ IntKind.i64.wrap ((2 : Int) + (hdn L : Int)))) = true := by rw [e3, decide_eq_false (by omega)]; rfl
    exact Obl.goal (K := fun _ => False) mix (fun _ h => h.elim) (cast (loBnnny G (hdn L) b [] 0 n (n + 1) 0 (rowF []) (rowF []) _ _).symm ⟨hc, a2, a3, a4, a5, a6, c1, c2, rfl, rfl, rfl, rfl, c3, plain_int b, rfl, rfl⟩)
  have c3 : (!decide (((n + 1 : Nat) : Int) ≥ IntKind.i64.wrap ((2 : Int) + (hdn L : Int)))) = false := by rw [e3, decide_eq_true (by omega)]; rfl
  rw [cut_more h2 hx hl]
  have hlen : (L.drop (2 + hdn L)).length = n + 1 - 2 - hdn L := by rw [List.length_drop]; omega
  have hX : ((L.drop 2).take (hdn L)).length = hdn L := by rw [List.length_take, List.length_drop]; omega
  have hbX : Holds b 2 ((L.drop 2).take (hdn L)) := fun j hj => by
    have := (hb.drop 2) j (by rw [List.length_drop]; omega)
    rw [Nat.zero_add] at this
    rw [this]
    congr 2
    rw [List.getD_eq_getElem?_getD, List.getD_eq_getElem?_getD, List.getElem?_take, if_pos (by omega)]
  have hby : cellsStr (loadList (T.fn fun j => some (AV.int IntKind.u8 (b j))) 2 (hdn L)) = some (.str ((L.drop 2).take (hdn L))) := by
    have := row_bytes (c := T.fn fun j => some (AV.int IntKind.u8 (b j))) (off := 2) ((L.drop 2).take (hdn L)) fun k hk => by
      show some (AV.int IntKind.u8 (b (2 + k))) = _
      rw [hbX k hk]
    rwa [hX] at this
  have l0 : (((n + 1 : Nat) : Int)).toNat = n + 1 := Int.toNat_natCast _
  have n0 : (((hdn L : Nat) : Int)).toNat = hdn L := Int.toNat_natCast _
  have l1 : (((n + 1 - 2 : Nat) : Int)).toNat = n + 1 - 2 := Int.toNat_natCast _
  have b14 : ((0 : Int) ≤ Int.ofNat 2 ∧ Int.ofNat 2 ≤ ((n + 1 : Nat) : Int)) ∧ (0 : Int) ≤ Int.ofNat 2 ∧ Int.ofNat 2 ≤ ((2 : Nat) : Int) := ⟨⟨by decide, by show (2 : Int) ≤ _; omega⟩, by decide, by decide⟩
  have b15 : (((0 : Int) ≤ ((n + 1 : Nat) : Int) ∧ ((n + 1 : Nat) : Int) ≤ ((n + 1 : Nat) : Int)) ∧ (0 : Int) ≤ ((n + 1 : Nat) : Int) ∧ ((n + 1 : Nat) : Int) ≤ (((((n + 1 : Nat) : Int)).toNat : Nat) : Int)) ∧ (0 : Int) ≤ Int.ofNat 2 ∧ Int.ofNat 2 ≤ (((((n + 1 : Nat) : Int)).toNat : Nat) : Int) := by
    rw [l0]; exact ⟨⟨by omega, by omega⟩, by decide, by show (2 : Int) ≤ _; omega⟩
  have b16 : ((0 : Int) ≤ (hdn L : Int) ∧ (hdn L : Int) ≤ (((((n + 1 : Nat) : Int)).toNat - 2 : Nat) : Int)) ∧ (0 : Int) ≤ (hdn L : Int) ∧ (hdn L : Int) ≤ (((hdn L : Int).toNat : Nat) : Int) := by
    rw [l0, n0]; omega
  have b17 : (((0 : Int) ≤ (((((n + 1 : Nat) : Int)).toNat - 2 : Nat) : Int) ∧ (((((n + 1 : Nat) : Int)).toNat - 2 : Nat) : Int) ≤ (((((n + 1 : Nat) : Int)).toNat - 2 : Nat) : Int)) ∧ (0 : Int) ≤ (((((n + 1 : Nat) : Int)).toNat - 2 : Nat) : Int) ∧ (((((n + 1 : Nat) : Int)).toNat - 2 : Nat) : Int) ≤ ((((((((n + 1 : Nat) : Int)).toNat - 2 : Nat) : Int)).toNat : Nat) : Int)) ∧ (0 : Int) ≤ (hdn L : Int) ∧ (hdn L : Int) ≤ ((((((((n + 1 : Nat) : Int)).toNat - 2 : Nat) : Int)).toNat : Nat) : Int) := by
    rw [l0, l1]; omega
  generalize ho' : (if n + 1 - 2 = hdn L then if n + 1 = 2 then 0 else 2 else (if n + 1 = 2 then 0 else 2) + hdn L * 1) = o'
  have ho1 : o' + (n + 1 - 2 - hdn L) ≤ n + 1 := by rw [← ho']; split <;> split <;> omega
  have ho2 : n + 1 - 2 - hdn L ≠ 0 → o' = 2 + hdn L := fun h => by rw [← ho']; rw [if_neg (by omega), if_neg (by omega)]; omega
  have hb' : Holds b o' (L.drop (2 + hdn L)) := by
    by_cases hz : n + 1 - 2 - hdn L = 0
    · intro j hj; omega
    · rw [ho2 hz]
      have := hb.drop (2 + hdn L)
      rwa [Nat.zero_add] at this
  have hn := loop_rest G _ (L.drop (2 + hdn L)) [(L.drop 2).take (hdn L)] b o' (n + 1) (Nat.lt_succ_self _) (by omega) hb' (by rw [hlen]; simp only [List.length_cons, List.length_nil]; omega)
  obtain ⟨w, f1, f3⟩ := hn
  refine ⟨w, f1, ?_⟩
  generalize (L.drop 2).take (hdn L) = X at hby f3 ⊢
  rw [hlen] at f3
  simp only [List.singleton_append] at f3
  refine Obl.goal (K := Goal P 3 8 _) mix (fun _ h => h) (cast (loBnnnn G (hdn L) b X 0 n (n + 1) 0 (rowF []) (rowF [X]) _ _).symm ⟨hc, a2, a3, a4, a5, a6, c1, c2, rfl, rfl, rfl, rfl, c3, b14, b15, b16, b17, ?_, ?_, rfl, plain_int b, plain_str _, ?_⟩)
  · rw [n0, l0, if_neg (by omega), if_neg (by omega), Nat.sub_zero]
    exact ⟨by omega, hby⟩
  · exact tells_one _ rfl
  · rw [n0, l0, l1, ho']
    exact f3

/-! ## Where Feed begins -/

theorem room1 {n : Nat} (h : n < 2 ^ 40) : roomA n 1 = true := by
  unfold roomA
  rw [Bool.and_eq_true]
  exact ⟨Nat.ble_eq_true_of_le (by omega), Nat.ble_eq_true_of_le (by omega)⟩

theorem tells_int {b : Nat → Int} {n : Nat} {t : T AV} (h : ∀ k, k < n → t.get k = some (.int .u8 (b k))) : Tells n (.fn fun j => some (.int .u8 (b j))) t := fun k v hk e => by
  rw [h k hk]; exact e

/-- Bytes as numbers. -/
def nb (L : List UInt8) (j : Nat) : Int := ((L.getD j 0).toNat : Int)

theorem holds_nb (L : List UInt8) : Holds (nb L) 0 L := fun j _ => by rw [Nat.zero_add]; rfl

theorem nb_left (L s : List UInt8) {j : Nat} (h : j < L.length) : nb (L ++ s) j = nb L j := by
  unfold nb
  rw [List.getD_eq_getElem?_getD, List.getD_eq_getElem?_getD, List.getElem?_append_left h]
theorem nb_right (L s : List UInt8) {j : Nat} (h : L.length ≤ j) : nb (L ++ s) j = nb s (j - L.length) := by
  unfold nb
  rw [List.getD_eq_getElem?_getD, List.getD_eq_getElem?_getD, List.getElem?_append_right h]

end Go.Proofs.Ytfgaadhnplccpaa.frm
