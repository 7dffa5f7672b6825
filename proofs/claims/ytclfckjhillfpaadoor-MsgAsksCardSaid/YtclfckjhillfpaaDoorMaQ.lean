/- A text of a request, made longer by zeros. -/
import Derived.Test.YtclfckjhillfpaaDoorMaG
import Derived.Test.YtclfckjhillfpaaDoorEvSc
import Derived.IntWalk
set_option maxRecDepth 100000
set_option linter.unusedVariables false
namespace Go.Proofs.YtclfckjhillfpaaDoor.mq
open Go Ev

noncomputable abbrev PQ : Program := Tryd.prog

def mn (most : Int) (s : List UInt8) : Int := if decide (most < (↑s.length : Int)) = true then most else (↑s.length : Int)
def mm (most n : Int) (s : List UInt8) : Int := if decide (IntKind.i64.wrap (most - (↑s.length : Int)) < IntKind.i64.wrap n) = true then IntKind.i64.wrap (most - (↑s.length : Int)) else IntKind.i64.wrap n
def slOp : Op := Op.slice (9 : Nat) (Operand.tmp (7 : Nat)) none (some (Operand.tmp (11 : Nat))) none
def slRho (s : List UInt8) (a : Int) : Operand → Option AV := fun o => match o with
  | .tmp 7 => some (.str s)
  | .tmp 11 => some (.int .i64 a)
  | _ => none

theorem rq (R : AV → AHeap → Prop) (s : List UInt8) (n most : Int) (k z : Nat) (G : T (T AV)) (c : T AV) (_K : AM → Prop) :
    Obl PQ 10 (fun v h => R v h) 0 _K [.run 11, .op, .run 8, .slot 20 (.int .i64 (↑k : Int)), .res (.val (.slc 0 0 0 k k) ⟨.node .leaf (some (.cells c z 5 0 0 1 0 false .leaf)) .leaf, 1, G⟩), .bytes (List.replicate k 0), .op, .run 3, .done] ((startM PQ 10 [.str s, .int .u16 n, .int .i64 most] G)) =
    (((0 : Int) ≤ mn most s ∧ mn most s ≤ (↑s.length : Int)) ∧ (AV.int IntKind.i64 (if decide (mm most n s > (0 : Int)) = true then mm most n s else (0 : Int)) = AV.int IntKind.i64 (↑k : Int)) ∧
      (valH (makeSliceA PQ { objs := T.leaf, next := 0, glob := G } (33 : Nat) (AV.int IntKind.i64 (↑k : Int)) (AV.int IntKind.i64 (↑k : Int))) = some (AR.val (AV.slc (0) (0) (0) k k) { objs := T.leaf.node (some (AObj.cells c z (5) (0) (0) (1) (0) false T.leaf)) T.leaf, next := 1, glob := G })) ∧
      (some (AV.int IntKind.i64 (if decide (mm most n s > (0 : Int)) = true then mm most n s else (0 : Int))) = some (AV.int IntKind.i64 (↑k : Int))) ∧ (some (AV.int IntKind.i64 (mm most n s)) = some (AV.int IntKind.i64 (mm most n s))) ∧
      (some (AV.int IntKind.i64 (IntKind.i64.wrap (most - (↑s.length : Int)))) = some (AV.int IntKind.i64 (IntKind.i64.wrap (most - (↑s.length : Int))))) ∧ (some (AV.int IntKind.i64 (↑s.length : Int)) = some (AV.int IntKind.i64 (↑s.length : Int))) ∧ (some (AV.int IntKind.i64 (IntKind.i64.wrap n)) = some (AV.int IntKind.i64 (IntKind.i64.wrap n))) ∧
      (readA PQ (slRho s (mn most s)) { objs := T.leaf.node (some (AObj.cells c z (5) (0) (0) (1) (0) false T.leaf)) T.leaf, next := 1, glob := G } slOp = some (AV.str (List.take ((mn most s).toNat - (0 : Nat)) (List.drop (0 : Nat) s)))) ∧
      (some (AV.int IntKind.i64 (mn most s)) = some (AV.int IntKind.i64 (mn most s))) ∧ (some (AV.int IntKind.i64 (↑s.length : Int)) = some (AV.int IntKind.i64 (↑s.length : Int))) ∧ (0 + k ≤ z ∧ cellsStr (loadList c (0) k) = some (AV.str (List.replicate k (0 : UInt8)))) ∧
      ((List.take ((mn most s).toNat - (0 : Nat)) (List.drop (0 : Nat) s)).length + (List.replicate k (0 : UInt8)).length < 1099511627776) ∧ (R (.str (List.take ((mn most s).toNat - (0 : Nat)) (List.drop (0 : Nat) s) ++ List.replicate k (0 : UInt8))) (⟨(.node .leaf (some (.cells c z 5 0 0 1 0 false .leaf)) .leaf), 1, G⟩))) := by kernel_rfl

theorem bytes_cells : ∀ u : List UInt8, bytesA (byteCells u) = some u
  | [] => rfl
  | b :: r => by
    have ih := bytes_cells r
    unfold bytesA at ih ⊢
    rw [show byteCells (b :: r) = .int .u8 b.toNat :: byteCells r from rfl, mapO_cons, ih, show byteA (.int .u8 b.toNat) = some b from by show some (UInt8.ofNat (b.toNat : Int).toNat) = _; rw [Int.toNat_natCast, UInt8.ofNat_toNat]]

theorem cells_len (u : List UInt8) : (byteCells u).length = u.length := by simp [byteCells]

/-- A row that tells these bytes. -/
theorem row_bytes {c : T AV} {off : Nat} (u : List UInt8) (h : ∀ k, k < u.length → c.get (off + k) = some (.int .u8 ((u.getD k 0).toNat : Int))) : cellsStr (loadList c off u.length) = some (.str u) := by
  have hone : ∀ k, k < u.length → (byteCells u)[k]? = some (.int .u8 ((u.getD k 0).toNat : Int)) := fun k hk => by simp [byteCells, hk]
  obtain ⟨l, h1, _, h3, h4⟩ := loadList_some (c := c) (off := off) (n := u.length) fun k hk => ⟨_, h k hk, rfl⟩
  rw [h1]
  have : l = byteCells u := by
    apply List.ext_getElem?
    intro k
    by_cases hk : k < u.length
    · rw [hone k hk]
      exact h4 k _ hk (h k hk)
    · rw [List.getElem?_eq_none (by omega), List.getElem?_eq_none (by rw [cells_len]; omega)]
  rw [this]
  show strAV (bytesA (byteCells u)) = _
  rw [bytes_cells]
  rfl


theorem row_str {c : T AV} {u : List UInt8} {n : Nat} (hn : n = u.length) (h : ∀ k, k < u.length → c.get k = some (.int .u8 ((u.getD k 0).toNat : Int))) : cellsStr (loadList c 0 n) = some (.str u) := by
  subst hn
  exact row_bytes u (fun k hk => by rw [Nat.zero_add]; exact h k hk)


theorem mk_eq (h : AHeap) (l c : Int) : makeSliceA PQ h 33 (.int .i64 l) (.int .i64 c) = if 0 ≤ l ∧ l ≤ c ∧ c < 2 ^ 40 ∧ ((1 : Nat) : Int) * c ≤ 2 ^ 48 ∧ [AV.int .u8 0].length = 1 ∧ 0 < 1 ∧ [AV.int .u8 0].all AV.one = true then
        some (.slc h.next 0 0 l.toNat c.toNat, newCells h 5 (repeatL [AV.int .u8 0] c.toNat) false)
      else none := by kernel_rfl

theorem zr_get (k j : Nat) (h : j < k) : (storeList (T.leaf : T AV) 0 (repeatL [.int .u8 0] k)).get j = some (.int .u8 0) := by
  rw [storeList_get, repeatL_length, if_pos (by simp; omega), Nat.sub_zero]
  exact repeatL_get1 _ k j h

theorem zr_str (k : Nat) : cellsStr (loadList (storeList (T.leaf : T AV) 0 (repeatL [.int .u8 0] k)) 0 k) = some (.str (List.replicate k 0)) :=
  row_str (by simp) fun j hj => by
    have hj : j < k := by simpa using hj
    rw [zr_get k j hj, List.getD_eq_getElem?_getD, List.getElem?_replicate, if_pos hj]
    rfl

theorem sl_eq (s : List UInt8) (a : Int) (H : AHeap) : readA PQ (slRho s a) H slOp = match valE H (sliceH PQ H 9 (.str s) none (some a) none) with
    | some (.val v _) => some v
    | _ => none := by kernel_rfl

theorem sl_at (s : List UInt8) (a : Int) (H : AHeap) (h : 0 ≤ a ∧ a ≤ (↑s.length : Int)) : readA PQ (slRho s a) H slOp = some (AV.str (List.take (a.toNat - 0) (List.drop 0 s))) := by
  have e : sliceA PQ 9 (.str s) none (some a) none = strOf s (boundsA s.length s.length none (some a) none) := by kernel_rfl
  have b : boundsA s.length s.length none (some a) none = some (0, a.toNat, s.length) := by
    unfold boundsA boundsMx boundsHi boundsLo boundA
    simp only [if_pos h]
  rw [sl_eq]
  unfold sliceH
  rw [e, b]
  rfl

theorem req_ok {s : List UInt8} {n most : Int} {G : T (T AV)} (hs : s.length ≤ maxLen) (hn : 0 ≤ n ∧ n ≤ 65535) (hm : 0 ≤ most ∧ most ≤ 10000) :
    ∃ a k : Nat, a ≤ s.length ∧ a ≤ 10000 ∧ k ≤ 65535 ∧ (a : Int) = mn most s ∧ (k : Int) = (if mm most n s > 0 then mm most n s else 0) ∧ Goal PQ 0 10 (fun v _ => v = .str (s.take a ++ List.replicate k 0)) (startM PQ 10 [.str s, .int .u16 n, .int .i64 most] G) := by
  have hl : maxLen = 9223372036854775807 := by decide
  have h1 : 0 ≤ mn most s ∧ mn most s ≤ (↑s.length : Int) ∧ mn most s ≤ 10000 := by
    unfold mn
    split
    · rename_i h
      have := of_decide_eq_true h
      omega
    · rename_i h
      have := of_decide_eq_false (Bool.not_eq_true _ ▸ h)
      omega
  have h2 : mm most n s ≤ 65535 := by
    unfold mm
    rw [IntWalk.i64_in n (by omega), IntWalk.i64_in (most - (↑s.length : Int)) (by omega)]
    split
    · rename_i h
      have := of_decide_eq_true h
      omega
    · omega
  have h3 : (if decide (mm most n s > (0 : Int)) = true then mm most n s else (0 : Int)) = ((((if mm most n s > 0 then mm most n s else 0 : Int).toNat) : Nat) : Int) := by
    by_cases h : mm most n s > 0
    · rw [decide_eq_true h, if_pos rfl, if_pos h]; omega
    · rw [decide_eq_false h, if_neg (by simp), if_neg h]; rfl
  have h4 : (if mm most n s > 0 then mm most n s else 0 : Int).toNat ≤ 65535 := by split <;> omega
  refine ⟨(mn most s).toNat, (if mm most n s > 0 then mm most n s else 0 : Int).toNat, by omega, by omega, h4, by omega, by split <;> omega, ?_⟩
  generalize (if mm most n s > 0 then mm most n s else 0 : Int).toNat = k at h3 h4
  have hmk : makeSliceA PQ { objs := T.leaf, next := 0, glob := G } 33 (.int .i64 (k : Int)) (.int .i64 (k : Int)) = some (.slc 0 0 0 k k, newCells { objs := T.leaf, next := 0, glob := G } 5 (repeatL [AV.int .u8 0] k) false) := by
    rw [mk_eq, if_pos ⟨by omega, by omega, by omega, by omega, rfl, by decide, rfl⟩]
    rfl
  refine Obl.goal (K := fun _ => False) (Checked.mixed Tryd.checked) (fun _ h => h.elim) (cast (rq (fun v _ => v = .str (s.take (mn most s).toNat ++ List.replicate k 0)) s n most k (repeatL [AV.int .u8 0] k).length G (storeList .leaf 0 (repeatL [AV.int .u8 0] k)) _).symm
    ⟨⟨h1.1, h1.2.1⟩, by rw [h3], by rw [hmk]; rfl, by rw [h3], rfl, rfl, rfl, rfl, sl_at _ _ _ ⟨h1.1, h1.2.1⟩, rfl, rfl, ⟨by rw [repeatL_length]; simp, zr_str k⟩, ?_, ?_⟩)
  · rw [List.length_replicate, List.length_take]
    omega
  · show AV.str _ = AV.str _
    rw [Nat.sub_zero, List.drop_zero]

end Go.Proofs.YtclfckjhillfpaaDoor.mq
