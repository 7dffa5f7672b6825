/- Reader.Num and Reader.Text, of a reader and its row alone: what they made themselves is forgotten. -/
import Derived.Test.YtmnelckaighmkaaWireX
set_option maxRecDepth 100000
namespace Go.Proofs.Ytmnelckaighmkaa.wireR
open Go Ev

theorem numE2 (s : List UInt8) (off len c : Nat) (R : AV → AHeap → Prop) (_K : AM → Prop) : Obl P 14 (fun v H => R v H) 2 _K [.run 9, .callh [(0, 0, [0]), (1, 0, [0, 0])] [0] (.tup [.int .u64 0, .bool false]) (rd (.slc 1 0 off len c) false (fun j => some (.int .u8 (yy s j))) s.length), .run 41, .done] ((startH P 14 [.ptr 0 0 0] (rd (.slc 1 0 off len c) false (fun j => some (.int .u8 (yy s j))) s.length))) = ((PlainFn fun j => some (AV.int IntKind.u8 (yy s j))) ∧ (PlainFn fun j => some (AV.int IntKind.u8 (yy s j))) ∧ (Goal P 2 24 (fun x k => x = AV.tup [AV.int IntKind.u64 (0 : Int), AV.bool false] ∧ k = rd (AV.slc (1 : Nat) (0 : Nat) off len c) false (fun j => some (AV.int IntKind.u8 (yy s j))) s.length) (atNum s off len c)) ∧ (R (.int .u64 0) (⟨(.node (.node .leaf (some (.cells (.fn fun j => some (AV.int IntKind.u8 (yy s j))) s.length 5 0 0 1 0 true .leaf)) .leaf) (some (.cells (.node (.node .leaf (some (.bool true)) .leaf) (some (.nils 0 0)) .leaf) 2 46 0 0 1 0 false .leaf)) .leaf), 2, .leaf⟩))) := by kernel_rfl

theorem numB2 (s : List UInt8) (off len c off2 len2 : Nat) (a1 a2 a3 a4 a5 : Int) (R : AV → AHeap → Prop) (_K : AM → Prop) : Obl P 14 (fun v H => R v H) 2 _K [.run 9, .callh [(0, 0, [0]), (1, 0, [0, 0])] [0] (.tup [.int .u64 0, .bool false]) (rd3 (.slc 1 0 off2 len2 len2) false s a1 a2 a3 a4 a5), .run 2, .can 2 [0, 1] [0, 5, 9] [], .run 39, .done] ((startH P 14 [.ptr 0 0 0] (rd (.slc 1 0 off len c) false (fun j => some (.int .u8 (yy s j))) s.length))) = ((PlainFn fun j => some (AV.int IntKind.u8 (yy s j))) ∧ (PlainFn fun j => some (AV.int IntKind.u8 (yy s j))) ∧ (Goal P 2 24 (fun x k => x = AV.tup [AV.int IntKind.u64 (0 : Int), AV.bool false] ∧ k = rd3 (AV.slc (1 : Nat) (0 : Nat) off2 len2 len2) false s a1 a2 a3 a4 a5) (atNum s off len c)) ∧ (PlainFn fun j => some (AV.int IntKind.u8 (yy s j))) ∧ (R (.int .u64 0) (⟨(.node (.node .leaf (some (.cells (.fn fun j => some (AV.int IntKind.u8 (yy s j))) s.length 5 0 0 1 0 true .leaf)) .leaf) (some (.cells (.node (.node .leaf (some (.bool true)) .leaf) (some (.nils 0 0)) .leaf) 2 46 0 0 1 0 false .leaf)) .leaf), 2, .leaf⟩))) := by kernel_rfl

theorem numO2 (s : List UInt8) (off len c off2 len2 : Nat) (n a1 a2 a3 a4 a5 : Int) (R : AV → AHeap → Prop) (_K : AM → Prop) : Obl P 14 (fun v H => R v H) 2 _K [.run 9, .callh [(0, 0, [0]), (1, 0, [0, 0])] [0] (.tup [.int .u64 n, .bool true]) (rd3 (.slc 1 0 off2 len2 len2) false s a1 a2 a3 a4 a5), .run 2, .can 2 [0, 1] [0, 5, 9] [], .run 18, .done] ((startH P 14 [.ptr 0 0 0] (rd (.slc 1 0 off len c) false (fun j => some (.int .u8 (yy s j))) s.length))) = ((PlainFn fun j => some (AV.int IntKind.u8 (yy s j))) ∧ (PlainFn fun j => some (AV.int IntKind.u8 (yy s j))) ∧ (Goal P 2 24 (fun x k => x = AV.tup [AV.int IntKind.u64 n, AV.bool true] ∧ k = rd3 (AV.slc (1 : Nat) (0 : Nat) off2 len2 len2) false s a1 a2 a3 a4 a5) (atNum s off len c)) ∧ (PlainFn fun j => some (AV.int IntKind.u8 (yy s j))) ∧ (R (.int .u64 n) (⟨(.node (.node .leaf (some (.cells (.fn fun j => some (AV.int IntKind.u8 (yy s j))) s.length 5 0 0 1 0 true .leaf)) .leaf) (some (.cells (.node (.node .leaf (some (.bool false)) .leaf) (some (.slc 1 0 off2 len2 len2)) .leaf) 2 46 0 0 1 0 false .leaf)) .leaf), 2, .leaf⟩))) := by kernel_rfl

theorem textE2 (s : List UInt8) (off len c : Nat) (R : AV → AHeap → Prop) (_K : AM → Prop) : Obl P 16 (fun v H => R v H) 2 _K [.run 15, .callh [(0, 0, [0]), (1, 0, [0, 0])] [0] (.tup [.int .u64 0, .bool false]) (rd (.slc 1 0 off len c) false (fun j => some (.int .u8 (yy s j))) s.length), .run 40, .done] ((startH P 16 [.ptr 0 0 0] (rd (.slc 1 0 off len c) false (fun j => some (.int .u8 (yy s j))) s.length))) = ((PlainFn fun j => some (AV.int IntKind.u8 (yy s j))) ∧ (PlainFn fun j => some (AV.int IntKind.u8 (yy s j))) ∧ (Goal P 2 24 (fun x k => x = AV.tup [AV.int IntKind.u64 (0 : Int), AV.bool false] ∧ k = rd (AV.slc (1 : Nat) (0 : Nat) off len c) false (fun j => some (AV.int IntKind.u8 (yy s j))) s.length) (atNum s off len c)) ∧ (R (.str []) (⟨(.node (.node .leaf (some (.cells (.fn fun j => some (AV.int IntKind.u8 (yy s j))) s.length 5 0 0 1 0 true .leaf)) .leaf) (some (.cells (.node (.node .leaf (some (.bool true)) .leaf) (some (.nils 0 0)) .leaf) 2 46 0 0 1 0 false .leaf)) .leaf), 2, .leaf⟩))) := by kernel_rfl

theorem textB2 (s : List UInt8) (off len c off2 len2 : Nat) (a1 a2 a3 a4 a5 : Int) (R : AV → AHeap → Prop) (_K : AM → Prop) : Obl P 16 (fun v H => R v H) 2 _K [.run 15, .callh [(0, 0, [0]), (1, 0, [0, 0])] [0] (.tup [.int .u64 0, .bool false]) (rd3 (.slc 1 0 off2 len2 len2) false s a1 a2 a3 a4 a5), .run 2, .can 2 [0, 1] [0, 3, 10, 13] [], .run 38, .done] ((startH P 16 [.ptr 0 0 0] (rd (.slc 1 0 off len c) false (fun j => some (.int .u8 (yy s j))) s.length))) = ((PlainFn fun j => some (AV.int IntKind.u8 (yy s j))) ∧ (PlainFn fun j => some (AV.int IntKind.u8 (yy s j))) ∧ (Goal P 2 24 (fun x k => x = AV.tup [AV.int IntKind.u64 (0 : Int), AV.bool false] ∧ k = rd3 (AV.slc (1 : Nat) (0 : Nat) off2 len2 len2) false s a1 a2 a3 a4 a5) (atNum s off len c)) ∧ (PlainFn fun j => some (AV.int IntKind.u8 (yy s j))) ∧ (R (.str []) (⟨(.node (.node .leaf (some (.cells (.fn fun j => some (AV.int IntKind.u8 (yy s j))) s.length 5 0 0 1 0 true .leaf)) .leaf) (some (.cells (.node (.node .leaf (some (.bool true)) .leaf) (some (.nils 0 0)) .leaf) 2 46 0 0 1 0 false .leaf)) .leaf), 2, .leaf⟩))) := by kernel_rfl

theorem textL2 (s : List UInt8) (off len c off2 len2 : Nat) (n a1 a2 a3 a4 a5 : Int) (R : AV → AHeap → Prop) (_K : AM → Prop) : Obl P 16 (fun v H => R v H) 2 _K [.run 15, .callh [(0, 0, [0]), (1, 0, [0, 0])] [0] (.tup [.int .u64 n, .bool true]) (rd3 (.slc 1 0 off2 len2 len2) false s a1 a2 a3 a4 a5), .run 2, .can 2 [0, 1] [0, 3, 10, 13] [], .run 35, .know 18 true, .run 48, .done] ((startH P 16 [.ptr 0 0 0] (rd (.slc 1 0 off len c) false (fun j => some (.int .u8 (yy s j))) s.length))) = ((PlainFn fun j => some (AV.int IntKind.u8 (yy s j))) ∧ (PlainFn fun j => some (AV.int IntKind.u8 (yy s j))) ∧ (Goal P 2 24 (fun x k => x = AV.tup [AV.int IntKind.u64 n, AV.bool true] ∧ k = rd3 (AV.slc (1 : Nat) (0 : Nat) off2 len2 len2) false s a1 a2 a3 a4 a5) (atNum s off len c)) ∧ (PlainFn fun j => some (AV.int IntKind.u8 (yy s j))) ∧ (decide (n > IntKind.u64.wrap (↑len2 : Int)) = true) ∧ (R (.str []) (⟨(.node (.node .leaf (some (.cells (.fn fun j => some (AV.int IntKind.u8 (yy s j))) s.length 5 0 0 1 0 true .leaf)) .leaf) (some (.cells (.node (.node .leaf (some (.bool true)) .leaf) (some (.nils 0 0)) .leaf) 2 46 0 0 1 0 false .leaf)) .leaf), 2, .leaf⟩))) := by kernel_rfl

theorem textO2 (s : List UInt8) (off len c off2 len2 : Nat) (n a1 a2 a3 a4 a5 : Int) (R : AV → AHeap → Prop) (_K : AM → Prop) : Obl P 16 (fun v H => R v H) 2 _K [.run 15, .callh [(0, 0, [0]), (1, 0, [0, 0])] [0] (.tup [.int .u64 n, .bool true]) (rd3 (.slc 1 0 off2 len2 len2) false s a1 a2 a3 a4 a5), .run 2, .can 2 [0, 1] [0, 3, 10, 13] [], .run 35, .know 18 false, .run 10, .op, .run 20, .op, .run 26, .bytes ((s.drop off2).take n.toNat), .run 3, .done] ((startH P 16 [.ptr 0 0 0] (rd (.slc 1 0 off len c) false (fun j => some (.int .u8 (yy s j))) s.length))) = ((PlainFn fun j => some (AV.int IntKind.u8 (yy s j))) ∧ (PlainFn fun j => some (AV.int IntKind.u8 (yy s j))) ∧ (Goal P 2 24 (fun x k => x = AV.tup [AV.int IntKind.u64 n, AV.bool true] ∧ k = rd3 (AV.slc (1 : Nat) (0 : Nat) off2 len2 len2) false s a1 a2 a3 a4 a5) (atNum s off len c)) ∧ (PlainFn fun j => some (AV.int IntKind.u8 (yy s j))) ∧ (decide (n > IntKind.u64.wrap (↑len2 : Int)) = false) ∧ (((0 : Int) ≤ n ∧ n ≤ (↑len2 : Int)) ∧ (0 : Int) ≤ n ∧ n ≤ (↑n.toNat : Int)) ∧ ((((0 : Int) ≤ (↑len2 : Int) ∧ (↑len2 : Int) ≤ (↑len2 : Int)) ∧ (0 : Int) ≤ (↑len2 : Int) ∧ (↑len2 : Int) ≤ (↑(↑len2 : Int).toNat : Int)) ∧ (0 : Int) ≤ n ∧ n ≤ (↑(↑len2 : Int).toNat : Int)) ∧ ((if n.toNat = (0 : Nat) then off2 else off2) + (n.toNat - (0 : Nat)) ≤ s.length ∧ cellsStr (loadList (T.fn fun j => some (AV.int IntKind.u8 (yy s j))) (if n.toNat = (0 : Nat) then off2 else off2) (n.toNat - (0 : Nat))) = some (AV.str (List.take n.toNat (List.drop off2 s)))) ∧ (R (.str (List.take n.toNat (List.drop off2 s))) (⟨(.node (.node .leaf (some (.cells (.fn fun j => some (AV.int IntKind.u8 (yy s j))) s.length 5 0 0 1 0 true .leaf)) .leaf) (some (.cells (.node (.node .leaf (some (.bool false)) .leaf) (some (.slc 1 0 (if (↑len2 : Int).toNat = n.toNat then off2 else off2 + n.toNat * nat_lit 1) ((↑len2 : Int).toNat - n.toNat) ((↑len2 : Int).toNat - n.toNat))) .leaf) 2 46 0 0 1 0 false .leaf)) .leaf), 2, .leaf⟩))) := by kernel_rfl

/-- A reader that has bytes ahead; one that is spent. -/
noncomputable abbrev rdr (s : List UInt8) (off len c : Nat) : AHeap := rd (.slc 1 0 off len c) false (fun j => some (.int .u8 (yy s j))) s.length
noncomputable abbrev rdz (s : List UInt8) : AHeap := rd (.nils 0 0) true (fun j => some (.int .u8 (yy s j))) s.length

theorem num2_ok (s : List UInt8) (off len c : Nat) (hls : len ≤ s.length) (ho : 0 < len → off + len = s.length) (hc' : len ≤ c) (hbig : len ≤ 9223372036854775807) {n : Int} {k : Nat} (hp : parse (ahead s len) = some (n, k)) :
    ∃ off2 : Nat, (0 < len - k → off2 + (len - k) = s.length) ∧ Goal P 2 14 (fun v H => v = .int .u64 n ∧ H = rdr s off2 (len - k) (len - k)) (startH P 14 [.ptr 0 0 0] (rdr s off len c)) := by
  obtain ⟨off2, a1, a2, a3, a4, a5, h1, h2⟩ := number_ok 2 s off len c hls ho hc' hbig hp
  exact ⟨off2, h1.2, Obl.goal (K := fun _ => False) mix (fun _ h => h.elim) (cast (numO2 s off len c off2 (len - k) n a1 a2 a3 a4 a5 _ _).symm ⟨plain_yy s, plain_yy s, h2, plain_yy s, rfl, rfl⟩)⟩

theorem num2_bad (s : List UInt8) (off len c : Nat) (hls : len ≤ s.length) (ho : 0 < len → off + len = s.length) (hc' : len ≤ c) (hbig : len ≤ 9223372036854775807) (hp : parse (ahead s len) = none) :
    Goal P 2 14 (fun v H => v = .int .u64 0 ∧ H = rdz s) (startH P 14 [.ptr 0 0 0] (rdr s off len c)) := by
  rcases number_bad 2 s off len c hls ho hc' hbig hp with h | ⟨off2, len2, a1, a2, a3, a4, a5, h⟩
  · exact Obl.goal (K := fun _ => False) mix (fun _ h => h.elim) (cast (numE2 s off len c _ _).symm ⟨plain_yy s, plain_yy s, h, rfl, rfl⟩)
  · exact Obl.goal (K := fun _ => False) mix (fun _ h => h.elim) (cast (numB2 s off len c off2 len2 a1 a2 a3 a4 a5 _ _).symm ⟨plain_yy s, plain_yy s, h, plain_yy s, rfl, rfl⟩)

theorem loadG_fn (s : List UInt8) (off : Nat) : ∀ (k : Nat) (acc : List AV), loadG (T.fn fun j => some (AV.int .u8 (yy s j))) off k acc = some (((List.range k).map fun j => AV.int .u8 (yy s (off + j))) ++ acc)
  | 0, acc => rfl
  | k + 1, acc => by
    show loadG _ off k (AV.int .u8 (yy s (off + k)) :: acc) = _
    rw [loadG_fn s off k, List.range_succ, List.map_append, List.append_assoc]
    rfl

theorem bytesA_fn (s : List UInt8) (off k : Nat) (h : off + k ≤ s.length) : bytesA ((List.range k).map fun j => AV.int .u8 (yy s (off + j))) = some ((s.drop off).take k) := by
  obtain ⟨h1, h2⟩ : ∃ r, bytesA ((List.range k).map fun j => AV.int .u8 (yy s (off + j))) = some r := by
    unfold bytesA
    generalize List.range k = l
    induction l with
    | nil => exact ⟨_, rfl⟩
    | cons a r ih =>
      obtain ⟨x, hx⟩ := ih
      refine ⟨UInt8.ofNat (yy s (off + a)).toNat :: x, ?_⟩
      rw [List.map_cons, mapO_cons, hx]
      rfl
  rw [h2]
  obtain ⟨hl, hg⟩ := mapO_some h2
  congr 1
  apply List.ext_getElem?
  intro i
  by_cases hi : i < k
  · obtain ⟨b, hb, hbv⟩ := hg i (AV.int .u8 (yy s (off + i))) (by simp [hi])
    have hlt : off + i < s.length := by omega
    rw [hb, List.getElem?_take, if_pos hi, List.getElem?_drop, List.getElem?_eq_getElem hlt]
    have : byteA (AV.int .u8 (yy s (off + i))) = some s[off + i] := by
      show some (UInt8.ofNat (yy s (off + i)).toNat) = _
      rw [yy, List.getD_eq_getElem?_getD, List.getElem?_eq_getElem hlt]
      simp
    rw [this] at hbv
    exact congrArg some (Option.some.inj hbv).symm
  · rw [List.getElem?_eq_none (by rw [hl]; simp; omega), List.getElem?_eq_none (by simp; omega)]

theorem str_fn (s : List UInt8) (off k : Nat) (h : off + k ≤ s.length) : cellsStr (loadList (T.fn fun j => some (AV.int .u8 (yy s j))) off k) = some (.str ((s.drop off).take k)) := by
  unfold loadList
  rw [loadG_fn, List.append_nil]
  show strAV (bytesA _) = _
  rw [bytesA_fn s off k h]
  rfl

/-- A text is ahead. -/
theorem text2_ok (s : List UInt8) (off len c : Nat) (hls : len ≤ s.length) (ho : 0 < len → off + len = s.length) (hc' : len ≤ c) (hbig : s.length ≤ 9223372036854775807) {n : Int} {k : Nat} (hp : parse (ahead s len) = some (n, k)) (hn : n ≤ (len - k : Nat)) :
    ∃ off2 : Nat, (0 < len - k - n.toNat → off2 + (len - k - n.toNat) = s.length) ∧ Goal P 2 16 (fun v H => v = .str (((ahead s len).drop k).take n.toNat) ∧ H = rdr s off2 (len - k - n.toNat) (len - k - n.toNat)) (startH P 16 [.ptr 0 0 0] (rdr s off len c)) := by
  obtain ⟨off2, a1, a2, a3, a4, a5, h1, h2⟩ := number_ok 2 s off len c hls ho hc' (by omega) hp
  obtain ⟨n0, n1, _, n3, _⟩ := parse_some hp
  rw [ahead_length hls] at n3
  have w1 : IntKind.u64.wrap ((len - k : Nat) : Int) = (len - k : Nat) := IntWalk.u64_in _ (by omega)
  obtain ⟨N, rfl⟩ := Int.eq_ofNat_of_zero_le n0
  have hs : List.take (N : Int).toNat (List.drop off2 s) = List.take (N : Int).toNat (List.drop k (ahead s len)) := by
    by_cases h0 : N = 0
    · subst h0; rfl
    · have := h1.2 (by omega)
      unfold ahead
      rw [List.drop_drop]
      congr 2
      omega
  refine ⟨(if ((len - k : Nat) : Int).toNat = (N : Int).toNat then off2 else off2 + (N : Int).toNat * 1), ?_, Obl.goal (K := fun _ => False) mix (fun _ h => h.elim) (cast (textO2 s off len c off2 (len - k) N a1 a2 a3 a4 a5 _ _).symm ⟨plain_yy s, plain_yy s, h2, plain_yy s, gtf (by rw [w1]; exact hn), by omega, by omega, ?_, ⟨?_, rfl⟩⟩)⟩
  · intro hpos
    have := h1.2 (by omega)
    split <;> omega
  · simp only [ite_self, Nat.sub_zero]
    have hle : off2 + (N : Int).toNat ≤ s.length := by
      rcases Nat.eq_zero_or_pos N with h0 | h0
      · subst h0; exact h1.1
      · have := h1.2 (by omega); omega
    exact ⟨hle, str_fn s off2 _ hle⟩
  · rw [hs]

/-- No text is ahead. -/
theorem text2_bad (s : List UInt8) (off len c : Nat) (hls : len ≤ s.length) (ho : 0 < len → off + len = s.length) (hc' : len ≤ c) (hbig : s.length ≤ 9223372036854775807) (hp : parse (ahead s len) = none ∨ ∃ n k, parse (ahead s len) = some (n, k) ∧ ((len - k : Nat) : Int) < n) :
    Goal P 2 16 (fun v H => v = .str [] ∧ H = rdz s) (startH P 16 [.ptr 0 0 0] (rdr s off len c)) := by
  rcases hp with hp | ⟨n, k, hp, hn⟩
  · rcases number_bad 2 s off len c hls ho hc' (by omega) hp with h | ⟨off2, len2, a1, a2, a3, a4, a5, h⟩
    · exact Obl.goal (K := fun _ => False) mix (fun _ h => h.elim) (cast (textE2 s off len c _ _).symm ⟨plain_yy s, plain_yy s, h, rfl, rfl⟩)
    · exact Obl.goal (K := fun _ => False) mix (fun _ h => h.elim) (cast (textB2 s off len c off2 len2 a1 a2 a3 a4 a5 _ _).symm ⟨plain_yy s, plain_yy s, h, plain_yy s, rfl, rfl⟩)
  · obtain ⟨off2, a1, a2, a3, a4, a5, h1, h2⟩ := number_ok 2 s off len c hls ho hc' (by omega) hp
    have w1 : IntKind.u64.wrap ((len - k : Nat) : Int) = (len - k : Nat) := IntWalk.u64_in _ (by omega)
    exact Obl.goal (K := fun _ => False) mix (fun _ h => h.elim) (cast (textL2 s off len c off2 (len - k) n a1 a2 a3 a4 a5 _ _).symm ⟨plain_yy s, plain_yy s, h2, plain_yy s, gtt (by rw [w1]; exact hn), rfl, rfl⟩)

end Go.Proofs.Ytmnelckaighmkaa.wireR
