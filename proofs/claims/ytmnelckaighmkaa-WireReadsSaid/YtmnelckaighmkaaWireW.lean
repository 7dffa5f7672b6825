/- The program's reading of a number, as one contract. -/
import Derived.Test.YtmnelckaighmkaaWireV
set_option maxRecDepth 100000
namespace Go.Proofs.Ytmnelckaighmkaa.wireR
open Go Ev

theorem numE (s : List UInt8) (off len c : Nat) (R : AV → AHeap → Prop) (kp : Nat) (_K : AM → Prop) : Obl P 14 (fun v H => R v H) kp _K [.run 9, .callh [(0, 0, [0]), (1, 0, [0, 0])] [0] (.tup [.int .u64 0, .bool false]) (rd (.slc 1 0 off len c) false (fun j => some (.int .u8 (yy s j))) s.length), .run 41, .done] ((startH P 14 [.ptr 0 0 0] (rd (.slc 1 0 off len c) false (fun j => some (.int .u8 (yy s j))) s.length))) = ((PlainFn fun j => some (AV.int IntKind.u8 (yy s j))) ∧ (PlainFn fun j => some (AV.int IntKind.u8 (yy s j))) ∧ (Goal P 2 24 (fun x k => x = AV.tup [AV.int IntKind.u64 (0 : Int), AV.bool false] ∧ k = rd (AV.slc (1 : Nat) (0 : Nat) off len c) false (fun j => some (AV.int IntKind.u8 (yy s j))) s.length) (atNum s off len c)) ∧ (R (.int .u64 0) (⟨(.node (.node .leaf (some (.cells (.fn fun j => some (AV.int IntKind.u8 (yy s j))) s.length 5 0 0 1 0 true .leaf)) .leaf) (some (.cells (.node (.node .leaf (some (.bool true)) .leaf) (some (.nils 0 0)) .leaf) 2 46 0 0 1 0 false .leaf)) .leaf), 2, .leaf⟩))) := by kernel_rfl

theorem numB (s : List UInt8) (off len c off2 len2 : Nat) (a1 a2 a3 a4 a5 : Int) (R : AV → AHeap → Prop) (kp : Nat) (_K : AM → Prop) : Obl P 14 (fun v H => R v H) kp _K [.run 9, .callh [(0, 0, [0]), (1, 0, [0, 0])] [0] (.tup [.int .u64 0, .bool false]) (rd3 (.slc 1 0 off2 len2 len2) false s a1 a2 a3 a4 a5), .run 41, .done] ((startH P 14 [.ptr 0 0 0] (rd (.slc 1 0 off len c) false (fun j => some (.int .u8 (yy s j))) s.length))) = ((PlainFn fun j => some (AV.int IntKind.u8 (yy s j))) ∧ (PlainFn fun j => some (AV.int IntKind.u8 (yy s j))) ∧ (Goal P 2 24 (fun x k => x = AV.tup [AV.int IntKind.u64 (0 : Int), AV.bool false] ∧ k = rd3 (AV.slc (1 : Nat) (0 : Nat) off2 len2 len2) false s a1 a2 a3 a4 a5) (atNum s off len c)) ∧ (R (.int .u64 0) (⟨(.node (.node .leaf (some (.cells (.fn fun j => some (AV.int IntKind.u8 (yy s j))) s.length 5 0 0 1 0 true .leaf)) .leaf) (some (.cells (.node (.node .leaf (some (.bool true)) .leaf) (some (.nils 0 0)) .leaf) 2 46 0 0 1 0 false .leaf)) (.node .leaf (some (.cells (.node (.node (.node .leaf (some (.int .u64 a1)) .leaf) (some (.int .u64 a2)) .leaf) (some (.int .u8 a3)) (.node (.node .leaf (some (.int .i64 a4)) .leaf) (some (.int .u64 a5)) .leaf)) 5 53 0 0 1 0 false .leaf)) .leaf)), 3, .leaf⟩))) := by kernel_rfl

theorem numO (s : List UInt8) (off len c off2 len2 : Nat) (n a1 a2 a3 a4 a5 : Int) (R : AV → AHeap → Prop) (kp : Nat) (_K : AM → Prop) : Obl P 14 (fun v H => R v H) kp _K [.run 9, .callh [(0, 0, [0]), (1, 0, [0, 0])] [0] (.tup [.int .u64 n, .bool true]) (rd3 (.slc 1 0 off2 len2 len2) false s a1 a2 a3 a4 a5), .run 20, .done] ((startH P 14 [.ptr 0 0 0] (rd (.slc 1 0 off len c) false (fun j => some (.int .u8 (yy s j))) s.length))) = ((PlainFn fun j => some (AV.int IntKind.u8 (yy s j))) ∧ (PlainFn fun j => some (AV.int IntKind.u8 (yy s j))) ∧ (Goal P 2 24 (fun x k => x = AV.tup [AV.int IntKind.u64 n, AV.bool true] ∧ k = rd3 (AV.slc (1 : Nat) (0 : Nat) off2 len2 len2) false s a1 a2 a3 a4 a5) (atNum s off len c)) ∧ (R (.int .u64 n) (⟨(.node (.node .leaf (some (.cells (.fn fun j => some (AV.int IntKind.u8 (yy s j))) s.length 5 0 0 1 0 true .leaf)) .leaf) (some (.cells (.node (.node .leaf (some (.bool false)) .leaf) (some (.slc 1 0 off2 len2 len2)) .leaf) 2 46 0 0 1 0 false .leaf)) (.node .leaf (some (.cells (.node (.node (.node .leaf (some (.int .u64 a1)) .leaf) (some (.int .u64 a2)) .leaf) (some (.int .u8 a3)) (.node (.node .leaf (some (.int .i64 a4)) .leaf) (some (.int .u64 a5)) .leaf)) 5 53 0 0 1 0 false .leaf)) .leaf)), 3, .leaf⟩))) := by kernel_rfl

theorem plain_yy (s : List UInt8) : PlainFn fun j => some (AV.int IntKind.u8 (yy s j)) := fun _ _ e => by cases e; rfl

/-- What is ahead. -/
def ahead (s : List UInt8) (len : Nat) : List UInt8 := s.drop (s.length - len)

theorem ahead_length {s : List UInt8} {len : Nat} (h : len ≤ s.length) : (ahead s len).length = len := by simp [ahead]; omega

theorem ahead_at {s : List UInt8} {off len : Nat} (h : off + len = s.length) : ahead s len = s.drop off := by rw [ahead]; congr 1; omega

theorem cons_le {t : List UInt8} {k : Nat} (h : k + 1 ≤ t.length) : ∃ a r, t = a :: r ∧ k ≤ r.length := by
  match t, h with
  | a :: r, h => exact ⟨a, r, rfl, by simpa using h⟩

theorem sorts_of (f : UInt8) : f.toNat ≤ 240 ∨ (241 ≤ f.toNat ∧ f.toNat < 249) ∨ f.toNat = 249 ∨ f.toNat = 250 ∨ f.toNat = 251 ∨ f.toNat = 252 ∨ f.toNat = 253 ∨ f.toNat = 254 ∨ f.toNat = 255 := by
  have := u8_lt f
  omega

/-- A number is ahead. -/
theorem number_ok (kp : Nat) (s : List UInt8) (off len c : Nat) (hls : len ≤ s.length) (ho : 0 < len → off + len = s.length) (hc' : len ≤ c) (hbig : len ≤ 9223372036854775807) {n : Int} {k : Nat} (hp : parse (ahead s len) = some (n, k)) :
    ∃ (off2 : Nat) (a1 a2 a3 a4 a5 : Int), (off2 ≤ s.length ∧ (0 < len - k → off2 + (len - k) = s.length)) ∧ Goal P kp 24 (fun v H => v = .tup [.int .u64 n, .bool true] ∧ H = rd3 (.slc 1 0 off2 (len - k) (len - k)) false s a1 a2 a3 a4 a5) (atNum s off len c) := by
  have hal := ahead_length hls
  cases ha : ahead s len with
  | nil => rw [ha] at hp; cases hp
  | cons f t =>
  rw [ha] at hp hal
  have hlen : t.length + 1 = len := by simpa using hal
  have hoff := ho (by omega)
  have hl : s.drop off = f :: t := by rw [← ahead_at hoff]; exact ha
  rw [parse_cons] at hp
  split at hp
  rotate_left
  · cases hp
  rename_i hc
  have hn : val f.toNat (t.take (tl f.toNat)) = n := by cases hp; rfl
  have hkk : 1 + tl f.toNat = k := by cases hp; rfl
  clear hp ha hal
  have hf := u8_lt f
  have hsub : ∀ k, len - (1 + k) = len - 1 - k := fun k => by omega
  suffices h : ∃ (off2 : Nat) (a1 a2 a3 a4 a5 : Int), (off2 ≤ s.length ∧ (0 < len - 1 - tl f.toNat → off2 + (len - 1 - tl f.toNat) = s.length)) ∧ Goal P kp 24 (fun v H => v = .tup [.int .u64 n, .bool true] ∧ H = rd3 (.slc 1 0 off2 (len - 1 - tl f.toNat) (len - 1 - tl f.toNat)) false s a1 a2 a3 a4 a5) (atNum s off len c) by
    subst hkk; rw [hsub]; exact h
  clear hkk k
  rcases sorts_of f with hs | hs | hs | hs | hs | hs | hs | hs | hs
  · -- 0 bytes behind
    have htl : tl f.toNat = 0 := by simp only [tl, if_pos hs]
    have hk := hc.1
    have hrow := hc.2
    rw [htl] at hk hrow
    have htk : List.take 0 (t) = [] := by simp
    rw [htk] at hrow
    have hv : val f.toNat [] = (((f.toNat : Int) - 0) + 0) := by simp only [val, if_pos hs]; omega
    have e0 : least f.toNat = 0 := by simp only [least, if_pos hs]
    have e1 : most f.toNat = 240 := by simp only [most, if_pos hs]
    obtain ⟨i0, i1⟩ := (row_iff f [] (by rw [htl]; rfl)).1 hrow
    rw [hv, e0] at i0
    rw [hv, e1] at i1
    rw [htl, htk, hv] at hn
    subst hn
    rw [htl]
    refine ⟨_, _, _, _, _, _, ⟨?_, fun hpos => ?_⟩, nbok0 kp s off len c hoff hc' hbig f t hl hs i0 i1⟩
    all_goals (repeat' split)
    all_goals omega
  · -- 1 bytes behind
    have hs1 : ¬ f.toNat ≤ 240 := by omega
    have hs2 := hs.2
    have htl : tl f.toNat = 1 := by simp only [tl, if_neg hs1, if_pos hs2]
    have hk := hc.1
    have hrow := hc.2
    rw [htl] at hk hrow
    obtain ⟨a1, t1, rfl, hr1⟩ := cons_le (k := 0) (by omega : 1 ≤ _)
    have htk : List.take 1 (a1 :: t1) = [a1] := by simp
    rw [htk] at hrow
    have hv : val f.toNat [a1] = ((((f.toNat : Int) - 241) * 256 + (a1.toNat : Int)) + 240) := by simp only [val, if_neg hs1, if_pos hs2, be, List.foldl]; omega
    have e0 : least f.toNat = 241 := by simp only [least, if_neg hs1, if_pos hs2]
    have e1 : most f.toNat = 2287 := by simp only [most, if_neg hs1, if_pos hs2]
    obtain ⟨i0, i1⟩ := (row_iff f [a1] (by rw [htl]; rfl)).1 hrow
    rw [hv, e0] at i0
    rw [hv, e1] at i1
    rw [htl, htk, hv] at hn
    subst hn
    rw [htl]
    refine ⟨_, _, _, _, _, _, ⟨?_, fun hpos => ?_⟩, nbok1 kp s off len c hoff hc' hbig f a1 t1 hl hs i0 i1⟩
    all_goals (split <;> omega)
  · -- 2 bytes behind
    have htl : tl f.toNat = 2 := by simp [tl, hs]
    have hk := hc.1
    have hrow := hc.2
    rw [htl] at hk hrow
    obtain ⟨a1, t1, rfl, hr1⟩ := cons_le (k := 1) (by omega : 2 ≤ _)
    obtain ⟨a2, t2, rfl, hr2⟩ := cons_le (k := 0) hr1
    have htk : List.take 2 (a1 :: a2 :: t2) = [a1, a2] := by simp
    rw [htk] at hrow
    have hv : val f.toNat [a1, a2] = (((0 * 256 + (a1.toNat : Int)) * 256 + (a2.toNat : Int)) + 2288) := by simp [val, hs, be, List.foldl]
    have e0 : least f.toNat = 2288 := by simp [least, hs]
    have e1 : most f.toNat = 67823 := by simp [most, hs]
    obtain ⟨i0, i1⟩ := (row_iff f [a1, a2] (by rw [htl]; rfl)).1 hrow
    rw [hv, e0] at i0
    rw [hv, e1] at i1
    rw [htl, htk, hv] at hn
    subst hn
    rw [htl]
    refine ⟨_, _, _, _, _, _, ⟨?_, fun hpos => ?_⟩, nbok2 kp s off len c hoff hc' hbig f a1 a2 t2 hl hs i0 i1⟩
    all_goals (split <;> omega)
  · -- 3 bytes behind
    have htl : tl f.toNat = 3 := by simp [tl, hs]
    have hk := hc.1
    have hrow := hc.2
    rw [htl] at hk hrow
    obtain ⟨a1, t1, rfl, hr1⟩ := cons_le (k := 2) (by omega : 3 ≤ _)
    obtain ⟨a2, t2, rfl, hr2⟩ := cons_le (k := 1) hr1
    obtain ⟨a3, t3, rfl, hr3⟩ := cons_le (k := 0) hr2
    have htk : List.take 3 (a1 :: a2 :: a3 :: t3) = [a1, a2, a3] := by simp
    rw [htk] at hrow
    have hv : val f.toNat [a1, a2, a3] = ((((0 * 256 + (a1.toNat : Int)) * 256 + (a2.toNat : Int)) * 256 + (a3.toNat : Int)) + 0) := by simp [val, hs, be, List.foldl]
    have e0 : least f.toNat = 67824 := by simp [least, hs]
    have e1 : most f.toNat = 16777215 := by simp [most, hs]
    obtain ⟨i0, i1⟩ := (row_iff f [a1, a2, a3] (by rw [htl]; rfl)).1 hrow
    rw [hv, e0] at i0
    rw [hv, e1] at i1
    rw [htl, htk, hv] at hn
    subst hn
    rw [htl]
    refine ⟨_, _, _, _, _, _, ⟨?_, fun hpos => ?_⟩, nbok3 kp s off len c hoff hc' hbig f a1 a2 a3 t3 hl hs i0 i1⟩
    all_goals (split <;> omega)
  · -- 4 bytes behind
    have htl : tl f.toNat = 4 := by simp [tl, hs]
    have hk := hc.1
    have hrow := hc.2
    rw [htl] at hk hrow
    obtain ⟨a1, t1, rfl, hr1⟩ := cons_le (k := 3) (by omega : 4 ≤ _)
    obtain ⟨a2, t2, rfl, hr2⟩ := cons_le (k := 2) hr1
    obtain ⟨a3, t3, rfl, hr3⟩ := cons_le (k := 1) hr2
    obtain ⟨a4, t4, rfl, hr4⟩ := cons_le (k := 0) hr3
    have htk : List.take 4 (a1 :: a2 :: a3 :: a4 :: t4) = [a1, a2, a3, a4] := by simp
    rw [htk] at hrow
    have hv : val f.toNat [a1, a2, a3, a4] = (((((0 * 256 + (a1.toNat : Int)) * 256 + (a2.toNat : Int)) * 256 + (a3.toNat : Int)) * 256 + (a4.toNat : Int)) + 0) := by simp [val, hs, be, List.foldl]
    have e0 : least f.toNat = 16777216 := by simp [least, hs]
    have e1 : most f.toNat = 4294967295 := by simp [most, hs]
    obtain ⟨i0, i1⟩ := (row_iff f [a1, a2, a3, a4] (by rw [htl]; rfl)).1 hrow
    rw [hv, e0] at i0
    rw [hv, e1] at i1
    rw [htl, htk, hv] at hn
    subst hn
    rw [htl]
    refine ⟨_, _, _, _, _, _, ⟨?_, fun hpos => ?_⟩, nbok4 kp s off len c hoff hc' hbig f a1 a2 a3 a4 t4 hl hs i0 i1⟩
    all_goals (split <;> omega)
  · -- 5 bytes behind
    have htl : tl f.toNat = 5 := by simp [tl, hs]
    have hk := hc.1
    have hrow := hc.2
    rw [htl] at hk hrow
    obtain ⟨a1, t1, rfl, hr1⟩ := cons_le (k := 4) (by omega : 5 ≤ _)
    obtain ⟨a2, t2, rfl, hr2⟩ := cons_le (k := 3) hr1
    obtain ⟨a3, t3, rfl, hr3⟩ := cons_le (k := 2) hr2
    obtain ⟨a4, t4, rfl, hr4⟩ := cons_le (k := 1) hr3
    obtain ⟨a5, t5, rfl, hr5⟩ := cons_le (k := 0) hr4
    have htk : List.take 5 (a1 :: a2 :: a3 :: a4 :: a5 :: t5) = [a1, a2, a3, a4, a5] := by simp
    rw [htk] at hrow
    have hv : val f.toNat [a1, a2, a3, a4, a5] = ((((((0 * 256 + (a1.toNat : Int)) * 256 + (a2.toNat : Int)) * 256 + (a3.toNat : Int)) * 256 + (a4.toNat : Int)) * 256 + (a5.toNat : Int)) + 0) := by simp [val, hs, be, List.foldl]
    have e0 : least f.toNat = 4294967296 := by simp [least, hs]
    have e1 : most f.toNat = 1099511627775 := by simp [most, hs]
    obtain ⟨i0, i1⟩ := (row_iff f [a1, a2, a3, a4, a5] (by rw [htl]; rfl)).1 hrow
    rw [hv, e0] at i0
    rw [hv, e1] at i1
    rw [htl, htk, hv] at hn
    subst hn
    rw [htl]
    refine ⟨_, _, _, _, _, _, ⟨?_, fun hpos => ?_⟩, nbok5 kp s off len c hoff hc' hbig f a1 a2 a3 a4 a5 t5 hl hs i0 i1⟩
    all_goals (split <;> omega)
  · -- 6 bytes behind
    have htl : tl f.toNat = 6 := by simp [tl, hs]
    have hk := hc.1
    have hrow := hc.2
    rw [htl] at hk hrow
    obtain ⟨a1, t1, rfl, hr1⟩ := cons_le (k := 5) (by omega : 6 ≤ _)
    obtain ⟨a2, t2, rfl, hr2⟩ := cons_le (k := 4) hr1
    obtain ⟨a3, t3, rfl, hr3⟩ := cons_le (k := 3) hr2
    obtain ⟨a4, t4, rfl, hr4⟩ := cons_le (k := 2) hr3
    obtain ⟨a5, t5, rfl, hr5⟩ := cons_le (k := 1) hr4
    obtain ⟨a6, t6, rfl, hr6⟩ := cons_le (k := 0) hr5
    have htk : List.take 6 (a1 :: a2 :: a3 :: a4 :: a5 :: a6 :: t6) = [a1, a2, a3, a4, a5, a6] := by simp
    rw [htk] at hrow
    have hv : val f.toNat [a1, a2, a3, a4, a5, a6] = (((((((0 * 256 + (a1.toNat : Int)) * 256 + (a2.toNat : Int)) * 256 + (a3.toNat : Int)) * 256 + (a4.toNat : Int)) * 256 + (a5.toNat : Int)) * 256 + (a6.toNat : Int)) + 0) := by simp [val, hs, be, List.foldl]
    have e0 : least f.toNat = 1099511627776 := by simp [least, hs]
    have e1 : most f.toNat = 281474976710655 := by simp [most, hs]
    obtain ⟨i0, i1⟩ := (row_iff f [a1, a2, a3, a4, a5, a6] (by rw [htl]; rfl)).1 hrow
    rw [hv, e0] at i0
    rw [hv, e1] at i1
    rw [htl, htk, hv] at hn
    subst hn
    rw [htl]
    refine ⟨_, _, _, _, _, _, ⟨?_, fun hpos => ?_⟩, nbok6 kp s off len c hoff hc' hbig f a1 a2 a3 a4 a5 a6 t6 hl hs i0 i1⟩
    all_goals (split <;> omega)
  · -- 7 bytes behind
    have htl : tl f.toNat = 7 := by simp [tl, hs]
    have hk := hc.1
    have hrow := hc.2
    rw [htl] at hk hrow
    obtain ⟨a1, t1, rfl, hr1⟩ := cons_le (k := 6) (by omega : 7 ≤ _)
    obtain ⟨a2, t2, rfl, hr2⟩ := cons_le (k := 5) hr1
    obtain ⟨a3, t3, rfl, hr3⟩ := cons_le (k := 4) hr2
    obtain ⟨a4, t4, rfl, hr4⟩ := cons_le (k := 3) hr3
    obtain ⟨a5, t5, rfl, hr5⟩ := cons_le (k := 2) hr4
    obtain ⟨a6, t6, rfl, hr6⟩ := cons_le (k := 1) hr5
    obtain ⟨a7, t7, rfl, hr7⟩ := cons_le (k := 0) hr6
    have htk : List.take 7 (a1 :: a2 :: a3 :: a4 :: a5 :: a6 :: a7 :: t7) = [a1, a2, a3, a4, a5, a6, a7] := by simp
    rw [htk] at hrow
    have hv : val f.toNat [a1, a2, a3, a4, a5, a6, a7] = ((((((((0 * 256 + (a1.toNat : Int)) * 256 + (a2.toNat : Int)) * 256 + (a3.toNat : Int)) * 256 + (a4.toNat : Int)) * 256 + (a5.toNat : Int)) * 256 + (a6.toNat : Int)) * 256 + (a7.toNat : Int)) + 0) := by simp [val, hs, be, List.foldl]
    have e0 : least f.toNat = 281474976710656 := by simp [least, hs]
    have e1 : most f.toNat = 72057594037927935 := by simp [most, hs]
    obtain ⟨i0, i1⟩ := (row_iff f [a1, a2, a3, a4, a5, a6, a7] (by rw [htl]; rfl)).1 hrow
    rw [hv, e0] at i0
    rw [hv, e1] at i1
    rw [htl, htk, hv] at hn
    subst hn
    rw [htl]
    refine ⟨_, _, _, _, _, _, ⟨?_, fun hpos => ?_⟩, nbok7 kp s off len c hoff hc' hbig f a1 a2 a3 a4 a5 a6 a7 t7 hl hs i0 i1⟩
    all_goals (split <;> omega)
  · -- 8 bytes behind
    have htl : tl f.toNat = 8 := by simp [tl, hs]
    have hk := hc.1
    have hrow := hc.2
    rw [htl] at hk hrow
    obtain ⟨a1, t1, rfl, hr1⟩ := cons_le (k := 7) (by omega : 8 ≤ _)
    obtain ⟨a2, t2, rfl, hr2⟩ := cons_le (k := 6) hr1
    obtain ⟨a3, t3, rfl, hr3⟩ := cons_le (k := 5) hr2
    obtain ⟨a4, t4, rfl, hr4⟩ := cons_le (k := 4) hr3
    obtain ⟨a5, t5, rfl, hr5⟩ := cons_le (k := 3) hr4
    obtain ⟨a6, t6, rfl, hr6⟩ := cons_le (k := 2) hr5
    obtain ⟨a7, t7, rfl, hr7⟩ := cons_le (k := 1) hr6
    obtain ⟨a8, t8, rfl, hr8⟩ := cons_le (k := 0) hr7
    have htk : List.take 8 (a1 :: a2 :: a3 :: a4 :: a5 :: a6 :: a7 :: a8 :: t8) = [a1, a2, a3, a4, a5, a6, a7, a8] := by simp
    rw [htk] at hrow
    have hv : val f.toNat [a1, a2, a3, a4, a5, a6, a7, a8] = (((((((((0 * 256 + (a1.toNat : Int)) * 256 + (a2.toNat : Int)) * 256 + (a3.toNat : Int)) * 256 + (a4.toNat : Int)) * 256 + (a5.toNat : Int)) * 256 + (a6.toNat : Int)) * 256 + (a7.toNat : Int)) * 256 + (a8.toNat : Int)) + 0) := by simp [val, hs, be, List.foldl]
    have e0 : least f.toNat = 72057594037927936 := by simp [least, hs]
    have e1 : most f.toNat = 18446744073709551615 := by simp [most, hs]
    obtain ⟨i0, i1⟩ := (row_iff f [a1, a2, a3, a4, a5, a6, a7, a8] (by rw [htl]; rfl)).1 hrow
    rw [hv, e0] at i0
    rw [hv, e1] at i1
    rw [htl, htk, hv] at hn
    subst hn
    rw [htl]
    refine ⟨_, _, _, _, _, _, ⟨?_, fun hpos => ?_⟩, nbok8 kp s off len c hoff hc' hbig f a1 a2 a3 a4 a5 a6 a7 a8 t8 hl hs i0 i1⟩
    all_goals (split <;> omega)

/-- None is ahead. -/
theorem number_bad (kp : Nat) (s : List UInt8) (off len c : Nat) (hls : len ≤ s.length) (ho : 0 < len → off + len = s.length) (hc' : len ≤ c) (hbig : len ≤ 9223372036854775807) (hp : parse (ahead s len) = none) :
    Goal P kp 24 (fun v H => v = .tup [.int .u64 0, .bool false] ∧ H = rd (.slc 1 0 off len c) false (fun j => some (.int .u8 (yy s j))) s.length) (atNum s off len c) ∨
    ∃ (off2 len2 : Nat) (a1 a2 a3 a4 a5 : Int), Goal P kp 24 (fun v H => v = .tup [.int .u64 0, .bool false] ∧ H = rd3 (.slc 1 0 off2 len2 len2) false s a1 a2 a3 a4 a5) (atNum s off len c) := by
  have hal := ahead_length hls
  cases ha : ahead s len with
  | nil =>
    rw [ha] at hal
    obtain rfl : len = 0 := by simpa using hal.symm
    exact .inl (nbempty kp s off c)
  | cons f t =>
  rw [ha] at hp hal
  have hlen : t.length + 1 = len := by simpa using hal
  have hoff := ho (by omega)
  have hl : s.drop off = f :: t := by rw [← ahead_at hoff]; exact ha
  rw [parse_cons] at hp
  split at hp
  · cases hp
  rename_i hc
  clear hp ha hal
  have hf := u8_lt f
  rcases sorts_of f with hs | hs | hs | hs | hs | hs | hs | hs | hs
  · -- 0 bytes behind
    have htl : tl f.toNat = 0 := by simp only [tl, if_pos hs]
    rw [htl] at hc
    have hrow : ¬ row (val f.toNat (t.take 0)) = f :: t.take 0 := fun h => hc ⟨Nat.zero_le _, h⟩
    exfalso
    have hv : val f.toNat [] = (((f.toNat : Int) - 0) + 0) := by simp only [val, if_pos hs]; omega
    have e0 : least f.toNat = 0 := by simp only [least, if_pos hs]
    have e1 : most f.toNat = 240 := by simp only [most, if_pos hs]
    exact hrow ((row_iff f [] (by rw [htl]; rfl)).2 ⟨by rw [hv, e0]; omega, by rw [hv, e1]; omega⟩)
  · -- 1 bytes behind
    have hs1 : ¬ f.toNat ≤ 240 := by omega
    have hs2 := hs.2
    have htl : tl f.toNat = 1 := by simp only [tl, if_neg hs1, if_pos hs2]
    rw [htl] at hc
    by_cases hk : 1 ≤ t.length
    rotate_left
    · exact .inr ⟨_, _, _, _, _, _, _, nbshort1 kp s off len c hoff hc' f t hl hs (by have := congrArg List.length hl; simp at this; omega)⟩
    obtain ⟨a1, t1, rfl, hr1⟩ := cons_le (k := 0) (by omega : 1 ≤ _)
    have htk : List.take 1 (a1 :: t1) = [a1] := by simp
    have := u8_lt a1
    have hrow : ¬ row (val f.toNat [a1]) = f :: [a1] := fun h => hc ⟨hk, by rw [htk]; exact h⟩
    have hv : val f.toNat [a1] = ((((f.toNat : Int) - 241) * 256 + (a1.toNat : Int)) + 240) := by simp only [val, if_neg hs1, if_pos hs2, be, List.foldl]; omega
    have e0 : least f.toNat = 241 := by simp only [least, if_neg hs1, if_pos hs2]
    have e1 : most f.toNat = 2287 := by simp only [most, if_neg hs1, if_pos hs2]
    have hlo : ((((f.toNat : Int) - 241) * 256 + (a1.toNat : Int)) + 240) < 241 := by
      rcases Int.lt_or_le ((((f.toNat : Int) - 241) * 256 + (a1.toNat : Int)) + 240) 241 with h | h
      · exact h
      · exact absurd ((row_iff f [a1] (by rw [htl]; rfl)).2 ⟨by rw [hv, e0]; exact h, by rw [hv, e1]; omega⟩) hrow
    exact .inr ⟨_, _, _, _, _, _, _, nblo1 kp s off len c hoff hc' hbig f a1 t1 hl hs hlo⟩
  · -- 2 bytes behind
    have htl : tl f.toNat = 2 := by simp [tl, hs]
    rw [htl] at hc
    by_cases hk : 2 ≤ t.length
    rotate_left
    · exact .inr ⟨_, _, _, _, _, _, _, nbshort2 kp s off len c hoff hc' f t hl hs (by have := congrArg List.length hl; simp at this; omega)⟩
    obtain ⟨a1, t1, rfl, hr1⟩ := cons_le (k := 1) (by omega : 2 ≤ _)
    obtain ⟨a2, t2, rfl, hr2⟩ := cons_le (k := 0) hr1
    have htk : List.take 2 (a1 :: a2 :: t2) = [a1, a2] := by simp
    have := u8_lt a1
    have := u8_lt a2
    have hrow : ¬ row (val f.toNat [a1, a2]) = f :: [a1, a2] := fun h => hc ⟨hk, by rw [htk]; exact h⟩
    have hv : val f.toNat [a1, a2] = (((0 * 256 + (a1.toNat : Int)) * 256 + (a2.toNat : Int)) + 2288) := by simp [val, hs, be, List.foldl]
    have e0 : least f.toNat = 2288 := by simp [least, hs]
    have e1 : most f.toNat = 67823 := by simp [most, hs]
    have hlo : (((0 * 256 + (a1.toNat : Int)) * 256 + (a2.toNat : Int)) + 2288) < 2288 := by
      rcases Int.lt_or_le (((0 * 256 + (a1.toNat : Int)) * 256 + (a2.toNat : Int)) + 2288) 2288 with h | h
      · exact h
      · exact absurd ((row_iff f [a1, a2] (by rw [htl]; rfl)).2 ⟨by rw [hv, e0]; exact h, by rw [hv, e1]; omega⟩) hrow
    exact .inr ⟨_, _, _, _, _, _, _, nblo2 kp s off len c hoff hc' hbig f a1 a2 t2 hl hs hlo⟩
  · -- 3 bytes behind
    have htl : tl f.toNat = 3 := by simp [tl, hs]
    rw [htl] at hc
    by_cases hk : 3 ≤ t.length
    rotate_left
    · exact .inr ⟨_, _, _, _, _, _, _, nbshort3 kp s off len c hoff hc' f t hl hs (by have := congrArg List.length hl; simp at this; omega)⟩
    obtain ⟨a1, t1, rfl, hr1⟩ := cons_le (k := 2) (by omega : 3 ≤ _)
    obtain ⟨a2, t2, rfl, hr2⟩ := cons_le (k := 1) hr1
    obtain ⟨a3, t3, rfl, hr3⟩ := cons_le (k := 0) hr2
    have htk : List.take 3 (a1 :: a2 :: a3 :: t3) = [a1, a2, a3] := by simp
    have := u8_lt a1
    have := u8_lt a2
    have := u8_lt a3
    have hrow : ¬ row (val f.toNat [a1, a2, a3]) = f :: [a1, a2, a3] := fun h => hc ⟨hk, by rw [htk]; exact h⟩
    have hv : val f.toNat [a1, a2, a3] = ((((0 * 256 + (a1.toNat : Int)) * 256 + (a2.toNat : Int)) * 256 + (a3.toNat : Int)) + 0) := by simp [val, hs, be, List.foldl]
    have e0 : least f.toNat = 67824 := by simp [least, hs]
    have e1 : most f.toNat = 16777215 := by simp [most, hs]
    have hlo : ((((0 * 256 + (a1.toNat : Int)) * 256 + (a2.toNat : Int)) * 256 + (a3.toNat : Int)) + 0) < 67824 := by
      rcases Int.lt_or_le ((((0 * 256 + (a1.toNat : Int)) * 256 + (a2.toNat : Int)) * 256 + (a3.toNat : Int)) + 0) 67824 with h | h
      · exact h
      · exact absurd ((row_iff f [a1, a2, a3] (by rw [htl]; rfl)).2 ⟨by rw [hv, e0]; exact h, by rw [hv, e1]; omega⟩) hrow
    exact .inr ⟨_, _, _, _, _, _, _, nblo3 kp s off len c hoff hc' hbig f a1 a2 a3 t3 hl hs hlo⟩
  · -- 4 bytes behind
    have htl : tl f.toNat = 4 := by simp [tl, hs]
    rw [htl] at hc
    by_cases hk : 4 ≤ t.length
    rotate_left
    · exact .inr ⟨_, _, _, _, _, _, _, nbshort4 kp s off len c hoff hc' f t hl hs (by have := congrArg List.length hl; simp at this; omega)⟩
    obtain ⟨a1, t1, rfl, hr1⟩ := cons_le (k := 3) (by omega : 4 ≤ _)
    obtain ⟨a2, t2, rfl, hr2⟩ := cons_le (k := 2) hr1
    obtain ⟨a3, t3, rfl, hr3⟩ := cons_le (k := 1) hr2
    obtain ⟨a4, t4, rfl, hr4⟩ := cons_le (k := 0) hr3
    have htk : List.take 4 (a1 :: a2 :: a3 :: a4 :: t4) = [a1, a2, a3, a4] := by simp
    have := u8_lt a1
    have := u8_lt a2
    have := u8_lt a3
    have := u8_lt a4
    have hrow : ¬ row (val f.toNat [a1, a2, a3, a4]) = f :: [a1, a2, a3, a4] := fun h => hc ⟨hk, by rw [htk]; exact h⟩
    have hv : val f.toNat [a1, a2, a3, a4] = (((((0 * 256 + (a1.toNat : Int)) * 256 + (a2.toNat : Int)) * 256 + (a3.toNat : Int)) * 256 + (a4.toNat : Int)) + 0) := by simp [val, hs, be, List.foldl]
    have e0 : least f.toNat = 16777216 := by simp [least, hs]
    have e1 : most f.toNat = 4294967295 := by simp [most, hs]
    have hlo : (((((0 * 256 + (a1.toNat : Int)) * 256 + (a2.toNat : Int)) * 256 + (a3.toNat : Int)) * 256 + (a4.toNat : Int)) + 0) < 16777216 := by
      rcases Int.lt_or_le (((((0 * 256 + (a1.toNat : Int)) * 256 + (a2.toNat : Int)) * 256 + (a3.toNat : Int)) * 256 + (a4.toNat : Int)) + 0) 16777216 with h | h
      · exact h
      · exact absurd ((row_iff f [a1, a2, a3, a4] (by rw [htl]; rfl)).2 ⟨by rw [hv, e0]; exact h, by rw [hv, e1]; omega⟩) hrow
    exact .inr ⟨_, _, _, _, _, _, _, nblo4 kp s off len c hoff hc' hbig f a1 a2 a3 a4 t4 hl hs hlo⟩
  · -- 5 bytes behind
    have htl : tl f.toNat = 5 := by simp [tl, hs]
    rw [htl] at hc
    by_cases hk : 5 ≤ t.length
    rotate_left
    · exact .inr ⟨_, _, _, _, _, _, _, nbshort5 kp s off len c hoff hc' f t hl hs (by have := congrArg List.length hl; simp at this; omega)⟩
    obtain ⟨a1, t1, rfl, hr1⟩ := cons_le (k := 4) (by omega : 5 ≤ _)
    obtain ⟨a2, t2, rfl, hr2⟩ := cons_le (k := 3) hr1
    obtain ⟨a3, t3, rfl, hr3⟩ := cons_le (k := 2) hr2
    obtain ⟨a4, t4, rfl, hr4⟩ := cons_le (k := 1) hr3
    obtain ⟨a5, t5, rfl, hr5⟩ := cons_le (k := 0) hr4
    have htk : List.take 5 (a1 :: a2 :: a3 :: a4 :: a5 :: t5) = [a1, a2, a3, a4, a5] := by simp
    have := u8_lt a1
    have := u8_lt a2
    have := u8_lt a3
    have := u8_lt a4
    have := u8_lt a5
    have hrow : ¬ row (val f.toNat [a1, a2, a3, a4, a5]) = f :: [a1, a2, a3, a4, a5] := fun h => hc ⟨hk, by rw [htk]; exact h⟩
    have hv : val f.toNat [a1, a2, a3, a4, a5] = ((((((0 * 256 + (a1.toNat : Int)) * 256 + (a2.toNat : Int)) * 256 + (a3.toNat : Int)) * 256 + (a4.toNat : Int)) * 256 + (a5.toNat : Int)) + 0) := by simp [val, hs, be, List.foldl]
    have e0 : least f.toNat = 4294967296 := by simp [least, hs]
    have e1 : most f.toNat = 1099511627775 := by simp [most, hs]
    have hlo : ((((((0 * 256 + (a1.toNat : Int)) * 256 + (a2.toNat : Int)) * 256 + (a3.toNat : Int)) * 256 + (a4.toNat : Int)) * 256 + (a5.toNat : Int)) + 0) < 4294967296 := by
      rcases Int.lt_or_le ((((((0 * 256 + (a1.toNat : Int)) * 256 + (a2.toNat : Int)) * 256 + (a3.toNat : Int)) * 256 + (a4.toNat : Int)) * 256 + (a5.toNat : Int)) + 0) 4294967296 with h | h
      · exact h
      · exact absurd ((row_iff f [a1, a2, a3, a4, a5] (by rw [htl]; rfl)).2 ⟨by rw [hv, e0]; exact h, by rw [hv, e1]; omega⟩) hrow
    exact .inr ⟨_, _, _, _, _, _, _, nblo5 kp s off len c hoff hc' hbig f a1 a2 a3 a4 a5 t5 hl hs hlo⟩
  · -- 6 bytes behind
    have htl : tl f.toNat = 6 := by simp [tl, hs]
    rw [htl] at hc
    by_cases hk : 6 ≤ t.length
    rotate_left
    · exact .inr ⟨_, _, _, _, _, _, _, nbshort6 kp s off len c hoff hc' f t hl hs (by have := congrArg List.length hl; simp at this; omega)⟩
    obtain ⟨a1, t1, rfl, hr1⟩ := cons_le (k := 5) (by omega : 6 ≤ _)
    obtain ⟨a2, t2, rfl, hr2⟩ := cons_le (k := 4) hr1
    obtain ⟨a3, t3, rfl, hr3⟩ := cons_le (k := 3) hr2
    obtain ⟨a4, t4, rfl, hr4⟩ := cons_le (k := 2) hr3
    obtain ⟨a5, t5, rfl, hr5⟩ := cons_le (k := 1) hr4
    obtain ⟨a6, t6, rfl, hr6⟩ := cons_le (k := 0) hr5
    have htk : List.take 6 (a1 :: a2 :: a3 :: a4 :: a5 :: a6 :: t6) = [a1, a2, a3, a4, a5, a6] := by simp
    have := u8_lt a1
    have := u8_lt a2
    have := u8_lt a3
    have := u8_lt a4
    have := u8_lt a5
    have := u8_lt a6
    have hrow : ¬ row (val f.toNat [a1, a2, a3, a4, a5, a6]) = f :: [a1, a2, a3, a4, a5, a6] := fun h => hc ⟨hk, by rw [htk]; exact h⟩
    have hv : val f.toNat [a1, a2, a3, a4, a5, a6] = (((((((0 * 256 + (a1.toNat : Int)) * 256 + (a2.toNat : Int)) * 256 + (a3.toNat : Int)) * 256 + (a4.toNat : Int)) * 256 + (a5.toNat : Int)) * 256 + (a6.toNat : Int)) + 0) := by simp [val, hs, be, List.foldl]
    have e0 : least f.toNat = 1099511627776 := by simp [least, hs]
    have e1 : most f.toNat = 281474976710655 := by simp [most, hs]
    have hlo : (((((((0 * 256 + (a1.toNat : Int)) * 256 + (a2.toNat : Int)) * 256 + (a3.toNat : Int)) * 256 + (a4.toNat : Int)) * 256 + (a5.toNat : Int)) * 256 + (a6.toNat : Int)) + 0) < 1099511627776 := by
      rcases Int.lt_or_le (((((((0 * 256 + (a1.toNat : Int)) * 256 + (a2.toNat : Int)) * 256 + (a3.toNat : Int)) * 256 + (a4.toNat : Int)) * 256 + (a5.toNat : Int)) * 256 + (a6.toNat : Int)) + 0) 1099511627776 with h | h
      · exact h
      · exact absurd ((row_iff f [a1, a2, a3, a4, a5, a6] (by rw [htl]; rfl)).2 ⟨by rw [hv, e0]; exact h, by rw [hv, e1]; omega⟩) hrow
    exact .inr ⟨_, _, _, _, _, _, _, nblo6 kp s off len c hoff hc' hbig f a1 a2 a3 a4 a5 a6 t6 hl hs hlo⟩
  · -- 7 bytes behind
    have htl : tl f.toNat = 7 := by simp [tl, hs]
    rw [htl] at hc
    by_cases hk : 7 ≤ t.length
    rotate_left
    · exact .inr ⟨_, _, _, _, _, _, _, nbshort7 kp s off len c hoff hc' f t hl hs (by have := congrArg List.length hl; simp at this; omega)⟩
    obtain ⟨a1, t1, rfl, hr1⟩ := cons_le (k := 6) (by omega : 7 ≤ _)
    obtain ⟨a2, t2, rfl, hr2⟩ := cons_le (k := 5) hr1
    obtain ⟨a3, t3, rfl, hr3⟩ := cons_le (k := 4) hr2
    obtain ⟨a4, t4, rfl, hr4⟩ := cons_le (k := 3) hr3
    obtain ⟨a5, t5, rfl, hr5⟩ := cons_le (k := 2) hr4
    obtain ⟨a6, t6, rfl, hr6⟩ := cons_le (k := 1) hr5
    obtain ⟨a7, t7, rfl, hr7⟩ := cons_le (k := 0) hr6
    have htk : List.take 7 (a1 :: a2 :: a3 :: a4 :: a5 :: a6 :: a7 :: t7) = [a1, a2, a3, a4, a5, a6, a7] := by simp
    have := u8_lt a1
    have := u8_lt a2
    have := u8_lt a3
    have := u8_lt a4
    have := u8_lt a5
    have := u8_lt a6
    have := u8_lt a7
    have hrow : ¬ row (val f.toNat [a1, a2, a3, a4, a5, a6, a7]) = f :: [a1, a2, a3, a4, a5, a6, a7] := fun h => hc ⟨hk, by rw [htk]; exact h⟩
    have hv : val f.toNat [a1, a2, a3, a4, a5, a6, a7] = ((((((((0 * 256 + (a1.toNat : Int)) * 256 + (a2.toNat : Int)) * 256 + (a3.toNat : Int)) * 256 + (a4.toNat : Int)) * 256 + (a5.toNat : Int)) * 256 + (a6.toNat : Int)) * 256 + (a7.toNat : Int)) + 0) := by simp [val, hs, be, List.foldl]
    have e0 : least f.toNat = 281474976710656 := by simp [least, hs]
    have e1 : most f.toNat = 72057594037927935 := by simp [most, hs]
    have hlo : ((((((((0 * 256 + (a1.toNat : Int)) * 256 + (a2.toNat : Int)) * 256 + (a3.toNat : Int)) * 256 + (a4.toNat : Int)) * 256 + (a5.toNat : Int)) * 256 + (a6.toNat : Int)) * 256 + (a7.toNat : Int)) + 0) < 281474976710656 := by
      rcases Int.lt_or_le ((((((((0 * 256 + (a1.toNat : Int)) * 256 + (a2.toNat : Int)) * 256 + (a3.toNat : Int)) * 256 + (a4.toNat : Int)) * 256 + (a5.toNat : Int)) * 256 + (a6.toNat : Int)) * 256 + (a7.toNat : Int)) + 0) 281474976710656 with h | h
      · exact h
      · exact absurd ((row_iff f [a1, a2, a3, a4, a5, a6, a7] (by rw [htl]; rfl)).2 ⟨by rw [hv, e0]; exact h, by rw [hv, e1]; omega⟩) hrow
    exact .inr ⟨_, _, _, _, _, _, _, nblo7 kp s off len c hoff hc' hbig f a1 a2 a3 a4 a5 a6 a7 t7 hl hs hlo⟩
  · -- 8 bytes behind
    have htl : tl f.toNat = 8 := by simp [tl, hs]
    rw [htl] at hc
    by_cases hk : 8 ≤ t.length
    rotate_left
    · exact .inr ⟨_, _, _, _, _, _, _, nbshort8 kp s off len c hoff hc' f t hl hs (by have := congrArg List.length hl; simp at this; omega)⟩
    obtain ⟨a1, t1, rfl, hr1⟩ := cons_le (k := 7) (by omega : 8 ≤ _)
    obtain ⟨a2, t2, rfl, hr2⟩ := cons_le (k := 6) hr1
    obtain ⟨a3, t3, rfl, hr3⟩ := cons_le (k := 5) hr2
    obtain ⟨a4, t4, rfl, hr4⟩ := cons_le (k := 4) hr3
    obtain ⟨a5, t5, rfl, hr5⟩ := cons_le (k := 3) hr4
    obtain ⟨a6, t6, rfl, hr6⟩ := cons_le (k := 2) hr5
    obtain ⟨a7, t7, rfl, hr7⟩ := cons_le (k := 1) hr6
    obtain ⟨a8, t8, rfl, hr8⟩ := cons_le (k := 0) hr7
    have htk : List.take 8 (a1 :: a2 :: a3 :: a4 :: a5 :: a6 :: a7 :: a8 :: t8) = [a1, a2, a3, a4, a5, a6, a7, a8] := by simp
    have := u8_lt a1
    have := u8_lt a2
    have := u8_lt a3
    have := u8_lt a4
    have := u8_lt a5
    have := u8_lt a6
    have := u8_lt a7
    have := u8_lt a8
    have hrow : ¬ row (val f.toNat [a1, a2, a3, a4, a5, a6, a7, a8]) = f :: [a1, a2, a3, a4, a5, a6, a7, a8] := fun h => hc ⟨hk, by rw [htk]; exact h⟩
    have hv : val f.toNat [a1, a2, a3, a4, a5, a6, a7, a8] = (((((((((0 * 256 + (a1.toNat : Int)) * 256 + (a2.toNat : Int)) * 256 + (a3.toNat : Int)) * 256 + (a4.toNat : Int)) * 256 + (a5.toNat : Int)) * 256 + (a6.toNat : Int)) * 256 + (a7.toNat : Int)) * 256 + (a8.toNat : Int)) + 0) := by simp [val, hs, be, List.foldl]
    have e0 : least f.toNat = 72057594037927936 := by simp [least, hs]
    have e1 : most f.toNat = 18446744073709551615 := by simp [most, hs]
    have hlo : (((((((((0 * 256 + (a1.toNat : Int)) * 256 + (a2.toNat : Int)) * 256 + (a3.toNat : Int)) * 256 + (a4.toNat : Int)) * 256 + (a5.toNat : Int)) * 256 + (a6.toNat : Int)) * 256 + (a7.toNat : Int)) * 256 + (a8.toNat : Int)) + 0) < 72057594037927936 := by
      rcases Int.lt_or_le (((((((((0 * 256 + (a1.toNat : Int)) * 256 + (a2.toNat : Int)) * 256 + (a3.toNat : Int)) * 256 + (a4.toNat : Int)) * 256 + (a5.toNat : Int)) * 256 + (a6.toNat : Int)) * 256 + (a7.toNat : Int)) * 256 + (a8.toNat : Int)) + 0) 72057594037927936 with h | h
      · exact h
      · exact absurd ((row_iff f [a1, a2, a3, a4, a5, a6, a7, a8] (by rw [htl]; rfl)).2 ⟨by rw [hv, e0]; exact h, by rw [hv, e1]; omega⟩) hrow
    exact .inr ⟨_, _, _, _, _, _, _, nblo8 kp s off len c hoff hc' hbig f a1 a2 a3 a4 a5 a6 a7 a8 t8 hl hs hlo⟩

/-- Reader.Num where a number is ahead. -/
theorem num_ok (kp : Nat) (s : List UInt8) (off len c : Nat) (hls : len ≤ s.length) (ho : 0 < len → off + len = s.length) (hc' : len ≤ c) (hbig : len ≤ 9223372036854775807) {n : Int} {k : Nat} (hp : parse (ahead s len) = some (n, k)) :
    ∃ (off2 : Nat) (a1 a2 a3 a4 a5 : Int), (0 < len - k → off2 + (len - k) = s.length) ∧ Goal P kp 14 (fun v H => v = .int .u64 n ∧ H = rd3 (.slc 1 0 off2 (len - k) (len - k)) false s a1 a2 a3 a4 a5) (startH P 14 [.ptr 0 0 0] (rd (.slc 1 0 off len c) false (fun j => some (.int .u8 (yy s j))) s.length)) := by
  obtain ⟨off2, a1, a2, a3, a4, a5, h1, h2⟩ := number_ok 2 s off len c hls ho hc' hbig hp
  exact ⟨off2, a1, a2, a3, a4, a5, h1.2, Obl.goal (K := fun _ => False) mix (fun _ h => h.elim) (cast (numO s off len c off2 (len - k) n a1 a2 a3 a4 a5 _ kp _).symm ⟨plain_yy s, plain_yy s, h2, rfl, rfl⟩)⟩

/-- Reader.Num where none is. -/
theorem num_bad (kp : Nat) (s : List UInt8) (off len c : Nat) (hls : len ≤ s.length) (ho : 0 < len → off + len = s.length) (hc' : len ≤ c) (hbig : len ≤ 9223372036854775807) (hp : parse (ahead s len) = none) :
    Goal P kp 14 (fun v H => v = .int .u64 0 ∧ H = rd (.nils 0 0) true (fun j => some (.int .u8 (yy s j))) s.length) (startH P 14 [.ptr 0 0 0] (rd (.slc 1 0 off len c) false (fun j => some (.int .u8 (yy s j))) s.length)) ∨
    ∃ (a1 a2 a3 a4 a5 : Int), Goal P kp 14 (fun v H => v = .int .u64 0 ∧ H = rd3 (.nils 0 0) true s a1 a2 a3 a4 a5) (startH P 14 [.ptr 0 0 0] (rd (.slc 1 0 off len c) false (fun j => some (.int .u8 (yy s j))) s.length)) := by
  rcases number_bad 2 s off len c hls ho hc' hbig hp with h | ⟨off2, len2, a1, a2, a3, a4, a5, h⟩
  · exact .inl (Obl.goal (K := fun _ => False) mix (fun _ h => h.elim) (cast (numE s off len c _ kp _).symm ⟨plain_yy s, plain_yy s, h, rfl, rfl⟩))
  · exact .inr ⟨a1, a2, a3, a4, a5, Obl.goal (K := fun _ => False) mix (fun _ h => h.elim) (cast (numB s off len c off2 len2 a1 a2 a3 a4 a5 _ kp _).symm ⟨plain_yy s, plain_yy s, h, rfl, rfl⟩)⟩

end Go.Proofs.Ytmnelckaighmkaa.wireR
