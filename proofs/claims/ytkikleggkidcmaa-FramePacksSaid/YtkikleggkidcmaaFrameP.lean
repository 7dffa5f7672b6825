/- Contracts of package frame's Pack, and of the reference's: the frame of any bytes. -/
import Derived.Test.YtkikleggkidcmaaRows
import Derived.Test.YtkikleggkidcmaaEvZ
import Derived.WalkKit
import Derived.WalkSpells
import Derived.WalkLawsBesides
import Derived.Laws.BytesString
import Derived.Laws.IdiomStrings
namespace Go.Proofs.Ytkikleggkidcmaa
open Go.RowKit

def Res (v : Value) (w : World) (e : Ending) (w' : World) : Prop := e = .returned v ∧ Below w.heap.size w w'

theorem worksRan : Ev.boolA Try.prog 60000 14 = true := by decide +kernel

theorem works_any (w : World) : Calls Try.prog 14 #[] w (Res (.bool true) w) :=
  (Ev.boolA_calls (Checked.mixed Try.checked) worksRan w).mono fun e w' ⟨h1, h2⟩ => ⟨h1, h2.os, h2.tape, h2.output, h2.size, h2.other⟩

theorem pack_bytes (n : Nat) (hn : n ≤ 8192) (w : World) : (convert 36 9 (.slice (some ⟨w.heap.size, 0, none⟩) 2 2)).run Try.prog (w.alloc (.cells #[.int .u8 ((n : Int) / 256), .int .u8 ((n : Int) % 256)] 5)) =
    .ok (.string ⟨#[UInt8.ofNat (n / 256), UInt8.ofNat (n % 256)]⟩) (w.alloc (.cells #[.int .u8 ((n : Int) / 256), .int .u8 ((n : Int) % 256)] 5)) := by
  refine run_convert_bytes_back _ 36 9 5 ⟨w.heap.size, 0, none⟩ 2 [UInt8.ofNat (n / 256), UInt8.ofNat (n % 256)] (by kernel_rfl) (by kernel_rfl) (by kernel_rfl) fun j hj => ?_
  have hc : ∀ (k : Nat) v, (#[Value.int .u8 ((n : Int) / 256), Value.int .u8 ((n : Int) % 256)] : Array Value)[k]? = some v → (w.alloc (.cells #[.int .u8 ((n : Int) / 256), .int .u8 ((n : Int) % 256)] 5)).cell? ⟨w.heap.size, k, none⟩ = some v := by
    intro k v hv
    unfold World.cell?
    show (match (w.heap.push (Obj.cells #[.int .u8 ((n : Int) / 256), .int .u8 ((n : Int) % 256)] 5))[w.heap.size]? with | some (.cells c _ _) => c[k]? | _ => none) = some v
    simpa using hv
  match j, hj with
  | 0, _ =>
    refine hc 0 _ ?_
    have : (UInt8.ofNat (n / 256)).toNat = n / 256 := by simp; omega
    simp [this]
  | 1, _ =>
    refine hc 1 _ ?_
    have : (UInt8.ofNat (n % 256)).toNat = n % 256 := by simp
    simp [this]
  | k + 2, hj => simp at hj; omega

theorem not_empty {s : ByteArray} (h : ¬ s.size = 0) : s.toList.isEmpty = false := by
  obtain ⟨⟨l⟩⟩ := s
  rw [show (ByteArray.mk (Array.mk l)).toList = l from Ev.bytes_toList l]
  cases l with
  | nil => exact absurd rfl h
  | cons a l => rfl

theorem is_empty {s : ByteArray} (h : s.size = 0) : s = ⟨#[]⟩ := by
  apply ByteArray.ext
  exact Array.eq_empty_of_size_eq_zero h

def packed (s : ByteArray) : ByteArray := ⟨#[UInt8.ofNat (s.size / 256), UInt8.ofNat (s.size % 256)]⟩ ++ s

set_option maxHeartbeats 1000000 in
theorem pack_mid (s : ByteArray) (h0 : ¬ s.size = 0) (h1 : s.size ≤ 8192) (w : World) : Calls Try.prog 15 #[.string s] w (Res (.tuple #[.string (packed s), .int .i64 0]) w) := by
  have e0 : ¬ (s.size : Int) = 0 := by omega
  have e1 : ¬ (s.size : Int) > 8192 := by omega
  have hp : (⟨#[UInt8.ofNat (s.size / 256), UInt8.ofNat (s.size % 256)]⟩ ++ s : ByteArray) = packed s := rfl
  go_enter Try.func15, Try.ntmps15
  go_wp2_with (first | simp only [pack_bytes s.size h1])
  go_ret2
  exact ⟨rfl, (Below.refl _ _).alloc (Nat.le_refl _) _⟩

set_option maxHeartbeats 1000000 in
theorem rpack_mid (s : ByteArray) (h0 : ¬ s.size = 0) (h1 : s.size ≤ 8192) (w : World) : Calls Try.prog 16 #[.string s] w (Res (.tuple #[.string (packed s), .int .i64 0]) w) := by
  have e0 : ¬ (s.size : Int) = 0 := by omega
  have e1 : ¬ (s.size : Int) > 8192 := by omega
  have e2 := not_empty h0
  have hp : (⟨#[UInt8.ofNat (s.size / 256), UInt8.ofNat (s.size % 256)]⟩ ++ s : ByteArray) = packed s := rfl
  go_enter Try.func16, Try.ntmps16
  go_wp2_with (first | simp only [pack_bytes s.size h1])
  go_ret2
  exact ⟨rfl, (Below.refl _ _).alloc (Nat.le_refl _) _⟩

set_option maxHeartbeats 1000000 in
theorem pack_none (w : World) : Calls Try.prog 15 #[.string ⟨#[]⟩] w (Res (.tuple #[.string ⟨#[]⟩, .int .i64 2]) w) := by
  go_enter Try.func15, Try.ntmps15
  go_wp2
  go_ret2
  exact ⟨rfl, Below.refl _ _⟩

set_option maxHeartbeats 1000000 in
theorem rpack_none (w : World) : Calls Try.prog 16 #[.string ⟨#[]⟩] w (Res (.tuple #[.string ⟨#[]⟩, .int .i64 2]) w) := by
  go_enter Try.func16, Try.ntmps16
  go_wp2
  go_ret2
  exact ⟨rfl, Below.refl _ _⟩

set_option maxHeartbeats 1000000 in
theorem pack_long (s : ByteArray) (h1 : ¬ s.size ≤ 8192) (w : World) : Calls Try.prog 15 #[.string s] w (Res (.tuple #[.string ⟨#[]⟩, .int .i64 3]) w) := by
  have e0 : ¬ (s.size : Int) = 0 := by omega
  have e1 : (s.size : Int) > 8192 := by omega
  go_enter Try.func15, Try.ntmps15
  go_wp2
  go_ret2
  exact ⟨rfl, Below.refl _ _⟩

set_option maxHeartbeats 1000000 in
theorem rpack_long (s : ByteArray) (h1 : ¬ s.size ≤ 8192) (w : World) : Calls Try.prog 16 #[.string s] w (Res (.tuple #[.string ⟨#[]⟩, .int .i64 3]) w) := by
  have e1 : (s.size : Int) > 8192 := by omega
  have e2 := not_empty (s := s) (by omega)
  go_enter Try.func16, Try.ntmps16
  go_wp2
  go_ret2
  exact ⟨rfl, Below.refl _ _⟩

theorem below2 {w0 w w1 : World} (h : Below w0.heap.size w0 w) (g : Below w.heap.size w w1) : Below w0.heap.size w0 w1 := h.trans (g.mono h.size)

set_option maxHeartbeats 1000000 in
theorem packs_with (s p : ByteArray) (r : Int) (c : ∀ w, Calls Try.prog 15 #[.string s] w (Res (.tuple #[.string p, .int .i64 r]) w))
    (d : ∀ w, Calls Try.prog 16 #[.string s] w (Res (.tuple #[.string p, .int .i64 r]) w)) (w : World) :
    Calls Try.prog 4 #[.string s] w (Res (.bool true) w) := by
  go_enter Try.func4, Try.ntmps4
  go_wp2_with (first
    | (go_at_call 15; refine (c _).mono ?_; rintro e w1 ⟨rfl, g1⟩)
    | (go_at_call 16; refine (d _).mono ?_; rintro e w2 ⟨rfl, g2⟩)
    | (go_at_call 14; refine (works_any _).mono ?_; rintro e w3 ⟨rfl, g3⟩))
  go_ret
  exact ⟨rfl, below2 (below2 g1 g2) g3⟩

theorem packs_any (s : ByteArray) (w : World) : Calls Try.prog 4 #[.string s] w (Res (.bool true) w) := by
  by_cases h0 : s.size = 0
  · rw [is_empty h0]
    exact packs_with _ _ _ pack_none rpack_none w
  · by_cases h1 : s.size ≤ 8192
    · exact packs_with s _ _ (pack_mid s h0 h1) (rpack_mid s h0 h1) w
    · exact packs_with s _ _ (pack_long s h1) (rpack_long s h1) w

end Go.Proofs.Ytkikleggkidcmaa
