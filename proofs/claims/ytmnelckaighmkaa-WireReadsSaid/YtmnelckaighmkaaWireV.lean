/- The program's reading of a number: what comes of each sort of row. -/
import Derived.Test.YtmnelckaighmkaaWireU
set_option maxRecDepth 100000
namespace Go.Proofs.Ytmnelckaighmkaa.wireR
open Go Ev

theorem gtf {a b : Int} (h : a ≤ b) : decide (a > b) = false := decide_eq_false (by omega)
theorem gtt {a b : Int} (h : b < a) : decide (a > b) = true := decide_eq_true h
theorem leT {a b : Int} (h : a ≤ b) : decide (a ≤ b) = true := decide_eq_true h
theorem leF {a b : Int} (h : b < a) : decide (a ≤ b) = false := decide_eq_false (by omega)

/-- The bytes of a text. -/
def yy (s : List UInt8) (j : Nat) : Int := ((s.getD j 0).toNat : Int)

theorem yy_at {s l : List UInt8} {off : Nat} (h : s.drop off = l) (j : Nat) : yy s (off + j) = ((l.getD j 0).toNat : Int) := by
  rw [yy, ← h, List.getD_eq_getElem?_getD, List.getD_eq_getElem?_getD, List.getElem?_drop]

/-- One more byte. -/
theorem acc_eq (v b : Int) (h0 : 0 ≤ v) (h1 : v < 72057594037927936) (h2 : 0 ≤ b) (h3 : b < 256) :
    IntKind.u64.wrap (↑(BitVec.ofInt 64 (IntKind.u64.wrap (v * 2 ^ min (Int.toNat 8) IntKind.u64.bits)) ||| BitVec.ofInt 64 (IntKind.u64.wrap b)).toNat : Int) = v * 256 + b := by
  have p : (2 ^ min (Int.toNat 8) IntKind.u64.bits : Int) = 256 := by decide
  have w1 : IntKind.u64.wrap (v * 256) = v * 256 := IntWalk.u64_in _ (by omega)
  have w2 : IntKind.u64.wrap b = b := IntWalk.u64_in _ (by omega)
  obtain ⟨n, rfl⟩ := Int.eq_ofNat_of_zero_le h0
  obtain ⟨k, rfl⟩ := Int.eq_ofNat_of_zero_le h2
  have hv : (BitVec.ofInt 64 ((n : Int) * 256)).toNat = n * 256 := by
    rw [BitVec.toNat_ofInt, Int.emod_eq_of_lt (by omega) (by omega)]; omega
  have hb : (BitVec.ofInt 64 (k : Int)).toNat = k := by
    rw [BitVec.toNat_ofInt, Int.emod_eq_of_lt (by omega) (by omega)]; omega
  have ho : n * 256 ||| k = n * 256 + k := by
    have := Nat.shiftLeft_add_eq_or_of_lt (show k < 2 ^ 8 by omega) n
    rw [Nat.shiftLeft_eq] at this
    exact this.symm
  rw [p, w1, w2, BitVec.toNat_or, hv, hb, ho]
  rw [IntWalk.u64_in _ (by omega)]
  omega

/-- A reader, and a row that it looked at. -/
noncomputable def rd3 (A : AV) (sp : Bool) (s : List UInt8) (a b c d e : Int) : AHeap := ⟨(.node (.node .leaf (some (.cells (.fn fun j => some (AV.int IntKind.u8 (yy s j))) s.length 5 0 0 1 0 true .leaf)) .leaf) (some (.cells (.node (.node .leaf (some (.bool sp)) .leaf) (some A) .leaf) 2 46 0 0 1 0 false .leaf)) (.node .leaf (some (.cells (.node (.node (.node .leaf (some (.int .u64 a)) .leaf) (some (.int .u64 b)) .leaf) (some (.int .u8 c)) (.node (.node .leaf (some (.int .i64 d)) .leaf) (some (.int .u64 e)) .leaf)) 5 53 0 0 1 0 false .leaf)) .leaf)), 3, .leaf⟩

noncomputable abbrev atNum (s : List UInt8) (off len c : Nat) : AM := startH P 24 [.fn (.func 25) [.ptr 0 0 0] []] (rd (.slc 1 0 off len c) false (fun j => some (.int .u8 (yy s j))) s.length)

/-- Nothing is ahead. -/
theorem nbempty (kp : Nat) (s : List UInt8) (off c : Nat) : Goal P kp 24 (fun v H => v = .tup [.int .u64 0, .bool false] ∧ H = rd (.slc 1 0 off 0 c) false (fun j => some (.int .u8 (yy s j))) s.length) (atNum s off 0 c) :=
  Obl.goal (K := fun _ => False) mix (fun _ h => h.elim) (cast (nb0xy (yy s) off 0 c s.length _ kp _).symm ⟨gtt (by rw [IntWalk.u64_in _ (by omega)]; decide), rfl, rfl⟩)

theorem nbok0 (kp : Nat) (s : List UInt8) (off len c : Nat) (hoff : off + len = s.length) (hc : len ≤ c) (hbig : len ≤ 9223372036854775807) (f : UInt8) (r : List UInt8) (hl : s.drop off = f :: r) (hf0 : f.toNat ≤ 240) (h0 : 0 ≤ (((f.toNat : Int) - 0) + 0)) (h1 : (((f.toNat : Int) - 0) + 0) ≤ 240) :
    Goal P kp 24 (fun v H => v = .tup [.int .u64 (((f.toNat : Int) - 0) + 0), .bool true] ∧ H = rd3 (.slc 1 0 (if len - 1 = 0 then (if len = 1 then off else off + 1) else (if len = 1 then off else off + 1)) (len - 1 - 0) (len - 1 - 0)) false s 240 0 0 0 0) (atNum s off len c) := by
  have hf := u8_lt f
  have hlen : 1 ≤ len := by have := congrArg List.length hl; simp at this; omega
  have y0 : yy s off = f.toNat := by have := yy_at hl 0; simpa using this
  have hlk : 1 ≤ len := by have := congrArg List.length hl; simp at this; omega
  have w1 : IntKind.u64.wrap (len : Int) = len := IntWalk.u64_in _ (by omega)
  have z0 : IntKind.u64.wrap (IntKind.u8.wrap ((f.toNat : Int) - Int.ofNat 0)) = ((f.toNat : Int) - 0) := by
    rw [IntWalk.u8_in _ (by show 0 ≤ (f.toNat : Int) - 0 ∧ (f.toNat : Int) - 0 ≤ 255; omega), IntWalk.u64_in _ (by show 0 ≤ (f.toNat : Int) - 0 ∧ (f.toNat : Int) - 0 ≤ _; omega)]
    show (f.toNat : Int) - 0 = _
    omega
  have wV : IntKind.u64.wrap (((f.toNat : Int) - 0) + Int.ofNat 0) = (((f.toNat : Int) - 0) + 0) := IntWalk.u64_in _ (by show 0 ≤ ((f.toNat : Int) - 0) + 0 ∧ ((f.toNat : Int) - 0) + 0 ≤ _; omega)
  refine Obl.goal (K := fun _ => False) mix (fun _ h => h.elim) (cast (nb0xnyy (yy s) off len c s.length _ kp _).symm ?_)
  simp only [Int.toNat_natCast, y0, w1, z0, wV]
  exact ⟨gtf (by show (1 : Int) ≤ _; omega), ⟨by show ((0 : Int) ≤ 1 ∧ (1 : Int) ≤ c); omega, by decide⟩, ⟨by omega, by show ((0 : Int) ≤ 1 ∧ (1 : Int) ≤ _); omega⟩, by omega, from0 (f.toNat : Int) (by omega) (by omega), ⟨by omega, by show ((0 : Int) ≤ 0 ∧ (0 : Int) ≤ _); omega⟩, by omega, leT (by show (0 : Int) ≤ _; omega), leT (by show _ ≤ (240 : Int); omega), by first | exact ⟨rfl, rfl⟩ | exact ⟨trivial, rfl⟩ | exact ⟨trivial, trivial⟩⟩

theorem nblo0 (kp : Nat) (s : List UInt8) (off len c : Nat) (hoff : off + len = s.length) (hc : len ≤ c) (hbig : len ≤ 9223372036854775807) (f : UInt8) (r : List UInt8) (hl : s.drop off = f :: r) (hf0 : f.toNat ≤ 240) (h0 : (((f.toNat : Int) - 0) + 0) < 0) :
    Goal P kp 24 (fun v H => v = .tup [.int .u64 0, .bool false] ∧ H = rd3 (.slc 1 0 (if len - 1 = 0 then (if len = 1 then off else off + 1) else (if len = 1 then off else off + 1)) (len - 1 - 0) (len - 1 - 0)) false s 240 0 0 0 0) (atNum s off len c) := by
  have hf := u8_lt f
  have hlen : 1 ≤ len := by have := congrArg List.length hl; simp at this; omega
  have y0 : yy s off = f.toNat := by have := yy_at hl 0; simpa using this
  have hlk : 1 ≤ len := by have := congrArg List.length hl; simp at this; omega
  have w1 : IntKind.u64.wrap (len : Int) = len := IntWalk.u64_in _ (by omega)
  have z0 : IntKind.u64.wrap (IntKind.u8.wrap ((f.toNat : Int) - Int.ofNat 0)) = ((f.toNat : Int) - 0) := by
    rw [IntWalk.u8_in _ (by show 0 ≤ (f.toNat : Int) - 0 ∧ (f.toNat : Int) - 0 ≤ 255; omega), IntWalk.u64_in _ (by show 0 ≤ (f.toNat : Int) - 0 ∧ (f.toNat : Int) - 0 ≤ _; omega)]
    show (f.toNat : Int) - 0 = _
    omega
  have wV : IntKind.u64.wrap (((f.toNat : Int) - 0) + Int.ofNat 0) = (((f.toNat : Int) - 0) + 0) := IntWalk.u64_in _ (by show 0 ≤ ((f.toNat : Int) - 0) + 0 ∧ ((f.toNat : Int) - 0) + 0 ≤ _; omega)
  refine Obl.goal (K := fun _ => False) mix (fun _ h => h.elim) (cast (nb0xnn (yy s) off len c s.length _ kp _).symm ?_)
  simp only [Int.toNat_natCast, y0, w1, z0, wV]
  exact ⟨gtf (by show (1 : Int) ≤ _; omega), ⟨by show ((0 : Int) ≤ 1 ∧ (1 : Int) ≤ c); omega, by decide⟩, ⟨by omega, by show ((0 : Int) ≤ 1 ∧ (1 : Int) ≤ _); omega⟩, by omega, from0 (f.toNat : Int) (by omega) (by omega), ⟨by omega, by show ((0 : Int) ≤ 0 ∧ (0 : Int) ≤ _); omega⟩, by omega, leF (by show _ < (0 : Int); omega), by first | exact ⟨rfl, rfl⟩ | exact ⟨trivial, rfl⟩ | exact ⟨trivial, trivial⟩⟩

theorem nbok1 (kp : Nat) (s : List UInt8) (off len c : Nat) (hoff : off + len = s.length) (hc : len ≤ c) (hbig : len ≤ 9223372036854775807) (f a1 : UInt8) (r : List UInt8) (hl : s.drop off = f :: a1 :: r) (hf0 : 241 ≤ f.toNat ∧ f.toNat < 249) (h0 : 241 ≤ ((((f.toNat : Int) - 241) * 256 + (a1.toNat : Int)) + 240)) (h1 : ((((f.toNat : Int) - 241) * 256 + (a1.toNat : Int)) + 240) ≤ 2287) :
    Goal P kp 24 (fun v H => v = .tup [.int .u64 ((((f.toNat : Int) - 241) * 256 + (a1.toNat : Int)) + 240), .bool true] ∧ H = rd3 (.slc 1 0 (if len - 1 = 1 then off + 1 else off + 1 + 1) (len - 1 - 1) (len - 1 - 1)) false s 2287 240 241 1 241) (atNum s off len c) := by
  have hf := u8_lt f
  have ha1 := u8_lt a1
  have hlen : 1 ≤ len := by have := congrArg List.length hl; simp at this; omega
  have y0 : yy s off = f.toNat := by have := yy_at hl 0; simpa using this
  have hlk : 2 ≤ len := by have := congrArg List.length hl; simp at this; omega
  have y1 : yy s (off + 1) = a1.toNat := by have := yy_at hl 1; simp at this; rw [← this]
  have w1 : IntKind.u64.wrap (len : Int) = len := IntWalk.u64_in _ (by omega)
  have w2 : IntKind.u64.wrap ((len - 1 : Nat) : Int) = (len - 1 : Nat) := IntWalk.u64_in _ (by omega)
  have e1 : (if len = 1 then off else off + 1) = off + 1 := if_neg (by omega)
  have z0 : IntKind.u64.wrap (IntKind.u8.wrap ((f.toNat : Int) - Int.ofNat 241)) = ((f.toNat : Int) - 241) := by
    rw [IntWalk.u8_in _ (by show 0 ≤ (f.toNat : Int) - 241 ∧ (f.toNat : Int) - 241 ≤ 255; omega), IntWalk.u64_in _ (by show 0 ≤ (f.toNat : Int) - 241 ∧ (f.toNat : Int) - 241 ≤ _; omega)]
    show (f.toNat : Int) - 241 = _
    omega
  have A1 := acc_eq ((f.toNat : Int) - 241) a1.toNat (by omega) (by omega) (by omega) (by omega)
  have wV : IntKind.u64.wrap ((((f.toNat : Int) - 241) * 256 + (a1.toNat : Int)) + Int.ofNat 240) = ((((f.toNat : Int) - 241) * 256 + (a1.toNat : Int)) + 240) := IntWalk.u64_in _ (by show 0 ≤ (((f.toNat : Int) - 241) * 256 + (a1.toNat : Int)) + 240 ∧ (((f.toNat : Int) - 241) * 256 + (a1.toNat : Int)) + 240 ≤ _; omega)
  refine Obl.goal (K := fun _ => False) mix (fun _ h => h.elim) (cast (nb1xnnyy (yy s) off len c s.length _ kp _).symm ?_)
  simp only [Int.toNat_natCast, e1, y0, w1, w2, z0, wV, y1, A1]
  exact ⟨gtf (by show (1 : Int) ≤ _; omega), ⟨by show ((0 : Int) ≤ 1 ∧ (1 : Int) ≤ c); omega, by decide⟩, ⟨by omega, by show ((0 : Int) ≤ 1 ∧ (1 : Int) ≤ _); omega⟩, by omega, from1 (f.toNat : Int) (by omega) (by omega), gtf (by show (1 : Int) ≤ _; omega), ⟨by show ((0 : Int) ≤ 1 ∧ (1 : Int) ≤ _); omega, by decide⟩, ⟨by omega, by show ((0 : Int) ≤ 1 ∧ (1 : Int) ≤ _); omega⟩, by omega, by omega, leT (by show (241 : Int) ≤ _; omega), leT (by show _ ≤ (2287 : Int); omega), by first | exact ⟨rfl, rfl⟩ | exact ⟨trivial, rfl⟩ | exact ⟨trivial, trivial⟩⟩

theorem nblo1 (kp : Nat) (s : List UInt8) (off len c : Nat) (hoff : off + len = s.length) (hc : len ≤ c) (hbig : len ≤ 9223372036854775807) (f a1 : UInt8) (r : List UInt8) (hl : s.drop off = f :: a1 :: r) (hf0 : 241 ≤ f.toNat ∧ f.toNat < 249) (h0 : ((((f.toNat : Int) - 241) * 256 + (a1.toNat : Int)) + 240) < 241) :
    Goal P kp 24 (fun v H => v = .tup [.int .u64 0, .bool false] ∧ H = rd3 (.slc 1 0 (if len - 1 = 1 then off + 1 else off + 1 + 1) (len - 1 - 1) (len - 1 - 1)) false s 2287 240 241 1 241) (atNum s off len c) := by
  have hf := u8_lt f
  have ha1 := u8_lt a1
  have hlen : 1 ≤ len := by have := congrArg List.length hl; simp at this; omega
  have y0 : yy s off = f.toNat := by have := yy_at hl 0; simpa using this
  have hlk : 2 ≤ len := by have := congrArg List.length hl; simp at this; omega
  have y1 : yy s (off + 1) = a1.toNat := by have := yy_at hl 1; simp at this; rw [← this]
  have w1 : IntKind.u64.wrap (len : Int) = len := IntWalk.u64_in _ (by omega)
  have w2 : IntKind.u64.wrap ((len - 1 : Nat) : Int) = (len - 1 : Nat) := IntWalk.u64_in _ (by omega)
  have e1 : (if len = 1 then off else off + 1) = off + 1 := if_neg (by omega)
  have z0 : IntKind.u64.wrap (IntKind.u8.wrap ((f.toNat : Int) - Int.ofNat 241)) = ((f.toNat : Int) - 241) := by
    rw [IntWalk.u8_in _ (by show 0 ≤ (f.toNat : Int) - 241 ∧ (f.toNat : Int) - 241 ≤ 255; omega), IntWalk.u64_in _ (by show 0 ≤ (f.toNat : Int) - 241 ∧ (f.toNat : Int) - 241 ≤ _; omega)]
    show (f.toNat : Int) - 241 = _
    omega
  have A1 := acc_eq ((f.toNat : Int) - 241) a1.toNat (by omega) (by omega) (by omega) (by omega)
  have wV : IntKind.u64.wrap ((((f.toNat : Int) - 241) * 256 + (a1.toNat : Int)) + Int.ofNat 240) = ((((f.toNat : Int) - 241) * 256 + (a1.toNat : Int)) + 240) := IntWalk.u64_in _ (by show 0 ≤ (((f.toNat : Int) - 241) * 256 + (a1.toNat : Int)) + 240 ∧ (((f.toNat : Int) - 241) * 256 + (a1.toNat : Int)) + 240 ≤ _; omega)
  refine Obl.goal (K := fun _ => False) mix (fun _ h => h.elim) (cast (nb1xnnn (yy s) off len c s.length _ kp _).symm ?_)
  simp only [Int.toNat_natCast, e1, y0, w1, w2, z0, wV, y1, A1]
  exact ⟨gtf (by show (1 : Int) ≤ _; omega), ⟨by show ((0 : Int) ≤ 1 ∧ (1 : Int) ≤ c); omega, by decide⟩, ⟨by omega, by show ((0 : Int) ≤ 1 ∧ (1 : Int) ≤ _); omega⟩, by omega, from1 (f.toNat : Int) (by omega) (by omega), gtf (by show (1 : Int) ≤ _; omega), ⟨by show ((0 : Int) ≤ 1 ∧ (1 : Int) ≤ _); omega, by decide⟩, ⟨by omega, by show ((0 : Int) ≤ 1 ∧ (1 : Int) ≤ _); omega⟩, by omega, by omega, leF (by show _ < (241 : Int); omega), by first | exact ⟨rfl, rfl⟩ | exact ⟨trivial, rfl⟩ | exact ⟨trivial, trivial⟩⟩

theorem nbshort1 (kp : Nat) (s : List UInt8) (off len c : Nat) (hoff : off + len = s.length) (hc : len ≤ c) (f : UInt8) (r : List UInt8) (hl : s.drop off = f :: r) (hf0 : 241 ≤ f.toNat ∧ f.toNat < 249) (hs : len < 2) :
    Goal P kp 24 (fun v H => v = .tup [.int .u64 0, .bool false] ∧ H = rd3 (.slc 1 0 (if len = 1 then off else off + 1) (len - 1) (len - 1)) false s 2287 240 241 1 241) (atNum s off len c) := by
  have hf := u8_lt f
  have hlen : 1 ≤ len := by have := congrArg List.length hl; simp at this; omega
  have y0 : yy s off = f.toNat := by have := yy_at hl 0; simpa using this
  have w1 : IntKind.u64.wrap (len : Int) = len := IntWalk.u64_in _ (by omega)
  have w2 : IntKind.u64.wrap ((len - 1 : Nat) : Int) = (len - 1 : Nat) := IntWalk.u64_in _ (by omega)
  refine Obl.goal (K := fun _ => False) mix (fun _ h => h.elim) (cast (nb1xny (yy s) off len c s.length _ kp _).symm ?_)
  simp only [Int.toNat_natCast, y0, w1, w2]
  exact ⟨gtf (by show (1 : Int) ≤ _; omega), ⟨by show ((0 : Int) ≤ 1 ∧ (1 : Int) ≤ c); omega, by decide⟩, ⟨by omega, by show ((0 : Int) ≤ 1 ∧ (1 : Int) ≤ _); omega⟩, by omega, from1 (f.toNat : Int) (by omega) (by omega), gtt (by show _ < (1 : Int); omega), by first | exact ⟨rfl, rfl⟩ | exact ⟨trivial, rfl⟩ | exact ⟨trivial, trivial⟩⟩

theorem nbok2 (kp : Nat) (s : List UInt8) (off len c : Nat) (hoff : off + len = s.length) (hc : len ≤ c) (hbig : len ≤ 9223372036854775807) (f a1 a2 : UInt8) (r : List UInt8) (hl : s.drop off = f :: a1 :: a2 :: r) (hf0 : f.toNat = 249) (h0 : 2288 ≤ (((0 * 256 + (a1.toNat : Int)) * 256 + (a2.toNat : Int)) + 2288)) (h1 : (((0 * 256 + (a1.toNat : Int)) * 256 + (a2.toNat : Int)) + 2288) ≤ 67823) :
    Goal P kp 24 (fun v H => v = .tup [.int .u64 (((0 * 256 + (a1.toNat : Int)) * 256 + (a2.toNat : Int)) + 2288), .bool true] ∧ H = rd3 (.slc 1 0 (if len - 1 = 2 then off + 1 else off + 1 + 2) (len - 1 - 2) (len - 1 - 2)) false s 67823 2288 249 2 2288) (atNum s off len c) := by
  have hf := u8_lt f
  have ha1 := u8_lt a1
  have ha2 := u8_lt a2
  have hlen : 1 ≤ len := by have := congrArg List.length hl; simp at this; omega
  have y0 : yy s off = f.toNat := by have := yy_at hl 0; simpa using this
  have hlk : 3 ≤ len := by have := congrArg List.length hl; simp at this; omega
  have y1 : yy s (off + 1) = a1.toNat := by have := yy_at hl 1; simp at this; rw [← this]
  have y2 : yy s (off + 1 + 1) = a2.toNat := by have := yy_at hl 2; simp at this; rw [← this]
  have w1 : IntKind.u64.wrap (len : Int) = len := IntWalk.u64_in _ (by omega)
  have w2 : IntKind.u64.wrap ((len - 1 : Nat) : Int) = (len - 1 : Nat) := IntWalk.u64_in _ (by omega)
  have e1 : (if len = 1 then off else off + 1) = off + 1 := if_neg (by omega)
  have z0 : IntKind.u64.wrap (IntKind.u8.wrap ((f.toNat : Int) - Int.ofNat 249)) = 0 := by
    rw [IntWalk.u8_in _ (by show 0 ≤ (f.toNat : Int) - 249 ∧ (f.toNat : Int) - 249 ≤ 255; omega), IntWalk.u64_in _ (by show 0 ≤ (f.toNat : Int) - 249 ∧ (f.toNat : Int) - 249 ≤ _; omega)]
    show (f.toNat : Int) - 249 = _
    omega
  have A1 := acc_eq 0 a1.toNat (by omega) (by omega) (by omega) (by omega)
  have A2 := acc_eq (0 * 256 + (a1.toNat : Int)) a2.toNat (by omega) (by omega) (by omega) (by omega)
  have wV : IntKind.u64.wrap (((0 * 256 + (a1.toNat : Int)) * 256 + (a2.toNat : Int)) + Int.ofNat 2288) = (((0 * 256 + (a1.toNat : Int)) * 256 + (a2.toNat : Int)) + 2288) := IntWalk.u64_in _ (by show 0 ≤ ((0 * 256 + (a1.toNat : Int)) * 256 + (a2.toNat : Int)) + 2288 ∧ ((0 * 256 + (a1.toNat : Int)) * 256 + (a2.toNat : Int)) + 2288 ≤ _; omega)
  refine Obl.goal (K := fun _ => False) mix (fun _ h => h.elim) (cast (nb2xnnyy (yy s) off len c s.length _ kp _).symm ?_)
  simp only [Int.toNat_natCast, e1, y0, w1, w2, z0, wV, y1, y2, A1, A2]
  exact ⟨gtf (by show (1 : Int) ≤ _; omega), ⟨by show ((0 : Int) ≤ 1 ∧ (1 : Int) ≤ c); omega, by decide⟩, ⟨by omega, by show ((0 : Int) ≤ 1 ∧ (1 : Int) ≤ _); omega⟩, by omega, from2 (f.toNat : Int) (by omega) (by omega), gtf (by show (2 : Int) ≤ _; omega), ⟨by show ((0 : Int) ≤ 2 ∧ (2 : Int) ≤ _); omega, by decide⟩, ⟨by omega, by show ((0 : Int) ≤ 2 ∧ (2 : Int) ≤ _); omega⟩, by omega, by omega, by omega, leT (by show (2288 : Int) ≤ _; omega), leT (by show _ ≤ (67823 : Int); omega), by first | exact ⟨rfl, rfl⟩ | exact ⟨trivial, rfl⟩ | exact ⟨trivial, trivial⟩⟩

theorem nblo2 (kp : Nat) (s : List UInt8) (off len c : Nat) (hoff : off + len = s.length) (hc : len ≤ c) (hbig : len ≤ 9223372036854775807) (f a1 a2 : UInt8) (r : List UInt8) (hl : s.drop off = f :: a1 :: a2 :: r) (hf0 : f.toNat = 249) (h0 : (((0 * 256 + (a1.toNat : Int)) * 256 + (a2.toNat : Int)) + 2288) < 2288) :
    Goal P kp 24 (fun v H => v = .tup [.int .u64 0, .bool false] ∧ H = rd3 (.slc 1 0 (if len - 1 = 2 then off + 1 else off + 1 + 2) (len - 1 - 2) (len - 1 - 2)) false s 67823 2288 249 2 2288) (atNum s off len c) := by
  have hf := u8_lt f
  have ha1 := u8_lt a1
  have ha2 := u8_lt a2
  have hlen : 1 ≤ len := by have := congrArg List.length hl; simp at this; omega
  have y0 : yy s off = f.toNat := by have := yy_at hl 0; simpa using this
  have hlk : 3 ≤ len := by have := congrArg List.length hl; simp at this; omega
  have y1 : yy s (off + 1) = a1.toNat := by have := yy_at hl 1; simp at this; rw [← this]
  have y2 : yy s (off + 1 + 1) = a2.toNat := by have := yy_at hl 2; simp at this; rw [← this]
  have w1 : IntKind.u64.wrap (len : Int) = len := IntWalk.u64_in _ (by omega)
  have w2 : IntKind.u64.wrap ((len - 1 : Nat) : Int) = (len - 1 : Nat) := IntWalk.u64_in _ (by omega)
  have e1 : (if len = 1 then off else off + 1) = off + 1 := if_neg (by omega)
  have z0 : IntKind.u64.wrap (IntKind.u8.wrap ((f.toNat : Int) - Int.ofNat 249)) = 0 := by
    rw [IntWalk.u8_in _ (by show 0 ≤ (f.toNat : Int) - 249 ∧ (f.toNat : Int) - 249 ≤ 255; omega), IntWalk.u64_in _ (by show 0 ≤ (f.toNat : Int) - 249 ∧ (f.toNat : Int) - 249 ≤ _; omega)]
    show (f.toNat : Int) - 249 = _
    omega
  have A1 := acc_eq 0 a1.toNat (by omega) (by omega) (by omega) (by omega)
  have A2 := acc_eq (0 * 256 + (a1.toNat : Int)) a2.toNat (by omega) (by omega) (by omega) (by omega)
  have wV : IntKind.u64.wrap (((0 * 256 + (a1.toNat : Int)) * 256 + (a2.toNat : Int)) + Int.ofNat 2288) = (((0 * 256 + (a1.toNat : Int)) * 256 + (a2.toNat : Int)) + 2288) := IntWalk.u64_in _ (by show 0 ≤ ((0 * 256 + (a1.toNat : Int)) * 256 + (a2.toNat : Int)) + 2288 ∧ ((0 * 256 + (a1.toNat : Int)) * 256 + (a2.toNat : Int)) + 2288 ≤ _; omega)
  refine Obl.goal (K := fun _ => False) mix (fun _ h => h.elim) (cast (nb2xnnn (yy s) off len c s.length _ kp _).symm ?_)
  simp only [Int.toNat_natCast, e1, y0, w1, w2, z0, wV, y1, y2, A1, A2]
  exact ⟨gtf (by show (1 : Int) ≤ _; omega), ⟨by show ((0 : Int) ≤ 1 ∧ (1 : Int) ≤ c); omega, by decide⟩, ⟨by omega, by show ((0 : Int) ≤ 1 ∧ (1 : Int) ≤ _); omega⟩, by omega, from2 (f.toNat : Int) (by omega) (by omega), gtf (by show (2 : Int) ≤ _; omega), ⟨by show ((0 : Int) ≤ 2 ∧ (2 : Int) ≤ _); omega, by decide⟩, ⟨by omega, by show ((0 : Int) ≤ 2 ∧ (2 : Int) ≤ _); omega⟩, by omega, by omega, by omega, leF (by show _ < (2288 : Int); omega), by first | exact ⟨rfl, rfl⟩ | exact ⟨trivial, rfl⟩ | exact ⟨trivial, trivial⟩⟩

theorem nbshort2 (kp : Nat) (s : List UInt8) (off len c : Nat) (hoff : off + len = s.length) (hc : len ≤ c) (f : UInt8) (r : List UInt8) (hl : s.drop off = f :: r) (hf0 : f.toNat = 249) (hs : len < 3) :
    Goal P kp 24 (fun v H => v = .tup [.int .u64 0, .bool false] ∧ H = rd3 (.slc 1 0 (if len = 1 then off else off + 1) (len - 1) (len - 1)) false s 67823 2288 249 2 2288) (atNum s off len c) := by
  have hf := u8_lt f
  have hlen : 1 ≤ len := by have := congrArg List.length hl; simp at this; omega
  have y0 : yy s off = f.toNat := by have := yy_at hl 0; simpa using this
  have w1 : IntKind.u64.wrap (len : Int) = len := IntWalk.u64_in _ (by omega)
  have w2 : IntKind.u64.wrap ((len - 1 : Nat) : Int) = (len - 1 : Nat) := IntWalk.u64_in _ (by omega)
  refine Obl.goal (K := fun _ => False) mix (fun _ h => h.elim) (cast (nb2xny (yy s) off len c s.length _ kp _).symm ?_)
  simp only [Int.toNat_natCast, y0, w1, w2]
  exact ⟨gtf (by show (1 : Int) ≤ _; omega), ⟨by show ((0 : Int) ≤ 1 ∧ (1 : Int) ≤ c); omega, by decide⟩, ⟨by omega, by show ((0 : Int) ≤ 1 ∧ (1 : Int) ≤ _); omega⟩, by omega, from2 (f.toNat : Int) (by omega) (by omega), gtt (by show _ < (2 : Int); omega), by first | exact ⟨rfl, rfl⟩ | exact ⟨trivial, rfl⟩ | exact ⟨trivial, trivial⟩⟩

theorem nbok3 (kp : Nat) (s : List UInt8) (off len c : Nat) (hoff : off + len = s.length) (hc : len ≤ c) (hbig : len ≤ 9223372036854775807) (f a1 a2 a3 : UInt8) (r : List UInt8) (hl : s.drop off = f :: a1 :: a2 :: a3 :: r) (hf0 : f.toNat = 250) (h0 : 67824 ≤ ((((0 * 256 + (a1.toNat : Int)) * 256 + (a2.toNat : Int)) * 256 + (a3.toNat : Int)) + 0)) (h1 : ((((0 * 256 + (a1.toNat : Int)) * 256 + (a2.toNat : Int)) * 256 + (a3.toNat : Int)) + 0) ≤ 16777215) :
    Goal P kp 24 (fun v H => v = .tup [.int .u64 ((((0 * 256 + (a1.toNat : Int)) * 256 + (a2.toNat : Int)) * 256 + (a3.toNat : Int)) + 0), .bool true] ∧ H = rd3 (.slc 1 0 (if len - 1 = 3 then off + 1 else off + 1 + 3) (len - 1 - 3) (len - 1 - 3)) false s 16777215 0 250 3 67824) (atNum s off len c) := by
  have hf := u8_lt f
  have ha1 := u8_lt a1
  have ha2 := u8_lt a2
  have ha3 := u8_lt a3
  have hlen : 1 ≤ len := by have := congrArg List.length hl; simp at this; omega
  have y0 : yy s off = f.toNat := by have := yy_at hl 0; simpa using this
  have hlk : 4 ≤ len := by have := congrArg List.length hl; simp at this; omega
  have y1 : yy s (off + 1) = a1.toNat := by have := yy_at hl 1; simp at this; rw [← this]
  have y2 : yy s (off + 1 + 1) = a2.toNat := by have := yy_at hl 2; simp at this; rw [← this]
  have y3 : yy s (off + 1 + 2) = a3.toNat := by have := yy_at hl 3; simp at this; rw [← this]
  have w1 : IntKind.u64.wrap (len : Int) = len := IntWalk.u64_in _ (by omega)
  have w2 : IntKind.u64.wrap ((len - 1 : Nat) : Int) = (len - 1 : Nat) := IntWalk.u64_in _ (by omega)
  have e1 : (if len = 1 then off else off + 1) = off + 1 := if_neg (by omega)
  have z0 : IntKind.u64.wrap (IntKind.u8.wrap ((f.toNat : Int) - Int.ofNat 250)) = 0 := by
    rw [IntWalk.u8_in _ (by show 0 ≤ (f.toNat : Int) - 250 ∧ (f.toNat : Int) - 250 ≤ 255; omega), IntWalk.u64_in _ (by show 0 ≤ (f.toNat : Int) - 250 ∧ (f.toNat : Int) - 250 ≤ _; omega)]
    show (f.toNat : Int) - 250 = _
    omega
  have A1 := acc_eq 0 a1.toNat (by omega) (by omega) (by omega) (by omega)
  have A2 := acc_eq (0 * 256 + (a1.toNat : Int)) a2.toNat (by omega) (by omega) (by omega) (by omega)
  have A3 := acc_eq ((0 * 256 + (a1.toNat : Int)) * 256 + (a2.toNat : Int)) a3.toNat (by omega) (by omega) (by omega) (by omega)
  have wV : IntKind.u64.wrap ((((0 * 256 + (a1.toNat : Int)) * 256 + (a2.toNat : Int)) * 256 + (a3.toNat : Int)) + Int.ofNat 0) = ((((0 * 256 + (a1.toNat : Int)) * 256 + (a2.toNat : Int)) * 256 + (a3.toNat : Int)) + 0) := IntWalk.u64_in _ (by show 0 ≤ (((0 * 256 + (a1.toNat : Int)) * 256 + (a2.toNat : Int)) * 256 + (a3.toNat : Int)) + 0 ∧ (((0 * 256 + (a1.toNat : Int)) * 256 + (a2.toNat : Int)) * 256 + (a3.toNat : Int)) + 0 ≤ _; omega)
  refine Obl.goal (K := fun _ => False) mix (fun _ h => h.elim) (cast (nb3xnnyy (yy s) off len c s.length _ kp _).symm ?_)
  simp only [Int.toNat_natCast, e1, y0, w1, w2, z0, wV, y1, y2, y3, A1, A2, A3]
  exact ⟨gtf (by show (1 : Int) ≤ _; omega), ⟨by show ((0 : Int) ≤ 1 ∧ (1 : Int) ≤ c); omega, by decide⟩, ⟨by omega, by show ((0 : Int) ≤ 1 ∧ (1 : Int) ≤ _); omega⟩, by omega, from3 (f.toNat : Int) (by omega) (by omega), gtf (by show (3 : Int) ≤ _; omega), ⟨by show ((0 : Int) ≤ 3 ∧ (3 : Int) ≤ _); omega, by decide⟩, ⟨by omega, by show ((0 : Int) ≤ 3 ∧ (3 : Int) ≤ _); omega⟩, by omega, by omega, by omega, by omega, leT (by show (67824 : Int) ≤ _; omega), leT (by show _ ≤ (16777215 : Int); omega), by first | exact ⟨rfl, rfl⟩ | exact ⟨trivial, rfl⟩ | exact ⟨trivial, trivial⟩⟩

theorem nblo3 (kp : Nat) (s : List UInt8) (off len c : Nat) (hoff : off + len = s.length) (hc : len ≤ c) (hbig : len ≤ 9223372036854775807) (f a1 a2 a3 : UInt8) (r : List UInt8) (hl : s.drop off = f :: a1 :: a2 :: a3 :: r) (hf0 : f.toNat = 250) (h0 : ((((0 * 256 + (a1.toNat : Int)) * 256 + (a2.toNat : Int)) * 256 + (a3.toNat : Int)) + 0) < 67824) :
    Goal P kp 24 (fun v H => v = .tup [.int .u64 0, .bool false] ∧ H = rd3 (.slc 1 0 (if len - 1 = 3 then off + 1 else off + 1 + 3) (len - 1 - 3) (len - 1 - 3)) false s 16777215 0 250 3 67824) (atNum s off len c) := by
  have hf := u8_lt f
  have ha1 := u8_lt a1
  have ha2 := u8_lt a2
  have ha3 := u8_lt a3
  have hlen : 1 ≤ len := by have := congrArg List.length hl; simp at this; omega
  have y0 : yy s off = f.toNat := by have := yy_at hl 0; simpa using this
  have hlk : 4 ≤ len := by have := congrArg List.length hl; simp at this; omega
  have y1 : yy s (off + 1) = a1.toNat := by have := yy_at hl 1; simp at this; rw [← this]
  have y2 : yy s (off + 1 + 1) = a2.toNat := by have := yy_at hl 2; simp at this; rw [← this]
  have y3 : yy s (off + 1 + 2) = a3.toNat := by have := yy_at hl 3; simp at this; rw [← this]
  have w1 : IntKind.u64.wrap (len : Int) = len := IntWalk.u64_in _ (by omega)
  have w2 : IntKind.u64.wrap ((len - 1 : Nat) : Int) = (len - 1 : Nat) := IntWalk.u64_in _ (by omega)
  have e1 : (if len = 1 then off else off + 1) = off + 1 := if_neg (by omega)
  have z0 : IntKind.u64.wrap (IntKind.u8.wrap ((f.toNat : Int) - Int.ofNat 250)) = 0 := by
    rw [IntWalk.u8_in _ (by show 0 ≤ (f.toNat : Int) - 250 ∧ (f.toNat : Int) - 250 ≤ 255; omega), IntWalk.u64_in _ (by show 0 ≤ (f.toNat : Int) - 250 ∧ (f.toNat : Int) - 250 ≤ _; omega)]
    show (f.toNat : Int) - 250 = _
    omega
  have A1 := acc_eq 0 a1.toNat (by omega) (by omega) (by omega) (by omega)
  have A2 := acc_eq (0 * 256 + (a1.toNat : Int)) a2.toNat (by omega) (by omega) (by omega) (by omega)
  have A3 := acc_eq ((0 * 256 + (a1.toNat : Int)) * 256 + (a2.toNat : Int)) a3.toNat (by omega) (by omega) (by omega) (by omega)
  have wV : IntKind.u64.wrap ((((0 * 256 + (a1.toNat : Int)) * 256 + (a2.toNat : Int)) * 256 + (a3.toNat : Int)) + Int.ofNat 0) = ((((0 * 256 + (a1.toNat : Int)) * 256 + (a2.toNat : Int)) * 256 + (a3.toNat : Int)) + 0) := IntWalk.u64_in _ (by show 0 ≤ (((0 * 256 + (a1.toNat : Int)) * 256 + (a2.toNat : Int)) * 256 + (a3.toNat : Int)) + 0 ∧ (((0 * 256 + (a1.toNat : Int)) * 256 + (a2.toNat : Int)) * 256 + (a3.toNat : Int)) + 0 ≤ _; omega)
  refine Obl.goal (K := fun _ => False) mix (fun _ h => h.elim) (cast (nb3xnnn (yy s) off len c s.length _ kp _).symm ?_)
  simp only [Int.toNat_natCast, e1, y0, w1, w2, z0, wV, y1, y2, y3, A1, A2, A3]
  exact ⟨gtf (by show (1 : Int) ≤ _; omega), ⟨by show ((0 : Int) ≤ 1 ∧ (1 : Int) ≤ c); omega, by decide⟩, ⟨by omega, by show ((0 : Int) ≤ 1 ∧ (1 : Int) ≤ _); omega⟩, by omega, from3 (f.toNat : Int) (by omega) (by omega), gtf (by show (3 : Int) ≤ _; omega), ⟨by show ((0 : Int) ≤ 3 ∧ (3 : Int) ≤ _); omega, by decide⟩, ⟨by omega, by show ((0 : Int) ≤ 3 ∧ (3 : Int) ≤ _); omega⟩, by omega, by omega, by omega, by omega, leF (by show _ < (67824 : Int); omega), by first | exact ⟨rfl, rfl⟩ | exact ⟨trivial, rfl⟩ | exact ⟨trivial, trivial⟩⟩

theorem nbshort3 (kp : Nat) (s : List UInt8) (off len c : Nat) (hoff : off + len = s.length) (hc : len ≤ c) (f : UInt8) (r : List UInt8) (hl : s.drop off = f :: r) (hf0 : f.toNat = 250) (hs : len < 4) :
    Goal P kp 24 (fun v H => v = .tup [.int .u64 0, .bool false] ∧ H = rd3 (.slc 1 0 (if len = 1 then off else off + 1) (len - 1) (len - 1)) false s 16777215 0 250 3 67824) (atNum s off len c) := by
  have hf := u8_lt f
  have hlen : 1 ≤ len := by have := congrArg List.length hl; simp at this; omega
  have y0 : yy s off = f.toNat := by have := yy_at hl 0; simpa using this
  have w1 : IntKind.u64.wrap (len : Int) = len := IntWalk.u64_in _ (by omega)
  have w2 : IntKind.u64.wrap ((len - 1 : Nat) : Int) = (len - 1 : Nat) := IntWalk.u64_in _ (by omega)
  refine Obl.goal (K := fun _ => False) mix (fun _ h => h.elim) (cast (nb3xny (yy s) off len c s.length _ kp _).symm ?_)
  simp only [Int.toNat_natCast, y0, w1, w2]
  exact ⟨gtf (by show (1 : Int) ≤ _; omega), ⟨by show ((0 : Int) ≤ 1 ∧ (1 : Int) ≤ c); omega, by decide⟩, ⟨by omega, by show ((0 : Int) ≤ 1 ∧ (1 : Int) ≤ _); omega⟩, by omega, from3 (f.toNat : Int) (by omega) (by omega), gtt (by show _ < (3 : Int); omega), by first | exact ⟨rfl, rfl⟩ | exact ⟨trivial, rfl⟩ | exact ⟨trivial, trivial⟩⟩

theorem nbok4 (kp : Nat) (s : List UInt8) (off len c : Nat) (hoff : off + len = s.length) (hc : len ≤ c) (hbig : len ≤ 9223372036854775807) (f a1 a2 a3 a4 : UInt8) (r : List UInt8) (hl : s.drop off = f :: a1 :: a2 :: a3 :: a4 :: r) (hf0 : f.toNat = 251) (h0 : 16777216 ≤ (((((0 * 256 + (a1.toNat : Int)) * 256 + (a2.toNat : Int)) * 256 + (a3.toNat : Int)) * 256 + (a4.toNat : Int)) + 0)) (h1 : (((((0 * 256 + (a1.toNat : Int)) * 256 + (a2.toNat : Int)) * 256 + (a3.toNat : Int)) * 256 + (a4.toNat : Int)) + 0) ≤ 4294967295) :
    Goal P kp 24 (fun v H => v = .tup [.int .u64 (((((0 * 256 + (a1.toNat : Int)) * 256 + (a2.toNat : Int)) * 256 + (a3.toNat : Int)) * 256 + (a4.toNat : Int)) + 0), .bool true] ∧ H = rd3 (.slc 1 0 (if len - 1 = 4 then off + 1 else off + 1 + 4) (len - 1 - 4) (len - 1 - 4)) false s 4294967295 0 251 4 16777216) (atNum s off len c) := by
  have hf := u8_lt f
  have ha1 := u8_lt a1
  have ha2 := u8_lt a2
  have ha3 := u8_lt a3
  have ha4 := u8_lt a4
  have hlen : 1 ≤ len := by have := congrArg List.length hl; simp at this; omega
  have y0 : yy s off = f.toNat := by have := yy_at hl 0; simpa using this
  have hlk : 5 ≤ len := by have := congrArg List.length hl; simp at this; omega
  have y1 : yy s (off + 1) = a1.toNat := by have := yy_at hl 1; simp at this; rw [← this]
  have y2 : yy s (off + 1 + 1) = a2.toNat := by have := yy_at hl 2; simp at this; rw [← this]
  have y3 : yy s (off + 1 + 2) = a3.toNat := by have := yy_at hl 3; simp at this; rw [← this]
  have y4 : yy s (off + 1 + 3) = a4.toNat := by have := yy_at hl 4; simp at this; rw [← this]
  have w1 : IntKind.u64.wrap (len : Int) = len := IntWalk.u64_in _ (by omega)
  have w2 : IntKind.u64.wrap ((len - 1 : Nat) : Int) = (len - 1 : Nat) := IntWalk.u64_in _ (by omega)
  have e1 : (if len = 1 then off else off + 1) = off + 1 := if_neg (by omega)
  have z0 : IntKind.u64.wrap (IntKind.u8.wrap ((f.toNat : Int) - Int.ofNat 251)) = 0 := by
    rw [IntWalk.u8_in _ (by show 0 ≤ (f.toNat : Int) - 251 ∧ (f.toNat : Int) - 251 ≤ 255; omega), IntWalk.u64_in _ (by show 0 ≤ (f.toNat : Int) - 251 ∧ (f.toNat : Int) - 251 ≤ _; omega)]
    show (f.toNat : Int) - 251 = _
    omega
  have A1 := acc_eq 0 a1.toNat (by omega) (by omega) (by omega) (by omega)
  have A2 := acc_eq (0 * 256 + (a1.toNat : Int)) a2.toNat (by omega) (by omega) (by omega) (by omega)
  have A3 := acc_eq ((0 * 256 + (a1.toNat : Int)) * 256 + (a2.toNat : Int)) a3.toNat (by omega) (by omega) (by omega) (by omega)
  have A4 := acc_eq (((0 * 256 + (a1.toNat : Int)) * 256 + (a2.toNat : Int)) * 256 + (a3.toNat : Int)) a4.toNat (by omega) (by omega) (by omega) (by omega)
  have wV : IntKind.u64.wrap (((((0 * 256 + (a1.toNat : Int)) * 256 + (a2.toNat : Int)) * 256 + (a3.toNat : Int)) * 256 + (a4.toNat : Int)) + Int.ofNat 0) = (((((0 * 256 + (a1.toNat : Int)) * 256 + (a2.toNat : Int)) * 256 + (a3.toNat : Int)) * 256 + (a4.toNat : Int)) + 0) := IntWalk.u64_in _ (by show 0 ≤ ((((0 * 256 + (a1.toNat : Int)) * 256 + (a2.toNat : Int)) * 256 + (a3.toNat : Int)) * 256 + (a4.toNat : Int)) + 0 ∧ ((((0 * 256 + (a1.toNat : Int)) * 256 + (a2.toNat : Int)) * 256 + (a3.toNat : Int)) * 256 + (a4.toNat : Int)) + 0 ≤ _; omega)
  refine Obl.goal (K := fun _ => False) mix (fun _ h => h.elim) (cast (nb4xnnyy (yy s) off len c s.length _ kp _).symm ?_)
  simp only [Int.toNat_natCast, e1, y0, w1, w2, z0, wV, y1, y2, y3, y4, A1, A2, A3, A4]
  exact ⟨gtf (by show (1 : Int) ≤ _; omega), ⟨by show ((0 : Int) ≤ 1 ∧ (1 : Int) ≤ c); omega, by decide⟩, ⟨by omega, by show ((0 : Int) ≤ 1 ∧ (1 : Int) ≤ _); omega⟩, by omega, from4 (f.toNat : Int) (by omega) (by omega), gtf (by show (4 : Int) ≤ _; omega), ⟨by show ((0 : Int) ≤ 4 ∧ (4 : Int) ≤ _); omega, by decide⟩, ⟨by omega, by show ((0 : Int) ≤ 4 ∧ (4 : Int) ≤ _); omega⟩, by omega, by omega, by omega, by omega, by omega, leT (by show (16777216 : Int) ≤ _; omega), leT (by show _ ≤ (4294967295 : Int); omega), by first | exact ⟨rfl, rfl⟩ | exact ⟨trivial, rfl⟩ | exact ⟨trivial, trivial⟩⟩

theorem nblo4 (kp : Nat) (s : List UInt8) (off len c : Nat) (hoff : off + len = s.length) (hc : len ≤ c) (hbig : len ≤ 9223372036854775807) (f a1 a2 a3 a4 : UInt8) (r : List UInt8) (hl : s.drop off = f :: a1 :: a2 :: a3 :: a4 :: r) (hf0 : f.toNat = 251) (h0 : (((((0 * 256 + (a1.toNat : Int)) * 256 + (a2.toNat : Int)) * 256 + (a3.toNat : Int)) * 256 + (a4.toNat : Int)) + 0) < 16777216) :
    Goal P kp 24 (fun v H => v = .tup [.int .u64 0, .bool false] ∧ H = rd3 (.slc 1 0 (if len - 1 = 4 then off + 1 else off + 1 + 4) (len - 1 - 4) (len - 1 - 4)) false s 4294967295 0 251 4 16777216) (atNum s off len c) := by
  have hf := u8_lt f
  have ha1 := u8_lt a1
  have ha2 := u8_lt a2
  have ha3 := u8_lt a3
  have ha4 := u8_lt a4
  have hlen : 1 ≤ len := by have := congrArg List.length hl; simp at this; omega
  have y0 : yy s off = f.toNat := by have := yy_at hl 0; simpa using this
  have hlk : 5 ≤ len := by have := congrArg List.length hl; simp at this; omega
  have y1 : yy s (off + 1) = a1.toNat := by have := yy_at hl 1; simp at this; rw [← this]
  have y2 : yy s (off + 1 + 1) = a2.toNat := by have := yy_at hl 2; simp at this; rw [← this]
  have y3 : yy s (off + 1 + 2) = a3.toNat := by have := yy_at hl 3; simp at this; rw [← this]
  have y4 : yy s (off + 1 + 3) = a4.toNat := by have := yy_at hl 4; simp at this; rw [← this]
  have w1 : IntKind.u64.wrap (len : Int) = len := IntWalk.u64_in _ (by omega)
  have w2 : IntKind.u64.wrap ((len - 1 : Nat) : Int) = (len - 1 : Nat) := IntWalk.u64_in _ (by omega)
  have e1 : (if len = 1 then off else off + 1) = off + 1 := if_neg (by omega)
  have z0 : IntKind.u64.wrap (IntKind.u8.wrap ((f.toNat : Int) - Int.ofNat 251)) = 0 := by
    rw [IntWalk.u8_in _ (by show 0 ≤ (f.toNat : Int) - 251 ∧ (f.toNat : Int) - 251 ≤ 255; omega), IntWalk.u64_in _ (by show 0 ≤ (f.toNat : Int) - 251 ∧ (f.toNat : Int) - 251 ≤ _; omega)]
    show (f.toNat : Int) - 251 = _
    omega
  have A1 := acc_eq 0 a1.toNat (by omega) (by omega) (by omega) (by omega)
  have A2 := acc_eq (0 * 256 + (a1.toNat : Int)) a2.toNat (by omega) (by omega) (by omega) (by omega)
  have A3 := acc_eq ((0 * 256 + (a1.toNat : Int)) * 256 + (a2.toNat : Int)) a3.toNat (by omega) (by omega) (by omega) (by omega)
  have A4 := acc_eq (((0 * 256 + (a1.toNat : Int)) * 256 + (a2.toNat : Int)) * 256 + (a3.toNat : Int)) a4.toNat (by omega) (by omega) (by omega) (by omega)
  have wV : IntKind.u64.wrap (((((0 * 256 + (a1.toNat : Int)) * 256 + (a2.toNat : Int)) * 256 + (a3.toNat : Int)) * 256 + (a4.toNat : Int)) + Int.ofNat 0) = (((((0 * 256 + (a1.toNat : Int)) * 256 + (a2.toNat : Int)) * 256 + (a3.toNat : Int)) * 256 + (a4.toNat : Int)) + 0) := IntWalk.u64_in _ (by show 0 ≤ ((((0 * 256 + (a1.toNat : Int)) * 256 + (a2.toNat : Int)) * 256 + (a3.toNat : Int)) * 256 + (a4.toNat : Int)) + 0 ∧ ((((0 * 256 + (a1.toNat : Int)) * 256 + (a2.toNat : Int)) * 256 + (a3.toNat : Int)) * 256 + (a4.toNat : Int)) + 0 ≤ _; omega)
  refine Obl.goal (K := fun _ => False) mix (fun _ h => h.elim) (cast (nb4xnnn (yy s) off len c s.length _ kp _).symm ?_)
  simp only [Int.toNat_natCast, e1, y0, w1, w2, z0, wV, y1, y2, y3, y4, A1, A2, A3, A4]
  exact ⟨gtf (by show (1 : Int) ≤ _; omega), ⟨by show ((0 : Int) ≤ 1 ∧ (1 : Int) ≤ c); omega, by decide⟩, ⟨by omega, by show ((0 : Int) ≤ 1 ∧ (1 : Int) ≤ _); omega⟩, by omega, from4 (f.toNat : Int) (by omega) (by omega), gtf (by show (4 : Int) ≤ _; omega), ⟨by show ((0 : Int) ≤ 4 ∧ (4 : Int) ≤ _); omega, by decide⟩, ⟨by omega, by show ((0 : Int) ≤ 4 ∧ (4 : Int) ≤ _); omega⟩, by omega, by omega, by omega, by omega, by omega, leF (by show _ < (16777216 : Int); omega), by first | exact ⟨rfl, rfl⟩ | exact ⟨trivial, rfl⟩ | exact ⟨trivial, trivial⟩⟩

theorem nbshort4 (kp : Nat) (s : List UInt8) (off len c : Nat) (hoff : off + len = s.length) (hc : len ≤ c) (f : UInt8) (r : List UInt8) (hl : s.drop off = f :: r) (hf0 : f.toNat = 251) (hs : len < 5) :
    Goal P kp 24 (fun v H => v = .tup [.int .u64 0, .bool false] ∧ H = rd3 (.slc 1 0 (if len = 1 then off else off + 1) (len - 1) (len - 1)) false s 4294967295 0 251 4 16777216) (atNum s off len c) := by
  have hf := u8_lt f
  have hlen : 1 ≤ len := by have := congrArg List.length hl; simp at this; omega
  have y0 : yy s off = f.toNat := by have := yy_at hl 0; simpa using this
  have w1 : IntKind.u64.wrap (len : Int) = len := IntWalk.u64_in _ (by omega)
  have w2 : IntKind.u64.wrap ((len - 1 : Nat) : Int) = (len - 1 : Nat) := IntWalk.u64_in _ (by omega)
  refine Obl.goal (K := fun _ => False) mix (fun _ h => h.elim) (cast (nb4xny (yy s) off len c s.length _ kp _).symm ?_)
  simp only [Int.toNat_natCast, y0, w1, w2]
  exact ⟨gtf (by show (1 : Int) ≤ _; omega), ⟨by show ((0 : Int) ≤ 1 ∧ (1 : Int) ≤ c); omega, by decide⟩, ⟨by omega, by show ((0 : Int) ≤ 1 ∧ (1 : Int) ≤ _); omega⟩, by omega, from4 (f.toNat : Int) (by omega) (by omega), gtt (by show _ < (4 : Int); omega), by first | exact ⟨rfl, rfl⟩ | exact ⟨trivial, rfl⟩ | exact ⟨trivial, trivial⟩⟩

theorem nbok5 (kp : Nat) (s : List UInt8) (off len c : Nat) (hoff : off + len = s.length) (hc : len ≤ c) (hbig : len ≤ 9223372036854775807) (f a1 a2 a3 a4 a5 : UInt8) (r : List UInt8) (hl : s.drop off = f :: a1 :: a2 :: a3 :: a4 :: a5 :: r) (hf0 : f.toNat = 252) (h0 : 4294967296 ≤ ((((((0 * 256 + (a1.toNat : Int)) * 256 + (a2.toNat : Int)) * 256 + (a3.toNat : Int)) * 256 + (a4.toNat : Int)) * 256 + (a5.toNat : Int)) + 0)) (h1 : ((((((0 * 256 + (a1.toNat : Int)) * 256 + (a2.toNat : Int)) * 256 + (a3.toNat : Int)) * 256 + (a4.toNat : Int)) * 256 + (a5.toNat : Int)) + 0) ≤ 1099511627775) :
    Goal P kp 24 (fun v H => v = .tup [.int .u64 ((((((0 * 256 + (a1.toNat : Int)) * 256 + (a2.toNat : Int)) * 256 + (a3.toNat : Int)) * 256 + (a4.toNat : Int)) * 256 + (a5.toNat : Int)) + 0), .bool true] ∧ H = rd3 (.slc 1 0 (if len - 1 = 5 then off + 1 else off + 1 + 5) (len - 1 - 5) (len - 1 - 5)) false s 1099511627775 0 252 5 4294967296) (atNum s off len c) := by
  have hf := u8_lt f
  have ha1 := u8_lt a1
  have ha2 := u8_lt a2
  have ha3 := u8_lt a3
  have ha4 := u8_lt a4
  have ha5 := u8_lt a5
  have hlen : 1 ≤ len := by have := congrArg List.length hl; simp at this; omega
  have y0 : yy s off = f.toNat := by have := yy_at hl 0; simpa using this
  have hlk : 6 ≤ len := by have := congrArg List.length hl; simp at this; omega
  have y1 : yy s (off + 1) = a1.toNat := by have := yy_at hl 1; simp at this; rw [← this]
  have y2 : yy s (off + 1 + 1) = a2.toNat := by have := yy_at hl 2; simp at this; rw [← this]
  have y3 : yy s (off + 1 + 2) = a3.toNat := by have := yy_at hl 3; simp at this; rw [← this]
  have y4 : yy s (off + 1 + 3) = a4.toNat := by have := yy_at hl 4; simp at this; rw [← this]
  have y5 : yy s (off + 1 + 4) = a5.toNat := by have := yy_at hl 5; simp at this; rw [← this]
  have w1 : IntKind.u64.wrap (len : Int) = len := IntWalk.u64_in _ (by omega)
  have w2 : IntKind.u64.wrap ((len - 1 : Nat) : Int) = (len - 1 : Nat) := IntWalk.u64_in _ (by omega)
  have e1 : (if len = 1 then off else off + 1) = off + 1 := if_neg (by omega)
  have z0 : IntKind.u64.wrap (IntKind.u8.wrap ((f.toNat : Int) - Int.ofNat 252)) = 0 := by
    rw [IntWalk.u8_in _ (by show 0 ≤ (f.toNat : Int) - 252 ∧ (f.toNat : Int) - 252 ≤ 255; omega), IntWalk.u64_in _ (by show 0 ≤ (f.toNat : Int) - 252 ∧ (f.toNat : Int) - 252 ≤ _; omega)]
    show (f.toNat : Int) - 252 = _
    omega
  have A1 := acc_eq 0 a1.toNat (by omega) (by omega) (by omega) (by omega)
  have A2 := acc_eq (0 * 256 + (a1.toNat : Int)) a2.toNat (by omega) (by omega) (by omega) (by omega)
  have A3 := acc_eq ((0 * 256 + (a1.toNat : Int)) * 256 + (a2.toNat : Int)) a3.toNat (by omega) (by omega) (by omega) (by omega)
  have A4 := acc_eq (((0 * 256 + (a1.toNat : Int)) * 256 + (a2.toNat : Int)) * 256 + (a3.toNat : Int)) a4.toNat (by omega) (by omega) (by omega) (by omega)
  have A5 := acc_eq ((((0 * 256 + (a1.toNat : Int)) * 256 + (a2.toNat : Int)) * 256 + (a3.toNat : Int)) * 256 + (a4.toNat : Int)) a5.toNat (by omega) (by omega) (by omega) (by omega)
  have wV : IntKind.u64.wrap ((((((0 * 256 + (a1.toNat : Int)) * 256 + (a2.toNat : Int)) * 256 + (a3.toNat : Int)) * 256 + (a4.toNat : Int)) * 256 + (a5.toNat : Int)) + Int.ofNat 0) = ((((((0 * 256 + (a1.toNat : Int)) * 256 + (a2.toNat : Int)) * 256 + (a3.toNat : Int)) * 256 + (a4.toNat : Int)) * 256 + (a5.toNat : Int)) + 0) := IntWalk.u64_in _ (by show 0 ≤ (((((0 * 256 + (a1.toNat : Int)) * 256 + (a2.toNat : Int)) * 256 + (a3.toNat : Int)) * 256 + (a4.toNat : Int)) * 256 + (a5.toNat : Int)) + 0 ∧ (((((0 * 256 + (a1.toNat : Int)) * 256 + (a2.toNat : Int)) * 256 + (a3.toNat : Int)) * 256 + (a4.toNat : Int)) * 256 + (a5.toNat : Int)) + 0 ≤ _; omega)
  refine Obl.goal (K := fun _ => False) mix (fun _ h => h.elim) (cast (nb5xnnyy (yy s) off len c s.length _ kp _).symm ?_)
  simp only [Int.toNat_natCast, e1, y0, w1, w2, z0, wV, y1, y2, y3, y4, y5, A1, A2, A3, A4, A5]
  exact ⟨gtf (by show (1 : Int) ≤ _; omega), ⟨by show ((0 : Int) ≤ 1 ∧ (1 : Int) ≤ c); omega, by decide⟩, ⟨by omega, by show ((0 : Int) ≤ 1 ∧ (1 : Int) ≤ _); omega⟩, by omega, from5 (f.toNat : Int) (by omega) (by omega), gtf (by show (5 : Int) ≤ _; omega), ⟨by show ((0 : Int) ≤ 5 ∧ (5 : Int) ≤ _); omega, by decide⟩, ⟨by omega, by show ((0 : Int) ≤ 5 ∧ (5 : Int) ≤ _); omega⟩, by omega, by omega, by omega, by omega, by omega, by omega, leT (by show (4294967296 : Int) ≤ _; omega), leT (by show _ ≤ (1099511627775 : Int); omega), by first | exact ⟨rfl, rfl⟩ | exact ⟨trivial, rfl⟩ | exact ⟨trivial, trivial⟩⟩

theorem nblo5 (kp : Nat) (s : List UInt8) (off len c : Nat) (hoff : off + len = s.length) (hc : len ≤ c) (hbig : len ≤ 9223372036854775807) (f a1 a2 a3 a4 a5 : UInt8) (r : List UInt8) (hl : s.drop off = f :: a1 :: a2 :: a3 :: a4 :: a5 :: r) (hf0 : f.toNat = 252) (h0 : ((((((0 * 256 + (a1.toNat : Int)) * 256 + (a2.toNat : Int)) * 256 + (a3.toNat : Int)) * 256 + (a4.toNat : Int)) * 256 + (a5.toNat : Int)) + 0) < 4294967296) :
    Goal P kp 24 (fun v H => v = .tup [.int .u64 0, .bool false] ∧ H = rd3 (.slc 1 0 (if len - 1 = 5 then off + 1 else off + 1 + 5) (len - 1 - 5) (len - 1 - 5)) false s 1099511627775 0 252 5 4294967296) (atNum s off len c) := by
  have hf := u8_lt f
  have ha1 := u8_lt a1
  have ha2 := u8_lt a2
  have ha3 := u8_lt a3
  have ha4 := u8_lt a4
  have ha5 := u8_lt a5
  have hlen : 1 ≤ len := by have := congrArg List.length hl; simp at this; omega
  have y0 : yy s off = f.toNat := by have := yy_at hl 0; simpa using this
  have hlk : 6 ≤ len := by have := congrArg List.length hl; simp at this; omega
  have y1 : yy s (off + 1) = a1.toNat := by have := yy_at hl 1; simp at this; rw [← this]
  have y2 : yy s (off + 1 + 1) = a2.toNat := by have := yy_at hl 2; simp at this; rw [← this]
  have y3 : yy s (off + 1 + 2) = a3.toNat := by have := yy_at hl 3; simp at this; rw [← this]
  have y4 : yy s (off + 1 + 3) = a4.toNat := by have := yy_at hl 4; simp at this; rw [← this]
  have y5 : yy s (off + 1 + 4) = a5.toNat := by have := yy_at hl 5; simp at this; rw [← this]
  have w1 : IntKind.u64.wrap (len : Int) = len := IntWalk.u64_in _ (by omega)
  have w2 : IntKind.u64.wrap ((len - 1 : Nat) : Int) = (len - 1 : Nat) := IntWalk.u64_in _ (by omega)
  have e1 : (if len = 1 then off else off + 1) = off + 1 := if_neg (by omega)
  have z0 : IntKind.u64.wrap (IntKind.u8.wrap ((f.toNat : Int) - Int.ofNat 252)) = 0 := by
    rw [IntWalk.u8_in _ (by show 0 ≤ (f.toNat : Int) - 252 ∧ (f.toNat : Int) - 252 ≤ 255; omega), IntWalk.u64_in _ (by show 0 ≤ (f.toNat : Int) - 252 ∧ (f.toNat : Int) - 252 ≤ _; omega)]
    show (f.toNat : Int) - 252 = _
    omega
  have A1 := acc_eq 0 a1.toNat (by omega) (by omega) (by omega) (by omega)
  have A2 := acc_eq (0 * 256 + (a1.toNat : Int)) a2.toNat (by omega) (by omega) (by omega) (by omega)
  have A3 := acc_eq ((0 * 256 + (a1.toNat : Int)) * 256 + (a2.toNat : Int)) a3.toNat (by omega) (by omega) (by omega) (by omega)
  have A4 := acc_eq (((0 * 256 + (a1.toNat : Int)) * 256 + (a2.toNat : Int)) * 256 + (a3.toNat : Int)) a4.toNat (by omega) (by omega) (by omega) (by omega)
  have A5 := acc_eq ((((0 * 256 + (a1.toNat : Int)) * 256 + (a2.toNat : Int)) * 256 + (a3.toNat : Int)) * 256 + (a4.toNat : Int)) a5.toNat (by omega) (by omega) (by omega) (by omega)
  have wV : IntKind.u64.wrap ((((((0 * 256 + (a1.toNat : Int)) * 256 + (a2.toNat : Int)) * 256 + (a3.toNat : Int)) * 256 + (a4.toNat : Int)) * 256 + (a5.toNat : Int)) + Int.ofNat 0) = ((((((0 * 256 + (a1.toNat : Int)) * 256 + (a2.toNat : Int)) * 256 + (a3.toNat : Int)) * 256 + (a4.toNat : Int)) * 256 + (a5.toNat : Int)) + 0) := IntWalk.u64_in _ (by show 0 ≤ (((((0 * 256 + (a1.toNat : Int)) * 256 + (a2.toNat : Int)) * 256 + (a3.toNat : Int)) * 256 + (a4.toNat : Int)) * 256 + (a5.toNat : Int)) + 0 ∧ (((((0 * 256 + (a1.toNat : Int)) * 256 + (a2.toNat : Int)) * 256 + (a3.toNat : Int)) * 256 + (a4.toNat : Int)) * 256 + (a5.toNat : Int)) + 0 ≤ _; omega)
  refine Obl.goal (K := fun _ => False) mix (fun _ h => h.elim) (cast (nb5xnnn (yy s) off len c s.length _ kp _).symm ?_)
  simp only [Int.toNat_natCast, e1, y0, w1, w2, z0, wV, y1, y2, y3, y4, y5, A1, A2, A3, A4, A5]
  exact ⟨gtf (by show (1 : Int) ≤ _; omega), ⟨by show ((0 : Int) ≤ 1 ∧ (1 : Int) ≤ c); omega, by decide⟩, ⟨by omega, by show ((0 : Int) ≤ 1 ∧ (1 : Int) ≤ _); omega⟩, by omega, from5 (f.toNat : Int) (by omega) (by omega), gtf (by show (5 : Int) ≤ _; omega), ⟨by show ((0 : Int) ≤ 5 ∧ (5 : Int) ≤ _); omega, by decide⟩, ⟨by omega, by show ((0 : Int) ≤ 5 ∧ (5 : Int) ≤ _); omega⟩, by omega, by omega, by omega, by omega, by omega, by omega, leF (by show _ < (4294967296 : Int); omega), by first | exact ⟨rfl, rfl⟩ | exact ⟨trivial, rfl⟩ | exact ⟨trivial, trivial⟩⟩

theorem nbshort5 (kp : Nat) (s : List UInt8) (off len c : Nat) (hoff : off + len = s.length) (hc : len ≤ c) (f : UInt8) (r : List UInt8) (hl : s.drop off = f :: r) (hf0 : f.toNat = 252) (hs : len < 6) :
    Goal P kp 24 (fun v H => v = .tup [.int .u64 0, .bool false] ∧ H = rd3 (.slc 1 0 (if len = 1 then off else off + 1) (len - 1) (len - 1)) false s 1099511627775 0 252 5 4294967296) (atNum s off len c) := by
  have hf := u8_lt f
  have hlen : 1 ≤ len := by have := congrArg List.length hl; simp at this; omega
  have y0 : yy s off = f.toNat := by have := yy_at hl 0; simpa using this
  have w1 : IntKind.u64.wrap (len : Int) = len := IntWalk.u64_in _ (by omega)
  have w2 : IntKind.u64.wrap ((len - 1 : Nat) : Int) = (len - 1 : Nat) := IntWalk.u64_in _ (by omega)
  refine Obl.goal (K := fun _ => False) mix (fun _ h => h.elim) (cast (nb5xny (yy s) off len c s.length _ kp _).symm ?_)
  simp only [Int.toNat_natCast, y0, w1, w2]
  exact ⟨gtf (by show (1 : Int) ≤ _; omega), ⟨by show ((0 : Int) ≤ 1 ∧ (1 : Int) ≤ c); omega, by decide⟩, ⟨by omega, by show ((0 : Int) ≤ 1 ∧ (1 : Int) ≤ _); omega⟩, by omega, from5 (f.toNat : Int) (by omega) (by omega), gtt (by show _ < (5 : Int); omega), by first | exact ⟨rfl, rfl⟩ | exact ⟨trivial, rfl⟩ | exact ⟨trivial, trivial⟩⟩

theorem nbok6 (kp : Nat) (s : List UInt8) (off len c : Nat) (hoff : off + len = s.length) (hc : len ≤ c) (hbig : len ≤ 9223372036854775807) (f a1 a2 a3 a4 a5 a6 : UInt8) (r : List UInt8) (hl : s.drop off = f :: a1 :: a2 :: a3 :: a4 :: a5 :: a6 :: r) (hf0 : f.toNat = 253) (h0 : 1099511627776 ≤ (((((((0 * 256 + (a1.toNat : Int)) * 256 + (a2.toNat : Int)) * 256 + (a3.toNat : Int)) * 256 + (a4.toNat : Int)) * 256 + (a5.toNat : Int)) * 256 + (a6.toNat : Int)) + 0)) (h1 : (((((((0 * 256 + (a1.toNat : Int)) * 256 + (a2.toNat : Int)) * 256 + (a3.toNat : Int)) * 256 + (a4.toNat : Int)) * 256 + (a5.toNat : Int)) * 256 + (a6.toNat : Int)) + 0) ≤ 281474976710655) :
    Goal P kp 24 (fun v H => v = .tup [.int .u64 (((((((0 * 256 + (a1.toNat : Int)) * 256 + (a2.toNat : Int)) * 256 + (a3.toNat : Int)) * 256 + (a4.toNat : Int)) * 256 + (a5.toNat : Int)) * 256 + (a6.toNat : Int)) + 0), .bool true] ∧ H = rd3 (.slc 1 0 (if len - 1 = 6 then off + 1 else off + 1 + 6) (len - 1 - 6) (len - 1 - 6)) false s 281474976710655 0 253 6 1099511627776) (atNum s off len c) := by
  have hf := u8_lt f
  have ha1 := u8_lt a1
  have ha2 := u8_lt a2
  have ha3 := u8_lt a3
  have ha4 := u8_lt a4
  have ha5 := u8_lt a5
  have ha6 := u8_lt a6
  have hlen : 1 ≤ len := by have := congrArg List.length hl; simp at this; omega
  have y0 : yy s off = f.toNat := by have := yy_at hl 0; simpa using this
  have hlk : 7 ≤ len := by have := congrArg List.length hl; simp at this; omega
  have y1 : yy s (off + 1) = a1.toNat := by have := yy_at hl 1; simp at this; rw [← this]
  have y2 : yy s (off + 1 + 1) = a2.toNat := by have := yy_at hl 2; simp at this; rw [← this]
  have y3 : yy s (off + 1 + 2) = a3.toNat := by have := yy_at hl 3; simp at this; rw [← this]
  have y4 : yy s (off + 1 + 3) = a4.toNat := by have := yy_at hl 4; simp at this; rw [← this]
  have y5 : yy s (off + 1 + 4) = a5.toNat := by have := yy_at hl 5; simp at this; rw [← this]
  have y6 : yy s (off + 1 + 5) = a6.toNat := by have := yy_at hl 6; simp at this; rw [← this]
  have w1 : IntKind.u64.wrap (len : Int) = len := IntWalk.u64_in _ (by omega)
  have w2 : IntKind.u64.wrap ((len - 1 : Nat) : Int) = (len - 1 : Nat) := IntWalk.u64_in _ (by omega)
  have e1 : (if len = 1 then off else off + 1) = off + 1 := if_neg (by omega)
  have z0 : IntKind.u64.wrap (IntKind.u8.wrap ((f.toNat : Int) - Int.ofNat 253)) = 0 := by
    rw [IntWalk.u8_in _ (by show 0 ≤ (f.toNat : Int) - 253 ∧ (f.toNat : Int) - 253 ≤ 255; omega), IntWalk.u64_in _ (by show 0 ≤ (f.toNat : Int) - 253 ∧ (f.toNat : Int) - 253 ≤ _; omega)]
    show (f.toNat : Int) - 253 = _
    omega
  have A1 := acc_eq 0 a1.toNat (by omega) (by omega) (by omega) (by omega)
  have A2 := acc_eq (0 * 256 + (a1.toNat : Int)) a2.toNat (by omega) (by omega) (by omega) (by omega)
  have A3 := acc_eq ((0 * 256 + (a1.toNat : Int)) * 256 + (a2.toNat : Int)) a3.toNat (by omega) (by omega) (by omega) (by omega)
  have A4 := acc_eq (((0 * 256 + (a1.toNat : Int)) * 256 + (a2.toNat : Int)) * 256 + (a3.toNat : Int)) a4.toNat (by omega) (by omega) (by omega) (by omega)
  have A5 := acc_eq ((((0 * 256 + (a1.toNat : Int)) * 256 + (a2.toNat : Int)) * 256 + (a3.toNat : Int)) * 256 + (a4.toNat : Int)) a5.toNat (by omega) (by omega) (by omega) (by omega)
  have A6 := acc_eq (((((0 * 256 + (a1.toNat : Int)) * 256 + (a2.toNat : Int)) * 256 + (a3.toNat : Int)) * 256 + (a4.toNat : Int)) * 256 + (a5.toNat : Int)) a6.toNat (by omega) (by omega) (by omega) (by omega)
  have wV : IntKind.u64.wrap (((((((0 * 256 + (a1.toNat : Int)) * 256 + (a2.toNat : Int)) * 256 + (a3.toNat : Int)) * 256 + (a4.toNat : Int)) * 256 + (a5.toNat : Int)) * 256 + (a6.toNat : Int)) + Int.ofNat 0) = (((((((0 * 256 + (a1.toNat : Int)) * 256 + (a2.toNat : Int)) * 256 + (a3.toNat : Int)) * 256 + (a4.toNat : Int)) * 256 + (a5.toNat : Int)) * 256 + (a6.toNat : Int)) + 0) := IntWalk.u64_in _ (by show 0 ≤ ((((((0 * 256 + (a1.toNat : Int)) * 256 + (a2.toNat : Int)) * 256 + (a3.toNat : Int)) * 256 + (a4.toNat : Int)) * 256 + (a5.toNat : Int)) * 256 + (a6.toNat : Int)) + 0 ∧ ((((((0 * 256 + (a1.toNat : Int)) * 256 + (a2.toNat : Int)) * 256 + (a3.toNat : Int)) * 256 + (a4.toNat : Int)) * 256 + (a5.toNat : Int)) * 256 + (a6.toNat : Int)) + 0 ≤ _; omega)
  refine Obl.goal (K := fun _ => False) mix (fun _ h => h.elim) (cast (nb6xnnyy (yy s) off len c s.length _ kp _).symm ?_)
  simp only [Int.toNat_natCast, e1, y0, w1, w2, z0, wV, y1, y2, y3, y4, y5, y6, A1, A2, A3, A4, A5, A6]
  exact ⟨gtf (by show (1 : Int) ≤ _; omega), ⟨by show ((0 : Int) ≤ 1 ∧ (1 : Int) ≤ c); omega, by decide⟩, ⟨by omega, by show ((0 : Int) ≤ 1 ∧ (1 : Int) ≤ _); omega⟩, by omega, from6 (f.toNat : Int) (by omega) (by omega), gtf (by show (6 : Int) ≤ _; omega), ⟨by show ((0 : Int) ≤ 6 ∧ (6 : Int) ≤ _); omega, by decide⟩, ⟨by omega, by show ((0 : Int) ≤ 6 ∧ (6 : Int) ≤ _); omega⟩, by omega, by omega, by omega, by omega, by omega, by omega, by omega, leT (by show (1099511627776 : Int) ≤ _; omega), leT (by show _ ≤ (281474976710655 : Int); omega), by first | exact ⟨rfl, rfl⟩ | exact ⟨trivial, rfl⟩ | exact ⟨trivial, trivial⟩⟩

theorem nblo6 (kp : Nat) (s : List UInt8) (off len c : Nat) (hoff : off + len = s.length) (hc : len ≤ c) (hbig : len ≤ 9223372036854775807) (f a1 a2 a3 a4 a5 a6 : UInt8) (r : List UInt8) (hl : s.drop off = f :: a1 :: a2 :: a3 :: a4 :: a5 :: a6 :: r) (hf0 : f.toNat = 253) (h0 : (((((((0 * 256 + (a1.toNat : Int)) * 256 + (a2.toNat : Int)) * 256 + (a3.toNat : Int)) * 256 + (a4.toNat : Int)) * 256 + (a5.toNat : Int)) * 256 + (a6.toNat : Int)) + 0) < 1099511627776) :
    Goal P kp 24 (fun v H => v = .tup [.int .u64 0, .bool false] ∧ H = rd3 (.slc 1 0 (if len - 1 = 6 then off + 1 else off + 1 + 6) (len - 1 - 6) (len - 1 - 6)) false s 281474976710655 0 253 6 1099511627776) (atNum s off len c) := by
  have hf := u8_lt f
  have ha1 := u8_lt a1
  have ha2 := u8_lt a2
  have ha3 := u8_lt a3
  have ha4 := u8_lt a4
  have ha5 := u8_lt a5
  have ha6 := u8_lt a6
  have hlen : 1 ≤ len := by have := congrArg List.length hl; simp at this; omega
  have y0 : yy s off = f.toNat := by have := yy_at hl 0; simpa using this
  have hlk : 7 ≤ len := by have := congrArg List.length hl; simp at this; omega
  have y1 : yy s (off + 1) = a1.toNat := by have := yy_at hl 1; simp at this; rw [← this]
  have y2 : yy s (off + 1 + 1) = a2.toNat := by have := yy_at hl 2; simp at this; rw [← this]
  have y3 : yy s (off + 1 + 2) = a3.toNat := by have := yy_at hl 3; simp at this; rw [← this]
  have y4 : yy s (off + 1 + 3) = a4.toNat := by have := yy_at hl 4; simp at this; rw [← this]
  have y5 : yy s (off + 1 + 4) = a5.toNat := by have := yy_at hl 5; simp at this; rw [← this]
  have y6 : yy s (off + 1 + 5) = a6.toNat := by have := yy_at hl 6; simp at this; rw [← this]
  have w1 : IntKind.u64.wrap (len : Int) = len := IntWalk.u64_in _ (by omega)
  have w2 : IntKind.u64.wrap ((len - 1 : Nat) : Int) = (len - 1 : Nat) := IntWalk.u64_in _ (by omega)
  have e1 : (if len = 1 then off else off + 1) = off + 1 := if_neg (by omega)
  have z0 : IntKind.u64.wrap (IntKind.u8.wrap ((f.toNat : Int) - Int.ofNat 253)) = 0 := by
    rw [IntWalk.u8_in _ (by show 0 ≤ (f.toNat : Int) - 253 ∧ (f.toNat : Int) - 253 ≤ 255; omega), IntWalk.u64_in _ (by show 0 ≤ (f.toNat : Int) - 253 ∧ (f.toNat : Int) - 253 ≤ _; omega)]
    show (f.toNat : Int) - 253 = _
    omega
  have A1 := acc_eq 0 a1.toNat (by omega) (by omega) (by omega) (by omega)
  have A2 := acc_eq (0 * 256 + (a1.toNat : Int)) a2.toNat (by omega) (by omega) (by omega) (by omega)
  have A3 := acc_eq ((0 * 256 + (a1.toNat : Int)) * 256 + (a2.toNat : Int)) a3.toNat (by omega) (by omega) (by omega) (by omega)
  have A4 := acc_eq (((0 * 256 + (a1.toNat : Int)) * 256 + (a2.toNat : Int)) * 256 + (a3.toNat : Int)) a4.toNat (by omega) (by omega) (by omega) (by omega)
  have A5 := acc_eq ((((0 * 256 + (a1.toNat : Int)) * 256 + (a2.toNat : Int)) * 256 + (a3.toNat : Int)) * 256 + (a4.toNat : Int)) a5.toNat (by omega) (by omega) (by omega) (by omega)
  have A6 := acc_eq (((((0 * 256 + (a1.toNat : Int)) * 256 + (a2.toNat : Int)) * 256 + (a3.toNat : Int)) * 256 + (a4.toNat : Int)) * 256 + (a5.toNat : Int)) a6.toNat (by omega) (by omega) (by omega) (by omega)
  have wV : IntKind.u64.wrap (((((((0 * 256 + (a1.toNat : Int)) * 256 + (a2.toNat : Int)) * 256 + (a3.toNat : Int)) * 256 + (a4.toNat : Int)) * 256 + (a5.toNat : Int)) * 256 + (a6.toNat : Int)) + Int.ofNat 0) = (((((((0 * 256 + (a1.toNat : Int)) * 256 + (a2.toNat : Int)) * 256 + (a3.toNat : Int)) * 256 + (a4.toNat : Int)) * 256 + (a5.toNat : Int)) * 256 + (a6.toNat : Int)) + 0) := IntWalk.u64_in _ (by show 0 ≤ ((((((0 * 256 + (a1.toNat : Int)) * 256 + (a2.toNat : Int)) * 256 + (a3.toNat : Int)) * 256 + (a4.toNat : Int)) * 256 + (a5.toNat : Int)) * 256 + (a6.toNat : Int)) + 0 ∧ ((((((0 * 256 + (a1.toNat : Int)) * 256 + (a2.toNat : Int)) * 256 + (a3.toNat : Int)) * 256 + (a4.toNat : Int)) * 256 + (a5.toNat : Int)) * 256 + (a6.toNat : Int)) + 0 ≤ _; omega)
  refine Obl.goal (K := fun _ => False) mix (fun _ h => h.elim) (cast (nb6xnnn (yy s) off len c s.length _ kp _).symm ?_)
  simp only [Int.toNat_natCast, e1, y0, w1, w2, z0, wV, y1, y2, y3, y4, y5, y6, A1, A2, A3, A4, A5, A6]
  exact ⟨gtf (by show (1 : Int) ≤ _; omega), ⟨by show ((0 : Int) ≤ 1 ∧ (1 : Int) ≤ c); omega, by decide⟩, ⟨by omega, by show ((0 : Int) ≤ 1 ∧ (1 : Int) ≤ _); omega⟩, by omega, from6 (f.toNat : Int) (by omega) (by omega), gtf (by show (6 : Int) ≤ _; omega), ⟨by show ((0 : Int) ≤ 6 ∧ (6 : Int) ≤ _); omega, by decide⟩, ⟨by omega, by show ((0 : Int) ≤ 6 ∧ (6 : Int) ≤ _); omega⟩, by omega, by omega, by omega, by omega, by omega, by omega, by omega, leF (by show _ < (1099511627776 : Int); omega), by first | exact ⟨rfl, rfl⟩ | exact ⟨trivial, rfl⟩ | exact ⟨trivial, trivial⟩⟩

theorem nbshort6 (kp : Nat) (s : List UInt8) (off len c : Nat) (hoff : off + len = s.length) (hc : len ≤ c) (f : UInt8) (r : List UInt8) (hl : s.drop off = f :: r) (hf0 : f.toNat = 253) (hs : len < 7) :
    Goal P kp 24 (fun v H => v = .tup [.int .u64 0, .bool false] ∧ H = rd3 (.slc 1 0 (if len = 1 then off else off + 1) (len - 1) (len - 1)) false s 281474976710655 0 253 6 1099511627776) (atNum s off len c) := by
  have hf := u8_lt f
  have hlen : 1 ≤ len := by have := congrArg List.length hl; simp at this; omega
  have y0 : yy s off = f.toNat := by have := yy_at hl 0; simpa using this
  have w1 : IntKind.u64.wrap (len : Int) = len := IntWalk.u64_in _ (by omega)
  have w2 : IntKind.u64.wrap ((len - 1 : Nat) : Int) = (len - 1 : Nat) := IntWalk.u64_in _ (by omega)
  refine Obl.goal (K := fun _ => False) mix (fun _ h => h.elim) (cast (nb6xny (yy s) off len c s.length _ kp _).symm ?_)
  simp only [Int.toNat_natCast, y0, w1, w2]
  exact ⟨gtf (by show (1 : Int) ≤ _; omega), ⟨by show ((0 : Int) ≤ 1 ∧ (1 : Int) ≤ c); omega, by decide⟩, ⟨by omega, by show ((0 : Int) ≤ 1 ∧ (1 : Int) ≤ _); omega⟩, by omega, from6 (f.toNat : Int) (by omega) (by omega), gtt (by show _ < (6 : Int); omega), by first | exact ⟨rfl, rfl⟩ | exact ⟨trivial, rfl⟩ | exact ⟨trivial, trivial⟩⟩

theorem nbok7 (kp : Nat) (s : List UInt8) (off len c : Nat) (hoff : off + len = s.length) (hc : len ≤ c) (hbig : len ≤ 9223372036854775807) (f a1 a2 a3 a4 a5 a6 a7 : UInt8) (r : List UInt8) (hl : s.drop off = f :: a1 :: a2 :: a3 :: a4 :: a5 :: a6 :: a7 :: r) (hf0 : f.toNat = 254) (h0 : 281474976710656 ≤ ((((((((0 * 256 + (a1.toNat : Int)) * 256 + (a2.toNat : Int)) * 256 + (a3.toNat : Int)) * 256 + (a4.toNat : Int)) * 256 + (a5.toNat : Int)) * 256 + (a6.toNat : Int)) * 256 + (a7.toNat : Int)) + 0)) (h1 : ((((((((0 * 256 + (a1.toNat : Int)) * 256 + (a2.toNat : Int)) * 256 + (a3.toNat : Int)) * 256 + (a4.toNat : Int)) * 256 + (a5.toNat : Int)) * 256 + (a6.toNat : Int)) * 256 + (a7.toNat : Int)) + 0) ≤ 72057594037927935) :
    Goal P kp 24 (fun v H => v = .tup [.int .u64 ((((((((0 * 256 + (a1.toNat : Int)) * 256 + (a2.toNat : Int)) * 256 + (a3.toNat : Int)) * 256 + (a4.toNat : Int)) * 256 + (a5.toNat : Int)) * 256 + (a6.toNat : Int)) * 256 + (a7.toNat : Int)) + 0), .bool true] ∧ H = rd3 (.slc 1 0 (if len - 1 = 7 then off + 1 else off + 1 + 7) (len - 1 - 7) (len - 1 - 7)) false s 72057594037927935 0 254 7 281474976710656) (atNum s off len c) := by
  have hf := u8_lt f
  have ha1 := u8_lt a1
  have ha2 := u8_lt a2
  have ha3 := u8_lt a3
  have ha4 := u8_lt a4
  have ha5 := u8_lt a5
  have ha6 := u8_lt a6
  have ha7 := u8_lt a7
  have hlen : 1 ≤ len := by have := congrArg List.length hl; simp at this; omega
  have y0 : yy s off = f.toNat := by have := yy_at hl 0; simpa using this
  have hlk : 8 ≤ len := by have := congrArg List.length hl; simp at this; omega
  have y1 : yy s (off + 1) = a1.toNat := by have := yy_at hl 1; simp at this; rw [← this]
  have y2 : yy s (off + 1 + 1) = a2.toNat := by have := yy_at hl 2; simp at this; rw [← this]
  have y3 : yy s (off + 1 + 2) = a3.toNat := by have := yy_at hl 3; simp at this; rw [← this]
  have y4 : yy s (off + 1 + 3) = a4.toNat := by have := yy_at hl 4; simp at this; rw [← this]
  have y5 : yy s (off + 1 + 4) = a5.toNat := by have := yy_at hl 5; simp at this; rw [← this]
  have y6 : yy s (off + 1 + 5) = a6.toNat := by have := yy_at hl 6; simp at this; rw [← this]
  have y7 : yy s (off + 1 + 6) = a7.toNat := by have := yy_at hl 7; simp at this; rw [← this]
  have w1 : IntKind.u64.wrap (len : Int) = len := IntWalk.u64_in _ (by omega)
  have w2 : IntKind.u64.wrap ((len - 1 : Nat) : Int) = (len - 1 : Nat) := IntWalk.u64_in _ (by omega)
  have e1 : (if len = 1 then off else off + 1) = off + 1 := if_neg (by omega)
  have z0 : IntKind.u64.wrap (IntKind.u8.wrap ((f.toNat : Int) - Int.ofNat 254)) = 0 := by
    rw [IntWalk.u8_in _ (by show 0 ≤ (f.toNat : Int) - 254 ∧ (f.toNat : Int) - 254 ≤ 255; omega), IntWalk.u64_in _ (by show 0 ≤ (f.toNat : Int) - 254 ∧ (f.toNat : Int) - 254 ≤ _; omega)]
    show (f.toNat : Int) - 254 = _
    omega
  have A1 := acc_eq 0 a1.toNat (by omega) (by omega) (by omega) (by omega)
  have A2 := acc_eq (0 * 256 + (a1.toNat : Int)) a2.toNat (by omega) (by omega) (by omega) (by omega)
  have A3 := acc_eq ((0 * 256 + (a1.toNat : Int)) * 256 + (a2.toNat : Int)) a3.toNat (by omega) (by omega) (by omega) (by omega)
  have A4 := acc_eq (((0 * 256 + (a1.toNat : Int)) * 256 + (a2.toNat : Int)) * 256 + (a3.toNat : Int)) a4.toNat (by omega) (by omega) (by omega) (by omega)
  have A5 := acc_eq ((((0 * 256 + (a1.toNat : Int)) * 256 + (a2.toNat : Int)) * 256 + (a3.toNat : Int)) * 256 + (a4.toNat : Int)) a5.toNat (by omega) (by omega) (by omega) (by omega)
  have A6 := acc_eq (((((0 * 256 + (a1.toNat : Int)) * 256 + (a2.toNat : Int)) * 256 + (a3.toNat : Int)) * 256 + (a4.toNat : Int)) * 256 + (a5.toNat : Int)) a6.toNat (by omega) (by omega) (by omega) (by omega)
  have A7 := acc_eq ((((((0 * 256 + (a1.toNat : Int)) * 256 + (a2.toNat : Int)) * 256 + (a3.toNat : Int)) * 256 + (a4.toNat : Int)) * 256 + (a5.toNat : Int)) * 256 + (a6.toNat : Int)) a7.toNat (by omega) (by omega) (by omega) (by omega)
  have wV : IntKind.u64.wrap ((((((((0 * 256 + (a1.toNat : Int)) * 256 + (a2.toNat : Int)) * 256 + (a3.toNat : Int)) * 256 + (a4.toNat : Int)) * 256 + (a5.toNat : Int)) * 256 + (a6.toNat : Int)) * 256 + (a7.toNat : Int)) + Int.ofNat 0) = ((((((((0 * 256 + (a1.toNat : Int)) * 256 + (a2.toNat : Int)) * 256 + (a3.toNat : Int)) * 256 + (a4.toNat : Int)) * 256 + (a5.toNat : Int)) * 256 + (a6.toNat : Int)) * 256 + (a7.toNat : Int)) + 0) := IntWalk.u64_in _ (by show 0 ≤ (((((((0 * 256 + (a1.toNat : Int)) * 256 + (a2.toNat : Int)) * 256 + (a3.toNat : Int)) * 256 + (a4.toNat : Int)) * 256 + (a5.toNat : Int)) * 256 + (a6.toNat : Int)) * 256 + (a7.toNat : Int)) + 0 ∧ (((((((0 * 256 + (a1.toNat : Int)) * 256 + (a2.toNat : Int)) * 256 + (a3.toNat : Int)) * 256 + (a4.toNat : Int)) * 256 + (a5.toNat : Int)) * 256 + (a6.toNat : Int)) * 256 + (a7.toNat : Int)) + 0 ≤ _; omega)
  refine Obl.goal (K := fun _ => False) mix (fun _ h => h.elim) (cast (nb7xnnyy (yy s) off len c s.length _ kp _).symm ?_)
  simp only [Int.toNat_natCast, e1, y0, w1, w2, z0, wV, y1, y2, y3, y4, y5, y6, y7, A1, A2, A3, A4, A5, A6, A7]
  exact ⟨gtf (by show (1 : Int) ≤ _; omega), ⟨by show ((0 : Int) ≤ 1 ∧ (1 : Int) ≤ c); omega, by decide⟩, ⟨by omega, by show ((0 : Int) ≤ 1 ∧ (1 : Int) ≤ _); omega⟩, by omega, from7 (f.toNat : Int) (by omega) (by omega), gtf (by show (7 : Int) ≤ _; omega), ⟨by show ((0 : Int) ≤ 7 ∧ (7 : Int) ≤ _); omega, by decide⟩, ⟨by omega, by show ((0 : Int) ≤ 7 ∧ (7 : Int) ≤ _); omega⟩, by omega, by omega, by omega, by omega, by omega, by omega, by omega, by omega, leT (by show (281474976710656 : Int) ≤ _; omega), leT (by show _ ≤ (72057594037927935 : Int); omega), by first | exact ⟨rfl, rfl⟩ | exact ⟨trivial, rfl⟩ | exact ⟨trivial, trivial⟩⟩

theorem nblo7 (kp : Nat) (s : List UInt8) (off len c : Nat) (hoff : off + len = s.length) (hc : len ≤ c) (hbig : len ≤ 9223372036854775807) (f a1 a2 a3 a4 a5 a6 a7 : UInt8) (r : List UInt8) (hl : s.drop off = f :: a1 :: a2 :: a3 :: a4 :: a5 :: a6 :: a7 :: r) (hf0 : f.toNat = 254) (h0 : ((((((((0 * 256 + (a1.toNat : Int)) * 256 + (a2.toNat : Int)) * 256 + (a3.toNat : Int)) * 256 + (a4.toNat : Int)) * 256 + (a5.toNat : Int)) * 256 + (a6.toNat : Int)) * 256 + (a7.toNat : Int)) + 0) < 281474976710656) :
    Goal P kp 24 (fun v H => v = .tup [.int .u64 0, .bool false] ∧ H = rd3 (.slc 1 0 (if len - 1 = 7 then off + 1 else off + 1 + 7) (len - 1 - 7) (len - 1 - 7)) false s 72057594037927935 0 254 7 281474976710656) (atNum s off len c) := by
  have hf := u8_lt f
  have ha1 := u8_lt a1
  have ha2 := u8_lt a2
  have ha3 := u8_lt a3
  have ha4 := u8_lt a4
  have ha5 := u8_lt a5
  have ha6 := u8_lt a6
  have ha7 := u8_lt a7
  have hlen : 1 ≤ len := by have := congrArg List.length hl; simp at this; omega
  have y0 : yy s off = f.toNat := by have := yy_at hl 0; simpa using this
  have hlk : 8 ≤ len := by have := congrArg List.length hl; simp at this; omega
  have y1 : yy s (off + 1) = a1.toNat := by have := yy_at hl 1; simp at this; rw [← this]
  have y2 : yy s (off + 1 + 1) = a2.toNat := by have := yy_at hl 2; simp at this; rw [← this]
  have y3 : yy s (off + 1 + 2) = a3.toNat := by have := yy_at hl 3; simp at this; rw [← this]
  have y4 : yy s (off + 1 + 3) = a4.toNat := by have := yy_at hl 4; simp at this; rw [← this]
  have y5 : yy s (off + 1 + 4) = a5.toNat := by have := yy_at hl 5; simp at this; rw [← this]
  have y6 : yy s (off + 1 + 5) = a6.toNat := by have := yy_at hl 6; simp at this; rw [← this]
  have y7 : yy s (off + 1 + 6) = a7.toNat := by have := yy_at hl 7; simp at this; rw [← this]
  have w1 : IntKind.u64.wrap (len : Int) = len := IntWalk.u64_in _ (by omega)
  have w2 : IntKind.u64.wrap ((len - 1 : Nat) : Int) = (len - 1 : Nat) := IntWalk.u64_in _ (by omega)
  have e1 : (if len = 1 then off else off + 1) = off + 1 := if_neg (by omega)
  have z0 : IntKind.u64.wrap (IntKind.u8.wrap ((f.toNat : Int) - Int.ofNat 254)) = 0 := by
    rw [IntWalk.u8_in _ (by show 0 ≤ (f.toNat : Int) - 254 ∧ (f.toNat : Int) - 254 ≤ 255; omega), IntWalk.u64_in _ (by show 0 ≤ (f.toNat : Int) - 254 ∧ (f.toNat : Int) - 254 ≤ _; omega)]
    show (f.toNat : Int) - 254 = _
    omega
  have A1 := acc_eq 0 a1.toNat (by omega) (by omega) (by omega) (by omega)
  have A2 := acc_eq (0 * 256 + (a1.toNat : Int)) a2.toNat (by omega) (by omega) (by omega) (by omega)
  have A3 := acc_eq ((0 * 256 + (a1.toNat : Int)) * 256 + (a2.toNat : Int)) a3.toNat (by omega) (by omega) (by omega) (by omega)
  have A4 := acc_eq (((0 * 256 + (a1.toNat : Int)) * 256 + (a2.toNat : Int)) * 256 + (a3.toNat : Int)) a4.toNat (by omega) (by omega) (by omega) (by omega)
  have A5 := acc_eq ((((0 * 256 + (a1.toNat : Int)) * 256 + (a2.toNat : Int)) * 256 + (a3.toNat : Int)) * 256 + (a4.toNat : Int)) a5.toNat (by omega) (by omega) (by omega) (by omega)
  have A6 := acc_eq (((((0 * 256 + (a1.toNat : Int)) * 256 + (a2.toNat : Int)) * 256 + (a3.toNat : Int)) * 256 + (a4.toNat : Int)) * 256 + (a5.toNat : Int)) a6.toNat (by omega) (by omega) (by omega) (by omega)
  have A7 := acc_eq ((((((0 * 256 + (a1.toNat : Int)) * 256 + (a2.toNat : Int)) * 256 + (a3.toNat : Int)) * 256 + (a4.toNat : Int)) * 256 + (a5.toNat : Int)) * 256 + (a6.toNat : Int)) a7.toNat (by omega) (by omega) (by omega) (by omega)
  have wV : IntKind.u64.wrap ((((((((0 * 256 + (a1.toNat : Int)) * 256 + (a2.toNat : Int)) * 256 + (a3.toNat : Int)) * 256 + (a4.toNat : Int)) * 256 + (a5.toNat : Int)) * 256 + (a6.toNat : Int)) * 256 + (a7.toNat : Int)) + Int.ofNat 0) = ((((((((0 * 256 + (a1.toNat : Int)) * 256 + (a2.toNat : Int)) * 256 + (a3.toNat : Int)) * 256 + (a4.toNat : Int)) * 256 + (a5.toNat : Int)) * 256 + (a6.toNat : Int)) * 256 + (a7.toNat : Int)) + 0) := IntWalk.u64_in _ (by show 0 ≤ (((((((0 * 256 + (a1.toNat : Int)) * 256 + (a2.toNat : Int)) * 256 + (a3.toNat : Int)) * 256 + (a4.toNat : Int)) * 256 + (a5.toNat : Int)) * 256 + (a6.toNat : Int)) * 256 + (a7.toNat : Int)) + 0 ∧ (((((((0 * 256 + (a1.toNat : Int)) * 256 + (a2.toNat : Int)) * 256 + (a3.toNat : Int)) * 256 + (a4.toNat : Int)) * 256 + (a5.toNat : Int)) * 256 + (a6.toNat : Int)) * 256 + (a7.toNat : Int)) + 0 ≤ _; omega)
  refine Obl.goal (K := fun _ => False) mix (fun _ h => h.elim) (cast (nb7xnnn (yy s) off len c s.length _ kp _).symm ?_)
  simp only [Int.toNat_natCast, e1, y0, w1, w2, z0, wV, y1, y2, y3, y4, y5, y6, y7, A1, A2, A3, A4, A5, A6, A7]
  exact ⟨gtf (by show (1 : Int) ≤ _; omega), ⟨by show ((0 : Int) ≤ 1 ∧ (1 : Int) ≤ c); omega, by decide⟩, ⟨by omega, by show ((0 : Int) ≤ 1 ∧ (1 : Int) ≤ _); omega⟩, by omega, from7 (f.toNat : Int) (by omega) (by omega), gtf (by show (7 : Int) ≤ _; omega), ⟨by show ((0 : Int) ≤ 7 ∧ (7 : Int) ≤ _); omega, by decide⟩, ⟨by omega, by show ((0 : Int) ≤ 7 ∧ (7 : Int) ≤ _); omega⟩, by omega, by omega, by omega, by omega, by omega, by omega, by omega, by omega, leF (by show _ < (281474976710656 : Int); omega), by first | exact ⟨rfl, rfl⟩ | exact ⟨trivial, rfl⟩ | exact ⟨trivial, trivial⟩⟩

theorem nbshort7 (kp : Nat) (s : List UInt8) (off len c : Nat) (hoff : off + len = s.length) (hc : len ≤ c) (f : UInt8) (r : List UInt8) (hl : s.drop off = f :: r) (hf0 : f.toNat = 254) (hs : len < 8) :
    Goal P kp 24 (fun v H => v = .tup [.int .u64 0, .bool false] ∧ H = rd3 (.slc 1 0 (if len = 1 then off else off + 1) (len - 1) (len - 1)) false s 72057594037927935 0 254 7 281474976710656) (atNum s off len c) := by
  have hf := u8_lt f
  have hlen : 1 ≤ len := by have := congrArg List.length hl; simp at this; omega
  have y0 : yy s off = f.toNat := by have := yy_at hl 0; simpa using this
  have w1 : IntKind.u64.wrap (len : Int) = len := IntWalk.u64_in _ (by omega)
  have w2 : IntKind.u64.wrap ((len - 1 : Nat) : Int) = (len - 1 : Nat) := IntWalk.u64_in _ (by omega)
  refine Obl.goal (K := fun _ => False) mix (fun _ h => h.elim) (cast (nb7xny (yy s) off len c s.length _ kp _).symm ?_)
  simp only [Int.toNat_natCast, y0, w1, w2]
  exact ⟨gtf (by show (1 : Int) ≤ _; omega), ⟨by show ((0 : Int) ≤ 1 ∧ (1 : Int) ≤ c); omega, by decide⟩, ⟨by omega, by show ((0 : Int) ≤ 1 ∧ (1 : Int) ≤ _); omega⟩, by omega, from7 (f.toNat : Int) (by omega) (by omega), gtt (by show _ < (7 : Int); omega), by first | exact ⟨rfl, rfl⟩ | exact ⟨trivial, rfl⟩ | exact ⟨trivial, trivial⟩⟩

theorem nbok8 (kp : Nat) (s : List UInt8) (off len c : Nat) (hoff : off + len = s.length) (hc : len ≤ c) (hbig : len ≤ 9223372036854775807) (f a1 a2 a3 a4 a5 a6 a7 a8 : UInt8) (r : List UInt8) (hl : s.drop off = f :: a1 :: a2 :: a3 :: a4 :: a5 :: a6 :: a7 :: a8 :: r) (hf0 : f.toNat = 255) (h0 : 72057594037927936 ≤ (((((((((0 * 256 + (a1.toNat : Int)) * 256 + (a2.toNat : Int)) * 256 + (a3.toNat : Int)) * 256 + (a4.toNat : Int)) * 256 + (a5.toNat : Int)) * 256 + (a6.toNat : Int)) * 256 + (a7.toNat : Int)) * 256 + (a8.toNat : Int)) + 0)) (h1 : (((((((((0 * 256 + (a1.toNat : Int)) * 256 + (a2.toNat : Int)) * 256 + (a3.toNat : Int)) * 256 + (a4.toNat : Int)) * 256 + (a5.toNat : Int)) * 256 + (a6.toNat : Int)) * 256 + (a7.toNat : Int)) * 256 + (a8.toNat : Int)) + 0) ≤ 18446744073709551615) :
    Goal P kp 24 (fun v H => v = .tup [.int .u64 (((((((((0 * 256 + (a1.toNat : Int)) * 256 + (a2.toNat : Int)) * 256 + (a3.toNat : Int)) * 256 + (a4.toNat : Int)) * 256 + (a5.toNat : Int)) * 256 + (a6.toNat : Int)) * 256 + (a7.toNat : Int)) * 256 + (a8.toNat : Int)) + 0), .bool true] ∧ H = rd3 (.slc 1 0 (if len - 1 = 8 then off + 1 else off + 1 + 8) (len - 1 - 8) (len - 1 - 8)) false s 18446744073709551615 0 255 8 72057594037927936) (atNum s off len c) := by
  have hf := u8_lt f
  have ha1 := u8_lt a1
  have ha2 := u8_lt a2
  have ha3 := u8_lt a3
  have ha4 := u8_lt a4
  have ha5 := u8_lt a5
  have ha6 := u8_lt a6
  have ha7 := u8_lt a7
  have ha8 := u8_lt a8
  have hlen : 1 ≤ len := by have := congrArg List.length hl; simp at this; omega
  have y0 : yy s off = f.toNat := by have := yy_at hl 0; simpa using this
  have hlk : 9 ≤ len := by have := congrArg List.length hl; simp at this; omega
  have y1 : yy s (off + 1) = a1.toNat := by have := yy_at hl 1; simp at this; rw [← this]
  have y2 : yy s (off + 1 + 1) = a2.toNat := by have := yy_at hl 2; simp at this; rw [← this]
  have y3 : yy s (off + 1 + 2) = a3.toNat := by have := yy_at hl 3; simp at this; rw [← this]
  have y4 : yy s (off + 1 + 3) = a4.toNat := by have := yy_at hl 4; simp at this; rw [← this]
  have y5 : yy s (off + 1 + 4) = a5.toNat := by have := yy_at hl 5; simp at this; rw [← this]
  have y6 : yy s (off + 1 + 5) = a6.toNat := by have := yy_at hl 6; simp at this; rw [← this]
  have y7 : yy s (off + 1 + 6) = a7.toNat := by have := yy_at hl 7; simp at this; rw [← this]
  have y8 : yy s (off + 1 + 7) = a8.toNat := by have := yy_at hl 8; simp at this; rw [← this]
  have w1 : IntKind.u64.wrap (len : Int) = len := IntWalk.u64_in _ (by omega)
  have w2 : IntKind.u64.wrap ((len - 1 : Nat) : Int) = (len - 1 : Nat) := IntWalk.u64_in _ (by omega)
  have e1 : (if len = 1 then off else off + 1) = off + 1 := if_neg (by omega)
  have z0 : IntKind.u64.wrap (IntKind.u8.wrap ((f.toNat : Int) - Int.ofNat 255)) = 0 := by
    rw [IntWalk.u8_in _ (by show 0 ≤ (f.toNat : Int) - 255 ∧ (f.toNat : Int) - 255 ≤ 255; omega), IntWalk.u64_in _ (by show 0 ≤ (f.toNat : Int) - 255 ∧ (f.toNat : Int) - 255 ≤ _; omega)]
    show (f.toNat : Int) - 255 = _
    omega
  have A1 := acc_eq 0 a1.toNat (by omega) (by omega) (by omega) (by omega)
  have A2 := acc_eq (0 * 256 + (a1.toNat : Int)) a2.toNat (by omega) (by omega) (by omega) (by omega)
  have A3 := acc_eq ((0 * 256 + (a1.toNat : Int)) * 256 + (a2.toNat : Int)) a3.toNat (by omega) (by omega) (by omega) (by omega)
  have A4 := acc_eq (((0 * 256 + (a1.toNat : Int)) * 256 + (a2.toNat : Int)) * 256 + (a3.toNat : Int)) a4.toNat (by omega) (by omega) (by omega) (by omega)
  have A5 := acc_eq ((((0 * 256 + (a1.toNat : Int)) * 256 + (a2.toNat : Int)) * 256 + (a3.toNat : Int)) * 256 + (a4.toNat : Int)) a5.toNat (by omega) (by omega) (by omega) (by omega)
  have A6 := acc_eq (((((0 * 256 + (a1.toNat : Int)) * 256 + (a2.toNat : Int)) * 256 + (a3.toNat : Int)) * 256 + (a4.toNat : Int)) * 256 + (a5.toNat : Int)) a6.toNat (by omega) (by omega) (by omega) (by omega)
  have A7 := acc_eq ((((((0 * 256 + (a1.toNat : Int)) * 256 + (a2.toNat : Int)) * 256 + (a3.toNat : Int)) * 256 + (a4.toNat : Int)) * 256 + (a5.toNat : Int)) * 256 + (a6.toNat : Int)) a7.toNat (by omega) (by omega) (by omega) (by omega)
  have A8 := acc_eq (((((((0 * 256 + (a1.toNat : Int)) * 256 + (a2.toNat : Int)) * 256 + (a3.toNat : Int)) * 256 + (a4.toNat : Int)) * 256 + (a5.toNat : Int)) * 256 + (a6.toNat : Int)) * 256 + (a7.toNat : Int)) a8.toNat (by omega) (by omega) (by omega) (by omega)
  have wV : IntKind.u64.wrap (((((((((0 * 256 + (a1.toNat : Int)) * 256 + (a2.toNat : Int)) * 256 + (a3.toNat : Int)) * 256 + (a4.toNat : Int)) * 256 + (a5.toNat : Int)) * 256 + (a6.toNat : Int)) * 256 + (a7.toNat : Int)) * 256 + (a8.toNat : Int)) + Int.ofNat 0) = (((((((((0 * 256 + (a1.toNat : Int)) * 256 + (a2.toNat : Int)) * 256 + (a3.toNat : Int)) * 256 + (a4.toNat : Int)) * 256 + (a5.toNat : Int)) * 256 + (a6.toNat : Int)) * 256 + (a7.toNat : Int)) * 256 + (a8.toNat : Int)) + 0) := IntWalk.u64_in _ (by show 0 ≤ ((((((((0 * 256 + (a1.toNat : Int)) * 256 + (a2.toNat : Int)) * 256 + (a3.toNat : Int)) * 256 + (a4.toNat : Int)) * 256 + (a5.toNat : Int)) * 256 + (a6.toNat : Int)) * 256 + (a7.toNat : Int)) * 256 + (a8.toNat : Int)) + 0 ∧ ((((((((0 * 256 + (a1.toNat : Int)) * 256 + (a2.toNat : Int)) * 256 + (a3.toNat : Int)) * 256 + (a4.toNat : Int)) * 256 + (a5.toNat : Int)) * 256 + (a6.toNat : Int)) * 256 + (a7.toNat : Int)) * 256 + (a8.toNat : Int)) + 0 ≤ _; omega)
  refine Obl.goal (K := fun _ => False) mix (fun _ h => h.elim) (cast (nb8xnnyy (yy s) off len c s.length _ kp _).symm ?_)
  simp only [Int.toNat_natCast, e1, y0, w1, w2, z0, wV, y1, y2, y3, y4, y5, y6, y7, y8, A1, A2, A3, A4, A5, A6, A7, A8]
  exact ⟨gtf (by show (1 : Int) ≤ _; omega), ⟨by show ((0 : Int) ≤ 1 ∧ (1 : Int) ≤ c); omega, by decide⟩, ⟨by omega, by show ((0 : Int) ≤ 1 ∧ (1 : Int) ≤ _); omega⟩, by omega, from8 (f.toNat : Int) (by omega), gtf (by show (8 : Int) ≤ _; omega), ⟨by show ((0 : Int) ≤ 8 ∧ (8 : Int) ≤ _); omega, by decide⟩, ⟨by omega, by show ((0 : Int) ≤ 8 ∧ (8 : Int) ≤ _); omega⟩, by omega, by omega, by omega, by omega, by omega, by omega, by omega, by omega, by omega, leT (by show (72057594037927936 : Int) ≤ _; omega), leT (by show _ ≤ (18446744073709551615 : Int); omega), by first | exact ⟨rfl, rfl⟩ | exact ⟨trivial, rfl⟩ | exact ⟨trivial, trivial⟩⟩

theorem nblo8 (kp : Nat) (s : List UInt8) (off len c : Nat) (hoff : off + len = s.length) (hc : len ≤ c) (hbig : len ≤ 9223372036854775807) (f a1 a2 a3 a4 a5 a6 a7 a8 : UInt8) (r : List UInt8) (hl : s.drop off = f :: a1 :: a2 :: a3 :: a4 :: a5 :: a6 :: a7 :: a8 :: r) (hf0 : f.toNat = 255) (h0 : (((((((((0 * 256 + (a1.toNat : Int)) * 256 + (a2.toNat : Int)) * 256 + (a3.toNat : Int)) * 256 + (a4.toNat : Int)) * 256 + (a5.toNat : Int)) * 256 + (a6.toNat : Int)) * 256 + (a7.toNat : Int)) * 256 + (a8.toNat : Int)) + 0) < 72057594037927936) :
    Goal P kp 24 (fun v H => v = .tup [.int .u64 0, .bool false] ∧ H = rd3 (.slc 1 0 (if len - 1 = 8 then off + 1 else off + 1 + 8) (len - 1 - 8) (len - 1 - 8)) false s 18446744073709551615 0 255 8 72057594037927936) (atNum s off len c) := by
  have hf := u8_lt f
  have ha1 := u8_lt a1
  have ha2 := u8_lt a2
  have ha3 := u8_lt a3
  have ha4 := u8_lt a4
  have ha5 := u8_lt a5
  have ha6 := u8_lt a6
  have ha7 := u8_lt a7
  have ha8 := u8_lt a8
  have hlen : 1 ≤ len := by have := congrArg List.length hl; simp at this; omega
  have y0 : yy s off = f.toNat := by have := yy_at hl 0; simpa using this
  have hlk : 9 ≤ len := by have := congrArg List.length hl; simp at this; omega
  have y1 : yy s (off + 1) = a1.toNat := by have := yy_at hl 1; simp at this; rw [← this]
  have y2 : yy s (off + 1 + 1) = a2.toNat := by have := yy_at hl 2; simp at this; rw [← this]
  have y3 : yy s (off + 1 + 2) = a3.toNat := by have := yy_at hl 3; simp at this; rw [← this]
  have y4 : yy s (off + 1 + 3) = a4.toNat := by have := yy_at hl 4; simp at this; rw [← this]
  have y5 : yy s (off + 1 + 4) = a5.toNat := by have := yy_at hl 5; simp at this; rw [← this]
  have y6 : yy s (off + 1 + 5) = a6.toNat := by have := yy_at hl 6; simp at this; rw [← this]
  have y7 : yy s (off + 1 + 6) = a7.toNat := by have := yy_at hl 7; simp at this; rw [← this]
  have y8 : yy s (off + 1 + 7) = a8.toNat := by have := yy_at hl 8; simp at this; rw [← this]
  have w1 : IntKind.u64.wrap (len : Int) = len := IntWalk.u64_in _ (by omega)
  have w2 : IntKind.u64.wrap ((len - 1 : Nat) : Int) = (len - 1 : Nat) := IntWalk.u64_in _ (by omega)
  have e1 : (if len = 1 then off else off + 1) = off + 1 := if_neg (by omega)
  have z0 : IntKind.u64.wrap (IntKind.u8.wrap ((f.toNat : Int) - Int.ofNat 255)) = 0 := by
    rw [IntWalk.u8_in _ (by show 0 ≤ (f.toNat : Int) - 255 ∧ (f.toNat : Int) - 255 ≤ 255; omega), IntWalk.u64_in _ (by show 0 ≤ (f.toNat : Int) - 255 ∧ (f.toNat : Int) - 255 ≤ _; omega)]
    show (f.toNat : Int) - 255 = _
    omega
  have A1 := acc_eq 0 a1.toNat (by omega) (by omega) (by omega) (by omega)
  have A2 := acc_eq (0 * 256 + (a1.toNat : Int)) a2.toNat (by omega) (by omega) (by omega) (by omega)
  have A3 := acc_eq ((0 * 256 + (a1.toNat : Int)) * 256 + (a2.toNat : Int)) a3.toNat (by omega) (by omega) (by omega) (by omega)
  have A4 := acc_eq (((0 * 256 + (a1.toNat : Int)) * 256 + (a2.toNat : Int)) * 256 + (a3.toNat : Int)) a4.toNat (by omega) (by omega) (by omega) (by omega)
  have A5 := acc_eq ((((0 * 256 + (a1.toNat : Int)) * 256 + (a2.toNat : Int)) * 256 + (a3.toNat : Int)) * 256 + (a4.toNat : Int)) a5.toNat (by omega) (by omega) (by omega) (by omega)
  have A6 := acc_eq (((((0 * 256 + (a1.toNat : Int)) * 256 + (a2.toNat : Int)) * 256 + (a3.toNat : Int)) * 256 + (a4.toNat : Int)) * 256 + (a5.toNat : Int)) a6.toNat (by omega) (by omega) (by omega) (by omega)
  have A7 := acc_eq ((((((0 * 256 + (a1.toNat : Int)) * 256 + (a2.toNat : Int)) * 256 + (a3.toNat : Int)) * 256 + (a4.toNat : Int)) * 256 + (a5.toNat : Int)) * 256 + (a6.toNat : Int)) a7.toNat (by omega) (by omega) (by omega) (by omega)
  have A8 := acc_eq (((((((0 * 256 + (a1.toNat : Int)) * 256 + (a2.toNat : Int)) * 256 + (a3.toNat : Int)) * 256 + (a4.toNat : Int)) * 256 + (a5.toNat : Int)) * 256 + (a6.toNat : Int)) * 256 + (a7.toNat : Int)) a8.toNat (by omega) (by omega) (by omega) (by omega)
  have wV : IntKind.u64.wrap (((((((((0 * 256 + (a1.toNat : Int)) * 256 + (a2.toNat : Int)) * 256 + (a3.toNat : Int)) * 256 + (a4.toNat : Int)) * 256 + (a5.toNat : Int)) * 256 + (a6.toNat : Int)) * 256 + (a7.toNat : Int)) * 256 + (a8.toNat : Int)) + Int.ofNat 0) = (((((((((0 * 256 + (a1.toNat : Int)) * 256 + (a2.toNat : Int)) * 256 + (a3.toNat : Int)) * 256 + (a4.toNat : Int)) * 256 + (a5.toNat : Int)) * 256 + (a6.toNat : Int)) * 256 + (a7.toNat : Int)) * 256 + (a8.toNat : Int)) + 0) := IntWalk.u64_in _ (by show 0 ≤ ((((((((0 * 256 + (a1.toNat : Int)) * 256 + (a2.toNat : Int)) * 256 + (a3.toNat : Int)) * 256 + (a4.toNat : Int)) * 256 + (a5.toNat : Int)) * 256 + (a6.toNat : Int)) * 256 + (a7.toNat : Int)) * 256 + (a8.toNat : Int)) + 0 ∧ ((((((((0 * 256 + (a1.toNat : Int)) * 256 + (a2.toNat : Int)) * 256 + (a3.toNat : Int)) * 256 + (a4.toNat : Int)) * 256 + (a5.toNat : Int)) * 256 + (a6.toNat : Int)) * 256 + (a7.toNat : Int)) * 256 + (a8.toNat : Int)) + 0 ≤ _; omega)
  refine Obl.goal (K := fun _ => False) mix (fun _ h => h.elim) (cast (nb8xnnn (yy s) off len c s.length _ kp _).symm ?_)
  simp only [Int.toNat_natCast, e1, y0, w1, w2, z0, wV, y1, y2, y3, y4, y5, y6, y7, y8, A1, A2, A3, A4, A5, A6, A7, A8]
  exact ⟨gtf (by show (1 : Int) ≤ _; omega), ⟨by show ((0 : Int) ≤ 1 ∧ (1 : Int) ≤ c); omega, by decide⟩, ⟨by omega, by show ((0 : Int) ≤ 1 ∧ (1 : Int) ≤ _); omega⟩, by omega, from8 (f.toNat : Int) (by omega), gtf (by show (8 : Int) ≤ _; omega), ⟨by show ((0 : Int) ≤ 8 ∧ (8 : Int) ≤ _); omega, by decide⟩, ⟨by omega, by show ((0 : Int) ≤ 8 ∧ (8 : Int) ≤ _); omega⟩, by omega, by omega, by omega, by omega, by omega, by omega, by omega, by omega, by omega, leF (by show _ < (72057594037927936 : Int); omega), by first | exact ⟨rfl, rfl⟩ | exact ⟨trivial, rfl⟩ | exact ⟨trivial, trivial⟩⟩

theorem nbshort8 (kp : Nat) (s : List UInt8) (off len c : Nat) (hoff : off + len = s.length) (hc : len ≤ c) (f : UInt8) (r : List UInt8) (hl : s.drop off = f :: r) (hf0 : f.toNat = 255) (hs : len < 9) :
    Goal P kp 24 (fun v H => v = .tup [.int .u64 0, .bool false] ∧ H = rd3 (.slc 1 0 (if len = 1 then off else off + 1) (len - 1) (len - 1)) false s 18446744073709551615 0 255 8 72057594037927936) (atNum s off len c) := by
  have hf := u8_lt f
  have hlen : 1 ≤ len := by have := congrArg List.length hl; simp at this; omega
  have y0 : yy s off = f.toNat := by have := yy_at hl 0; simpa using this
  have w1 : IntKind.u64.wrap (len : Int) = len := IntWalk.u64_in _ (by omega)
  have w2 : IntKind.u64.wrap ((len - 1 : Nat) : Int) = (len - 1 : Nat) := IntWalk.u64_in _ (by omega)
  refine Obl.goal (K := fun _ => False) mix (fun _ h => h.elim) (cast (nb8xny (yy s) off len c s.length _ kp _).symm ?_)
  simp only [Int.toNat_natCast, y0, w1, w2]
  exact ⟨gtf (by show (1 : Int) ≤ _; omega), ⟨by show ((0 : Int) ≤ 1 ∧ (1 : Int) ≤ c); omega, by decide⟩, ⟨by omega, by show ((0 : Int) ≤ 1 ∧ (1 : Int) ≤ _); omega⟩, by omega, from8 (f.toNat : Int) (by omega), gtt (by show _ < (8 : Int); omega), by first | exact ⟨rfl, rfl⟩ | exact ⟨trivial, rfl⟩ | exact ⟨trivial, trivial⟩⟩

end Go.Proofs.Ytmnelckaighmkaa.wireR
