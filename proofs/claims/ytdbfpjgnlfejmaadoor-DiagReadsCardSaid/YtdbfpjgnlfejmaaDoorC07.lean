import Derived.Deep.Slices
import Derived.Deep.Strs
import Derived.OpenShut
import Derived.Test.YtdbfpjgnlfejmaaDoorC00
import Derived.Test.YtdbfpjgnlfejmaaDoorC01
import Derived.Test.YtdbfpjgnlfejmaaDoorC02
import Derived.Test.YtdbfpjgnlfejmaaDoorC03
import Derived.Test.YtdbfpjgnlfejmaaDoorC04
import Derived.Test.YtdbfpjgnlfejmaaDoorC05
import Derived.Test.YtdbfpjgnlfejmaaDoorC06
section
set_option maxRecDepth 100000
set_option linter.unusedVariables false
namespace Go.Proofs.YtdbfpjgnlfejmaaDoor.mq
open Go Ev
theorem gtf {a b : Int} (h : a ≤ b) : decide (a > b) = false := decide_eq_false (by omega)
theorem gtt {a b : Int} (h : b < a) : decide (a > b) = true := decide_eq_true h
theorem leT {a b : Int} (h : a ≤ b) : decide (a ≤ b) = true := decide_eq_true h
theorem leF {a b : Int} (h : b < a) : decide (a ≤ b) = false := decide_eq_false (by omega)
def yy (s : List UInt8) (j : Nat) : Int := ((s.getD j 0).toNat : Int)
theorem zn {s l : List UInt8} {off : Nat} (h : s.drop off = l) (j : Nat) : yy s (off + j) = ((l.getD j 0).toNat : Int) := by
 rw [yy, ← h, List.getD_eq_getElem?_getD, List.getD_eq_getElem?_getD, List.getElem?_drop]
theorem zk (v b : Int) (h0 : 0 ≤ v) (h1 : v < 72057594037927936) (h2 : 0 ≤ b) (h3 : b < 256) :
 IntKind.u64.wrap (↑(BitVec.ofInt 64 (IntKind.u64.wrap (v * 2 ^ min (Int.toNat 8) IntKind.u64.bits)) ||| BitVec.ofInt 64 (IntKind.u64.wrap b)).toNat : Int) = v * 256 + b := by
 have p : (2 ^ min (Int.toNat 8) IntKind.u64.bits : Int) = 256 := by decide
 have w1 : IntKind.u64.wrap (v * 256) = v * 256 := IntWalk.u64_in _ (by omega)
 have w2 : IntKind.u64.wrap b = b := IntWalk.u64_in _ (by omega)
 obtain ⟨n, rfl⟩ := Int.eq_ofNat_of_zero_le h0
 obtain ⟨k, rfl⟩ := Int.eq_ofNat_of_zero_le h2
 have hv : (BitVec.ofInt 64 ((n : Int) * 256)).toNat = n * 256 := by
  rw [BitVec.toNat_ofInt, Int.emod_eq_of_lt (by omega) (by omega)]; omega
 have hb : (BitVec.ofInt 64 (k : Int)).toNat = k := by
  rw [BitVec.toNat_ofInt, Int.emod_eq_of_lt (by omega) (by omega)]; omega
 have ho : n * 256 ||| k = n * 256 + k := by
  have := Nat.shiftLeft_add_eq_or_of_lt (show k < 2 ^ 8 by omega) n
  rw [Nat.shiftLeft_eq] at this
  exact this.symm
 rw [p, w1, w2, BitVec.toNat_or, hv, hb, ho]
 rw [IntWalk.u64_in _ (by omega)]
 omega
noncomputable def rd3 (A : AV) (sp : Bool) (s : List UInt8) (a b c d e : Int) : AHeap := ⟨(.node (.node .leaf (some (.cells (.fn fun j => some (AV.int IntKind.u8 (yy s j))) s.length 5 0 0 1 0 true .leaf)) .leaf) (some (.cells (.node (.node .leaf (some (.bool sp)) .leaf) (some A) .leaf) 2 101 0 0 1 0 false .leaf)) (.node .leaf (some (.cells (.node (.node (.node .leaf (some (.int .u64 a)) .leaf) (some (.int .u64 b)) .leaf) (some (.int .u8 c)) (.node (.node .leaf (some (.int .i64 d)) .leaf) (some (.int .u64 e)) .leaf)) 5 130 0 0 1 0 false .leaf)) .leaf)), 3, GW⟩
noncomputable abbrev xl (s : List UInt8) (off len c : Nat) : AM := ze P 76 [.fn (.func 77) [.ptr 0 0 0] []] (rd (.slc 1 0 off len c) false (fun j => some (.int .u8 (yy s j))) s.length)
theorem zl1 (kp : Nat) (s : List UInt8) (off c : Nat) : Goal P kp 76 (fun v H => v = .tup [.int .u64 0, .bool false] ∧ H = rd (.slc 1 0 off 0 c) false (fun j => some (.int .u8 (yy s j))) s.length) (xl s off 0 c) :=
 Obl.goal (K := fun _ => False) mix (fun _ h => h.elim) (cast (nb0xy (yy s) off 0 c s.length _ kp _).symm ⟨gtt (by rw [IntWalk.u64_in _ (by omega)]; decide), rfl, rfl⟩)
theorem nbok0 (kp : Nat) (s : List UInt8) (off len c : Nat) (hoff : off + len = s.length) (hc : len ≤ c) (hbig : len ≤ 9223372036854775807) (f : UInt8) (r : List UInt8) (hl : s.drop off = f :: r) (hf0 : f.toNat ≤ 240) (h0 : 0 ≤ (((f.toNat : Int) - 0) + 0)) (h1 : (((f.toNat : Int) - 0) + 0) ≤ 240) :
 Goal P kp 76 (fun v H => v = .tup [.int .u64 (((f.toNat : Int) - 0) + 0), .bool true] ∧ H = rd3 (.slc 1 0 (if len - 1 = 0 then (if len = 1 then off else off + 1) else (if len = 1 then off else off + 1)) (len - 1 - 0) (len - 1 - 0)) false s 240 0 0 0 0) (xl s off len c) := by
 have hf := zg f
 have hlen : 1 ≤ len := by have := congrArg List.length hl; simp at this; omega
 have y0 : yy s off = f.toNat := by have := zn hl 0; simpa using this
 have hlk : 1 ≤ len := by have := congrArg List.length hl; simp at this; omega
 have w1 : IntKind.u64.wrap (len : Int) = len := IntWalk.u64_in _ (by omega)
 have z0 : IntKind.u64.wrap (IntKind.u8.wrap ((f.toNat : Int) - Int.ofNat 0)) = ((f.toNat : Int) - 0) := by
  rw [IntWalk.u8_in _ (by show 0 ≤ (f.toNat : Int) - 0 ∧ (f.toNat : Int) - 0 ≤ 255; omega), IntWalk.u64_in _ (by show 0 ≤ (f.toNat : Int) - 0 ∧ (f.toNat : Int) - 0 ≤ _; omega)]
  show (f.toNat : Int) - 0 = _
  omega
 have wV : IntKind.u64.wrap (((f.toNat : Int) - 0) + Int.ofNat 0) = (((f.toNat : Int) - 0) + 0) := IntWalk.u64_in _ (by show 0 ≤ ((f.toNat : Int) - 0) + 0 ∧ ((f.toNat : Int) - 0) + 0 ≤ _; omega)
 refine Obl.goal (K := fun _ => False) mix (fun _ h => h.elim) (cast (zlH (yy s) off len c s.length _ kp _).symm ?_)
 simp only [Int.toNat_natCast, y0, w1, z0, wV]
 exact ⟨gtf (by show (1 : Int) ≤ _; omega), ⟨by show ((0 : Int) ≤ 1 ∧ (1 : Int) ≤ c); omega, by decide⟩, ⟨by omega, by show ((0 : Int) ≤ 1 ∧ (1 : Int) ≤ _); omega⟩, by omega, from0 (f.toNat : Int) (by omega) (by omega), ⟨by omega, by show ((0 : Int) ≤ 0 ∧ (0 : Int) ≤ _); omega⟩, by omega, leT (by show (0 : Int) ≤ _; omega), leT (by show _ ≤ (240 : Int); omega), by first | exact ⟨rfl, rfl⟩ | exact ⟨trivial, rfl⟩ | exact ⟨trivial, trivial⟩⟩
theorem nbok1 (kp : Nat) (s : List UInt8) (off len c : Nat) (hoff : off + len = s.length) (hc : len ≤ c) (hbig : len ≤ 9223372036854775807) (f a1 : UInt8) (r : List UInt8) (hl : s.drop off = f :: a1 :: r) (hf0 : 241 ≤ f.toNat ∧ f.toNat < 249) (h0 : 241 ≤ ((((f.toNat : Int) - 241) * 256 + (a1.toNat : Int)) + 240)) (h1 : ((((f.toNat : Int) - 241) * 256 + (a1.toNat : Int)) + 240) ≤ 2287) :
 Goal P kp 76 (fun v H => v = .tup [.int .u64 ((((f.toNat : Int) - 241) * 256 + (a1.toNat : Int)) + 240), .bool true] ∧ H = rd3 (.slc 1 0 (if len - 1 = 1 then off + 1 else off + 1 + 1) (len - 1 - 1) (len - 1 - 1)) false s 2287 240 241 1 241) (xl s off len c) := by
 have hf := zg f
 have ha1 := zg a1
 have hlen : 1 ≤ len := by have := congrArg List.length hl; simp at this; omega
 have y0 : yy s off = f.toNat := by have := zn hl 0; simpa using this
 have hlk : 2 ≤ len := by have := congrArg List.length hl; simp at this; omega
 have y1 : yy s (off + 1) = a1.toNat := by have := zn hl 1; simp at this; rw [← this]
 have w1 : IntKind.u64.wrap (len : Int) = len := IntWalk.u64_in _ (by omega)
 have w2 : IntKind.u64.wrap ((len - 1 : Nat) : Int) = (len - 1 : Nat) := IntWalk.u64_in _ (by omega)
 have e1 : (if len = 1 then off else off + 1) = off + 1 := if_neg (by omega)
 have z0 : IntKind.u64.wrap (IntKind.u8.wrap ((f.toNat : Int) - Int.ofNat 241)) = ((f.toNat : Int) - 241) := by
  rw [IntWalk.u8_in _ (by show 0 ≤ (f.toNat : Int) - 241 ∧ (f.toNat : Int) - 241 ≤ 255; omega), IntWalk.u64_in _ (by show 0 ≤ (f.toNat : Int) - 241 ∧ (f.toNat : Int) - 241 ≤ _; omega)]
  show (f.toNat : Int) - 241 = _
  omega
 have A1 := zk ((f.toNat : Int) - 241) a1.toNat (by omega) (by omega) (by omega) (by omega)
 have wV : IntKind.u64.wrap ((((f.toNat : Int) - 241) * 256 + (a1.toNat : Int)) + Int.ofNat 240) = ((((f.toNat : Int) - 241) * 256 + (a1.toNat : Int)) + 240) := IntWalk.u64_in _ (by show 0 ≤ (((f.toNat : Int) - 241) * 256 + (a1.toNat : Int)) + 240 ∧ (((f.toNat : Int) - 241) * 256 + (a1.toNat : Int)) + 240 ≤ _; omega)
 refine Obl.goal (K := fun _ => False) mix (fun _ h => h.elim) (cast (zjs (yy s) off len c s.length _ kp _).symm ?_)
 simp only [Int.toNat_natCast, e1, y0, w1, w2, z0, wV, y1, A1]
 exact ⟨gtf (by show (1 : Int) ≤ _; omega), ⟨by show ((0 : Int) ≤ 1 ∧ (1 : Int) ≤ c); omega, by decide⟩, ⟨by omega, by show ((0 : Int) ≤ 1 ∧ (1 : Int) ≤ _); omega⟩, by omega, zlP (f.toNat : Int) (by omega) (by omega), gtf (by show (1 : Int) ≤ _; omega), ⟨by show ((0 : Int) ≤ 1 ∧ (1 : Int) ≤ _); omega, by decide⟩, ⟨by omega, by show ((0 : Int) ≤ 1 ∧ (1 : Int) ≤ _); omega⟩, by omega, by omega, leT (by show (241 : Int) ≤ _; omega), leT (by show _ ≤ (2287 : Int); omega), by first | exact ⟨rfl, rfl⟩ | exact ⟨trivial, rfl⟩ | exact ⟨trivial, trivial⟩⟩
theorem nblo1 (kp : Nat) (s : List UInt8) (off len c : Nat) (hoff : off + len = s.length) (hc : len ≤ c) (hbig : len ≤ 9223372036854775807) (f a1 : UInt8) (r : List UInt8) (hl : s.drop off = f :: a1 :: r) (hf0 : 241 ≤ f.toNat ∧ f.toNat < 249) (h0 : ((((f.toNat : Int) - 241) * 256 + (a1.toNat : Int)) + 240) < 241) :
 Goal P kp 76 (fun v H => v = .tup [.int .u64 0, .bool false] ∧ H = rd3 (.slc 1 0 (if len - 1 = 1 then off + 1 else off + 1 + 1) (len - 1 - 1) (len - 1 - 1)) false s 2287 240 241 1 241) (xl s off len c) := by
 have hf := zg f
 have ha1 := zg a1
 have hlen : 1 ≤ len := by have := congrArg List.length hl; simp at this; omega
 have y0 : yy s off = f.toNat := by have := zn hl 0; simpa using this
 have hlk : 2 ≤ len := by have := congrArg List.length hl; simp at this; omega
 have y1 : yy s (off + 1) = a1.toNat := by have := zn hl 1; simp at this; rw [← this]
 have w1 : IntKind.u64.wrap (len : Int) = len := IntWalk.u64_in _ (by omega)
 have w2 : IntKind.u64.wrap ((len - 1 : Nat) : Int) = (len - 1 : Nat) := IntWalk.u64_in _ (by omega)
 have e1 : (if len = 1 then off else off + 1) = off + 1 := if_neg (by omega)
 have z0 : IntKind.u64.wrap (IntKind.u8.wrap ((f.toNat : Int) - Int.ofNat 241)) = ((f.toNat : Int) - 241) := by
  rw [IntWalk.u8_in _ (by show 0 ≤ (f.toNat : Int) - 241 ∧ (f.toNat : Int) - 241 ≤ 255; omega), IntWalk.u64_in _ (by show 0 ≤ (f.toNat : Int) - 241 ∧ (f.toNat : Int) - 241 ≤ _; omega)]
  show (f.toNat : Int) - 241 = _
  omega
 have A1 := zk ((f.toNat : Int) - 241) a1.toNat (by omega) (by omega) (by omega) (by omega)
 have wV : IntKind.u64.wrap ((((f.toNat : Int) - 241) * 256 + (a1.toNat : Int)) + Int.ofNat 240) = ((((f.toNat : Int) - 241) * 256 + (a1.toNat : Int)) + 240) := IntWalk.u64_in _ (by show 0 ≤ (((f.toNat : Int) - 241) * 256 + (a1.toNat : Int)) + 240 ∧ (((f.toNat : Int) - 241) * 256 + (a1.toNat : Int)) + 240 ≤ _; omega)
 refine Obl.goal (K := fun _ => False) mix (fun _ h => h.elim) (cast (zlL (yy s) off len c s.length _ kp _).symm ?_)
 simp only [Int.toNat_natCast, e1, y0, w1, w2, z0, wV, y1, A1]
 exact ⟨gtf (by show (1 : Int) ≤ _; omega), ⟨by show ((0 : Int) ≤ 1 ∧ (1 : Int) ≤ c); omega, by decide⟩, ⟨by omega, by show ((0 : Int) ≤ 1 ∧ (1 : Int) ≤ _); omega⟩, by omega, zlP (f.toNat : Int) (by omega) (by omega), gtf (by show (1 : Int) ≤ _; omega), ⟨by show ((0 : Int) ≤ 1 ∧ (1 : Int) ≤ _); omega, by decide⟩, ⟨by omega, by show ((0 : Int) ≤ 1 ∧ (1 : Int) ≤ _); omega⟩, by omega, by omega, leF (by show _ < (241 : Int); omega), by first | exact ⟨rfl, rfl⟩ | exact ⟨trivial, rfl⟩ | exact ⟨trivial, trivial⟩⟩
theorem zkh (kp : Nat) (s : List UInt8) (off len c : Nat) (hoff : off + len = s.length) (hc : len ≤ c) (f : UInt8) (r : List UInt8) (hl : s.drop off = f :: r) (hf0 : 241 ≤ f.toNat ∧ f.toNat < 249) (hs : len < 2) :
 Goal P kp 76 (fun v H => v = .tup [.int .u64 0, .bool false] ∧ H = rd3 (.slc 1 0 (if len = 1 then off else off + 1) (len - 1) (len - 1)) false s 2287 240 241 1 241) (xl s off len c) := by
 have hf := zg f
 have hlen : 1 ≤ len := by have := congrArg List.length hl; simp at this; omega
 have y0 : yy s off = f.toNat := by have := zn hl 0; simpa using this
 have w1 : IntKind.u64.wrap (len : Int) = len := IntWalk.u64_in _ (by omega)
 have w2 : IntKind.u64.wrap ((len - 1 : Nat) : Int) = (len - 1 : Nat) := IntWalk.u64_in _ (by omega)
 refine Obl.goal (K := fun _ => False) mix (fun _ h => h.elim) (cast (zmJ (yy s) off len c s.length _ kp _).symm ?_)
 simp only [Int.toNat_natCast, y0, w1, w2]
 exact ⟨gtf (by show (1 : Int) ≤ _; omega), ⟨by show ((0 : Int) ≤ 1 ∧ (1 : Int) ≤ c); omega, by decide⟩, ⟨by omega, by show ((0 : Int) ≤ 1 ∧ (1 : Int) ≤ _); omega⟩, by omega, zlP (f.toNat : Int) (by omega) (by omega), gtt (by show _ < (1 : Int); omega), by first | exact ⟨rfl, rfl⟩ | exact ⟨trivial, rfl⟩ | exact ⟨trivial, trivial⟩⟩
theorem nbok2 (kp : Nat) (s : List UInt8) (off len c : Nat) (hoff : off + len = s.length) (hc : len ≤ c) (hbig : len ≤ 9223372036854775807) (f a1 a2 : UInt8) (r : List UInt8) (hl : s.drop off = f :: a1 :: a2 :: r) (hf0 : f.toNat = 249) (h0 : 2288 ≤ (((0 * 256 + (a1.toNat : Int)) * 256 + (a2.toNat : Int)) + 2288)) (h1 : (((0 * 256 + (a1.toNat : Int)) * 256 + (a2.toNat : Int)) + 2288) ≤ 67823) :
 Goal P kp 76 (fun v H => v = .tup [.int .u64 (((0 * 256 + (a1.toNat : Int)) * 256 + (a2.toNat : Int)) + 2288), .bool true] ∧ H = rd3 (.slc 1 0 (if len - 1 = 2 then off + 1 else off + 1 + 2) (len - 1 - 2) (len - 1 - 2)) false s 67823 2288 249 2 2288) (xl s off len c) := by
 have hf := zg f
 have ha1 := zg a1
 have ha2 := zg a2
 have hlen : 1 ≤ len := by have := congrArg List.length hl; simp at this; omega
 have y0 : yy s off = f.toNat := by have := zn hl 0; simpa using this
 have hlk : 3 ≤ len := by have := congrArg List.length hl; simp at this; omega
 have y1 : yy s (off + 1) = a1.toNat := by have := zn hl 1; simp at this; rw [← this]
 have y2 : yy s (off + 1 + 1) = a2.toNat := by have := zn hl 2; simp at this; rw [← this]
 have w1 : IntKind.u64.wrap (len : Int) = len := IntWalk.u64_in _ (by omega)
 have w2 : IntKind.u64.wrap ((len - 1 : Nat) : Int) = (len - 1 : Nat) := IntWalk.u64_in _ (by omega)
 have e1 : (if len = 1 then off else off + 1) = off + 1 := if_neg (by omega)
 have z0 : IntKind.u64.wrap (IntKind.u8.wrap ((f.toNat : Int) - Int.ofNat 249)) = 0 := by
  rw [IntWalk.u8_in _ (by show 0 ≤ (f.toNat : Int) - 249 ∧ (f.toNat : Int) - 249 ≤ 255; omega), IntWalk.u64_in _ (by show 0 ≤ (f.toNat : Int) - 249 ∧ (f.toNat : Int) - 249 ≤ _; omega)]
  show (f.toNat : Int) - 249 = _
  omega
 have A1 := zk 0 a1.toNat (by omega) (by omega) (by omega) (by omega)
 have A2 := zk (0 * 256 + (a1.toNat : Int)) a2.toNat (by omega) (by omega) (by omega) (by omega)
 have wV : IntKind.u64.wrap (((0 * 256 + (a1.toNat : Int)) * 256 + (a2.toNat : Int)) + Int.ofNat 2288) = (((0 * 256 + (a1.toNat : Int)) * 256 + (a2.toNat : Int)) + 2288) := IntWalk.u64_in _ (by show 0 ≤ ((0 * 256 + (a1.toNat : Int)) * 256 + (a2.toNat : Int)) + 2288 ∧ ((0 * 256 + (a1.toNat : Int)) * 256 + (a2.toNat : Int)) + 2288 ≤ _; omega)
 refine Obl.goal (K := fun _ => False) mix (fun _ h => h.elim) (cast (zjq (yy s) off len c s.length _ kp _).symm ?_)
 simp only [Int.toNat_natCast, e1, y0, w1, w2, z0, wV, y1, y2, A1, A2]
 exact ⟨gtf (by show (1 : Int) ≤ _; omega), ⟨by show ((0 : Int) ≤ 1 ∧ (1 : Int) ≤ c); omega, by decide⟩, ⟨by omega, by show ((0 : Int) ≤ 1 ∧ (1 : Int) ≤ _); omega⟩, by omega, zmd (f.toNat : Int) (by omega) (by omega), gtf (by show (2 : Int) ≤ _; omega), ⟨by show ((0 : Int) ≤ 2 ∧ (2 : Int) ≤ _); omega, by decide⟩, ⟨by omega, by show ((0 : Int) ≤ 2 ∧ (2 : Int) ≤ _); omega⟩, by omega, by omega, by omega, leT (by show (2288 : Int) ≤ _; omega), leT (by show _ ≤ (67823 : Int); omega), by first | exact ⟨rfl, rfl⟩ | exact ⟨trivial, rfl⟩ | exact ⟨trivial, trivial⟩⟩
theorem nblo2 (kp : Nat) (s : List UInt8) (off len c : Nat) (hoff : off + len = s.length) (hc : len ≤ c) (hbig : len ≤ 9223372036854775807) (f a1 a2 : UInt8) (r : List UInt8) (hl : s.drop off = f :: a1 :: a2 :: r) (hf0 : f.toNat = 249) (h0 : (((0 * 256 + (a1.toNat : Int)) * 256 + (a2.toNat : Int)) + 2288) < 2288) :
 Goal P kp 76 (fun v H => v = .tup [.int .u64 0, .bool false] ∧ H = rd3 (.slc 1 0 (if len - 1 = 2 then off + 1 else off + 1 + 2) (len - 1 - 2) (len - 1 - 2)) false s 67823 2288 249 2 2288) (xl s off len c) := by
 have hf := zg f
 have ha1 := zg a1
 have ha2 := zg a2
 have hlen : 1 ≤ len := by have := congrArg List.length hl; simp at this; omega
 have y0 : yy s off = f.toNat := by have := zn hl 0; simpa using this
 have hlk : 3 ≤ len := by have := congrArg List.length hl; simp at this; omega
 have y1 : yy s (off + 1) = a1.toNat := by have := zn hl 1; simp at this; rw [← this]
 have y2 : yy s (off + 1 + 1) = a2.toNat := by have := zn hl 2; simp at this; rw [← this]
 have w1 : IntKind.u64.wrap (len : Int) = len := IntWalk.u64_in _ (by omega)
 have w2 : IntKind.u64.wrap ((len - 1 : Nat) : Int) = (len - 1 : Nat) := IntWalk.u64_in _ (by omega)
 have e1 : (if len = 1 then off else off + 1) = off + 1 := if_neg (by omega)
 have z0 : IntKind.u64.wrap (IntKind.u8.wrap ((f.toNat : Int) - Int.ofNat 249)) = 0 := by
  rw [IntWalk.u8_in _ (by show 0 ≤ (f.toNat : Int) - 249 ∧ (f.toNat : Int) - 249 ≤ 255; omega), IntWalk.u64_in _ (by show 0 ≤ (f.toNat : Int) - 249 ∧ (f.toNat : Int) - 249 ≤ _; omega)]
  show (f.toNat : Int) - 249 = _
  omega
 have A1 := zk 0 a1.toNat (by omega) (by omega) (by omega) (by omega)
 have A2 := zk (0 * 256 + (a1.toNat : Int)) a2.toNat (by omega) (by omega) (by omega) (by omega)
 have wV : IntKind.u64.wrap (((0 * 256 + (a1.toNat : Int)) * 256 + (a2.toNat : Int)) + Int.ofNat 2288) = (((0 * 256 + (a1.toNat : Int)) * 256 + (a2.toNat : Int)) + 2288) := IntWalk.u64_in _ (by show 0 ≤ ((0 * 256 + (a1.toNat : Int)) * 256 + (a2.toNat : Int)) + 2288 ∧ ((0 * 256 + (a1.toNat : Int)) * 256 + (a2.toNat : Int)) + 2288 ≤ _; omega)
 refine Obl.goal (K := fun _ => False) mix (fun _ h => h.elim) (cast (zlq (yy s) off len c s.length _ kp _).symm ?_)
 simp only [Int.toNat_natCast, e1, y0, w1, w2, z0, wV, y1, y2, A1, A2]
 exact ⟨gtf (by show (1 : Int) ≤ _; omega), ⟨by show ((0 : Int) ≤ 1 ∧ (1 : Int) ≤ c); omega, by decide⟩, ⟨by omega, by show ((0 : Int) ≤ 1 ∧ (1 : Int) ≤ _); omega⟩, by omega, zmd (f.toNat : Int) (by omega) (by omega), gtf (by show (2 : Int) ≤ _; omega), ⟨by show ((0 : Int) ≤ 2 ∧ (2 : Int) ≤ _); omega, by decide⟩, ⟨by omega, by show ((0 : Int) ≤ 2 ∧ (2 : Int) ≤ _); omega⟩, by omega, by omega, by omega, leF (by show _ < (2288 : Int); omega), by first | exact ⟨rfl, rfl⟩ | exact ⟨trivial, rfl⟩ | exact ⟨trivial, trivial⟩⟩
theorem zjm (kp : Nat) (s : List UInt8) (off len c : Nat) (hoff : off + len = s.length) (hc : len ≤ c) (f : UInt8) (r : List UInt8) (hl : s.drop off = f :: r) (hf0 : f.toNat = 249) (hs : len < 3) :
 Goal P kp 76 (fun v H => v = .tup [.int .u64 0, .bool false] ∧ H = rd3 (.slc 1 0 (if len = 1 then off else off + 1) (len - 1) (len - 1)) false s 67823 2288 249 2 2288) (xl s off len c) := by
 have hf := zg f
 have hlen : 1 ≤ len := by have := congrArg List.length hl; simp at this; omega
 have y0 : yy s off = f.toNat := by have := zn hl 0; simpa using this
 have w1 : IntKind.u64.wrap (len : Int) = len := IntWalk.u64_in _ (by omega)
 have w2 : IntKind.u64.wrap ((len - 1 : Nat) : Int) = (len - 1 : Nat) := IntWalk.u64_in _ (by omega)
 refine Obl.goal (K := fun _ => False) mix (fun _ h => h.elim) (cast (znn (yy s) off len c s.length _ kp _).symm ?_)
 simp only [Int.toNat_natCast, y0, w1, w2]
 exact ⟨gtf (by show (1 : Int) ≤ _; omega), ⟨by show ((0 : Int) ≤ 1 ∧ (1 : Int) ≤ c); omega, by decide⟩, ⟨by omega, by show ((0 : Int) ≤ 1 ∧ (1 : Int) ≤ _); omega⟩, by omega, zmd (f.toNat : Int) (by omega) (by omega), gtt (by show _ < (2 : Int); omega), by first | exact ⟨rfl, rfl⟩ | exact ⟨trivial, rfl⟩ | exact ⟨trivial, trivial⟩⟩
theorem nbok3 (kp : Nat) (s : List UInt8) (off len c : Nat) (hoff : off + len = s.length) (hc : len ≤ c) (hbig : len ≤ 9223372036854775807) (f a1 a2 a3 : UInt8) (r : List UInt8) (hl : s.drop off = f :: a1 :: a2 :: a3 :: r) (hf0 : f.toNat = 250) (h0 : 67824 ≤ ((((0 * 256 + (a1.toNat : Int)) * 256 + (a2.toNat : Int)) * 256 + (a3.toNat : Int)) + 0)) (h1 : ((((0 * 256 + (a1.toNat : Int)) * 256 + (a2.toNat : Int)) * 256 + (a3.toNat : Int)) + 0) ≤ 16777215) :
 Goal P kp 76 (fun v H => v = .tup [.int .u64 ((((0 * 256 + (a1.toNat : Int)) * 256 + (a2.toNat : Int)) * 256 + (a3.toNat : Int)) + 0), .bool true] ∧ H = rd3 (.slc 1 0 (if len - 1 = 3 then off + 1 else off + 1 + 3) (len - 1 - 3) (len - 1 - 3)) false s 16777215 0 250 3 67824) (xl s off len c) := by
 have hf := zg f
 have ha1 := zg a1
 have ha2 := zg a2
 have ha3 := zg a3
 have hlen : 1 ≤ len := by have := congrArg List.length hl; simp at this; omega
 have y0 : yy s off = f.toNat := by have := zn hl 0; simpa using this
 have hlk : 4 ≤ len := by have := congrArg List.length hl; simp at this; omega
 have y1 : yy s (off + 1) = a1.toNat := by have := zn hl 1; simp at this; rw [← this]
 have y2 : yy s (off + 1 + 1) = a2.toNat := by have := zn hl 2; simp at this; rw [← this]
 have y3 : yy s (off + 1 + 2) = a3.toNat := by have := zn hl 3; simp at this; rw [← this]
 have w1 : IntKind.u64.wrap (len : Int) = len := IntWalk.u64_in _ (by omega)
 have w2 : IntKind.u64.wrap ((len - 1 : Nat) : Int) = (len - 1 : Nat) := IntWalk.u64_in _ (by omega)
 have e1 : (if len = 1 then off else off + 1) = off + 1 := if_neg (by omega)
 have z0 : IntKind.u64.wrap (IntKind.u8.wrap ((f.toNat : Int) - Int.ofNat 250)) = 0 := by
  rw [IntWalk.u8_in _ (by show 0 ≤ (f.toNat : Int) - 250 ∧ (f.toNat : Int) - 250 ≤ 255; omega), IntWalk.u64_in _ (by show 0 ≤ (f.toNat : Int) - 250 ∧ (f.toNat : Int) - 250 ≤ _; omega)]
  show (f.toNat : Int) - 250 = _
  omega
 have A1 := zk 0 a1.toNat (by omega) (by omega) (by omega) (by omega)
 have A2 := zk (0 * 256 + (a1.toNat : Int)) a2.toNat (by omega) (by omega) (by omega) (by omega)
 have A3 := zk ((0 * 256 + (a1.toNat : Int)) * 256 + (a2.toNat : Int)) a3.toNat (by omega) (by omega) (by omega) (by omega)
 have wV : IntKind.u64.wrap ((((0 * 256 + (a1.toNat : Int)) * 256 + (a2.toNat : Int)) * 256 + (a3.toNat : Int)) + Int.ofNat 0) = ((((0 * 256 + (a1.toNat : Int)) * 256 + (a2.toNat : Int)) * 256 + (a3.toNat : Int)) + 0) := IntWalk.u64_in _ (by show 0 ≤ (((0 * 256 + (a1.toNat : Int)) * 256 + (a2.toNat : Int)) * 256 + (a3.toNat : Int)) + 0 ∧ (((0 * 256 + (a1.toNat : Int)) * 256 + (a2.toNat : Int)) * 256 + (a3.toNat : Int)) + 0 ≤ _; omega)
 refine Obl.goal (K := fun _ => False) mix (fun _ h => h.elim) (cast (zjp (yy s) off len c s.length _ kp _).symm ?_)
 simp only [Int.toNat_natCast, e1, y0, w1, w2, z0, wV, y1, y2, y3, A1, A2, A3]
 exact ⟨gtf (by show (1 : Int) ≤ _; omega), ⟨by show ((0 : Int) ≤ 1 ∧ (1 : Int) ≤ c); omega, by decide⟩, ⟨by omega, by show ((0 : Int) ≤ 1 ∧ (1 : Int) ≤ _); omega⟩, by omega, zlF (f.toNat : Int) (by omega) (by omega), gtf (by show (3 : Int) ≤ _; omega), ⟨by show ((0 : Int) ≤ 3 ∧ (3 : Int) ≤ _); omega, by decide⟩, ⟨by omega, by show ((0 : Int) ≤ 3 ∧ (3 : Int) ≤ _); omega⟩, by omega, by omega, by omega, by omega, leT (by show (67824 : Int) ≤ _; omega), leT (by show _ ≤ (16777215 : Int); omega), by first | exact ⟨rfl, rfl⟩ | exact ⟨trivial, rfl⟩ | exact ⟨trivial, trivial⟩⟩
theorem nblo3 (kp : Nat) (s : List UInt8) (off len c : Nat) (hoff : off + len = s.length) (hc : len ≤ c) (hbig : len ≤ 9223372036854775807) (f a1 a2 a3 : UInt8) (r : List UInt8) (hl : s.drop off = f :: a1 :: a2 :: a3 :: r) (hf0 : f.toNat = 250) (h0 : ((((0 * 256 + (a1.toNat : Int)) * 256 + (a2.toNat : Int)) * 256 + (a3.toNat : Int)) + 0) < 67824) :
 Goal P kp 76 (fun v H => v = .tup [.int .u64 0, .bool false] ∧ H = rd3 (.slc 1 0 (if len - 1 = 3 then off + 1 else off + 1 + 3) (len - 1 - 3) (len - 1 - 3)) false s 16777215 0 250 3 67824) (xl s off len c) := by
 have hf := zg f
 have ha1 := zg a1
 have ha2 := zg a2
 have ha3 := zg a3
 have hlen : 1 ≤ len := by have := congrArg List.length hl; simp at this; omega
 have y0 : yy s off = f.toNat := by have := zn hl 0; simpa using this
 have hlk : 4 ≤ len := by have := congrArg List.length hl; simp at this; omega
 have y1 : yy s (off + 1) = a1.toNat := by have := zn hl 1; simp at this; rw [← this]
 have y2 : yy s (off + 1 + 1) = a2.toNat := by have := zn hl 2; simp at this; rw [← this]
 have y3 : yy s (off + 1 + 2) = a3.toNat := by have := zn hl 3; simp at this; rw [← this]
 have w1 : IntKind.u64.wrap (len : Int) = len := IntWalk.u64_in _ (by omega)
 have w2 : IntKind.u64.wrap ((len - 1 : Nat) : Int) = (len - 1 : Nat) := IntWalk.u64_in _ (by omega)
 have e1 : (if len = 1 then off else off + 1) = off + 1 := if_neg (by omega)
 have z0 : IntKind.u64.wrap (IntKind.u8.wrap ((f.toNat : Int) - Int.ofNat 250)) = 0 := by
  rw [IntWalk.u8_in _ (by show 0 ≤ (f.toNat : Int) - 250 ∧ (f.toNat : Int) - 250 ≤ 255; omega), IntWalk.u64_in _ (by show 0 ≤ (f.toNat : Int) - 250 ∧ (f.toNat : Int) - 250 ≤ _; omega)]
  show (f.toNat : Int) - 250 = _
  omega
 have A1 := zk 0 a1.toNat (by omega) (by omega) (by omega) (by omega)
 have A2 := zk (0 * 256 + (a1.toNat : Int)) a2.toNat (by omega) (by omega) (by omega) (by omega)
 have A3 := zk ((0 * 256 + (a1.toNat : Int)) * 256 + (a2.toNat : Int)) a3.toNat (by omega) (by omega) (by omega) (by omega)
 have wV : IntKind.u64.wrap ((((0 * 256 + (a1.toNat : Int)) * 256 + (a2.toNat : Int)) * 256 + (a3.toNat : Int)) + Int.ofNat 0) = ((((0 * 256 + (a1.toNat : Int)) * 256 + (a2.toNat : Int)) * 256 + (a3.toNat : Int)) + 0) := IntWalk.u64_in _ (by show 0 ≤ (((0 * 256 + (a1.toNat : Int)) * 256 + (a2.toNat : Int)) * 256 + (a3.toNat : Int)) + 0 ∧ (((0 * 256 + (a1.toNat : Int)) * 256 + (a2.toNat : Int)) * 256 + (a3.toNat : Int)) + 0 ≤ _; omega)
 refine Obl.goal (K := fun _ => False) mix (fun _ h => h.elim) (cast (zlz (yy s) off len c s.length _ kp _).symm ?_)
 simp only [Int.toNat_natCast, e1, y0, w1, w2, z0, wV, y1, y2, y3, A1, A2, A3]
 exact ⟨gtf (by show (1 : Int) ≤ _; omega), ⟨by show ((0 : Int) ≤ 1 ∧ (1 : Int) ≤ c); omega, by decide⟩, ⟨by omega, by show ((0 : Int) ≤ 1 ∧ (1 : Int) ≤ _); omega⟩, by omega, zlF (f.toNat : Int) (by omega) (by omega), gtf (by show (3 : Int) ≤ _; omega), ⟨by show ((0 : Int) ≤ 3 ∧ (3 : Int) ≤ _); omega, by decide⟩, ⟨by omega, by show ((0 : Int) ≤ 3 ∧ (3 : Int) ≤ _); omega⟩, by omega, by omega, by omega, by omega, leF (by show _ < (67824 : Int); omega), by first | exact ⟨rfl, rfl⟩ | exact ⟨trivial, rfl⟩ | exact ⟨trivial, trivial⟩⟩
theorem zjH (kp : Nat) (s : List UInt8) (off len c : Nat) (hoff : off + len = s.length) (hc : len ≤ c) (f : UInt8) (r : List UInt8) (hl : s.drop off = f :: r) (hf0 : f.toNat = 250) (hs : len < 4) :
 Goal P kp 76 (fun v H => v = .tup [.int .u64 0, .bool false] ∧ H = rd3 (.slc 1 0 (if len = 1 then off else off + 1) (len - 1) (len - 1)) false s 16777215 0 250 3 67824) (xl s off len c) := by
 have hf := zg f
 have hlen : 1 ≤ len := by have := congrArg List.length hl; simp at this; omega
 have y0 : yy s off = f.toNat := by have := zn hl 0; simpa using this
 have w1 : IntKind.u64.wrap (len : Int) = len := IntWalk.u64_in _ (by omega)
 have w2 : IntKind.u64.wrap ((len - 1 : Nat) : Int) = (len - 1 : Nat) := IntWalk.u64_in _ (by omega)
 refine Obl.goal (K := fun _ => False) mix (fun _ h => h.elim) (cast (znf (yy s) off len c s.length _ kp _).symm ?_)
 simp only [Int.toNat_natCast, y0, w1, w2]
 exact ⟨gtf (by show (1 : Int) ≤ _; omega), ⟨by show ((0 : Int) ≤ 1 ∧ (1 : Int) ≤ c); omega, by decide⟩, ⟨by omega, by show ((0 : Int) ≤ 1 ∧ (1 : Int) ≤ _); omega⟩, by omega, zlF (f.toNat : Int) (by omega) (by omega), gtt (by show _ < (3 : Int); omega), by first | exact ⟨rfl, rfl⟩ | exact ⟨trivial, rfl⟩ | exact ⟨trivial, trivial⟩⟩
theorem nbok4 (kp : Nat) (s : List UInt8) (off len c : Nat) (hoff : off + len = s.length) (hc : len ≤ c) (hbig : len ≤ 9223372036854775807) (f a1 a2 a3 a4 : UInt8) (r : List UInt8) (hl : s.drop off = f :: a1 :: a2 :: a3 :: a4 :: r) (hf0 : f.toNat = 251) (h0 : 16777216 ≤ (((((0 * 256 + (a1.toNat : Int)) * 256 + (a2.toNat : Int)) * 256 + (a3.toNat : Int)) * 256 + (a4.toNat : Int)) + 0)) (h1 : (((((0 * 256 + (a1.toNat : Int)) * 256 + (a2.toNat : Int)) * 256 + (a3.toNat : Int)) * 256 + (a4.toNat : Int)) + 0) ≤ 4294967295) :
 Goal P kp 76 (fun v H => v = .tup [.int .u64 (((((0 * 256 + (a1.toNat : Int)) * 256 + (a2.toNat : Int)) * 256 + (a3.toNat : Int)) * 256 + (a4.toNat : Int)) + 0), .bool true] ∧ H = rd3 (.slc 1 0 (if len - 1 = 4 then off + 1 else off + 1 + 4) (len - 1 - 4) (len - 1 - 4)) false s 4294967295 0 251 4 16777216) (xl s off len c) := by
 have hf := zg f
 have ha1 := zg a1
 have ha2 := zg a2
 have ha3 := zg a3
 have ha4 := zg a4
 have hlen : 1 ≤ len := by have := congrArg List.length hl; simp at this; omega
 have y0 : yy s off = f.toNat := by have := zn hl 0; simpa using this
 have hlk : 5 ≤ len := by have := congrArg List.length hl; simp at this; omega
 have y1 : yy s (off + 1) = a1.toNat := by have := zn hl 1; simp at this; rw [← this]
 have y2 : yy s (off + 1 + 1) = a2.toNat := by have := zn hl 2; simp at this; rw [← this]
 have y3 : yy s (off + 1 + 2) = a3.toNat := by have := zn hl 3; simp at this; rw [← this]
 have y4 : yy s (off + 1 + 3) = a4.toNat := by have := zn hl 4; simp at this; rw [← this]
 have w1 : IntKind.u64.wrap (len : Int) = len := IntWalk.u64_in _ (by omega)
 have w2 : IntKind.u64.wrap ((len - 1 : Nat) : Int) = (len - 1 : Nat) := IntWalk.u64_in _ (by omega)
 have e1 : (if len = 1 then off else off + 1) = off + 1 := if_neg (by omega)
 have z0 : IntKind.u64.wrap (IntKind.u8.wrap ((f.toNat : Int) - Int.ofNat 251)) = 0 := by
  rw [IntWalk.u8_in _ (by show 0 ≤ (f.toNat : Int) - 251 ∧ (f.toNat : Int) - 251 ≤ 255; omega), IntWalk.u64_in _ (by show 0 ≤ (f.toNat : Int) - 251 ∧ (f.toNat : Int) - 251 ≤ _; omega)]
  show (f.toNat : Int) - 251 = _
  omega
 have A1 := zk 0 a1.toNat (by omega) (by omega) (by omega) (by omega)
 have A2 := zk (0 * 256 + (a1.toNat : Int)) a2.toNat (by omega) (by omega) (by omega) (by omega)
 have A3 := zk ((0 * 256 + (a1.toNat : Int)) * 256 + (a2.toNat : Int)) a3.toNat (by omega) (by omega) (by omega) (by omega)
 have A4 := zk (((0 * 256 + (a1.toNat : Int)) * 256 + (a2.toNat : Int)) * 256 + (a3.toNat : Int)) a4.toNat (by omega) (by omega) (by omega) (by omega)
 have wV : IntKind.u64.wrap (((((0 * 256 + (a1.toNat : Int)) * 256 + (a2.toNat : Int)) * 256 + (a3.toNat : Int)) * 256 + (a4.toNat : Int)) + Int.ofNat 0) = (((((0 * 256 + (a1.toNat : Int)) * 256 + (a2.toNat : Int)) * 256 + (a3.toNat : Int)) * 256 + (a4.toNat : Int)) + 0) := IntWalk.u64_in _ (by show 0 ≤ ((((0 * 256 + (a1.toNat : Int)) * 256 + (a2.toNat : Int)) * 256 + (a3.toNat : Int)) * 256 + (a4.toNat : Int)) + 0 ∧ ((((0 * 256 + (a1.toNat : Int)) * 256 + (a2.toNat : Int)) * 256 + (a3.toNat : Int)) * 256 + (a4.toNat : Int)) + 0 ≤ _; omega)
 refine Obl.goal (K := fun _ => False) mix (fun _ h => h.elim) (cast (zkr (yy s) off len c s.length _ kp _).symm ?_)
 simp only [Int.toNat_natCast, e1, y0, w1, w2, z0, wV, y1, y2, y3, y4, A1, A2, A3, A4]
 exact ⟨gtf (by show (1 : Int) ≤ _; omega), ⟨by show ((0 : Int) ≤ 1 ∧ (1 : Int) ≤ c); omega, by decide⟩, ⟨by omega, by show ((0 : Int) ≤ 1 ∧ (1 : Int) ≤ _); omega⟩, by omega, zlO (f.toNat : Int) (by omega) (by omega), gtf (by show (4 : Int) ≤ _; omega), ⟨by show ((0 : Int) ≤ 4 ∧ (4 : Int) ≤ _); omega, by decide⟩, ⟨by omega, by show ((0 : Int) ≤ 4 ∧ (4 : Int) ≤ _); omega⟩, by omega, by omega, by omega, by omega, by omega, leT (by show (16777216 : Int) ≤ _; omega), leT (by show _ ≤ (4294967295 : Int); omega), by first | exact ⟨rfl, rfl⟩ | exact ⟨trivial, rfl⟩ | exact ⟨trivial, trivial⟩⟩
theorem nblo4 (kp : Nat) (s : List UInt8) (off len c : Nat) (hoff : off + len = s.length) (hc : len ≤ c) (hbig : len ≤ 9223372036854775807) (f a1 a2 a3 a4 : UInt8) (r : List UInt8) (hl : s.drop off = f :: a1 :: a2 :: a3 :: a4 :: r) (hf0 : f.toNat = 251) (h0 : (((((0 * 256 + (a1.toNat : Int)) * 256 + (a2.toNat : Int)) * 256 + (a3.toNat : Int)) * 256 + (a4.toNat : Int)) + 0) < 16777216) :
 Goal P kp 76 (fun v H => v = .tup [.int .u64 0, .bool false] ∧ H = rd3 (.slc 1 0 (if len - 1 = 4 then off + 1 else off + 1 + 4) (len - 1 - 4) (len - 1 - 4)) false s 4294967295 0 251 4 16777216) (xl s off len c) := by
 have hf := zg f
 have ha1 := zg a1
 have ha2 := zg a2
 have ha3 := zg a3
 have ha4 := zg a4
 have hlen : 1 ≤ len := by have := congrArg List.length hl; simp at this; omega
 have y0 : yy s off = f.toNat := by have := zn hl 0; simpa using this
 have hlk : 5 ≤ len := by have := congrArg List.length hl; simp at this; omega
 have y1 : yy s (off + 1) = a1.toNat := by have := zn hl 1; simp at this; rw [← this]
 have y2 : yy s (off + 1 + 1) = a2.toNat := by have := zn hl 2; simp at this; rw [← this]
 have y3 : yy s (off + 1 + 2) = a3.toNat := by have := zn hl 3; simp at this; rw [← this]
 have y4 : yy s (off + 1 + 3) = a4.toNat := by have := zn hl 4; simp at this; rw [← this]
 have w1 : IntKind.u64.wrap (len : Int) = len := IntWalk.u64_in _ (by omega)
 have w2 : IntKind.u64.wrap ((len - 1 : Nat) : Int) = (len - 1 : Nat) := IntWalk.u64_in _ (by omega)
 have e1 : (if len = 1 then off else off + 1) = off + 1 := if_neg (by omega)
 have z0 : IntKind.u64.wrap (IntKind.u8.wrap ((f.toNat : Int) - Int.ofNat 251)) = 0 := by
  rw [IntWalk.u8_in _ (by show 0 ≤ (f.toNat : Int) - 251 ∧ (f.toNat : Int) - 251 ≤ 255; omega), IntWalk.u64_in _ (by show 0 ≤ (f.toNat : Int) - 251 ∧ (f.toNat : Int) - 251 ≤ _; omega)]
  show (f.toNat : Int) - 251 = _
  omega
 have A1 := zk 0 a1.toNat (by omega) (by omega) (by omega) (by omega)
 have A2 := zk (0 * 256 + (a1.toNat : Int)) a2.toNat (by omega) (by omega) (by omega) (by omega)
 have A3 := zk ((0 * 256 + (a1.toNat : Int)) * 256 + (a2.toNat : Int)) a3.toNat (by omega) (by omega) (by omega) (by omega)
 have A4 := zk (((0 * 256 + (a1.toNat : Int)) * 256 + (a2.toNat : Int)) * 256 + (a3.toNat : Int)) a4.toNat (by omega) (by omega) (by omega) (by omega)
 have wV : IntKind.u64.wrap (((((0 * 256 + (a1.toNat : Int)) * 256 + (a2.toNat : Int)) * 256 + (a3.toNat : Int)) * 256 + (a4.toNat : Int)) + Int.ofNat 0) = (((((0 * 256 + (a1.toNat : Int)) * 256 + (a2.toNat : Int)) * 256 + (a3.toNat : Int)) * 256 + (a4.toNat : Int)) + 0) := IntWalk.u64_in _ (by show 0 ≤ ((((0 * 256 + (a1.toNat : Int)) * 256 + (a2.toNat : Int)) * 256 + (a3.toNat : Int)) * 256 + (a4.toNat : Int)) + 0 ∧ ((((0 * 256 + (a1.toNat : Int)) * 256 + (a2.toNat : Int)) * 256 + (a3.toNat : Int)) * 256 + (a4.toNat : Int)) + 0 ≤ _; omega)
 refine Obl.goal (K := fun _ => False) mix (fun _ h => h.elim) (cast (zlA (yy s) off len c s.length _ kp _).symm ?_)
 simp only [Int.toNat_natCast, e1, y0, w1, w2, z0, wV, y1, y2, y3, y4, A1, A2, A3, A4]
 exact ⟨gtf (by show (1 : Int) ≤ _; omega), ⟨by show ((0 : Int) ≤ 1 ∧ (1 : Int) ≤ c); omega, by decide⟩, ⟨by omega, by show ((0 : Int) ≤ 1 ∧ (1 : Int) ≤ _); omega⟩, by omega, zlO (f.toNat : Int) (by omega) (by omega), gtf (by show (4 : Int) ≤ _; omega), ⟨by show ((0 : Int) ≤ 4 ∧ (4 : Int) ≤ _); omega, by decide⟩, ⟨by omega, by show ((0 : Int) ≤ 4 ∧ (4 : Int) ≤ _); omega⟩, by omega, by omega, by omega, by omega, by omega, leF (by show _ < (16777216 : Int); omega), by first | exact ⟨rfl, rfl⟩ | exact ⟨trivial, rfl⟩ | exact ⟨trivial, trivial⟩⟩
theorem zjx (kp : Nat) (s : List UInt8) (off len c : Nat) (hoff : off + len = s.length) (hc : len ≤ c) (f : UInt8) (r : List UInt8) (hl : s.drop off = f :: r) (hf0 : f.toNat = 251) (hs : len < 5) :
 Goal P kp 76 (fun v H => v = .tup [.int .u64 0, .bool false] ∧ H = rd3 (.slc 1 0 (if len = 1 then off else off + 1) (len - 1) (len - 1)) false s 4294967295 0 251 4 16777216) (xl s off len c) := by
 have hf := zg f
 have hlen : 1 ≤ len := by have := congrArg List.length hl; simp at this; omega
 have y0 : yy s off = f.toNat := by have := zn hl 0; simpa using this
 have w1 : IntKind.u64.wrap (len : Int) = len := IntWalk.u64_in _ (by omega)
 have w2 : IntKind.u64.wrap ((len - 1 : Nat) : Int) = (len - 1 : Nat) := IntWalk.u64_in _ (by omega)
 refine Obl.goal (K := fun _ => False) mix (fun _ h => h.elim) (cast (zmI (yy s) off len c s.length _ kp _).symm ?_)
 simp only [Int.toNat_natCast, y0, w1, w2]
 exact ⟨gtf (by show (1 : Int) ≤ _; omega), ⟨by show ((0 : Int) ≤ 1 ∧ (1 : Int) ≤ c); omega, by decide⟩, ⟨by omega, by show ((0 : Int) ≤ 1 ∧ (1 : Int) ≤ _); omega⟩, by omega, zlO (f.toNat : Int) (by omega) (by omega), gtt (by show _ < (4 : Int); omega), by first | exact ⟨rfl, rfl⟩ | exact ⟨trivial, rfl⟩ | exact ⟨trivial, trivial⟩⟩
theorem nbok5 (kp : Nat) (s : List UInt8) (off len c : Nat) (hoff : off + len = s.length) (hc : len ≤ c) (hbig : len ≤ 9223372036854775807) (f a1 a2 a3 a4 a5 : UInt8) (r : List UInt8) (hl : s.drop off = f :: a1 :: a2 :: a3 :: a4 :: a5 :: r) (hf0 : f.toNat = 252) (h0 : 4294967296 ≤ ((((((0 * 256 + (a1.toNat : Int)) * 256 + (a2.toNat : Int)) * 256 + (a3.toNat : Int)) * 256 + (a4.toNat : Int)) * 256 + (a5.toNat : Int)) + 0)) (h1 : ((((((0 * 256 + (a1.toNat : Int)) * 256 + (a2.toNat : Int)) * 256 + (a3.toNat : Int)) * 256 + (a4.toNat : Int)) * 256 + (a5.toNat : Int)) + 0) ≤ 1099511627775) :
 Goal P kp 76 (fun v H => v = .tup [.int .u64 ((((((0 * 256 + (a1.toNat : Int)) * 256 + (a2.toNat : Int)) * 256 + (a3.toNat : Int)) * 256 + (a4.toNat : Int)) * 256 + (a5.toNat : Int)) + 0), .bool true] ∧ H = rd3 (.slc 1 0 (if len - 1 = 5 then off + 1 else off + 1 + 5) (len - 1 - 5) (len - 1 - 5)) false s 1099511627775 0 252 5 4294967296) (xl s off len c) := by
 have hf := zg f
 have ha1 := zg a1
 have ha2 := zg a2
 have ha3 := zg a3
 have ha4 := zg a4
 have ha5 := zg a5
 have hlen : 1 ≤ len := by have := congrArg List.length hl; simp at this; omega
 have y0 : yy s off = f.toNat := by have := zn hl 0; simpa using this
 have hlk : 6 ≤ len := by have := congrArg List.length hl; simp at this; omega
 have y1 : yy s (off + 1) = a1.toNat := by have := zn hl 1; simp at this; rw [← this]
 have y2 : yy s (off + 1 + 1) = a2.toNat := by have := zn hl 2; simp at this; rw [← this]
 have y3 : yy s (off + 1 + 2) = a3.toNat := by have := zn hl 3; simp at this; rw [← this]
 have y4 : yy s (off + 1 + 3) = a4.toNat := by have := zn hl 4; simp at this; rw [← this]
 have y5 : yy s (off + 1 + 4) = a5.toNat := by have := zn hl 5; simp at this; rw [← this]
 have w1 : IntKind.u64.wrap (len : Int) = len := IntWalk.u64_in _ (by omega)
 have w2 : IntKind.u64.wrap ((len - 1 : Nat) : Int) = (len - 1 : Nat) := IntWalk.u64_in _ (by omega)
 have e1 : (if len = 1 then off else off + 1) = off + 1 := if_neg (by omega)
 have z0 : IntKind.u64.wrap (IntKind.u8.wrap ((f.toNat : Int) - Int.ofNat 252)) = 0 := by
  rw [IntWalk.u8_in _ (by show 0 ≤ (f.toNat : Int) - 252 ∧ (f.toNat : Int) - 252 ≤ 255; omega), IntWalk.u64_in _ (by show 0 ≤ (f.toNat : Int) - 252 ∧ (f.toNat : Int) - 252 ≤ _; omega)]
  show (f.toNat : Int) - 252 = _
  omega
 have A1 := zk 0 a1.toNat (by omega) (by omega) (by omega) (by omega)
 have A2 := zk (0 * 256 + (a1.toNat : Int)) a2.toNat (by omega) (by omega) (by omega) (by omega)
 have A3 := zk ((0 * 256 + (a1.toNat : Int)) * 256 + (a2.toNat : Int)) a3.toNat (by omega) (by omega) (by omega) (by omega)
 have A4 := zk (((0 * 256 + (a1.toNat : Int)) * 256 + (a2.toNat : Int)) * 256 + (a3.toNat : Int)) a4.toNat (by omega) (by omega) (by omega) (by omega)
 have A5 := zk ((((0 * 256 + (a1.toNat : Int)) * 256 + (a2.toNat : Int)) * 256 + (a3.toNat : Int)) * 256 + (a4.toNat : Int)) a5.toNat (by omega) (by omega) (by omega) (by omega)
 have wV : IntKind.u64.wrap ((((((0 * 256 + (a1.toNat : Int)) * 256 + (a2.toNat : Int)) * 256 + (a3.toNat : Int)) * 256 + (a4.toNat : Int)) * 256 + (a5.toNat : Int)) + Int.ofNat 0) = ((((((0 * 256 + (a1.toNat : Int)) * 256 + (a2.toNat : Int)) * 256 + (a3.toNat : Int)) * 256 + (a4.toNat : Int)) * 256 + (a5.toNat : Int)) + 0) := IntWalk.u64_in _ (by show 0 ≤ (((((0 * 256 + (a1.toNat : Int)) * 256 + (a2.toNat : Int)) * 256 + (a3.toNat : Int)) * 256 + (a4.toNat : Int)) * 256 + (a5.toNat : Int)) + 0 ∧ (((((0 * 256 + (a1.toNat : Int)) * 256 + (a2.toNat : Int)) * 256 + (a3.toNat : Int)) * 256 + (a4.toNat : Int)) * 256 + (a5.toNat : Int)) + 0 ≤ _; omega)
 refine Obl.goal (K := fun _ => False) mix (fun _ h => h.elim) (cast (zjo (yy s) off len c s.length _ kp _).symm ?_)
 simp only [Int.toNat_natCast, e1, y0, w1, w2, z0, wV, y1, y2, y3, y4, y5, A1, A2, A3, A4, A5]
 exact ⟨gtf (by show (1 : Int) ≤ _; omega), ⟨by show ((0 : Int) ≤ 1 ∧ (1 : Int) ≤ c); omega, by decide⟩, ⟨by omega, by show ((0 : Int) ≤ 1 ∧ (1 : Int) ≤ _); omega⟩, by omega, zk8 (f.toNat : Int) (by omega) (by omega), gtf (by show (5 : Int) ≤ _; omega), ⟨by show ((0 : Int) ≤ 5 ∧ (5 : Int) ≤ _); omega, by decide⟩, ⟨by omega, by show ((0 : Int) ≤ 5 ∧ (5 : Int) ≤ _); omega⟩, by omega, by omega, by omega, by omega, by omega, by omega, leT (by show (4294967296 : Int) ≤ _; omega), leT (by show _ ≤ (1099511627775 : Int); omega), by first | exact ⟨rfl, rfl⟩ | exact ⟨trivial, rfl⟩ | exact ⟨trivial, trivial⟩⟩
theorem nblo5 (kp : Nat) (s : List UInt8) (off len c : Nat) (hoff : off + len = s.length) (hc : len ≤ c) (hbig : len ≤ 9223372036854775807) (f a1 a2 a3 a4 a5 : UInt8) (r : List UInt8) (hl : s.drop off = f :: a1 :: a2 :: a3 :: a4 :: a5 :: r) (hf0 : f.toNat = 252) (h0 : ((((((0 * 256 + (a1.toNat : Int)) * 256 + (a2.toNat : Int)) * 256 + (a3.toNat : Int)) * 256 + (a4.toNat : Int)) * 256 + (a5.toNat : Int)) + 0) < 4294967296) :
 Goal P kp 76 (fun v H => v = .tup [.int .u64 0, .bool false] ∧ H = rd3 (.slc 1 0 (if len - 1 = 5 then off + 1 else off + 1 + 5) (len - 1 - 5) (len - 1 - 5)) false s 1099511627775 0 252 5 4294967296) (xl s off len c) := by
 have hf := zg f
 have ha1 := zg a1
 have ha2 := zg a2
 have ha3 := zg a3
 have ha4 := zg a4
 have ha5 := zg a5
 have hlen : 1 ≤ len := by have := congrArg List.length hl; simp at this; omega
 have y0 : yy s off = f.toNat := by have := zn hl 0; simpa using this
 have hlk : 6 ≤ len := by have := congrArg List.length hl; simp at this; omega
 have y1 : yy s (off + 1) = a1.toNat := by have := zn hl 1; simp at this; rw [← this]
 have y2 : yy s (off + 1 + 1) = a2.toNat := by have := zn hl 2; simp at this; rw [← this]
 have y3 : yy s (off + 1 + 2) = a3.toNat := by have := zn hl 3; simp at this; rw [← this]
 have y4 : yy s (off + 1 + 3) = a4.toNat := by have := zn hl 4; simp at this; rw [← this]
 have y5 : yy s (off + 1 + 4) = a5.toNat := by have := zn hl 5; simp at this; rw [← this]
 have w1 : IntKind.u64.wrap (len : Int) = len := IntWalk.u64_in _ (by omega)
 have w2 : IntKind.u64.wrap ((len - 1 : Nat) : Int) = (len - 1 : Nat) := IntWalk.u64_in _ (by omega)
 have e1 : (if len = 1 then off else off + 1) = off + 1 := if_neg (by omega)
 have z0 : IntKind.u64.wrap (IntKind.u8.wrap ((f.toNat : Int) - Int.ofNat 252)) = 0 := by
  rw [IntWalk.u8_in _ (by show 0 ≤ (f.toNat : Int) - 252 ∧ (f.toNat : Int) - 252 ≤ 255; omega), IntWalk.u64_in _ (by show 0 ≤ (f.toNat : Int) - 252 ∧ (f.toNat : Int) - 252 ≤ _; omega)]
  show (f.toNat : Int) - 252 = _
  omega
 have A1 := zk 0 a1.toNat (by omega) (by omega) (by omega) (by omega)
 have A2 := zk (0 * 256 + (a1.toNat : Int)) a2.toNat (by omega) (by omega) (by omega) (by omega)
 have A3 := zk ((0 * 256 + (a1.toNat : Int)) * 256 + (a2.toNat : Int)) a3.toNat (by omega) (by omega) (by omega) (by omega)
 have A4 := zk (((0 * 256 + (a1.toNat : Int)) * 256 + (a2.toNat : Int)) * 256 + (a3.toNat : Int)) a4.toNat (by omega) (by omega) (by omega) (by omega)
 have A5 := zk ((((0 * 256 + (a1.toNat : Int)) * 256 + (a2.toNat : Int)) * 256 + (a3.toNat : Int)) * 256 + (a4.toNat : Int)) a5.toNat (by omega) (by omega) (by omega) (by omega)
 have wV : IntKind.u64.wrap ((((((0 * 256 + (a1.toNat : Int)) * 256 + (a2.toNat : Int)) * 256 + (a3.toNat : Int)) * 256 + (a4.toNat : Int)) * 256 + (a5.toNat : Int)) + Int.ofNat 0) = ((((((0 * 256 + (a1.toNat : Int)) * 256 + (a2.toNat : Int)) * 256 + (a3.toNat : Int)) * 256 + (a4.toNat : Int)) * 256 + (a5.toNat : Int)) + 0) := IntWalk.u64_in _ (by show 0 ≤ (((((0 * 256 + (a1.toNat : Int)) * 256 + (a2.toNat : Int)) * 256 + (a3.toNat : Int)) * 256 + (a4.toNat : Int)) * 256 + (a5.toNat : Int)) + 0 ∧ (((((0 * 256 + (a1.toNat : Int)) * 256 + (a2.toNat : Int)) * 256 + (a3.toNat : Int)) * 256 + (a4.toNat : Int)) * 256 + (a5.toNat : Int)) + 0 ≤ _; omega)
 refine Obl.goal (K := fun _ => False) mix (fun _ h => h.elim) (cast (zlu (yy s) off len c s.length _ kp _).symm ?_)
 simp only [Int.toNat_natCast, e1, y0, w1, w2, z0, wV, y1, y2, y3, y4, y5, A1, A2, A3, A4, A5]
 exact ⟨gtf (by show (1 : Int) ≤ _; omega), ⟨by show ((0 : Int) ≤ 1 ∧ (1 : Int) ≤ c); omega, by decide⟩, ⟨by omega, by show ((0 : Int) ≤ 1 ∧ (1 : Int) ≤ _); omega⟩, by omega, zk8 (f.toNat : Int) (by omega) (by omega), gtf (by show (5 : Int) ≤ _; omega), ⟨by show ((0 : Int) ≤ 5 ∧ (5 : Int) ≤ _); omega, by decide⟩, ⟨by omega, by show ((0 : Int) ≤ 5 ∧ (5 : Int) ≤ _); omega⟩, by omega, by omega, by omega, by omega, by omega, by omega, leF (by show _ < (4294967296 : Int); omega), by first | exact ⟨rfl, rfl⟩ | exact ⟨trivial, rfl⟩ | exact ⟨trivial, trivial⟩⟩
theorem zjS (kp : Nat) (s : List UInt8) (off len c : Nat) (hoff : off + len = s.length) (hc : len ≤ c) (f : UInt8) (r : List UInt8) (hl : s.drop off = f :: r) (hf0 : f.toNat = 252) (hs : len < 6) :
 Goal P kp 76 (fun v H => v = .tup [.int .u64 0, .bool false] ∧ H = rd3 (.slc 1 0 (if len = 1 then off else off + 1) (len - 1) (len - 1)) false s 1099511627775 0 252 5 4294967296) (xl s off len c) := by
 have hf := zg f
 have hlen : 1 ≤ len := by have := congrArg List.length hl; simp at this; omega
 have y0 : yy s off = f.toNat := by have := zn hl 0; simpa using this
 have w1 : IntKind.u64.wrap (len : Int) = len := IntWalk.u64_in _ (by omega)
 have w2 : IntKind.u64.wrap ((len - 1 : Nat) : Int) = (len - 1 : Nat) := IntWalk.u64_in _ (by omega)
 refine Obl.goal (K := fun _ => False) mix (fun _ h => h.elim) (cast (zmC (yy s) off len c s.length _ kp _).symm ?_)
 simp only [Int.toNat_natCast, y0, w1, w2]
 exact ⟨gtf (by show (1 : Int) ≤ _; omega), ⟨by show ((0 : Int) ≤ 1 ∧ (1 : Int) ≤ c); omega, by decide⟩, ⟨by omega, by show ((0 : Int) ≤ 1 ∧ (1 : Int) ≤ _); omega⟩, by omega, zk8 (f.toNat : Int) (by omega) (by omega), gtt (by show _ < (5 : Int); omega), by first | exact ⟨rfl, rfl⟩ | exact ⟨trivial, rfl⟩ | exact ⟨trivial, trivial⟩⟩
theorem nbok6 (kp : Nat) (s : List UInt8) (off len c : Nat) (hoff : off + len = s.length) (hc : len ≤ c) (hbig : len ≤ 9223372036854775807) (f a1 a2 a3 a4 a5 a6 : UInt8) (r : List UInt8) (hl : s.drop off = f :: a1 :: a2 :: a3 :: a4 :: a5 :: a6 :: r) (hf0 : f.toNat = 253) (h0 : 1099511627776 ≤ (((((((0 * 256 + (a1.toNat : Int)) * 256 + (a2.toNat : Int)) * 256 + (a3.toNat : Int)) * 256 + (a4.toNat : Int)) * 256 + (a5.toNat : Int)) * 256 + (a6.toNat : Int)) + 0)) (h1 : (((((((0 * 256 + (a1.toNat : Int)) * 256 + (a2.toNat : Int)) * 256 + (a3.toNat : Int)) * 256 + (a4.toNat : Int)) * 256 + (a5.toNat : Int)) * 256 + (a6.toNat : Int)) + 0) ≤ 281474976710655) :
 Goal P kp 76 (fun v H => v = .tup [.int .u64 (((((((0 * 256 + (a1.toNat : Int)) * 256 + (a2.toNat : Int)) * 256 + (a3.toNat : Int)) * 256 + (a4.toNat : Int)) * 256 + (a5.toNat : Int)) * 256 + (a6.toNat : Int)) + 0), .bool true] ∧ H = rd3 (.slc 1 0 (if len - 1 = 6 then off + 1 else off + 1 + 6) (len - 1 - 6) (len - 1 - 6)) false s 281474976710655 0 253 6 1099511627776) (xl s off len c) := by
 have hf := zg f
 have ha1 := zg a1
 have ha2 := zg a2
 have ha3 := zg a3
 have ha4 := zg a4
 have ha5 := zg a5
 have ha6 := zg a6
 have hlen : 1 ≤ len := by have := congrArg List.length hl; simp at this; omega
 have y0 : yy s off = f.toNat := by have := zn hl 0; simpa using this
 have hlk : 7 ≤ len := by have := congrArg List.length hl; simp at this; omega
 have y1 : yy s (off + 1) = a1.toNat := by have := zn hl 1; simp at this; rw [← this]
 have y2 : yy s (off + 1 + 1) = a2.toNat := by have := zn hl 2; simp at this; rw [← this]
 have y3 : yy s (off + 1 + 2) = a3.toNat := by have := zn hl 3; simp at this; rw [← this]
 have y4 : yy s (off + 1 + 3) = a4.toNat := by have := zn hl 4; simp at this; rw [← this]
 have y5 : yy s (off + 1 + 4) = a5.toNat := by have := zn hl 5; simp at this; rw [← this]
 have y6 : yy s (off + 1 + 5) = a6.toNat := by have := zn hl 6; simp at this; rw [← this]
 have w1 : IntKind.u64.wrap (len : Int) = len := IntWalk.u64_in _ (by omega)
 have w2 : IntKind.u64.wrap ((len - 1 : Nat) : Int) = (len - 1 : Nat) := IntWalk.u64_in _ (by omega)
 have e1 : (if len = 1 then off else off + 1) = off + 1 := if_neg (by omega)
 have z0 : IntKind.u64.wrap (IntKind.u8.wrap ((f.toNat : Int) - Int.ofNat 253)) = 0 := by
  rw [IntWalk.u8_in _ (by show 0 ≤ (f.toNat : Int) - 253 ∧ (f.toNat : Int) - 253 ≤ 255; omega), IntWalk.u64_in _ (by show 0 ≤ (f.toNat : Int) - 253 ∧ (f.toNat : Int) - 253 ≤ _; omega)]
  show (f.toNat : Int) - 253 = _
  omega
 have A1 := zk 0 a1.toNat (by omega) (by omega) (by omega) (by omega)
 have A2 := zk (0 * 256 + (a1.toNat : Int)) a2.toNat (by omega) (by omega) (by omega) (by omega)
 have A3 := zk ((0 * 256 + (a1.toNat : Int)) * 256 + (a2.toNat : Int)) a3.toNat (by omega) (by omega) (by omega) (by omega)
 have A4 := zk (((0 * 256 + (a1.toNat : Int)) * 256 + (a2.toNat : Int)) * 256 + (a3.toNat : Int)) a4.toNat (by omega) (by omega) (by omega) (by omega)
 have A5 := zk ((((0 * 256 + (a1.toNat : Int)) * 256 + (a2.toNat : Int)) * 256 + (a3.toNat : Int)) * 256 + (a4.toNat : Int)) a5.toNat (by omega) (by omega) (by omega) (by omega)
 have A6 := zk (((((0 * 256 + (a1.toNat : Int)) * 256 + (a2.toNat : Int)) * 256 + (a3.toNat : Int)) * 256 + (a4.toNat : Int)) * 256 + (a5.toNat : Int)) a6.toNat (by omega) (by omega) (by omega) (by omega)
 have wV : IntKind.u64.wrap (((((((0 * 256 + (a1.toNat : Int)) * 256 + (a2.toNat : Int)) * 256 + (a3.toNat : Int)) * 256 + (a4.toNat : Int)) * 256 + (a5.toNat : Int)) * 256 + (a6.toNat : Int)) + Int.ofNat 0) = (((((((0 * 256 + (a1.toNat : Int)) * 256 + (a2.toNat : Int)) * 256 + (a3.toNat : Int)) * 256 + (a4.toNat : Int)) * 256 + (a5.toNat : Int)) * 256 + (a6.toNat : Int)) + 0) := IntWalk.u64_in _ (by show 0 ≤ ((((((0 * 256 + (a1.toNat : Int)) * 256 + (a2.toNat : Int)) * 256 + (a3.toNat : Int)) * 256 + (a4.toNat : Int)) * 256 + (a5.toNat : Int)) * 256 + (a6.toNat : Int)) + 0 ∧ ((((((0 * 256 + (a1.toNat : Int)) * 256 + (a2.toNat : Int)) * 256 + (a3.toNat : Int)) * 256 + (a4.toNat : Int)) * 256 + (a5.toNat : Int)) * 256 + (a6.toNat : Int)) + 0 ≤ _; omega)
 refine Obl.goal (K := fun _ => False) mix (fun _ h => h.elim) (cast (zke (yy s) off len c s.length _ kp _).symm ?_)
 simp only [Int.toNat_natCast, e1, y0, w1, w2, z0, wV, y1, y2, y3, y4, y5, y6, A1, A2, A3, A4, A5, A6]
 exact ⟨gtf (by show (1 : Int) ≤ _; omega), ⟨by show ((0 : Int) ≤ 1 ∧ (1 : Int) ≤ c); omega, by decide⟩, ⟨by omega, by show ((0 : Int) ≤ 1 ∧ (1 : Int) ≤ _); omega⟩, by omega, zlK (f.toNat : Int) (by omega) (by omega), gtf (by show (6 : Int) ≤ _; omega), ⟨by show ((0 : Int) ≤ 6 ∧ (6 : Int) ≤ _); omega, by decide⟩, ⟨by omega, by show ((0 : Int) ≤ 6 ∧ (6 : Int) ≤ _); omega⟩, by omega, by omega, by omega, by omega, by omega, by omega, by omega, leT (by show (1099511627776 : Int) ≤ _; omega), leT (by show _ ≤ (281474976710655 : Int); omega), by first | exact ⟨rfl, rfl⟩ | exact ⟨trivial, rfl⟩ | exact ⟨trivial, trivial⟩⟩
theorem nblo6 (kp : Nat) (s : List UInt8) (off len c : Nat) (hoff : off + len = s.length) (hc : len ≤ c) (hbig : len ≤ 9223372036854775807) (f a1 a2 a3 a4 a5 a6 : UInt8) (r : List UInt8) (hl : s.drop off = f :: a1 :: a2 :: a3 :: a4 :: a5 :: a6 :: r) (hf0 : f.toNat = 253) (h0 : (((((((0 * 256 + (a1.toNat : Int)) * 256 + (a2.toNat : Int)) * 256 + (a3.toNat : Int)) * 256 + (a4.toNat : Int)) * 256 + (a5.toNat : Int)) * 256 + (a6.toNat : Int)) + 0) < 1099511627776) :
 Goal P kp 76 (fun v H => v = .tup [.int .u64 0, .bool false] ∧ H = rd3 (.slc 1 0 (if len - 1 = 6 then off + 1 else off + 1 + 6) (len - 1 - 6) (len - 1 - 6)) false s 281474976710655 0 253 6 1099511627776) (xl s off len c) := by
 have hf := zg f
 have ha1 := zg a1
 have ha2 := zg a2
 have ha3 := zg a3
 have ha4 := zg a4
 have ha5 := zg a5
 have ha6 := zg a6
 have hlen : 1 ≤ len := by have := congrArg List.length hl; simp at this; omega
 have y0 : yy s off = f.toNat := by have := zn hl 0; simpa using this
 have hlk : 7 ≤ len := by have := congrArg List.length hl; simp at this; omega
 have y1 : yy s (off + 1) = a1.toNat := by have := zn hl 1; simp at this; rw [← this]
 have y2 : yy s (off + 1 + 1) = a2.toNat := by have := zn hl 2; simp at this; rw [← this]
 have y3 : yy s (off + 1 + 2) = a3.toNat := by have := zn hl 3; simp at this; rw [← this]
 have y4 : yy s (off + 1 + 3) = a4.toNat := by have := zn hl 4; simp at this; rw [← this]
 have y5 : yy s (off + 1 + 4) = a5.toNat := by have := zn hl 5; simp at this; rw [← this]
 have y6 : yy s (off + 1 + 5) = a6.toNat := by have := zn hl 6; simp at this; rw [← this]
 have w1 : IntKind.u64.wrap (len : Int) = len := IntWalk.u64_in _ (by omega)
 have w2 : IntKind.u64.wrap ((len - 1 : Nat) : Int) = (len - 1 : Nat) := IntWalk.u64_in _ (by omega)
 have e1 : (if len = 1 then off else off + 1) = off + 1 := if_neg (by omega)
 have z0 : IntKind.u64.wrap (IntKind.u8.wrap ((f.toNat : Int) - Int.ofNat 253)) = 0 := by
  rw [IntWalk.u8_in _ (by show 0 ≤ (f.toNat : Int) - 253 ∧ (f.toNat : Int) - 253 ≤ 255; omega), IntWalk.u64_in _ (by show 0 ≤ (f.toNat : Int) - 253 ∧ (f.toNat : Int) - 253 ≤ _; omega)]
  show (f.toNat : Int) - 253 = _
  omega
 have A1 := zk 0 a1.toNat (by omega) (by omega) (by omega) (by omega)
 have A2 := zk (0 * 256 + (a1.toNat : Int)) a2.toNat (by omega) (by omega) (by omega) (by omega)
 have A3 := zk ((0 * 256 + (a1.toNat : Int)) * 256 + (a2.toNat : Int)) a3.toNat (by omega) (by omega) (by omega) (by omega)
 have A4 := zk (((0 * 256 + (a1.toNat : Int)) * 256 + (a2.toNat : Int)) * 256 + (a3.toNat : Int)) a4.toNat (by omega) (by omega) (by omega) (by omega)
 have A5 := zk ((((0 * 256 + (a1.toNat : Int)) * 256 + (a2.toNat : Int)) * 256 + (a3.toNat : Int)) * 256 + (a4.toNat : Int)) a5.toNat (by omega) (by omega) (by omega) (by omega)
 have A6 := zk (((((0 * 256 + (a1.toNat : Int)) * 256 + (a2.toNat : Int)) * 256 + (a3.toNat : Int)) * 256 + (a4.toNat : Int)) * 256 + (a5.toNat : Int)) a6.toNat (by omega) (by omega) (by omega) (by omega)
 have wV : IntKind.u64.wrap (((((((0 * 256 + (a1.toNat : Int)) * 256 + (a2.toNat : Int)) * 256 + (a3.toNat : Int)) * 256 + (a4.toNat : Int)) * 256 + (a5.toNat : Int)) * 256 + (a6.toNat : Int)) + Int.ofNat 0) = (((((((0 * 256 + (a1.toNat : Int)) * 256 + (a2.toNat : Int)) * 256 + (a3.toNat : Int)) * 256 + (a4.toNat : Int)) * 256 + (a5.toNat : Int)) * 256 + (a6.toNat : Int)) + 0) := IntWalk.u64_in _ (by show 0 ≤ ((((((0 * 256 + (a1.toNat : Int)) * 256 + (a2.toNat : Int)) * 256 + (a3.toNat : Int)) * 256 + (a4.toNat : Int)) * 256 + (a5.toNat : Int)) * 256 + (a6.toNat : Int)) + 0 ∧ ((((((0 * 256 + (a1.toNat : Int)) * 256 + (a2.toNat : Int)) * 256 + (a3.toNat : Int)) * 256 + (a4.toNat : Int)) * 256 + (a5.toNat : Int)) * 256 + (a6.toNat : Int)) + 0 ≤ _; omega)
 refine Obl.goal (K := fun _ => False) mix (fun _ h => h.elim) (cast (zlp (yy s) off len c s.length _ kp _).symm ?_)
 simp only [Int.toNat_natCast, e1, y0, w1, w2, z0, wV, y1, y2, y3, y4, y5, y6, A1, A2, A3, A4, A5, A6]
 exact ⟨gtf (by show (1 : Int) ≤ _; omega), ⟨by show ((0 : Int) ≤ 1 ∧ (1 : Int) ≤ c); omega, by decide⟩, ⟨by omega, by show ((0 : Int) ≤ 1 ∧ (1 : Int) ≤ _); omega⟩, by omega, zlK (f.toNat : Int) (by omega) (by omega), gtf (by show (6 : Int) ≤ _; omega), ⟨by show ((0 : Int) ≤ 6 ∧ (6 : Int) ≤ _); omega, by decide⟩, ⟨by omega, by show ((0 : Int) ≤ 6 ∧ (6 : Int) ≤ _); omega⟩, by omega, by omega, by omega, by omega, by omega, by omega, by omega, leF (by show _ < (1099511627776 : Int); omega), by first | exact ⟨rfl, rfl⟩ | exact ⟨trivial, rfl⟩ | exact ⟨trivial, trivial⟩⟩
theorem zjC (kp : Nat) (s : List UInt8) (off len c : Nat) (hoff : off + len = s.length) (hc : len ≤ c) (f : UInt8) (r : List UInt8) (hl : s.drop off = f :: r) (hf0 : f.toNat = 253) (hs : len < 7) :
 Goal P kp 76 (fun v H => v = .tup [.int .u64 0, .bool false] ∧ H = rd3 (.slc 1 0 (if len = 1 then off else off + 1) (len - 1) (len - 1)) false s 281474976710655 0 253 6 1099511627776) (xl s off len c) := by
 have hf := zg f
 have hlen : 1 ≤ len := by have := congrArg List.length hl; simp at this; omega
 have y0 : yy s off = f.toNat := by have := zn hl 0; simpa using this
 have w1 : IntKind.u64.wrap (len : Int) = len := IntWalk.u64_in _ (by omega)
 have w2 : IntKind.u64.wrap ((len - 1 : Nat) : Int) = (len - 1 : Nat) := IntWalk.u64_in _ (by omega)
 refine Obl.goal (K := fun _ => False) mix (fun _ h => h.elim) (cast (zmX (yy s) off len c s.length _ kp _).symm ?_)
 simp only [Int.toNat_natCast, y0, w1, w2]
 exact ⟨gtf (by show (1 : Int) ≤ _; omega), ⟨by show ((0 : Int) ≤ 1 ∧ (1 : Int) ≤ c); omega, by decide⟩, ⟨by omega, by show ((0 : Int) ≤ 1 ∧ (1 : Int) ≤ _); omega⟩, by omega, zlK (f.toNat : Int) (by omega) (by omega), gtt (by show _ < (6 : Int); omega), by first | exact ⟨rfl, rfl⟩ | exact ⟨trivial, rfl⟩ | exact ⟨trivial, trivial⟩⟩
theorem nbok7 (kp : Nat) (s : List UInt8) (off len c : Nat) (hoff : off + len = s.length) (hc : len ≤ c) (hbig : len ≤ 9223372036854775807) (f a1 a2 a3 a4 a5 a6 a7 : UInt8) (r : List UInt8) (hl : s.drop off = f :: a1 :: a2 :: a3 :: a4 :: a5 :: a6 :: a7 :: r) (hf0 : f.toNat = 254) (h0 : 281474976710656 ≤ ((((((((0 * 256 + (a1.toNat : Int)) * 256 + (a2.toNat : Int)) * 256 + (a3.toNat : Int)) * 256 + (a4.toNat : Int)) * 256 + (a5.toNat : Int)) * 256 + (a6.toNat : Int)) * 256 + (a7.toNat : Int)) + 0)) (h1 : ((((((((0 * 256 + (a1.toNat : Int)) * 256 + (a2.toNat : Int)) * 256 + (a3.toNat : Int)) * 256 + (a4.toNat : Int)) * 256 + (a5.toNat : Int)) * 256 + (a6.toNat : Int)) * 256 + (a7.toNat : Int)) + 0) ≤ 72057594037927935) :
 Goal P kp 76 (fun v H => v = .tup [.int .u64 ((((((((0 * 256 + (a1.toNat : Int)) * 256 + (a2.toNat : Int)) * 256 + (a3.toNat : Int)) * 256 + (a4.toNat : Int)) * 256 + (a5.toNat : Int)) * 256 + (a6.toNat : Int)) * 256 + (a7.toNat : Int)) + 0), .bool true] ∧ H = rd3 (.slc 1 0 (if len - 1 = 7 then off + 1 else off + 1 + 7) (len - 1 - 7) (len - 1 - 7)) false s 72057594037927935 0 254 7 281474976710656) (xl s off len c) := by
 have hf := zg f
 have ha1 := zg a1
 have ha2 := zg a2
 have ha3 := zg a3
 have ha4 := zg a4
 have ha5 := zg a5
 have ha6 := zg a6
 have ha7 := zg a7
 have hlen : 1 ≤ len := by have := congrArg List.length hl; simp at this; omega
 have y0 : yy s off = f.toNat := by have := zn hl 0; simpa using this
 have hlk : 8 ≤ len := by have := congrArg List.length hl; simp at this; omega
 have y1 : yy s (off + 1) = a1.toNat := by have := zn hl 1; simp at this; rw [← this]
 have y2 : yy s (off + 1 + 1) = a2.toNat := by have := zn hl 2; simp at this; rw [← this]
 have y3 : yy s (off + 1 + 2) = a3.toNat := by have := zn hl 3; simp at this; rw [← this]
 have y4 : yy s (off + 1 + 3) = a4.toNat := by have := zn hl 4; simp at this; rw [← this]
 have y5 : yy s (off + 1 + 4) = a5.toNat := by have := zn hl 5; simp at this; rw [← this]
 have y6 : yy s (off + 1 + 5) = a6.toNat := by have := zn hl 6; simp at this; rw [← this]
 have y7 : yy s (off + 1 + 6) = a7.toNat := by have := zn hl 7; simp at this; rw [← this]
 have w1 : IntKind.u64.wrap (len : Int) = len := IntWalk.u64_in _ (by omega)
 have w2 : IntKind.u64.wrap ((len - 1 : Nat) : Int) = (len - 1 : Nat) := IntWalk.u64_in _ (by omega)
 have e1 : (if len = 1 then off else off + 1) = off + 1 := if_neg (by omega)
 have z0 : IntKind.u64.wrap (IntKind.u8.wrap ((f.toNat : Int) - Int.ofNat 254)) = 0 := by
  rw [IntWalk.u8_in _ (by show 0 ≤ (f.toNat : Int) - 254 ∧ (f.toNat : Int) - 254 ≤ 255; omega), IntWalk.u64_in _ (by show 0 ≤ (f.toNat : Int) - 254 ∧ (f.toNat : Int) - 254 ≤ _; omega)]
  show (f.toNat : Int) - 254 = _
  omega
 have A1 := zk 0 a1.toNat (by omega) (by omega) (by omega) (by omega)
 have A2 := zk (0 * 256 + (a1.toNat : Int)) a2.toNat (by omega) (by omega) (by omega) (by omega)
 have A3 := zk ((0 * 256 + (a1.toNat : Int)) * 256 + (a2.toNat : Int)) a3.toNat (by omega) (by omega) (by omega) (by omega)
 have A4 := zk (((0 * 256 + (a1.toNat : Int)) * 256 + (a2.toNat : Int)) * 256 + (a3.toNat : Int)) a4.toNat (by omega) (by omega) (by omega) (by omega)
 have A5 := zk ((((0 * 256 + (a1.toNat : Int)) * 256 + (a2.toNat : Int)) * 256 + (a3.toNat : Int)) * 256 + (a4.toNat : Int)) a5.toNat (by omega) (by omega) (by omega) (by omega)
 have A6 := zk (((((0 * 256 + (a1.toNat : Int)) * 256 + (a2.toNat : Int)) * 256 + (a3.toNat : Int)) * 256 + (a4.toNat : Int)) * 256 + (a5.toNat : Int)) a6.toNat (by omega) (by omega) (by omega) (by omega)
 have A7 := zk ((((((0 * 256 + (a1.toNat : Int)) * 256 + (a2.toNat : Int)) * 256 + (a3.toNat : Int)) * 256 + (a4.toNat : Int)) * 256 + (a5.toNat : Int)) * 256 + (a6.toNat : Int)) a7.toNat (by omega) (by omega) (by omega) (by omega)
 have wV : IntKind.u64.wrap ((((((((0 * 256 + (a1.toNat : Int)) * 256 + (a2.toNat : Int)) * 256 + (a3.toNat : Int)) * 256 + (a4.toNat : Int)) * 256 + (a5.toNat : Int)) * 256 + (a6.toNat : Int)) * 256 + (a7.toNat : Int)) + Int.ofNat 0) = ((((((((0 * 256 + (a1.toNat : Int)) * 256 + (a2.toNat : Int)) * 256 + (a3.toNat : Int)) * 256 + (a4.toNat : Int)) * 256 + (a5.toNat : Int)) * 256 + (a6.toNat : Int)) * 256 + (a7.toNat : Int)) + 0) := IntWalk.u64_in _ (by show 0 ≤ (((((((0 * 256 + (a1.toNat : Int)) * 256 + (a2.toNat : Int)) * 256 + (a3.toNat : Int)) * 256 + (a4.toNat : Int)) * 256 + (a5.toNat : Int)) * 256 + (a6.toNat : Int)) * 256 + (a7.toNat : Int)) + 0 ∧ (((((((0 * 256 + (a1.toNat : Int)) * 256 + (a2.toNat : Int)) * 256 + (a3.toNat : Int)) * 256 + (a4.toNat : Int)) * 256 + (a5.toNat : Int)) * 256 + (a6.toNat : Int)) * 256 + (a7.toNat : Int)) + 0 ≤ _; omega)
 refine Obl.goal (K := fun _ => False) mix (fun _ h => h.elim) (cast (zkm (yy s) off len c s.length _ kp _).symm ?_)
 simp only [Int.toNat_natCast, e1, y0, w1, w2, z0, wV, y1, y2, y3, y4, y5, y6, y7, A1, A2, A3, A4, A5, A6, A7]
 exact ⟨gtf (by show (1 : Int) ≤ _; omega), ⟨by show ((0 : Int) ≤ 1 ∧ (1 : Int) ≤ c); omega, by decide⟩, ⟨by omega, by show ((0 : Int) ≤ 1 ∧ (1 : Int) ≤ _); omega⟩, by omega, zlQ (f.toNat : Int) (by omega) (by omega), gtf (by show (7 : Int) ≤ _; omega), ⟨by show ((0 : Int) ≤ 7 ∧ (7 : Int) ≤ _); omega, by decide⟩, ⟨by omega, by show ((0 : Int) ≤ 7 ∧ (7 : Int) ≤ _); omega⟩, by omega, by omega, by omega, by omega, by omega, by omega, by omega, by omega, leT (by show (281474976710656 : Int) ≤ _; omega), leT (by show _ ≤ (72057594037927935 : Int); omega), by first | exact ⟨rfl, rfl⟩ | exact ⟨trivial, rfl⟩ | exact ⟨trivial, trivial⟩⟩
theorem nblo7 (kp : Nat) (s : List UInt8) (off len c : Nat) (hoff : off + len = s.length) (hc : len ≤ c) (hbig : len ≤ 9223372036854775807) (f a1 a2 a3 a4 a5 a6 a7 : UInt8) (r : List UInt8) (hl : s.drop off = f :: a1 :: a2 :: a3 :: a4 :: a5 :: a6 :: a7 :: r) (hf0 : f.toNat = 254) (h0 : ((((((((0 * 256 + (a1.toNat : Int)) * 256 + (a2.toNat : Int)) * 256 + (a3.toNat : Int)) * 256 + (a4.toNat : Int)) * 256 + (a5.toNat : Int)) * 256 + (a6.toNat : Int)) * 256 + (a7.toNat : Int)) + 0) < 281474976710656) :
 Goal P kp 76 (fun v H => v = .tup [.int .u64 0, .bool false] ∧ H = rd3 (.slc 1 0 (if len - 1 = 7 then off + 1 else off + 1 + 7) (len - 1 - 7) (len - 1 - 7)) false s 72057594037927935 0 254 7 281474976710656) (xl s off len c) := by
 have hf := zg f
 have ha1 := zg a1
 have ha2 := zg a2
 have ha3 := zg a3
 have ha4 := zg a4
 have ha5 := zg a5
 have ha6 := zg a6
 have ha7 := zg a7
 have hlen : 1 ≤ len := by have := congrArg List.length hl; simp at this; omega
 have y0 : yy s off = f.toNat := by have := zn hl 0; simpa using this
 have hlk : 8 ≤ len := by have := congrArg List.length hl; simp at this; omega
 have y1 : yy s (off + 1) = a1.toNat := by have := zn hl 1; simp at this; rw [← this]
 have y2 : yy s (off + 1 + 1) = a2.toNat := by have := zn hl 2; simp at this; rw [← this]
 have y3 : yy s (off + 1 + 2) = a3.toNat := by have := zn hl 3; simp at this; rw [← this]
 have y4 : yy s (off + 1 + 3) = a4.toNat := by have := zn hl 4; simp at this; rw [← this]
 have y5 : yy s (off + 1 + 4) = a5.toNat := by have := zn hl 5; simp at this; rw [← this]
 have y6 : yy s (off + 1 + 5) = a6.toNat := by have := zn hl 6; simp at this; rw [← this]
 have y7 : yy s (off + 1 + 6) = a7.toNat := by have := zn hl 7; simp at this; rw [← this]
 have w1 : IntKind.u64.wrap (len : Int) = len := IntWalk.u64_in _ (by omega)
 have w2 : IntKind.u64.wrap ((len - 1 : Nat) : Int) = (len - 1 : Nat) := IntWalk.u64_in _ (by omega)
 have e1 : (if len = 1 then off else off + 1) = off + 1 := if_neg (by omega)
 have z0 : IntKind.u64.wrap (IntKind.u8.wrap ((f.toNat : Int) - Int.ofNat 254)) = 0 := by
  rw [IntWalk.u8_in _ (by show 0 ≤ (f.toNat : Int) - 254 ∧ (f.toNat : Int) - 254 ≤ 255; omega), IntWalk.u64_in _ (by show 0 ≤ (f.toNat : Int) - 254 ∧ (f.toNat : Int) - 254 ≤ _; omega)]
  show (f.toNat : Int) - 254 = _
  omega
 have A1 := zk 0 a1.toNat (by omega) (by omega) (by omega) (by omega)
 have A2 := zk (0 * 256 + (a1.toNat : Int)) a2.toNat (by omega) (by omega) (by omega) (by omega)
 have A3 := zk ((0 * 256 + (a1.toNat : Int)) * 256 + (a2.toNat : Int)) a3.toNat (by omega) (by omega) (by omega) (by omega)
 have A4 := zk (((0 * 256 + (a1.toNat : Int)) * 256 + (a2.toNat : Int)) * 256 + (a3.toNat : Int)) a4.toNat (by omega) (by omega) (by omega) (by omega)
 have A5 := zk ((((0 * 256 + (a1.toNat : Int)) * 256 + (a2.toNat : Int)) * 256 + (a3.toNat : Int)) * 256 + (a4.toNat : Int)) a5.toNat (by omega) (by omega) (by omega) (by omega)
 have A6 := zk (((((0 * 256 + (a1.toNat : Int)) * 256 + (a2.toNat : Int)) * 256 + (a3.toNat : Int)) * 256 + (a4.toNat : Int)) * 256 + (a5.toNat : Int)) a6.toNat (by omega) (by omega) (by omega) (by omega)
 have A7 := zk ((((((0 * 256 + (a1.toNat : Int)) * 256 + (a2.toNat : Int)) * 256 + (a3.toNat : Int)) * 256 + (a4.toNat : Int)) * 256 + (a5.toNat : Int)) * 256 + (a6.toNat : Int)) a7.toNat (by omega) (by omega) (by omega) (by omega)
 have wV : IntKind.u64.wrap ((((((((0 * 256 + (a1.toNat : Int)) * 256 + (a2.toNat : Int)) * 256 + (a3.toNat : Int)) * 256 + (a4.toNat : Int)) * 256 + (a5.toNat : Int)) * 256 + (a6.toNat : Int)) * 256 + (a7.toNat : Int)) + Int.ofNat 0) = ((((((((0 * 256 + (a1.toNat : Int)) * 256 + (a2.toNat : Int)) * 256 + (a3.toNat : Int)) * 256 + (a4.toNat : Int)) * 256 + (a5.toNat : Int)) * 256 + (a6.toNat : Int)) * 256 + (a7.toNat : Int)) + 0) := IntWalk.u64_in _ (by show 0 ≤ (((((((0 * 256 + (a1.toNat : Int)) * 256 + (a2.toNat : Int)) * 256 + (a3.toNat : Int)) * 256 + (a4.toNat : Int)) * 256 + (a5.toNat : Int)) * 256 + (a6.toNat : Int)) * 256 + (a7.toNat : Int)) + 0 ∧ (((((((0 * 256 + (a1.toNat : Int)) * 256 + (a2.toNat : Int)) * 256 + (a3.toNat : Int)) * 256 + (a4.toNat : Int)) * 256 + (a5.toNat : Int)) * 256 + (a6.toNat : Int)) * 256 + (a7.toNat : Int)) + 0 ≤ _; omega)
 refine Obl.goal (K := fun _ => False) mix (fun _ h => h.elim) (cast (zlg (yy s) off len c s.length _ kp _).symm ?_)
 simp only [Int.toNat_natCast, e1, y0, w1, w2, z0, wV, y1, y2, y3, y4, y5, y6, y7, A1, A2, A3, A4, A5, A6, A7]
 exact ⟨gtf (by show (1 : Int) ≤ _; omega), ⟨by show ((0 : Int) ≤ 1 ∧ (1 : Int) ≤ c); omega, by decide⟩, ⟨by omega, by show ((0 : Int) ≤ 1 ∧ (1 : Int) ≤ _); omega⟩, by omega, zlQ (f.toNat : Int) (by omega) (by omega), gtf (by show (7 : Int) ≤ _; omega), ⟨by show ((0 : Int) ≤ 7 ∧ (7 : Int) ≤ _); omega, by decide⟩, ⟨by omega, by show ((0 : Int) ≤ 7 ∧ (7 : Int) ≤ _); omega⟩, by omega, by omega, by omega, by omega, by omega, by omega, by omega, by omega, leF (by show _ < (281474976710656 : Int); omega), by first | exact ⟨rfl, rfl⟩ | exact ⟨trivial, rfl⟩ | exact ⟨trivial, trivial⟩⟩
theorem zj6 (kp : Nat) (s : List UInt8) (off len c : Nat) (hoff : off + len = s.length) (hc : len ≤ c) (f : UInt8) (r : List UInt8) (hl : s.drop off = f :: r) (hf0 : f.toNat = 254) (hs : len < 8) :
 Goal P kp 76 (fun v H => v = .tup [.int .u64 0, .bool false] ∧ H = rd3 (.slc 1 0 (if len = 1 then off else off + 1) (len - 1) (len - 1)) false s 72057594037927935 0 254 7 281474976710656) (xl s off len c) := by
 have hf := zg f
 have hlen : 1 ≤ len := by have := congrArg List.length hl; simp at this; omega
 have y0 : yy s off = f.toNat := by have := zn hl 0; simpa using this
 have w1 : IntKind.u64.wrap (len : Int) = len := IntWalk.u64_in _ (by omega)
 have w2 : IntKind.u64.wrap ((len - 1 : Nat) : Int) = (len - 1 : Nat) := IntWalk.u64_in _ (by omega)
 refine Obl.goal (K := fun _ => False) mix (fun _ h => h.elim) (cast (zmx (yy s) off len c s.length _ kp _).symm ?_)
 simp only [Int.toNat_natCast, y0, w1, w2]
 exact ⟨gtf (by show (1 : Int) ≤ _; omega), ⟨by show ((0 : Int) ≤ 1 ∧ (1 : Int) ≤ c); omega, by decide⟩, ⟨by omega, by show ((0 : Int) ≤ 1 ∧ (1 : Int) ≤ _); omega⟩, by omega, zlQ (f.toNat : Int) (by omega) (by omega), gtt (by show _ < (7 : Int); omega), by first | exact ⟨rfl, rfl⟩ | exact ⟨trivial, rfl⟩ | exact ⟨trivial, trivial⟩⟩
theorem nbok8 (kp : Nat) (s : List UInt8) (off len c : Nat) (hoff : off + len = s.length) (hc : len ≤ c) (hbig : len ≤ 9223372036854775807) (f a1 a2 a3 a4 a5 a6 a7 a8 : UInt8) (r : List UInt8) (hl : s.drop off = f :: a1 :: a2 :: a3 :: a4 :: a5 :: a6 :: a7 :: a8 :: r) (hf0 : f.toNat = 255) (h0 : 72057594037927936 ≤ (((((((((0 * 256 + (a1.toNat : Int)) * 256 + (a2.toNat : Int)) * 256 + (a3.toNat : Int)) * 256 + (a4.toNat : Int)) * 256 + (a5.toNat : Int)) * 256 + (a6.toNat : Int)) * 256 + (a7.toNat : Int)) * 256 + (a8.toNat : Int)) + 0)) (h1 : (((((((((0 * 256 + (a1.toNat : Int)) * 256 + (a2.toNat : Int)) * 256 + (a3.toNat : Int)) * 256 + (a4.toNat : Int)) * 256 + (a5.toNat : Int)) * 256 + (a6.toNat : Int)) * 256 + (a7.toNat : Int)) * 256 + (a8.toNat : Int)) + 0) ≤ 18446744073709551615) :
 Goal P kp 76 (fun v H => v = .tup [.int .u64 (((((((((0 * 256 + (a1.toNat : Int)) * 256 + (a2.toNat : Int)) * 256 + (a3.toNat : Int)) * 256 + (a4.toNat : Int)) * 256 + (a5.toNat : Int)) * 256 + (a6.toNat : Int)) * 256 + (a7.toNat : Int)) * 256 + (a8.toNat : Int)) + 0), .bool true] ∧ H = rd3 (.slc 1 0 (if len - 1 = 8 then off + 1 else off + 1 + 8) (len - 1 - 8) (len - 1 - 8)) false s 18446744073709551615 0 255 8 72057594037927936) (xl s off len c) := by
 have hf := zg f
 have ha1 := zg a1
 have ha2 := zg a2
 have ha3 := zg a3
 have ha4 := zg a4
 have ha5 := zg a5
 have ha6 := zg a6
 have ha7 := zg a7
 have ha8 := zg a8
 have hlen : 1 ≤ len := by have := congrArg List.length hl; simp at this; omega
 have y0 : yy s off = f.toNat := by have := zn hl 0; simpa using this
 have hlk : 9 ≤ len := by have := congrArg List.length hl; simp at this; omega
 have y1 : yy s (off + 1) = a1.toNat := by have := zn hl 1; simp at this; rw [← this]
 have y2 : yy s (off + 1 + 1) = a2.toNat := by have := zn hl 2; simp at this; rw [← this]
 have y3 : yy s (off + 1 + 2) = a3.toNat := by have := zn hl 3; simp at this; rw [← this]
 have y4 : yy s (off + 1 + 3) = a4.toNat := by have := zn hl 4; simp at this; rw [← this]
 have y5 : yy s (off + 1 + 4) = a5.toNat := by have := zn hl 5; simp at this; rw [← this]
 have y6 : yy s (off + 1 + 5) = a6.toNat := by have := zn hl 6; simp at this; rw [← this]
 have y7 : yy s (off + 1 + 6) = a7.toNat := by have := zn hl 7; simp at this; rw [← this]
 have y8 : yy s (off + 1 + 7) = a8.toNat := by have := zn hl 8; simp at this; rw [← this]
 have w1 : IntKind.u64.wrap (len : Int) = len := IntWalk.u64_in _ (by omega)
 have w2 : IntKind.u64.wrap ((len - 1 : Nat) : Int) = (len - 1 : Nat) := IntWalk.u64_in _ (by omega)
 have e1 : (if len = 1 then off else off + 1) = off + 1 := if_neg (by omega)
 have z0 : IntKind.u64.wrap (IntKind.u8.wrap ((f.toNat : Int) - Int.ofNat 255)) = 0 := by
  rw [IntWalk.u8_in _ (by show 0 ≤ (f.toNat : Int) - 255 ∧ (f.toNat : Int) - 255 ≤ 255; omega), IntWalk.u64_in _ (by show 0 ≤ (f.toNat : Int) - 255 ∧ (f.toNat : Int) - 255 ≤ _; omega)]
  show (f.toNat : Int) - 255 = _
  omega
 have A1 := zk 0 a1.toNat (by omega) (by omega) (by omega) (by omega)
 have A2 := zk (0 * 256 + (a1.toNat : Int)) a2.toNat (by omega) (by omega) (by omega) (by omega)
 have A3 := zk ((0 * 256 + (a1.toNat : Int)) * 256 + (a2.toNat : Int)) a3.toNat (by omega) (by omega) (by omega) (by omega)
 have A4 := zk (((0 * 256 + (a1.toNat : Int)) * 256 + (a2.toNat : Int)) * 256 + (a3.toNat : Int)) a4.toNat (by omega) (by omega) (by omega) (by omega)
 have A5 := zk ((((0 * 256 + (a1.toNat : Int)) * 256 + (a2.toNat : Int)) * 256 + (a3.toNat : Int)) * 256 + (a4.toNat : Int)) a5.toNat (by omega) (by omega) (by omega) (by omega)
 have A6 := zk (((((0 * 256 + (a1.toNat : Int)) * 256 + (a2.toNat : Int)) * 256 + (a3.toNat : Int)) * 256 + (a4.toNat : Int)) * 256 + (a5.toNat : Int)) a6.toNat (by omega) (by omega) (by omega) (by omega)
 have A7 := zk ((((((0 * 256 + (a1.toNat : Int)) * 256 + (a2.toNat : Int)) * 256 + (a3.toNat : Int)) * 256 + (a4.toNat : Int)) * 256 + (a5.toNat : Int)) * 256 + (a6.toNat : Int)) a7.toNat (by omega) (by omega) (by omega) (by omega)
 have A8 := zk (((((((0 * 256 + (a1.toNat : Int)) * 256 + (a2.toNat : Int)) * 256 + (a3.toNat : Int)) * 256 + (a4.toNat : Int)) * 256 + (a5.toNat : Int)) * 256 + (a6.toNat : Int)) * 256 + (a7.toNat : Int)) a8.toNat (by omega) (by omega) (by omega) (by omega)
 have wV : IntKind.u64.wrap (((((((((0 * 256 + (a1.toNat : Int)) * 256 + (a2.toNat : Int)) * 256 + (a3.toNat : Int)) * 256 + (a4.toNat : Int)) * 256 + (a5.toNat : Int)) * 256 + (a6.toNat : Int)) * 256 + (a7.toNat : Int)) * 256 + (a8.toNat : Int)) + Int.ofNat 0) = (((((((((0 * 256 + (a1.toNat : Int)) * 256 + (a2.toNat : Int)) * 256 + (a3.toNat : Int)) * 256 + (a4.toNat : Int)) * 256 + (a5.toNat : Int)) * 256 + (a6.toNat : Int)) * 256 + (a7.toNat : Int)) * 256 + (a8.toNat : Int)) + 0) := IntWalk.u64_in _ (by show 0 ≤ ((((((((0 * 256 + (a1.toNat : Int)) * 256 + (a2.toNat : Int)) * 256 + (a3.toNat : Int)) * 256 + (a4.toNat : Int)) * 256 + (a5.toNat : Int)) * 256 + (a6.toNat : Int)) * 256 + (a7.toNat : Int)) * 256 + (a8.toNat : Int)) + 0 ∧ ((((((((0 * 256 + (a1.toNat : Int)) * 256 + (a2.toNat : Int)) * 256 + (a3.toNat : Int)) * 256 + (a4.toNat : Int)) * 256 + (a5.toNat : Int)) * 256 + (a6.toNat : Int)) * 256 + (a7.toNat : Int)) * 256 + (a8.toNat : Int)) + 0 ≤ _; omega)
 refine Obl.goal (K := fun _ => False) mix (fun _ h => h.elim) (cast (zjl (yy s) off len c s.length _ kp _).symm ?_)
 simp only [Int.toNat_natCast, e1, y0, w1, w2, z0, wV, y1, y2, y3, y4, y5, y6, y7, y8, A1, A2, A3, A4, A5, A6, A7, A8]
 exact ⟨gtf (by show (1 : Int) ≤ _; omega), ⟨by show ((0 : Int) ≤ 1 ∧ (1 : Int) ≤ c); omega, by decide⟩, ⟨by omega, by show ((0 : Int) ≤ 1 ∧ (1 : Int) ≤ _); omega⟩, by omega, zlJ (f.toNat : Int) (by omega), gtf (by show (8 : Int) ≤ _; omega), ⟨by show ((0 : Int) ≤ 8 ∧ (8 : Int) ≤ _); omega, by decide⟩, ⟨by omega, by show ((0 : Int) ≤ 8 ∧ (8 : Int) ≤ _); omega⟩, by omega, by omega, by omega, by omega, by omega, by omega, by omega, by omega, by omega, leT (by show (72057594037927936 : Int) ≤ _; omega), leT (by show _ ≤ (18446744073709551615 : Int); omega), by first | exact ⟨rfl, rfl⟩ | exact ⟨trivial, rfl⟩ | exact ⟨trivial, trivial⟩⟩
theorem nblo8 (kp : Nat) (s : List UInt8) (off len c : Nat) (hoff : off + len = s.length) (hc : len ≤ c) (hbig : len ≤ 9223372036854775807) (f a1 a2 a3 a4 a5 a6 a7 a8 : UInt8) (r : List UInt8) (hl : s.drop off = f :: a1 :: a2 :: a3 :: a4 :: a5 :: a6 :: a7 :: a8 :: r) (hf0 : f.toNat = 255) (h0 : (((((((((0 * 256 + (a1.toNat : Int)) * 256 + (a2.toNat : Int)) * 256 + (a3.toNat : Int)) * 256 + (a4.toNat : Int)) * 256 + (a5.toNat : Int)) * 256 + (a6.toNat : Int)) * 256 + (a7.toNat : Int)) * 256 + (a8.toNat : Int)) + 0) < 72057594037927936) :
 Goal P kp 76 (fun v H => v = .tup [.int .u64 0, .bool false] ∧ H = rd3 (.slc 1 0 (if len - 1 = 8 then off + 1 else off + 1 + 8) (len - 1 - 8) (len - 1 - 8)) false s 18446744073709551615 0 255 8 72057594037927936) (xl s off len c) := by
 have hf := zg f
 have ha1 := zg a1
 have ha2 := zg a2
 have ha3 := zg a3
 have ha4 := zg a4
 have ha5 := zg a5
 have ha6 := zg a6
 have ha7 := zg a7
 have ha8 := zg a8
 have hlen : 1 ≤ len := by have := congrArg List.length hl; simp at this; omega
 have y0 : yy s off = f.toNat := by have := zn hl 0; simpa using this
 have hlk : 9 ≤ len := by have := congrArg List.length hl; simp at this; omega
 have y1 : yy s (off + 1) = a1.toNat := by have := zn hl 1; simp at this; rw [← this]
 have y2 : yy s (off + 1 + 1) = a2.toNat := by have := zn hl 2; simp at this; rw [← this]
 have y3 : yy s (off + 1 + 2) = a3.toNat := by have := zn hl 3; simp at this; rw [← this]
 have y4 : yy s (off + 1 + 3) = a4.toNat := by have := zn hl 4; simp at this; rw [← this]
 have y5 : yy s (off + 1 + 4) = a5.toNat := by have := zn hl 5; simp at this; rw [← this]
 have y6 : yy s (off + 1 + 5) = a6.toNat := by have := zn hl 6; simp at this; rw [← this]
 have y7 : yy s (off + 1 + 6) = a7.toNat := by have := zn hl 7; simp at this; rw [← this]
 have y8 : yy s (off + 1 + 7) = a8.toNat := by have := zn hl 8; simp at this; rw [← this]
 have w1 : IntKind.u64.wrap (len : Int) = len := IntWalk.u64_in _ (by omega)
 have w2 : IntKind.u64.wrap ((len - 1 : Nat) : Int) = (len - 1 : Nat) := IntWalk.u64_in _ (by omega)
 have e1 : (if len = 1 then off else off + 1) = off + 1 := if_neg (by omega)
 have z0 : IntKind.u64.wrap (IntKind.u8.wrap ((f.toNat : Int) - Int.ofNat 255)) = 0 := by
  rw [IntWalk.u8_in _ (by show 0 ≤ (f.toNat : Int) - 255 ∧ (f.toNat : Int) - 255 ≤ 255; omega), IntWalk.u64_in _ (by show 0 ≤ (f.toNat : Int) - 255 ∧ (f.toNat : Int) - 255 ≤ _; omega)]
  show (f.toNat : Int) - 255 = _
  omega
 have A1 := zk 0 a1.toNat (by omega) (by omega) (by omega) (by omega)
 have A2 := zk (0 * 256 + (a1.toNat : Int)) a2.toNat (by omega) (by omega) (by omega) (by omega)
 have A3 := zk ((0 * 256 + (a1.toNat : Int)) * 256 + (a2.toNat : Int)) a3.toNat (by omega) (by omega) (by omega) (by omega)
 have A4 := zk (((0 * 256 + (a1.toNat : Int)) * 256 + (a2.toNat : Int)) * 256 + (a3.toNat : Int)) a4.toNat (by omega) (by omega) (by omega) (by omega)
 have A5 := zk ((((0 * 256 + (a1.toNat : Int)) * 256 + (a2.toNat : Int)) * 256 + (a3.toNat : Int)) * 256 + (a4.toNat : Int)) a5.toNat (by omega) (by omega) (by omega) (by omega)
 have A6 := zk (((((0 * 256 + (a1.toNat : Int)) * 256 + (a2.toNat : Int)) * 256 + (a3.toNat : Int)) * 256 + (a4.toNat : Int)) * 256 + (a5.toNat : Int)) a6.toNat (by omega) (by omega) (by omega) (by omega)
 have A7 := zk ((((((0 * 256 + (a1.toNat : Int)) * 256 + (a2.toNat : Int)) * 256 + (a3.toNat : Int)) * 256 + (a4.toNat : Int)) * 256 + (a5.toNat : Int)) * 256 + (a6.toNat : Int)) a7.toNat (by omega) (by omega) (by omega) (by omega)
 have A8 := zk (((((((0 * 256 + (a1.toNat : Int)) * 256 + (a2.toNat : Int)) * 256 + (a3.toNat : Int)) * 256 + (a4.toNat : Int)) * 256 + (a5.toNat : Int)) * 256 + (a6.toNat : Int)) * 256 + (a7.toNat : Int)) a8.toNat (by omega) (by omega) (by omega) (by omega)
 have wV : IntKind.u64.wrap (((((((((0 * 256 + (a1.toNat : Int)) * 256 + (a2.toNat : Int)) * 256 + (a3.toNat : Int)) * 256 + (a4.toNat : Int)) * 256 + (a5.toNat : Int)) * 256 + (a6.toNat : Int)) * 256 + (a7.toNat : Int)) * 256 + (a8.toNat : Int)) + Int.ofNat 0) = (((((((((0 * 256 + (a1.toNat : Int)) * 256 + (a2.toNat : Int)) * 256 + (a3.toNat : Int)) * 256 + (a4.toNat : Int)) * 256 + (a5.toNat : Int)) * 256 + (a6.toNat : Int)) * 256 + (a7.toNat : Int)) * 256 + (a8.toNat : Int)) + 0) := IntWalk.u64_in _ (by show 0 ≤ ((((((((0 * 256 + (a1.toNat : Int)) * 256 + (a2.toNat : Int)) * 256 + (a3.toNat : Int)) * 256 + (a4.toNat : Int)) * 256 + (a5.toNat : Int)) * 256 + (a6.toNat : Int)) * 256 + (a7.toNat : Int)) * 256 + (a8.toNat : Int)) + 0 ∧ ((((((((0 * 256 + (a1.toNat : Int)) * 256 + (a2.toNat : Int)) * 256 + (a3.toNat : Int)) * 256 + (a4.toNat : Int)) * 256 + (a5.toNat : Int)) * 256 + (a6.toNat : Int)) * 256 + (a7.toNat : Int)) * 256 + (a8.toNat : Int)) + 0 ≤ _; omega)
 refine Obl.goal (K := fun _ => False) mix (fun _ h => h.elim) (cast (zlb (yy s) off len c s.length _ kp _).symm ?_)
 simp only [Int.toNat_natCast, e1, y0, w1, w2, z0, wV, y1, y2, y3, y4, y5, y6, y7, y8, A1, A2, A3, A4, A5, A6, A7, A8]
 exact ⟨gtf (by show (1 : Int) ≤ _; omega), ⟨by show ((0 : Int) ≤ 1 ∧ (1 : Int) ≤ c); omega, by decide⟩, ⟨by omega, by show ((0 : Int) ≤ 1 ∧ (1 : Int) ≤ _); omega⟩, by omega, zlJ (f.toNat : Int) (by omega), gtf (by show (8 : Int) ≤ _; omega), ⟨by show ((0 : Int) ≤ 8 ∧ (8 : Int) ≤ _); omega, by decide⟩, ⟨by omega, by show ((0 : Int) ≤ 8 ∧ (8 : Int) ≤ _); omega⟩, by omega, by omega, by omega, by omega, by omega, by omega, by omega, by omega, by omega, leF (by show _ < (72057594037927936 : Int); omega), by first | exact ⟨rfl, rfl⟩ | exact ⟨trivial, rfl⟩ | exact ⟨trivial, trivial⟩⟩
theorem zjZ (kp : Nat) (s : List UInt8) (off len c : Nat) (hoff : off + len = s.length) (hc : len ≤ c) (f : UInt8) (r : List UInt8) (hl : s.drop off = f :: r) (hf0 : f.toNat = 255) (hs : len < 9) :
 Goal P kp 76 (fun v H => v = .tup [.int .u64 0, .bool false] ∧ H = rd3 (.slc 1 0 (if len = 1 then off else off + 1) (len - 1) (len - 1)) false s 18446744073709551615 0 255 8 72057594037927936) (xl s off len c) := by
 have hf := zg f
 have hlen : 1 ≤ len := by have := congrArg List.length hl; simp at this; omega
 have y0 : yy s off = f.toNat := by have := zn hl 0; simpa using this
 have w1 : IntKind.u64.wrap (len : Int) = len := IntWalk.u64_in _ (by omega)
 have w2 : IntKind.u64.wrap ((len - 1 : Nat) : Int) = (len - 1 : Nat) := IntWalk.u64_in _ (by omega)
 refine Obl.goal (K := fun _ => False) mix (fun _ h => h.elim) (cast (znc (yy s) off len c s.length _ kp _).symm ?_)
 simp only [Int.toNat_natCast, y0, w1, w2]
 exact ⟨gtf (by show (1 : Int) ≤ _; omega), ⟨by show ((0 : Int) ≤ 1 ∧ (1 : Int) ≤ c); omega, by decide⟩, ⟨by omega, by show ((0 : Int) ≤ 1 ∧ (1 : Int) ≤ _); omega⟩, by omega, zlJ (f.toNat : Int) (by omega), gtt (by show _ < (8 : Int); omega), by first | exact ⟨rfl, rfl⟩ | exact ⟨trivial, rfl⟩ | exact ⟨trivial, trivial⟩⟩
end Go.Proofs.YtdbfpjgnlfejmaaDoor.mq
end
section
set_option maxRecDepth 100000
set_option linter.unusedVariables false
namespace Go.Proofs.YtdbfpjgnlfejmaaDoor.mq
open Go Ev
theorem zfP (s : List UInt8) (off len c off2 len2 : Nat) (a1 a2 a3 a4 a5 : Int) (R : AV → AHeap → Prop) (kp : Nat) (_K : AM → Prop) : Obl P 55 (fun v H => R v H) kp _K [.run 9, .callh [(0, 0, [0]), (1, 0, [0, 0])] [0] (.tup [.int .u64 0, .bool false]) (rd3 (.slc 1 0 off2 len2 len2) false s a1 a2 a3 a4 a5), .run 41, .done] ((ze P 55 [.ptr 0 0 0] (rd (.slc 1 0 off len c) false (fun j => some (.int .u8 (yy s j))) s.length))) = ((zb fun j => some (AV.int IntKind.u8 (yy s j))) ∧ (zb fun j => some (AV.int IntKind.u8 (yy s j))) ∧ (Goal P 2 76 (fun x k => x = AV.tup [AV.int IntKind.u64 (0 : Int), AV.bool false] ∧ k = rd3 (AV.slc (1 : Nat) (0 : Nat) off2 len2 len2) false s a1 a2 a3 a4 a5) (xl s off len c)) ∧ (R (.int .u64 0) (⟨(.node (.node .leaf (some (.cells (.fn fun j => some (AV.int IntKind.u8 (yy s j))) s.length 5 0 0 1 0 true .leaf)) .leaf) (some (.cells (.node (.node .leaf (some (.bool true)) .leaf) (some (.nils 0 0)) .leaf) 2 101 0 0 1 0 false .leaf)) (.node .leaf (some (.cells (.node (.node (.node .leaf (some (.int .u64 a1)) .leaf) (some (.int .u64 a2)) .leaf) (some (.int .u8 a3)) (.node (.node .leaf (some (.int .i64 a4)) .leaf) (some (.int .u64 a5)) .leaf)) 5 130 0 0 1 0 false .leaf)) .leaf)), 3, GW⟩))) := by kernel_rfl
theorem zh (s : List UInt8) : zb fun j => some (AV.int IntKind.u8 (yy s j)) := fun _ _ e => by cases e; rfl
def ahead (s : List UInt8) (len : Nat) : List UInt8 := s.drop (s.length - len)
theorem zB {s : List UInt8} {len : Nat} (h : len ≤ s.length) : (ahead s len).length = len := by simp [ahead]; omega
theorem zfV {s : List UInt8} {off len : Nat} (h : off + len = s.length) : ahead s len = s.drop off := by rw [ahead]; congr 1; omega
theorem zj {t : List UInt8} {k : Nat} (h : k + 1 ≤ t.length) : ∃ a r, t = a :: r ∧ k ≤ r.length := by
 match t, h with
 | a :: r, h => exact ⟨a, r, rfl, by simpa using h⟩
theorem kn (f : UInt8) : f.toNat ≤ 240 ∨ (241 ≤ f.toNat ∧ f.toNat < 249) ∨ f.toNat = 249 ∨ f.toNat = 250 ∨ f.toNat = 251 ∨ f.toNat = 252 ∨ f.toNat = 253 ∨ f.toNat = 254 ∨ f.toNat = 255 := by
 have := zg f
 omega
theorem zar (kp : Nat) (s : List UInt8) (off len c : Nat) (hls : len ≤ s.length) (ho : 0 < len → off + len = s.length) (hc' : len ≤ c) (hbig : len ≤ 9223372036854775807) {n : Int} {k : Nat} (hp : xm (ahead s len) = some (n, k)) :
 ∃ (off2 : Nat) (a1 a2 a3 a4 a5 : Int), (off2 ≤ s.length ∧ (0 < len - k → off2 + (len - k) = s.length)) ∧ Goal P kp 76 (fun v H => v = .tup [.int .u64 n, .bool true] ∧ H = rd3 (.slc 1 0 off2 (len - k) (len - k)) false s a1 a2 a3 a4 a5) (xl s off len c) := by
 have hal := zB hls
 cases ha : ahead s len with
 | nil => rw [ha] at hp; cases hp
 | cons f t =>
 rw [ha] at hp hal
 have hlen : t.length + 1 = len := by simpa using hal
 have hoff := ho (by omega)
 have hl : s.drop off = f :: t := by rw [← zfV hoff]; exact ha
 rw [yt] at hp
 split at hp
 rotate_left
 · cases hp
 rename_i hc
 have hn : val f.toNat (t.take (tl f.toNat)) = n := by cases hp; rfl
 have hkk : 1 + tl f.toNat = k := by cases hp; rfl
 clear hp ha hal
 have hf := zg f
 have hsub : ∀ k, len - (1 + k) = len - 1 - k := fun k => by omega
 suffices h : ∃ (off2 : Nat) (a1 a2 a3 a4 a5 : Int), (off2 ≤ s.length ∧ (0 < len - 1 - tl f.toNat → off2 + (len - 1 - tl f.toNat) = s.length)) ∧ Goal P kp 76 (fun v H => v = .tup [.int .u64 n, .bool true] ∧ H = rd3 (.slc 1 0 off2 (len - 1 - tl f.toNat) (len - 1 - tl f.toNat)) false s a1 a2 a3 a4 a5) (xl s off len c) by
  subst hkk; rw [hsub]; exact h
 clear hkk k
 rcases kn f with hs | hs | hs | hs | hs | hs | hs | hs | hs
 ·
  have htl : tl f.toNat = 0 := by simp only [tl, if_pos hs]
  have hk := hc.1
  have hrow := hc.2
  rw [htl] at hk hrow
  have htk : List.take 0 (t) = [] := by simp
  rw [htk] at hrow
  have hv : val f.toNat [] = (((f.toNat : Int) - 0) + 0) := by simp only [val, if_pos hs]; omega
  have e0 : zx f.toNat = 0 := by simp only [zx, if_pos hs]
  have e1 : xN f.toNat = 240 := by simp only [xN, if_pos hs]
  obtain ⟨i0, i1⟩ := (xp f [] (by rw [htl]; rfl)).1 hrow
  rw [hv, e0] at i0
  rw [hv, e1] at i1
  rw [htl, htk, hv] at hn
  subst hn
  rw [htl]
  refine ⟨_, _, _, _, _, _, ⟨?_, fun hpos => ?_⟩, nbok0 kp s off len c hoff hc' hbig f t hl hs i0 i1⟩
  all_goals (repeat' split)
  all_goals omega
 ·
  have hs1 : ¬ f.toNat ≤ 240 := by omega
  have hs2 := hs.2
  have htl : tl f.toNat = 1 := by simp only [tl, if_neg hs1, if_pos hs2]
  have hk := hc.1
  have hrow := hc.2
  rw [htl] at hk hrow
  obtain ⟨a1, t1, rfl, hr1⟩ := zj (k := 0) (by omega : 1 ≤ _)
  have htk : List.take 1 (a1 :: t1) = [a1] := by simp
  rw [htk] at hrow
  have hv : val f.toNat [a1] = ((((f.toNat : Int) - 241) * 256 + (a1.toNat : Int)) + 240) := by simp only [val, if_neg hs1, if_pos hs2, be, List.foldl]; omega
  have e0 : zx f.toNat = 241 := by simp only [zx, if_neg hs1, if_pos hs2]
  have e1 : xN f.toNat = 2287 := by simp only [xN, if_neg hs1, if_pos hs2]
  obtain ⟨i0, i1⟩ := (xp f [a1] (by rw [htl]; rfl)).1 hrow
  rw [hv, e0] at i0
  rw [hv, e1] at i1
  rw [htl, htk, hv] at hn
  subst hn
  rw [htl]
  refine ⟨_, _, _, _, _, _, ⟨?_, fun hpos => ?_⟩, nbok1 kp s off len c hoff hc' hbig f a1 t1 hl hs i0 i1⟩
  all_goals (split <;> omega)
 ·
  have htl : tl f.toNat = 2 := by simp [tl, hs]
  have hk := hc.1
  have hrow := hc.2
  rw [htl] at hk hrow
  obtain ⟨a1, t1, rfl, hr1⟩ := zj (k := 1) (by omega : 2 ≤ _)
  obtain ⟨a2, t2, rfl, hr2⟩ := zj (k := 0) hr1
  have htk : List.take 2 (a1 :: a2 :: t2) = [a1, a2] := by simp
  rw [htk] at hrow
  have hv : val f.toNat [a1, a2] = (((0 * 256 + (a1.toNat : Int)) * 256 + (a2.toNat : Int)) + 2288) := by simp [val, hs, be, List.foldl]
  have e0 : zx f.toNat = 2288 := by simp [zx, hs]
  have e1 : xN f.toNat = 67823 := by simp [xN, hs]
  obtain ⟨i0, i1⟩ := (xp f [a1, a2] (by rw [htl]; rfl)).1 hrow
  rw [hv, e0] at i0
  rw [hv, e1] at i1
  rw [htl, htk, hv] at hn
  subst hn
  rw [htl]
  refine ⟨_, _, _, _, _, _, ⟨?_, fun hpos => ?_⟩, nbok2 kp s off len c hoff hc' hbig f a1 a2 t2 hl hs i0 i1⟩
  all_goals (split <;> omega)
 ·
  have htl : tl f.toNat = 3 := by simp [tl, hs]
  have hk := hc.1
  have hrow := hc.2
  rw [htl] at hk hrow
  obtain ⟨a1, t1, rfl, hr1⟩ := zj (k := 2) (by omega : 3 ≤ _)
  obtain ⟨a2, t2, rfl, hr2⟩ := zj (k := 1) hr1
  obtain ⟨a3, t3, rfl, hr3⟩ := zj (k := 0) hr2
  have htk : List.take 3 (a1 :: a2 :: a3 :: t3) = [a1, a2, a3] := by simp
  rw [htk] at hrow
  have hv : val f.toNat [a1, a2, a3] = ((((0 * 256 + (a1.toNat : Int)) * 256 + (a2.toNat : Int)) * 256 + (a3.toNat : Int)) + 0) := by simp [val, hs, be, List.foldl]
  have e0 : zx f.toNat = 67824 := by simp [zx, hs]
  have e1 : xN f.toNat = 16777215 := by simp [xN, hs]
  obtain ⟨i0, i1⟩ := (xp f [a1, a2, a3] (by rw [htl]; rfl)).1 hrow
  rw [hv, e0] at i0
  rw [hv, e1] at i1
  rw [htl, htk, hv] at hn
  subst hn
  rw [htl]
  refine ⟨_, _, _, _, _, _, ⟨?_, fun hpos => ?_⟩, nbok3 kp s off len c hoff hc' hbig f a1 a2 a3 t3 hl hs i0 i1⟩
  all_goals (split <;> omega)
 ·
  have htl : tl f.toNat = 4 := by simp [tl, hs]
  have hk := hc.1
  have hrow := hc.2
  rw [htl] at hk hrow
  obtain ⟨a1, t1, rfl, hr1⟩ := zj (k := 3) (by omega : 4 ≤ _)
  obtain ⟨a2, t2, rfl, hr2⟩ := zj (k := 2) hr1
  obtain ⟨a3, t3, rfl, hr3⟩ := zj (k := 1) hr2
  obtain ⟨a4, t4, rfl, hr4⟩ := zj (k := 0) hr3
  have htk : List.take 4 (a1 :: a2 :: a3 :: a4 :: t4) = [a1, a2, a3, a4] := by simp
  rw [htk] at hrow
  have hv : val f.toNat [a1, a2, a3, a4] = (((((0 * 256 + (a1.toNat : Int)) * 256 + (a2.toNat : Int)) * 256 + (a3.toNat : Int)) * 256 + (a4.toNat : Int)) + 0) := by simp [val, hs, be, List.foldl]
  have e0 : zx f.toNat = 16777216 := by simp [zx, hs]
  have e1 : xN f.toNat = 4294967295 := by simp [xN, hs]
  obtain ⟨i0, i1⟩ := (xp f [a1, a2, a3, a4] (by rw [htl]; rfl)).1 hrow
  rw [hv, e0] at i0
  rw [hv, e1] at i1
  rw [htl, htk, hv] at hn
  subst hn
  rw [htl]
  refine ⟨_, _, _, _, _, _, ⟨?_, fun hpos => ?_⟩, nbok4 kp s off len c hoff hc' hbig f a1 a2 a3 a4 t4 hl hs i0 i1⟩
  all_goals (split <;> omega)
 ·
  have htl : tl f.toNat = 5 := by simp [tl, hs]
  have hk := hc.1
  have hrow := hc.2
  rw [htl] at hk hrow
  obtain ⟨a1, t1, rfl, hr1⟩ := zj (k := 4) (by omega : 5 ≤ _)
  obtain ⟨a2, t2, rfl, hr2⟩ := zj (k := 3) hr1
  obtain ⟨a3, t3, rfl, hr3⟩ := zj (k := 2) hr2
  obtain ⟨a4, t4, rfl, hr4⟩ := zj (k := 1) hr3
  obtain ⟨a5, t5, rfl, hr5⟩ := zj (k := 0) hr4
  have htk : List.take 5 (a1 :: a2 :: a3 :: a4 :: a5 :: t5) = [a1, a2, a3, a4, a5] := by simp
  rw [htk] at hrow
  have hv : val f.toNat [a1, a2, a3, a4, a5] = ((((((0 * 256 + (a1.toNat : Int)) * 256 + (a2.toNat : Int)) * 256 + (a3.toNat : Int)) * 256 + (a4.toNat : Int)) * 256 + (a5.toNat : Int)) + 0) := by simp [val, hs, be, List.foldl]
  have e0 : zx f.toNat = 4294967296 := by simp [zx, hs]
  have e1 : xN f.toNat = 1099511627775 := by simp [xN, hs]
  obtain ⟨i0, i1⟩ := (xp f [a1, a2, a3, a4, a5] (by rw [htl]; rfl)).1 hrow
  rw [hv, e0] at i0
  rw [hv, e1] at i1
  rw [htl, htk, hv] at hn
  subst hn
  rw [htl]
  refine ⟨_, _, _, _, _, _, ⟨?_, fun hpos => ?_⟩, nbok5 kp s off len c hoff hc' hbig f a1 a2 a3 a4 a5 t5 hl hs i0 i1⟩
  all_goals (split <;> omega)
 ·
  have htl : tl f.toNat = 6 := by simp [tl, hs]
  have hk := hc.1
  have hrow := hc.2
  rw [htl] at hk hrow
  obtain ⟨a1, t1, rfl, hr1⟩ := zj (k := 5) (by omega : 6 ≤ _)
  obtain ⟨a2, t2, rfl, hr2⟩ := zj (k := 4) hr1
  obtain ⟨a3, t3, rfl, hr3⟩ := zj (k := 3) hr2
  obtain ⟨a4, t4, rfl, hr4⟩ := zj (k := 2) hr3
  obtain ⟨a5, t5, rfl, hr5⟩ := zj (k := 1) hr4
  obtain ⟨a6, t6, rfl, hr6⟩ := zj (k := 0) hr5
  have htk : List.take 6 (a1 :: a2 :: a3 :: a4 :: a5 :: a6 :: t6) = [a1, a2, a3, a4, a5, a6] := by simp
  rw [htk] at hrow
  have hv : val f.toNat [a1, a2, a3, a4, a5, a6] = (((((((0 * 256 + (a1.toNat : Int)) * 256 + (a2.toNat : Int)) * 256 + (a3.toNat : Int)) * 256 + (a4.toNat : Int)) * 256 + (a5.toNat : Int)) * 256 + (a6.toNat : Int)) + 0) := by simp [val, hs, be, List.foldl]
  have e0 : zx f.toNat = 1099511627776 := by simp [zx, hs]
  have e1 : xN f.toNat = 281474976710655 := by simp [xN, hs]
  obtain ⟨i0, i1⟩ := (xp f [a1, a2, a3, a4, a5, a6] (by rw [htl]; rfl)).1 hrow
  rw [hv, e0] at i0
  rw [hv, e1] at i1
  rw [htl, htk, hv] at hn
  subst hn
  rw [htl]
  refine ⟨_, _, _, _, _, _, ⟨?_, fun hpos => ?_⟩, nbok6 kp s off len c hoff hc' hbig f a1 a2 a3 a4 a5 a6 t6 hl hs i0 i1⟩
  all_goals (split <;> omega)
 ·
  have htl : tl f.toNat = 7 := by simp [tl, hs]
  have hk := hc.1
  have hrow := hc.2
  rw [htl] at hk hrow
  obtain ⟨a1, t1, rfl, hr1⟩ := zj (k := 6) (by omega : 7 ≤ _)
  obtain ⟨a2, t2, rfl, hr2⟩ := zj (k := 5) hr1
  obtain ⟨a3, t3, rfl, hr3⟩ := zj (k := 4) hr2
  obtain ⟨a4, t4, rfl, hr4⟩ := zj (k := 3) hr3
  obtain ⟨a5, t5, rfl, hr5⟩ := zj (k := 2) hr4
  obtain ⟨a6, t6, rfl, hr6⟩ := zj (k := 1) hr5
  obtain ⟨a7, t7, rfl, hr7⟩ := zj (k := 0) hr6
  have htk : List.take 7 (a1 :: a2 :: a3 :: a4 :: a5 :: a6 :: a7 :: t7) = [a1, a2, a3, a4, a5, a6, a7] := by simp
  rw [htk] at hrow
  have hv : val f.toNat [a1, a2, a3, a4, a5, a6, a7] = ((((((((0 * 256 + (a1.toNat : Int)) * 256 + (a2.toNat : Int)) * 256 + (a3.toNat : Int)) * 256 + (a4.toNat : Int)) * 256 + (a5.toNat : Int)) * 256 + (a6.toNat : Int)) * 256 + (a7.toNat : Int)) + 0) := by simp [val, hs, be, List.foldl]
  have e0 : zx f.toNat = 281474976710656 := by simp [zx, hs]
  have e1 : xN f.toNat = 72057594037927935 := by simp [xN, hs]
  obtain ⟨i0, i1⟩ := (xp f [a1, a2, a3, a4, a5, a6, a7] (by rw [htl]; rfl)).1 hrow
  rw [hv, e0] at i0
  rw [hv, e1] at i1
  rw [htl, htk, hv] at hn
  subst hn
  rw [htl]
  refine ⟨_, _, _, _, _, _, ⟨?_, fun hpos => ?_⟩, nbok7 kp s off len c hoff hc' hbig f a1 a2 a3 a4 a5 a6 a7 t7 hl hs i0 i1⟩
  all_goals (split <;> omega)
 ·
  have htl : tl f.toNat = 8 := by simp [tl, hs]
  have hk := hc.1
  have hrow := hc.2
  rw [htl] at hk hrow
  obtain ⟨a1, t1, rfl, hr1⟩ := zj (k := 7) (by omega : 8 ≤ _)
  obtain ⟨a2, t2, rfl, hr2⟩ := zj (k := 6) hr1
  obtain ⟨a3, t3, rfl, hr3⟩ := zj (k := 5) hr2
  obtain ⟨a4, t4, rfl, hr4⟩ := zj (k := 4) hr3
  obtain ⟨a5, t5, rfl, hr5⟩ := zj (k := 3) hr4
  obtain ⟨a6, t6, rfl, hr6⟩ := zj (k := 2) hr5
  obtain ⟨a7, t7, rfl, hr7⟩ := zj (k := 1) hr6
  obtain ⟨a8, t8, rfl, hr8⟩ := zj (k := 0) hr7
  have htk : List.take 8 (a1 :: a2 :: a3 :: a4 :: a5 :: a6 :: a7 :: a8 :: t8) = [a1, a2, a3, a4, a5, a6, a7, a8] := by simp
  rw [htk] at hrow
  have hv : val f.toNat [a1, a2, a3, a4, a5, a6, a7, a8] = (((((((((0 * 256 + (a1.toNat : Int)) * 256 + (a2.toNat : Int)) * 256 + (a3.toNat : Int)) * 256 + (a4.toNat : Int)) * 256 + (a5.toNat : Int)) * 256 + (a6.toNat : Int)) * 256 + (a7.toNat : Int)) * 256 + (a8.toNat : Int)) + 0) := by simp [val, hs, be, List.foldl]
  have e0 : zx f.toNat = 72057594037927936 := by simp [zx, hs]
  have e1 : xN f.toNat = 18446744073709551615 := by simp [xN, hs]
  obtain ⟨i0, i1⟩ := (xp f [a1, a2, a3, a4, a5, a6, a7, a8] (by rw [htl]; rfl)).1 hrow
  rw [hv, e0] at i0
  rw [hv, e1] at i1
  rw [htl, htk, hv] at hn
  subst hn
  rw [htl]
  refine ⟨_, _, _, _, _, _, ⟨?_, fun hpos => ?_⟩, nbok8 kp s off len c hoff hc' hbig f a1 a2 a3 a4 a5 a6 a7 a8 t8 hl hs i0 i1⟩
  all_goals (split <;> omega)
theorem za6 (kp : Nat) (s : List UInt8) (off len c : Nat) (hls : len ≤ s.length) (ho : 0 < len → off + len = s.length) (hc' : len ≤ c) (hbig : len ≤ 9223372036854775807) (hp : xm (ahead s len) = none) :
 Goal P kp 76 (fun v H => v = .tup [.int .u64 0, .bool false] ∧ H = rd (.slc 1 0 off len c) false (fun j => some (.int .u8 (yy s j))) s.length) (xl s off len c) ∨
 ∃ (off2 len2 : Nat) (a1 a2 a3 a4 a5 : Int), Goal P kp 76 (fun v H => v = .tup [.int .u64 0, .bool false] ∧ H = rd3 (.slc 1 0 off2 len2 len2) false s a1 a2 a3 a4 a5) (xl s off len c) := by
 have hal := zB hls
 cases ha : ahead s len with
 | nil =>
  rw [ha] at hal
  obtain rfl : len = 0 := by simpa using hal.symm
  exact .inl (zl1 kp s off c)
 | cons f t =>
 rw [ha] at hp hal
 have hlen : t.length + 1 = len := by simpa using hal
 have hoff := ho (by omega)
 have hl : s.drop off = f :: t := by rw [← zfV hoff]; exact ha
 rw [yt] at hp
 split at hp
 · cases hp
 rename_i hc
 clear hp ha hal
 have hf := zg f
 rcases kn f with hs | hs | hs | hs | hs | hs | hs | hs | hs
 ·
  have htl : tl f.toNat = 0 := by simp only [tl, if_pos hs]
  rw [htl] at hc
  have hrow : ¬ row (val f.toNat (t.take 0)) = f :: t.take 0 := fun h => hc ⟨Nat.zero_le _, h⟩
  exfalso
  have hv : val f.toNat [] = (((f.toNat : Int) - 0) + 0) := by simp only [val, if_pos hs]; omega
  have e0 : zx f.toNat = 0 := by simp only [zx, if_pos hs]
  have e1 : xN f.toNat = 240 := by simp only [xN, if_pos hs]
  exact hrow ((xp f [] (by rw [htl]; rfl)).2 ⟨by rw [hv, e0]; omega, by rw [hv, e1]; omega⟩)
 ·
  have hs1 : ¬ f.toNat ≤ 240 := by omega
  have hs2 := hs.2
  have htl : tl f.toNat = 1 := by simp only [tl, if_neg hs1, if_pos hs2]
  rw [htl] at hc
  by_cases hk : 1 ≤ t.length
  rotate_left
  · exact .inr ⟨_, _, _, _, _, _, _, zkh kp s off len c hoff hc' f t hl hs (by have := congrArg List.length hl; simp at this; omega)⟩
  obtain ⟨a1, t1, rfl, hr1⟩ := zj (k := 0) (by omega : 1 ≤ _)
  have htk : List.take 1 (a1 :: t1) = [a1] := by simp
  have := zg a1
  have hrow : ¬ row (val f.toNat [a1]) = f :: [a1] := fun h => hc ⟨hk, by rw [htk]; exact h⟩
  have hv : val f.toNat [a1] = ((((f.toNat : Int) - 241) * 256 + (a1.toNat : Int)) + 240) := by simp only [val, if_neg hs1, if_pos hs2, be, List.foldl]; omega
  have e0 : zx f.toNat = 241 := by simp only [zx, if_neg hs1, if_pos hs2]
  have e1 : xN f.toNat = 2287 := by simp only [xN, if_neg hs1, if_pos hs2]
  have hlo : ((((f.toNat : Int) - 241) * 256 + (a1.toNat : Int)) + 240) < 241 := by
   rcases Int.lt_or_le ((((f.toNat : Int) - 241) * 256 + (a1.toNat : Int)) + 240) 241 with h | h
   · exact h
   · exact absurd ((xp f [a1] (by rw [htl]; rfl)).2 ⟨by rw [hv, e0]; exact h, by rw [hv, e1]; omega⟩) hrow
  exact .inr ⟨_, _, _, _, _, _, _, nblo1 kp s off len c hoff hc' hbig f a1 t1 hl hs hlo⟩
 ·
  have htl : tl f.toNat = 2 := by simp [tl, hs]
  rw [htl] at hc
  by_cases hk : 2 ≤ t.length
  rotate_left
  · exact .inr ⟨_, _, _, _, _, _, _, zjm kp s off len c hoff hc' f t hl hs (by have := congrArg List.length hl; simp at this; omega)⟩
  obtain ⟨a1, t1, rfl, hr1⟩ := zj (k := 1) (by omega : 2 ≤ _)
  obtain ⟨a2, t2, rfl, hr2⟩ := zj (k := 0) hr1
  have htk : List.take 2 (a1 :: a2 :: t2) = [a1, a2] := by simp
  have := zg a1
  have := zg a2
  have hrow : ¬ row (val f.toNat [a1, a2]) = f :: [a1, a2] := fun h => hc ⟨hk, by rw [htk]; exact h⟩
  have hv : val f.toNat [a1, a2] = (((0 * 256 + (a1.toNat : Int)) * 256 + (a2.toNat : Int)) + 2288) := by simp [val, hs, be, List.foldl]
  have e0 : zx f.toNat = 2288 := by simp [zx, hs]
  have e1 : xN f.toNat = 67823 := by simp [xN, hs]
  have hlo : (((0 * 256 + (a1.toNat : Int)) * 256 + (a2.toNat : Int)) + 2288) < 2288 := by
   rcases Int.lt_or_le (((0 * 256 + (a1.toNat : Int)) * 256 + (a2.toNat : Int)) + 2288) 2288 with h | h
   · exact h
   · exact absurd ((xp f [a1, a2] (by rw [htl]; rfl)).2 ⟨by rw [hv, e0]; exact h, by rw [hv, e1]; omega⟩) hrow
  exact .inr ⟨_, _, _, _, _, _, _, nblo2 kp s off len c hoff hc' hbig f a1 a2 t2 hl hs hlo⟩
 ·
  have htl : tl f.toNat = 3 := by simp [tl, hs]
  rw [htl] at hc
  by_cases hk : 3 ≤ t.length
  rotate_left
  · exact .inr ⟨_, _, _, _, _, _, _, zjH kp s off len c hoff hc' f t hl hs (by have := congrArg List.length hl; simp at this; omega)⟩
  obtain ⟨a1, t1, rfl, hr1⟩ := zj (k := 2) (by omega : 3 ≤ _)
  obtain ⟨a2, t2, rfl, hr2⟩ := zj (k := 1) hr1
  obtain ⟨a3, t3, rfl, hr3⟩ := zj (k := 0) hr2
  have htk : List.take 3 (a1 :: a2 :: a3 :: t3) = [a1, a2, a3] := by simp
  have := zg a1
  have := zg a2
  have := zg a3
  have hrow : ¬ row (val f.toNat [a1, a2, a3]) = f :: [a1, a2, a3] := fun h => hc ⟨hk, by rw [htk]; exact h⟩
  have hv : val f.toNat [a1, a2, a3] = ((((0 * 256 + (a1.toNat : Int)) * 256 + (a2.toNat : Int)) * 256 + (a3.toNat : Int)) + 0) := by simp [val, hs, be, List.foldl]
  have e0 : zx f.toNat = 67824 := by simp [zx, hs]
  have e1 : xN f.toNat = 16777215 := by simp [xN, hs]
  have hlo : ((((0 * 256 + (a1.toNat : Int)) * 256 + (a2.toNat : Int)) * 256 + (a3.toNat : Int)) + 0) < 67824 := by
   rcases Int.lt_or_le ((((0 * 256 + (a1.toNat : Int)) * 256 + (a2.toNat : Int)) * 256 + (a3.toNat : Int)) + 0) 67824 with h | h
   · exact h
   · exact absurd ((xp f [a1, a2, a3] (by rw [htl]; rfl)).2 ⟨by rw [hv, e0]; exact h, by rw [hv, e1]; omega⟩) hrow
  exact .inr ⟨_, _, _, _, _, _, _, nblo3 kp s off len c hoff hc' hbig f a1 a2 a3 t3 hl hs hlo⟩
 ·
  have htl : tl f.toNat = 4 := by simp [tl, hs]
  rw [htl] at hc
  by_cases hk : 4 ≤ t.length
  rotate_left
  · exact .inr ⟨_, _, _, _, _, _, _, zjx kp s off len c hoff hc' f t hl hs (by have := congrArg List.length hl; simp at this; omega)⟩
  obtain ⟨a1, t1, rfl, hr1⟩ := zj (k := 3) (by omega : 4 ≤ _)
  obtain ⟨a2, t2, rfl, hr2⟩ := zj (k := 2) hr1
  obtain ⟨a3, t3, rfl, hr3⟩ := zj (k := 1) hr2
  obtain ⟨a4, t4, rfl, hr4⟩ := zj (k := 0) hr3
  have htk : List.take 4 (a1 :: a2 :: a3 :: a4 :: t4) = [a1, a2, a3, a4] := by simp
  have := zg a1
  have := zg a2
  have := zg a3
  have := zg a4
  have hrow : ¬ row (val f.toNat [a1, a2, a3, a4]) = f :: [a1, a2, a3, a4] := fun h => hc ⟨hk, by rw [htk]; exact h⟩
  have hv : val f.toNat [a1, a2, a3, a4] = (((((0 * 256 + (a1.toNat : Int)) * 256 + (a2.toNat : Int)) * 256 + (a3.toNat : Int)) * 256 + (a4.toNat : Int)) + 0) := by simp [val, hs, be, List.foldl]
  have e0 : zx f.toNat = 16777216 := by simp [zx, hs]
  have e1 : xN f.toNat = 4294967295 := by simp [xN, hs]
  have hlo : (((((0 * 256 + (a1.toNat : Int)) * 256 + (a2.toNat : Int)) * 256 + (a3.toNat : Int)) * 256 + (a4.toNat : Int)) + 0) < 16777216 := by
   rcases Int.lt_or_le (((((0 * 256 + (a1.toNat : Int)) * 256 + (a2.toNat : Int)) * 256 + (a3.toNat : Int)) * 256 + (a4.toNat : Int)) + 0) 16777216 with h | h
   · exact h
   · exact absurd ((xp f [a1, a2, a3, a4] (by rw [htl]; rfl)).2 ⟨by rw [hv, e0]; exact h, by rw [hv, e1]; omega⟩) hrow
  exact .inr ⟨_, _, _, _, _, _, _, nblo4 kp s off len c hoff hc' hbig f a1 a2 a3 a4 t4 hl hs hlo⟩
 ·
  have htl : tl f.toNat = 5 := by simp [tl, hs]
  rw [htl] at hc
  by_cases hk : 5 ≤ t.length
  rotate_left
  · exact .inr ⟨_, _, _, _, _, _, _, zjS kp s off len c hoff hc' f t hl hs (by have := congrArg List.length hl; simp at this; omega)⟩
  obtain ⟨a1, t1, rfl, hr1⟩ := zj (k := 4) (by omega : 5 ≤ _)
  obtain ⟨a2, t2, rfl, hr2⟩ := zj (k := 3) hr1
  obtain ⟨a3, t3, rfl, hr3⟩ := zj (k := 2) hr2
  obtain ⟨a4, t4, rfl, hr4⟩ := zj (k := 1) hr3
  obtain ⟨a5, t5, rfl, hr5⟩ := zj (k := 0) hr4
  have htk : List.take 5 (a1 :: a2 :: a3 :: a4 :: a5 :: t5) = [a1, a2, a3, a4, a5] := by simp
  have := zg a1
  have := zg a2
  have := zg a3
  have := zg a4
  have := zg a5
  have hrow : ¬ row (val f.toNat [a1, a2, a3, a4, a5]) = f :: [a1, a2, a3, a4, a5] := fun h => hc ⟨hk, by rw [htk]; exact h⟩
  have hv : val f.toNat [a1, a2, a3, a4, a5] = ((((((0 * 256 + (a1.toNat : Int)) * 256 + (a2.toNat : Int)) * 256 + (a3.toNat : Int)) * 256 + (a4.toNat : Int)) * 256 + (a5.toNat : Int)) + 0) := by simp [val, hs, be, List.foldl]
  have e0 : zx f.toNat = 4294967296 := by simp [zx, hs]
  have e1 : xN f.toNat = 1099511627775 := by simp [xN, hs]
  have hlo : ((((((0 * 256 + (a1.toNat : Int)) * 256 + (a2.toNat : Int)) * 256 + (a3.toNat : Int)) * 256 + (a4.toNat : Int)) * 256 + (a5.toNat : Int)) + 0) < 4294967296 := by
   rcases Int.lt_or_le ((((((0 * 256 + (a1.toNat : Int)) * 256 + (a2.toNat : Int)) * 256 + (a3.toNat : Int)) * 256 + (a4.toNat : Int)) * 256 + (a5.toNat : Int)) + 0) 4294967296 with h | h
   · exact h
   · exact absurd ((xp f [a1, a2, a3, a4, a5] (by rw [htl]; rfl)).2 ⟨by rw [hv, e0]; exact h, by rw [hv, e1]; omega⟩) hrow
  exact .inr ⟨_, _, _, _, _, _, _, nblo5 kp s off len c hoff hc' hbig f a1 a2 a3 a4 a5 t5 hl hs hlo⟩
 ·
  have htl : tl f.toNat = 6 := by simp [tl, hs]
  rw [htl] at hc
  by_cases hk : 6 ≤ t.length
  rotate_left
  · exact .inr ⟨_, _, _, _, _, _, _, zjC kp s off len c hoff hc' f t hl hs (by have := congrArg List.length hl; simp at this; omega)⟩
  obtain ⟨a1, t1, rfl, hr1⟩ := zj (k := 5) (by omega : 6 ≤ _)
  obtain ⟨a2, t2, rfl, hr2⟩ := zj (k := 4) hr1
  obtain ⟨a3, t3, rfl, hr3⟩ := zj (k := 3) hr2
  obtain ⟨a4, t4, rfl, hr4⟩ := zj (k := 2) hr3
  obtain ⟨a5, t5, rfl, hr5⟩ := zj (k := 1) hr4
  obtain ⟨a6, t6, rfl, hr6⟩ := zj (k := 0) hr5
  have htk : List.take 6 (a1 :: a2 :: a3 :: a4 :: a5 :: a6 :: t6) = [a1, a2, a3, a4, a5, a6] := by simp
  have := zg a1
  have := zg a2
  have := zg a3
  have := zg a4
  have := zg a5
  have := zg a6
  have hrow : ¬ row (val f.toNat [a1, a2, a3, a4, a5, a6]) = f :: [a1, a2, a3, a4, a5, a6] := fun h => hc ⟨hk, by rw [htk]; exact h⟩
  have hv : val f.toNat [a1, a2, a3, a4, a5, a6] = (((((((0 * 256 + (a1.toNat : Int)) * 256 + (a2.toNat : Int)) * 256 + (a3.toNat : Int)) * 256 + (a4.toNat : Int)) * 256 + (a5.toNat : Int)) * 256 + (a6.toNat : Int)) + 0) := by simp [val, hs, be, List.foldl]
  have e0 : zx f.toNat = 1099511627776 := by simp [zx, hs]
  have e1 : xN f.toNat = 281474976710655 := by simp [xN, hs]
  have hlo : (((((((0 * 256 + (a1.toNat : Int)) * 256 + (a2.toNat : Int)) * 256 + (a3.toNat : Int)) * 256 + (a4.toNat : Int)) * 256 + (a5.toNat : Int)) * 256 + (a6.toNat : Int)) + 0) < 1099511627776 := by
   rcases Int.lt_or_le (((((((0 * 256 + (a1.toNat : Int)) * 256 + (a2.toNat : Int)) * 256 + (a3.toNat : Int)) * 256 + (a4.toNat : Int)) * 256 + (a5.toNat : Int)) * 256 + (a6.toNat : Int)) + 0) 1099511627776 with h | h
   · exact h
   · exact absurd ((xp f [a1, a2, a3, a4, a5, a6] (by rw [htl]; rfl)).2 ⟨by rw [hv, e0]; exact h, by rw [hv, e1]; omega⟩) hrow
  exact .inr ⟨_, _, _, _, _, _, _, nblo6 kp s off len c hoff hc' hbig f a1 a2 a3 a4 a5 a6 t6 hl hs hlo⟩
 ·
  have htl : tl f.toNat = 7 := by simp [tl, hs]
  rw [htl] at hc
  by_cases hk : 7 ≤ t.length
  rotate_left
  · exact .inr ⟨_, _, _, _, _, _, _, zj6 kp s off len c hoff hc' f t hl hs (by have := congrArg List.length hl; simp at this; omega)⟩
  obtain ⟨a1, t1, rfl, hr1⟩ := zj (k := 6) (by omega : 7 ≤ _)
  obtain ⟨a2, t2, rfl, hr2⟩ := zj (k := 5) hr1
  obtain ⟨a3, t3, rfl, hr3⟩ := zj (k := 4) hr2
  obtain ⟨a4, t4, rfl, hr4⟩ := zj (k := 3) hr3
  obtain ⟨a5, t5, rfl, hr5⟩ := zj (k := 2) hr4
  obtain ⟨a6, t6, rfl, hr6⟩ := zj (k := 1) hr5
  obtain ⟨a7, t7, rfl, hr7⟩ := zj (k := 0) hr6
  have htk : List.take 7 (a1 :: a2 :: a3 :: a4 :: a5 :: a6 :: a7 :: t7) = [a1, a2, a3, a4, a5, a6, a7] := by simp
  have := zg a1
  have := zg a2
  have := zg a3
  have := zg a4
  have := zg a5
  have := zg a6
  have := zg a7
  have hrow : ¬ row (val f.toNat [a1, a2, a3, a4, a5, a6, a7]) = f :: [a1, a2, a3, a4, a5, a6, a7] := fun h => hc ⟨hk, by rw [htk]; exact h⟩
  have hv : val f.toNat [a1, a2, a3, a4, a5, a6, a7] = ((((((((0 * 256 + (a1.toNat : Int)) * 256 + (a2.toNat : Int)) * 256 + (a3.toNat : Int)) * 256 + (a4.toNat : Int)) * 256 + (a5.toNat : Int)) * 256 + (a6.toNat : Int)) * 256 + (a7.toNat : Int)) + 0) := by simp [val, hs, be, List.foldl]
  have e0 : zx f.toNat = 281474976710656 := by simp [zx, hs]
  have e1 : xN f.toNat = 72057594037927935 := by simp [xN, hs]
  have hlo : ((((((((0 * 256 + (a1.toNat : Int)) * 256 + (a2.toNat : Int)) * 256 + (a3.toNat : Int)) * 256 + (a4.toNat : Int)) * 256 + (a5.toNat : Int)) * 256 + (a6.toNat : Int)) * 256 + (a7.toNat : Int)) + 0) < 281474976710656 := by
   rcases Int.lt_or_le ((((((((0 * 256 + (a1.toNat : Int)) * 256 + (a2.toNat : Int)) * 256 + (a3.toNat : Int)) * 256 + (a4.toNat : Int)) * 256 + (a5.toNat : Int)) * 256 + (a6.toNat : Int)) * 256 + (a7.toNat : Int)) + 0) 281474976710656 with h | h
   · exact h
   · exact absurd ((xp f [a1, a2, a3, a4, a5, a6, a7] (by rw [htl]; rfl)).2 ⟨by rw [hv, e0]; exact h, by rw [hv, e1]; omega⟩) hrow
  exact .inr ⟨_, _, _, _, _, _, _, nblo7 kp s off len c hoff hc' hbig f a1 a2 a3 a4 a5 a6 a7 t7 hl hs hlo⟩
 ·
  have htl : tl f.toNat = 8 := by simp [tl, hs]
  rw [htl] at hc
  by_cases hk : 8 ≤ t.length
  rotate_left
  · exact .inr ⟨_, _, _, _, _, _, _, zjZ kp s off len c hoff hc' f t hl hs (by have := congrArg List.length hl; simp at this; omega)⟩
  obtain ⟨a1, t1, rfl, hr1⟩ := zj (k := 7) (by omega : 8 ≤ _)
  obtain ⟨a2, t2, rfl, hr2⟩ := zj (k := 6) hr1
  obtain ⟨a3, t3, rfl, hr3⟩ := zj (k := 5) hr2
  obtain ⟨a4, t4, rfl, hr4⟩ := zj (k := 4) hr3
  obtain ⟨a5, t5, rfl, hr5⟩ := zj (k := 3) hr4
  obtain ⟨a6, t6, rfl, hr6⟩ := zj (k := 2) hr5
  obtain ⟨a7, t7, rfl, hr7⟩ := zj (k := 1) hr6
  obtain ⟨a8, t8, rfl, hr8⟩ := zj (k := 0) hr7
  have htk : List.take 8 (a1 :: a2 :: a3 :: a4 :: a5 :: a6 :: a7 :: a8 :: t8) = [a1, a2, a3, a4, a5, a6, a7, a8] := by simp
  have := zg a1
  have := zg a2
  have := zg a3
  have := zg a4
  have := zg a5
  have := zg a6
  have := zg a7
  have := zg a8
  have hrow : ¬ row (val f.toNat [a1, a2, a3, a4, a5, a6, a7, a8]) = f :: [a1, a2, a3, a4, a5, a6, a7, a8] := fun h => hc ⟨hk, by rw [htk]; exact h⟩
  have hv : val f.toNat [a1, a2, a3, a4, a5, a6, a7, a8] = (((((((((0 * 256 + (a1.toNat : Int)) * 256 + (a2.toNat : Int)) * 256 + (a3.toNat : Int)) * 256 + (a4.toNat : Int)) * 256 + (a5.toNat : Int)) * 256 + (a6.toNat : Int)) * 256 + (a7.toNat : Int)) * 256 + (a8.toNat : Int)) + 0) := by simp [val, hs, be, List.foldl]
  have e0 : zx f.toNat = 72057594037927936 := by simp [zx, hs]
  have e1 : xN f.toNat = 18446744073709551615 := by simp [xN, hs]
  have hlo : (((((((((0 * 256 + (a1.toNat : Int)) * 256 + (a2.toNat : Int)) * 256 + (a3.toNat : Int)) * 256 + (a4.toNat : Int)) * 256 + (a5.toNat : Int)) * 256 + (a6.toNat : Int)) * 256 + (a7.toNat : Int)) * 256 + (a8.toNat : Int)) + 0) < 72057594037927936 := by
   rcases Int.lt_or_le (((((((((0 * 256 + (a1.toNat : Int)) * 256 + (a2.toNat : Int)) * 256 + (a3.toNat : Int)) * 256 + (a4.toNat : Int)) * 256 + (a5.toNat : Int)) * 256 + (a6.toNat : Int)) * 256 + (a7.toNat : Int)) * 256 + (a8.toNat : Int)) + 0) 72057594037927936 with h | h
   · exact h
   · exact absurd ((xp f [a1, a2, a3, a4, a5, a6, a7, a8] (by rw [htl]; rfl)).2 ⟨by rw [hv, e0]; exact h, by rw [hv, e1]; omega⟩) hrow
  exact .inr ⟨_, _, _, _, _, _, _, nblo8 kp s off len c hoff hc' hbig f a1 a2 a3 a4 a5 a6 a7 a8 t8 hl hs hlo⟩
end Go.Proofs.YtdbfpjgnlfejmaaDoor.mq
end
section
set_option maxRecDepth 100000
set_option linter.unusedVariables false
namespace Go.Proofs.YtdbfpjgnlfejmaaDoor.mq
open Go Ev
noncomputable def newH (s : List UInt8) : AHeap := ⟨(.node (.node .leaf (some (.cells (.node (.node .leaf (some (.bool false)) .leaf) (some (.slg 0 0 0 s.length 0)) .leaf) 2 101 0 0 1 0 false .leaf)) .leaf) (some (.cells (.fn fun j => some (AV.int IntKind.u8 (yy s j))) s.length 5 0 0 1 0 true .leaf)) .leaf), 2, GW⟩
theorem newr (s : List UInt8) (R : AV → AHeap → Prop) (kp : Nat) (_K : AM → Prop) : Obl P 54 (fun v H => R v H) kp _K [.run 13, .told 0 (.fn fun j => some (.int .u8 (yy s j))) s.length, .done] ((zc P 54 [.str s] GW)) = ((∀ (k : Nat) (v : AV), k < s.length → (T.fn fun j => some (AV.int IntKind.u8 (yy s j))).get k = some v → (zu T.leaf 0 (zr s)).get k = some v) ∧ (s.length = (zr s).length) ∧ (R (.ptr 1 0 0) (newH s))) := by kernel_rfl
theorem ziC (kp : Nat) (s : List UInt8) : Goal P kp 54 (fun v H => v = .ptr 1 0 0 ∧ H = newH s) (zc P 54 [.str s] GW) := by
 refine Obl.goal (K := fun _ => False) mix (fun _ h => h.elim) (cast (newr s _ kp _).symm ⟨fun k v hk hv => ?_, by simp [zr], rfl, rfl⟩)
 cases hv
 rw [zp, if_pos ⟨Nat.zero_le _, by simp [zr]; omega⟩]
 simp only [zr, Nat.sub_zero, List.getElem?_map, List.getElem?_eq_getElem hk, Option.map_some]
 rw [yy, List.getD_eq_getElem?_getD, List.getElem?_eq_getElem hk]
 rfl
end Go.Proofs.YtdbfpjgnlfejmaaDoor.mq
end
section
set_option maxRecDepth 100000
set_option linter.unusedVariables false
namespace Go.Proofs.YtdbfpjgnlfejmaaDoor.mq
open Go Ev
theorem numE2 (s : List UInt8) (off len c : Nat) (R : AV → AHeap → Prop) (_K : AM → Prop) : Obl P 55 (fun v H => R v H) 2 _K [.run 9, .callh [(0, 0, [0]), (1, 0, [0, 0])] [0] (.tup [.int .u64 0, .bool false]) (rd (.slc 1 0 off len c) false (fun j => some (.int .u8 (yy s j))) s.length), .run 41, .done] ((ze P 55 [.ptr 0 0 0] (rd (.slc 1 0 off len c) false (fun j => some (.int .u8 (yy s j))) s.length))) = ((zb fun j => some (AV.int IntKind.u8 (yy s j))) ∧ (zb fun j => some (AV.int IntKind.u8 (yy s j))) ∧ (Goal P 2 76 (fun x k => x = AV.tup [AV.int IntKind.u64 (0 : Int), AV.bool false] ∧ k = rd (AV.slc (1 : Nat) (0 : Nat) off len c) false (fun j => some (AV.int IntKind.u8 (yy s j))) s.length) (xl s off len c)) ∧ (R (.int .u64 0) (⟨(.node (.node .leaf (some (.cells (.fn fun j => some (AV.int IntKind.u8 (yy s j))) s.length 5 0 0 1 0 true .leaf)) .leaf) (some (.cells (.node (.node .leaf (some (.bool true)) .leaf) (some (.nils 0 0)) .leaf) 2 101 0 0 1 0 false .leaf)) .leaf), 2, GW⟩))) := by kernel_rfl
theorem numB2 (s : List UInt8) (off len c off2 len2 : Nat) (a1 a2 a3 a4 a5 : Int) (R : AV → AHeap → Prop) (_K : AM → Prop) : Obl P 55 (fun v H => R v H) 2 _K [.run 9, .callh [(0, 0, [0]), (1, 0, [0, 0])] [0] (.tup [.int .u64 0, .bool false]) (rd3 (.slc 1 0 off2 len2 len2) false s a1 a2 a3 a4 a5), .run 2, .can 2 [0, 1] [0, 5, 9] [], .run 39, .done] ((ze P 55 [.ptr 0 0 0] (rd (.slc 1 0 off len c) false (fun j => some (.int .u8 (yy s j))) s.length))) = ((zb fun j => some (AV.int IntKind.u8 (yy s j))) ∧ (zb fun j => some (AV.int IntKind.u8 (yy s j))) ∧ (Goal P 2 76 (fun x k => x = AV.tup [AV.int IntKind.u64 (0 : Int), AV.bool false] ∧ k = rd3 (AV.slc (1 : Nat) (0 : Nat) off2 len2 len2) false s a1 a2 a3 a4 a5) (xl s off len c)) ∧ (zb fun j => some (AV.int IntKind.u8 (yy s j))) ∧ (R (.int .u64 0) (⟨(.node (.node .leaf (some (.cells (.fn fun j => some (AV.int IntKind.u8 (yy s j))) s.length 5 0 0 1 0 true .leaf)) .leaf) (some (.cells (.node (.node .leaf (some (.bool true)) .leaf) (some (.nils 0 0)) .leaf) 2 101 0 0 1 0 false .leaf)) .leaf), 2, GW⟩))) := by kernel_rfl
theorem numO2 (s : List UInt8) (off len c off2 len2 : Nat) (n a1 a2 a3 a4 a5 : Int) (R : AV → AHeap → Prop) (_K : AM → Prop) : Obl P 55 (fun v H => R v H) 2 _K [.run 9, .callh [(0, 0, [0]), (1, 0, [0, 0])] [0] (.tup [.int .u64 n, .bool true]) (rd3 (.slc 1 0 off2 len2 len2) false s a1 a2 a3 a4 a5), .run 2, .can 2 [0, 1] [0, 5, 9] [], .run 18, .done] ((ze P 55 [.ptr 0 0 0] (rd (.slc 1 0 off len c) false (fun j => some (.int .u8 (yy s j))) s.length))) = ((zb fun j => some (AV.int IntKind.u8 (yy s j))) ∧ (zb fun j => some (AV.int IntKind.u8 (yy s j))) ∧ (Goal P 2 76 (fun x k => x = AV.tup [AV.int IntKind.u64 n, AV.bool true] ∧ k = rd3 (AV.slc (1 : Nat) (0 : Nat) off2 len2 len2) false s a1 a2 a3 a4 a5) (xl s off len c)) ∧ (zb fun j => some (AV.int IntKind.u8 (yy s j))) ∧ (R (.int .u64 n) (⟨(.node (.node .leaf (some (.cells (.fn fun j => some (AV.int IntKind.u8 (yy s j))) s.length 5 0 0 1 0 true .leaf)) .leaf) (some (.cells (.node (.node .leaf (some (.bool false)) .leaf) (some (.slc 1 0 off2 len2 len2)) .leaf) 2 101 0 0 1 0 false .leaf)) .leaf), 2, GW⟩))) := by kernel_rfl
theorem zno (s : List UInt8) (off len c : Nat) (R : AV → AHeap → Prop) (_K : AM → Prop) : Obl P 56 (fun v H => R v H) 2 _K [.run 15, .callh [(0, 0, [0]), (1, 0, [0, 0])] [0] (.tup [.int .u64 0, .bool false]) (rd (.slc 1 0 off len c) false (fun j => some (.int .u8 (yy s j))) s.length), .run 40, .done] ((ze P 56 [.ptr 0 0 0] (rd (.slc 1 0 off len c) false (fun j => some (.int .u8 (yy s j))) s.length))) = ((zb fun j => some (AV.int IntKind.u8 (yy s j))) ∧ (zb fun j => some (AV.int IntKind.u8 (yy s j))) ∧ (Goal P 2 76 (fun x k => x = AV.tup [AV.int IntKind.u64 (0 : Int), AV.bool false] ∧ k = rd (AV.slc (1 : Nat) (0 : Nat) off len c) false (fun j => some (AV.int IntKind.u8 (yy s j))) s.length) (xl s off len c)) ∧ (R (.str []) (⟨(.node (.node .leaf (some (.cells (.fn fun j => some (AV.int IntKind.u8 (yy s j))) s.length 5 0 0 1 0 true .leaf)) .leaf) (some (.cells (.node (.node .leaf (some (.bool true)) .leaf) (some (.nils 0 0)) .leaf) 2 101 0 0 1 0 false .leaf)) .leaf), 2, GW⟩))) := by kernel_rfl
theorem zni (s : List UInt8) (off len c off2 len2 : Nat) (a1 a2 a3 a4 a5 : Int) (R : AV → AHeap → Prop) (_K : AM → Prop) : Obl P 56 (fun v H => R v H) 2 _K [.run 15, .callh [(0, 0, [0]), (1, 0, [0, 0])] [0] (.tup [.int .u64 0, .bool false]) (rd3 (.slc 1 0 off2 len2 len2) false s a1 a2 a3 a4 a5), .run 2, .can 2 [0, 1] [0, 3, 10, 13] [], .run 38, .done] ((ze P 56 [.ptr 0 0 0] (rd (.slc 1 0 off len c) false (fun j => some (.int .u8 (yy s j))) s.length))) = ((zb fun j => some (AV.int IntKind.u8 (yy s j))) ∧ (zb fun j => some (AV.int IntKind.u8 (yy s j))) ∧ (Goal P 2 76 (fun x k => x = AV.tup [AV.int IntKind.u64 (0 : Int), AV.bool false] ∧ k = rd3 (AV.slc (1 : Nat) (0 : Nat) off2 len2 len2) false s a1 a2 a3 a4 a5) (xl s off len c)) ∧ (zb fun j => some (AV.int IntKind.u8 (yy s j))) ∧ (R (.str []) (⟨(.node (.node .leaf (some (.cells (.fn fun j => some (AV.int IntKind.u8 (yy s j))) s.length 5 0 0 1 0 true .leaf)) .leaf) (some (.cells (.node (.node .leaf (some (.bool true)) .leaf) (some (.nils 0 0)) .leaf) 2 101 0 0 1 0 false .leaf)) .leaf), 2, GW⟩))) := by kernel_rfl
theorem zmU (s : List UInt8) (off len c off2 len2 : Nat) (n a1 a2 a3 a4 a5 : Int) (R : AV → AHeap → Prop) (_K : AM → Prop) : Obl P 56 (fun v H => R v H) 2 _K [.run 15, .callh [(0, 0, [0]), (1, 0, [0, 0])] [0] (.tup [.int .u64 n, .bool true]) (rd3 (.slc 1 0 off2 len2 len2) false s a1 a2 a3 a4 a5), .run 2, .can 2 [0, 1] [0, 3, 10, 13] [], .run 35, .know 18 true, .run 48, .done] ((ze P 56 [.ptr 0 0 0] (rd (.slc 1 0 off len c) false (fun j => some (.int .u8 (yy s j))) s.length))) = ((zb fun j => some (AV.int IntKind.u8 (yy s j))) ∧ (zb fun j => some (AV.int IntKind.u8 (yy s j))) ∧ (Goal P 2 76 (fun x k => x = AV.tup [AV.int IntKind.u64 n, AV.bool true] ∧ k = rd3 (AV.slc (1 : Nat) (0 : Nat) off2 len2 len2) false s a1 a2 a3 a4 a5) (xl s off len c)) ∧ (zb fun j => some (AV.int IntKind.u8 (yy s j))) ∧ (decide (n > IntKind.u64.wrap (↑len2 : Int)) = true) ∧ (R (.str []) (⟨(.node (.node .leaf (some (.cells (.fn fun j => some (AV.int IntKind.u8 (yy s j))) s.length 5 0 0 1 0 true .leaf)) .leaf) (some (.cells (.node (.node .leaf (some (.bool true)) .leaf) (some (.nils 0 0)) .leaf) 2 101 0 0 1 0 false .leaf)) .leaf), 2, GW⟩))) := by kernel_rfl
theorem zmG (s : List UInt8) (off len c off2 len2 : Nat) (n a1 a2 a3 a4 a5 : Int) (R : AV → AHeap → Prop) (_K : AM → Prop) : Obl P 56 (fun v H => R v H) 2 _K [.run 15, .callh [(0, 0, [0]), (1, 0, [0, 0])] [0] (.tup [.int .u64 n, .bool true]) (rd3 (.slc 1 0 off2 len2 len2) false s a1 a2 a3 a4 a5), .run 2, .can 2 [0, 1] [0, 3, 10, 13] [], .run 35, .know 18 false, .run 10, .op, .run 20, .op, .run 26, .bytes ((s.drop off2).take n.toNat), .run 3, .done] ((ze P 56 [.ptr 0 0 0] (rd (.slc 1 0 off len c) false (fun j => some (.int .u8 (yy s j))) s.length))) = ((zb fun j => some (AV.int IntKind.u8 (yy s j))) ∧ (zb fun j => some (AV.int IntKind.u8 (yy s j))) ∧ (Goal P 2 76 (fun x k => x = AV.tup [AV.int IntKind.u64 n, AV.bool true] ∧ k = rd3 (AV.slc (1 : Nat) (0 : Nat) off2 len2 len2) false s a1 a2 a3 a4 a5) (xl s off len c)) ∧ (zb fun j => some (AV.int IntKind.u8 (yy s j))) ∧ (decide (n > IntKind.u64.wrap (↑len2 : Int)) = false) ∧ (((0 : Int) ≤ n ∧ n ≤ (↑len2 : Int)) ∧ (0 : Int) ≤ n ∧ n ≤ (↑n.toNat : Int)) ∧ ((((0 : Int) ≤ (↑len2 : Int) ∧ (↑len2 : Int) ≤ (↑len2 : Int)) ∧ (0 : Int) ≤ (↑len2 : Int) ∧ (↑len2 : Int) ≤ (↑(↑len2 : Int).toNat : Int)) ∧ (0 : Int) ≤ n ∧ n ≤ (↑(↑len2 : Int).toNat : Int)) ∧ ((if n.toNat = (0 : Nat) then off2 else off2) + (n.toNat - (0 : Nat)) ≤ s.length ∧ zS (zG (T.fn fun j => some (AV.int IntKind.u8 (yy s j))) (if n.toNat = (0 : Nat) then off2 else off2) (n.toNat - (0 : Nat))) = some (AV.str (List.take n.toNat (List.drop off2 s)))) ∧ (R (.str (List.take n.toNat (List.drop off2 s))) (⟨(.node (.node .leaf (some (.cells (.fn fun j => some (AV.int IntKind.u8 (yy s j))) s.length 5 0 0 1 0 true .leaf)) .leaf) (some (.cells (.node (.node .leaf (some (.bool false)) .leaf) (some (.slc 1 0 (if (↑len2 : Int).toNat = n.toNat then off2 else off2 + n.toNat * nat_lit 1) ((↑len2 : Int).toNat - n.toNat) ((↑len2 : Int).toNat - n.toNat))) .leaf) 2 101 0 0 1 0 false .leaf)) .leaf), 2, GW⟩))) := by kernel_rfl
noncomputable abbrev rdr (s : List UInt8) (off len c : Nat) : AHeap := rd (.slc 1 0 off len c) false (fun j => some (.int .u8 (yy s j))) s.length
noncomputable abbrev rdz (s : List UInt8) : AHeap := rd (.nils 0 0) true (fun j => some (.int .u8 (yy s j))) s.length
theorem zh4 (s : List UInt8) (off len c : Nat) (hls : len ≤ s.length) (ho : 0 < len → off + len = s.length) (hc' : len ≤ c) (hbig : len ≤ 9223372036854775807) {n : Int} {k : Nat} (hp : xm (ahead s len) = some (n, k)) :
 ∃ off2 : Nat, (0 < len - k → off2 + (len - k) = s.length) ∧ Goal P 2 55 (fun v H => v = .int .u64 n ∧ H = rdr s off2 (len - k) (len - k)) (ze P 55 [.ptr 0 0 0] (rdr s off len c)) := by
 obtain ⟨off2, a1, a2, a3, a4, a5, h1, h2⟩ := zar 2 s off len c hls ho hc' hbig hp
 exact ⟨off2, h1.2, Obl.goal (K := fun _ => False) mix (fun _ h => h.elim) (cast (numO2 s off len c off2 (len - k) n a1 a2 a3 a4 a5 _ _).symm ⟨zh s, zh s, h2, zh s, rfl, rfl⟩)⟩
theorem zfI (s : List UInt8) (off len c : Nat) (hls : len ≤ s.length) (ho : 0 < len → off + len = s.length) (hc' : len ≤ c) (hbig : len ≤ 9223372036854775807) (hp : xm (ahead s len) = none) :
 Goal P 2 55 (fun v H => v = .int .u64 0 ∧ H = rdz s) (ze P 55 [.ptr 0 0 0] (rdr s off len c)) := by
 rcases za6 2 s off len c hls ho hc' hbig hp with h | ⟨off2, len2, a1, a2, a3, a4, a5, h⟩
 · exact Obl.goal (K := fun _ => False) mix (fun _ h => h.elim) (cast (numE2 s off len c _ _).symm ⟨zh s, zh s, h, rfl, rfl⟩)
 · exact Obl.goal (K := fun _ => False) mix (fun _ h => h.elim) (cast (numB2 s off len c off2 len2 a1 a2 a3 a4 a5 _ _).symm ⟨zh s, zh s, h, zh s, rfl, rfl⟩)
theorem zfK (s : List UInt8) (off : Nat) : ∀ (k : Nat) (acc : List AV), jY (T.fn fun j => some (AV.int .u8 (yy s j))) off k acc = some (((List.range k).map fun j => AV.int .u8 (yy s (off + j))) ++ acc)
 | 0, acc => rfl
 | k + 1, acc => by
  show jY _ off k (AV.int .u8 (yy s (off + k)) :: acc) = _
  rw [zfK s off k, List.range_succ, List.map_append, List.append_assoc]
  rfl
theorem zh2 (s : List UInt8) (off k : Nat) (h : off + k ≤ s.length) : yi ((List.range k).map fun j => AV.int .u8 (yy s (off + j))) = some ((s.drop off).take k) := by
 obtain ⟨h1, h2⟩ : ∃ r, yi ((List.range k).map fun j => AV.int .u8 (yy s (off + j))) = some r := by
  unfold yi
  generalize List.range k = l
  induction l with
  | nil => exact ⟨_, rfl⟩
  | cons a r ih =>
   obtain ⟨x, hx⟩ := ih
   refine ⟨UInt8.ofNat (yy s (off + a)).toNat :: x, ?_⟩
   rw [List.map_cons, qh, hx]
   rfl
 rw [h2]
 obtain ⟨hl, hg⟩ := wn h2
 congr 1
 apply List.ext_getElem?
 intro i
 by_cases hi : i < k
 · obtain ⟨b, hb, hbv⟩ := hg i (AV.int .u8 (yy s (off + i))) (by simp [hi])
   have hlt : off + i < s.length := by omega
   rw [hb, List.getElem?_take, if_pos hi, List.getElem?_drop, List.getElem?_eq_getElem hlt]
   have : zbJ (AV.int .u8 (yy s (off + i))) = some s[off + i] := by
    show some (UInt8.ofNat (yy s (off + i)).toNat) = _
    rw [yy, List.getD_eq_getElem?_getD, List.getElem?_eq_getElem hlt]
    simp
   rw [this] at hbv
   exact congrArg some (Option.some.inj hbv).symm
 · rw [List.getElem?_eq_none (by rw [hl]; simp; omega), List.getElem?_eq_none (by simp; omega)]
theorem zmz (s : List UInt8) (off k : Nat) (h : off + k ≤ s.length) : zS (zG (T.fn fun j => some (AV.int .u8 (yy s j))) off k) = some (.str ((s.drop off).take k)) := by
 unfold zG
 rw [zfK, List.append_nil]
 show zij (yi _) = _
 rw [zh2 s off k h]
 rfl
theorem zcx (s : List UInt8) (off len c : Nat) (hls : len ≤ s.length) (ho : 0 < len → off + len = s.length) (hc' : len ≤ c) (hbig : s.length ≤ 9223372036854775807) {n : Int} {k : Nat} (hp : xm (ahead s len) = some (n, k)) (hn : n ≤ (len - k : Nat)) :
 ∃ off2 : Nat, (0 < len - k - n.toNat → off2 + (len - k - n.toNat) = s.length) ∧ Goal P 2 56 (fun v H => v = .str (((ahead s len).drop k).take n.toNat) ∧ H = rdr s off2 (len - k - n.toNat) (len - k - n.toNat)) (ze P 56 [.ptr 0 0 0] (rdr s off len c)) := by
 obtain ⟨off2, a1, a2, a3, a4, a5, h1, h2⟩ := zar 2 s off len c hls ho hc' (by omega) hp
 obtain ⟨n0, n1, _, n3, _⟩ := xe hp
 rw [zB hls] at n3
 have w1 : IntKind.u64.wrap ((len - k : Nat) : Int) = (len - k : Nat) := IntWalk.u64_in _ (by omega)
 obtain ⟨N, rfl⟩ := Int.eq_ofNat_of_zero_le n0
 have hs : List.take (N : Int).toNat (List.drop off2 s) = List.take (N : Int).toNat (List.drop k (ahead s len)) := by
  by_cases h0 : N = 0
  · subst h0; rfl
  · have := h1.2 (by omega)
    unfold ahead
    rw [List.drop_drop]
    congr 2
    omega
 refine ⟨(if ((len - k : Nat) : Int).toNat = (N : Int).toNat then off2 else off2 + (N : Int).toNat * 1), ?_, Obl.goal (K := fun _ => False) mix (fun _ h => h.elim) (cast (zmG s off len c off2 (len - k) N a1 a2 a3 a4 a5 _ _).symm ⟨zh s, zh s, h2, zh s, gtf (by rw [w1]; exact hn), by omega, by omega, ?_, ⟨?_, rfl⟩⟩)⟩
 · intro hpos
   have := h1.2 (by omega)
   split <;> omega
 · simp only [ite_self, Nat.sub_zero]
   have hle : off2 + (N : Int).toNat ≤ s.length := by
    rcases Nat.eq_zero_or_pos N with h0 | h0
    · subst h0; exact h1.1
    · have := h1.2 (by omega); omega
   exact ⟨hle, zmz s off2 _ hle⟩
 · rw [hs]
theorem zdW (s : List UInt8) (off len c : Nat) (hls : len ≤ s.length) (ho : 0 < len → off + len = s.length) (hc' : len ≤ c) (hbig : s.length ≤ 9223372036854775807) (hp : xm (ahead s len) = none ∨ ∃ n k, xm (ahead s len) = some (n, k) ∧ ((len - k : Nat) : Int) < n) :
 Goal P 2 56 (fun v H => v = .str [] ∧ H = rdz s) (ze P 56 [.ptr 0 0 0] (rdr s off len c)) := by
 rcases hp with hp | ⟨n, k, hp, hn⟩
 · rcases za6 2 s off len c hls ho hc' (by omega) hp with h | ⟨off2, len2, a1, a2, a3, a4, a5, h⟩
   · exact Obl.goal (K := fun _ => False) mix (fun _ h => h.elim) (cast (zno s off len c _ _).symm ⟨zh s, zh s, h, rfl, rfl⟩)
   · exact Obl.goal (K := fun _ => False) mix (fun _ h => h.elim) (cast (zni s off len c off2 len2 a1 a2 a3 a4 a5 _ _).symm ⟨zh s, zh s, h, zh s, rfl, rfl⟩)
 · obtain ⟨off2, a1, a2, a3, a4, a5, h1, h2⟩ := zar 2 s off len c hls ho hc' (by omega) hp
   have w1 : IntKind.u64.wrap ((len - k : Nat) : Int) = (len - k : Nat) := IntWalk.u64_in _ (by omega)
   exact Obl.goal (K := fun _ => False) mix (fun _ h => h.elim) (cast (zmU s off len c off2 (len - k) n a1 a2 a3 a4 a5 _ _).symm ⟨zh s, zh s, h2, zh s, gtt (by rw [w1]; exact hn), rfl, rfl⟩)
end Go.Proofs.YtdbfpjgnlfejmaaDoor.mq
end
section
set_option maxRecDepth 100000
set_option linter.unusedVariables false
namespace Go.Proofs.YtdbfpjgnlfejmaaDoor.dg
open Go Ev mq
noncomputable abbrev RG (s : List UInt8) (y x c : Nat) (G : T (T AV)) : AHeap := ⟨(.node (.node .leaf (some (.cells (.fn fun j => some (.int .u8 (yy s j))) s.length 5 0 0 1 0 true .leaf)) .leaf) (some (.cells (.node (.node .leaf (some (.bool false)) .leaf) (some (.slc 1 0 y x c)) .leaf) 2 101 0 0 1 0 false .leaf)) .leaf), 2, G⟩
noncomputable abbrev RZ (s : List UInt8) (G : T (T AV)) : AHeap := ⟨(.node (.node .leaf (some (.cells (.fn fun j => some (.int .u8 (yy s j))) s.length 5 0 0 1 0 true .leaf)) .leaf) (some (.cells (.node (.node .leaf (some (.bool true)) .leaf) (some (.nils 0 0)) .leaf) 2 101 0 0 1 0 false .leaf)) .leaf), 2, G⟩
noncomputable abbrev RB (G : T (T AV)) : AHeap := ⟨(.node .leaf (some (.cells (.node (.node .leaf (some (.bool true)) .leaf) (some (.nils 0 0)) .leaf) 2 101 0 0 1 0 false .leaf)) .leaf), 1, G⟩
noncomputable abbrev RN (s : List UInt8) (G : T (T AV)) : AHeap := ⟨(.node (.node .leaf (some (.cells (.node (.node .leaf (some (.bool false)) .leaf) (some (.slg 0 0 0 s.length 0)) .leaf) 2 101 0 0 1 0 false .leaf)) .leaf) (some (.cells (.fn fun j => some (AV.int IntKind.u8 (yy s j))) s.length 5 0 0 1 0 true .leaf)) .leaf), 2, G⟩
noncomputable def DN (A : AV) (s : List UInt8) (G : T (T AV)) : AM := ⟨⟨19, 38, (.node .leaf (some (.str s)) (.node (.node (.node .leaf (some (.ptr 0 0 0)) .leaf) none .leaf) none .leaf)),
 [.ops (rg P 19 [1, 0]).toList ((rg P 19 [1, 0]).toList.drop 2), .code (cd P (19 : Nat) [(1 : Nat), (1 : Nat)])], [], .run, CallKind.normal, none⟩,
 [],
 ⟨(.node (.node .leaf (some (.cells (.fn fun j => some (.int .u8 (yy s j))) s.length 5 0 0 1 0 true .leaf)) .leaf) (some (.cells (.node (.node .leaf (some (.bool false)) .leaf) (some A) .leaf) 2 101 0 0 1 0 false .leaf)) .leaf), 2, G⟩⟩
noncomputable def DcA (s : List UInt8) (n i : Int) (x y : Nat) (G : T (T AV)) : AM := ⟨⟨19, 38, (.node (.node (.node .leaf none (.node .leaf (some (.int .u64 i)) .leaf)) none (.node .leaf (some (.nils 0 0)) .leaf)) (some (.str s)) (.node (.node .leaf (some (.ptr 0 0 0)) .leaf) none (.node (.node .leaf (some (.int .u64 n)) .leaf) none .leaf))),
 [.code (cd P (19 : Nat) [(1 : Nat), (1 : Nat), (1 : Nat), (0 : Nat), (1 : Nat), (0 : Nat), (0 : Nat)]), .inLoop (cd P (19 : Nat) [(1 : Nat), (1 : Nat), (1 : Nat), (0 : Nat), (1 : Nat), (0 : Nat), (0 : Nat)]), .inBlock 0, .code (cd P (19 : Nat) [(1 : Nat), (1 : Nat), (1 : Nat), (1 : Nat)])], [], .run, CallKind.normal, none⟩,
 [],
 ⟨(.node (.node .leaf (some (.cells (.fn fun j => some (.int .u8 (yy s j))) s.length 5 0 0 1 0 true .leaf)) .leaf) (some (.cells (.node (.node .leaf (some (.bool false)) .leaf) (some (.slc 1 0 y x x)) .leaf) 2 101 0 0 1 0 false .leaf)) .leaf), 2, G⟩⟩
noncomputable def DcB (cell : Nat → AV) (s : List UInt8) (n i : Int) (x y m z : Nat) (G : T (T AV)) : AM := ⟨⟨19, 38, (.node (.node (.node .leaf none (.node .leaf (some (.int .u64 i)) .leaf)) none (.node .leaf (some (.slg 1 0 0 m 0)) .leaf)) (some (.str s)) (.node (.node .leaf (some (.ptr 0 0 0)) .leaf) none (.node (.node .leaf (some (.int .u64 n)) .leaf) none .leaf))),
 [.code (cd P (19 : Nat) [(1 : Nat), (1 : Nat), (1 : Nat), (0 : Nat), (1 : Nat), (0 : Nat), (0 : Nat)]), .inLoop (cd P (19 : Nat) [(1 : Nat), (1 : Nat), (1 : Nat), (0 : Nat), (1 : Nat), (0 : Nat), (0 : Nat)]), .inBlock 0, .code (cd P (19 : Nat) [(1 : Nat), (1 : Nat), (1 : Nat), (1 : Nat)])], [], .run, CallKind.normal, none⟩,
 [],
 ⟨(.node (.node .leaf (some (.cells (.fn fun c => some (cell c)) z 35 0 0 1 0 false .leaf)) .leaf) (some (.cells (.node (.node .leaf (some (.bool false)) .leaf) (some (.slc 2 0 y x x)) .leaf) 2 101 0 0 1 0 false .leaf)) (.node .leaf (some (.cells (.fn fun j => some (.int .u8 (yy s j))) s.length 5 0 0 1 0 true .leaf)) .leaf)), 3, G⟩⟩
noncomputable def DcZ (s : List UInt8) (G : T (T AV)) : AM := ⟨⟨19, 38, (.node (.node .leaf none (.node .leaf (some (.nils 0 0)) .leaf)) (some (.str s)) (.node (.node .leaf (some (.ptr 0 0 0)) .leaf) none (.node (.node .leaf (some (.int .u64 0)) .leaf) none .leaf))),
 [.ops (rg P 19 [1, 1, 1, 0, 0]).toList ((rg P 19 [1, 1, 1, 0, 0]).toList.drop 2), .code (cd P (19 : Nat) [(1 : Nat), (1 : Nat), (1 : Nat), (0 : Nat), (1 : Nat)]), .code (cd P (19 : Nat) [(1 : Nat), (1 : Nat), (1 : Nat), (1 : Nat)])], [], .run, CallKind.normal, none⟩,
 [],
 ⟨(.node .leaf (some (.cells (.node (.node .leaf (some (.bool true)) .leaf) (some (.nils 0 0)) .leaf) 2 101 0 0 1 0 false .leaf)) .leaf), 1, G⟩⟩
theorem nuay (R : AV → AHeap → Prop) (s : List UInt8) (n : Int) (y x c y2 x2 : Nat) (G : T (T AV)) (_K : AM → Prop) : Obl P 57 (fun v h => R v h) 2 _K [.run 8, (.callh [(0, 0, []), (1, 0, [0])] [0] (.int .u64 n) (RG s y2 x2 x2 G)), .run 8, .know 7 true, .run 6, .done] ((ze P 57 [.ptr 0 0 0] (RG s y x c G))) = ((zb fun j => some (.int .u8 (yy s j))) ∧ (zb fun j => some (.int .u8 (yy s j))) ∧ (Goal P (2) 55 (fun v h => v = AV.int IntKind.u64 n ∧ h = RG s y2 x2 x2 G) (ze P 55 [.ptr 0 0 0] (RG s y x c G))) ∧ (decide (n > (2147483647 : Int)) = true) ∧ (R (.int .i64 (-1)) ((RG s y2 x2 x2 G)))) := by kernel_rfl
theorem nuan (R : AV → AHeap → Prop) (s : List UInt8) (n : Int) (y x c y2 x2 : Nat) (G : T (T AV)) (_K : AM → Prop) : Obl P 57 (fun v h => R v h) 2 _K [.run 8, (.callh [(0, 0, []), (1, 0, [0])] [0] (.int .u64 n) (RG s y2 x2 x2 G)), .run 8, .know 7 false, .run 9, .done] ((ze P 57 [.ptr 0 0 0] (RG s y x c G))) = ((zb fun j => some (.int .u8 (yy s j))) ∧ (zb fun j => some (.int .u8 (yy s j))) ∧ (Goal P (2) 55 (fun v h => v = AV.int IntKind.u64 n ∧ h = RG s y2 x2 x2 G) (ze P 55 [.ptr 0 0 0] (RG s y x c G))) ∧ (decide (n > (2147483647 : Int)) = false) ∧ (R (.int .i64 (IntKind.i64.wrap n)) ((RG s y2 x2 x2 G)))) := by kernel_rfl
theorem nub (R : AV → AHeap → Prop) (s : List UInt8) (y x c : Nat) (G : T (T AV)) (_K : AM → Prop) : Obl P 57 (fun v h => R v h) 2 _K [.run 8, (.callh [(0, 0, []), (1, 0, [0])] [0] (.int .u64 0) (RZ s G)), .run 17, .done] ((ze P 57 [.ptr 0 0 0] (RG s y x c G))) = ((zb fun j => some (.int .u8 (yy s j))) ∧ (zb fun j => some (.int .u8 (yy s j))) ∧ (Goal P (2) 55 (fun v h => v = AV.int IntKind.u64 (0 : Int) ∧ h = RZ s G) (ze P 55 [.ptr 0 0 0] (RG s y x c G))) ∧ (R (.int .i64 0) ((RZ s G)))) := by kernel_rfl
theorem nuz (R : AV → AHeap → Prop) (G : T (T AV)) (_K : AM → Prop) : Obl P 57 (fun v h => R v h) 1 _K [.run 134, .done] ((ze P 57 [.ptr 0 0 0] (RB G))) = ((R (.int .i64 0) ((RB G)))) := by kernel_rfl
theorem d0 (R : AV → AHeap → Prop) (s : List UInt8) (G : T (T AV)) (K : AM → Prop) : Obl P 19 (fun v h => R v h) 0 K [.run 9, .callh [] [0] (.ptr 1 0 0) (RN s G), .can 0 [1, 0] [0, 8] []] ((zc P 19 [.str s] G)) = ((zb fun j => some (.int .u8 (yy s j))) ∧ (Goal P (0) 54 (fun v h => v = AV.ptr (1 : Nat) (0 : Nat) (0 : Nat) ∧ h = RN s G) (zc P 54 [.str s] G)) ∧ (zb fun j => some (.int .u8 (yy s j))) ∧ K (DN (.slg 1 0 0 s.length 0) s G)) := by kernel_rfl
theorem d1 (R : AV → AHeap → Prop) (s : List UInt8) (n : Int) (x c x2 y2 : Nat) (G : T (T AV)) (K : AM → Prop) : Obl P 19 (fun v h => R v h) 0 K [.run 11, .callh [(0, 0, []), (1, 0, [0])] [0] (.int .u64 n) (RG s y2 x2 x2 G), .run 4, .can 0 [0, 1] [0, 4, 5, 10, 11] []] ((DN (.slc 1 0 0 x c) s G)) = ((zb fun j => some (.int .u8 (yy s j))) ∧ (zb fun j => some (.int .u8 (yy s j))) ∧ (Goal P (2) 55 (fun v h => v = AV.int IntKind.u64 n ∧ h = RG s y2 x2 x2 G) (ze P 55 [.ptr 0 0 0] (RG s 0 x c G))) ∧ (zb fun j => some (.int .u8 (yy s j))) ∧ K (DcA s n (Int.ofNat (0)) x2 y2 G)) := by kernel_rfl
theorem d2 (R : AV → AHeap → Prop) (s : List UInt8) (x c : Nat) (G : T (T AV)) (K : AM → Prop) : Obl P 19 (fun v h => R v h) 0 K [.run 11, .callh [(0, 0, []), (1, 0, [0])] [0] (.int .u64 0) (RZ s G), .can 0 [0] [0, 4, 5, 10] []] ((DN (.slc 1 0 0 x c) s G)) = ((zb fun j => some (.int .u8 (yy s j))) ∧ (zb fun j => some (.int .u8 (yy s j))) ∧ (Goal P (2) 55 (fun v h => v = AV.int IntKind.u64 (0 : Int) ∧ h = RZ s G) (ze P 55 [.ptr 0 0 0] (RG s 0 x c G))) ∧ K (DcZ s G)) := by kernel_rfl
theorem d3 (R : AV → AHeap → Prop) (s : List UInt8) (G : T (T AV)) (_K : AM → Prop) : Obl P 19 (fun v h => R v h) 0 _K [.run 69, .can 0 [] [2, 3] [], .run 1, .done] ((DcZ s G)) = ((R (.tup [.nils 0 0, .int .i64 4]) (⟨.leaf, 0, G⟩))) := by kernel_rfl
theorem dAg (R : AV → AHeap → Prop) (cell' : Nat → AV) (s p : List UInt8) (n i a c0 : Int) (x y x2 y2 x3 y3 x4 y4 z2 : Nat) (G : T (T AV)) (K : AM → Prop) : Obl P 19 (fun v h => R v h) 0 K [.run 5, .know 12 true, .run 8, .callh [(0, 0, []), (1, 0, [0])] [0] (.str p) (RG s y2 x2 x2 G), .run 2, .callh [(0, 0, []), (1, 0, [0])] [0] (.int .i64 a) (RG s y3 x3 x3 G), .run 2, .callh [(0, 0, []), (1, 0, [0])] [0] (.int .i64 c0) (RG s y4 x4 x4 G), .run 45, .told 4 (.fn fun k => some (cell' k)) z2, .can 0 [0, 4, 1] [0, 4, 5, 10, 11] []] ((DcA s n i x y G)) = ((decide (i < n) = true) ∧ (zb fun j => some (.int .u8 (yy s j))) ∧ (zb fun j => some (.int .u8 (yy s j))) ∧ (Goal P (2) 56 (fun v h => v = AV.str p ∧ h = RG s y2 x2 x2 G) (ze P 56 [.ptr 0 0 0] (RG s y x x G))) ∧ (zb fun j => some (.int .u8 (yy s j))) ∧ (zb fun j => some (.int .u8 (yy s j))) ∧ (Goal P (2) 57 (fun v h => v = AV.int IntKind.i64 a ∧ h = RG s y3 x3 x3 G) (ze P 57 [.ptr 0 0 0] (RG s y2 x2 x2 G))) ∧ (zb fun j => some (.int .u8 (yy s j))) ∧ (zb fun j => some (.int .u8 (yy s j))) ∧ (Goal P (2) 57 (fun v h => v = AV.int IntKind.i64 c0 ∧ h = RG s y4 x4 x4 G) (ze P 57 [.ptr 0 0 0] (RG s y3 x3 x3 G))) ∧ (yJ (z2) ((.fn fun k => some (cell' k))) ((.node (.node .leaf (some (.int .i64 a)) .leaf) (some (.str p)) (.node .leaf (some (.int .i64 c0)) .leaf)))) ∧ (z2 = 3) ∧ (zb fun k => some (cell' k)) ∧ (zb fun j => some (.int .u8 (yy s j))) ∧ K (DcB cell' s n (IntKind.u64.wrap (i + (1 : Int))) x4 y4 (1) z2 G)) := by kernel_rfl
theorem dBg (R : AV → AHeap → Prop) (cell cell' : Nat → AV) (s p : List UInt8) (n i a c0 : Int) (x y x2 y2 x3 y3 x4 y4 m z z2 : Nat) (G : T (T AV)) (K : AM → Prop) : Obl P 19 (fun v h => R v h) 0 K [.run 5, .know 12 true, .run 8, .callh [(0, 0, []), (2, 0, [0])] [0] (.str p) (RG s y2 x2 x2 G), .run 2, .callh [(0, 0, []), (2, 0, [0])] [0] (.int .i64 a) (RG s y3 x3 x3 G), .run 2, .callh [(0, 0, []), (2, 0, [0])] [0] (.int .i64 c0) (RG s y4 x4 x4 G), .run 36, .opw false, .run 8, .told 1 (.fn fun k => some (cell' k)) z2, .can 0 [0, 1, 2] [0, 4, 5, 10, 11] []] ((DcB cell s n i x y m z G)) = ((decide (i < n) = true) ∧ (zb fun j => some (.int .u8 (yy s j))) ∧ (zb fun j => some (.int .u8 (yy s j))) ∧ (Goal P (2) 56 (fun v h => v = AV.str p ∧ h = RG s y2 x2 x2 G) (ze P 56 [.ptr 0 0 0] (RG s y x x G))) ∧ (zb fun j => some (.int .u8 (yy s j))) ∧ (zb fun j => some (.int .u8 (yy s j))) ∧ (Goal P (2) 57 (fun v h => v = AV.int IntKind.i64 a ∧ h = RG s y3 x3 x3 G) (ze P 57 [.ptr 0 0 0] (RG s y2 x2 x2 G))) ∧ (zb fun j => some (.int .u8 (yy s j))) ∧ (zb fun j => some (.int .u8 (yy s j))) ∧ (Goal P (2) 57 (fun v h => v = AV.int IntKind.i64 c0 ∧ h = RG s y4 x4 x4 G) (ze P 57 [.ptr 0 0 0] (RG s y3 x3 x3 G))) ∧ ((0 + 1 * DS ≤ 3 ∧ ∀ (k : Nat), k < 1 * DS → ∃ v, ((T.leaf.node (some (AV.int IntKind.i64 a)) T.leaf).node (some (AV.str p)) (T.leaf.node (some (AV.int IntKind.i64 c0)) T.leaf)).get (0 + k) = some v ∧ v.one = true) ∧ (0 : Nat) < 1 ∧ 0 + m * 3 ≤ z ∧ 0 ≤ 0 + m * 3 ∧ 0 = 0 * DS ∧ xV (m + 1) (32) = true ∧ z < 0 + (m + 1) * 3) ∧ (yJ (z2) ((.fn fun k => some (cell' k))) ((.fn fun k => bif (0 + m * DS).ble k && k.blt (0 + m * DS + 1 * DS) then (fun k => ((T.leaf.node (some (AV.int IntKind.i64 a)) T.leaf).node (some (AV.str p)) (T.leaf.node (some (AV.int IntKind.i64 c0)) T.leaf)).get (0 + k)) (k - (0 + m * DS)) else (T.fn fun j => some (cell j)).get k))) ∧ (z2 = 0 + m * 3 + 3) ∧ (zb fun k => some (cell' k)) ∧ (zb fun j => some (.int .u8 (yy s j))) ∧ K (DcB cell' s n (IntKind.u64.wrap (i + (1 : Int))) x4 y4 (m + 1) z2 G)) := by kernel_rfl
theorem dAb0 (R : AV → AHeap → Prop) (s : List UInt8) (n i : Int) (x y : Nat) (G : T (T AV)) (_K : AM → Prop) : Obl P 19 (fun v h => R v h) 0 _K [.run 5, .know 12 true, .run 8, .callh [(0, 0, []), (1, 0, [0])] [0] (.str []) (RZ s G), .run 2, .callh [(0, 0, [])] [0] (.int .i64 0) (RB G), .run 2, .callh [(0, 0, [])] [0] (.int .i64 0) (RB G), .run 90, .can 0 [] [2, 3] [], .run 1, .done] ((DcA s n i x y G)) = ((decide (i < n) = true) ∧ (zb fun j => some (.int .u8 (yy s j))) ∧ (zb fun j => some (.int .u8 (yy s j))) ∧ (Goal P (2) 56 (fun v h => v = AV.str [] ∧ h = RZ s G) (ze P 56 [.ptr 0 0 0] (RG s y x x G))) ∧ (Goal P (1) 57 (fun v h => v = AV.int IntKind.i64 (0 : Int) ∧ h = RB G) (ze P 57 [.ptr 0 0 0] (RB G))) ∧ (Goal P (1) 57 (fun v h => v = AV.int IntKind.i64 (0 : Int) ∧ h = RB G) (ze P 57 [.ptr 0 0 0] (RB G))) ∧ (R (.tup [.nils 0 0, .int .i64 4]) (⟨.leaf, 0, G⟩))) := by kernel_rfl
theorem dBb0 (R : AV → AHeap → Prop) (cell : Nat → AV) (s : List UInt8) (n i : Int) (x y m z : Nat) (G : T (T AV)) (_K : AM → Prop) : Obl P 19 (fun v h => R v h) 0 _K [.run 5, .know 12 true, .run 8, .callh [(0, 0, []), (2, 0, [0])] [0] (.str []) (RZ s G), .run 2, .callh [(0, 0, [])] [0] (.int .i64 0) (RB G), .run 2, .callh [(0, 0, [])] [0] (.int .i64 0) (RB G), .run 90, .can 0 [] [2, 3] [], .run 1, .done] ((DcB cell s n i x y m z G)) = ((decide (i < n) = true) ∧ (zb fun j => some (.int .u8 (yy s j))) ∧ (zb fun j => some (.int .u8 (yy s j))) ∧ (Goal P (2) 56 (fun v h => v = AV.str [] ∧ h = RZ s G) (ze P 56 [.ptr 0 0 0] (RG s y x x G))) ∧ (Goal P (1) 57 (fun v h => v = AV.int IntKind.i64 (0 : Int) ∧ h = RB G) (ze P 57 [.ptr 0 0 0] (RB G))) ∧ (Goal P (1) 57 (fun v h => v = AV.int IntKind.i64 (0 : Int) ∧ h = RB G) (ze P 57 [.ptr 0 0 0] (RB G))) ∧ (R (.tup [.nils 0 0, .int .i64 4]) (⟨.leaf, 0, G⟩))) := by kernel_rfl
theorem dAb1 (R : AV → AHeap → Prop) (s p : List UInt8) (n i : Int) (x y x2 y2 : Nat) (G : T (T AV)) (_K : AM → Prop) : Obl P 19 (fun v h => R v h) 0 _K [.run 5, .know 12 true, .run 8, .callh [(0, 0, []), (1, 0, [0])] [0] (.str p) (RG s y2 x2 x2 G), .run 2, .callh [(0, 0, []), (1, 0, [0])] [0] (.int .i64 0) (RZ s G), .run 2, .callh [(0, 0, [])] [0] (.int .i64 0) (RB G), .run 90, .can 0 [] [2, 3] [], .run 1, .done] ((DcA s n i x y G)) = ((decide (i < n) = true) ∧ (zb fun j => some (.int .u8 (yy s j))) ∧ (zb fun j => some (.int .u8 (yy s j))) ∧ (Goal P (2) 56 (fun v h => v = AV.str p ∧ h = RG s y2 x2 x2 G) (ze P 56 [.ptr 0 0 0] (RG s y x x G))) ∧ (zb fun j => some (.int .u8 (yy s j))) ∧ (zb fun j => some (.int .u8 (yy s j))) ∧ (Goal P (2) 57 (fun v h => v = AV.int IntKind.i64 (0 : Int) ∧ h = RZ s G) (ze P 57 [.ptr 0 0 0] (RG s y2 x2 x2 G))) ∧ (Goal P (1) 57 (fun v h => v = AV.int IntKind.i64 (0 : Int) ∧ h = RB G) (ze P 57 [.ptr 0 0 0] (RB G))) ∧ (R (.tup [.nils 0 0, .int .i64 4]) (⟨.leaf, 0, G⟩))) := by kernel_rfl
theorem dBb1 (R : AV → AHeap → Prop) (cell : Nat → AV) (s p : List UInt8) (n i : Int) (x y x2 y2 m z : Nat) (G : T (T AV)) (_K : AM → Prop) : Obl P 19 (fun v h => R v h) 0 _K [.run 5, .know 12 true, .run 8, .callh [(0, 0, []), (2, 0, [0])] [0] (.str p) (RG s y2 x2 x2 G), .run 2, .callh [(0, 0, []), (2, 0, [0])] [0] (.int .i64 0) (RZ s G), .run 2, .callh [(0, 0, [])] [0] (.int .i64 0) (RB G), .run 90, .can 0 [] [2, 3] [], .run 1, .done] ((DcB cell s n i x y m z G)) = ((decide (i < n) = true) ∧ (zb fun j => some (.int .u8 (yy s j))) ∧ (zb fun j => some (.int .u8 (yy s j))) ∧ (Goal P (2) 56 (fun v h => v = AV.str p ∧ h = RG s y2 x2 x2 G) (ze P 56 [.ptr 0 0 0] (RG s y x x G))) ∧ (zb fun j => some (.int .u8 (yy s j))) ∧ (zb fun j => some (.int .u8 (yy s j))) ∧ (Goal P (2) 57 (fun v h => v = AV.int IntKind.i64 (0 : Int) ∧ h = RZ s G) (ze P 57 [.ptr 0 0 0] (RG s y2 x2 x2 G))) ∧ (Goal P (1) 57 (fun v h => v = AV.int IntKind.i64 (0 : Int) ∧ h = RB G) (ze P 57 [.ptr 0 0 0] (RB G))) ∧ (R (.tup [.nils 0 0, .int .i64 4]) (⟨.leaf, 0, G⟩))) := by kernel_rfl
theorem dAb2 (R : AV → AHeap → Prop) (s p : List UInt8) (n i a : Int) (x y x2 y2 x3 y3 : Nat) (G : T (T AV)) (_K : AM → Prop) : Obl P 19 (fun v h => R v h) 0 _K [.run 5, .know 12 true, .run 8, .callh [(0, 0, []), (1, 0, [0])] [0] (.str p) (RG s y2 x2 x2 G), .run 2, .callh [(0, 0, []), (1, 0, [0])] [0] (.int .i64 a) (RG s y3 x3 x3 G), .run 2, .callh [(0, 0, []), (1, 0, [0])] [0] (.int .i64 0) (RZ s G), .run 90, .can 0 [] [2, 3] [], .run 1, .done] ((DcA s n i x y G)) = ((decide (i < n) = true) ∧ (zb fun j => some (.int .u8 (yy s j))) ∧ (zb fun j => some (.int .u8 (yy s j))) ∧ (Goal P (2) 56 (fun v h => v = AV.str p ∧ h = RG s y2 x2 x2 G) (ze P 56 [.ptr 0 0 0] (RG s y x x G))) ∧ (zb fun j => some (.int .u8 (yy s j))) ∧ (zb fun j => some (.int .u8 (yy s j))) ∧ (Goal P (2) 57 (fun v h => v = AV.int IntKind.i64 a ∧ h = RG s y3 x3 x3 G) (ze P 57 [.ptr 0 0 0] (RG s y2 x2 x2 G))) ∧ (zb fun j => some (.int .u8 (yy s j))) ∧ (zb fun j => some (.int .u8 (yy s j))) ∧ (Goal P (2) 57 (fun v h => v = AV.int IntKind.i64 (0 : Int) ∧ h = RZ s G) (ze P 57 [.ptr 0 0 0] (RG s y3 x3 x3 G))) ∧ (R (.tup [.nils 0 0, .int .i64 4]) (⟨.leaf, 0, G⟩))) := by kernel_rfl
theorem dBb2 (R : AV → AHeap → Prop) (cell : Nat → AV) (s p : List UInt8) (n i a : Int) (x y x2 y2 x3 y3 m z : Nat) (G : T (T AV)) (_K : AM → Prop) : Obl P 19 (fun v h => R v h) 0 _K [.run 5, .know 12 true, .run 8, .callh [(0, 0, []), (2, 0, [0])] [0] (.str p) (RG s y2 x2 x2 G), .run 2, .callh [(0, 0, []), (2, 0, [0])] [0] (.int .i64 a) (RG s y3 x3 x3 G), .run 2, .callh [(0, 0, []), (2, 0, [0])] [0] (.int .i64 0) (RZ s G), .run 90, .can 0 [] [2, 3] [], .run 1, .done] ((DcB cell s n i x y m z G)) = ((decide (i < n) = true) ∧ (zb fun j => some (.int .u8 (yy s j))) ∧ (zb fun j => some (.int .u8 (yy s j))) ∧ (Goal P (2) 56 (fun v h => v = AV.str p ∧ h = RG s y2 x2 x2 G) (ze P 56 [.ptr 0 0 0] (RG s y x x G))) ∧ (zb fun j => some (.int .u8 (yy s j))) ∧ (zb fun j => some (.int .u8 (yy s j))) ∧ (Goal P (2) 57 (fun v h => v = AV.int IntKind.i64 a ∧ h = RG s y3 x3 x3 G) (ze P 57 [.ptr 0 0 0] (RG s y2 x2 x2 G))) ∧ (zb fun j => some (.int .u8 (yy s j))) ∧ (zb fun j => some (.int .u8 (yy s j))) ∧ (Goal P (2) 57 (fun v h => v = AV.int IntKind.i64 (0 : Int) ∧ h = RZ s G) (ze P 57 [.ptr 0 0 0] (RG s y3 x3 x3 G))) ∧ (R (.tup [.nils 0 0, .int .i64 4]) (⟨.leaf, 0, G⟩))) := by kernel_rfl
theorem dAx (R : AV → AHeap → Prop) (s : List UInt8) (n i : Int) (x y : Nat) (G : T (T AV)) (_K : AM → Prop) : Obl P 19 (fun v h => R v h) 0 _K [.run 5, .know 12 false, .run 48, .know 31 true, .run 12, .can 0 [] [2, 3] [], .run 1, .done] ((DcA s n i x y G)) = ((decide (i < n) = false) ∧ ((!(↑x : Int) == (0 : Int)) = true) ∧ (R (.tup [.nils 0 0, .int .i64 4]) (⟨.leaf, 0, G⟩))) := by kernel_rfl
theorem dBx (R : AV → AHeap → Prop) (cell : Nat → AV) (s : List UInt8) (n i : Int) (x y m z : Nat) (G : T (T AV)) (_K : AM → Prop) : Obl P 19 (fun v h => R v h) 0 _K [.run 5, .know 12 false, .run 48, .know 31 true, .run 12, .can 0 [] [2, 3] [], .run 1, .done] ((DcB cell s n i x y m z G)) = ((decide (i < n) = false) ∧ ((!(↑x : Int) == (0 : Int)) = true) ∧ (R (.tup [.nils 0 0, .int .i64 4]) (⟨.leaf, 0, G⟩))) := by kernel_rfl
theorem dAn (R : AV → AHeap → Prop) (s t : List UInt8) (n i : Int) (y : Nat) (G : T (T AV)) (_K : AM → Prop) : Obl P 19 (fun v h => R v h) 0 _K [.run 5, .know 12 false, .run 50, .callh [] [0] (.str t) ⟨.leaf, 0, G⟩, .run 4, .know 36 false, .run 8, .can 0 [] [2, 3] [], .run 1, .done] ((DcA s n i 0 y G)) = ((decide (i < n) = false) ∧ (Goal P (0) 14 (fun v h => v = AV.str t ∧ h = { objs := T.leaf, next := (0 : Nat), glob := G }) (zc P 14 [.nils 0 0] G)) ∧ ((!t == s) = false) ∧ (R (.tup [.nils 0 0, .int .i64 0]) (⟨.leaf, 0, G⟩))) := by kernel_rfl
theorem dAw (R : AV → AHeap → Prop) (s t : List UInt8) (n i : Int) (y : Nat) (G : T (T AV)) (_K : AM → Prop) : Obl P 19 (fun v h => R v h) 0 _K [.run 5, .know 12 false, .run 50, .callh [] [0] (.str t) ⟨.leaf, 0, G⟩, .run 4, .know 36 true, .run 6, .can 0 [] [2, 3] [], .run 1, .done] ((DcA s n i 0 y G)) = ((decide (i < n) = false) ∧ (Goal P (0) 14 (fun v h => v = AV.str t ∧ h = { objs := T.leaf, next := (0 : Nat), glob := G }) (zc P 14 [.nils 0 0] G)) ∧ ((!t == s) = true) ∧ (R (.tup [.nils 0 0, .int .i64 4]) (⟨.leaf, 0, G⟩))) := by kernel_rfl
theorem dBn (R : AV → AHeap → Prop) (cell : Nat → AV) (s t : List UInt8) (n i : Int) (y m z : Nat) (G : T (T AV)) (_K : AM → Prop) : Obl P 19 (fun v h => R v h) 0 _K [.run 5, .know 12 false, .run 50, .callh [(1, 0, [])] [0] (.str t) ⟨(.node .leaf (some (.cells (.fn fun j => some (cell j)) z 35 0 0 1 0 false .leaf)) .leaf), 1, G⟩, .run 4, .know 36 false, .run 8, .can 0 [1] [2, 3] [], .run 1, .done] ((DcB cell s n i 0 y m z G)) = ((decide (i < n) = false) ∧ (zb fun j => some (cell j)) ∧ (zb fun j => some (cell j)) ∧ (Goal P (1) 14 (fun v h => v = AV.str t ∧ h = { objs := T.leaf.node (some (AObj.cells (T.fn fun j => some (cell j)) z (35 : TypeId) (0 : Nat) (0 : Nat) (1 : Nat) (0 : Nat) false T.leaf)) T.leaf, next := (1 : Nat), glob := G }) (ze P 14 [.slg 0 0 0 m 0] ⟨(.node .leaf (some (.cells (.fn fun j => some (cell j)) z 35 0 0 1 0 false .leaf)) .leaf), 1, G⟩)) ∧ ((!t == s) = false) ∧ (zb fun j => some (cell j)) ∧ (R (.tup [.slg 0 0 0 m 0, .int .i64 0]) (⟨(.node .leaf (some (.cells (.fn fun j => some (cell j)) z 35 0 0 1 0 false .leaf)) .leaf), 1, G⟩))) := by kernel_rfl
theorem dBw (R : AV → AHeap → Prop) (cell : Nat → AV) (s t : List UInt8) (n i : Int) (y m z : Nat) (G : T (T AV)) (_K : AM → Prop) : Obl P 19 (fun v h => R v h) 0 _K [.run 5, .know 12 false, .run 50, .callh [(1, 0, [])] [0] (.str t) ⟨(.node .leaf (some (.cells (.fn fun j => some (cell j)) z 35 0 0 1 0 false .leaf)) .leaf), 1, G⟩, .run 4, .know 36 true, .run 6, .can 0 [] [2, 3] [], .run 1, .done] ((DcB cell s n i 0 y m z G)) = ((decide (i < n) = false) ∧ (zb fun j => some (cell j)) ∧ (zb fun j => some (cell j)) ∧ (Goal P (1) 14 (fun v h => v = AV.str t ∧ h = { objs := T.leaf.node (some (AObj.cells (T.fn fun j => some (cell j)) z (35 : TypeId) (0 : Nat) (0 : Nat) (1 : Nat) (0 : Nat) false T.leaf)) T.leaf, next := (1 : Nat), glob := G }) (ze P 14 [.slg 0 0 0 m 0] ⟨(.node .leaf (some (.cells (.fn fun j => some (cell j)) z 35 0 0 1 0 false .leaf)) .leaf), 1, G⟩)) ∧ ((!t == s) = true) ∧ (R (.tup [.nils 0 0, .int .i64 4]) (⟨.leaf, 0, G⟩))) := by kernel_rfl
theorem dE (R : AV → AHeap → Prop) (G : T (T AV)) (_K : AM → Prop) : Obl P 19 (fun v h => R v h) 0 _K [.run 212, .can 0 [] [2, 3] [], .run 1, .done] ((zc P 19 [.str []] G)) = ((R (.tup [.nils 0 0, .int .i64 4]) (⟨.leaf, 0, G⟩))) := by kernel_rfl
theorem zkz (s : List UInt8) (Q : AV → AHeap → Prop) (G : T (T AV)) (K : AM → Prop) : Obl P 19 Q 0 K [.cap 0 0] (DN (.slg 1 0 0 s.length 0) s G) = (0 < s.length ∧ ∀ cap, s.length ≤ cap → K (DN (.slc 1 0 0 s.length cap) s G)) := by kernel_rfl
def zfP (n : Int) : Int := if n > 2147483647 then -1 else n
theorem zgI (s : List UInt8) (off len c : Nat) (hls : len ≤ s.length) (ho : 0 < len → off + len = s.length) (hc : len ≤ c) (hbig : len ≤ 9223372036854775807) {n : Int} {k : Nat} (hp : xm (mq.ahead s len) = some (n, k)) :
 ∃ off2 : Nat, (0 < len - k → off2 + (len - k) = s.length) ∧ Goal P 2 57 (fun v H => v = .int .i64 (zfP n) ∧ H = RG s off2 (len - k) (len - k) GW) (ze P 57 [.ptr 0 0 0] (RG s off len c GW)) := by
 obtain ⟨off2, h1, h2⟩ := zh4 s off len c hls ho hc hbig hp
 refine ⟨off2, h1, ?_⟩
 by_cases h : n > 2147483647
 · rw [zfP, if_pos h]
   exact Obl.goal (K := Goal P 2 57 _) mix (fun _ h => h) (cast (nuay _ (s) (n) (off) (len) (c) (off2) (len - k) GW _).symm ⟨zh s, zh s, h2, decide_eq_true h, rfl, rfl⟩)
 · rw [zfP, if_neg h]
   have h0 := (xe hp).1
   have w : IntKind.i64.wrap n = n := IntWalk.i64_in _ (by omega)
   exact Obl.goal (K := Goal P 2 57 _) mix (fun _ h => h) (cast (nuan _ (s) (n) (off) (len) (c) (off2) (len - k) GW _).symm ⟨zh s, zh s, h2, decide_eq_false h, by rw [w], rfl⟩)
theorem zff (s : List UInt8) (off len c : Nat) (hls : len ≤ s.length) (ho : 0 < len → off + len = s.length) (hc : len ≤ c) (hbig : len ≤ 9223372036854775807) (hp : xm (mq.ahead s len) = none) :
 Goal P 2 57 (fun v H => v = .int .i64 0 ∧ H = RZ s GW) (ze P 57 [.ptr 0 0 0] (RG s off len c GW)) :=
 Obl.goal (K := Goal P 2 57 _) mix (fun _ h => h) (cast (nub _ (s) (off) (len) (c) GW _).symm ⟨zh s, zh s, zfI s off len c hls ho hc hbig hp, rfl, rfl⟩)
theorem zmv : Goal P 1 57 (fun v H => v = .int .i64 0 ∧ H = RB GW) (ze P 57 [.ptr 0 0 0] (RB GW)) :=
 Obl.goal (K := Goal P 1 57 _) mix (fun _ h => h) (cast (nuz _ GW _).symm ⟨rfl, rfl⟩)
theorem wo {s : List UInt8} {x k : Nat} (hk : k ≤ x) (hx : x ≤ s.length) : mq.ahead s (x - k) = (mq.ahead s x).drop k := by
 unfold mq.ahead
 rw [List.drop_drop]
 congr 1
 omega
theorem zkX {d : Dg} (h : vA d = true) : one d = row (d.1.length : Nat) ++ (d.1 ++ (row d.2.1 ++ row d.2.2)) := by
 have h := of_decide_eq_true h
 have w1 : IntKind.u64.wrap d.2.1 = d.2.1 := IntWalk.u64_in _ (by omega)
 have w2 : IntKind.u64.wrap d.2.2 = d.2.2 := IntWalk.u64_in _ (by omega)
 unfold one zjw zdc
 rw [natw _ (by omega), w1, w2]
 simp only [List.nil_append, List.append_assoc]
theorem zkw (d : Dg) : 3 ≤ (one d).length := by
 have h1 := xH (IntKind.u64.wrap d.1.length)
 have h2 := xH (IntKind.u64.wrap d.2.1)
 have h3 := xH (IntKind.u64.wrap d.2.2)
 unfold one zjw zdc
 simp only [List.length_append, List.length_nil]
 omega
theorem ziq : ∀ l : List Dg, l.length * 3 ≤ (l.flatMap one).length
 | [] => by simp
 | d :: r => by
  have := ziq r
  have := zkw d
  simp only [List.flatMap_cons, List.length_append, List.length_cons]
  omega
theorem zav (l : List Dg) : l.length * 3 + 1 ≤ (y9 l).length := by
 have := ziq l
 have := xH (l.length : Nat)
 unfold y9
 simp only [List.length_append, List.length_nil]
 omega
theorem zmO (f : Nat → Dg) (n : Nat) (hn : n < 100000) : ∃ l, So (sl f 0 n) l := by
 rcases zfG (off := 0) (z := n * 3) (n := n) (cp := 0) (f := f) (Nat.le_refl _) hn with ⟨h, _⟩ | ⟨f', k, _, _, _, _, h, _⟩
 · exact ⟨_, h⟩
 · exact ⟨_, h⟩
abbrev Bad (m : AM) : Prop := Goal P 0 19 (fun v h => v = .tup [.nils 0 0, .int .i64 4] ∧ h = ⟨.leaf, 0, GW⟩) m
theorem neT {a b : List UInt8} (h : a ≠ b) : (!a == b) = true := by simp [h]
theorem neF {a b : List UInt8} (h : a = b) : (!a == b) = false := by simp [h]
theorem nzT {x : Nat} (h : 0 < x) : (!(x : Int) == 0) = true := by simp; omega
section
variable {s : List UInt8}
theorem bad_B (hs : s.length ≤ 200000) (hno : ∀ l, So l l → y9 l ≠ s) {n : Int} (x : Nat) : ∀ (y m z : Nat) (i : Int) (f : Nat → Dg), x ≤ s.length → (0 < x → y + x = s.length) → 0 < m → z = m * 3 → m * 3 + x ≤ s.length → Bad (DcB (el f) s n i x y m z GW) := by
 induction x using Nat.strongRecOn with
 | _ x ih =>
  intro y m z i f hx hy hm hz hmx
  subst hz
  by_cases hi : i < n
  · have t0 : (xm (mq.ahead s x) = none ∨ ∃ n k, xm (mq.ahead s x) = some (n, k) ∧ ((x - k : Nat) : Int) < n) ∨ ∃ n k, xm (mq.ahead s x) = some (n, k) ∧ n ≤ ((x - k : Nat) : Int) := by
     cases hp : xm (mq.ahead s x) with
     | none => exact .inl (.inl rfl)
     | some r =>
      obtain ⟨n1, k1⟩ := r
      by_cases h : n1 ≤ ((x - k1 : Nat) : Int)
      · exact .inr ⟨n1, k1, rfl, h⟩
      · exact .inl (.inr ⟨n1, k1, rfl, by omega⟩)
    rcases t0 with hp | ⟨n1, k1, hp, hn1⟩
    · exact Obl.goal (K := Goal P 0 19 _) mix (fun _ h => h) (cast (dBb0 _ (el f) _ (n) _ _ _ _ _ GW _).symm ⟨decide_eq_true hi, zh s, zh s, zdW s y x x hx hy (Nat.le_refl _) (by omega) hp, zmv, zmv, rfl, rfl⟩)
    · obtain ⟨y1, e1, g1⟩ := zcx s y x x hx hy (Nat.le_refl _) (by omega) hp hn1
      have p1 := xe hp
      rw [zB hx] at p1
      cases hp2 : xm (mq.ahead s (x - k1 - n1.toNat)) with
      | none => exact Obl.goal (K := Goal P 0 19 _) mix (fun _ h => h) (cast (dBb1 _ (el f) _ _ (n) _ _ _ _ _ _ _ GW _).symm ⟨decide_eq_true hi, zh s, zh s, g1, zh s, zh s, zff s y1 _ _ (by omega) e1 (Nat.le_refl _) (by omega) hp2, zmv, rfl, rfl⟩)
      | some r =>
       obtain ⟨n2, k2⟩ := r
       obtain ⟨y2, e2, g2⟩ := zgI s y1 _ _ (by omega) e1 (Nat.le_refl _) (by omega) hp2
       have p2 := xe hp2
       rw [zB (by omega)] at p2
       cases hp3 : xm (mq.ahead s (x - k1 - n1.toNat - k2)) with
       | none => exact Obl.goal (K := Goal P 0 19 _) mix (fun _ h => h) (cast (dBb2 _ (el f) _ _ (n) _ _ _ _ _ _ _ _ _ _ GW _).symm ⟨decide_eq_true hi, zh s, zh s, g1, zh s, zh s, g2, zh s, zh s, zff s y2 _ _ (by omega) e2 (Nat.le_refl _) (by omega) hp3, rfl, rfl⟩)
       | some r =>
        obtain ⟨n3, k3⟩ := r
        obtain ⟨y3, e3, g3⟩ := zgI s y2 _ _ (by omega) e2 (Nat.le_refl _) (by omega) hp3
        have p3 := xe hp3
        rw [zB (by omega)] at p3
        have q1 := xH n1
        have q2 := xH n2
        have q3 := xH n3
        have hih := ih (x - k1 - n1.toNat - k2 - k3) (by omega) y3 (m + 1) (0 + m * 3 + 3) (IntKind.u64.wrap (i + 1)) (upd f m (((mq.ahead s x).drop k1).take n1.toNat, zfP n2, zfP n3)) (by omega) e3 (by omega) (by omega) (by omega)
        exact Obl.goal (K := Goal P 0 19 _) mix (fun _ h => h) (cast (dBg _ (el f) (el (upd f m (((mq.ahead s x).drop k1).take n1.toNat, zfP n2, zfP n3))) _ _ _ _ _ _ _ _ _ _ _ _ _ _ _ _ _ GW _).symm ⟨decide_eq_true hi, zh s, zh s, g1, zh s, zh s, g2, zh s, zh s, g3,
         ⟨⟨by rw [yG]; omega, fun k hk => by
          rw [yG] at hk
          have hr : k = 0 ∨ k = 1 ∨ k = 2 := by omega
          rcases hr with h | h | h <;> subst h <;> exact ⟨_, rfl, rfl⟩⟩, by omega, by omega, by omega, by omega, by
           unfold xV
           rw [Bool.and_eq_true, Nat.ble_eq, Nat.blt_eq]
           constructor <;> omega, by omega⟩, zcP f m (((mq.ahead s x).drop k1).take n1.toNat) (zfP n2) (zfP n3) yG, rfl, zi _, zh s, hih⟩)
  · by_cases h0 : x = 0
    · subst h0
      obtain ⟨l, hl⟩ := zmO f m (by omega)
      exact Obl.goal (K := Goal P 0 19 _) mix (fun _ h => h) (cast (dBw _ (el f) _ (y9 l) _ _ _ _ _ GW _).symm ⟨decide_eq_false hi, zi _, zi _, ziJ (off := 0) (z := m * 3) (cp := 0) (Nat.le_refl _) (by omega) hl, neT (hno l hl.self), rfl, rfl⟩)
    · exact Obl.goal (K := Goal P 0 19 _) mix (fun _ h => h) (cast (dBx _ (el f) _ _ _ (x) _ _ _ GW _).symm ⟨decide_eq_false hi, nzT (by omega), rfl, rfl⟩)
theorem bad_A (hs : s.length ≤ 200000) (hno : ∀ l, So l l → y9 l ≠ s) {n : Int} (x y : Nat) (hx : x ≤ s.length) (hy : 0 < x → y + x = s.length) : Bad (DcA s n 0 x y GW) := by
 by_cases hi : (0 : Int) < n
 · have t0 : (xm (mq.ahead s x) = none ∨ ∃ n k, xm (mq.ahead s x) = some (n, k) ∧ ((x - k : Nat) : Int) < n) ∨ ∃ n k, xm (mq.ahead s x) = some (n, k) ∧ n ≤ ((x - k : Nat) : Int) := by
    cases hp : xm (mq.ahead s x) with
    | none => exact .inl (.inl rfl)
    | some r =>
     obtain ⟨n1, k1⟩ := r
     by_cases h : n1 ≤ ((x - k1 : Nat) : Int)
     · exact .inr ⟨n1, k1, rfl, h⟩
     · exact .inl (.inr ⟨n1, k1, rfl, by omega⟩)
   rcases t0 with hp | ⟨n1, k1, hp, hn1⟩
   · exact Obl.goal (K := Goal P 0 19 _) mix (fun _ h => h) (cast (dAb0 _ _ (n) _ _ _ GW _).symm ⟨decide_eq_true hi, zh s, zh s, zdW s y x x hx hy (Nat.le_refl _) (by omega) hp, zmv, zmv, rfl, rfl⟩)
   · obtain ⟨y1, e1, g1⟩ := zcx s y x x hx hy (Nat.le_refl _) (by omega) hp hn1
     have p1 := xe hp
     rw [zB hx] at p1
     cases hp2 : xm (mq.ahead s (x - k1 - n1.toNat)) with
     | none => exact Obl.goal (K := Goal P 0 19 _) mix (fun _ h => h) (cast (dAb1 _ _ _ (n) _ _ _ _ _ GW _).symm ⟨decide_eq_true hi, zh s, zh s, g1, zh s, zh s, zff s y1 _ _ (by omega) e1 (Nat.le_refl _) (by omega) hp2, zmv, rfl, rfl⟩)
     | some r =>
      obtain ⟨n2, k2⟩ := r
      obtain ⟨y2, e2, g2⟩ := zgI s y1 _ _ (by omega) e1 (Nat.le_refl _) (by omega) hp2
      have p2 := xe hp2
      rw [zB (by omega)] at p2
      cases hp3 : xm (mq.ahead s (x - k1 - n1.toNat - k2)) with
      | none => exact Obl.goal (K := Goal P 0 19 _) mix (fun _ h => h) (cast (dAb2 _ _ _ (n) _ _ _ _ _ _ _ _ GW _).symm ⟨decide_eq_true hi, zh s, zh s, g1, zh s, zh s, g2, zh s, zh s, zff s y2 _ _ (by omega) e2 (Nat.le_refl _) (by omega) hp3, rfl, rfl⟩)
      | some r =>
       obtain ⟨n3, k3⟩ := r
       obtain ⟨y3, e3, g3⟩ := zgI s y2 _ _ (by omega) e2 (Nat.le_refl _) (by omega) hp3
       have p3 := xe hp3
       rw [zB (by omega)] at p3
       have q1 := xH n1
       have q2 := xH n2
       have q3 := xH n3
       exact Obl.goal (K := Goal P 0 19 _) mix (fun _ h => h) (cast (dAg _ (el (fun _ => (((mq.ahead s x).drop k1).take n1.toNat, zfP n2, zfP n3))) _ _ _ _ _ _ _ _ _ _ _ _ _ _ (3) GW _).symm ⟨decide_eq_true hi, zh s, zh s, g1, zh s, zh s, g2, zh s, zh s, g3, za3 _ _ _, rfl, zi _, zh s, bad_B hs hno _ y3 1 3 _ _ (by omega) e3 (by omega) (by omega) (by omega)⟩)
 · by_cases h0 : x = 0
   · subst h0
     exact Obl.goal (K := Goal P 0 19 _) mix (fun _ h => h) (cast (dAw _ _ (y9 []) _ _ _ GW _).symm ⟨decide_eq_false hi, zhG, neT (hno [] ⟨.nil, by simp⟩), rfl, rfl⟩)
   · exact Obl.goal (K := Goal P 0 19 _) mix (fun _ h => h) (cast (dAx _ _ _ _ (x) _ GW _).symm ⟨decide_eq_false hi, nzT (by omega), rfl, rfl⟩)
theorem jU {Q : AV → AHeap → Prop} (h0 : 0 < s.length) (hs : s.length ≤ 200000) {n : Int} {k : Nat} (hp : xm s = some (n, k)) (h : ∀ y, (0 < s.length - k → y + (s.length - k) = s.length) → Goal P 0 19 Q (DcA s n 0 (s.length - k) y GW)) : Goal P 0 19 Q (zc P 19 [.str s] GW) := by
 have hal : mq.ahead s s.length = s := by unfold mq.ahead; rw [Nat.sub_self]; rfl
 refine Obl.goal (K := Goal P 0 19 _) mix (fun _ h => h) (cast (d0 _ _ GW _).symm ⟨zh s, ziC 0 s, zh s, Obl.goal (K := Goal P 0 19 _) mix (fun _ h => h) (cast (zkz s _ GW _).symm ⟨h0, fun cap hcap => ?_⟩)⟩)
 obtain ⟨y2, e, g⟩ := zh4 s 0 s.length cap (Nat.le_refl _) (fun _ => by omega) hcap (by omega) (by rw [hal]; exact hp)
 exact Obl.goal (K := Goal P 0 19 _) mix (fun _ h => h) (cast (d1 _ _ (n) (s.length) (cap) (s.length - k) (y2) GW _).symm ⟨zh s, zh s, g, zh s, h y2 e⟩)
theorem zka (h0 : 0 < s.length) (hs : s.length ≤ 200000) (hp : xm s = none) : Bad (zc P 19 [.str s] GW) := by
 have hal : mq.ahead s s.length = s := by unfold mq.ahead; rw [Nat.sub_self]; rfl
 refine Obl.goal (K := Goal P 0 19 _) mix (fun _ h => h) (cast (d0 _ _ GW _).symm ⟨zh s, ziC 0 s, zh s, Obl.goal (K := Goal P 0 19 _) mix (fun _ h => h) (cast (zkz s _ GW _).symm ⟨h0, fun cap hcap => ?_⟩)⟩)
 have g := zfI s 0 s.length cap (Nat.le_refl _) (fun _ => by omega) hcap (by omega) (by rw [hal]; exact hp)
 exact Obl.goal (K := Goal P 0 19 _) mix (fun _ h => h) (cast (d2 _ _ (s.length) (cap) GW _).symm ⟨zh s, zh s, g, Obl.goal (K := Goal P 0 19 _) mix (fun _ h => h) (cast (d3 _ _ GW _).symm ⟨rfl, rfl⟩)⟩)
theorem zl8 (hs : s.length ≤ 200000) (hno : ∀ l, So l l → y9 l ≠ s) : Bad (zc P 19 [.str s] GW) := by
 by_cases h0 : 0 < s.length
 · cases hp : xm s with
   | none => exact zka h0 hs hp
   | some r =>
    obtain ⟨n, k⟩ := r
    exact jU h0 hs hp fun y hy => bad_A hs hno _ y (by omega) hy
 · obtain rfl : s = [] := List.eq_nil_of_length_eq_zero (by omega)
   exact Obl.goal (K := Goal P 0 19 _) mix (fun _ h => h) (cast (dE _ GW _).symm ⟨rfl, rfl⟩)
theorem xL (a b : List UInt8) : (a ++ b).drop a.length = b := List.drop_left
theorem zfW (a b : List UInt8) : (a ++ b).take a.length = a := List.take_left
theorem zfs (hs : s.length ≤ 200000) {x y : Nat} (hx : x ≤ s.length) (hy : 0 < x → y + x = s.length) {d : Dg} (hd : vA d = true) {rest : List UInt8} (ha : mq.ahead s x = one d ++ rest) :
 ∃ x1 x2 x3 y1 y2 y3, Goal P 2 56 (fun v H => v = .str d.1 ∧ H = RG s y1 x1 x1 GW) (ze P 56 [.ptr 0 0 0] (RG s y x x GW)) ∧
  Goal P 2 57 (fun v H => v = .int .i64 d.2.1 ∧ H = RG s y2 x2 x2 GW) (ze P 57 [.ptr 0 0 0] (RG s y1 x1 x1 GW)) ∧
  Goal P 2 57 (fun v H => v = .int .i64 d.2.2 ∧ H = RG s y3 x3 x3 GW) (ze P 57 [.ptr 0 0 0] (RG s y2 x2 x2 GW)) ∧
  x3 ≤ s.length ∧ (0 < x3 → y3 + x3 = s.length) ∧ mq.ahead s x3 = rest := by
 have hb := of_decide_eq_true hd
 rw [zkX hd] at ha
 simp only [List.append_assoc] at ha
 have hal := zB hx
 have hp : xm (mq.ahead s x) = some (((d.1.length : Nat) : Int), (row ((d.1.length : Nat) : Int)).length) := by
  rw [ha]
  exact yb _ (by omega) (by omega) _
 rw [ha] at hal
 simp only [List.length_append] at hal
 obtain ⟨y1, e1, g1⟩ := zcx s y x x hx hy (Nat.le_refl _) (by omega) hp (by omega)
 have a1 : mq.ahead s (x - (row ((d.1.length : Nat) : Int)).length - ((d.1.length : Nat) : Int).toNat) = row d.2.1 ++ (row d.2.2 ++ rest) := by
  rw [wo (by rw [Int.toNat_natCast]; omega) (by omega), wo (by omega) hx, ha, xL, Int.toNat_natCast, xL]
 have t1 : ((mq.ahead s x).drop (row ((d.1.length : Nat) : Int)).length).take ((d.1.length : Nat) : Int).toNat = d.1 := by
  rw [ha, xL, Int.toNat_natCast, zfW]
 rw [t1] at g1
 have hp2 := yb d.2.1 (by omega) (by omega) (row d.2.2 ++ rest)
 rw [← a1] at hp2
 obtain ⟨y2, e2, g2⟩ := zgI s y1 _ _ (by omega) e1 (Nat.le_refl _) (by omega) hp2
 have a2 : mq.ahead s (x - (row ((d.1.length : Nat) : Int)).length - ((d.1.length : Nat) : Int).toNat - (row d.2.1).length) = row d.2.2 ++ rest := by
  rw [wo (by rw [Int.toNat_natCast]; omega) (by omega), a1, xL]
 have hp3 := yb d.2.2 (by omega) (by omega) rest
 rw [← a2] at hp3
 obtain ⟨y3, e3, g3⟩ := zgI s y2 _ _ (by omega) e2 (Nat.le_refl _) (by omega) hp3
 have n2 : zfP d.2.1 = d.2.1 := if_neg (by omega)
 have n3 : zfP d.2.2 = d.2.2 := if_neg (by omega)
 rw [n2] at g2
 rw [n3] at g3
 exact ⟨_, _, _, y1, y2, y3, g1, g2, g3, by omega, e3, by rw [wo (by rw [Int.toNat_natCast]; omega) (by omega), a2, xL]⟩
theorem up64 (k : Nat) (h : k < 1000000) : IntKind.u64.wrap ((k : Int) + 1) = ((k + 1 : Nat) : Int) := by rw [IntWalk.u64_in _ (by omega)]; omega
theorem zb2 {α : Type} (g : Nat → α) (m r : Nat) : sl g m (r + 1) = g m :: sl g (m + 1) r := rfl
theorem ok_B (hs : s.length ≤ 200000) {ms : List Dg} (hm : So ms ms) (he : y9 ms = s) {g : Nat → Dg} {M : Nat} (hg : sl g 0 M = ms) : ∀ (r m x y z : Nat) (f : Nat → Dg), m + r = M → 0 < m → z = m * 3 → (∀ t, t < m → f t = g t) → x ≤ s.length → (0 < x → y + x = s.length) → mq.ahead s x = (sl g m r).flatMap one →
 ∃ f', sl f' 0 M = ms ∧ Goal P 0 19 (fun v h => v = .tup [.slg 0 0 0 M 0, .int .i64 0] ∧ h = HCo f' 0 (M * 3)) (DcB (el f) s M m x y m z GW)
 | 0, m, x, y, z, f, hr, h0, hz, hf, hx, hy, ha => by
  obtain rfl : m = M := by omega
  subst hz
  have hal := zB hx
  rw [ha] at hal
  obtain rfl : x = 0 := hal.symm
  have hM := zav ms
  rw [he, ← hg, yj] at hM
  have hf' : sl f 0 m = ms := by rw [← hg]; exact yP m 0 fun t _ h => hf t (by omega)
  have hso : So (sl f 0 m) ms := by rw [hf']; exact hm
  exact ⟨f, hf', Obl.goal (K := Goal P 0 19 _) mix (fun _ h => h) (cast (dBn _ (el f) _ (y9 ms) _ _ _ _ _ GW _).symm ⟨decide_eq_false (by omega), zi _, zi _, ziJ (off := 0) (z := m * 3) (cp := 0) (Nat.le_refl _) (by omega) hso, neF he, zi _, rfl, rfl⟩)⟩
 | r + 1, m, x, y, z, f, hr, h0, hz, hf, hx, hy, ha => by
  subst hz
  have hM := zav ms
  rw [he, ← hg, yj] at hM
  have hd : vA (g m) = true := ((hm.2 (g m)).1 (by rw [← hg]; exact vN g M 0 m (by omega) (by omega))).2
  rw [zb2, List.flatMap_cons] at ha
  obtain ⟨x1, x2, x3, y1, y2, y3, g1, g2, g3, l3, e3, a3⟩ := zfs hs hx hy hd ha
  obtain ⟨f', q1, q2⟩ := ok_B hs hm he hg r (m + 1) x3 y3 (0 + m * 3 + 3) (upd f m (g m)) (by omega) (by omega) (by omega) (fun t ht => by
   unfold upd
   by_cases h : t = m
   · rw [if_pos h, h]
   · rw [if_neg h]; exact hf t (by omega)) l3 e3 a3
  refine ⟨f', q1, Obl.goal (K := Goal P 0 19 _) mix (fun _ h => h) (cast (dBg _ (el f) (el (upd f m (g m))) _ _ _ _ _ _ _ _ _ _ _ _ _ _ _ _ _ GW _).symm ⟨decide_eq_true (by omega), zh s, zh s, g1, zh s, zh s, g2, zh s, zh s, g3,
   ⟨⟨by rw [yG]; omega, fun k hk => by
    rw [yG] at hk
    have hr : k = 0 ∨ k = 1 ∨ k = 2 := by omega
    rcases hr with h | h | h <;> subst h <;> exact ⟨_, rfl, rfl⟩⟩, by omega, by omega, by omega, by omega, by
     unfold xV
     rw [Bool.and_eq_true, Nat.ble_eq, Nat.blt_eq]
     constructor <;> omega, by omega⟩, zcP f m (g m).1 (g m).2.1 (g m).2.2 yG, rfl, zi _, zh s, by rw [up64 m (by omega)]; exact q2⟩)⟩
theorem zmZ (hs : s.length ≤ 200000) {ms : List Dg} (hm : So ms ms) (he : y9 ms = s) :
 (ms = [] ∧ Goal P 0 19 (fun v h => v = .tup [.nils 0 0, .int .i64 0] ∧ h = ⟨.leaf, 0, GW⟩) (zc P 19 [.str s] GW)) ∨
  (0 < ms.length ∧ ∃ f', sl f' 0 ms.length = ms ∧ Goal P 0 19 (fun v h => v = .tup [.slg 0 0 0 ms.length 0, .int .i64 0] ∧ h = HCo f' 0 (ms.length * 3)) (zc P 19 [.str s] GW)) := by
 have hM := zav ms
 rw [he] at hM
 have hse : s = row (ms.length : Nat) ++ ms.flatMap one := by rw [← he]; unfold y9; rw [List.nil_append]
 have hal : mq.ahead s s.length = s := by unfold mq.ahead; rw [Nat.sub_self]; rfl
 have hrl : (row (ms.length : Nat)).length ≤ s.length := by rw [hse, List.length_append]; omega
 have hp : xm s = some (((ms.length : Nat) : Int), (row (ms.length : Nat)).length) := by
  rw [hse]
  exact yb _ (by omega) (by omega) _
 have ha : mq.ahead s (s.length - (row (ms.length : Nat)).length) = ms.flatMap one := by
  rw [wo hrl (Nat.le_refl _), hal]
  conv => lhs; rw [hse]
  exact xL _ _
 by_cases h0 : ms = []
 · subst h0
   refine .inl ⟨rfl, jU (by omega) hs hp fun y hy => ?_⟩
   have hx : s.length - (row (([] : List Dg).length : Nat)).length = 0 := by
    have := zB (s := s) (len := s.length - (row (([] : List Dg).length : Nat)).length) (by omega)
    rw [ha] at this
    exact this.symm
   rw [hx]
   exact Obl.goal (K := Goal P 0 19 _) mix (fun _ h => h) (cast (dAn _ _ (y9 []) _ _ _ GW _).symm ⟨decide_eq_false (by decide), zhG, neF he, rfl, rfl⟩)
 · have hpos : 0 < ms.length := List.length_pos_iff.2 h0
   refine .inr ⟨hpos, ?_⟩
   obtain ⟨M, hMM⟩ : ∃ M, ms.length = M + 1 := ⟨ms.length - 1, by omega⟩
   have hg : sl (fun i => ms.getD i zd) 0 (M + 1) = ms := by
    refine List.ext_getElem? fun i => ?_
    by_cases hi : i < M + 1
    · rw [wp _ _ _ _ hi, Nat.zero_add, List.getD_eq_getElem?_getD, List.getElem?_eq_getElem (by omega)]
      rfl
    · rw [List.getElem?_eq_none (by rw [yj]; omega), List.getElem?_eq_none (by omega)]
   generalize hgd : (fun i => ms.getD i zd) = g at hg
   have hd : vA (g 0) = true := ((hm.2 (g 0)).1 (by rw [← hg]; exact vN g (M + 1) 0 0 (by omega) (by omega))).2
   have hx : s.length - (row (ms.length : Nat)).length ≤ s.length := by omega
   have ha' : mq.ahead s (s.length - (row (ms.length : Nat)).length) = one (g 0) ++ (sl g 1 M).flatMap one := by
    rw [ha, ← List.flatMap_cons, ← zb2, hg]
   have key : ∀ y, (0 < s.length - (row (ms.length : Nat)).length → y + (s.length - (row (ms.length : Nat)).length) = s.length) → ∃ f', sl f' 0 ms.length = ms ∧ Goal P 0 19 (fun v h => v = .tup [.slg 0 0 0 ms.length 0, .int .i64 0] ∧ h = HCo f' 0 (ms.length * 3)) (DcA s (ms.length : Nat) 0 (s.length - (row (ms.length : Nat)).length) y GW) := by
    intro y hy
    obtain ⟨x1, x2, x3, y1, y2, y3, g1, g2, g3, l3, e3, a3⟩ := zfs hs hx hy hd ha'
    obtain ⟨f', q1, q2⟩ := ok_B hs hm he hg M 1 x3 y3 3 (fun _ => g 0) (by omega) (by omega) (by omega) (fun t ht => by
     obtain rfl : t = 0 := by omega
     rfl) l3 e3 a3
    rw [← hMM] at q1 q2
    exact ⟨f', q1, Obl.goal (K := Goal P 0 19 _) mix (fun _ h => h) (cast (dAg _ (el (fun _ => g 0)) _ _ _ _ _ _ _ _ _ _ _ _ _ _ (3) GW _).symm ⟨decide_eq_true (by omega), zh s, zh s, g1, zh s, zh s, g2, zh s, zh s, g3, za3 _ _ _, rfl, zi _, zh s, q2⟩)⟩
   by_cases hrow : 0 < s.length - (row (ms.length : Nat)).length
   · obtain ⟨f', q1, q2⟩ := key (row (ms.length : Nat)).length (fun _ => by omega)
     refine ⟨f', q1, jU (by omega) hs hp fun y hy => ?_⟩
     have : y = (row (ms.length : Nat)).length := by have := hy hrow; omega
     rw [this]
     exact q2
   · have h1 := zB hx
     rw [ha'] at h1
     have := zkw (g 0)
     rw [List.length_append] at h1
     omega
end
end Go.Proofs.YtdbfpjgnlfejmaaDoor.dg
end
section
set_option maxRecDepth 100000
set_option linter.unusedVariables false
namespace Go.Proofs.YtdbfpjgnlfejmaaDoor.dg
open Go Ev mq
def zm1 (r : Option (AV × AHeap)) : Option AR := match r with
 | none => none
 | some (v, h) => some (.val v h)
theorem zca : Goal P 0 18 (fun x _ => x = AV.bool true) (zc P 18 [] GW) := Goal.ofRun mix (n := 20000) (by kernel_rfl) fun _ => rfl
theorem zcn {f g : Nat → Dg} {i j : Nat} (h : i % 3 = j % 3) (e : f (i / 3) = g (j / 3)) : el f i = el g j := by
 unfold el
 rw [h, e]
theorem beqF {α : Type} [BEq α] [LawfulBEq α] {a b : α} (h : ¬ a = b) : (a == b) = false := by rw [← Bool.not_eq_true, beq_iff_eq]; exact h
section
variable {off z m cp : Nat} {f : Nat → Dg} {tn : Int}
theorem get_one (c : Nat → AV) (hc : ∀ k, (c k).one = true) (o q : Nat) : ∀ k, k < q → ∃ v, (T.fn fun c' => some (c c')).get (o + k) = some v ∧ v.one = true := fun k _ => ⟨c (o + k), rfl, hc _⟩
end
end Go.Proofs.YtdbfpjgnlfejmaaDoor.dg
end
