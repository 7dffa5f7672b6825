/- SHA-256's words: what the program's and the document's operations on them come to, in terms of words of 32 bits. -/
import Derived.Test.YtcdgbadnnodbeaaDoorEvSc
import Derived.IntWalk
set_option maxRecDepth 100000
namespace Go.Proofs.YtcdgbadnnodbeaaDoor.shaW
open Go Ev

abbrev W32 := BitVec 32
def iw (x : W32) : Int := (x.toNat : Int)

/-! ## Of integers, as the evaluator leaves them -/

def xa (a b : Int) : Int := IntKind.u32.wrap (a + b)
def xx (a b : Int) : Int := IntKind.u32.wrap ((BitVec.ofInt 32 a ^^^ BitVec.ofInt 32 b).toNat : Int)
def xo (a b : Int) : Int := IntKind.u32.wrap ((BitVec.ofInt 32 a ||| BitVec.ofInt 32 b).toNat : Int)
def xn (a b : Int) : Int := IntKind.u32.wrap ((BitVec.ofInt 32 a &&& BitVec.ofInt 32 b).toNat : Int)
def xl (a : Int) (n : Nat) : Int := IntKind.u32.wrap (a * 2 ^ n)
def xr (a : Int) (n : Nat) : Int := a.fdiv (2 ^ n)
def xc (a : Int) : Int := IntKind.u32.wrap ((BitVec.ofInt 32 IntKind.u32.max ^^^ BitVec.ofInt 32 a).toNat : Int)

theorem iw_range (x : W32) : 0 ≤ iw x ∧ iw x ≤ 4294967295 := by
  have := x.isLt
  unfold iw
  omega

theorem wrap_iw (x : W32) : IntKind.u32.wrap (x.toNat : Int) = iw x := IntWalk.u32_in _ (iw_range x)

theorem of_iw (x : W32) : BitVec.ofInt 32 (iw x) = x := by
  unfold iw
  rw [BitVec.ofInt_natCast, BitVec.ofNat_toNat, BitVec.setWidth_eq]

theorem wrap_mod (n : Nat) : IntKind.u32.wrap (n : Int) = ((n % 4294967296 : Nat) : Int) := by
  show (n : Int) % 4294967296 = _
  omega

theorem xa_iw (a b : W32) : xa (iw a) (iw b) = iw (a + b) := by
  unfold xa iw
  rw [← Int.natCast_add, wrap_mod, BitVec.toNat_add]

theorem xx_iw (a b : W32) : xx (iw a) (iw b) = iw (a ^^^ b) := by
  unfold xx; rw [of_iw, of_iw, wrap_iw]
theorem xo_iw (a b : W32) : xo (iw a) (iw b) = iw (a ||| b) := by
  unfold xo; rw [of_iw, of_iw, wrap_iw]
theorem xn_iw (a b : W32) : xn (iw a) (iw b) = iw (a &&& b) := by
  unfold xn; rw [of_iw, of_iw, wrap_iw]
theorem xl_iw (a : W32) (n : Nat) : xl (iw a) n = iw (a <<< n) := by
  unfold xl iw
  rw [show ((a.toNat : Int) * 2 ^ n) = ((a.toNat * 2 ^ n : Nat) : Int) by push_cast; rfl, wrap_mod, BitVec.toNat_shiftLeft, Nat.shiftLeft_eq]
theorem xr_iw (a : W32) (n : Nat) : xr (iw a) n = iw (a >>> n) := by
  unfold xr iw
  rw [BitVec.toNat_ushiftRight, Nat.shiftRight_eq_div_pow, Int.natCast_ediv, Int.fdiv_eq_ediv_of_nonneg]
  · push_cast; rfl
  · exact Int.le_of_lt (Int.pow_pos (by decide))
theorem xc_iw (a : W32) : xc (iw a) = iw (~~~a) := by
  unfold xc; rw [of_iw, wrap_iw, show BitVec.ofInt 32 IntKind.u32.max = BitVec.allOnes 32 by decide, BitVec.allOnes_xor]

/-! ## The words of the standard -/

def rr (x : W32) (n m : Nat) : W32 := x <<< m ||| x >>> n
def S1 (e : W32) : W32 := rr e 6 26 ^^^ rr e 11 21 ^^^ rr e 25 7
def S0 (a : W32) : W32 := rr a 2 30 ^^^ rr a 13 19 ^^^ rr a 22 10
def s0 (x : W32) : W32 := rr x 7 25 ^^^ rr x 18 14 ^^^ x >>> 3
def s1 (x : W32) : W32 := rr x 17 15 ^^^ rr x 19 13 ^^^ x >>> 10
def ch (e f g : W32) : W32 := (e &&& f) ^^^ (~~~e &&& g)
def mj (a b c : W32) : W32 := (a &&& b) ^^^ (a &&& c) ^^^ (b &&& c)
/-- One round. -/
def rnd (v : Nat → W32) (kw : W32) : Nat → W32
  | 0 => v 7 + S1 (v 4) + ch (v 4) (v 5) (v 6) + kw + (S0 (v 0) + mj (v 0) (v 1) (v 2))
  | 1 => v 0
  | 2 => v 1
  | 3 => v 2
  | 4 => v 3 + (v 7 + S1 (v 4) + ch (v 4) (v 5) (v 6) + kw)
  | 5 => v 4
  | 6 => v 5
  | 7 => v 6
  | _ => 0

def bw (x : UInt8) : W32 := BitVec.ofNat 32 x.toNat
/-- A block's own words. -/
def word (m : Nat → UInt8) (j : Nat) : W32 := bw (m j) <<< 24 ||| bw (m (j + 1)) <<< 16 ||| bw (m (j + 2)) <<< 8 ||| bw (m (j + 3))
/-- All of its words, of which the first i are there. -/
def tab (m : Nat → UInt8) : Nat → Nat → W32
  | 0 => fun _ => 0
  | i + 1 => fun k => bif Nat.beq k i then (bif Nat.blt i 16 then word m (4 * i) else s1 (tab m i (i - 2)) + tab m i (i - 7) + s0 (tab m i (i - 15)) + tab m i (i - 16)) else tab m i k
/-- The round words. -/
def kk (i : Nat) : W32 := BitVec.ofNat 32 (([1116352408, 1899447441, 3049323471, 3921009573, 961987163, 1508970993, 2453635748, 2870763221, 3624381080, 310598401, 607225278, 1426881987, 1925078388, 2162078206, 2614888103, 3248222580, 3835390401, 4022224774, 264347078, 604807628, 770255983, 1249150122, 1555081692, 1996064986, 2554220882, 2821834349, 2952996808, 3210313671, 3336571891, 3584528711, 113926993, 338241895, 666307205, 773529912, 1294757372, 1396182291, 1695183700, 1986661051, 2177026350, 2456956037, 2730485921, 2820302411, 3259730800, 3345764771, 3516065817, 3600352804, 4094571909, 275423344, 430227734, 506948616, 659060556, 883997877, 958139571, 1322822218, 1537002063, 1747873779, 1955562222, 2024104815, 2227730452, 2361852424, 2428436474, 2756734187, 3204031479, 3329325298] : List Nat).getD i 0)
/-- The state behind i rounds. -/
def rnds (w : Nat → W32) (v : Nat → W32) : Nat → Nat → W32
  | 0 => v
  | i + 1 => rnd (rnds w v i) (kk i + w i)
/-- The state behind a block. -/
def blk (v : Nat → W32) (m : Nat → UInt8) : Nat → W32 := fun k => rnds (tab m 64) v 64 k + v k

theorem bw_iw (x : UInt8) : IntKind.u32.wrap (x.toNat : Int) = iw (bw x) := by
  unfold iw bw
  rw [wrap_mod, BitVec.toNat_ofNat]

end Go.Proofs.YtcdgbadnnodbeaaDoor.shaW
