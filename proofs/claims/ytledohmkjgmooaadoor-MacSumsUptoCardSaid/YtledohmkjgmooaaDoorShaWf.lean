/- The document's SHA-256 of a block: its words, and all its rounds. -/
import Derived.Test.YtledohmkjgmooaaDoorShaWe
set_option maxRecDepth 100000
namespace Go.Proofs.YtledohmkjgmooaaDoor.shaW
open Go Ev

/-! ## Words -/

def jword (a b c d : Int) : Int := xo (xo (xo (xl (IntKind.u32.wrap a) 24) (xl (IntKind.u32.wrap b) 16)) (xl (IntKind.u32.wrap c) 8)) (IntKind.u32.wrap d)

theorem roundR (G : T (T AV)) (i : Int) (R : AV → Prop) (_K : AM → Prop) : Obl P 28 (fun v _ => R v) 0 _K [.run 13, .op, .told 0 (.fn fun k => some (.int .u32 (KI k))) 64, .op, .run 3, .done] (startM P 28 [.int .i64 i] G) =
  ((0 ≤ i ∧ i < ((64 : Nat) : Int)) ∧ Tells 64 (.fn fun k => some (.int .u32 (KI k))) (storeList .leaf 0 (wl KI)) ∧ (64 = 64) ∧ (pl 0 i + 1 ≤ 64) ∧ R (.int .u32 (KI (pl 0 i)))) := by kernel_rfl

theorem roundR_ok (G : T (T AV)) (i : Nat) (h : i < 64) : Goal P 0 28 (fun x _ => x = .int .u32 (iw (kk i))) (startM P 28 [.int .i64 (i : Int)] G) := by
  have hp : pl 0 (i : Int) = i := by unfold pl; omega
  exact Obl.goal (K := fun _ => False) mix (fun _ h => h.elim) (cast (roundR G i (fun x => x = .int .u32 (iw (kk i))) _).symm ⟨by omega, tells_wl _, rfl, by rw [hp]; omega, by rw [hp]; rfl⟩)

theorem wordR (G : T (T AV)) (s : List UInt8) (R : AV → Prop) (_K : AM → Prop) : Obl P 26 (fun v _ => R v) 0 _K [.run 7, .op, .run 3, .op, .run 4, .op, .run 4, .op, .run 5, .done] (startM P 26 [.str s] G) =
  (((0 : Int) ≤ 0 ∧ (0 : Int) < (s.length : Int)) ∧ ((0 : Int) ≤ 1 ∧ (1 : Int) < (s.length : Int)) ∧ ((0 : Int) ≤ 2 ∧ (2 : Int) < (s.length : Int)) ∧ ((0 : Int) ≤ 3 ∧ (3 : Int) < (s.length : Int)) ∧ R (.int .u32 (iword (s.getD 0 0).toNat (s.getD 1 0).toNat (s.getD 2 0).toNat (s.getD 3 0).toNat))) := by kernel_rfl

theorem wordR_ok (G : T (T AV)) (s : List UInt8) (h : s.length = 4) : Goal P 0 26 (fun x _ => x = .int .u32 (iw (word (fun k => s.getD k 0) 0))) (startM P 26 [.str s] G) :=
  Obl.goal (K := fun _ => False) mix (fun _ h => h.elim) (cast (wordR G s (fun x => x = .int .u32 (iw (word (fun k => s.getD k 0) 0))) _).symm ⟨by omega, by omega, by omega, by omega, by rw [iword_ok]; rfl⟩)

noncomputable def M18a (G : T (T AV)) (s : List UInt8) (a w : Nat → Int) (i : Int) : AM := ⟨⟨18, 169, (.node (.node .leaf (some (.str s)) (.node .leaf (some (.ptr 2 0 0)) .leaf)) none (.node (.node .leaf (some (.ptr 1 0 0)) .leaf) (some (.ptr 0 0 0)) (.node .leaf (some (.int .i64 i)) .leaf))),
   [.code (cd P (18 : Nat) [(1 : Nat), (1 : Nat), (0 : Nat), (1 : Nat), (0 : Nat), (0 : Nat)]), .inLoop (cd P (18 : Nat) [(1 : Nat), (1 : Nat), (0 : Nat), (1 : Nat), (0 : Nat), (0 : Nat)]), .inBlock 0, .code (cd P (18 : Nat) [(1 : Nat), (1 : Nat), (1 : Nat)])], [], .run, CallKind.normal, none⟩,
  [],
  ⟨(.node (.node .leaf (some (.cells (T8 fun _ => 0) 8 35 0 0 1 0 false .leaf)) .leaf) (some (.cells (T8 a) 8 35 0 0 1 0 false .leaf)) (.node .leaf (some (.cells (.fn fun k => some (.int .u32 (w k))) 64 44 0 0 1 0 false .leaf)) .leaf)), 3, G⟩⟩
noncomputable def M18b (G : T (T AV)) (a w v : Nat → Int) (i : Int) : AM := ⟨⟨18, 169, (.node (.node (.node .leaf none (.node .leaf (some (.ptr 3 0 0)) .leaf)) none (.node .leaf (some (.ptr 2 0 0)) .leaf)) none (.node (.node .leaf (some (.ptr 1 0 0)) (.node .leaf (some (.int .i64 i)) .leaf)) (some (.ptr 0 0 0)) .leaf)),
   [.code (cd P (18 : Nat) [(1 : Nat), (1 : Nat), (1 : Nat), (1 : Nat), (0 : Nat), (1 : Nat), (0 : Nat), (0 : Nat)]), .inLoop (cd P (18 : Nat) [(1 : Nat), (1 : Nat), (1 : Nat), (1 : Nat), (0 : Nat), (1 : Nat), (0 : Nat), (0 : Nat)]), .inBlock 2, .code (cd P (18 : Nat) [(1 : Nat), (1 : Nat), (1 : Nat), (1 : Nat), (1 : Nat)])], [], .run, CallKind.normal, none⟩,
  [],
  ⟨(.node (.node (.node .leaf (some (.cells (T8 v) 8 35 0 0 1 0 false .leaf)) .leaf) (some (.cells (T8 fun _ => 0) 8 35 0 0 1 0 false .leaf)) .leaf) (some (.cells (T8 a) 8 35 0 0 1 0 false .leaf)) (.node .leaf (some (.cells (.fn fun k => some (AV.int IntKind.u32 (w k))) 64 44 0 0 1 0 false .leaf)) .leaf)), 4, G⟩⟩

theorem block0 (G : T (T AV)) (a : Nat → Int) (s : List UInt8) (R : AV → Prop) (K : AM → Prop) : Obl P 18 (fun v _ => R v) 0 K [.run 16, .told 2 (.fn fun _ => some (.int .u32 0)) 64, .can 0 [0, 1, 2] [1, 2, 4, 5, 6] []] (startM P 18 [av a, .str s] G) =
  (Tells 64 (.fn fun _ => some (.int .u32 0)) (storeList .leaf 0 (List.replicate 64 (.int .u32 0))) ∧ (64 = 64) ∧ (PlainFn fun _ => some (AV.int IntKind.u32 0)) ∧ K (M18a G s a (fun _ => 0) 0)) := by kernel_rfl

theorem blockA (G : T (T AV)) (a w w' : Nat → Int) (s : List UInt8) (x i : Int) (R : AV → Prop) (K : AM → Prop) : Obl P 18 (fun v _ => R v) 0 K [.run 6, .know 23 true, .run 10, .know 27 true, .run 10, .op, .run 1, .callv [0] (.int .u32 x), .op, .opw false, .run 8, .told 2 (.fn fun k => some (.int .u32 (w' k))) 64, .can 0 [0, 1, 2] [1, 2, 4, 5, 6] []] (M18a G s a w i) =
  ((decide (i < 64) = true) ∧ (decide (i < 16) = true) ∧ ((0 ≤ i4p i 4 ∧ i4p i 4 ≤ (s.length : Int)) ∧ 0 ≤ i4 i ∧ i4 i ≤ ((i4p i 4).toNat : Int)) ∧ (Goal P 0 26 (fun v _ => v = AV.int IntKind.u32 x) (startM P 26 [.str (List.take ((i4p i 4).toNat - (i4 i).toNat) (List.drop (i4 i).toNat s))] G)) ∧ (0 ≤ i ∧ i < ((64 : Nat) : Int)) ∧ (pl 0 i + 1 ≤ 64 ∧ 0 ≤ pl 0 i) ∧
    Tells 64 (.fn fun k => some (.int .u32 (w' k))) (.fn fun k => bif Nat.beq k (pl 0 i) then some (.int .u32 x) else T.get (.fn fun k => some (.int .u32 (w k))) k) ∧ (64 = 64) ∧ (PlainFn fun k => some (AV.int IntKind.u32 (w' k))) ∧ K (M18a G s a w' (IntKind.i64.wrap (i + 1)))) := by kernel_rfl

def js0 (x : Int) : Int := xx (xx (xo (xr x 7) (xl x 25)) (xo (xr x 18) (xl x 14))) (xr x 3)
def js1 (x : Int) : Int := xx (xx (xo (xr x 17) (xl x 15)) (xo (xr x 19) (xl x 13))) (xr x 10)
def jnext (a b c d : Int) : Int := xa (xa (xa (js1 a) b) (js0 c)) d
def jS1 (e : Int) : Int := xx (xx (xo (xr e 6) (xl e 26)) (xo (xr e 11) (xl e 21))) (xo (xr e 25) (xl e 7))
def jS0 (a : Int) : Int := xx (xx (xo (xr a 2) (xl a 30)) (xo (xr a 13) (xl a 19))) (xo (xr a 22) (xl a 10))
def jT (a : Nat → Int) (k w : Int) : Int := xa (xa (xa (xa (a 7) (jS1 (a 4))) (ich (a 4) (a 5) (a 6))) k) w
def jU (a : Nat → Int) : Int := xa (jS0 (a 0)) (imj (a 0) (a 1) (a 2))
def jrnd (v : Nat → Int) (k w : Int) : Nat → Int
  | 0 => xa (jT v k w) (jU v)
  | 1 => v 0
  | 2 => v 1
  | 3 => v 2
  | 4 => xa (v 3) (jT v k w)
  | 5 => v 4
  | 6 => v 5
  | 7 => v 6
  | _ => 0

theorem blockB (G : T (T AV)) (a w w' : Nat → Int) (s : List UInt8) (i : Int) (R : AV → Prop) (K : AM → Prop) : Obl P 18 (fun v _ => R v) 0 K [.run 6, .know 23 true, .run 10, .know 27 false, .run 6, .op, .op, .run 2, .op, .op, .step, .run 103, .op, .op, .run 5, .op, .op, .run 1, .op, .opw false, .run 8, .told 2 (.fn fun k => some (.int .u32 (w' k))) 64, .can 0 [0, 1, 2] [1, 2, 4, 5, 6] []] (M18a G s a w i) =
  ((decide (i < (64 : Int)) = true) ∧ (decide (i < (16 : Int)) = false) ∧ ((0 : Int) ≤ im i 15 ∧ im i 15 < (↑(64 : Nat) : Int)) ∧ (pl 0 (im i 15) + (1 : Nat) ≤ 64) ∧ ((0 : Int) ≤ im i 2 ∧ im i 2 < (↑(64 : Nat) : Int)) ∧ (pl 0 (im i 2) + (1 : Nat) ≤ 64) ∧ (pl 0 (im i 2) + (1 : Nat) ≤ 64) ∧ (AV.int IntKind.u32 (w (pl 0 (im i 2))) = AV.int IntKind.u32 (w (pl 0 (im i 2)))) ∧ (some (AV.int IntKind.i64 (im i 2)) = some (AV.int IntKind.i64 (im i 2))) ∧ ((0 : Int) ≤ im i 7 ∧ im i 7 < (↑(64 : Nat) : Int)) ∧ (pl 0 (im i 7) + (1 : Nat) ≤ 64) ∧ ((0 : Int) ≤ im i 16 ∧ im i 16 < (↑(64 : Nat) : Int)) ∧ (pl 0 (im i 16) + (1 : Nat) ≤ 64) ∧ ((0 : Int) ≤ i ∧ i < (↑(64 : Nat) : Int)) ∧ (pl 0 i + (1 : Nat) ≤ 64 ∧ 0 ≤ pl 0 i) ∧
    Tells 64 (.fn fun k => some (.int .u32 (w' k))) (.fn fun k => bif Nat.beq k (pl 0 i) then some (.int .u32 (jnext (w (pl 0 (im i 2))) (w (pl 0 (im i 7))) (w (pl 0 (im i 15))) (w (pl 0 (im i 16))))) else T.get (.fn fun k => some (.int .u32 (w k))) k) ∧ (64 = 64) ∧ (PlainFn fun k => some (AV.int IntKind.u32 (w' k))) ∧ K (M18a G s a w' (IntKind.i64.wrap (i + 1)))) := by kernel_rfl

theorem blockC (G : T (T AV)) (a w : Nat → Int) (s : List UInt8) (i : Int) (R : AV → Prop) (K : AM → Prop) : Obl P 18 (fun v _ => R v) 0 K [.run 6, .know 23 false, .run 15, .can 0 [0, 1, 2, 3] [2, 4, 5, 11, 12] []] (M18a G s a w i) =
  ((decide (i < 64) = false) ∧ (PlainFn fun k => some (AV.int IntKind.u32 (w k))) ∧ K (M18b G a w a 0)) := by kernel_rfl

theorem blockD (G : T (T AV)) (a w v : Nat → Int) (x i : Int) (R : AV → Prop) (K : AM → Prop) : Obl P 18 (fun v _ => R v) 0 K [.run 6, .know 79 true, .run 18, .step, .step, .step, .step, .step, .run 19, .op, .op, .run 18, .step, .run 18, .step, .run 19, .step, .run 4, .callv [0] (.int .u32 x), .run 106, .can 0 [0, 1, 2, 3] [2, 4, 5, 11, 12] []] (M18b G a w v i) =
  ((decide (i < (64 : Int)) = true) ∧ (some (AV.int IntKind.u32 (v (6 : Nat))) = some (AV.int IntKind.u32 (v (6 : Nat)))) ∧ (some (AV.int IntKind.u32 (v (5 : Nat))) = some (AV.int IntKind.u32 (v (5 : Nat)))) ∧ (some (AV.int IntKind.u32 (v (4 : Nat))) = some (AV.int IntKind.u32 (v (4 : Nat)))) ∧ (some (AV.int IntKind.u32 (v (2 : Nat))) = some (AV.int IntKind.u32 (v (2 : Nat)))) ∧ (some (AV.int IntKind.u32 (v (1 : Nat))) = some (AV.int IntKind.u32 (v (1 : Nat)))) ∧ (some (AV.int IntKind.u32 (v (6 : Nat))) = some (AV.int IntKind.u32 (v (6 : Nat)))) ∧ (some (AV.int IntKind.u32 (v (5 : Nat))) = some (AV.int IntKind.u32 (v (5 : Nat)))) ∧ (some (AV.int IntKind.u32 (v (4 : Nat))) = some (AV.int IntKind.u32 (v (4 : Nat)))) ∧ (some (AV.int IntKind.u32 (v (2 : Nat))) = some (AV.int IntKind.u32 (v (2 : Nat)))) ∧ (some (AV.int IntKind.u32 (v (6 : Nat))) = some (AV.int IntKind.u32 (v (6 : Nat)))) ∧ (some (AV.int IntKind.u32 (v (5 : Nat))) = some (AV.int IntKind.u32 (v (5 : Nat)))) ∧ (some (AV.int IntKind.u32 (v (4 : Nat))) = some (AV.int IntKind.u32 (v (4 : Nat)))) ∧ (some (AV.int IntKind.u32 (v (6 : Nat))) = some (AV.int IntKind.u32 (v (6 : Nat)))) ∧ (some (AV.int IntKind.u32 (v (5 : Nat))) = some (AV.int IntKind.u32 (v (5 : Nat)))) ∧ (some (AV.int IntKind.u32 (v (6 : Nat))) = some (AV.int IntKind.u32 (v (6 : Nat)))) ∧ ((0 : Int) ≤ i ∧ i < (↑(64 : Nat) : Int)) ∧ (pl 0 i + (1 : Nat) ≤ 64) ∧ (pl 0 i + (1 : Nat) ≤ 64) ∧ (AV.int IntKind.u32 (w (pl 0 i)) = AV.int IntKind.u32 (w (pl 0 i))) ∧ (some (AV.int IntKind.u32 (IntKind.u32.wrap (↑(BitVec.ofInt (32) (IntKind.u32.wrap (↑(BitVec.ofInt (32) (v (4 : Nat)) &&& BitVec.ofInt (32) (v (5 : Nat))).toNat : Int)) ^^^ BitVec.ofInt (32) (IntKind.u32.wrap (↑(BitVec.ofInt (32) (IntKind.u32.wrap (↑(BitVec.ofInt 32 IntKind.u32.max ^^^ BitVec.ofInt (32) (v (4 : Nat))).toNat : Int)) &&& BitVec.ofInt (32) (v (6 : Nat))).toNat : Int))).toNat : Int))) = some (AV.int IntKind.u32 (IntKind.u32.wrap (↑(BitVec.ofInt (32) (IntKind.u32.wrap (↑(BitVec.ofInt (32) (v (4 : Nat)) &&& BitVec.ofInt (32) (v (5 : Nat))).toNat : Int)) ^^^ BitVec.ofInt (32) (IntKind.u32.wrap (↑(BitVec.ofInt (32) (IntKind.u32.wrap (↑(BitVec.ofInt 32 IntKind.u32.max ^^^ BitVec.ofInt (32) (v (4 : Nat))).toNat : Int)) &&& BitVec.ofInt (32) (v (6 : Nat))).toNat : Int))).toNat : Int)))) ∧ (some (AV.int IntKind.u32 (IntKind.u32.wrap (↑(BitVec.ofInt (32) (IntKind.u32.wrap (↑(BitVec.ofInt 32 IntKind.u32.max ^^^ BitVec.ofInt (32) (v (4 : Nat))).toNat : Int)) &&& BitVec.ofInt (32) (v (6 : Nat))).toNat : Int))) = some (AV.int IntKind.u32 (IntKind.u32.wrap (↑(BitVec.ofInt (32) (IntKind.u32.wrap (↑(BitVec.ofInt 32 IntKind.u32.max ^^^ BitVec.ofInt (32) (v (4 : Nat))).toNat : Int)) &&& BitVec.ofInt (32) (v (6 : Nat))).toNat : Int)))) ∧ (some (AV.int IntKind.u32 (IntKind.u32.wrap (↑(BitVec.ofInt (32) (v (4 : Nat)) &&& BitVec.ofInt (32) (v (5 : Nat))).toNat : Int))) = some (AV.int IntKind.u32 (IntKind.u32.wrap (↑(BitVec.ofInt (32) (v (4 : Nat)) &&& BitVec.ofInt (32) (v (5 : Nat))).toNat : Int)))) ∧ (some (AV.int IntKind.u32 (v (7 : Nat))) = some (AV.int IntKind.u32 (v (7 : Nat)))) ∧ (pl 0 i + (1 : Nat) ≤ 64) ∧ (AV.int IntKind.u32 (w (pl 0 i)) = AV.int IntKind.u32 (w (pl 0 i))) ∧ (some (AV.int IntKind.u32 (IntKind.u32.wrap (↑(BitVec.ofInt (32) (IntKind.u32.wrap (↑(BitVec.ofInt (32) (v (4 : Nat)) &&& BitVec.ofInt (32) (v (5 : Nat))).toNat : Int)) ^^^ BitVec.ofInt (32) (IntKind.u32.wrap (↑(BitVec.ofInt (32) (IntKind.u32.wrap (↑(BitVec.ofInt 32 IntKind.u32.max ^^^ BitVec.ofInt (32) (v (4 : Nat))).toNat : Int)) &&& BitVec.ofInt (32) (v (6 : Nat))).toNat : Int))).toNat : Int))) = some (AV.int IntKind.u32 (IntKind.u32.wrap (↑(BitVec.ofInt (32) (IntKind.u32.wrap (↑(BitVec.ofInt (32) (v (4 : Nat)) &&& BitVec.ofInt (32) (v (5 : Nat))).toNat : Int)) ^^^ BitVec.ofInt (32) (IntKind.u32.wrap (↑(BitVec.ofInt (32) (IntKind.u32.wrap (↑(BitVec.ofInt 32 IntKind.u32.max ^^^ BitVec.ofInt (32) (v (4 : Nat))).toNat : Int)) &&& BitVec.ofInt (32) (v (6 : Nat))).toNat : Int))).toNat : Int)))) ∧ (some (AV.int IntKind.u32 (IntKind.u32.wrap (↑(BitVec.ofInt (32) (IntKind.u32.wrap (↑(BitVec.ofInt 32 IntKind.u32.max ^^^ BitVec.ofInt (32) (v (4 : Nat))).toNat : Int)) &&& BitVec.ofInt (32) (v (6 : Nat))).toNat : Int))) = some (AV.int IntKind.u32 (IntKind.u32.wrap (↑(BitVec.ofInt (32) (IntKind.u32.wrap (↑(BitVec.ofInt 32 IntKind.u32.max ^^^ BitVec.ofInt (32) (v (4 : Nat))).toNat : Int)) &&& BitVec.ofInt (32) (v (6 : Nat))).toNat : Int)))) ∧ (some (AV.int IntKind.u32 (IntKind.u32.wrap (↑(BitVec.ofInt (32) (v (4 : Nat)) &&& BitVec.ofInt (32) (v (5 : Nat))).toNat : Int))) = some (AV.int IntKind.u32 (IntKind.u32.wrap (↑(BitVec.ofInt (32) (v (4 : Nat)) &&& BitVec.ofInt (32) (v (5 : Nat))).toNat : Int)))) ∧ (some (AV.int IntKind.u32 (v (7 : Nat))) = some (AV.int IntKind.u32 (v (7 : Nat)))) ∧ (some (AV.int IntKind.u32 (IntKind.u32.wrap (↑(BitVec.ofInt (32) (IntKind.u32.wrap (↑(BitVec.ofInt (32) ((v (4 : Nat)).fdiv ((2 : Int) ^ min (Int.ofNat (6)).toNat IntKind.u32.bits)) ||| BitVec.ofInt (32) (IntKind.u32.wrap (v (4 : Nat) * (2 : Int) ^ min (Int.ofNat (26)).toNat IntKind.u32.bits))).toNat : Int)) ^^^ BitVec.ofInt (32) (IntKind.u32.wrap (↑(BitVec.ofInt (32) ((v (4 : Nat)).fdiv ((2 : Int) ^ min (Int.ofNat (11)).toNat IntKind.u32.bits)) ||| BitVec.ofInt (32) (IntKind.u32.wrap (v (4 : Nat) * (2 : Int) ^ min (Int.ofNat (21)).toNat IntKind.u32.bits))).toNat : Int))).toNat : Int))) = some (AV.int IntKind.u32 (IntKind.u32.wrap (↑(BitVec.ofInt (32) (IntKind.u32.wrap (↑(BitVec.ofInt (32) ((v (4 : Nat)).fdiv ((2 : Int) ^ min (Int.ofNat (6)).toNat IntKind.u32.bits)) ||| BitVec.ofInt (32) (IntKind.u32.wrap (v (4 : Nat) * (2 : Int) ^ min (Int.ofNat (26)).toNat IntKind.u32.bits))).toNat : Int)) ^^^ BitVec.ofInt (32) (IntKind.u32.wrap (↑(BitVec.ofInt (32) ((v (4 : Nat)).fdiv ((2 : Int) ^ min (Int.ofNat (11)).toNat IntKind.u32.bits)) ||| BitVec.ofInt (32) (IntKind.u32.wrap (v (4 : Nat) * (2 : Int) ^ min (Int.ofNat (21)).toNat IntKind.u32.bits))).toNat : Int))).toNat : Int)))) ∧ (pl 0 i + (1 : Nat) ≤ 64) ∧ (AV.int IntKind.u32 (w (pl 0 i)) = AV.int IntKind.u32 (w (pl 0 i))) ∧ (some (AV.int IntKind.u32 (IntKind.u32.wrap (↑(BitVec.ofInt (32) (IntKind.u32.wrap (↑(BitVec.ofInt (32) (v (4 : Nat)) &&& BitVec.ofInt (32) (v (5 : Nat))).toNat : Int)) ^^^ BitVec.ofInt (32) (IntKind.u32.wrap (↑(BitVec.ofInt (32) (IntKind.u32.wrap (↑(BitVec.ofInt 32 IntKind.u32.max ^^^ BitVec.ofInt (32) (v (4 : Nat))).toNat : Int)) &&& BitVec.ofInt (32) (v (6 : Nat))).toNat : Int))).toNat : Int))) = some (AV.int IntKind.u32 (IntKind.u32.wrap (↑(BitVec.ofInt (32) (IntKind.u32.wrap (↑(BitVec.ofInt (32) (v (4 : Nat)) &&& BitVec.ofInt (32) (v (5 : Nat))).toNat : Int)) ^^^ BitVec.ofInt (32) (IntKind.u32.wrap (↑(BitVec.ofInt (32) (IntKind.u32.wrap (↑(BitVec.ofInt 32 IntKind.u32.max ^^^ BitVec.ofInt (32) (v (4 : Nat))).toNat : Int)) &&& BitVec.ofInt (32) (v (6 : Nat))).toNat : Int))).toNat : Int)))) ∧ (some (AV.int IntKind.u32 (IntKind.u32.wrap (↑(BitVec.ofInt (32) (IntKind.u32.wrap (↑(BitVec.ofInt 32 IntKind.u32.max ^^^ BitVec.ofInt (32) (v (4 : Nat))).toNat : Int)) &&& BitVec.ofInt (32) (v (6 : Nat))).toNat : Int))) = some (AV.int IntKind.u32 (IntKind.u32.wrap (↑(BitVec.ofInt (32) (IntKind.u32.wrap (↑(BitVec.ofInt 32 IntKind.u32.max ^^^ BitVec.ofInt (32) (v (4 : Nat))).toNat : Int)) &&& BitVec.ofInt (32) (v (6 : Nat))).toNat : Int)))) ∧ (some (AV.int IntKind.u32 (IntKind.u32.wrap (↑(BitVec.ofInt (32) (v (4 : Nat)) &&& BitVec.ofInt (32) (v (5 : Nat))).toNat : Int))) = some (AV.int IntKind.u32 (IntKind.u32.wrap (↑(BitVec.ofInt (32) (v (4 : Nat)) &&& BitVec.ofInt (32) (v (5 : Nat))).toNat : Int)))) ∧ (some (AV.int IntKind.u32 (v (7 : Nat))) = some (AV.int IntKind.u32 (v (7 : Nat)))) ∧ (Goal P (0 : Nat) 28 (fun x_1 _ => x_1 = AV.int IntKind.u32 x) (startM P 28 [.int .i64 i] G)) ∧ (some (AV.int IntKind.u32 (IntKind.u32.wrap (IntKind.u32.wrap (v (7 : Nat) + IntKind.u32.wrap (↑(BitVec.ofInt (32) (IntKind.u32.wrap (↑(BitVec.ofInt (32) (IntKind.u32.wrap (↑(BitVec.ofInt (32) ((v (4 : Nat)).fdiv ((2 : Int) ^ min (Int.ofNat (6)).toNat IntKind.u32.bits)) ||| BitVec.ofInt (32) (IntKind.u32.wrap (v (4 : Nat) * (2 : Int) ^ min (Int.ofNat (26)).toNat IntKind.u32.bits))).toNat : Int)) ^^^ BitVec.ofInt (32) (IntKind.u32.wrap (↑(BitVec.ofInt (32) ((v (4 : Nat)).fdiv ((2 : Int) ^ min (Int.ofNat (11)).toNat IntKind.u32.bits)) ||| BitVec.ofInt (32) (IntKind.u32.wrap (v (4 : Nat) * (2 : Int) ^ min (Int.ofNat (21)).toNat IntKind.u32.bits))).toNat : Int))).toNat : Int)) ^^^ BitVec.ofInt (32) (IntKind.u32.wrap (↑(BitVec.ofInt (32) ((v (4 : Nat)).fdiv ((2 : Int) ^ min (Int.ofNat (25)).toNat IntKind.u32.bits)) ||| BitVec.ofInt (32) (IntKind.u32.wrap (v (4 : Nat) * (2 : Int) ^ min (Int.ofNat (7)).toNat IntKind.u32.bits))).toNat : Int))).toNat : Int)) + IntKind.u32.wrap (↑(BitVec.ofInt (32) (IntKind.u32.wrap (↑(BitVec.ofInt (32) (v (4 : Nat)) &&& BitVec.ofInt (32) (v (5 : Nat))).toNat : Int)) ^^^ BitVec.ofInt (32) (IntKind.u32.wrap (↑(BitVec.ofInt (32) (IntKind.u32.wrap (↑(BitVec.ofInt 32 IntKind.u32.max ^^^ BitVec.ofInt (32) (v (4 : Nat))).toNat : Int)) &&& BitVec.ofInt (32) (v (6 : Nat))).toNat : Int))).toNat : Int)))) = some (AV.int IntKind.u32 (IntKind.u32.wrap (IntKind.u32.wrap (v (7 : Nat) + IntKind.u32.wrap (↑(BitVec.ofInt (32) (IntKind.u32.wrap (↑(BitVec.ofInt (32) (IntKind.u32.wrap (↑(BitVec.ofInt (32) ((v (4 : Nat)).fdiv ((2 : Int) ^ min (Int.ofNat (6)).toNat IntKind.u32.bits)) ||| BitVec.ofInt (32) (IntKind.u32.wrap (v (4 : Nat) * (2 : Int) ^ min (Int.ofNat (26)).toNat IntKind.u32.bits))).toNat : Int)) ^^^ BitVec.ofInt (32) (IntKind.u32.wrap (↑(BitVec.ofInt (32) ((v (4 : Nat)).fdiv ((2 : Int) ^ min (Int.ofNat (11)).toNat IntKind.u32.bits)) ||| BitVec.ofInt (32) (IntKind.u32.wrap (v (4 : Nat) * (2 : Int) ^ min (Int.ofNat (21)).toNat IntKind.u32.bits))).toNat : Int))).toNat : Int)) ^^^ BitVec.ofInt (32) (IntKind.u32.wrap (↑(BitVec.ofInt (32) ((v (4 : Nat)).fdiv ((2 : Int) ^ min (Int.ofNat (25)).toNat IntKind.u32.bits)) ||| BitVec.ofInt (32) (IntKind.u32.wrap (v (4 : Nat) * (2 : Int) ^ min (Int.ofNat (7)).toNat IntKind.u32.bits))).toNat : Int))).toNat : Int)) + IntKind.u32.wrap (↑(BitVec.ofInt (32) (IntKind.u32.wrap (↑(BitVec.ofInt (32) (v (4 : Nat)) &&& BitVec.ofInt (32) (v (5 : Nat))).toNat : Int)) ^^^ BitVec.ofInt (32) (IntKind.u32.wrap (↑(BitVec.ofInt (32) (IntKind.u32.wrap (↑(BitVec.ofInt 32 IntKind.u32.max ^^^ BitVec.ofInt (32) (v (4 : Nat))).toNat : Int)) &&& BitVec.ofInt (32) (v (6 : Nat))).toNat : Int))).toNat : Int))))) ∧ (some (AV.int IntKind.u32 (IntKind.u32.wrap (v (7 : Nat) + IntKind.u32.wrap (↑(BitVec.ofInt (32) (IntKind.u32.wrap (↑(BitVec.ofInt (32) (IntKind.u32.wrap (↑(BitVec.ofInt (32) ((v (4 : Nat)).fdiv ((2 : Int) ^ min (Int.ofNat (6)).toNat IntKind.u32.bits)) ||| BitVec.ofInt (32) (IntKind.u32.wrap (v (4 : Nat) * (2 : Int) ^ min (Int.ofNat (26)).toNat IntKind.u32.bits))).toNat : Int)) ^^^ BitVec.ofInt (32) (IntKind.u32.wrap (↑(BitVec.ofInt (32) ((v (4 : Nat)).fdiv ((2 : Int) ^ min (Int.ofNat (11)).toNat IntKind.u32.bits)) ||| BitVec.ofInt (32) (IntKind.u32.wrap (v (4 : Nat) * (2 : Int) ^ min (Int.ofNat (21)).toNat IntKind.u32.bits))).toNat : Int))).toNat : Int)) ^^^ BitVec.ofInt (32) (IntKind.u32.wrap (↑(BitVec.ofInt (32) ((v (4 : Nat)).fdiv ((2 : Int) ^ min (Int.ofNat (25)).toNat IntKind.u32.bits)) ||| BitVec.ofInt (32) (IntKind.u32.wrap (v (4 : Nat) * (2 : Int) ^ min (Int.ofNat (7)).toNat IntKind.u32.bits))).toNat : Int))).toNat : Int)))) = some (AV.int IntKind.u32 (IntKind.u32.wrap (v (7 : Nat) + IntKind.u32.wrap (↑(BitVec.ofInt (32) (IntKind.u32.wrap (↑(BitVec.ofInt (32) (IntKind.u32.wrap (↑(BitVec.ofInt (32) ((v (4 : Nat)).fdiv ((2 : Int) ^ min (Int.ofNat (6)).toNat IntKind.u32.bits)) ||| BitVec.ofInt (32) (IntKind.u32.wrap (v (4 : Nat) * (2 : Int) ^ min (Int.ofNat (26)).toNat IntKind.u32.bits))).toNat : Int)) ^^^ BitVec.ofInt (32) (IntKind.u32.wrap (↑(BitVec.ofInt (32) ((v (4 : Nat)).fdiv ((2 : Int) ^ min (Int.ofNat (11)).toNat IntKind.u32.bits)) ||| BitVec.ofInt (32) (IntKind.u32.wrap (v (4 : Nat) * (2 : Int) ^ min (Int.ofNat (21)).toNat IntKind.u32.bits))).toNat : Int))).toNat : Int)) ^^^ BitVec.ofInt (32) (IntKind.u32.wrap (↑(BitVec.ofInt (32) ((v (4 : Nat)).fdiv ((2 : Int) ^ min (Int.ofNat (25)).toNat IntKind.u32.bits)) ||| BitVec.ofInt (32) (IntKind.u32.wrap (v (4 : Nat) * (2 : Int) ^ min (Int.ofNat (7)).toNat IntKind.u32.bits))).toNat : Int))).toNat : Int))))) ∧ (some (AV.int IntKind.u32 (IntKind.u32.wrap (↑(BitVec.ofInt (32) (IntKind.u32.wrap (↑(BitVec.ofInt (32) (IntKind.u32.wrap (↑(BitVec.ofInt (32) ((v (4 : Nat)).fdiv ((2 : Int) ^ min (Int.ofNat (6)).toNat IntKind.u32.bits)) ||| BitVec.ofInt (32) (IntKind.u32.wrap (v (4 : Nat) * (2 : Int) ^ min (Int.ofNat (26)).toNat IntKind.u32.bits))).toNat : Int)) ^^^ BitVec.ofInt (32) (IntKind.u32.wrap (↑(BitVec.ofInt (32) ((v (4 : Nat)).fdiv ((2 : Int) ^ min (Int.ofNat (11)).toNat IntKind.u32.bits)) ||| BitVec.ofInt (32) (IntKind.u32.wrap (v (4 : Nat) * (2 : Int) ^ min (Int.ofNat (21)).toNat IntKind.u32.bits))).toNat : Int))).toNat : Int)) ^^^ BitVec.ofInt (32) (IntKind.u32.wrap (↑(BitVec.ofInt (32) ((v (4 : Nat)).fdiv ((2 : Int) ^ min (Int.ofNat (25)).toNat IntKind.u32.bits)) ||| BitVec.ofInt (32) (IntKind.u32.wrap (v (4 : Nat) * (2 : Int) ^ min (Int.ofNat (7)).toNat IntKind.u32.bits))).toNat : Int))).toNat : Int))) = some (AV.int IntKind.u32 (IntKind.u32.wrap (↑(BitVec.ofInt (32) (IntKind.u32.wrap (↑(BitVec.ofInt (32) (IntKind.u32.wrap (↑(BitVec.ofInt (32) ((v (4 : Nat)).fdiv ((2 : Int) ^ min (Int.ofNat (6)).toNat IntKind.u32.bits)) ||| BitVec.ofInt (32) (IntKind.u32.wrap (v (4 : Nat) * (2 : Int) ^ min (Int.ofNat (26)).toNat IntKind.u32.bits))).toNat : Int)) ^^^ BitVec.ofInt (32) (IntKind.u32.wrap (↑(BitVec.ofInt (32) ((v (4 : Nat)).fdiv ((2 : Int) ^ min (Int.ofNat (11)).toNat IntKind.u32.bits)) ||| BitVec.ofInt (32) (IntKind.u32.wrap (v (4 : Nat) * (2 : Int) ^ min (Int.ofNat (21)).toNat IntKind.u32.bits))).toNat : Int))).toNat : Int)) ^^^ BitVec.ofInt (32) (IntKind.u32.wrap (↑(BitVec.ofInt (32) ((v (4 : Nat)).fdiv ((2 : Int) ^ min (Int.ofNat (25)).toNat IntKind.u32.bits)) ||| BitVec.ofInt (32) (IntKind.u32.wrap (v (4 : Nat) * (2 : Int) ^ min (Int.ofNat (7)).toNat IntKind.u32.bits))).toNat : Int))).toNat : Int)))) ∧ (some (AV.int IntKind.u32 (IntKind.u32.wrap (↑(BitVec.ofInt (32) (IntKind.u32.wrap (↑(BitVec.ofInt (32) ((v (4 : Nat)).fdiv ((2 : Int) ^ min (Int.ofNat (6)).toNat IntKind.u32.bits)) ||| BitVec.ofInt (32) (IntKind.u32.wrap (v (4 : Nat) * (2 : Int) ^ min (Int.ofNat (26)).toNat IntKind.u32.bits))).toNat : Int)) ^^^ BitVec.ofInt (32) (IntKind.u32.wrap (↑(BitVec.ofInt (32) ((v (4 : Nat)).fdiv ((2 : Int) ^ min (Int.ofNat (11)).toNat IntKind.u32.bits)) ||| BitVec.ofInt (32) (IntKind.u32.wrap (v (4 : Nat) * (2 : Int) ^ min (Int.ofNat (21)).toNat IntKind.u32.bits))).toNat : Int))).toNat : Int))) = some (AV.int IntKind.u32 (IntKind.u32.wrap (↑(BitVec.ofInt (32) (IntKind.u32.wrap (↑(BitVec.ofInt (32) ((v (4 : Nat)).fdiv ((2 : Int) ^ min (Int.ofNat (6)).toNat IntKind.u32.bits)) ||| BitVec.ofInt (32) (IntKind.u32.wrap (v (4 : Nat) * (2 : Int) ^ min (Int.ofNat (26)).toNat IntKind.u32.bits))).toNat : Int)) ^^^ BitVec.ofInt (32) (IntKind.u32.wrap (↑(BitVec.ofInt (32) ((v (4 : Nat)).fdiv ((2 : Int) ^ min (Int.ofNat (11)).toNat IntKind.u32.bits)) ||| BitVec.ofInt (32) (IntKind.u32.wrap (v (4 : Nat) * (2 : Int) ^ min (Int.ofNat (21)).toNat IntKind.u32.bits))).toNat : Int))).toNat : Int)))) ∧ (pl 0 i + (1 : Nat) ≤ 64) ∧ (AV.int IntKind.u32 (w (pl 0 i)) = AV.int IntKind.u32 (w (pl 0 i))) ∧ (some (AV.int IntKind.u32 (IntKind.u32.wrap (↑(BitVec.ofInt (32) (IntKind.u32.wrap (↑(BitVec.ofInt (32) (v (4 : Nat)) &&& BitVec.ofInt (32) (v (5 : Nat))).toNat : Int)) ^^^ BitVec.ofInt (32) (IntKind.u32.wrap (↑(BitVec.ofInt (32) (IntKind.u32.wrap (↑(BitVec.ofInt 32 IntKind.u32.max ^^^ BitVec.ofInt (32) (v (4 : Nat))).toNat : Int)) &&& BitVec.ofInt (32) (v (6 : Nat))).toNat : Int))).toNat : Int))) = some (AV.int IntKind.u32 (IntKind.u32.wrap (↑(BitVec.ofInt (32) (IntKind.u32.wrap (↑(BitVec.ofInt (32) (v (4 : Nat)) &&& BitVec.ofInt (32) (v (5 : Nat))).toNat : Int)) ^^^ BitVec.ofInt (32) (IntKind.u32.wrap (↑(BitVec.ofInt (32) (IntKind.u32.wrap (↑(BitVec.ofInt 32 IntKind.u32.max ^^^ BitVec.ofInt (32) (v (4 : Nat))).toNat : Int)) &&& BitVec.ofInt (32) (v (6 : Nat))).toNat : Int))).toNat : Int)))) ∧ (some (AV.int IntKind.u32 (IntKind.u32.wrap (↑(BitVec.ofInt (32) (IntKind.u32.wrap (↑(BitVec.ofInt 32 IntKind.u32.max ^^^ BitVec.ofInt (32) (v (4 : Nat))).toNat : Int)) &&& BitVec.ofInt (32) (v (6 : Nat))).toNat : Int))) = some (AV.int IntKind.u32 (IntKind.u32.wrap (↑(BitVec.ofInt (32) (IntKind.u32.wrap (↑(BitVec.ofInt 32 IntKind.u32.max ^^^ BitVec.ofInt (32) (v (4 : Nat))).toNat : Int)) &&& BitVec.ofInt (32) (v (6 : Nat))).toNat : Int)))) ∧ (some (AV.int IntKind.u32 (IntKind.u32.wrap (↑(BitVec.ofInt (32) (v (4 : Nat)) &&& BitVec.ofInt (32) (v (5 : Nat))).toNat : Int))) = some (AV.int IntKind.u32 (IntKind.u32.wrap (↑(BitVec.ofInt (32) (v (4 : Nat)) &&& BitVec.ofInt (32) (v (5 : Nat))).toNat : Int)))) ∧ (some (AV.int IntKind.u32 (v (7 : Nat))) = some (AV.int IntKind.u32 (v (7 : Nat)))) ∧ (PlainFn fun k => some (AV.int IntKind.u32 (w k))) ∧
    K (M18b G a w (jrnd v x (w (pl 0 i))) (IntKind.i64.wrap (i + 1)))) := by kernel_rfl

theorem blockE (G : T (T AV)) (a w v : Nat → Int) (i : Int) (R : AV → Prop) (_K : AM → Prop) : Obl P 18 (fun v _ => R v) 0 _K [.run 6, .know 79 false, .run 255, .done] (M18b G a w v i) =
  ((decide (i < 64) = false) ∧ R (av fun k => xa (v k) (a k))) := by kernel_rfl

theorem js0_ok (x : W32) : js0 (iw x) = iw (s0 x) := by
  simp only [js0, xl_iw, xr_iw, xo_iw, xx_iw, s0, rr, BitVec.or_comm]
theorem js1_ok (x : W32) : js1 (iw x) = iw (s1 x) := by
  simp only [js1, xl_iw, xr_iw, xo_iw, xx_iw, s1, rr, BitVec.or_comm]
theorem jS0_ok (x : W32) : jS0 (iw x) = iw (S0 x) := by
  simp only [jS0, xl_iw, xr_iw, xo_iw, xx_iw, S0, rr, BitVec.or_comm]
theorem jS1_ok (x : W32) : jS1 (iw x) = iw (S1 x) := by
  simp only [jS1, xl_iw, xr_iw, xo_iw, xx_iw, S1, rr, BitVec.or_comm]
theorem jnext_ok (a b c d : W32) : jnext (iw a) (iw b) (iw c) (iw d) = iw (s1 a + b + s0 c + d) := by
  simp only [jnext, js0_ok, js1_ok, xa_iw]
theorem jrnd_ok (v : Nat → W32) (k w : W32) : jrnd (fun j => iw (v j)) (iw k) (iw w) = fun j => iw (rnd v (k + w) j) := by
  funext j
  match j with
  | 0 => simp only [jrnd, rnd, jT, jU, jS1_ok, jS0_ok, ich, imj, ch, mj, xa_iw, xx_iw, xn_iw, xc_iw, BitVec.add_assoc]
  | 1 | 2 | 3 | 5 | 6 | 7 => rfl
  | 4 => simp only [jrnd, rnd, jT, jS1_ok, ich, ch, xa_iw, xx_iw, xn_iw, xc_iw, BitVec.add_assoc]
  | n + 8 => rfl

theorem take4 (s : List UInt8) (p : Nat) (j : Nat) (hj : j < 4) : (List.take 4 (List.drop p s)).getD j 0 = s.getD (p + j) 0 := by
  rw [List.getD_eq_getElem?_getD, List.getD_eq_getElem?_getD, List.getElem?_take_of_lt hj, List.getElem?_drop]

/-- The document's state behind a block. -/
theorem block_ok (G : T (T AV)) (v : Nat → W32) (s : List UInt8) (hs : s.length = 64) : Goal P 0 18 (fun x _ => x = av fun k => iw (blk v (fun j => s.getD j 0) k)) (startM P 18 [av fun k => iw (v k), .str s] G) := by
  let mo : Nat → UInt8 := fun j => s.getD j 0
  let w : Nat → W32 := tab mo 64
  let R : AV → Prop := fun x => x = av fun k => iw (blk v mo k)
  have second : ∀ d i : Nat, i + d = 64 → Goal P 0 18 (fun x _ => R x) (M18b G (fun k => iw (v k)) (fun k => iw (w k)) (fun k => iw (rnds w v i k)) i) := by
    intro d
    induction d with
    | zero =>
      intro i hi
      obtain rfl : i = 64 := by omega
      refine Obl.goal (K := fun _ => False) mix (fun _ h => h.elim) (cast (blockE G _ _ _ 64 R _).symm ⟨rfl, ?_⟩)
      have e : (fun k => xa (iw (rnds w v 64 k)) (iw (v k))) = fun k => iw (blk v mo k) := by
        funext k
        rw [xa_iw]
        rfl
      rw [e]
    | succ d ih =>
      intro i hi
      have hn : IntKind.i64.wrap ((i : Int) + 1) = ((i + 1 : Nat) : Int) := by rw [IntWalk.i64_in _ (by omega)]; rfl
      have hpi : pl 0 (i : Int) = i := by unfold pl; omega
      have hp : pl 0 (i : Int) + 1 ≤ 64 := by rw [hpi]; omega
      refine Obl.goal (K := Goal P 0 18 fun x _ => R x) mix (fun _ h => h) (cast (blockD G (fun k => iw (v k)) (fun k => iw (w k)) (fun k => iw (rnds w v i k)) (iw (kk i)) i R _).symm
        ⟨decide_eq_true (by omega), rfl, rfl, rfl, rfl, rfl, rfl, rfl, rfl, rfl, rfl, rfl, rfl, rfl, rfl, rfl, ⟨by omega, by omega⟩, hp, hp, rfl, rfl, rfl, rfl, rfl, hp, rfl, rfl, rfl, rfl, rfl, rfl, hp, rfl, rfl, rfl, rfl, rfl, roundR_ok G i (by omega), rfl, rfl, rfl, rfl, hp, rfl, rfl, rfl, rfl, rfl, plain_int _ _, ?_⟩)
      rw [hpi, hn, jrnd_ok]
      exact ih (i + 1) (by omega)
  have first : ∀ d i : Nat, i + d = 64 → Goal P 0 18 (fun x _ => R x) (M18a G s (fun k => iw (v k)) (fun k => iw (tab mo i k)) i) := by
    intro d
    induction d with
    | zero =>
      intro i hi
      obtain rfl : i = 64 := by omega
      exact Obl.goal (K := Goal P 0 18 fun x _ => R x) mix (fun _ h => h) (cast (blockC G _ _ s 64 R _).symm ⟨rfl, plain_int _ _, second 64 0 (by omega)⟩)
    | succ d ih =>
      intro i hi
      have hn : IntKind.i64.wrap ((i : Int) + 1) = ((i + 1 : Nat) : Int) := by rw [IntWalk.i64_in _ (by omega)]; rfl
      have hpi : pl 0 (i : Int) = i := by unfold pl; omega
      by_cases h16 : i < 16
      · have e4 : i4 i = ((4 * i : Nat) : Int) := by unfold i4; rw [IntWalk.i64_in _ (by omega)]; push_cast; rfl
        have e4p : i4p i 4 = ((4 * i + 4 : Nat) : Int) := by
          unfold i4p
          rw [show IntKind.i64.wrap (4 * (i : Int)) = ((4 * i : Nat) : Int) from e4, IntWalk.i64_in _ (by omega)]; push_cast; rfl
        refine Obl.goal (K := Goal P 0 18 fun x _ => R x) mix (fun _ h => h) (cast (blockA G (fun k => iw (v k)) (fun k => iw (tab mo i k)) (fun k => iw (tab mo (i + 1) k)) s (iw (word mo (4 * i))) i R _).symm ?_)
        rw [e4, e4p, hn, hpi, Int.toNat_natCast, Int.toNat_natCast, show 4 * i + 4 - 4 * i = 4 by omega]
        refine ⟨decide_eq_true (by omega), decide_eq_true (by omega), by omega, ?_, by omega, by omega, ?_, rfl, plain_int _ _, ih (i + 1) (by omega)⟩
        · have := wordR_ok G (List.take 4 (List.drop (4 * i) s)) (by rw [List.length_take, List.length_drop]; omega)
          have e : word (fun k => (List.take 4 (List.drop (4 * i) s)).getD k 0) 0 = word mo (4 * i) := by
            unfold word
            simp only
            rw [take4 s _ 0 (by decide), take4 s _ (0 + 1) (by decide), take4 s _ (0 + 2) (by decide), take4 s _ (0 + 3) (by decide)]
            rfl
          rwa [e] at this
        · refine tells_put _ _ _ _ _ fun k => ?_
          show iw (bif Nat.beq k i then (bif Nat.blt i 16 then word mo (4 * i) else _) else tab mo i k) = _
          by_cases hk : k = i
          · rw [hk, Nat.beq_refl, if_pos rfl, show Nat.blt i 16 = true from Nat.ble_eq_true_of_le h16]
            rfl
          · rw [if_neg hk, show Nat.beq k i = false from by cases hb : Nat.beq k i with | true => exact absurd (Nat.eq_of_beq_eq_true hb) hk | false => rfl]
            rfl
      · have em : ∀ j : Nat, j ≤ 16 → im i j = ((i - j : Nat) : Int) := fun j h => by
          unfold im
          rw [IntWalk.i64_in _ (by omega)]; omega
        have e2 : im i 2 = ((i - 2 : Nat) : Int) := em 2 (by omega)
        have e7 : im i 7 = ((i - 7 : Nat) : Int) := em 7 (by omega)
        have e15 : im i 15 = ((i - 15 : Nat) : Int) := em 15 (by omega)
        have e16 : im i 16 = ((i - 16 : Nat) : Int) := em 16 (by omega)
        have pm : ∀ j : Nat, pl 0 (j : Int) = j := fun j => by unfold pl; omega
        refine Obl.goal (K := Goal P 0 18 fun x _ => R x) mix (fun _ h => h) (cast (blockB G (fun k => iw (v k)) (fun k => iw (tab mo i k)) (fun k => iw (tab mo (i + 1) k)) s i R _).symm ?_)
        rw [e2, e7, e15, e16, pm, pm, pm, pm, pm, hn]
        refine ⟨decide_eq_true (by omega), decide_eq_false (by omega), by omega, by omega, by omega, by omega, by omega, rfl, rfl, by omega, by omega, by omega, by omega, by omega, by omega, ?_, rfl, plain_int _ _, ih (i + 1) (by omega)⟩
        refine tells_put _ _ _ _ _ fun k => ?_
        show iw (bif Nat.beq k i then (bif Nat.blt i 16 then word mo (4 * i) else _) else tab mo i k) = _
        by_cases hk : k = i
        · rw [hk, Nat.beq_refl, if_pos rfl, show Nat.blt i 16 = false from by cases hb : Nat.blt i 16 with | true => exact absurd (Nat.le_of_ble_eq_true hb) h16 | false => rfl]
          exact (jnext_ok _ _ _ _).symm
        · rw [if_neg hk, show Nat.beq k i = false from by cases hb : Nat.beq k i with | true => exact absurd (Nat.eq_of_beq_eq_true hb) hk | false => rfl]
          rfl
  exact Obl.goal (K := Goal P 0 18 fun x _ => R x) mix (fun _ h => h) (cast (block0 G _ s R _).symm ⟨tells_zeros, rfl, plain_int _ (fun _ => 0), first 64 0 (by omega)⟩)

end Go.Proofs.YtledohmkjgmooaaDoor.shaW
