/- The program's SHA-256 of a block: a round, the words, and all rounds, each reckoned by the kernel on open words. -/
import Derived.Test.YtcdgbadnnodbeaaDoorShaWa
import Derived.Test.YtcdgbadnnodbeaaDoorRows
set_option maxRecDepth 100000
namespace Go.Proofs.YtcdgbadnnodbeaaDoor.shaW
open Go Ev
noncomputable abbrev P : Program := Tryd.prog
theorem mix : P.follows .mixedOrders = true := by kernel_rfl

noncomputable abbrev HB (G : T (T AV)) (b : Nat → Int) (L : Nat) : AHeap := ⟨.node .leaf (some (.cells (.fn fun k => some (.int .u8 (b k))) L 5 0 0 1 0 false .leaf)) .leaf, 1, G⟩
noncomputable def M24 (G : T (T AV)) (b : Nat → Int) (L off len cap : Nat) (w : Nat → Int) (i : Int) : AM := ⟨⟨25, 96, (.node (.node (.node .leaf (some (.ptr 2 0 0)) (.node .leaf (some (.int .i64 i)) .leaf)) none .leaf) (some (.slc 0 0 off len cap)) (.node .leaf (some (.ptr 1 0 0)) .leaf)),
   [.code (cd P (25 : Nat) [(1 : Nat), (1 : Nat), (0 : Nat), (1 : Nat), (0 : Nat), (0 : Nat)]), .inLoop (cd P (25 : Nat) [(1 : Nat), (1 : Nat), (0 : Nat), (1 : Nat), (0 : Nat), (0 : Nat)]), .inBlock 0, .code (cd P (25 : Nat) [(1 : Nat), (1 : Nat), (1 : Nat)])], [], .run, CallKind.normal, none⟩,
  [],
  ⟨.node (.node .leaf (some (.cells .leaf 64 61 0 0 1 0 false .leaf)) .leaf) (some (.cells (.fn fun k => some (.int .u8 (b k))) L 5 0 0 1 0 false .leaf)) (.node .leaf (some (.cells (.fn fun k => some (.int .u32 (w k))) 64 61 0 0 1 0 false .leaf)) .leaf), 3, G⟩⟩
noncomputable abbrev GK : T (T AV) := .node .leaf (some (.fn fun k => bif Nat.blt k 64 then some (.int .u32 (iw (kk k))) else none)) .leaf
def KI (k : Nat) : Int := iw (kk k)
def wl (w : Nat → Int) : List AV := (List.range 64).map fun k => .int .u32 (w k)
noncomputable abbrev H24 (G : T (T AV)) (b : Nat → Int) (L : Nat) (w : Nat → Int) : AHeap := ⟨.node (.node .leaf (some (.cells (.fn fun k => some (.int .u32 (w k))) 64 61 0 0 1 0 false .leaf)) .leaf) (some (.cells (.fn fun k => some (.int .u8 (b k))) L 5 0 0 1 0 false .leaf)) (.node .leaf (some (.cells (.fn fun k => some (.int .u32 (w k))) 64 61 0 0 1 0 false .leaf)) .leaf), 3, G⟩
noncomputable abbrev T8 (a : Nat → Int) : T AV := (.node (.node (.node (.node .leaf (some (.int .u32 (a 7))) .leaf) (some (.int .u32 (a 3))) .leaf) (some (.int .u32 (a 1))) (.node .leaf (some (.int .u32 (a 5))) .leaf)) (some (.int .u32 (a 0))) (.node (.node .leaf (some (.int .u32 (a 4))) .leaf) (some (.int .u32 (a 2))) (.node .leaf (some (.int .u32 (a 6))) .leaf)))
def av (a : Nat → Int) : AV := .agg [.int .u32 (a 0), .int .u32 (a 1), .int .u32 (a 2), .int .u32 (a 3), .int .u32 (a 4), .int .u32 (a 5), .int .u32 (a 6), .int .u32 (a 7)]
noncomputable def M17 (b : Nat → Int) (L : Nat) (w : Nat → Int) (XX YY : Nat → Int) (i : Int) : AM := ⟨⟨24, 39, (.node (.node .leaf none (.node .leaf (some (.ptr 3 0 0)) (.node .leaf (some (.agg (wl KI))) .leaf))) none (.node (.node .leaf (some (.ptr 2 0 0)) .leaf) (some (.ptr 1 0 0)) (.node .leaf (some (.ptr 4 0 0)) (.node .leaf (some (.int .i64 i)) .leaf)))),
   [.code (cd P (24 : Nat) [(1 : Nat), (1 : Nat), (1 : Nat), (0 : Nat), (1 : Nat), (0 : Nat), (0 : Nat)]), .inLoop (cd P (24 : Nat) [(1 : Nat), (1 : Nat), (1 : Nat), (0 : Nat), (1 : Nat), (0 : Nat), (0 : Nat)]), .inBlock 0, .code (cd P (24 : Nat) [(1 : Nat), (1 : Nat), (1 : Nat), (1 : Nat)])], [], .run, CallKind.normal, none⟩,
  [],
  ⟨(.node (.node (.node .leaf (some (.cells (T8 XX) 8 58 0 0 1 0 false .leaf)) .leaf) (some (.cells (T8 YY) 8 58 0 0 1 0 false .leaf)) .leaf) (some (.cells (.fn fun k => some (AV.int IntKind.u8 (b k))) L 5 0 0 1 0 false .leaf)) (.node (.node .leaf (some (.cells (.fn fun k => some (AV.int IntKind.u32 (w k))) 64 61 0 0 1 0 false .leaf)) .leaf) (some (.cells (T8 (fun _ => 0)) 8 58 0 0 1 0 false .leaf)) .leaf)), 5, (.node .leaf (some (.fn fun k => bif k.blt (64 : Nat) then some (AV.int IntKind.u32 (iw (kk k))) else none)) .leaf)⟩⟩

/-- A block that came, at a place. -/
def at8 (m : Nat → UInt8) : Nat → Int := fun k => ((m k).toNat : Int)

/-! ## A round -/
def iS1 (e : Int) : Int := xx (xx (xo (xl e 26) (xr e 6)) (xo (xl e 21) (xr e 11))) (xo (xl e 7) (xr e 25))
def iS0 (a : Int) : Int := xx (xx (xo (xl a 30) (xr a 2)) (xo (xl a 19) (xr a 13))) (xo (xl a 10) (xr a 22))
def ich (e f g : Int) : Int := xx (xn e f) (xn (xc e) g)
def imj (a b c : Int) : Int := xx (xx (xn a b) (xn a c)) (xn b c)
def iT (a : Nat → Int) (kw : Int) : Int := xa (xa (xa (a 7) (iS1 (a 4))) (ich (a 4) (a 5) (a 6))) kw
def iU (a : Nat → Int) : Int := xa (iS0 (a 0)) (imj (a 0) (a 1) (a 2))

theorem roundE (G : T (T AV)) (a : Nat → Int) (kw : Int) (R : AV → Prop) (_K : AM → Prop) : Obl P 26 (fun v _ => R v) 0 _K [.run 21, .step, .step, .step, .step, .step, .step, .run 347, .done] (startM P 26 [av a, .int .u32 kw] G) = ((some (AV.int IntKind.u32 (a 7)) = some (AV.int IntKind.u32 (a 7))) ∧ (some (AV.int IntKind.u32 (a 6)) = some (AV.int IntKind.u32 (a 6))) ∧ (some (AV.int IntKind.u32 (a 5)) = some (AV.int IntKind.u32 (a 5))) ∧ (some (AV.int IntKind.u32 (a 4)) = some (AV.int IntKind.u32 (a 4))) ∧ (some (AV.int IntKind.u32 (a 2)) = some (AV.int IntKind.u32 (a 2))) ∧ (some (AV.int IntKind.u32 (a 1)) = some (AV.int IntKind.u32 (a 1))) ∧ (some (AV.int IntKind.u32 (a 7)) = some (AV.int IntKind.u32 (a 7))) ∧ (some (AV.int IntKind.u32 (a 6)) = some (AV.int IntKind.u32 (a 6))) ∧ (some (AV.int IntKind.u32 (a 5)) = some (AV.int IntKind.u32 (a 5))) ∧ (some (AV.int IntKind.u32 (a 4)) = some (AV.int IntKind.u32 (a 4))) ∧ (some (AV.int IntKind.u32 (a 2)) = some (AV.int IntKind.u32 (a 2))) ∧ (some (AV.int IntKind.u32 (a 7)) = some (AV.int IntKind.u32 (a 7))) ∧ (some (AV.int IntKind.u32 (a 6)) = some (AV.int IntKind.u32 (a 6))) ∧ (some (AV.int IntKind.u32 (a 5)) = some (AV.int IntKind.u32 (a 5))) ∧ (some (AV.int IntKind.u32 (a 4)) = some (AV.int IntKind.u32 (a 4))) ∧ (some (AV.int IntKind.u32 (a 7)) = some (AV.int IntKind.u32 (a 7))) ∧ (some (AV.int IntKind.u32 (a 6)) = some (AV.int IntKind.u32 (a 6))) ∧ (some (AV.int IntKind.u32 (a 5)) = some (AV.int IntKind.u32 (a 5))) ∧ (some (AV.int IntKind.u32 (a 7)) = some (AV.int IntKind.u32 (a 7))) ∧ (some (AV.int IntKind.u32 (a 6)) = some (AV.int IntKind.u32 (a 6))) ∧ (some (AV.int IntKind.u32 (a 7)) = some (AV.int IntKind.u32 (a 7))) ∧ R (.agg [.int .u32 (xa (iT a kw) (iU a)), .int .u32 (a 0), .int .u32 (a 1), .int .u32 (a 2), .int .u32 (xa (a 3) (iT a kw)), .int .u32 (a 4), .int .u32 (a 5), .int .u32 (a 6)])) := by kernel_rfl

theorem round_ok (G : T (T AV)) (v : Nat → W32) (kw : W32) : Goal P 0 26 (fun x _ => x = av fun k => iw (rnd v kw k)) (startM P 26 [av fun k => iw (v k), .int .u32 (iw kw)] G) := by
  refine Obl.goal (K := fun _ => False) mix (fun _ h => h.elim) (cast (roundE G (fun k => iw (v k)) (iw kw) (fun x => x = av fun k => iw (rnd v kw k)) _).symm ⟨rfl, rfl, rfl, rfl, rfl, rfl, rfl, rfl, rfl, rfl, rfl, rfl, rfl, rfl, rfl, rfl, rfl, rfl, rfl, rfl, rfl, ?_⟩)
  simp only [iT, iU, iS1, iS0, ich, imj, xa_iw, xx_iw, xo_iw, xn_iw, xl_iw, xr_iw, xc_iw]
  rfl

end Go.Proofs.YtcdgbadnnodbeaaDoor.shaW
