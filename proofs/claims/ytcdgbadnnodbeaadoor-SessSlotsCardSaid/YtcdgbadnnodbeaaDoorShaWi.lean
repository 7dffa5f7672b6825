/- What the rows list, for the evaluator: one package variable, a row of 64 values. -/
import Derived.Test.YtcdgbadnnodbeaaDoorRows
import Derived.Test.YtcdgbadnnodbeaaDoorEvX
import Derived.Test.YtcdgbadnnodbeaaDoorShaWh
import Derived.MakeChecks
import Derived.ProofKit
import Derived.LaidMore
import Derived.Stop.Joined
set_option maxRecDepth 100000
namespace Go.Proofs.YtcdgbadnnodbeaaDoor.shaW
open Go Ev

def lits : List Lit := [.int .u32 1116352408, .int .u32 1899447441, .int .u32 3049323471, .int .u32 3921009573, .int .u32 961987163, .int .u32 1508970993, .int .u32 2453635748, .int .u32 2870763221, .int .u32 3624381080, .int .u32 310598401, .int .u32 607225278, .int .u32 1426881987, .int .u32 1925078388, .int .u32 2162078206, .int .u32 2614888103, .int .u32 3248222580, .int .u32 3835390401, .int .u32 4022224774, .int .u32 264347078, .int .u32 604807628, .int .u32 770255983, .int .u32 1249150122, .int .u32 1555081692, .int .u32 1996064986, .int .u32 2554220882, .int .u32 2821834349, .int .u32 2952996808, .int .u32 3210313671, .int .u32 3336571891, .int .u32 3584528711, .int .u32 113926993, .int .u32 338241895, .int .u32 666307205, .int .u32 773529912, .int .u32 1294757372, .int .u32 1396182291, .int .u32 1695183700, .int .u32 1986661051, .int .u32 2177026350, .int .u32 2456956037, .int .u32 2730485921, .int .u32 2820302411, .int .u32 3259730800, .int .u32 3345764771, .int .u32 3516065817, .int .u32 3600352804, .int .u32 4094571909, .int .u32 275423344, .int .u32 430227734, .int .u32 506948616, .int .u32 659060556, .int .u32 883997877, .int .u32 958139571, .int .u32 1322822218, .int .u32 1537002063, .int .u32 1747873779, .int .u32 1955562222, .int .u32 2024104815, .int .u32 2227730452, .int .u32 2361852424, .int .u32 2428436474, .int .u32 2756734187, .int .u32 3204031479, .int .u32 3329325298]
noncomputable def glob : T (T AV) := globOf 0 lits

theorem gNum : Tryd.prog.globalNamed "lodger/sha.roundWords" = some 0 := by kernel_rfl
theorem gType : (Tryd.prog.globals[0]?).map (·.type) = some 61 := by kernel_rfl

theorem globs {W : World} (h : laidMetH Tryd.prog [("lodger/sha.roundWords", Rows.laid_lodger_sha_roundWords)] W) : Globs glob W := by
  rw [MakeChecks.laidMetH_plain _ _ _ (by kernel_rfl)] at h
  obtain ⟨ps, ⟨g0, t0, cs0, f0, p0, q0, hg0, ht0, hv0, hd0, _⟩, _, _⟩ := h
  obtain rfl := Option.some.inj (gNum.symm.trans hg0)
  obtain rfl := Option.some.inj (gType.symm.trans ht0)
  exact globs_one hg0 hv0 (array_cells (lits := lits) (n := 64) (e := 56) (by kernel_rfl) (.inr ⟨.u32, by kernel_rfl⟩) (by kernel_rfl) (by kernel_rfl) hd0)

theorem globE : glob = .node .leaf (some (storeList .leaf 0 (wl KI))) .leaf := by kernel_rfl

theorem globK {W : World} (h : Globs glob W) : Globs GK W := fun g c e => by
  have e' := e
  rw [T.get_node] at e'
  split at e'
  · rename_i hg
    subst hg
    cases e'
    obtain ⟨h1, cs, el, fz, h2, h3⟩ := h 0 (storeList .leaf 0 (wl KI)) (by rw [globE, T.get_node, if_pos rfl])
    refine ⟨h1, cs, el, fz, h2, fun k v hk => h3 k v ?_⟩
    change (bif Nat.blt k 64 then some (AV.int .u32 (KI k)) else none) = some v at hk
    cases hb : Nat.blt k 64 with
    | false => rw [hb] at hk; cases hk
    | true =>
      rw [hb] at hk
      exact tells_wl KI k v (Nat.le_of_ble_eq_true hb) hk
  · split at e'
    · cases e'
    · cases e'

/-- The door's own heap meets the condition. -/
theorem door_met (os : Os) (args : Array Value) : laidMetH Tryd.prog [("lodger/sha.roundWords", Rows.laid_lodger_sha_roundWords)] ((World.doorLaid Tryd.prog 400 os).forCall (fun _ _ => 0) ⟨#[], args, []⟩).memory :=
  laidMetH_of_parts3 (fuel := 8) (laidMet_of_run' 8 (by kernel_rfl) (by kernel_rfl)) (by kernel_rfl) (by kernel_rfl)

theorem str_rel (R : Bij) (b : ByteArray) : VRel R (.str b.data.toList) (.string b) := by
  show Value.string b = .string ⟨b.data.toList.toArray⟩
  rw [Array.toArray_toList]

end Go.Proofs.YtcdgbadnnodbeaaDoor.shaW
