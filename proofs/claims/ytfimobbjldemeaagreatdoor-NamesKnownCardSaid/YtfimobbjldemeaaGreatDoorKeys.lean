/- slices.Sorted of maps.Keys: a call of which all is known, by the guide's contracts at this program's numbers. -/
import Derived.Test.YtfimobbjldemeaaGreatDoorEvXc
import Derived.Test.YtfimobbjldemeaaGreatDoorLay
namespace Go.Proofs.YtfimobbjldemeaaGreatDoor.keysKnown
open Go Go.RowKit Go.Maps Go.Sort Go.Shelf Go.Proofs.YtfimobbjldemeaaGreatDoor.Ev

theorem sorts (m : Nat) : AnyZ.SortsIn Tryz.prog Tryz.sorted17_ren Fence.wide m :=
  ⟨fun blk off cap ss W hH hblk hsz => callsIn_wide.2 (AnyM.slices_Sort_string Tryz.sort41 blk off cap ss W hH hblk hsz),
   fun p cap W => callsIn_wide.2 (AnyM.slices_Sort_string_none Tryz.sort41 p cap W)⟩

theorem met : SortsKeys Tryz.prog 17 42 9 := by
  intro Bm b nn D R w hm hown hmax hbytes
  refine (callsIn_wide (n := 5)).1 ?_
  have hlt : Bm < w.heap.size := by
    rcases Nat.lt_or_ge Bm w.heap.size with h | h
    · exact h
    · simp [World.cell?, Array.getElem?_eq_none h] at hm
  have hseq : SeqGives Fence.wide 2 Tryz.prog 42 #[.pointer (some ⟨Bm, 0, none⟩)] encStr (fun ss => ss.Perm (strKeys D)) (Maps.size D) w :=
    AnyZ.keys_gives (ρ := Tryz.keys18_ren) { Tryz.keys18 with } Fence.wide _ trivial rfl (by omega) Bm b nn D w hlt hm hown
  exact AnyZ.sorted_in Tryz.sorted17 Fence.wide 5 trivial trivial trivial trivial rfl (by omega) (sorts _) (enters_of Tryz.func41 (by kernel_rfl) rfl) 42 #[.pointer (some ⟨Bm, 0, none⟩)] trivial (enters_of Tryz.func42 (by kernel_rfl) rfl) _ _ hmax hbytes w hseq

theorem known : XOk Tryz.prog 17 (sortedF 42 9) := sorted_ok (by kernel_rfl) (by kernel_rfl) met

end Go.Proofs.YtfimobbjldemeaaGreatDoor.keysKnown
