/- Blocks more change nothing; a store leaves package variables. For calls of which all is known. -/
import Derived.Test.YtfimobbjldemeaaGreatDoorEvWg
namespace Go.Proofs.YtfimobbjldemeaaGreatDoor.Ev
open Go
section
variable {P : Program} {B : Base} {R : Bij} {h : AHeap} {w : World}

/-- Blocks more change nothing. -/
theorem HRel.garbage (k : HRel P B R h w) (hB : B.n ≤ w.heap.size) {w1 : World} (hs : w.heap.size ≤ w1.heap.size) (he : ∀ b, b < w.heap.size → w1.heap[b]? = w.heap[b]?) {n : Nat} (hn : h.next ≤ n) : HRel P B R ⟨h.objs, n, h.glob⟩ w1 where
  fresh i hi r := k.fresh i (Nat.le_trans hn hi) r
  obj i o e hp := (k.obj i o e hp).mono R.le_refl (fun _ => rfl) (fun r L hL => he _ (k.place i r L hL).2)
  pend i o e := ⟨Nat.lt_of_lt_of_le (k.pend i o e).1 hn, (k.pend i o e).2⟩
  place i r L e := ⟨(k.place i r L e).1, Nat.lt_of_lt_of_le (k.place i r L e).2 hs⟩
  rd i hi := ⟨Nat.lt_of_lt_of_le (k.rd i hi).1 hn, (k.rd i hi).2⟩
  rp := k.rp
  rol := k.rol
  low b hb := by rw [he b (Nat.lt_of_lt_of_le (Base.low_lt hb) hB)]; exact k.low b hb
  pin := k.pin
  apart := k.apart
  same := k.same
  glob g c e := by
    obtain ⟨h1, cs, el, fz, h2, h3⟩ := k.glob g c e
    exact ⟨h1, cs, el, fz, by rw [he g (heap_lt h2)]; exact h2, h3⟩

theorem keeps_garbage {w1 : World} (hs : w.heap.size ≤ w1.heap.size) (he : ∀ b, b < w.heap.size → w1.heap[b]? = w.heap[b]?) (h1 : w1.os = w.os) (h2 : w1.tape = w.tape) (h3 : w1.output = w.output) : Keeps R w R w1 :=
  ⟨h1, h2, h3, hs, R.le_refl, fun b hb hn => ⟨he b hb, hn⟩⟩

theorem storeCellsA_glob {i ver off : Nat} {vs : List AV} {h' : AHeap} (e : storeCellsA h i ver off vs = some h') : h'.glob = h.glob := by
  unfold storeCellsA at e
  split at e
  · split at e
    · cases e
    · split at e
      · rw [T.seq_eq] at e
        cases e
        exact glob_put _ _ _
      · cases e
  · cases e

theorem storeA_glob {t : TypeId} {p v : AV} {o : T AObj} {n : Nat} {g : T (T AV)} {h' : AHeap} (e : storeA P ⟨o, n, g⟩ t p v = some h') : h'.glob = g := by
  unfold storeA at e
  split at e
  · split at e
    · cases e
    · split at e
      · exact storeCellsA_glob e
      · cases e
  · cases e

end

end Go.Proofs.YtfimobbjldemeaaGreatDoor.Ev
