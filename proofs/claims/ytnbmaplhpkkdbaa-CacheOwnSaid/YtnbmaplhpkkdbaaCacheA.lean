/- What a cache keeps is its own: the run of the statement CacheOwn behind its call of works, for each of the 256 numbers, reckoned by the kernel. -/
import Derived.Test.YtnbmaplhpkkdbaaEvSc
import Derived.Test.YtnbmaplhpkkdbaaRows
set_option maxRecDepth 100000
namespace Go.Proofs.Ytnbmaplhpkkdbaa.cacheOwn
open Go Ev

noncomputable abbrev P : Program := Try.prog
noncomputable abbrev Q : AV → AHeap → Prop := fun v _ => v = .bool true

theorem mix : P.follows .mixedOrders = true := Checked.mixed Try.checked

/-- Behind works. -/
noncomputable def M (n : Int) : AM := ⟨⟨3, 86, (.node (.node (.node .leaf none (.node .leaf (some (.bool true)) .leaf)) none .leaf) (some (.int .u8 n)) .leaf),
   [.ops (rg P 3 [1, 0, 0]).toList ((rg P 3 [1, 0, 0]).toList.drop 1), .code (cd P 3 [1, 0, 1]), .code (cd P 3 [1, 1])], [], .run, CallKind.normal, none⟩,
  [],
  ⟨.leaf, 0, .leaf⟩⟩

theorem start (n : Int) (K : AM → Prop) : Obl P 3 Q 0 K [.run 8, .callv [] (.bool true), .keep [0, 11]] (startM P 3 [.int .u8 n] .leaf) = (Goal P 0 4 (fun x _ => x = AV.bool true) (startM P 4 [] .leaf) ∧ K (M n)) := by kernel_rfl

theorem works : Goal P 0 4 (fun x _ => x = AV.bool true) (startM P 4 [] .leaf) :=
  Goal.ofRun mix (n := 7000) (v := .bool true) (by kernel_rfl) fun _ => rfl

noncomputable def okB (o : Option AV) : Bool := match o with
  | some (.bool b) => b
  | _ => false

theorem okB_some {o : Option AV} (h : okB o = true) : o = some (.bool true) := by
  unfold okB at h
  split at h
  · subst h; rfl
  · cases h

/-- So many numbers, from one on. -/
noncomputable def chk : Nat → Nat → Bool
  | 0, _ => true
  | k + 1, lo => match okB (runA P 3 8000 (M (Int.ofNat lo))) with
    | true => chk k (lo + 1)
    | false => false

theorem chk_run : ∀ (k lo : Nat), chk k lo = true → ∀ j, lo ≤ j → j < lo + k → runA P 3 8000 (M (Int.ofNat j)) = some (.bool true)
  | 0, lo, _, j, h1, h2 => by omega
  | k + 1, lo, h, j, h1, h2 => by
    unfold chk at h
    split at h
    · rename_i e
      rcases Nat.eq_or_lt_of_le h1 with h3 | h3
      · subst h3; exact okB_some e
      · exact chk_run k (lo + 1) h j h3 (by omega)
    · cases h

end Go.Proofs.Ytnbmaplhpkkdbaa.cacheOwn
