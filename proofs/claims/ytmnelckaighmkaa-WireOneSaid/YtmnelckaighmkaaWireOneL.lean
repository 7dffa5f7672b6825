/- One number's row, and what any bytes begin with: the ways of the statement WireOne. Every run is reckoned by the kernel; what has to be shown of each is listed with it. -/
import Derived.Test.YtmnelckaighmkaaWireX
set_option maxRecDepth 100000
namespace Go.Proofs.Ytmnelckaighmkaa.wireOne
open Go Ev wireR

noncomputable abbrev Q : AV → AHeap → Prop := fun v _ => v = .bool true
noncomputable def M (w s : List UInt8) (i : Int) : AM := ⟨⟨6, 93, (.node (.node (.node (.node .leaf (some (.int .i64 i)) .leaf) none .leaf) (some (.str s)) (.node .leaf (some (.str w)) .leaf)) none .leaf),
   [.code (cd P 6 [1, 1, 1, 1, 0, 1, 0, 0]), .inLoop (cd P 6 [1, 1, 1, 1, 0, 1, 0, 0]), .inBlock 0, .code (cd P 6 [1, 1, 1, 1, 1])], [], .run, CallKind.normal, none⟩,
  [],
  ⟨.leaf, 0, .leaf⟩⟩
noncomputable def SA (w s p : List UInt8) (i : Int) : AM := ⟨⟨6, 93, (.node (.node (.node (.node (.node .leaf none (.node .leaf (some (.str p)) .leaf)) (some (.int .i64 i)) (.node (.node .leaf (some (.int .i64 i)) .leaf) none .leaf)) none .leaf) (some (.str s)) (.node (.node .leaf none (.node (.node .leaf (some (.int .i64 (↑w.length : Int))) .leaf) none .leaf)) (some (.str w)) (.node .leaf none (.node (.node .leaf (some (.str w)) .leaf) none .leaf)))) none (.node (.node (.node (.node .leaf none (.node .leaf (some (.ptr 1 0 0)) .leaf)) (some (.ptr 1 0 0)) (.node (.node .leaf (some (.str w)) .leaf) none .leaf)) none .leaf) none (.node (.node .leaf none (.node (.node .leaf (some (.bool true)) .leaf) none .leaf)) none (.node .leaf none (.node (.node .leaf (some (.int .i64 i)) .leaf) none .leaf))))),
   [.ops (rg P 6 [1, 1, 1, 1, 0, 1, 0, 0, 1, 0, 0, 0]).toList ((rg P 6 [1, 1, 1, 1, 0, 1, 0, 0, 1, 0, 0, 0]).toList.drop 5), .code (cd P 6 [1, 1, 1, 1, 0, 1, 0, 0, 1, 0, 0, 1]), .inBlock 1, .code (cd P 6 [1, 1, 1, 1, 0, 1, 0, 0, 1, 1]), .inLoop (cd P 6 [1, 1, 1, 1, 0, 1, 0, 0]), .inBlock 0, .code (cd P 6 [1, 1, 1, 1, 1])], [], .run, CallKind.normal, none⟩,
  [],
  ⟨(.node (.node .leaf (some (.cells (.node (.node .leaf (some (.bool false)) .leaf) (some (.slg 0 0 0 (p.length) 0)) .leaf) 2 46 0 0 1 0 false .leaf)) .leaf) (some (.cells (.fn fun j => some (AV.int IntKind.u8 (yy p j))) (p.length) 5 0 0 1 0 true .leaf)) .leaf), 2, .leaf⟩⟩
noncomputable def SB (w s p : List UInt8) (i : Int) (cap : Nat) : AM := ⟨⟨6, 93, (.node (.node (.node (.node (.node .leaf none (.node .leaf (some (.str p)) .leaf)) (some (.int .i64 i)) (.node (.node .leaf (some (.int .i64 i)) .leaf) none .leaf)) none .leaf) (some (.str s)) (.node (.node .leaf none (.node (.node .leaf (some (.int .i64 (↑w.length : Int))) .leaf) none .leaf)) (some (.str w)) (.node .leaf none (.node (.node .leaf (some (.str w)) .leaf) none .leaf)))) none (.node (.node (.node (.node .leaf none (.node .leaf (some (.ptr 1 0 0)) .leaf)) (some (.ptr 1 0 0)) (.node (.node .leaf (some (.str w)) .leaf) none .leaf)) none .leaf) none (.node (.node .leaf none (.node (.node .leaf (some (.bool true)) .leaf) none .leaf)) none (.node .leaf none (.node (.node .leaf (some (.int .i64 i)) .leaf) none .leaf))))),
   [.ops (rg P 6 [1, 1, 1, 1, 0, 1, 0, 0, 1, 0, 0, 0]).toList ((rg P 6 [1, 1, 1, 1, 0, 1, 0, 0, 1, 0, 0, 0]).toList.drop 5), .code (cd P 6 [1, 1, 1, 1, 0, 1, 0, 0, 1, 0, 0, 1]), .inBlock 1, .code (cd P 6 [1, 1, 1, 1, 0, 1, 0, 0, 1, 1]), .inLoop (cd P 6 [1, 1, 1, 1, 0, 1, 0, 0]), .inBlock 0, .code (cd P 6 [1, 1, 1, 1, 1])], [], .run, CallKind.normal, none⟩,
  [],
  ⟨(.node (.node .leaf (some (.cells (.node (.node .leaf (some (.bool false)) .leaf) (some (.slc 0 0 0 (p.length) cap)) .leaf) 2 46 0 0 1 0 false .leaf)) .leaf) (some (.cells (.fn fun j => some (AV.int IntKind.u8 (yy p j))) (p.length) 5 0 0 1 0 true .leaf)) .leaf), 2, .leaf⟩⟩
noncomputable def EA (w s p : List UInt8) (i lim : Int) : AM := ⟨⟨6, 93, (.node (.node (.node (.node .leaf (some (.int .i64 i)) (.node (.node .leaf (some (.int .i64 i)) .leaf) none .leaf)) none (.node .leaf none (.node .leaf none (.node .leaf (some (.int .i64 lim)) .leaf)))) (some (.str p)) (.node (.node .leaf (some (.ptr 1 0 0)) (.node (.node .leaf (some (.int .i64 (↑w.length : Int))) .leaf) none (.node .leaf (some (.str s)) .leaf))) (some (.str w)) (.node .leaf none (.node .leaf none (.node .leaf (some (.str p)) .leaf))))) none (.node (.node (.node .leaf none (.node (.node .leaf (some (.str w)) .leaf) none (.node .leaf (some (.str s)) .leaf))) none (.node .leaf none (.node .leaf none (.node .leaf (some (.str p)) .leaf)))) none (.node (.node .leaf none (.node (.node .leaf (some (.bool false)) .leaf) none (.node .leaf (some (.int .i64 (↑s.length : Int))) .leaf))) none (.node .leaf none (.node .leaf none (.node .leaf (some (.ptr 1 0 0)) .leaf)))))),
   [.ops (rg P 6 [1, 1, 1, 1, 1, 1, 0]).toList ((rg P 6 [1, 1, 1, 1, 1, 1, 0]).toList.drop 3), .code (cd P 6 [1, 1, 1, 1, 1, 1, 1])], [], .run, CallKind.normal, none⟩,
  [],
  ⟨(.node (.node .leaf (some (.cells (.node (.node .leaf (some (.bool false)) .leaf) (some (.slg 0 0 0 (p.length) 0)) .leaf) 2 46 0 0 1 0 false .leaf)) .leaf) (some (.cells (.fn fun j => some (AV.int IntKind.u8 (yy p j))) (p.length) 5 0 0 1 0 true .leaf)) .leaf), 2, .leaf⟩⟩
noncomputable def EB (w s p : List UInt8) (i lim : Int) (cap : Nat) : AM := ⟨⟨6, 93, (.node (.node (.node (.node .leaf (some (.int .i64 i)) (.node (.node .leaf (some (.int .i64 i)) .leaf) none .leaf)) none (.node .leaf none (.node .leaf none (.node .leaf (some (.int .i64 lim)) .leaf)))) (some (.str p)) (.node (.node .leaf (some (.ptr 1 0 0)) (.node (.node .leaf (some (.int .i64 (↑w.length : Int))) .leaf) none (.node .leaf (some (.str s)) .leaf))) (some (.str w)) (.node .leaf none (.node .leaf none (.node .leaf (some (.str p)) .leaf))))) none (.node (.node (.node .leaf none (.node (.node .leaf (some (.str w)) .leaf) none (.node .leaf (some (.str s)) .leaf))) none (.node .leaf none (.node .leaf none (.node .leaf (some (.str p)) .leaf)))) none (.node (.node .leaf none (.node (.node .leaf (some (.bool false)) .leaf) none (.node .leaf (some (.int .i64 (↑s.length : Int))) .leaf))) none (.node .leaf none (.node .leaf none (.node .leaf (some (.ptr 1 0 0)) .leaf)))))),
   [.ops (rg P 6 [1, 1, 1, 1, 1, 1, 0]).toList ((rg P 6 [1, 1, 1, 1, 1, 1, 0]).toList.drop 3), .code (cd P 6 [1, 1, 1, 1, 1, 1, 1])], [], .run, CallKind.normal, none⟩,
  [],
  ⟨(.node (.node .leaf (some (.cells (.node (.node .leaf (some (.bool false)) .leaf) (some (.slc 0 0 0 (p.length) cap)) .leaf) 2 46 0 0 1 0 false .leaf)) .leaf) (some (.cells (.fn fun j => some (AV.int IntKind.u8 (yy p j))) (p.length) 5 0 0 1 0 true .leaf)) .leaf), 2, .leaf⟩⟩

theorem oney (n : Int) (s w x : List UInt8) (K : AM → Prop) : Obl P 6 Q 0 K [.run 8, .callv [0, 1] (.str w), .run 9, .know 17 false, .run 5, .know 21 false, .run 10, .know 25 true, .run 6, .callv [0, 1] (.str x), .run 8, .know 32 false, .run 7, .know 38 false, .run 9, .keep [1, 5, 7]] ((startM P 6 [.int .u64 n, .str s] .leaf)) = ((Goal P (0 : Nat) 8 (fun x _ => x = AV.str w) (startM P 8 [.str [], .int .u64 n] .leaf)) ∧ (decide ((↑w.length : Int) < (1 : Int)) = false) ∧ (decide ((↑w.length : Int) > (9 : Int)) = false) ∧ (decide (IntKind.u64.wrap (n + (1 : Int)) > n) = true) ∧ (Goal P (0 : Nat) 8 (fun x_1 _ => x_1 = AV.str x) (startM P 8 [.str [], .int .u64 (IntKind.u64.wrap (n + (1 : Int)))] .leaf)) ∧ ((Op.bytesLess x w || x == w) = false) ∧ (decide ((↑x.length : Int) < (↑w.length : Int)) = false) ∧ K (M w s (Int.ofNat (nat_lit 0)))) := by kernel_rfl

theorem onen (n : Int) (s w : List UInt8) (K : AM → Prop) : Obl P 6 Q 0 K [.run 8, .callv [0, 1] (.str w), .run 9, .know 17 false, .run 5, .know 21 false, .run 10, .know 25 false, .run 9, .keep [1, 5, 7]] ((startM P 6 [.int .u64 n, .str s] .leaf)) = ((Goal P (0 : Nat) 8 (fun x _ => x = AV.str w) (startM P 8 [.str [], .int .u64 n] .leaf)) ∧ (decide ((↑w.length : Int) < (1 : Int)) = false) ∧ (decide ((↑w.length : Int) > (9 : Int)) = false) ∧ (decide (IntKind.u64.wrap (n + (1 : Int)) > n) = false) ∧ K (M w s (Int.ofNat (nat_lit 0)))) := by kernel_rfl

theorem roundA (w s : List UInt8) (i : Int) (K : AM → Prop) : Obl P 6 Q 0 K [.run 8, .know 42 true, .run 8, .op, .run 1, .callh [] [0] (.ptr 1 0 0) (newH (List.take (i.toNat - 0) (List.drop 0 w))), .run 1] ((M w s i)) = ((decide (i < (↑w.length : Int)) = true) ∧ ((0 : Int) ≤ i ∧ i ≤ (↑w.length : Int)) ∧ (PlainFn fun j => some (AV.int IntKind.u8 (yy (List.take (i.toNat - (0 : Nat)) (List.drop (0 : Nat) w)) j))) ∧ (Goal P 0 13 (fun x k => x = AV.ptr (1 : Nat) (0 : Nat) (0 : Nat) ∧ k = newH (List.take (i.toNat - (0 : Nat)) (List.drop (0 : Nat) w))) (startM P 13 [.str (List.take (i.toNat - (0 : Nat)) (List.drop (0 : Nat) w))] .leaf)) ∧ K (SA w s (List.take (i.toNat - 0) (List.drop 0 w)) i)) := by kernel_rfl

theorem round0 (w s : List UInt8) (K : AM → Prop) : Obl P 6 Q 0 K [.run 8, .know 42 true, .run 10, .callh [] [0] (.ptr 1 0 0) (newH []), .run 149, .can 0 [] [1, 5, 7] []] ((M w s 0)) = ((decide (Int.ofNat (nat_lit 0) < (↑w.length : Int)) = true) ∧ (PlainFn fun j => some (AV.int IntKind.u8 (yy [] j))) ∧ (Goal P 0 13 (fun x k => x = AV.ptr (1 : Nat) (0 : Nat) (0 : Nat) ∧ k = newH []) (startM P 13 [.str (List.take (nat_lit 0) (List.drop (0 : Nat) w))] .leaf)) ∧ K (M w s (Int.ofNat (nat_lit 1)))) := by kernel_rfl

theorem roundE (w s p : List UInt8) (i : Int) (cap : Nat) (K : AM → Prop) : Obl P 6 Q 0 K [.run 5, .callh [(1, 0, []), (0, 0, [0])] [0] (.int .u64 0) (rd (.nils 0 0) true (fun j => some (.int .u8 (yy p j))) p.length), .run 34, .can 0 [] [1, 5, 7] []] ((SB w s p i cap)) = ((PlainFn fun j => some (AV.int IntKind.u8 (yy p j))) ∧ (PlainFn fun j => some (AV.int IntKind.u8 (yy p j))) ∧ (Goal P 2 14 (fun x k => x = AV.int IntKind.u64 (0 : Int) ∧ k = rd (AV.nils (0 : Nat) (0 : Nat)) true (fun j => some (AV.int IntKind.u8 (yy p j))) p.length) (startH P 14 [.ptr 0 0 0] (rd (.slc 1 0 0 p.length cap) false (fun j => some (.int .u8 (yy p j))) p.length))) ∧ K (M w s (IntKind.i64.wrap (i + (1 : Int))))) := by kernel_rfl

theorem roundB (w s p : List UInt8) (i : Int) (cap : Nat) (a1 a2 a3 a4 a5 : Int) (K : AM → Prop) : Obl P 6 Q 0 K [.run 5, .callh [(1, 0, []), (0, 0, [0])] [0] (.int .u64 0) (rd3 (.nils 0 0) true p a1 a2 a3 a4 a5), .run 34, .can 0 [] [1, 5, 7] []] ((SB w s p i cap)) = ((PlainFn fun j => some (AV.int IntKind.u8 (yy p j))) ∧ (PlainFn fun j => some (AV.int IntKind.u8 (yy p j))) ∧ (Goal P 2 14 (fun x k => x = AV.int IntKind.u64 (0 : Int) ∧ k = rd3 (AV.nils (0 : Nat) (0 : Nat)) true p a1 a2 a3 a4 a5) (startH P 14 [.ptr 0 0 0] (rd (.slc 1 0 0 p.length cap) false (fun j => some (.int .u8 (yy p j))) p.length))) ∧ K (M w s (IntKind.i64.wrap (i + (1 : Int))))) := by kernel_rfl

theorem exitA (w s : List UInt8) (i : Int) (K : AM → Prop) : Obl P 6 Q 0 K [.run 8, .know 42 false, .run 8, .op, .run 6, .callh [] [0] (.ptr 1 0 0) (newH (List.take ((if decide ((20 : Int) < s.length) = true then (20 : Int) else s.length).toNat - 0) (List.drop 0 s))), .run 1] ((M w s i)) = ((decide (i < (↑w.length : Int)) = false) ∧ (((0 : Int) ≤ if decide ((20 : Int) < (↑s.length : Int)) = true then (20 : Int) else (↑s.length : Int)) ∧ (if decide ((20 : Int) < (↑s.length : Int)) = true then (20 : Int) else (↑s.length : Int)) ≤ (↑s.length : Int)) ∧ (PlainFn fun j => some (AV.int IntKind.u8 (yy (List.take ((if decide ((20 : Int) < (↑s.length : Int)) = true then (20 : Int) else (↑s.length : Int)).toNat - (0 : Nat)) (List.drop (0 : Nat) s)) j))) ∧ (Goal P 0 13 (fun x k => x = AV.ptr (1 : Nat) (0 : Nat) (0 : Nat) ∧ k = newH (List.take ((if decide ((20 : Int) < (↑s.length : Int)) = true then (20 : Int) else (↑s.length : Int)).toNat - (0 : Nat)) (List.drop (0 : Nat) s))) (startM P 13 [.str (List.take ((if decide ((20 : Int) < (↑s.length : Int)) = true then (20 : Int) else (↑s.length : Int)).toNat - (0 : Nat)) (List.drop (0 : Nat) s))] .leaf)) ∧ K (EA w s (List.take ((if decide ((20 : Int) < (↑s.length : Int)) = true then (20 : Int) else (↑s.length : Int)).toNat - 0) (List.drop 0 s)) i (if decide ((20 : Int) < (↑s.length : Int)) = true then (20 : Int) else (↑s.length : Int)))) := by kernel_rfl

theorem exit0 (w : List UInt8) (i : Int) (_K : AM → Prop) : Obl P 6 Q 0 _K [.run 8, .know 42 false, .run 15, .callh [] [0] (.ptr 1 0 0) (newH []), .run 147, .callv [] (.bool true), .run 3, .done] ((M w [] i)) = ((decide (i < (↑w.length : Int)) = false) ∧ (PlainFn fun j => some (AV.int IntKind.u8 (yy [] j))) ∧ (Goal P 0 13 (fun x k => x = AV.ptr (1 : Nat) (0 : Nat) (0 : Nat) ∧ k = newH []) (startM P 13 [.str []] .leaf)) ∧ (Goal P (0 : Nat) 12 (fun x _ => x = AV.bool true) (startM P 12 [] .leaf)) ∧ (AV.bool true = AV.bool true)) := by kernel_rfl

theorem exitE (w s p : List UInt8) (i lim : Int) (cap : Nat) (_K : AM → Prop) : Obl P 6 Q 0 _K [.run 5, .callh [(1, 0, []), (0, 0, [0])] [0] (.int .u64 0) (rd (.nils 0 0) true (fun j => some (.int .u8 (yy p j))) p.length), .run 32, .callv [] (.bool true), .run 3, .done] ((EB w s p i lim cap)) = ((PlainFn fun j => some (AV.int IntKind.u8 (yy p j))) ∧ (PlainFn fun j => some (AV.int IntKind.u8 (yy p j))) ∧ (Goal P 2 14 (fun x k => x = AV.int IntKind.u64 (0 : Int) ∧ k = rd (AV.nils (0 : Nat) (0 : Nat)) true (fun j => some (AV.int IntKind.u8 (yy p j))) p.length) (startH P 14 [.ptr 0 0 0] (rd (.slc 1 0 0 p.length cap) false (fun j => some (.int .u8 (yy p j))) p.length))) ∧ (Goal P (0 : Nat) 12 (fun x _ => x = AV.bool true) (startM P 12 [] .leaf)) ∧ (AV.bool true = AV.bool true)) := by kernel_rfl

theorem exitB (w s p : List UInt8) (i lim : Int) (cap : Nat) (a1 a2 a3 a4 a5 : Int) (_K : AM → Prop) : Obl P 6 Q 0 _K [.run 5, .callh [(1, 0, []), (0, 0, [0])] [0] (.int .u64 0) (rd3 (.nils 0 0) true p a1 a2 a3 a4 a5), .run 32, .callv [] (.bool true), .run 3, .done] ((EB w s p i lim cap)) = ((PlainFn fun j => some (AV.int IntKind.u8 (yy p j))) ∧ (PlainFn fun j => some (AV.int IntKind.u8 (yy p j))) ∧ (Goal P 2 14 (fun x k => x = AV.int IntKind.u64 (0 : Int) ∧ k = rd3 (AV.nils (0 : Nat) (0 : Nat)) true p a1 a2 a3 a4 a5) (startH P 14 [.ptr 0 0 0] (rd (.slc 1 0 0 p.length cap) false (fun j => some (.int .u8 (yy p j))) p.length))) ∧ (Goal P (0 : Nat) 12 (fun x _ => x = AV.bool true) (startM P 12 [] .leaf)) ∧ (AV.bool true = AV.bool true)) := by kernel_rfl

theorem exitO (w s p x : List UInt8) (i lim : Int) (cap off2 len2 : Nat) (m a1 a2 a3 a4 a5 : Int) (_K : AM → Prop) : Obl P 6 Q 0 _K [.run 5, .callh [(1, 0, []), (0, 0, [0])] [0] (.int .u64 m) (rd3 (.slc 1 0 off2 len2 len2) false p a1 a2 a3 a4 a5), .run 32, .callv [0, 1] (.str x), .run 10, .know 74 false, .run 3, .op, .run 4, .know 82 false, .run 49, .know 91 false, .run 5, .callv [] (.bool true), .run 3, .done] ((EB w s p i lim cap)) = ((PlainFn fun j => some (AV.int IntKind.u8 (yy p j))) ∧ (PlainFn fun j => some (AV.int IntKind.u8 (yy p j))) ∧ (Goal P 2 14 (fun x k => x = AV.int IntKind.u64 m ∧ k = rd3 (AV.slc (1 : Nat) (0 : Nat) off2 len2 len2) false p a1 a2 a3 a4 a5) (startH P 14 [.ptr 0 0 0] (rd (.slc 1 0 0 p.length cap) false (fun j => some (.int .u8 (yy p j))) p.length))) ∧ (Goal P (0 : Nat) 8 (fun x_1 _ => x_1 = AV.str x) (startM P 8 [.str [], .int .u64 m] .leaf)) ∧ (decide ((↑p.length : Int) < (↑x.length : Int)) = false) ∧ ((0 : Int) ≤ (↑x.length : Int) ∧ (↑x.length : Int) ≤ (↑p.length : Int)) ∧ ((!List.take ((↑x.length : Int).toNat - (0 : Nat)) (List.drop (0 : Nat) p) == x) = false) ∧ ((!((↑len2 : Int) == (0 : Int)) == ((↑p.length : Int) == (↑x.length : Int))) = false) ∧ (Goal P (0 : Nat) 12 (fun x _ => x = AV.bool true) (startM P 12 [] .leaf)) ∧ (AV.bool true = AV.bool true)) := by kernel_rfl

theorem roundC (w s p : List UInt8) (i : Int) (K : AM → Prop) : Obl P 6 Q 0 K [.cap 1 0] (SA w s p i) = (0 < p.length ∧ ∀ cap, p.length ≤ cap → K (SB w s p i cap)) := by kernel_rfl

theorem exitC (w s p : List UInt8) (i lim : Int) (K : AM → Prop) : Obl P 6 Q 0 K [.cap 1 0] (EA w s p i lim) = (0 < p.length ∧ ∀ cap, p.length ≤ cap → K (EB w s p i lim cap)) := by kernel_rfl

theorem ahead_all (p : List UInt8) : wireR.ahead p p.length = p := by simp [wireR.ahead]

/-- A text that is new: its end. -/
theorem last (w s p : List UInt8) (i lim : Int) (hp : 0 < p.length) (hbig : p.length ≤ 20) : Goal P 0 6 Q (EA w s p i lim) := by
  refine Obl.goal (K := Goal P 0 6 Q) mix (fun _ h => h) (cast (exitC w s p i lim _).symm ⟨hp, fun cap hc => ?_⟩)
  cases hpar : parse p with
  | none =>
    rcases num_bad 2 p 0 p.length cap (Nat.le_refl _) (fun _ => Nat.zero_add _) hc (by omega) (by rw [ahead_all]; exact hpar) with h | ⟨a1, a2, a3, a4, a5, h⟩
    · exact Obl.goal (K := fun _ => False) mix (fun _ h => h.elim) (cast (exitE w s p i lim cap _).symm ⟨plain_yy p, plain_yy p, h, works, rfl⟩)
    · exact Obl.goal (K := fun _ => False) mix (fun _ h => h.elim) (cast (exitB w s p i lim cap a1 a2 a3 a4 a5 _).symm ⟨plain_yy p, plain_yy p, h, works, rfl⟩)
  | some q =>
    obtain ⟨m, k⟩ := q
    obtain ⟨m0, m1, m2, m3, m4⟩ := parse_some hpar
    obtain ⟨off2, a1, a2, a3, a4, a5, _, h⟩ := num_ok 2 p 0 p.length cap (Nat.le_refl _) (fun _ => Nat.zero_add _) hc (by omega) (by rw [ahead_all]; exact hpar)
    refine Obl.goal (K := fun _ => False) mix (fun _ h => h.elim) (cast (exitO w s p (row m) i lim cap off2 (p.length - k) m a1 a2 a3 a4 a5 _).symm ⟨plain_yy p, plain_yy p, h, puts [] m m0 m1 (by simp), decide_eq_false (by omega), by omega, ?_, ?_, works, rfl⟩)
    · rw [m4, Int.toNat_natCast, Nat.sub_zero, List.drop_zero, m2]; simp
    · rw [m4]
      by_cases hk : p.length = k
      · simp [hk]
      · have h1 : (((p.length - k : Nat) : Int) == 0) = false := by simp; omega
        have h2 : (((p.length : Nat) : Int) == (k : Int)) = false := by simp; omega
        rw [h1, h2]; rfl

theorem tail (w s : List UInt8) (i : Int) (h : ¬ i < w.length) : Goal P 0 6 Q (M w s i) := by
  by_cases hs : s = []
  · subst hs
    exact Obl.goal (K := fun _ => False) mix (fun _ h => h.elim) (cast (exit0 w i _).symm ⟨decide_eq_false h, plain_yy [], newr_ok 0 [], works, rfl⟩)
  · have hl : 0 < s.length := List.length_pos_iff.2 hs
    refine Obl.goal (K := Goal P 0 6 Q) mix (fun _ h => h) (cast (exitA w s i _).symm ⟨decide_eq_false h, ?_, plain_yy _, newr_ok 0 _, last w s _ i _ ?_ ?_⟩)
    · split <;> (first | (rename_i h; have := of_decide_eq_true h; omega) | omega)
    · by_cases c : (20 : Int) < s.length
      · rw [if_pos (decide_eq_true c)]; simp; omega
      · rw [if_neg (by simpa using c)]; simp; omega
    · by_cases c : (20 : Int) < s.length
      · rw [if_pos (decide_eq_true c)]; simp; omega
      · rw [if_neg (by simpa using c)]; simp; omega

/-- Beginnings of a row are none. -/
theorem loop (n : Int) (h0 : 0 ≤ n) (h1 : n ≤ 18446744073709551615) (s : List UInt8) : ∀ (d : Nat) (i : Int), 0 ≤ i → (row n).length - i ≤ d → Goal P 0 6 Q (M (row n) s i) := by
  have hr := row_length n
  intro d
  induction d with
  | zero => intro i hi hd; exact tail _ s i (by omega)
  | succ d ih =>
    intro i hi hd
    by_cases h : i < (row n).length
    rotate_left
    · exact tail _ s i h
    have w1 : IntKind.i64.wrap (i + 1) = i + 1 := IntWalk.i64_in _ (by omega)
    by_cases hz : i = 0
    · subst hz
      refine Obl.goal (K := Goal P 0 6 Q) mix (fun _ h => h) (cast (round0 (row n) s _).symm ⟨decide_eq_true h, plain_yy [], newr_ok 0 [], ih 1 (by omega) (by omega)⟩)
    · obtain ⟨k, rfl⟩ := Int.eq_ofNat_of_zero_le hi
      have hlen : ((row n).take k).length = k := by simp; omega
      have hpar : parse (wireR.ahead ((row n).take k) ((row n).take k).length) = none := by rw [ahead_all]; exact parse_prefix n h0 h1 k (by omega)
      refine Obl.goal (K := Goal P 0 6 Q) mix (fun _ h => h) (cast (roundA (row n) s k _).symm ⟨decide_eq_true h, by omega, plain_yy _, newr_ok 0 _, ?_⟩)
      rw [show List.take ((k : Int).toNat - 0) (List.drop 0 (row n)) = (row n).take k by rw [Int.toNat_natCast, Nat.sub_zero, List.drop_zero]]
      refine Obl.goal (K := Goal P 0 6 Q) mix (fun _ h => h) (cast (roundC (row n) s _ k _).symm ⟨by omega, fun cap hc => ?_⟩)
      rcases num_bad 2 ((row n).take k) 0 ((row n).take k).length cap (Nat.le_refl _) (fun _ => Nat.zero_add _) hc (by omega) hpar with h | ⟨a1, a2, a3, a4, a5, h⟩
      · refine Obl.goal (K := Goal P 0 6 Q) mix (fun _ h => h) (cast (roundE (row n) s _ k cap _).symm ⟨plain_yy _, plain_yy _, h, ?_⟩)
        rw [w1]; exact ih _ (by omega) (by omega)
      · refine Obl.goal (K := Goal P 0 6 Q) mix (fun _ h => h) (cast (roundB (row n) s _ k cap a1 a2 a3 a4 a5 _).symm ⟨plain_yy _, plain_yy _, h, ?_⟩)
        rw [w1]; exact ih _ (by omega) (by omega)

theorem row_pos (n : Int) : 1 ≤ (row n).length := by
  unfold row
  repeat' split
  all_goals simp

theorem start (n : Int) (h0 : 0 ≤ n) (h1 : n ≤ 18446744073709551615) (s : List UInt8) : Goal P 0 6 Q (startM P 6 [.int .u64 n, .str s] .leaf) := by
  have hr := row_length n
  have hp := row_pos n
  by_cases hm : n + 1 ≤ 18446744073709551615
  · have w1 : IntKind.u64.wrap (n + 1) = n + 1 := IntWalk.u64_in _ (by omega)
    obtain ⟨u1, u2⟩ := row_up n h0 hm
    exact Obl.goal (K := Goal P 0 6 Q) mix (fun _ h => h) (cast (oney n s (row n) (row (n + 1)) _).symm ⟨puts [] n h0 h1 (by simp), decide_eq_false (by omega), decide_eq_false (by omega), decide_eq_true (by rw [w1]; omega), by rw [w1]; exact puts [] (n + 1) (by omega) hm (by simp), u1, decide_eq_false (by omega), loop n h0 h1 s 9 0 (by omega) (by omega)⟩)
  · have hn : n = 18446744073709551615 := by omega
    subst hn
    exact Obl.goal (K := Goal P 0 6 Q) mix (fun _ h => h) (cast (onen _ s (row _) _).symm ⟨puts [] _ h0 h1 (by simp), decide_eq_false (by omega), decide_eq_false (by omega), by decide, loop _ h0 h1 s 9 0 (by omega) (by omega)⟩)

end Go.Proofs.Ytmnelckaighmkaa.wireOne
