/- Of any bytes what each reading answers: the ways of the statement WireReads, and its loop. Every run is reckoned by the kernel; what has to be shown of each is listed with it. -/
import Derived.Test.YtmnelckaighmkaaWireReadsR
set_option maxRecDepth 100000
namespace Go.Proofs.Ytmnelckaighmkaa.wireReads
open Go Ev wireR

noncomputable abbrev Q : AV → AHeap → Prop := fun v _ => v = .bool true
noncomputable def M (A0 : AV) (X0 : Option AObj) (A : AV) (sp : Bool) (p left : List UInt8) (bad : Bool) (i : Int) : AM := ⟨⟨4, 66, (.node (.node (.node (.node .leaf (some (.int .i64 i)) .leaf) none .leaf) (some A0) (.node .leaf (some (.ptr 2 0 0)) .leaf)) none (.node .leaf none (.node .leaf (some (.ptr 3 0 0)) .leaf))), [.code (cd P 4 [1, 1, 1, 0, 1, 0, 0]), .inLoop (cd P 4 [1, 1, 1, 0, 1, 0, 0]), .inBlock 0, .code (cd P 4 [1, 1, 1, 1])], [], .run, CallKind.normal, none⟩, [], ⟨(.node (.node (.node .leaf (some (.cells (.node (.node .leaf (some (.bool bad)) .leaf) (some (.str left)) .leaf) 2 34 0 0 1 0 false .leaf)) .leaf) (some (.cells (.fn fun j => some (AV.int .u8 (yy p j))) p.length 5 0 0 1 0 true .leaf)) .leaf) X0 (.node .leaf (some (.cells (.node (.node .leaf (some (.bool sp)) .leaf) (some A) .leaf) 2 46 0 0 1 0 false .leaf)) .leaf)), 4, .leaf⟩⟩

theorem startS (s : List UInt8) (b0 : Nat) (o0 l0 c0 : Nat) (z : Nat → Bool) (K : AM → Prop) : optK ((startL P 4 [.str s, .slc 0 0 o0 l0 c0] [⟨true, b0, .fn (fun j => some (.bool (z j))), o0, o0 + c0⟩] .leaf)) (Obl P 4 Q 0 K [.run 10, .op, .run 6, .callh [] [0] (.ptr 1 0 0) (newH (List.take ((if decide ((4000 : Int) < s.length) = true then (4000 : Int) else s.length).toNat - 0) (List.drop 0 s))), .run 13, .keep [1, 5, 6, 7]]) = ((((0 : Int) ≤ if decide ((4000 : Int) < (↑s.length : Int)) = true then (4000 : Int) else (↑s.length : Int)) ∧ (if decide ((4000 : Int) < (↑s.length : Int)) = true then (4000 : Int) else (↑s.length : Int)) ≤ (↑s.length : Int)) ∧ (PlainFn fun j => some (AV.int IntKind.u8 (yy (List.take ((if decide ((4000 : Int) < (↑s.length : Int)) = true then (4000 : Int) else (↑s.length : Int)).toNat - (0 : Nat)) (List.drop (0 : Nat) s)) j))) ∧ (Goal P 0 13 (fun x k => x = AV.ptr (1 : Nat) (0 : Nat) (0 : Nat) ∧ k = newH (List.take ((if decide ((4000 : Int) < (↑s.length : Int)) = true then (4000 : Int) else (↑s.length : Int)).toNat - (0 : Nat)) (List.drop (0 : Nat) s))) (startM P 13 [.str (List.take ((if decide ((4000 : Int) < (↑s.length : Int)) = true then (4000 : Int) else (↑s.length : Int)).toNat - (0 : Nat)) (List.drop (0 : Nat) s))] .leaf)) ∧ K (M (AV.slc (nat_lit 0) (nat_lit 0) o0 l0 c0) (some (AObj.ro (T.fn fun j => some (AV.bool (z j))) o0 (o0 + c0))) (AV.slg (nat_lit 1) (nat_lit 0) (nat_lit 0) (List.take ((if decide ((4000 : Int) < (↑s.length : Int)) = true then (4000 : Int) else (↑s.length : Int)).toNat - (0 : Nat)) (List.drop (0 : Nat) s)).length (nat_lit 0)) false (List.take ((if decide ((4000 : Int) < (↑s.length : Int)) = true then (4000 : Int) else (↑s.length : Int)).toNat - (0 : Nat)) (List.drop (0 : Nat) s)) (List.take ((if decide ((4000 : Int) < (↑s.length : Int)) = true then (4000 : Int) else (↑s.length : Int)).toNat - (0 : Nat)) (List.drop (0 : Nat) s)) false (Int.ofNat (nat_lit 0)))) := by kernel_rfl

theorem startN (s : List UInt8) (b0 : Nat) (K : AM → Prop) : optK ((startL P 4 [.str s, .nils 0 0] [⟨false, b0, .leaf, 0, 0⟩] .leaf)) (Obl P 4 Q 0 K [.run 10, .op, .run 6, .callh [] [0] (.ptr 1 0 0) (newH (List.take ((if decide ((4000 : Int) < s.length) = true then (4000 : Int) else s.length).toNat - 0) (List.drop 0 s))), .run 13, .keep [1, 5, 6, 7]]) = ((((0 : Int) ≤ if decide ((4000 : Int) < (↑s.length : Int)) = true then (4000 : Int) else (↑s.length : Int)) ∧ (if decide ((4000 : Int) < (↑s.length : Int)) = true then (4000 : Int) else (↑s.length : Int)) ≤ (↑s.length : Int)) ∧ (PlainFn fun j => some (AV.int IntKind.u8 (yy (List.take ((if decide ((4000 : Int) < (↑s.length : Int)) = true then (4000 : Int) else (↑s.length : Int)).toNat - (0 : Nat)) (List.drop (0 : Nat) s)) j))) ∧ (Goal P 0 13 (fun x k => x = AV.ptr (1 : Nat) (0 : Nat) (0 : Nat) ∧ k = newH (List.take ((if decide ((4000 : Int) < (↑s.length : Int)) = true then (4000 : Int) else (↑s.length : Int)).toNat - (0 : Nat)) (List.drop (0 : Nat) s))) (startM P 13 [.str (List.take ((if decide ((4000 : Int) < (↑s.length : Int)) = true then (4000 : Int) else (↑s.length : Int)).toNat - (0 : Nat)) (List.drop (0 : Nat) s))] .leaf)) ∧ K (M (AV.nils (nat_lit 0) (nat_lit 0)) none (AV.slg (nat_lit 1) (nat_lit 0) (nat_lit 0) (List.take ((if decide ((4000 : Int) < (↑s.length : Int)) = true then (4000 : Int) else (↑s.length : Int)).toNat - (0 : Nat)) (List.drop (0 : Nat) s)).length (nat_lit 0)) false (List.take ((if decide ((4000 : Int) < (↑s.length : Int)) = true then (4000 : Int) else (↑s.length : Int)).toNat - (0 : Nat)) (List.drop (0 : Nat) s)) (List.take ((if decide ((4000 : Int) < (↑s.length : Int)) = true then (4000 : Int) else (↑s.length : Int)).toNat - (0 : Nat)) (List.drop (0 : Nat) s)) false (Int.ofNat (nat_lit 0)))) := by kernel_rfl

theorem startE (s : List UInt8) (b0 : Nat) (K : AM → Prop) : optK ((startL P 4 [.str s, .sle] [⟨false, b0, .leaf, 0, 0⟩] .leaf)) (Obl P 4 Q 0 K [.run 10, .op, .run 6, .callh [] [0] (.ptr 1 0 0) (newH (List.take ((if decide ((4000 : Int) < s.length) = true then (4000 : Int) else s.length).toNat - 0) (List.drop 0 s))), .run 13, .keep [1, 5, 6, 7]]) = ((((0 : Int) ≤ if decide ((4000 : Int) < (↑s.length : Int)) = true then (4000 : Int) else (↑s.length : Int)) ∧ (if decide ((4000 : Int) < (↑s.length : Int)) = true then (4000 : Int) else (↑s.length : Int)) ≤ (↑s.length : Int)) ∧ (PlainFn fun j => some (AV.int IntKind.u8 (yy (List.take ((if decide ((4000 : Int) < (↑s.length : Int)) = true then (4000 : Int) else (↑s.length : Int)).toNat - (0 : Nat)) (List.drop (0 : Nat) s)) j))) ∧ (Goal P 0 13 (fun x k => x = AV.ptr (1 : Nat) (0 : Nat) (0 : Nat) ∧ k = newH (List.take ((if decide ((4000 : Int) < (↑s.length : Int)) = true then (4000 : Int) else (↑s.length : Int)).toNat - (0 : Nat)) (List.drop (0 : Nat) s))) (startM P 13 [.str (List.take ((if decide ((4000 : Int) < (↑s.length : Int)) = true then (4000 : Int) else (↑s.length : Int)).toNat - (0 : Nat)) (List.drop (0 : Nat) s))] .leaf)) ∧ K (M AV.sle none (AV.slg (nat_lit 1) (nat_lit 0) (nat_lit 0) (List.take ((if decide ((4000 : Int) < (↑s.length : Int)) = true then (4000 : Int) else (↑s.length : Int)).toNat - (0 : Nat)) (List.drop (0 : Nat) s)).length (nat_lit 0)) false (List.take ((if decide ((4000 : Int) < (↑s.length : Int)) = true then (4000 : Int) else (↑s.length : Int)).toNat - (0 : Nat)) (List.drop (0 : Nat) s)) (List.take ((if decide ((4000 : Int) < (↑s.length : Int)) = true then (4000 : Int) else (↑s.length : Int)).toNat - (0 : Nat)) (List.drop (0 : Nat) s)) false (Int.ofNat (nat_lit 0)))) := by kernel_rfl

theorem numO (off len cap : Nat) (z : Nat → Bool) (p left : List UInt8) (roff rlen rcap : Nat) (i : Int) (off2 len2 : Nat) (left2 : List UInt8) (n : Int) (K : AM → Prop) : Obl P 4 Q 0 K [.run 8, .know 22 true, .run 4, .know 25 true, .run 9, .op, .op, .run 1, .know 32 true, .run 2, .callh [(2, 0, []), (1, 0, [0])] [0] (.int .u64 n) (rd (.slc 1 0 off2 len2 len2) false (fun j => some (.int .u8 (yy p j))) p.length), .run 2, .callh [(3, 0, [])] [0] (.int .u64 n) (rh left2 false), .run 3, .know 39 false, .run 2, .op, .op, .run 2, .know 45 false, .run 120, .know 64 false, .run 9, .keep [1, 5, 6, 7]] ((M (.slc 0 0 off len cap) (some (.ro (.fn fun j => some (AV.bool (z j))) off (off + cap))) (.slc 1 0 roff rlen rcap) false p left false i)) = ((decide (i < (↑len : Int)) = true) ∧ (decide (i < (80 : Int)) = true) ∧ ((0 : Int) ≤ i ∧ i < (↑len : Int)) ∧ (off ≤ off + i.toNat * nat_lit 1 ∧ off + i.toNat * nat_lit 1 + (1 : Nat) ≤ off + cap) ∧ (z (off + i.toNat * nat_lit 1) = true) ∧ (PlainFn fun j => some (AV.int IntKind.u8 (yy p j))) ∧ (PlainFn fun j => some (AV.int IntKind.u8 (yy p j))) ∧ (Goal P 2 14 (fun x k => x = AV.int IntKind.u64 n ∧ k = rd (AV.slc (1 : Nat) (0 : Nat) off2 len2 len2) false (fun j => some (AV.int IntKind.u8 (yy p j))) p.length) (startH P 14 [.ptr 0 0 0] (rdr p roff rlen rcap))) ∧ (Goal P 1 15 (fun x k => x = AV.int IntKind.u64 n ∧ k = rh left2 false) (startH P 15 [.ptr 0 0 0] (rh left false))) ∧ ((n != n) = false) ∧ ((0 : Int) ≤ i ∧ i < (↑len : Int)) ∧ (off ≤ off + i.toNat * nat_lit 1 ∧ off + i.toNat * nat_lit 1 + (1 : Nat) ≤ off + cap) ∧ ((!z (off + i.toNat * nat_lit 1)) = false) ∧ ((!((↑len2 : Int) == (0 : Int)) == (left2 == ([] : List UInt8))) = false) ∧ K (M (AV.slc (nat_lit 0) (nat_lit 0) off len cap) (some (AObj.ro (T.fn fun j => some (AV.bool (z j))) off (off + cap))) (AV.slc (nat_lit 1) (nat_lit 0) off2 len2 len2) false p left2 false (IntKind.i64.wrap (i + (1 : Int))))) := by kernel_rfl

theorem numB (off len cap : Nat) (z : Nat → Bool) (p left : List UInt8) (roff rlen rcap : Nat) (i : Int) (K : AM → Prop) : Obl P 4 Q 0 K [.run 8, .know 22 true, .run 4, .know 25 true, .run 9, .op, .op, .run 1, .know 32 true, .run 2, .callh [(2, 0, []), (1, 0, [0])] [0] (.int .u64 0) (rd (.nils 0 0) true (fun j => some (.int .u8 (yy p j))) p.length), .run 2, .callh [(3, 0, [])] [0] (.int .u64 0) (rh [] true), .run 5, .op, .op, .run 2, .know 45 false, .run 129, .keep [1, 5, 6, 7]] ((M (.slc 0 0 off len cap) (some (.ro (.fn fun j => some (AV.bool (z j))) off (off + cap))) (.slc 1 0 roff rlen rcap) false p left false i)) = ((decide (i < (↑len : Int)) = true) ∧ (decide (i < (80 : Int)) = true) ∧ ((0 : Int) ≤ i ∧ i < (↑len : Int)) ∧ (off ≤ off + i.toNat * nat_lit 1 ∧ off + i.toNat * nat_lit 1 + (1 : Nat) ≤ off + cap) ∧ (z (off + i.toNat * nat_lit 1) = true) ∧ (PlainFn fun j => some (AV.int IntKind.u8 (yy p j))) ∧ (PlainFn fun j => some (AV.int IntKind.u8 (yy p j))) ∧ (Goal P 2 14 (fun x k => x = AV.int IntKind.u64 (0 : Int) ∧ k = rd (AV.nils (0 : Nat) (0 : Nat)) true (fun j => some (AV.int IntKind.u8 (yy p j))) p.length) (startH P 14 [.ptr 0 0 0] (rdr p roff rlen rcap))) ∧ (Goal P 1 15 (fun x k => x = AV.int IntKind.u64 (0 : Int) ∧ k = rh [] true) (startH P 15 [.ptr 0 0 0] (rh left false))) ∧ ((0 : Int) ≤ i ∧ i < (↑len : Int)) ∧ (off ≤ off + i.toNat * nat_lit 1 ∧ off + i.toNat * nat_lit 1 + (1 : Nat) ≤ off + cap) ∧ ((!z (off + i.toNat * nat_lit 1)) = false) ∧ K (M (AV.slc (nat_lit 0) (nat_lit 0) off len cap) (some (AObj.ro (T.fn fun j => some (AV.bool (z j))) off (off + cap))) (AV.nils (nat_lit 0) (nat_lit 0)) true p [] true (IntKind.i64.wrap (i + (1 : Int))))) := by kernel_rfl

theorem textO (off len cap : Nat) (z : Nat → Bool) (p left : List UInt8) (roff rlen rcap : Nat) (i : Int) (off2 len2 : Nat) (left2 x : List UInt8) (K : AM → Prop) : Obl P 4 Q 0 K [.run 8, .know 22 true, .run 4, .know 25 true, .run 9, .op, .op, .run 1, .know 32 false, .run 9, .op, .op, .run 2, .know 45 true, .run 2, .callh [(2, 0, []), (1, 0, [0])] [0] (.str x) (rd (.slc 1 0 off2 len2 len2) false (fun j => some (.int .u8 (yy p j))) p.length), .run 2, .callh [(3, 0, [])] [0] (.str x) (rh left2 false), .run 4, .know 52 false, .run 112, .know 64 false, .run 9, .keep [1, 5, 6, 7]] ((M (.slc 0 0 off len cap) (some (.ro (.fn fun j => some (AV.bool (z j))) off (off + cap))) (.slc 1 0 roff rlen rcap) false p left false i)) = ((decide (i < (↑len : Int)) = true) ∧ (decide (i < (80 : Int)) = true) ∧ ((0 : Int) ≤ i ∧ i < (↑len : Int)) ∧ (off ≤ off + i.toNat * nat_lit 1 ∧ off + i.toNat * nat_lit 1 + (1 : Nat) ≤ off + cap) ∧ (z (off + i.toNat * nat_lit 1) = false) ∧ ((0 : Int) ≤ i ∧ i < (↑len : Int)) ∧ (off ≤ off + i.toNat * nat_lit 1 ∧ off + i.toNat * nat_lit 1 + (1 : Nat) ≤ off + cap) ∧ ((!z (off + i.toNat * nat_lit 1)) = true) ∧ (PlainFn fun j => some (AV.int IntKind.u8 (yy p j))) ∧ (PlainFn fun j => some (AV.int IntKind.u8 (yy p j))) ∧ (Goal P 2 16 (fun x_1 k => x_1 = AV.str x ∧ k = rd (AV.slc (1 : Nat) (0 : Nat) off2 len2 len2) false (fun j => some (AV.int IntKind.u8 (yy p j))) p.length) (startH P 16 [.ptr 0 0 0] (rdr p roff rlen rcap))) ∧ (Goal P 1 17 (fun x_1 k => x_1 = AV.str x ∧ k = rh left2 false) (startH P 17 [.ptr 0 0 0] (rh left false))) ∧ ((!x == x) = false) ∧ ((!((↑len2 : Int) == (0 : Int)) == (left2 == ([] : List UInt8))) = false) ∧ K (M (AV.slc (nat_lit 0) (nat_lit 0) off len cap) (some (AObj.ro (T.fn fun j => some (AV.bool (z j))) off (off + cap))) (AV.slc (nat_lit 1) (nat_lit 0) off2 len2 len2) false p left2 false (IntKind.i64.wrap (i + (1 : Int))))) := by kernel_rfl

theorem textB (off len cap : Nat) (z : Nat → Bool) (p left : List UInt8) (roff rlen rcap : Nat) (i : Int) (K : AM → Prop) : Obl P 4 Q 0 K [.run 8, .know 22 true, .run 4, .know 25 true, .run 9, .op, .op, .run 1, .know 32 false, .run 9, .op, .op, .run 2, .know 45 true, .run 2, .callh [(2, 0, []), (1, 0, [0])] [0] (.str []) (rd (.nils 0 0) true (fun j => some (.int .u8 (yy p j))) p.length), .run 2, .callh [(3, 0, [])] [0] (.str []) (rh [] true), .run 125, .keep [1, 5, 6, 7]] ((M (.slc 0 0 off len cap) (some (.ro (.fn fun j => some (AV.bool (z j))) off (off + cap))) (.slc 1 0 roff rlen rcap) false p left false i)) = ((decide (i < (↑len : Int)) = true) ∧ (decide (i < (80 : Int)) = true) ∧ ((0 : Int) ≤ i ∧ i < (↑len : Int)) ∧ (off ≤ off + i.toNat * nat_lit 1 ∧ off + i.toNat * nat_lit 1 + (1 : Nat) ≤ off + cap) ∧ (z (off + i.toNat * nat_lit 1) = false) ∧ ((0 : Int) ≤ i ∧ i < (↑len : Int)) ∧ (off ≤ off + i.toNat * nat_lit 1 ∧ off + i.toNat * nat_lit 1 + (1 : Nat) ≤ off + cap) ∧ ((!z (off + i.toNat * nat_lit 1)) = true) ∧ (PlainFn fun j => some (AV.int IntKind.u8 (yy p j))) ∧ (PlainFn fun j => some (AV.int IntKind.u8 (yy p j))) ∧ (Goal P 2 16 (fun x k => x = AV.str [] ∧ k = rd (AV.nils (0 : Nat) (0 : Nat)) true (fun j => some (AV.int IntKind.u8 (yy p j))) p.length) (startH P 16 [.ptr 0 0 0] (rdr p roff rlen rcap))) ∧ (Goal P 1 17 (fun x k => x = AV.str [] ∧ k = rh [] true) (startH P 17 [.ptr 0 0 0] (rh left false))) ∧ K (M (AV.slc (nat_lit 0) (nat_lit 0) off len cap) (some (AObj.ro (T.fn fun j => some (AV.bool (z j))) off (off + cap))) (AV.nils (nat_lit 0) (nat_lit 0)) true p [] true (IntKind.i64.wrap (i + (1 : Int))))) := by kernel_rfl

theorem numZ (off len cap : Nat) (z : Nat → Bool) (p : List UInt8) (i : Int) (K : AM → Prop) : Obl P 4 Q 0 K [.run 8, .know 22 true, .run 4, .know 25 true, .run 9, .op, .op, .run 1, .know 32 true, .run 164, .op, .op, .run 2, .know 45 false, .run 129, .keep [1, 5, 6, 7]] ((M (.slc 0 0 off len cap) (some (.ro (.fn fun j => some (AV.bool (z j))) off (off + cap))) (.slg 1 0 0 0 0) false p [] false i)) = ((decide (i < (↑len : Int)) = true) ∧ (decide (i < (80 : Int)) = true) ∧ ((0 : Int) ≤ i ∧ i < (↑len : Int)) ∧ (off ≤ off + i.toNat * nat_lit 1 ∧ off + i.toNat * nat_lit 1 + (1 : Nat) ≤ off + cap) ∧ (z (off + i.toNat * nat_lit 1) = true) ∧ ((0 : Int) ≤ i ∧ i < (↑len : Int)) ∧ (off ≤ off + i.toNat * nat_lit 1 ∧ off + i.toNat * nat_lit 1 + (1 : Nat) ≤ off + cap) ∧ ((!z (off + i.toNat * nat_lit 1)) = false) ∧ K (M (AV.slc (nat_lit 0) (nat_lit 0) off len cap) (some (AObj.ro (T.fn fun j => some (AV.bool (z j))) off (off + cap))) (AV.nils (nat_lit 0) (nat_lit 0)) true p [] true (IntKind.i64.wrap (i + (1 : Int))))) := by kernel_rfl

theorem textZ (off len cap : Nat) (z : Nat → Bool) (p : List UInt8) (i : Int) (K : AM → Prop) : Obl P 4 Q 0 K [.run 8, .know 22 true, .run 4, .know 25 true, .run 9, .op, .op, .run 1, .know 32 false, .run 9, .op, .op, .run 2, .know 45 true, .run 343, .keep [1, 5, 6, 7]] ((M (.slc 0 0 off len cap) (some (.ro (.fn fun j => some (AV.bool (z j))) off (off + cap))) (.slg 1 0 0 0 0) false p [] false i)) = ((decide (i < (↑len : Int)) = true) ∧ (decide (i < (80 : Int)) = true) ∧ ((0 : Int) ≤ i ∧ i < (↑len : Int)) ∧ (off ≤ off + i.toNat * nat_lit 1 ∧ off + i.toNat * nat_lit 1 + (1 : Nat) ≤ off + cap) ∧ (z (off + i.toNat * nat_lit 1) = false) ∧ ((0 : Int) ≤ i ∧ i < (↑len : Int)) ∧ (off ≤ off + i.toNat * nat_lit 1 ∧ off + i.toNat * nat_lit 1 + (1 : Nat) ≤ off + cap) ∧ ((!z (off + i.toNat * nat_lit 1)) = true) ∧ K (M (AV.slc (nat_lit 0) (nat_lit 0) off len cap) (some (AObj.ro (T.fn fun j => some (AV.bool (z j))) off (off + cap))) (AV.nils (nat_lit 0) (nat_lit 0)) true p [] true (IntKind.i64.wrap (i + (1 : Int))))) := by kernel_rfl

theorem numS (off len cap : Nat) (z : Nat → Bool) (p : List UInt8) (i : Int) (K : AM → Prop) : Obl P 4 Q 0 K [.run 8, .know 22 true, .run 4, .know 25 true, .run 9, .op, .op, .run 1, .know 32 true, .run 164, .op, .op, .run 2, .know 45 false, .run 129, .keep [1, 5, 6, 7]] ((M (.slc 0 0 off len cap) (some (.ro (.fn fun j => some (AV.bool (z j))) off (off + cap))) (.nils 0 0) true p [] true i)) = ((decide (i < (↑len : Int)) = true) ∧ (decide (i < (80 : Int)) = true) ∧ ((0 : Int) ≤ i ∧ i < (↑len : Int)) ∧ (off ≤ off + i.toNat * nat_lit 1 ∧ off + i.toNat * nat_lit 1 + (1 : Nat) ≤ off + cap) ∧ (z (off + i.toNat * nat_lit 1) = true) ∧ ((0 : Int) ≤ i ∧ i < (↑len : Int)) ∧ (off ≤ off + i.toNat * nat_lit 1 ∧ off + i.toNat * nat_lit 1 + (1 : Nat) ≤ off + cap) ∧ ((!z (off + i.toNat * nat_lit 1)) = false) ∧ K (M (AV.slc (nat_lit 0) (nat_lit 0) off len cap) (some (AObj.ro (T.fn fun j => some (AV.bool (z j))) off (off + cap))) (AV.nils (nat_lit 0) (nat_lit 0)) true p [] true (IntKind.i64.wrap (i + (1 : Int))))) := by kernel_rfl

theorem textS (off len cap : Nat) (z : Nat → Bool) (p : List UInt8) (i : Int) (K : AM → Prop) : Obl P 4 Q 0 K [.run 8, .know 22 true, .run 4, .know 25 true, .run 9, .op, .op, .run 1, .know 32 false, .run 9, .op, .op, .run 2, .know 45 true, .run 343, .keep [1, 5, 6, 7]] ((M (.slc 0 0 off len cap) (some (.ro (.fn fun j => some (AV.bool (z j))) off (off + cap))) (.nils 0 0) true p [] true i)) = ((decide (i < (↑len : Int)) = true) ∧ (decide (i < (80 : Int)) = true) ∧ ((0 : Int) ≤ i ∧ i < (↑len : Int)) ∧ (off ≤ off + i.toNat * nat_lit 1 ∧ off + i.toNat * nat_lit 1 + (1 : Nat) ≤ off + cap) ∧ (z (off + i.toNat * nat_lit 1) = false) ∧ ((0 : Int) ≤ i ∧ i < (↑len : Int)) ∧ (off ≤ off + i.toNat * nat_lit 1 ∧ off + i.toNat * nat_lit 1 + (1 : Nat) ≤ off + cap) ∧ ((!z (off + i.toNat * nat_lit 1)) = true) ∧ K (M (AV.slc (nat_lit 0) (nat_lit 0) off len cap) (some (AObj.ro (T.fn fun j => some (AV.bool (z j))) off (off + cap))) (AV.nils (nat_lit 0) (nat_lit 0)) true p [] true (IntKind.i64.wrap (i + (1 : Int))))) := by kernel_rfl

theorem exitY (off len cap : Nat) (A : AV) (sp : Bool) (p left : List UInt8) (bad : Bool) (X0 : Option AObj) (i : Int) (_K : AM → Prop) : Obl P 4 Q 0 _K [.run 8, .know 22 true, .run 4, .know 25 false, .run 5, .callv [] (.bool true), .run 3, .done] ((M (.slc 0 0 off len cap) X0 A sp p left bad i)) = ((decide (i < (↑len : Int)) = true) ∧ (decide (i < (80 : Int)) = false) ∧ (Goal P (0 : Nat) 12 (fun x _ => x = AV.bool true) (startM P 12 [] .leaf)) ∧ (AV.bool true = AV.bool true)) := by kernel_rfl

theorem exitN (off len cap : Nat) (A : AV) (sp : Bool) (p left : List UInt8) (bad : Bool) (X0 : Option AObj) (i : Int) (_K : AM → Prop) : Obl P 4 Q 0 _K [.run 8, .know 22 false, .run 9, .callv [] (.bool true), .run 3, .done] ((M (.slc 0 0 off len cap) X0 A sp p left bad i)) = ((decide (i < (↑len : Int)) = false) ∧ (Goal P (0 : Nat) 12 (fun x _ => x = AV.bool true) (startM P 12 [] .leaf)) ∧ (AV.bool true = AV.bool true)) := by kernel_rfl

theorem exitNil (A : AV) (sp : Bool) (p left : List UInt8) (bad : Bool) (X0 : Option AObj) (_K : AM → Prop) : Obl P 4 Q 0 _K [.run 17, .callv [] (.bool true), .run 3, .done] ((M (.nils 0 0) X0 A sp p left bad 0)) = ((Goal P (0 : Nat) 12 (fun x _ => x = AV.bool true) (startM P 12 [] .leaf)) ∧ (AV.bool true = AV.bool true)) := by kernel_rfl

theorem exitSle (A : AV) (sp : Bool) (p left : List UInt8) (bad : Bool) (X0 : Option AObj) (_K : AM → Prop) : Obl P 4 Q 0 _K [.run 17, .callv [] (.bool true), .run 3, .done] ((M .sle X0 A sp p left bad 0)) = ((Goal P (0 : Nat) 12 (fun x _ => x = AV.bool true) (startM P 12 [] .leaf)) ∧ (AV.bool true = AV.bool true)) := by kernel_rfl

theorem capped (A0 : AV) (X0 : Option AObj) (p left : List UInt8) (K : AM → Prop) : Obl P 4 Q 0 K [.cap 2 0] (M A0 X0 (.slg 1 0 0 p.length 0) false p left false 0) = (0 < p.length ∧ ∀ cap, p.length ≤ cap → K (M A0 X0 (.slc 1 0 0 p.length cap) false p left false 0)) := by kernel_rfl

theorem idx (off k : Nat) : off + ((k : Int)).toNat * 1 = off + k := by omega
theorem wrap1 (k : Nat) (h : k < 1000) : IntKind.i64.wrap ((k : Int) + 1) = ((k + 1 : Nat) : Int) := IntWalk.i64_in _ (by omega)

/-- A reader, and what it has ahead. -/
structure At (p : List UInt8) (roff rlen rcap : Nat) (l : List UInt8) : Prop where
  le : rlen ≤ p.length
  off : 0 < rlen → roff + rlen = p.length
  cap : rlen ≤ rcap
  eq : wireR.ahead p rlen = l

theorem ahead_sub {p : List UInt8} {len k : Nat} (h : len ≤ p.length) : wireR.ahead p (len - k) = (wireR.ahead p len).drop (min k len) := by
  unfold wireR.ahead
  rw [List.drop_drop]
  congr 1
  omega

theorem bothEnd {p l : List UInt8} {roff rlen rcap : Nat} (h : At p roff rlen rcap l) : (!((rlen : Int) == 0) == (l == ([] : List UInt8))) = false := by
  have hl : l.length = rlen := by rw [← h.eq, ahead_length h.le]
  cases l with
  | nil =>
    obtain rfl : rlen = 0 := by simpa using hl.symm
    rfl
  | cons a r =>
    have h1 : ((rlen : Int) == 0) = false := beq_eq_false_iff_ne.2 (by simp at hl; omega)
    rw [h1]; rfl

/-- What the two readers are. -/
inductive Two (p : List UInt8) : AV → Bool → List UInt8 → Bool → Prop where
  | live (roff rlen rcap : Nat) (l : List UInt8) (h : At p roff rlen rcap l) : Two p (.slc 1 0 roff rlen rcap) false l false
  | none : Two p (.slg 1 0 0 0 0) false [] false
  | spent : Two p (.nils 0 0) true [] true

section
variable (off len cap : Nat) (hlen : len ≤ 9223372036854775807) (hcap : len ≤ cap) (z : Nat → Bool) (p : List UInt8) (hp : p.length ≤ 4000)

theorem leave {A : AV} {sp bad : Bool} {l : List UInt8} (X0 : Option AObj) (i : Nat) (h : ¬ (i < len ∧ i < 80)) : Goal P 0 4 Q (M (.slc 0 0 off len cap) X0 A sp p l bad i) := by
  by_cases hl : i < len
  · exact Obl.goal (K := fun _ => False) mix (fun _ h => h.elim) (cast (exitY off len cap A sp p l bad X0 i _).symm ⟨decide_eq_true (by omega), decide_eq_false (by omega), works, rfl⟩)
  · exact Obl.goal (K := fun _ => False) mix (fun _ h => h.elim) (cast (exitN off len cap A sp p l bad X0 i _).symm ⟨decide_eq_false (by omega), works, rfl⟩)

include hcap hp in
theorem loop : ∀ (d i : Nat) (A : AV) (sp : Bool) (l : List UInt8) (bad : Bool), i ≤ 80 → 80 - i ≤ d → Two p A sp l bad → Goal P 0 4 Q (M (.slc 0 0 off len cap) (some (.ro (.fn fun j => some (AV.bool (z j))) off (off + cap))) A sp p l bad i) := by
  intro d
  induction d with
  | zero => intro i A sp l bad hi hd _; exact leave off len cap p _ i (by omega)
  | succ d ih =>
    intro i A sp l bad hi hd h
    by_cases hc : i < len ∧ i < 80
    rotate_left
    · exact leave off len cap p _ i hc
    obtain ⟨hl, h80⟩ := hc
    have hn : ∀ A sp l bad, Two p A sp l bad → Goal P 0 4 Q (M (.slc 0 0 off len cap) (some (.ro (.fn fun j => some (AV.bool (z j))) off (off + cap))) A sp p l bad ((i + 1 : Nat) : Int)) := fun A sp l bad h => ih (i + 1) A sp l bad (by omega) (by omega) h
    cases h with
    | live roff rlen rcap l ha =>
      have hle := ha.le
      have hll : l.length = rlen := by rw [← ha.eq, ahead_length ha.le]
      cases hz : z (off + i) with
      | true =>
        cases hpar : parse l with
        | none =>
          have e1 := num2_bad p roff rlen rcap ha.le ha.off ha.cap (by omega) (by rw [ha.eq]; exact hpar)
          have e2 := ref_bad l hpar
          have g := hn _ _ _ _ .spent
          refine Obl.goal (K := Goal P 0 4 Q) mix (fun _ h => h) (cast (numB off len cap z p l roff rlen rcap i _).symm ?_)
          simp only [idx, wrap1 i (by omega), hz]
          and_intros
          all_goals first | exact g | exact e1 | exact e2 | exact plain_yy p | exact decide_eq_true (by omega) | omega | trivial | rfl
        | some q =>
          obtain ⟨n, k⟩ := q
          obtain ⟨_, _, _, n3, _⟩ := parse_some hpar
          obtain ⟨off2, f1, e1⟩ := num2_ok p roff rlen rcap ha.le ha.off ha.cap (by omega) (by rw [ha.eq]; exact hpar)
          have e2 := ref_ok l hpar
          have hat : At p off2 (rlen - k) (rlen - k) (l.drop k) := ⟨by omega, f1, Nat.le_refl _, by rw [ahead_sub ha.le, ha.eq, Nat.min_eq_left (by omega)]⟩
          have g := hn _ _ _ _ (.live _ _ _ _ hat)
          have hb := bothEnd hat
          refine Obl.goal (K := Goal P 0 4 Q) mix (fun _ h => h) (cast (numO off len cap z p l roff rlen rcap i off2 (rlen - k) (l.drop k) n _).symm ?_)
          simp only [idx, wrap1 i (by omega), hz]
          and_intros
          all_goals first | exact g | exact e1 | exact e2 | exact hb | exact plain_yy p | exact decide_eq_true (by omega) | omega | trivial | rfl | (simp; done)
      | false =>
        have bad : (parse l = none ∨ ∃ n k, parse l = some (n, k) ∧ ((l.length - k : Nat) : Int) < n) → Goal P 0 4 Q (M (.slc 0 0 off len cap) (some (.ro (.fn fun j => some (AV.bool (z j))) off (off + cap))) (.slc 1 0 roff rlen rcap) false p l false i) := by
          intro hpar
          have e1 := text2_bad p roff rlen rcap ha.le ha.off ha.cap (by omega) (by rw [ha.eq, ← hll]; exact hpar)
          have e2 := reft_bad l (by omega) hpar
          have g := hn _ _ _ _ .spent
          refine Obl.goal (K := Goal P 0 4 Q) mix (fun _ h => h) (cast (textB off len cap z p l roff rlen rcap i _).symm ?_)
          simp only [idx, wrap1 i (by omega), hz]
          and_intros
          all_goals first | exact g | exact e1 | exact e2 | exact plain_yy p | exact decide_eq_true (by omega) | omega | trivial | rfl
        cases hpar : parse l with
        | none => exact bad (.inl hpar)
        | some q =>
          obtain ⟨n, k⟩ := q
          by_cases hnk : n ≤ (l.length - k : Nat)
          rotate_left
          · exact bad (.inr ⟨n, k, hpar, by omega⟩)
          obtain ⟨n0, _, _, n3, _⟩ := parse_some hpar
          obtain ⟨off2, f1, e1⟩ := text2_ok p roff rlen rcap ha.le ha.off ha.cap (by omega) (by rw [ha.eq]; exact hpar) (by omega)
          rw [ha.eq] at e1
          have e2 := reft_ok l (by omega) hpar hnk
          have hat : At p off2 (rlen - k - n.toNat) (rlen - k - n.toNat) (l.drop (k + n.toNat)) := ⟨by omega, f1, Nat.le_refl _, by rw [Nat.sub_sub, ahead_sub ha.le, ha.eq, Nat.min_eq_left (by omega)]⟩
          have g := hn _ _ _ _ (.live _ _ _ _ hat)
          have hb := bothEnd hat
          refine Obl.goal (K := Goal P 0 4 Q) mix (fun _ h => h) (cast (textO off len cap z p l roff rlen rcap i off2 (rlen - k - n.toNat) (l.drop (k + n.toNat)) ((l.drop k).take n.toNat) _).symm ?_)
          simp only [idx, wrap1 i (by omega), hz]
          and_intros
          all_goals first | exact g | exact e1 | exact e2 | exact hb | exact plain_yy p | exact decide_eq_true (by omega) | omega | trivial | rfl | (simp; done)
    | none =>
      have g := hn _ _ _ _ .spent
      cases hz : z (off + i) with
      | true =>
        refine Obl.goal (K := Goal P 0 4 Q) mix (fun _ h => h) (cast (numZ off len cap z p i _).symm ?_)
        simp only [idx, wrap1 i (by omega), hz]
        and_intros
        all_goals first | exact g | exact decide_eq_true (by omega) | omega | trivial | rfl
      | false =>
        refine Obl.goal (K := Goal P 0 4 Q) mix (fun _ h => h) (cast (textZ off len cap z p i _).symm ?_)
        simp only [idx, wrap1 i (by omega), hz]
        and_intros
        all_goals first | exact g | exact decide_eq_true (by omega) | omega | trivial | rfl
    | spent =>
      have g := hn _ _ _ _ .spent
      cases hz : z (off + i) with
      | true =>
        refine Obl.goal (K := Goal P 0 4 Q) mix (fun _ h => h) (cast (numS off len cap z p i _).symm ?_)
        simp only [idx, wrap1 i (by omega), hz]
        and_intros
        all_goals first | exact g | exact decide_eq_true (by omega) | omega | trivial | rfl
      | false =>
        refine Obl.goal (K := Goal P 0 4 Q) mix (fun _ h => h) (cast (textS off len cap z p i _).symm ?_)
        simp only [idx, wrap1 i (by omega), hz]
        and_intros
        all_goals first | exact g | exact decide_eq_true (by omega) | omega | trivial | rfl

end

/-- Marks that came in. -/
def Marks (A : AV) (X : Option AObj) : Prop := A = .nils 0 0 ∨ A = .sle ∨ ∃ (off len cap : Nat) (z : Nat → Bool), len ≤ cap ∧ A = .slc 0 0 off len cap ∧ X = some (.ro (.fn fun j => some (.bool (z j))) off (off + cap))

theorem reads {A : AV} {X : Option AObj} (h : Marks A X) (p : List UInt8) (hp : p.length ≤ 4000) : Goal P 0 4 Q (M A X (.slg 1 0 0 p.length 0) false p p false 0) := by
  rcases h with rfl | rfl | ⟨off, len, cap, z, h1, rfl, rfl⟩
  · exact Obl.goal (K := fun _ => False) mix (fun _ h => h.elim) (cast (exitNil (.slg 1 0 0 p.length 0) false p p false X _).symm ⟨works, rfl⟩)
  · exact Obl.goal (K := fun _ => False) mix (fun _ h => h.elim) (cast (exitSle (.slg 1 0 0 p.length 0) false p p false X _).symm ⟨works, rfl⟩)
  · by_cases he : p = []
    · subst he
      exact loop off len cap h1 z [] (by simp) 80 0 _ _ _ _ (by omega) (by omega) .none
    · refine Obl.goal (K := Goal P 0 4 Q) mix (fun _ h => h) (cast (capped _ _ p p _).symm ⟨List.length_pos_iff.2 he, fun c hc => ?_⟩)
      exact loop off len cap h1 z p hp 80 0 _ _ _ _ (by omega) (by omega) (.live 0 p.length c p ⟨Nat.le_refl _, fun _ => Nat.zero_add _, hc, by simp [wireR.ahead]⟩)

theorem lim_ge (n : Nat) : (0 : Int) ≤ (if decide ((4000 : Int) < (n : Int)) = true then (4000 : Int) else (n : Int)) ∧ (if decide ((4000 : Int) < (n : Int)) = true then (4000 : Int) else (n : Int)) ≤ (n : Int) := by
  by_cases h : (4000 : Int) < n
  · rw [if_pos (decide_eq_true h)]; omega
  · rw [if_neg (by simpa using h)]; omega

theorem lim_len (s : List UInt8) : (List.take ((if decide ((4000 : Int) < (s.length : Int)) = true then (4000 : Int) else (s.length : Int)).toNat - 0) (List.drop 0 s)).length ≤ 4000 := by
  by_cases h : (4000 : Int) < s.length
  · rw [if_pos (decide_eq_true h)]; simp; omega
  · rw [if_neg (by simpa using h)]; simp; omega

end Go.Proofs.Ytmnelckaighmkaa.wireReads
