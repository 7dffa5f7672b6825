/- A request laid in bytes, by the program and by the document: the same. -/
import Derived.Test.YtclfckjhillfpaaDoorMaQ
import Derived.Test.YtclfckjhillfpaaDoorMaP
import Derived.Test.YtclfckjhillfpaaDoorMaC2
import Derived.Test.YtclfckjhillfpaaDoorMaD
set_option maxRecDepth 100000
set_option linter.unusedVariables false
namespace Go.Proofs.YtclfckjhillfpaaDoor.mq
open Go Ev

theorem enY (R : AV → Prop) (k e : Int) (a b c : List UInt8) (G : T (T AV)) (_K : AM → Prop) : Obl P 5 (fun v _ => R v) 0 _K [.run 11, .callv [0] (.int .i64 e), .run 7, .know 11 true, .run 8, .done] ((startM P 5 [.agg [.int .i64 k, .str a, .str b, .str c]] G)) = ((Goal P (0) 7 (fun x x_1 => x = AV.int IntKind.i64 e) (startM P 7 [.agg [.int .i64 k, .str a, .str b, .str c]] G)) ∧ ((e != (0 : Int)) = true) ∧ (R (.tup [.str [], .int .i64 e]))) := by kernel_rfl

theorem enS (R : AV → Prop) (k e : Int) (a b c s0 s1 s2 s3 : List UInt8) (G : T (T AV)) (_K : AM → Prop) : Obl P 5 (fun v _ => R v) 0 _K [.run 11, .callv [0] (.int .i64 e), .run 7, .know 11 false, .run 8, .callv [0, 1] (.str s0), .run 47, .callv [0, 1] (.str s1), .run 26, .callv [0, 1] (.str s2), .run 26, .callv [0, 1] (.str s3), .run 22, .done] ((startM P 5 [.agg [.int .i64 k, .str a, .str b, .str c]] G)) = ((Goal P (0) 7 (fun x x_1 => x = AV.int IntKind.i64 e) (startM P 7 [.agg [.int .i64 k, .str a, .str b, .str c]] G)) ∧ ((e != (0 : Int)) = false) ∧ (Goal P (0) 11 (fun x x_1 => x = AV.str s0) (startM P 11 [.str [], .int .u64 (IntKind.u64.wrap k)] G)) ∧ (Goal P (0) 13 (fun x x_1 => x = AV.str s1) (startM P 13 [.str s0, .str a] G)) ∧ (Goal P (0) 13 (fun x x_1 => x = AV.str s2) (startM P 13 [.str s1, .str b] G)) ∧ (Goal P (0) 13 (fun x x_1 => x = AV.str s3) (startM P 13 [.str s2, .str c] G)) ∧ (R (.tup [.str s3, .int .i64 0]))) := by kernel_rfl

theorem rey (R : AV → Prop) (k e : Int) (a b c s : List UInt8) (G : T (T AV)) (_K : AM → Prop) : Obl P 6 (fun v _ => R v) 0 _K [.run 10, (.callv [0] (.int .i64 e)), .run 8, .know 8 true, .run 8, .done] ((startM P 6 [.agg [.int .i64 k, .str a, .str b, .str c]] G)) = ((Goal P (0) 8 (fun x x_1 => x = AV.int IntKind.i64 e) (startM P 8 [.agg [.int .i64 k, .str a, .str b, .str c]] G)) ∧ ((e != (0 : Int)) = true) ∧ (R (.tup [.str [], .int .i64 e]))) := by kernel_rfl

theorem ren (R : AV → Prop) (k e : Int) (a b c s : List UInt8) (G : T (T AV)) (_K : AM → Prop) : Obl P 6 (fun v _ => R v) 0 _K [.run 10, (.callv [0] (.int .i64 e)), .run 8, .know 8 false, .run 6, (.callv [0] (.str s)), .run 4, .done] ((startM P 6 [.agg [.int .i64 k, .str a, .str b, .str c]] G)) = ((Goal P (0) 8 (fun x x_1 => x = AV.int IntKind.i64 e) (startM P 8 [.agg [.int .i64 k, .str a, .str b, .str c]] G)) ∧ ((e != (0 : Int)) = false) ∧ (Goal P (0) 14 (fun x x_1 => x = AV.str s) (startM P 14 [.agg [.int .i64 k, .str a, .str b, .str c]] G)) ∧ (R (.tup [.str s, .int .i64 0]))) := by kernel_rfl

theorem rp (R : AV → Prop) (k : Int) (a b c s0 s1 s2 s3 : List UInt8) (G : T (T AV)) (_K : AM → Prop) : Obl P 14 (fun v _ => R v) 0 _K [.run 11, .callv [0, 1] (.str s0), .run 12, .callv [0, 1] (.str s1), .run 1, .callv [0, 1] (.str s2), .run 1, .callv [0, 1] (.str s3), .run 3, .done] ((startM P 14 [.agg [.int .i64 k, .str a, .str b, .str c]] G)) = ((Goal P (0) 27 (fun x x_1 => x = AV.str s0) (startM P 27 [.str [], .int .u64 (IntKind.u64.wrap k)] G)) ∧ (Goal P (0) 28 (fun x x_1 => x = AV.str s1) (startM P 28 [.str s0, .str a] G)) ∧ (some (AV.str c) = some (AV.str c)) ∧ (some (AV.str b) = some (AV.str b)) ∧ (Goal P (0) 28 (fun x x_1 => x = AV.str s2) (startM P 28 [.str s1, .str b] G)) ∧ (some (AV.str c) = some (AV.str c)) ∧ (Goal P (0) 28 (fun x x_1 => x = AV.str s3) (startM P 28 [.str s2, .str c] G)) ∧ (R (.str s3))) := by kernel_rfl

theorem rq4 (R : AV → Prop) (k n0 n1 n2 : Int) (a b c x y z : List UInt8) (G : T (T AV)) (_K : AM → Prop) : Obl P 4 (fun v _ => R v) 0 _K [.run 30, .callv [0, 1, 2] (.str x), .run 1, .callv [0, 1, 2] (.str y), .run 1, .callv [0, 1, 2] (.str z), .run 4, .done] ((startM P 4 [.agg [.int .i64 k, .str a, .str b, .str c], .agg [.int .u16 n0, .int .u16 n1, .int .u16 n2]] G)) = ((Goal P (0) 10 (fun x_1 x_2 => x_1 = AV.str x) (startM P 10 [.str a, .int .u16 n0, .int .i64 100] G)) ∧ (some (AV.int IntKind.u16 n2) = some (AV.int IntKind.u16 n2)) ∧ (some (AV.str c) = some (AV.str c)) ∧ (some (AV.int IntKind.u16 n1) = some (AV.int IntKind.u16 n1)) ∧ (some (AV.str b) = some (AV.str b)) ∧ (some (AV.int IntKind.i64 k) = some (AV.int IntKind.i64 k)) ∧ (Goal P (0) 10 (fun x x_1 => x = AV.str y) (startM P 10 [.str b, .int .u16 n1, .int .i64 300] G)) ∧ (some (AV.int IntKind.u16 n2) = some (AV.int IntKind.u16 n2)) ∧ (some (AV.str c) = some (AV.str c)) ∧ (some (AV.int IntKind.i64 k) = some (AV.int IntKind.i64 k)) ∧ (Goal P (0) 10 (fun x x_1 => x = AV.str z) (startM P 10 [.str c, .int .u16 n2, .int .i64 6000] G)) ∧ (some (AV.int IntKind.i64 k) = some (AV.int IntKind.i64 k)) ∧ (R (.agg [.int .i64 k, .str x, .str y, .str z]))) := by kernel_rfl

theorem lw (R : AV → Prop) (k n0 n1 n2 e f : Int) (a b c x y z s : List UInt8) (G : T (T AV)) (_K : AM → Prop) : Obl P 3 (fun v _ => R v) 0 _K [.run 11, (.callv [0, 1] (.agg [.int .i64 k, .str x, .str y, .str z])), .run 6, (.callv [0] (.tup [.str s, .int .i64 e])), .run 10, (.callv [0] (.tup [.str s, .int .i64 e])), .run 12, .know 25 true, .run 5, .know 30 true, .run 3, (.callv [0] (.int .i64 f)), .run 1, (.callv [0] (.int .i64 f)), .run 3, .know 37 true, .run 1, (.callv [] (.bool true)), .run 4, .done] ((startM P 3 [.agg [.int .i64 k, .str a, .str b, .str c], .agg [.int .u16 n0, .int .u16 n1, .int .u16 n2]] G)) = ((Goal P (0) 4 (fun x_1 x_2 => x_1 = AV.agg [AV.int IntKind.i64 k, AV.str x, AV.str y, AV.str z]) (startM P 4 [.agg [.int .i64 k, .str a, .str b, .str c], .agg [.int .u16 n0, .int .u16 n1, .int .u16 n2]] G)) ∧ (Goal P (0) 5 (fun x x_1 => x = AV.tup [AV.str s, AV.int IntKind.i64 e]) (startM P 5 [.agg [.int .i64 k, .str x, .str y, .str z]] G)) ∧ (Goal P (0) 6 (fun x x_1 => x = AV.tup [AV.str s, AV.int IntKind.i64 e]) (startM P 6 [.agg [.int .i64 k, .str x, .str y, .str z]] G)) ∧ ((s == s) = true) ∧ ((e == e) = true) ∧ (Goal P (0) 7 (fun x x_1 => x = AV.int IntKind.i64 f) (startM P 7 [.agg [.int .i64 k, .str x, .str y, .str z]] G)) ∧ (some (AV.agg [AV.int IntKind.i64 k, AV.str x, AV.str y, AV.str z]) = some (AV.agg [AV.int IntKind.i64 k, AV.str x, AV.str y, AV.str z])) ∧ (Goal P (0) 8 (fun x x_1 => x = AV.int IntKind.i64 f) (startM P 8 [.agg [.int .i64 k, .str x, .str y, .str z]] G)) ∧ ((f == f) = true) ∧ (Goal P (0) 9 (fun x x_1 => x = AV.bool true) (startM P 9 [] G)) ∧ (R (.bool true))) := by kernel_rfl

/-- What is laid of a request. -/
def lay (k : Int) (a b c : List UInt8) : List UInt8 :=
  [] ++ row (IntKind.u64.wrap k) ++ row (IntKind.u64.wrap a.length) ++ a ++ row (IntKind.u64.wrap b.length) ++ b ++ row (IntKind.u64.wrap c.length) ++ c

def laid (k : Int) (a b c : List UInt8) : AV := if chk k a b c = 0 then .tup [.str (lay k a b c), .int .i64 0] else .tup [.str [], .int .i64 (chk k a b c)]

theorem u64_wrapped (k : Int) : 0 ≤ IntKind.u64.wrap k ∧ IntKind.u64.wrap k ≤ 18446744073709551615 := by
  rw [IntKind.wrap_u64]
  omega

theorem enc_ok {k : Int} {a b c : List UInt8} (ha : a.length ≤ 100000) (hb : b.length ≤ 100000) (hc : c.length ≤ 100000) : Goal P 0 5 (fun v _ => v = laid k a b c) (startM P 5 [.agg [.int .i64 k, .str a, .str b, .str c]] GW) := by
  have hk := u64_wrapped k
  have r1 := row_length (IntKind.u64.wrap k)
  have r2 := row_length (IntKind.u64.wrap a.length)
  have r3 := row_length (IntKind.u64.wrap b.length)
  by_cases h : chk k a b c = 0
  · refine Obl.goal (K := fun _ => False) mix (fun _ h => h.elim) (cast (enS (fun v => v = laid k a b c) k (chk k a b c) a b c _ _ _ _ GW _).symm ⟨ck_ok k a b c, by rw [h]; rfl, puts [] _ hk.1 hk.2 (by decide), putt _ a ?_, putt _ b ?_, putt _ c ?_, ?_⟩)
    · simp only [List.length_append, List.length_nil]; omega
    · simp only [List.length_append, List.length_nil]; omega
    · simp only [List.length_append, List.length_nil]; omega
    · unfold laid
      rw [if_pos h]
      rfl
  · refine Obl.goal (K := fun _ => False) mix (fun _ h => h.elim) (cast (enY (fun v => v = laid k a b c) k (chk k a b c) a b c GW _).symm ⟨ck_ok k a b c, by simpa using h, ?_⟩)
    unfold laid
    rw [if_neg h]

theorem rput_ok {k : Int} {a b c : List UInt8} (ha : a.length ≤ 100000) (hb : b.length ≤ 100000) (hc : c.length ≤ 100000) : Goal P 0 14 (fun v _ => v = .str (lay k a b c)) (startM P 14 [.agg [.int .i64 k, .str a, .str b, .str c]] GW) := by
  have hk := u64_wrapped k
  have r1 := row_length (IntKind.u64.wrap k)
  have r2 := row_length (IntKind.u64.wrap a.length)
  have r3 := row_length (IntKind.u64.wrap b.length)
  refine Obl.goal (K := fun _ => False) mix (fun _ h => h.elim) (cast (rp (fun v => v = .str (lay k a b c)) k a b c _ _ _ _ GW _).symm ⟨rputs [] _ hk.1 hk.2 (by decide), rputt _ a ?_, rfl, rfl, rputt _ b ?_, rfl, rputt _ c ?_, rfl⟩)
  · simp only [List.length_append, List.length_nil]; omega
  · simp only [List.length_append, List.length_nil]; omega
  · simp only [List.length_append, List.length_nil]; omega

theorem renc_ok {k : Int} {a b c : List UInt8} (ha : a.length ≤ 100000) (hb : b.length ≤ 100000) (hc : c.length ≤ 100000) : Goal P 0 6 (fun v _ => v = laid k a b c) (startM P 6 [.agg [.int .i64 k, .str a, .str b, .str c]] GW) := by
  by_cases h : chk k a b c = 0
  · refine Obl.goal (K := fun _ => False) mix (fun _ h => h.elim) (cast (ren (fun v => v = laid k a b c) k (chk k a b c) a b c (lay k a b c) GW _).symm ⟨rk_ok k a b c, by rw [h]; rfl, rput_ok ha hb hc, ?_⟩)
    unfold laid
    rw [if_pos h]
  · refine Obl.goal (K := fun _ => False) mix (fun _ h => h.elim) (cast (rey (fun v => v = laid k a b c) k (chk k a b c) a b c [] GW _).symm ⟨rk_ok k a b c, by simpa using h, ?_⟩)
    unfold laid
    rw [if_neg h]

/-- The law's own steps: works() is asked last. -/
theorem asks {k n0 n1 n2 : Int} {a b c : List UInt8} (ha : a.length ≤ maxLen) (hb : b.length ≤ maxLen) (hc : c.length ≤ maxLen) (h0 : 0 ≤ n0 ∧ n0 ≤ 65535) (h1 : 0 ≤ n1 ∧ n1 ≤ 65535) (h2 : 0 ≤ n2 ∧ n2 ≤ 65535)
    (hw : Goal P 0 9 (fun x _ => x = AV.bool true) (startM P 9 [] GW)) : Goal P 0 3 (fun v _ => v = .bool true) (startM P 3 [.agg [.int .i64 k, .str a, .str b, .str c], .agg [.int .u16 n0, .int .u16 n1, .int .u16 n2]] GW) := by
  obtain ⟨i, p, x1, x2, x3, _, _, x4⟩ := req_ok (s := a) (n := n0) (most := 100) (G := GW) ha h0 (by decide)
  obtain ⟨j, q, y1, y2, y3, _, _, y4⟩ := req_ok (s := b) (n := n1) (most := 300) (G := GW) hb h1 (by decide)
  obtain ⟨l, r, z1, z2, z3, _, _, z4⟩ := req_ok (s := c) (n := n2) (most := 6000) (G := GW) hc h2 (by decide)
  generalize hx : a.take i ++ List.replicate p (0 : UInt8) = x at x4
  generalize hy : b.take j ++ List.replicate q (0 : UInt8) = y at y4
  generalize hz : c.take l ++ List.replicate r (0 : UInt8) = z at z4
  have lx : x.length ≤ 100000 := by rw [← hx, List.length_append, List.length_take, List.length_replicate]; omega
  have ly : y.length ≤ 100000 := by rw [← hy, List.length_append, List.length_take, List.length_replicate]; omega
  have lz : z.length ≤ 100000 := by rw [← hz, List.length_append, List.length_take, List.length_replicate]; omega
  have hr : Goal P 0 4 (fun v _ => v = .agg [.int .i64 k, .str x, .str y, .str z]) (startM P 4 [.agg [.int .i64 k, .str a, .str b, .str c], .agg [.int .u16 n0, .int .u16 n1, .int .u16 n2]] GW) :=
    Obl.goal (K := fun _ => False) mix (fun _ h => h.elim) (cast (rq4 (fun v => v = .agg [.int .i64 k, .str x, .str y, .str z]) k n0 n1 n2 a b c x y z GW _).symm ⟨x4, rfl, rfl, rfl, rfl, rfl, y4, rfl, rfl, rfl, z4, rfl, rfl⟩)
  have he := enc_ok (k := k) lx ly lz
  have hf := renc_ok (k := k) lx ly lz
  unfold laid at he hf
  by_cases h : chk k x y z = 0
  · rw [if_pos h] at he hf
    exact Obl.goal (K := fun _ => False) mix (fun _ h => h.elim) (cast (lw (fun v => v = .bool true) k n0 n1 n2 0 (chk k x y z) a b c x y z (lay k x y z) GW _).symm ⟨hr, he, hf, BEq.rfl, BEq.rfl, ck_ok k x y z, rfl, rk_ok k x y z, BEq.rfl, hw, rfl⟩)
  · rw [if_neg h] at he hf
    exact Obl.goal (K := fun _ => False) mix (fun _ h => h.elim) (cast (lw (fun v => v = .bool true) k n0 n1 n2 (chk k x y z) (chk k x y z) a b c x y z [] GW _).symm ⟨hr, he, hf, BEq.rfl, BEq.rfl, ck_ok k x y z, rfl, rk_ok k x y z, BEq.rfl, hw, rfl⟩)

end Go.Proofs.YtclfckjhillfpaaDoor.mq
