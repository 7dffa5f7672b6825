/- What stands ahead of a text's first slash, and behind it. -/
import Derived.Test.YtdpgaemeapeilaaPaB
set_option maxRecDepth 100000
namespace Go.Proofs.Ytdpgaemeapeilaa.pth
open Go Ev

noncomputable abbrev rd2 (s : List UInt8) (lo : Int) : T AV := ((T.leaf : T AV).set (some (.str s)) 16).set (some (.int .i64 lo)) 20
noncomputable abbrev rd1 (s : List UInt8) (hi : Int) : T AV := ((T.leaf : T AV).set (some (.str s)) 13).set (some (.int .i64 hi)) 14

theorem rd2_op (s : List UInt8) (lo : Int) (H : AHeap) : opS P (ev (rd2 s lo)) H (.slice 9 (.tmp 16) (some (.tmp 20)) none none) = some (.val (.str (List.take (s.length - lo.toNat) (List.drop lo.toNat s))) H, 0 ≤ lo ∧ lo ≤ (s.length : Int)) := by kernel_rfl
theorem rd1_op (s : List UInt8) (hi : Int) (H : AHeap) : opS P (ev (rd1 s hi)) H (.slice 9 (.tmp 13) none (some (.tmp 14)) none) = some (.val (.str (List.take (hi.toNat - 0) (List.drop 0 s))) H, 0 ≤ hi ∧ hi ≤ (s.length : Int)) := by kernel_rfl

theorem rd2_ok {s : List UInt8} {lo : Int} {H : AHeap} (h : 0 ≤ lo ∧ lo ≤ (s.length : Int)) : readA P (ev (rd2 s lo)) H (.slice 9 (.tmp 16) (some (.tmp 20)) none none) = some (.str (List.take (s.length - lo.toNat) (List.drop lo.toNat s))) := by
  unfold readA
  rw [opS_ok (rd2_op s lo H) h]
theorem rd1_ok {s : List UInt8} {hi : Int} {H : AHeap} (h : 0 ≤ hi ∧ hi ≤ (s.length : Int)) : readA P (ev (rd1 s hi)) H (.slice 9 (.tmp 13) none (some (.tmp 14)) none) = some (.str (List.take (hi.toNat - 0) (List.drop 0 s))) := by
  unfold readA
  rw [opS_ok (rd1_op s hi H) h]

theorem cutnn (R : AV → Prop) (s : List UInt8) (G : T (T AV)) (_K : AM → Prop) : Obl P 19 (fun v _ => R v) 0 _K [.run 46, .know 16 false, .run 38, .know 12 false, .run 19, .done] ((startM P 19 [.str s, .str [47]] G)) = ((([47] == s) = false) ∧ (decide (Lib.indexByte s 47 ≥ (0 : Int)) = false) ∧ (R (.tup [.str s, .str [], .bool false]))) := by kernel_rfl

theorem cutny (R : AV → Prop) (s : List UInt8) (G : T (T AV)) (_K : AM → Prop) : Obl P 19 (fun v _ => R v) 0 _K [.run 46, .know 16 false, .run 38, .know 12 true, .run 5, .op, .run 5, .op, .step, .run 13, .done] ((startM P 19 [.str s, .str [47]] G)) =
  ((([47] == s) = false) ∧ (decide (Lib.indexByte s 47 ≥ 0) = true) ∧ (0 ≤ Lib.indexByte s 47 ∧ Lib.indexByte s 47 ≤ (s.length : Int)) ∧ (0 ≤ IntKind.i64.wrap (Lib.indexByte s 47 + Int.ofNat 1) ∧ IntKind.i64.wrap (Lib.indexByte s 47 + Int.ofNat 1) ≤ (s.length : Int)) ∧
    (readA P (ev (rd2 s (IntKind.i64.wrap (Lib.indexByte s 47 + Int.ofNat 1)))) ⟨.leaf, 0, G⟩ (.slice 9 (.tmp 16) (some (.tmp 20)) none none) = some (AV.str (List.take (s.length - (IntKind.i64.wrap (Lib.indexByte s 47 + Int.ofNat 1)).toNat) (List.drop (IntKind.i64.wrap (Lib.indexByte s 47 + Int.ofNat 1)).toNat s)))) ∧
    (some (AV.int .i64 (IntKind.i64.wrap (Lib.indexByte s 47 + Int.ofNat 1))) = some (AV.int .i64 (IntKind.i64.wrap (Lib.indexByte s 47 + Int.ofNat 1)))) ∧ (some (AV.int .i64 1) = some (AV.int .i64 1)) ∧ 
    (R (.tup [.str (List.take ((Lib.indexByte s 47).toNat - 0) (List.drop 0 s)), .str (List.take (s.length - (IntKind.i64.wrap (Lib.indexByte s 47 + Int.ofNat 1)).toNat) (List.drop (IntKind.i64.wrap (Lib.indexByte s 47 + Int.ofNat 1)).toNat s)), .bool true]))) := by kernel_rfl

theorem cut_slash (G : T (T AV)) (Q : AV → AHeap → Prop) (h : ∀ h, Q (.tup [.str [], .str [], .bool true]) h) : Goal P 0 19 Q (startM P 19 [.str [47], .str [47]] G) :=
  Goal.ofRun (n := 100000) mix (v := .tup [.str [], .str [], .bool true]) (by kernel_rfl) h

theorem cut_no {s : List UInt8} {G : T (T AV)} (h : ∀ b ∈ s, b ≠ 47) : Goal P 0 19 (fun v _ => v = .tup [.str s, .str [], .bool false]) (startM P 19 [.str s, .str [47]] G) := by
  have hi := idx_no s h
  refine Obl.goal (K := fun _ => False) mix (fun _ h => h.elim) (cast (cutnn (fun v => v = .tup [.str s, .str [], .bool false]) s G _).symm ⟨?_, ?_, rfl⟩)
  · rw [beq_eq_false_iff_ne]
    rintro rfl
    exact h 47 (.head _) rfl
  · rw [hi]
    rfl

theorem cut_at {p r : List UInt8} {G : T (T AV)} (h : ∀ b ∈ p, b ≠ 47) (hl : (p ++ 47 :: r).length < 9223372036854775807) : Goal P 0 19 (fun v _ => v = .tup [.str p, .str r, .bool true]) (startM P 19 [.str (p ++ 47 :: r), .str [47]] G) := by
  by_cases hs : p ++ 47 :: r = [47]
  · obtain ⟨rfl, rfl⟩ : p = [] ∧ r = [] := by
      cases p with
      | nil => exact ⟨rfl, by simpa using hs⟩
      | cons c p => simp at hs
    exact cut_slash G _ fun _ => rfl
  · have hi := idx_at r p h
    rw [List.length_append, List.length_cons] at hl
    have hw : IntKind.i64.wrap (Lib.indexByte (p ++ 47 :: r) 47 + Int.ofNat 1) = ((p.length + 1 : Nat) : Int) := by
      rw [hi, wi (by show 0 ≤ (p.length : Int) + 1 ∧ (p.length : Int) + 1 < 9223372036854775808; omega)]
      rfl
    have hlen : (p ++ 47 :: r).length = p.length + (r.length + 1) := by rw [List.length_append, List.length_cons]
    refine Obl.goal (K := fun _ => False) mix (fun _ h => h.elim) (cast (cutny (fun v => v = .tup [.str p, .str r, .bool true]) (p ++ 47 :: r) G _).symm ?_)
    rw [hw, hi]
    refine ⟨?_, decide_eq_true (by omega), ⟨by omega, by omega⟩, ⟨by omega, by omega⟩, rd2_ok ⟨by omega, by omega⟩, rfl, rfl, ?_⟩
    · rw [beq_eq_false_iff_ne]
      exact fun e => hs e.symm
    · have e1 : List.take (((p.length : Int)).toNat - 0) (List.drop 0 (p ++ 47 :: r)) = p := by simp
      have e2 : List.take ((p ++ 47 :: r).length - (((p.length + 1 : Nat) : Int)).toNat) (List.drop (((p.length + 1 : Nat) : Int)).toNat (p ++ 47 :: r)) = r := by
        rw [Int.toNat_natCast, hlen]
        have : List.drop (p.length + 1) (p ++ 47 :: r) = r := by
          rw [List.drop_append]
          simp
        rw [this]
        exact List.take_of_length_le (by omega)
      rw [e1, e2]

end Go.Proofs.Ytdpgaemeapeilaa.pth
