/- Cleaning, once more: what was cleaned is a path, and itself when cleaned again; the chapter's rows. -/
import Derived.Test.YtdpgaemeapeilaaPaI
set_option maxRecDepth 100000
set_option linter.unusedVariables false
namespace Go.Proofs.Ytdpgaemeapeilaa.pth
open Go Ev

theorem jl_pre (u : List UInt8) : ∀ (r : List (List UInt8)) (x : List UInt8), jl (u ++ x) r = u ++ jl x r
  | [], _ => rfl
  | y :: r, x => by
    unfold jl
    rw [show u ++ x ++ [47] ++ y = u ++ (x ++ [47] ++ y) by simp, jl_pre u r]

def jn : List (List UInt8) → List UInt8
  | [] => []
  | x :: r => jl x r

theorem sp_ne : ∀ (s a : List UInt8), sp s a ≠ []
  | [], a => by unfold sp; simp
  | c :: r, a => by
    unfold sp
    split
    · simp
    · exact sp_ne r _

/-- The pieces, joined, are the text. -/
theorem jn_sp : ∀ (s a : List UInt8), jn (sp s a) = a ++ s
  | [], a => by unfold sp jn jl; rw [List.append_nil]
  | c :: r, a => by
    unfold sp
    split
    · rename_i hc
      subst hc
      have ih := jn_sp r []
      have hn := sp_ne r []
      match h : sp r [], hn with
      | y :: q, _ =>
        rw [h] at ih
        show jl a (y :: q) = _
        have ih : jl y q = r := by simpa [jn] using ih
        unfold jl
        rw [jl_pre (a ++ [47]) q y, ih, List.append_assoc]
        rfl
    · rw [jn_sp r (a ++ [c]), List.append_assoc]
      rfl

theorem seg_noslash {p : List UInt8} (h : segm p = true) : ∀ b ∈ p, b ≠ 47 := by
  rintro b hb rfl
  unfold segm at h
  rw [Bool.and_eq_true, List.all_eq_true] at h
  have := h.2 _ hb
  revert this
  decide

theorem seg_other {p : List UInt8} (h : segm p = true) : p ≠ [] ∧ p ≠ [46] ∧ p ≠ [46, 46] := by
  refine ⟨?_, ?_, ?_⟩ <;> rintro rfl <;> revert h <;> decide

/-- Segments, joined, have these pieces. -/
theorem sp_jl : ∀ (r : List (List UInt8)) (x : List UInt8), (∀ b ∈ x, b ≠ 47) → (∀ y ∈ r, ∀ b ∈ y, b ≠ 47) → sp (jl x r) [] = x :: r
  | [], x, hx, _ => by
    unfold jl
    rw [sp_no x [] hx, List.nil_append]
  | y :: r, x, hx, hr => by
    unfold jl
    rw [jl_pre (x ++ [47]) r y, List.append_assoc]
    show sp (x ++ 47 :: jl y r) [] = _
    rw [sp_at _ x [] hx, List.nil_append, sp_jl r y (hr y (.head _)) fun z hz => hr z (.tail _ hz)]

theorem fo_segs : ∀ (L l : List (List UInt8)), (∀ x ∈ L, segm x = true) → fo l L = some (l ++ L)
  | [], l, _ => by unfold fo; rw [List.append_nil]
  | p :: L, l, h => by
    have hp := h p (.head _)
    obtain ⟨h1, h2, h3⟩ := seg_other hp
    rw [fo_cons, wk_else h1 h2 h3, if_pos hp]
    show fo (l ++ [p]) L = _
    rw [fo_segs L (l ++ [p]) fun x hx => h x (.tail _ hx), List.append_assoc]
    rfl

/-- What is cleaned without an error: segments, joined. -/
theorem cl_some {s : List UInt8} (h : (cl s).2 = 0) : ∃ x r, fo [] (sp s []) = some (x :: r) ∧ (∀ y ∈ x :: r, segm y = true) ∧ (x :: r).length ≤ 8 ∧ (cl s).1 = jl x r := by
  unfold cl at h ⊢
  match e : fo [] (sp s []) with
  | none => rw [e] at h; cases h
  | some [] => rw [e] at h; cases h
  | some (x :: r) =>
    rw [e] at h
    unfold fin at h
    simp only at h
    split at h
    · cases h
    · rename_i hl
      refine ⟨x, r, rfl, fo_seg _ _ _ (fun x hx => by cases hx) e, by simp only [List.length_cons]; omega, ?_⟩
      unfold fin
      simp only
      rw [if_neg hl]

theorem cl_err {s : List UInt8} (h : (cl s).2 ≠ 0) : cl s = ([], 6) := by
  unfold cl at h ⊢
  match e : fo [] (sp s []) with
  | none => rfl
  | some [] => rfl
  | some (x :: r) =>
    rw [e] at h
    unfold fin at h ⊢
    simp only at h ⊢
    split
    · rfl
    · rename_i hl
      rw [if_neg hl] at h
      exact absurd rfl h

theorem cl_of {x : List UInt8} {r : List (List UInt8)} (hs : ∀ y ∈ x :: r, segm y = true) (hl : (x :: r).length ≤ 8) : cl (jl x r) = (jl x r, 0) := by
  unfold cl
  rw [sp_jl r x (seg_noslash (hs x (.head _))) fun y hy => seg_noslash (hs y (.tail _ hy)), fo_segs _ [] hs]
  show fin (some (x :: r)) = _
  unfold fin
  simp only
  rw [if_neg (by simp only [List.length_cons] at hl; omega)]

theorem cl_cl {s : List UInt8} (h : (cl s).2 = 0) : cl (cl s).1 = ((cl s).1, 0) := by
  obtain ⟨x, r, _, hs, hl, e⟩ := cl_some h
  rw [e]
  exact cl_of hs hl

theorem cl_len {s : List UInt8} (h : (cl s).2 = 0) : (cl s).1.length < 200 := by
  obtain ⟨x, r, _, hs, hl, e⟩ := cl_some h
  rw [e]
  have key : ∀ (r : List (List UInt8)) (x : List UInt8), (∀ y ∈ r, segm y = true) → (jl x r).length ≤ x.length + 17 * r.length := by
    intro r
    induction r with
    | nil => intro x _; unfold jl; simp
    | cons y r ih =>
      intro x hr
      unfold jl
      have h1 := ih (x ++ [47] ++ y) fun z hz => hr z (.tail _ hz)
      have h2 := (seg_len (hr y (.head _))).2
      simp only [List.length_append, List.length_nil, List.length_cons] at h1 ⊢
      omega
  have h1 := key r x fun y hy => hs y (.tail _ hy)
  have h2 := (seg_len (hs x (.head _))).2
  simp only [List.length_cons] at hl
  omega

theorem may_eq (s : List UInt8) : mayP s = mayR s := by
  rw [Bool.eq_iff_iff]
  unfold mayP mayR
  rw [Bool.and_eq_true, Bool.and_eq_true, decide_eq_true_eq, beq_iff_eq, decide_eq_true_eq, List.all_eq_true]
  constructor
  · rintro ⟨h0, h1⟩
    obtain ⟨x, r, _, hs, hl, e⟩ := cl_some h0
    rw [h1] at e
    rw [e, sp_jl r x (seg_noslash (hs x (.head _))) fun y hy => seg_noslash (hs y (.tail _ hy))]
    exact ⟨hs, hl⟩
  · rintro ⟨hs, hl⟩
    have hj := jn_sp s []
    have hn := sp_ne s []
    match h : sp s [], hn with
    | x :: r, _ =>
      rw [h] at hj hs hl
      have hj : jl x r = s := hj
      have := cl_of hs hl
      rw [hj] at this
      rw [this]
      exact ⟨rfl, rfl⟩

/-! ## The chapter's rows -/

theorem works_ok {G : T (T AV)} : Goal P 0 10 (fun v _ => v = .bool true) (startM P 10 [] G) :=
  Goal.ofRun (n := 30000) mix (v := .bool true) (by kernel_rfl) fun _ => rfl

theorem is_ok {s w : List UInt8} {G : T (T AV)} (hs : s.length < 2 ^ 29) : Goal P 0 11 (fun v _ => v = .bool ((cl s).1 == w && (cl s).2 == 0)) (startM P 11 [.str s, .str w] G) := by
  have hc := clean_ok (G := G) hs
  by_cases h : (cl s).1 = w
  · refine Obl.goal (K := fun _ => False) mix (fun _ h => h.elim) (cast (isy _ s w (cl s).1 (cl s).2 G _).symm ⟨hc, beq_iff_eq.2 h, ?_⟩)
    rw [beq_iff_eq.2 h, Bool.true_and]
  · refine Obl.goal (K := fun _ => False) mix (fun _ h => h.elim) (cast (isn _ s w (cl s).1 (cl s).2 G _).symm ⟨hc, beq_eq_false_iff_ne.2 h, ?_⟩)
    rw [beq_eq_false_iff_ne.2 h, Bool.false_and]

theorem cut1000 (s : List UInt8) : ((0 : Int) ≤ (if decide ((1000 : Int) < (s.length : Int)) = true then (1000 : Int) else (s.length : Int)) ∧ (if decide ((1000 : Int) < (s.length : Int)) = true then (1000 : Int) else (s.length : Int)) ≤ (s.length : Int)) ∧
    List.take ((if decide ((1000 : Int) < (s.length : Int)) = true then (1000 : Int) else (s.length : Int)).toNat - 0) (List.drop 0 s) = s.take 1000 := by
  by_cases h : (1000 : Int) < (s.length : Int)
  · rw [if_pos (decide_eq_true h)]
    exact ⟨⟨by omega, by omega⟩, rfl⟩
  · rw [if_neg (by rw [decide_eq_true_eq]; exact h)]
    refine ⟨⟨by omega, by omega⟩, ?_⟩
    rw [List.drop_zero, List.take_of_length_le (by omega), List.take_of_length_le (by omega)]

theorem l1 (R : AV → Prop) (s c : List UInt8) (e : Int) (m : Bool) (G : T (T AV)) (_K : AM → Prop) : optK (startL P 3 [.str s] [] G) (Obl P 3 (fun v _ => R v) 0 _K [.run 10, .op, .run 6, (.callv [0] (.tup [.str c, .int .i64 e])), .run 10, (.callv [0] (.tup [.str c, .int .i64 e])), .run 12, .know 25 true, .run 5, .know 30 true, .run 2, (.callv [0] (.bool m)), .run 2, (.callv [0] (.bool m)), .run 3, .know 37 true, .run 1, (.callv [] (.bool true)), .run 4, .done]) = ((((0 : Int) ≤ if decide ((1000 : Int) < (↑s.length : Int)) = true then (1000 : Int) else (↑s.length : Int)) ∧ (if decide ((1000 : Int) < (↑s.length : Int)) = true then (1000 : Int) else (↑s.length : Int)) ≤ (↑s.length : Int)) ∧ (Goal P (0) 6 (fun x _ => x = AV.tup [AV.str c, AV.int IntKind.i64 e]) (startM P 6 [.str (List.take ((if decide ((1000 : Int) < (↑s.length : Int)) = true then (1000 : Int) else (↑s.length : Int)).toNat - (0 : Nat)) (List.drop (0 : Nat) s))] G)) ∧ (Goal P (0) 7 (fun x _ => x = AV.tup [AV.str c, AV.int IntKind.i64 e]) (startM P 7 [.str (List.take ((if decide ((1000 : Int) < (↑s.length : Int)) = true then (1000 : Int) else (↑s.length : Int)).toNat - (0 : Nat)) (List.drop (0 : Nat) s))] G)) ∧ ((c == c) = true) ∧ ((e == e) = true) ∧ (Goal P (0) 8 (fun x _ => x = AV.bool m) (startM P 8 [.str (List.take ((if decide ((1000 : Int) < (↑s.length : Int)) = true then (1000 : Int) else (↑s.length : Int)).toNat - (0 : Nat)) (List.drop (0 : Nat) s))] G)) ∧ (Goal P (0) 9 (fun x _ => x = AV.bool m) (startM P 9 [.str (List.take ((if decide ((1000 : Int) < (↑s.length : Int)) = true then (1000 : Int) else (↑s.length : Int)).toNat - (0 : Nat)) (List.drop (0 : Nat) s))] G)) ∧ ((m == m) = true) ∧ (Goal P (0) 10 (fun x _ => x = AV.bool true) (startM P 10 [] G)) ∧ (R (.bool true))) := by kernel_rfl

theorem l3yyyy (R : AV → Prop) (s c : List UInt8) (e : Int) (m : Bool) (G : T (T AV)) (_K : AM → Prop) : optK (startL P 5 [.str s] [] G) (Obl P 5 (fun v _ => R v) 0 _K [.run 10, .op, .run 6, (.callv [0] (.tup [.str c, .int .i64 e])), .run 12, .know 16 true, .run 6, .know 19 true, .run 4, .know 23 true, .run 2, (.callv [0] (.bool m)), .run 3, .know 28 true, .run 1, (.callv [] (.bool true)), .run 4, .done]) = ((((0 : Int) ≤ if decide ((1000 : Int) < (↑s.length : Int)) = true then (1000 : Int) else (↑s.length : Int)) ∧ (if decide ((1000 : Int) < (↑s.length : Int)) = true then (1000 : Int) else (↑s.length : Int)) ≤ (↑s.length : Int)) ∧ (Goal P (0) 6 (fun x _ => x = AV.tup [AV.str c, AV.int IntKind.i64 e]) (startM P 6 [.str (List.take ((if decide ((1000 : Int) < (↑s.length : Int)) = true then (1000 : Int) else (↑s.length : Int)).toNat - (0 : Nat)) (List.drop (0 : Nat) s))] G)) ∧ ((e != (0 : Int)) = true) ∧ ((e == (6 : Int)) = true) ∧ ((c == ([] : List UInt8)) = true) ∧ (Goal P (0) 8 (fun x _ => x = AV.bool m) (startM P 8 [.str (List.take ((if decide ((1000 : Int) < (↑s.length : Int)) = true then (1000 : Int) else (↑s.length : Int)).toNat - (0 : Nat)) (List.drop (0 : Nat) s))] G)) ∧ ((!m) = true) ∧ (Goal P (0) 10 (fun x _ => x = AV.bool true) (startM P 10 [] G)) ∧ (R (.bool true))) := by kernel_rfl

theorem l3nyy (R : AV → Prop) (s c : List UInt8) (e : Int) (m : Bool) (G : T (T AV)) (_K : AM → Prop) : optK (startL P 5 [.str s] [] G) (Obl P 5 (fun v _ => R v) 0 _K [.run 10, .op, .run 6, (.callv [0] (.tup [.str c, .int .i64 e])), .run 12, .know 16 false, .run 6, (.callv [0] (.bool true)), .run 1, .know 33 true, .run 3, (.callv [0, 1] (.bool true)), .run 4, (.callv [0] (.bool m)), .run 6, .know 46 true, .run 1, (.callv [] (.bool true)), .run 4, .done]) = ((((0 : Int) ≤ if decide ((1000 : Int) < (↑s.length : Int)) = true then (1000 : Int) else (↑s.length : Int)) ∧ (if decide ((1000 : Int) < (↑s.length : Int)) = true then (1000 : Int) else (↑s.length : Int)) ≤ (↑s.length : Int)) ∧ (Goal P (0) 6 (fun x _ => x = AV.tup [AV.str c, AV.int IntKind.i64 e]) (startM P 6 [.str (List.take ((if decide ((1000 : Int) < (↑s.length : Int)) = true then (1000 : Int) else (↑s.length : Int)).toNat - (0 : Nat)) (List.drop (0 : Nat) s))] G)) ∧ ((e != (0 : Int)) = false) ∧ (Goal P (0) 8 (fun x _ => x = AV.bool true) (startM P 8 [.str c] G)) ∧ (true = true) ∧ (Goal P (0) 11 (fun x _ => x = AV.bool true) (startM P 11 [.str c, .str c] G)) ∧ (Goal P (0) 8 (fun x _ => x = AV.bool m) (startM P 8 [.str (List.take ((if decide ((1000 : Int) < (↑s.length : Int)) = true then (1000 : Int) else (↑s.length : Int)).toNat - (0 : Nat)) (List.drop (0 : Nat) s))] G)) ∧ ((m == (c == List.take ((if decide ((1000 : Int) < (↑s.length : Int)) = true then (1000 : Int) else (↑s.length : Int)).toNat - (0 : Nat)) (List.drop (0 : Nat) s))) = true) ∧ (Goal P (0) 10 (fun x _ => x = AV.bool true) (startM P 10 [] G)) ∧ (R (.bool true))) := by kernel_rfl


theorem cleans_ok {s : List UInt8} {G : T (T AV)} (K : AM → Prop) : ∃ cmds, optK (startL P 3 [.str s] [] G) (Obl P 3 (fun v _ => v = .bool true) 0 K cmds) := by
  obtain ⟨L1, L2⟩ := cut1000 s
  have hb : (s.take 1000).length < 2 ^ 29 := by rw [List.length_take]; omega
  have hm : Goal P 0 8 (fun v _ => v = .bool (mayR (s.take 1000))) (startM P 8 [.str (s.take 1000)] G) := by rw [← may_eq]; exact may_ok hb
  refine ⟨_, cast (l1 (fun v => v = .bool true) s (cl (s.take 1000)).1 (cl (s.take 1000)).2 (mayR (s.take 1000)) G K).symm ?_⟩
  rw [L2]
  exact ⟨L1, clean_ok hb, rclean_ok hb, BEq.rfl, BEq.rfl, hm, rmay_ok hb, BEq.rfl, works_ok, rfl⟩

theorem once_ok {s : List UInt8} {G : T (T AV)} (K : AM → Prop) : ∃ cmds, optK (startL P 5 [.str s] [] G) (Obl P 5 (fun v _ => v = .bool true) 0 K cmds) := by
  obtain ⟨L1, L2⟩ := cut1000 s
  have hb : (s.take 1000).length < 2 ^ 29 := by rw [List.length_take]; omega
  have hm := may_ok (G := G) hb
  have hc := clean_ok (G := G) hb
  by_cases h : (cl (s.take 1000)).2 = 0
  · have hcl := cl_cl h
    have hlen := cl_len h
    have h1 : Goal P 0 8 (fun v _ => v = .bool true) (startM P 8 [.str (cl (s.take 1000)).1] G) := by
      have := may_ok (s := (cl (s.take 1000)).1) (G := G) (by omega)
      unfold mayP at this
      rw [hcl] at this
      simpa using this
    have h2 : Goal P 0 11 (fun v _ => v = .bool true) (startM P 11 [.str (cl (s.take 1000)).1, .str (cl (s.take 1000)).1] G) := by
      have := is_ok (s := (cl (s.take 1000)).1) (w := (cl (s.take 1000)).1) (G := G) (by omega)
      rw [hcl] at this
      simpa using this
    have he : mayP (s.take 1000) = ((cl (s.take 1000)).1 == s.take 1000) := by
      unfold mayP
      rw [decide_eq_true h, Bool.true_and]
    refine ⟨_, cast (l3nyy (fun v => v = .bool true) s (cl (s.take 1000)).1 (cl (s.take 1000)).2 (mayP (s.take 1000)) G K).symm ?_⟩
    rw [L2]
    exact ⟨L1, hc, by rw [h]; rfl, h1, rfl, h2, hm, by rw [he, BEq.rfl], works_ok, rfl⟩
  · have he := cl_err h
    have hf : mayP (s.take 1000) = false := by
      unfold mayP
      rw [decide_eq_false h, Bool.false_and]
    refine ⟨_, cast (l3yyyy (fun v => v = .bool true) s (cl (s.take 1000)).1 (cl (s.take 1000)).2 (mayP (s.take 1000)) G K).symm ?_⟩
    rw [L2]
    exact ⟨L1, hc, by rw [he]; rfl, by rw [he]; rfl, by rw [he]; rfl, hm, by rw [hf]; rfl, works_ok, rfl⟩

end Go.Proofs.Ytdpgaemeapeilaa.pth
