/- Blocking, by the program: what is lost and taken, how often lines are busy, how many lines are enough. -/
import Derived.Test.YtkepicmefpcgaaaGi
set_option linter.unusedSimpArgs false
set_option linter.unusedVariables false
namespace Go.Proofs.Ytkepicmefpcgaaa
open Go Go.Abs Go.RowKit
variable {w0 : World}

theorem implLP_calls (σ : AHeap) (L t : Int) : ACall Try.prog w0 25 [.int .i64 L, .int .i64 t] σ fun r σ' => r = .tuple #[.agg #[.int .i64 (lpN L t), .int .i64 (lpD L t)], .bool (decide (OK7 L t))] ∧ σ' = σ := by
  unfold lpN lpD
  refine acall_goc mixed Try.func25 rfl goodc25 fun pr => ?_
  simp -implicitDefEqProofs (disch := omega) only [List.any_cons, List.any_nil, Nat.reduceEqDiff, List.map_cons, List.map_nil, Option.map_some, Option.map_none, List.nil_append, ↓reduceIte, vcu, ↓vcd]
  refine r_new ze24 fun c4 τ1 n4 s1 e4 => ?_
  replace e4 : τ1 c4 = some ⟨[.int .i64 0, .int .i64 0], false⟩ := e4
  simp -implicitDefEqProofs (disch := omega) only [List.any_cons, List.any_nil, Nat.reduceEqDiff, List.map_cons, List.map_nil, Option.map_some, Option.map_none, List.nil_append, ↓reduceIte, vcu, ↓vcd]
  refine (implShares_calls τ1 L t).mono ?_
  rintro r _ ⟨rfl, rfl⟩
  rename_i τ1
  by_cases h : OK7 L t
  case neg =>
    rw [decide_eq_false h, if_neg h, if_neg h]
    simp -implicitDefEqProofs (disch := omega) only [List.any_cons, List.any_nil, Nat.reduceEqDiff, List.map_cons, List.map_nil, Option.map_some, Option.map_none, List.nil_append, ↓reduceIte, vcu, ↓vcd, opK_some, Bool.not_false]
    rw [r_build]
    refine ⟨(_, #[.int .i64 0, .int .i64 0]), ⟨ze24, by simp -implicitDefEqProofs (disch := omega) only [List.any_cons, List.any_nil, Nat.reduceEqDiff, List.map_cons, List.map_nil, Option.map_some, Option.map_none, List.nil_append, ↓reduceIte, vcu, ↓vcd]; kernel_rfl⟩, ?_⟩
    simp -implicitDefEqProofs (disch := omega) only [List.any_cons, List.any_nil, Nat.reduceEqDiff, List.map_cons, List.map_nil, Option.map_some, Option.map_none, List.nil_append, ↓reduceIte, vcu, ↓vcd]
    refine r_sets (g := c4) (i := 0) (C := [.int .i64 0, .int .i64 0]) (by simp -implicitDefEqProofs (disch := omega) only [List.any_cons, List.any_nil, Nat.reduceEqDiff, List.map_cons, List.map_nil, Option.map_some, Option.map_none, List.nil_append, ↓reduceIte, vcu, ↓vcd]) (by simp -implicitDefEqProofs (disch := omega) only [List.any_cons, List.any_nil, Nat.reduceEqDiff, List.map_cons, List.map_nil, Option.map_some, Option.map_none, List.nil_append, ↓reduceIte, vcu, ↓vcd, co24]; rfl) (by simp -implicitDefEqProofs (disch := omega) only [List.any_cons, List.any_nil, Nat.reduceEqDiff, List.map_cons, List.map_nil, Option.map_some, Option.map_none, List.nil_append, ↓reduceIte, vcu, ↓vcd]; rfl) (by simp -implicitDefEqProofs (disch := omega) only [List.any_cons, List.any_nil, Nat.reduceEqDiff, List.map_cons, List.map_nil, Option.map_some, Option.map_none, List.nil_append, ↓reduceIte, vcu, ↓vcd]; exact Nat.zero_lt_succ _) e4 (by simp -implicitDefEqProofs (disch := omega) only [List.any_cons, List.any_nil, Nat.reduceEqDiff, List.map_cons, List.map_nil, Option.map_some, Option.map_none, List.nil_append, ↓reduceIte, vcu, ↓vcd]; exact Nat.le_refl _) fun τ2 k2 e2 => ?_
    replace e2 : τ2 c4 = some ⟨[.int .i64 0, .int .i64 0], false⟩ := e2
    have l2 : lds τ2 c4 0 2 = some [.int .i64 0, .int .i64 0] := lds_two (ld_of e2 rfl) (ld_of e2 rfl)
    simp -implicitDefEqProofs (disch := omega) only [List.any_cons, List.any_nil, Nat.reduceEqDiff, List.map_cons, List.map_nil, Option.map_some, Option.map_none, List.nil_append, ↓reduceIte, vcu, ↓vcd]
    refine fin_ct7 Try.results25 σ (k2.sub s1 n4) (v := .agg #[.int .i64 0, .int .i64 0]) (by simp -implicitDefEqProofs (disch := omega) only [List.any_cons, List.any_nil, Nat.reduceEqDiff, List.map_cons, List.map_nil, Option.map_some, Option.map_none, List.nil_append, ↓reduceIte, vcu, ↓vcd, l2, co24]) ⟨?_, rfl⟩
    simp -implicitDefEqProofs (disch := omega) only [List.any_cons, List.any_nil, Nat.reduceEqDiff, List.map_cons, List.map_nil, Option.map_some, Option.map_none, List.nil_append, ↓reduceIte, vcu, ↓vcd]
  rw [decide_eq_true h, if_pos h, if_pos h]
  obtain ⟨⟨a1, a2⟩, a3, a4⟩ := h
  obtain ⟨L, rfl⟩ : ∃ n : Nat, L = n := ⟨L.toNat, by omega⟩
  obtain ⟨t, rfl⟩ : ∃ n : Nat, t = n := ⟨t.toNat, by omega⟩
  simp only [Int.toNat_natCast]
  simp -implicitDefEqProofs (disch := omega) only [List.any_cons, List.any_nil, Nat.reduceEqDiff, List.map_cons, List.map_nil, Option.map_some, Option.map_none, List.nil_append, ↓reduceIte, vcu, ↓vcd, opK_some, Bool.not_true]
  rw [r_build]
  refine ⟨(_, #[.int .i64 1, .int .i64 1]), ⟨ze24, by simp -implicitDefEqProofs (disch := omega) only [List.any_cons, List.any_nil, Nat.reduceEqDiff, List.map_cons, List.map_nil, Option.map_some, Option.map_none, List.nil_append, ↓reduceIte, vcu, ↓vcd]; kernel_rfl⟩, ?_⟩
  simp -implicitDefEqProofs (disch := omega) only [List.any_cons, List.any_nil, Nat.reduceEqDiff, List.map_cons, List.map_nil, Option.map_some, Option.map_none, List.nil_append, ↓reduceIte, vcu, ↓vcd]
  refine r_local (cs := #[.int .i64 1, .int .i64 1]) ze24 (by decide) (by simp -implicitDefEqProofs (disch := omega) only [List.any_cons, List.any_nil, Nat.reduceEqDiff, List.map_cons, List.map_nil, Option.map_some, Option.map_none, List.nil_append, ↓reduceIte, vcu, ↓vcd]) (by rw [co24]; rfl) rfl rfl (Nat.zero_lt_succ _) fun c6 τ2 n6 s2 e6 => ?_
  replace e6 : τ2 c6 = some ⟨[.int .i64 ((lp L 0).1 : Int), .int .i64 ((lp L 0).2 : Int)], false⟩ := e6
  have d46 : c4 ≠ c6 := ne_of' n6 e4
  replace e4 := s2 _ _ e4
  have s12 := s1.trans s2
  have n6' := free_sub s1 n6
  simp -implicitDefEqProofs (disch := omega) only [List.any_cons, List.any_nil, Nat.reduceEqDiff, List.map_cons, List.map_nil, Option.map_some, Option.map_none, List.nil_append, ↓reduceIte, vcu, ↓vcd]
  refine vc_loop_c mixed (by kernel_rfl) [0, 1, 4, 6] (fun m a σ' => ∃ n : Nat, m + n = t ∧ a 7 = .int .i64 ((n + 1 : Nat) : Int) ∧ Sub σ σ' ∧ σ' c4 = some ⟨[.int .i64 0, .int .i64 0], false⟩ ∧ σ' c6 = some ⟨[.int .i64 ((lp L n).1 : Int), .int .i64 ((lp L n).2 : Int)], false⟩) t ⟨0, by simp, rfl, s12, e4, e6⟩ ?_
  clear e4 e6 s12 s1 s2
  rintro m a σ' hc ⟨n, hn, h7, hs, e4, e6⟩
  simp -implicitDefEqProofs (disch := omega) only [List.any_cons, List.any_nil, Nat.reduceEqDiff, List.map_cons, List.map_nil, Option.map_some, Option.map_none, List.nil_append, ↓reduceIte, vcu, ↓vcd] at hc
  obtain ⟨h0, h1, h4, h6, -⟩ := hc
  have l0 : ld σ' c6 (0 + 0) = some (.int .i64 ((lp L n).1 : Int)) := ld_of e6 rfl
  have l1 : ld σ' c6 (0 + 1) = some (.int .i64 ((lp L n).2 : Int)) := ld_of e6 rfl
  have l2 : lds σ' c6 0 2 = some [.int .i64 ((lp L n).1 : Int), .int .i64 ((lp L n).2 : Int)] := lds_two (ld_of e6 rfl) (ld_of e6 rfl)
  have hP := part (L := L) (t := n) (by omega) (by omega)
  by_cases hlt : n < t
  · have hst := step7 (L := L) (n := n) (by omega) (by omega) hP.ok.1 hP.ok.2.2
    have hgo : lp L (n + 1) = low (L * (lp L n).1) ((n + 1) * (lp L n).2 + L * (lp L n).1) := rfl
    have hpos : 0 < (n + 1) * (lp L n).2 := Nat.mul_pos (by omega) (by have := hP.ok.2.1; omega)
    have q1 : (L : Int) * ((lp L n).1 : Int) = ((L * (lp L n).1 : Nat) : Int) := by simp
    have q2 : ((n + 1 : Nat) : Int) * ((lp L n).2 : Int) = (((n + 1) * (lp L n).2 : Nat) : Int) := by rw [Int.natCast_mul]
    have hok := hP.ok
    generalize hx : (lp L n).1 = x at *
    generalize hy : (lp L n).2 = y at *
    have q3 : ((L * x : Nat) : Int) = ((L * x : Nat) : Int) := rfl
    generalize hA : L * x = A at *
    generalize hB : (n + 1) * y = B at *
    have q4 : (B : Int) + (A : Int) = ((B + A : Nat) : Int) := by omega
    simp -implicitDefEqProofs (disch := omega) only [List.any_cons, List.any_nil, Nat.reduceEqDiff, List.map_cons, List.map_nil, Option.map_some, Option.map_none, List.nil_append, ↓reduceIte, vcu, ↓vcd, h0, h1, h4, h6, h7, l0, l1, q1, q2, q4]
    refine (implLow_calls σ' A (B + A) (by omega) (by omega) (by omega)).mono ?_
    rintro r _ ⟨rfl, rfl⟩
    rename_i σ'
    rw [← hgo]
    simp -implicitDefEqProofs (disch := omega) only [List.any_cons, List.any_nil, Nat.reduceEqDiff, List.map_cons, List.map_nil, Option.map_some, Option.map_none, List.nil_append, ↓reduceIte, vcu, ↓vcd, opK_some]
    refine r_sets (g := c6) (i := 0) (C := [.int .i64 (x : Int), .int .i64 (y : Int)]) (by simp -implicitDefEqProofs (disch := omega) only [List.any_cons, List.any_nil, Nat.reduceEqDiff, List.map_cons, List.map_nil, Option.map_some, Option.map_none, List.nil_append, ↓reduceIte, vcu, ↓vcd, h6]) (by simp -implicitDefEqProofs (disch := omega) only [List.any_cons, List.any_nil, Nat.reduceEqDiff, List.map_cons, List.map_nil, Option.map_some, Option.map_none, List.nil_append, ↓reduceIte, vcu, ↓vcd, co24]; rfl) (by simp -implicitDefEqProofs (disch := omega) only [List.any_cons, List.any_nil, Nat.reduceEqDiff, List.map_cons, List.map_nil, Option.map_some, Option.map_none, List.nil_append, ↓reduceIte, vcu, ↓vcd]; rfl) (by simp -implicitDefEqProofs (disch := omega) only [List.any_cons, List.any_nil, Nat.reduceEqDiff, List.map_cons, List.map_nil, Option.map_some, Option.map_none, List.nil_append, ↓reduceIte, vcu, ↓vcd]; exact Nat.zero_lt_succ _) e6 (by simp -implicitDefEqProofs (disch := omega) only [List.any_cons, List.any_nil, Nat.reduceEqDiff, List.map_cons, List.map_nil, Option.map_some, Option.map_none, List.nil_append, ↓reduceIte, vcu, ↓vcd]; exact Nat.le_refl _) fun τ3 k3 e3 => ?_
    replace e3 : τ3 c6 = some ⟨[.int .i64 ((lp L (n + 1)).1 : Int), .int .i64 ((lp L (n + 1)).2 : Int)], false⟩ := e3
    simp -implicitDefEqProofs (disch := omega) only [List.any_cons, List.any_nil, Nat.reduceEqDiff, List.map_cons, List.map_nil, Option.map_some, Option.map_none, List.nil_append, ↓reduceIte, vcu, ↓vcd, h7]
    refine ⟨by simp [h0, h1, h4, h6], m - 1, by omega, n + 1, by omega, by simp, k3.sub hs n6', k3.at e4 d46, e3⟩
  · have e : n = t := by omega
    subst e
    simp -implicitDefEqProofs (disch := omega) only [List.any_cons, List.any_nil, Nat.reduceEqDiff, List.map_cons, List.map_nil, Option.map_some, Option.map_none, List.nil_append, ↓reduceIte, vcu, ↓vcd, h0, h1, h4, h6, h7, l2, co24]
    refine r_sets (g := c4) (i := 0) (C := [.int .i64 0, .int .i64 0]) (by simp -implicitDefEqProofs (disch := omega) only [List.any_cons, List.any_nil, Nat.reduceEqDiff, List.map_cons, List.map_nil, Option.map_some, Option.map_none, List.nil_append, ↓reduceIte, vcu, ↓vcd, h4]) (by simp -implicitDefEqProofs (disch := omega) only [List.any_cons, List.any_nil, Nat.reduceEqDiff, List.map_cons, List.map_nil, Option.map_some, Option.map_none, List.nil_append, ↓reduceIte, vcu, ↓vcd, co24]; rfl) (by simp -implicitDefEqProofs (disch := omega) only [List.any_cons, List.any_nil, Nat.reduceEqDiff, List.map_cons, List.map_nil, Option.map_some, Option.map_none, List.nil_append, ↓reduceIte, vcu, ↓vcd]; rfl) (by simp -implicitDefEqProofs (disch := omega) only [List.any_cons, List.any_nil, Nat.reduceEqDiff, List.map_cons, List.map_nil, Option.map_some, Option.map_none, List.nil_append, ↓reduceIte, vcu, ↓vcd]; exact Nat.zero_lt_succ _) e4 (by simp -implicitDefEqProofs (disch := omega) only [List.any_cons, List.any_nil, Nat.reduceEqDiff, List.map_cons, List.map_nil, Option.map_some, Option.map_none, List.nil_append, ↓reduceIte, vcu, ↓vcd]; exact Nat.le_refl _) fun τ3 k3 e3 => ?_
    replace e3 : τ3 c4 = some ⟨[.int .i64 ((lp L n).1 : Int), .int .i64 ((lp L n).2 : Int)], false⟩ := e3
    have l3 : lds τ3 c4 0 2 = some [.int .i64 ((lp L n).1 : Int), .int .i64 ((lp L n).2 : Int)] := lds_two (ld_of e3 rfl) (ld_of e3 rfl)
    simp -implicitDefEqProofs (disch := omega) only [List.any_cons, List.any_nil, Nat.reduceEqDiff, List.map_cons, List.map_nil, Option.map_some, Option.map_none, List.nil_append, ↓reduceIte, vcu, ↓vcd]
    refine fin_ct7 Try.results25 σ (k3.sub hs n4) (v := .agg #[.int .i64 ((lp L n).1 : Int), .int .i64 ((lp L n).2 : Int)]) (by simp -implicitDefEqProofs (disch := omega) only [List.any_cons, List.any_nil, Nat.reduceEqDiff, List.map_cons, List.map_nil, Option.map_some, Option.map_none, List.nil_append, ↓reduceIte, vcu, ↓vcd, h4, l3, co24]) ⟨?_, rfl⟩
    simp -implicitDefEqProofs (disch := omega) only [List.any_cons, List.any_nil, Nat.reduceEqDiff, List.map_cons, List.map_nil, Option.map_some, Option.map_none, List.nil_append, ↓reduceIte, vcu, ↓vcd]
theorem implTL_calls (σ : AHeap) (L t : Int) : ACall Try.prog w0 33 [.int .i64 L, .int .i64 t] σ fun r σ' => r = .tuple #[.agg #[.int .i64 (tkN L t), .int .i64 (tkD L t)], .bool (decide (OK7 L t))] ∧ σ' = σ := by
  unfold tkN tkD
  refine acall_goc mixed Try.func33 rfl goodc33 fun pr => ?_
  simp -implicitDefEqProofs (disch := omega) only [List.any_cons, List.any_nil, Nat.reduceEqDiff, List.map_cons, List.map_nil, Option.map_some, Option.map_none, List.nil_append, ↓reduceIte, vcu, ↓vcd]
  refine r_new ze24 fun c4 τ1 n4 s1 e4 => ?_
  replace e4 : τ1 c4 = some ⟨[.int .i64 0, .int .i64 0], false⟩ := e4
  simp -implicitDefEqProofs (disch := omega) only [List.any_cons, List.any_nil, Nat.reduceEqDiff, List.map_cons, List.map_nil, Option.map_some, Option.map_none, List.nil_append, ↓reduceIte, vcu, ↓vcd]
  refine (implLP_calls τ1 L t).mono ?_
  rintro r _ ⟨rfl, rfl⟩
  rename_i τ1
  simp -implicitDefEqProofs (disch := omega) only [List.any_cons, List.any_nil, Nat.reduceEqDiff, List.map_cons, List.map_nil, Option.map_some, Option.map_none, List.nil_append, ↓reduceIte, vcu, ↓vcd, opK_some, List.getElem?_toArray, List.getElem?_cons_zero, List.getElem?_cons_succ]
  refine r_local (cs := #[.int .i64 (lpN L t), .int .i64 (lpD L t)]) ze24 (by decide) (by simp -implicitDefEqProofs (disch := omega) only [List.any_cons, List.any_nil, Nat.reduceEqDiff, List.map_cons, List.map_nil, Option.map_some, Option.map_none, List.nil_append, ↓reduceIte, vcu, ↓vcd]) (by rw [co24]; rfl) rfl rfl (Nat.zero_lt_succ _) fun c6 τ2 n6 s2 e6 => ?_
  replace e6 : τ2 c6 = some ⟨[.int .i64 (lpN L t), .int .i64 (lpD L t)], false⟩ := e6
  have d46 : c4 ≠ c6 := ne_of' n6 e4
  replace e4 := s2 _ _ e4
  have s12 := s1.trans s2
  have l0 : ld τ2 c6 (0 + 0) = some (.int .i64 (lpN L t)) := ld_of e6 rfl
  have l1 : ld τ2 c6 (0 + 1) = some (.int .i64 (lpD L t)) := ld_of e6 rfl
  by_cases h : OK7 L t
  case neg =>
    rw [decide_eq_false h, if_neg h, if_neg h]
    simp -implicitDefEqProofs (disch := omega) only [List.any_cons, List.any_nil, Nat.reduceEqDiff, List.map_cons, List.map_nil, Option.map_some, Option.map_none, List.nil_append, ↓reduceIte, vcu, ↓vcd, Bool.not_false]
    rw [r_build]
    refine ⟨(_, #[.int .i64 0, .int .i64 0]), ⟨ze24, by simp -implicitDefEqProofs (disch := omega) only [List.any_cons, List.any_nil, Nat.reduceEqDiff, List.map_cons, List.map_nil, Option.map_some, Option.map_none, List.nil_append, ↓reduceIte, vcu, ↓vcd]; kernel_rfl⟩, ?_⟩
    simp -implicitDefEqProofs (disch := omega) only [List.any_cons, List.any_nil, Nat.reduceEqDiff, List.map_cons, List.map_nil, Option.map_some, Option.map_none, List.nil_append, ↓reduceIte, vcu, ↓vcd]
    refine r_sets (g := c4) (i := 0) (C := [.int .i64 0, .int .i64 0]) (by simp -implicitDefEqProofs (disch := omega) only [List.any_cons, List.any_nil, Nat.reduceEqDiff, List.map_cons, List.map_nil, Option.map_some, Option.map_none, List.nil_append, ↓reduceIte, vcu, ↓vcd]) (by simp -implicitDefEqProofs (disch := omega) only [List.any_cons, List.any_nil, Nat.reduceEqDiff, List.map_cons, List.map_nil, Option.map_some, Option.map_none, List.nil_append, ↓reduceIte, vcu, ↓vcd, co24]; rfl) (by simp -implicitDefEqProofs (disch := omega) only [List.any_cons, List.any_nil, Nat.reduceEqDiff, List.map_cons, List.map_nil, Option.map_some, Option.map_none, List.nil_append, ↓reduceIte, vcu, ↓vcd]; rfl) (by simp -implicitDefEqProofs (disch := omega) only [List.any_cons, List.any_nil, Nat.reduceEqDiff, List.map_cons, List.map_nil, Option.map_some, Option.map_none, List.nil_append, ↓reduceIte, vcu, ↓vcd]; exact Nat.zero_lt_succ _) e4 (by simp -implicitDefEqProofs (disch := omega) only [List.any_cons, List.any_nil, Nat.reduceEqDiff, List.map_cons, List.map_nil, Option.map_some, Option.map_none, List.nil_append, ↓reduceIte, vcu, ↓vcd]; exact Nat.le_refl _) fun τ3 k3 e3 => ?_
    replace e3 : τ3 c4 = some ⟨[.int .i64 0, .int .i64 0], false⟩ := e3
    have l3 : lds τ3 c4 0 2 = some [.int .i64 0, .int .i64 0] := lds_two (ld_of e3 rfl) (ld_of e3 rfl)
    simp -implicitDefEqProofs (disch := omega) only [List.any_cons, List.any_nil, Nat.reduceEqDiff, List.map_cons, List.map_nil, Option.map_some, Option.map_none, List.nil_append, ↓reduceIte, vcu, ↓vcd]
    refine fin_ct7 Try.results33 σ (k3.sub s12 n4) (v := .agg #[.int .i64 0, .int .i64 0]) (by simp -implicitDefEqProofs (disch := omega) only [List.any_cons, List.any_nil, Nat.reduceEqDiff, List.map_cons, List.map_nil, Option.map_some, Option.map_none, List.nil_append, ↓reduceIte, vcu, ↓vcd, l3, co24]) ⟨?_, rfl⟩
    simp -implicitDefEqProofs (disch := omega) only [List.any_cons, List.any_nil, Nat.reduceEqDiff, List.map_cons, List.map_nil, Option.map_some, Option.map_none, List.nil_append, ↓reduceIte, vcu, ↓vcd]
  have eN : lpN L t = ((lp L.toNat t.toNat).1 : Int) := if_pos h
  have eD : lpD L t = ((lp L.toNat t.toNat).2 : Int) := if_pos h
  rw [decide_eq_true h, if_pos h, if_pos h]
  rw [eN] at l0
  rw [eD] at l1
  clear eN eD e6
  obtain ⟨⟨a1, a2⟩, a3, a4⟩ := h
  obtain ⟨L, rfl⟩ : ∃ n : Nat, L = n := ⟨L.toNat, by omega⟩
  obtain ⟨t, rfl⟩ : ∃ n : Nat, t = n := ⟨t.toNat, by omega⟩
  simp only [Int.toNat_natCast] at l0 l1 ⊢
  have hP := part (L := L) (t := t) (by omega) (by omega)
  have hone := hP.one
  have hok := hP.ok
  have htk : taken L t = low (L * ((lp L t).2 - (lp L t).1)) (lp L t).2 := rfl
  clear hP
  generalize (lp L t).1 = x at *
  generalize (lp L t).2 = y at *
  have q1 : (y : Int) - (x : Int) = ((y - x : Nat) : Int) := by omega
  have hb := Nat.mul_le_mul (show L ≤ 6 by omega) (show y - x ≤ 1000000000 by omega)
  have q2 : (L : Int) * ((y - x : Nat) : Int) = ((L * (y - x) : Nat) : Int) := by rw [Int.natCast_mul]
  generalize L * (y - x) = A at *
  simp -implicitDefEqProofs (disch := omega) only [List.any_cons, List.any_nil, Nat.reduceEqDiff, List.map_cons, List.map_nil, Option.map_some, Option.map_none, List.nil_append, ↓reduceIte, vcu, ↓vcd, Bool.not_true, l0, l1, q1, q2]
  refine (implLow_calls τ2 A y (by omega) (by omega) (by omega)).mono ?_
  rintro r _ ⟨rfl, rfl⟩
  rename_i τ2
  rw [← htk]
  simp -implicitDefEqProofs (disch := omega) only [List.any_cons, List.any_nil, Nat.reduceEqDiff, List.map_cons, List.map_nil, Option.map_some, Option.map_none, List.nil_append, ↓reduceIte, vcu, ↓vcd, opK_some]
  refine r_sets (g := c4) (i := 0) (C := [.int .i64 0, .int .i64 0]) (by simp -implicitDefEqProofs (disch := omega) only [List.any_cons, List.any_nil, Nat.reduceEqDiff, List.map_cons, List.map_nil, Option.map_some, Option.map_none, List.nil_append, ↓reduceIte, vcu, ↓vcd]) (by simp -implicitDefEqProofs (disch := omega) only [List.any_cons, List.any_nil, Nat.reduceEqDiff, List.map_cons, List.map_nil, Option.map_some, Option.map_none, List.nil_append, ↓reduceIte, vcu, ↓vcd, co24]; rfl) (by simp -implicitDefEqProofs (disch := omega) only [List.any_cons, List.any_nil, Nat.reduceEqDiff, List.map_cons, List.map_nil, Option.map_some, Option.map_none, List.nil_append, ↓reduceIte, vcu, ↓vcd]; rfl) (by simp -implicitDefEqProofs (disch := omega) only [List.any_cons, List.any_nil, Nat.reduceEqDiff, List.map_cons, List.map_nil, Option.map_some, Option.map_none, List.nil_append, ↓reduceIte, vcu, ↓vcd]; exact Nat.zero_lt_succ _) e4 (by simp -implicitDefEqProofs (disch := omega) only [List.any_cons, List.any_nil, Nat.reduceEqDiff, List.map_cons, List.map_nil, Option.map_some, Option.map_none, List.nil_append, ↓reduceIte, vcu, ↓vcd]; exact Nat.le_refl _) fun τ3 k3 e3 => ?_
  replace e3 : τ3 c4 = some ⟨[.int .i64 ((taken L t).1 : Int), .int .i64 ((taken L t).2 : Int)], false⟩ := e3
  have l3 : lds τ3 c4 0 2 = some [.int .i64 ((taken L t).1 : Int), .int .i64 ((taken L t).2 : Int)] := lds_two (ld_of e3 rfl) (ld_of e3 rfl)
  simp -implicitDefEqProofs (disch := omega) only [List.any_cons, List.any_nil, Nat.reduceEqDiff, List.map_cons, List.map_nil, Option.map_some, Option.map_none, List.nil_append, ↓reduceIte, vcu, ↓vcd]
  refine fin_ct7 Try.results33 σ (k3.sub s12 n4) (v := .agg #[.int .i64 ((taken L t).1 : Int), .int .i64 ((taken L t).2 : Int)]) (by simp -implicitDefEqProofs (disch := omega) only [List.any_cons, List.any_nil, Nat.reduceEqDiff, List.map_cons, List.map_nil, Option.map_some, Option.map_none, List.nil_append, ↓reduceIte, vcu, ↓vcd, l3, co24]) ⟨?_, rfl⟩
  simp -implicitDefEqProofs (disch := omega) only [List.any_cons, List.any_nil, Nat.reduceEqDiff, List.map_cons, List.map_nil, Option.map_some, Option.map_none, List.nil_append, ↓reduceIte, vcu, ↓vcd]
theorem busyN_set (L t n m : Nat) (h : n < m) : (busyN L t n ++ List.replicate (m - n) 0).set n (term L t n : Int) = busyN L t (n + 1) ++ List.replicate (m - (n + 1)) 0 := by
  obtain ⟨k, hk⟩ : ∃ k, m - n = k + 1 := ⟨m - n - 1, by omega⟩
  rw [hk, show m - (n + 1) = k by omega, busyN_succ, List.set_append_right _ _ (by simp [busyN_length]), busyN_length, Nat.sub_self]
  simp [List.replicate_succ]
theorem fact_mul {n : Nat} : ∀ t, n ≤ t → fromTo 0 n * fromTo n t = fromTo 0 t
  | 0, h => by rw [show n = 0 by omega]; rfl
  | t + 1, h => by
    by_cases e : n = t + 1
    · subst e; rw [fromTo_self, Nat.mul_one]
    · rw [fromTo_succ (show n ≤ t by omega), ← Nat.mul_assoc, fact_mul t (by omega), fromTo_succ (Nat.zero_le t)]
theorem fact_pos : ∀ n, 0 < fromTo 0 n
  | 0 => by decide
  | n + 1 => by rw [fromTo_succ (Nat.zero_le n)]; exact Nat.mul_pos (fact_pos n) (by omega)
theorem term_div (L t n : Nat) (h : n ≤ t) : pw L n * fromTo 0 t / fromTo 0 n = term L t n := by
  rw [← fact_mul t h, ← Nat.mul_assoc, Nat.mul_right_comm, Nat.mul_div_cancel _ (fact_pos n)]; rfl

theorem implBP_calls (σ : AHeap) (L t : Int) : ACall Try.prog w0 30 [.int .i64 L, .int .i64 t] σ fun r σ' => Sub σ σ' ∧ OwnI σ σ' r (busyV L t) := by
  unfold busyV
  refine acall_go mixed Try.func30 rfl good30 fun pr => ?_
  simp -implicitDefEqProofs (disch := omega) only [List.any_cons, List.any_nil, Nat.reduceEqDiff, List.map_cons, List.map_nil, Option.map_some, Option.map_none, List.nil_append, ↓reduceIte, vcu, ↓vcd]
  refine (implShares_calls σ L t).mono ?_
  rintro r _ ⟨rfl, rfl⟩
  rename_i σ
  by_cases h : OK7 L t
  case neg =>
    rw [decide_eq_false h, if_neg h]
    simp -implicitDefEqProofs (disch := omega) only [List.any_cons, List.any_nil, Nat.reduceEqDiff, List.map_cons, List.map_nil, Option.map_some, Option.map_none, List.nil_append, ↓reduceIte, vcu, ↓vcd, opK_some, Bool.not_false]
    refine fin_one Try.results30 ⟨Sub.refl _, .inl ⟨?_, rfl⟩⟩
    simp -implicitDefEqProofs (disch := omega) only [List.any_cons, List.any_nil, Nat.reduceEqDiff, List.map_cons, List.map_nil, Option.map_some, Option.map_none, List.nil_append, ↓reduceIte, vcu, ↓vcd]
  rw [decide_eq_true h, if_pos h]
  obtain ⟨⟨a1, a2⟩, a3, a4⟩ := h
  obtain ⟨L, rfl⟩ : ∃ n : Nat, L = n := ⟨L.toNat, by omega⟩
  obtain ⟨t, rfl⟩ : ∃ n : Nat, t = n := ⟨t.toNat, by omega⟩
  simp only [Int.toNat_natCast]
  have hL : L ≤ 6 := by omega
  have ht : t ≤ 8 := by omega
  have q0 : (t : Int) + 1 = ((t + 1 : Nat) : Int) := by omega
  simp -implicitDefEqProofs (disch := omega) only [List.any_cons, List.any_nil, Nat.reduceEqDiff, List.map_cons, List.map_nil, Option.map_some, Option.map_none, List.nil_append, ↓reduceIte, vcu, ↓vcd, opK_some, Bool.not_true, q0]
  refine r_makeI (kx := .i64) (ky := .i64) (l := t + 1) (c := t + 1) el36 (by omega) (by simp -implicitDefEqProofs (disch := omega) only [List.any_cons, List.any_nil, Nat.reduceEqDiff, List.map_cons, List.map_nil, Option.map_some, Option.map_none, List.nil_append, ↓reduceIte, vcu, ↓vcd]) (by simp -implicitDefEqProofs (disch := omega) only [List.any_cons, List.any_nil, Nat.reduceEqDiff, List.map_cons, List.map_nil, Option.map_some, Option.map_none, List.nil_append, ↓reduceIte, vcu, ↓vcd]) (by omega) fun g τ1 ng s1 v1 => ?_
  simp -implicitDefEqProofs (disch := omega) only [List.any_cons, List.any_nil, Nat.reduceEqDiff, List.map_cons, List.map_nil, Option.map_some, Option.map_none, List.nil_append, ↓reduceIte, vcu, ↓vcd]
  refine vc_loop_c mixed (by kernel_rfl) [0, 1, 5, 16] (fun m a σ' => ∃ n : Nat, m + n = t + 1 ∧ a 17 = .int .i64 n ∧ a 6 = .int .i64 (pw L n : Nat) ∧ Sub σ σ' ∧ σ' g = some ⟨ints .i64 (busyN L t n ++ List.replicate (t + 1 - n) 0), false⟩) (t + 1) ⟨0, by simp, rfl, rfl, s1, v1⟩ ?_
  rintro m a σ' hc ⟨n, hn, h17, h6, hs, vg⟩
  simp -implicitDefEqProofs (disch := omega) only [List.any_cons, List.any_nil, Nat.reduceEqDiff, List.map_cons, List.map_nil, Option.map_some, Option.map_none, List.nil_append, ↓reduceIte, vcu, ↓vcd] at hc
  obtain ⟨h0, h1, h5, h16, -⟩ := hc
  by_cases hlt : n ≤ t
  · have hb : pw L (n + 1) ≤ 10077696 := Nat.le_trans (Nat.pow_le_pow_left hL (n + 1)) (Nat.pow_le_pow_right (n := 6) (by omega) (show n + 1 ≤ 9 by omega))
    have hb0 : pw L n ≤ 1679616 := pow6 hL (by omega)
    have hf := Nat.mul_le_mul hb0 (fromTo_zero_le t ht)
    have hp := fact_pos n
    have hft := fromTo_zero_le t ht
    have hfn := fromTo_zero_le n (by omega)
    have htd := term_div L t n hlt
    have q1 : ((pw L n : Nat) : Int) * ((fromTo 0 t : Nat) : Int) = ((pw L n * fromTo 0 t : Nat) : Int) := by rw [Int.natCast_mul]
    have q2 : ((pw L n * fromTo 0 t : Nat) : Int) / ((fromTo 0 n : Nat) : Int) = ((term L t n : Nat) : Int) := by rw [← htd, Int.natCast_ediv]
    have q3 : ((pw L n : Nat) : Int) * (L : Int) = ((pw L (n + 1) : Nat) : Int) := by rw [pw_succ, Int.natCast_mul]
    have hset := busyN_set L t n (t + 1) (by omega)
    simp -implicitDefEqProofs (disch := omega) only [List.any_cons, List.any_nil, Nat.reduceEqDiff, List.map_cons, List.map_nil, Option.map_some, Option.map_none, List.nil_append, ↓reduceIte, vcu, ↓vcd, h0, h1, h5, h16, h17, h6]
    refine (implFact_calls σ' t ht).mono ?_
    rintro r _ ⟨rfl, rfl⟩
    rename_i σ'
    simp -implicitDefEqProofs (disch := omega) only [List.any_cons, List.any_nil, Nat.reduceEqDiff, List.map_cons, List.map_nil, Option.map_some, Option.map_none, List.nil_append, ↓reduceIte, vcu, ↓vcd, opK_some, h0, h1, h5, h16, h17, h6, q1]
    refine (implFact_calls σ' n (by omega)).mono ?_
    rintro r _ ⟨rfl, rfl⟩
    rename_i σ'
    generalize fromTo 0 t = ft at *
    generalize fromTo 0 n = fn at *
    generalize pw L n = pwn at *
    generalize pwn * ft = pf at *
    simp -implicitDefEqProofs (disch := omega) only [List.any_cons, List.any_nil, Nat.reduceEqDiff, List.map_cons, List.map_nil, Option.map_some, Option.map_none, List.nil_append, ↓reduceIte, vcu, ↓vcd, opK_some, h0, h1, h5, h16, h17, h6, q2]
    refine r_setI (g := g) (i := 0 + n) (v := (term L t n : Nat)) (by simp -implicitDefEqProofs (disch := omega) only [List.any_cons, List.any_nil, Nat.reduceEqDiff, List.map_cons, List.map_nil, Option.map_some, Option.map_none, List.nil_append, ↓reduceIte, vcu, ↓vcd]) (by simp -implicitDefEqProofs (disch := omega) only [List.any_cons, List.any_nil, Nat.reduceEqDiff, List.map_cons, List.map_nil, Option.map_some, Option.map_none, List.nil_append, ↓reduceIte, vcu, ↓vcd]) co3 vg (by simp [busyN_length]; omega) fun τ2 k2 v2 => ?_
    rw [Nat.zero_add, hset] at v2
    simp -implicitDefEqProofs (disch := omega) only [List.any_cons, List.any_nil, Nat.reduceEqDiff, List.map_cons, List.map_nil, Option.map_some, Option.map_none, List.nil_append, ↓reduceIte, vcu, ↓vcd, h0, h1, h5, h16, h17, h6, q3]
    exact ⟨by simp [h0, h1, h5, h16], m - 1, by omega, n + 1, by omega, by simp, rfl, k2.sub hs ng, v2⟩
  · have e : n = t + 1 := by omega
    subst e
    rw [Nat.sub_self, List.replicate_zero, List.append_nil] at vg
    simp -implicitDefEqProofs (disch := omega) only [List.any_cons, List.any_nil, Nat.reduceEqDiff, List.map_cons, List.map_nil, Option.map_some, Option.map_none, List.nil_append, ↓reduceIte, vcu, ↓vcd, h0, h1, h5, h16, h17, h6]
    refine fin_one Try.results30 ⟨hs, .inr ⟨g, ?_, vg, ng⟩⟩
    simp -implicitDefEqProofs (disch := omega) only [List.any_cons, List.any_nil, Nat.reduceEqDiff, List.map_cons, List.map_nil, Option.map_some, Option.map_none, List.nil_append, ↓reduceIte, vcu, ↓vcd, h5]
    rw [busyN_length]

def sumTo (L t n : Nat) : Nat := sumN (term L t) n
theorem implLS_calls (σ : AHeap) (L t : Int) : ACall Try.prog w0 27 [.int .i64 L, .int .i64 t] σ fun r σ' => r = .tuple #[.agg #[.int .i64 (lsN L t), .int .i64 (lsD L t)], .bool (decide (OK7 L t))] ∧ σ' = σ := by
  unfold lsN lsD
  refine acall_goc mixed Try.func27 rfl goodc27 fun pr => ?_
  simp -implicitDefEqProofs (disch := omega) only [List.any_cons, List.any_nil, Nat.reduceEqDiff, List.map_cons, List.map_nil, Option.map_some, Option.map_none, List.nil_append, ↓reduceIte, vcu, ↓vcd]
  refine r_new ze24 fun c4 τ1 n4 s1 e4 => ?_
  replace e4 : τ1 c4 = some ⟨[.int .i64 0, .int .i64 0], false⟩ := e4
  simp -implicitDefEqProofs (disch := omega) only [List.any_cons, List.any_nil, Nat.reduceEqDiff, List.map_cons, List.map_nil, Option.map_some, Option.map_none, List.nil_append, ↓reduceIte, vcu, ↓vcd]
  refine (implShares_calls τ1 L t).mono ?_
  rintro r _ ⟨rfl, rfl⟩
  rename_i τ1
  by_cases h : OK7 L t
  case neg =>
    rw [decide_eq_false h, if_neg h, if_neg h]
    simp -implicitDefEqProofs (disch := omega) only [List.any_cons, List.any_nil, Nat.reduceEqDiff, List.map_cons, List.map_nil, Option.map_some, Option.map_none, List.nil_append, ↓reduceIte, vcu, ↓vcd, opK_some, Bool.not_false]
    rw [r_build]
    refine ⟨(_, #[.int .i64 0, .int .i64 0]), ⟨ze24, by simp -implicitDefEqProofs (disch := omega) only [List.any_cons, List.any_nil, Nat.reduceEqDiff, List.map_cons, List.map_nil, Option.map_some, Option.map_none, List.nil_append, ↓reduceIte, vcu, ↓vcd]; kernel_rfl⟩, ?_⟩
    simp -implicitDefEqProofs (disch := omega) only [List.any_cons, List.any_nil, Nat.reduceEqDiff, List.map_cons, List.map_nil, Option.map_some, Option.map_none, List.nil_append, ↓reduceIte, vcu, ↓vcd]
    refine r_sets (g := c4) (i := 0) (C := [.int .i64 0, .int .i64 0]) (by simp -implicitDefEqProofs (disch := omega) only [List.any_cons, List.any_nil, Nat.reduceEqDiff, List.map_cons, List.map_nil, Option.map_some, Option.map_none, List.nil_append, ↓reduceIte, vcu, ↓vcd]) (by simp -implicitDefEqProofs (disch := omega) only [List.any_cons, List.any_nil, Nat.reduceEqDiff, List.map_cons, List.map_nil, Option.map_some, Option.map_none, List.nil_append, ↓reduceIte, vcu, ↓vcd, co24]; rfl) (by simp -implicitDefEqProofs (disch := omega) only [List.any_cons, List.any_nil, Nat.reduceEqDiff, List.map_cons, List.map_nil, Option.map_some, Option.map_none, List.nil_append, ↓reduceIte, vcu, ↓vcd]; rfl) (by simp -implicitDefEqProofs (disch := omega) only [List.any_cons, List.any_nil, Nat.reduceEqDiff, List.map_cons, List.map_nil, Option.map_some, Option.map_none, List.nil_append, ↓reduceIte, vcu, ↓vcd]; exact Nat.zero_lt_succ _) e4 (by simp -implicitDefEqProofs (disch := omega) only [List.any_cons, List.any_nil, Nat.reduceEqDiff, List.map_cons, List.map_nil, Option.map_some, Option.map_none, List.nil_append, ↓reduceIte, vcu, ↓vcd]; exact Nat.le_refl _) fun τ2 k2 e2 => ?_
    replace e2 : τ2 c4 = some ⟨[.int .i64 0, .int .i64 0], false⟩ := e2
    have l2 : lds τ2 c4 0 2 = some [.int .i64 0, .int .i64 0] := lds_two (ld_of e2 rfl) (ld_of e2 rfl)
    simp -implicitDefEqProofs (disch := omega) only [List.any_cons, List.any_nil, Nat.reduceEqDiff, List.map_cons, List.map_nil, Option.map_some, Option.map_none, List.nil_append, ↓reduceIte, vcu, ↓vcd]
    refine fin_ct7 Try.results27 σ (k2.sub s1 n4) (v := .agg #[.int .i64 0, .int .i64 0]) (by simp -implicitDefEqProofs (disch := omega) only [List.any_cons, List.any_nil, Nat.reduceEqDiff, List.map_cons, List.map_nil, Option.map_some, Option.map_none, List.nil_append, ↓reduceIte, vcu, ↓vcd, l2, co24]) ⟨?_, rfl⟩
    simp -implicitDefEqProofs (disch := omega) only [List.any_cons, List.any_nil, Nat.reduceEqDiff, List.map_cons, List.map_nil, Option.map_some, Option.map_none, List.nil_append, ↓reduceIte, vcu, ↓vcd]
  rw [decide_eq_true h, if_pos h, if_pos h]
  simp -implicitDefEqProofs (disch := omega) only [List.any_cons, List.any_nil, Nat.reduceEqDiff, List.map_cons, List.map_nil, Option.map_some, Option.map_none, List.nil_append, ↓reduceIte, vcu, ↓vcd, opK_some, Bool.not_true]
  refine (implBP_calls τ1 L t).mono ?_
  rintro v τ2 ⟨s2, hv⟩
  unfold busyV at hv
  rw [if_pos h] at hv
  obtain ⟨⟨a1, a2⟩, a3, a4⟩ := h
  obtain ⟨L, rfl⟩ : ∃ n : Nat, L = n := ⟨L.toNat, by omega⟩
  obtain ⟨t, rfl⟩ : ∃ n : Nat, t = n := ⟨t.toNat, by omega⟩
  simp only [Int.toNat_natCast] at hv ⊢
  have hL : L ≤ 6 := by omega
  have ht : t ≤ 8 := by omega
  have hP := part hL ht
  have hlen := busyN_length L t (t + 1)
  obtain ⟨g, rfl, vg, ng⟩ : ∃ g, v = .slice (some ⟨g, 0, none⟩) (t + 1) 1 ∧ τ2 g = some ⟨ints .i64 (busyN L t (t + 1)), false⟩ ∧ τ1 g = none := by
    rcases hv with ⟨-, e⟩ | ⟨g, e, a, b⟩
    · rw [e] at hlen; simp at hlen
    · exact ⟨g, by rw [e, hlen], a, b⟩
  have e4' := s2 _ _ e4
  have s12 := s1.trans s2
  have hall : ∀ n, n ≤ t + 1 → sumTo L t n ≤ 9 * 28179280429056 := fun n hn => Nat.le_trans (sumN_le (f := term L t) (B := 28179280429056) n fun i hi => part_le hL (by omega) ht) (Nat.mul_le_mul (by omega) (Nat.le_refl _))
  simp -implicitDefEqProofs (disch := omega) only [List.any_cons, List.any_nil, Nat.reduceEqDiff, List.map_cons, List.map_nil, Option.map_some, Option.map_none, List.nil_append, ↓reduceIte, vcu, ↓vcd, opK_some]
  refine vc_loop_c mixed (by kernel_rfl) [1, 4, 6, 18, 19] (fun m a σ' => ∃ n : Nat, m + n = t + 1 ∧ a 20 = .int .i64 n ∧ a 7 = .int .i64 (sumTo L t n : Nat) ∧ σ' = τ2) (t + 1) ⟨0, by simp, rfl, rfl, rfl⟩ ?_
  rintro m a σ' hc ⟨n, hn, h20, h7, rfl⟩
  simp -implicitDefEqProofs (disch := omega) only [List.any_cons, List.any_nil, Nat.reduceEqDiff, List.map_cons, List.map_nil, Option.map_some, Option.map_none, List.nil_append, ↓reduceIte, vcu, ↓vcd] at hc
  obtain ⟨h1, h4, h6, h18, h19, -⟩ := hc
  by_cases hlt : n ≤ t
  · have hx := own_at vg (i := n) (by omega)
    rw [busyN_getD (by omega : n < t + 1)] at hx
    have q : ((sumTo L t n : Nat) : Int) + ((term L t n : Nat) : Int) = ((sumTo L t (n + 1) : Nat) : Int) := by rw [sumTo, sumTo, sumN, Int.natCast_add]
    have hb := hall (n + 1) (by omega)
    simp -implicitDefEqProofs (disch := omega) only [List.any_cons, List.any_nil, Nat.reduceEqDiff, List.map_cons, List.map_nil, Option.map_some, Option.map_none, List.nil_append, ↓reduceIte, vcu, ↓vcd, h1, h4, h6, h18, h19, h20, h7, hx, q]
    exact ⟨by simp [h1, h4, h6, h18, h19], m - 1, by omega, n + 1, by omega, by simp, rfl, trivial⟩
  · have e : n = t + 1 := by omega
    subst e
    have hx := own_at vg (i := t) (by omega)
    rw [busyN_getD (by omega : t < t + 1)] at hx
    have hle : term L t t ≤ sumTo L t (t + 1) := by rw [sumTo, sumN]; omega
    have hpos : 0 < sumTo L t (t + 1) := sumN_pos (f := term L t) hP.first (t + 1) (by omega)
    have hs : sumTo L t (t + 1) ≤ 100000000 := hP.all
    have hls : lsum L t = low (term L t t) (sumTo L t (t + 1)) := rfl
    simp -implicitDefEqProofs (disch := omega) only [List.any_cons, List.any_nil, Nat.reduceEqDiff, List.map_cons, List.map_nil, Option.map_some, Option.map_none, List.nil_append, ↓reduceIte, vcu, ↓vcd, h1, h4, h6, h18, h19, h20, h7, hx]
    refine (implLow_calls σ' (term L t t) (sumTo L t (t + 1)) (by omega) (by omega) hpos).mono ?_
    rintro r _ ⟨rfl, rfl⟩
    rename_i σ'
    rw [← hls]
    simp -implicitDefEqProofs (disch := omega) only [List.any_cons, List.any_nil, Nat.reduceEqDiff, List.map_cons, List.map_nil, Option.map_some, Option.map_none, List.nil_append, ↓reduceIte, vcu, ↓vcd, opK_some]
    refine r_sets (g := c4) (i := 0) (C := [.int .i64 0, .int .i64 0]) (by simp -implicitDefEqProofs (disch := omega) only [List.any_cons, List.any_nil, Nat.reduceEqDiff, List.map_cons, List.map_nil, Option.map_some, Option.map_none, List.nil_append, ↓reduceIte, vcu, ↓vcd, h4]) (by simp -implicitDefEqProofs (disch := omega) only [List.any_cons, List.any_nil, Nat.reduceEqDiff, List.map_cons, List.map_nil, Option.map_some, Option.map_none, List.nil_append, ↓reduceIte, vcu, ↓vcd, co24]; rfl) (by simp -implicitDefEqProofs (disch := omega) only [List.any_cons, List.any_nil, Nat.reduceEqDiff, List.map_cons, List.map_nil, Option.map_some, Option.map_none, List.nil_append, ↓reduceIte, vcu, ↓vcd]; rfl) (by simp -implicitDefEqProofs (disch := omega) only [List.any_cons, List.any_nil, Nat.reduceEqDiff, List.map_cons, List.map_nil, Option.map_some, Option.map_none, List.nil_append, ↓reduceIte, vcu, ↓vcd]; exact Nat.zero_lt_succ _) e4' (by simp -implicitDefEqProofs (disch := omega) only [List.any_cons, List.any_nil, Nat.reduceEqDiff, List.map_cons, List.map_nil, Option.map_some, Option.map_none, List.nil_append, ↓reduceIte, vcu, ↓vcd]; exact Nat.le_refl _) fun τ3 k3 e3 => ?_
    replace e3 : τ3 c4 = some ⟨[.int .i64 ((lsum L t).1 : Int), .int .i64 ((lsum L t).2 : Int)], false⟩ := e3
    have l3 : lds τ3 c4 0 2 = some [.int .i64 ((lsum L t).1 : Int), .int .i64 ((lsum L t).2 : Int)] := lds_two (ld_of e3 rfl) (ld_of e3 rfl)
    simp -implicitDefEqProofs (disch := omega) only [List.any_cons, List.any_nil, Nat.reduceEqDiff, List.map_cons, List.map_nil, Option.map_some, Option.map_none, List.nil_append, ↓reduceIte, vcu, ↓vcd]
    refine fin_ct7 Try.results27 σ (k3.sub s12 n4) (v := .agg #[.int .i64 ((lsum L t).1 : Int), .int .i64 ((lsum L t).2 : Int)]) (by simp -implicitDefEqProofs (disch := omega) only [List.any_cons, List.any_nil, Nat.reduceEqDiff, List.map_cons, List.map_nil, Option.map_some, Option.map_none, List.nil_append, ↓reduceIte, vcu, ↓vcd, h4, l3, co24]) ⟨?_, rfl⟩
    simp -implicitDefEqProofs (disch := omega) only [List.any_cons, List.any_nil, Nat.reduceEqDiff, List.map_cons, List.map_nil, Option.map_some, Option.map_none, List.nil_append, ↓reduceIte, vcu, ↓vcd]

theorem implTF_calls (σ : AHeap) (L x y : Int) : ACall Try.prog w0 39 [.int .i64 L, .agg #[.int .i64 x, .int .i64 y]] σ fun r σ' => ∃ z : Int, r = .int .i64 z ∧ TfOk L x y z ∧ -1 ≤ z ∧ z ≤ 8 ∧ σ' = σ := by
  refine acall_go mixed Try.func39 rfl good39 fun pr => ?_
  simp -implicitDefEqProofs (disch := omega) only [List.any_cons, List.any_nil, Nat.reduceEqDiff, List.map_cons, List.map_nil, Option.map_some, Option.map_none, List.nil_append, ↓reduceIte, vcu, ↓vcd]
  refine r_boxed fun h1 τ1 n1 s1 e1 => ?_
  replace e1 : τ1 h1 = some ⟨[.int .i64 x, .int .i64 y], false⟩ := e1
  have ll : lds τ1 h1 0 2 = some [.int .i64 x, .int .i64 y] := lds_two (ld_of e1 rfl) (ld_of e1 rfl)
  simp -implicitDefEqProofs (disch := omega) only [List.any_cons, List.any_nil, Nat.reduceEqDiff, List.map_cons, List.map_nil, Option.map_some, Option.map_none, List.nil_append, ↓reduceIte, vcu, ↓vcd, ll, co24]
  refine (implFV_calls τ1 x y).mono ?_
  rintro r _ ⟨rfl, rfl⟩
  rename_i τ1
  by_cases hF : FV x y
  case neg =>
    rw [decide_eq_false hF]
    simp -implicitDefEqProofs (disch := omega) only [List.any_cons, List.any_nil, Nat.reduceEqDiff, List.map_cons, List.map_nil, Option.map_some, Option.map_none, List.nil_append, ↓reduceIte, vcu, ↓vcd, opK_some, Bool.not_false]
    refine fin_drop Try.results39 σ s1 ⟨-1, ?_, .inl ⟨fun hh => hF hh.2, rfl⟩, by omega, by omega, rfl⟩
    simp -implicitDefEqProofs (disch := omega) only [List.any_cons, List.any_nil, Nat.reduceEqDiff, List.map_cons, List.map_nil, Option.map_some, Option.map_none, List.nil_append, ↓reduceIte, vcu, ↓vcd]
  rw [decide_eq_true hF]
  simp -implicitDefEqProofs (disch := omega) only [List.any_cons, List.any_nil, Nat.reduceEqDiff, List.map_cons, List.map_nil, Option.map_some, Option.map_none, List.nil_append, ↓reduceIte, vcu, ↓vcd, opK_some, Bool.not_true]
  refine vc_loop_c mixed (by kernel_rfl) [0, 3] (fun m a σ' => ∃ n : Nat, m + n = 9 ∧ a 11 = .int .i64 n ∧ Sub τ1 σ' ∧ (∀ k : Nat, k < n → (0 ≤ L ∧ L ≤ 6) → FLs x y (lpN L k) (lpD L k))) 9 ⟨0, by simp, rfl, Sub.refl _, fun k hk => absurd hk (by omega)⟩ ?_
  rintro m a σ' hc ⟨n, hn, h11, hs, hall⟩
  simp -implicitDefEqProofs (disch := omega) only [List.any_cons, List.any_nil, Nat.reduceEqDiff, List.map_cons, List.map_nil, Option.map_some, Option.map_none, List.nil_append, ↓reduceIte, vcu, ↓vcd] at hc
  obtain ⟨h0, h3, -⟩ := hc
  have e1' := hs _ _ e1
  by_cases h9 : n ≤ 8
  · simp -implicitDefEqProofs (disch := omega) only [List.any_cons, List.any_nil, Nat.reduceEqDiff, List.map_cons, List.map_nil, Option.map_some, Option.map_none, List.nil_append, ↓reduceIte, vcu, ↓vcd, h0, h3, h11]
    refine (implLP_calls σ' L n).mono ?_
    rintro r _ ⟨rfl, rfl⟩
    rename_i σ'
    simp -implicitDefEqProofs (disch := omega) only [List.any_cons, List.any_nil, Nat.reduceEqDiff, List.map_cons, List.map_nil, Option.map_some, Option.map_none, List.nil_append, ↓reduceIte, vcu, ↓vcd, opK_some, List.getElem?_toArray, List.getElem?_cons_zero, List.getElem?_cons_succ]
    refine r_local (cs := #[.int .i64 (lpN L n), .int .i64 (lpD L n)]) ze24 (by decide) (by simp -implicitDefEqProofs (disch := omega) only [List.any_cons, List.any_nil, Nat.reduceEqDiff, List.map_cons, List.map_nil, Option.map_some, Option.map_none, List.nil_append, ↓reduceIte, vcu, ↓vcd]) (by rw [co24]; rfl) rfl rfl (Nat.zero_lt_succ _) fun c6 τ2 n6 s2 e6 => ?_
    replace e6 : τ2 c6 = some ⟨[.int .i64 (lpN L n), .int .i64 (lpD L n)], false⟩ := e6
    have ll2 : lds τ2 h1 0 2 = some [.int .i64 x, .int .i64 y] := lds_two (ld_of (s2 _ _ e1') rfl) (ld_of (s2 _ _ e1') rfl)
    have l6 : lds τ2 c6 0 2 = some [.int .i64 (lpN L n), .int .i64 (lpD L n)] := lds_two (ld_of e6 rfl) (ld_of e6 rfl)
    by_cases hO : OK7 L n
    case neg =>
      rw [decide_eq_false hO]
      have hL : ¬(0 ≤ L ∧ L ≤ 6) := fun hh => hO ⟨hh, by omega, by omega⟩
      simp -implicitDefEqProofs (disch := omega) only [List.any_cons, List.any_nil, Nat.reduceEqDiff, List.map_cons, List.map_nil, Option.map_some, Option.map_none, List.nil_append, ↓reduceIte, vcu, ↓vcd, h0, h3, h11]
      refine ⟨by simp [h0, h3], m - 1, by omega, n + 1, by omega, by simp, hs.trans s2, fun k hk hh => absurd hh hL⟩
    rw [decide_eq_true hO]
    simp -implicitDefEqProofs (disch := omega) only [List.any_cons, List.any_nil, Nat.reduceEqDiff, List.map_cons, List.map_nil, Option.map_some, Option.map_none, List.nil_append, ↓reduceIte, vcu, ↓vcd, h0, h3, h11, ll2, l6, co24]
    refine (implFL_calls τ2 x y (lpN L n) (lpD L n)).mono ?_
    rintro r _ ⟨rfl, rfl⟩
    rename_i τ2
    by_cases hl : FLs x y (lpN L n) (lpD L n)
    · rw [decide_eq_true hl]
      simp -implicitDefEqProofs (disch := omega) only [List.any_cons, List.any_nil, Nat.reduceEqDiff, List.map_cons, List.map_nil, Option.map_some, Option.map_none, List.nil_append, ↓reduceIte, vcu, ↓vcd, opK_some, h0, h3, h11, Bool.not_true]
      refine ⟨by simp [h0, h3], m - 1, by omega, n + 1, by omega, by simp, hs.trans s2, fun k hk hh => ?_⟩
      by_cases e : k = n
      · subst e; exact hl
      · exact hall k (by omega) hh
    · rw [decide_eq_false hl]
      simp -implicitDefEqProofs (disch := omega) only [List.any_cons, List.any_nil, Nat.reduceEqDiff, List.map_cons, List.map_nil, Option.map_some, Option.map_none, List.nil_append, ↓reduceIte, vcu, ↓vcd, opK_some, h0, h3, h11, Bool.not_false]
      refine fin_drop Try.results39 σ ((s1.trans hs).trans s2) ⟨n, ?_, .inr ⟨⟨hO.1, hF⟩, .inl ⟨n, h9, rfl, hl, fun k hk => hall k hk hO.1⟩⟩, by omega, by omega, rfl⟩
      simp -implicitDefEqProofs (disch := omega) only [List.any_cons, List.any_nil, Nat.reduceEqDiff, List.map_cons, List.map_nil, Option.map_some, Option.map_none, List.nil_append, ↓reduceIte, vcu, ↓vcd]
  · have e : n = 9 := by omega
    subst e
    simp -implicitDefEqProofs (disch := omega) only [List.any_cons, List.any_nil, Nat.reduceEqDiff, List.map_cons, List.map_nil, Option.map_some, Option.map_none, List.nil_append, ↓reduceIte, vcu, ↓vcd, h0, h3, h11]
    by_cases hL : 0 ≤ L ∧ L ≤ 6
    · refine fin_drop Try.results39 σ (s1.trans hs) ⟨-1, ?_, .inr ⟨⟨hL, hF⟩, .inr ⟨rfl, fun k hk => hall k (by omega) hL⟩⟩, by omega, by omega, rfl⟩
      simp -implicitDefEqProofs (disch := omega) only [List.any_cons, List.any_nil, Nat.reduceEqDiff, List.map_cons, List.map_nil, Option.map_some, Option.map_none, List.nil_append, ↓reduceIte, vcu, ↓vcd]
    · refine fin_drop Try.results39 σ (s1.trans hs) ⟨-1, ?_, .inl ⟨fun hh => hL hh.1, rfl⟩, by omega, by omega, rfl⟩
      simp -implicitDefEqProofs (disch := omega) only [List.any_cons, List.any_nil, Nat.reduceEqDiff, List.map_cons, List.map_nil, Option.map_some, Option.map_none, List.nil_append, ↓reduceIte, vcu, ↓vcd]

theorem implFV_at (w0 : World) (σ : AHeap) (x y : Int) : ACall Try.prog w0 18 [.agg #[.int .i64 x, .int .i64 y]] σ fun r σ' => r = .bool (decide (FV x y)) ∧ σ' = σ := implFV_calls σ x y
theorem implFL_at (w0 : World) (σ : AHeap) (x y z w : Int) : ACall Try.prog w0 22 [.agg #[.int .i64 x, .int .i64 y], .agg #[.int .i64 z, .int .i64 w]] σ fun r σ' => r = .bool (decide (FLs x y z w)) ∧ σ' = σ := implFL_calls σ x y z w
theorem implLP_at (w0 : World) (σ : AHeap) (L t : Int) : ACall Try.prog w0 25 [.int .i64 L, .int .i64 t] σ fun r σ' => r = .tuple #[.agg #[.int .i64 (lpN L t), .int .i64 (lpD L t)], .bool (decide (OK7 L t))] ∧ σ' = σ := implLP_calls σ L t
theorem implLS_at (w0 : World) (σ : AHeap) (L t : Int) : ACall Try.prog w0 27 [.int .i64 L, .int .i64 t] σ fun r σ' => r = .tuple #[.agg #[.int .i64 (lsN L t), .int .i64 (lsD L t)], .bool (decide (OK7 L t))] ∧ σ' = σ := implLS_calls σ L t
theorem implTL_at (w0 : World) (σ : AHeap) (L t : Int) : ACall Try.prog w0 33 [.int .i64 L, .int .i64 t] σ fun r σ' => r = .tuple #[.agg #[.int .i64 (tkN L t), .int .i64 (tkD L t)], .bool (decide (OK7 L t))] ∧ σ' = σ := implTL_calls σ L t
theorem implBP_at (w0 : World) (σ : AHeap) (L t : Int) : ACall Try.prog w0 30 [.int .i64 L, .int .i64 t] σ fun r σ' => Sub σ σ' ∧ OwnI σ σ' r (busyV L t) := implBP_calls σ L t
theorem implTF_at (w0 : World) (σ : AHeap) (L x y : Int) : ACall Try.prog w0 39 [.int .i64 L, .agg #[.int .i64 x, .int .i64 y]] σ fun r σ' => ∃ z : Int, r = .int .i64 z ∧ TfOk L x y z ∧ -1 ≤ z ∧ z ≤ 8 ∧ σ' = σ := implTF_calls σ L x y
end Go.Proofs.Ytkepicmefpcgaaa
