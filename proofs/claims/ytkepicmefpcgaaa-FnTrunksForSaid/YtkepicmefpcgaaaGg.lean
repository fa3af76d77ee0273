/- Copies and comparisons of fractions. -/
import Derived.Test.YtkepicmefpcgaaaGj
set_option linter.unusedSimpArgs false
set_option linter.unusedVariables false
namespace Go.Proofs.Ytkepicmefpcgaaa
open Go Go.Abs Go.RowKit
variable {w0 : World}

theorem ints_len' {σ : AHeap} {v : Value} {xs : List Int} (h : Ints .i64 σ v xs) : ∃ b z, v = .slice b xs.length z := by
  rcases h with ⟨rfl, rfl⟩ | ⟨g, o, rfl, -⟩
  · exact ⟨none, 0, rfl⟩
  · exact ⟨_, _, rfl⟩
theorem layR_two {σ : AHeap} {ds : List Dat} {cs : List Value} (h : LayR σ [.int .i64, .int .i64] ds cs) : ∃ x y : Int, cs = [.int .i64 x, .int .i64 y] ∧ (Lit.int .i64 x).wf = true ∧ (Lit.int .i64 y).wf = true := by
  obtain ⟨e1, es1, c1, c2, _, rfl, h6, h7⟩ := h.cons_inv
  obtain ⟨e2, es2, c3, c4, _, rfl, h8, h9⟩ := h7.cons_inv
  obtain ⟨_, rfl⟩ := h9.nil_inv
  obtain ⟨A, _, rfl, w1⟩ := h6.int_inv
  obtain ⟨B, _, rfl, w2⟩ := h8.int_inv
  exact ⟨A, B, rfl, w1, w2⟩
theorem lay_two {σ : AHeap} {d : Dat} {acs : List Value} (h : Lay σ (.rcd [.int .i64, .int .i64]) d acs) : ∃ x y : Int, acs = [.int .i64 x, .int .i64 y] ∧ (Lit.int .i64 x).wf = true ∧ (Lit.int .i64 y).wf = true := by
  obtain ⟨es, _, h5⟩ := h.rcd_inv
  exact layR_two h5
set_option maxRecDepth 8000 in
theorem toFrac_at (σ : AHeap) (A B : Int) : ACall Try.prog w0 41 [.agg #[.int .i64 A, .int .i64 B]] σ fun r σ' => r = .agg #[.int .i64 A, .int .i64 B] ∧ σ' = σ := by
  refine acall_goc mixed Try.func41 rfl goodc41 fun pr => ?_
  simp -implicitDefEqProofs (disch := omega) only [List.any_cons, List.any_nil, Nat.reduceEqDiff, List.map_cons, List.map_nil, Option.map_some, Option.map_none, List.nil_append, ↓reduceIte, vcu, ↓vcd]
  refine r_boxed fun h1 τ1 n1 s1 e1 => ?_
  replace e1 : τ1 h1 = some ⟨[.int .i64 A, .int .i64 B], false⟩ := e1
  refine r_new ze24 fun h2 τ2 n2 s2 e2 => ?_
  replace e2 : τ2 h2 = some ⟨[.int .i64 0, .int .i64 0], false⟩ := e2
  simp -implicitDefEqProofs (disch := omega) only [List.any_cons, List.any_nil, Nat.reduceEqDiff, List.map_cons, List.map_nil, Option.map_some, Option.map_none, List.nil_append, ↓reduceIte, vcu, ↓vcd]
  refine r_new ze24 fun h3 τ3 n3 s3 e3 => ?_
  replace e3 : τ3 h3 = some ⟨[.int .i64 0, .int .i64 0], false⟩ := e3
  have f1 := (s3 _ _ (s2 _ _ e1))
  have l1 : ld τ3 h1 (0 + 0) = some (.int .i64 A) := ld_of f1 rfl
  have d2 := ne_of n3 e2
  have d1 := ne_of n3 (s2 _ _ e1)
  have d12 := ne_of n2 e1
  simp -implicitDefEqProofs (disch := omega) only [List.any_cons, List.any_nil, Nat.reduceEqDiff, List.map_cons, List.map_nil, Option.map_some, Option.map_none, List.nil_append, ↓reduceIte, vcu, ↓vcd, l1]
  refine r_set (g := h3) (i := 0) (by simp -implicitDefEqProofs (disch := omega) only [List.any_cons, List.any_nil, Nat.reduceEqDiff, List.map_cons, List.map_nil, Option.map_some, Option.map_none, List.nil_append, ↓reduceIte, vcu, ↓vcd]) (by simp -implicitDefEqProofs (disch := omega) only [List.any_cons, List.any_nil, Nat.reduceEqDiff, List.map_cons, List.map_nil, Option.map_some, Option.map_none, List.nil_append, ↓reduceIte, vcu, ↓vcd]; rfl) co3 (by simp -implicitDefEqProofs (disch := omega) only [List.any_cons, List.any_nil, Nat.reduceEqDiff, List.map_cons, List.map_nil, Option.map_some, Option.map_none, List.nil_append, ↓reduceIte, vcu, ↓vcd]; rfl) e3 (by simp) fun τ4 k4 e4 => ?_
  replace e4 : τ4 h3 = some ⟨[.int .i64 A, .int .i64 0], false⟩ := e4
  have l2 : ld τ4 h1 (0 + 1) = some (.int .i64 B) := ld_of (k4.at f1 d1.symm) rfl
  simp -implicitDefEqProofs (disch := omega) only [List.any_cons, List.any_nil, Nat.reduceEqDiff, List.map_cons, List.map_nil, Option.map_some, Option.map_none, List.nil_append, ↓reduceIte, vcu, ↓vcd, l2]
  refine r_set (g := h3) (i := 1) (by simp -implicitDefEqProofs (disch := omega) only [List.any_cons, List.any_nil, Nat.reduceEqDiff, List.map_cons, List.map_nil, Option.map_some, Option.map_none, List.nil_append, ↓reduceIte, vcu, ↓vcd]) (by simp -implicitDefEqProofs (disch := omega) only [List.any_cons, List.any_nil, Nat.reduceEqDiff, List.map_cons, List.map_nil, Option.map_some, Option.map_none, List.nil_append, ↓reduceIte, vcu, ↓vcd]; rfl) co3 (by simp -implicitDefEqProofs (disch := omega) only [List.any_cons, List.any_nil, Nat.reduceEqDiff, List.map_cons, List.map_nil, Option.map_some, Option.map_none, List.nil_append, ↓reduceIte, vcu, ↓vcd]; rfl) e4 (by simp) fun τ5 k5 e5 => ?_
  replace e5 : τ5 h3 = some ⟨[.int .i64 A, .int .i64 B], false⟩ := e5
  have l3 : lds τ5 h3 0 2 = some [.int .i64 A, .int .i64 B] := lds_two (ld_of e5 rfl) (ld_of e5 rfl)
  have f2 := k5.at (k4.at (s3 _ _ e2) d2.symm) d2.symm
  simp -implicitDefEqProofs (disch := omega) only [List.any_cons, List.any_nil, Nat.reduceEqDiff, List.map_cons, List.map_nil, Option.map_some, Option.map_none, List.nil_append, ↓reduceIte, vcu, ↓vcd, l3, co24]
  refine r_sets (g := h2) (i := 0) (C := [.int .i64 0, .int .i64 0]) (by simp -implicitDefEqProofs (disch := omega) only [List.any_cons, List.any_nil, Nat.reduceEqDiff, List.map_cons, List.map_nil, Option.map_some, Option.map_none, List.nil_append, ↓reduceIte, vcu, ↓vcd]) (by simp -implicitDefEqProofs (disch := omega) only [List.any_cons, List.any_nil, Nat.reduceEqDiff, List.map_cons, List.map_nil, Option.map_some, Option.map_none, List.nil_append, ↓reduceIte, vcu, ↓vcd, co24]; rfl) (by simp -implicitDefEqProofs (disch := omega) only [List.any_cons, List.any_nil, Nat.reduceEqDiff, List.map_cons, List.map_nil, Option.map_some, Option.map_none, List.nil_append, ↓reduceIte, vcu, ↓vcd]; rfl) (by simp -implicitDefEqProofs (disch := omega) only [List.any_cons, List.any_nil, Nat.reduceEqDiff, List.map_cons, List.map_nil, Option.map_some, Option.map_none, List.nil_append, ↓reduceIte, vcu, ↓vcd]; exact Nat.zero_lt_succ _) f2 (by simp -implicitDefEqProofs (disch := omega) only [List.any_cons, List.any_nil, Nat.reduceEqDiff, List.map_cons, List.map_nil, Option.map_some, Option.map_none, List.nil_append, ↓reduceIte, vcu, ↓vcd]; exact Nat.le_refl _) fun τ6 k6 e6 => ?_
  replace e6 : τ6 h2 = some ⟨[.int .i64 A, .int .i64 B], false⟩ := e6
  have l4 : lds τ6 h2 0 2 = some [.int .i64 A, .int .i64 B] := lds_two (ld_of e6 rfl) (ld_of e6 rfl)
  simp -implicitDefEqProofs (disch := omega) only [List.any_cons, List.any_nil, Nat.reduceEqDiff, List.map_cons, List.map_nil, Option.map_some, Option.map_none, List.nil_append, ↓reduceIte, vcu, ↓vcd]
  refine fin_cell Try.results41 σ ?_ (v := .agg #[.int .i64 A, .int .i64 B]) (by simp -implicitDefEqProofs (disch := omega) only [List.any_cons, List.any_nil, Nat.reduceEqDiff, List.map_cons, List.map_nil, Option.map_some, Option.map_none, List.nil_append, ↓reduceIte, vcu, ↓vcd, l4, co24]) ⟨rfl, rfl⟩
  have q3 : Sub σ τ3 := s1.trans (s2.trans s3)
  have z3 : σ h3 = none := free_sub (s1.trans s2) n3
  have z2 : σ h2 = none := free_sub s1 n2
  exact k6.sub (k5.sub (k4.sub q3 z3) z3) z2
set_option maxRecDepth 8000 in
theorem eqFrac_at (σ : AHeap) (A B C D : Int) : ACall Try.prog w0 42 [.agg #[.int .i64 A, .int .i64 B], .agg #[.int .i64 C, .int .i64 D]] σ fun r σ' => r = .bool (decide ((A, B) = (C, D))) ∧ σ' = σ := by
  refine acall_go mixed Try.func42 rfl good42 fun pr => ?_
  simp -implicitDefEqProofs (disch := omega) only [List.any_cons, List.any_nil, Nat.reduceEqDiff, List.map_cons, List.map_nil, Option.map_some, Option.map_none, List.nil_append, ↓reduceIte, vcu, ↓vcd]
  refine r_boxed fun h1 τ1 n1 s1 e1 => ?_
  replace e1 : τ1 h1 = some ⟨[.int .i64 A, .int .i64 B], false⟩ := e1
  refine r_boxed fun h2 τ2 n2 s2 e2 => ?_
  replace e2 : τ2 h2 = some ⟨[.int .i64 C, .int .i64 D], false⟩ := e2
  have f1 := s2 _ _ e1
  have a1 : ld τ2 h1 (0 + 0) = some (.int .i64 A) := ld_of f1 rfl
  have a2 : ld τ2 h1 (0 + 1) = some (.int .i64 B) := ld_of f1 rfl
  have b1 : ld τ2 h2 (0 + 0) = some (.int .i64 C) := ld_of e2 rfl
  have b2 : ld τ2 h2 (0 + 1) = some (.int .i64 D) := ld_of e2 rfl
  by_cases h1 : A = C
  · by_cases h2 : B = D
    · simp -implicitDefEqProofs (disch := omega) only [List.any_cons, List.any_nil, Nat.reduceEqDiff, List.map_cons, List.map_nil, Option.map_some, Option.map_none, List.nil_append, ↓reduceIte, vcu, ↓vcd, a1, a2, b1, b2]
      refine fin_drop Try.results42 σ (s1.trans s2) ⟨?_, rfl⟩
      simp -implicitDefEqProofs (disch := omega) only [List.any_cons, List.any_nil, Nat.reduceEqDiff, List.map_cons, List.map_nil, Option.map_some, Option.map_none, List.nil_append, ↓reduceIte, vcu, ↓vcd]
      simp [h1, h2]
    · simp -implicitDefEqProofs (disch := omega) only [List.any_cons, List.any_nil, Nat.reduceEqDiff, List.map_cons, List.map_nil, Option.map_some, Option.map_none, List.nil_append, ↓reduceIte, vcu, ↓vcd, a1, a2, b1, b2]
      refine fin_drop Try.results42 σ (s1.trans s2) ⟨?_, rfl⟩
      simp -implicitDefEqProofs (disch := omega) only [List.any_cons, List.any_nil, Nat.reduceEqDiff, List.map_cons, List.map_nil, Option.map_some, Option.map_none, List.nil_append, ↓reduceIte, vcu, ↓vcd]
      simp [h1, h2]
  · simp -implicitDefEqProofs (disch := omega) only [List.any_cons, List.any_nil, Nat.reduceEqDiff, List.map_cons, List.map_nil, Option.map_some, Option.map_none, List.nil_append, ↓reduceIte, vcu, ↓vcd, a1, a2, b1, b2]
    refine fin_drop Try.results42 σ (s1.trans s2) ⟨?_, rfl⟩
    simp -implicitDefEqProofs (disch := omega) only [List.any_cons, List.any_nil, Nat.reduceEqDiff, List.map_cons, List.map_nil, Option.map_some, Option.map_none, List.nil_append, ↓reduceIte, vcu, ↓vcd]
    simp [h1]
set_option maxRecDepth 8000 in
theorem flat_frac (a b c d : Int) : flatEq Try.prog 24 #[.int .i64 a, .int .i64 b] #[.int .i64 c, .int .i64 d] = some ((a == c) && ((b == d) && true)) := by kernel_rfl
set_option maxRecDepth 8000 in
theorem neq_frac (a b c d : Int) : abin Try.prog 24 .neq (.agg #[.int .i64 a, .int .i64 b]) (.agg #[.int .i64 c, .int .i64 d]) = some (.bool (!decide ((a, b) = (c, d)))) := by
  show (flatEq Try.prog 24 #[.int .i64 a, .int .i64 b] #[.int .i64 c, .int .i64 d]).map _ = _
  rw [flat_frac]
  simp only [Option.map_some, Prod.mk.injEq]
  congr 3
  by_cases h1 : a = c
  · by_cases h2 : b = d <;> simp [h1, h2]
  · simp [h1]
set_option maxRecDepth 8000 in
theorem eql_frac (a b c d : Int) : abin Try.prog 24 .eql (.agg #[.int .i64 a, .int .i64 b]) (.agg #[.int .i64 c, .int .i64 d]) = some (.bool (decide ((a, b) = (c, d)))) := by
  show (flatEq Try.prog 24 #[.int .i64 a, .int .i64 b] #[.int .i64 c, .int .i64 d]).map _ = _
  rw [flat_frac]
  simp only [Option.map_some, Prod.mk.injEq]
  congr 2
  by_cases h1 : a = c
  · by_cases h2 : b = d <;> simp [h1, h2]
  · simp [h1]
set_option maxRecDepth 8000 in
theorem eql_frac_true {a b c d : Int} (h : (a, b) = (c, d)) : abin Try.prog 24 .eql (.agg #[.int .i64 a, .int .i64 b]) (.agg #[.int .i64 c, .int .i64 d]) = some (.bool true) := by rw [eql_frac, decide_eq_true h]
end Go.Proofs.Ytkepicmefpcgaaa
