/- Copies, comparisons and marks of calls. -/
import Derived.Test.YtphacjkogompoaaCc
import Derived.Test.YtphacjkogompoaaXa
set_option linter.unusedSimpArgs false
set_option linter.unusedVariables false
namespace Go.Proofs.Ytphacjkogompoaa
open Go Go.Abs Go.RowKit Go.Clos
variable {w0 : World}

theorem toShape_at (σ : AHeap) (A B C : Int) : ACall Try.prog w0 58 [.agg #[.int .i64 A, .int .i64 B, .int .i64 C]] σ fun r σ' => r = .agg #[.int .i64 A, .int .i64 B, .int .i64 C] ∧ σ' = σ := by
  refine acall_goc mixed Try.func58 rfl goodc58 fun pr => ?_
  simp -implicitDefEqProofs (disch := omega) only [List.any_cons, List.any_nil, Nat.reduceEqDiff, List.map_cons, List.map_nil, Option.map_some, Option.map_none, List.nil_append, ↓reduceIte, vcu, ↓vcd]
  refine r_boxed fun h1 τ1 n1 s1 e1 => ?_
  replace e1 : τ1 h1 = some ⟨[.int .i64 A, .int .i64 B, .int .i64 C], false⟩ := e1
  refine r_new ze24 fun h2 τ2 n2 s2 e2 => ?_
  replace e2 : τ2 h2 = some ⟨[.int .i64 0, .int .i64 0, .int .i64 0], false⟩ := e2
  simp -implicitDefEqProofs (disch := omega) only [List.any_cons, List.any_nil, Nat.reduceEqDiff, List.map_cons, List.map_nil, Option.map_some, Option.map_none, List.nil_append, ↓reduceIte, vcu, ↓vcd]
  refine r_new ze24 fun h3 τ3 n3 s3 e3 => ?_
  replace e3 : τ3 h3 = some ⟨[.int .i64 0, .int .i64 0, .int .i64 0], false⟩ := e3
  have f1 := (s3 _ _ (s2 _ _ e1))
  have l1 : ld τ3 h1 (0 + 0) = some (.int .i64 A) := ld_of f1 rfl
  have d2 := ne_of n3 e2
  have d1 := ne_of n3 (s2 _ _ e1)
  have d12 := ne_of n2 e1
  simp -implicitDefEqProofs (disch := omega) only [List.any_cons, List.any_nil, Nat.reduceEqDiff, List.map_cons, List.map_nil, Option.map_some, Option.map_none, List.nil_append, ↓reduceIte, vcu, ↓vcd, l1]
  refine r_set (g := h3) (i := 0) (by simp -implicitDefEqProofs (disch := omega) only [List.any_cons, List.any_nil, Nat.reduceEqDiff, List.map_cons, List.map_nil, Option.map_some, Option.map_none, List.nil_append, ↓reduceIte, vcu, ↓vcd]) (by simp -implicitDefEqProofs (disch := omega) only [List.any_cons, List.any_nil, Nat.reduceEqDiff, List.map_cons, List.map_nil, Option.map_some, Option.map_none, List.nil_append, ↓reduceIte, vcu, ↓vcd]; rfl) co3 (by simp -implicitDefEqProofs (disch := omega) only [List.any_cons, List.any_nil, Nat.reduceEqDiff, List.map_cons, List.map_nil, Option.map_some, Option.map_none, List.nil_append, ↓reduceIte, vcu, ↓vcd]; rfl) e3 (by simp) fun τ4 k4 e4 => ?_
  replace e4 : τ4 h3 = some ⟨[.int .i64 A, .int .i64 0, .int .i64 0], false⟩ := e4
  have l2 : ld τ4 h1 (0 + 1) = some (.int .i64 B) := ld_of (k4.at f1 d1.symm) rfl
  simp -implicitDefEqProofs (disch := omega) only [List.any_cons, List.any_nil, Nat.reduceEqDiff, List.map_cons, List.map_nil, Option.map_some, Option.map_none, List.nil_append, ↓reduceIte, vcu, ↓vcd, l2]
  refine r_set (g := h3) (i := 1) (by simp -implicitDefEqProofs (disch := omega) only [List.any_cons, List.any_nil, Nat.reduceEqDiff, List.map_cons, List.map_nil, Option.map_some, Option.map_none, List.nil_append, ↓reduceIte, vcu, ↓vcd]) (by simp -implicitDefEqProofs (disch := omega) only [List.any_cons, List.any_nil, Nat.reduceEqDiff, List.map_cons, List.map_nil, Option.map_some, Option.map_none, List.nil_append, ↓reduceIte, vcu, ↓vcd]; rfl) co3 (by simp -implicitDefEqProofs (disch := omega) only [List.any_cons, List.any_nil, Nat.reduceEqDiff, List.map_cons, List.map_nil, Option.map_some, Option.map_none, List.nil_append, ↓reduceIte, vcu, ↓vcd]; rfl) e4 (by simp) fun τ5 k5 e5 => ?_
  replace e5 : τ5 h3 = some ⟨[.int .i64 A, .int .i64 B, .int .i64 0], false⟩ := e5
  have l3 : ld τ5 h1 (0 + 2) = some (.int .i64 C) := ld_of (k5.at (k4.at f1 d1.symm) d1.symm) rfl
  simp -implicitDefEqProofs (disch := omega) only [List.any_cons, List.any_nil, Nat.reduceEqDiff, List.map_cons, List.map_nil, Option.map_some, Option.map_none, List.nil_append, ↓reduceIte, vcu, ↓vcd, l3]
  refine r_set (g := h3) (i := 2) (by simp -implicitDefEqProofs (disch := omega) only [List.any_cons, List.any_nil, Nat.reduceEqDiff, List.map_cons, List.map_nil, Option.map_some, Option.map_none, List.nil_append, ↓reduceIte, vcu, ↓vcd]) (by simp -implicitDefEqProofs (disch := omega) only [List.any_cons, List.any_nil, Nat.reduceEqDiff, List.map_cons, List.map_nil, Option.map_some, Option.map_none, List.nil_append, ↓reduceIte, vcu, ↓vcd]; rfl) co3 (by simp -implicitDefEqProofs (disch := omega) only [List.any_cons, List.any_nil, Nat.reduceEqDiff, List.map_cons, List.map_nil, Option.map_some, Option.map_none, List.nil_append, ↓reduceIte, vcu, ↓vcd]; rfl) e5 (by simp) fun τ6 k6 e6 => ?_
  replace e6 : τ6 h3 = some ⟨[.int .i64 A, .int .i64 B, .int .i64 C], false⟩ := e6
  have l4 : lds τ6 h3 0 3 = some [.int .i64 A, .int .i64 B, .int .i64 C] := lds_three (ld_of e6 rfl) (ld_of e6 rfl) (ld_of e6 rfl)
  have f2 := k6.at (k5.at (k4.at (s3 _ _ e2) d2.symm) d2.symm) d2.symm
  simp -implicitDefEqProofs (disch := omega) only [List.any_cons, List.any_nil, Nat.reduceEqDiff, List.map_cons, List.map_nil, Option.map_some, Option.map_none, List.nil_append, ↓reduceIte, vcu, ↓vcd, l4, co24]
  refine r_sets (g := h2) (i := 0) (C := [.int .i64 0, .int .i64 0, .int .i64 0]) (by simp -implicitDefEqProofs (disch := omega) only [List.any_cons, List.any_nil, Nat.reduceEqDiff, List.map_cons, List.map_nil, Option.map_some, Option.map_none, List.nil_append, ↓reduceIte, vcu, ↓vcd]) (by simp -implicitDefEqProofs (disch := omega) only [List.any_cons, List.any_nil, Nat.reduceEqDiff, List.map_cons, List.map_nil, Option.map_some, Option.map_none, List.nil_append, ↓reduceIte, vcu, ↓vcd, co24]; rfl) (by simp -implicitDefEqProofs (disch := omega) only [List.any_cons, List.any_nil, Nat.reduceEqDiff, List.map_cons, List.map_nil, Option.map_some, Option.map_none, List.nil_append, ↓reduceIte, vcu, ↓vcd]; rfl) (by simp -implicitDefEqProofs (disch := omega) only [List.any_cons, List.any_nil, Nat.reduceEqDiff, List.map_cons, List.map_nil, Option.map_some, Option.map_none, List.nil_append, ↓reduceIte, vcu, ↓vcd]; exact Nat.zero_lt_succ _) f2 (by simp -implicitDefEqProofs (disch := omega) only [List.any_cons, List.any_nil, Nat.reduceEqDiff, List.map_cons, List.map_nil, Option.map_some, Option.map_none, List.nil_append, ↓reduceIte, vcu, ↓vcd]; exact Nat.le_refl _) fun τ7 k7 e7 => ?_
  replace e7 : τ7 h2 = some ⟨[.int .i64 A, .int .i64 B, .int .i64 C], false⟩ := e7
  have l5 : lds τ7 h2 0 3 = some [.int .i64 A, .int .i64 B, .int .i64 C] := lds_three (ld_of e7 rfl) (ld_of e7 rfl) (ld_of e7 rfl)
  simp -implicitDefEqProofs (disch := omega) only [List.any_cons, List.any_nil, Nat.reduceEqDiff, List.map_cons, List.map_nil, Option.map_some, Option.map_none, List.nil_append, ↓reduceIte, vcu, ↓vcd]
  refine fin_cell Try.results58 σ ?_ (v := .agg #[.int .i64 A, .int .i64 B, .int .i64 C]) (by simp -implicitDefEqProofs (disch := omega) only [List.any_cons, List.any_nil, Nat.reduceEqDiff, List.map_cons, List.map_nil, Option.map_some, Option.map_none, List.nil_append, ↓reduceIte, vcu, ↓vcd, l5, co24]) ⟨rfl, rfl⟩
  have q3 : Sub σ τ3 := s1.trans (s2.trans s3)
  have z3 : σ h3 = none := free_sub (s1.trans s2) n3
  have z2 : σ h2 = none := free_sub s1 n2
  exact k7.sub (k6.sub (k5.sub (k4.sub q3 z3) z3) z3) z2
theorem toCall_at (σ : AHeap) (A B C : Int) : ACall Try.prog w0 93 [.agg #[.int .i64 A, .int .i64 B, .int .i64 C]] σ fun r σ' => r = .agg #[.int .i64 A, .int .i64 B, .int .i64 C] ∧ σ' = σ := by
  refine acall_goc mixed Try.func93 rfl goodc93 fun pr => ?_
  simp -implicitDefEqProofs (disch := omega) only [List.any_cons, List.any_nil, Nat.reduceEqDiff, List.map_cons, List.map_nil, Option.map_some, Option.map_none, List.nil_append, ↓reduceIte, vcu, ↓vcd]
  refine r_boxed fun h1 τ1 n1 s1 e1 => ?_
  replace e1 : τ1 h1 = some ⟨[.int .i64 A, .int .i64 B, .int .i64 C], false⟩ := e1
  refine r_new ze34 fun h2 τ2 n2 s2 e2 => ?_
  replace e2 : τ2 h2 = some ⟨[.int .i64 0, .int .i64 0, .int .i64 0], false⟩ := e2
  simp -implicitDefEqProofs (disch := omega) only [List.any_cons, List.any_nil, Nat.reduceEqDiff, List.map_cons, List.map_nil, Option.map_some, Option.map_none, List.nil_append, ↓reduceIte, vcu, ↓vcd]
  refine r_new ze34 fun h3 τ3 n3 s3 e3 => ?_
  replace e3 : τ3 h3 = some ⟨[.int .i64 0, .int .i64 0, .int .i64 0], false⟩ := e3
  have f1 := (s3 _ _ (s2 _ _ e1))
  have l1 : ld τ3 h1 (0 + 0) = some (.int .i64 A) := ld_of f1 rfl
  have d2 := ne_of n3 e2
  have d1 := ne_of n3 (s2 _ _ e1)
  have d12 := ne_of n2 e1
  simp -implicitDefEqProofs (disch := omega) only [List.any_cons, List.any_nil, Nat.reduceEqDiff, List.map_cons, List.map_nil, Option.map_some, Option.map_none, List.nil_append, ↓reduceIte, vcu, ↓vcd, l1]
  refine r_set (g := h3) (i := 0) (by simp -implicitDefEqProofs (disch := omega) only [List.any_cons, List.any_nil, Nat.reduceEqDiff, List.map_cons, List.map_nil, Option.map_some, Option.map_none, List.nil_append, ↓reduceIte, vcu, ↓vcd]) (by simp -implicitDefEqProofs (disch := omega) only [List.any_cons, List.any_nil, Nat.reduceEqDiff, List.map_cons, List.map_nil, Option.map_some, Option.map_none, List.nil_append, ↓reduceIte, vcu, ↓vcd]; rfl) co3 (by simp -implicitDefEqProofs (disch := omega) only [List.any_cons, List.any_nil, Nat.reduceEqDiff, List.map_cons, List.map_nil, Option.map_some, Option.map_none, List.nil_append, ↓reduceIte, vcu, ↓vcd]; rfl) e3 (by simp) fun τ4 k4 e4 => ?_
  replace e4 : τ4 h3 = some ⟨[.int .i64 A, .int .i64 0, .int .i64 0], false⟩ := e4
  have l2 : ld τ4 h1 (0 + 1) = some (.int .i64 B) := ld_of (k4.at f1 d1.symm) rfl
  simp -implicitDefEqProofs (disch := omega) only [List.any_cons, List.any_nil, Nat.reduceEqDiff, List.map_cons, List.map_nil, Option.map_some, Option.map_none, List.nil_append, ↓reduceIte, vcu, ↓vcd, l2]
  refine r_set (g := h3) (i := 1) (by simp -implicitDefEqProofs (disch := omega) only [List.any_cons, List.any_nil, Nat.reduceEqDiff, List.map_cons, List.map_nil, Option.map_some, Option.map_none, List.nil_append, ↓reduceIte, vcu, ↓vcd]) (by simp -implicitDefEqProofs (disch := omega) only [List.any_cons, List.any_nil, Nat.reduceEqDiff, List.map_cons, List.map_nil, Option.map_some, Option.map_none, List.nil_append, ↓reduceIte, vcu, ↓vcd]; rfl) co3 (by simp -implicitDefEqProofs (disch := omega) only [List.any_cons, List.any_nil, Nat.reduceEqDiff, List.map_cons, List.map_nil, Option.map_some, Option.map_none, List.nil_append, ↓reduceIte, vcu, ↓vcd]; rfl) e4 (by simp) fun τ5 k5 e5 => ?_
  replace e5 : τ5 h3 = some ⟨[.int .i64 A, .int .i64 B, .int .i64 0], false⟩ := e5
  have l3 : ld τ5 h1 (0 + 2) = some (.int .i64 C) := ld_of (k5.at (k4.at f1 d1.symm) d1.symm) rfl
  simp -implicitDefEqProofs (disch := omega) only [List.any_cons, List.any_nil, Nat.reduceEqDiff, List.map_cons, List.map_nil, Option.map_some, Option.map_none, List.nil_append, ↓reduceIte, vcu, ↓vcd, l3]
  refine r_set (g := h3) (i := 2) (by simp -implicitDefEqProofs (disch := omega) only [List.any_cons, List.any_nil, Nat.reduceEqDiff, List.map_cons, List.map_nil, Option.map_some, Option.map_none, List.nil_append, ↓reduceIte, vcu, ↓vcd]) (by simp -implicitDefEqProofs (disch := omega) only [List.any_cons, List.any_nil, Nat.reduceEqDiff, List.map_cons, List.map_nil, Option.map_some, Option.map_none, List.nil_append, ↓reduceIte, vcu, ↓vcd]; rfl) co3 (by simp -implicitDefEqProofs (disch := omega) only [List.any_cons, List.any_nil, Nat.reduceEqDiff, List.map_cons, List.map_nil, Option.map_some, Option.map_none, List.nil_append, ↓reduceIte, vcu, ↓vcd]; rfl) e5 (by simp) fun τ6 k6 e6 => ?_
  replace e6 : τ6 h3 = some ⟨[.int .i64 A, .int .i64 B, .int .i64 C], false⟩ := e6
  have l4 : lds τ6 h3 0 3 = some [.int .i64 A, .int .i64 B, .int .i64 C] := lds_three (ld_of e6 rfl) (ld_of e6 rfl) (ld_of e6 rfl)
  have f2 := k6.at (k5.at (k4.at (s3 _ _ e2) d2.symm) d2.symm) d2.symm
  simp -implicitDefEqProofs (disch := omega) only [List.any_cons, List.any_nil, Nat.reduceEqDiff, List.map_cons, List.map_nil, Option.map_some, Option.map_none, List.nil_append, ↓reduceIte, vcu, ↓vcd, l4, co34]
  refine r_sets (g := h2) (i := 0) (C := [.int .i64 0, .int .i64 0, .int .i64 0]) (by simp -implicitDefEqProofs (disch := omega) only [List.any_cons, List.any_nil, Nat.reduceEqDiff, List.map_cons, List.map_nil, Option.map_some, Option.map_none, List.nil_append, ↓reduceIte, vcu, ↓vcd]) (by simp -implicitDefEqProofs (disch := omega) only [List.any_cons, List.any_nil, Nat.reduceEqDiff, List.map_cons, List.map_nil, Option.map_some, Option.map_none, List.nil_append, ↓reduceIte, vcu, ↓vcd, co34]; rfl) (by simp -implicitDefEqProofs (disch := omega) only [List.any_cons, List.any_nil, Nat.reduceEqDiff, List.map_cons, List.map_nil, Option.map_some, Option.map_none, List.nil_append, ↓reduceIte, vcu, ↓vcd]; rfl) (by simp -implicitDefEqProofs (disch := omega) only [List.any_cons, List.any_nil, Nat.reduceEqDiff, List.map_cons, List.map_nil, Option.map_some, Option.map_none, List.nil_append, ↓reduceIte, vcu, ↓vcd]; exact Nat.zero_lt_succ _) f2 (by simp -implicitDefEqProofs (disch := omega) only [List.any_cons, List.any_nil, Nat.reduceEqDiff, List.map_cons, List.map_nil, Option.map_some, Option.map_none, List.nil_append, ↓reduceIte, vcu, ↓vcd]; exact Nat.le_refl _) fun τ7 k7 e7 => ?_
  replace e7 : τ7 h2 = some ⟨[.int .i64 A, .int .i64 B, .int .i64 C], false⟩ := e7
  have l5 : lds τ7 h2 0 3 = some [.int .i64 A, .int .i64 B, .int .i64 C] := lds_three (ld_of e7 rfl) (ld_of e7 rfl) (ld_of e7 rfl)
  simp -implicitDefEqProofs (disch := omega) only [List.any_cons, List.any_nil, Nat.reduceEqDiff, List.map_cons, List.map_nil, Option.map_some, Option.map_none, List.nil_append, ↓reduceIte, vcu, ↓vcd]
  refine fin_cell Try.results93 σ ?_ (v := .agg #[.int .i64 A, .int .i64 B, .int .i64 C]) (by simp -implicitDefEqProofs (disch := omega) only [List.any_cons, List.any_nil, Nat.reduceEqDiff, List.map_cons, List.map_nil, Option.map_some, Option.map_none, List.nil_append, ↓reduceIte, vcu, ↓vcd, l5, co34]) ⟨rfl, rfl⟩
  have q3 : Sub σ τ3 := s1.trans (s2.trans s3)
  have z3 : σ h3 = none := free_sub (s1.trans s2) n3
  have z2 : σ h2 = none := free_sub s1 n2
  exact k7.sub (k6.sub (k5.sub (k4.sub q3 z3) z3) z3) z2

theorem eqCall_at (σ : AHeap) (A B C D E F : Int) : ACall Try.prog w0 94 [.agg #[.int .i64 A, .int .i64 B, .int .i64 C], .agg #[.int .i64 D, .int .i64 E, .int .i64 F]] σ fun r σ' => r = .bool (decide ((⟨A, B, C⟩ : Cl) = ⟨D, E, F⟩)) ∧ σ' = σ := by
  refine acall_go mixed Try.func94 rfl good94 fun pr => ?_
  simp -implicitDefEqProofs (disch := omega) only [List.any_cons, List.any_nil, Nat.reduceEqDiff, List.map_cons, List.map_nil, Option.map_some, Option.map_none, List.nil_append, ↓reduceIte, vcu, ↓vcd]
  refine r_boxed fun h1 τ1 n1 s1 e1 => ?_
  replace e1 : τ1 h1 = some ⟨[.int .i64 A, .int .i64 B, .int .i64 C], false⟩ := e1
  refine r_boxed fun h2 τ2 n2 s2 e2 => ?_
  replace e2 : τ2 h2 = some ⟨[.int .i64 D, .int .i64 E, .int .i64 F], false⟩ := e2
  have f1 := s2 _ _ e1
  have a1 : ld τ2 h1 (0 + 0) = some (.int .i64 A) := ld_of f1 rfl
  have a2 : ld τ2 h1 (0 + 1) = some (.int .i64 B) := ld_of f1 rfl
  have a3 : ld τ2 h1 (0 + 2) = some (.int .i64 C) := ld_of f1 rfl
  have b1 : ld τ2 h2 (0 + 0) = some (.int .i64 D) := ld_of e2 rfl
  have b2 : ld τ2 h2 (0 + 1) = some (.int .i64 E) := ld_of e2 rfl
  have b3 : ld τ2 h2 (0 + 2) = some (.int .i64 F) := ld_of e2 rfl
  by_cases h1 : A = D
  · by_cases h2 : B = E
    · by_cases h3 : C = F
      · simp -implicitDefEqProofs (disch := omega) only [List.any_cons, List.any_nil, Nat.reduceEqDiff, List.map_cons, List.map_nil, Option.map_some, Option.map_none, List.nil_append, ↓reduceIte, vcu, ↓vcd, a1, a2, a3, b1, b2, b3]
        refine fin_drop Try.results94 σ (s1.trans s2) ⟨?_, rfl⟩
        simp -implicitDefEqProofs (disch := omega) only [List.any_cons, List.any_nil, Nat.reduceEqDiff, List.map_cons, List.map_nil, Option.map_some, Option.map_none, List.nil_append, ↓reduceIte, vcu, ↓vcd]
        simp [h1, h2, h3]
      · simp -implicitDefEqProofs (disch := omega) only [List.any_cons, List.any_nil, Nat.reduceEqDiff, List.map_cons, List.map_nil, Option.map_some, Option.map_none, List.nil_append, ↓reduceIte, vcu, ↓vcd, a1, a2, a3, b1, b2, b3]
        refine fin_drop Try.results94 σ (s1.trans s2) ⟨?_, rfl⟩
        simp -implicitDefEqProofs (disch := omega) only [List.any_cons, List.any_nil, Nat.reduceEqDiff, List.map_cons, List.map_nil, Option.map_some, Option.map_none, List.nil_append, ↓reduceIte, vcu, ↓vcd]
        simp [h1, h2, h3]
    · simp -implicitDefEqProofs (disch := omega) only [List.any_cons, List.any_nil, Nat.reduceEqDiff, List.map_cons, List.map_nil, Option.map_some, Option.map_none, List.nil_append, ↓reduceIte, vcu, ↓vcd, a1, a2, a3, b1, b2, b3]
      refine fin_drop Try.results94 σ (s1.trans s2) ⟨?_, rfl⟩
      simp -implicitDefEqProofs (disch := omega) only [List.any_cons, List.any_nil, Nat.reduceEqDiff, List.map_cons, List.map_nil, Option.map_some, Option.map_none, List.nil_append, ↓reduceIte, vcu, ↓vcd]
      simp [h1, h2]
  · simp -implicitDefEqProofs (disch := omega) only [List.any_cons, List.any_nil, Nat.reduceEqDiff, List.map_cons, List.map_nil, Option.map_some, Option.map_none, List.nil_append, ↓reduceIte, vcu, ↓vcd, a1, a2, a3, b1, b2, b3]
    refine fin_drop Try.results94 σ (s1.trans s2) ⟨?_, rfl⟩
    simp -implicitDefEqProofs (disch := omega) only [List.any_cons, List.any_nil, Nat.reduceEqDiff, List.map_cons, List.map_nil, Option.map_some, Option.map_none, List.nil_append, ↓reduceIte, vcu, ↓vcd]
    simp [h1]
theorem szCalls_at (σ : AHeap) (h o : Nat) (cs : List Cl) (n : Int) (hn : 0 ≤ n ∧ n ≤ 1048576) (hm : cs.length ≤ maxLen) :
    ACall Try.prog w0 59 [.slice (some ⟨h, o, none⟩) cs.length 3, .int .i64 n] σ fun r σ' => r = .int .i64 (if n < cs.length then -1 else n - cs.length) ∧ σ' = σ := by
  unfold maxLen at hm
  refine acall_go mixed Try.func59 rfl good59 fun pr => ?_
  by_cases h1 : n < cs.length
  · simp -implicitDefEqProofs (disch := omega) only [List.any_cons, List.any_nil, Nat.reduceEqDiff, List.map_cons, List.map_nil, Option.map_some, Option.map_none, List.nil_append, ↓reduceIte, vcu, ↓vcd]
    refine fin_one Try.results59 ⟨?_, rfl⟩
    simp -implicitDefEqProofs (disch := omega) only [List.any_cons, List.any_nil, Nat.reduceEqDiff, List.map_cons, List.map_nil, Option.map_some, Option.map_none, List.nil_append, ↓reduceIte, vcu, ↓vcd]
    rw [if_pos h1]
  · simp -implicitDefEqProofs (disch := omega) only [List.any_cons, List.any_nil, Nat.reduceEqDiff, List.map_cons, List.map_nil, Option.map_some, Option.map_none, List.nil_append, ↓reduceIte, vcu, ↓vcd]
    refine fin_one Try.results59 ⟨?_, rfl⟩
    simp -implicitDefEqProofs (disch := omega) only [List.any_cons, List.any_nil, Nat.reduceEqDiff, List.map_cons, List.map_nil, Option.map_some, Option.map_none, List.nil_append, ↓reduceIte, vcu, ↓vcd]
    rw [if_neg h1]
theorem azeros_tris (l : Nat) : azeros (.agg #[.int .i64 0, .int .i64 0, .int .i64 0]) (l * 3) = tris (List.replicate l cl0) := by
  apply List.ext_getElem?
  intro j
  by_cases hj : j < l * 3
  · obtain ⟨q, r, rfl, hr⟩ : ∃ q r, j = q * 3 + r ∧ r < 3 := ⟨j / 3, j % 3, by omega, by omega⟩
    have hq : q < l := by omega
    have g := tris_get (List.replicate l cl0) q (by simpa using hq)
    have e : (List.replicate l cl0).getD q cl0 = cl0 := by simp [List.getD, hq]
    rw [e] at g
    have hr' : r = 0 ∨ r = 1 ∨ r = 2 := by omega
    rcases hr' with rfl | rfl | rfl
    · rw [Nat.add_zero, g.1]
      have : q * 3 % 3 = 0 := by omega
      simp [azeros, madeCells, Value.cells, this, hq, cl0]
    · rw [g.2.1]
      have h1 : q * 3 + 1 < l * 3 := by omega
      have : (q * 3 + 1) % 3 = 1 := by omega
      simp [azeros, madeCells, Value.cells, this, h1, cl0]
    · rw [g.2.2]
      have h1 : q * 3 + 2 < l * 3 := by omega
      have : (q * 3 + 2) % 3 = 2 := by omega
      simp [azeros, madeCells, Value.cells, this, h1, cl0]
  · rw [List.getElem?_eq_none (by rw [azeros_length]; omega), List.getElem?_eq_none (by rw [tris_length]; simp; omega)]
/-- a whole record is written -/
theorem tris_write : ∀ (cs : List Cl) (i : Nat), i < cs.length → ∀ c : Cl, lwrite (tris cs) (i * 3) [.int .i64 c.i, .int .i64 c.o, .int .i64 c.v] = tris (cs.set i c) := by
  intro cs i h c
  have hl := tris_length cs
  apply List.ext_getElem?
  intro j
  rw [lwrite_get _ _ _ (by simp; omega)]
  by_cases hj : j < cs.length * 3
  · obtain ⟨q, r, rfl, hr⟩ : ∃ q r, j = q * 3 + r ∧ r < 3 := ⟨j / 3, j % 3, by omega, by omega⟩
    have hq : q < cs.length := by omega
    have g := tris_get (cs.set i c) q (by simpa using hq)
    have g0 := tris_get cs q hq
    have hget : (cs.set i c).getD q cl0 = if i = q then c else cs.getD q cl0 := by
      simp only [List.getD, List.getElem?_set]
      by_cases e : i = q
      · subst e; simp [h]
      · simp [e]
    rw [hget] at g
    have hr' : r = 0 ∨ r = 1 ∨ r = 2 := by omega
    rcases hr' with rfl | rfl | rfl
    · rw [Nat.add_zero, g.1]
      by_cases e : i = q
      · subst e; rw [if_pos ⟨Nat.le_refl _, by simp⟩, if_pos rfl]; simp
      · rw [if_neg (by simp; omega), if_neg e]; exact g0.1
    · rw [g.2.1]
      by_cases e : i = q
      · subst e; rw [if_pos ⟨by omega, by simp⟩, if_pos rfl]; simp
      · rw [if_neg (by simp; omega), if_neg e]; exact g0.2.1
    · rw [g.2.2]
      by_cases e : i = q
      · subst e; rw [if_pos ⟨by omega, by simp⟩, if_pos rfl]; simp
      · rw [if_neg (by simp; omega), if_neg e]; exact g0.2.2
  · rw [if_neg (by simp; omega), List.getElem?_eq_none (by omega), List.getElem?_eq_none (by rw [tris_length]; simp; omega)]
theorem toCalls_at (σ : AHeap) (h o : Nat) (cs : List Cl) (hv : TrisAt σ h o cs) (hl : cs.length ≤ 1048576) :
    ACall Try.prog w0 60 [.slice (some ⟨h, o, none⟩) cs.length 3] σ fun r σ' => ∃ g, σ g = none ∧ r = .slice (some ⟨g, 0, none⟩) cs.length 3 ∧ Sub σ σ' ∧ σ' g = some ⟨tris cs, false⟩ := by
  refine acall_go mixed Try.func60 rfl good60 fun pr => ?_
  simp -implicitDefEqProofs (disch := omega) only [List.any_cons, List.any_nil, Nat.reduceEqDiff, List.map_cons, List.map_nil, Option.map_some, Option.map_none, List.nil_append, ↓reduceIte, vcu, ↓vcd]
  refine r_make (kx := .i64) (ky := .i64) (l := cs.length) (c := cs.length) el29 (by simp -implicitDefEqProofs (disch := omega) only [List.any_cons, List.any_nil, Nat.reduceEqDiff, List.map_cons, List.map_nil, Option.map_some, Option.map_none, List.nil_append, ↓reduceIte, vcu, ↓vcd]) (by simp -implicitDefEqProofs (disch := omega) only [List.any_cons, List.any_nil, Nat.reduceEqDiff, List.map_cons, List.map_nil, Option.map_some, Option.map_none, List.nil_append, ↓reduceIte, vcu, ↓vcd]) (by omega) fun g τ hg hs he => ?_
  rw [azeros_tris] at he
  simp -implicitDefEqProofs (disch := omega) only [List.any_cons, List.any_nil, Nat.reduceEqDiff, List.map_cons, List.map_nil, Option.map_some, Option.map_none, List.nil_append, ↓reduceIte, vcu, ↓vcd]
  refine vc_loop_c mixed (by kernel_rfl) [0, 3] (fun m a σ' => ∃ k : Nat, m + k = cs.length ∧ a 4 = .int .i64 k ∧ Kept g τ σ' ∧ σ' g = some ⟨tris (cs.take k ++ List.replicate (cs.length - k) cl0), false⟩) cs.length ⟨0, by simp, rfl, Kept.refl _ _, by simpa using he⟩ ?_
  rintro m a σ' hc ⟨k, hk, h4, hkp, hgk⟩
  simp -implicitDefEqProofs (disch := omega) only [List.any_cons, List.any_nil, Nat.reduceEqDiff, List.map_cons, List.map_nil, Option.map_some, Option.map_none, List.nil_append, ↓reduceIte, vcu, ↓vcd] at hc
  obtain ⟨h0, h3, -⟩ := hc
  have hsub := hkp.sub hs hg
  by_cases hlt : k < cs.length
  · have hx := (hv.sub hsub).all hlt
    have hst := set_at cs cl0 hlt rfl
    generalize cs.getD k cl0 = c at hx hst
    obtain ⟨A, B, C⟩ := c
    simp -implicitDefEqProofs (disch := omega) only [List.any_cons, List.any_nil, Nat.reduceEqDiff, List.map_cons, List.map_nil, Option.map_some, Option.map_none, List.nil_append, ↓reduceIte, vcu, ↓vcd, h0, h3, h4, hx, co34, co89]
    refine (toCall_at _ A B C).mono ?_
    rintro r _ ⟨rfl, rfl⟩
    simp -implicitDefEqProofs (disch := omega) only [List.any_cons, List.any_nil, Nat.reduceEqDiff, List.map_cons, List.map_nil, Option.map_some, Option.map_none, List.nil_append, ↓reduceIte, vcu, ↓vcd, opK_some, h0, h3, h4]
    refine r_sets (g := g) (i := 0 + k * 3) (by simp -implicitDefEqProofs (disch := omega) only [List.any_cons, List.any_nil, Nat.reduceEqDiff, List.map_cons, List.map_nil, Option.map_some, Option.map_none, List.nil_append, ↓reduceIte, vcu, ↓vcd, h3, h4]) (by simp -implicitDefEqProofs (disch := omega) only [List.any_cons, List.any_nil, Nat.reduceEqDiff, List.map_cons, List.map_nil, Option.map_some, Option.map_none, List.nil_append, ↓reduceIte, vcu, ↓vcd, co34]; rfl) (by simp -implicitDefEqProofs (disch := omega) only [List.any_cons, List.any_nil, Nat.reduceEqDiff, List.map_cons, List.map_nil, Option.map_some, Option.map_none, List.nil_append, ↓reduceIte, vcu, ↓vcd]; rfl) (by simp -implicitDefEqProofs (disch := omega) only [List.any_cons, List.any_nil, Nat.reduceEqDiff, List.map_cons, List.map_nil, Option.map_some, Option.map_none, List.nil_append, ↓reduceIte, vcu, ↓vcd]; exact Nat.zero_lt_succ _) hgk (by simp -implicitDefEqProofs (disch := omega) only [List.any_cons, List.any_nil, Nat.reduceEqDiff, List.map_cons, List.map_nil, Option.map_some, Option.map_none, List.nil_append, ↓reduceIte, vcu, ↓vcd]; rw [tris_length]; simp [Value.cells]; omega) fun τ2 k2 e2 => ?_
    replace e2 : τ2 g = some ⟨lwrite (tris (cs.take k ++ List.replicate (cs.length - k) cl0)) (0 + k * 3) [.int .i64 A, .int .i64 B, .int .i64 C], false⟩ := e2
    have hw := tris_write (cs.take k ++ List.replicate (cs.length - k) cl0) k (by simp; omega) ⟨A, B, C⟩
    rw [Nat.zero_add, hw, hst] at e2
    simp -implicitDefEqProofs (disch := omega) only [List.any_cons, List.any_nil, Nat.reduceEqDiff, List.map_cons, List.map_nil, Option.map_some, Option.map_none, List.nil_append, ↓reduceIte, vcu, ↓vcd, h0, h3, h4]
    exact ⟨⟨trivial, trivial, trivial⟩, m - 1, by omega, k + 1, by omega, by simp, hkp.trans k2, e2⟩
  · simp -implicitDefEqProofs (disch := omega) only [List.any_cons, List.any_nil, Nat.reduceEqDiff, List.map_cons, List.map_nil, Option.map_some, Option.map_none, List.nil_append, ↓reduceIte, vcu, ↓vcd, h0, h3, h4]
    have e2 : k = cs.length := by omega
    subst e2
    refine fin_one Try.results60 ⟨g, hg, ?_, hsub, by simpa using hgk⟩
    simp -implicitDefEqProofs (disch := omega) only [List.any_cons, List.any_nil, Nat.reduceEqDiff, List.map_cons, List.map_nil, Option.map_some, Option.map_none, List.nil_append, ↓reduceIte, vcu, ↓vcd, h3]
theorem list_eq {xs ys : List Cl} (hlen : xs.length = ys.length) (he : ∀ j, j < xs.length → xs.getD j cl0 = ys.getD j cl0) : xs = ys := by
  apply List.ext_getElem hlen
  intro i h1 h2
  have := he i h1
  simpa [List.getD, h1, h2] using this
theorem eqCalls_at (σ : AHeap) (h o g p : Nat) (xs ys : List Cl) (hv : TrisAt σ h o xs) (hu : TrisAt σ g p ys) (hl : xs.length ≤ 1048576) (hl2 : ys.length ≤ 1048576) :
    ACall Try.prog w0 61 [.slice (some ⟨h, o, none⟩) xs.length 3, .slice (some ⟨g, p, none⟩) ys.length 3] σ fun r σ' => r = .bool (decide (xs = ys)) ∧ σ' = σ := by
  refine acall_go mixed Try.func61 rfl good61 fun pr => ?_
  by_cases hlen : xs.length = ys.length
  · simp -implicitDefEqProofs (disch := omega) only [List.any_cons, List.any_nil, Nat.reduceEqDiff, List.map_cons, List.map_nil, Option.map_some, Option.map_none, List.nil_append, ↓reduceIte, vcu, ↓vcd]
    refine vc_loop_c mixed (by kernel_rfl) [0, 1] (fun m a σ' => ∃ k : Nat, m + k = xs.length ∧ a 5 = .int .i64 k ∧ σ' = σ ∧ ∀ j, j < k → xs.getD j cl0 = ys.getD j cl0) xs.length ⟨0, by simp, rfl, rfl, by simp⟩ ?_
    rintro m a σ' hc ⟨k, hk, h5, rfl, he⟩
    simp -implicitDefEqProofs (disch := omega) only [List.any_cons, List.any_nil, Nat.reduceEqDiff, List.map_cons, List.map_nil, Option.map_some, Option.map_none, List.nil_append, ↓reduceIte, vcu, ↓vcd] at hc
    obtain ⟨h0, h1, -⟩ := hc
    by_cases hlt : k < xs.length
    · have hx := hv.all hlt
      have hy := hu.all (show k < ys.length by omega)
      generalize hcx : xs.getD k cl0 = c at hx
      generalize hcy : ys.getD k cl0 = d at hy
      obtain ⟨A, B, C⟩ := c
      obtain ⟨D, E, F⟩ := d
      simp -implicitDefEqProofs (disch := omega) only [List.any_cons, List.any_nil, Nat.reduceEqDiff, List.map_cons, List.map_nil, Option.map_some, Option.map_none, List.nil_append, ↓reduceIte, vcu, ↓vcd, h0, h1, h5, hx, hy, co34]
      rw [r_callq]
      refine ⟨_, eqCall_at _ A B C D E F, ?_⟩
      by_cases hxy : (⟨A, B, C⟩ : Cl) = ⟨D, E, F⟩
      · rw [decide_eq_true hxy]
        simp -implicitDefEqProofs (disch := omega) only [List.any_cons, List.any_nil, Nat.reduceEqDiff, List.map_cons, List.map_nil, Option.map_some, Option.map_none, List.nil_append, ↓reduceIte, vcu, ↓vcd, h0, h1, h5]
        refine ⟨⟨trivial, trivial, trivial⟩, m - 1, by omega, k + 1, by omega, by simp, trivial, fun j hj => ?_⟩
        by_cases e : j = k
        · subst e; rw [hcx, hcy]; exact hxy
        · exact he j (by omega)
      · rw [decide_eq_false hxy]
        simp -implicitDefEqProofs (disch := omega) only [List.any_cons, List.any_nil, Nat.reduceEqDiff, List.map_cons, List.map_nil, Option.map_some, Option.map_none, List.nil_append, ↓reduceIte, vcu, ↓vcd, h0, h1, h5]
        refine fin_one Try.results61 ⟨?_, rfl⟩
        simp -implicitDefEqProofs (disch := omega) only [List.any_cons, List.any_nil, Nat.reduceEqDiff, List.map_cons, List.map_nil, Option.map_some, Option.map_none, List.nil_append, ↓reduceIte, vcu, ↓vcd]
        have : xs ≠ ys := fun e => hxy (by rw [← hcx, ← hcy, e])
        simp [this]
    · simp -implicitDefEqProofs (disch := omega) only [List.any_cons, List.any_nil, Nat.reduceEqDiff, List.map_cons, List.map_nil, Option.map_some, Option.map_none, List.nil_append, ↓reduceIte, vcu, ↓vcd, h0, h1, h5]
      refine fin_one Try.results61 ⟨?_, rfl⟩
      simp -implicitDefEqProofs (disch := omega) only [List.any_cons, List.any_nil, Nat.reduceEqDiff, List.map_cons, List.map_nil, Option.map_some, Option.map_none, List.nil_append, ↓reduceIte, vcu, ↓vcd]
      have : xs = ys := list_eq hlen fun j hj => he j (by omega)
      simp [this]
  · simp -implicitDefEqProofs (disch := omega) only [List.any_cons, List.any_nil, Nat.reduceEqDiff, List.map_cons, List.map_nil, Option.map_some, Option.map_none, List.nil_append, ↓reduceIte, vcu, ↓vcd]
    refine fin_one Try.results61 ⟨?_, rfl⟩
    simp -implicitDefEqProofs (disch := omega) only [List.any_cons, List.any_nil, Nat.reduceEqDiff, List.map_cons, List.map_nil, Option.map_some, Option.map_none, List.nil_append, ↓reduceIte, vcu, ↓vcd]
    have : xs ≠ ys := fun e => hlen (by rw [e])
    simp [this]
theorem eqCalls_calls (σ : AHeap) (v u : Value) (xs ys : List Cl) (hv : Tris σ v xs) (hu : Tris σ u ys) (hl : xs.length ≤ 1048576) (hl2 : ys.length ≤ 1048576) :
    ACall Try.prog w0 61 [v, u] σ fun r σ' => r = .bool (decide (xs = ys)) ∧ σ' = σ :=
  ACall.tris_quiet (pre := []) (post := [u]) (by kernel_rfl) hv fun σ1 h o hs hg =>
    ACall.tris_quiet (pre := [_]) (post := []) (by kernel_rfl) (hu.sub hs) fun σ2 g p hs2 hg2 => eqCalls_at σ2 h o g p xs ys (hg.sub hs2) hg2 hl hl2

def marks3 (n : Nat) (k : Int) : List Cl := (List.range n).map fun (i : Nat) => ⟨k + 3 * i, k + 3 * i + 1, k + 3 * i + 1 + 1⟩
theorem marks3_length (n : Nat) (k : Int) : (marks3 n k).length = n := by simp [marks3]
theorem marks3_getD {n i : Nat} {k : Int} (h : i < n) : (marks3 n k).getD i cl0 = ⟨k + 3 * i, k + 3 * i + 1, k + 3 * i + 1 + 1⟩ := by simp [marks3, List.getD, h]
theorem marks3_succ (n : Nat) (k : Int) : marks3 (n + 1) k = marks3 n k ++ [⟨k + 3 * n, k + 3 * n + 1, k + 3 * n + 1 + 1⟩] := by simp [marks3, List.range_succ]
theorem setC_drop (A xs : List Cl) (v : Cl) {i : Nat} (hA : A.length = i) (h : i < xs.length) : (A ++ xs.drop i).set i v = A ++ [v] ++ xs.drop (i + 1) := by
  rw [List.set_append_right _ _ (by omega), hA, Nat.sub_self, List.drop_eq_getElem_cons h, List.set_cons_zero, List.append_assoc]; rfl
theorem setC_mid (A D : List Cl) (u v : Cl) {i : Nat} (hA : A.length = i) : (A ++ [u] ++ D).set i v = A ++ [v] ++ D ∧ (A ++ [u] ++ D).getD i cl0 = u := by
  subst hA
  refine ⟨?_, by simp [List.getD]⟩
  rw [List.append_assoc, List.set_append_right _ _ (Nat.le_refl _), Nat.sub_self, List.singleton_append, List.set_cons_zero, List.append_assoc]; rfl
theorem markC_own (σ : AHeap) (g : Nat) (cs : List Cl) (k : Int) (hg : σ g = some ⟨tris cs, false⟩) (hl : cs.length ≤ 1048576) (hk : 0 ≤ k ∧ k ≤ 1099511627776) :
    ACall Try.prog w0 63 [.slice (some ⟨g, 0, none⟩) cs.length 3, .int .i64 k] σ fun r σ' => r = .int .i64 (k + 3 * cs.length) ∧ Kept g σ σ' ∧ σ' g = some ⟨tris (marks3 cs.length k), false⟩ := by
  refine acall_go mixed Try.func63 rfl good63 fun pr => ?_
  simp -implicitDefEqProofs (disch := omega) only [List.any_cons, List.any_nil, Nat.reduceEqDiff, List.map_cons, List.map_nil, Option.map_some, Option.map_none, List.nil_append, ↓reduceIte, vcu, ↓vcd]
  refine vc_loop_c mixed (by kernel_rfl) [0] (fun m a σ' => ∃ i : Nat, m + i = cs.length ∧ a 1 = .int .i64 (k + 3 * i) ∧ a 5 = .int .i64 i ∧ Kept g σ σ' ∧ σ' g = some ⟨tris (marks3 i k ++ cs.drop i), false⟩) cs.length ⟨0, by simp, by simp [fset, aenter], rfl, Kept.refl _ _, by simpa [marks3] using hg⟩ ?_
  rintro m a σ' hc ⟨i, hi, h1, h5, hkp, hgk⟩
  simp -implicitDefEqProofs (disch := omega) only [List.any_cons, List.any_nil, Nat.reduceEqDiff, List.map_cons, List.map_nil, Option.map_some, Option.map_none, List.nil_append, ↓reduceIte, vcu, ↓vcd] at hc
  obtain ⟨h0, -⟩ := hc
  by_cases hlt : i < cs.length
  · have hl2 : (marks3 i k ++ cs.drop i).length = cs.length := by simp [marks3_length]; omega
    have hml := marks3_length i k
    simp -implicitDefEqProofs (disch := omega) only [List.any_cons, List.any_nil, Nat.reduceEqDiff, List.map_cons, List.map_nil, Option.map_some, Option.map_none, List.nil_append, ↓reduceIte, vcu, ↓vcd, h0, h1, h5]
    refine r_set (g := g) (i := i * 3) (by simp -implicitDefEqProofs (disch := omega) only [List.any_cons, List.any_nil, Nat.reduceEqDiff, List.map_cons, List.map_nil, Option.map_some, Option.map_none, List.nil_append, ↓reduceIte, vcu, ↓vcd, Nat.zero_add, Nat.add_zero]) (by simp -implicitDefEqProofs (disch := omega) only [List.any_cons, List.any_nil, Nat.reduceEqDiff, List.map_cons, List.map_nil, Option.map_some, Option.map_none, List.nil_append, ↓reduceIte, vcu, ↓vcd]; rfl) co3 (by simp -implicitDefEqProofs (disch := omega) only [List.any_cons, List.any_nil, Nat.reduceEqDiff, List.map_cons, List.map_nil, Option.map_some, Option.map_none, List.nil_append, ↓reduceIte, vcu, ↓vcd]; rfl) hgk (by rw [tris_length, hl2]; omega) fun τ1 k1 e1 => ?_
    simp -implicitDefEqProofs (disch := omega) only [List.any_cons, List.any_nil, Nat.reduceEqDiff, List.map_cons, List.map_nil, Option.map_some, Option.map_none, List.nil_append, ↓reduceIte, vcu, ↓vcd] at e1
    rw [(tris_set _ i (by omega) _).1, setC_drop _ _ _ hml hlt] at e1
    generalize (marks3 i k ++ cs.drop i).getD i cl0 = c at e1
    have hl3 : ∀ u : Cl, (marks3 i k ++ [u] ++ cs.drop (i + 1)).length = cs.length := fun u => by simp [marks3_length]; omega
    simp -implicitDefEqProofs (disch := omega) only [List.any_cons, List.any_nil, Nat.reduceEqDiff, List.map_cons, List.map_nil, Option.map_some, Option.map_none, List.nil_append, ↓reduceIte, vcu, ↓vcd, h0, h1, h5]
    refine r_set (g := g) (i := i * 3 + 1) (by simp -implicitDefEqProofs (disch := omega) only [List.any_cons, List.any_nil, Nat.reduceEqDiff, List.map_cons, List.map_nil, Option.map_some, Option.map_none, List.nil_append, ↓reduceIte, vcu, ↓vcd, Nat.zero_add]) (by simp -implicitDefEqProofs (disch := omega) only [List.any_cons, List.any_nil, Nat.reduceEqDiff, List.map_cons, List.map_nil, Option.map_some, Option.map_none, List.nil_append, ↓reduceIte, vcu, ↓vcd]; rfl) co3 (by simp -implicitDefEqProofs (disch := omega) only [List.any_cons, List.any_nil, Nat.reduceEqDiff, List.map_cons, List.map_nil, Option.map_some, Option.map_none, List.nil_append, ↓reduceIte, vcu, ↓vcd]; rfl) e1 (by rw [tris_length, hl3]; omega) fun τ2 k2 e2 => ?_
    simp -implicitDefEqProofs (disch := omega) only [List.any_cons, List.any_nil, Nat.reduceEqDiff, List.map_cons, List.map_nil, Option.map_some, Option.map_none, List.nil_append, ↓reduceIte, vcu, ↓vcd] at e2
    rw [(tris_set _ i (by rw [hl3]; omega) _).2.1, (setC_mid _ _ _ _ hml).1, (setC_mid _ _ _ cl0 hml).2] at e2
    dsimp only at e2
    simp -implicitDefEqProofs (disch := omega) only [List.any_cons, List.any_nil, Nat.reduceEqDiff, List.map_cons, List.map_nil, Option.map_some, Option.map_none, List.nil_append, ↓reduceIte, vcu, ↓vcd, h0, h1, h5]
    refine r_set (g := g) (i := i * 3 + 2) (by simp -implicitDefEqProofs (disch := omega) only [List.any_cons, List.any_nil, Nat.reduceEqDiff, List.map_cons, List.map_nil, Option.map_some, Option.map_none, List.nil_append, ↓reduceIte, vcu, ↓vcd, Nat.zero_add]) (by simp -implicitDefEqProofs (disch := omega) only [List.any_cons, List.any_nil, Nat.reduceEqDiff, List.map_cons, List.map_nil, Option.map_some, Option.map_none, List.nil_append, ↓reduceIte, vcu, ↓vcd]; rfl) co3 (by simp -implicitDefEqProofs (disch := omega) only [List.any_cons, List.any_nil, Nat.reduceEqDiff, List.map_cons, List.map_nil, Option.map_some, Option.map_none, List.nil_append, ↓reduceIte, vcu, ↓vcd]; rfl) e2 (by rw [tris_length, hl3]; omega) fun τ3 k3 e3 => ?_
    simp -implicitDefEqProofs (disch := omega) only [List.any_cons, List.any_nil, Nat.reduceEqDiff, List.map_cons, List.map_nil, Option.map_some, Option.map_none, List.nil_append, ↓reduceIte, vcu, ↓vcd] at e3
    rw [(tris_set _ i (by rw [hl3]; omega) _).2.2, (setC_mid _ _ _ _ hml).1, (setC_mid _ _ _ cl0 hml).2] at e3
    dsimp only at e3
    rw [← marks3_succ] at e3
    simp -implicitDefEqProofs (disch := omega) only [List.any_cons, List.any_nil, Nat.reduceEqDiff, List.map_cons, List.map_nil, Option.map_some, Option.map_none, List.nil_append, ↓reduceIte, vcu, ↓vcd, h0, h1, h5]
    refine ⟨⟨trivial, trivial⟩, m - 1, by omega, i + 1, by omega, ?_, by simp, ((hkp.trans k1).trans k2).trans k3, e3⟩
    congr 1; omega
  · simp -implicitDefEqProofs (disch := omega) only [List.any_cons, List.any_nil, Nat.reduceEqDiff, List.map_cons, List.map_nil, Option.map_some, Option.map_none, List.nil_append, ↓reduceIte, vcu, ↓vcd, h0, h1, h5]
    have e : i = cs.length := by omega
    subst e
    refine fin_one Try.results63 ⟨?_, hkp, by simpa using hgk⟩
    simp -implicitDefEqProofs (disch := omega) only [List.any_cons, List.any_nil, Nat.reduceEqDiff, List.map_cons, List.map_nil, Option.map_some, Option.map_none, List.nil_append, ↓reduceIte, vcu, ↓vcd, h1]
theorem heldC_at (σ : AHeap) (g o n : Nat) (k : Int) (hv : TrisAt σ g o (marks3 n k)) (hl : n ≤ 1048576) (hk : 0 ≤ k ∧ k ≤ 1099511627776) :
    ACall Try.prog w0 66 [.slice (some ⟨g, o, none⟩) n 3, .int .i64 k] σ fun r σ' => r = .int .i64 (k + 3 * n) ∧ σ' = σ := by
  refine acall_go mixed Try.func66 rfl good66 fun pr => ?_
  simp -implicitDefEqProofs (disch := omega) only [List.any_cons, List.any_nil, Nat.reduceEqDiff, List.map_cons, List.map_nil, Option.map_some, Option.map_none, List.nil_append, ↓reduceIte, vcu, ↓vcd]
  refine vc_loop_c mixed (by kernel_rfl) [0] (fun m a σ' => ∃ i : Nat, m + i = n ∧ a 1 = .int .i64 (k + 3 * i) ∧ a 5 = .int .i64 i ∧ σ' = σ) n ⟨0, by simp, by simp [fset, aenter], rfl, rfl⟩ ?_
  rintro m a σ' hc ⟨i, hi, h1, h5, rfl⟩
  simp -implicitDefEqProofs (disch := omega) only [List.any_cons, List.any_nil, Nat.reduceEqDiff, List.map_cons, List.map_nil, Option.map_some, Option.map_none, List.nil_append, ↓reduceIte, vcu, ↓vcd] at hc
  obtain ⟨h0, -⟩ := hc
  by_cases hlt : i < n
  · obtain ⟨q1, q2, q3⟩ := hv i (by rw [marks3_length]; exact hlt)
    rw [marks3_getD hlt] at q1 q2 q3
    dsimp only at q1 q2 q3
    simp -implicitDefEqProofs (disch := omega) only [List.any_cons, List.any_nil, Nat.reduceEqDiff, List.map_cons, List.map_nil, Option.map_some, Option.map_none, List.nil_append, ↓reduceIte, vcu, ↓vcd, h0, h1, h5, q1, q2, q3, Nat.add_zero]
    refine ⟨⟨trivial, trivial⟩, m - 1, by omega, i + 1, by omega, ?_, by simp, trivial⟩
    congr 1; omega
  · simp -implicitDefEqProofs (disch := omega) only [List.any_cons, List.any_nil, Nat.reduceEqDiff, List.map_cons, List.map_nil, Option.map_some, Option.map_none, List.nil_append, ↓reduceIte, vcu, ↓vcd, h0, h1, h5]
    have e : i = n := by omega
    subst e
    refine fin_one Try.results66 ⟨?_, rfl⟩
    simp -implicitDefEqProofs (disch := omega) only [List.any_cons, List.any_nil, Nat.reduceEqDiff, List.map_cons, List.map_nil, Option.map_some, Option.map_none, List.nil_append, ↓reduceIte, vcu, ↓vcd, h1]
/-- marks, whatever the row -/
theorem markC_calls (β σ : AHeap) (v : Value) (cs : List Cl) (k : Int) (hv : OwnC β σ v cs) (hl : cs.length ≤ 1048576) (hk : 0 ≤ k ∧ k ≤ 1099511627776) :
    ACall Try.prog w0 63 [v, .int .i64 k] σ fun r σ' => r = .int .i64 (k + 3 * cs.length) ∧ OwnC β σ' v (marks3 cs.length k) ∧ (∀ h ob, β h = some ob → σ h = some ob → σ' h = some ob) := by
  rcases hv with ⟨rfl, rfl⟩ | ⟨g, rfl, hg, hn⟩
  · refine ACall.nil_arg (pre := []) (z := 3) (by kernel_rfl) fun g hg => ?_
    refine (markC_own _ g [] k (AHeap.upd_same _ _ _) (by simp) hk).mono ?_
    rintro r σ' ⟨rfl, h1, h2⟩
    exact ⟨rfl, .inl ⟨rfl, rfl⟩, fun h ob _ e => h1 h ob (ne_of' hg e) (sub_upd hg h ob e)⟩
  · refine (markC_own σ g cs k hg hl hk).mono ?_
    rintro r σ' ⟨rfl, h1, h2⟩
    exact ⟨rfl, .inr ⟨g, by rw [marks3_length], h2, hn⟩, fun h ob hb e => h1 h ob (ne_of' hn hb) e⟩
theorem heldC_calls (σ : AHeap) (v : Value) (n : Nat) (k : Int) (hv : Tris σ v (marks3 n k)) (hl : n ≤ 1048576) (hk : 0 ≤ k ∧ k ≤ 1099511627776) :
    ACall Try.prog w0 66 [v, .int .i64 k] σ fun r σ' => r = .int .i64 (k + 3 * n) ∧ σ' = σ :=
  ACall.tris_quiet (pre := []) (by kernel_rfl) hv fun σ1 g o _ hg => by
    rw [marks3_length]; exact heldC_at σ1 g o n k hg hl hk
end Go.Proofs.Ytphacjkogompoaa
