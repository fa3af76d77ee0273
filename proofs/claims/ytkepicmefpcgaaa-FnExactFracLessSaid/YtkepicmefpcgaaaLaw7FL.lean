/- FnExactFracLess answers true for all fractions. -/
import Derived.Test.YtkepicmefpcgaaaGg
set_option linter.unusedSimpArgs false
set_option linter.unusedVariables false
namespace Go.Proofs.Ytkepicmefpcgaaa
open Go Go.Abs Go.RowKit
variable {w0 : World}

theorem law7FL (σ : AHeap) (x y z w : Int) (hx : (Lit.int .i64 x).wf = true) (hy : (Lit.int .i64 y).wf = true) (hz : (Lit.int .i64 z).wf = true) (hw : (Lit.int .i64 w).wf = true) :
    ACall Try.prog w0 11 [.agg #[.int .i64 x, .int .i64 y], .agg #[.int .i64 z, .int .i64 w]] σ fun r _ => r = .bool true := by
  refine acall_go mixed Try.func11 rfl good11 fun pr => ?_
  simp -implicitDefEqProofs (disch := omega) only [List.any_cons, List.any_nil, Nat.reduceEqDiff, List.map_cons, List.map_nil, Option.map_some, Option.map_none, List.nil_append, ↓reduceIte, vcu, ↓vcd]
  refine r_boxed fun b τ1 nb s1 e1 => ?_
  replace e1 : τ1 b = some ⟨[.int .i64 x, .int .i64 y], false⟩ := e1
  refine r_boxed fun c τ nc s2 e2 => ?_
  replace e2 : τ c = some ⟨[.int .i64 z, .int .i64 w], false⟩ := by rw [e2]; simp -implicitDefEqProofs (disch := omega) only [List.any_cons, List.any_nil, Nat.reduceEqDiff, List.map_cons, List.map_nil, Option.map_some, Option.map_none, List.nil_append, ↓reduceIte, vcu, ↓vcd]; rfl
  replace e1 := s2 _ _ e1
  have l2 : lds τ b 0 2 = some [.int .i64 x, .int .i64 y] := lds_two (ld_of e1 rfl) (ld_of e1 rfl)
  have m2 : lds τ c 0 2 = some [.int .i64 z, .int .i64 w] := lds_two (ld_of e2 rfl) (ld_of e2 rfl)
  simp -implicitDefEqProofs (disch := omega) only [List.any_cons, List.any_nil, Nat.reduceEqDiff, List.map_cons, List.map_nil, Option.map_some, Option.map_none, List.nil_append, ↓reduceIte, vcu, ↓vcd, l2, co43]
  rw [r_callq]
  refine ⟨_, toFrac_at τ x y, ?_⟩
  simp -implicitDefEqProofs (disch := omega) only [List.any_cons, List.any_nil, Nat.reduceEqDiff, List.map_cons, List.map_nil, Option.map_some, Option.map_none, List.nil_append, ↓reduceIte, vcu, ↓vcd, m2, co43]
  rw [r_callq]
  refine ⟨_, toFrac_at τ z w, ?_⟩
  rw [r_callq]
  refine ⟨_, specFL_at τ x y z w, ?_⟩
  simp -implicitDefEqProofs (disch := omega) only [List.any_cons, List.any_nil, Nat.reduceEqDiff, List.map_cons, List.map_nil, Option.map_some, Option.map_none, List.nil_append, ↓reduceIte, vcu, ↓vcd, l2, co43]
  rw [r_callq]
  refine ⟨_, toFrac_at τ x y, ?_⟩
  simp -implicitDefEqProofs (disch := omega) only [List.any_cons, List.any_nil, Nat.reduceEqDiff, List.map_cons, List.map_nil, Option.map_some, Option.map_none, List.nil_append, ↓reduceIte, vcu, ↓vcd, m2, co43]
  rw [r_callq]
  refine ⟨_, toFrac_at τ z w, ?_⟩
  rw [r_callq]
  refine ⟨_, implFL_at w0 τ x y z w, ?_⟩
  simp -implicitDefEqProofs (disch := omega) only [List.any_cons, List.any_nil, Nat.reduceEqDiff, List.map_cons, List.map_nil, Option.map_some, Option.map_none, List.nil_append, ↓reduceIte, vcu, ↓vcd, beq_self_eq_true, Bool.not_true]
  refine fin_one Try.results11 ?_
  simp -implicitDefEqProofs (disch := omega) only [List.any_cons, List.any_nil, Nat.reduceEqDiff, List.map_cons, List.map_nil, Option.map_some, Option.map_none, List.nil_append, ↓reduceIte, vcu, ↓vcd]

open Go.ChangeShapes Go.WideShapes Go.ChangeAt Go.RowKit

set_option maxRecDepth 100000 in
theorem lifted11 (os : Os) (started : os.Started) (H : Type) (enc : TypeId × Value → H) :
    ReturnsInHanded {} Try.checked os 11 .any (Rows.fnExactFracLessSpec.pre6 enc Try.prog Try.f11 Rows.fnExactFracLessRow.domain false) (Rows.fnExactFracLessSpec.post enc Try.prog Try.f11 false true false false) := by
  refine returnsInHanded_of_change (C := Try.checked) own started (by kernel_rfl) Try.func11
    (ChangeSpec.witness6 (enc := enc) (C := Try.checked) false ⟨#[], #[.agg #[.int .i64 0, .int .i64 0], .agg #[.int .i64 0, .int .i64 0]], []⟩ 8 (by kernel_rfl) (by kernel_rfl) (by kernel_rfl) (by kernel_rfl)) ?_
  intro W base args ds gs before hval hW _ _
  have hW' := hW
  obtain ⟨p, q, hA, hV, -, -, -⟩ := hW'
  rw [Try.params11] at hA hval
  obtain ⟨v0, vs0, d0, ds0, p0, q0, hargs, rfl, rfl, h0, r0⟩ := trodAll_cons hA
  obtain ⟨v1, vs1, d1, ds1, p1, q1, rfl, rfl, rfl, h1, r1⟩ := trodAll_cons r0
  obtain ⟨rfl, rfl, rfl⟩ := trodAll_nil r1
  obtain ⟨rfl, rfl⟩ := trodVars_none hV
  obtain rfl : args = #[v0, v1] := by cases args; simp_all
  obtain ⟨β0, σ0, acs0, dd0, L0, U0, S0, R0, Y0⟩ := start_rec (m := 4) (s := .rcd [.int .i64, .int .i64]) (by kernel_rfl) Try.underlying43 (Start.start W) (hval 0 43 v0 rfl rfl) h0
  obtain ⟨x0, y0, rfl, wx0, wy0⟩ := lay_two Y0
  obtain ⟨β1, σ1, acs1, dd1, L1, U1, S1, R1, Y1⟩ := start_rec (m := 4) (s := .rcd [.int .i64, .int .i64]) (by kernel_rfl) Try.underlying43 S0 (hval 1 43 v1 rfl rfl) h1
  obtain ⟨x1, y1, rfl, wx1, wy1⟩ := lay_two Y1
  refine ((law7FL σ1 x0 y0 x1 y1 wx0 wy0 wx1 wy1).2 noProt β1 W [v0, v1] S1.rel (.cons (RelV.mono L1 R0) (.cons R1 (.nil _)))).mono fun e W' h => ?_
  obtain ⟨β', r, r', σ', -, rfl, hr, hrel, rfl⟩ := h
  cases hr
  exact ⟨_, rfl, law_post laidOut hW rfl rfl (by rw [Try.params11]; intro t ht; simp only [List.mem_cons, List.not_mem_nil, or_false, or_self] at ht; rcases ht with rfl <;> exact ⟨by kernel_rfl, of_decide_eq_true (by kernel_rfl)⟩) rfl Try.underlying4 hrel.below⟩

theorem facts11 : joinedFacts Try.prog 11 Try.f11 Rows.fnExactFracLessSpec Rows.fnExactFracLessRow = true := by
  unfold joinedFacts
  rw [mayE, liftsE, makeE]
  kernel_rfl

theorem proved11 : Rows.FnExactFracLessSaid :=
  OpenClaim.holds_of_wide 11 Try.f11 rfl rfl rfl rfl rfl rfl rfl ⟨rfl, rfl, rfl, rfl, rfl⟩ rfl rfl rfl rfl rfl (by kernel_rfl) Try.func11 facts11 (of_decide_eq_true (by kernel_rfl))
    (by unfold Func.isWrapper; first | (rw [if_pos (by decide +kernel)]; kernel_rfl) | (rw [if_neg (by decide +kernel)]; exact ⟨rfl, rfl⟩))
    (fun os started H enc _ => lifted11 os started H enc)


end Go.Proofs.Ytkepicmefpcgaaa
