/- FnExactFrameOk answers true for every two tables. -/
import Derived.Test.YtpcbgdgfdfpapaaFl
set_option linter.unusedSimpArgs false
set_option linter.unusedVariables false
namespace Go.Proofs.Ytpcbgdgfdfpapaa
open Go Go.Abs Go.RowKit Go.Frames
variable {w0 : World}

theorem law5Ok (σ : AHeap) (v : Value) (T : List (List Int)) (u : Value) (F : List (List Int)) (hv : RowsV σ v T) (hm : T.length ≤ maxLen) (hw : ∀ row ∈ T, row.length ≤ maxLen ∧ ∀ z ∈ row, (Lit.int .i64 z).wf = true)
    (hu : RowsV σ u F) (hm2 : F.length ≤ maxLen) (hw2 : ∀ row ∈ F, row.length ≤ maxLen ∧ ∀ z ∈ row, (Lit.int .i64 z).wf = true) :
    ACall Try.prog w0 10 [v, u] σ fun r _ => r = .bool true := by
  refine ACall.rows_arg (pre := []) (by kernel_rfl) hv fun σ0 h o hs0 hg => ?_
  refine ACall.rows_arg (pre := [_]) (post := []) (by kernel_rfl) (hu.sub hs0) fun σ1 h2 o2 hs hg2 => ?_
  replace hg := hg.sub hs
  clear hv hu hs0 hs σ σ0 v u
  refine acall_go mixed Try.func10 rfl good10 fun pr => ?_
  simp -implicitDefEqProofs (disch := omega) only [List.any_cons, List.any_nil, Nat.reduceEqDiff, List.map_cons, List.map_nil, Option.map_some, Option.map_none, List.nil_append, ↓reduceIte, vcu, ↓vcd]
  refine (szRows_at σ1 h o T 1048576 hg (by omega) hm (fun i hi => (hw _ (by simp [List.getD, hi])).1)).mono ?_
  rintro r _ ⟨z, rfl, rfl, hz1, hz2, hz⟩
  by_cases hneg : z < 0
  · simp -implicitDefEqProofs (disch := omega) only [List.any_cons, List.any_nil, Nat.reduceEqDiff, List.map_cons, List.map_nil, Option.map_some, Option.map_none, List.nil_append, ↓reduceIte, vcu, ↓vcd, opK_some]
    refine fin_one Try.results10 ?_
    simp -implicitDefEqProofs (disch := omega) only [List.any_cons, List.any_nil, Nat.reduceEqDiff, List.map_cons, List.map_nil, Option.map_some, Option.map_none, List.nil_append, ↓reduceIte, vcu, ↓vcd]
  obtain ⟨hl, hr⟩ := hz (by omega)
  rename_i σ1
  simp -implicitDefEqProofs (disch := omega) only [List.any_cons, List.any_nil, Nat.reduceEqDiff, List.map_cons, List.map_nil, Option.map_some, Option.map_none, List.nil_append, ↓reduceIte, vcu, ↓vcd, opK_some]
  refine (szRows_at σ1 h2 o2 F z hg2 (by omega) hm2 (fun i hi => (hw2 _ (by simp [List.getD, hi])).1)).mono ?_
  rintro r _ ⟨z2, rfl, rfl, hz3, hz4, hz5⟩
  by_cases hneg2 : z2 < 0
  · simp -implicitDefEqProofs (disch := omega) only [List.any_cons, List.any_nil, Nat.reduceEqDiff, List.map_cons, List.map_nil, Option.map_some, Option.map_none, List.nil_append, ↓reduceIte, vcu, ↓vcd, opK_some]
    refine fin_one Try.results10 ?_
    simp -implicitDefEqProofs (disch := omega) only [List.any_cons, List.any_nil, Nat.reduceEqDiff, List.map_cons, List.map_nil, Option.map_some, Option.map_none, List.nil_append, ↓reduceIte, vcu, ↓vcd]
  obtain ⟨hl2, hr2⟩ := hz5 (by omega)
  rename_i σ1
  simp -implicitDefEqProofs (disch := omega) only [List.any_cons, List.any_nil, Nat.reduceEqDiff, List.map_cons, List.map_nil, Option.map_some, Option.map_none, List.nil_append, ↓reduceIte, vcu, ↓vcd, opK_some]
  refine (toRows_at σ1 h o T hg hl hr).mono ?_
  rintro r τ1 ⟨g1, n1, rfl, s1, e1⟩
  simp -implicitDefEqProofs (disch := omega) only [List.any_cons, List.any_nil, Nat.reduceEqDiff, List.map_cons, List.map_nil, Option.map_some, Option.map_none, List.nil_append, ↓reduceIte, vcu, ↓vcd, opK_some]
  refine (toRows_at τ1 h2 o2 F (hg2.sub s1) hl2 hr2).mono ?_
  rintro r τ2 ⟨g2, n2, rfl, s2, e2⟩
  simp -implicitDefEqProofs (disch := omega) only [List.any_cons, List.any_nil, Nat.reduceEqDiff, List.map_cons, List.map_nil, Option.map_some, Option.map_none, List.nil_append, ↓reduceIte, vcu, ↓vcd, opK_some]
  refine (specFrOk_at τ2 g1 0 g2 0 T F (e1.sub s2) hl e2 hl2 hr2).mono ?_
  rintro r τ3 ⟨rfl, t1⟩
  have s03 := (s1.trans s2).trans t1
  simp -implicitDefEqProofs (disch := omega) only [List.any_cons, List.any_nil, Nat.reduceEqDiff, List.map_cons, List.map_nil, Option.map_some, Option.map_none, List.nil_append, ↓reduceIte, vcu, ↓vcd, opK_some]
  refine (toRows_at τ3 h o T (hg.sub s03) hl hr).mono ?_
  rintro r τ4 ⟨gx, nx, rfl, s4, ex⟩
  simp -implicitDefEqProofs (disch := omega) only [List.any_cons, List.any_nil, Nat.reduceEqDiff, List.map_cons, List.map_nil, Option.map_some, Option.map_none, List.nil_append, ↓reduceIte, vcu, ↓vcd, opK_some]
  refine (toRows_at τ4 h2 o2 F ((hg2.sub s03).sub s4) hl2 hr2).mono ?_
  rintro r τ5 ⟨gy, ny, rfl, s5, ey⟩
  have s35 := s4.trans s5
  simp -implicitDefEqProofs (disch := omega) only [List.any_cons, List.any_nil, Nat.reduceEqDiff, List.map_cons, List.map_nil, Option.map_some, Option.map_none, List.nil_append, ↓reduceIte, vcu, ↓vcd, opK_some]
  refine (implFrOk_calls w0 τ5 _ _ T F (.of (ex.sub s5) rfl) hl (.of ey rfl) hl2 hr2).mono ?_
  rintro r τ6 ⟨rfl, t6⟩
  simp -implicitDefEqProofs (disch := omega) only [List.any_cons, List.any_nil, Nat.reduceEqDiff, List.map_cons, List.map_nil, Option.map_some, Option.map_none, List.nil_append, ↓reduceIte, vcu, ↓vcd, opK_some, eq_self, decide_true, beq_self_eq_true, Bool.not_true]
  refine (toRows_at τ6 h o T (((hg.sub s03).sub s35).sub t6) hl hr).mono ?_
  rintro r τ7 ⟨g7, n7, rfl, s7, e7⟩
  simp -implicitDefEqProofs (disch := omega) only [List.any_cons, List.any_nil, Nat.reduceEqDiff, List.map_cons, List.map_nil, Option.map_some, Option.map_none, List.nil_append, ↓reduceIte, vcu, ↓vcd, opK_some]
  refine (eqRows_at τ7 gx 0 g7 0 T T (((ex.sub s5).sub t6).sub s7) e7 hl rfl hr).mono ?_
  rintro r _ ⟨rfl, rfl⟩
  rename_i τ7
  simp -implicitDefEqProofs (disch := omega) only [List.any_cons, List.any_nil, Nat.reduceEqDiff, List.map_cons, List.map_nil, Option.map_some, Option.map_none, List.nil_append, ↓reduceIte, vcu, ↓vcd, opK_some, Bool.not_true]
  refine (toRows_at τ7 h2 o2 F ((((hg2.sub s03).sub s35).sub t6).sub s7) hl2 hr2).mono ?_
  rintro r τ8 ⟨g8, n8, rfl, s8, e8⟩
  simp -implicitDefEqProofs (disch := omega) only [List.any_cons, List.any_nil, Nat.reduceEqDiff, List.map_cons, List.map_nil, Option.map_some, Option.map_none, List.nil_append, ↓reduceIte, vcu, ↓vcd, opK_some]
  refine (eqRows_at τ8 gy 0 g8 0 F F (((ey.sub t6).sub s7).sub s8) e8 hl2 rfl hr2).mono ?_
  rintro r _ ⟨rfl, rfl⟩
  simp -implicitDefEqProofs (disch := omega) only [List.any_cons, List.any_nil, Nat.reduceEqDiff, List.map_cons, List.map_nil, Option.map_some, Option.map_none, List.nil_append, ↓reduceIte, vcu, ↓vcd, opK_some, Bool.not_true]
  refine fin_one Try.results10 ?_
  simp -implicitDefEqProofs (disch := omega) only [List.any_cons, List.any_nil, Nat.reduceEqDiff, List.map_cons, List.map_nil, Option.map_some, Option.map_none, List.nil_append, ↓reduceIte, vcu, ↓vcd]

open Go.ChangeShapes Go.WideShapes Go.ChangeAt Go.RowKit

set_option maxRecDepth 100000 in
theorem lifted10 (os : Os) (started : os.Started) (H : Type) (enc : TypeId × Value → H) :
    ReturnsInHanded {} Try.checked os 10 .any (Rows.fnExactFrameOkSpec.pre6 enc Try.prog Try.f10 Rows.fnExactFrameOkRow.domain false) (Rows.fnExactFrameOkSpec.post enc Try.prog Try.f10 false true false false) := by
  refine returnsInHanded_of_change (C := Try.checked) own started (by kernel_rfl) Try.func10
    (ChangeSpec.witness6 (enc := enc) (C := Try.checked) false ⟨#[], #[.slice none 0 0, .slice none 0 0], []⟩ 8 (by kernel_rfl) (by kernel_rfl) (by kernel_rfl) (by kernel_rfl)) ?_
  intro W base args ds gs before hval hW _ _
  have hW' := hW
  obtain ⟨p, q, hA, hV, -, -, -⟩ := hW'
  rw [Try.params10] at hA hval
  obtain ⟨v0, vs0, d0, ds0, p0, q0, hargs, rfl, rfl, h0, r0⟩ := trodAll_cons hA
  obtain ⟨v1, vs1, d1, ds1, p1, q1, rfl, rfl, rfl, h1, r1⟩ := trodAll_cons r0
  obtain ⟨rfl, rfl, rfl⟩ := trodAll_nil r1
  obtain ⟨rfl, rfl⟩ := trodVars_none hV
  obtain rfl : args = #[v0, v1] := by cases args; simp_all
  obtain ⟨β0, σ0, a0, dd0, L0, U0, S0, R0, Y0⟩ := start_one (m := 4) (s := .slc (.slc (.int .i64))) (by kernel_rfl) (Start.start W) (slice_cells Try.underlying23 (hval 0 23 v0 rfl rfl)) h0
  obtain ⟨zs0, I0, w0, m0⟩ := lay_rows Y0
  obtain ⟨β1, σ1, a1, dd1, L1, U1, S1, R1, Y1⟩ := start_one (m := 4) (s := .slc (.slc (.int .i64))) (by kernel_rfl) S0 (slice_cells Try.underlying23 (hval 1 23 v1 rfl rfl)) h1
  obtain ⟨zs1, I1, w1, m1⟩ := lay_rows Y1
  refine ((law5Ok σ1 a0 zs0 a1 zs1 (I0.sub U1) m0 w0 (I1) m1 w1).2 noProt β1 W [v0, v1] S1.rel (.cons (RelV.mono L1 R0) (.cons R1 (.nil _)))).mono fun e W' h => ?_
  obtain ⟨β', r, r', σ', -, rfl, hr, hrel, rfl⟩ := h
  cases hr
  exact ⟨_, rfl, law_post laidOut hW rfl rfl (by rw [Try.params10]; intro t ht; simp only [List.mem_cons, List.not_mem_nil, or_false, or_self] at ht; rcases ht with rfl <;> exact ⟨by kernel_rfl, of_decide_eq_true (by kernel_rfl)⟩) rfl Try.underlying4 hrel.below⟩

theorem facts10 : joinedFacts Try.prog 10 Try.f10 Rows.fnExactFrameOkSpec Rows.fnExactFrameOkRow = true := by
  unfold joinedFacts
  rw [mayE, liftsE, makeE]
  kernel_rfl

theorem proved10 : Rows.FnExactFrameOkSaid :=
  OpenClaim.holds_of_wide 10 Try.f10 rfl rfl rfl rfl rfl rfl rfl ⟨rfl, rfl, rfl, rfl, rfl⟩ rfl rfl rfl rfl rfl (by kernel_rfl) Try.func10 facts10 (of_decide_eq_true (by kernel_rfl))
    (by unfold Func.isWrapper; first | (rw [if_pos (by decide +kernel)]; kernel_rfl) | (rw [if_neg (by decide +kernel)]; exact ⟨rfl, rfl⟩))
    (fun os started H enc _ => lifted10 os started H enc)


end Go.Proofs.Ytpcbgdgfdfpapaa
