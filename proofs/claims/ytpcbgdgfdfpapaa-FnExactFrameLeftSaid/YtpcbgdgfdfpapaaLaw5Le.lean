/- FnExactFrameLeft answers true for every two tables. -/
import Derived.Test.YtpcbgdgfdfpapaaFl
set_option linter.unusedSimpArgs false
set_option linter.unusedVariables false
namespace Go.Proofs.Ytpcbgdgfdfpapaa
open Go Go.Abs Go.RowKit Go.Frames
variable {w0 : World}

theorem leftV_small (T F : List (List Int)) : (leftV T F).length ≤ 6 ∧ ∀ i, i < (leftV T F).length → ((leftV T F).getD i []).length ≤ 6 := by
  rw [leftV_len]
  refine ⟨leftB_le T, fun i hi => ?_⟩
  have h1 := frameL_sq (leftB_sq T) F F.length
  have h2 : ((leftV T F).getD i []).length = (leftB T).length := h1.2 i hi
  rw [h2]; exact leftB_le T

theorem law5Le (σ : AHeap) (v : Value) (T : List (List Int)) (u : Value) (F : List (List Int)) (hv : RowsV σ v T) (hm : T.length ≤ maxLen) (hw : ∀ row ∈ T, row.length ≤ maxLen ∧ ∀ z ∈ row, (Lit.int .i64 z).wf = true)
    (hu : RowsV σ u F) (hm2 : F.length ≤ maxLen) (hw2 : ∀ row ∈ F, row.length ≤ maxLen ∧ ∀ z ∈ row, (Lit.int .i64 z).wf = true) :
    ACall Try.prog w0 11 [v, u] σ fun r _ => r = .bool true := by
  refine ACall.rows_arg (pre := []) (by kernel_rfl) hv fun σ0 h o hs0 hg => ?_
  refine ACall.rows_arg (pre := [_]) (post := []) (by kernel_rfl) (hu.sub hs0) fun σ1 h2 o2 hs hg2 => ?_
  replace hg := hg.sub hs
  clear hv hu hs0 hs σ σ0 v u
  refine acall_go mixed Try.func11 rfl good11 fun pr => ?_
  simp -implicitDefEqProofs (disch := omega) only [List.any_cons, List.any_nil, Nat.reduceEqDiff, List.map_cons, List.map_nil, Option.map_some, Option.map_none, List.nil_append, ↓reduceIte, vcu, ↓vcd]
  refine (szRows_at σ1 h o T 1048576 hg (by omega) hm (fun i hi => (hw _ (by simp [List.getD, hi])).1)).mono ?_
  rintro r _ ⟨z, rfl, rfl, hz1, hz2, hz⟩
  by_cases hneg : z < 0
  · simp -implicitDefEqProofs (disch := omega) only [List.any_cons, List.any_nil, Nat.reduceEqDiff, List.map_cons, List.map_nil, Option.map_some, Option.map_none, List.nil_append, ↓reduceIte, vcu, ↓vcd, opK_some]
    refine fin_one Try.results11 ?_
    simp -implicitDefEqProofs (disch := omega) only [List.any_cons, List.any_nil, Nat.reduceEqDiff, List.map_cons, List.map_nil, Option.map_some, Option.map_none, List.nil_append, ↓reduceIte, vcu, ↓vcd]
  obtain ⟨hl, hr⟩ := hz (by omega)
  rename_i σ1
  simp -implicitDefEqProofs (disch := omega) only [List.any_cons, List.any_nil, Nat.reduceEqDiff, List.map_cons, List.map_nil, Option.map_some, Option.map_none, List.nil_append, ↓reduceIte, vcu, ↓vcd, opK_some]
  refine (szRows_at σ1 h2 o2 F z hg2 (by omega) hm2 (fun i hi => (hw2 _ (by simp [List.getD, hi])).1)).mono ?_
  rintro r _ ⟨z2, rfl, rfl, hz3, hz4, hz5⟩
  by_cases hneg2 : z2 < 0
  · simp -implicitDefEqProofs (disch := omega) only [List.any_cons, List.any_nil, Nat.reduceEqDiff, List.map_cons, List.map_nil, Option.map_some, Option.map_none, List.nil_append, ↓reduceIte, vcu, ↓vcd, opK_some]
    refine fin_one Try.results11 ?_
    simp -implicitDefEqProofs (disch := omega) only [List.any_cons, List.any_nil, Nat.reduceEqDiff, List.map_cons, List.map_nil, Option.map_some, Option.map_none, List.nil_append, ↓reduceIte, vcu, ↓vcd]
  obtain ⟨hl2, hr2⟩ := hz5 (by omega)
  rename_i σ1
  simp -implicitDefEqProofs (disch := omega) only [List.any_cons, List.any_nil, Nat.reduceEqDiff, List.map_cons, List.map_nil, Option.map_some, Option.map_none, List.nil_append, ↓reduceIte, vcu, ↓vcd, opK_some]
  refine (toRows_at σ1 h o T hg hl hr).mono ?_
  rintro r τ1 ⟨g1, n1, rfl, s1, e1⟩
  simp -implicitDefEqProofs (disch := omega) only [List.any_cons, List.any_nil, Nat.reduceEqDiff, List.map_cons, List.map_nil, Option.map_some, Option.map_none, List.nil_append, ↓reduceIte, vcu, ↓vcd, opK_some]
  refine (toRows_at τ1 h2 o2 F (hg2.sub s1) hl2 hr2).mono ?_
  rintro r τ2 ⟨g2, n2, rfl, s2, e2⟩
  simp -implicitDefEqProofs (disch := omega) only [List.any_cons, List.any_nil, Nat.reduceEqDiff, List.map_cons, List.map_nil, Option.map_some, Option.map_none, List.nil_append, ↓reduceIte, vcu, ↓vcd, opK_some]
  refine (specLeft_at τ2 g1 0 g2 0 T F (e1.sub s2) hl e2 hl2 hr2).mono ?_
  rintro r τ3 ⟨t1, gw, qw, rfl, hw1⟩
  have s03 := (s1.trans s2).trans t1
  have hsm := leftV_small T F
  have hVl : (leftV T F).length ≤ 1048576 := by omega
  have hVr : ∀ i, i < (leftV T F).length → ((leftV T F).getD i []).length ≤ 1048576 := fun i hi => by have := hsm.2 i hi; omega
  simp -implicitDefEqProofs (disch := omega) only [List.any_cons, List.any_nil, Nat.reduceEqDiff, List.map_cons, List.map_nil, Option.map_some, Option.map_none, List.nil_append, ↓reduceIte, vcu, ↓vcd, opK_some]
  refine (toRowsO_at τ3 h o T (hg.sub s03) hl hr).mono ?_
  rintro r τ4 ⟨gx, qx, rfl, s4, hx⟩
  simp -implicitDefEqProofs (disch := omega) only [List.any_cons, List.any_nil, Nat.reduceEqDiff, List.map_cons, List.map_nil, Option.map_some, Option.map_none, List.nil_append, ↓reduceIte, vcu, ↓vcd, opK_some]
  refine (toRowsO_at τ4 h2 o2 F ((hg2.sub s03).sub s4) hl2 hr2).mono ?_
  rintro r τ5 ⟨gy, qy, rfl, s5, hy⟩
  have s35 := s4.trans s5
  simp -implicitDefEqProofs (disch := omega) only [List.any_cons, List.any_nil, Nat.reduceEqDiff, List.map_cons, List.map_nil, Option.map_some, Option.map_none, List.nil_append, ↓reduceIte, vcu, ↓vcd, opK_some]
  refine (implLeft_calls w0 τ5 _ _ T F (.of (hx.rows.sub s5) rfl) hl (.of hy.rows rfl) hl2 hr2).mono ?_
  rintro gv τ6 ⟨t6, hgv⟩
  simp -implicitDefEqProofs (disch := omega) only [List.any_cons, List.any_nil, Nat.reduceEqDiff, List.map_cons, List.map_nil, Option.map_some, Option.map_none, List.nil_append, ↓reduceIte, vcu, ↓vcd, opK_some]
  refine (eqRows_calls τ6 gv _ (leftV T F) hgv.rowsV (.of ((hw1.rows.sub s35).sub t6) rfl) hVl hVr).mono ?_
  rintro r _ ⟨rfl, rfl⟩
  rename_i τ6
  simp -implicitDefEqProofs (disch := omega) only [List.any_cons, List.any_nil, Nat.reduceEqDiff, List.map_cons, List.map_nil, Option.map_some, Option.map_none, List.nil_append, ↓reduceIte, vcu, ↓vcd, opK_some, eq_self, decide_true, beq_self_eq_true, Bool.not_true]
  refine (toRows_at τ6 h o T (((hg.sub s03).sub s35).sub t6) hl hr).mono ?_
  rintro r τ7 ⟨g7, n7, rfl, s7, e7⟩
  simp -implicitDefEqProofs (disch := omega) only [List.any_cons, List.any_nil, Nat.reduceEqDiff, List.map_cons, List.map_nil, Option.map_some, Option.map_none, List.nil_append, ↓reduceIte, vcu, ↓vcd, opK_some]
  refine (eqRows_at τ7 gx 0 g7 0 T T (((hx.rows.sub s5).sub t6).sub s7) e7 hl rfl hr).mono ?_
  rintro r _ ⟨rfl, rfl⟩
  rename_i τ7
  simp -implicitDefEqProofs (disch := omega) only [List.any_cons, List.any_nil, Nat.reduceEqDiff, List.map_cons, List.map_nil, Option.map_some, Option.map_none, List.nil_append, ↓reduceIte, vcu, ↓vcd, opK_some, Bool.not_true]
  refine (toRows_at τ7 h2 o2 F ((((hg2.sub s03).sub s35).sub t6).sub s7) hl2 hr2).mono ?_
  rintro r τ8 ⟨g8, n8, rfl, s8, e8⟩
  simp -implicitDefEqProofs (disch := omega) only [List.any_cons, List.any_nil, Nat.reduceEqDiff, List.map_cons, List.map_nil, Option.map_some, Option.map_none, List.nil_append, ↓reduceIte, vcu, ↓vcd, opK_some]
  refine (eqRows_at τ8 gy 0 g8 0 F F (((hy.rows.sub t6).sub s7).sub s8) e8 hl2 rfl hr2).mono ?_
  rintro r _ ⟨rfl, rfl⟩
  rename_i τ8
  have s68 := (t6.trans s7).trans s8
  simp -implicitDefEqProofs (disch := omega) only [List.any_cons, List.any_nil, Nat.reduceEqDiff, List.map_cons, List.map_nil, Option.map_some, Option.map_none, List.nil_append, ↓reduceIte, vcu, ↓vcd, opK_some, Bool.not_true]
  refine (markRows_at τ3 τ8 gx qx T 1 ((hx.sub s5).sub s68) hl hr (by omega)).mono ?_
  rintro r τ9 ⟨rfl, -, hK⟩
  have htot := tot_le hr T.length (Nat.le_refl _)
  have s39 : Sub τ3 τ9 := hK.sub (s35.trans s68) hx.free
  have hy9 : OwnT τ4 τ9 gy qy F := (hy.sub s68).keep (hK.newer fun i hi => ⟨_, hx.row i hi⟩)
  have hgv9 : OwnTV τ5 τ9 gv (leftV T F) := (hgv.sub (s7.trans s8)).keep (hK.newer fun i hi => ⟨_, s5 _ _ (hx.row i hi)⟩)
  simp -implicitDefEqProofs (disch := omega) only [List.any_cons, List.any_nil, Nat.reduceEqDiff, List.map_cons, List.map_nil, Option.map_some, Option.map_none, List.nil_append, ↓reduceIte, vcu, ↓vcd, opK_some]
  refine (markRows2_at τ4 τ9 gy qy F (1 + tot T T.length) hy9 hl2 hr2 (by omega)).mono ?_
  rintro r τA ⟨rfl, -, hK2⟩
  have htot2 := tot_le hr2 F.length (Nat.le_refl _)
  have s3A : Sub τ3 τA := hK2.sub s39 fun i hi => free_sub s4 (hy.free i hi)
  have hgvA : OwnTV τ5 τA gv (leftV T F) := hgv9.keep (hK2.newer fun i hi => ⟨_, hy.row i hi⟩)
  simp -implicitDefEqProofs (disch := omega) only [List.any_cons, List.any_nil, Nat.reduceEqDiff, List.map_cons, List.map_nil, Option.map_some, Option.map_none, List.nil_append, ↓reduceIte, vcu, ↓vcd, opK_some]
  refine (eqRows_calls τA gv _ (leftV T F) hgvA.rowsV (.of (hw1.rows.sub s3A) rfl) hVl hVr).mono ?_
  rintro r _ ⟨rfl, rfl⟩
  rename_i τA
  simp -implicitDefEqProofs (disch := omega) only [List.any_cons, List.any_nil, Nat.reduceEqDiff, List.map_cons, List.map_nil, Option.map_some, Option.map_none, List.nil_append, ↓reduceIte, vcu, ↓vcd, opK_some, eq_self, decide_true, beq_self_eq_true, Bool.not_true]
  refine (markT_calls τ5 τA gv (leftV T F) 1 hgvA hVl hVr (by omega)).mono ?_
  rintro r τB ⟨rfl, hgB, hold⟩
  have s3B : Sub τ3 τB := fun k ob e => hold k ob (s35 k ob e) (s3A k ob e)
  have htV := tot_le hVr (leftV T F).length (Nat.le_refl _)
  simp -implicitDefEqProofs (disch := omega) only [List.any_cons, List.any_nil, Nat.reduceEqDiff, List.map_cons, List.map_nil, Option.map_some, Option.map_none, List.nil_append, ↓reduceIte, vcu, ↓vcd, opK_some]
  refine (heldT_calls τB gv (leftV T F) 1 hgB.rowsV hVl hVr (by omega)).mono ?_
  rintro r _ ⟨rfl, rfl⟩
  rename_i τB
  simp -implicitDefEqProofs (disch := omega) only [List.any_cons, List.any_nil, Nat.reduceEqDiff, List.map_cons, List.map_nil, Option.map_some, Option.map_none, List.nil_append, ↓reduceIte, vcu, ↓vcd, opK_some, ne_eq, not_true_eq_false, decide_false]
  refine (toRows_at τB h o T ((hg.sub s03).sub s3B) hl hr).mono ?_
  rintro r τC ⟨gC, nC, rfl, sC, eC⟩
  simp -implicitDefEqProofs (disch := omega) only [List.any_cons, List.any_nil, Nat.reduceEqDiff, List.map_cons, List.map_nil, Option.map_some, Option.map_none, List.nil_append, ↓reduceIte, vcu, ↓vcd, opK_some]
  refine (toRows_at τC h2 o2 F (((hg2.sub s03).sub s3B).sub sC) hl2 hr2).mono ?_
  rintro r τD ⟨gD, nD, rfl, sD, eD⟩
  simp -implicitDefEqProofs (disch := omega) only [List.any_cons, List.any_nil, Nat.reduceEqDiff, List.map_cons, List.map_nil, Option.map_some, Option.map_none, List.nil_append, ↓reduceIte, vcu, ↓vcd, opK_some]
  refine (implLeft_calls w0 τD _ _ T F (.of (eC.sub sD) rfl) hl (.of eD rfl) hl2 hr2).mono ?_
  rintro hv2 τE ⟨tE, hhv⟩
  simp -implicitDefEqProofs (disch := omega) only [List.any_cons, List.any_nil, Nat.reduceEqDiff, List.map_cons, List.map_nil, Option.map_some, Option.map_none, List.nil_append, ↓reduceIte, vcu, ↓vcd, opK_some]
  have sBE := (sC.trans sD).trans tE
  refine (eqRows_calls τE hv2 _ (leftV T F) hhv.rowsV (.of ((hw1.rows.sub s3B).sub sBE) rfl) hVl hVr).mono ?_
  rintro r _ ⟨rfl, rfl⟩
  rename_i τE
  simp -implicitDefEqProofs (disch := omega) only [List.any_cons, List.any_nil, Nat.reduceEqDiff, List.map_cons, List.map_nil, Option.map_some, Option.map_none, List.nil_append, ↓reduceIte, vcu, ↓vcd, opK_some, eq_self, decide_true, beq_self_eq_true, Bool.not_true]
  refine (heldT_calls τE gv (leftV T F) 1 (hgB.sub sBE).rowsV hVl hVr (by omega)).mono ?_
  rintro r _ ⟨rfl, rfl⟩
  simp -implicitDefEqProofs (disch := omega) only [List.any_cons, List.any_nil, Nat.reduceEqDiff, List.map_cons, List.map_nil, Option.map_some, Option.map_none, List.nil_append, ↓reduceIte, vcu, ↓vcd, opK_some, ne_eq, not_true_eq_false, decide_false]
  refine fin_one Try.results11 ?_
  simp -implicitDefEqProofs (disch := omega) only [List.any_cons, List.any_nil, Nat.reduceEqDiff, List.map_cons, List.map_nil, Option.map_some, Option.map_none, List.nil_append, ↓reduceIte, vcu, ↓vcd]

open Go.ChangeShapes Go.WideShapes Go.ChangeAt Go.RowKit

set_option maxRecDepth 100000 in
theorem lifted11 (os : Os) (started : os.Started) (H : Type) (enc : TypeId × Value → H) :
    ReturnsInHanded {} Try.checked os 11 .any (Rows.fnExactFrameLeftSpec.pre6 enc Try.prog Try.f11 Rows.fnExactFrameLeftRow.domain false) (Rows.fnExactFrameLeftSpec.post enc Try.prog Try.f11 false true false false) := by
  refine returnsInHanded_of_change (C := Try.checked) own started (by kernel_rfl) Try.func11
    (ChangeSpec.witness6 (enc := enc) (C := Try.checked) false ⟨#[], #[.slice none 0 0, .slice none 0 0], []⟩ 8 (by kernel_rfl) (by kernel_rfl) (by kernel_rfl) (by kernel_rfl)) ?_
  intro W base args ds gs before hval hW _ _
  have hW' := hW
  obtain ⟨p, q, hA, hV, -, -, -⟩ := hW'
  rw [Try.params11] at hA hval
  obtain ⟨v0, vs0, d0, ds0, p0, q0, hargs, rfl, rfl, h0, r0⟩ := trodAll_cons hA
  obtain ⟨v1, vs1, d1, ds1, p1, q1, rfl, rfl, rfl, h1, r1⟩ := trodAll_cons r0
  obtain ⟨rfl, rfl, rfl⟩ := trodAll_nil r1
  obtain ⟨rfl, rfl⟩ := trodVars_none hV
  obtain rfl : args = #[v0, v1] := by cases args; simp_all
  obtain ⟨β0, σ0, a0, dd0, L0, U0, S0, R0, Y0⟩ := start_one (m := 4) (s := .slc (.slc (.int .i64))) (by kernel_rfl) (Start.start W) (slice_cells Try.underlying23 (hval 0 23 v0 rfl rfl)) h0
  obtain ⟨zs0, I0, w0, m0⟩ := lay_rows Y0
  obtain ⟨β1, σ1, a1, dd1, L1, U1, S1, R1, Y1⟩ := start_one (m := 4) (s := .slc (.slc (.int .i64))) (by kernel_rfl) S0 (slice_cells Try.underlying23 (hval 1 23 v1 rfl rfl)) h1
  obtain ⟨zs1, I1, w1, m1⟩ := lay_rows Y1
  refine ((law5Le σ1 a0 zs0 a1 zs1 (I0.sub U1) m0 w0 (I1) m1 w1).2 noProt β1 W [v0, v1] S1.rel (.cons (RelV.mono L1 R0) (.cons R1 (.nil _)))).mono fun e W' h => ?_
  obtain ⟨β', r, r', σ', -, rfl, hr, hrel, rfl⟩ := h
  cases hr
  exact ⟨_, rfl, law_post laidOut hW rfl rfl (by rw [Try.params11]; intro t ht; simp only [List.mem_cons, List.not_mem_nil, or_false, or_self] at ht; rcases ht with rfl <;> exact ⟨by kernel_rfl, of_decide_eq_true (by kernel_rfl)⟩) rfl Try.underlying4 hrel.below⟩

theorem facts11 : joinedFacts Try.prog 11 Try.f11 Rows.fnExactFrameLeftSpec Rows.fnExactFrameLeftRow = true := by
  unfold joinedFacts
  rw [mayE, liftsE, makeE]
  kernel_rfl

theorem proved11 : Rows.FnExactFrameLeftSaid :=
  OpenClaim.holds_of_wide 11 Try.f11 rfl rfl rfl rfl rfl rfl rfl ⟨rfl, rfl, rfl, rfl, rfl⟩ rfl rfl rfl rfl rfl (by kernel_rfl) Try.func11 facts11 (of_decide_eq_true (by kernel_rfl))
    (by unfold Func.isWrapper; first | (rw [if_pos (by decide +kernel)]; kernel_rfl) | (rw [if_neg (by decide +kernel)]; exact ⟨rfl, rfl⟩))
    (fun os started H enc _ => lifted11 os started H enc)


end Go.Proofs.Ytpcbgdgfdfpapaa
