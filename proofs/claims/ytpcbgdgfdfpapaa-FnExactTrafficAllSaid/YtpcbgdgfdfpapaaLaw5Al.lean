/- FnExactTrafficAll answers true for every table. -/
import Derived.Test.YtpcbgdgfdfpapaaFl
set_option linter.unusedSimpArgs false
set_option linter.unusedVariables false
namespace Go.Proofs.Ytpcbgdgfdfpapaa
open Go Go.Abs Go.RowKit Go.Frames
variable {w0 : World}

theorem implAllT (σ : AHeap) (h o : Nat) (T : List (List Int)) (hv : RowsAt σ h o T) (hl : T.length ≤ 1048576) :
    ACall Try.prog w0 24 [.slice (some ⟨h, o, none⟩) T.length 1] σ fun r σ' => r = .int .i64 (allV2 T) ∧ Sub σ σ' := implAll_calls w0 σ _ T (.of hv rfl) hl

theorem law13 (σ : AHeap) (v : Value) (rows : List (List Int)) (hv : RowsV σ v rows) (hm : rows.length ≤ maxLen) (hw : ∀ row ∈ rows, row.length ≤ maxLen ∧ ∀ z ∈ row, (Lit.int .i64 z).wf = true) :
    ACall Try.prog w0 13 [v] σ fun r _ => r = .bool true := by
  refine ACall.rows_arg (pre := []) (by kernel_rfl) hv fun σ1 h o hs hg => ?_
  clear hv hs σ v
  refine acall_go mixed Try.func13 rfl good13 fun pr => ?_
  simp -implicitDefEqProofs (disch := omega) only [List.any_cons, List.any_nil, Nat.reduceEqDiff, List.map_cons, List.map_nil, Option.map_some, Option.map_none, List.nil_append, ↓reduceIte, vcu, ↓vcd]
  refine (szRows_at σ1 h o rows 1048576 hg (by omega) hm (fun i hi => (hw _ (by simp [List.getD, hi])).1)).mono ?_
  rintro r _ ⟨z, rfl, rfl, hz1, hz2, hz⟩
  by_cases hneg : z < 0
  · simp -implicitDefEqProofs (disch := omega) only [List.any_cons, List.any_nil, Nat.reduceEqDiff, List.map_cons, List.map_nil, Option.map_some, Option.map_none, List.nil_append, ↓reduceIte, vcu, ↓vcd, opK_some]
    refine fin_one Try.results13 ?_
    simp -implicitDefEqProofs (disch := omega) only [List.any_cons, List.any_nil, Nat.reduceEqDiff, List.map_cons, List.map_nil, Option.map_some, Option.map_none, List.nil_append, ↓reduceIte, vcu, ↓vcd]
  obtain ⟨hl, hr⟩ := hz (by omega)
  rename_i σ1
  simp -implicitDefEqProofs (disch := omega) only [List.any_cons, List.any_nil, Nat.reduceEqDiff, List.map_cons, List.map_nil, Option.map_some, Option.map_none, List.nil_append, ↓reduceIte, vcu, ↓vcd, opK_some]
  refine (toRows_at σ1 h o rows hg hl hr).mono ?_
  rintro r τ1 ⟨g1, n1, rfl, s1, e1⟩
  simp -implicitDefEqProofs (disch := omega) only [List.any_cons, List.any_nil, Nat.reduceEqDiff, List.map_cons, List.map_nil, Option.map_some, Option.map_none, List.nil_append, ↓reduceIte, vcu, ↓vcd, opK_some]
  refine (specAll_at τ1 g1 0 rows e1 hl).mono ?_
  rintro r τ1' ⟨rfl, t1⟩
  replace t1 : Sub τ1 τ1' := by first | exact t1 | (rw [t1]; exact Sub.refl _)
  simp -implicitDefEqProofs (disch := omega) only [List.any_cons, List.any_nil, Nat.reduceEqDiff, List.map_cons, List.map_nil, Option.map_some, Option.map_none, List.nil_append, ↓reduceIte, vcu, ↓vcd, opK_some]
  refine (toRows_at τ1' h o rows ((hg.sub s1).sub t1) hl hr).mono ?_
  rintro r τ2 ⟨g2, n2, rfl, s2, e2⟩
  simp -implicitDefEqProofs (disch := omega) only [List.any_cons, List.any_nil, Nat.reduceEqDiff, List.map_cons, List.map_nil, Option.map_some, Option.map_none, List.nil_append, ↓reduceIte, vcu, ↓vcd, opK_some]
  refine (implAllT τ2 g2 0 rows e2 hl).mono ?_
  rintro r τ2' ⟨rfl, t2⟩
  replace t2 : Sub τ2 τ2' := by first | exact t2 | (rw [t2]; exact Sub.refl _)
  simp -implicitDefEqProofs (disch := omega) only [List.any_cons, List.any_nil, Nat.reduceEqDiff, List.map_cons, List.map_nil, Option.map_some, Option.map_none, List.nil_append, ↓reduceIte, vcu, ↓vcd, opK_some, beq_self_eq_true, Bool.not_true, ne_eq, not_true_eq_false, decide_false]
  refine (toRows_at τ2' h o rows ((((hg.sub s1).sub t1).sub s2).sub t2) hl hr).mono ?_
  rintro r τ3 ⟨g3, n3, rfl, s3, e3⟩
  simp -implicitDefEqProofs (disch := omega) only [List.any_cons, List.any_nil, Nat.reduceEqDiff, List.map_cons, List.map_nil, Option.map_some, Option.map_none, List.nil_append, ↓reduceIte, vcu, ↓vcd, opK_some]
  refine (eqRows_at τ3 g2 0 g3 0 rows rows ((e2.sub t2).sub s3) e3 hl rfl hr).mono ?_
  rintro r _ ⟨rfl, rfl⟩
  simp -implicitDefEqProofs (disch := omega) only [List.any_cons, List.any_nil, Nat.reduceEqDiff, List.map_cons, List.map_nil, Option.map_some, Option.map_none, List.nil_append, ↓reduceIte, vcu, ↓vcd, opK_some]
  refine fin_one Try.results13 ?_
  simp -implicitDefEqProofs (disch := omega) only [List.any_cons, List.any_nil, Nat.reduceEqDiff, List.map_cons, List.map_nil, Option.map_some, Option.map_none, List.nil_append, ↓reduceIte, vcu, ↓vcd]


open Go.ChangeShapes Go.WideShapes Go.ChangeAt Go.RowKit

set_option maxRecDepth 100000 in
theorem lifted13 (os : Os) (started : os.Started) (H : Type) (enc : TypeId × Value → H) :
    ReturnsInHanded {} Try.checked os 13 .any (Rows.fnExactTrafficAllSpec.pre6 enc Try.prog Try.f13 Rows.fnExactTrafficAllRow.domain false) (Rows.fnExactTrafficAllSpec.post enc Try.prog Try.f13 false true false false) := by
  refine returnsInHanded_of_change (C := Try.checked) own started (by kernel_rfl) Try.func13
    (ChangeSpec.witness6 (enc := enc) (C := Try.checked) false ⟨#[], #[.slice none 0 0], []⟩ 8 (by kernel_rfl) (by kernel_rfl) (by kernel_rfl) (by kernel_rfl)) ?_
  intro W base args ds gs before hval hW _ _
  have hW' := hW
  obtain ⟨p, q, hA, hV, -, -, -⟩ := hW'
  rw [Try.params13] at hA hval
  obtain ⟨v0, vs0, d0, ds0, p0, q0, hargs, rfl, rfl, h0, r0⟩ := trodAll_cons hA
  obtain ⟨rfl, rfl, rfl⟩ := trodAll_nil r0
  obtain ⟨rfl, rfl⟩ := trodVars_none hV
  obtain rfl : args = #[v0] := by cases args; simp_all
  obtain ⟨β0, σ0, a0, dd0, L0, U0, S0, R0, Y0⟩ := start_one (m := 4) (s := .slc (.slc (.int .i64))) (by kernel_rfl) (Start.start W) (slice_cells Try.underlying23 (hval 0 23 v0 rfl rfl)) h0
  obtain ⟨zs0, I0, w0, m0⟩ := lay_rows Y0
  refine ((law13 σ0 a0 zs0 (I0) m0 w0).2 noProt β0 W [v0] S0.rel (.cons R0 (.nil _))).mono fun e W' h => ?_
  obtain ⟨β', r, r', σ', -, rfl, hr, hrel, rfl⟩ := h
  cases hr
  exact ⟨_, rfl, law_post laidOut hW rfl rfl (by rw [Try.params13]; intro t ht; simp only [List.mem_cons, List.not_mem_nil, or_false, or_self] at ht; rcases ht with rfl <;> exact ⟨by kernel_rfl, of_decide_eq_true (by kernel_rfl)⟩) rfl Try.underlying4 hrel.below⟩

theorem facts13 : joinedFacts Try.prog 13 Try.f13 Rows.fnExactTrafficAllSpec Rows.fnExactTrafficAllRow = true := by
  unfold joinedFacts
  rw [mayE, liftsE, makeE]
  kernel_rfl

theorem proved13 : Rows.FnExactTrafficAllSaid :=
  OpenClaim.holds_of_wide 13 Try.f13 rfl rfl rfl rfl rfl rfl rfl ⟨rfl, rfl, rfl, rfl, rfl⟩ rfl rfl rfl rfl rfl (by kernel_rfl) Try.func13 facts13 (of_decide_eq_true (by kernel_rfl))
    (by unfold Func.isWrapper; first | (rw [if_pos (by decide +kernel)]; kernel_rfl) | (rw [if_neg (by decide +kernel)]; exact ⟨rfl, rfl⟩))
    (fun os started H enc _ => lifted13 os started H enc)


end Go.Proofs.Ytpcbgdgfdfpapaa
