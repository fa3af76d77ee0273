/- FnExactRoutesLess answers true for all arguments. -/
import Derived.Test.YtjpifilclhbgeaaIxC
set_option linter.unusedSimpArgs false
set_option linter.unusedVariables false
namespace Go.Proofs.Ytjpifilclhbgeaa
open Go Go.Abs Go.RowKit Go.Dial
variable {w0 : World}

theorem lawLaw6RL (σ : AHeap) (v0 : Value) (z0 : List Rt) (hv0 : Ruts σ v0 z0) (hm0 : z0.length ≤ maxLen) (hw0 : ∀ z ∈ z0, z.b.length ≤ maxLen ∧ (Lit.int .i64 z.n).wf = true) :
    ACall Try.prog w0 16 [v0] σ fun r _ => r = .bool true := by
  unfold maxLen at hm0 hw0
  refine ACall.ruts_arg (pre := []) (post := []) (by kernel_rfl) hv0 fun σ0 h0 o0 u0 hg0 => ?_
  clear hv0 u0 σ v0
  refine acall_go mixed Try.func16 rfl good16 fun pr => ?_
  simp only [List.nil_append, List.cons_append, List.singleton_append]
  simp -implicitDefEqProofs (disch := omega) only [List.any_cons, List.any_nil, Nat.reduceEqDiff, List.map_cons, List.map_nil, Option.map_some, Option.map_none, List.nil_append, ↓reduceIte, vcu, ↓vcd]
  refine (szRoutes_at σ0 h0 o0 z0 hg0 hm0 fun c hc => (hw0 c hc).1).mono ?_
  rintro r _ ⟨⟨q0, rfl, hq0, hc0⟩, rfl⟩
  rename_i σ0
  simp -implicitDefEqProofs (disch := omega) only [List.any_cons, List.any_nil, Nat.reduceEqDiff, List.map_cons, List.map_nil, Option.map_some, Option.map_none, List.nil_append, ↓reduceIte, vcu, ↓vcd, opK_some]
  by_cases hneg : q0 < 0
  · simp -implicitDefEqProofs (disch := omega) only [List.any_cons, List.any_nil, Nat.reduceEqDiff, List.map_cons, List.map_nil, Option.map_some, Option.map_none, List.nil_append, ↓reduceIte, vcu, ↓vcd]
    refine fin_one Try.results16 ?_
    simp -implicitDefEqProofs (disch := omega) only [List.any_cons, List.any_nil, Nat.reduceEqDiff, List.map_cons, List.map_nil, Option.map_some, Option.map_none, List.nil_append, ↓reduceIte, vcu, ↓vcd]
  obtain ⟨hl0, hp0⟩ := hc0.resolve_left hneg
  simp -implicitDefEqProofs (disch := omega) only [List.any_cons, List.any_nil, Nat.reduceEqDiff, List.map_cons, List.map_nil, Option.map_some, Option.map_none, List.nil_append, ↓reduceIte, vcu, ↓vcd]
  have hW : (lessV z0).length ≤ 1048576 := Nat.le_trans (lessV_len z0) hl0
  refine (toRoutes_at σ0 h0 o0 z0 hg0 hl0).mono ?_
  rintro r τ1 ⟨g1, n1, rfl, s1, e1⟩
  simp -implicitDefEqProofs (disch := omega) only [List.any_cons, List.any_nil, Nat.reduceEqDiff, List.map_cons, List.map_nil, Option.map_some, Option.map_none, List.nil_append, ↓reduceIte, vcu, ↓vcd, opK_some]
  refine (less_calls τ1 _ z0 (own_rutsI e1) hl0 hp0).mono ?_
  rintro w τs ⟨ss, hw1⟩
  replace hg0 := (hg0.sub s1).sub ss
  clear e1 s1 ss n1
  simp -implicitDefEqProofs (disch := omega) only [List.any_cons, List.any_nil, Nat.reduceEqDiff, List.map_cons, List.map_nil, Option.map_some, Option.map_none, List.nil_append, ↓reduceIte, vcu, ↓vcd, opK_some]
  refine (toRoutes_at τs h0 o0 z0 hg0 hl0).mono ?_
  rintro r τb ⟨gx, nx, rfl, F0, ex⟩
  simp -implicitDefEqProofs (disch := omega) only [List.any_cons, List.any_nil, Nat.reduceEqDiff, List.map_cons, List.map_nil, Option.map_some, Option.map_none, List.nil_append, ↓reduceIte, vcu, ↓vcd, opK_some]
  refine (implRL_calls τb _ z0 (own_rutsI ex) hl0 hp0).mono ?_
  rintro v τ2 ⟨si, hV⟩
  have F := F0.trans si
  have ex2 := si _ _ ex
  simp -implicitDefEqProofs (disch := omega) only [List.any_cons, List.any_nil, Nat.reduceEqDiff, List.map_cons, List.map_nil, Option.map_some, Option.map_none, List.nil_append, ↓reduceIte, vcu, ↓vcd, opK_some]
  refine (eqRoutes_calls τ2 _ _ _ _ hV.ruts (hw1.ruts.sub F) hW hW).mono ?_
  rintro r _ ⟨rfl, rfl⟩
  rename_i τ2
  simp -implicitDefEqProofs (disch := omega) only [List.any_cons, List.any_nil, Nat.reduceEqDiff, List.map_cons, List.map_nil, Option.map_some, Option.map_none, List.nil_append, ↓reduceIte, vcu, ↓vcd, opK_some, eq_self, decide_true, beq_self_eq_true, Bool.not_true, ne_eq, not_true_eq_false]
  refine (toRoutes_at τ2 h0 o0 z0 (hg0.sub F) hl0).mono ?_
  rintro r τ3 ⟨g3, n3, rfl, s3, e3⟩
  replace F := F.trans s3
  replace ex2 := s3 _ _ ex2
  replace hV := hV.sub s3
  simp -implicitDefEqProofs (disch := omega) only [List.any_cons, List.any_nil, Nat.reduceEqDiff, List.map_cons, List.map_nil, Option.map_some, Option.map_none, List.nil_append, ↓reduceIte, vcu, ↓vcd, opK_some]
  refine (eqRoutes_calls τ3 _ _ z0 z0 (own_rutsI ex2) (own_rutsI e3) hl0 hl0).mono ?_
  rintro r _ ⟨rfl, rfl⟩
  rename_i τ3
  simp -implicitDefEqProofs (disch := omega) only [List.any_cons, List.any_nil, Nat.reduceEqDiff, List.map_cons, List.map_nil, Option.map_some, Option.map_none, List.nil_append, ↓reduceIte, vcu, ↓vcd, opK_some, eq_self]
  refine (markR_own τ3 gx z0 1 ex2 hl0 (by omega)).mono ?_
  rintro r τ4 ⟨rfl, km, em⟩
  replace F := km.sub F nx
  replace hV := hV.kept km ex
  simp -implicitDefEqProofs (disch := omega) only [List.any_cons, List.any_nil, Nat.reduceEqDiff, List.map_cons, List.map_nil, Option.map_some, Option.map_none, List.nil_append, ↓reduceIte, vcu, ↓vcd, opK_some]
  refine (eqRoutes_calls τ4 _ _ _ _ hV.ruts (hw1.ruts.sub F) hW hW).mono ?_
  rintro r _ ⟨rfl, rfl⟩
  rename_i τ4
  simp -implicitDefEqProofs (disch := omega) only [List.any_cons, List.any_nil, Nat.reduceEqDiff, List.map_cons, List.map_nil, Option.map_some, Option.map_none, List.nil_append, ↓reduceIte, vcu, ↓vcd, opK_some, eq_self, decide_true, beq_self_eq_true, Bool.not_true, ne_eq, not_true_eq_false]
  refine (markR_calls τb τ4 _ _ 1 hV hW (by omega)).mono ?_
  rintro r τ5 ⟨rfl, hM, keep⟩
  replace F : Sub τs τ5 := fun h ob e => keep h ob (F0 h ob e) (F h ob e)
  simp -implicitDefEqProofs (disch := omega) only [List.any_cons, List.any_nil, Nat.reduceEqDiff, List.map_cons, List.map_nil, Option.map_some, Option.map_none, List.nil_append, ↓reduceIte, vcu, ↓vcd, opK_some]
  refine (heldR_calls τ5 _ _ 1 hM.ruts hW (by omega)).mono ?_
  rintro r _ ⟨rfl, rfl⟩
  rename_i τ5
  simp -implicitDefEqProofs (disch := omega) only [List.any_cons, List.any_nil, Nat.reduceEqDiff, List.map_cons, List.map_nil, Option.map_some, Option.map_none, List.nil_append, ↓reduceIte, vcu, ↓vcd, opK_some, eq_self, decide_true, beq_self_eq_true, Bool.not_true, ne_eq, not_true_eq_false]
  refine (toRoutes_at τ5 h0 o0 z0 (hg0.sub F) hl0).mono ?_
  rintro r τ6 ⟨g6, n6, rfl, s6, e6⟩
  replace F := F.trans s6
  replace hM := hM.sub s6
  simp -implicitDefEqProofs (disch := omega) only [List.any_cons, List.any_nil, Nat.reduceEqDiff, List.map_cons, List.map_nil, Option.map_some, Option.map_none, List.nil_append, ↓reduceIte, vcu, ↓vcd, opK_some]
  refine (implRL_calls τ6 _ z0 (own_rutsI e6) hl0 hp0).mono ?_
  rintro v2 τ7 ⟨s7, hV2⟩
  replace F := F.trans s7
  replace hM := hM.sub s7
  simp -implicitDefEqProofs (disch := omega) only [List.any_cons, List.any_nil, Nat.reduceEqDiff, List.map_cons, List.map_nil, Option.map_some, Option.map_none, List.nil_append, ↓reduceIte, vcu, ↓vcd, opK_some]
  refine (eqRoutes_calls τ7 _ _ _ _ hV2.ruts (hw1.ruts.sub F) hW hW).mono ?_
  rintro r _ ⟨rfl, rfl⟩
  rename_i τ7
  simp -implicitDefEqProofs (disch := omega) only [List.any_cons, List.any_nil, Nat.reduceEqDiff, List.map_cons, List.map_nil, Option.map_some, Option.map_none, List.nil_append, ↓reduceIte, vcu, ↓vcd, opK_some, eq_self, decide_true, beq_self_eq_true, Bool.not_true, ne_eq, not_true_eq_false]
  refine (heldR_calls τ7 _ _ 1 hM.ruts hW (by omega)).mono ?_
  rintro r _ ⟨rfl, rfl⟩
  simp -implicitDefEqProofs (disch := omega) only [List.any_cons, List.any_nil, Nat.reduceEqDiff, List.map_cons, List.map_nil, Option.map_some, Option.map_none, List.nil_append, ↓reduceIte, vcu, ↓vcd, opK_some, eq_self, decide_true, beq_self_eq_true, Bool.not_true, ne_eq, not_true_eq_false]
  refine fin_one Try.results16 ?_
  simp -implicitDefEqProofs (disch := omega) only [List.any_cons, List.any_nil, Nat.reduceEqDiff, List.map_cons, List.map_nil, Option.map_some, Option.map_none, List.nil_append, ↓reduceIte, vcu, ↓vcd]

open Go.ChangeShapes Go.WideShapes Go.ChangeAt Go.RowKit

set_option maxRecDepth 100000 in
theorem lifted16 (os : Os) (started : os.Started) (H : Type) (enc : TypeId × Value → H) :
    ReturnsInHanded {} Try.checked os 16 .any (Rows.fnExactRoutesLessSpec.pre6 enc Try.prog Try.f16 Rows.fnExactRoutesLessRow.domain false) (Rows.fnExactRoutesLessSpec.post enc Try.prog Try.f16 false true false false) := by
  refine returnsInHanded_of_change (C := Try.checked) own started (by kernel_rfl) Try.func16
    (ChangeSpec.witness6 (enc := enc) (C := Try.checked) false ⟨#[], #[.slice none 0 0], []⟩ 8 (by kernel_rfl) (by kernel_rfl) (by kernel_rfl) (by kernel_rfl)) ?_
  intro W base args ds gs before hval hW _ _
  have hW' := hW
  obtain ⟨p, q, hA, hV, -, -, -⟩ := hW'
  rw [Try.params16] at hA hval
  obtain ⟨v0, vs0, d0, ds0, p0, q0, hargs, rfl, rfl, h0, r0⟩ := trodAll_cons hA
  obtain ⟨rfl, rfl, rfl⟩ := trodAll_nil r0
  obtain ⟨rfl, rfl⟩ := trodVars_none hV
  obtain rfl : args = #[v0] := by cases args; simp_all
  obtain ⟨β0, σ0, a0, dd0, L0, U0, S0, R0, Y0⟩ := start_one (m := 4) (s := .slc (.rcd [.str, .int .i64])) (by kernel_rfl) (Start.start W) (slice_cells Try.underlying43 (hval 0 43 v0 rfl rfl)) h0
  obtain ⟨zs0, I0, w0, m0⟩ := lay_ruts Y0
  refine ((lawLaw6RL σ0 a0 zs0 (I0) m0 w0).2 noProt β0 W [v0] S0.rel (.cons R0 (.nil _))).mono fun e W' h => ?_
  obtain ⟨β', r, r', σ', -, rfl, hr, hrel, rfl⟩ := h
  cases hr
  exact ⟨_, rfl, law_post laidOut hW rfl rfl (by rw [Try.params16]; intro t ht; simp only [List.mem_cons, List.not_mem_nil, or_false, or_self] at ht; rcases ht with rfl <;> exact ⟨by kernel_rfl, of_decide_eq_true (by kernel_rfl)⟩) rfl Try.underlying4 hrel.below⟩

theorem facts16 : joinedFacts Try.prog 16 Try.f16 Rows.fnExactRoutesLessSpec Rows.fnExactRoutesLessRow = true := by
  unfold joinedFacts
  rw [mayE, liftsE, makeE]
  kernel_rfl

theorem proved16 : Rows.FnExactRoutesLessSaid :=
  OpenClaim.holds_of_wide 16 Try.f16 rfl rfl rfl rfl rfl rfl rfl ⟨rfl, rfl, rfl, rfl, rfl⟩ rfl rfl rfl rfl rfl (by kernel_rfl) Try.func16 facts16 (of_decide_eq_true (by kernel_rfl))
    (by unfold Func.isWrapper; first | (rw [if_pos (by decide +kernel)]; kernel_rfl) | (rw [if_neg (by decide +kernel)]; exact ⟨rfl, rfl⟩))
    (fun os started H enc _ => lifted16 os started H enc)


end Go.Proofs.Ytjpifilclhbgeaa
