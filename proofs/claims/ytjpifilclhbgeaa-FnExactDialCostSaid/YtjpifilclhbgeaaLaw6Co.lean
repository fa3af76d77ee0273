/- FnExactDialCost answers true for all arguments. -/
import Derived.Test.YtjpifilclhbgeaaIxC
set_option linter.unusedSimpArgs false
set_option linter.unusedVariables false
namespace Go.Proofs.Ytjpifilclhbgeaa
open Go Go.Abs Go.RowKit
variable {w0 : World}

theorem lawLaw6Co (σ : AHeap) (v0 : Value) (z0 : List Int) (v1 : Value) (z1 : List Int) (hv0 : Ints .i64 σ v0 z0) (hm0 : z0.length ≤ maxLen) (_hw0 : ∀ z ∈ z0, (Lit.int .i64 z).wf = true) (hv1 : Ints .i64 σ v1 z1) (hm1 : z1.length ≤ maxLen) (_hw1 : ∀ z ∈ z1, (Lit.int .i64 z).wf = true) :
    ACall Try.prog w0 12 [v0, v1] σ fun r _ => r = .bool true := by
  unfold maxLen at hm0 hm1
  refine ACall.ints_arg (pre := []) (post := [_]) (by kernel_rfl) (hv0) fun σ0 h0 o0 u0 hg0 => ?_
  clear hv0
  refine ACall.ints_arg (pre := [_]) (post := []) (by kernel_rfl) (hv1.sub u0) fun σ1 h1 o1 u1 hg1 => ?_
  replace hg0 := hg0.sub u1
  clear hv1
  refine acall_go mixed Try.func12 rfl good12 fun pr => ?_
  simp only [List.nil_append, List.cons_append, List.singleton_append]
  by_cases hbig0 : 1048576 < z0.length
  · simp -implicitDefEqProofs (disch := omega) only [List.any_cons, List.any_nil, Nat.reduceEqDiff, List.map_cons, List.map_nil, Option.map_some, Option.map_none, List.nil_append, ↓reduceIte, vcu, ↓vcd]
    refine fin_one Try.results12 ?_
    simp -implicitDefEqProofs (disch := omega) only [List.any_cons, List.any_nil, Nat.reduceEqDiff, List.map_cons, List.map_nil, Option.map_some, Option.map_none, List.nil_append, ↓reduceIte, vcu, ↓vcd]
  have hl0 : z0.length ≤ 1048576 := by omega
  by_cases hbig1 : 1048576 < z1.length
  · simp -implicitDefEqProofs (disch := omega) only [List.any_cons, List.any_nil, Nat.reduceEqDiff, List.map_cons, List.map_nil, Option.map_some, Option.map_none, List.nil_append, ↓reduceIte, vcu, ↓vcd]
    refine fin_one Try.results12 ?_
    simp -implicitDefEqProofs (disch := omega) only [List.any_cons, List.any_nil, Nat.reduceEqDiff, List.map_cons, List.map_nil, Option.map_some, Option.map_none, List.nil_append, ↓reduceIte, vcu, ↓vcd]
  have hl1 : z1.length ≤ 1048576 := by omega
  simp -implicitDefEqProofs (disch := omega) only [List.any_cons, List.any_nil, Nat.reduceEqDiff, List.map_cons, List.map_nil, Option.map_some, Option.map_none, List.nil_append, ↓reduceIte, vcu, ↓vcd]
  refine (toInts_at σ1 h0 o0 z0 hg0 hl0).mono ?_
  rintro r τ1 ⟨g1, n1, rfl, s1, e1⟩
  replace hg0 := hg0.sub s1
  replace hg1 := hg1.sub s1
  simp -implicitDefEqProofs (disch := omega) only [List.any_cons, List.any_nil, Nat.reduceEqDiff, List.map_cons, List.map_nil, Option.map_some, Option.map_none, List.nil_append, ↓reduceIte, vcu, ↓vcd, opK_some]
  refine (toInts_at τ1 h1 o1 z1 hg1 hl1).mono ?_
  rintro r τ2 ⟨g2, n2, rfl, s2, e2⟩
  replace hg0 := hg0.sub s2
  replace hg1 := hg1.sub s2
  replace e1 := s2 _ _ e1
  simp -implicitDefEqProofs (disch := omega) only [List.any_cons, List.any_nil, Nat.reduceEqDiff, List.map_cons, List.map_nil, Option.map_some, Option.map_none, List.nil_append, ↓reduceIte, vcu, ↓vcd, opK_some]
  refine (cost_calls τ2 _ _ z0 z1 (own_intsI e1) (own_intsI e2) hl0 hl1).mono ?_
  rintro r _ ⟨rfl, rfl⟩
  rename_i τ
  simp -implicitDefEqProofs (disch := omega) only [List.any_cons, List.any_nil, Nat.reduceEqDiff, List.map_cons, List.map_nil, Option.map_some, Option.map_none, List.nil_append, ↓reduceIte, vcu, ↓vcd, opK_some]
  refine (toInts_at τ h0 o0 z0 hg0 hl0).mono ?_
  rintro r τ3 ⟨g3, n3, rfl, s3, e3⟩
  replace hg0 := hg0.sub s3
  replace hg1 := hg1.sub s3
  replace e1 := s3 _ _ e1
  replace e2 := s3 _ _ e2
  simp -implicitDefEqProofs (disch := omega) only [List.any_cons, List.any_nil, Nat.reduceEqDiff, List.map_cons, List.map_nil, Option.map_some, Option.map_none, List.nil_append, ↓reduceIte, vcu, ↓vcd, opK_some]
  refine (toInts_at τ3 h1 o1 z1 hg1 hl1).mono ?_
  rintro r τ4 ⟨g4, n4, rfl, s4, e4⟩
  replace hg0 := hg0.sub s4
  replace hg1 := hg1.sub s4
  replace e1 := s4 _ _ e1
  replace e2 := s4 _ _ e2
  replace e3 := s4 _ _ e3
  simp -implicitDefEqProofs (disch := omega) only [List.any_cons, List.any_nil, Nat.reduceEqDiff, List.map_cons, List.map_nil, Option.map_some, Option.map_none, List.nil_append, ↓reduceIte, vcu, ↓vcd, opK_some]
  refine (implCo_calls τ4 _ _ z0 z1 (own_intsI e3) (own_intsI e4) hl0 hl1).mono ?_
  rintro r _ ⟨rfl, rfl⟩
  rename_i τ
  simp -implicitDefEqProofs (disch := omega) only [List.any_cons, List.any_nil, Nat.reduceEqDiff, List.map_cons, List.map_nil, Option.map_some, Option.map_none, List.nil_append, ↓reduceIte, vcu, ↓vcd, opK_some, beq_self_eq_true, Bool.not_true, ne_eq, not_true_eq_false, eq_self]
  refine (toInts_at τ h0 o0 z0 hg0 hl0).mono ?_
  rintro r τ5 ⟨g5, n5, rfl, s5, e5⟩
  replace hg0 := hg0.sub s5
  replace hg1 := hg1.sub s5
  replace e1 := s5 _ _ e1
  replace e2 := s5 _ _ e2
  replace e3 := s5 _ _ e3
  replace e4 := s5 _ _ e4
  simp -implicitDefEqProofs (disch := omega) only [List.any_cons, List.any_nil, Nat.reduceEqDiff, List.map_cons, List.map_nil, Option.map_some, Option.map_none, List.nil_append, ↓reduceIte, vcu, ↓vcd, opK_some]
  refine (eqInts_calls τ5 _ _ z0 z0 (own_intsI e3) (own_intsI e5) hl0 hl0).mono ?_
  rintro r _ ⟨rfl, rfl⟩
  rename_i τ
  simp -implicitDefEqProofs (disch := omega) only [List.any_cons, List.any_nil, Nat.reduceEqDiff, List.map_cons, List.map_nil, Option.map_some, Option.map_none, List.nil_append, ↓reduceIte, vcu, ↓vcd, opK_some, eq_self]
  refine (toInts_at τ h1 o1 z1 hg1 hl1).mono ?_
  rintro r τ6 ⟨g6, n6, rfl, s6, e6⟩
  replace hg0 := hg0.sub s6
  replace hg1 := hg1.sub s6
  replace e1 := s6 _ _ e1
  replace e2 := s6 _ _ e2
  replace e3 := s6 _ _ e3
  replace e4 := s6 _ _ e4
  replace e5 := s6 _ _ e5
  simp -implicitDefEqProofs (disch := omega) only [List.any_cons, List.any_nil, Nat.reduceEqDiff, List.map_cons, List.map_nil, Option.map_some, Option.map_none, List.nil_append, ↓reduceIte, vcu, ↓vcd, opK_some]
  refine (eqInts_calls τ6 _ _ z1 z1 (own_intsI e4) (own_intsI e6) hl1 hl1).mono ?_
  rintro r _ ⟨rfl, rfl⟩
  rename_i τ
  simp -implicitDefEqProofs (disch := omega) only [List.any_cons, List.any_nil, Nat.reduceEqDiff, List.map_cons, List.map_nil, Option.map_some, Option.map_none, List.nil_append, ↓reduceIte, vcu, ↓vcd, opK_some, eq_self]
  refine fin_one Try.results12 ?_
  simp -implicitDefEqProofs (disch := omega) only [List.any_cons, List.any_nil, Nat.reduceEqDiff, List.map_cons, List.map_nil, Option.map_some, Option.map_none, List.nil_append, ↓reduceIte, vcu, ↓vcd]

open Go.ChangeShapes Go.WideShapes Go.ChangeAt Go.RowKit

set_option maxRecDepth 100000 in
theorem lifted12 (os : Os) (started : os.Started) (H : Type) (enc : TypeId × Value → H) :
    ReturnsInHanded {} Try.checked os 12 .any (Rows.fnExactDialCostSpec.pre6 enc Try.prog Try.f12 Rows.fnExactDialCostRow.domain false) (Rows.fnExactDialCostSpec.post enc Try.prog Try.f12 false true false false) := by
  refine returnsInHanded_of_change (C := Try.checked) own started (by kernel_rfl) Try.func12
    (ChangeSpec.witness6 (enc := enc) (C := Try.checked) false ⟨#[], #[.slice none 0 0, .slice none 0 0], []⟩ 8 (by kernel_rfl) (by kernel_rfl) (by kernel_rfl) (by kernel_rfl)) ?_
  intro W base args ds gs before hval hW _ _
  have hW' := hW
  obtain ⟨p, q, hA, hV, -, -, -⟩ := hW'
  rw [Try.params12] at hA hval
  obtain ⟨v0, vs0, d0, ds0, p0, q0, hargs, rfl, rfl, h0, r0⟩ := trodAll_cons hA
  obtain ⟨v1, vs1, d1, ds1, p1, q1, rfl, rfl, rfl, h1, r1⟩ := trodAll_cons r0
  obtain ⟨rfl, rfl, rfl⟩ := trodAll_nil r1
  obtain ⟨rfl, rfl⟩ := trodVars_none hV
  obtain rfl : args = #[v0, v1] := by cases args; simp_all
  obtain ⟨β0, σ0, a0, zs0, L0, U0, S0, R0, I0, w0, m0⟩ := start_ints Try.underlying28 Try.underlying3 co3 (Start.start W) (hval 0 28 v0 rfl rfl) h0
  obtain ⟨β1, σ1, a1, zs1, L1, U1, S1, R1, I1, w1, m1⟩ := start_ints Try.underlying28 Try.underlying3 co3 S0 (hval 1 28 v1 rfl rfl) h1
  refine ((lawLaw6Co σ1 a0 zs0 a1 zs1 (I0.sub U1) m0 w0 (I1) m1 w1).2 noProt β1 W [v0, v1] S1.rel (.cons (RelV.mono L1 R0) (.cons R1 (.nil _)))).mono fun e W' h => ?_
  obtain ⟨β', r, r', σ', -, rfl, hr, hrel, rfl⟩ := h
  cases hr
  exact ⟨_, rfl, law_post laidOut hW rfl rfl (by rw [Try.params12]; intro t ht; simp only [List.mem_cons, List.not_mem_nil, or_false, or_self] at ht; rcases ht with rfl <;> exact ⟨by kernel_rfl, of_decide_eq_true (by kernel_rfl)⟩) rfl Try.underlying4 hrel.below⟩

theorem facts12 : joinedFacts Try.prog 12 Try.f12 Rows.fnExactDialCostSpec Rows.fnExactDialCostRow = true := by
  unfold joinedFacts
  rw [mayE, liftsE, makeE]
  kernel_rfl

theorem proved12 : Rows.FnExactDialCostSaid :=
  OpenClaim.holds_of_wide 12 Try.f12 rfl rfl rfl rfl rfl rfl rfl ⟨rfl, rfl, rfl, rfl, rfl⟩ rfl rfl rfl rfl rfl (by kernel_rfl) Try.func12 facts12 (of_decide_eq_true (by kernel_rfl))
    (by unfold Func.isWrapper; first | (rw [if_pos (by decide +kernel)]; kernel_rfl) | (rw [if_neg (by decide +kernel)]; exact ⟨rfl, rfl⟩))
    (fun os started H enc _ => lifted12 os started H enc)


end Go.Proofs.Ytjpifilclhbgeaa
