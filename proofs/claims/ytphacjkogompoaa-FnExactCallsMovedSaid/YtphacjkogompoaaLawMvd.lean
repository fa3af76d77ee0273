/- FnExactCallsMoved answers true for all lists of calls. -/
import Derived.Test.YtphacjkogompoaaDd
set_option linter.unusedSimpArgs false
set_option linter.unusedVariables false
namespace Go.Proofs.Ytphacjkogompoaa
open Go Go.Abs Go.RowKit Go.Clos
variable {w0 : World}

theorem lawMvd (σ : AHeap) (v : Value) (xs : List Cl) (u : Value) (ys : List Cl) (hv : Tris σ v xs) (hm : xs.length ≤ maxLen) (_hw : ∀ z ∈ xs, (Lit.int .i64 z.i).wf = true ∧ (Lit.int .i64 z.o).wf = true ∧ (Lit.int .i64 z.v).wf = true)
    (hu : Tris σ u ys) (hm2 : ys.length ≤ maxLen) (_hw2 : ∀ z ∈ ys, (Lit.int .i64 z.i).wf = true ∧ (Lit.int .i64 z.o).wf = true ∧ (Lit.int .i64 z.v).wf = true) :
    ACall Try.prog w0 21 [v, u] σ fun r _ => r = .bool true := by
  unfold maxLen at hm hm2
  refine ACall.tris_arg (pre := []) (post := [_]) (by kernel_rfl) hv fun σ0 h o hs hg0 => ?_
  refine ACall.tris_arg (pre := [_]) (post := []) (by kernel_rfl) (hu.sub hs) fun σ1 h2 o2 hs2 hg2 => ?_
  have hg := hg0.sub hs2
  clear hv hs hu hs2 hg0 σ v u
  refine acall_go mixed Try.func21 rfl good21 fun pr => ?_
  simp -implicitDefEqProofs (disch := omega) only [List.any_cons, List.any_nil, Nat.reduceEqDiff, List.map_cons, List.map_nil, Option.map_some, Option.map_none, List.nil_append, ↓reduceIte, vcu, ↓vcd, List.singleton_append, List.cons_append, List.nil_append]
  refine (szCalls_at σ1 h o xs 1048576 (by omega) hm).mono ?_
  rintro r _ ⟨rfl, rfl⟩
  rename_i σ1
  by_cases hbig : 1048576 < xs.length
  · rw [if_pos (by omega)]
    simp -implicitDefEqProofs (disch := omega) only [List.any_cons, List.any_nil, Nat.reduceEqDiff, List.map_cons, List.map_nil, Option.map_some, Option.map_none, List.nil_append, ↓reduceIte, vcu, ↓vcd, opK_some]
    refine fin_one Try.results21 ?_
    simp -implicitDefEqProofs (disch := omega) only [List.any_cons, List.any_nil, Nat.reduceEqDiff, List.map_cons, List.map_nil, Option.map_some, Option.map_none, List.nil_append, ↓reduceIte, vcu, ↓vcd]
  have hl : xs.length ≤ 1048576 := by omega
  rw [if_neg (by omega)]
  simp -implicitDefEqProofs (disch := omega) only [List.any_cons, List.any_nil, Nat.reduceEqDiff, List.map_cons, List.map_nil, Option.map_some, Option.map_none, List.nil_append, ↓reduceIte, vcu, ↓vcd, opK_some]
  refine (szCalls_at σ1 h2 o2 ys _ (by omega) hm2).mono ?_
  rintro r _ ⟨rfl, rfl⟩
  rename_i σ1
  by_cases hbig2 : (1048576 : Int) - xs.length < ys.length
  · rw [if_pos (by omega)]
    simp -implicitDefEqProofs (disch := omega) only [List.any_cons, List.any_nil, Nat.reduceEqDiff, List.map_cons, List.map_nil, Option.map_some, Option.map_none, List.nil_append, ↓reduceIte, vcu, ↓vcd, opK_some]
    refine fin_one Try.results21 ?_
    simp -implicitDefEqProofs (disch := omega) only [List.any_cons, List.any_nil, Nat.reduceEqDiff, List.map_cons, List.map_nil, Option.map_some, Option.map_none, List.nil_append, ↓reduceIte, vcu, ↓vcd]
  have hl2 : ys.length ≤ 1048576 := by omega
  rw [if_neg (by omega)]
  simp -implicitDefEqProofs (disch := omega) only [List.any_cons, List.any_nil, Nat.reduceEqDiff, List.map_cons, List.map_nil, Option.map_some, Option.map_none, List.nil_append, ↓reduceIte, vcu, ↓vcd, opK_some]
  refine (toCalls_at σ1 h o xs hg hl).mono ?_
  rintro r τ1 ⟨g1, n1, rfl, s1, v1⟩
  simp -implicitDefEqProofs (disch := omega) only [List.any_cons, List.any_nil, Nat.reduceEqDiff, List.map_cons, List.map_nil, Option.map_some, Option.map_none, List.nil_append, ↓reduceIte, vcu, ↓vcd, opK_some]
  refine (toCalls_at τ1 h2 o2 ys (hg2.sub s1) hl2).mono ?_
  rintro r τ2 ⟨g2, n2, rfl, s2, v2⟩
  simp -implicitDefEqProofs (disch := omega) only [List.any_cons, List.any_nil, Nat.reduceEqDiff, List.map_cons, List.map_nil, Option.map_some, Option.map_none, List.nil_append, ↓reduceIte, vcu, ↓vcd, opK_some]
  refine (specMoved_at τ2 g1 0 g2 0 xs ys (trisAt_own (s2 _ _ v1)) (trisAt_own v2) hl hl2).mono ?_
  rintro r τ3 ⟨rfl, q3⟩
  subst q3
  have s3 := s1.trans s2
  simp -implicitDefEqProofs (disch := omega) only [List.any_cons, List.any_nil, Nat.reduceEqDiff, List.map_cons, List.map_nil, Option.map_some, Option.map_none, List.nil_append, ↓reduceIte, vcu, ↓vcd, opK_some]
  refine (toCalls_at τ3 h o xs (hg.sub s3) hl).mono ?_
  rintro r τ4 ⟨g4, n4, rfl, s4, v4⟩
  simp -implicitDefEqProofs (disch := omega) only [List.any_cons, List.any_nil, Nat.reduceEqDiff, List.map_cons, List.map_nil, Option.map_some, Option.map_none, List.nil_append, ↓reduceIte, vcu, ↓vcd, opK_some]
  refine (toCalls_at τ4 h2 o2 ys (hg2.sub (s3.trans s4)) hl2).mono ?_
  rintro r τ5 ⟨g5, n5, rfl, s5, v5⟩
  simp -implicitDefEqProofs (disch := omega) only [List.any_cons, List.any_nil, Nat.reduceEqDiff, List.map_cons, List.map_nil, Option.map_some, Option.map_none, List.nil_append, ↓reduceIte, vcu, ↓vcd, opK_some]
  refine (implMoved_at τ5 g4 0 g5 0 xs ys (trisAt_own (s5 _ _ v4)) (trisAt_own v5) hl hl2).mono ?_
  rintro r τ6 ⟨rfl, q6⟩
  subst q6
  have s6 := s3.trans (s4.trans s5)
  simp -implicitDefEqProofs (disch := omega) only [List.any_cons, List.any_nil, Nat.reduceEqDiff, List.map_cons, List.map_nil, Option.map_some, Option.map_none, List.nil_append, ↓reduceIte, vcu, ↓vcd, opK_some, ne_eq, not_true_eq_false, eq_self]
  refine (toCalls_at τ6 h o xs (hg.sub s6) hl).mono ?_
  rintro r τ7 ⟨g7, n7, rfl, s7, v7⟩
  simp -implicitDefEqProofs (disch := omega) only [List.any_cons, List.any_nil, Nat.reduceEqDiff, List.map_cons, List.map_nil, Option.map_some, Option.map_none, List.nil_append, ↓reduceIte, vcu, ↓vcd, opK_some]
  refine (eqCalls_at τ7 g4 0 g7 0 xs xs (trisAt_own (s7 _ _ (s5 _ _ v4))) (trisAt_own v7) hl hl).mono ?_
  rintro r τ8 ⟨rfl, q8⟩
  subst q8
  rw [decide_eq_true (rfl : xs = xs)]
  simp -implicitDefEqProofs (disch := omega) only [List.any_cons, List.any_nil, Nat.reduceEqDiff, List.map_cons, List.map_nil, Option.map_some, Option.map_none, List.nil_append, ↓reduceIte, vcu, ↓vcd, opK_some, Bool.not_true]
  refine (toCalls_at τ8 h2 o2 ys (hg2.sub (s6.trans s7)) hl2).mono ?_
  rintro r τ9 ⟨g9, n9, rfl, s9, v9⟩
  simp -implicitDefEqProofs (disch := omega) only [List.any_cons, List.any_nil, Nat.reduceEqDiff, List.map_cons, List.map_nil, Option.map_some, Option.map_none, List.nil_append, ↓reduceIte, vcu, ↓vcd, opK_some]
  refine (eqCalls_at τ9 g5 0 g9 0 ys ys (trisAt_own (s9 _ _ (s7 _ _ v5))) (trisAt_own v9) hl2 hl2).mono ?_
  rintro r τ10 ⟨rfl, q10⟩
  subst q10
  rw [decide_eq_true (rfl : ys = ys)]
  simp -implicitDefEqProofs (disch := omega) only [List.any_cons, List.any_nil, Nat.reduceEqDiff, List.map_cons, List.map_nil, Option.map_some, Option.map_none, List.nil_append, ↓reduceIte, vcu, ↓vcd, opK_some, Bool.not_true]
  refine fin_one Try.results21 ?_
  simp -implicitDefEqProofs (disch := omega) only [List.any_cons, List.any_nil, Nat.reduceEqDiff, List.map_cons, List.map_nil, Option.map_some, Option.map_none, List.nil_append, ↓reduceIte, vcu, ↓vcd]

open Go.ChangeShapes Go.WideShapes Go.ChangeAt Go.RowKit

set_option maxRecDepth 100000 in
theorem lifted21 (os : Os) (started : os.Started) (H : Type) (enc : TypeId × Value → H) :
    ReturnsInHanded {} Try.checked os 21 .any (Rows.fnExactCallsMovedSpec.pre6 enc Try.prog Try.f21 Rows.fnExactCallsMovedRow.domain false) (Rows.fnExactCallsMovedSpec.post enc Try.prog Try.f21 false true false false) := by
  refine returnsInHanded_of_change (C := Try.checked) own started (by kernel_rfl) Try.func21
    (ChangeSpec.witness6 (enc := enc) (C := Try.checked) false ⟨#[], #[.slice none 0 0, .slice none 0 0], []⟩ 8 (by kernel_rfl) (by kernel_rfl) (by kernel_rfl) (by kernel_rfl)) ?_
  intro W base args ds gs before hval hW _ _
  have hW' := hW
  obtain ⟨p, q, hA, hV, -, -, -⟩ := hW'
  rw [Try.params21] at hA hval
  obtain ⟨v0, vs0, d0, ds0, p0, q0, hargs, rfl, rfl, h0, r0⟩ := trodAll_cons hA
  obtain ⟨v1, vs1, d1, ds1, p1, q1, rfl, rfl, rfl, h1, r1⟩ := trodAll_cons r0
  obtain ⟨rfl, rfl, rfl⟩ := trodAll_nil r1
  obtain ⟨rfl, rfl⟩ := trodVars_none hV
  obtain rfl : args = #[v0, v1] := by cases args; simp_all
  obtain ⟨β0, σ0, a0, dd0, L0, U0, S0, R0, Y0⟩ := start_one (m := 4) (s := .slc (.rcd [.int .i64, .int .i64, .int .i64])) (by kernel_rfl) (Start.start W) (slice_cells Try.underlying57 (hval 0 57 v0 rfl rfl)) h0
  obtain ⟨zs0, I0, w0, m0⟩ := lay_tris Y0
  obtain ⟨β1, σ1, a1, dd1, L1, U1, S1, R1, Y1⟩ := start_one (m := 4) (s := .slc (.rcd [.int .i64, .int .i64, .int .i64])) (by kernel_rfl) S0 (slice_cells Try.underlying57 (hval 1 57 v1 rfl rfl)) h1
  obtain ⟨zs1, I1, w1, m1⟩ := lay_tris Y1
  refine ((lawMvd σ1 a0 zs0 a1 zs1 (I0.sub U1) m0 w0 (I1) m1 w1).2 noProt β1 W [v0, v1] S1.rel (.cons (RelV.mono L1 R0) (.cons R1 (.nil _)))).mono fun e W' h => ?_
  obtain ⟨β', r, r', σ', -, rfl, hr, hrel, rfl⟩ := h
  cases hr
  exact ⟨_, rfl, law_post laidOut hW rfl rfl (by rw [Try.params21]; intro t ht; simp only [List.mem_cons, List.not_mem_nil, or_false, or_self] at ht; rcases ht with rfl <;> exact ⟨by kernel_rfl, of_decide_eq_true (by kernel_rfl)⟩) rfl Try.underlying4 hrel.below⟩

theorem facts21 : joinedFacts Try.prog 21 Try.f21 Rows.fnExactCallsMovedSpec Rows.fnExactCallsMovedRow = true := by
  unfold joinedFacts
  rw [mayE, liftsE, makeE]
  kernel_rfl

theorem proved21 : Rows.FnExactCallsMovedSaid :=
  OpenClaim.holds_of_wide 21 Try.f21 rfl rfl rfl rfl rfl rfl rfl ⟨rfl, rfl, rfl, rfl, rfl⟩ rfl rfl rfl rfl rfl (by kernel_rfl) Try.func21 facts21 (of_decide_eq_true (by kernel_rfl))
    (by unfold Func.isWrapper; first | (rw [if_pos (by decide +kernel)]; kernel_rfl) | (rw [if_neg (by decide +kernel)]; exact ⟨rfl, rfl⟩))
    (fun os started H enc _ => lifted21 os started H enc)


end Go.Proofs.Ytphacjkogompoaa
