/- FnExactCallsValid answers true for all networks and calls. -/
import Derived.Test.YtphacjkogompoaaDc
set_option linter.unusedSimpArgs false
set_option linter.unusedVariables false
namespace Go.Proofs.Ytphacjkogompoaa
open Go Go.Abs Go.RowKit Go.Clos
variable {w0 : World}

theorem lawCV (σ : AHeap) (x y z : Int) (v : Value) (cs : List Cl) (hx : (Lit.int .i64 x).wf = true) (hy : (Lit.int .i64 y).wf = true) (hz : (Lit.int .i64 z).wf = true) (hv : Tris σ v cs) (hm : cs.length ≤ maxLen) (_hw : ∀ z ∈ cs, (Lit.int .i64 z.i).wf = true ∧ (Lit.int .i64 z.o).wf = true ∧ (Lit.int .i64 z.v).wf = true) :
    ACall Try.prog w0 14 [.agg #[.int .i64 x, .int .i64 y, .int .i64 z], v] σ fun r _ => r = .bool true := by
  unfold maxLen at hm
  refine ACall.tris_arg (pre := [_]) (post := []) (by kernel_rfl) hv fun σ1 h o hs hg => ?_
  clear hv hs σ v
  refine acall_go mixed Try.func14 rfl good14 fun pr => ?_
  simp -implicitDefEqProofs (disch := omega) only [List.any_cons, List.any_nil, Nat.reduceEqDiff, List.map_cons, List.map_nil, Option.map_some, Option.map_none, List.nil_append, ↓reduceIte, vcu, ↓vcd, List.singleton_append, List.cons_append, List.nil_append]
  refine r_boxed fun b τ0 nb s0 e0 => ?_
  replace e0 : τ0 b = some ⟨[.int .i64 x, .int .i64 y, .int .i64 z], false⟩ := e0
  have m3 : ∀ τ', Sub τ0 τ' → lds τ' b 0 3 = some [.int .i64 x, .int .i64 y, .int .i64 z] := fun τ' hs => lds_three (ld_of (hs _ _ e0) rfl) (ld_of (hs _ _ e0) rfl) (ld_of (hs _ _ e0) rfl)
  simp -implicitDefEqProofs (disch := omega) only [List.any_cons, List.any_nil, Nat.reduceEqDiff, List.map_cons, List.map_nil, Option.map_some, Option.map_none, List.nil_append, ↓reduceIte, vcu, ↓vcd]
  refine (szCalls_at τ0 h o cs 1048576 (by omega) hm).mono ?_
  rintro r _ ⟨rfl, rfl⟩
  rename_i τ0
  by_cases hbig : 1048576 < cs.length
  · rw [if_pos (by omega)]
    simp -implicitDefEqProofs (disch := omega) only [List.any_cons, List.any_nil, Nat.reduceEqDiff, List.map_cons, List.map_nil, Option.map_some, Option.map_none, List.nil_append, ↓reduceIte, vcu, ↓vcd, opK_some]
    refine fin_one Try.results14 ?_
    simp -implicitDefEqProofs (disch := omega) only [List.any_cons, List.any_nil, Nat.reduceEqDiff, List.map_cons, List.map_nil, Option.map_some, Option.map_none, List.nil_append, ↓reduceIte, vcu, ↓vcd]
  have hl : cs.length ≤ 1048576 := by omega
  rw [if_neg (by omega)]
  have hg0 := hg.sub s0
  clear hg
  have l0 := m3 τ0 (Sub.refl _)
  simp -implicitDefEqProofs (disch := omega) only [List.any_cons, List.any_nil, Nat.reduceEqDiff, List.map_cons, List.map_nil, Option.map_some, Option.map_none, List.nil_append, ↓reduceIte, vcu, ↓vcd, opK_some, l0, co54]
  refine (toShape_at τ0 x y z).mono ?_
  rintro r τ1 ⟨rfl, q1⟩
  subst q1
  simp -implicitDefEqProofs (disch := omega) only [List.any_cons, List.any_nil, Nat.reduceEqDiff, List.map_cons, List.map_nil, Option.map_some, Option.map_none, List.nil_append, ↓reduceIte, vcu, ↓vcd, opK_some]
  refine (toCalls_at τ1 h o cs hg0 hl).mono ?_
  rintro r τ2 ⟨g1, n1, rfl, s1, v1⟩
  simp -implicitDefEqProofs (disch := omega) only [List.any_cons, List.any_nil, Nat.reduceEqDiff, List.map_cons, List.map_nil, Option.map_some, Option.map_none, List.nil_append, ↓reduceIte, vcu, ↓vcd, opK_some]
  refine (specCV_at τ2 x y z g1 0 cs (trisAt_own v1) hl).mono ?_
  rintro r τ3 ⟨rfl, q3⟩
  subst q3
  simp -implicitDefEqProofs (disch := omega) only [List.any_cons, List.any_nil, Nat.reduceEqDiff, List.map_cons, List.map_nil, Option.map_some, Option.map_none, List.nil_append, ↓reduceIte, vcu, ↓vcd, opK_some]
  refine (toCalls_at τ3 h o cs (hg0.sub s1) hl).mono ?_
  rintro r τ4 ⟨g3, n3, rfl, s3, v3⟩
  have l4 := m3 τ4 (s1.trans s3)
  simp -implicitDefEqProofs (disch := omega) only [List.any_cons, List.any_nil, Nat.reduceEqDiff, List.map_cons, List.map_nil, Option.map_some, Option.map_none, List.nil_append, ↓reduceIte, vcu, ↓vcd, opK_some, l4, co54]
  refine (toShape_at τ4 x y z).mono ?_
  rintro r τ5 ⟨rfl, q5⟩
  subst q5
  simp -implicitDefEqProofs (disch := omega) only [List.any_cons, List.any_nil, Nat.reduceEqDiff, List.map_cons, List.map_nil, Option.map_some, Option.map_none, List.nil_append, ↓reduceIte, vcu, ↓vcd, opK_some]
  refine (implCV_at τ5 x y z g3 0 cs (trisAt_own v3) hl).mono ?_
  rintro r τ6 ⟨rfl, q6⟩
  subst q6
  simp -implicitDefEqProofs (disch := omega) only [List.any_cons, List.any_nil, Nat.reduceEqDiff, List.map_cons, List.map_nil, Option.map_some, Option.map_none, List.nil_append, ↓reduceIte, vcu, ↓vcd, opK_some, Bool.not_true, beq_self_eq_true]
  refine (toCalls_at τ6 h o cs ((hg0.sub s1).sub s3) hl).mono ?_
  rintro r τ8 ⟨g5, n5, rfl, s5, v5⟩
  simp -implicitDefEqProofs (disch := omega) only [List.any_cons, List.any_nil, Nat.reduceEqDiff, List.map_cons, List.map_nil, Option.map_some, Option.map_none, List.nil_append, ↓reduceIte, vcu, ↓vcd, opK_some]
  refine (eqCalls_at τ8 g3 0 g5 0 cs cs (trisAt_own (s5 _ _ v3)) (trisAt_own v5) hl hl).mono ?_
  rintro r τ9 ⟨rfl, q9⟩
  subst q9
  rw [decide_eq_true (rfl : cs = cs)]
  simp -implicitDefEqProofs (disch := omega) only [List.any_cons, List.any_nil, Nat.reduceEqDiff, List.map_cons, List.map_nil, Option.map_some, Option.map_none, List.nil_append, ↓reduceIte, vcu, ↓vcd, opK_some, Bool.not_true]
  refine fin_one Try.results14 ?_
  simp -implicitDefEqProofs (disch := omega) only [List.any_cons, List.any_nil, Nat.reduceEqDiff, List.map_cons, List.map_nil, Option.map_some, Option.map_none, List.nil_append, ↓reduceIte, vcu, ↓vcd]

open Go.ChangeShapes Go.WideShapes Go.ChangeAt Go.RowKit

set_option maxRecDepth 100000 in
theorem lifted14 (os : Os) (started : os.Started) (H : Type) (enc : TypeId × Value → H) :
    ReturnsInHanded {} Try.checked os 14 .any (Rows.fnExactCallsValidSpec.pre6 enc Try.prog Try.f14 Rows.fnExactCallsValidRow.domain false) (Rows.fnExactCallsValidSpec.post enc Try.prog Try.f14 false true false false) := by
  refine returnsInHanded_of_change (C := Try.checked) own started (by kernel_rfl) Try.func14
    (ChangeSpec.witness6 (enc := enc) (C := Try.checked) false ⟨#[], #[.agg #[.int .i64 0, .int .i64 0, .int .i64 0], .slice none 0 0], []⟩ 8 (by kernel_rfl) (by kernel_rfl) (by kernel_rfl) (by kernel_rfl)) ?_
  intro W base args ds gs before hval hW _ _
  have hW' := hW
  obtain ⟨p, q, hA, hV, -, -, -⟩ := hW'
  rw [Try.params14] at hA hval
  obtain ⟨v0, vs0, d0, ds0, p0, q0, hargs, rfl, rfl, h0, r0⟩ := trodAll_cons hA
  obtain ⟨v1, vs1, d1, ds1, p1, q1, rfl, rfl, rfl, h1, r1⟩ := trodAll_cons r0
  obtain ⟨rfl, rfl, rfl⟩ := trodAll_nil r1
  obtain ⟨rfl, rfl⟩ := trodVars_none hV
  obtain rfl : args = #[v0, v1] := by cases args; simp_all
  obtain ⟨β0, σ0, acs0, dd0, L0, U0, S0, R0, Y0⟩ := start_rec (m := 4) (s := .rcd [.int .i64, .int .i64, .int .i64]) (by kernel_rfl) Try.underlying54 (Start.start W) (hval 0 54 v0 rfl rfl) h0
  obtain ⟨x0, y0, z0, rfl, wx0, wy0, wz0⟩ := lay_three Y0
  obtain ⟨β1, σ1, a1, dd1, L1, U1, S1, R1, Y1⟩ := start_one (m := 4) (s := .slc (.rcd [.int .i64, .int .i64, .int .i64])) (by kernel_rfl) S0 (slice_cells Try.underlying57 (hval 1 57 v1 rfl rfl)) h1
  obtain ⟨zs1, I1, w1, m1⟩ := lay_tris Y1
  refine ((lawCV σ1 x0 y0 z0 a1 zs1 wx0 wy0 wz0 (I1) m1 w1).2 noProt β1 W [v0, v1] S1.rel (.cons (RelV.mono L1 R0) (.cons R1 (.nil _)))).mono fun e W' h => ?_
  obtain ⟨β', r, r', σ', -, rfl, hr, hrel, rfl⟩ := h
  cases hr
  exact ⟨_, rfl, law_post laidOut hW rfl rfl (by rw [Try.params14]; intro t ht; simp only [List.mem_cons, List.not_mem_nil, or_false, or_self] at ht; rcases ht with rfl | rfl <;> exact ⟨by kernel_rfl, of_decide_eq_true (by kernel_rfl)⟩) rfl Try.underlying4 hrel.below⟩

theorem facts14 : joinedFacts Try.prog 14 Try.f14 Rows.fnExactCallsValidSpec Rows.fnExactCallsValidRow = true := by
  unfold joinedFacts
  rw [mayE, liftsE, makeE]
  kernel_rfl

theorem proved14 : Rows.FnExactCallsValidSaid :=
  OpenClaim.holds_of_wide 14 Try.f14 rfl rfl rfl rfl rfl rfl rfl ⟨rfl, rfl, rfl, rfl, rfl⟩ rfl rfl rfl rfl rfl (by kernel_rfl) Try.func14 facts14 (of_decide_eq_true (by kernel_rfl))
    (by unfold Func.isWrapper; first | (rw [if_pos (by decide +kernel)]; kernel_rfl) | (rw [if_neg (by decide +kernel)]; exact ⟨rfl, rfl⟩))
    (fun os started H enc _ => lifted14 os started H enc)


end Go.Proofs.Ytphacjkogompoaa
