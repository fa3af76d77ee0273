/- FnExactRouteAll answers true for all networks and lists. -/
import Derived.Test.YtphacjkogompoaaCx
set_option linter.unusedSimpArgs false
set_option linter.unusedVariables false
namespace Go.Proofs.Ytphacjkogompoaa
open Go Go.Abs Go.RowKit Go.Clos
variable {w0 : World}

theorem lawRt (σ : AHeap) (x y z : Int) (v : Value) (xs : List Int) (hx : (Lit.int .i64 x).wf = true) (hy : (Lit.int .i64 y).wf = true) (hz : (Lit.int .i64 z).wf = true) (hv : Ints .i64 σ v xs) (hm : xs.length ≤ maxLen) (_hw : ∀ z ∈ xs, (Lit.int .i64 z).wf = true) :
    ACall Try.prog w0 22 [.agg #[.int .i64 x, .int .i64 y, .int .i64 z], v] σ fun r _ => r = .bool true := by
  unfold maxLen at hm
  refine ACall.ints_arg (pre := [_]) (by kernel_rfl) hv fun σ1 h o hs hg => ?_
  clear hv hs σ v
  obtain ⟨s, hsE⟩ : ∃ s : Sp, s = ⟨x, y, z⟩ := ⟨_, rfl⟩
  have hzl : (rtL s xs).length ≤ 1048576 := by
    unfold rtL
    split
    · rename_i hh
      have := hh.1.1.lines
      have := hh.2.2
      rw [routeN_length]; omega
    · simp
  refine acall_go mixed Try.func22 rfl good22 fun pr => ?_
  simp -implicitDefEqProofs (disch := omega) only [List.any_cons, List.any_nil, Nat.reduceEqDiff, List.map_cons, List.map_nil, Option.map_some, Option.map_none, List.nil_append, ↓reduceIte, vcu, ↓vcd, List.singleton_append, List.cons_append, List.nil_append]
  refine r_boxed fun b τ0 nb s0 e0 => ?_
  replace e0 : τ0 b = some ⟨[.int .i64 x, .int .i64 y, .int .i64 z], false⟩ := e0
  have m3 : ∀ τ', Sub τ0 τ' → lds τ' b 0 3 = some [.int .i64 x, .int .i64 y, .int .i64 z] := fun τ' hs => lds_three (ld_of (hs _ _ e0) rfl) (ld_of (hs _ _ e0) rfl) (ld_of (hs _ _ e0) rfl)
  by_cases hbig : 1048576 < xs.length
  · simp -implicitDefEqProofs (disch := omega) only [List.any_cons, List.any_nil, Nat.reduceEqDiff, List.map_cons, List.map_nil, Option.map_some, Option.map_none, List.nil_append, ↓reduceIte, vcu, ↓vcd]
    refine fin_one Try.results22 ?_
    simp -implicitDefEqProofs (disch := omega) only [List.any_cons, List.any_nil, Nat.reduceEqDiff, List.map_cons, List.map_nil, Option.map_some, Option.map_none, List.nil_append, ↓reduceIte, vcu, ↓vcd]
  have hl : xs.length ≤ 1048576 := by omega
  have hg0 := hg.sub s0
  clear hg
  have l0 := m3 τ0 (Sub.refl _)
  simp -implicitDefEqProofs (disch := omega) only [List.any_cons, List.any_nil, Nat.reduceEqDiff, List.map_cons, List.map_nil, Option.map_some, Option.map_none, List.nil_append, ↓reduceIte, vcu, ↓vcd, l0, co54]
  refine (toShape_at τ0 x y z).mono ?_
  rintro r τ1 ⟨rfl, q1⟩
  subst q1
  simp -implicitDefEqProofs (disch := omega) only [List.any_cons, List.any_nil, Nat.reduceEqDiff, List.map_cons, List.map_nil, Option.map_some, Option.map_none, List.nil_append, ↓reduceIte, vcu, ↓vcd, opK_some]
  refine (toInts_at τ1 h o xs hg0 hl).mono ?_
  rintro r τ2 ⟨g1, n1, rfl, s1, v1⟩
  simp -implicitDefEqProofs (disch := omega) only [List.any_cons, List.any_nil, Nat.reduceEqDiff, List.map_cons, List.map_nil, Option.map_some, Option.map_none, List.nil_append, ↓reduceIte, vcu, ↓vcd, opK_some]
  have hsp := specRoute_at (w0 := w0) τ2 s g1 0 xs (intsAt_own v1) hl
  rw [hsE] at hsp
  rw [hsE] at hzl
  refine hsp.mono ?_
  clear hsp
  rintro _ τ3 ⟨w, rfl, s2, w2⟩
  have hs3 := s1.trans s2
  have l3 := m3 τ3 hs3
  simp -implicitDefEqProofs (disch := omega) only [List.any_cons, List.any_nil, Nat.reduceEqDiff, List.map_cons, List.map_nil, Option.map_some, Option.map_none, List.nil_append, ↓reduceIte, vcu, ↓vcd, opK_some, List.getElem?_toArray, List.getElem?_cons_zero, List.getElem?_cons_succ]
  refine (toInts_at τ3 h o xs (hg0.sub hs3) hl).mono ?_
  rintro r τ4 ⟨g3, n3, rfl, s3, v3⟩
  have l4 := m3 τ4 (hs3.trans s3)
  simp -implicitDefEqProofs (disch := omega) only [List.any_cons, List.any_nil, Nat.reduceEqDiff, List.map_cons, List.map_nil, Option.map_some, Option.map_none, List.nil_append, ↓reduceIte, vcu, ↓vcd, opK_some, l4, co54]
  refine (toShape_at τ4 x y z).mono ?_
  rintro r τ5 ⟨rfl, q5⟩
  subst q5
  simp -implicitDefEqProofs (disch := omega) only [List.any_cons, List.any_nil, Nat.reduceEqDiff, List.map_cons, List.map_nil, Option.map_some, Option.map_none, List.nil_append, ↓reduceIte, vcu, ↓vcd, opK_some]
  have him := implRoute_at (w0 := w0) τ5 s g3 0 xs (intsAt_own v3) hl
  rw [hsE] at him
  refine him.mono ?_
  clear him
  rintro _ τ6 ⟨got, rfl, s4, w4⟩
  have ws4 := (w2.sub s3).sub s4
  simp -implicitDefEqProofs (disch := omega) only [List.any_cons, List.any_nil, Nat.reduceEqDiff, List.map_cons, List.map_nil, Option.map_some, Option.map_none, List.nil_append, ↓reduceIte, vcu, ↓vcd, opK_some, List.getElem?_toArray, List.getElem?_cons_zero, List.getElem?_cons_succ]
  refine (eqCalls_calls τ6 _ _ _ _ w4.tris ws4.tris hzl hzl).mono ?_
  rintro r τ7 ⟨rfl, q7⟩
  subst q7
  rw [decide_eq_true (rfl : rtL ⟨x, y, z⟩ xs = rtL ⟨x, y, z⟩ xs)]
  simp -implicitDefEqProofs (disch := omega) only [List.any_cons, List.any_nil, Nat.reduceEqDiff, List.map_cons, List.map_nil, Option.map_some, Option.map_none, List.nil_append, ↓reduceIte, vcu, ↓vcd, opK_some, Bool.not_true, beq_self_eq_true]
  refine (toInts_at τ7 h o xs ((hg0.sub hs3).sub (s3.trans s4)) hl).mono ?_
  rintro r τ8 ⟨g5, n5, rfl, s5, v5⟩
  simp -implicitDefEqProofs (disch := omega) only [List.any_cons, List.any_nil, Nat.reduceEqDiff, List.map_cons, List.map_nil, Option.map_some, Option.map_none, List.nil_append, ↓reduceIte, vcu, ↓vcd, opK_some]
  refine (eqInts_at τ8 g3 0 g5 0 xs xs (intsAt_own (s5 _ _ (s4 _ _ v3))) (intsAt_own v5) hl hl).mono ?_
  rintro r τ9 ⟨rfl, q9⟩
  subst q9
  rw [decide_eq_true (rfl : xs = xs)]
  simp -implicitDefEqProofs (disch := omega) only [List.any_cons, List.any_nil, Nat.reduceEqDiff, List.map_cons, List.map_nil, Option.map_some, Option.map_none, List.nil_append, ↓reduceIte, vcu, ↓vcd, opK_some, Bool.not_true]
  refine (mark_own τ9 g3 xs 1 (s5 _ _ (s4 _ _ v3)) hl (by omega)).mono ?_
  rintro r τ10 ⟨rfl, k6, v6⟩
  have w6 := (w4.sub s5).kept k6 v3
  have ws6 : Tris τ10 w (rtL ⟨x, y, z⟩ xs) := by
    rcases w2 with ⟨e1, e2⟩ | ⟨q, e1, e2, e3⟩
    · exact .inl ⟨e1, e2⟩
    · exact .inr ⟨q, 0, e1, trisAt_own (k6.at (s5 _ _ (s4 _ _ (s3 _ _ e2))) (ne_of' n3 e2))⟩
  have sub26 : Sub τ3 τ10 := k6.sub (s3.trans (s4.trans s5)) n3
  simp -implicitDefEqProofs (disch := omega) only [List.any_cons, List.any_nil, Nat.reduceEqDiff, List.map_cons, List.map_nil, Option.map_some, Option.map_none, List.nil_append, ↓reduceIte, vcu, ↓vcd, opK_some]
  refine (eqCalls_calls τ10 _ _ _ _ w6.tris ws6 hzl hzl).mono ?_
  rintro r τ11 ⟨rfl, q11⟩
  subst q11
  rw [decide_eq_true (rfl : rtL ⟨x, y, z⟩ xs = rtL ⟨x, y, z⟩ xs)]
  simp -implicitDefEqProofs (disch := omega) only [List.any_cons, List.any_nil, Nat.reduceEqDiff, List.map_cons, List.map_nil, Option.map_some, Option.map_none, List.nil_append, ↓reduceIte, vcu, ↓vcd, opK_some, Bool.not_true, beq_self_eq_true]
  refine (markC_calls τ5 τ11 got _ 1 w6 hzl (by omega)).mono ?_
  rintro r τ12 ⟨rfl, w7, m7⟩
  have sub27 : Sub τ3 τ12 := fun k ob e => m7 k ob (s3 _ _ e) (sub26 _ _ e)
  have ws7 : Tris τ12 w (rtL ⟨x, y, z⟩ xs) := w2.tris.sub sub27
  simp -implicitDefEqProofs (disch := omega) only [List.any_cons, List.any_nil, Nat.reduceEqDiff, List.map_cons, List.map_nil, Option.map_some, Option.map_none, List.nil_append, ↓reduceIte, vcu, ↓vcd, opK_some]
  refine (heldC_calls τ12 got _ 1 w7.tris hzl (by omega)).mono ?_
  rintro r τ13 ⟨rfl, q13⟩
  subst q13
  have l13 := m3 τ13 (hs3.trans sub27)
  simp -implicitDefEqProofs (disch := omega) only [List.any_cons, List.any_nil, Nat.reduceEqDiff, List.map_cons, List.map_nil, Option.map_some, Option.map_none, List.nil_append, ↓reduceIte, vcu, ↓vcd, opK_some, ne_eq, not_true_eq_false, eq_self, l13, co54]
  refine (toShape_at τ13 x y z).mono ?_
  rintro r τ14 ⟨rfl, q14⟩
  subst q14
  simp -implicitDefEqProofs (disch := omega) only [List.any_cons, List.any_nil, Nat.reduceEqDiff, List.map_cons, List.map_nil, Option.map_some, Option.map_none, List.nil_append, ↓reduceIte, vcu, ↓vcd, opK_some]
  refine (toInts_at τ14 h o xs ((hg0.sub hs3).sub sub27) hl).mono ?_
  rintro r τ15 ⟨g8, n8, rfl, s8, v8⟩
  simp -implicitDefEqProofs (disch := omega) only [List.any_cons, List.any_nil, Nat.reduceEqDiff, List.map_cons, List.map_nil, Option.map_some, Option.map_none, List.nil_append, ↓reduceIte, vcu, ↓vcd, opK_some]
  have him := implRoute_at (w0 := w0) τ15 s g8 0 xs (intsAt_own v8) hl
  rw [hsE] at him
  refine him.mono ?_
  clear him
  rintro _ τ16 ⟨got2, rfl, s9, w9⟩
  simp -implicitDefEqProofs (disch := omega) only [List.any_cons, List.any_nil, Nat.reduceEqDiff, List.map_cons, List.map_nil, Option.map_some, Option.map_none, List.nil_append, ↓reduceIte, vcu, ↓vcd, opK_some, List.getElem?_toArray, List.getElem?_cons_zero, List.getElem?_cons_succ]
  refine (eqCalls_calls τ16 _ _ _ _ w9.tris (ws7.sub (s8.trans s9)) hzl hzl).mono ?_
  rintro r τ17 ⟨rfl, q17⟩
  subst q17
  rw [decide_eq_true (rfl : rtL ⟨x, y, z⟩ xs = rtL ⟨x, y, z⟩ xs)]
  simp -implicitDefEqProofs (disch := omega) only [List.any_cons, List.any_nil, Nat.reduceEqDiff, List.map_cons, List.map_nil, Option.map_some, Option.map_none, List.nil_append, ↓reduceIte, vcu, ↓vcd, opK_some, Bool.not_true, beq_self_eq_true]
  refine (heldC_calls τ17 got _ 1 (w7.tris.sub (s8.trans s9)) hzl (by omega)).mono ?_
  rintro r _ ⟨rfl, rfl⟩
  simp -implicitDefEqProofs (disch := omega) only [List.any_cons, List.any_nil, Nat.reduceEqDiff, List.map_cons, List.map_nil, Option.map_some, Option.map_none, List.nil_append, ↓reduceIte, vcu, ↓vcd, opK_some, ne_eq, not_true_eq_false, eq_self]
  refine fin_one Try.results22 ?_
  simp -implicitDefEqProofs (disch := omega) only [List.any_cons, List.any_nil, Nat.reduceEqDiff, List.map_cons, List.map_nil, Option.map_some, Option.map_none, List.nil_append, ↓reduceIte, vcu, ↓vcd]

open Go.ChangeShapes Go.WideShapes Go.ChangeAt Go.RowKit

set_option maxRecDepth 100000 in
theorem lifted22 (os : Os) (started : os.Started) (H : Type) (enc : TypeId × Value → H) :
    ReturnsInHanded {} Try.checked os 22 .any (Rows.fnExactRouteAllSpec.pre6 enc Try.prog Try.f22 Rows.fnExactRouteAllRow.domain false) (Rows.fnExactRouteAllSpec.post enc Try.prog Try.f22 false true false false) := by
  refine returnsInHanded_of_change (C := Try.checked) own started (by kernel_rfl) Try.func22
    (ChangeSpec.witness6 (enc := enc) (C := Try.checked) false ⟨#[], #[.agg #[.int .i64 0, .int .i64 0, .int .i64 0], .slice none 0 0], []⟩ 8 (by kernel_rfl) (by kernel_rfl) (by kernel_rfl) (by kernel_rfl)) ?_
  intro W base args ds gs before hval hW _ _
  have hW' := hW
  obtain ⟨p, q, hA, hV, -, -, -⟩ := hW'
  rw [Try.params22] at hA hval
  obtain ⟨v0, vs0, d0, ds0, p0, q0, hargs, rfl, rfl, h0, r0⟩ := trodAll_cons hA
  obtain ⟨v1, vs1, d1, ds1, p1, q1, rfl, rfl, rfl, h1, r1⟩ := trodAll_cons r0
  obtain ⟨rfl, rfl, rfl⟩ := trodAll_nil r1
  obtain ⟨rfl, rfl⟩ := trodVars_none hV
  obtain rfl : args = #[v0, v1] := by cases args; simp_all
  obtain ⟨β0, σ0, acs0, dd0, L0, U0, S0, R0, Y0⟩ := start_rec (m := 4) (s := .rcd [.int .i64, .int .i64, .int .i64]) (by kernel_rfl) Try.underlying54 (Start.start W) (hval 0 54 v0 rfl rfl) h0
  obtain ⟨x0, y0, z0, rfl, wx0, wy0, wz0⟩ := lay_three Y0
  obtain ⟨β1, σ1, a1, zs1, L1, U1, S1, R1, I1, w1, m1⟩ := start_ints Try.underlying37 Try.underlying3 co3 S0 (hval 1 37 v1 rfl rfl) h1
  refine ((lawRt σ1 x0 y0 z0 a1 zs1 wx0 wy0 wz0 (I1) m1 w1).2 noProt β1 W [v0, v1] S1.rel (.cons (RelV.mono L1 R0) (.cons R1 (.nil _)))).mono fun e W' h => ?_
  obtain ⟨β', r, r', σ', -, rfl, hr, hrel, rfl⟩ := h
  cases hr
  exact ⟨_, rfl, law_post laidOut hW rfl rfl (by rw [Try.params22]; intro t ht; simp only [List.mem_cons, List.not_mem_nil, or_false, or_self] at ht; rcases ht with rfl | rfl <;> exact ⟨by kernel_rfl, of_decide_eq_true (by kernel_rfl)⟩) rfl Try.underlying4 hrel.below⟩

theorem facts22 : joinedFacts Try.prog 22 Try.f22 Rows.fnExactRouteAllSpec Rows.fnExactRouteAllRow = true := by
  unfold joinedFacts
  rw [mayE, liftsE, makeE]
  kernel_rfl

theorem proved22 : Rows.FnExactRouteAllSaid :=
  OpenClaim.holds_of_wide 22 Try.f22 rfl rfl rfl rfl rfl rfl rfl ⟨rfl, rfl, rfl, rfl, rfl⟩ rfl rfl rfl rfl rfl (by kernel_rfl) Try.func22 facts22 (of_decide_eq_true (by kernel_rfl))
    (by unfold Func.isWrapper; first | (rw [if_pos (by decide +kernel)]; kernel_rfl) | (rw [if_neg (by decide +kernel)]; exact ⟨rfl, rfl⟩))
    (fun os started H enc _ => lifted22 os started H enc)


end Go.Proofs.Ytphacjkogompoaa
