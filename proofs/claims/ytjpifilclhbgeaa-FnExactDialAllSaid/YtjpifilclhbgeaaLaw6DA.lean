/- FnExactDialAll answers true for all arguments. -/
import Derived.Test.YtjpifilclhbgeaaIxC
set_option linter.unusedSimpArgs false
set_option linter.unusedVariables false
namespace Go.Proofs.Ytjpifilclhbgeaa
open Go Go.Abs Go.RowKit
variable {w0 : World}

theorem lawLaw6DA (σ : AHeap) (v0 : Value) (z0 : List (List UInt8)) (z1 : List UInt8) (hv0 : Texts σ v0 z0) (hm0 : z0.length ≤ maxLen) (hw0 : ∀ z ∈ z0, z.length ≤ maxLen) (hm1 : z1.length ≤ maxLen) :
    ACall Try.prog w0 10 [v0, .string (tx z1)] σ fun r _ => r = .bool true := by
  unfold maxLen at hm0 hw0 hm1
  refine ACall.texts_arg (pre := []) (post := [_]) (by kernel_rfl) hv0 fun σ0 h0 o0 u0 hg0 => ?_
  clear hv0 u0 σ v0
  refine acall_go mixed Try.func10 rfl good10 fun pr => ?_
  simp only [List.nil_append, List.cons_append, List.singleton_append]
  by_cases hbig1 : 1048576 < z1.length
  · simp -implicitDefEqProofs (disch := omega) only [List.any_cons, List.any_nil, Nat.reduceEqDiff, List.map_cons, List.map_nil, Option.map_some, Option.map_none, List.nil_append, ↓reduceIte, vcu, ↓vcd]
    refine fin_one Try.results10 ?_
    simp -implicitDefEqProofs (disch := omega) only [List.any_cons, List.any_nil, Nat.reduceEqDiff, List.map_cons, List.map_nil, Option.map_some, Option.map_none, List.nil_append, ↓reduceIte, vcu, ↓vcd]
  have hl1 : z1.length ≤ 1048576 := by omega
  simp -implicitDefEqProofs (disch := omega) only [List.any_cons, List.any_nil, Nat.reduceEqDiff, List.map_cons, List.map_nil, Option.map_some, Option.map_none, List.nil_append, ↓reduceIte, vcu, ↓vcd]
  refine (szTexts_at σ0 h0 o0 z0 hg0 hm0 hw0).mono ?_
  rintro r _ ⟨⟨q0, rfl, hq0, hc0⟩, rfl⟩
  rename_i σ0
  simp -implicitDefEqProofs (disch := omega) only [List.any_cons, List.any_nil, Nat.reduceEqDiff, List.map_cons, List.map_nil, Option.map_some, Option.map_none, List.nil_append, ↓reduceIte, vcu, ↓vcd, opK_some]
  by_cases hneg : q0 < 0
  · simp -implicitDefEqProofs (disch := omega) only [List.any_cons, List.any_nil, Nat.reduceEqDiff, List.map_cons, List.map_nil, Option.map_some, Option.map_none, List.nil_append, ↓reduceIte, vcu, ↓vcd]
    refine fin_one Try.results10 ?_
    simp -implicitDefEqProofs (disch := omega) only [List.any_cons, List.any_nil, Nat.reduceEqDiff, List.map_cons, List.map_nil, Option.map_some, Option.map_none, List.nil_append, ↓reduceIte, vcu, ↓vcd]
  obtain ⟨hl0, hp0⟩ := hc0.resolve_left hneg
  simp -implicitDefEqProofs (disch := omega) only [List.any_cons, List.any_nil, Nat.reduceEqDiff, List.map_cons, List.map_nil, Option.map_some, Option.map_none, List.nil_append, ↓reduceIte, vcu, ↓vcd]
  have hW : (allV z0 z1).length ≤ 1048576 := Nat.le_trans (allV_len z0 z1) hl1
  refine (toTexts_at σ0 h0 o0 z0 hg0 hl0).mono ?_
  rintro r τ1 ⟨g1, n1, rfl, s1, e1⟩
  simp -implicitDefEqProofs (disch := omega) only [List.any_cons, List.any_nil, Nat.reduceEqDiff, List.map_cons, List.map_nil, Option.map_some, Option.map_none, List.nil_append, ↓reduceIte, vcu, ↓vcd, opK_some]
  refine (dialAll_calls τ1 _ z0 z1 (own_textsI e1) hl0 hp0 hl1).mono ?_
  rintro r τs ⟨w, rfl, ss, hw1⟩
  replace hg0 := (hg0.sub s1).sub ss
  clear e1 s1 ss n1
  simp -implicitDefEqProofs (disch := omega) only [List.any_cons, List.any_nil, Nat.reduceEqDiff, List.map_cons, List.map_nil, Option.map_some, Option.map_none, List.nil_append, ↓reduceIte, vcu, ↓vcd, opK_some, List.getElem?_toArray, List.getElem?_cons_zero, List.getElem?_cons_succ]
  refine (toTexts_at τs h0 o0 z0 hg0 hl0).mono ?_
  rintro r τb ⟨gx, nx, rfl, F0, ex⟩
  simp -implicitDefEqProofs (disch := omega) only [List.any_cons, List.any_nil, Nat.reduceEqDiff, List.map_cons, List.map_nil, Option.map_some, Option.map_none, List.nil_append, ↓reduceIte, vcu, ↓vcd, opK_some]
  refine (implDA_calls τb _ z0 z1 (own_textsI ex) hl0 hp0 hl1).mono ?_
  rintro r τ2 ⟨v, rfl, si, hV⟩
  have F := F0.trans si
  have ex2 := si _ _ ex
  simp -implicitDefEqProofs (disch := omega) only [List.any_cons, List.any_nil, Nat.reduceEqDiff, List.map_cons, List.map_nil, Option.map_some, Option.map_none, List.nil_append, ↓reduceIte, vcu, ↓vcd, opK_some, List.getElem?_toArray, List.getElem?_cons_zero, List.getElem?_cons_succ]
  refine (eqInts_calls τ2 _ _ _ _ hV.ints (hw1.ints.sub F) hW hW).mono ?_
  rintro r _ ⟨rfl, rfl⟩
  rename_i τ2
  simp -implicitDefEqProofs (disch := omega) only [List.any_cons, List.any_nil, Nat.reduceEqDiff, List.map_cons, List.map_nil, Option.map_some, Option.map_none, List.nil_append, ↓reduceIte, vcu, ↓vcd, opK_some, eq_self, decide_true, beq_self_eq_true, Bool.not_true, ne_eq, not_true_eq_false]
  refine (toTexts_at τ2 h0 o0 z0 (hg0.sub F) hl0).mono ?_
  rintro r τ3 ⟨g3, n3, rfl, s3, e3⟩
  replace F := F.trans s3
  replace ex2 := s3 _ _ ex2
  replace hV := hV.sub s3
  simp -implicitDefEqProofs (disch := omega) only [List.any_cons, List.any_nil, Nat.reduceEqDiff, List.map_cons, List.map_nil, Option.map_some, Option.map_none, List.nil_append, ↓reduceIte, vcu, ↓vcd, opK_some]
  refine (eqTexts_calls τ3 _ _ z0 z0 (own_textsI ex2) (own_textsI e3) hl0 hl0).mono ?_
  rintro r _ ⟨rfl, rfl⟩
  rename_i τ3
  simp -implicitDefEqProofs (disch := omega) only [List.any_cons, List.any_nil, Nat.reduceEqDiff, List.map_cons, List.map_nil, Option.map_some, Option.map_none, List.nil_append, ↓reduceIte, vcu, ↓vcd, opK_some, eq_self]
  refine (markS_own τ3 gx z0 1 ex2 hl0 (by omega)).mono ?_
  rintro r τ4 ⟨rfl, km, em⟩
  replace F := km.sub F nx
  replace hV := hV.kept km ex
  simp -implicitDefEqProofs (disch := omega) only [List.any_cons, List.any_nil, Nat.reduceEqDiff, List.map_cons, List.map_nil, Option.map_some, Option.map_none, List.nil_append, ↓reduceIte, vcu, ↓vcd, opK_some]
  refine (eqInts_calls τ4 _ _ _ _ hV.ints (hw1.ints.sub F) hW hW).mono ?_
  rintro r _ ⟨rfl, rfl⟩
  rename_i τ4
  simp -implicitDefEqProofs (disch := omega) only [List.any_cons, List.any_nil, Nat.reduceEqDiff, List.map_cons, List.map_nil, Option.map_some, Option.map_none, List.nil_append, ↓reduceIte, vcu, ↓vcd, opK_some, eq_self, decide_true, beq_self_eq_true, Bool.not_true, ne_eq, not_true_eq_false]
  refine (markI_calls τb τ4 _ _ 1 hV hW (by omega)).mono ?_
  rintro r τ5 ⟨rfl, hM, keep⟩
  replace F : Sub τs τ5 := fun h ob e => keep h ob (F0 h ob e) (F h ob e)
  simp -implicitDefEqProofs (disch := omega) only [List.any_cons, List.any_nil, Nat.reduceEqDiff, List.map_cons, List.map_nil, Option.map_some, Option.map_none, List.nil_append, ↓reduceIte, vcu, ↓vcd, opK_some]
  refine (heldI_calls τ5 _ _ 1 hM.ints hW (by omega)).mono ?_
  rintro r _ ⟨rfl, rfl⟩
  rename_i τ5
  simp -implicitDefEqProofs (disch := omega) only [List.any_cons, List.any_nil, Nat.reduceEqDiff, List.map_cons, List.map_nil, Option.map_some, Option.map_none, List.nil_append, ↓reduceIte, vcu, ↓vcd, opK_some, eq_self, decide_true, beq_self_eq_true, Bool.not_true, ne_eq, not_true_eq_false]
  refine (toTexts_at τ5 h0 o0 z0 (hg0.sub F) hl0).mono ?_
  rintro r τ6 ⟨g6, n6, rfl, s6, e6⟩
  replace F := F.trans s6
  replace hM := hM.sub s6
  simp -implicitDefEqProofs (disch := omega) only [List.any_cons, List.any_nil, Nat.reduceEqDiff, List.map_cons, List.map_nil, Option.map_some, Option.map_none, List.nil_append, ↓reduceIte, vcu, ↓vcd, opK_some]
  refine (implDA_calls τ6 _ z0 z1 (own_textsI e6) hl0 hp0 hl1).mono ?_
  rintro r τ7 ⟨v2, rfl, s7, hV2⟩
  replace F := F.trans s7
  replace hM := hM.sub s7
  simp -implicitDefEqProofs (disch := omega) only [List.any_cons, List.any_nil, Nat.reduceEqDiff, List.map_cons, List.map_nil, Option.map_some, Option.map_none, List.nil_append, ↓reduceIte, vcu, ↓vcd, opK_some, List.getElem?_toArray, List.getElem?_cons_zero, List.getElem?_cons_succ]
  refine (eqInts_calls τ7 _ _ _ _ hV2.ints (hw1.ints.sub F) hW hW).mono ?_
  rintro r _ ⟨rfl, rfl⟩
  rename_i τ7
  simp -implicitDefEqProofs (disch := omega) only [List.any_cons, List.any_nil, Nat.reduceEqDiff, List.map_cons, List.map_nil, Option.map_some, Option.map_none, List.nil_append, ↓reduceIte, vcu, ↓vcd, opK_some, eq_self, decide_true, beq_self_eq_true, Bool.not_true, ne_eq, not_true_eq_false]
  refine (heldI_calls τ7 _ _ 1 hM.ints hW (by omega)).mono ?_
  rintro r _ ⟨rfl, rfl⟩
  simp -implicitDefEqProofs (disch := omega) only [List.any_cons, List.any_nil, Nat.reduceEqDiff, List.map_cons, List.map_nil, Option.map_some, Option.map_none, List.nil_append, ↓reduceIte, vcu, ↓vcd, opK_some, eq_self, decide_true, beq_self_eq_true, Bool.not_true, ne_eq, not_true_eq_false]
  refine fin_one Try.results10 ?_
  simp -implicitDefEqProofs (disch := omega) only [List.any_cons, List.any_nil, Nat.reduceEqDiff, List.map_cons, List.map_nil, Option.map_some, Option.map_none, List.nil_append, ↓reduceIte, vcu, ↓vcd]

open Go.ChangeShapes Go.WideShapes Go.ChangeAt Go.RowKit

set_option maxRecDepth 100000 in
theorem lifted10 (os : Os) (started : os.Started) (H : Type) (enc : TypeId × Value → H) :
    ReturnsInHanded {} Try.checked os 10 .any (Rows.fnExactDialAllSpec.pre6 enc Try.prog Try.f10 Rows.fnExactDialAllRow.domain false) (Rows.fnExactDialAllSpec.post enc Try.prog Try.f10 false true false false) := by
  refine returnsInHanded_of_change (C := Try.checked) own started (by kernel_rfl) Try.func10
    (ChangeSpec.witness6 (enc := enc) (C := Try.checked) false ⟨#[], #[.slice none 0 0, .string ⟨#[]⟩], []⟩ 8 (by kernel_rfl) (by kernel_rfl) (by kernel_rfl) (by kernel_rfl)) ?_
  intro W base args ds gs before hval hW _ _
  have hW' := hW
  obtain ⟨p, q, hA, hV, -, -, -⟩ := hW'
  rw [Try.params10] at hA hval
  obtain ⟨v0, vs0, d0, ds0, p0, q0, hargs, rfl, rfl, h0, r0⟩ := trodAll_cons hA
  obtain ⟨v1, vs1, d1, ds1, p1, q1, rfl, rfl, rfl, h1, r1⟩ := trodAll_cons r0
  obtain ⟨rfl, rfl, rfl⟩ := trodAll_nil r1
  obtain ⟨rfl, rfl⟩ := trodVars_none hV
  obtain rfl : args = #[v0, v1] := by cases args; simp_all
  obtain ⟨β0, σ0, a0, dd0, L0, U0, S0, R0, Y0⟩ := start_one (m := 4) (s := .slc .str) (by kernel_rfl) (Start.start W) (slice_cells Try.underlying23 (hval 0 23 v0 rfl rfl)) h0
  obtain ⟨zs0, I0, w0, m0⟩ := lay_texts Y0
  obtain ⟨β1, σ1, a1, dd1, L1, U1, S1, R1, Y1⟩ := start_one (m := 4) (s := .str) (by kernel_rfl) S0 (text_cells Try.underlying9 (hval 1 9 v1 rfl rfl)) h1
  obtain ⟨zs1, rfl, m1⟩ := lay_text Y1
  refine ((lawLaw6DA σ1 a0 zs0 zs1 (I0.sub U1) m0 w0 m1).2 noProt β1 W [v0, v1] S1.rel (.cons (RelV.mono L1 R0) (.cons R1 (.nil _)))).mono fun e W' h => ?_
  obtain ⟨β', r, r', σ', -, rfl, hr, hrel, rfl⟩ := h
  cases hr
  exact ⟨_, rfl, law_post laidOut hW rfl rfl (by rw [Try.params10]; intro t ht; simp only [List.mem_cons, List.not_mem_nil, or_false, or_self] at ht; rcases ht with rfl | rfl <;> exact ⟨by kernel_rfl, of_decide_eq_true (by kernel_rfl)⟩) rfl Try.underlying4 hrel.below⟩

theorem facts10 : joinedFacts Try.prog 10 Try.f10 Rows.fnExactDialAllSpec Rows.fnExactDialAllRow = true := by
  unfold joinedFacts
  rw [mayE, liftsE, makeE]
  kernel_rfl

theorem proved10 : Rows.FnExactDialAllSaid :=
  OpenClaim.holds_of_wide 10 Try.f10 rfl rfl rfl rfl rfl rfl rfl ⟨rfl, rfl, rfl, rfl, rfl⟩ rfl rfl rfl rfl rfl (by kernel_rfl) Try.func10 facts10 (of_decide_eq_true (by kernel_rfl))
    (by unfold Func.isWrapper; first | (rw [if_pos (by decide +kernel)]; kernel_rfl) | (rw [if_neg (by decide +kernel)]; exact ⟨rfl, rfl⟩))
    (fun os started H enc _ => lifted10 os started H enc)


end Go.Proofs.Ytjpifilclhbgeaa
