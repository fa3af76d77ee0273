/- FnExactMatchFirst answers true for every table. -/
import Derived.Test.YtbfldpcikcdlpaaQc
set_option linter.unusedSimpArgs false
set_option linter.unusedVariables false
namespace Go.Proofs.Ytbfldpcikcdlpaa
open Go Go.Abs Go.RowKit
variable {w0 : World}

theorem MatchF.small {rows : List (List Int)} {ps : List Int} {b : Bool} (h : MatchF rows ps b) : ps.length ≤ 6 := by
  rcases h with ⟨-, rfl, -⟩ | ⟨hT, ⟨-, rfl, -⟩ | ⟨-, hl, -⟩⟩
  · simp
  · simp
  · have := hT.1; omega

theorem lawMF (σ : AHeap) (v : Value) (rows : List (List Int)) (hv : RowsV σ v rows) (hm : rows.length ≤ maxLen) (hw : ∀ row ∈ rows, row.length ≤ maxLen ∧ ∀ z ∈ row, (Lit.int .i64 z).wf = true) :
    ACall Try.prog w0 12 [v] σ fun r _ => r = .bool true := by
  refine ACall.rows_arg (pre := []) (by kernel_rfl) hv fun σ1 h o hs hg => ?_
  clear hv hs σ v
  refine acall_go mixed Try.func12 rfl good12 ?_
  simp -implicitDefEqProofs (disch := omega) only [List.any_cons, List.any_nil, Nat.reduceEqDiff, List.map_cons, List.map_nil, Option.map_some, Option.map_none, List.nil_append, ↓reduceIte, vcu0, vcu1, vcu2, vcu3, vcu4, vcu5, vcu6, vcu7, vcu8, vcu9, vcu10, vcu11, vcu12, vcu13, vcu14, vcu15, vcu16, ↓vcd0, ↓vcd1, ↓vcd2, ↓vcd3]
  refine (szRows_at σ1 h o rows 1048576 hg (by omega) hm (fun i hi => (hw _ (by simp [List.getD, hi])).1)).mono ?_
  rintro r _ ⟨z, rfl, rfl, hz1, hz2, hz⟩
  by_cases hneg : z < 0
  · simp -implicitDefEqProofs (disch := omega) only [List.any_cons, List.any_nil, Nat.reduceEqDiff, List.map_cons, List.map_nil, Option.map_some, Option.map_none, List.nil_append, ↓reduceIte, vcu0, vcu1, vcu2, vcu3, vcu4, vcu5, vcu6, vcu7, vcu8, vcu9, vcu10, vcu11, vcu12, vcu13, vcu14, vcu15, vcu16, ↓vcd0, ↓vcd1, ↓vcd2, ↓vcd3, opK_some]
    refine fin_one Try.results12 ?_
    simp -implicitDefEqProofs (disch := omega) only [List.any_cons, List.any_nil, Nat.reduceEqDiff, List.map_cons, List.map_nil, Option.map_some, Option.map_none, List.nil_append, ↓reduceIte, vcu0, vcu1, vcu2, vcu3, vcu4, vcu5, vcu6, vcu7, vcu8, vcu9, vcu10, vcu11, vcu12, vcu13, vcu14, vcu15, vcu16, ↓vcd0, ↓vcd1, ↓vcd2, ↓vcd3]
  obtain ⟨hl, hr⟩ := hz (by omega)
  rename_i σ1
  simp -implicitDefEqProofs (disch := omega) only [List.any_cons, List.any_nil, Nat.reduceEqDiff, List.map_cons, List.map_nil, Option.map_some, Option.map_none, List.nil_append, ↓reduceIte, vcu0, vcu1, vcu2, vcu3, vcu4, vcu5, vcu6, vcu7, vcu8, vcu9, vcu10, vcu11, vcu12, vcu13, vcu14, vcu15, vcu16, ↓vcd0, ↓vcd1, ↓vcd2, ↓vcd3, opK_some]
  refine (toRows_at σ1 h o rows hg hl hr).mono ?_
  rintro r τ1 ⟨g1, n1, rfl, s1, e1⟩
  simp -implicitDefEqProofs (disch := omega) only [List.any_cons, List.any_nil, Nat.reduceEqDiff, List.map_cons, List.map_nil, Option.map_some, Option.map_none, List.nil_append, ↓reduceIte, vcu0, vcu1, vcu2, vcu3, vcu4, vcu5, vcu6, vcu7, vcu8, vcu9, vcu10, vcu11, vcu12, vcu13, vcu14, vcu15, vcu16, ↓vcd0, ↓vcd1, ↓vcd2, ↓vcd3, opK_some]
  refine (specMF_at τ1 g1 0 rows e1 hl).mono ?_
  rintro r τ1' ⟨w, c, qs, rfl, t1, hw1, hM1⟩
  have hsm := hM1.small
  simp -implicitDefEqProofs (disch := omega) only [List.any_cons, List.any_nil, Nat.reduceEqDiff, List.map_cons, List.map_nil, Option.map_some, Option.map_none, List.nil_append, ↓reduceIte, vcu0, vcu1, vcu2, vcu3, vcu4, vcu5, vcu6, vcu7, vcu8, vcu9, vcu10, vcu11, vcu12, vcu13, vcu14, vcu15, vcu16, ↓vcd0, ↓vcd1, ↓vcd2, ↓vcd3, opK_some, List.getElem?_toArray, List.getElem?_cons_zero, List.getElem?_cons_succ]
  refine (toRowsO_at τ1' h o rows ((hg.sub s1).sub t1) hl hr).mono ?_
  rintro r τ2 ⟨gx, q, rfl, s2, hx⟩
  simp -implicitDefEqProofs (disch := omega) only [List.any_cons, List.any_nil, Nat.reduceEqDiff, List.map_cons, List.map_nil, Option.map_some, Option.map_none, List.nil_append, ↓reduceIte, vcu0, vcu1, vcu2, vcu3, vcu4, vcu5, vcu6, vcu7, vcu8, vcu9, vcu10, vcu11, vcu12, vcu13, vcu14, vcu15, vcu16, ↓vcd0, ↓vcd1, ↓vcd2, ↓vcd3, opK_some]
  refine (implMF_at τ2 gx 0 rows hx.rows hl).mono ?_
  rintro r τ2' ⟨gv, b, ps, rfl, t2, hgv, hM2⟩
  obtain ⟨rfl, rfl⟩ := hM2.uniq hM1
  simp -implicitDefEqProofs (disch := omega) only [List.any_cons, List.any_nil, Nat.reduceEqDiff, List.map_cons, List.map_nil, Option.map_some, Option.map_none, List.nil_append, ↓reduceIte, vcu0, vcu1, vcu2, vcu3, vcu4, vcu5, vcu6, vcu7, vcu8, vcu9, vcu10, vcu11, vcu12, vcu13, vcu14, vcu15, vcu16, ↓vcd0, ↓vcd1, ↓vcd2, ↓vcd3, opK_some, List.getElem?_toArray, List.getElem?_cons_zero, List.getElem?_cons_succ]
  refine (eqInts_calls τ2' gv w ps ps hgv.ints ((hw1.sub s2).sub t2).ints (by omega) (by omega)).mono ?_
  rintro r _ ⟨rfl, rfl⟩
  rename_i τ2'
  simp -implicitDefEqProofs (disch := omega) only [List.any_cons, List.any_nil, Nat.reduceEqDiff, List.map_cons, List.map_nil, Option.map_some, Option.map_none, List.nil_append, ↓reduceIte, vcu0, vcu1, vcu2, vcu3, vcu4, vcu5, vcu6, vcu7, vcu8, vcu9, vcu10, vcu11, vcu12, vcu13, vcu14, vcu15, vcu16, ↓vcd0, ↓vcd1, ↓vcd2, ↓vcd3, opK_some, eq_self, decide_true, beq_self_eq_true, Bool.not_true]
  refine (toRows_at τ2' h o rows ((((hg.sub s1).sub t1).sub s2).sub t2) hl hr).mono ?_
  rintro r τ3 ⟨g3, n3, rfl, s3, e3⟩
  simp -implicitDefEqProofs (disch := omega) only [List.any_cons, List.any_nil, Nat.reduceEqDiff, List.map_cons, List.map_nil, Option.map_some, Option.map_none, List.nil_append, ↓reduceIte, vcu0, vcu1, vcu2, vcu3, vcu4, vcu5, vcu6, vcu7, vcu8, vcu9, vcu10, vcu11, vcu12, vcu13, vcu14, vcu15, vcu16, ↓vcd0, ↓vcd1, ↓vcd2, ↓vcd3, opK_some]
  have hx3 := (hx.sub t2).sub s3
  refine (eqRows_at τ3 gx 0 g3 0 rows rows hx3.rows e3 hl rfl hr).mono ?_
  rintro r _ ⟨rfl, rfl⟩
  rename_i τ3
  simp -implicitDefEqProofs (disch := omega) only [List.any_cons, List.any_nil, Nat.reduceEqDiff, List.map_cons, List.map_nil, Option.map_some, Option.map_none, List.nil_append, ↓reduceIte, vcu0, vcu1, vcu2, vcu3, vcu4, vcu5, vcu6, vcu7, vcu8, vcu9, vcu10, vcu11, vcu12, vcu13, vcu14, vcu15, vcu16, ↓vcd0, ↓vcd1, ↓vcd2, ↓vcd3, opK_some]
  refine (markRows_at τ1' τ3 gx q rows 1 hx3 hl hr (by omega)).mono ?_
  rintro r τ4 ⟨rfl, -, hK⟩
  have s14 : Sub τ1' τ4 := hK.sub ((s2.trans t2).trans s3) hx.free
  have hg4 : OwnI τ2 τ4 gv ps := by
    have hk := hK.newer (fun i hi => ⟨_, hx.row i hi⟩)
    rcases hgv.sub s3 with ⟨a, b⟩ | ⟨g, a, b, c⟩
    · exact .inl ⟨a, b⟩
    · exact .inr ⟨g, a, hk _ _ c b, c⟩
  have htot := tot_le hr rows.length (Nat.le_refl _)
  simp -implicitDefEqProofs (disch := omega) only [List.any_cons, List.any_nil, Nat.reduceEqDiff, List.map_cons, List.map_nil, Option.map_some, Option.map_none, List.nil_append, ↓reduceIte, vcu0, vcu1, vcu2, vcu3, vcu4, vcu5, vcu6, vcu7, vcu8, vcu9, vcu10, vcu11, vcu12, vcu13, vcu14, vcu15, vcu16, ↓vcd0, ↓vcd1, ↓vcd2, ↓vcd3, opK_some]
  refine (eqInts_calls τ4 gv w ps ps hg4.ints (hw1.sub s14).ints (by omega) (by omega)).mono ?_
  rintro r _ ⟨rfl, rfl⟩
  rename_i τ4
  simp -implicitDefEqProofs (disch := omega) only [List.any_cons, List.any_nil, Nat.reduceEqDiff, List.map_cons, List.map_nil, Option.map_some, Option.map_none, List.nil_append, ↓reduceIte, vcu0, vcu1, vcu2, vcu3, vcu4, vcu5, vcu6, vcu7, vcu8, vcu9, vcu10, vcu11, vcu12, vcu13, vcu14, vcu15, vcu16, ↓vcd0, ↓vcd1, ↓vcd2, ↓vcd3, opK_some, eq_self, decide_true, beq_self_eq_true, Bool.not_true]
  refine (markI_calls τ2 τ4 gv ps 1 hg4 (by omega) (by omega)).mono ?_
  rintro r τ5 ⟨rfl, hg5, hold⟩
  have s15 : Sub τ1' τ5 := fun k ob e => hold k ob (s2 k ob e) (s14 k ob e)
  simp -implicitDefEqProofs (disch := omega) only [List.any_cons, List.any_nil, Nat.reduceEqDiff, List.map_cons, List.map_nil, Option.map_some, Option.map_none, List.nil_append, ↓reduceIte, vcu0, vcu1, vcu2, vcu3, vcu4, vcu5, vcu6, vcu7, vcu8, vcu9, vcu10, vcu11, vcu12, vcu13, vcu14, vcu15, vcu16, ↓vcd0, ↓vcd1, ↓vcd2, ↓vcd3, opK_some]
  refine (heldI_calls τ5 gv ps.length 1 hg5.ints (by omega) (by omega)).mono ?_
  rintro r _ ⟨rfl, rfl⟩
  rename_i τ5
  simp -implicitDefEqProofs (disch := omega) only [List.any_cons, List.any_nil, Nat.reduceEqDiff, List.map_cons, List.map_nil, Option.map_some, Option.map_none, List.nil_append, ↓reduceIte, vcu0, vcu1, vcu2, vcu3, vcu4, vcu5, vcu6, vcu7, vcu8, vcu9, vcu10, vcu11, vcu12, vcu13, vcu14, vcu15, vcu16, ↓vcd0, ↓vcd1, ↓vcd2, ↓vcd3, opK_some, ne_eq, not_true_eq_false, decide_false]
  refine (toRows_at τ5 h o rows (((hg.sub s1).sub t1).sub s15) hl hr).mono ?_
  rintro r τ6 ⟨g6, n6, rfl, s6, e6⟩
  simp -implicitDefEqProofs (disch := omega) only [List.any_cons, List.any_nil, Nat.reduceEqDiff, List.map_cons, List.map_nil, Option.map_some, Option.map_none, List.nil_append, ↓reduceIte, vcu0, vcu1, vcu2, vcu3, vcu4, vcu5, vcu6, vcu7, vcu8, vcu9, vcu10, vcu11, vcu12, vcu13, vcu14, vcu15, vcu16, ↓vcd0, ↓vcd1, ↓vcd2, ↓vcd3, opK_some]
  refine (implMF_at τ6 g6 0 rows e6 hl).mono ?_
  rintro r τ6' ⟨hv2, b2, ps2, rfl, t6, hhv, hM6⟩
  obtain ⟨rfl, rfl⟩ := hM6.uniq hM1
  simp -implicitDefEqProofs (disch := omega) only [List.any_cons, List.any_nil, Nat.reduceEqDiff, List.map_cons, List.map_nil, Option.map_some, Option.map_none, List.nil_append, ↓reduceIte, vcu0, vcu1, vcu2, vcu3, vcu4, vcu5, vcu6, vcu7, vcu8, vcu9, vcu10, vcu11, vcu12, vcu13, vcu14, vcu15, vcu16, ↓vcd0, ↓vcd1, ↓vcd2, ↓vcd3, opK_some, List.getElem?_toArray, List.getElem?_cons_zero, List.getElem?_cons_succ]
  refine (eqInts_calls τ6' hv2 w ps2 ps2 hhv.ints (((hw1.sub s15).sub s6).sub t6).ints (by omega) (by omega)).mono ?_
  rintro r _ ⟨rfl, rfl⟩
  rename_i τ6'
  simp -implicitDefEqProofs (disch := omega) only [List.any_cons, List.any_nil, Nat.reduceEqDiff, List.map_cons, List.map_nil, Option.map_some, Option.map_none, List.nil_append, ↓reduceIte, vcu0, vcu1, vcu2, vcu3, vcu4, vcu5, vcu6, vcu7, vcu8, vcu9, vcu10, vcu11, vcu12, vcu13, vcu14, vcu15, vcu16, ↓vcd0, ↓vcd1, ↓vcd2, ↓vcd3, opK_some, eq_self, decide_true, beq_self_eq_true, Bool.not_true]
  refine (heldI_calls τ6' gv ps2.length 1 ((hg5.sub s6).sub t6).ints (by omega) (by omega)).mono ?_
  rintro r _ ⟨rfl, rfl⟩
  simp -implicitDefEqProofs (disch := omega) only [List.any_cons, List.any_nil, Nat.reduceEqDiff, List.map_cons, List.map_nil, Option.map_some, Option.map_none, List.nil_append, ↓reduceIte, vcu0, vcu1, vcu2, vcu3, vcu4, vcu5, vcu6, vcu7, vcu8, vcu9, vcu10, vcu11, vcu12, vcu13, vcu14, vcu15, vcu16, ↓vcd0, ↓vcd1, ↓vcd2, ↓vcd3, opK_some, ne_eq, not_true_eq_false, decide_false]
  refine fin_one Try.results12 ?_
  simp -implicitDefEqProofs (disch := omega) only [List.any_cons, List.any_nil, Nat.reduceEqDiff, List.map_cons, List.map_nil, Option.map_some, Option.map_none, List.nil_append, ↓reduceIte, vcu0, vcu1, vcu2, vcu3, vcu4, vcu5, vcu6, vcu7, vcu8, vcu9, vcu10, vcu11, vcu12, vcu13, vcu14, vcu15, vcu16, ↓vcd0, ↓vcd1, ↓vcd2, ↓vcd3]

open Go.ChangeShapes Go.WideShapes Go.ChangeAt Go.RowKit

set_option maxRecDepth 100000 in
theorem lifted12 (os : Os) (started : os.Started) (H : Type) (enc : TypeId × Value → H) :
    ReturnsInHanded {} Try.checked os 12 .any (Rows.fnExactMatchFirstSpec.pre6 enc Try.prog Try.f12 Rows.fnExactMatchFirstRow.domain false) (Rows.fnExactMatchFirstSpec.post enc Try.prog Try.f12 false true false false) := by
  refine returnsInHanded_of_change (C := Try.checked) own started (by kernel_rfl) Try.func12
    (ChangeSpec.witness6 (enc := enc) (C := Try.checked) false ⟨#[], #[.slice none 0 0], []⟩ 8 (by kernel_rfl) (by kernel_rfl) (by kernel_rfl) (by kernel_rfl)) ?_
  intro W base args ds gs before hval hW _ _
  have hW' := hW
  obtain ⟨p, q, hA, hV, -, -, -⟩ := hW'
  rw [Try.params12] at hA hval
  obtain ⟨v0, vs0, d0, ds0, p0, q0, hargs, rfl, rfl, h0, r0⟩ := trodAll_cons hA
  obtain ⟨rfl, rfl, rfl⟩ := trodAll_nil r0
  obtain ⟨rfl, rfl⟩ := trodVars_none hV
  obtain rfl : args = #[v0] := by cases args; simp_all
  obtain ⟨β0, σ0, a0, dd0, L0, U0, S0, R0, Y0⟩ := start_one (m := 4) (s := .slc (.slc (.int .i64))) (by kernel_rfl) (Start.start W) (slice_cells Try.underlying23 (hval 0 23 v0 rfl rfl)) h0
  obtain ⟨zs0, I0, w0, m0⟩ := lay_rows Y0
  refine ((lawMF σ0 a0 zs0 (I0) m0 w0).2 β0 W [v0] S0.rel (.cons R0 (.nil _))).mono fun e W' h => ?_
  obtain ⟨β', r, r', σ', -, rfl, hr, hrel, rfl⟩ := h
  cases hr
  exact ⟨_, rfl, law_post laidOut hW rfl rfl (by rw [Try.params12]; intro t ht; simp only [List.mem_cons, List.not_mem_nil, or_false, or_self] at ht; rcases ht with rfl <;> exact ⟨by kernel_rfl, of_decide_eq_true (by kernel_rfl)⟩) rfl Try.underlying4 hrel.below⟩

theorem facts12 : joinedFacts Try.prog 12 Try.f12 Rows.fnExactMatchFirstSpec Rows.fnExactMatchFirstRow = true := by
  unfold joinedFacts
  rw [mayE, liftsE, makeE]
  kernel_rfl

theorem proved12 : Rows.FnExactMatchFirstSaid :=
  OpenClaim.holds_of_wide 12 Try.f12 rfl rfl rfl rfl rfl rfl rfl ⟨rfl, rfl, rfl, rfl, rfl⟩ rfl rfl rfl rfl rfl (by kernel_rfl) Try.func12 facts12 (of_decide_eq_true (by kernel_rfl))
    (by unfold Func.isWrapper; first | (rw [if_pos (by decide +kernel)]; kernel_rfl) | (rw [if_neg (by decide +kernel)]; exact ⟨rfl, rfl⟩))
    (fun os started H enc _ => lifted12 os started H enc)


end Go.Proofs.Ytbfldpcikcdlpaa
