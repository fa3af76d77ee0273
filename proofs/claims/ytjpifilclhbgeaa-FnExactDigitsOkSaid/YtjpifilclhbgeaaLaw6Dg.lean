/- FnExactDigitsOk answers true for all texts. -/
import Derived.Test.YtjpifilclhbgeaaIxC
set_option linter.unusedSimpArgs false
set_option linter.unusedVariables false
namespace Go.Proofs.Ytjpifilclhbgeaa
open Go Go.Abs Go.RowKit
variable {w0 : World}

theorem law6Dg (σ : AHeap) (xs : List UInt8) (hm : xs.length ≤ maxLen) :
    ACall Try.prog w0 3 [.string (tx xs)] σ fun r _ => r = .bool true := by
  unfold maxLen at hm
  refine acall_go mixed Try.func3 rfl good3 fun pr => ?_
  by_cases hbig : 1048576 < xs.length
  · simp -implicitDefEqProofs (disch := omega) only [List.any_cons, List.any_nil, Nat.reduceEqDiff, List.map_cons, List.map_nil, Option.map_some, Option.map_none, List.nil_append, ↓reduceIte, vcu, ↓vcd]
    refine fin_one Try.results3 ?_
    simp -implicitDefEqProofs (disch := omega) only [List.any_cons, List.any_nil, Nat.reduceEqDiff, List.map_cons, List.map_nil, Option.map_some, Option.map_none, List.nil_append, ↓reduceIte, vcu, ↓vcd]
  have hl : xs.length ≤ 1048576 := by omega
  simp -implicitDefEqProofs (disch := omega) only [List.any_cons, List.any_nil, Nat.reduceEqDiff, List.map_cons, List.map_nil, Option.map_some, Option.map_none, List.nil_append, ↓reduceIte, vcu, ↓vcd]
  refine (digits_calls σ xs hl).mono ?_
  rintro r _ ⟨rfl, rfl⟩
  rename_i τ
  simp -implicitDefEqProofs (disch := omega) only [List.any_cons, List.any_nil, Nat.reduceEqDiff, List.map_cons, List.map_nil, Option.map_some, Option.map_none, List.nil_append, ↓reduceIte, vcu, ↓vcd, opK_some]
  refine (implDg_calls τ xs hl).mono ?_
  rintro r _ ⟨rfl, rfl⟩
  simp -implicitDefEqProofs (disch := omega) only [List.any_cons, List.any_nil, Nat.reduceEqDiff, List.map_cons, List.map_nil, Option.map_some, Option.map_none, List.nil_append, ↓reduceIte, vcu, ↓vcd, opK_some, beq_self_eq_true, Bool.not_true]
  refine fin_one Try.results3 ?_
  simp -implicitDefEqProofs (disch := omega) only [List.any_cons, List.any_nil, Nat.reduceEqDiff, List.map_cons, List.map_nil, Option.map_some, Option.map_none, List.nil_append, ↓reduceIte, vcu, ↓vcd]

open Go.ChangeShapes Go.WideShapes Go.ChangeAt Go.RowKit

set_option maxRecDepth 100000 in
theorem lifted3 (os : Os) (started : os.Started) (H : Type) (enc : TypeId × Value → H) :
    ReturnsInHanded {} Try.checked os 3 .any (Rows.fnExactDigitsOkSpec.pre6 enc Try.prog Try.f3 Rows.fnExactDigitsOkRow.domain false) (Rows.fnExactDigitsOkSpec.post enc Try.prog Try.f3 false true false false) := by
  refine returnsInHanded_of_change (C := Try.checked) own started (by kernel_rfl) Try.func3
    (ChangeSpec.witness6 (enc := enc) (C := Try.checked) false ⟨#[], #[.string ⟨#[]⟩], []⟩ 8 (by kernel_rfl) (by kernel_rfl) (by kernel_rfl) (by kernel_rfl)) ?_
  intro W base args ds gs before hval hW _ _
  have hW' := hW
  obtain ⟨p, q, hA, hV, -, -, -⟩ := hW'
  rw [Try.params3] at hA hval
  obtain ⟨v0, vs0, d0, ds0, p0, q0, hargs, rfl, rfl, h0, r0⟩ := trodAll_cons hA
  obtain ⟨rfl, rfl, rfl⟩ := trodAll_nil r0
  obtain ⟨rfl, rfl⟩ := trodVars_none hV
  obtain rfl : args = #[v0] := by cases args; simp_all
  obtain ⟨β0, σ0, a0, dd0, L0, U0, S0, R0, Y0⟩ := start_one (m := 4) (s := .str) (by kernel_rfl) (Start.start W) (text_cells Try.underlying9 (hval 0 9 v0 rfl rfl)) h0
  obtain ⟨zs0, rfl, m0⟩ := lay_text Y0
  refine ((law6Dg σ0 zs0 m0).2 noProt β0 W [v0] S0.rel (.cons R0 (.nil _))).mono fun e W' h => ?_
  obtain ⟨β', r, r', σ', -, rfl, hr, hrel, rfl⟩ := h
  cases hr
  exact ⟨_, rfl, law_post laidOut hW rfl rfl (by rw [Try.params3]; intro t ht; simp only [List.mem_cons, List.not_mem_nil, or_false, or_self] at ht; rcases ht with rfl <;> exact ⟨by kernel_rfl, of_decide_eq_true (by kernel_rfl)⟩) rfl Try.underlying4 hrel.below⟩

theorem facts3 : joinedFacts Try.prog 3 Try.f3 Rows.fnExactDigitsOkSpec Rows.fnExactDigitsOkRow = true := by
  unfold joinedFacts
  rw [mayE, liftsE, makeE]
  kernel_rfl

theorem proved3 : Rows.FnExactDigitsOkSaid :=
  OpenClaim.holds_of_wide 3 Try.f3 rfl rfl rfl rfl rfl rfl rfl ⟨rfl, rfl, rfl, rfl, rfl⟩ rfl rfl rfl rfl rfl (by kernel_rfl) Try.func3 facts3 (of_decide_eq_true (by kernel_rfl))
    (by unfold Func.isWrapper; first | (rw [if_pos (by decide +kernel)]; kernel_rfl) | (rw [if_neg (by decide +kernel)]; exact ⟨rfl, rfl⟩))
    (fun os started H enc _ => lifted3 os started H enc)


end Go.Proofs.Ytjpifilclhbgeaa
