/- FnExactTakenLoad answers true for all numbers. -/
import Derived.Test.YtkepicmefpcgaaaGg
set_option linter.unusedSimpArgs false
set_option linter.unusedVariables false
namespace Go.Proofs.Ytkepicmefpcgaaa
open Go Go.Abs Go.RowKit
variable {w0 : World}

theorem law7TL (σ : AHeap) (L t : Int) (hL : (Lit.int .i64 L).wf = true) (ht : (Lit.int .i64 t).wf = true) :
    ACall Try.prog w0 14 [.int .i64 L, .int .i64 t] σ fun r _ => r = .bool true := by
  refine acall_go mixed Try.func14 rfl good14 fun pr => ?_
  simp -implicitDefEqProofs (disch := omega) only [List.any_cons, List.any_nil, Nat.reduceEqDiff, List.map_cons, List.map_nil, Option.map_some, Option.map_none, List.nil_append, ↓reduceIte, vcu, ↓vcd]
  refine (specTL_at σ L t).mono ?_
  rintro r _ ⟨rfl, rfl⟩
  rename_i σ
  simp -implicitDefEqProofs (disch := omega) only [List.any_cons, List.any_nil, Nat.reduceEqDiff, List.map_cons, List.map_nil, Option.map_some, Option.map_none, List.nil_append, ↓reduceIte, vcu, ↓vcd, opK_some, List.getElem?_toArray, List.getElem?_cons_zero, List.getElem?_cons_succ]
  refine r_local (cs := #[.int .i64 (tkN L t), .int .i64 (tkD L t)]) ze24 (by decide) (by simp -implicitDefEqProofs (disch := omega) only [List.any_cons, List.any_nil, Nat.reduceEqDiff, List.map_cons, List.map_nil, Option.map_some, Option.map_none, List.nil_append, ↓reduceIte, vcu, ↓vcd]) (by rw [co24]; rfl) rfl rfl (Nat.zero_lt_succ _) fun c5 τ1 n5 s1 e5 => ?_
  replace e5 : τ1 c5 = some ⟨[.int .i64 (tkN L t), .int .i64 (tkD L t)], false⟩ := e5
  simp -implicitDefEqProofs (disch := omega) only [List.any_cons, List.any_nil, Nat.reduceEqDiff, List.map_cons, List.map_nil, Option.map_some, Option.map_none, List.nil_append, ↓reduceIte, vcu, ↓vcd]
  refine (implTL_at w0 τ1 L t).mono ?_
  rintro r _ ⟨rfl, rfl⟩
  rename_i τ1
  simp -implicitDefEqProofs (disch := omega) only [List.any_cons, List.any_nil, Nat.reduceEqDiff, List.map_cons, List.map_nil, Option.map_some, Option.map_none, List.nil_append, ↓reduceIte, vcu, ↓vcd, opK_some, List.getElem?_toArray, List.getElem?_cons_zero, List.getElem?_cons_succ]
  refine r_local (cs := #[.int .i64 (tkN L t), .int .i64 (tkD L t)]) ze24 (by decide) (by simp -implicitDefEqProofs (disch := omega) only [List.any_cons, List.any_nil, Nat.reduceEqDiff, List.map_cons, List.map_nil, Option.map_some, Option.map_none, List.nil_append, ↓reduceIte, vcu, ↓vcd]) (by rw [co24]; rfl) rfl rfl (Nat.zero_lt_succ _) fun c7 τ2 n7 s2 e7 => ?_
  replace e7 : τ2 c7 = some ⟨[.int .i64 (tkN L t), .int .i64 (tkD L t)], false⟩ := e7
  replace e5 := s2 _ _ e5
  have l5 : lds τ2 c5 0 2 = some [.int .i64 (tkN L t), .int .i64 (tkD L t)] := lds_two (ld_of e5 rfl) (ld_of e5 rfl)
  have l7 : lds τ2 c7 0 2 = some [.int .i64 (tkN L t), .int .i64 (tkD L t)] := lds_two (ld_of e7 rfl) (ld_of e7 rfl)
  simp -implicitDefEqProofs (disch := omega) only [List.any_cons, List.any_nil, Nat.reduceEqDiff, List.map_cons, List.map_nil, Option.map_some, Option.map_none, List.nil_append, ↓reduceIte, vcu, ↓vcd, l5, l7, co24]
  refine (eqFrac_at τ2 _ _ _ _).mono ?_
  rintro r _ ⟨rfl, rfl⟩
  rw [decide_eq_true rfl]
  simp -implicitDefEqProofs (disch := omega) only [List.any_cons, List.any_nil, Nat.reduceEqDiff, List.map_cons, List.map_nil, Option.map_some, Option.map_none, List.nil_append, ↓reduceIte, vcu, ↓vcd, opK_some, Bool.not_true, beq_self_eq_true]
  refine fin_one Try.results14 ?_
  simp -implicitDefEqProofs (disch := omega) only [List.any_cons, List.any_nil, Nat.reduceEqDiff, List.map_cons, List.map_nil, Option.map_some, Option.map_none, List.nil_append, ↓reduceIte, vcu, ↓vcd]

open Go.ChangeShapes Go.WideShapes Go.ChangeAt Go.RowKit

set_option maxRecDepth 100000 in
theorem lifted14 (os : Os) (started : os.Started) (H : Type) (enc : TypeId × Value → H) :
    ReturnsInHanded {} Try.checked os 14 .any (Rows.fnExactTakenLoadSpec.pre6 enc Try.prog Try.f14 Rows.fnExactTakenLoadRow.domain false) (Rows.fnExactTakenLoadSpec.post enc Try.prog Try.f14 false true false false) := by
  refine returnsInHanded_of_change (C := Try.checked) own started (by kernel_rfl) Try.func14
    (ChangeSpec.witness6 (enc := enc) (C := Try.checked) false ⟨#[], #[.int .i64 0, .int .i64 0], []⟩ 8 (by kernel_rfl) (by kernel_rfl) (by kernel_rfl) (by kernel_rfl)) ?_
  intro W base args ds gs before hval hW _ _
  have hW' := hW
  obtain ⟨p, q, hA, hV, -, -, -⟩ := hW'
  rw [Try.params14] at hA hval
  obtain ⟨v0, vs0, d0, ds0, p0, q0, hargs, rfl, rfl, h0, r0⟩ := trodAll_cons hA
  obtain ⟨v1, vs1, d1, ds1, p1, q1, rfl, rfl, rfl, h1, r1⟩ := trodAll_cons r0
  obtain ⟨rfl, rfl, rfl⟩ := trodAll_nil r1
  obtain ⟨rfl, rfl⟩ := trodVars_none hV
  obtain rfl : args = #[v0, v1] := by cases args; simp_all
  obtain ⟨z0, rfl, rfl, rfl, wz0⟩ := open_int Try.underlying3 (hval 0 3 v0 rfl rfl) h0
  obtain ⟨z1, rfl, rfl, rfl, wz1⟩ := open_int Try.underlying3 (hval 1 3 v1 rfl rfl) h1
  refine ((law7TL (fun _ => none) z0 z1 wz0 wz1).2 noProt (fun _ => none) W [.int .i64 z0, .int .i64 z1] (Start.start W).rel (.cons (.int _ _) (.cons (.int _ _) (.nil _)))).mono fun e W' h => ?_
  obtain ⟨β', r, r', σ', -, rfl, hr, hrel, rfl⟩ := h
  cases hr
  exact ⟨_, rfl, law_post laidOut hW rfl rfl (by rw [Try.params14]; intro t ht; simp only [List.mem_cons, List.not_mem_nil, or_false, or_self] at ht; rcases ht with rfl <;> exact ⟨by kernel_rfl, of_decide_eq_true (by kernel_rfl)⟩) rfl Try.underlying4 hrel.below⟩

theorem facts14 : joinedFacts Try.prog 14 Try.f14 Rows.fnExactTakenLoadSpec Rows.fnExactTakenLoadRow = true := by
  unfold joinedFacts
  rw [mayE, liftsE, makeE]
  kernel_rfl

theorem proved14 : Rows.FnExactTakenLoadSaid :=
  OpenClaim.holds_of_wide 14 Try.f14 rfl rfl rfl rfl rfl rfl rfl ⟨rfl, rfl, rfl, rfl, rfl⟩ rfl rfl rfl rfl rfl (by kernel_rfl) Try.func14 facts14 (of_decide_eq_true (by kernel_rfl))
    (by unfold Func.isWrapper; first | (rw [if_pos (by decide +kernel)]; kernel_rfl) | (rw [if_neg (by decide +kernel)]; exact ⟨rfl, rfl⟩))
    (fun os started H enc _ => lifted14 os started H enc)


end Go.Proofs.Ytkepicmefpcgaaa
