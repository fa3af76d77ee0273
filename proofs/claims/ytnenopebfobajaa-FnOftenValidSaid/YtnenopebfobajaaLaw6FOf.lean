/- FnOftenValid answers true for every code. -/
import Derived.Test.YtnenopebfobajaaKo
set_option linter.unusedSimpArgs false
set_option linter.unusedVariables false
namespace Go.Proofs.Ytnenopebfobajaa
open Go Go.Abs Go.RowKit
variable {w0 : World}

theorem law11 (σ : AHeap) (v : Value) (bs : List Int) (hv : Ints .u8 σ v bs) (hm : bs.length ≤ maxLen) (hw : ∀ z ∈ bs, (Lit.int .u8 z).wf = true) :
    ACall Try.prog w0 11 [v] σ fun r _ => r = .bool true := by
  unfold maxLen at hm
  refine ACall.ints_arg (pre := []) (by kernel_rfl) hv fun σ1 h o hs hg => ?_
  clear hv hs σ v
  have hb := bytes_of hw
  refine acall_go mixed Try.func11 rfl good11 fun pr => ?_
  by_cases hbig : 1048576 < bs.length
  · simp -implicitDefEqProofs (disch := omega) only [List.any_cons, List.any_nil, Nat.reduceEqDiff, List.map_cons, List.map_nil, Option.map_some, Option.map_none, List.nil_append, ↓reduceIte, vcu, ↓vcd]
    refine fin_one Try.results11 ?_
    simp -implicitDefEqProofs (disch := omega) only [List.any_cons, List.any_nil, Nat.reduceEqDiff, List.map_cons, List.map_nil, Option.map_some, Option.map_none, List.nil_append, ↓reduceIte, vcu, ↓vcd]
  have hl : bs.length ≤ 1048576 := by omega
  simp -implicitDefEqProofs (disch := omega) only [List.any_cons, List.any_nil, Nat.reduceEqDiff, List.map_cons, List.map_nil, Option.map_some, Option.map_none, List.nil_append, ↓reduceIte, vcu, ↓vcd]
  refine (drawOftenValid_at σ1 h o bs hg hl hb).mono ?_
  rintro r τ ⟨xs, hv, hl1, hl2, hs⟩
  clear hg hl hb hs
  simp -implicitDefEqProofs (disch := omega) only [List.any_cons, List.any_nil, Nat.reduceEqDiff, List.map_cons, List.map_nil, Option.map_some, Option.map_none, List.nil_append, ↓reduceIte, vcu, ↓vcd, opK_some]
  refine (implOf_calls τ r xs hv (by omega)).mono ?_
  rintro _ _ ⟨rfl, rfl⟩
  rename_i τ
  simp -implicitDefEqProofs (disch := omega) only [List.any_cons, List.any_nil, Nat.reduceEqDiff, List.map_cons, List.map_nil, Option.map_some, Option.map_none, List.nil_append, ↓reduceIte, vcu, ↓vcd, opK_some]
  refine (ofValid_calls τ r xs hv (by omega)).mono ?_
  rintro _ _ ⟨rfl, rfl⟩
  rename_i τ
  simp -implicitDefEqProofs (disch := omega) only [List.any_cons, List.any_nil, Nat.reduceEqDiff, List.map_cons, List.map_nil, Option.map_some, Option.map_none, List.nil_append, ↓reduceIte, vcu, ↓vcd, opK_some, beq_self_eq_true, Bool.not_true]
  have e1 : decide (OfOk [1]) = false := by decide
  obtain ⟨ad, z, rfl⟩ := ints_lenV hv
  by_cases hd : OfOk xs
  case neg =>
    rw [decide_eq_false hd]
    simp -implicitDefEqProofs (disch := omega) only [List.any_cons, List.any_nil, Nat.reduceEqDiff, List.map_cons, List.map_nil, Option.map_some, Option.map_none, List.nil_append, ↓reduceIte, vcu, ↓vcd, Bool.not_true, Bool.not_false]
    refine r_lit el31 (out := #[.int .i64 1]) (by kernel_rfl) (by kernel_rfl) fun g1 τ1 n1 s1 v1 => ?_
    replace v1 : τ1 g1 = some ⟨ints .i64 [1], false⟩ := v1
    simp -implicitDefEqProofs (disch := omega) only [List.any_cons, List.any_nil, Nat.reduceEqDiff, List.map_cons, List.map_nil, Option.map_some, Option.map_none, List.nil_append, ↓reduceIte, vcu, ↓vcd]
    refine (implOf_calls τ1 _ [1] (.inr ⟨g1, 0, rfl, intsAt_own v1⟩) (by simp)).mono ?_
    rintro _ _ ⟨rfl, rfl⟩
    rename_i τ1
    rw [e1]
    simp -implicitDefEqProofs (disch := omega) only [List.any_cons, List.any_nil, Nat.reduceEqDiff, List.map_cons, List.map_nil, Option.map_some, Option.map_none, List.nil_append, ↓reduceIte, vcu, ↓vcd, opK_some, Bool.not_false]
    refine (alive_at _).mono ?_
    rintro r _ ⟨rfl, rfl⟩
    simp -implicitDefEqProofs (disch := omega) only [List.any_cons, List.any_nil, Nat.reduceEqDiff, List.map_cons, List.map_nil, Option.map_some, Option.map_none, List.nil_append, ↓reduceIte, vcu, ↓vcd, opK_some]
    refine fin_one Try.results11 ?_
    simp -implicitDefEqProofs (disch := omega) only [List.any_cons, List.any_nil, Nat.reduceEqDiff, List.map_cons, List.map_nil, Option.map_some, Option.map_none, List.nil_append, ↓reduceIte, vcu, ↓vcd]
  rw [decide_eq_true hd]
  have h0 : OfOk (List.replicate xs.length 0) := ⟨fun k hk => by
    rw [List.length_replicate] at hk
    simp [List.getD, hk], by rw [List.length_replicate]; exact hd.2⟩
  simp -implicitDefEqProofs (disch := omega) only [List.any_cons, List.any_nil, Nat.reduceEqDiff, List.map_cons, List.map_nil, Option.map_some, Option.map_none, List.nil_append, ↓reduceIte, vcu, ↓vcd, Bool.not_true, Bool.not_false]
  refine r_makeI (l := xs.length) (c := xs.length) (kx := .i64) (ky := .i64) el31 (by omega) (by simp -implicitDefEqProofs (disch := omega) only [List.any_cons, List.any_nil, Nat.reduceEqDiff, List.map_cons, List.map_nil, Option.map_some, Option.map_none, List.nil_append, ↓reduceIte, vcu, ↓vcd]) (by simp -implicitDefEqProofs (disch := omega) only [List.any_cons, List.any_nil, Nat.reduceEqDiff, List.map_cons, List.map_nil, Option.map_some, Option.map_none, List.nil_append, ↓reduceIte, vcu, ↓vcd]) ⟨Nat.le_refl _, by omega⟩ fun g τ5 n5 s5 v5 => ?_
  simp -implicitDefEqProofs (disch := omega) only [List.any_cons, List.any_nil, Nat.reduceEqDiff, List.map_cons, List.map_nil, Option.map_some, Option.map_none, List.nil_append, ↓reduceIte, vcu, ↓vcd]
  refine (implOf_calls τ5 _ (List.replicate xs.length 0) (.inr ⟨g, 0, by simp, intsAt_own v5⟩) (by simp; omega)).mono ?_
  rintro _ _ ⟨rfl, rfl⟩
  rename_i τ
  rw [decide_eq_true h0]
  simp -implicitDefEqProofs (disch := omega) only [List.any_cons, List.any_nil, Nat.reduceEqDiff, List.map_cons, List.map_nil, Option.map_some, Option.map_none, List.nil_append, ↓reduceIte, vcu, ↓vcd, opK_some]
  refine r_lit el31 (out := #[.int .i64 1]) (by kernel_rfl) (by kernel_rfl) fun g1 τ1 n1 s1 v1 => ?_
  replace v1 : τ1 g1 = some ⟨ints .i64 [1], false⟩ := v1
  simp -implicitDefEqProofs (disch := omega) only [List.any_cons, List.any_nil, Nat.reduceEqDiff, List.map_cons, List.map_nil, Option.map_some, Option.map_none, List.nil_append, ↓reduceIte, vcu, ↓vcd]
  refine (implOf_calls τ1 _ [1] (.inr ⟨g1, 0, rfl, intsAt_own v1⟩) (by simp)).mono ?_
  rintro _ _ ⟨rfl, rfl⟩
  rename_i τ1
  rw [e1]
  simp -implicitDefEqProofs (disch := omega) only [List.any_cons, List.any_nil, Nat.reduceEqDiff, List.map_cons, List.map_nil, Option.map_some, Option.map_none, List.nil_append, ↓reduceIte, vcu, ↓vcd, opK_some, Bool.not_false]
  refine (alive_at _).mono ?_
  rintro r _ ⟨rfl, rfl⟩
  simp -implicitDefEqProofs (disch := omega) only [List.any_cons, List.any_nil, Nat.reduceEqDiff, List.map_cons, List.map_nil, Option.map_some, Option.map_none, List.nil_append, ↓reduceIte, vcu, ↓vcd, opK_some]
  refine fin_one Try.results11 ?_
  simp -implicitDefEqProofs (disch := omega) only [List.any_cons, List.any_nil, Nat.reduceEqDiff, List.map_cons, List.map_nil, Option.map_some, Option.map_none, List.nil_append, ↓reduceIte, vcu, ↓vcd]

open Go.ChangeShapes Go.WideShapes Go.ChangeAt Go.RowKit

set_option maxRecDepth 100000 in
theorem lifted11 (os : Os) (started : os.Started) (H : Type) (enc : TypeId × Value → H) :
    ReturnsInHanded {} Try.checked os 11 .any (Rows.fnOftenValidSpec.pre6 enc Try.prog Try.f11 Rows.fnOftenValidRow.domain false) (Rows.fnOftenValidSpec.post enc Try.prog Try.f11 false true false false) := by
  refine returnsInHanded_of_change (C := Try.checked) own started (by kernel_rfl) Try.func11
    (ChangeSpec.witness6 (enc := enc) (C := Try.checked) false ⟨#[], #[.slice none 0 0], []⟩ 8 (by kernel_rfl) (by kernel_rfl) (by kernel_rfl) (by kernel_rfl)) ?_
  intro W base args ds gs before hval hW _ _
  have hW' := hW
  obtain ⟨p, q, hA, hV, -, -, -⟩ := hW'
  rw [Try.params11] at hA hval
  obtain ⟨v0, vs0, d0, ds0, p0, q0, hargs, rfl, rfl, h0, r0⟩ := trodAll_cons hA
  obtain ⟨rfl, rfl, rfl⟩ := trodAll_nil r0
  obtain ⟨rfl, rfl⟩ := trodVars_none hV
  obtain rfl : args = #[v0] := by cases args; simp_all
  obtain ⟨β0, σ0, a0, zs0, L0, U0, S0, R0, I0, w0, m0⟩ := start_ints Try.underlying22 Try.underlying5 co5 (Start.start W) (hval 0 22 v0 rfl rfl) h0
  refine ((law11 σ0 a0 zs0 (I0) m0 w0).2 noProt β0 W [v0] S0.rel (.cons R0 (.nil _))).mono fun e W' h => ?_
  obtain ⟨β', r, r', σ', -, rfl, hr, hrel, rfl⟩ := h
  cases hr
  exact ⟨_, rfl, law_post laidOut hW rfl rfl (by rw [Try.params11]; intro t ht; simp only [List.mem_cons, List.not_mem_nil, or_false, or_self] at ht; rcases ht with rfl <;> exact ⟨by kernel_rfl, of_decide_eq_true (by kernel_rfl)⟩) rfl Try.underlying4 hrel.below⟩

theorem facts11 : joinedFacts Try.prog 11 Try.f11 Rows.fnOftenValidSpec Rows.fnOftenValidRow = true := by
  unfold joinedFacts
  rw [mayE, liftsE, makeE]
  kernel_rfl

theorem proved11 : Rows.FnOftenValidSaid :=
  OpenClaim.holds_of_wide 11 Try.f11 rfl rfl rfl rfl rfl rfl rfl ⟨rfl, rfl, rfl, rfl, rfl⟩ rfl rfl rfl rfl rfl (by kernel_rfl) Try.func11 facts11 (of_decide_eq_true (by kernel_rfl))
    (by unfold Func.isWrapper; first | (rw [if_pos (by decide +kernel)]; kernel_rfl) | (rw [if_neg (by decide +kernel)]; exact ⟨rfl, rfl⟩))
    (fun os started H enc _ => lifted11 os started H enc)


end Go.Proofs.Ytnenopebfobajaa
