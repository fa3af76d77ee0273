/- FnFrameSends answers true for every code. -/
import Derived.Test.YtpcbgdgfdfpapaaFk
set_option linter.unusedSimpArgs false
set_option linter.unusedVariables false
namespace Go.Proofs.Ytpcbgdgfdfpapaa
open Go Go.Abs Go.RowKit Go.Frames
variable {w0 : World}

theorem sends_split {F : List (List Int)} (h : 0 < F.length) : sendsF (F.drop 1) (F.drop 1).length + sendsF (F.take 1) (F.take 1).length = sendsF F F.length := by
  cases F with
  | nil => simp at h
  | cons x F =>
    simp only [List.drop_succ_cons, List.drop_zero, List.take_succ_cons, List.take_zero, List.length_cons, List.length_nil]
    rw [sendsF_cons, sendsF_cons]
    simp [sendsF]; omega
theorem law5 (σ : AHeap) (v : Value) (bs : List Int) (hv : Ints .u8 σ v bs) (hm : bs.length ≤ maxLen) (hw : ∀ z ∈ bs, (Lit.int .u8 z).wf = true) :
    ACall Try.prog w0 5 [v] σ fun r _ => r = .bool true := by
  unfold maxLen at hm
  refine ACall.ints_arg (pre := []) (by kernel_rfl) hv fun σ1 h o hs hg => ?_
  clear hv hs σ v
  have hb := bytes_of hw
  refine acall_go mixed Try.func5 rfl good5 fun pr => ?_
  by_cases hbig : 1048576 < bs.length
  · simp -implicitDefEqProofs (disch := omega) only [List.any_cons, List.any_nil, Nat.reduceEqDiff, List.map_cons, List.map_nil, Option.map_some, Option.map_none, List.nil_append, ↓reduceIte, vcu, ↓vcd]
    refine fin_one Try.results5 ?_
    simp -implicitDefEqProofs (disch := omega) only [List.any_cons, List.any_nil, Nat.reduceEqDiff, List.map_cons, List.map_nil, Option.map_some, Option.map_none, List.nil_append, ↓reduceIte, vcu, ↓vcd]
  have hl : bs.length ≤ 1048576 := by omega
  simp -implicitDefEqProofs (disch := omega) only [List.any_cons, List.any_nil, Nat.reduceEqDiff, List.map_cons, List.map_nil, Option.map_some, Option.map_none, List.nil_append, ↓reduceIte, vcu, ↓vcd]
  refine (drawFrameSends_at σ1 h o bs hg hl hb).mono ?_
  rintro r τ ⟨g3, q3, F, rfl, hF, f1, f2, hs⟩
  have f3 : ∀ i, i < F.length → (F.getD i []).length ≤ 1048576 := fun i hi => by have := f2 i hi; omega
  have vF : RowsV τ (.slice (some ⟨g3, 0, none⟩) F.length 1) F := .of hF.rows rfl
  have hb1 := sendsF_le f3 F.length (Nat.le_refl _)
  simp -implicitDefEqProofs (disch := omega) only [List.any_cons, List.any_nil, Nat.reduceEqDiff, List.map_cons, List.map_nil, Option.map_some, Option.map_none, List.nil_append, ↓reduceIte, vcu, ↓vcd, opK_some]
  refine (implSends_calls w0 τ _ F vF (by omega) f3).mono ?_
  rintro r _ ⟨rfl, rfl⟩
  rename_i τ
  simp -implicitDefEqProofs (disch := omega) only [List.any_cons, List.any_nil, Nat.reduceEqDiff, List.map_cons, List.map_nil, Option.map_some, Option.map_none, List.nil_append, ↓reduceIte, vcu, ↓vcd, opK_some]
  refine (specSends_at τ g3 0 F hF.rows (by omega) f3).mono ?_
  rintro r _ ⟨rfl, rfl⟩
  rename_i τ
  by_cases h0 : F.length = 0
  · have e : F = [] := List.eq_nil_of_length_eq_zero h0
    subst e
    simp -implicitDefEqProofs (disch := omega) only [List.any_cons, List.any_nil, Nat.reduceEqDiff, List.map_cons, List.map_nil, Option.map_some, Option.map_none, List.nil_append, ↓reduceIte, vcu, ↓vcd, opK_some, ne_eq, not_true_eq_false, decide_false, List.length_nil, decide_true, sendsF]
    refine (alive_at _).mono ?_
    rintro r _ ⟨rfl, rfl⟩
    simp -implicitDefEqProofs (disch := omega) only [List.any_cons, List.any_nil, Nat.reduceEqDiff, List.map_cons, List.map_nil, Option.map_some, Option.map_none, List.nil_append, ↓reduceIte, vcu, ↓vcd, opK_some]
    refine fin_one Try.results5 ?_
    simp -implicitDefEqProofs (disch := omega) only [List.any_cons, List.any_nil, Nat.reduceEqDiff, List.map_cons, List.map_nil, Option.map_some, Option.map_none, List.nil_append, ↓reduceIte, vcu, ↓vcd]
  · have hsp := sends_split (F := F) (by omega)
    have hl1 : (F.drop 1).length = F.length - 1 := by simp
    have hl2 : (F.take 1).length = 1 := by simp; omega
    have g1 : ∀ i, i < (F.drop 1).length → ((F.drop 1).getD i []).length ≤ 1048576 := fun i hi => by
      have e : (F.drop 1).getD i [] = F.getD (i + 1) [] := by simp [List.getD]
      rw [e]; exact f3 _ (by omega)
    have g2 : ∀ i, i < (F.take 1).length → ((F.take 1).getD i []).length ≤ 1048576 := fun i hi => by
      have e : (F.take 1).getD i [] = F.getD i [] := by simp [List.getD, List.getElem?_take, show i < 1 by omega]
      rw [e]; exact f3 _ (by omega)
    have c1 := implSends_calls w0 τ (.slice (some ⟨g3, 0 + 1, none⟩) (F.length - 1) 1) (F.drop 1) (.of (hF.rows.drop 1) hl1) (by omega) g1
    have c2 := implSends_calls w0 τ (.slice (some ⟨g3, 0, none⟩) 1 1) (F.take 1) (.of (hF.rows.take 1) hl2) (by omega) g2
    have b1 := sendsF_le g1 _ (Nat.le_refl _)
    have b2 := sendsF_le g2 _ (Nat.le_refl _)
    generalize sendsF (F.drop 1) (F.drop 1).length = A at *
    generalize sendsF (F.take 1) (F.take 1).length = B at *
    generalize sendsF F F.length = C at *
    simp -implicitDefEqProofs (disch := omega) only [List.any_cons, List.any_nil, Nat.reduceEqDiff, List.map_cons, List.map_nil, Option.map_some, Option.map_none, List.nil_append, ↓reduceIte, vcu, ↓vcd, opK_some, ne_eq, not_true_eq_false, decide_false, h0]
    rw [r_callq]
    refine ⟨_, c1, ?_⟩
    simp -implicitDefEqProofs (disch := omega) only [List.any_cons, List.any_nil, Nat.reduceEqDiff, List.map_cons, List.map_nil, Option.map_some, Option.map_none, List.nil_append, ↓reduceIte, vcu, ↓vcd]
    rw [r_callq]
    refine ⟨_, c2, ?_⟩
    simp -implicitDefEqProofs (disch := omega) only [List.any_cons, List.any_nil, Nat.reduceEqDiff, List.map_cons, List.map_nil, Option.map_some, Option.map_none, List.nil_append, ↓reduceIte, vcu, ↓vcd, hsp, decide_true]
    refine fin_one Try.results5 ?_
    simp -implicitDefEqProofs (disch := omega) only [List.any_cons, List.any_nil, Nat.reduceEqDiff, List.map_cons, List.map_nil, Option.map_some, Option.map_none, List.nil_append, ↓reduceIte, vcu, ↓vcd]
    simp
    omega

open Go.ChangeShapes Go.WideShapes Go.ChangeAt Go.RowKit

set_option maxRecDepth 100000 in
theorem lifted5 (os : Os) (started : os.Started) (H : Type) (enc : TypeId × Value → H) :
    ReturnsInHanded {} Try.checked os 5 .any (Rows.fnFrameSendsSpec.pre6 enc Try.prog Try.f5 Rows.fnFrameSendsRow.domain false) (Rows.fnFrameSendsSpec.post enc Try.prog Try.f5 false true false false) := by
  refine returnsInHanded_of_change (C := Try.checked) own started (by kernel_rfl) Try.func5
    (ChangeSpec.witness6 (enc := enc) (C := Try.checked) false ⟨#[], #[.slice none 0 0], []⟩ 8 (by kernel_rfl) (by kernel_rfl) (by kernel_rfl) (by kernel_rfl)) ?_
  intro W base args ds gs before hval hW _ _
  have hW' := hW
  obtain ⟨p, q, hA, hV, -, -, -⟩ := hW'
  rw [Try.params5] at hA hval
  obtain ⟨v0, vs0, d0, ds0, p0, q0, hargs, rfl, rfl, h0, r0⟩ := trodAll_cons hA
  obtain ⟨rfl, rfl, rfl⟩ := trodAll_nil r0
  obtain ⟨rfl, rfl⟩ := trodVars_none hV
  obtain rfl : args = #[v0] := by cases args; simp_all
  obtain ⟨β0, σ0, a0, zs0, L0, U0, S0, R0, I0, w0, m0⟩ := start_ints Try.underlying22 Try.underlying5 co5 (Start.start W) (hval 0 22 v0 rfl rfl) h0
  refine ((law5 σ0 a0 zs0 (I0) m0 w0).2 noProt β0 W [v0] S0.rel (.cons R0 (.nil _))).mono fun e W' h => ?_
  obtain ⟨β', r, r', σ', -, rfl, hr, hrel, rfl⟩ := h
  cases hr
  exact ⟨_, rfl, law_post laidOut hW rfl rfl (by rw [Try.params5]; intro t ht; simp only [List.mem_cons, List.not_mem_nil, or_false, or_self] at ht; rcases ht with rfl <;> exact ⟨by kernel_rfl, of_decide_eq_true (by kernel_rfl)⟩) rfl Try.underlying4 hrel.below⟩

theorem facts5 : joinedFacts Try.prog 5 Try.f5 Rows.fnFrameSendsSpec Rows.fnFrameSendsRow = true := by
  unfold joinedFacts
  rw [mayE, liftsE, makeE]
  kernel_rfl

theorem proved5 : Rows.FnFrameSendsSaid :=
  OpenClaim.holds_of_wide 5 Try.f5 rfl rfl rfl rfl rfl rfl rfl ⟨rfl, rfl, rfl, rfl, rfl⟩ rfl rfl rfl rfl rfl (by kernel_rfl) Try.func5 facts5 (of_decide_eq_true (by kernel_rfl))
    (by unfold Func.isWrapper; first | (rw [if_pos (by decide +kernel)]; kernel_rfl) | (rw [if_neg (by decide +kernel)]; exact ⟨rfl, rfl⟩))
    (fun os started H enc _ => lifted5 os started H enc)


end Go.Proofs.Ytpcbgdgfdfpapaa
