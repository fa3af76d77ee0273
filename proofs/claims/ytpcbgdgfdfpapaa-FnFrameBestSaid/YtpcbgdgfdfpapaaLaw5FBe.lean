/- FnFrameBest answers true for every code. -/
import Derived.Test.YtpcbgdgfdfpapaaLaw5FOk
set_option linter.unusedSimpArgs false
set_option linter.unusedVariables false
namespace Go.Proofs.Ytpcbgdgfdfpapaa
open Go Go.Abs Go.RowKit Go.Frames
variable {w0 : World}

theorem law8 (σ : AHeap) (v : Value) (bs : List Int) (hv : Ints .u8 σ v bs) (hm : bs.length ≤ maxLen) (hw : ∀ z ∈ bs, (Lit.int .u8 z).wf = true) :
    ACall Try.prog w0 8 [v] σ fun r _ => r = .bool true := by
  unfold maxLen at hm
  refine ACall.ints_arg (pre := []) (by kernel_rfl) hv fun σ1 h o hs hg => ?_
  clear hv hs σ v
  have hb := bytes_of hw
  refine acall_go mixed Try.func8 rfl good8 fun pr => ?_
  by_cases hbig : 1048576 < bs.length
  · simp -implicitDefEqProofs (disch := omega) only [List.any_cons, List.any_nil, Nat.reduceEqDiff, List.map_cons, List.map_nil, Option.map_some, Option.map_none, List.nil_append, ↓reduceIte, vcu, ↓vcd]
    refine fin_one Try.results8 ?_
    simp -implicitDefEqProofs (disch := omega) only [List.any_cons, List.any_nil, Nat.reduceEqDiff, List.map_cons, List.map_nil, Option.map_some, Option.map_none, List.nil_append, ↓reduceIte, vcu, ↓vcd]
  have hl : bs.length ≤ 1048576 := by omega
  simp -implicitDefEqProofs (disch := omega) only [List.any_cons, List.any_nil, Nat.reduceEqDiff, List.map_cons, List.map_nil, Option.map_some, Option.map_none, List.nil_append, ↓reduceIte, vcu, ↓vcd]
  refine (drawFrameBest_at σ1 h o bs hg hl hb).mono ?_
  rintro r τ ⟨g2, q, T, rfl, hO, t1, t2, hs⟩
  have vT : RowsV τ (.slice (some ⟨g2, 0, none⟩) T.length 1) T := .of hO.rows rfl
  clear hg hl hb hs
  simp -implicitDefEqProofs (disch := omega) only [List.any_cons, List.any_nil, Nat.reduceEqDiff, List.map_cons, List.map_nil, Option.map_some, Option.map_none, List.nil_append, ↓reduceIte, vcu, ↓vcd, opK_some]
  refine (implBest_calls w0 τ _ T vT (by omega)).mono ?_
  rintro v τ1 ⟨s1, hX⟩
  have vX := hX.rowsV
  clear hX
  simp -implicitDefEqProofs (disch := omega) only [List.any_cons, List.any_nil, Nat.reduceEqDiff, List.map_cons, List.map_nil, Option.map_some, Option.map_none, List.nil_append, ↓reduceIte, vcu, ↓vcd, opK_some]
  refine (specBest_at τ1 g2 0 T (hO.rows.sub s1) (by omega)).mono ?_
  rintro r τ2 ⟨s2, gw, qw, rfl, hW⟩
  have s12 := s1.trans s2
  have hXs := bestB_small T
  have hXr : ∀ i, i < (bestB T).length → ((bestB T).getD i []).length ≤ 1048576 := fun i hi => by have := hXs.2 i hi; omega
  simp -implicitDefEqProofs (disch := omega) only [List.any_cons, List.any_nil, Nat.reduceEqDiff, List.map_cons, List.map_nil, Option.map_some, Option.map_none, List.nil_append, ↓reduceIte, vcu, ↓vcd, opK_some]
  refine (sameL_calls τ2 v _ (bestB T) (vX.sub s2) (.of hW.rows rfl) (by omega) hXr).mono ?_
  rintro r _ ⟨rfl, rfl⟩
  rename_i τ2
  simp -implicitDefEqProofs (disch := omega) only [List.any_cons, List.any_nil, Nat.reduceEqDiff, List.map_cons, List.map_nil, Option.map_some, Option.map_none, List.nil_append, ↓reduceIte, vcu, ↓vcd, opK_some, Bool.not_true]
  refine (specTV_at τ2 g2 0 T (hO.rows.sub s12) (by omega)).mono ?_
  rintro r _ ⟨rfl, rfl⟩
  rename_i τ2
  obtain ⟨vb, vz, rfl⟩ := vX.len
  by_cases hT : TV T
  case neg =>
    have e : (bestB T).length = 0 := by rw [bestB, if_neg hT]; rfl
    rw [decide_eq_false hT, e]
    simp -implicitDefEqProofs (disch := omega) only [List.any_cons, List.any_nil, Nat.reduceEqDiff, List.map_cons, List.map_nil, Option.map_some, Option.map_none, List.nil_append, ↓reduceIte, vcu, ↓vcd, opK_some, Bool.not_false, decide_true]
    refine (alive_at _).mono ?_
    rintro r _ ⟨rfl, rfl⟩
    simp -implicitDefEqProofs (disch := omega) only [List.any_cons, List.any_nil, Nat.reduceEqDiff, List.map_cons, List.map_nil, Option.map_some, Option.map_none, List.nil_append, ↓reduceIte, vcu, ↓vcd, opK_some]
    refine fin_one Try.results8 ?_
    simp -implicitDefEqProofs (disch := omega) only [List.any_cons, List.any_nil, Nat.reduceEqDiff, List.map_cons, List.map_nil, Option.map_some, Option.map_none, List.nil_append, ↓reduceIte, vcu, ↓vcd]
  rw [decide_eq_true hT]
  have eB : bestB T = bestF T (most T T.length).toNat := if_pos hT
  obtain ⟨b1, b2, b3⟩ := best_ok hT
  have hM := most_le hT _ (Nat.le_refl _)
  have hmv : mostV T = most T T.length := if_pos hT
  have h6 := hT.1
  rw [eB] at vX hXr ⊢
  generalize bestF T (most T T.length).toNat = F at *
  have vX2 := vX.sub s2
  rw [← b2] at b3
  clear vX hW hXs eB
  simp -implicitDefEqProofs (disch := omega) only [List.any_cons, List.any_nil, Nat.reduceEqDiff, List.map_cons, List.map_nil, Option.map_some, Option.map_none, List.nil_append, ↓reduceIte, vcu, ↓vcd, opK_some, Bool.not_true]
  refine (implLeft_calls w0 τ2 _ _ T F (vT.sub s12) (by omega) vX2 (by omega) hXr).mono ?_
  rintro u τ3 ⟨s3, hL⟩
  have vL := hL.rowsV
  rw [leftV_tv hT] at vL
  have hsq := frameL_sq (tv_sq hT) F F.length
  clear hL
  generalize frameL T F F.length = L at *
  obtain ⟨ub, uz, rfl⟩ := vL.len
  rw [hsq.1] at vL ⊢
  simp -implicitDefEqProofs (disch := omega) only [List.any_cons, List.any_nil, Nat.reduceEqDiff, List.map_cons, List.map_nil, Option.map_some, Option.map_none, List.nil_append, ↓reduceIte, vcu, ↓vcd, opK_some]
  refine vc_loop_c mixed (by kernel_rfl) [3, 4, 5] (fun m a σ' => ∃ K : Nat, m + K = T.length ∧ a 6 = .int .i64 K ∧ σ' = τ3) T.length ⟨0, by simp, rfl, rfl⟩ ?_
  rintro m a σ' hc ⟨K, hK, h6', rfl⟩
  simp -implicitDefEqProofs (disch := omega) only [List.any_cons, List.any_nil, Nat.reduceEqDiff, List.map_cons, List.map_nil, Option.map_some, Option.map_none, List.nil_append, ↓reduceIte, vcu, ↓vcd] at hc
  obtain ⟨h3, h4, h5, -⟩ := hc
  by_cases hlt : K < T.length
  · obtain ⟨xp, xo, rfl, rfl, -, hRX⟩ := vL.at (i := K) (by rw [hsq.1]; exact hlt)
    obtain ⟨w, hx, hi⟩ := hRX K (by rw [hsq.1]; exact hlt)
    have hrX := hsq.2 K hlt
    have e1 : ∀ j, j < T.length → (L.getD K []).getD j 0 = 0 := fun j hj => b3 K j hlt hj
    generalize L.getD K [] = row at hi hrX e1
    obtain ⟨wb, wz, rfl⟩ := ints_len hi
    rw [hrX] at hx
    simp -implicitDefEqProofs (disch := omega) only [List.any_cons, List.any_nil, Nat.reduceEqDiff, List.map_cons, List.map_nil, Option.map_some, Option.map_none, List.nil_append, ↓reduceIte, vcu, ↓vcd, h3, h4, h5, h6', hx]
    refine vc_loop_c mixed (by kernel_rfl) [3, 4, 5, 6] (fun m2 a2 σ2 => ∃ J : Nat, m2 + J = T.length ∧ a2 7 = .int .i64 J ∧ σ2 = σ') T.length ⟨0, by simp, rfl, rfl⟩ ?_
    rintro m2 a2 σ2 hc2 ⟨J, hJ, h7, rfl⟩
    simp -implicitDefEqProofs (disch := omega) only [List.any_cons, List.any_nil, Nat.reduceEqDiff, List.map_cons, List.map_nil, Option.map_some, Option.map_none, List.nil_append, ↓reduceIte, vcu, ↓vcd, h3, h4, h5, h6'] at hc2
    obtain ⟨d3, d4, d5, d6, -⟩ := hc2
    by_cases hJl : J < T.length
    · rcases hi with ⟨e, rfl⟩ | ⟨rg, ro, e, hat⟩
      · simp at hrX; omega
      injection e with ea eb ec
      subst ea; subst ec
      have y1 := hat J (by omega)
      rw [e1 J hJl] at y1
      simp -implicitDefEqProofs (disch := omega) only [List.any_cons, List.any_nil, Nat.reduceEqDiff, List.map_cons, List.map_nil, Option.map_some, Option.map_none, List.nil_append, ↓reduceIte, vcu, ↓vcd, d3, d4, d5, d6, h7, hx, y1, ne_eq, not_true_eq_false, decide_false]
      exact ⟨by simp [d3, d4, d5, d6, h3, h4, h5, h6'], m2 - 1, by omega, J + 1, by omega, by simp, trivial⟩
    · simp -implicitDefEqProofs (disch := omega) only [List.any_cons, List.any_nil, Nat.reduceEqDiff, List.map_cons, List.map_nil, Option.map_some, Option.map_none, List.nil_append, ↓reduceIte, vcu, ↓vcd, d3, d4, d5, d6, h7, hx]
      exact ⟨by simp [d3, d4, d5, h3, h4, h5], m - 1, by omega, K + 1, by omega, by simp, trivial⟩
  · have s123 := s12.trans s3
    simp -implicitDefEqProofs (disch := omega) only [List.any_cons, List.any_nil, Nat.reduceEqDiff, List.map_cons, List.map_nil, Option.map_some, Option.map_none, List.nil_append, ↓reduceIte, vcu, ↓vcd, h3, h4, h5, h6']
    refine (implFrOk_calls w0 σ' _ _ T F (vT.sub s123) (by omega) (vX2.sub s3) (by omega) hXr).mono ?_
    rintro r τ4 ⟨rfl, s4⟩
    rw [decide_eq_true b1]
    simp -implicitDefEqProofs (disch := omega) only [List.any_cons, List.any_nil, Nat.reduceEqDiff, List.map_cons, List.map_nil, Option.map_some, Option.map_none, List.nil_append, ↓reduceIte, vcu, ↓vcd, opK_some, h3, h4]
    refine (implMost_at τ4 g2 0 T ((hO.rows.sub s123).sub s4) (by omega)).mono ?_
    rintro r τ5 ⟨rfl, s5⟩
    rw [hmv]
    simp -implicitDefEqProofs (disch := omega) only [List.any_cons, List.any_nil, Nat.reduceEqDiff, List.map_cons, List.map_nil, Option.map_some, Option.map_none, List.nil_append, ↓reduceIte, vcu, ↓vcd, opK_some]
    refine fin_one Try.results8 ?_
    simp -implicitDefEqProofs (disch := omega) only [List.any_cons, List.any_nil, Nat.reduceEqDiff, List.map_cons, List.map_nil, Option.map_some, Option.map_none, List.nil_append, ↓reduceIte, vcu, ↓vcd]
    simp
    omega

open Go.ChangeShapes Go.WideShapes Go.ChangeAt Go.RowKit

set_option maxRecDepth 100000 in
theorem lifted8 (os : Os) (started : os.Started) (H : Type) (enc : TypeId × Value → H) :
    ReturnsInHanded {} Try.checked os 8 .any (Rows.fnFrameBestSpec.pre6 enc Try.prog Try.f8 Rows.fnFrameBestRow.domain false) (Rows.fnFrameBestSpec.post enc Try.prog Try.f8 false true false false) := by
  refine returnsInHanded_of_change (C := Try.checked) own started (by kernel_rfl) Try.func8
    (ChangeSpec.witness6 (enc := enc) (C := Try.checked) false ⟨#[], #[.slice none 0 0], []⟩ 8 (by kernel_rfl) (by kernel_rfl) (by kernel_rfl) (by kernel_rfl)) ?_
  intro W base args ds gs before hval hW _ _
  have hW' := hW
  obtain ⟨p, q, hA, hV, -, -, -⟩ := hW'
  rw [Try.params8] at hA hval
  obtain ⟨v0, vs0, d0, ds0, p0, q0, hargs, rfl, rfl, h0, r0⟩ := trodAll_cons hA
  obtain ⟨rfl, rfl, rfl⟩ := trodAll_nil r0
  obtain ⟨rfl, rfl⟩ := trodVars_none hV
  obtain rfl : args = #[v0] := by cases args; simp_all
  obtain ⟨β0, σ0, a0, zs0, L0, U0, S0, R0, I0, w0, m0⟩ := start_ints Try.underlying22 Try.underlying5 co5 (Start.start W) (hval 0 22 v0 rfl rfl) h0
  refine ((law8 σ0 a0 zs0 (I0) m0 w0).2 noProt β0 W [v0] S0.rel (.cons R0 (.nil _))).mono fun e W' h => ?_
  obtain ⟨β', r, r', σ', -, rfl, hr, hrel, rfl⟩ := h
  cases hr
  exact ⟨_, rfl, law_post laidOut hW rfl rfl (by rw [Try.params8]; intro t ht; simp only [List.mem_cons, List.not_mem_nil, or_false, or_self] at ht; rcases ht with rfl <;> exact ⟨by kernel_rfl, of_decide_eq_true (by kernel_rfl)⟩) rfl Try.underlying4 hrel.below⟩

theorem facts8 : joinedFacts Try.prog 8 Try.f8 Rows.fnFrameBestSpec Rows.fnFrameBestRow = true := by
  unfold joinedFacts
  rw [mayE, liftsE, makeE]
  kernel_rfl

theorem proved8 : Rows.FnFrameBestSaid :=
  OpenClaim.holds_of_wide 8 Try.f8 rfl rfl rfl rfl rfl rfl rfl ⟨rfl, rfl, rfl, rfl, rfl⟩ rfl rfl rfl rfl rfl (by kernel_rfl) Try.func8 facts8 (of_decide_eq_true (by kernel_rfl))
    (by unfold Func.isWrapper; first | (rw [if_pos (by decide +kernel)]; kernel_rfl) | (rw [if_neg (by decide +kernel)]; exact ⟨rfl, rfl⟩))
    (fun os started H enc _ => lifted8 os started H enc)


end Go.Proofs.Ytpcbgdgfdfpapaa
