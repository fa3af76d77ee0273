/- FnFillUp answers true for every code. -/
import Derived.Test.YtpcbgdgfdfpapaaLaw5FOk
set_option linter.unusedSimpArgs false
set_option linter.unusedVariables false
namespace Go.Proofs.Ytpcbgdgfdfpapaa
open Go Go.Abs Go.RowKit Go.Frames
variable {w0 : World}

/-- the sum of the first K rows and of the first J numbers of the next one -/
def partN (X : List (List Int)) (K J : Nat) : Int := allN X K + psum (X.getD K []) J
theorem law7 (σ : AHeap) (v : Value) (bs : List Int) (hv : Ints .u8 σ v bs) (hm : bs.length ≤ maxLen) (hw : ∀ z ∈ bs, (Lit.int .u8 z).wf = true) :
    ACall Try.prog w0 7 [v] σ fun r _ => r = .bool true := by
  unfold maxLen at hm
  refine ACall.ints_arg (pre := []) (by kernel_rfl) hv fun σ1 h o hs hg => ?_
  clear hv hs σ v
  have hb := bytes_of hw
  refine acall_go mixed Try.func7 rfl good7 fun pr => ?_
  by_cases hbig : 1048576 < bs.length
  · simp -implicitDefEqProofs (disch := omega) only [List.any_cons, List.any_nil, Nat.reduceEqDiff, List.map_cons, List.map_nil, Option.map_some, Option.map_none, List.nil_append, ↓reduceIte, vcu, ↓vcd]
    refine fin_one Try.results7 ?_
    simp -implicitDefEqProofs (disch := omega) only [List.any_cons, List.any_nil, Nat.reduceEqDiff, List.map_cons, List.map_nil, Option.map_some, Option.map_none, List.nil_append, ↓reduceIte, vcu, ↓vcd]
  have hl : bs.length ≤ 1048576 := by omega
  simp -implicitDefEqProofs (disch := omega) only [List.any_cons, List.any_nil, Nat.reduceEqDiff, List.map_cons, List.map_nil, Option.map_some, Option.map_none, List.nil_append, ↓reduceIte, vcu, ↓vcd]
  refine (drawFillUp_at σ1 h o bs hg hl hb).mono ?_
  rintro r τ ⟨g2, q, T, rfl, hO, t1, t2, hs⟩
  have vT : RowsV τ (.slice (some ⟨g2, 0, none⟩) T.length 1) T := .of hO.rows rfl
  clear hg hl hb hs
  simp -implicitDefEqProofs (disch := omega) only [List.any_cons, List.any_nil, Nat.reduceEqDiff, List.map_cons, List.map_nil, Option.map_some, Option.map_none, List.nil_append, ↓reduceIte, vcu, ↓vcd, opK_some]
  refine (implFill_calls w0 τ _ T vT (by omega)).mono ?_
  rintro v τ1 ⟨s1, hX⟩
  have vX := hX.rowsV
  clear hX
  simp -implicitDefEqProofs (disch := omega) only [List.any_cons, List.any_nil, Nat.reduceEqDiff, List.map_cons, List.map_nil, Option.map_some, Option.map_none, List.nil_append, ↓reduceIte, vcu, ↓vcd, opK_some]
  refine (specFill_at τ1 g2 0 T (hO.rows.sub s1) (by omega)).mono ?_
  rintro r τ2 ⟨s2, gw, qw, rfl, hW⟩
  have s12 := s1.trans s2
  have hXs : (fillB T).length ≤ 6 ∧ ∀ i, i < (fillB T).length → ((fillB T).getD i []).length ≤ 6 := by
    unfold fillB
    by_cases hT : TV T
    · rw [if_pos hT]
      have h1 := (fillV_ok hT).1
      exact ⟨by rw [h1.1]; exact hT.1, fun i hi => by rw [h1.2 i (by rw [h1.1] at hi; exact hi)]; exact hT.1⟩
    · rw [if_neg hT]
      exact ⟨by simp, fun i hi => absurd hi (by simp)⟩
  simp -implicitDefEqProofs (disch := omega) only [List.any_cons, List.any_nil, Nat.reduceEqDiff, List.map_cons, List.map_nil, Option.map_some, Option.map_none, List.nil_append, ↓reduceIte, vcu, ↓vcd, opK_some]
  refine (sameL_calls τ2 v _ (fillB T) (vX.sub s2) (.of hW.rows rfl) (by omega) (fun i hi => by have := hXs.2 i hi; omega)).mono ?_
  rintro r _ ⟨rfl, rfl⟩
  rename_i τ2
  simp -implicitDefEqProofs (disch := omega) only [List.any_cons, List.any_nil, Nat.reduceEqDiff, List.map_cons, List.map_nil, Option.map_some, Option.map_none, List.nil_append, ↓reduceIte, vcu, ↓vcd, opK_some, Bool.not_true]
  refine (specTV_at τ2 g2 0 T (hO.rows.sub s12) (by omega)).mono ?_
  rintro r _ ⟨rfl, rfl⟩
  rename_i τ2
  obtain ⟨vb, vz, rfl⟩ := vX.len
  by_cases hT : TV T
  case neg =>
    have e : (fillB T).length = 0 := by rw [fillB, if_neg hT]; rfl
    rw [decide_eq_false hT, e]
    simp -implicitDefEqProofs (disch := omega) only [List.any_cons, List.any_nil, Nat.reduceEqDiff, List.map_cons, List.map_nil, Option.map_some, Option.map_none, List.nil_append, ↓reduceIte, vcu, ↓vcd, opK_some, Bool.not_false, decide_true]
    refine (alive_at _).mono ?_
    rintro r _ ⟨rfl, rfl⟩
    simp -implicitDefEqProofs (disch := omega) only [List.any_cons, List.any_nil, Nat.reduceEqDiff, List.map_cons, List.map_nil, Option.map_some, Option.map_none, List.nil_append, ↓reduceIte, vcu, ↓vcd, opK_some]
    refine fin_one Try.results7 ?_
    simp -implicitDefEqProofs (disch := omega) only [List.any_cons, List.any_nil, Nat.reduceEqDiff, List.map_cons, List.map_nil, Option.map_some, Option.map_none, List.nil_append, ↓reduceIte, vcu, ↓vcd]
  rw [decide_eq_true hT]
  have eB : fillB T = fillV T := if_pos hT
  have hsq := (fillV_ok hT).1
  have hok := (fillV_ok hT).2.2
  have hle := fun a b => fillV_le (a := a) (b := b) hT
  have hze := fillV_zero hT
  have hM := most_le hT _ (Nat.le_refl _)
  have hmv : mostV T = most T T.length := if_pos hT
  have h6 := hT.1
  rw [eB] at vX ⊢
  have hb3 := allN_le3 hsq (fun a b ha hb => by have := hle a b ha hb; omega)
  generalize fillV T = X at *
  rw [hsq.1] at vX ⊢
  have vX2 := vX.sub s2
  clear vX hW hXs
  simp -implicitDefEqProofs (disch := omega) only [List.any_cons, List.any_nil, Nat.reduceEqDiff, List.map_cons, List.map_nil, Option.map_some, Option.map_none, List.nil_append, ↓reduceIte, vcu, ↓vcd, opK_some, Bool.not_true]
  refine (implMost_at τ2 g2 0 T (hO.rows.sub s12) (by omega)).mono ?_
  rintro r τ3 ⟨rfl, s3⟩
  rw [hmv]
  have vX3 := vX2.sub s3
  have hR := (hO.rows.sub s12).sub s3
  clear vX2
  simp -implicitDefEqProofs (disch := omega) only [List.any_cons, List.any_nil, Nat.reduceEqDiff, List.map_cons, List.map_nil, Option.map_some, Option.map_none, List.nil_append, ↓reduceIte, vcu, ↓vcd, opK_some]
  refine vc_loop_c mixed (by kernel_rfl) [3, 4, 5] (fun m a σ' => ∃ K : Nat, m + K = T.length ∧ a 6 = .int .i64 (allN X K) ∧ a 7 = .int .i64 K ∧ σ' = τ3) T.length ⟨0, by simp, rfl, rfl, rfl⟩ ?_
  rintro m a σ' hc ⟨K, hK, h6', h7, rfl⟩
  simp -implicitDefEqProofs (disch := omega) only [List.any_cons, List.any_nil, Nat.reduceEqDiff, List.map_cons, List.map_nil, Option.map_some, Option.map_none, List.nil_append, ↓reduceIte, vcu, ↓vcd] at hc
  obtain ⟨h3, h4, h5, -⟩ := hc
  have hbk := hb3 K (by omega)
  have hcap : (1000 : Int) * (T.length : Int) * (K : Int) ≤ 42000 := by
    have e : (1000 : Int) * (T.length : Int) * (K : Int) = ((1000 * T.length * K : Nat) : Int) := by rw [Int.natCast_mul, Int.natCast_mul]; rfl
    have e2 : 1000 * T.length * K ≤ 1000 * 6 * 7 := Nat.mul_le_mul (by omega) (by omega)
    omega
  by_cases hlt : K < T.length
  · obtain ⟨xp, xo, rfl, rfl, -, hRX⟩ := vX3.at (i := K) (by rw [hsq.1]; exact hlt)
    obtain ⟨w, hx, hi⟩ := hR K hlt
    obtain ⟨w2, hx2, hi2⟩ := hRX K (by rw [hsq.1]; exact hlt)
    have hrT := hT.2 K hlt
    have hrX := hsq.2 K hlt
    have hok2 := hok K hlt
    have hbT : ∀ a b, a < T.length → b < T.length → 0 ≤ en T a b ∧ en T a b ≤ 1000 := fun a b ha hb => by have := hT.at (i := a) (j := b) ha hb; unfold en; omega
    have hbX : ∀ a b, a < T.length → b < T.length → 0 ≤ en X a b ∧ en X a b ≤ 1000 := fun a b ha hb => by have := hle a b ha hb; omega
    have c1 := sum3_calls (w0 := w0) σ' w (T.getD K []) hi (by rw [hrT.1]; omega) (fun j hj => by have := hrT.2 j hj; omega)
    have c2 := sum3_calls (w0 := w0) σ' w2 (X.getD K []) hi2 (by rw [hrX]; omega) (fun j hj => by have := hbX K j hlt (by omega); exact this)
    rw [hrT.1] at c1
    rw [hrX] at c2
    have c3 := column3_at (w0 := w0) σ' g2 0 T K T.length hR (tv_sq hT) (by omega) hbT hlt
    have c4 := column3_at (w0 := w0) σ' xp xo X K T.length hRX hsq (by omega) hbX hlt
    have p1 := psum_le2 (m := 0) (xs := T.getD K []) (fun j hj => hbT K j hlt (by rw [hrT.1] at hj; exact hj)) T.length (by rw [hrT.1]; omega)
    have p2 := psum_le2 (m := 0) (xs := X.getD K []) (fun j hj => hbX K j hlt (by omega)) T.length (by omega)
    have p3 := csum_le2 hbT (c := K) hlt _ (Nat.le_refl _)
    have p4 := csum_le2 hbX (c := K) hlt _ (Nat.le_refl _)
    have d1 : decide (psum (T.getD K []) T.length + psum (X.getD K []) T.length ≠ most T T.length) = false := decide_eq_false fun hh => hh hok2.1
    have d2 : decide (csum T K T.length + csum X K T.length ≠ most T T.length) = false := decide_eq_false fun hh => hh hok2.2
    simp -implicitDefEqProofs (disch := omega) only [List.any_cons, List.any_nil, Nat.reduceEqDiff, List.map_cons, List.map_nil, Option.map_some, Option.map_none, List.nil_append, ↓reduceIte, vcu, ↓vcd, h3, h4, h5, h6', h7, hx, hx2]
    rw [r_callq]
    refine ⟨_, c1, ?_⟩
    simp -implicitDefEqProofs (disch := omega) only [List.any_cons, List.any_nil, Nat.reduceEqDiff, List.map_cons, List.map_nil, Option.map_some, Option.map_none, List.nil_append, ↓reduceIte, vcu, ↓vcd, h3, h4, h5, h6', h7, hx2]
    rw [r_callq]
    refine ⟨_, c2, ?_⟩
    simp -implicitDefEqProofs (disch := omega) only [List.any_cons, List.any_nil, Nat.reduceEqDiff, List.map_cons, List.map_nil, Option.map_some, Option.map_none, List.nil_append, ↓reduceIte, vcu, ↓vcd, h3, h4, h5, h6', h7, d1]
    rw [r_callq]
    refine ⟨_, c3, ?_⟩
    simp -implicitDefEqProofs (disch := omega) only [List.any_cons, List.any_nil, Nat.reduceEqDiff, List.map_cons, List.map_nil, Option.map_some, Option.map_none, List.nil_append, ↓reduceIte, vcu, ↓vcd, h3, h4, h5, h6', h7]
    rw [r_callq]
    refine ⟨_, c4, ?_⟩
    simp -implicitDefEqProofs (disch := omega) only [List.any_cons, List.any_nil, Nat.reduceEqDiff, List.map_cons, List.map_nil, Option.map_some, Option.map_none, List.nil_append, ↓reduceIte, vcu, ↓vcd, h3, h4, h5, h6', h7, d2]
    refine vc_loop_c mixed (by kernel_rfl) [3, 4, 5, 7] (fun m2 a2 σ2 => ∃ J : Nat, m2 + J = T.length ∧ a2 6 = .int .i64 (allN X K + psum (X.getD K []) J) ∧ a2 8 = .int .i64 J ∧ σ2 = σ') T.length ⟨0, by simp, by simpa [psum, fset] using h6', rfl, rfl⟩ ?_
    rintro m2 a2 σ2 hc2 ⟨J, hJ, h6'', h8, rfl⟩
    simp -implicitDefEqProofs (disch := omega) only [List.any_cons, List.any_nil, Nat.reduceEqDiff, List.map_cons, List.map_nil, Option.map_some, Option.map_none, List.nil_append, ↓reduceIte, vcu, ↓vcd, h3, h4, h5, h7] at hc2
    obtain ⟨d3, d4, d5, d7, -⟩ := hc2
    have p5 := psum_le2 (m := 0) (xs := X.getD K []) (fun j hj => hbX K j hlt (by omega)) J (by omega)
    by_cases hJl : J < T.length
    · have hb := hbX K J hlt hJl
      have hgo : psum (X.getD K []) (J + 1) = psum (X.getD K []) J + en X K J := rfl
      have hy : ∃ xg xq, w2 = .slice (some ⟨xg, xq, none⟩) T.length 1 ∧ ld σ2 xg (xq + J) = some (.int .i64 (en X K J)) := by
        rcases hi2 with ⟨-, e⟩ | ⟨xg, xq, e, hat⟩
        · rw [e] at hrX; simp at hrX; omega
        · exact ⟨xg, xq, by rw [e, hrX], hat J (by omega)⟩
      obtain ⟨xg, xq, rfl, hy⟩ := hy
      have dd : decide (en X K J < 0) = false := decide_eq_false (by omega)
      simp -implicitDefEqProofs (disch := omega) only [List.any_cons, List.any_nil, Nat.reduceEqDiff, List.map_cons, List.map_nil, Option.map_some, Option.map_none, List.nil_append, ↓reduceIte, vcu, ↓vcd, d3, d4, d5, d7, h6'', h8, hx2, hy, dd]
      exact ⟨by simp [d3, d4, d5, d7, h3, h4, h5, h7], m2 - 1, by omega, J + 1, by omega, by rw [hgo, Int.add_assoc], by simp, trivial⟩
    · have e : J = T.length := by omega
      have hgo : allN X (K + 1) = allN X K + psum (X.getD K []) (X.getD K []).length := rfl
      simp -implicitDefEqProofs (disch := omega) only [List.any_cons, List.any_nil, Nat.reduceEqDiff, List.map_cons, List.map_nil, Option.map_some, Option.map_none, List.nil_append, ↓reduceIte, vcu, ↓vcd, d3, d4, d5, d7, h6'', h8]
      exact ⟨by simp [d3, d4, d5, h3, h4, h5], m - 1, by omega, K + 1, by omega, by rw [hgo, hrX, ← e], by simp, trivial⟩
  · have e : K = T.length := by omega
    rw [e] at h6'
    simp -implicitDefEqProofs (disch := omega) only [List.any_cons, List.any_nil, Nat.reduceEqDiff, List.map_cons, List.map_nil, Option.map_some, Option.map_none, List.nil_append, ↓reduceIte, vcu, ↓vcd, h3, h4, h5, h6', h7]
    refine (implEven_at σ' g2 0 T hR (by omega)).mono ?_
    rintro r τ4 ⟨rfl, s4⟩
    by_cases hE : EvenT T
    · rw [decide_eq_true hE, hze.2 hE]
      simp -implicitDefEqProofs (disch := omega) only [List.any_cons, List.any_nil, Nat.reduceEqDiff, List.map_cons, List.map_nil, Option.map_some, Option.map_none, List.nil_append, ↓reduceIte, vcu, ↓vcd, opK_some, decide_true, eq_self, beq_self_eq_true]
      refine fin_one Try.results7 ?_
      simp -implicitDefEqProofs (disch := omega) only [List.any_cons, List.any_nil, Nat.reduceEqDiff, List.map_cons, List.map_nil, Option.map_some, Option.map_none, List.nil_append, ↓reduceIte, vcu, ↓vcd]
    · have e : ¬ allN X T.length = 0 := fun e => hE (hze.1 e)
      rw [decide_eq_false hE]
      simp -implicitDefEqProofs (disch := omega) only [List.any_cons, List.any_nil, Nat.reduceEqDiff, List.map_cons, List.map_nil, Option.map_some, Option.map_none, List.nil_append, ↓reduceIte, vcu, ↓vcd, opK_some, e, decide_false, eq_self, beq_self_eq_true]
      refine fin_one Try.results7 ?_
      simp -implicitDefEqProofs (disch := omega) only [List.any_cons, List.any_nil, Nat.reduceEqDiff, List.map_cons, List.map_nil, Option.map_some, Option.map_none, List.nil_append, ↓reduceIte, vcu, ↓vcd]

open Go.ChangeShapes Go.WideShapes Go.ChangeAt Go.RowKit

set_option maxRecDepth 100000 in
theorem lifted7 (os : Os) (started : os.Started) (H : Type) (enc : TypeId × Value → H) :
    ReturnsInHanded {} Try.checked os 7 .any (Rows.fnFillUpSpec.pre6 enc Try.prog Try.f7 Rows.fnFillUpRow.domain false) (Rows.fnFillUpSpec.post enc Try.prog Try.f7 false true false false) := by
  refine returnsInHanded_of_change (C := Try.checked) own started (by kernel_rfl) Try.func7
    (ChangeSpec.witness6 (enc := enc) (C := Try.checked) false ⟨#[], #[.slice none 0 0], []⟩ 8 (by kernel_rfl) (by kernel_rfl) (by kernel_rfl) (by kernel_rfl)) ?_
  intro W base args ds gs before hval hW _ _
  have hW' := hW
  obtain ⟨p, q, hA, hV, -, -, -⟩ := hW'
  rw [Try.params7] at hA hval
  obtain ⟨v0, vs0, d0, ds0, p0, q0, hargs, rfl, rfl, h0, r0⟩ := trodAll_cons hA
  obtain ⟨rfl, rfl, rfl⟩ := trodAll_nil r0
  obtain ⟨rfl, rfl⟩ := trodVars_none hV
  obtain rfl : args = #[v0] := by cases args; simp_all
  obtain ⟨β0, σ0, a0, zs0, L0, U0, S0, R0, I0, w0, m0⟩ := start_ints Try.underlying22 Try.underlying5 co5 (Start.start W) (hval 0 22 v0 rfl rfl) h0
  refine ((law7 σ0 a0 zs0 (I0) m0 w0).2 noProt β0 W [v0] S0.rel (.cons R0 (.nil _))).mono fun e W' h => ?_
  obtain ⟨β', r, r', σ', -, rfl, hr, hrel, rfl⟩ := h
  cases hr
  exact ⟨_, rfl, law_post laidOut hW rfl rfl (by rw [Try.params7]; intro t ht; simp only [List.mem_cons, List.not_mem_nil, or_false, or_self] at ht; rcases ht with rfl <;> exact ⟨by kernel_rfl, of_decide_eq_true (by kernel_rfl)⟩) rfl Try.underlying4 hrel.below⟩

theorem facts7 : joinedFacts Try.prog 7 Try.f7 Rows.fnFillUpSpec Rows.fnFillUpRow = true := by
  unfold joinedFacts
  rw [mayE, liftsE, makeE]
  kernel_rfl

theorem proved7 : Rows.FnFillUpSaid :=
  OpenClaim.holds_of_wide 7 Try.f7 rfl rfl rfl rfl rfl rfl rfl ⟨rfl, rfl, rfl, rfl, rfl⟩ rfl rfl rfl rfl rfl (by kernel_rfl) Try.func7 facts7 (of_decide_eq_true (by kernel_rfl))
    (by unfold Func.isWrapper; first | (rw [if_pos (by decide +kernel)]; kernel_rfl) | (rw [if_neg (by decide +kernel)]; exact ⟨rfl, rfl⟩))
    (fun os started H enc _ => lifted7 os started H enc)


end Go.Proofs.Ytpcbgdgfdfpapaa
