/- The reference: how many a frame sends; all units; what is left. -/
import Derived.Test.YtpcbgdgfdfpapaaGeE
set_option linter.unusedSimpArgs false
set_option linter.unusedVariables false
namespace Go.Proofs.Ytpcbgdgfdfpapaa
open Go Go.Abs Go.RowKit Go.Frames
variable {w0 : World}

theorem sendsF_le {F : List (List Int)} (hr : ∀ i, i < F.length → (F.getD i []).length ≤ 1048576) : ∀ k : Nat, k ≤ F.length → 0 ≤ sendsF F k ∧ sendsF F k ≤ 1048576 * k
  | 0, _ => by simp [sendsF]
  | k + 1, hk => by
    have h1 := sendsF_le hr k (by omega)
    have h2 := sendsR_01 (F.getD k []) (F.getD k []).length
    have h3 := hr k (by omega)
    rw [sendsF]; omega
theorem specSends_at (σ : AHeap) (h o : Nat) (F : List (List Int)) (hv : RowsAt σ h o F) (hl : F.length ≤ 1048576) (hr : ∀ i, i < F.length → (F.getD i []).length ≤ 1048576) :
    ACall Try.prog w0 31 [.slice (some ⟨h, o, none⟩) F.length 1] σ fun r σ' => r = .int .i64 (sendsF F F.length) ∧ σ' = σ := by
  refine acall_go mixed Try.func31 rfl good31 fun pr => ?_
  simp -implicitDefEqProofs (disch := omega) only [List.any_cons, List.any_nil, Nat.reduceEqDiff, List.map_cons, List.map_nil, Option.map_some, Option.map_none, List.nil_append, ↓reduceIte, vcu, ↓vcd]
  refine vc_loop_c mixed (by kernel_rfl) [0] (fun m a σ' => ∃ k : Nat, m + k = F.length ∧ a 3 = .int .i64 (sendsF F k) ∧ a 4 = .int .i64 k ∧ σ' = σ) F.length ⟨0, by simp, rfl, rfl, rfl⟩ ?_
  rintro m a σ' hc ⟨k, hk, h3, h4, rfl⟩
  simp -implicitDefEqProofs (disch := omega) only [List.any_cons, List.any_nil, Nat.reduceEqDiff, List.map_cons, List.map_nil, Option.map_some, Option.map_none, List.nil_append, ↓reduceIte, vcu, ↓vcd] at hc
  obtain ⟨h0, -⟩ := hc
  have hb := sendsF_le hr k (by omega)
  by_cases hlt : k < F.length
  · obtain ⟨v, hx, hi⟩ := hv k hlt
    have hrk := hr k hlt
    have hgo : sendsF F (k + 1) = sendsF F k + sendsR (F.getD k []) (F.getD k []).length := rfl
    generalize hrow : F.getD k [] = row at hi hrk hgo
    obtain ⟨b, z, rfl⟩ := ints_len hi
    simp -implicitDefEqProofs (disch := omega) only [List.any_cons, List.any_nil, Nat.reduceEqDiff, List.map_cons, List.map_nil, Option.map_some, Option.map_none, List.nil_append, ↓reduceIte, vcu, ↓vcd, h0, h3, h4]
    refine vc_loop_c mixed (by kernel_rfl) [0, 4] (fun m2 a2 σ2 => ∃ j : Nat, m2 + j = row.length ∧ a2 3 = .int .i64 (sendsF F k + sendsR row j) ∧ a2 5 = .int .i64 j ∧ σ2 = σ') row.length ⟨0, by simp, by simp -implicitDefEqProofs (disch := omega) only [List.any_cons, List.any_nil, Nat.reduceEqDiff, List.map_cons, List.map_nil, Option.map_some, Option.map_none, List.nil_append, ↓reduceIte, vcu, ↓vcd, h3]; simp [sendsR], rfl, rfl⟩ ?_
    rintro m2 a2 σ2 hc2 ⟨j, hj, c3, c5, rfl⟩
    simp -implicitDefEqProofs (disch := omega) only [List.any_cons, List.any_nil, Nat.reduceEqDiff, List.map_cons, List.map_nil, Option.map_some, Option.map_none, List.nil_append, ↓reduceIte, vcu, ↓vcd, h0, h4] at hc2
    obtain ⟨c0, c4, -⟩ := hc2
    have hsb := sendsR_01 row j
    by_cases hjl : j < row.length
    · rcases hi with ⟨e, rfl⟩ | ⟨g, p, e, hg⟩
      · simp at hjl
      injection e with ea eb ec
      subst ea; subst ec
      have hy := hg j hjl
      by_cases h00 : 0 ≤ row.getD j 0
      · simp -implicitDefEqProofs (disch := omega) only [List.any_cons, List.any_nil, Nat.reduceEqDiff, List.map_cons, List.map_nil, Option.map_some, Option.map_none, List.nil_append, ↓reduceIte, vcu, ↓vcd, c0, c3, c4, c5, hx, hy]
        refine ⟨⟨(by first | trivial | rfl | exact Eq.symm (by assumption)), (by first | trivial | rfl | exact Eq.symm (by assumption)), trivial⟩, m2 - 1, by omega, j + 1, by omega, by rw [sendsR, if_pos h00, Int.add_assoc], by simp, trivial⟩
      · simp -implicitDefEqProofs (disch := omega) only [List.any_cons, List.any_nil, Nat.reduceEqDiff, List.map_cons, List.map_nil, Option.map_some, Option.map_none, List.nil_append, ↓reduceIte, vcu, ↓vcd, c0, c3, c4, c5, hx, hy]
        refine ⟨⟨(by first | trivial | rfl | exact Eq.symm (by assumption)), (by first | trivial | rfl | exact Eq.symm (by assumption)), trivial⟩, m2 - 1, by omega, j + 1, by omega, by rw [sendsR, if_neg h00, Int.add_zero], by simp, trivial⟩
    · have e : j = row.length := by omega
      subst e
      simp -implicitDefEqProofs (disch := omega) only [List.any_cons, List.any_nil, Nat.reduceEqDiff, List.map_cons, List.map_nil, Option.map_some, Option.map_none, List.nil_append, ↓reduceIte, vcu, ↓vcd, c0, c3, c4, c5, hx]
      refine ⟨⟨trivial, trivial⟩, m - 1, by omega, k + 1, by omega, by rw [hgo], by simp, trivial⟩
  · have e : k = F.length := by omega
    simp -implicitDefEqProofs (disch := omega) only [List.any_cons, List.any_nil, Nat.reduceEqDiff, List.map_cons, List.map_nil, Option.map_some, Option.map_none, List.nil_append, ↓reduceIte, vcu, ↓vcd, h0, h3, h4]
    refine fin_one Try.results31 ⟨?_, rfl⟩
    simp -implicitDefEqProofs (disch := omega) only [List.any_cons, List.any_nil, Nat.reduceEqDiff, List.map_cons, List.map_nil, Option.map_some, Option.map_none, List.nil_append, ↓reduceIte, vcu, ↓vcd, h3, e]

def allV2 (T : List (List Int)) : Int := if TV T then allN T T.length else -1
theorem allN_le {T : List (List Int)} (hT : TV T) : ∀ k : Nat, k ≤ T.length → 0 ≤ allN T k ∧ allN T k ≤ 36 * k
  | 0, _ => by simp [allN]
  | k + 1, hk => by
    have h1 := allN_le hT k (by omega)
    have hr := hT.2 k (by omega)
    have h2 := psum_le hr.2 _ (Nat.le_refl _)
    have h3 := hT.1
    have h4 := hr.1
    rw [allN]; omega
theorem specAll_at (σ : AHeap) (h o : Nat) (T : List (List Int)) (hv : RowsAt σ h o T) (hl : T.length ≤ 1048576) :
    ACall Try.prog w0 33 [.slice (some ⟨h, o, none⟩) T.length 1] σ fun r σ' => r = .int .i64 (allV2 T) ∧ σ' = σ := by
  unfold allV2
  refine acall_go mixed Try.func33 rfl good33 fun pr => ?_
  simp -implicitDefEqProofs (disch := omega) only [List.any_cons, List.any_nil, Nat.reduceEqDiff, List.map_cons, List.map_nil, Option.map_some, Option.map_none, List.nil_append, ↓reduceIte, vcu, ↓vcd]
  refine (specTV_at σ h o T hv hl).mono ?_
  rintro r _ ⟨rfl, rfl⟩
  rename_i σ
  by_cases hT : TV T
  · rw [decide_eq_true hT, if_pos hT]
    have h6 := hT.1
    simp -implicitDefEqProofs (disch := omega) only [List.any_cons, List.any_nil, Nat.reduceEqDiff, List.map_cons, List.map_nil, Option.map_some, Option.map_none, List.nil_append, ↓reduceIte, vcu, ↓vcd, opK_some]
    refine vc_loop_c mixed (by kernel_rfl) [0] (fun m a σ' => ∃ k : Nat, m + k = T.length ∧ a 3 = .int .i64 (allN T k) ∧ a 4 = .int .i64 k ∧ σ' = σ) T.length ⟨0, by simp, rfl, rfl, rfl⟩ ?_
    rintro m a σ' hc ⟨k, hk, h3, h4, rfl⟩
    simp -implicitDefEqProofs (disch := omega) only [List.any_cons, List.any_nil, Nat.reduceEqDiff, List.map_cons, List.map_nil, Option.map_some, Option.map_none, List.nil_append, ↓reduceIte, vcu, ↓vcd] at hc
    obtain ⟨h0, -⟩ := hc
    have hb := allN_le hT k (by omega)
    by_cases hlt : k < T.length
    · obtain ⟨v, hx, hi⟩ := hv k hlt
      have hr := hT.2 k hlt
      have hp := psum_le hr.2 _ (Nat.le_refl _)
      have hgo : allN T (k + 1) = allN T k + psum (T.getD k []) (T.getD k []).length := rfl
      have hl4 := hr.1
      simp -implicitDefEqProofs (disch := omega) only [List.any_cons, List.any_nil, Nat.reduceEqDiff, List.map_cons, List.map_nil, Option.map_some, Option.map_none, List.nil_append, ↓reduceIte, vcu, ↓vcd, h0, h3, h4, hx]
      refine (l1Sum_calls σ' v _ hi (by omega) hr.2).mono ?_
      rintro r _ ⟨rfl, rfl⟩
      rename_i σ'
      simp -implicitDefEqProofs (disch := omega) only [List.any_cons, List.any_nil, Nat.reduceEqDiff, List.map_cons, List.map_nil, Option.map_some, Option.map_none, List.nil_append, ↓reduceIte, vcu, ↓vcd, opK_some, h0, h3, h4]
      refine ⟨⟨trivial, trivial⟩, m - 1, by omega, k + 1, by omega, by rw [hgo], by simp, trivial⟩
    · have e : k = T.length := by omega
      simp -implicitDefEqProofs (disch := omega) only [List.any_cons, List.any_nil, Nat.reduceEqDiff, List.map_cons, List.map_nil, Option.map_some, Option.map_none, List.nil_append, ↓reduceIte, vcu, ↓vcd, h0, h3, h4]
      refine fin_one Try.results33 ⟨?_, rfl⟩
      simp -implicitDefEqProofs (disch := omega) only [List.any_cons, List.any_nil, Nat.reduceEqDiff, List.map_cons, List.map_nil, Option.map_some, Option.map_none, List.nil_append, ↓reduceIte, vcu, ↓vcd, h3, e]
  · rw [decide_eq_false hT, if_neg hT]
    simp -implicitDefEqProofs (disch := omega) only [List.any_cons, List.any_nil, Nat.reduceEqDiff, List.map_cons, List.map_nil, Option.map_some, Option.map_none, List.nil_append, ↓reduceIte, vcu, ↓vcd, opK_some]
    refine fin_one Try.results33 ⟨?_, rfl⟩
    simp -implicitDefEqProofs (disch := omega) only [List.any_cons, List.any_nil, Nat.reduceEqDiff, List.map_cons, List.map_nil, Option.map_some, Option.map_none, List.nil_append, ↓reduceIte, vcu, ↓vcd]
end Go.Proofs.Ytpcbgdgfdfpapaa
