/- The program: how many a frame sends; all units; what is left. -/
import Derived.Test.YtpcbgdgfdfpapaaFj
set_option linter.unusedSimpArgs false
set_option linter.unusedVariables false
namespace Go.Proofs.Ytpcbgdgfdfpapaa
open Go Go.Abs Go.RowKit Go.Frames
variable {w0 : World}

theorem implSends_at (σ : AHeap) (h o : Nat) (F : List (List Int)) (hv : RowsAt σ h o F) (hl : F.length ≤ 1048576) (hr : ∀ i, i < F.length → (F.getD i []).length ≤ 1048576) :
    ACall Try.prog w0 23 [.slice (some ⟨h, o, none⟩) F.length 1] σ fun r σ' => r = .int .i64 (sendsF F F.length) ∧ σ' = σ := by
  refine acall_go mixed Try.func23 rfl good23 fun pr => ?_
  simp -implicitDefEqProofs (disch := omega) only [List.any_cons, List.any_nil, Nat.reduceEqDiff, List.map_cons, List.map_nil, Option.map_some, Option.map_none, List.nil_append, ↓reduceIte, vcu, ↓vcd]
  refine vc_loop_c mixed (by kernel_rfl) [8, 9] (fun m a σ' => ∃ k : Nat, m + k = F.length ∧ a 3 = .int .i64 (sendsF F k) ∧ a 10 = .int .i64 k ∧ σ' = σ) F.length ⟨0, by simp, rfl, rfl, rfl⟩ ?_
  rintro m a σ' hc ⟨k, hk, h3, h10, rfl⟩
  simp -implicitDefEqProofs (disch := omega) only [List.any_cons, List.any_nil, Nat.reduceEqDiff, List.map_cons, List.map_nil, Option.map_some, Option.map_none, List.nil_append, ↓reduceIte, vcu, ↓vcd] at hc
  obtain ⟨h8, h9, -⟩ := hc
  have hb := sendsF_le hr k (by omega)
  by_cases hlt : k < F.length
  · obtain ⟨v, hx, hi⟩ := hv k hlt
    have hrk := hr k hlt
    have hgo : sendsF F (k + 1) = sendsF F k + sendsR (F.getD k []) (F.getD k []).length := rfl
    generalize hrow : F.getD k [] = row at hi hrk hgo
    obtain ⟨b, z, rfl⟩ := ints_len hi
    simp -implicitDefEqProofs (disch := omega) only [List.any_cons, List.any_nil, Nat.reduceEqDiff, List.map_cons, List.map_nil, Option.map_some, Option.map_none, List.nil_append, ↓reduceIte, vcu, ↓vcd, h3, h8, h9, h10, hx]
    refine vc_loop_c mixed (by kernel_rfl) [8, 9, 10, 14, 15] (fun m2 a2 σ2 => ∃ j : Nat, m2 + j = row.length ∧ a2 3 = .int .i64 (sendsF F k + sendsR row j) ∧ a2 16 = .int .i64 j ∧ σ2 = σ') row.length ⟨0, by simp, by simp -implicitDefEqProofs (disch := omega) only [List.any_cons, List.any_nil, Nat.reduceEqDiff, List.map_cons, List.map_nil, Option.map_some, Option.map_none, List.nil_append, ↓reduceIte, vcu, ↓vcd, h3]; simp [sendsR], rfl, rfl⟩ ?_
    rintro m2 a2 σ2 hc2 ⟨j, hj, c3, c16, rfl⟩
    simp -implicitDefEqProofs (disch := omega) only [List.any_cons, List.any_nil, Nat.reduceEqDiff, List.map_cons, List.map_nil, Option.map_some, Option.map_none, List.nil_append, ↓reduceIte, vcu, ↓vcd, h8, h9, h10] at hc2
    obtain ⟨c8, c9, c10, c14, c15, -⟩ := hc2
    have hsb := sendsR_01 row j
    by_cases hjl : j < row.length
    · rcases hi with ⟨e, rfl⟩ | ⟨g, p, e, hg⟩
      · simp at hjl
      injection e with ea eb ec
      subst ea; subst ec
      have hy := hg j hjl
      by_cases h00 : 0 ≤ row.getD j 0
      · simp -implicitDefEqProofs (disch := omega) only [List.any_cons, List.any_nil, Nat.reduceEqDiff, List.map_cons, List.map_nil, Option.map_some, Option.map_none, List.nil_append, ↓reduceIte, vcu, ↓vcd, c3, c8, c9, c10, c14, c15, c16, hy]
        refine ⟨by simp [c8, c9, c10, c14, c15, h8, h9, h10], m2 - 1, by omega, j + 1, by omega, by rw [sendsR, if_pos h00, Int.add_assoc], by simp, trivial⟩
      · simp -implicitDefEqProofs (disch := omega) only [List.any_cons, List.any_nil, Nat.reduceEqDiff, List.map_cons, List.map_nil, Option.map_some, Option.map_none, List.nil_append, ↓reduceIte, vcu, ↓vcd, c3, c8, c9, c10, c14, c15, c16, hy]
        refine ⟨by simp [c8, c9, c10, c14, c15, h8, h9, h10], m2 - 1, by omega, j + 1, by omega, by rw [sendsR, if_neg h00, Int.add_zero], by simp, trivial⟩
    · have e : j = row.length := by omega
      subst e
      simp -implicitDefEqProofs (disch := omega) only [List.any_cons, List.any_nil, Nat.reduceEqDiff, List.map_cons, List.map_nil, Option.map_some, Option.map_none, List.nil_append, ↓reduceIte, vcu, ↓vcd, c3, c8, c9, c10, c14, c15, c16]
      refine ⟨by simp [c8, c9, h8, h9], m - 1, by omega, k + 1, by omega, by rw [hgo], by simp, trivial⟩
  · have e : k = F.length := by omega
    simp -implicitDefEqProofs (disch := omega) only [List.any_cons, List.any_nil, Nat.reduceEqDiff, List.map_cons, List.map_nil, Option.map_some, Option.map_none, List.nil_append, ↓reduceIte, vcu, ↓vcd, h3, h8, h9, h10]
    refine fin_one Try.results23 ⟨?_, rfl⟩
    simp -implicitDefEqProofs (disch := omega) only [List.any_cons, List.any_nil, Nat.reduceEqDiff, List.map_cons, List.map_nil, Option.map_some, Option.map_none, List.nil_append, ↓reduceIte, vcu, ↓vcd, h3, e]

theorem implAll_at (σ : AHeap) (h o : Nat) (T : List (List Int)) (hv : RowsAt σ h o T) (hl : T.length ≤ 1048576) :
    ACall Try.prog w0 24 [.slice (some ⟨h, o, none⟩) T.length 1] σ fun r σ' => r = .int .i64 (allV2 T) ∧ σ' = σ := by
  unfold allV2
  refine acall_go mixed Try.func24 rfl good24 fun pr => ?_
  simp -implicitDefEqProofs (disch := omega) only [List.any_cons, List.any_nil, Nat.reduceEqDiff, List.map_cons, List.map_nil, Option.map_some, Option.map_none, List.nil_append, ↓reduceIte, vcu, ↓vcd]
  refine (implTV_at σ h o T hv hl).mono ?_
  rintro r _ ⟨rfl, rfl⟩
  rename_i σ
  by_cases hT : TV T
  · rw [decide_eq_true hT, if_pos hT]
    have h6 := hT.1
    simp -implicitDefEqProofs (disch := omega) only [List.any_cons, List.any_nil, Nat.reduceEqDiff, List.map_cons, List.map_nil, Option.map_some, Option.map_none, List.nil_append, ↓reduceIte, vcu, ↓vcd, opK_some, Bool.not_true]
    refine vc_loop_c mixed (by kernel_rfl) [11, 12] (fun m a σ' => ∃ k : Nat, m + k = T.length ∧ a 3 = .int .i64 (allN T k) ∧ a 13 = .int .i64 k ∧ σ' = σ) T.length ⟨0, by simp, rfl, rfl, rfl⟩ ?_
    rintro m a σ' hc ⟨k, hk, h3, h13, rfl⟩
    simp -implicitDefEqProofs (disch := omega) only [List.any_cons, List.any_nil, Nat.reduceEqDiff, List.map_cons, List.map_nil, Option.map_some, Option.map_none, List.nil_append, ↓reduceIte, vcu, ↓vcd] at hc
    obtain ⟨h11, h12, -⟩ := hc
    have hb := allN_le hT k (by omega)
    by_cases hlt : k < T.length
    · obtain ⟨v, hx, hi⟩ := hv k hlt
      have hr := hT.2 k hlt
      have hgo : allN T (k + 1) = allN T k + psum (T.getD k []) (T.getD k []).length := rfl
      generalize hrow : T.getD k [] = row at hi hr hgo
      have hr1 := hr.1
      rcases hi with ⟨rfl, rfl⟩ | ⟨g, p, rfl, hg⟩
      · simp at hr1; omega
      simp -implicitDefEqProofs (disch := omega) only [List.any_cons, List.any_nil, Nat.reduceEqDiff, List.map_cons, List.map_nil, Option.map_some, Option.map_none, List.nil_append, ↓reduceIte, vcu, ↓vcd, h3, h11, h12, h13, hx]
      refine vc_loop_c mixed (by kernel_rfl) [11, 12, 13, 17, 18] (fun m2 a2 σ2 => ∃ j : Nat, m2 + j = row.length ∧ a2 3 = .int .i64 (allN T k + psum row j) ∧ a2 19 = .int .i64 j ∧ σ2 = σ') row.length ⟨0, by simp, by simp -implicitDefEqProofs (disch := omega) only [List.any_cons, List.any_nil, Nat.reduceEqDiff, List.map_cons, List.map_nil, Option.map_some, Option.map_none, List.nil_append, ↓reduceIte, vcu, ↓vcd, h3]; simp [psum], rfl, rfl⟩ ?_
      rintro m2 a2 σ2 hc2 ⟨j, hj, c3, c19, rfl⟩
      simp -implicitDefEqProofs (disch := omega) only [List.any_cons, List.any_nil, Nat.reduceEqDiff, List.map_cons, List.map_nil, Option.map_some, Option.map_none, List.nil_append, ↓reduceIte, vcu, ↓vcd, h11, h12, h13] at hc2
      obtain ⟨c11, c12, c13, c17, c18, -⟩ := hc2
      have hps := psum_le hr.2 j (by omega)
      by_cases hjl : j < row.length
      · have hy := hg j hjl
        have hyb := hr.2 j hjl
        simp -implicitDefEqProofs (disch := omega) only [List.any_cons, List.any_nil, Nat.reduceEqDiff, List.map_cons, List.map_nil, Option.map_some, Option.map_none, List.nil_append, ↓reduceIte, vcu, ↓vcd, c3, c11, c12, c13, c17, c18, c19, hy]
        refine ⟨by simp [c11, c12, c13, c17, c18, h11, h12, h13], m2 - 1, by omega, j + 1, by omega, by rw [psum, Int.add_assoc], by simp, trivial⟩
      · have e : j = row.length := by omega
        subst e
        simp -implicitDefEqProofs (disch := omega) only [List.any_cons, List.any_nil, Nat.reduceEqDiff, List.map_cons, List.map_nil, Option.map_some, Option.map_none, List.nil_append, ↓reduceIte, vcu, ↓vcd, c3, c11, c12, c13, c17, c18, c19]
        refine ⟨by simp [c11, c12, h11, h12], m - 1, by omega, k + 1, by omega, by rw [hgo], by simp, trivial⟩
    · have e : k = T.length := by omega
      simp -implicitDefEqProofs (disch := omega) only [List.any_cons, List.any_nil, Nat.reduceEqDiff, List.map_cons, List.map_nil, Option.map_some, Option.map_none, List.nil_append, ↓reduceIte, vcu, ↓vcd, h3, h11, h12, h13]
      refine fin_one Try.results24 ⟨?_, rfl⟩
      simp -implicitDefEqProofs (disch := omega) only [List.any_cons, List.any_nil, Nat.reduceEqDiff, List.map_cons, List.map_nil, Option.map_some, Option.map_none, List.nil_append, ↓reduceIte, vcu, ↓vcd, h3, e]
  · rw [decide_eq_false hT, if_neg hT]
    simp -implicitDefEqProofs (disch := omega) only [List.any_cons, List.any_nil, Nat.reduceEqDiff, List.map_cons, List.map_nil, Option.map_some, Option.map_none, List.nil_append, ↓reduceIte, vcu, ↓vcd, opK_some, Bool.not_false]
    refine fin_one Try.results24 ⟨?_, rfl⟩
    simp -implicitDefEqProofs (disch := omega) only [List.any_cons, List.any_nil, Nat.reduceEqDiff, List.map_cons, List.map_nil, Option.map_some, Option.map_none, List.nil_append, ↓reduceIte, vcu, ↓vcd]
/-- the copy of a table, never nil -/
theorem copyN_at (σ : AHeap) (h o : Nat) (rows : List (List Int)) (n : Nat) (hv : RowsAt σ h o rows) (hsq : Sq n rows) (hn6 : n ≤ 6) :
    ACall Try.prog w0 58 [.slice (some ⟨h, o, none⟩) n 1] σ fun r σ' => Sub σ σ' ∧ ∃ g q, r = .slice (some ⟨g, 0, none⟩) n 1 ∧ OwnT σ σ' g q rows := by
  refine (copyT_at σ h o rows n hv hsq hn6).named1 (z := 1) ?_
  rintro r σ' ⟨hs, ⟨rfl, e⟩ | ⟨g, q, rfl, hO⟩⟩
  · refine .inr ⟨rfl, fun g hg => ⟨hs.trans (sub_upd hg), g, fun _ => 0, ?_, ?_⟩⟩
    · rw [← hsq.1, e]; rfl
    · rw [e]; exact OwnT.nil _ (AHeap.upd_same _ _ _) (free_sub hs hg)
  · exact .inl ⟨hs, g, q, by rw [hsq.1], hO⟩
end Go.Proofs.Ytpcbgdgfdfpapaa
