/- The draw of a frame. -/
import Derived.Test.YtpcbgdgfdfpapaaFh
import Derived.Test.YtpcbgdgfdfpapaaGcR
set_option linter.unusedSimpArgs false
set_option linter.unusedVariables false
namespace Go.Proofs.Ytpcbgdgfdfpapaa
open Go Go.Abs Go.RowKit Go.Frames
variable {w0 : World}

theorem GrOk.small {T O : List (List Int)} (h : GrOk T O) : O.length ≤ 71 ∧ ∀ i, i < O.length → (O.getD i []).length ≤ 6 := by
  rcases h with ⟨-, rfl⟩ | ⟨hT, k, rfl, h0, hp⟩
  · exact ⟨by simp, fun i hi => absurd hi (by simp)⟩
  · rw [grF_length]
    have h1 := gr_len hT h0 hp
    have h2 := (most_le hT _ (Nat.le_refl _)).2
    refine ⟨?_, fun i hi => by rw [grF_getD hi, grS_length]; exact hT.1⟩
    rcases Nat.eq_zero_or_pos k with e | e
    · omega
    · have := h1.2 e; omega
theorem bestB_small (T : List (List Int)) : (bestB T).length ≤ 71 ∧ ∀ i, i < (bestB T).length → ((bestB T).getD i []).length ≤ 6 := by
  unfold bestB
  by_cases hT : TV T
  · rw [if_pos hT]
    have h2 := (most_le hT _ (Nat.le_refl _)).2
    have hl : (bestF T (most T T.length).toNat).length = (most T T.length).toNat := by simp [bestF]
    refine ⟨by rw [hl]; omega, fun i hi => ?_⟩
    rw [hl] at hi
    rw [bestF_getD hi, slB_length]; exact hT.1
  · rw [if_neg hT]
    exact ⟨by simp, fun i hi => absurd hi (by simp)⟩
theorem getD_set_len (F : List (List Int)) {s : Nat} (hs : s < F.length) (y : Int) (j i : Nat) : ((F.set s ((F.getD s []).set j y)).getD i []).length = (F.getD i []).length := by
  rw [getD_setL hs]
  split
  · rename_i e; rw [List.length_set, e]
  · rfl
set_option maxHeartbeats 1000000 in
theorem frame_k (β σ : AHeap) (g h o : Nat) (bs : List Int) (p : Int) (hr : Rd β σ g h o bs p) (hp : 0 ≤ p ∧ p ≤ 100) :
    ACall Try.prog w0 50 [.pointer (some ⟨g, 0, none⟩)] σ fun r σ' => ∃ (g2 : Nat) (q : Nat → Nat) (T : List (List Int)) (g3 : Nat) (q3 : Nat → Nat) (F : List (List Int)), r = .tuple #[.slice (some ⟨g2, 0, none⟩) T.length 1, .slice (some ⟨g3, 0, none⟩) F.length 1] ∧
      OwnT σ σ' g2 q T ∧ OwnT σ σ' g3 q3 F ∧ T.length ≤ 7 ∧ (∀ i, i < T.length → (T.getD i []).length ≤ 6) ∧ F.length ≤ 72 ∧ (∀ i, i < F.length → (F.getD i []).length ≤ 6) ∧ Kept g σ σ' ∧ ∃ p', Rd β σ' g h o bs p' := by
  refine acall_go mixed Try.func50 rfl good50 fun pr => ?_
  simp -implicitDefEqProofs (disch := omega) only [List.any_cons, List.any_nil, Nat.reduceEqDiff, List.map_cons, List.map_nil, Option.map_some, Option.map_none, List.nil_append, ↓reduceIte, vcu, ↓vcd]
  refine (traffic_k β σ g h o bs p 12 hr (by omega) (by omega)).mono ?_
  rintro r σ1 ⟨g2, q, T, p1, rfl, hT1, hTl, hTr, hK1, a1, a2, hR1⟩
  simp -implicitDefEqProofs (disch := omega) only [List.any_cons, List.any_nil, Nat.reduceEqDiff, List.map_cons, List.map_nil, Option.map_some, Option.map_none, List.nil_append, ↓reduceIte, vcu, ↓vcd, opK_some]
  refine (specBest_at σ1 g2 0 T hT1.rows (by omega)).mono ?_
  rintro r σ2 ⟨s2, g3, q3, rfl, hF2⟩
  obtain ⟨fl, fr⟩ := bestB_small T
  have hd1 : ∀ k, σ1 k = none → σ k = none := kept_dom hK1 hR1.at_
  have hT2 := hT1.sub s2
  have hR2 := hR1.sub' s2
  have hK2 : Kept g σ σ2 := fun k ob hk e => s2 _ _ (hK1 k ob hk e)
  simp -implicitDefEqProofs (disch := omega) only [List.any_cons, List.any_nil, Nat.reduceEqDiff, List.map_cons, List.map_nil, Option.map_some, Option.map_none, List.nil_append, ↓reduceIte, vcu, ↓vcd, opK_some]
  refine (pick_at β σ2 g h o bs p1 2 hR2 (by omega) (by omega)).mono ?_
  rintro r σ3 ⟨z, rfl, z0, z1, hR3, hK3⟩
  have hF3 := hF2.kept hR1.at_ hK3
  have hT3 := hT2.kept hr.at_ hK3
  have hK03 := hK2.trans hK3
  clear hT2 hR2 hK2 hF2 hK3
  by_cases hz : z = 0
  case' pos =>
    subst hz
    simp -implicitDefEqProofs (disch := omega) only [List.any_cons, List.any_nil, Nat.reduceEqDiff, List.map_cons, List.map_nil, Option.map_some, Option.map_none, List.nil_append, ↓reduceIte, vcu, ↓vcd, opK_some, decide_true]
    refine (specGreedy_at σ3 g2 0 T hT3.rows (by omega)).mono ?_
    have hd3 : ∀ k, σ3 k = none → σ k = none := kept_dom hK03 hR3.at_
    clear fl fr hF3
    rintro r σ4 ⟨s4, g4, q4, O, rfl, hO4, hG⟩
    obtain ⟨fl, fr⟩ := hG.small
    have hF := hO4
    have hT := hT3.sub s4
    have hR := hR3.sub' s4
    have hK : Kept g σ σ4 := fun k ob hk e => s4 _ _ (hK03 k ob hk e)
    have hdis : ∀ k, FL g2 q T.length k → ¬ FL g4 q4 O.length k := hT3.apart2 rfl hO4 rfl (Sub.refl _)
    replace hF : OwnT σ σ4 g4 q4 O := hF.older hd3
    clear hT3 hK03 hO4 hG s4
    simp -implicitDefEqProofs (disch := omega) only [List.any_cons, List.any_nil, Nat.reduceEqDiff, List.map_cons, List.map_nil, Option.map_some, Option.map_none, List.nil_append, ↓reduceIte, vcu, ↓vcd, opK_some]
  case' neg =>
    simp -implicitDefEqProofs (disch := omega) only [List.any_cons, List.any_nil, Nat.reduceEqDiff, List.map_cons, List.map_nil, Option.map_some, Option.map_none, List.nil_append, ↓reduceIte, vcu, ↓vcd, opK_some, hz]
    have hT := hT3
    have hR := hR3
    have hK := hK03
    have hdis : ∀ k, FL g2 q T.length k → ¬ FL g3 q3 (bestB T).length k := hT1.apart2 rfl hF3 rfl (Sub.refl _)
    have hF : OwnT σ σ3 g3 q3 (bestB T) := hF3.older hd1
    clear hF3 hT3 hK03
    generalize bestB T = O at *
    have hd3 := True.intro
    obtain ⟨g4, e4⟩ : ∃ x, x = g3 := ⟨_, rfl⟩
    obtain ⟨q4, e5⟩ : ∃ x, x = q3 := ⟨_, rfl⟩
    subst e4; subst e5
  all_goals
    clear hR3 hT1
    clear hd1 hd3
    refine vc_loop_c mixed (by kernel_rfl) [0, 4, 5] (fun m a τ => ∃ (s : Nat) (F : List (List Int)) (p' : Int), m + s = O.length ∧ a 6 = .int .i64 s ∧ F.length = O.length ∧ (∀ i, i < F.length → (F.getD i []).length ≤ 6) ∧ OwnT σ τ g2 q T ∧ OwnT σ τ g4 q4 F ∧ Kept g σ τ ∧ 0 ≤ p' ∧ p' ≤ 400 + 24 * s ∧ Rd β τ g h o bs p') O.length
      ⟨0, O, p1 + 1, by simp, rfl, rfl, fr, hT, hF, hK, by omega, by omega, hR⟩ ?_
    clear hT hF hK hR
    rintro m a τ hc ⟨s, F, p2, hs, h6, hFl, hFr, hT, hF, hK, b1, b2, hR⟩
    simp -implicitDefEqProofs (disch := omega) only [List.any_cons, List.any_nil, Nat.reduceEqDiff, List.map_cons, List.map_nil, Option.map_some, Option.map_none, List.nil_append, ↓reduceIte, vcu, ↓vcd] at hc
    obtain ⟨h0, h4, h5, -⟩ := hc
    by_cases hlt : s < O.length
    · simp -implicitDefEqProofs (disch := omega) only [List.any_cons, List.any_nil, Nat.reduceEqDiff, List.map_cons, List.map_nil, Option.map_some, Option.map_none, List.nil_append, ↓reduceIte, vcu, ↓vcd, h0, h4, h5, h6]
      refine vc_loop_c mixed (by kernel_rfl) [0, 4, 5, 6] (fun m a τ => ∃ (j : Nat) (F2 : List (List Int)) (p' : Int), m + j = (F.getD s []).length ∧ a 7 = .int .i64 j ∧ F2.length = O.length ∧ (∀ i, (F2.getD i []).length = (F.getD i []).length) ∧ OwnT σ τ g2 q T ∧ OwnT σ τ g4 q4 F2 ∧ Kept g σ τ ∧ 0 ≤ p' ∧ p' ≤ 400 + 24 * s + 3 * j ∧ Rd β τ g h o bs p') (F.getD s []).length
        ⟨0, F, p2, by simp, rfl, hFl, fun _ => rfl, hT, hF, hK, b1, by omega, hR⟩ ?_
      clear hT hF hK hR b1 b2 τ p2
      rintro m2 a2 τ hc2 ⟨j, F2, p2, hj, h7, hFl2, hFr2, hT, hF, hK, b1, b2, hR⟩
      simp -implicitDefEqProofs (disch := omega) only [List.any_cons, List.any_nil, Nat.reduceEqDiff, List.map_cons, List.map_nil, Option.map_some, Option.map_none, List.nil_append, ↓reduceIte, vcu, ↓vcd, h0, h4, h5, h6] at hc2
      obtain ⟨c0, c4, c5, c6, -⟩ := hc2
      have hgg : g4 ≠ g := ne_of hF.new hr.at_
      have hrow6 := hFr s (by omega)
      have hrl := hFr2 s
      have hgs := hF.get (i := s) (by omega)
      rw [hrl] at hgs
      by_cases hjl : j < (F.getD s []).length
      · simp -implicitDefEqProofs (disch := omega) only [List.any_cons, List.any_nil, Nat.reduceEqDiff, List.map_cons, List.map_nil, Option.map_some, Option.map_none, List.nil_append, ↓reduceIte, vcu, ↓vcd, c0, c4, c5, c6, h7, hgs]
        refine (pick_at β τ g h o bs p2 12 hR (by omega) (by omega)).mono ?_
        rintro r τ1 ⟨x, rfl, x0, x1, hR1', hK1'⟩
        have hF1' := hF.kept hr.at_ hK1'
        have hT1' := hT.kept hr.at_ hK1'
        have hK01 := hK.trans hK1'
        have hgs1 := hF1'.get (i := s) (by omega)
        rw [hrl] at hgs1
        have hqF : FL g4 q4 O.length (q4 s) := .inr ⟨s, hlt, rfl⟩
        by_cases hx : x = 0
        · subst hx
          simp -implicitDefEqProofs (disch := omega) only [List.any_cons, List.any_nil, Nat.reduceEqDiff, List.map_cons, List.map_nil, Option.map_some, Option.map_none, List.nil_append, ↓reduceIte, vcu, ↓vcd, opK_some, decide_true, c0, c4, c5, c6, h7, hgs1]
          refine r_setI (g := q4 s) (i := 0 + j) (v := -1) (by simp -implicitDefEqProofs (disch := omega) only [List.any_cons, List.any_nil, Nat.reduceEqDiff, List.map_cons, List.map_nil, Option.map_some, Option.map_none, List.nil_append, ↓reduceIte, vcu, ↓vcd]) (by simp -implicitDefEqProofs (disch := omega) only [List.any_cons, List.any_nil, Nat.reduceEqDiff, List.map_cons, List.map_nil, Option.map_some, Option.map_none, List.nil_append, ↓reduceIte, vcu, ↓vcd]) co3 (hF1'.row s (by omega)) (by omega) fun τ5 k5 e5 => ?_
          rw [Nat.zero_add] at e5
          have hqg : q4 s ≠ g := ne_of (hF1'.free s (by omega)) hr.at_
          simp -implicitDefEqProofs (disch := omega) only [List.any_cons, List.any_nil, Nat.reduceEqDiff, List.map_cons, List.map_nil, Option.map_some, Option.map_none, List.nil_append, ↓reduceIte, vcu, ↓vcd, h7]
          refine ⟨by simp [c0, c4, c5, c6, h0, h4, h5, h6], m2 - 1, by omega, j + 1, _, p2 + 1, by omega, by simp, ?_, ?_, hT1'.kF rfl k5 fun hh => hdis _ hh hqF, hF1'.write (by omega) (by simp) k5 e5, kept_put2 hK01 k5 (hF1'.free s (by omega)), by omega, by omega, hR1'.put k5 hqg (free_sub hr.sub (hF1'.free s (by omega)))⟩
          · simp [hFl2]
          · intro i
            rw [getD_set_len _ (by omega)]; exact hFr2 i
        · simp -implicitDefEqProofs (disch := omega) only [List.any_cons, List.any_nil, Nat.reduceEqDiff, List.map_cons, List.map_nil, Option.map_some, Option.map_none, List.nil_append, ↓reduceIte, vcu, ↓vcd, opK_some, hx, c0, c4, c5, c6, h7]
          refine (pick_at β τ1 g h o bs (p2 + 1) 60 hR1' (by omega) (by omega)).mono ?_
          rintro r τ2 ⟨x2, rfl, x20, x21, hR2', hK2'⟩
          have hF2' := hF1'.kept hr.at_ hK2'
          have hT2' := hT1'.kept hr.at_ hK2'
          have hK02 := hK01.trans hK2'
          clear hF1' hT1' hK01 hR1' hgs1
          by_cases hx2 : x2 = 0
          · subst hx2
            simp -implicitDefEqProofs (disch := omega) only [List.any_cons, List.any_nil, Nat.reduceEqDiff, List.map_cons, List.map_nil, Option.map_some, Option.map_none, List.nil_append, ↓reduceIte, vcu, ↓vcd, opK_some, decide_true, c0, c4, c5, c6, h7]
            have hrow := hF2'.getL hgg (i := s) (by omega)
            rw [hrl] at hrow
            refine region_tree mixed (quiets [0, 1, 2, 3, 4, 5, 6, 7, 8, 9, 10, 11] (.one 12 (quiets [13, 14] (.one 15 .stop)))) [([0, 1, 2, 3, 4, 5, 6, 7, 8, 9, 10, 11], Sub (τ2.upd g none))] (by kernel_rfl) (by kernel_rfl) (fun p hp => by
              simp only [List.mem_cons, List.not_mem_nil, or_false] at hp
              subst hp; exact sub_erase _ _) ?_
            refine tree_quiets (τ2.upd g none) _ _ _ sf1 (by kernel_rfl) (by kernel_rfl) ?_
            simp -implicitDefEqProofs (disch := omega) only [List.any_cons, List.any_nil, Nat.reduceEqDiff, List.map_cons, List.map_nil, Option.map_some, Option.map_none, List.nil_append, ↓reduceIte, vcu, ↓vcd, pickOps_nil, pickOps_cons, pickO_some, List.getElem?_cons_succ, List.getElem?_cons_zero, c0, c5, c6, h7, hrow]
            refine tree_one rfl ?_
            simp -implicitDefEqProofs (disch := omega) only [List.any_cons, List.any_nil, Nat.reduceEqDiff, List.map_cons, List.map_nil, Option.map_some, Option.map_none, List.nil_append, ↓reduceIte, vcu, ↓vcd]
            refine (pick_at β τ2 g h o bs (p2 + 1 + 1) _ hR2' (by omega) (by omega)).mono ?_
            rintro r τ3 ⟨y, rfl, y0, y1, hR3', hK3'⟩
            have hF3' := hF2'.kept hr.at_ hK3'
            have hT3' := hT2'.kept hr.at_ hK3'
            simp -implicitDefEqProofs (disch := omega) only [List.any_cons, List.any_nil, Nat.reduceEqDiff, List.map_cons, List.map_nil, Option.map_some, Option.map_none, List.nil_append, ↓reduceIte, vcu, ↓vcd, opK_some]
            refine ⟨keep_of rfl (fun p hp => by
              simp only [List.mem_cons, List.not_mem_nil, or_false] at hp
              subst hp; exact .inr (less_kept hK3')), ?_⟩
            refine tree_quiets (fun _ => none) _ _ _ sf0 (by kernel_rfl) (by kernel_rfl) ?_
            simp -implicitDefEqProofs (disch := omega) only [List.any_cons, List.any_nil, Nat.reduceEqDiff, List.map_cons, List.map_nil, Option.map_some, Option.map_none, List.nil_append, ↓reduceIte, vcu, ↓vcd, pickOps_nil, pickOps_cons, pickO_some, List.getElem?_cons_succ, List.getElem?_cons_zero]
            refine tree_one rfl ?_
            refine r_setI (g := q4 s) (i := 0 + j) (v := y - 1) (by simp -implicitDefEqProofs (disch := omega) only [List.any_cons, List.any_nil, Nat.reduceEqDiff, List.map_cons, List.map_nil, Option.map_some, Option.map_none, List.nil_append, ↓reduceIte, vcu, ↓vcd]) (by simp -implicitDefEqProofs (disch := omega) only [List.any_cons, List.any_nil, Nat.reduceEqDiff, List.map_cons, List.map_nil, Option.map_some, Option.map_none, List.nil_append, ↓reduceIte, vcu, ↓vcd]) co3 (hF3'.row s (by omega)) (by omega) fun τ5 k5 e5 => ?_
            rw [Nat.zero_add] at e5
            simp -implicitDefEqProofs (disch := omega) only [List.any_cons, List.any_nil, Nat.reduceEqDiff, List.map_cons, List.map_nil, Option.map_some, Option.map_none, List.nil_append, ↓reduceIte, vcu, ↓vcd]
            refine ⟨keep_of rfl (fun p hp => by
              simp only [List.mem_cons, List.not_mem_nil, or_false] at hp
              subst hp; exact .inl (by kernel_rfl)), tree_stop ?_⟩
            have hqg : q4 s ≠ g := ne_of (hF3'.free s (by omega)) hr.at_
            simp -implicitDefEqProofs (disch := omega) only [List.any_cons, List.any_nil, Nat.reduceEqDiff, List.map_cons, List.map_nil, Option.map_some, Option.map_none, List.nil_append, ↓reduceIte, vcu, ↓vcd, h7]
            refine ⟨by simp [c0, c4, c5, c6, h0, h4, h5, h6], m2 - 1, by omega, j + 1, _, p2 + 1 + 1 + 1, by omega, by simp, ?_, ?_, hT3'.kF rfl k5 fun hh => hdis _ hh hqF, hF3'.write (by omega) (by simp) k5 e5, kept_put2 (hK02.trans hK3') k5 (hF3'.free s (by omega)), by omega, by omega, hR3'.put k5 hqg (free_sub hr.sub (hF3'.free s (by omega)))⟩
            · simp [hFl2]
            · intro i
              rw [getD_set_len _ (by omega)]; exact hFr2 i
          · simp -implicitDefEqProofs (disch := omega) only [List.any_cons, List.any_nil, Nat.reduceEqDiff, List.map_cons, List.map_nil, Option.map_some, Option.map_none, List.nil_append, ↓reduceIte, vcu, ↓vcd, opK_some, hx2, c0, c4, c5, c6, h7]
            exact ⟨by simp [c0, c4, c5, c6, h0, h4, h5, h6], m2 - 1, by omega, j + 1, F2, p2 + 1 + 1, by omega, by simp, hFl2, hFr2, hT2', hF2', hK02, by omega, by omega, hR2'⟩
      · simp -implicitDefEqProofs (disch := omega) only [List.any_cons, List.any_nil, Nat.reduceEqDiff, List.map_cons, List.map_nil, Option.map_some, Option.map_none, List.nil_append, ↓reduceIte, vcu, ↓vcd, c0, c4, c5, c6, h7, hgs]
        exact ⟨by simp [c0, c4, c5, h0, h4, h5], m - 1, by omega, s + 1, F2, p2, by omega, by simp, hFl2, fun i hi => by rw [hFr2 i]; exact hFr i (by omega), hT, hF, hK, by omega, by omega, hR⟩
    · simp -implicitDefEqProofs (disch := omega) only [List.any_cons, List.any_nil, Nat.reduceEqDiff, List.map_cons, List.map_nil, Option.map_some, Option.map_none, List.nil_append, ↓reduceIte, vcu, ↓vcd, h0, h4, h5, h6]
      refine (odd_at β τ g h o bs p2 12 hR (by omega) (by omega)).mono ?_
      rintro r τ1 ⟨b, rfl, hR1', hK1'⟩
      have hF1' := hF.kept hr.at_ hK1'
      have hT1' := hT.kept hr.at_ hK1'
      have hK01 := hK.trans hK1'
      cases b with
      | false =>
        simp -implicitDefEqProofs (disch := omega) only [List.any_cons, List.any_nil, Nat.reduceEqDiff, List.map_cons, List.map_nil, Option.map_some, Option.map_none, List.nil_append, ↓reduceIte, vcu, ↓vcd, opK_some, h4, h5]
        refine fin_two Try.results50 ⟨g2, q, T, g4, q4, F, ?_, hT1', hF1', hTl, hTr, by omega, hFr, hK01, _, hR1'⟩
        simp -implicitDefEqProofs (disch := omega) only [List.any_cons, List.any_nil, Nat.reduceEqDiff, List.map_cons, List.map_nil, Option.map_some, Option.map_none, List.nil_append, ↓reduceIte, vcu, ↓vcd, h4, h5, hFl]
      | true =>
        simp -implicitDefEqProofs (disch := omega) only [List.any_cons, List.any_nil, Nat.reduceEqDiff, List.map_cons, List.map_nil, Option.map_some, Option.map_none, List.nil_append, ↓reduceIte, vcu, ↓vcd, opK_some, h0, h4, h5]
        refine r_lit el30 (out := #[.int .i64 0]) (by simp -implicitDefEqProofs (disch := omega) only [List.any_cons, List.any_nil, Nat.reduceEqDiff, List.map_cons, List.map_nil, Option.map_some, Option.map_none, List.nil_append, ↓reduceIte, vcu, ↓vcd]; kernel_rfl) (by kernel_rfl) fun z6 τ6 n6 s6 v6 => ?_
        refine r_lit el23 (out := #[.slice (some ⟨z6, 0, none⟩) 1 1]) (by simp -implicitDefEqProofs (disch := omega) only [List.any_cons, List.any_nil, Nat.reduceEqDiff, List.map_cons, List.map_nil, Option.map_some, Option.map_none, List.nil_append, ↓reduceIte, vcu, ↓vcd]; kernel_rfl) (by kernel_rfl) fun e7 τ7 n7 s7 v7 => ?_
        have f6 := kept_dom hK01 hR1'.at_ _ n6
        refine r_pushK (σ := τ7) (β := σ) (len := O.length) (g := g4) (e := e7) (r := z6) (q := q4) (rows := F) (row := [0]) el23 (by omega) sl23 (by simp -implicitDefEqProofs (disch := omega) only [List.any_cons, List.any_nil, Nat.reduceEqDiff, List.map_cons, List.map_nil, Option.map_some, Option.map_none, List.nil_append, ↓reduceIte, vcu, ↓vcd, h5]) hFl ((hF1'.sub s6).sub s7) (by simp -implicitDefEqProofs (disch := omega) only [List.any_cons, List.any_nil, Nat.reduceEqDiff, List.map_cons, List.map_nil, Option.map_some, Option.map_none, List.nil_append, ↓reduceIte, vcu, ↓vcd]) (by rw [v7]; simp [rowV]) (s7 _ _ v6) f6 (ne_of n6 hF1'.at_) (fun i hi => ne_of' n6 (hF1'.row i hi)) (dom_sub (s6.trans s7) (kept_dom hK01 hR1'.at_)) (by omega) fun g' q' τ8 hO8 k8 n8 => ?_
        have hT8 := ((hT1'.sub s6).sub s7).kF rfl k8 fun hh => hdis _ hh (.inl rfl)
        have hg8 : Kept g σ τ8 := kept_put2 (fun k ob hk e => s7 _ _ (s6 _ _ (hK01 k ob hk e))) k8 hF1'.new
        have hR8 := ((hR1'.sub' s6).sub' s7).put k8 (ne_of hF1'.new hr.at_) (free_sub hr.sub hF1'.new)
        simp -implicitDefEqProofs (disch := omega) only [List.any_cons, List.any_nil, Nat.reduceEqDiff, List.map_cons, List.map_nil, Option.map_some, Option.map_none, List.nil_append, ↓reduceIte, vcu, ↓vcd, h4, hFl]
        refine fin_two Try.results50 ⟨g2, q, T, g', q', F ++ [[0]], ?_, hT8, hO8, hTl, hTr, by simp; omega, fun i hi => ?_, hg8, _, hR8⟩
        · simp -implicitDefEqProofs (disch := omega) only [List.any_cons, List.any_nil, Nat.reduceEqDiff, List.map_cons, List.map_nil, Option.map_some, Option.map_none, List.nil_append, ↓reduceIte, vcu, ↓vcd, h4, hFl]
          simp [hFl]
        · rw [getD_appL]
          split
          · simp
          · exact hFr i (by simp at hi; omega)
end Go.Proofs.Ytpcbgdgfdfpapaa
