/- The reference: the greedy frame. -/
import Derived.Test.YtpcbgdgfdfpapaaFg
set_option linter.unusedSimpArgs false
set_option linter.unusedVariables false
namespace Go.Proofs.Ytpcbgdgfdfpapaa
open Go Go.Abs Go.RowKit Go.Frames
variable {w0 : World}

theorem sendsF_congr {F G : List (List Int)} : ∀ m, (∀ i, i < m → F.getD i [] = G.getD i []) → sendsF F m = sendsF G m
  | 0, _ => rfl
  | m + 1, h => by rw [sendsF, sendsF, sendsF_congr m fun i hi => h i (by omega), h m (by omega)]
theorem gr_step {T : List (List Int)} (hT : TV T) (s : Nat) : allN (grL T (s + 1)) T.length = allN (grL T s) T.length - sendsR (grS T.length (grL T s) T.length) T.length := by
  rw [gr_all hT (s + 1), gr_all hT s, sendsF, sendsF_congr (F := grF T (s + 1)) (G := grF T s) s fun i hi => by rw [grF_getD (by omega), grF_getD hi], grF_getD (by omega), grS_length]
  omega
theorem sendsR_pos {row : List Int} {a k : Nat} (ha : a < k) (h : 0 ≤ row.getD a 0) : 1 ≤ sendsR row k := by
  rw [sendsR_sm]
  have := sm_one_le (f := fun a => if 0 ≤ row.getD a 0 then (1 : Int) else 0) (n := k) (k := a) (fun k _ => by split <;> omega) ha
  rw [if_pos h] at this
  exact this
theorem gr_less {T : List (List Int)} (hT : TV T) {s : Nat} (h : 0 < allN (grL T s) T.length) : 1 ≤ sendsR (grS T.length (grL T s) T.length) T.length := by
  obtain ⟨a, b, ha, -, e⟩ := grS_sends hT h
  exact sendsR_pos ha (by omega)
theorem gr_nonneg {T : List (List Int)} (hT : TV T) (s : Nat) : 0 ≤ allN (grL T s) T.length := by
  rw [allN_sm (grL_sq (tv_sq hT) s) _ (Nat.le_refl _)]
  exact sm_nonneg _ fun a ha => sm_nonneg _ fun b hb => grL_nonneg hT s a b ha hb
theorem grL_le {T : List (List Int)} (hT : TV T) (s : Nat) {a b : Nat} (ha : a < T.length) (hb : b < T.length) : 0 ≤ en (grL T s) a b ∧ en (grL T s) a b ≤ 6 := by
  refine ⟨grL_nonneg hT s a b ha hb, ?_⟩
  have h1 := grL_mono hT (s := 0) ha hb s
  rw [Nat.zero_add] at h1
  have h2 : en (grL T 0) a b ≤ 6 := (hT.at ha hb).2
  omega
/-- the greedy frame: as many slots as it takes -/
def GrOk (T O : List (List Int)) : Prop := (¬ TV T ∧ O = []) ∨ (TV T ∧ ∃ k, O = grF T k ∧ allN (grL T k) T.length = 0 ∧ ∀ s, s < k → 0 < allN (grL T s) T.length)
theorem GrOk.uniq {T O O' : List (List Int)} (h : GrOk T O) (h' : GrOk T O') : O = O' := by
  rcases h with ⟨a, rfl⟩ | ⟨a, k, rfl, b, c⟩ <;> rcases h' with ⟨a', rfl⟩ | ⟨a', k', rfl, b', c'⟩
  · rfl
  · exact absurd a' a
  · exact absurd a a'
  · rcases Nat.lt_trichotomy k k' with e | e | e
    · have := c' k e; omega
    · rw [e]
    · have := c k' e; omega
theorem firstJ_le (L : List (List Int)) (k : Nat) (slot : List Int) (J : Nat) : -1 ≤ firstJ L k slot J ∧ firstJ L k slot J < J := by
  rcases firstJ_ok L k slot J with ⟨h, -⟩ | ⟨j, h1, h2, -⟩ <;> omega

set_option maxHeartbeats 1000000 in
theorem specGreedy_at (σ : AHeap) (h o : Nat) (T : List (List Int)) (hv : RowsAt σ h o T) (hl : T.length ≤ 1048576) :
    ACall Try.prog w0 44 [.slice (some ⟨h, o, none⟩) T.length 1] σ fun r σ' => Sub σ σ' ∧ ∃ (g : Nat) (q : Nat → Nat) (O : List (List Int)), r = .slice (some ⟨g, 0, none⟩) O.length 1 ∧ OwnT σ σ' g q O ∧ GrOk T O := by
  refine acall_go mixed Try.func44 rfl good44 fun pr => ?_
  simp -implicitDefEqProofs (disch := omega) only [List.any_cons, List.any_nil, Nat.reduceEqDiff, List.map_cons, List.map_nil, Option.map_some, Option.map_none, List.nil_append, ↓reduceIte, vcu, ↓vcd]
  refine r_lit el23 (out := #[]) (by kernel_rfl) (by kernel_rfl) fun e1 σ1 n1 s1 v1 => ?_
  simp -implicitDefEqProofs (disch := omega) only [List.any_cons, List.any_nil, Nat.reduceEqDiff, List.map_cons, List.map_nil, Option.map_some, Option.map_none, List.nil_append, ↓reduceIte, vcu, ↓vcd]
  refine (specLeft0_at σ1 h o T (hv.sub s1) hl).mono ?_
  rintro r σ3 ⟨s3, gL, qL, rfl, hL⟩
  simp -implicitDefEqProofs (disch := omega) only [List.any_cons, List.any_nil, Nat.reduceEqDiff, List.map_cons, List.map_nil, Option.map_some, Option.map_none, List.nil_append, ↓reduceIte, vcu, ↓vcd, opK_some]
  have hs3 := s1.trans s3
  refine (specAll_at σ3 h o T (hv.sub hs3) hl).mono ?_
  rintro r _ ⟨rfl, rfl⟩
  rename_i σ3
  unfold allV2
  by_cases hT : TV T
  case neg =>
    rw [if_neg hT]
    simp -implicitDefEqProofs (disch := omega) only [List.any_cons, List.any_nil, Nat.reduceEqDiff, List.map_cons, List.map_nil, Option.map_some, Option.map_none, List.nil_append, ↓reduceIte, vcu, ↓vcd, opK_some]
    refine vc_loop_c mixed (by kernel_rfl) [3] (fun m a σ' => a 5 = .int .i64 (-1) ∧ σ' = σ3) 0 ⟨rfl, rfl⟩ ?_
    rintro m a σ' hc ⟨h5, rfl⟩
    simp -implicitDefEqProofs (disch := omega) only [List.any_cons, List.any_nil, Nat.reduceEqDiff, List.map_cons, List.map_nil, Option.map_some, Option.map_none, List.nil_append, ↓reduceIte, vcu, ↓vcd] at hc
    obtain ⟨h3, -⟩ := hc
    simp -implicitDefEqProofs (disch := omega) only [List.any_cons, List.any_nil, Nat.reduceEqDiff, List.map_cons, List.map_nil, Option.map_some, Option.map_none, List.nil_append, ↓reduceIte, vcu, ↓vcd, h3, h5]
    refine fin_one Try.results44 ⟨hs3, e1, fun _ => 0, [], ?_, OwnT.nil _ (s3 _ _ v1) n1, .inl ⟨hT, rfl⟩⟩
    simp -implicitDefEqProofs (disch := omega) only [List.any_cons, List.any_nil, Nat.reduceEqDiff, List.map_cons, List.map_nil, Option.map_some, Option.map_none, List.nil_append, ↓reduceIte, vcu, ↓vcd, h3]
    rfl
  rw [if_pos hT]
  have h6n := hT.1
  have hN := allN_le hT _ (Nat.le_refl _)
  rw [leftB_tv hT] at hL ⊢
  have hFe : ¬ FL gL qL T.length e1 := by
    rintro (hh | ⟨i, hi, hh⟩)
    · exact ne_of' hL.new v1 hh
    · exact ne_of' (hL.free i hi) v1 hh.symm
  have hL0 : OwnT σ σ3 gL qL (grL T 0) := hL.base s1
  have hA0 : Apart σ σ3 (FL gL qL T.length) (.slice (some ⟨e1, 0, none⟩) 0 1) (grF T 0) := .inr ⟨e1, fun _ => 0, rfl, OwnT.nil _ (s3 _ _ v1) n1, hFe, fun i hi => absurd hi (by simp [grF])⟩
  have hm0 : (((allN T T.length).toNat : Nat) : Int) = allN (grL T 0) T.length := by show _ = allN T T.length; omega
  clear hL v1 n1 hFe s1 s3
  simp -implicitDefEqProofs (disch := omega) only [List.any_cons, List.any_nil, Nat.reduceEqDiff, List.map_cons, List.map_nil, Option.map_some, Option.map_none, List.nil_append, ↓reduceIte, vcu, ↓vcd, opK_some]
  refine vc_loop_c mixed (by kernel_rfl) [4] (fun m a σ' => ∃ s g3 : Nat, (m : Int) = allN (grL T s) T.length ∧ m + s ≤ 216 ∧ a 5 = .int .i64 (allN (grL T s) T.length) ∧ a 3 = .slice (some ⟨g3, 0, none⟩) s 1 ∧ Sub σ σ' ∧ OwnT σ σ' gL qL (grL T s) ∧ Apart σ σ' (FL gL qL T.length) (.slice (some ⟨g3, 0, none⟩) s 1) (grF T s) ∧ ∀ s', s' < s → 0 < allN (grL T s') T.length) (allN T T.length).toNat
    ⟨0, e1, hm0, by omega, rfl, rfl, hs3, hL0, hA0, fun s' hs' => absurd hs' (by omega)⟩ ?_
  clear hL0 hA0 hs3 hm0
  rintro m a τ0 hc ⟨s, g3, hm, hms, h5, h3, hs0, hL, hA, hpos⟩
  simp -implicitDefEqProofs (disch := omega) only [List.any_cons, List.any_nil, Nat.reduceEqDiff, List.map_cons, List.map_nil, Option.map_some, Option.map_none, List.nil_append, ↓reduceIte, vcu, ↓vcd] at hc
  obtain ⟨h4, -⟩ := hc
  obtain ⟨q3, hO3, hlF⟩ := hA.get
  by_cases hlt : 0 < allN (grL T s) T.length
  case neg =>
    simp -implicitDefEqProofs (disch := omega) only [List.any_cons, List.any_nil, Nat.reduceEqDiff, List.map_cons, List.map_nil, Option.map_some, Option.map_none, List.nil_append, ↓reduceIte, vcu, ↓vcd, h3, h5]
    refine fin_one Try.results44 ⟨hs0, g3, q3, grF T s, ?_, hO3, .inr ⟨hT, s, rfl, by omega, hpos⟩⟩
    simp -implicitDefEqProofs (disch := omega) only [List.any_cons, List.any_nil, Nat.reduceEqDiff, List.map_cons, List.map_nil, Option.map_some, Option.map_none, List.nil_append, ↓reduceIte, vcu, ↓vcd, h3, hlF]
  have hposS : ∀ s', s' < s + 1 → 0 < allN (grL T s') T.length := fun s' hs' => by
    by_cases e : s' = s
    · rw [e]; exact hlt
    · exact hpos s' (by omega)
  clear hpos
  have hst := gr_step hT s
  have hls := gr_less hT hlt
  have hnn := gr_nonneg hT (s + 1)
  have hS1 : grL T (s + 1) = slotL T.length (grL T s) (grS T.length (grL T s) T.length) T.length := rfl
  have hF1 := grF_succ T s
  have hent := fun a b => grL_le (a := a) (b := b) hT s
  have hLsq := grL_sq (tv_sq hT) s
  generalize hA0 : allN (grL T s) T.length = A at *
  generalize grL T s = L at *
  generalize grF T s = O at *
  generalize hn : T.length = n at *
  have hSlen : (grS n L n).length = n := grS_length n L n
  have hLl := hLsq.1
  have hsb := fun k => sendsR_01 (grS n L n) k
  simp -implicitDefEqProofs (disch := omega) only [List.any_cons, List.any_nil, Nat.reduceEqDiff, List.map_cons, List.map_nil, Option.map_some, Option.map_none, List.nil_append, ↓reduceIte, vcu, ↓vcd, h3, h4, h5]
  refine r_lit el30 (out := #[]) (by kernel_rfl) (by kernel_rfl) fun e6 τ1 n6 s6 v6 => ?_
  have hnF0 : ¬ FL gL qL n e6 := fun hh => by
    obtain ⟨ob, e⟩ := hL.hasF hLl _ hh
    rw [n6] at e; cases e
  simp -implicitDefEqProofs (disch := omega) only [List.any_cons, List.any_nil, Nat.reduceEqDiff, List.map_cons, List.map_nil, Option.map_some, Option.map_none, List.nil_append, ↓reduceIte, vcu, ↓vcd]
  refine vc_loop_c mixed (by kernel_rfl) [3, 4] (fun m a τ => ∃ k z : Nat, m + k = n ∧ a 6 = .slice (some ⟨z, 0, none⟩) k 1 ∧ a 7 = .int .i64 k ∧ a 5 = .int .i64 (A - sendsR (grS n L n) k) ∧ Sub σ τ ∧ OwnT σ τ gL qL (slotL n L (grS n L n) k) ∧
      Apart σ τ (fun x => FL gL qL n x ∨ x = z) (.slice (some ⟨g3, 0, none⟩) s 1) O ∧ τ z = some ⟨ints .i64 (grS n L k), false⟩ ∧ σ z = none ∧ ¬ FL gL qL n z) n
    ⟨0, e6, by simp, rfl, rfl, by simpa [sendsR, fset] using h5, hs0.trans s6, hL.sub s6, (hA.add n6).sub s6, v6, free_sub hs0 n6, hnF0⟩ ?_
  clear hL hA hO3 v6 n6 s6 hnF0 hs0
  rintro m2 a2 τ2 hc2 ⟨k, z, hk, h6, h7, h5', hs2, hL, hA, vz, nz, hzF⟩
  simp -implicitDefEqProofs (disch := omega) only [List.any_cons, List.any_nil, Nat.reduceEqDiff, List.map_cons, List.map_nil, Option.map_some, Option.map_none, List.nil_append, ↓reduceIte, vcu, ↓vcd, h3, h4] at hc2
  obtain ⟨c3, c4, -⟩ := hc2
  have hLk := slotL_sq hLsq (grS n L n) k (by omega)
  have hgl := grS_length n L k
  by_cases hkn : k < n
  case neg =>
    have e : k = n := by omega
    subst e
    have hFo : ∀ x, FL gL qL k x → ∃ ob, τ2 x = some ob := fun x hh => hL.hasF hLk.1 x hh
    simp -implicitDefEqProofs (disch := omega) only [List.any_cons, List.any_nil, Nat.reduceEqDiff, List.map_cons, List.map_nil, Option.map_some, Option.map_none, List.nil_append, ↓reduceIte, vcu, ↓vcd, c3, c4, h6, h7, h5']
    refine r_lit el23 (out := #[.slice (some ⟨z, 0, none⟩) k 1]) (by simp -implicitDefEqProofs (disch := omega) only [List.any_cons, List.any_nil, Nat.reduceEqDiff, List.map_cons, List.map_nil, Option.map_some, Option.map_none, List.nil_append, ↓reduceIte, vcu, ↓vcd]; kernel_rfl) (by kernel_rfl) fun e7 τ7 n7 s7 v7 => ?_
    refine r_pushA (σ0 := σ) (e := e7) (r := z) (F := FL gL qL k) (O := O) (row := grS k L k) el23 (by omega) sl23 (by simp -implicitDefEqProofs (disch := omega) only [List.any_cons, List.any_nil, Nat.reduceEqDiff, List.map_cons, List.map_nil, Option.map_some, Option.map_none, List.nil_append, ↓reduceIte, vcu, ↓vcd, c3]) (hA.sub s7) (fun x hh => let ⟨ob, e⟩ := hFo x hh; ⟨ob, s7 _ _ e⟩) (by simp -implicitDefEqProofs (disch := omega) only [List.any_cons, List.any_nil, Nat.reduceEqDiff, List.map_cons, List.map_nil, Option.map_some, Option.map_none, List.nil_append, ↓reduceIte, vcu, ↓vcd]) (by rw [v7]; simp [rowV, hgl]) (s7 _ _ vz) nz hzF (hs2.trans s7) (by omega) fun g' τ8 hA8 s8 k8 => ?_
    have hL8 := (hL.sub s7).keepF hLk.1 fun x ob hh e => k8 x ob hh e
    rw [hlF] at hA8
    simp -implicitDefEqProofs (disch := omega) only [List.any_cons, List.any_nil, Nat.reduceEqDiff, List.map_cons, List.map_nil, Option.map_some, Option.map_none, List.nil_append, ↓reduceIte, vcu, ↓vcd, h5', hlF]
    refine ⟨by simp [c4, h4], (allN (grL T (s + 1)) k).toNat, by omega, s + 1, g', by omega, by omega, by rw [hst], by simp, s8, by rw [hS1]; exact hL8, by rw [hF1]; exact hA8, hposS⟩
  have hgk := hL.get (i := k) (by rw [hLk.1]; exact hkn)
  have hrk := hL.row k (by rw [hLk.1]; exact hkn)
  have hrl := hLk.2 k hkn
  rw [hrl] at hgk
  have hekj : ∀ j, j < n → en (slotL n L (grS n L n) k) k j = en L k j := fun j hj => by rw [en_slotL hLsq _ k (by omega) k j hj, if_neg (by omega)]; omega
  simp -implicitDefEqProofs (disch := omega) only [List.any_cons, List.any_nil, Nat.reduceEqDiff, List.map_cons, List.map_nil, Option.map_some, Option.map_none, List.nil_append, ↓reduceIte, vcu, ↓vcd, c3, c4, h6, h7, h5']
  refine vc_loop_c mixed (by kernel_rfl) [3, 4, 5, 6, 7] (fun m a τ => ∃ j : Nat, m + j = n ∧ a 8 = .int .i64 (firstJ L k (grS n L k) j) ∧ a 9 = .int .i64 j ∧ τ = τ2) n ⟨0, by simp, rfl, rfl, rfl⟩ ?_
  rintro m3 a3 τ3 hc3 ⟨j, hj, h8, h9, rfl⟩
  simp -implicitDefEqProofs (disch := omega) only [List.any_cons, List.any_nil, Nat.reduceEqDiff, List.map_cons, List.map_nil, Option.map_some, Option.map_none, List.nil_append, ↓reduceIte, vcu, ↓vcd, c3, c4, h6, h7, h5'] at hc3
  obtain ⟨d3, d4, d5, d6, d7, -⟩ := hc3
  have hfj := firstJ_le L k (grS n L k) j
  by_cases hjn : j < n
  · have hld : ld τ3 (qL k) (0 + j) = some (.int .i64 (en L k j)) := by rw [own_at hrk (by rw [hrl]; exact hjn), ← hekj j hjn]; rfl
    have hgo : firstJ L k (grS n L k) (j + 1) = if firstJ L k (grS n L k) j < 0 ∧ 0 < en L k j ∧ (j : Int) ∉ grS n L k then (j : Int) else firstJ L k (grS n L k) j := rfl
    have hhas := has_at (w0 := w0) τ3 z 0 (grS n L k) (j : Int) (intsAt_own vz) (by omega)
    rw [hgl] at hhas
    by_cases f1 : firstJ L k (grS n L k) j < 0
    · by_cases f2 : 0 < en L k j
      · simp -implicitDefEqProofs (disch := omega) only [List.any_cons, List.any_nil, Nat.reduceEqDiff, List.map_cons, List.map_nil, Option.map_some, Option.map_none, List.nil_append, ↓reduceIte, vcu, ↓vcd, d3, d4, d5, d6, d7, h8, h9, hgk, hld]
        refine hhas.mono ?_
        rintro r _ ⟨rfl, rfl⟩
        rename_i τ3
        by_cases f3 : (j : Int) ∈ grS n L k
        · rw [decide_eq_true f3]
          rw [if_neg fun hh => hh.2.2 f3] at hgo
          simp -implicitDefEqProofs (disch := omega) only [List.any_cons, List.any_nil, Nat.reduceEqDiff, List.map_cons, List.map_nil, Option.map_some, Option.map_none, List.nil_append, ↓reduceIte, vcu, ↓vcd, opK_some, d3, d4, d5, d6, d7, h8, h9, Bool.not_true]
          exact ⟨by simp [d3, d4, d5, d6, d7, c3, c4, h3, h4, h6, h7, h5'], m3 - 1, by omega, j + 1, by omega, by rw [hgo], by simp, trivial⟩
        · rw [decide_eq_false f3]
          rw [if_pos ⟨f1, f2, f3⟩] at hgo
          simp -implicitDefEqProofs (disch := omega) only [List.any_cons, List.any_nil, Nat.reduceEqDiff, List.map_cons, List.map_nil, Option.map_some, Option.map_none, List.nil_append, ↓reduceIte, vcu, ↓vcd, opK_some, d3, d4, d5, d6, d7, h8, h9, Bool.not_false]
          exact ⟨by simp [d3, d4, d5, d6, d7, c3, c4, h3, h4, h6, h7, h5'], m3 - 1, by omega, j + 1, by omega, by rw [hgo], by simp, trivial⟩
      · rw [if_neg fun hh => f2 hh.2.1] at hgo
        simp -implicitDefEqProofs (disch := omega) only [List.any_cons, List.any_nil, Nat.reduceEqDiff, List.map_cons, List.map_nil, Option.map_some, Option.map_none, List.nil_append, ↓reduceIte, vcu, ↓vcd, d3, d4, d5, d6, d7, h8, h9, hgk, hld]
        exact ⟨by simp [d3, d4, d5, d6, d7, c3, c4, h3, h4, h6, h7, h5'], m3 - 1, by omega, j + 1, by omega, by rw [hgo], by simp, trivial⟩
    · rw [if_neg fun hh => f1 hh.1] at hgo
      simp -implicitDefEqProofs (disch := omega) only [List.any_cons, List.any_nil, Nat.reduceEqDiff, List.map_cons, List.map_nil, Option.map_some, Option.map_none, List.nil_append, ↓reduceIte, vcu, ↓vcd, d3, d4, d5, d6, d7, h8, h9, hgk, hld]
      exact ⟨by simp [d3, d4, d5, d6, d7, c3, c4, h3, h4, h6, h7, h5'], m3 - 1, by omega, j + 1, by omega, by rw [hgo], by simp, trivial⟩
  have e : j = n := by omega
  subst e
  have hSk := grS_getD j L j hkn
  have hgs : grS j L (k + 1) = grS j L k ++ [firstJ L k (grS j L k) j] := rfl
  have hRk : sendsR (grS j L j) (k + 1) = sendsR (grS j L j) k + if 0 ≤ (grS j L j).getD k 0 then 1 else 0 := rfl
  have hLk1 : slotL j L (grS j L j) (k + 1) = if 0 ≤ (grS j L j).getD k 0 ∧ (grS j L j).getD k 0 ≤ (j : Int) - 1 then less1 (slotL j L (grS j L j) k) k ((grS j L j).getD k 0).toNat else slotL j L (grS j L j) k := rfl
  have hqF : FL gL qL j (qL k) := .inr ⟨k, hkn, rfl⟩
  have hzq : z ≠ qL k := fun e => hzF (e ▸ hqF)
  have hsbk := hsb k
  have hent2 : ∀ b, b < j → 0 ≤ en L k b ∧ en L k b ≤ 6 := fun b hb => hent k b (by omega) (by omega)
  rw [hSk] at hRk hLk1
  generalize firstJ L k (grS j L k) j = y at *
  -- the number is put behind the slot
  have fin : ∀ (τ6 : AHeap) (L2 : List (List Int)), Sub σ τ6 → OwnT σ τ6 gL qL L2 → L2.length = j → Apart σ τ6 (fun x => FL gL qL j x ∨ x = z) (.slice (some ⟨g3, 0, none⟩) s 1) O → τ6 z = some ⟨ints .i64 (grS j L k), false⟩ →
      ∀ (z' : Nat) (τ7 τ8 : AHeap), Sub τ6 τ7 → τ7 z' = none → Kept z τ7 τ8 → τ8 z' = some ⟨ints .i64 (grS j L k ++ [y]), false⟩ →
      Sub σ τ8 ∧ OwnT σ τ8 gL qL L2 ∧ Apart σ τ8 (fun x => FL gL qL j x ∨ x = z') (.slice (some ⟨g3, 0, none⟩) s 1) O ∧ τ8 z' = some ⟨ints .i64 (grS j L (k + 1)), false⟩ ∧ σ z' = none ∧ ¬ FL gL qL j z' := by
    intro τ6 L2 hs hL2 hl2 hA6 vz6 z' τ7 τ8 s7 n7 k8 v8
    refine ⟨k8.sub (hs.trans s7) nz, (hL2.sub s7).kF hl2 k8 hzF, ?_, by rw [hgs]; exact v8, free_sub (hs.trans s7) n7, fun hh => ?_⟩
    · refine (((hA6.sub s7).add n7).keptx k8 (.inl (.inr rfl))).weak ?_
      rintro x (hh | hh)
      · exact .inl (.inl hh)
      · exact .inr hh
    · obtain ⟨ob, e⟩ := (hL2.sub s7).hasF hl2 _ hh
      rw [n7] at e; cases e
  by_cases hy : 0 ≤ y
  · rw [if_pos hy] at hRk
    rw [if_pos ⟨hy, by omega⟩] at hLk1
    have hE := hekj y.toNat (by omega)
    have hb := hent2 y.toNat (by omega)
    have hld : ld τ3 (qL k) (0 + y.toNat) = some (.int .i64 (en L k y.toNat)) := by rw [own_at hrk (by rw [hrl]; omega), ← hE]; rfl
    unfold less1 at hLk1
    rw [hE] at hLk1
    simp -implicitDefEqProofs (disch := omega) only [List.any_cons, List.any_nil, Nat.reduceEqDiff, List.map_cons, List.map_nil, Option.map_some, Option.map_none, List.nil_append, ↓reduceIte, vcu, ↓vcd, d3, d4, d5, d6, d7, h8, h9]
    refine region_tree mixed (quiets [0, 1, 2, 3, 4, 5, 6, 7, 8, 9, 10, 11, 12, 13] (.one 14 .stop)) [([0, 1, 2, 3, 4, 5, 6, 7, 8, 9, 10, 11, 12, 13], Sub τ3)] (by kernel_rfl) (by kernel_rfl) (fun p hp => by simp only [List.mem_singleton] at hp; subst hp; exact Sub.refl _) ?_
    refine tree_quiets τ3 _ _ _ sf1 (by kernel_rfl) (by kernel_rfl) ?_
    simp -implicitDefEqProofs (disch := omega) only [List.any_cons, List.any_nil, Nat.reduceEqDiff, List.map_cons, List.map_nil, Option.map_some, Option.map_none, List.nil_append, ↓reduceIte, vcu, ↓vcd, pickOps_nil, pickOps_cons, pickO_some, List.getElem?_cons_succ, List.getElem?_cons_zero, d4, d7, h8, hgk, hld]
    refine tree_one rfl ?_
    refine r_setI (g := qL k) (i := 0 + y.toNat) (v := en L k y.toNat - 1) (by simp -implicitDefEqProofs (disch := omega) only [List.any_cons, List.any_nil, Nat.reduceEqDiff, List.map_cons, List.map_nil, Option.map_some, Option.map_none, List.nil_append, ↓reduceIte, vcu, ↓vcd]) (by simp -implicitDefEqProofs (disch := omega) only [List.any_cons, List.any_nil, Nat.reduceEqDiff, List.map_cons, List.map_nil, Option.map_some, Option.map_none, List.nil_append, ↓reduceIte, vcu, ↓vcd]) co3 hrk (by omega) fun τ6 k6 e6 => ?_
    rw [Nat.zero_add] at e6
    have q1 := hL.write (by rw [hLk.1]; exact hkn) (by simp) k6 e6
    rw [← hLk1] at q1
    have q3 := hA.keptx k6 (.inl hqF)
    have q5 := k6.at vz hzq
    have q6 : Sub σ τ6 := k6.sub hs2 (hL.free k (by rw [hLk.1]; exact hkn))
    clear k6 e6 hL hA
    simp -implicitDefEqProofs (disch := omega) only [List.any_cons, List.any_nil, Nat.reduceEqDiff, List.map_cons, List.map_nil, Option.map_some, Option.map_none, List.nil_append, ↓reduceIte, vcu, ↓vcd]
    refine ⟨keep_of rfl (fun p hp => by simp only [List.mem_singleton] at hp; subst hp; exact .inl (by kernel_rfl)), tree_stop ?_⟩
    simp -implicitDefEqProofs (disch := omega) only [List.any_cons, List.any_nil, Nat.reduceEqDiff, List.map_cons, List.map_nil, Option.map_some, Option.map_none, List.nil_append, ↓reduceIte, vcu, ↓vcd, d5, d6, d7, h8]
    refine r_lit el30 (out := #[.int .i64 y]) (by simp -implicitDefEqProofs (disch := omega) only [List.any_cons, List.any_nil, Nat.reduceEqDiff, List.map_cons, List.map_nil, Option.map_some, Option.map_none, List.nil_append, ↓reduceIte, vcu, ↓vcd]; kernel_rfl) (by kernel_rfl) fun e7 τ7 n7 s7 v7 => ?_
    refine r_pushI (g := z) (e := e7) (o := 0) (k := .i64) (xs := grS j L k) (ys := [y]) (m := 1) (len := k) el30 (by omega) sl30 (by simp -implicitDefEqProofs (disch := omega) only [List.any_cons, List.any_nil, Nat.reduceEqDiff, List.map_cons, List.map_nil, Option.map_some, Option.map_none, List.nil_append, ↓reduceIte, vcu, ↓vcd, d6]) (s7 _ _ q5) hgl (by simp -implicitDefEqProofs (disch := omega) only [List.any_cons, List.any_nil, Nat.reduceEqDiff, List.map_cons, List.map_nil, Option.map_some, Option.map_none, List.nil_append, ↓reduceIte, vcu, ↓vcd]) (intsAt_own v7) rfl (by omega) fun z' τ8 n8 k8 v8 => ?_
    obtain ⟨w1, w2, w3, w4, w5, w6⟩ := fin τ6 _ q6 q1 (slotL_sq hLsq _ _ (by omega)).1 q3 q5 z' τ7 τ8 s7 n8 k8 v8
    simp -implicitDefEqProofs (disch := omega) only [List.any_cons, List.any_nil, Nat.reduceEqDiff, List.map_cons, List.map_nil, Option.map_some, Option.map_none, List.nil_append, ↓reduceIte, vcu, ↓vcd, d5, d7]
    exact ⟨by simp [d3, d4, c3, c4, h3, h4], m2 - 1, by omega, k + 1, z', by omega, by simp, by simp, by rw [hRk]; congr 1; omega, w1, w2, w3, w4, w5, w6⟩
  · rw [if_neg hy] at hRk
    rw [if_neg fun hh => hy hh.1] at hLk1
    rw [← hLk1] at hL
    simp -implicitDefEqProofs (disch := omega) only [List.any_cons, List.any_nil, Nat.reduceEqDiff, List.map_cons, List.map_nil, Option.map_some, Option.map_none, List.nil_append, ↓reduceIte, vcu, ↓vcd, d3, d4, d5, d6, d7, h8, h9]
    refine r_lit el30 (out := #[.int .i64 y]) (by simp -implicitDefEqProofs (disch := omega) only [List.any_cons, List.any_nil, Nat.reduceEqDiff, List.map_cons, List.map_nil, Option.map_some, Option.map_none, List.nil_append, ↓reduceIte, vcu, ↓vcd]; kernel_rfl) (by kernel_rfl) fun e7 τ7 n7 s7 v7 => ?_
    refine r_pushI (g := z) (e := e7) (o := 0) (k := .i64) (xs := grS j L k) (ys := [y]) (m := 1) (len := k) el30 (by omega) sl30 (by simp -implicitDefEqProofs (disch := omega) only [List.any_cons, List.any_nil, Nat.reduceEqDiff, List.map_cons, List.map_nil, Option.map_some, Option.map_none, List.nil_append, ↓reduceIte, vcu, ↓vcd, d6]) (s7 _ _ vz) hgl (by simp -implicitDefEqProofs (disch := omega) only [List.any_cons, List.any_nil, Nat.reduceEqDiff, List.map_cons, List.map_nil, Option.map_some, Option.map_none, List.nil_append, ↓reduceIte, vcu, ↓vcd]) (intsAt_own v7) rfl (by omega) fun z' τ8 n8 k8 v8 => ?_
    obtain ⟨w1, w2, w3, w4, w5, w6⟩ := fin τ3 _ hs2 hL (slotL_sq hLsq _ _ (by omega)).1 hA vz z' τ7 τ8 s7 n8 k8 v8
    simp -implicitDefEqProofs (disch := omega) only [List.any_cons, List.any_nil, Nat.reduceEqDiff, List.map_cons, List.map_nil, Option.map_some, Option.map_none, List.nil_append, ↓reduceIte, vcu, ↓vcd, d5, d7]
    exact ⟨by simp [d3, d4, c3, c4, h3, h4], m2 - 1, by omega, k + 1, z', by omega, by simp, by simp, by rw [hRk]; congr 1; omega, w1, w2, w3, w4, w5, w6⟩
end Go.Proofs.Ytpcbgdgfdfpapaa
