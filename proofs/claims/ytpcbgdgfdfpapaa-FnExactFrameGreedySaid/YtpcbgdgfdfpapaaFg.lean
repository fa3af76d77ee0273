/- The reference: the best frame, walked. -/
import Derived.Test.YtpcbgdgfdfpapaaFf
set_option linter.unusedSimpArgs false
set_option linter.unusedVariables false
namespace Go.Proofs.Ytpcbgdgfdfpapaa
open Go Go.Abs Go.RowKit Go.Frames
variable {w0 : World}

noncomputable def bestB (T : List (List Int)) : List (List Int) := if TV T then bestF T (most T T.length).toNat else []
theorem Apart.get {σ0 σ : AHeap} {F : Nat → Prop} {g len : Nat} {O : List (List Int)} (h : Apart σ0 σ F (.slice (some ⟨g, 0, none⟩) len 1) O) : ∃ q, OwnT σ0 σ g q O ∧ O.length = len := by
  rcases h with ⟨e, -⟩ | ⟨go, qo, e, ho, -⟩
  · cases e
  · injection e with e1 e2; cases e1; exact ⟨qo, ho, e2.symm⟩
/-- the handles of both tables, and the row of the permutation -/
def F2 (gL : Nat) (qL : Nat → Nat) (gE : Nat) (qE : Nat → Nat) (n : Nat) (k : Nat) : Prop := FL gL qL n k ∨ FL gE qE n k
set_option maxHeartbeats 1000000 in
theorem specBest_at (σ : AHeap) (h o : Nat) (T : List (List Int)) (hv : RowsAt σ h o T) (hl : T.length ≤ 1048576) :
    ACall Try.prog w0 41 [.slice (some ⟨h, o, none⟩) T.length 1] σ fun r σ' => Sub σ σ' ∧ ∃ g q, r = .slice (some ⟨g, 0, none⟩) (bestB T).length 1 ∧ OwnT σ σ' g q (bestB T) := by
  unfold bestB
  refine acall_go mixed Try.func41 rfl good41 fun pr => ?_
  simp -implicitDefEqProofs (disch := omega) only [List.any_cons, List.any_nil, Nat.reduceEqDiff, List.map_cons, List.map_nil, Option.map_some, Option.map_none, List.nil_append, ↓reduceIte, vcu, ↓vcd]
  refine r_lit el23 (out := #[]) (by kernel_rfl) (by kernel_rfl) fun e1 σ1 n1 s1 v1 => ?_
  simp -implicitDefEqProofs (disch := omega) only [List.any_cons, List.any_nil, Nat.reduceEqDiff, List.map_cons, List.map_nil, Option.map_some, Option.map_none, List.nil_append, ↓reduceIte, vcu, ↓vcd]
  refine (specFill_at σ1 h o T (hv.sub s1) hl).mono ?_
  rintro r σ2 ⟨s2, gE, qE, rfl, hE⟩
  simp -implicitDefEqProofs (disch := omega) only [List.any_cons, List.any_nil, Nat.reduceEqDiff, List.map_cons, List.map_nil, Option.map_some, Option.map_none, List.nil_append, ↓reduceIte, vcu, ↓vcd, opK_some]
  refine (specLeft0_at σ2 h o T ((hv.sub s1).sub s2) hl).mono ?_
  rintro r σ3 ⟨s3, gL, qL, rfl, hL⟩
  simp -implicitDefEqProofs (disch := omega) only [List.any_cons, List.any_nil, Nat.reduceEqDiff, List.map_cons, List.map_nil, Option.map_some, Option.map_none, List.nil_append, ↓reduceIte, vcu, ↓vcd, opK_some]
  have hs3 := (s1.trans s2).trans s3
  refine (specMost_at σ3 h o T (hv.sub hs3) hl).mono ?_
  rintro r _ ⟨rfl, rfl⟩
  rename_i σ3
  unfold mostV
  by_cases hT : TV T
  case neg =>
    rw [if_neg hT, if_neg hT]
    simp -implicitDefEqProofs (disch := omega) only [List.any_cons, List.any_nil, Nat.reduceEqDiff, List.map_cons, List.map_nil, Option.map_some, Option.map_none, List.nil_append, ↓reduceIte, vcu, ↓vcd, opK_some]
    refine vc_loop_c mixed (by kernel_rfl) [3] (fun m a σ' => a 6 = .int .i64 (-1) ∧ σ' = σ3) 0 ⟨rfl, rfl⟩ ?_
    rintro m a σ' hc ⟨h6, rfl⟩
    simp -implicitDefEqProofs (disch := omega) only [List.any_cons, List.any_nil, Nat.reduceEqDiff, List.map_cons, List.map_nil, Option.map_some, Option.map_none, List.nil_append, ↓reduceIte, vcu, ↓vcd] at hc
    obtain ⟨h3, -⟩ := hc
    simp -implicitDefEqProofs (disch := omega) only [List.any_cons, List.any_nil, Nat.reduceEqDiff, List.map_cons, List.map_nil, Option.map_some, Option.map_none, List.nil_append, ↓reduceIte, vcu, ↓vcd, h3, h6]
    refine fin_one Try.results41 ⟨hs3, e1, fun _ => 0, ?_, OwnT.nil _ (s3 _ _ (s2 _ _ v1)) n1⟩
    simp -implicitDefEqProofs (disch := omega) only [List.any_cons, List.any_nil, Nat.reduceEqDiff, List.map_cons, List.map_nil, Option.map_some, Option.map_none, List.nil_append, ↓reduceIte, vcu, ↓vcd, h3]
    rfl
  rw [if_pos hT, if_pos hT]
  have h6n := hT.1
  have hM := most_le hT _ (Nat.le_refl _)
  rw [leftB_tv hT] at hL ⊢
  unfold fillB at hE ⊢
  rw [if_pos hT] at hE ⊢
  have hfl : (fillV T).length = T.length := (tabN_sq T.length (fillO (rN T) (cN T))).1
  have hdis : ∀ k, FL gE qE T.length k → ¬ FL gL qL T.length k := hE.apart2 hfl hL rfl (Sub.refl _)
  have hFe : ¬ F2 gL qL gE qE T.length e1 := by
    rintro (hh | hh)
    · rcases hh with hh | ⟨i, hi, hh⟩
      · exact ne_of' hL.new (s2 _ _ v1) hh
      · exact ne_of' (hL.free i hi) (s2 _ _ v1) hh.symm
    · rcases hh with hh | ⟨i, hi, hh⟩
      · exact ne_of' hE.new v1 hh
      · exact ne_of' (hE.free i (by omega)) v1 hh.symm
  obtain ⟨K, hK⟩ : ∃ K : Nat, most T T.length = K := ⟨(most T T.length).toNat, by omega⟩
  rw [hK, Int.toNat_natCast, hfl]
  have hL0 : OwnT σ σ3 gL qL (bestS T 0).1 := (hL.base (s1.trans s2))
  have hE0 : OwnT σ σ3 gE qE (bestS T 0).2 := (hE.base s1).sub s3
  have hA0 : Apart σ σ3 (F2 gL qL gE qE T.length) (.slice (some ⟨e1, 0, none⟩) 0 1) (bestF T 0) := .inr ⟨e1, fun _ => 0, rfl, OwnT.nil _ (s3 _ _ (s2 _ _ v1)) n1, hFe, fun i hi => absurd hi (by simp [bestF])⟩
  clear hL hE v1 n1 hFe s1 s2 s3
  simp -implicitDefEqProofs (disch := omega) only [List.any_cons, List.any_nil, Nat.reduceEqDiff, List.map_cons, List.map_nil, Option.map_some, Option.map_none, List.nil_append, ↓reduceIte, vcu, ↓vcd, opK_some]
  refine vc_loop_c mixed (by kernel_rfl) [4, 5] (fun m a σ' => ∃ s g3 : Nat, m + s = K ∧ a 6 = .int .i64 ((K : Int) - s) ∧ a 3 = .slice (some ⟨g3, 0, none⟩) s 1 ∧ Sub σ σ' ∧ OwnT σ σ' gL qL (bestS T s).1 ∧ OwnT σ σ' gE qE (bestS T s).2 ∧ Apart σ σ' (F2 gL qL gE qE T.length) (.slice (some ⟨g3, 0, none⟩) s 1) (bestF T s)) K
    ⟨0, e1, by simp, by simp [fset], rfl, hs3, hL0, hE0, hA0⟩ ?_
  clear hL0 hE0 hA0 hs3
  rintro m a τ0 hc ⟨s, g3, hs, h6, h3, hs0, hL, hE, hA⟩
  simp -implicitDefEqProofs (disch := omega) only [List.any_cons, List.any_nil, Nat.reduceEqDiff, List.map_cons, List.map_nil, Option.map_some, Option.map_none, List.nil_append, ↓reduceIte, vcu, ↓vcd, hfl] at hc
  obtain ⟨h4, h5, -⟩ := hc
  obtain ⟨q3, hO3, hlF⟩ := hA.get
  by_cases hlt : s < K
  case neg =>
    have e : s = K := by omega
    subst e
    simp -implicitDefEqProofs (disch := omega) only [List.any_cons, List.any_nil, Nat.reduceEqDiff, List.map_cons, List.map_nil, Option.map_some, Option.map_none, List.nil_append, ↓reduceIte, vcu, ↓vcd, h3, h6]
    refine fin_one Try.results41 ⟨hs0, g3, q3, ?_, hO3⟩
    simp -implicitDefEqProofs (disch := omega) only [List.any_cons, List.any_nil, Nat.reduceEqDiff, List.map_cons, List.map_nil, Option.map_some, Option.map_none, List.nil_append, ↓reduceIte, vcu, ↓vcd, h3, hlF]
  have hB := best_bal hT s (by omega)
  have hn0 := most_pos (T := T) (by omega)
  obtain ⟨m1, -, r0, m3, m4, m5, m6⟩ := hB.mq (by omega) hn0
  obtain ⟨-, p2, p3⟩ := best_perm hT (s := s) (by omega)
  have hS1 : bestS T (s + 1) = (goL T.length (bestS T s).1 (bestP T s) T.length, goX T.length (bestS T s).1 (bestS T s).2 (bestP T s) T.length) := rfl
  have hF1 := bestF_succ T s
  have hPe : bestP T s = mq (bothT T.length (bestS T s).1 (bestS T s).2) := rfl
  rw [← hPe] at m1 m4
  generalize bestP T s = p at p2 p3 hS1 hF1 hPe m1 m4
  generalize (bestS T s).1 = L at *
  generalize (bestS T s).2 = X at *
  generalize bestF T s = O at *
  generalize hn : T.length = n at *
  have hLl := hB.l.1
  have hXl := hB.x.1
  have hsum : ∀ a b, a < n → b < n → 0 ≤ en L a b ∧ 0 ≤ en X a b ∧ en L a b + en X a b ≤ 36 := fun a b ha hb => by
    have z1 := hB.l0 a b ha hb
    have z2 := hB.x0 a b ha hb
    have z3 := sm_one_le (f := fun b => en L a b + en X a b) (n := n) (k := b) (fun k hk => by have := hB.l0 a k ha hk; have := hB.x0 a k ha hk; omega) hb
    have z4 := hB.row a ha
    omega
  simp -implicitDefEqProofs (disch := omega) only [List.any_cons, List.any_nil, Nat.reduceEqDiff, List.map_cons, List.map_nil, Option.map_some, Option.map_none, List.nil_append, ↓reduceIte, vcu, ↓vcd, h3, h4, h5, h6]
  refine r_lit el23 (out := #[]) (by kernel_rfl) (by kernel_rfl) fun e7 τ1 n7 s7 v7 => ?_
  simp -implicitDefEqProofs (disch := omega) only [List.any_cons, List.any_nil, Nat.reduceEqDiff, List.map_cons, List.map_nil, Option.map_some, Option.map_none, List.nil_append, ↓reduceIte, vcu, ↓vcd]
  -- both tables together
  refine vc_loop_c mixed (by kernel_rfl) [3, 4, 5, 6] (fun m a τ => ∃ (k gB : Nat) (qB : Nat → Nat), m + k = n ∧ a 7 = .slice (some ⟨gB, 0, none⟩) k 1 ∧ a 8 = .int .i64 k ∧ Sub τ0 τ ∧ OwnT τ0 τ gB qB ((bothT n L X).take k)) n ⟨0, e7, fun _ => 0, by simp, rfl, rfl, s7, by simpa using OwnT.nil _ v7 n7⟩ ?_
  clear s7 v7 n7
  rintro m2 a2 τ2 hc2 ⟨k, gB, qB, hk, h7, h8, hs2, hOB⟩
  simp -implicitDefEqProofs (disch := omega) only [List.any_cons, List.any_nil, Nat.reduceEqDiff, List.map_cons, List.map_nil, Option.map_some, Option.map_none, List.nil_append, ↓reduceIte, vcu, ↓vcd, h3, h4, h5, h6] at hc2
  obtain ⟨c3, c4, c5, c6, -⟩ := hc2
  have hbl : (bothT n L X).length = n := (tabN_sq n _).1
  have hkl : ((bothT n L X).take k).length = k := by simp [hbl]; omega
  by_cases hkn : k < n
  · simp -implicitDefEqProofs (disch := omega) only [List.any_cons, List.any_nil, Nat.reduceEqDiff, List.map_cons, List.map_nil, Option.map_some, Option.map_none, List.nil_append, ↓reduceIte, vcu, ↓vcd, c3, c4, c5, c6, h7, h8]
    refine r_lit el30 (out := #[]) (by kernel_rfl) (by kernel_rfl) fun e9 τ3 n9 s9 v9 => ?_
    simp -implicitDefEqProofs (disch := omega) only [List.any_cons, List.any_nil, Nat.reduceEqDiff, List.map_cons, List.map_nil, Option.map_some, Option.map_none, List.nil_append, ↓reduceIte, vcu, ↓vcd]
    have hrow : (bothT n L X).getD k [] = (List.range n).map fun b => en L k b + en X k b := by simp [bothT, tabN, List.getD, hkn]
    have htk : (bothT n L X).take (k + 1) = (bothT n L X).take k ++ [(bothT n L X).getD k []] := by
      rw [List.take_succ_eq_append_getElem (by omega)]; simp [List.getD, hbl, hkn]
    rw [hrow] at htk
    refine vc_loop_c mixed (by kernel_rfl) [3, 4, 5, 6, 7, 8] (fun m a τ => ∃ j z : Nat, m + j = n ∧ a 9 = .slice (some ⟨z, 0, none⟩) j 1 ∧ a 10 = .int .i64 j ∧ Sub τ2 τ ∧ τ2 z = none ∧ τ z = some ⟨ints .i64 ((List.range j).map fun b => en L k b + en X k b), false⟩) n ⟨0, e9, by simp, rfl, rfl, s9, n9, v9⟩ ?_
    clear s9 v9 n9
    rintro m3 a3 τ3 hc3 ⟨j, z, hj, h9, h10, hs3, nz, vz⟩
    simp -implicitDefEqProofs (disch := omega) only [List.any_cons, List.any_nil, Nat.reduceEqDiff, List.map_cons, List.map_nil, Option.map_some, Option.map_none, List.nil_append, ↓reduceIte, vcu, ↓vcd, c3, c4, c5, c6, h7, h8] at hc3
    obtain ⟨d3, d4, d5, d6, d7, d8, -⟩ := hc3
    by_cases hjn : j < n
    · have hL3 := hL.sub hs2
      have hE3 := hE.sub hs2
      have gl := hL3.get (i := k) (by omega)
      have ge := hE3.get (i := k) (by omega)
      rw [hB.l.2 k hkn] at gl
      rw [hB.x.2 k hkn] at ge
      have ll : ld τ2 (qL k) (0 + j) = some (.int .i64 (en L k j)) := by rw [own_at (hL3.row k (by omega)) (by rw [hB.l.2 k hkn]; exact hjn)]; rfl
      have le : ld τ2 (qE k) (0 + j) = some (.int .i64 (en X k j)) := by rw [own_at (hE3.row k (by omega)) (by rw [hB.x.2 k hkn]; exact hjn)]; rfl
      have hb := hsum k j hkn hjn
      have hstep : ((List.range (j + 1)).map fun b => en L k b + en X k b) = ((List.range j).map fun b => en L k b + en X k b) ++ [en L k j + en X k j] := by simp [List.range_succ]
      have hlen : ((List.range j).map fun b => en L k b + en X k b).length = j := by simp
      clear hL3 hE3
      simp -implicitDefEqProofs (disch := omega) only [List.any_cons, List.any_nil, Nat.reduceEqDiff, List.map_cons, List.map_nil, Option.map_some, Option.map_none, List.nil_append, ↓reduceIte, vcu, ↓vcd, d3, d4, d5, d6, d7, d8, h9, h10]
      refine region_tree mixed (quiets [0, 1, 2, 3, 4, 5, 6, 7, 8, 9, 10, 11, 12, 13, 14, 15] (.one 16 (.one 17 (quiets [18] .stop)))) [([0, 1, 2, 3, 4, 5, 6, 7, 8, 9, 10, 11, 12, 13, 14, 15], Sub τ2)] (by kernel_rfl) (by kernel_rfl) (fun p hp => by simp only [List.mem_singleton] at hp; subst hp; exact hs3) ?_
      refine tree_quiets τ2 _ _ _ sf1 (by kernel_rfl) (by kernel_rfl) ?_
      simp -implicitDefEqProofs (disch := omega) only [List.any_cons, List.any_nil, Nat.reduceEqDiff, List.map_cons, List.map_nil, Option.map_some, Option.map_none, List.nil_append, ↓reduceIte, vcu, ↓vcd, pickOps_nil, pickOps_cons, pickO_some, List.getElem?_cons_succ, List.getElem?_cons_zero, d4, d5, d8, h9, h10, gl, ge, ll, le]
      refine tree_one rfl ?_
      refine r_lit el30 (out := #[.int .i64 (en L k j + en X k j)]) (by simp -implicitDefEqProofs (disch := omega) only [List.any_cons, List.any_nil, Nat.reduceEqDiff, List.map_cons, List.map_nil, Option.map_some, Option.map_none, List.nil_append, ↓reduceIte, vcu, ↓vcd]; kernel_rfl) (by kernel_rfl) fun e5 τ5 n5 s5 v5 => ?_
      simp -implicitDefEqProofs (disch := omega) only [List.any_cons, List.any_nil, Nat.reduceEqDiff, List.map_cons, List.map_nil, Option.map_some, Option.map_none, List.nil_append, ↓reduceIte, vcu, ↓vcd]
      refine ⟨keep_of rfl (fun p hp => by simp only [List.mem_singleton] at hp; subst hp; exact .inr (hs3.trans s5)), tree_one rfl ?_⟩
      refine r_pushI (g := z) (e := e5) (o := 0) (k := .i64) (xs := (List.range j).map fun b => en L k b + en X k b) (ys := [en L k j + en X k j]) (m := 1) (len := j) el30 (by omega) sl30 (by simp -implicitDefEqProofs (disch := omega) only [List.any_cons, List.any_nil, Nat.reduceEqDiff, List.map_cons, List.map_nil, Option.map_some, Option.map_none, List.nil_append, ↓reduceIte, vcu, ↓vcd, h9]) (s5 _ _ vz) hlen (by simp -implicitDefEqProofs (disch := omega) only [List.any_cons, List.any_nil, Nat.reduceEqDiff, List.map_cons, List.map_nil, Option.map_some, Option.map_none, List.nil_append, ↓reduceIte, vcu, ↓vcd]) (intsAt_own v5) rfl (by omega) fun z' τ6 n6 k6 v6 => ?_
      simp -implicitDefEqProofs (disch := omega) only [List.any_cons, List.any_nil, Nat.reduceEqDiff, List.map_cons, List.map_nil, Option.map_some, Option.map_none, List.nil_append, ↓reduceIte, vcu, ↓vcd]
      refine ⟨keep_of rfl (fun p hp => by simp only [List.mem_singleton] at hp; subst hp; exact .inr (k6.sub (hs3.trans s5) nz)), ?_⟩
      refine tree_quiets (fun _ => none) _ _ _ (fun _ _ _ _ => fun x ob e => by cases e) (by kernel_rfl) (by kernel_rfl) ?_
      simp -implicitDefEqProofs (disch := omega) only [List.any_cons, List.any_nil, Nat.reduceEqDiff, List.map_cons, List.map_nil, Option.map_some, Option.map_none, List.nil_append, ↓reduceIte, vcu, ↓vcd, pickOps_nil, pickOps_cons, pickO_some, List.getElem?_cons_succ, List.getElem?_cons_zero]
      refine tree_stop ?_
      simp -implicitDefEqProofs (disch := omega) only [List.any_cons, List.any_nil, Nat.reduceEqDiff, List.map_cons, List.map_nil, Option.map_some, Option.map_none, List.nil_append, ↓reduceIte, vcu, ↓vcd, h10]
      refine ⟨by simp [d3, d4, d5, d6, d7, d8, c3, c4, c5, c6, h3, h4, h5, h6, h7, h8], m3 - 1, by omega, j + 1, z', by omega, by simp, by simp, k6.sub (hs3.trans s5) nz, free_sub (hs3.trans s5) n6, by rw [hstep]; exact v6⟩
    · have e : j = n := by omega
      subst e
      simp -implicitDefEqProofs (disch := omega) only [List.any_cons, List.any_nil, Nat.reduceEqDiff, List.map_cons, List.map_nil, Option.map_some, Option.map_none, List.nil_append, ↓reduceIte, vcu, ↓vcd, d3, d4, d5, d6, d7, d8, h9, h10]
      refine r_lit el23 (out := #[.slice (some ⟨z, 0, none⟩) j 1]) (by simp -implicitDefEqProofs (disch := omega) only [List.any_cons, List.any_nil, Nat.reduceEqDiff, List.map_cons, List.map_nil, Option.map_some, Option.map_none, List.nil_append, ↓reduceIte, vcu, ↓vcd]; kernel_rfl) (by kernel_rfl) fun e5 τ5 n5 s5 v5 => ?_
      refine r_pushT (β := τ0) (len := k) (g := gB) (e := e5) (r := z) (q := qB) (rows := (bothT j L X).take k) (row := (List.range j).map fun b => en L k b + en X k b) el23 (by omega) sl23 (by simp -implicitDefEqProofs (disch := omega) only [List.any_cons, List.any_nil, Nat.reduceEqDiff, List.map_cons, List.map_nil, Option.map_some, Option.map_none, List.nil_append, ↓reduceIte, vcu, ↓vcd, d7]) hkl ((hOB.sub hs3).sub s5) (by simp -implicitDefEqProofs (disch := omega) only [List.any_cons, List.any_nil, Nat.reduceEqDiff, List.map_cons, List.map_nil, Option.map_some, Option.map_none, List.nil_append, ↓reduceIte, vcu, ↓vcd]) (by rw [v5]; simp [rowV]) (s5 _ _ vz) (free_sub hs2 nz) (ne_of nz hOB.at_) (fun i hi => ne_of' nz (hOB.row i hi)) ((hs2.trans hs3).trans s5) (by omega) fun g' q' τ6 s6 hO6 k6 n6 => ?_
      simp -implicitDefEqProofs (disch := omega) only [List.any_cons, List.any_nil, Nat.reduceEqDiff, List.map_cons, List.map_nil, Option.map_some, Option.map_none, List.nil_append, ↓reduceIte, vcu, ↓vcd, d8]
      refine ⟨by simp [d3, d4, d5, d6, c3, c4, c5, c6, h3, h4, h5, h6], m2 - 1, by omega, k + 1, g', q', by omega, by simp, by simp, s6, by rw [htk]; exact hO6⟩
  have e : k = n := by omega
  subst e
  rw [List.take_of_length_le (by omega)] at hOB
  simp -implicitDefEqProofs (disch := omega) only [List.any_cons, List.any_nil, Nat.reduceEqDiff, List.map_cons, List.map_nil, Option.map_some, Option.map_none, List.nil_append, ↓reduceIte, vcu, ↓vcd, c3, c4, c5, c6, h7, h8]
  refine (match5_at τ2 gB 0 (bothT k L X) k r0 hOB.rows (tabN_sq _ _) hn0 h6n (fun a b ha hb => by rw [bothT, en_tabN _ ha hb]; have := hsum a b ha hb; omega) m3 m5 m6).mono ?_
  rintro r τ3 ⟨zp, rfl, s3, np, vp⟩
  rw [← m4] at vp
  have hs3 : Sub τ0 τ3 := hs2.trans s3
  have hpF : ¬ F2 gL qL gE qE k zp := by
    have hz := free_sub hs2 np
    rintro (hh | hh)
    · obtain ⟨ob, e⟩ := hL.hasF hLl _ hh
      rw [hz] at e; cases e
    · obtain ⟨ob, e⟩ := hE.hasF hXl _ hh
      rw [hz] at e; cases e
  have hA3 : Apart σ τ3 (fun x => F2 gL qL gE qE k x ∨ x = zp) (.slice (some ⟨g3, 0, none⟩) s 1) O := (hA.add (free_sub hs2 np)).sub hs3
  have hL3 : OwnT σ τ3 gL qL (goL k L p 0) := by rw [goL_zero hB.l]; exact hL.sub hs3
  have hE3 : OwnT σ τ3 gE qE (goX k L X p 0) := by rw [goX_zero hB.x]; exact hE.sub hs3
  have hsF : Sub σ τ3 := hs0.trans hs3
  have nzp : σ zp = none := free_sub (hs0.trans hs2) np
  clear hOB hs3 s3 np hs2 hL hE hA hO3 h7 h8 m5 m6
  simp -implicitDefEqProofs (disch := omega) only [List.any_cons, List.any_nil, Nat.reduceEqDiff, List.map_cons, List.map_nil, Option.map_some, Option.map_none, List.nil_append, ↓reduceIte, vcu, ↓vcd, opK_some]
  refine r_lit el30 (out := #[]) (by kernel_rfl) (by kernel_rfl) fun e9 τ4 n9 s9 v9 => ?_
  have hne0 : zp ≠ e9 := ne_of' n9 vp
  have hnF0 : ¬ F2 gL qL gE qE k e9 := by
    rintro (hh | hh)
    · obtain ⟨ob, e⟩ := hL3.hasF (tabN_sq _ _).1 _ hh
      rw [n9] at e; cases e
    · obtain ⟨ob, e⟩ := hE3.hasF (tabN_sq _ _).1 _ hh
      rw [n9] at e; cases e
  simp -implicitDefEqProofs (disch := omega) only [List.any_cons, List.any_nil, Nat.reduceEqDiff, List.map_cons, List.map_nil, Option.map_some, Option.map_none, List.nil_append, ↓reduceIte, vcu, ↓vcd]
  refine vc_loop_c mixed (by kernel_rfl) [3, 4, 5, 6, 11] (fun m a τ => ∃ j z : Nat, m + j = k ∧ a 12 = .slice (some ⟨z, 0, none⟩) j 1 ∧ a 13 = .int .i64 j ∧ Sub σ τ ∧ OwnT σ τ gL qL (goL k L p j) ∧ OwnT σ τ gE qE (goX k L X p j) ∧
      Apart σ τ (fun x => (F2 gL qL gE qE k x ∨ x = zp) ∨ x = z) (.slice (some ⟨g3, 0, none⟩) s 1) O ∧ τ zp = some ⟨ints .i64 p, false⟩ ∧ τ z = some ⟨ints .i64 (slB L p j), false⟩ ∧ σ z = none ∧ zp ≠ z ∧ ¬ F2 gL qL gE qE k z) k
    ⟨0, e9, by simp, rfl, rfl, hsF.trans s9, hL3.sub s9, hE3.sub s9, (hA3.add n9).sub s9, s9 _ _ vp, v9, free_sub hsF n9, hne0, hnF0⟩ ?_
  clear hL3 hE3 hA3 vp v9 n9 hsF s9 hne0 hnF0
  rintro m5 a5 τ5 hc5 ⟨j, z, hj, h12, h13, hs5, hL, hE, hA, vp, vz, nz, hpz, hzF⟩
  simp -implicitDefEqProofs (disch := omega) only [List.any_cons, List.any_nil, Nat.reduceEqDiff, List.map_cons, List.map_nil, Option.map_some, Option.map_none, List.nil_append, ↓reduceIte, vcu, ↓vcd, c3, c4, c5, c6] at hc5
  obtain ⟨d3, d4, d5, d6, d11, -⟩ := hc5
  have hLj : Sq k (goL k L p j) := tabN_sq _ _
  have hEj : Sq k (goX k L X p j) := tabN_sq _ _
  by_cases hjk : j < k
  · have hp := p2 j hjk
    have lp := own_at vp (i := j) (by omega)
    have gl := hL.get (i := j) (by rw [hLj.1]; exact hjk)
    have ge := hE.get (i := j) (by rw [hEj.1]; exact hjk)
    have rl := hL.row j (by rw [hLj.1]; exact hjk)
    have re := hE.row j (by rw [hEj.1]; exact hjk)
    have ll := hLj.2 j hjk
    have le := hEj.2 j hjk
    rw [ll] at gl
    rw [le] at ge
    have hsl := slB_succ L p j
    have hbL := hsum j (p.getD j 0).toNat hjk (by omega)
    have hLin : FL gL qL k (qL j) := .inr ⟨j, hjk, rfl⟩
    have hEin : FL gE qE k (qE j) := .inr ⟨j, hjk, rfl⟩
    have hzl : z ≠ qL j := fun e => hzF (e ▸ .inl hLin)
    have hze : z ≠ qE j := fun e => hzF (e ▸ .inr hEin)
    have hpl : zp ≠ qL j := fun e => hpF (e ▸ .inl hLin)
    have hpe : zp ≠ qE j := fun e => hpF (e ▸ .inr hEin)
    have eL : en (goL k L p j) j (p.getD j 0).toNat = en L j (p.getD j 0).toNat := by rw [goL, en_tabN _ hjk (by omega), if_neg (by omega)]; omega
    have llv : ld τ5 (qL j) (0 + (p.getD j 0).toNat) = some (.int .i64 (en L j (p.getD j 0).toNat)) := by rw [own_at rl (by rw [ll]; omega), ← eL]; rfl
    -- what comes behind the store: the number is put behind the slot
    have fin : ∀ (y : Int) (τ6 : AHeap) (L2 X2 : List (List Int)), slB L p (j + 1) = slB L p j ++ [y] → Sub σ τ6 → OwnT σ τ6 gL qL L2 → L2.length = k → OwnT σ τ6 gE qE X2 → X2.length = k →
        Apart σ τ6 (fun x => (F2 gL qL gE qE k x ∨ x = zp) ∨ x = z) (.slice (some ⟨g3, 0, none⟩) s 1) O → τ6 zp = some ⟨ints .i64 p, false⟩ → τ6 z = some ⟨ints .i64 (slB L p j), false⟩ →
        ∀ (z' : Nat) (τ7 τ8 : AHeap), Sub τ6 τ7 → τ7 z' = none → Kept z τ7 τ8 → τ8 z' = some ⟨ints .i64 (slB L p j ++ [y]), false⟩ →
        Sub σ τ8 ∧ OwnT σ τ8 gL qL L2 ∧ OwnT σ τ8 gE qE X2 ∧ Apart σ τ8 (fun x => (F2 gL qL gE qE k x ∨ x = zp) ∨ x = z') (.slice (some ⟨g3, 0, none⟩) s 1) O ∧ τ8 zp = some ⟨ints .i64 p, false⟩ ∧ τ8 z' = some ⟨ints .i64 (slB L p (j + 1)), false⟩ ∧ σ z' = none ∧ zp ≠ z' ∧ ¬ F2 gL qL gE qE k z' := by
      intro y τ6 L2 X2 e1 hs hL2 hl2 hX2 hx2 hA6 vp6 vz6 z' τ7 τ8 s7 n7 k8 v8
      refine ⟨k8.sub (hs.trans s7) nz, (hL2.sub s7).kF hl2 k8 fun hh => hzF (.inl hh), (hX2.sub s7).kF hx2 k8 fun hh => hzF (.inr hh), ?_, k8.at (s7 _ _ vp6) hpz, by rw [e1]; exact v8, free_sub (hs.trans s7) n7, ne_of' n7 (s7 _ _ vp6), ?_⟩
      · refine (((hA6.sub s7).add n7).keptx k8 (.inl (.inr rfl))).weak ?_
        rintro x (hh | hh)
        · exact .inl (.inl hh)
        · exact .inr hh
      · rintro (hh | hh)
        · obtain ⟨ob, e⟩ := (hL2.sub s7).hasF hl2 _ hh
          rw [n7] at e; cases e
        · obtain ⟨ob, e⟩ := (hX2.sub s7).hasF hx2 _ hh
          rw [n7] at e; cases e
    by_cases hpos : 0 < en L j (p.getD j 0).toNat
    · obtain ⟨y1, -⟩ := goL_yes hjk hp hpos
      have y2 := goX_yes (X := X) (n := k) hpos
      rw [if_pos hpos] at hsl
      unfold less1 at y1
      rw [eL] at y1
      simp -implicitDefEqProofs (disch := omega) only [List.any_cons, List.any_nil, Nat.reduceEqDiff, List.map_cons, List.map_nil, Option.map_some, Option.map_none, List.nil_append, ↓reduceIte, vcu, ↓vcd, d3, d4, d5, d6, d11, h12, h13, gl, lp, llv]
      refine region_tree mixed (quiets [0, 1, 2, 3, 4, 5, 6, 7, 8, 9, 10, 11, 12, 13, 14, 15, 16, 17, 18, 19] (.one 20 .stop)) [([0, 1, 2, 3, 4, 5, 6, 7, 8, 9, 10, 11, 12, 13, 14, 15, 16, 17, 18, 19], Sub τ5)] (by kernel_rfl) (by kernel_rfl) (fun p hp => by simp only [List.mem_singleton] at hp; subst hp; exact Sub.refl _) ?_
      refine tree_quiets τ5 _ _ _ sf1 (by kernel_rfl) (by kernel_rfl) ?_
      simp -implicitDefEqProofs (disch := omega) only [List.any_cons, List.any_nil, Nat.reduceEqDiff, List.map_cons, List.map_nil, Option.map_some, Option.map_none, List.nil_append, ↓reduceIte, vcu, ↓vcd, pickOps_nil, pickOps_cons, pickO_some, List.getElem?_cons_succ, List.getElem?_cons_zero, d3, d4, d5, d6, d11, h12, h13, gl, lp, llv]
      refine tree_one rfl ?_
      refine r_setI (g := qL j) (i := 0 + (p.getD j 0).toNat) (v := en L j (p.getD j 0).toNat - 1) (by simp -implicitDefEqProofs (disch := omega) only [List.any_cons, List.any_nil, Nat.reduceEqDiff, List.map_cons, List.map_nil, Option.map_some, Option.map_none, List.nil_append, ↓reduceIte, vcu, ↓vcd]) (by simp -implicitDefEqProofs (disch := omega) only [List.any_cons, List.any_nil, Nat.reduceEqDiff, List.map_cons, List.map_nil, Option.map_some, Option.map_none, List.nil_append, ↓reduceIte, vcu, ↓vcd]) co3 rl (by omega) fun τ6 k6 e6 => ?_
      rw [Nat.zero_add] at e6
      have q1 := hL.write (by rw [hLj.1]; exact hjk) (by simp) k6 e6
      rw [← y1] at q1
      have q2 := hE.kF hEj.1 k6 fun hh => hdis _ hh hLin
      have q3 := hA.keptx k6 (.inl (.inl (.inl hLin)))
      have q4 := k6.at vp hpl
      have q5 := k6.at vz hzl
      have q6 : Sub σ τ6 := k6.sub hs5 (hL.free j (by rw [hLj.1]; exact hjk))
      rw [← y2] at q2
      clear k6 e6 hL hE hA gl ge rl re llv lp
      have lp := own_at q4 (i := j) (by omega)
      simp -implicitDefEqProofs (disch := omega) only [List.any_cons, List.any_nil, Nat.reduceEqDiff, List.map_cons, List.map_nil, Option.map_some, Option.map_none, List.nil_append, ↓reduceIte, vcu, ↓vcd]
      refine ⟨keep_of rfl (fun p hp => by simp only [List.mem_singleton] at hp; subst hp; exact .inl (by kernel_rfl)), tree_stop ?_⟩
      simp -implicitDefEqProofs (disch := omega) only [List.any_cons, List.any_nil, Nat.reduceEqDiff, List.map_cons, List.map_nil, Option.map_some, Option.map_none, List.nil_append, ↓reduceIte, vcu, ↓vcd, d11, h12, h13, lp]
      refine r_lit el30 (out := #[.int .i64 (p.getD j 0)]) (by simp -implicitDefEqProofs (disch := omega) only [List.any_cons, List.any_nil, Nat.reduceEqDiff, List.map_cons, List.map_nil, Option.map_some, Option.map_none, List.nil_append, ↓reduceIte, vcu, ↓vcd]; kernel_rfl) (by kernel_rfl) fun e7 τ7 n7 s7 v7 => ?_
      refine r_pushI (g := z) (e := e7) (o := 0) (k := .i64) (xs := slB L p j) (ys := [p.getD j 0]) (m := 1) (len := j) el30 (by omega) sl30 (by simp -implicitDefEqProofs (disch := omega) only [List.any_cons, List.any_nil, Nat.reduceEqDiff, List.map_cons, List.map_nil, Option.map_some, Option.map_none, List.nil_append, ↓reduceIte, vcu, ↓vcd, h12]) (s7 _ _ q5) (slB_length _ _ _) (by simp -implicitDefEqProofs (disch := omega) only [List.any_cons, List.any_nil, Nat.reduceEqDiff, List.map_cons, List.map_nil, Option.map_some, Option.map_none, List.nil_append, ↓reduceIte, vcu, ↓vcd]) (intsAt_own v7) rfl (by omega) fun z' τ8 n8 k8 v8 => ?_
      obtain ⟨w1, w2, w3, w4, w5, w6, w7, w8, w9⟩ := fin (p.getD j 0) τ6 _ _ hsl q6 q1 (tabN_sq _ _).1 q2 (tabN_sq _ _).1 q3 q4 q5 z' τ7 τ8 s7 n8 k8 v8
      simp -implicitDefEqProofs (disch := omega) only [List.any_cons, List.any_nil, Nat.reduceEqDiff, List.map_cons, List.map_nil, Option.map_some, Option.map_none, List.nil_append, ↓reduceIte, vcu, ↓vcd, h13]
      exact ⟨by simp [d3, d4, d5, d6, d11, c3, c4, c5, c6, h3, h4, h5, h6], m5 - 1, by omega, j + 1, z', by omega, by simp, by simp, w1, w2, w3, w4, w5, w6, w7, w8, w9⟩
    · obtain ⟨y1, eX⟩ := goX_no (X := X) hjk hp hpos
      have y2 := goL_no (n := k) hpos
      rw [if_neg hpos] at hsl
      unfold less1 at y1
      rw [eX] at y1
      have lle : ld τ5 (qE j) (0 + (p.getD j 0).toNat) = some (.int .i64 (en X j (p.getD j 0).toNat)) := by rw [own_at re (by rw [le]; omega), ← eX]; rfl
      simp -implicitDefEqProofs (disch := omega) only [List.any_cons, List.any_nil, Nat.reduceEqDiff, List.map_cons, List.map_nil, Option.map_some, Option.map_none, List.nil_append, ↓reduceIte, vcu, ↓vcd, d3, d4, d5, d6, d11, h12, h13, gl, lp, llv]
      refine region_tree mixed (quiets [0, 1, 2, 3, 4, 5, 6, 7, 8, 9, 10, 11, 12, 13, 14, 15, 16, 17, 18, 19] (.one 20 .stop)) [([0, 1, 2, 3, 4, 5, 6, 7, 8, 9, 10, 11, 12, 13, 14, 15, 16, 17, 18, 19], Sub τ5)] (by kernel_rfl) (by kernel_rfl) (fun p hp => by simp only [List.mem_singleton] at hp; subst hp; exact Sub.refl _) ?_
      refine tree_quiets τ5 _ _ _ sf1 (by kernel_rfl) (by kernel_rfl) ?_
      simp -implicitDefEqProofs (disch := omega) only [List.any_cons, List.any_nil, Nat.reduceEqDiff, List.map_cons, List.map_nil, Option.map_some, Option.map_none, List.nil_append, ↓reduceIte, vcu, ↓vcd, pickOps_nil, pickOps_cons, pickO_some, List.getElem?_cons_succ, List.getElem?_cons_zero, d3, d4, d5, d6, d11, h12, h13, ge, lp, lle]
      refine tree_one rfl ?_
      refine r_setI (g := qE j) (i := 0 + (p.getD j 0).toNat) (v := en X j (p.getD j 0).toNat - 1) (by simp -implicitDefEqProofs (disch := omega) only [List.any_cons, List.any_nil, Nat.reduceEqDiff, List.map_cons, List.map_nil, Option.map_some, Option.map_none, List.nil_append, ↓reduceIte, vcu, ↓vcd]) (by simp -implicitDefEqProofs (disch := omega) only [List.any_cons, List.any_nil, Nat.reduceEqDiff, List.map_cons, List.map_nil, Option.map_some, Option.map_none, List.nil_append, ↓reduceIte, vcu, ↓vcd]) co3 re (by omega) fun τ6 k6 e6 => ?_
      rw [Nat.zero_add] at e6
      have q1 := hE.write (by rw [hEj.1]; exact hjk) (by simp) k6 e6
      rw [← y1] at q1
      have q2 := hL.kF hLj.1 k6 fun hh => hdis _ hEin hh
      have q3 := hA.keptx k6 (.inl (.inl (.inr hEin)))
      have q4 := k6.at vp hpe
      have q5 := k6.at vz hze
      have q6 : Sub σ τ6 := k6.sub hs5 (hE.free j (by rw [hEj.1]; exact hjk))
      rw [← y2] at q2
      clear k6 e6 hL hE hA gl ge rl re llv lle lp
      simp -implicitDefEqProofs (disch := omega) only [List.any_cons, List.any_nil, Nat.reduceEqDiff, List.map_cons, List.map_nil, Option.map_some, Option.map_none, List.nil_append, ↓reduceIte, vcu, ↓vcd]
      refine ⟨keep_of rfl (fun p hp => by simp only [List.mem_singleton] at hp; subst hp; exact .inl (by kernel_rfl)), tree_stop ?_⟩
      simp -implicitDefEqProofs (disch := omega) only [List.any_cons, List.any_nil, Nat.reduceEqDiff, List.map_cons, List.map_nil, Option.map_some, Option.map_none, List.nil_append, ↓reduceIte, vcu, ↓vcd, h12]
      refine r_lit el30 (out := #[.int .i64 (-1)]) (by simp -implicitDefEqProofs (disch := omega) only [List.any_cons, List.any_nil, Nat.reduceEqDiff, List.map_cons, List.map_nil, Option.map_some, Option.map_none, List.nil_append, ↓reduceIte, vcu, ↓vcd]; kernel_rfl) (by kernel_rfl) fun e7 τ7 n7 s7 v7 => ?_
      refine r_pushI (g := z) (e := e7) (o := 0) (k := .i64) (xs := slB L p j) (ys := [-1]) (m := 1) (len := j) el30 (by omega) sl30 (by simp -implicitDefEqProofs (disch := omega) only [List.any_cons, List.any_nil, Nat.reduceEqDiff, List.map_cons, List.map_nil, Option.map_some, Option.map_none, List.nil_append, ↓reduceIte, vcu, ↓vcd, h12]) (s7 _ _ q5) (slB_length _ _ _) (by simp -implicitDefEqProofs (disch := omega) only [List.any_cons, List.any_nil, Nat.reduceEqDiff, List.map_cons, List.map_nil, Option.map_some, Option.map_none, List.nil_append, ↓reduceIte, vcu, ↓vcd]) (intsAt_own v7) rfl (by omega) fun z' τ8 n8 k8 v8 => ?_
      obtain ⟨w1, w2, w3, w4, w5, w6, w7, w8, w9⟩ := fin (-1) τ6 _ _ hsl q6 q2 (tabN_sq _ _).1 q1 (tabN_sq _ _).1 q3 q4 q5 z' τ7 τ8 s7 n8 k8 v8
      simp -implicitDefEqProofs (disch := omega) only [List.any_cons, List.any_nil, Nat.reduceEqDiff, List.map_cons, List.map_nil, Option.map_some, Option.map_none, List.nil_append, ↓reduceIte, vcu, ↓vcd, h13]
      exact ⟨by simp [d3, d4, d5, d6, d11, c3, c4, c5, c6, h3, h4, h5, h6], m5 - 1, by omega, j + 1, z', by omega, by simp, by simp, w1, w2, w3, w4, w5, w6, w7, w8, w9⟩
  · have e : j = k := by omega
    subst e
    have hAz : Apart σ τ5 (fun x => F2 gL qL gE qE j x ∨ x = z) (.slice (some ⟨g3, 0, none⟩) s 1) O := hA.weak (by rintro x (hh | hh); exact .inl (.inl hh); exact .inr hh)
    have hFo : ∀ x, F2 gL qL gE qE j x → ∃ ob, τ5 x = some ob := fun x hh => hh.elim (hL.hasF hLj.1 x) (hE.hasF hEj.1 x)
    simp -implicitDefEqProofs (disch := omega) only [List.any_cons, List.any_nil, Nat.reduceEqDiff, List.map_cons, List.map_nil, Option.map_some, Option.map_none, List.nil_append, ↓reduceIte, vcu, ↓vcd, d3, d4, d5, d6, d11, h12, h13]
    refine r_lit el23 (out := #[.slice (some ⟨z, 0, none⟩) j 1]) (by simp -implicitDefEqProofs (disch := omega) only [List.any_cons, List.any_nil, Nat.reduceEqDiff, List.map_cons, List.map_nil, Option.map_some, Option.map_none, List.nil_append, ↓reduceIte, vcu, ↓vcd]; kernel_rfl) (by kernel_rfl) fun e7 τ7 n7 s7 v7 => ?_
    refine r_pushA (σ0 := σ) (e := e7) (r := z) (F := F2 gL qL gE qE j) (O := O) (row := slB L p j) el23 (by omega) sl23 (by simp -implicitDefEqProofs (disch := omega) only [List.any_cons, List.any_nil, Nat.reduceEqDiff, List.map_cons, List.map_nil, Option.map_some, Option.map_none, List.nil_append, ↓reduceIte, vcu, ↓vcd, d3]) (hAz.sub s7) (fun x hh => let ⟨ob, e⟩ := hFo x hh; ⟨ob, s7 _ _ e⟩) (by simp -implicitDefEqProofs (disch := omega) only [List.any_cons, List.any_nil, Nat.reduceEqDiff, List.map_cons, List.map_nil, Option.map_some, Option.map_none, List.nil_append, ↓reduceIte, vcu, ↓vcd]) (by rw [v7]; simp [rowV, slB_length]) (s7 _ _ vz) nz hzF (hs5.trans s7) (by omega) fun g' τ8 hA8 s8 k8 => ?_
    have hL8 := (hL.sub s7).keepF hLj.1 fun x ob hh e => k8 x ob (.inl hh) e
    have hE8 := (hE.sub s7).keepF hEj.1 fun x ob hh e => k8 x ob (.inr hh) e
    rw [hlF] at hA8
    simp -implicitDefEqProofs (disch := omega) only [List.any_cons, List.any_nil, Nat.reduceEqDiff, List.map_cons, List.map_nil, Option.map_some, Option.map_none, List.nil_append, ↓reduceIte, vcu, ↓vcd, d6, hlF]
    refine ⟨by simp [d4, d5, c4, c5, h4, h5, hXl], m - 1, by omega, s + 1, g', by omega, ?_, by simp, s8, by rw [hS1]; exact hL8, by rw [hS1]; exact hE8, by rw [hF1]; exact hA8⟩
    congr 1; omega
end Go.Proofs.Ytpcbgdgfdfpapaa
