/- The program: the best frame, walked. -/
import Derived.Test.YtpcbgdgfdfpapaaJe
set_option linter.unusedSimpArgs false
set_option linter.unusedVariables false
namespace Go.Proofs.Ytpcbgdgfdfpapaa
open Go Go.Abs Go.RowKit Go.Frames
variable {w0 : World}

theorem OwnT.kx {σ0 σ τ τ1 : AHeap} {x g : Nat} {q : Nat → Nat} {rows rows1 : List (List Int)} (h : OwnT σ0 σ g q rows) (hk : Kept x σ τ) (h1 : OwnT σ0 τ1 g q rows1) (hl : rows1.length = rows.length) (hx : τ1 x = none) : OwnT σ0 τ g q rows :=
  h.keptx hk (ne_of' hx h1.at_) fun i hi => ne_of' hx (h1.row i (by omega))
set_option maxHeartbeats 1000000 in
theorem implBest_at (σ : AHeap) (h o : Nat) (T : List (List Int)) (hv : RowsAt σ h o T) (hl : T.length ≤ 1048576) :
    ACall Try.prog w0 40 [.slice (some ⟨h, o, none⟩) T.length 1] σ fun r σ' => Sub σ σ' ∧ OwnTV σ σ' r (bestB T) := by
  unfold bestB
  refine acall_go mixed Try.func40 rfl good40 fun pr => ?_
  simp -implicitDefEqProofs (disch := omega) only [List.any_cons, List.any_nil, Nat.reduceEqDiff, List.map_cons, List.map_nil, Option.map_some, Option.map_none, List.nil_append, ↓reduceIte, vcu, ↓vcd]
  refine (implTV_at σ h o T hv hl).mono ?_
  rintro r _ ⟨rfl, rfl⟩
  rename_i σ
  by_cases hT : TV T
  case neg =>
    rw [decide_eq_false hT, if_neg hT]
    simp -implicitDefEqProofs (disch := omega) only [List.any_cons, List.any_nil, Nat.reduceEqDiff, List.map_cons, List.map_nil, Option.map_some, Option.map_none, List.nil_append, ↓reduceIte, vcu, ↓vcd, opK_some, Bool.not_false]
    refine fin_one Try.results40 ⟨Sub.refl _, .inl ⟨?_, rfl⟩⟩
    simp -implicitDefEqProofs (disch := omega) only [List.any_cons, List.any_nil, Nat.reduceEqDiff, List.map_cons, List.map_nil, Option.map_some, Option.map_none, List.nil_append, ↓reduceIte, vcu, ↓vcd]
  rw [decide_eq_true hT, if_pos hT]
  have h6 := hT.1
  have hM := most_le hT _ (Nat.le_refl _)
  have hsqT := tv_sq hT
  simp -implicitDefEqProofs (disch := omega) only [List.any_cons, List.any_nil, Nat.reduceEqDiff, List.map_cons, List.map_nil, Option.map_some, Option.map_none, List.nil_append, ↓reduceIte, vcu, ↓vcd, opK_some, Bool.not_true]
  refine (copyN_at σ h o T T.length hv hsqT h6).mono ?_
  rintro r τ1 ⟨s1, gL, qL, rfl, hL1⟩
  simp -implicitDefEqProofs (disch := omega) only [List.any_cons, List.any_nil, Nat.reduceEqDiff, List.map_cons, List.map_nil, Option.map_some, Option.map_none, List.nil_append, ↓reduceIte, vcu, ↓vcd, opK_some]
  refine (filled_at τ1 h o T (hv.sub s1) hl hT).mono ?_
  rintro r τ2 ⟨s2, gB, qB, rfl, hB2⟩
  simp -implicitDefEqProofs (disch := omega) only [List.any_cons, List.any_nil, Nat.reduceEqDiff, List.map_cons, List.map_nil, Option.map_some, Option.map_none, List.nil_append, ↓reduceIte, vcu, ↓vcd, opK_some]
  refine (implMost_at τ2 h o T ((hv.sub s1).sub s2) hl).mono ?_
  rintro r τ3 ⟨rfl, s3⟩
  unfold mostV
  rw [if_pos hT]
  obtain ⟨K, hK⟩ : ∃ K : Nat, most T T.length = K := ⟨(most T T.length).toNat, by omega⟩
  rw [hK, Int.toNat_natCast]
  have hs3 := (s1.trans s2).trans s3
  have hbl : (bothT T.length T (fillV T)).length = T.length := (tabN_sq _ _).1
  have hF0 : ∀ k, (∃ ob, τ2 k = some ob) → ∃ ob, τ3 k = some ob := fun k ⟨ob, e⟩ => ⟨ob, s3 _ _ e⟩
  have fL : ∀ i, i < T.length → ∃ ob, τ2 (qL i) = some ob := fun i hi => ⟨_, s2 _ _ (hL1.row i hi)⟩
  have fB : ∀ i, i < T.length → ∃ ob, τ2 (qB i) = some ob := fun i hi => ⟨_, hB2.row i (by omega)⟩
  simp -implicitDefEqProofs (disch := omega) only [List.any_cons, List.any_nil, Nat.reduceEqDiff, List.map_cons, List.map_nil, Option.map_some, Option.map_none, List.nil_append, ↓reduceIte, vcu, ↓vcd, opK_some]
  refine vc_loop_c mixed (by kernel_rfl) [0, 3, 4, 18] (fun m a σ' => ∃ s : Nat, m + s = K ∧ a 19 = .int .i64 s ∧ Sub σ σ' ∧ (∀ k, (∃ ob, τ2 k = some ob) → ∃ ob, σ' k = some ob) ∧ OwnT σ σ' gL qL (bestS T s).1 ∧ OwnT τ1 σ' gB qB (bothT T.length (bestS T s).1 (bestS T s).2) ∧ LI (fun k => ∃ ob, τ2 k = some ob) σ' (a 5) (bestF T s).flatten) K
    ⟨0, by simp, rfl, hs3, hF0, (hL1.sub s2).sub s3, hB2.sub s3, .inl ⟨rfl, rfl⟩⟩ ?_
  clear hF0 hs3
  rintro m a σ1 hc ⟨s, hs, h19, hs0, hF0, hL, hB, hI⟩
  simp -implicitDefEqProofs (disch := omega) only [List.any_cons, List.any_nil, Nat.reduceEqDiff, List.map_cons, List.map_nil, Option.map_some, Option.map_none, List.nil_append, ↓reduceIte, vcu, ↓vcd] at hc
  obtain ⟨h0, h3, h4, h18, -⟩ := hc
  have hfl := flat_len (bestF T s) bestF_row
  rw [bestF_length] at hfl
  by_cases hlt : s < K
  case neg =>
    have e : s = K := by omega
    subst e
    have hsn : s * T.length ≤ 36 * 6 := Nat.mul_le_mul (by omega) h6
    have hch := chunk_flat T.length (bestF T s) bestF_row
    rw [bestF_length] at hch
    have hOI : OwnI σ σ1 (a 5) (bestF T s).flatten := hI.imp id fun ⟨g, e, hg, hn⟩ => ⟨g, e, hg, by
      cases e2 : σ g with
      | none => rfl
      | some ob => exact absurd ⟨ob, s2 _ _ (s1 _ _ e2)⟩ hn⟩
    have hpos : 0 < T.length ∨ s = 0 := by
      rcases Nat.eq_zero_or_pos s with e | e
      · exact .inr e
      · exact .inl (most_pos (by omega))
    simp -implicitDefEqProofs (disch := omega) only [List.any_cons, List.any_nil, Nat.reduceEqDiff, List.map_cons, List.map_nil, Option.map_some, Option.map_none, List.nil_append, ↓reduceIte, vcu, ↓vcd, h0, h3, h4, h18, h19]
    refine (cut_calls σ σ1 hs0 (a 5) s T.length _ hOI hfl hpos (by omega)).mono ?_
    rintro r σ2 ⟨q1, q2⟩
    rw [hch] at q2
    simp -implicitDefEqProofs (disch := omega) only [List.any_cons, List.any_nil, Nat.reduceEqDiff, List.map_cons, List.map_nil, Option.map_some, Option.map_none, List.nil_append, ↓reduceIte, vcu, ↓vcd, opK_some]
    refine fin_one Try.results40 ⟨q1, ?_⟩
    simp -implicitDefEqProofs (disch := omega) only [List.any_cons, List.any_nil, Nat.reduceEqDiff, List.map_cons, List.map_nil, Option.map_some, Option.map_none, List.nil_append, ↓reduceIte, vcu, ↓vcd]
    exact q2
  have hBal := best_bal hT s (by omega)
  have hn0 := most_pos (T := T) (by omega)
  obtain ⟨m1, m2', -⟩ := hBal.mq (by omega) hn0
  obtain ⟨p1, p2, p3⟩ := best_perm hT (s := s) (by omega)
  have hS1 : bestS T (s + 1) = (goL T.length (bestS T s).1 (bestP T s) T.length, goX T.length (bestS T s).1 (bestS T s).2 (bestP T s) T.length) := rfl
  have hF1 := bestF_succ T s
  have hPe : bestP T s = mq (bothT T.length (bestS T s).1 (bestS T s).2) := rfl
  have hlr : (bestF T (s + 1)).flatten = (bestF T s).flatten ++ slB (bestS T s).1 (bestP T s) T.length := by rw [hF1, List.flatten_append]; simp
  generalize hp : bestP T s = p at p1 p2 p3 hS1 hPe hlr
  generalize (bestS T s).1 = L at *
  generalize (bestS T s).2 = X at *
  generalize (bestF T s).flatten = O at *
  have hLl := hBal.l.1
  have hsum : ∀ a b, a < T.length → b < T.length → 0 ≤ en L a b ∧ 0 ≤ en X a b ∧ en L a b + en X a b ≤ 36 := fun a b ha hb => by
    have z1 := hBal.l0 a b ha hb
    have z2 := hBal.x0 a b ha hb
    have z3 := sm_one_le (f := fun b => en L a b + en X a b) (n := T.length) (k := b) (fun k hk => by have := hBal.l0 a k ha hk; have := hBal.x0 a k ha hk; omega) hb
    have z4 := hBal.row a ha
    omega
  have hsqB : Sq T.length (bothT T.length L X) := tabN_sq _ _
  have hsn : s * T.length ≤ 36 * 6 := Nat.mul_le_mul (by omega) h6
  simp -implicitDefEqProofs (disch := omega) only [List.any_cons, List.any_nil, Nat.reduceEqDiff, List.map_cons, List.map_nil, Option.map_some, Option.map_none, List.nil_append, ↓reduceIte, vcu, ↓vcd, h0, h3, h4, h18, h19]
  refine (leastMatch_at σ1 gB 0 _ T.length hB.rows hsqB h6).mono ?_
  rintro r σ2 ⟨vp, b, ps, rfl, s4, hps, hbf, hbt⟩
  cases b with
  | false =>
    have := m2'.ext (by rw [m1, hsqB.1]) 0 (by omega)
    exact absurd this (hbf rfl).2
  | true =>
  obtain ⟨pl, hpre⟩ := hbt rfl
  have hpp : ps = p := by rw [hPe]; exact (mq_at (by rw [pl, hsqB.1]) hpre).symm
  subst hpp
  rcases hps with ⟨-, e⟩ | ⟨gp, rfl, vp, np⟩
  · rw [e] at pl; simp at pl; omega
  rw [pl]
  have fgp : ∀ k, (∃ ob, τ2 k = some ob) → gp ≠ k := fun k hk e => by obtain ⟨ob, e2⟩ := hF0 k hk; rw [← e, np] at e2; cases e2
  have hL0 : OwnT σ σ2 gL qL (goL T.length L ps 0) := by rw [goL_zero hBal.l]; exact hL.sub s4
  have hB0 : OwnT τ1 σ2 gB qB (bothK T.length L X ps 0) := by rw [bothK_zero]; exact hB.sub s4
  have hI0 : LI (fun k => (∃ ob, τ2 k = some ob) ∨ k = gp) σ2 (a 5) (O ++ slB L ps 0) := by
    have : O ++ slB L ps 0 = O := by simp [slB]
    rw [this]; exact (hI.add np).sub s4
  have hF2 : ∀ k, ((∃ ob, τ2 k = some ob) ∨ k = gp) → ∃ ob, σ2 k = some ob := fun k hk => by
    rcases hk with hk | rfl
    · obtain ⟨ob, e⟩ := hF0 k hk; exact ⟨ob, s4 _ _ e⟩
    · exact ⟨_, vp⟩
  have hs2 := hs0.trans s4
  clear hL hB hI hF0 hs0 s4
  simp -implicitDefEqProofs (disch := omega) only [List.any_cons, List.any_nil, Nat.reduceEqDiff, List.map_cons, List.map_nil, Option.map_some, Option.map_none, List.nil_append, ↓reduceIte, vcu, ↓vcd, opK_some, List.getElem?_toArray, List.getElem?_cons_zero, List.getElem?_cons_succ]
  refine vc_loop_c mixed (by kernel_rfl) [0, 3, 4, 18, 19, 26, 27] (fun m a σ' => ∃ K2 : Nat, m + K2 = T.length ∧ a 28 = .int .i64 K2 ∧ Sub σ σ' ∧ (∀ k, ((∃ ob, τ2 k = some ob) ∨ k = gp) → ∃ ob, σ' k = some ob) ∧ σ' gp = some ⟨ints .i64 ps, false⟩ ∧ OwnT σ σ' gL qL (goL T.length L ps K2) ∧ OwnT τ1 σ' gB qB (bothK T.length L X ps K2) ∧ LI (fun k => (∃ ob, τ2 k = some ob) ∨ k = gp) σ' (a 5) (O ++ slB L ps K2)) T.length
    ⟨0, by simp, rfl, hs2, hF2, vp, hL0, hB0, by simp -implicitDefEqProofs (disch := omega) only [List.any_cons, List.any_nil, Nat.reduceEqDiff, List.map_cons, List.map_nil, Option.map_some, Option.map_none, List.nil_append, ↓reduceIte, vcu, ↓vcd]; exact hI0⟩ ?_
  clear hL0 hB0 hI0 hF2 hs2 vp
  rintro m3 a3 σ3 hc3 ⟨j, hj, h28, hs3, hF3, vp, hL, hB, hI⟩
  simp -implicitDefEqProofs (disch := omega) only [List.any_cons, List.any_nil, Nat.reduceEqDiff, List.map_cons, List.map_nil, Option.map_some, Option.map_none, List.nil_append, ↓reduceIte, vcu, ↓vcd, h0, h3, h4, h18, h19] at hc3
  obtain ⟨d0, d3, d4, d18, d19, d26, d27, -⟩ := hc3
  by_cases hjl : j < T.length
  case neg =>
    have e : j = T.length := by omega
    subst e
    rw [bothK_done] at hB
    rw [← hlr] at hI
    simp -implicitDefEqProofs (disch := omega) only [List.any_cons, List.any_nil, Nat.reduceEqDiff, List.map_cons, List.map_nil, Option.map_some, Option.map_none, List.nil_append, ↓reduceIte, vcu, ↓vcd, d0, d3, d4, d18, d19, d26, d27, h28]
    refine ⟨by simp [d0, d3, d4, d18, h0, h3, h4, h18], m - 1, by omega, s + 1, by omega, by simp, hs3, fun k hk => hF3 k (.inl hk), by rw [hS1]; exact hL, by rw [hS1]; exact hB, hI.weak fun k hk => .inl hk⟩
  have hy := own_at vp (i := j) (by omega)
  have hpj := p2 j hjl
  obtain ⟨x, hx⟩ : ∃ x : Nat, ps.getD j 0 = x := ⟨(ps.getD j 0).toNat, by omega⟩
  have hxl : x < T.length := by omega
  have hsqb : Sq T.length (bothK T.length L X ps j) := tabN_sq _ _
  have hsql : Sq T.length (goL T.length L ps j) := tabN_sq _ _
  have hgB := hB.get (i := j) (by rw [hsqb.1]; exact hjl)
  have hrB := hB.row j (by rw [hsqb.1]; exact hjl)
  have hgL := hL.get (i := j) (by rw [hsql.1]; exact hjl)
  have hrL := hL.row j (by rw [hsql.1]; exact hjl)
  have hlB := hsqb.2 j hjl
  have hlL := hsql.2 j hjl
  rw [hlB] at hgB
  rw [hlL] at hgL
  have hzB : ld σ3 (qB j) (0 + x) = some (.int .i64 (en L j x + en X j x)) := by rw [own_at hrB (by rw [hlB]; exact hxl), ← bothK_at L X ps hjl hxl]; rfl
  have eL : en (goL T.length L ps j) j x = en L j x := by rw [goL, en_tabN _ hjl hxl, if_neg (by omega)]; omega
  have hzL : ld σ3 (qL j) (0 + x) = some (.int .i64 (en L j x)) := by rw [own_at hrL (by rw [hlL]; exact hxl), ← eL]; rfl
  have hst := bothK_step L X ps hjl hpj
  have hb := hsum j x hjl hxl
  have hsl := slB_succ L ps j
  have hlen := slB_length L ps j
  rw [hx] at hy hsl hst
  rw [Int.toNat_natCast] at hsl hst
  have nB : ∀ σ', OwnT σ σ' gL qL (goL T.length L ps j) → ∀ τ', Kept (qB j) σ' τ' → OwnT σ τ' gL qL (goL T.length L ps j) := fun σ' hO τ' hk => hO.kx hk hL1 (by rw [hsql.1]) (hB2.free j (by omega))
  simp -implicitDefEqProofs (disch := omega) only [List.any_cons, List.any_nil, Nat.reduceEqDiff, List.map_cons, List.map_nil, Option.map_some, Option.map_none, List.nil_append, ↓reduceIte, vcu, ↓vcd, d0, d3, d4, d18, d19, d26, d27, h28, hy, hgB, hzB, Int.toNat_natCast]
  refine r_setI (g := qB j) (i := 0 + x) (v := en L j x + en X j x - 1) (by simp -implicitDefEqProofs (disch := omega) only [List.any_cons, List.any_nil, Nat.reduceEqDiff, List.map_cons, List.map_nil, Option.map_some, Option.map_none, List.nil_append, ↓reduceIte, vcu, ↓vcd]) (by simp -implicitDefEqProofs (disch := omega) only [List.any_cons, List.any_nil, Nat.reduceEqDiff, List.map_cons, List.map_nil, Option.map_some, Option.map_none, List.nil_append, ↓reduceIte, vcu, ↓vcd]) co3 hrB (by omega) fun τ5 k5 e5 => ?_
  rw [Nat.zero_add] at e5
  have B5 := hB.write (by rw [hsqb.1]; exact hjl) (by simp) k5 e5
  rw [hst] at B5
  have L5 := nB _ hL _ k5
  have I5 := hI.kept k5 (.inl (fB j hjl))
  have v5 := k5.at vp (fgp _ (fB j hjl))
  have s5 := k5.sub hs3 (free_sub s1 (hB2.free j (by omega)))
  have F5 : ∀ k, ((∃ ob, τ2 k = some ob) ∨ k = gp) → ∃ ob, τ5 k = some ob := fun k hk => by
    by_cases e : k = qB j
    · subst e; exact ⟨_, e5⟩
    · obtain ⟨ob, e2⟩ := hF3 k hk; exact ⟨ob, k5.at e2 e⟩
  have hgL5 : ld τ5 gL (0 + j) = some (.slice (some ⟨qL j, 0, none⟩) T.length 1) := by have := L5.get (i := j) (by rw [hsql.1]; exact hjl); rw [hlL] at this; exact this
  have hrL5 := L5.row j (by rw [hsql.1]; exact hjl)
  have hzL5 : ld τ5 (qL j) (0 + x) = some (.int .i64 (en L j x)) := by rw [own_at hrL5 (by rw [hlL]; exact hxl), ← eL]; rfl
  clear hzB hgB hrB hzL hgL hrL hB hL hI hF3 hst nB k5
  have fin : ∀ (τ6 τ7 τ8 : AHeap) (y : Int) (v' : Value), Sub σ τ6 → (∀ k, ((∃ ob, τ2 k = some ob) ∨ k = gp) → ∃ ob, τ6 k = some ob) → τ6 gp = some ⟨ints .i64 ps, false⟩ → OwnT σ τ6 gL qL (goL T.length L ps (j + 1)) → OwnT τ1 τ6 gB qB (bothK T.length L X ps (j + 1)) → slB L ps (j + 1) = slB L ps j ++ [y] → Sub τ6 τ7 →
      LI (fun k => (∃ ob, τ2 k = some ob) ∨ k = gp) τ8 v' (O ++ slB L ps j ++ [y]) → (∀ k ob, ((∃ ob, τ2 k = some ob) ∨ k = gp) → τ7 k = some ob → τ8 k = some ob) →
      Sub σ τ8 ∧ (∀ k, ((∃ ob, τ2 k = some ob) ∨ k = gp) → ∃ ob, τ8 k = some ob) ∧ τ8 gp = some ⟨ints .i64 ps, false⟩ ∧ OwnT σ τ8 gL qL (goL T.length L ps (j + 1)) ∧ OwnT τ1 τ8 gB qB (bothK T.length L X ps (j + 1)) ∧ LI (fun k => (∃ ob, τ2 k = some ob) ∨ k = gp) τ8 v' (O ++ slB L ps (j + 1)) := by
    intro τ6 τ7 τ8 y v' s6 F6 v6 L6 B6 hy6 s7 I8 K8
    refine ⟨fun k ob e => K8 k ob (.inl ⟨ob, s2 _ _ (s1 _ _ e)⟩) (s7 _ _ (s6 _ _ e)), fun k hk => ?_, K8 _ _ (.inr rfl) (s7 _ _ v6), ?_, ?_, by rw [hy6, ← List.append_assoc]; exact I8⟩
    · obtain ⟨ob, e⟩ := F6 k hk
      exact ⟨ob, K8 k ob hk (s7 _ _ e)⟩
    · refine L6.keepF (n := T.length) (tabN_sq _ _).1 fun k ob hk e => K8 k ob (.inl ?_) (s7 _ _ e)
      rcases hk with rfl | ⟨i, hi, rfl⟩
      · exact ⟨_, s2 _ _ hL1.at_⟩
      · exact fL i hi
    · refine B6.keepF (n := T.length) (tabN_sq _ _).1 fun k ob hk e => K8 k ob (.inl ?_) (s7 _ _ e)
      rcases hk with rfl | ⟨i, hi, rfl⟩
      · exact ⟨_, hB2.at_⟩
      · exact fB i hi
  by_cases hpos : 0 < en L j x
  · have hgo := (goL_yes (n := T.length) (L := L) (p := ps) hjl hpj (by rw [hx, Int.toNat_natCast]; exact hpos)).1
    rw [hx, Int.toNat_natCast] at hgo
    unfold less1 at hgo
    rw [eL] at hgo
    rw [if_pos hpos] at hsl
    simp -implicitDefEqProofs (disch := omega) only [List.any_cons, List.any_nil, Nat.reduceEqDiff, List.map_cons, List.map_nil, Option.map_some, Option.map_none, List.nil_append, ↓reduceIte, vcu, ↓vcd, d0, d3, d4, d18, d19, d26, d27, h28, hgL5, hzL5, Int.toNat_natCast]
    refine r_setI (g := qL j) (i := 0 + x) (v := en L j x - 1) (by simp -implicitDefEqProofs (disch := omega) only [List.any_cons, List.any_nil, Nat.reduceEqDiff, List.map_cons, List.map_nil, Option.map_some, Option.map_none, List.nil_append, ↓reduceIte, vcu, ↓vcd]) (by simp -implicitDefEqProofs (disch := omega) only [List.any_cons, List.any_nil, Nat.reduceEqDiff, List.map_cons, List.map_nil, Option.map_some, Option.map_none, List.nil_append, ↓reduceIte, vcu, ↓vcd]) co3 hrL5 (by omega) fun τ6 k6 e6 => ?_
    rw [Nat.zero_add] at e6
    have L6 := L5.write (by rw [hsql.1]; exact hjl) (by simp) k6 e6
    rw [← hgo] at L6
    have B6 := B5.kept (hL1.row j hjl) k6
    have I6 := I5.kept k6 (.inl (fL j hjl))
    have v6 := k6.at v5 (fgp _ (fL j hjl))
    have s6 := k6.sub s5 (hL1.free j hjl)
    have F6 : ∀ k, ((∃ ob, τ2 k = some ob) ∨ k = gp) → ∃ ob, τ6 k = some ob := fun k hk => by
      by_cases e : k = qL j
      · subst e; exact ⟨_, e6⟩
      · obtain ⟨ob, e2⟩ := F5 k hk; exact ⟨ob, k6.at e2 e⟩
    simp -implicitDefEqProofs (disch := omega) only [List.any_cons, List.any_nil, Nat.reduceEqDiff, List.map_cons, List.map_nil, Option.map_some, Option.map_none, List.nil_append, ↓reduceIte, vcu, ↓vcd, d0, d3, d4, d18, d19, d26, d27, h28]
    refine r_lit el30 (out := #[.int .i64 x]) (by simp -implicitDefEqProofs (disch := omega) only [List.any_cons, List.any_nil, Nat.reduceEqDiff, List.map_cons, List.map_nil, Option.map_some, Option.map_none, List.nil_append, ↓reduceIte, vcu, ↓vcd]; kernel_rfl) (by kernel_rfl) fun e7 τ7 n7 s7 v7 => ?_
    refine r_pushF (F := fun k => (∃ ob, τ2 k = some ob) ∨ k = gp) (e := e7) (o := 0) (m := 1) (cs := O ++ slB L ps j) (ds := [(x : Int)]) el30 (by omega) sl30 (by simp -implicitDefEqProofs (disch := omega) only [List.any_cons, List.any_nil, Nat.reduceEqDiff, List.map_cons, List.map_nil, Option.map_some, Option.map_none, List.nil_append, ↓reduceIte, vcu, ↓vcd]) (I6.sub s7) (fun k hk => let ⟨ob, e⟩ := F6 k hk; ⟨ob, s7 _ _ e⟩) (by simp -implicitDefEqProofs (disch := omega) only [List.any_cons, List.any_nil, Nat.reduceEqDiff, List.map_cons, List.map_nil, Option.map_some, Option.map_none, List.nil_append, ↓reduceIte, vcu, ↓vcd]) (intsAt_own v7) rfl (by rw [List.length_append, hlen]; omega) fun v' τ8 I8 K8 => ?_
    obtain ⟨w1, w2, w3, w4, w5, w6⟩ := fin τ6 τ7 τ8 x v' s6 F6 v6 L6 B6 hsl s7 I8 K8
    simp -implicitDefEqProofs (disch := omega) only [List.any_cons, List.any_nil, Nat.reduceEqDiff, List.map_cons, List.map_nil, Option.map_some, Option.map_none, List.nil_append, ↓reduceIte, vcu, ↓vcd, d0, d3, d4, d18, d19, d26, d27, h28]
    exact ⟨by simp [d0, d3, d4, d18, d19, d26, d27, h0, h3, h4, h18, h19], m3 - 1, by omega, j + 1, by omega, by simp, w1, w2, w3, w4, w5, w6⟩
  · have hgo := goL_no (n := T.length) (L := L) (p := ps) (K := j) (by rw [hx, Int.toNat_natCast]; exact hpos)
    rw [if_neg hpos] at hsl
    rw [← hgo] at L5
    simp -implicitDefEqProofs (disch := omega) only [List.any_cons, List.any_nil, Nat.reduceEqDiff, List.map_cons, List.map_nil, Option.map_some, Option.map_none, List.nil_append, ↓reduceIte, vcu, ↓vcd, d0, d3, d4, d18, d19, d26, d27, h28, hgL5, hzL5, Int.toNat_natCast]
    refine r_lit el30 (out := #[.int .i64 (-1)]) (by simp -implicitDefEqProofs (disch := omega) only [List.any_cons, List.any_nil, Nat.reduceEqDiff, List.map_cons, List.map_nil, Option.map_some, Option.map_none, List.nil_append, ↓reduceIte, vcu, ↓vcd]; kernel_rfl) (by kernel_rfl) fun e7 τ7 n7 s7 v7 => ?_
    refine r_pushF (F := fun k => (∃ ob, τ2 k = some ob) ∨ k = gp) (e := e7) (o := 0) (m := 1) (cs := O ++ slB L ps j) (ds := [(-1 : Int)]) el30 (by omega) sl30 (by simp -implicitDefEqProofs (disch := omega) only [List.any_cons, List.any_nil, Nat.reduceEqDiff, List.map_cons, List.map_nil, Option.map_some, Option.map_none, List.nil_append, ↓reduceIte, vcu, ↓vcd]) (I5.sub s7) (fun k hk => let ⟨ob, e⟩ := F5 k hk; ⟨ob, s7 _ _ e⟩) (by simp -implicitDefEqProofs (disch := omega) only [List.any_cons, List.any_nil, Nat.reduceEqDiff, List.map_cons, List.map_nil, Option.map_some, Option.map_none, List.nil_append, ↓reduceIte, vcu, ↓vcd]) (intsAt_own v7) rfl (by rw [List.length_append, hlen]; omega) fun v' τ8 I8 K8 => ?_
    obtain ⟨w1, w2, w3, w4, w5, w6⟩ := fin τ5 τ7 τ8 (-1) v' s5 F5 v5 L5 B5 hsl s7 I8 K8
    simp -implicitDefEqProofs (disch := omega) only [List.any_cons, List.any_nil, Nat.reduceEqDiff, List.map_cons, List.map_nil, Option.map_some, Option.map_none, List.nil_append, ↓reduceIte, vcu, ↓vcd, d0, d3, d4, d18, d19, d26, d27, h28]
    exact ⟨by simp [d0, d3, d4, d18, d19, d26, d27, h0, h3, h4, h18, h19], m3 - 1, by omega, j + 1, by omega, by simp, w1, w2, w3, w4, w5, w6⟩
end Go.Proofs.Ytpcbgdgfdfpapaa
