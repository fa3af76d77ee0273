/- The program: what is filled up. -/
import Derived.Test.YtpcbgdgfdfpapaaJc
set_option linter.unusedSimpArgs false
set_option linter.unusedVariables false
namespace Go.Proofs.Ytpcbgdgfdfpapaa
open Go Go.Abs Go.RowKit Go.Frames
variable {w0 : World}

/-- the sums of rows and columns while the row K is filled up, to the column J -/
structure FillS (T : List (List Int)) (K J : Nat) (S : List Int) : Prop where
  len : S.length = 2 * T.length
  le : ∀ i, i < 2 * T.length → 0 ≤ S.getD i 0 ∧ S.getD i 0 ≤ most T T.length
  row : ∀ a, K ≤ a → a < T.length → S.getD a 0 = most T T.length - (if a = K then rowRem (rN T K) (colRem (rN T) (cN T) K) J else rN T a)
  col : ∀ b, b < T.length → S.getD (T.length + b) 0 = most T T.length - colRem (rN T) (cN T) (if b < J then K + 1 else K) b
theorem FillS.start {T : List (List Int)} {S : List Int} (hT : TV T) (h : SumsAt T T.length 0 S) : FillS T 0 0 S := by
  have h6 := hT.1
  refine ⟨h.len, fun i hi => ?_, fun a _ ha => ?_, fun b hb => ?_⟩
  · by_cases hlt : i < T.length
    · have hr := hT.2 i hlt
      have := (psum_le hr.2 T.length (by rw [hr.1]; exact Nat.le_refl _)).1
      rw [h.row i hlt, if_pos hlt]
      exact ⟨this, (le_most hlt).1⟩
    · obtain ⟨b, rfl⟩ : ∃ b, i = T.length + b := ⟨i - T.length, by omega⟩
      have := (csum_le hT (c := b) (by omega) T.length (Nat.le_refl _)).1
      rw [h.col b (by omega), if_neg (by omega)]
      exact ⟨this, (le_most (by omega)).2⟩
  · rw [h.row a ha, if_pos ha]
    have e : rN T a = most T T.length - psum (T.getD a []) T.length := rfl
    by_cases e0 : a = 0
    · subst e0; rw [if_pos rfl]; show _ = _ - rN T 0; omega
    · rw [if_neg e0]; omega
  · rw [h.col b hb, if_neg (by omega), if_neg (by omega)]
    show _ = _ - cN T b
    unfold cN; omega
theorem FillS.next {T : List (List Int)} {K : Nat} {S : List Int} (h : FillS T K T.length S) : FillS T (K + 1) 0 S := by
  refine ⟨h.len, h.le, fun a ha hb => ?_, fun b hb => ?_⟩
  · rw [h.row a (by omega) hb, if_neg (by omega)]
    by_cases e : a = K + 1
    · subst e; rw [if_pos rfl]; rfl
    · rw [if_neg e]
  · rw [h.col b hb, if_pos hb, if_neg (by omega)]
theorem FillS.val {T : List (List Int)} {K J : Nat} {S : List Int} (h : FillS T K J S) (hK : K < T.length) (hJ : J < T.length) : most T T.length - max (S.getD K 0) (S.getD (T.length + J) 0) = fillO (rN T) (cN T) K J := by
  rw [h.row K (Nat.le_refl _) hK, if_pos rfl, h.col J hJ, if_neg (by omega)]
  unfold fillO; omega
theorem FillS.step {T : List (List Int)} {K J : Nat} {S : List Int} (h : FillS T K J S) (hK : K < T.length) (hJ : J < T.length) {u : Int} (hu : u = fillO (rN T) (cN T) K J) :
    FillS T K (J + 1) ((S.set K (S.getD K 0 + u)).set (T.length + J) ((S.set K (S.getD K 0 + u)).getD (T.length + J) 0 + u)) := by
  have hl := h.len
  have hv := h.val hK hJ
  have b1 := h.le K (by omega)
  have b2 := h.le (T.length + J) (by omega)
  have e2 : (S.set K (S.getD K 0 + u)).getD (T.length + J) 0 = S.getD (T.length + J) 0 := by rw [getD_set _ (by omega), if_neg (by omega)]
  rw [e2]
  have hg : ∀ i, ((S.set K (S.getD K 0 + u)).set (T.length + J) (S.getD (T.length + J) 0 + u)).getD i 0 = if i = T.length + J then S.getD (T.length + J) 0 + u else if i = K then S.getD K 0 + u else S.getD i 0 := fun i => by
    rw [getD_set _ (by simp; omega), getD_set _ (by omega)]
  refine ⟨by simp [hl], fun i hi => ?_, fun a ha hb => ?_, fun b hb => ?_⟩
  · rw [hg]
    have := h.le i hi
    split
    · omega
    · split
      · omega
      · exact this
  · rw [hg, if_neg (by omega)]
    by_cases e : a = K
    · subst e
      rw [if_pos rfl, if_pos rfl, h.row a (Nat.le_refl _) hb, if_pos rfl, hu]
      show _ = _ - (rowRem (rN T a) (colRem (rN T) (cN T) a) J - fillO (rN T) (cN T) a J)
      omega
    · rw [if_neg e, if_neg e, h.row a ha hb, if_neg e]
  · rw [hg]
    by_cases e : b = J
    · subst e
      rw [if_pos rfl, if_pos (by omega), h.col b hb, if_neg (by omega), hu]
      show _ = _ - (colRem (rN T) (cN T) K b - fillO (rN T) (cN T) K b)
      omega
    · rw [if_neg (by omega), if_neg (by omega), h.col b hb]
      by_cases e3 : b < J
      · rw [if_pos e3, if_pos (by omega)]
      · rw [if_neg e3, if_neg (by omega)]
theorem chunk_zero (n : Nat) : chunk (List.replicate (n * n) 0) n n = List.replicate n (List.replicate n 0) := by
  have : ∀ row ∈ List.replicate n (List.replicate n (0 : Int)), row.length = n := fun row h => by rw [(List.mem_replicate.1 h).2]; simp
  have h := chunk_flat n _ this
  rw [List.length_replicate] at h
  have e : (List.replicate n (List.replicate n (0 : Int))).flatten = List.replicate (n * n) 0 := by simp
  rw [e] at h
  exact h

theorem implFill_at (σ : AHeap) (h o : Nat) (T : List (List Int)) (hv : RowsAt σ h o T) (hl : T.length ≤ 1048576) :
    ACall Try.prog w0 36 [.slice (some ⟨h, o, none⟩) T.length 1] σ fun r σ' => Sub σ σ' ∧ OwnTV σ σ' r (fillB T) := by
  unfold fillB
  refine acall_go mixed Try.func36 rfl good36 fun pr => ?_
  simp -implicitDefEqProofs (disch := omega) only [List.any_cons, List.any_nil, Nat.reduceEqDiff, List.map_cons, List.map_nil, Option.map_some, Option.map_none, List.nil_append, ↓reduceIte, vcu, ↓vcd]
  refine (implTV_at σ h o T hv hl).mono ?_
  rintro r _ ⟨rfl, rfl⟩
  rename_i σ
  by_cases hT : TV T
  case neg =>
    rw [decide_eq_false hT, if_neg hT]
    simp -implicitDefEqProofs (disch := omega) only [List.any_cons, List.any_nil, Nat.reduceEqDiff, List.map_cons, List.map_nil, Option.map_some, Option.map_none, List.nil_append, ↓reduceIte, vcu, ↓vcd, opK_some, Bool.not_false]
    refine fin_one Try.results36 ⟨Sub.refl _, .inl ⟨?_, rfl⟩⟩
    simp -implicitDefEqProofs (disch := omega) only [List.any_cons, List.any_nil, Nat.reduceEqDiff, List.map_cons, List.map_nil, Option.map_some, Option.map_none, List.nil_append, ↓reduceIte, vcu, ↓vcd]
  rw [decide_eq_true hT, if_pos hT]
  have h6 := hT.1
  have hM := most_le hT _ (Nat.le_refl _)
  simp -implicitDefEqProofs (disch := omega) only [List.any_cons, List.any_nil, Nat.reduceEqDiff, List.map_cons, List.map_nil, Option.map_some, Option.map_none, List.nil_append, ↓reduceIte, vcu, ↓vcd, opK_some, Bool.not_true]
  refine (implMost_at σ h o T hv hl).mono ?_
  rintro r τ1 ⟨rfl, s1⟩
  unfold mostV
  rw [if_pos hT]
  simp -implicitDefEqProofs (disch := omega) only [List.any_cons, List.any_nil, Nat.reduceEqDiff, List.map_cons, List.map_nil, Option.map_some, Option.map_none, List.nil_append, ↓reduceIte, vcu, ↓vcd, opK_some]
  refine (lineSums_at τ1 h o T (hv.sub s1) hT).mono ?_
  rintro r τ2 ⟨gS, S, nS, rfl, s2, vS, hS⟩
  have hF := FillS.start hT hS
  clear hS
  have hs2 := s1.trans s2
  obtain ⟨n, hn⟩ : ∃ n, T.length = n := ⟨_, rfl⟩
  rw [hn] at h6 hM ⊢
  have c1 : (n : Int) * (n : Int) = ((n * n : Nat) : Int) := by rw [Int.natCast_mul]
  have c2 : n * n ≤ 36 := Nat.mul_le_mul h6 h6
  simp -implicitDefEqProofs (disch := omega) only [List.any_cons, List.any_nil, Nat.reduceEqDiff, List.map_cons, List.map_nil, Option.map_some, Option.map_none, List.nil_append, ↓reduceIte, vcu, ↓vcd, opK_some, Int.toNat_natCast]
  rw [c1]
  refine r_makeI (kx := .i64) (ky := .i64) (l := n * n) (c := n * n) el30 (by omega) (by simp -implicitDefEqProofs (disch := omega) only [List.any_cons, List.any_nil, Nat.reduceEqDiff, List.map_cons, List.map_nil, Option.map_some, Option.map_none, List.nil_append, ↓reduceIte, vcu, ↓vcd]) (by simp -implicitDefEqProofs (disch := omega) only [List.any_cons, List.any_nil, Nat.reduceEqDiff, List.map_cons, List.map_nil, Option.map_some, Option.map_none, List.nil_append, ↓reduceIte, vcu, ↓vcd]) (by omega) fun z τ3 nz s3 vz => ?_
  simp -implicitDefEqProofs (disch := omega) only [List.any_cons, List.any_nil, Nat.reduceEqDiff, List.map_cons, List.map_nil, Option.map_some, Option.map_none, List.nil_append, ↓reduceIte, vcu, ↓vcd]
  refine (cutN_calls τ2 τ3 s3 _ n n (List.replicate (n * n) 0) (.inr ⟨z, by simp, vz, nz⟩) (by simp) (by omega) (by simp; omega)).mono ?_
  rintro r τ4 ⟨s4, gM, qM, rfl, hO⟩
  rw [chunk_zero] at hO
  have hO0 : OwnT τ2 τ4 gM qM (fillX T 0 0) := by rw [fillX_zero, hn, ← zeroT_tab]; exact hO
  clear hO
  simp -implicitDefEqProofs (disch := omega) only [List.any_cons, List.any_nil, Nat.reduceEqDiff, List.map_cons, List.map_nil, Option.map_some, Option.map_none, List.nil_append, ↓reduceIte, vcu, ↓vcd, opK_some]
  refine vc_loop_c mixed (by kernel_rfl) [4, 6, 7, 8, 34] (fun m a σ' => ∃ (K : Nat) (S : List Int), m + K = n ∧ a 35 = .int .i64 K ∧ Sub σ σ' ∧ σ' gS = some ⟨ints .i64 S, false⟩ ∧ FillS T K 0 S ∧ OwnT τ2 σ' gM qM (fillX T K 0)) n ⟨0, S, by simp, rfl, hs2.trans s4, s4 _ _ vS, hF, hO0⟩ ?_
  clear hO0 hF s4 τ4
  clear vz s3 τ3
  rintro m a σ1 hc ⟨K, S1, hK, h35, hs, vS1, hF, hO⟩
  simp -implicitDefEqProofs (disch := omega) only [List.any_cons, List.any_nil, Nat.reduceEqDiff, List.map_cons, List.map_nil, Option.map_some, Option.map_none, List.nil_append, ↓reduceIte, vcu, ↓vcd] at hc
  obtain ⟨h4, h6', h7, h8, h34, -⟩ := hc
  by_cases hKl : K < n
  · have hsqX := fillX_sq T K 0
    rw [hn] at hsqX
    have hgX := hO.get (i := K) (by rw [hsqX.1]; exact hKl)
    rw [hsqX.2 K hKl] at hgX
    simp -implicitDefEqProofs (disch := omega) only [List.any_cons, List.any_nil, Nat.reduceEqDiff, List.map_cons, List.map_nil, Option.map_some, Option.map_none, List.nil_append, ↓reduceIte, vcu, ↓vcd, h4, h6', h7, h8, h34, h35, hgX]
    refine vc_loop_c mixed (by kernel_rfl) [4, 6, 7, 8, 9, 34, 35, 42] (fun m a σ' => ∃ (J : Nat) (S : List Int), m + J = n ∧ a 43 = .int .i64 J ∧ Sub σ σ' ∧ σ' gS = some ⟨ints .i64 S, false⟩ ∧ FillS T K J S ∧ OwnT τ2 σ' gM qM (fillX T K J)) n ⟨0, S1, by simp, rfl, hs, vS1, hF, hO⟩ ?_
    clear hO hF hs vS1 S1 hgX hsqX
    rintro m2 a2 σ2 hc2 ⟨J, S1, hJ, h43, hs, vS1, hF, hO⟩
    simp -implicitDefEqProofs (disch := omega) only [List.any_cons, List.any_nil, Nat.reduceEqDiff, List.map_cons, List.map_nil, Option.map_some, Option.map_none, List.nil_append, ↓reduceIte, vcu, ↓vcd, h4, h6', h7, h8, h34, h35] at hc2
    obtain ⟨d4, d6, d7, d8, d9, d34, d35, d42, -⟩ := hc2
    by_cases hJl : J < n
    · have hsqX := fillX_sq T K J
      rw [hn] at hsqX
      have hgX := hO.get (i := K) (by rw [hsqX.1]; exact hKl)
      have hrX := hO.row K (by rw [hsqX.1]; exact hKl)
      have hlX := hsqX.2 K hKl
      rw [hlX] at hgX
      have hSl := hF.len
      have b1 := hF.le K (by omega)
      have b2 := hF.le (n + J) (by omega)
      have hval := hF.val (by omega) (by omega)
      have hst := hF.step (by omega) (by omega) hval
      have hfs := fillX_step (T := T) (K := K) (J := J) (by omega) (by omega)
      rw [← hval] at hfs
      rw [hn] at hval b1 b2 hst hSl hfs
      have x1 := own_at vS1 (i := K) (by omega)
      have x2 := own_at vS1 (i := n + J) (by omega)
      rw [← Nat.add_assoc] at x2
      generalize hu : most T n - max (S1.getD K 0) (S1.getD (n + J) 0) = u at hval hst hfs
      have bu : 0 ≤ u ∧ u ≤ 36 := by omega
      have bK : S1.getD K 0 + u ≤ 72 := by omega
      have bJ : S1.getD (n + J) 0 + u ≤ 72 := by omega
      have gne : gS ≠ qM K := ne_of' (hO.free K (by rw [hsqX.1]; exact hKl)) vS
      have fK := hO.free K (by rw [hsqX.1]; exact hKl)
      simp -implicitDefEqProofs (disch := omega) only [List.any_cons, List.any_nil, Nat.reduceEqDiff, List.map_cons, List.map_nil, Option.map_some, Option.map_none, List.nil_append, ↓reduceIte, vcu, ↓vcd, d4, d6, d7, d8, d9, d34, d35, d42, h43, x1, x2, hgX, hu]
      refine r_setI (g := qM K) (i := 0 + J) (v := u) (by simp -implicitDefEqProofs (disch := omega) only [List.any_cons, List.any_nil, Nat.reduceEqDiff, List.map_cons, List.map_nil, Option.map_some, Option.map_none, List.nil_append, ↓reduceIte, vcu, ↓vcd]) (by simp -implicitDefEqProofs (disch := omega) only [List.any_cons, List.any_nil, Nat.reduceEqDiff, List.map_cons, List.map_nil, Option.map_some, Option.map_none, List.nil_append, ↓reduceIte, vcu, ↓vcd]) co3 hrX (by omega) fun τ5 k5 e5 => ?_
      rw [Nat.zero_add] at e5
      have O5 := hO.write (by rw [hsqX.1]; exact hKl) (by simp) k5 e5
      rw [hfs] at O5
      have vS5 := k5.at vS1 gne
      have s5 := k5.sub hs (free_sub hs2 fK)
      have y1 := own_at vS5 (i := K) (by omega)
      simp -implicitDefEqProofs (disch := omega) only [List.any_cons, List.any_nil, Nat.reduceEqDiff, List.map_cons, List.map_nil, Option.map_some, Option.map_none, List.nil_append, ↓reduceIte, vcu, ↓vcd, d4, d6, d7, d8, d9, d34, d35, d42, h43, y1]
      refine r_setI (g := gS) (i := 0 + K) (v := S1.getD K 0 + u) (by simp -implicitDefEqProofs (disch := omega) only [List.any_cons, List.any_nil, Nat.reduceEqDiff, List.map_cons, List.map_nil, Option.map_some, Option.map_none, List.nil_append, ↓reduceIte, vcu, ↓vcd]) (by simp -implicitDefEqProofs (disch := omega) only [List.any_cons, List.any_nil, Nat.reduceEqDiff, List.map_cons, List.map_nil, Option.map_some, Option.map_none, List.nil_append, ↓reduceIte, vcu, ↓vcd]) co3 vS5 (by omega) fun τ6 k6 e6 => ?_
      rw [Nat.zero_add] at e6
      have O6 := O5.kept vS k6
      have s6 := k6.sub s5 (free_sub s1 nS)
      have l6 : (S1.set K (S1.getD K 0 + u)).length = 2 * n := by simp [hSl]
      have e26 : (S1.set K (S1.getD K 0 + u)).getD (n + J) 0 = S1.getD (n + J) 0 := by rw [getD_set _ (by omega), if_neg (by omega)]
      have y2 := own_at e6 (i := n + J) (by omega)
      rw [← Nat.add_assoc] at y2
      rw [e26] at hst y2
      simp -implicitDefEqProofs (disch := omega) only [List.any_cons, List.any_nil, Nat.reduceEqDiff, List.map_cons, List.map_nil, Option.map_some, Option.map_none, List.nil_append, ↓reduceIte, vcu, ↓vcd, d4, d6, d7, d8, d9, d34, d35, d42, h43, y2]
      refine r_setI (g := gS) (i := 0 + n + J) (v := S1.getD (n + J) 0 + u) (by simp -implicitDefEqProofs (disch := omega) only [List.any_cons, List.any_nil, Nat.reduceEqDiff, List.map_cons, List.map_nil, Option.map_some, Option.map_none, List.nil_append, ↓reduceIte, vcu, ↓vcd]) (by simp -implicitDefEqProofs (disch := omega) only [List.any_cons, List.any_nil, Nat.reduceEqDiff, List.map_cons, List.map_nil, Option.map_some, Option.map_none, List.nil_append, ↓reduceIte, vcu, ↓vcd]) co3 e6 (by omega) fun τ7 k7 e7 => ?_
      rw [Nat.zero_add] at e7
      simp -implicitDefEqProofs (disch := omega) only [List.any_cons, List.any_nil, Nat.reduceEqDiff, List.map_cons, List.map_nil, Option.map_some, Option.map_none, List.nil_append, ↓reduceIte, vcu, ↓vcd, d4, d6, d7, d8, d9, d34, d35, d42, h43]
      refine ⟨by simp [d4, d6, d7, d8, d9, d34, d35, d42, h4, h6', h7, h8, h34, h35], m2 - 1, by omega, J + 1, _, by omega, by simp, k7.sub s6 (free_sub s1 nS), e7, hst, O6.kept vS k7⟩
    · have e : J = n := by omega
      rw [e, ← hn] at hF hO
      rw [fillX_next] at hO
      simp -implicitDefEqProofs (disch := omega) only [List.any_cons, List.any_nil, Nat.reduceEqDiff, List.map_cons, List.map_nil, Option.map_some, Option.map_none, List.nil_append, ↓reduceIte, vcu, ↓vcd, d4, d6, d7, d8, d9, d34, d35, d42, h43]
      refine ⟨by simp [d4, d6, d7, d8, d34, h4, h6', h7, h8, h34], m - 1, by omega, K + 1, S1, by omega, by simp, hs, vS1, hF.next, hO⟩
  · have e : K = n := by omega
    rw [e, ← hn, fillX_done] at hO
    have hll : (fillV T).length = n := by rw [← hn]; exact (tabN_sq T.length (fillO (rN T) (cN T))).1
    simp -implicitDefEqProofs (disch := omega) only [List.any_cons, List.any_nil, Nat.reduceEqDiff, List.map_cons, List.map_nil, Option.map_some, Option.map_none, List.nil_append, ↓reduceIte, vcu, ↓vcd, h4, h6', h7, h8, h34, h35]
    refine fin_one Try.results36 ⟨hs, .inr ⟨gM, qM, ?_, hO.base hs2⟩⟩
    simp -implicitDefEqProofs (disch := omega) only [List.any_cons, List.any_nil, Nat.reduceEqDiff, List.map_cons, List.map_nil, Option.map_some, Option.map_none, List.nil_append, ↓reduceIte, vcu, ↓vcd, h8]
    rw [hll]
end Go.Proofs.Ytpcbgdgfdfpapaa
