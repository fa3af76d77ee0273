/- The reference: what is filled up. -/
import Derived.Test.YtpcbgdgfdfpapaaFc
set_option linter.unusedSimpArgs false
set_option linter.unusedVariables false
namespace Go.Proofs.Ytpcbgdgfdfpapaa
open Go Go.Abs Go.RowKit Go.Frames
variable {w0 : World}

theorem psum_le2 {xs : List Int} {m : Int} (h : ∀ j, j < xs.length → 0 ≤ xs.getD j 0 ∧ xs.getD j 0 ≤ 1000) : ∀ k, k ≤ xs.length → 0 ≤ psum xs k ∧ psum xs k ≤ 1000 * k
  | 0, _ => by simp [psum]
  | k + 1, hk => by
    have := psum_le2 (m := m) h k (by omega)
    have := h k (by omega)
    simp only [psum]; omega
theorem sum2_calls (σ : AHeap) (v : Value) (xs : List Int) (hv : Ints .i64 σ v xs) (hl : xs.length ≤ 1000) (hx : ∀ j, j < xs.length → 0 ≤ xs.getD j 0 ∧ xs.getD j 0 ≤ 1000) :
    ACall Try.prog w0 62 [v] σ fun r σ' => r = .int .i64 (psum xs xs.length) ∧ σ' = σ := by
  refine ACall.ints_quiet (pre := []) (post := []) (by kernel_rfl) hv fun σ1 h o _ hg => ?_
  refine acall_go mixed Try.func62 rfl good62 fun pr => ?_
  simp -implicitDefEqProofs (disch := omega) only [List.any_cons, List.any_nil, Nat.reduceEqDiff, List.map_cons, List.map_nil, Option.map_some, Option.map_none, List.nil_append, ↓reduceIte, vcu, ↓vcd]
  refine vc_loop_c mixed (by kernel_rfl) [0] (fun m a σ' => ∃ k : Nat, m + k = xs.length ∧ a 4 = .int .i64 k ∧ a 3 = .int .i64 (psum xs k) ∧ σ' = σ1) xs.length ⟨0, by simp, rfl, rfl, rfl⟩ ?_
  rintro m a σ' hc ⟨k, hk, h4, h3, rfl⟩
  simp -implicitDefEqProofs (disch := omega) only [List.any_cons, List.any_nil, Nat.reduceEqDiff, List.map_cons, List.map_nil, Option.map_some, Option.map_none, List.nil_append, ↓reduceIte, vcu, ↓vcd] at hc
  obtain ⟨h0, -⟩ := hc
  have hb := psum_le2 (m := 0) hx k (by omega)
  by_cases hlt : k < xs.length
  · have hy := hg k hlt
    have hbx := hx k hlt
    simp -implicitDefEqProofs (disch := omega) only [List.any_cons, List.any_nil, Nat.reduceEqDiff, List.map_cons, List.map_nil, Option.map_some, Option.map_none, List.nil_append, ↓reduceIte, vcu, ↓vcd, h0, h3, h4, hy]
    exact ⟨⟨trivial, trivial⟩, m - 1, by omega, k + 1, by omega, by simp, rfl, trivial⟩
  · simp -implicitDefEqProofs (disch := omega) only [List.any_cons, List.any_nil, Nat.reduceEqDiff, List.map_cons, List.map_nil, Option.map_some, Option.map_none, List.nil_append, ↓reduceIte, vcu, ↓vcd, h0, h3, h4]
    have e : k = xs.length := by omega
    refine fin_one Try.results62 ⟨?_, rfl⟩
    simp -implicitDefEqProofs (disch := omega) only [List.any_cons, List.any_nil, Nat.reduceEqDiff, List.map_cons, List.map_nil, Option.map_some, Option.map_none, List.nil_append, ↓reduceIte, vcu, ↓vcd, h3]
    rw [e]
theorem csum_le2 {n : Nat} {rows : List (List Int)} (hb : ∀ a b, a < n → b < n → 0 ≤ en rows a b ∧ en rows a b ≤ 1000) {c : Nat} (hc : c < n) : ∀ k : Nat, k ≤ n → 0 ≤ csum rows c k ∧ csum rows c k ≤ 1000 * k
  | 0, _ => by simp [csum]
  | k + 1, hk => by
    have := csum_le2 hb hc k (by omega)
    have h2 := hb k c (by omega) hc
    unfold en at h2
    simp only [csum]; omega
theorem column2_at (σ : AHeap) (h o : Nat) (rows : List (List Int)) (c n : Nat) (hv : RowsAt σ h o rows) (hsq : Sq n rows) (hn : n ≤ 1000) (hbd : ∀ a b, a < n → b < n → 0 ≤ en rows a b ∧ en rows a b ≤ 1000) (hc : c < n) :
    ACall Try.prog w0 65 [.slice (some ⟨h, o, none⟩) n 1, .int .i64 c] σ fun r σ' => r = .int .i64 (csum rows c n) ∧ σ' = σ := by
  refine acall_go mixed Try.func65 rfl good65 fun pr => ?_
  simp -implicitDefEqProofs (disch := omega) only [List.any_cons, List.any_nil, Nat.reduceEqDiff, List.map_cons, List.map_nil, Option.map_some, Option.map_none, List.nil_append, ↓reduceIte, vcu, ↓vcd]
  refine vc_loop_c mixed (by kernel_rfl) [0, 1] (fun m a σ' => ∃ k : Nat, m + k = n ∧ a 6 = .int .i64 k ∧ a 5 = .int .i64 (csum rows c k) ∧ σ' = σ) n ⟨0, by simp, rfl, rfl, rfl⟩ ?_
  rintro m a σ' hcc ⟨k, hk, h6, h5, rfl⟩
  simp -implicitDefEqProofs (disch := omega) only [List.any_cons, List.any_nil, Nat.reduceEqDiff, List.map_cons, List.map_nil, Option.map_some, Option.map_none, List.nil_append, ↓reduceIte, vcu, ↓vcd] at hcc
  obtain ⟨h0, h1, -⟩ := hcc
  have hb := csum_le2 hbd hc k (by omega)
  by_cases hlt : k < n
  · obtain ⟨v, hx, hi⟩ := hv k (by rw [hsq.1]; exact hlt)
    have hat := hbd k c hlt hc
    have hrl := hsq.2 k hlt
    have hs : csum rows c (k + 1) = csum rows c k + (rows.getD k []).getD c 0 := rfl
    unfold en at hat
    generalize rows.getD k [] = row at hi hat hrl hs
    rcases hi with ⟨rfl, rfl⟩ | ⟨g, p, rfl, hg⟩
    · simp at hrl; omega
    · have hy := hg c (by omega)
      simp -implicitDefEqProofs (disch := omega) only [List.any_cons, List.any_nil, Nat.reduceEqDiff, List.map_cons, List.map_nil, Option.map_some, Option.map_none, List.nil_append, ↓reduceIte, vcu, ↓vcd, h0, h1, h5, h6, hx, hy]
      exact ⟨⟨trivial, trivial, trivial⟩, m - 1, by omega, k + 1, by omega, by simp, by rw [hs], trivial⟩
  · simp -implicitDefEqProofs (disch := omega) only [List.any_cons, List.any_nil, Nat.reduceEqDiff, List.map_cons, List.map_nil, Option.map_some, Option.map_none, List.nil_append, ↓reduceIte, vcu, ↓vcd, h0, h1, h5, h6]
    have e : k = n := by omega
    refine fin_one Try.results65 ⟨?_, rfl⟩
    simp -implicitDefEqProofs (disch := omega) only [List.any_cons, List.any_nil, Nat.reduceEqDiff, List.map_cons, List.map_nil, Option.map_some, Option.map_none, List.nil_append, ↓reduceIte, vcu, ↓vcd, h5]
    rw [e]

def fillB (T : List (List Int)) : List (List Int) := if TV T then fillV T else []
theorem fillV_le {T : List (List Int)} (hT : TV T) {a b : Nat} (ha : a < T.length) (hb : b < T.length) : 0 ≤ en (fillV T) a b ∧ en (fillV T) a b ≤ 36 := by
  have h := fillV_ok hT
  refine ⟨h.2.1 a b ha hb, ?_⟩
  have h1 := (h.2.2 a ha).1
  have h2 := (most_le hT _ (Nat.le_refl _)).2
  have hr := hT.2 a ha
  have h3 := (psum_le hr.2 T.length (by rw [hr.1]; exact Nat.le_refl _)).1
  rw [psum_sm ((fillV T).getD a [])] at h1
  have h4 := sm_one_le (f := fun o => ((fillV T).getD a []).getD o 0) (n := T.length) (k := b) (fun k hk => h.2.1 a k ha hk) hb
  unfold en
  omega
theorem fillX_le {T : List (List Int)} (hT : TV T) (K J : Nat) {a b : Nat} (ha : a < T.length) (hb : b < T.length) : 0 ≤ en (fillX T K J) a b ∧ en (fillX T K J) a b ≤ 36 := by
  have h := fillV_le hT ha hb
  rw [fillV, en_tabN _ ha hb] at h
  rw [fillX, en_tabN _ ha hb]
  split
  · exact h
  · omega
theorem fillX_sq (T : List (List Int)) (K J : Nat) : Sq T.length (fillX T K J) := tabN_sq _ _
theorem zeroT_tab (n : Nat) : zeroT n = tabN n fun _ _ => 0 := by
  rw [tab_of (zeroT_sq n)]
  exact tabN_ext fun a b _ _ => en_zero n a b

theorem specFill_at (σ : AHeap) (h o : Nat) (T : List (List Int)) (hv : RowsAt σ h o T) (hl : T.length ≤ 1048576) :
    ACall Try.prog w0 37 [.slice (some ⟨h, o, none⟩) T.length 1] σ fun r σ' => Sub σ σ' ∧ ∃ g q, r = .slice (some ⟨g, 0, none⟩) (fillB T).length 1 ∧ OwnT σ σ' g q (fillB T) := by
  unfold fillB
  refine acall_go mixed Try.func37 rfl good37 fun pr => ?_
  simp -implicitDefEqProofs (disch := omega) only [List.any_cons, List.any_nil, Nat.reduceEqDiff, List.map_cons, List.map_nil, Option.map_some, Option.map_none, List.nil_append, ↓reduceIte, vcu, ↓vcd]
  refine r_lit el23 (out := #[]) (by kernel_rfl) (by kernel_rfl) fun e1 σ1 n1 s1 v1 => ?_
  simp -implicitDefEqProofs (disch := omega) only [List.any_cons, List.any_nil, Nat.reduceEqDiff, List.map_cons, List.map_nil, Option.map_some, Option.map_none, List.nil_append, ↓reduceIte, vcu, ↓vcd]
  refine (specMost_at σ1 h o T (hv.sub s1) hl).mono ?_
  rintro r _ ⟨rfl, rfl⟩
  rename_i σ1
  unfold mostV
  by_cases hT : TV T
  case neg =>
    have hpos : 0 < T.length := by
      rcases Nat.eq_zero_or_pos T.length with e | e
      · exact absurd (show TV T from ⟨by omega, fun i hi => by omega⟩) hT
      · exact e
    rw [if_neg hT, if_neg hT]
    simp -implicitDefEqProofs (disch := omega) only [List.any_cons, List.any_nil, Nat.reduceEqDiff, List.map_cons, List.map_nil, Option.map_some, Option.map_none, List.nil_append, ↓reduceIte, vcu, ↓vcd, opK_some]
    refine vc_loop_c mixed (by kernel_rfl) [0, 3, 4] (fun m a σ' => a 5 = .int .i64 0 ∧ σ' = σ1) 0 ⟨rfl, rfl⟩ ?_
    rintro m a σ' hc ⟨h5, rfl⟩
    simp -implicitDefEqProofs (disch := omega) only [List.any_cons, List.any_nil, Nat.reduceEqDiff, List.map_cons, List.map_nil, Option.map_some, Option.map_none, List.nil_append, ↓reduceIte, vcu, ↓vcd] at hc
    obtain ⟨h0, h3, h4, -⟩ := hc
    simp -implicitDefEqProofs (disch := omega) only [List.any_cons, List.any_nil, Nat.reduceEqDiff, List.map_cons, List.map_nil, Option.map_some, Option.map_none, List.nil_append, ↓reduceIte, vcu, ↓vcd, h0, h3, h4, h5]
    refine vc_loop_c mixed (by kernel_rfl) [3] (fun m a σ2 => a 6 = .int .i64 0 ∧ σ2 = σ') 0 ⟨rfl, rfl⟩ ?_
    rintro m2 a2 σ2 hc2 ⟨h6, rfl⟩
    simp -implicitDefEqProofs (disch := omega) only [List.any_cons, List.any_nil, Nat.reduceEqDiff, List.map_cons, List.map_nil, Option.map_some, Option.map_none, List.nil_append, ↓reduceIte, vcu, ↓vcd, h3] at hc2
    obtain ⟨c3, -⟩ := hc2
    simp -implicitDefEqProofs (disch := omega) only [List.any_cons, List.any_nil, Nat.reduceEqDiff, List.map_cons, List.map_nil, Option.map_some, Option.map_none, List.nil_append, ↓reduceIte, vcu, ↓vcd, c3, h6]
    refine fin_one Try.results37 ⟨s1, e1, fun _ => 0, ?_, OwnT.nil _ v1 n1⟩
    simp -implicitDefEqProofs (disch := omega) only [List.any_cons, List.any_nil, Nat.reduceEqDiff, List.map_cons, List.map_nil, Option.map_some, Option.map_none, List.nil_append, ↓reduceIte, vcu, ↓vcd, c3]
    rfl
  rw [if_pos hT, if_pos hT]
  have h6 := hT.1
  have hM := most_le hT _ (Nat.le_refl _)
  obtain ⟨n, hn⟩ : ∃ n, T.length = n := ⟨_, rfl⟩
  rw [hn]
  simp -implicitDefEqProofs (disch := omega) only [List.any_cons, List.any_nil, Nat.reduceEqDiff, List.map_cons, List.map_nil, Option.map_some, Option.map_none, List.nil_append, ↓reduceIte, vcu, ↓vcd, opK_some]
  refine vc_loop_c mixed (by kernel_rfl) [0, 4] (fun m a σ' => ∃ (k g : Nat) (q : Nat → Nat), m + k = n ∧ a 3 = .slice (some ⟨g, 0, none⟩) k 1 ∧ a 5 = .int .i64 k ∧ Sub σ σ' ∧ OwnT σ σ' g q (List.replicate k (List.replicate n 0))) n ⟨0, e1, fun _ => 0, by simp, rfl, rfl, s1, OwnT.nil _ v1 n1⟩ ?_
  clear v1 n1
  rintro m a σ' hc ⟨k, g, q, hk, h3, h5, hs, hO⟩
  simp -implicitDefEqProofs (disch := omega) only [List.any_cons, List.any_nil, Nat.reduceEqDiff, List.map_cons, List.map_nil, Option.map_some, Option.map_none, List.nil_append, ↓reduceIte, vcu, ↓vcd] at hc
  obtain ⟨h0, h4, -⟩ := hc
  rw [hn] at hM
  by_cases hlt : k < n
  · simp -implicitDefEqProofs (disch := omega) only [List.any_cons, List.any_nil, Nat.reduceEqDiff, List.map_cons, List.map_nil, Option.map_some, Option.map_none, List.nil_append, ↓reduceIte, vcu, ↓vcd, h0, h3, h4, h5]
    refine r_makeI (kx := .i64) (ky := .i64) (l := n) (c := n) el30 (by omega) (by simp -implicitDefEqProofs (disch := omega) only [List.any_cons, List.any_nil, Nat.reduceEqDiff, List.map_cons, List.map_nil, Option.map_some, Option.map_none, List.nil_append, ↓reduceIte, vcu, ↓vcd]) (by simp -implicitDefEqProofs (disch := omega) only [List.any_cons, List.any_nil, Nat.reduceEqDiff, List.map_cons, List.map_nil, Option.map_some, Option.map_none, List.nil_append, ↓reduceIte, vcu, ↓vcd]) (by omega) fun z τ3 nz s3 e3 => ?_
    have hzg : z ≠ g := ne_of nz hO.at_
    refine r_lit el23 (out := #[.slice (some ⟨z, 0, none⟩) n 1]) (by simp -implicitDefEqProofs (disch := omega) only [List.any_cons, List.any_nil, Nat.reduceEqDiff, List.map_cons, List.map_nil, Option.map_some, Option.map_none, List.nil_append, ↓reduceIte, vcu, ↓vcd]; kernel_rfl) (by kernel_rfl) fun e4 τ4 n4 s4 v4 => ?_
    refine r_pushT (β := σ) (len := k) (g := g) (e := e4) (r := z) (q := q) (rows := List.replicate k (List.replicate n 0)) (row := List.replicate n 0) el23 (by omega) sl23 (by simp -implicitDefEqProofs (disch := omega) only [List.any_cons, List.any_nil, Nat.reduceEqDiff, List.map_cons, List.map_nil, Option.map_some, Option.map_none, List.nil_append, ↓reduceIte, vcu, ↓vcd, h3]) (by simp) (hO.sub (s3.trans s4)) (by simp -implicitDefEqProofs (disch := omega) only [List.any_cons, List.any_nil, Nat.reduceEqDiff, List.map_cons, List.map_nil, Option.map_some, Option.map_none, List.nil_append, ↓reduceIte, vcu, ↓vcd]) (by rw [v4]; simp [rowV]) (s4 _ _ e3) (free_sub hs nz) hzg (fun i hi => ne_of' nz (hO.row i hi)) (hs.trans (s3.trans s4)) (by omega) fun g' q' τ5 s5 hO5 _ _ => ?_
    simp -implicitDefEqProofs (disch := omega) only [List.any_cons, List.any_nil, Nat.reduceEqDiff, List.map_cons, List.map_nil, Option.map_some, Option.map_none, List.nil_append, ↓reduceIte, vcu, ↓vcd, h0, h4, h5]
    refine ⟨by simp [h0, h4, hn], m - 1, by omega, k + 1, g', q', by omega, by simp, by simp, s5, ?_⟩
    rw [List.replicate_succ']; exact hO5
  · have e2 : n = k := by omega
    subst e2
    have hO0 : OwnT σ σ' g q (fillX T 0 0) := by rw [fillX_zero, hn, ← zeroT_tab]; exact hO
    clear hO
    simp -implicitDefEqProofs (disch := omega) only [List.any_cons, List.any_nil, Nat.reduceEqDiff, List.map_cons, List.map_nil, Option.map_some, Option.map_none, List.nil_append, ↓reduceIte, vcu, ↓vcd, h0, h3, h4, h5]
    refine vc_loop_c mixed (by kernel_rfl) [0, 3, 4] (fun m a σ2 => ∃ K : Nat, m + K = n ∧ a 6 = .int .i64 K ∧ Sub σ σ2 ∧ OwnT σ σ2 g q (fillX T K 0)) n ⟨0, by simp, rfl, hs, hO0⟩ ?_
    clear hO0 hs
    rintro m2 a2 σ2 hc2 ⟨K, hK, h6', hs, hO⟩
    simp -implicitDefEqProofs (disch := omega) only [List.any_cons, List.any_nil, Nat.reduceEqDiff, List.map_cons, List.map_nil, Option.map_some, Option.map_none, List.nil_append, ↓reduceIte, vcu, ↓vcd, h0, h3, h4] at hc2
    obtain ⟨c0, c3, c4, -⟩ := hc2
    by_cases hKl : K < n
    · simp -implicitDefEqProofs (disch := omega) only [List.any_cons, List.any_nil, Nat.reduceEqDiff, List.map_cons, List.map_nil, Option.map_some, Option.map_none, List.nil_append, ↓reduceIte, vcu, ↓vcd, c0, c3, c4, h6']
      refine vc_loop_c mixed (by kernel_rfl) [0, 3, 4, 6] (fun m a σ3 => ∃ J : Nat, m + J = n ∧ a 7 = .int .i64 J ∧ Sub σ σ3 ∧ OwnT σ σ3 g q (fillX T K J)) n ⟨0, by simp, rfl, hs, hO⟩ ?_
      clear hO hs
      rintro m3 a3 σ3 hc3 ⟨J, hJ, h7, hs, hO⟩
      simp -implicitDefEqProofs (disch := omega) only [List.any_cons, List.any_nil, Nat.reduceEqDiff, List.map_cons, List.map_nil, Option.map_some, Option.map_none, List.nil_append, ↓reduceIte, vcu, ↓vcd, c0, c3, c4, h6'] at hc3
      obtain ⟨d0, d3, d4, d6, -⟩ := hc3
      have hsqX := fillX_sq T K J
      rw [hn] at hsqX
      by_cases hJl : J < n
      · obtain ⟨v, hx, hi⟩ := (hv.sub hs) K (by omega)
        have hrT := hT.2 K (by omega)
        have hgX := hO.get (i := K) (by rw [hsqX.1]; exact hKl)
        have hrX := hO.row K (by rw [hsqX.1]; exact hKl)
        have hlX := hsqX.2 K hKl
        have hval := fillX_val (T := T) (K := K) (J := J) (by omega) (by omega)
        rw [hn] at hval
        have hbX : ∀ a b, a < n → b < n → 0 ≤ en (fillX T K J) a b ∧ en (fillX T K J) a b ≤ 1000 := fun a b ha hb => by have := fillX_le hT K J (a := a) (b := b) (by omega) (by omega); omega
        have hbT : ∀ a b, a < n → b < n → 0 ≤ en T a b ∧ en T a b ≤ 1000 := fun a b ha hb => by have := hT.at (i := a) (j := b) (by omega) (by omega); unfold en; omega
        have p1 := psum_le hrT.2 n (by rw [hrT.1]; omega)
        have p2 := psum_le2 (m := 0) (xs := (fillX T K J).getD K []) (fun j hj => hbX K j hKl (by omega)) n (by omega)
        have p3 := csum_le2 hbT (c := J) hJl n (Nat.le_refl _)
        have p4 := csum_le2 hbX (c := J) hJl n (Nat.le_refl _)
        have s1c := sum2_calls (w0 := w0) σ3 v (T.getD K []) hi (by rw [hrT.1]; omega) (fun j hj => by have := hrT.2 j hj; omega)
        have s2c := sum2_calls (w0 := w0) σ3 _ ((fillX T K J).getD K []) (.inr ⟨q K, 0, rfl, intsAt_own hrX⟩) (by omega) (fun j hj => hbX K j hKl (by omega))
        rw [hrT.1, hn] at s1c
        rw [hlX] at s2c hgX
        have s3c := column2_at (w0 := w0) σ3 h o T J n (hv.sub hs) (by rw [← hn]; exact tv_sq hT) (by omega) hbT hJl
        have s4c := column2_at (w0 := w0) σ3 g 0 (fillX T K J) J n hO.rows hsqX (by omega) hbX hJl
        simp -implicitDefEqProofs (disch := omega) only [List.any_cons, List.any_nil, Nat.reduceEqDiff, List.map_cons, List.map_nil, Option.map_some, Option.map_none, List.nil_append, ↓reduceIte, vcu, ↓vcd, d0, d3, d4, d6, h7, hx]
        rw [r_callq]
        refine ⟨_, s1c, ?_⟩
        simp -implicitDefEqProofs (disch := omega) only [List.any_cons, List.any_nil, Nat.reduceEqDiff, List.map_cons, List.map_nil, Option.map_some, Option.map_none, List.nil_append, ↓reduceIte, vcu, ↓vcd, d0, d3, d4, d6, h7, hgX]
        rw [r_callq]
        refine ⟨_, s2c, ?_⟩
        simp -implicitDefEqProofs (disch := omega) only [List.any_cons, List.any_nil, Nat.reduceEqDiff, List.map_cons, List.map_nil, Option.map_some, Option.map_none, List.nil_append, ↓reduceIte, vcu, ↓vcd, d0, d3, d4, d6, h7]
        refine s3c.mono ?_
        rintro r _ ⟨rfl, rfl⟩
        rename_i σ3
        simp -implicitDefEqProofs (disch := omega) only [List.any_cons, List.any_nil, Nat.reduceEqDiff, List.map_cons, List.map_nil, Option.map_some, Option.map_none, List.nil_append, ↓reduceIte, vcu, ↓vcd, opK_some, d0, d3, d4, d6, h7]
        refine s4c.mono ?_
        rintro r _ ⟨rfl, rfl⟩
        rename_i σ3
        simp -implicitDefEqProofs (disch := omega) only [List.any_cons, List.any_nil, Nat.reduceEqDiff, List.map_cons, List.map_nil, Option.map_some, Option.map_none, List.nil_append, ↓reduceIte, vcu, ↓vcd, opK_some, d0, d3, d4, d6, h7, hgX]
        rw [hval]
        refine r_setI (g := q K) (i := 0 + J) (v := fillO (rN T) (cN T) K J) (by simp -implicitDefEqProofs (disch := omega) only [List.any_cons, List.any_nil, Nat.reduceEqDiff, List.map_cons, List.map_nil, Option.map_some, Option.map_none, List.nil_append, ↓reduceIte, vcu, ↓vcd]) (by simp -implicitDefEqProofs (disch := omega) only [List.any_cons, List.any_nil, Nat.reduceEqDiff, List.map_cons, List.map_nil, Option.map_some, Option.map_none, List.nil_append, ↓reduceIte, vcu, ↓vcd]) co3 hrX (by omega) fun τ5 k5 e5 => ?_
        rw [Nat.zero_add] at e5
        simp -implicitDefEqProofs (disch := omega) only [List.any_cons, List.any_nil, Nat.reduceEqDiff, List.map_cons, List.map_nil, Option.map_some, Option.map_none, List.nil_append, ↓reduceIte, vcu, ↓vcd, h7]
        refine ⟨by simp [d0, d3, d4, d6, c0, c3, c4, h0, h3, h4, h6'], m3 - 1, by omega, J + 1, by omega, by simp, k5.sub hs (hO.free K (by rw [hsqX.1]; exact hKl)), ?_⟩
        rw [← fillX_step (T := T) (K := K) (J := J) (by omega) (by omega)]
        exact hO.write (by rw [hsqX.1]; exact hKl) (by simp) k5 e5
      · have e : J = n := by omega
        subst e
        rw [← hn, fillX_next] at hO
        simp -implicitDefEqProofs (disch := omega) only [List.any_cons, List.any_nil, Nat.reduceEqDiff, List.map_cons, List.map_nil, Option.map_some, Option.map_none, List.nil_append, ↓reduceIte, vcu, ↓vcd, d0, d3, d4, d6, h7]
        refine ⟨by simp [d0, d3, d4, c0, c3, c4, h0, h3, h4], m2 - 1, by omega, K + 1, by omega, by simp, hs, hO⟩
    · have e : K = n := by omega
      subst e
      rw [← hn, fillX_done] at hO
      have hll : (fillV T).length = T.length := (tabN_sq T.length (fillO (rN T) (cN T))).1
      rw [hn] at hll
      simp -implicitDefEqProofs (disch := omega) only [List.any_cons, List.any_nil, Nat.reduceEqDiff, List.map_cons, List.map_nil, Option.map_some, Option.map_none, List.nil_append, ↓reduceIte, vcu, ↓vcd, c0, c3, c4, h6']
      refine fin_one Try.results37 ⟨hs, g, q, ?_, hO⟩
      simp -implicitDefEqProofs (disch := omega) only [List.any_cons, List.any_nil, Nat.reduceEqDiff, List.map_cons, List.map_nil, Option.map_some, Option.map_none, List.nil_append, ↓reduceIte, vcu, ↓vcd, c3, hll]
end Go.Proofs.Ytpcbgdgfdfpapaa
