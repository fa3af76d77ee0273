/- Clashes, by the reference. -/
import Derived.Test.YtgieeafdgdkkcaaXg
set_option linter.unusedSimpArgs false
set_option linter.unusedVariables false
namespace Go.Proofs.Ytgieeafdgdkkcaa
open Go Go.Abs Go.RowKit Go.Ban
variable {w0 : World}

theorem specCl_at (σ : AHeap) (h o : Nat) (p : List Int) (hv : IntsAt .i64 σ h o p) (hl : p.length ≤ 1048576) :
    ACall Try.prog w0 38 [.slice (some ⟨h, o, none⟩) p.length 1] σ fun r σ' => r = .int .i64 (clV p) ∧ σ' = σ := by
  unfold clV
  refine acall_go mixed Try.func38 rfl good38 fun pr => ?_
  simp -implicitDefEqProofs (disch := omega) only [List.any_cons, List.any_nil, Nat.reduceEqDiff, List.map_cons, List.map_nil, Option.map_some, Option.map_none, List.nil_append, ↓reduceIte, vcu0, vcu1, vcu2, vcu3, vcu4, vcu5, vcu6, vcu7, vcu8, vcu9, vcu10, vcu11, vcu12, vcu13, vcu14, vcu15, vcu16, vcu17, vcu18, vcu19, vcu20, vcu21, vcu22, ↓vcd0, ↓vcd1, ↓vcd2, ↓vcd3]
  refine (perm_at σ h o p hv hl).mono ?_
  rintro r _ ⟨rfl, rfl⟩
  rename_i σ
  by_cases hP : Perm p
  case neg =>
    rw [decide_eq_false hP, if_neg (fun hE : EO p => hP hE.2)]
    simp -implicitDefEqProofs (disch := omega) only [List.any_cons, List.any_nil, Nat.reduceEqDiff, List.map_cons, List.map_nil, Option.map_some, Option.map_none, List.nil_append, ↓reduceIte, vcu0, vcu1, vcu2, vcu3, vcu4, vcu5, vcu6, vcu7, vcu8, vcu9, vcu10, vcu11, vcu12, vcu13, vcu14, vcu15, vcu16, vcu17, vcu18, vcu19, vcu20, vcu21, vcu22, ↓vcd0, ↓vcd1, ↓vcd2, ↓vcd3, opK_some, Bool.not_false]
    refine fin_one Try.results38 ⟨?_, rfl⟩
    simp -implicitDefEqProofs (disch := omega) only [List.any_cons, List.any_nil, Nat.reduceEqDiff, List.map_cons, List.map_nil, Option.map_some, Option.map_none, List.nil_append, ↓reduceIte, vcu0, vcu1, vcu2, vcu3, vcu4, vcu5, vcu6, vcu7, vcu8, vcu9, vcu10, vcu11, vcu12, vcu13, vcu14, vcu15, vcu16, vcu17, vcu18, vcu19, vcu20, vcu21, vcu22, ↓vcd0, ↓vcd1, ↓vcd2, ↓vcd3]
  rw [decide_eq_true hP]
  simp -implicitDefEqProofs (disch := omega) only [List.any_cons, List.any_nil, Nat.reduceEqDiff, List.map_cons, List.map_nil, Option.map_some, Option.map_none, List.nil_append, ↓reduceIte, vcu0, vcu1, vcu2, vcu3, vcu4, vcu5, vcu6, vcu7, vcu8, vcu9, vcu10, vcu11, vcu12, vcu13, vcu14, vcu15, vcu16, vcu17, vcu18, vcu19, vcu20, vcu21, vcu22, ↓vcd0, ↓vcd1, ↓vcd2, ↓vcd3, opK_some, Bool.not_true]
  refine (l3Lines_at σ _).mono ?_
  rintro r _ ⟨rfl, rfl⟩
  rename_i σ
  by_cases hlg : lgOf p.length = 0
  · have e : decide (lgOf p.length ≠ 0) = false := by simp [hlg]
    rw [e, if_neg (fun hE : EO p => hE.1 hlg)]
    simp -implicitDefEqProofs (disch := omega) only [List.any_cons, List.any_nil, Nat.reduceEqDiff, List.map_cons, List.map_nil, Option.map_some, Option.map_none, List.nil_append, ↓reduceIte, vcu0, vcu1, vcu2, vcu3, vcu4, vcu5, vcu6, vcu7, vcu8, vcu9, vcu10, vcu11, vcu12, vcu13, vcu14, vcu15, vcu16, vcu17, vcu18, vcu19, vcu20, vcu21, vcu22, ↓vcd0, ↓vcd1, ↓vcd2, ↓vcd3, opK_some, Bool.not_false]
    refine fin_one Try.results38 ⟨?_, rfl⟩
    simp -implicitDefEqProofs (disch := omega) only [List.any_cons, List.any_nil, Nat.reduceEqDiff, List.map_cons, List.map_nil, Option.map_some, Option.map_none, List.nil_append, ↓reduceIte, vcu0, vcu1, vcu2, vcu3, vcu4, vcu5, vcu6, vcu7, vcu8, vcu9, vcu10, vcu11, vcu12, vcu13, vcu14, vcu15, vcu16, vcu17, vcu18, vcu19, vcu20, vcu21, vcu22, ↓vcd0, ↓vcd1, ↓vcd2, ↓vcd3]
  have hE : EO p := ⟨hlg, hP⟩
  have e : decide (lgOf p.length ≠ 0) = true := by simp [hlg]
  rw [e, if_pos hE]
  clear e
  obtain ⟨lg, e', hL, hq, -, hgd⟩ := hE.fn
  rw [e']
  have hle := hL.le
  generalize hLL : p.length = L at *
  have bound : ∀ k b, k < L → b ≤ k → allC L lg (qOf p) k + rowC L lg (qOf p) k b ≤ 64 := fun k b hk hb => by
    have h1 := allC_le L lg (qOf p) k
    have h2 := rowC_le L lg (qOf p) k b
    have h3 : k * (k - 1) ≤ 7 * 7 := Nat.mul_le_mul (by omega) (by omega)
    omega
  simp -implicitDefEqProofs (disch := omega) only [List.any_cons, List.any_nil, Nat.reduceEqDiff, List.map_cons, List.map_nil, Option.map_some, Option.map_none, List.nil_append, ↓reduceIte, vcu0, vcu1, vcu2, vcu3, vcu4, vcu5, vcu6, vcu7, vcu8, vcu9, vcu10, vcu11, vcu12, vcu13, vcu14, vcu15, vcu16, vcu17, vcu18, vcu19, vcu20, vcu21, vcu22, ↓vcd0, ↓vcd1, ↓vcd2, ↓vcd3, opK_some, Bool.not_true]
  refine vc_loop_c mixed (by kernel_rfl) [0] (fun m a τ => ∃ k : Nat, m + k = L ∧ a 4 = .int .i64 k ∧ a 3 = .int .i64 (allC L lg (qOf p) k : Nat) ∧ Sub σ τ) L ⟨0, by simp, rfl, rfl, Sub.refl _⟩ ?_
  rintro m a τ hc ⟨k, hk, h4, h3, hs⟩
  simp -implicitDefEqProofs (disch := omega) only [List.any_cons, List.any_nil, Nat.reduceEqDiff, List.map_cons, List.map_nil, Option.map_some, Option.map_none, List.nil_append, ↓reduceIte, vcu0, vcu1, vcu2, vcu3, vcu4, vcu5, vcu6, vcu7, vcu8, vcu9, vcu10, vcu11, vcu12, vcu13, vcu14, vcu15, vcu16, vcu17, vcu18, vcu19, vcu20, vcu21, vcu22, ↓vcd0, ↓vcd1, ↓vcd2, ↓vcd3] at hc
  obtain ⟨h0, -⟩ := hc
  by_cases hlt : k < L
  · simp -implicitDefEqProofs (disch := omega) only [List.any_cons, List.any_nil, Nat.reduceEqDiff, List.map_cons, List.map_nil, Option.map_some, Option.map_none, List.nil_append, ↓reduceIte, vcu0, vcu1, vcu2, vcu3, vcu4, vcu5, vcu6, vcu7, vcu8, vcu9, vcu10, vcu11, vcu12, vcu13, vcu14, vcu15, vcu16, vcu17, vcu18, vcu19, vcu20, vcu21, vcu22, ↓vcd0, ↓vcd1, ↓vcd2, ↓vcd3, h0, h4]
    refine vc_loop_c mixed (by kernel_rfl) [0, 4] (fun m a τ' => ∃ b : Nat, m + b = k ∧ a 5 = .int .i64 b ∧ a 3 = .int .i64 ((allC L lg (qOf p) k + rowC L lg (qOf p) k b : Nat) : Int) ∧ Sub σ τ') k ⟨0, by simp, rfl, by simp -implicitDefEqProofs (disch := omega) only [List.any_cons, List.any_nil, Nat.reduceEqDiff, List.map_cons, List.map_nil, Option.map_some, Option.map_none, List.nil_append, ↓reduceIte, vcu0, vcu1, vcu2, vcu3, vcu4, vcu5, vcu6, vcu7, vcu8, vcu9, vcu10, vcu11, vcu12, vcu13, vcu14, vcu15, vcu16, vcu17, vcu18, vcu19, vcu20, vcu21, vcu22, ↓vcd0, ↓vcd1, ↓vcd2, ↓vcd3, h3]; rfl, hs⟩ ?_
    rintro m2 a2 τ2 hc2 ⟨b, hb, h5, h3', hs2⟩
    simp -implicitDefEqProofs (disch := omega) only [List.any_cons, List.any_nil, Nat.reduceEqDiff, List.map_cons, List.map_nil, Option.map_some, Option.map_none, List.nil_append, ↓reduceIte, vcu0, vcu1, vcu2, vcu3, vcu4, vcu5, vcu6, vcu7, vcu8, vcu9, vcu10, vcu11, vcu12, vcu13, vcu14, vcu15, vcu16, vcu17, vcu18, vcu19, vcu20, vcu21, vcu22, ↓vcd0, ↓vcd1, ↓vcd2, ↓vcd3, h0, h4] at hc2
    obtain ⟨g0, g4, -⟩ := hc2
    by_cases hbk : b < k
    · have hx := hv.sub hs2 k (by omega)
      rw [hgd k hlt] at hx
      obtain ⟨y1, y2⟩ := wayV_ls hL (i := k) (o := qOf p k) hlt (hq.1 k hlt)
      obtain ⟨z1, z2⟩ := wayV_ls hL (i := b) (o := qOf p b) (by omega) (hq.1 b (by omega))
      simp -implicitDefEqProofs (disch := omega) only [List.any_cons, List.any_nil, Nat.reduceEqDiff, List.map_cons, List.map_nil, Option.map_some, Option.map_none, List.nil_append, ↓reduceIte, vcu0, vcu1, vcu2, vcu3, vcu4, vcu5, vcu6, vcu7, vcu8, vcu9, vcu10, vcu11, vcu12, vcu13, vcu14, vcu15, vcu16, vcu17, vcu18, vcu19, vcu20, vcu21, vcu22, ↓vcd0, ↓vcd1, ↓vcd2, ↓vcd3, g0, g4, h5, hx]
      refine (specWay_at τ2 L k (qOf p k) (by unfold InR; omega)).mono ?_
      rintro r τ3 ⟨y, rfl, s3, w3⟩
      rw [y2] at w3
      rw [decide_eq_true y1]
      obtain ⟨gx, rfl, v3, n3⟩ := ownI_row w3 (by rw [wayN_length]; omega)
      have hy := hv.sub (hs2.trans s3) b (by omega)
      rw [hgd b (by omega)] at hy
      simp -implicitDefEqProofs (disch := omega) only [List.any_cons, List.any_nil, Nat.reduceEqDiff, List.map_cons, List.map_nil, Option.map_some, Option.map_none, List.nil_append, ↓reduceIte, vcu0, vcu1, vcu2, vcu3, vcu4, vcu5, vcu6, vcu7, vcu8, vcu9, vcu10, vcu11, vcu12, vcu13, vcu14, vcu15, vcu16, vcu17, vcu18, vcu19, vcu20, vcu21, vcu22, ↓vcd0, ↓vcd1, ↓vcd2, ↓vcd3, opK_some, List.getElem?_toArray, List.getElem?_cons_zero, List.getElem?_cons_succ, g0, g4, h5, hy]
      refine (specWay_at τ3 L b (qOf p b) (by unfold InR; omega)).mono ?_
      rintro r τ4 ⟨y, rfl, s4, w4⟩
      rw [z2] at w4
      rw [decide_eq_true z1]
      obtain ⟨gy, rfl, v4, n4⟩ := ownI_row w4 (by rw [wayN_length]; omega)
      have v34 := s4 _ _ v3
      have hm := mt_ways L lg (qOf p) k b
      have hAl : (wayN L lg k (qOf p k)).length = lg := wayN_length _ _ _ _
      have hBl : (wayN L lg b (qOf p b)).length = lg := wayN_length _ _ _ _
      generalize wayN L lg k (qOf p k) = A at *
      generalize wayN L lg b (qOf p b) = B at *
      simp -implicitDefEqProofs (disch := omega) only [List.any_cons, List.any_nil, Nat.reduceEqDiff, List.map_cons, List.map_nil, Option.map_some, Option.map_none, List.nil_append, ↓reduceIte, vcu0, vcu1, vcu2, vcu3, vcu4, vcu5, vcu6, vcu7, vcu8, vcu9, vcu10, vcu11, vcu12, vcu13, vcu14, vcu15, vcu16, vcu17, vcu18, vcu19, vcu20, vcu21, vcu22, ↓vcd0, ↓vcd1, ↓vcd2, ↓vcd3, opK_some, List.getElem?_toArray, List.getElem?_cons_zero, List.getElem?_cons_succ, g0, g4, h5]
      refine vc_loop_c mixed (by kernel_rfl) [0, 3, 4, 5, 6, 8] (fun m a τ' => ∃ s : Nat, m + s = lg ∧ a 11 = .int .i64 s ∧ a 10 = .bool (mt A B s) ∧ τ' = τ4) lg ⟨0, by simp, rfl, rfl, rfl⟩ ?_
      rintro m3 a3 _ hc3 ⟨s, hs3, h11, h10, rfl⟩
      simp -implicitDefEqProofs (disch := omega) only [List.any_cons, List.any_nil, Nat.reduceEqDiff, List.map_cons, List.map_nil, Option.map_some, Option.map_none, List.nil_append, ↓reduceIte, vcu0, vcu1, vcu2, vcu3, vcu4, vcu5, vcu6, vcu7, vcu8, vcu9, vcu10, vcu11, vcu12, vcu13, vcu14, vcu15, vcu16, vcu17, vcu18, vcu19, vcu20, vcu21, vcu22, ↓vcd0, ↓vcd1, ↓vcd2, ↓vcd3, h0, h4, g0, g4, h5, h3'] at hc3
      obtain ⟨e0, e3, e4, e5, e6, e8, -⟩ := hc3
      rename_i τ4
      have hbd := bound k b hlt (by omega)
      have hrow : rowC L lg (qOf p) k (b + 1) = rowC L lg (qOf p) k b + (bif cl L lg (qOf p) k b then 1 else 0) := rfl
      by_cases hsl : s < lg
      · have lx := intsAt_own v34 s (by omega)
        have ly := intsAt_own v4 s (by omega)
        have hst := mt_succ A B s
        cases hcb : mt A B s with
        | true =>
          rw [hcb] at h10 hst
          simp -implicitDefEqProofs (disch := omega) only [List.any_cons, List.any_nil, Nat.reduceEqDiff, List.map_cons, List.map_nil, Option.map_some, Option.map_none, List.nil_append, ↓reduceIte, vcu0, vcu1, vcu2, vcu3, vcu4, vcu5, vcu6, vcu7, vcu8, vcu9, vcu10, vcu11, vcu12, vcu13, vcu14, vcu15, vcu16, vcu17, vcu18, vcu19, vcu20, vcu21, vcu22, ↓vcd0, ↓vcd1, ↓vcd2, ↓vcd3, e0, e3, e4, e5, e6, e8, h11, h10]
          refine ⟨⟨g0.symm, h3'.symm, g4.symm, h5.symm, trivial, trivial, trivial⟩, m3 - 1, by omega, s + 1, by omega, by simp, by rw [hst]; rfl, trivial⟩
        | false =>
          rw [hcb, Bool.false_or] at hst
          rw [hcb] at h10
          simp -implicitDefEqProofs (disch := omega) only [List.any_cons, List.any_nil, Nat.reduceEqDiff, List.map_cons, List.map_nil, Option.map_some, Option.map_none, List.nil_append, ↓reduceIte, vcu0, vcu1, vcu2, vcu3, vcu4, vcu5, vcu6, vcu7, vcu8, vcu9, vcu10, vcu11, vcu12, vcu13, vcu14, vcu15, vcu16, vcu17, vcu18, vcu19, vcu20, vcu21, vcu22, ↓vcd0, ↓vcd1, ↓vcd2, ↓vcd3, e0, e3, e4, e5, e6, e8, h11, h10, lx, ly, hAl, hBl]
          refine ⟨⟨g0.symm, h3'.symm, g4.symm, h5.symm, trivial, trivial, trivial⟩, m3 - 1, by omega, s + 1, by omega, by simp, by rw [hst], trivial⟩
      · have es : s = lg := by omega
        subst es
        rw [hm] at h10
        cases hcl : cl L s (qOf p) k b with
        | true =>
          rw [hcl] at h10 hrow
          simp -implicitDefEqProofs (disch := omega) only [List.any_cons, List.any_nil, Nat.reduceEqDiff, List.map_cons, List.map_nil, Option.map_some, Option.map_none, List.nil_append, ↓reduceIte, vcu0, vcu1, vcu2, vcu3, vcu4, vcu5, vcu6, vcu7, vcu8, vcu9, vcu10, vcu11, vcu12, vcu13, vcu14, vcu15, vcu16, vcu17, vcu18, vcu19, vcu20, vcu21, vcu22, ↓vcd0, ↓vcd1, ↓vcd2, ↓vcd3, e0, e3, e4, e5, e6, e8, h11, h10]
          refine ⟨⟨h0.symm, h4.symm, trivial⟩, m2 - 1, by omega, b + 1, by omega, by simp, ?_, hs2.trans (s3.trans s4)⟩
          rw [hrow]; simp; omega
        | false =>
          rw [hcl] at h10 hrow
          simp -implicitDefEqProofs (disch := omega) only [List.any_cons, List.any_nil, Nat.reduceEqDiff, List.map_cons, List.map_nil, Option.map_some, Option.map_none, List.nil_append, ↓reduceIte, vcu0, vcu1, vcu2, vcu3, vcu4, vcu5, vcu6, vcu7, vcu8, vcu9, vcu10, vcu11, vcu12, vcu13, vcu14, vcu15, vcu16, vcu17, vcu18, vcu19, vcu20, vcu21, vcu22, ↓vcd0, ↓vcd1, ↓vcd2, ↓vcd3, e0, e3, e4, e5, e6, e8, h11, h10]
          refine ⟨⟨h0.symm, h4.symm, trivial⟩, m2 - 1, by omega, b + 1, by omega, by simp, ?_, hs2.trans (s3.trans s4)⟩
          rw [hrow]; simp
    · have e : b = k := by omega
      subst e
      simp -implicitDefEqProofs (disch := omega) only [List.any_cons, List.any_nil, Nat.reduceEqDiff, List.map_cons, List.map_nil, Option.map_some, Option.map_none, List.nil_append, ↓reduceIte, vcu0, vcu1, vcu2, vcu3, vcu4, vcu5, vcu6, vcu7, vcu8, vcu9, vcu10, vcu11, vcu12, vcu13, vcu14, vcu15, vcu16, vcu17, vcu18, vcu19, vcu20, vcu21, vcu22, ↓vcd0, ↓vcd1, ↓vcd2, ↓vcd3, g0, g4, h5]
      exact ⟨⟨trivial, trivial⟩, m - 1, by omega, b + 1, by omega, by simp, h3', hs2⟩
  · have e : k = L := by omega
    subst e
    simp -implicitDefEqProofs (disch := omega) only [List.any_cons, List.any_nil, Nat.reduceEqDiff, List.map_cons, List.map_nil, Option.map_some, Option.map_none, List.nil_append, ↓reduceIte, vcu0, vcu1, vcu2, vcu3, vcu4, vcu5, vcu6, vcu7, vcu8, vcu9, vcu10, vcu11, vcu12, vcu13, vcu14, vcu15, vcu16, vcu17, vcu18, vcu19, vcu20, vcu21, vcu22, ↓vcd0, ↓vcd1, ↓vcd2, ↓vcd3, h0, h4, h3]
    refine fin_drop Try.results38 σ hs ⟨?_, rfl⟩
    simp -implicitDefEqProofs (disch := omega) only [List.any_cons, List.any_nil, Nat.reduceEqDiff, List.map_cons, List.map_nil, Option.map_some, Option.map_none, List.nil_append, ↓reduceIte, vcu0, vcu1, vcu2, vcu3, vcu4, vcu5, vcu6, vcu7, vcu8, vcu9, vcu10, vcu11, vcu12, vcu13, vcu14, vcu15, vcu16, vcu17, vcu18, vcu19, vcu20, vcu21, vcu22, ↓vcd0, ↓vcd1, ↓vcd2, ↓vcd3, h3]
end Go.Proofs.Ytgieeafdgdkkcaa
