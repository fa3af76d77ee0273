/- StepSet, of the reference and of the program. -/
import Derived.Test.YtgieeafdgdkkcaaXh
import Derived.Test.YtgieeafdgdkkcaaXj
set_option linter.unusedSimpArgs false
set_option linter.unusedVariables false
namespace Go.Proofs.Ytgieeafdgdkkcaa
open Go Go.Abs Go.RowKit Go.Ban
variable {w0 : World}

def setN (L lg : Nat) (q : Nat → Nat) : List Bool := tabB (L / 2 * lg) (finS L lg q)
def setV (p : List Int) : List Bool := if clV p = 0 then setN p.length (lgOf p.length) (qOf p) else []
theorem clV_zero {p : List Int} (h : clV p = 0) : EO p ∧ NoClash p.length (lgOf p.length) (qOf p) := by
  unfold clV at h
  split at h
  · rename_i hE
    exact ⟨hE, (noClash_iff _ _ _).1 (by omega)⟩
  · omega
theorem setV_length (p : List Int) : (setV p).length ≤ 12 := by
  unfold setV; split
  · rename_i h
    obtain ⟨hE, _⟩ := clV_zero h
    obtain ⟨lg, e', hL, _⟩ := hE.fn
    rw [e']; unfold setN; rw [tabB_length]
    generalize p.length = L at *
    rcases hL with ⟨rfl, rfl⟩ | ⟨rfl, rfl⟩ | ⟨rfl, rfl⟩ <;> decide
  · simp
theorem set_or (M : Nat) (f : Nat → Bool) (i : Nat) (b : Bool) (f' : Nat → Bool) (hf : ∀ j, f' j = (f j || (i == j && b))) : (if b = true then (tabB M f).set i true else tabB M f) = tabB M f' := by
  cases b with
  | true =>
    rw [if_pos rfl, tabB_set]
    refine tabB_congr fun j _ => ?_
    rw [hf]
    by_cases e : j = i
    · subst e; simp
    · have : (i == j) = false := beq_eq_false_iff_ne.2 fun h => e h.symm
      rw [if_neg e, this]; simp
  | false =>
    rw [if_neg (by simp)]
    exact tabB_congr fun j _ => by rw [hf]; simp
theorem set_over (M : Nat) (f : Nat → Bool) (i : Nat) (b : Bool) (f' : Nat → Bool) (hf : ∀ j, f' j = (f j || (i == j && b))) (hb : b = false → f i = false) : (tabB M f).set i b = tabB M f' := by
  rw [tabB_set]
  refine tabB_congr fun j _ => ?_
  rw [hf]
  by_cases e : j = i
  · subst e
    rw [if_pos rfl]
    cases b with
    | true => simp
    | false => rw [hb rfl]; simp
  · have : (i == j) = false := beq_eq_false_iff_ne.2 fun h => e h.symm
    rw [if_neg e, this]; simp

theorem specSet_at (σ : AHeap) (h o : Nat) (p : List Int) (hv : IntsAt .i64 σ h o p) (hl : p.length ≤ 1048576) :
    ACall Try.prog w0 46 [.slice (some ⟨h, o, none⟩) p.length 1] σ fun r σ' => ∃ v, r = .tuple #[v, .bool (decide (clV p = 0))] ∧ Sub σ σ' ∧ OwnB σ σ' v (setV p) := by
  refine acall_go mixed Try.func46 rfl good46 fun pr => ?_
  simp -implicitDefEqProofs (disch := omega) only [List.any_cons, List.any_nil, Nat.reduceEqDiff, List.map_cons, List.map_nil, Option.map_some, Option.map_none, List.nil_append, ↓reduceIte, vcu0, vcu1, vcu2, vcu3, vcu4, vcu5, vcu6, vcu7, vcu8, vcu9, vcu10, vcu11, vcu12, vcu13, vcu14, vcu15, vcu16, vcu17, vcu18, vcu19, vcu20, vcu21, vcu22, ↓vcd0, ↓vcd1, ↓vcd2, ↓vcd3]
  refine (specCl_at σ h o p hv hl).mono ?_
  rintro r _ ⟨rfl, rfl⟩
  rename_i σ
  unfold setV
  by_cases hc0 : clV p = 0
  case neg =>
    rw [decide_eq_false hc0, if_neg hc0]
    simp -implicitDefEqProofs (disch := omega) only [List.any_cons, List.any_nil, Nat.reduceEqDiff, List.map_cons, List.map_nil, Option.map_some, Option.map_none, List.nil_append, ↓reduceIte, vcu0, vcu1, vcu2, vcu3, vcu4, vcu5, vcu6, vcu7, vcu8, vcu9, vcu10, vcu11, vcu12, vcu13, vcu14, vcu15, vcu16, vcu17, vcu18, vcu19, vcu20, vcu21, vcu22, ↓vcd0, ↓vcd1, ↓vcd2, ↓vcd3, opK_some]
    refine r_lit el27 (out := #[]) (by kernel_rfl) (by kernel_rfl) fun e0 τ n0 s0 v0 => ?_
    simp -implicitDefEqProofs (disch := omega) only [List.any_cons, List.any_nil, Nat.reduceEqDiff, List.map_cons, List.map_nil, Option.map_some, Option.map_none, List.nil_append, ↓reduceIte, vcu0, vcu1, vcu2, vcu3, vcu4, vcu5, vcu6, vcu7, vcu8, vcu9, vcu10, vcu11, vcu12, vcu13, vcu14, vcu15, vcu16, vcu17, vcu18, vcu19, vcu20, vcu21, vcu22, ↓vcd0, ↓vcd1, ↓vcd2, ↓vcd3]
    refine fin_two Try.results46 ⟨.slice (some ⟨e0, 0, none⟩) 0 1, ?_, s0, .inr ⟨e0, rfl, v0, n0⟩⟩
    simp -implicitDefEqProofs (disch := omega) only [List.any_cons, List.any_nil, Nat.reduceEqDiff, List.map_cons, List.map_nil, Option.map_some, Option.map_none, List.nil_append, ↓reduceIte, vcu0, vcu1, vcu2, vcu3, vcu4, vcu5, vcu6, vcu7, vcu8, vcu9, vcu10, vcu11, vcu12, vcu13, vcu14, vcu15, vcu16, vcu17, vcu18, vcu19, vcu20, vcu21, vcu22, ↓vcd0, ↓vcd1, ↓vcd2, ↓vcd3]
  obtain ⟨hE, hNC⟩ := clV_zero hc0
  obtain ⟨lg, e', hL, hq, -, hgd⟩ := hE.fn
  rw [decide_eq_true hc0, if_pos hc0, e']
  rw [e'] at hNC
  have hle := hL.le
  generalize hLL : p.length = L at *
  have hst : stepV (L : Int) = ((L / 2 * lg : Nat) : Int) := stepV_ls hL
  have hsm : L / 2 * lg ≤ 12 := by rcases hL with ⟨rfl, rfl⟩ | ⟨rfl, rfl⟩ | ⟨rfl, rfl⟩ <;> decide
  simp -implicitDefEqProofs (disch := omega) only [List.any_cons, List.any_nil, Nat.reduceEqDiff, List.map_cons, List.map_nil, Option.map_some, Option.map_none, List.nil_append, ↓reduceIte, vcu0, vcu1, vcu2, vcu3, vcu4, vcu5, vcu6, vcu7, vcu8, vcu9, vcu10, vcu11, vcu12, vcu13, vcu14, vcu15, vcu16, vcu17, vcu18, vcu19, vcu20, vcu21, vcu22, ↓vcd0, ↓vcd1, ↓vcd2, ↓vcd3, opK_some, hc0, ne_eq, not_true_eq_false, decide_false]
  refine (specStepMany_at σ (L : Int)).mono ?_
  rintro r _ ⟨rfl, rfl⟩
  rename_i σ
  rw [hst]
  simp -implicitDefEqProofs (disch := omega) only [List.any_cons, List.any_nil, Nat.reduceEqDiff, List.map_cons, List.map_nil, Option.map_some, Option.map_none, List.nil_append, ↓reduceIte, vcu0, vcu1, vcu2, vcu3, vcu4, vcu5, vcu6, vcu7, vcu8, vcu9, vcu10, vcu11, vcu12, vcu13, vcu14, vcu15, vcu16, vcu17, vcu18, vcu19, vcu20, vcu21, vcu22, ↓vcd0, ↓vcd1, ↓vcd2, ↓vcd3, opK_some]
  refine r_makeB (kx := .i64) (ky := .i64) (l := L / 2 * lg) (c := L / 2 * lg) el27 (by omega) (by simp -implicitDefEqProofs (disch := omega) only [List.any_cons, List.any_nil, Nat.reduceEqDiff, List.map_cons, List.map_nil, Option.map_some, Option.map_none, List.nil_append, ↓reduceIte, vcu0, vcu1, vcu2, vcu3, vcu4, vcu5, vcu6, vcu7, vcu8, vcu9, vcu10, vcu11, vcu12, vcu13, vcu14, vcu15, vcu16, vcu17, vcu18, vcu19, vcu20, vcu21, vcu22, ↓vcd0, ↓vcd1, ↓vcd2, ↓vcd3]) (by simp -implicitDefEqProofs (disch := omega) only [List.any_cons, List.any_nil, Nat.reduceEqDiff, List.map_cons, List.map_nil, Option.map_some, Option.map_none, List.nil_append, ↓reduceIte, vcu0, vcu1, vcu2, vcu3, vcu4, vcu5, vcu6, vcu7, vcu8, vcu9, vcu10, vcu11, vcu12, vcu13, vcu14, vcu15, vcu16, vcu17, vcu18, vcu19, vcu20, vcu21, vcu22, ↓vcd0, ↓vcd1, ↓vcd2, ↓vcd3]) (by omega) fun g τ ng s1 e1 => ?_
  rw [← tabB_false] at e1
  simp -implicitDefEqProofs (disch := omega) only [List.any_cons, List.any_nil, Nat.reduceEqDiff, List.map_cons, List.map_nil, Option.map_some, Option.map_none, List.nil_append, ↓reduceIte, vcu0, vcu1, vcu2, vcu3, vcu4, vcu5, vcu6, vcu7, vcu8, vcu9, vcu10, vcu11, vcu12, vcu13, vcu14, vcu15, vcu16, vcu17, vcu18, vcu19, vcu20, vcu21, vcu22, ↓vcd0, ↓vcd1, ↓vcd2, ↓vcd3]
  refine vc_loop_c mixed (by kernel_rfl) [0, 4, 5] (fun m a τ' => ∃ k : Nat, m + k = L ∧ a 6 = .int .i64 k ∧ Sub σ τ' ∧ τ' g = some ⟨bools (tabB (L / 2 * lg) (setOf L lg (qOf p) k 0)), false⟩) L ⟨0, by simp, rfl, s1, by rw [e1]; congr 3⟩ ?_
  rintro m a τ2 hc ⟨k, hk, h6, hs, hgk⟩
  simp -implicitDefEqProofs (disch := omega) only [List.any_cons, List.any_nil, Nat.reduceEqDiff, List.map_cons, List.map_nil, Option.map_some, Option.map_none, List.nil_append, ↓reduceIte, vcu0, vcu1, vcu2, vcu3, vcu4, vcu5, vcu6, vcu7, vcu8, vcu9, vcu10, vcu11, vcu12, vcu13, vcu14, vcu15, vcu16, vcu17, vcu18, vcu19, vcu20, vcu21, vcu22, ↓vcd0, ↓vcd1, ↓vcd2, ↓vcd3, hc0] at hc
  obtain ⟨h0, h4, h5, -⟩ := hc
  by_cases hlt : k < L
  · have hx := hv.sub hs k (by omega)
    rw [hgd k hlt] at hx
    obtain ⟨y1, y2⟩ := wayV_ls hL (i := k) (o := qOf p k) hlt (hq.1 k hlt)
    simp -implicitDefEqProofs (disch := omega) only [List.any_cons, List.any_nil, Nat.reduceEqDiff, List.map_cons, List.map_nil, Option.map_some, Option.map_none, List.nil_append, ↓reduceIte, vcu0, vcu1, vcu2, vcu3, vcu4, vcu5, vcu6, vcu7, vcu8, vcu9, vcu10, vcu11, vcu12, vcu13, vcu14, vcu15, vcu16, vcu17, vcu18, vcu19, vcu20, vcu21, vcu22, ↓vcd0, ↓vcd1, ↓vcd2, ↓vcd3, h0, h4, h5, h6, hx]
    refine (specWay_at τ2 L k (qOf p k) (by unfold InR; omega)).mono ?_
    rintro r τ3 ⟨y, rfl, s3, w3⟩
    rw [y2] at w3
    rw [decide_eq_true y1]
    obtain ⟨gx, rfl, v3, n3⟩ := ownI_row w3 (by rw [wayN_length]; omega)
    have hgx : gx ≠ g := ne_of n3 hgk
    rw [wayN_length]
    simp -implicitDefEqProofs (disch := omega) only [List.any_cons, List.any_nil, Nat.reduceEqDiff, List.map_cons, List.map_nil, Option.map_some, Option.map_none, List.nil_append, ↓reduceIte, vcu0, vcu1, vcu2, vcu3, vcu4, vcu5, vcu6, vcu7, vcu8, vcu9, vcu10, vcu11, vcu12, vcu13, vcu14, vcu15, vcu16, vcu17, vcu18, vcu19, vcu20, vcu21, vcu22, ↓vcd0, ↓vcd1, ↓vcd2, ↓vcd3, opK_some, List.getElem?_toArray, List.getElem?_cons_zero, List.getElem?_cons_succ, h0, h4, h5, h6]
    refine vc_loop_c mixed (by kernel_rfl) [0, 4, 5, 6, 8] (fun m a τ' => ∃ s : Nat, m + s = lg ∧ a 10 = .int .i64 s ∧ a 7 = .int .i64 (wp L lg (qOf p k) k s : Nat) ∧ Kept g τ3 τ' ∧ τ' g = some ⟨bools (tabB (L / 2 * lg) (setOf L lg (qOf p) k s)), false⟩) lg ⟨0, by simp, rfl, rfl, Kept.refl _ _, s3 _ _ hgk⟩ ?_
    rintro m2 a2 τ4 hc2 ⟨s, hs2, h10, h7, hk4, hg4⟩
    simp -implicitDefEqProofs (disch := omega) only [List.any_cons, List.any_nil, Nat.reduceEqDiff, List.map_cons, List.map_nil, Option.map_some, Option.map_none, List.nil_append, ↓reduceIte, vcu0, vcu1, vcu2, vcu3, vcu4, vcu5, vcu6, vcu7, vcu8, vcu9, vcu10, vcu11, vcu12, vcu13, vcu14, vcu15, vcu16, vcu17, vcu18, vcu19, vcu20, vcu21, vcu22, ↓vcd0, ↓vcd1, ↓vcd2, ↓vcd3, h0, h4, h5, h6] at hc2
    obtain ⟨g0, g4, g5, g6, g8, -⟩ := hc2
    have v4 := hk4.at v3 hgx
    by_cases hsl : s < lg
    · have hwx := wp_lt hL (qOf p k) hlt s
      have hX := sh_lt hL hwx
      have hwh := wp_half hL (qOf p k) hlt s
      have hix := ix_lt hL (qOf p) hlt hsl
      have hstep := setOf_step L lg (qOf p) k s
      have lx := intsAt_own v4 s (by rw [wayN_length]; omega)
      rw [wayN_getD hsl] at lx
      have e1 : 2 * (wp L lg (qOf p k) k s : Int) % (L : Int) + 2 * (wp L lg (qOf p k) k s : Int) / (L : Int) = ((sh L (wp L lg (qOf p k) k s) : Nat) : Int) := by unfold sh; push_cast; rfl
      have e2 : 0 ≤ 2 * (wp L lg (qOf p k) k s : Int) % (L : Int) ∧ 2 * (wp L lg (qOf p k) k s : Int) % (L : Int) < L := ⟨Int.emod_nonneg _ (by omega), Int.emod_lt_of_pos _ (by omega)⟩
      have e3 : 0 ≤ 2 * (wp L lg (qOf p k) k s : Int) / (L : Int) ∧ 2 * (wp L lg (qOf p k) k s : Int) / (L : Int) ≤ 2 * (wp L lg (qOf p k) k s : Int) := ⟨Int.ediv_nonneg (by omega) (by omega), Int.ediv_le_self _ (by omega)⟩
      have hI : ix L lg (qOf p) k s = s * (L / 2) + sh L (wp L lg (qOf p k) k s) / 2 := by unfold ix; rw [hwh]
      have hD : dif L lg (qOf p) k s = decide (wp L lg (qOf p k) k (s + 1) ≠ sh L (wp L lg (qOf p k) k s)) := rfl
      obtain ⟨i1, i2⟩ := pos_idx hL hsl hX
      have e4 : (s : Int) * (L : Int) / 2 = ((s * (L / 2) : Nat) : Int) := by rw [← i2]; push_cast; rfl
      have hsL : 0 ≤ (s : Int) * (L : Int) ∧ (s : Int) * (L : Int) ≤ 24 := by
        have h1 : s * L ≤ 3 * 8 := Nat.mul_le_mul (by omega) (by omega)
        have h2 : (s : Int) * (L : Int) = ((s * L : Nat) : Int) := by push_cast; rfl
        omega
      have hor := set_or (L / 2 * lg) (setOf L lg (qOf p) k s) (ix L lg (qOf p) k s) (dif L lg (qOf p) k s) _ hstep
      have hlb : (tabB (L / 2 * lg) (setOf L lg (qOf p) k s)).length = L / 2 * lg := tabB_length _ _
      generalize tabB (L / 2 * lg) (setOf L lg (qOf p) k s) = R at *
      generalize hR' : tabB (L / 2 * lg) (setOf L lg (qOf p) k (s + 1)) = R' at *
      generalize hW : wp L lg (qOf p k) k (s + 1) = W at *
      generalize wp L lg (qOf p k) k s = w at *
      generalize sh L w = X at *
      have e5 : ((s * (L / 2) : Nat) : Int) + (X : Int) / 2 = ((ix L lg (qOf p) k s : Nat) : Int) := by rw [hI]; omega
      generalize ix L lg (qOf p) k s = I at *
      generalize dif L lg (qOf p) k s = D at *
      generalize s * (L / 2) = A at *
      have hA : A ≤ 24 := by omega
      by_cases hXW : X = W
      · have hd : D = false := by rw [hD]; simp [hXW]
        rw [hd, if_neg (by simp)] at hor
        subst hXW
        simp -implicitDefEqProofs (disch := omega) only [List.any_cons, List.any_nil, Nat.reduceEqDiff, List.map_cons, List.map_nil, Option.map_some, Option.map_none, List.nil_append, ↓reduceIte, vcu0, vcu1, vcu2, vcu3, vcu4, vcu5, vcu6, vcu7, vcu8, vcu9, vcu10, vcu11, vcu12, vcu13, vcu14, vcu15, vcu16, vcu17, vcu18, vcu19, vcu20, vcu21, vcu22, ↓vcd0, ↓vcd1, ↓vcd2, ↓vcd3, g0, g4, g5, g6, g8, h7, h10, e1, lx, ne_eq, not_true_eq_false, decide_false]
        exact ⟨⟨h0.symm, h4.symm, h5.symm, h6.symm, trivial, trivial⟩, m2 - 1, by omega, s + 1, by omega, by simp, by rw [hW], hk4, by rw [hR', ← hor]; exact hg4⟩
      · have hd : D = true := by rw [hD]; simp; exact fun e => hXW e.symm
        rw [hd, if_pos rfl] at hor
        have hne : ¬ (X : Int) = (W : Int) := by omega
        simp -implicitDefEqProofs (disch := omega) only [List.any_cons, List.any_nil, Nat.reduceEqDiff, List.map_cons, List.map_nil, Option.map_some, Option.map_none, List.nil_append, ↓reduceIte, vcu0, vcu1, vcu2, vcu3, vcu4, vcu5, vcu6, vcu7, vcu8, vcu9, vcu10, vcu11, vcu12, vcu13, vcu14, vcu15, vcu16, vcu17, vcu18, vcu19, vcu20, vcu21, vcu22, ↓vcd0, ↓vcd1, ↓vcd2, ↓vcd3, g0, g4, g5, g6, g8, h7, h10, e1, lx, e4, e5]
        refine r_setB (g := g) (i := 0 + I) (v := true) (by simp -implicitDefEqProofs (disch := omega) only [List.any_cons, List.any_nil, Nat.reduceEqDiff, List.map_cons, List.map_nil, Option.map_some, Option.map_none, List.nil_append, ↓reduceIte, vcu0, vcu1, vcu2, vcu3, vcu4, vcu5, vcu6, vcu7, vcu8, vcu9, vcu10, vcu11, vcu12, vcu13, vcu14, vcu15, vcu16, vcu17, vcu18, vcu19, vcu20, vcu21, vcu22, ↓vcd0, ↓vcd1, ↓vcd2, ↓vcd3, Int.toNat_natCast]) (by simp -implicitDefEqProofs (disch := omega) only [List.any_cons, List.any_nil, Nat.reduceEqDiff, List.map_cons, List.map_nil, Option.map_some, Option.map_none, List.nil_append, ↓reduceIte, vcu0, vcu1, vcu2, vcu3, vcu4, vcu5, vcu6, vcu7, vcu8, vcu9, vcu10, vcu11, vcu12, vcu13, vcu14, vcu15, vcu16, vcu17, vcu18, vcu19, vcu20, vcu21, vcu22, ↓vcd0, ↓vcd1, ↓vcd2, ↓vcd3]) co4 hg4 (by omega) fun τ5 k5 e5' => ?_
        have v5 := k5.at v4 hgx
        have lx5 := intsAt_own v5 s (by rw [wayN_length]; omega)
        rw [wayN_getD hsl, hW] at lx5
        rw [Nat.zero_add, hor] at e5'
        simp -implicitDefEqProofs (disch := omega) only [List.any_cons, List.any_nil, Nat.reduceEqDiff, List.map_cons, List.map_nil, Option.map_some, Option.map_none, List.nil_append, ↓reduceIte, vcu0, vcu1, vcu2, vcu3, vcu4, vcu5, vcu6, vcu7, vcu8, vcu9, vcu10, vcu11, vcu12, vcu13, vcu14, vcu15, vcu16, vcu17, vcu18, vcu19, vcu20, vcu21, vcu22, ↓vcd0, ↓vcd1, ↓vcd2, ↓vcd3, g0, g4, g5, g6, g8, h7, h10, lx5]
        exact ⟨⟨h0.symm, h4.symm, h5.symm, h6.symm, trivial, trivial⟩, m2 - 1, by omega, s + 1, by omega, by simp, by rw [hW], hk4.trans k5, by rw [hR']; exact e5'⟩
    · have e : s = lg := by omega
      subst e
      simp -implicitDefEqProofs (disch := omega) only [List.any_cons, List.any_nil, Nat.reduceEqDiff, List.map_cons, List.map_nil, Option.map_some, Option.map_none, List.nil_append, ↓reduceIte, vcu0, vcu1, vcu2, vcu3, vcu4, vcu5, vcu6, vcu7, vcu8, vcu9, vcu10, vcu11, vcu12, vcu13, vcu14, vcu15, vcu16, vcu17, vcu18, vcu19, vcu20, vcu21, vcu22, ↓vcd0, ↓vcd1, ↓vcd2, ↓vcd3, g0, g4, g5, g6, g8, h7, h10]
      refine ⟨⟨trivial, trivial, trivial, trivial⟩, m - 1, by omega, k + 1, by omega, by simp, hk4.sub (hs.trans s3) ng, ?_⟩
      rw [hg4]; congr 3
      exact tabB_congr fun i _ => setOf_next L s (qOf p) k i
  · have e : k = L := by omega
    subst e
    simp -implicitDefEqProofs (disch := omega) only [List.any_cons, List.any_nil, Nat.reduceEqDiff, List.map_cons, List.map_nil, Option.map_some, Option.map_none, List.nil_append, ↓reduceIte, vcu0, vcu1, vcu2, vcu3, vcu4, vcu5, vcu6, vcu7, vcu8, vcu9, vcu10, vcu11, vcu12, vcu13, vcu14, vcu15, vcu16, vcu17, vcu18, vcu19, vcu20, vcu21, vcu22, ↓vcd0, ↓vcd1, ↓vcd2, ↓vcd3, h0, h4, h5, h6]
    refine fin_two Try.results46 ⟨.slice (some ⟨g, 0, none⟩) (k / 2 * lg) 1, ?_, hs, .inr ⟨g, ?_, hgk, ng⟩⟩
    · simp -implicitDefEqProofs (disch := omega) only [List.any_cons, List.any_nil, Nat.reduceEqDiff, List.map_cons, List.map_nil, Option.map_some, Option.map_none, List.nil_append, ↓reduceIte, vcu0, vcu1, vcu2, vcu3, vcu4, vcu5, vcu6, vcu7, vcu8, vcu9, vcu10, vcu11, vcu12, vcu13, vcu14, vcu15, vcu16, vcu17, vcu18, vcu19, vcu20, vcu21, vcu22, ↓vcd0, ↓vcd1, ↓vcd2, ↓vcd3, h5]
    · unfold setN; rw [tabB_length]

theorem implSet_at (σ : AHeap) (h o : Nat) (p : List Int) (hv : IntsAt .i64 σ h o p) (hl : p.length ≤ 1048576) :
    ACall Try.prog w0 44 [.slice (some ⟨h, o, none⟩) p.length 1] σ fun r σ' => ∃ v, r = .tuple #[v, .bool (decide (clV p = 0))] ∧ Sub σ σ' ∧ OwnB σ σ' v (setV p) := by
  refine acall_go mixed Try.func44 rfl good44 fun pr => ?_
  simp -implicitDefEqProofs (disch := omega) only [List.any_cons, List.any_nil, Nat.reduceEqDiff, List.map_cons, List.map_nil, Option.map_some, Option.map_none, List.nil_append, ↓reduceIte, vcu0, vcu1, vcu2, vcu3, vcu4, vcu5, vcu6, vcu7, vcu8, vcu9, vcu10, vcu11, vcu12, vcu13, vcu14, vcu15, vcu16, vcu17, vcu18, vcu19, vcu20, vcu21, vcu22, ↓vcd0, ↓vcd1, ↓vcd2, ↓vcd3]
  refine (implCl_at σ h o p hv hl).mono ?_
  rintro r _ ⟨rfl, rfl⟩
  rename_i σ
  unfold setV
  by_cases hc0 : clV p = 0
  case neg =>
    rw [decide_eq_false hc0, if_neg hc0]
    simp -implicitDefEqProofs (disch := omega) only [List.any_cons, List.any_nil, Nat.reduceEqDiff, List.map_cons, List.map_nil, Option.map_some, Option.map_none, List.nil_append, ↓reduceIte, vcu0, vcu1, vcu2, vcu3, vcu4, vcu5, vcu6, vcu7, vcu8, vcu9, vcu10, vcu11, vcu12, vcu13, vcu14, vcu15, vcu16, vcu17, vcu18, vcu19, vcu20, vcu21, vcu22, ↓vcd0, ↓vcd1, ↓vcd2, ↓vcd3, opK_some]
    refine fin_two Try.results44 ⟨.slice none 0 0, ?_, Sub.refl _, .inl ⟨rfl, rfl⟩⟩
    simp -implicitDefEqProofs (disch := omega) only [List.any_cons, List.any_nil, Nat.reduceEqDiff, List.map_cons, List.map_nil, Option.map_some, Option.map_none, List.nil_append, ↓reduceIte, vcu0, vcu1, vcu2, vcu3, vcu4, vcu5, vcu6, vcu7, vcu8, vcu9, vcu10, vcu11, vcu12, vcu13, vcu14, vcu15, vcu16, vcu17, vcu18, vcu19, vcu20, vcu21, vcu22, ↓vcd0, ↓vcd1, ↓vcd2, ↓vcd3]
  obtain ⟨hE, hNC⟩ := clV_zero hc0
  obtain ⟨lg, e', hL, hq, -, hgd⟩ := hE.fn
  rw [decide_eq_true hc0, if_pos hc0, e']
  rw [e'] at hNC
  have hle := hL.le
  have hsw := fun τ (hs : Sub σ τ) => stepWays_at (w0 := w0) τ h o p (hv.sub hs) hE lg e'
  generalize hLL : p.length = L at *
  have hst : stepV (L : Int) = ((L / 2 * lg : Nat) : Int) := stepV_ls hL
  have hsm : L / 2 * lg ≤ 12 := by rcases hL with ⟨rfl, rfl⟩ | ⟨rfl, rfl⟩ | ⟨rfl, rfl⟩ <;> decide
  have hhalf : (L : Int) / 2 = ((L / 2 : Nat) : Int) := by omega
  simp -implicitDefEqProofs (disch := omega) only [List.any_cons, List.any_nil, Nat.reduceEqDiff, List.map_cons, List.map_nil, Option.map_some, Option.map_none, List.nil_append, ↓reduceIte, vcu0, vcu1, vcu2, vcu3, vcu4, vcu5, vcu6, vcu7, vcu8, vcu9, vcu10, vcu11, vcu12, vcu13, vcu14, vcu15, vcu16, vcu17, vcu18, vcu19, vcu20, vcu21, vcu22, ↓vcd0, ↓vcd1, ↓vcd2, ↓vcd3, opK_some, hc0, ne_eq, not_true_eq_false, decide_false, hhalf]
  refine (implStepMany_at σ (L : Int)).mono ?_
  rintro r _ ⟨rfl, rfl⟩
  rename_i σ
  rw [hst]
  simp -implicitDefEqProofs (disch := omega) only [List.any_cons, List.any_nil, Nat.reduceEqDiff, List.map_cons, List.map_nil, Option.map_some, Option.map_none, List.nil_append, ↓reduceIte, vcu0, vcu1, vcu2, vcu3, vcu4, vcu5, vcu6, vcu7, vcu8, vcu9, vcu10, vcu11, vcu12, vcu13, vcu14, vcu15, vcu16, vcu17, vcu18, vcu19, vcu20, vcu21, vcu22, ↓vcd0, ↓vcd1, ↓vcd2, ↓vcd3, opK_some]
  refine r_makeB (kx := .i64) (ky := .i64) (l := L / 2 * lg) (c := L / 2 * lg) el27 (by omega) (by simp -implicitDefEqProofs (disch := omega) only [List.any_cons, List.any_nil, Nat.reduceEqDiff, List.map_cons, List.map_nil, Option.map_some, Option.map_none, List.nil_append, ↓reduceIte, vcu0, vcu1, vcu2, vcu3, vcu4, vcu5, vcu6, vcu7, vcu8, vcu9, vcu10, vcu11, vcu12, vcu13, vcu14, vcu15, vcu16, vcu17, vcu18, vcu19, vcu20, vcu21, vcu22, ↓vcd0, ↓vcd1, ↓vcd2, ↓vcd3]) (by simp -implicitDefEqProofs (disch := omega) only [List.any_cons, List.any_nil, Nat.reduceEqDiff, List.map_cons, List.map_nil, Option.map_some, Option.map_none, List.nil_append, ↓reduceIte, vcu0, vcu1, vcu2, vcu3, vcu4, vcu5, vcu6, vcu7, vcu8, vcu9, vcu10, vcu11, vcu12, vcu13, vcu14, vcu15, vcu16, vcu17, vcu18, vcu19, vcu20, vcu21, vcu22, ↓vcd0, ↓vcd1, ↓vcd2, ↓vcd3]) (by omega) fun g τ ng s1 e1 => ?_
  rw [← tabB_false] at e1
  simp -implicitDefEqProofs (disch := omega) only [List.any_cons, List.any_nil, Nat.reduceEqDiff, List.map_cons, List.map_nil, Option.map_some, Option.map_none, List.nil_append, ↓reduceIte, vcu0, vcu1, vcu2, vcu3, vcu4, vcu5, vcu6, vcu7, vcu8, vcu9, vcu10, vcu11, vcu12, vcu13, vcu14, vcu15, vcu16, vcu17, vcu18, vcu19, vcu20, vcu21, vcu22, ↓vcd0, ↓vcd1, ↓vcd2, ↓vcd3]
  refine (hsw τ s1).mono ?_
  rintro r τ1 ⟨gw, vs, rfl, hW, s2⟩
  simp -implicitDefEqProofs (disch := omega) only [List.any_cons, List.any_nil, Nat.reduceEqDiff, List.map_cons, List.map_nil, Option.map_some, Option.map_none, List.nil_append, ↓reduceIte, vcu0, vcu1, vcu2, vcu3, vcu4, vcu5, vcu6, vcu7, vcu8, vcu9, vcu10, vcu11, vcu12, vcu13, vcu14, vcu15, vcu16, vcu17, vcu18, vcu19, vcu20, vcu21, vcu22, ↓vcd0, ↓vcd1, ↓vcd2, ↓vcd3, opK_some]
  have hgw : gw ≠ g → True := fun _ => trivial
  refine vc_loop_c mixed (by kernel_rfl) [0, 4, 5, 22, 23] (fun m a τ' => ∃ k : Nat, m + k = L ∧ a 24 = .int .i64 k ∧ Kept g τ1 τ' ∧ τ' g = some ⟨bools (tabB (L / 2 * lg) (setOf L lg (qOf p) k 0)), false⟩) L ⟨0, by simp, rfl, Kept.refl _ _, by rw [s2 _ _ e1]; congr 3⟩ ?_
  rintro m a τ2 hc ⟨k, hk, h24, hkp, hgk⟩
  simp -implicitDefEqProofs (disch := omega) only [List.any_cons, List.any_nil, Nat.reduceEqDiff, List.map_cons, List.map_nil, Option.map_some, Option.map_none, List.nil_append, ↓reduceIte, vcu0, vcu1, vcu2, vcu3, vcu4, vcu5, vcu6, vcu7, vcu8, vcu9, vcu10, vcu11, vcu12, vcu13, vcu14, vcu15, vcu16, vcu17, vcu18, vcu19, vcu20, vcu21, vcu22, ↓vcd0, ↓vcd1, ↓vcd2, ↓vcd3, hc0, hhalf] at hc
  obtain ⟨h0, h4, h5, h22, h23, -⟩ := hc
  have hne : gw ≠ g := fun e => by
    have h1 := s2 _ _ e1
    rw [← e, hW.at_] at h1
    have h2 : vs = bools (tabB (L / 2 * lg) fun _ => false) := by cases h1; rfl
    obtain ⟨x, c1, _⟩ := hW.row 0 (by omega)
    rw [h2] at c1
    simp only [bools, tabB, List.map_map, List.getElem?_map, Option.map_eq_some_iff] at c1
    obtain ⟨_, _, c2⟩ := c1
    cases c2
  have hWk : ∀ {τ'}, Kept g τ1 τ' → ∀ k, k < L → ∃ x, ld τ' gw (0 + k) = some (.slice (some ⟨x, 0, none⟩) lg 1) ∧ τ' x = some ⟨ints .i64 (wayN L lg k (qOf p k)), false⟩ ∧ x ≠ g := fun {τ'} hK k hk => by
    obtain ⟨x, c1, c2, c3⟩ := hW.row k hk
    have hxg : x ≠ g := fun e => by
      have h1 := s2 _ _ e1
      rw [← e, c2] at h1
      have h2 : ints .i64 (wayN L lg k (qOf p k)) = bools (tabB (L / 2 * lg) fun _ => false) := congrArg AObj.cells (Option.some.inj h1)
      have h3 := congrArg (fun l => l[0]?) h2
      simp only [ints, bools, tabB, wayN, tabI, List.map_map, List.getElem?_map] at h3
      rw [List.getElem?_range (show 0 < lg by omega), List.getElem?_range (show 0 < L / 2 * lg by have := half_pos hL; exact Nat.mul_pos this (by omega))] at h3
      simp at h3
    rw [wayN_length] at c1
    exact ⟨x, ld_of (hK.at hW.at_ hne) (by rw [Nat.zero_add]; exact c1), hK.at c2 hxg, hxg⟩
  by_cases hlt : k < L
  · obtain ⟨x, lx, vx, hxg⟩ := hWk hkp k hlt
    simp -implicitDefEqProofs (disch := omega) only [List.any_cons, List.any_nil, Nat.reduceEqDiff, List.map_cons, List.map_nil, Option.map_some, Option.map_none, List.nil_append, ↓reduceIte, vcu0, vcu1, vcu2, vcu3, vcu4, vcu5, vcu6, vcu7, vcu8, vcu9, vcu10, vcu11, vcu12, vcu13, vcu14, vcu15, vcu16, vcu17, vcu18, vcu19, vcu20, vcu21, vcu22, ↓vcd0, ↓vcd1, ↓vcd2, ↓vcd3, h0, h4, h5, h22, h23, h24, lx, Nat.mul_one]
    refine vc_loop_c mixed (by kernel_rfl) [0, 4, 5, 22, 23, 24, 30, 31] (fun m a τ' => ∃ s : Nat, m + s = lg ∧ a 32 = .int .i64 s ∧ a 8 = .int .i64 (wp L lg (qOf p k) k s : Nat) ∧ Kept g τ1 τ' ∧ τ' g = some ⟨bools (tabB (L / 2 * lg) (setOf L lg (qOf p) k s)), false⟩) lg ⟨0, by simp, rfl, rfl, hkp, hgk⟩ ?_
    rintro m2 a2 τ4 hc2 ⟨s, hs2, h32, h8, hk4, hg4⟩
    simp -implicitDefEqProofs (disch := omega) only [List.any_cons, List.any_nil, Nat.reduceEqDiff, List.map_cons, List.map_nil, Option.map_some, Option.map_none, List.nil_append, ↓reduceIte, vcu0, vcu1, vcu2, vcu3, vcu4, vcu5, vcu6, vcu7, vcu8, vcu9, vcu10, vcu11, vcu12, vcu13, vcu14, vcu15, vcu16, vcu17, vcu18, vcu19, vcu20, vcu21, vcu22, ↓vcd0, ↓vcd1, ↓vcd2, ↓vcd3, h0, h4, h5, h22, h23, h24] at hc2
    obtain ⟨g0, g4, g5, g22, g23, g24, g30, g31, -⟩ := hc2
    by_cases hsl : s < lg
    · have hx4 : τ4 x = some ⟨ints .i64 (wayN L lg k (qOf p k)), false⟩ := by
        obtain ⟨x', c1, c2, c3⟩ := hW.row k hlt
        obtain ⟨x2, d1, d2, d3⟩ := hWk hk4 k hlt
        have : x2 = x := by
          have q1 := ld_of (hk4.at hW.at_ hne) (by rw [Nat.zero_add]; exact c1 : vs[0 + k]? = _)
          have q2 := ld_of (hkp.at hW.at_ hne) (by rw [Nat.zero_add]; exact c1 : vs[0 + k]? = _)
          rw [q1] at d1
          rw [q2] at lx
          simp only [Option.some.injEq, Value.slice.injEq, Addr.mk.injEq] at d1 lx
          omega
        rw [← this]; exact d2
      have hwx := wp_lt hL (qOf p k) hlt s
      have hX := sh_lt hL hwx
      have hW1 := wp_lt hL (qOf p k) hlt (s + 1)
      have hix := ix_lt hL (qOf p) hlt hsl
      have hstep := setOf_step L lg (qOf p) k s
      have ly := intsAt_own hx4 s (by rw [wayN_length]; omega)
      rw [wayN_getD hsl] at ly
      have hI : ix L lg (qOf p) k s = s * (L / 2) + wp L lg (qOf p k) k (s + 1) / 2 := rfl
      have hD : dif L lg (qOf p) k s = decide (wp L lg (qOf p k) k (s + 1) ≠ sh L (wp L lg (qOf p k) k s)) := rfl
      have hag := fun hd => setOf_agree hL hNC hlt hsl hd
      have hov := set_over (L / 2 * lg) (setOf L lg (qOf p) k s) (ix L lg (qOf p) k s) (dif L lg (qOf p) k s) _ hstep hag
      have hlb : (tabB (L / 2 * lg) (setOf L lg (qOf p) k s)).length = L / 2 * lg := tabB_length _ _
      have hsh := shifted_at (w0 := w0) τ4 L lg (wp L lg (qOf p k) k s) hL hwx
      have e4 : (s : Int) * ((L / 2 : Nat) : Int) = ((s * (L / 2) : Nat) : Int) := by push_cast; rfl
      have hmul : s * (L / 2) ≤ 3 * 4 := Nat.mul_le_mul (by omega) (by omega)
      clear hag
      generalize tabB (L / 2 * lg) (setOf L lg (qOf p) k s) = R at *
      generalize hR' : tabB (L / 2 * lg) (setOf L lg (qOf p) k (s + 1)) = R' at *
      generalize hWW : wp L lg (qOf p k) k (s + 1) = W at *
      generalize wp L lg (qOf p k) k s = w at *
      generalize sh L w = X at *
      have e5 : ((s * (L / 2) : Nat) : Int) + (W : Int) / 2 = ((ix L lg (qOf p) k s : Nat) : Int) := by rw [hI]; omega
      generalize ix L lg (qOf p) k s = I at *
      generalize dif L lg (qOf p) k s = D at *
      generalize s * (L / 2) = A at *
      have hDi : decide ((W : Int) ≠ (X : Int)) = D := by
        rw [hD]; by_cases e : W = X
        · simp [e]
        · have : ¬ (W : Int) = (X : Int) := by omega
          simp [e, this]
      simp -implicitDefEqProofs (disch := omega) only [List.any_cons, List.any_nil, Nat.reduceEqDiff, List.map_cons, List.map_nil, Option.map_some, Option.map_none, List.nil_append, ↓reduceIte, vcu0, vcu1, vcu2, vcu3, vcu4, vcu5, vcu6, vcu7, vcu8, vcu9, vcu10, vcu11, vcu12, vcu13, vcu14, vcu15, vcu16, vcu17, vcu18, vcu19, vcu20, vcu21, vcu22, ↓vcd0, ↓vcd1, ↓vcd2, ↓vcd3, g0, g4, g5, g22, g23, g24, g30, g31, h8, h32, ly, Nat.mul_one]
      refine hsh.mono ?_
      rintro r _ ⟨rfl, rfl⟩
      rename_i τ4
      simp -implicitDefEqProofs (disch := omega) only [List.any_cons, List.any_nil, Nat.reduceEqDiff, List.map_cons, List.map_nil, Option.map_some, Option.map_none, List.nil_append, ↓reduceIte, vcu0, vcu1, vcu2, vcu3, vcu4, vcu5, vcu6, vcu7, vcu8, vcu9, vcu10, vcu11, vcu12, vcu13, vcu14, vcu15, vcu16, vcu17, vcu18, vcu19, vcu20, vcu21, vcu22, ↓vcd0, ↓vcd1, ↓vcd2, ↓vcd3, opK_some, g0, g4, g5, g22, g23, g24, g30, g31, h8, h32, e4, e5, hDi]
      refine r_setB (g := g) (i := 0 + I) (v := D) (by simp -implicitDefEqProofs (disch := omega) only [List.any_cons, List.any_nil, Nat.reduceEqDiff, List.map_cons, List.map_nil, Option.map_some, Option.map_none, List.nil_append, ↓reduceIte, vcu0, vcu1, vcu2, vcu3, vcu4, vcu5, vcu6, vcu7, vcu8, vcu9, vcu10, vcu11, vcu12, vcu13, vcu14, vcu15, vcu16, vcu17, vcu18, vcu19, vcu20, vcu21, vcu22, ↓vcd0, ↓vcd1, ↓vcd2, ↓vcd3, Int.toNat_natCast]) (by simp -implicitDefEqProofs (disch := omega) only [List.any_cons, List.any_nil, Nat.reduceEqDiff, List.map_cons, List.map_nil, Option.map_some, Option.map_none, List.nil_append, ↓reduceIte, vcu0, vcu1, vcu2, vcu3, vcu4, vcu5, vcu6, vcu7, vcu8, vcu9, vcu10, vcu11, vcu12, vcu13, vcu14, vcu15, vcu16, vcu17, vcu18, vcu19, vcu20, vcu21, vcu22, ↓vcd0, ↓vcd1, ↓vcd2, ↓vcd3]) co4 hg4 (by omega) fun τ5 k5 e5' => ?_
      rw [Nat.zero_add, hov] at e5'
      simp -implicitDefEqProofs (disch := omega) only [List.any_cons, List.any_nil, Nat.reduceEqDiff, List.map_cons, List.map_nil, Option.map_some, Option.map_none, List.nil_append, ↓reduceIte, vcu0, vcu1, vcu2, vcu3, vcu4, vcu5, vcu6, vcu7, vcu8, vcu9, vcu10, vcu11, vcu12, vcu13, vcu14, vcu15, vcu16, vcu17, vcu18, vcu19, vcu20, vcu21, vcu22, ↓vcd0, ↓vcd1, ↓vcd2, ↓vcd3, g0, g4, g5, g22, g23, g24, g30, g31, h8, h32]
      exact ⟨⟨h0.symm, h4.symm, h5.symm, h22.symm, h23.symm, h24.symm, trivial, trivial, trivial⟩, m2 - 1, by omega, s + 1, by omega, by simp, by rw [hWW], hk4.trans k5, by rw [hR']; exact e5'⟩
    · have e : s = lg := by omega
      subst e
      simp -implicitDefEqProofs (disch := omega) only [List.any_cons, List.any_nil, Nat.reduceEqDiff, List.map_cons, List.map_nil, Option.map_some, Option.map_none, List.nil_append, ↓reduceIte, vcu0, vcu1, vcu2, vcu3, vcu4, vcu5, vcu6, vcu7, vcu8, vcu9, vcu10, vcu11, vcu12, vcu13, vcu14, vcu15, vcu16, vcu17, vcu18, vcu19, vcu20, vcu21, vcu22, ↓vcd0, ↓vcd1, ↓vcd2, ↓vcd3, g0, g4, g5, g22, g23, g24, g30, g31, h8, h32]
      refine ⟨⟨trivial, trivial, trivial, trivial, trivial, trivial⟩, m - 1, by omega, k + 1, by omega, by simp, hk4, ?_⟩
      rw [hg4]; congr 3
      exact tabB_congr fun i _ => setOf_next L s (qOf p) k i
  · have e : k = L := by omega
    subst e
    simp -implicitDefEqProofs (disch := omega) only [List.any_cons, List.any_nil, Nat.reduceEqDiff, List.map_cons, List.map_nil, Option.map_some, Option.map_none, List.nil_append, ↓reduceIte, vcu0, vcu1, vcu2, vcu3, vcu4, vcu5, vcu6, vcu7, vcu8, vcu9, vcu10, vcu11, vcu12, vcu13, vcu14, vcu15, vcu16, vcu17, vcu18, vcu19, vcu20, vcu21, vcu22, ↓vcd0, ↓vcd1, ↓vcd2, ↓vcd3, h0, h4, h5, h22, h23, h24]
    refine fin_two Try.results44 ⟨.slice (some ⟨g, 0, none⟩) (k / 2 * lg) 1, ?_, hkp.sub (s1.trans s2) ng, .inr ⟨g, ?_, hgk, ng⟩⟩
    · simp -implicitDefEqProofs (disch := omega) only [List.any_cons, List.any_nil, Nat.reduceEqDiff, List.map_cons, List.map_nil, Option.map_some, Option.map_none, List.nil_append, ↓reduceIte, vcu0, vcu1, vcu2, vcu3, vcu4, vcu5, vcu6, vcu7, vcu8, vcu9, vcu10, vcu11, vcu12, vcu13, vcu14, vcu15, vcu16, vcu17, vcu18, vcu19, vcu20, vcu21, vcu22, ↓vcd0, ↓vcd1, ↓vcd2, ↓vcd3, h5]
    · unfold setN; rw [tabB_length]
end Go.Proofs.Ytgieeafdgdkkcaa
