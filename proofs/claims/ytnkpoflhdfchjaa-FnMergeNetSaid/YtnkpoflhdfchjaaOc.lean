/- All inputs of 0 and 1, one after the other. -/
import Derived.Test.YtnkpoflhdfchjaaOb
set_option linter.unusedSimpArgs false
set_option linter.unusedVariables false
namespace Go.Proofs.Ytnkpoflhdfchjaa
open Go Go.Abs Go.RowKit
variable {w0 : World}

theorem abin_shl1 {t : TypeId} {n : Nat} (h : n ≤ 62) : abin Try.prog t .shl (.int .i64 1) (.int .i64 (n : Int)) = some (.int .i64 ((2 ^ n : Nat) : Int)) := by
  have hp : 2 ^ n ≤ 2 ^ 62 := Nat.pow_le_pow_right (by omega) h
  have h1 : (0 : Int) ≤ (n : Int) := by omega
  have h2 : min n IntKind.i64.bits = n := Nat.min_eq_left (by show n ≤ 64; omega)
  simp only [abin, if_pos h1, Int.toNat_natCast, h2, Int.one_mul]
  have e : ((2 : Int) ^ n) = ((2 ^ n : Nat) : Int) := by norm_cast
  rw [e]
  have h3 : 2 ^ 62 = 4611686018427387904 := rfl
  rw [h3] at hp
  generalize 2 ^ n = N at hp
  rw [wrap_i64_ok (by omega)]
theorem abin_shrN {t : TypeId} {k i : Nat} (h : i ≤ 63) : abin Try.prog t .shr (.int .i64 (k : Int)) (.int .i64 (i : Int)) = some (.int .i64 ((k / 2 ^ i : Nat) : Int)) := by
  have h1 : (0 : Int) ≤ (i : Int) := by omega
  have h2 : min i IntKind.i64.bits = i := Nat.min_eq_left (by show i ≤ 64; omega)
  simp only [abin, if_pos h1, Int.toNat_natCast, h2]
  rw [Int.fdiv_eq_ediv_of_nonneg _ (Int.pow_nonneg (by omega))]
  norm_cast
theorem abin_and1 {t : TypeId} {k : Nat} (h : k ≤ 9223372036854775807) : abin Try.prog t .and (.int .i64 (k : Int)) (.int .i64 1) = some (.int .i64 ((k % 2 : Nat) : Int)) := by
  simp only [abin, if_true]
  congr 2
  exact and_one k h

theorem bitInputs_at (σ : AHeap) (n : Int) : ACall Try.prog w0 85 [.int .i64 n] σ fun r σ' => ∃ b, σ b = none ∧ r = .func (.func 97) #[] #[.pointer (some ⟨b, 0, none⟩)] ∧ Sub σ σ' ∧ σ' b = some ⟨[.int .i64 n], false⟩ := by
  refine acall_go mixed Try.func85 rfl good85 fun pr => ?_
  simp -implicitDefEqProofs (disch := omega) only [List.any_cons, List.any_nil, Nat.reduceEqDiff, List.map_cons, List.map_nil, Option.map_some, Option.map_none, List.nil_append, ↓reduceIte, vcu0, vcu1, vcu2, vcu3, vcu4, vcu5, vcu6, vcu7, vcu8, vcu9, vcu10, vcu11, vcu12, vcu13, vcu14, vcu15, vcu16, vcu17, vcu18, vcu19, vcu20, vcu21, vcu22, vcu23, vcu24, vcu25, vcu26, ↓vcd0, ↓vcd1, ↓vcd2, ↓vcd3]
  refine r_boxed fun b τ nb sb eb => ?_
  replace eb : τ b = some ⟨[.int .i64 n], false⟩ := eb
  simp -implicitDefEqProofs (disch := omega) only [List.any_cons, List.any_nil, Nat.reduceEqDiff, List.map_cons, List.map_nil, Option.map_some, Option.map_none, List.nil_append, ↓reduceIte, vcu0, vcu1, vcu2, vcu3, vcu4, vcu5, vcu6, vcu7, vcu8, vcu9, vcu10, vcu11, vcu12, vcu13, vcu14, vcu15, vcu16, vcu17, vcu18, vcu19, vcu20, vcu21, vcu22, vcu23, vcu24, vcu25, vcu26, ↓vcd0, ↓vcd1, ↓vcd2, ↓vcd3]
  refine fin_one Try.results85 ⟨b, nb, ?_, sb, eb⟩
  simp -implicitDefEqProofs (disch := omega) only [List.any_cons, List.any_nil, Nat.reduceEqDiff, List.map_cons, List.map_nil, Option.map_some, Option.map_none, List.nil_append, ↓reduceIte, vcu0, vcu1, vcu2, vcu3, vcu4, vcu5, vcu6, vcu7, vcu8, vcu9, vcu10, vcu11, vcu12, vcu13, vcu14, vcu15, vcu16, vcu17, vcu18, vcu19, vcu20, vcu21, vcu22, vcu23, vcu24, vcu25, vcu26, ↓vcd0, ↓vcd1, ↓vcd2, ↓vcd3]

theorem bits_iter {pr1 : Prot} {l : Nat} {σ : AHeap} (b n : Nat) (hn : n ≤ 6) (I : Nat → AHeap → Prop) (X : AHeap → Prop) (hI0 : I 0 σ) (hIb : ∀ k τ, I k τ → τ b = some ⟨[.int .i64 n], false⟩)
    (hY : ∀ k, k < 2 ^ n → ∀ τ0 τ g, I k τ0 → τ0 g = none → Sub τ0 τ → τ g = some ⟨ints .i64 (bitsL n k), false⟩ →
      AYield Try.prog w0 pr1 l [.int .i64 k, .slice (some ⟨g, 0, none⟩) n 1] τ fun v τ' => (v = .bool true ∧ I (k + 1) τ') ∨ (v = .bool false ∧ X τ')) :
    ACallAt Try.prog w0 pr1 97 [.func (.yield l) #[] #[], .pointer (some ⟨b, 0, none⟩)] σ fun _ τ => I (2 ^ n) τ ∨ X τ := by
  have hp := pow6 hn
  refine acallAt_go mixed Try.func97 rfl good97 ?_
  have l0 : ld σ b 0 = some (.int .i64 n) := ld_of (hIb 0 σ hI0) rfl
  have hshl : ∀ {t : TypeId}, abin Try.prog t .shl (.int .i64 1) (.int .i64 (n : Int)) = some (.int .i64 ((2 ^ n : Nat) : Int)) := abin_shl1 (by omega)
  generalize hN : 2 ^ n = N at hp hshl hY
  simp -implicitDefEqProofs (disch := omega) only [List.any_cons, List.any_nil, Nat.reduceEqDiff, List.map_cons, List.map_nil, Option.map_some, Option.map_none, List.nil_append, ↓reduceIte, vcu0, vcu1, vcu2, vcu3, vcu4, vcu5, vcu6, vcu7, vcu8, vcu9, vcu10, vcu11, vcu12, vcu13, vcu14, vcu15, vcu16, vcu17, vcu18, vcu19, vcu20, vcu21, vcu22, vcu23, vcu24, vcu25, vcu26, ↓vcd0, ↓vcd1, ↓vcd2, ↓vcd3, l0, hshl]
  refine vc_loop_c mixed (by kernel_rfl) [0, 1, 7] (fun m a τ => ∃ k : Nat, m + k = N ∧ a 8 = .int .i64 k ∧ I k τ) N ⟨0, by simp, rfl, hI0⟩ ?_
  rintro m a τ hc ⟨k, hk, h8, hI⟩
  simp -implicitDefEqProofs (disch := omega) only [List.any_cons, List.any_nil, Nat.reduceEqDiff, List.map_cons, List.map_nil, Option.map_some, Option.map_none, List.nil_append, ↓reduceIte, vcu0, vcu1, vcu2, vcu3, vcu4, vcu5, vcu6, vcu7, vcu8, vcu9, vcu10, vcu11, vcu12, vcu13, vcu14, vcu15, vcu16, vcu17, vcu18, vcu19, vcu20, vcu21, vcu22, vcu23, vcu24, vcu25, vcu26, ↓vcd0, ↓vcd1, ↓vcd2, ↓vcd3] at hc
  obtain ⟨h0, h1, h7, -⟩ := hc
  by_cases hlt : k < N
  · have l1 : ld τ b 0 = some (.int .i64 n) := ld_of (hIb k τ hI) rfl
    simp -implicitDefEqProofs (disch := omega) only [List.any_cons, List.any_nil, Nat.reduceEqDiff, List.map_cons, List.map_nil, Option.map_some, Option.map_none, List.nil_append, ↓reduceIte, vcu0, vcu1, vcu2, vcu3, vcu4, vcu5, vcu6, vcu7, vcu8, vcu9, vcu10, vcu11, vcu12, vcu13, vcu14, vcu15, vcu16, vcu17, vcu18, vcu19, vcu20, vcu21, vcu22, vcu23, vcu24, vcu25, vcu26, ↓vcd0, ↓vcd1, ↓vcd2, ↓vcd3, h0, h1, h7, h8, l1]
    refine r_makeI (l := n) (c := n) (kx := .i64) (ky := .i64) el31 (by omega) (by simp -implicitDefEqProofs (disch := omega) only [List.any_cons, List.any_nil, Nat.reduceEqDiff, List.map_cons, List.map_nil, Option.map_some, Option.map_none, List.nil_append, ↓reduceIte, vcu0, vcu1, vcu2, vcu3, vcu4, vcu5, vcu6, vcu7, vcu8, vcu9, vcu10, vcu11, vcu12, vcu13, vcu14, vcu15, vcu16, vcu17, vcu18, vcu19, vcu20, vcu21, vcu22, vcu23, vcu24, vcu25, vcu26, ↓vcd0, ↓vcd1, ↓vcd2, ↓vcd3, h0, h1, h7, h8, l1]) (by simp -implicitDefEqProofs (disch := omega) only [List.any_cons, List.any_nil, Nat.reduceEqDiff, List.map_cons, List.map_nil, Option.map_some, Option.map_none, List.nil_append, ↓reduceIte, vcu0, vcu1, vcu2, vcu3, vcu4, vcu5, vcu6, vcu7, vcu8, vcu9, vcu10, vcu11, vcu12, vcu13, vcu14, vcu15, vcu16, vcu17, vcu18, vcu19, vcu20, vcu21, vcu22, vcu23, vcu24, vcu25, vcu26, ↓vcd0, ↓vcd1, ↓vcd2, ↓vcd3, h0, h1, h7, h8, l1]) ⟨by omega, by omega⟩ fun g τ1 ng s1 e1 => ?_
    simp -implicitDefEqProofs (disch := omega) only [List.any_cons, List.any_nil, Nat.reduceEqDiff, List.map_cons, List.map_nil, Option.map_some, Option.map_none, List.nil_append, ↓reduceIte, vcu0, vcu1, vcu2, vcu3, vcu4, vcu5, vcu6, vcu7, vcu8, vcu9, vcu10, vcu11, vcu12, vcu13, vcu14, vcu15, vcu16, vcu17, vcu18, vcu19, vcu20, vcu21, vcu22, vcu23, vcu24, vcu25, vcu26, ↓vcd0, ↓vcd1, ↓vcd2, ↓vcd3, h0, h1, h7, h8, l1]
    refine vc_loop_c mixed (by kernel_rfl) [0, 1, 3, 4, 7, 8, 14] (fun m a τ2 => ∃ i : Nat, m + i = n ∧ a 15 = .int .i64 i ∧ Kept g τ1 τ2 ∧ τ2 g = some ⟨ints .i64 (bitsL i k ++ List.replicate (n - i) 0), false⟩) n ⟨0, by simp, rfl, Kept.refl _ _, by simpa [bitsL] using e1⟩ ?_
    rintro m2 a2 τ2 hc2 ⟨i, hi, h15, k2, e2⟩
    simp -implicitDefEqProofs (disch := omega) only [List.any_cons, List.any_nil, Nat.reduceEqDiff, List.map_cons, List.map_nil, Option.map_some, Option.map_none, List.nil_append, ↓reduceIte, vcu0, vcu1, vcu2, vcu3, vcu4, vcu5, vcu6, vcu7, vcu8, vcu9, vcu10, vcu11, vcu12, vcu13, vcu14, vcu15, vcu16, vcu17, vcu18, vcu19, vcu20, vcu21, vcu22, vcu23, vcu24, vcu25, vcu26, ↓vcd0, ↓vcd1, ↓vcd2, ↓vcd3, h0, h1, h7, h8] at hc2
    obtain ⟨g0, g1, g3, g4, g7, g8, g14, -⟩ := hc2
    by_cases hin : i < n
    · have hpi : k / 2 ^ i ≤ k := Nat.div_le_self _ _
      have hshr : ∀ {t : TypeId}, abin Try.prog t .shr (.int .i64 (k : Int)) (.int .i64 (i : Int)) = some (.int .i64 ((k / 2 ^ i : Nat) : Int)) := abin_shrN (by omega)
      have hand : ∀ {t : TypeId}, abin Try.prog t .and (.int .i64 ((k / 2 ^ i : Nat) : Int)) (.int .i64 1) = some (.int .i64 ((k / 2 ^ i % 2 : Nat) : Int)) := abin_and1 (by omega)
      have hll : (bitsL i k ++ List.replicate (n - i) 0).length = n := by rw [List.length_append, bitsL_length, List.length_replicate]; omega
      simp -implicitDefEqProofs (disch := omega) only [List.any_cons, List.any_nil, Nat.reduceEqDiff, List.map_cons, List.map_nil, Option.map_some, Option.map_none, List.nil_append, ↓reduceIte, vcu0, vcu1, vcu2, vcu3, vcu4, vcu5, vcu6, vcu7, vcu8, vcu9, vcu10, vcu11, vcu12, vcu13, vcu14, vcu15, vcu16, vcu17, vcu18, vcu19, vcu20, vcu21, vcu22, vcu23, vcu24, vcu25, vcu26, ↓vcd0, ↓vcd1, ↓vcd2, ↓vcd3, g0, g1, g3, g4, g7, g8, g14, h15, hshr, hand]
      refine r_setI (g := g) (i := 0 + i) (v := ((k / 2 ^ i % 2 : Nat) : Int)) (by simp -implicitDefEqProofs (disch := omega) only [List.any_cons, List.any_nil, Nat.reduceEqDiff, List.map_cons, List.map_nil, Option.map_some, Option.map_none, List.nil_append, ↓reduceIte, vcu0, vcu1, vcu2, vcu3, vcu4, vcu5, vcu6, vcu7, vcu8, vcu9, vcu10, vcu11, vcu12, vcu13, vcu14, vcu15, vcu16, vcu17, vcu18, vcu19, vcu20, vcu21, vcu22, vcu23, vcu24, vcu25, vcu26, ↓vcd0, ↓vcd1, ↓vcd2, ↓vcd3]) (by simp -implicitDefEqProofs (disch := omega) only [List.any_cons, List.any_nil, Nat.reduceEqDiff, List.map_cons, List.map_nil, Option.map_some, Option.map_none, List.nil_append, ↓reduceIte, vcu0, vcu1, vcu2, vcu3, vcu4, vcu5, vcu6, vcu7, vcu8, vcu9, vcu10, vcu11, vcu12, vcu13, vcu14, vcu15, vcu16, vcu17, vcu18, vcu19, vcu20, vcu21, vcu22, vcu23, vcu24, vcu25, vcu26, ↓vcd0, ↓vcd1, ↓vcd2, ↓vcd3]) co3 e2 (by rw [hll]; omega) fun τ3 k3 e3 => ?_
      simp -implicitDefEqProofs (disch := omega) only [List.any_cons, List.any_nil, Nat.reduceEqDiff, List.map_cons, List.map_nil, Option.map_some, Option.map_none, List.nil_append, ↓reduceIte, vcu0, vcu1, vcu2, vcu3, vcu4, vcu5, vcu6, vcu7, vcu8, vcu9, vcu10, vcu11, vcu12, vcu13, vcu14, vcu15, vcu16, vcu17, vcu18, vcu19, vcu20, vcu21, vcu22, vcu23, vcu24, vcu25, vcu26, ↓vcd0, ↓vcd1, ↓vcd2, ↓vcd3, g0, g1, g3, g4, g7, g8, g14, h15]
      refine ⟨⟨h0.symm, h1.symm, trivial, trivial, h7.symm, h8.symm, trivial, trivial⟩, m2 - 1, by omega, i + 1, by omega, by simp, k2.trans k3, ?_⟩
      rw [e3]
      congr 3
      obtain ⟨q, hq⟩ : ∃ q, n - i = q + 1 := ⟨n - i - 1, by omega⟩
      have hq2 : n - (i + 1) = q := by omega
      rw [hq, hq2, Nat.zero_add, List.set_append_right _ _ (by rw [bitsL_length]; exact Nat.le_refl _), bitsL_length, Nat.sub_self, List.replicate_succ, List.set_cons_zero, bitsL_snoc, List.append_assoc]
      rfl
    · have e : i = n := by omega
      subst e
      rw [Nat.sub_self, List.replicate_zero, List.append_nil] at e2
      simp -implicitDefEqProofs (disch := omega) only [List.any_cons, List.any_nil, Nat.reduceEqDiff, List.map_cons, List.map_nil, Option.map_some, Option.map_none, List.nil_append, ↓reduceIte, vcu0, vcu1, vcu2, vcu3, vcu4, vcu5, vcu6, vcu7, vcu8, vcu9, vcu10, vcu11, vcu12, vcu13, vcu14, vcu15, vcu16, vcu17, vcu18, vcu19, vcu20, vcu21, vcu22, vcu23, vcu24, vcu25, vcu26, ↓vcd0, ↓vcd1, ↓vcd2, ↓vcd3, g0, g1, g3, g4, g7, g8, g14, h15]
      refine r_yield (l := l) (by simp -implicitDefEqProofs (disch := omega) only [List.any_cons, List.any_nil, Nat.reduceEqDiff, List.map_cons, List.map_nil, Option.map_some, Option.map_none, List.nil_append, ↓reduceIte, vcu0, vcu1, vcu2, vcu3, vcu4, vcu5, vcu6, vcu7, vcu8, vcu9, vcu10, vcu11, vcu12, vcu13, vcu14, vcu15, vcu16, vcu17, vcu18, vcu19, vcu20, vcu21, vcu22, vcu23, vcu24, vcu25, vcu26, ↓vcd0, ↓vcd1, ↓vcd2, ↓vcd3, g0, h0]) ?_
      simp -implicitDefEqProofs (disch := omega) only [List.any_cons, List.any_nil, Nat.reduceEqDiff, List.map_cons, List.map_nil, Option.map_some, Option.map_none, List.nil_append, ↓reduceIte, vcu0, vcu1, vcu2, vcu3, vcu4, vcu5, vcu6, vcu7, vcu8, vcu9, vcu10, vcu11, vcu12, vcu13, vcu14, vcu15, vcu16, vcu17, vcu18, vcu19, vcu20, vcu21, vcu22, vcu23, vcu24, vcu25, vcu26, ↓vcd0, ↓vcd1, ↓vcd2, ↓vcd3, g0, g1, g3, g4, g7, g8, g14, h15]
      refine (hY k hlt τ τ2 g hI ng (k2.sub s1 ng) e2).mono ?_
      rintro r τ3 (⟨rfl, hI3⟩ | ⟨rfl, hX⟩)
      · simp -implicitDefEqProofs (disch := omega) only [List.any_cons, List.any_nil, Nat.reduceEqDiff, List.map_cons, List.map_nil, Option.map_some, Option.map_none, List.nil_append, ↓reduceIte, vcu0, vcu1, vcu2, vcu3, vcu4, vcu5, vcu6, vcu7, vcu8, vcu9, vcu10, vcu11, vcu12, vcu13, vcu14, vcu15, vcu16, vcu17, vcu18, vcu19, vcu20, vcu21, vcu22, vcu23, vcu24, vcu25, vcu26, ↓vcd0, ↓vcd1, ↓vcd2, ↓vcd3, opK_some, g0, g1, g3, g4, g7, g8, g14, h15]
        exact ⟨⟨trivial, trivial, trivial, trivial⟩, m - 1, by omega, k + 1, by omega, by simp, hI3⟩
      · simp -implicitDefEqProofs (disch := omega) only [List.any_cons, List.any_nil, Nat.reduceEqDiff, List.map_cons, List.map_nil, Option.map_some, Option.map_none, List.nil_append, ↓reduceIte, vcu0, vcu1, vcu2, vcu3, vcu4, vcu5, vcu6, vcu7, vcu8, vcu9, vcu10, vcu11, vcu12, vcu13, vcu14, vcu15, vcu16, vcu17, vcu18, vcu19, vcu20, vcu21, vcu22, vcu23, vcu24, vcu25, vcu26, ↓vcd0, ↓vcd1, ↓vcd2, ↓vcd3, opK_some]
        exact fin_unit rfl (.inr hX)
  · simp -implicitDefEqProofs (disch := omega) only [List.any_cons, List.any_nil, Nat.reduceEqDiff, List.map_cons, List.map_nil, Option.map_some, Option.map_none, List.nil_append, ↓reduceIte, vcu0, vcu1, vcu2, vcu3, vcu4, vcu5, vcu6, vcu7, vcu8, vcu9, vcu10, vcu11, vcu12, vcu13, vcu14, vcu15, vcu16, vcu17, vcu18, vcu19, vcu20, vcu21, vcu22, vcu23, vcu24, vcu25, vcu26, ↓vcd0, ↓vcd1, ↓vcd2, ↓vcd3, h0, h1, h7, h8]
    have e : k = N := by omega
    subst e
    exact fin_unit rfl (.inl (hN ▸ hI))
end Go.Proofs.Ytnkpoflhdfchjaa
