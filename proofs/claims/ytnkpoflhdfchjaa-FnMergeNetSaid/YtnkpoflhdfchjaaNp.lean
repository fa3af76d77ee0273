/- The network of merging, of the reference. -/
import Derived.Test.YtnkpoflhdfchjaaNo
set_option linter.unusedSimpArgs false
set_option linter.unusedVariables false
namespace Go.Proofs.Ytnkpoflhdfchjaa
open Go Go.Abs Go.RowKit
variable {w0 : World}

/-- a row of pairs of its own, newer than σ -/
def RowP (σ σ' : AHeap) (r : Value) (cs : List (Int × Int)) : Prop := ∃ g, r = .slice (some ⟨g, 0, none⟩) cs.length 2 ∧ σ' g = some ⟨pairs cs, false⟩ ∧ σ g = none
theorem RowP.own {σ σ' : AHeap} {r : Value} {cs : List (Int × Int)} (h : RowP σ σ' r cs) : OwnP σ σ' r cs := .inr h
theorem RowP.older {β σ σ' : AHeap} {r : Value} {cs : List (Int × Int)} (h : RowP σ σ' r cs) (hs : Sub β σ) : RowP β σ' r cs := let ⟨g, a, b, c⟩ := h; ⟨g, a, b, free_sub hs c⟩
theorem RowP.sub {σ σ' τ : AHeap} {r : Value} {cs : List (Int × Int)} (h : RowP σ σ' r cs) (hs : Sub σ' τ) : RowP σ τ r cs := let ⟨g, a, b, c⟩ := h; ⟨g, a, hs _ _ b, c⟩

/-- pairs of the second and the third, the fourth and the fifth, and so on -/
def tl (first far : Int) (i : Nat) : List (Int × Int) := (List.range i).map fun (j : Nat) => (first + far + 2 * far * j, first + far + 2 * far * j + far)
theorem tl_succ (first far : Int) (i : Nat) : tl first far (i + 1) = tl first far i ++ [(first + far + 2 * far * i, first + far + 2 * far * i + far)] := by simp [tl, List.range_succ]
theorem tl_length (first far : Int) (i : Nat) : (tl first far i).length = i := by simp [tl]
def mgc (many far : Int) : Nat := ((many - 1) / (2 * far)).toNat
def mg : Nat → Int → Int → Int → List (Int × Int)
  | 0, _, _, _ => []
  | f + 1, first, many, far => if many < 2 * far then [] else if many = 2 * far then [(first, first + far)] else
    mg f first many (2 * far) ++ mg f (first + far) many (2 * far) ++ tl first far (mgc many far)
theorem mgc_le {many far : Int} (h : many ≤ 8) (h0 : 0 ≤ many) (hf : far = 1 ∨ far = 2 ∨ far = 3) : mgc many far ≤ 7 := by
  unfold mgc
  rcases hf with rfl | rfl | rfl <;> omega
theorem mg_length : ∀ (f : Nat) (first many far : Int), 0 ≤ many → many ≤ 8 → 1 ≤ far → (mg f first many far).length + 7 ≤ 8 * 2 ^ f
  | 0, _, _, _, _, _, _ => by simp [mg]
  | f + 1, first, many, far, h0, h8, hf => by
    have hp : 2 ^ (f + 1) = 2 * 2 ^ f := by rw [Nat.pow_succ]; omega
    have hpos : 1 ≤ 2 ^ f := Nat.one_le_two_pow
    unfold mg
    split
    · simp; omega
    · split
      · simp; omega
      · have a1 := mg_length f first many (2 * far) h0 h8 (by omega)
        have a2 := mg_length f (first + far) many (2 * far) h0 h8 (by omega)
        have a3 := mgc_le h8 h0 (show far = 1 ∨ far = 2 ∨ far = 3 by omega)
        rw [List.length_append, List.length_append, tl_length]
        omega

theorem merge_at : ∀ (f : Nat) (σ : AHeap) (first many far : Int), 0 ≤ first → first ≤ 1000 - 100 * (f : Int) → 0 ≤ many → many ≤ 8 → (far = 1 ∧ f = 3 ∨ far = 2 ∧ f = 2 ∨ far = 4 ∧ f = 1) →
    ACall Try.prog w0 102 [.int .i64 first, .int .i64 many, .int .i64 far] σ fun r σ' => Sub σ σ' ∧ RowP σ σ' r (mg f first many far) := by
  intro f
  induction f with
  | zero => intros; omega
  | succ f ih =>
    intro σ first many far hf0 hf1 hm0 hm8 hf
    refine acall_go mixed Try.func102 rfl good102 fun pr => ?_
    unfold mg
    by_cases h1 : many < 2 * far
    · rw [if_pos h1]
      simp -implicitDefEqProofs (disch := omega) only [List.any_cons, List.any_nil, Nat.reduceEqDiff, List.map_cons, List.map_nil, Option.map_some, Option.map_none, List.nil_append, ↓reduceIte, vcu0, vcu1, vcu2, vcu3, vcu4, vcu5, vcu6, vcu7, vcu8, vcu9, vcu10, vcu11, vcu12, vcu13, vcu14, vcu15, vcu16, vcu17, vcu18, vcu19, vcu20, vcu21, vcu22, vcu23, vcu24, vcu25, vcu26, ↓vcd0, ↓vcd1, ↓vcd2, ↓vcd3]
      refine r_lit el23 (out := #[]) (by kernel_rfl) (by kernel_rfl) fun e τ n0 s0 v0 => ?_
      simp -implicitDefEqProofs (disch := omega) only [List.any_cons, List.any_nil, Nat.reduceEqDiff, List.map_cons, List.map_nil, Option.map_some, Option.map_none, List.nil_append, ↓reduceIte, vcu0, vcu1, vcu2, vcu3, vcu4, vcu5, vcu6, vcu7, vcu8, vcu9, vcu10, vcu11, vcu12, vcu13, vcu14, vcu15, vcu16, vcu17, vcu18, vcu19, vcu20, vcu21, vcu22, vcu23, vcu24, vcu25, vcu26, ↓vcd0, ↓vcd1, ↓vcd2, ↓vcd3]
      refine fin_one Try.results102 ⟨s0, e, ?_, v0, n0⟩
      simp -implicitDefEqProofs (disch := omega) only [List.any_cons, List.any_nil, Nat.reduceEqDiff, List.map_cons, List.map_nil, Option.map_some, Option.map_none, List.nil_append, ↓reduceIte, vcu0, vcu1, vcu2, vcu3, vcu4, vcu5, vcu6, vcu7, vcu8, vcu9, vcu10, vcu11, vcu12, vcu13, vcu14, vcu15, vcu16, vcu17, vcu18, vcu19, vcu20, vcu21, vcu22, vcu23, vcu24, vcu25, vcu26, ↓vcd0, ↓vcd1, ↓vcd2, ↓vcd3]
      rfl
    rw [if_neg h1]
    by_cases h2 : many = 2 * far
    · rw [if_pos h2]
      simp -implicitDefEqProofs (disch := omega) only [List.any_cons, List.any_nil, Nat.reduceEqDiff, List.map_cons, List.map_nil, Option.map_some, Option.map_none, List.nil_append, ↓reduceIte, vcu0, vcu1, vcu2, vcu3, vcu4, vcu5, vcu6, vcu7, vcu8, vcu9, vcu10, vcu11, vcu12, vcu13, vcu14, vcu15, vcu16, vcu17, vcu18, vcu19, vcu20, vcu21, vcu22, vcu23, vcu24, vcu25, vcu26, ↓vcd0, ↓vcd1, ↓vcd2, ↓vcd3, h2, decide_true]
      rw [r_build]
      refine ⟨(_, #[.int .i64 first, .int .i64 (first + far)]), ⟨ze28, by simp -implicitDefEqProofs (disch := omega) only [List.any_cons, List.any_nil, Nat.reduceEqDiff, List.map_cons, List.map_nil, Option.map_some, Option.map_none, List.nil_append, ↓reduceIte, vcu0, vcu1, vcu2, vcu3, vcu4, vcu5, vcu6, vcu7, vcu8, vcu9, vcu10, vcu11, vcu12, vcu13, vcu14, vcu15, vcu16, vcu17, vcu18, vcu19, vcu20, vcu21, vcu22, vcu23, vcu24, vcu25, vcu26, ↓vcd0, ↓vcd1, ↓vcd2, ↓vcd3]; kernel_rfl⟩, ?_⟩
      simp -implicitDefEqProofs (disch := omega) only [List.any_cons, List.any_nil, Nat.reduceEqDiff, List.map_cons, List.map_nil, Option.map_some, Option.map_none, List.nil_append, ↓reduceIte, vcu0, vcu1, vcu2, vcu3, vcu4, vcu5, vcu6, vcu7, vcu8, vcu9, vcu10, vcu11, vcu12, vcu13, vcu14, vcu15, vcu16, vcu17, vcu18, vcu19, vcu20, vcu21, vcu22, vcu23, vcu24, vcu25, vcu26, ↓vcd0, ↓vcd1, ↓vcd2, ↓vcd3]
      refine r_lit el23 (out := #[.int .i64 first, .int .i64 (first + far)]) (by simp -implicitDefEqProofs (disch := omega) only [List.any_cons, List.any_nil, Nat.reduceEqDiff, List.map_cons, List.map_nil, Option.map_some, Option.map_none, List.nil_append, ↓reduceIte, vcu0, vcu1, vcu2, vcu3, vcu4, vcu5, vcu6, vcu7, vcu8, vcu9, vcu10, vcu11, vcu12, vcu13, vcu14, vcu15, vcu16, vcu17, vcu18, vcu19, vcu20, vcu21, vcu22, vcu23, vcu24, vcu25, vcu26, ↓vcd0, ↓vcd1, ↓vcd2, ↓vcd3]; kernel_rfl) (by rfl) fun e τ n0 s0 v0 => ?_
      simp -implicitDefEqProofs (disch := omega) only [List.any_cons, List.any_nil, Nat.reduceEqDiff, List.map_cons, List.map_nil, Option.map_some, Option.map_none, List.nil_append, ↓reduceIte, vcu0, vcu1, vcu2, vcu3, vcu4, vcu5, vcu6, vcu7, vcu8, vcu9, vcu10, vcu11, vcu12, vcu13, vcu14, vcu15, vcu16, vcu17, vcu18, vcu19, vcu20, vcu21, vcu22, vcu23, vcu24, vcu25, vcu26, ↓vcd0, ↓vcd1, ↓vcd2, ↓vcd3]
      refine fin_one Try.results102 ⟨s0, e, ?_, v0, n0⟩
      simp -implicitDefEqProofs (disch := omega) only [List.any_cons, List.any_nil, Nat.reduceEqDiff, List.map_cons, List.map_nil, Option.map_some, Option.map_none, List.nil_append, ↓reduceIte, vcu0, vcu1, vcu2, vcu3, vcu4, vcu5, vcu6, vcu7, vcu8, vcu9, vcu10, vcu11, vcu12, vcu13, vcu14, vcu15, vcu16, vcu17, vcu18, vcu19, vcu20, vcu21, vcu22, vcu23, vcu24, vcu25, vcu26, ↓vcd0, ↓vcd1, ↓vcd2, ↓vcd3]
      rfl
    rw [if_neg h2]
    have hfar : far = 1 ∨ far = 2 ∨ far = 3 := by omega
    have hc7 := mgc_le hm8 hm0 hfar
    have hcond : ∀ i : Nat, (first + far + 2 * far * i + far < first + many ↔ i < mgc many far) := fun i => by
      unfold mgc
      rcases hfar with rfl | rfl | rfl <;> omega
    have hp : 2 ^ f ≤ 2 ^ 2 := Nat.pow_le_pow_right (by omega) (by omega)
    have l1 := mg_length f first many (2 * far) hm0 hm8 (by omega)
    have l2 := mg_length f (first + far) many (2 * far) hm0 hm8 (by omega)
    simp -implicitDefEqProofs (disch := omega) only [List.any_cons, List.any_nil, Nat.reduceEqDiff, List.map_cons, List.map_nil, Option.map_some, Option.map_none, List.nil_append, ↓reduceIte, vcu0, vcu1, vcu2, vcu3, vcu4, vcu5, vcu6, vcu7, vcu8, vcu9, vcu10, vcu11, vcu12, vcu13, vcu14, vcu15, vcu16, vcu17, vcu18, vcu19, vcu20, vcu21, vcu22, vcu23, vcu24, vcu25, vcu26, ↓vcd0, ↓vcd1, ↓vcd2, ↓vcd3]
    refine (ih σ first many (2 * far) hf0 (by omega) hm0 hm8 (by omega)).mono ?_
    rintro _ τ1 ⟨s1, g1, rfl, v1, n1⟩
    simp -implicitDefEqProofs (disch := omega) only [List.any_cons, List.any_nil, Nat.reduceEqDiff, List.map_cons, List.map_nil, Option.map_some, Option.map_none, List.nil_append, ↓reduceIte, vcu0, vcu1, vcu2, vcu3, vcu4, vcu5, vcu6, vcu7, vcu8, vcu9, vcu10, vcu11, vcu12, vcu13, vcu14, vcu15, vcu16, vcu17, vcu18, vcu19, vcu20, vcu21, vcu22, vcu23, vcu24, vcu25, vcu26, ↓vcd0, ↓vcd1, ↓vcd2, ↓vcd3, opK_some]
    refine (ih τ1 (first + far) many (2 * far) (by omega) (by omega) hm0 hm8 (by omega)).mono ?_
    rintro _ τ2 ⟨s2, g2, rfl, v2, n2⟩
    simp -implicitDefEqProofs (disch := omega) only [List.any_cons, List.any_nil, Nat.reduceEqDiff, List.map_cons, List.map_nil, Option.map_some, Option.map_none, List.nil_append, ↓reduceIte, vcu0, vcu1, vcu2, vcu3, vcu4, vcu5, vcu6, vcu7, vcu8, vcu9, vcu10, vcu11, vcu12, vcu13, vcu14, vcu15, vcu16, vcu17, vcu18, vcu19, vcu20, vcu21, vcu22, vcu23, vcu24, vcu25, vcu26, ↓vcd0, ↓vcd1, ↓vcd2, ↓vcd3, opK_some]
    refine r_pushP (β := σ) (e := g2) (o := 0) (m := (mg f (first + far) many (2 * far)).length) (cs := mg f first many (2 * far)) (ds := mg f (first + far) many (2 * far)) el23 (by omega) sl23 (s1.trans s2) rfl (.inr ⟨g1, by simp -implicitDefEqProofs (disch := omega) only [List.any_cons, List.any_nil, Nat.reduceEqDiff, List.map_cons, List.map_nil, Option.map_some, Option.map_none, List.nil_append, ↓reduceIte, vcu0, vcu1, vcu2, vcu3, vcu4, vcu5, vcu6, vcu7, vcu8, vcu9, vcu10, vcu11, vcu12, vcu13, vcu14, vcu15, vcu16, vcu17, vcu18, vcu19, vcu20, vcu21, vcu22, vcu23, vcu24, vcu25, vcu26, ↓vcd0, ↓vcd1, ↓vcd2, ↓vcd3], s2 _ _ v1, n1⟩) (by simp -implicitDefEqProofs (disch := omega) only [List.any_cons, List.any_nil, Nat.reduceEqDiff, List.map_cons, List.map_nil, Option.map_some, Option.map_none, List.nil_append, ↓reduceIte, vcu0, vcu1, vcu2, vcu3, vcu4, vcu5, vcu6, vcu7, vcu8, vcu9, vcu10, vcu11, vcu12, vcu13, vcu14, vcu15, vcu16, vcu17, vcu18, vcu19, vcu20, vcu21, vcu22, vcu23, vcu24, vcu25, vcu26, ↓vcd0, ↓vcd1, ↓vcd2, ↓vcd3]) (pairsAt_own v2) rfl (by omega) fun g3 τ3 s3 n3 v3 => ?_
    simp -implicitDefEqProofs (disch := omega) only [List.any_cons, List.any_nil, Nat.reduceEqDiff, List.map_cons, List.map_nil, Option.map_some, Option.map_none, List.nil_append, ↓reduceIte, vcu0, vcu1, vcu2, vcu3, vcu4, vcu5, vcu6, vcu7, vcu8, vcu9, vcu10, vcu11, vcu12, vcu13, vcu14, vcu15, vcu16, vcu17, vcu18, vcu19, vcu20, vcu21, vcu22, vcu23, vcu24, vcu25, vcu26, ↓vcd0, ↓vcd1, ↓vcd2, ↓vcd3]
    generalize hB : mg f first many (2 * far) ++ mg f (first + far) many (2 * far) = B at v3 ⊢
    have hBl : B.length = (mg f first many (2 * far)).length + (mg f (first + far) many (2 * far)).length := by rw [← hB, List.length_append]
    rw [← hBl]
    refine vc_loop_c mixed (by kernel_rfl) [0, 1, 2] (fun m a τ => ∃ i : Nat, m + i = mgc many far ∧ a 8 = .int .i64 (first + far + 2 * far * i) ∧ Sub σ τ ∧ RowP σ τ (a 7) (B ++ tl first far i)) (mgc many far) ⟨0, by omega, by simp [fset], s3, g3, by simp [tl, fset], by simpa [tl] using v3, n3⟩ ?_
    rintro m a τ hc ⟨i, hi, h8, hs, g, h7, vg, ng⟩
    simp -implicitDefEqProofs (disch := omega) only [List.any_cons, List.any_nil, Nat.reduceEqDiff, List.map_cons, List.map_nil, Option.map_some, Option.map_none, List.nil_append, ↓reduceIte, vcu0, vcu1, vcu2, vcu3, vcu4, vcu5, vcu6, vcu7, vcu8, vcu9, vcu10, vcu11, vcu12, vcu13, vcu14, vcu15, vcu16, vcu17, vcu18, vcu19, vcu20, vcu21, vcu22, vcu23, vcu24, vcu25, vcu26, ↓vcd0, ↓vcd1, ↓vcd2, ↓vcd3] at hc
    obtain ⟨h0', h1', h2', -⟩ := hc
    have hci := hcond i
    have hK : first + far + 2 * far * ((i + 1 : Nat) : Int) = first + far + 2 * far * i + 2 * far := by
      rw [Int.natCast_add, Int.mul_add]; omega
    have hKr : 0 ≤ first + far + 2 * far * i ∧ first + far + 2 * far * i ≤ 3000 := by
      rcases hfar with rfl | rfl | rfl <;> omega
    generalize hKK : first + far + 2 * far * i = K at *
    by_cases hlt : i < mgc many far
    · have hlt' := hci.2 hlt
      simp -implicitDefEqProofs (disch := omega) only [List.any_cons, List.any_nil, Nat.reduceEqDiff, List.map_cons, List.map_nil, Option.map_some, Option.map_none, List.nil_append, ↓reduceIte, vcu0, vcu1, vcu2, vcu3, vcu4, vcu5, vcu6, vcu7, vcu8, vcu9, vcu10, vcu11, vcu12, vcu13, vcu14, vcu15, vcu16, vcu17, vcu18, vcu19, vcu20, vcu21, vcu22, vcu23, vcu24, vcu25, vcu26, ↓vcd0, ↓vcd1, ↓vcd2, ↓vcd3, h0', h1', h2', h7, h8]
      rw [r_build]
      refine ⟨(_, #[.int .i64 K, .int .i64 (K + far)]), ⟨ze28, by simp -implicitDefEqProofs (disch := omega) only [List.any_cons, List.any_nil, Nat.reduceEqDiff, List.map_cons, List.map_nil, Option.map_some, Option.map_none, List.nil_append, ↓reduceIte, vcu0, vcu1, vcu2, vcu3, vcu4, vcu5, vcu6, vcu7, vcu8, vcu9, vcu10, vcu11, vcu12, vcu13, vcu14, vcu15, vcu16, vcu17, vcu18, vcu19, vcu20, vcu21, vcu22, vcu23, vcu24, vcu25, vcu26, ↓vcd0, ↓vcd1, ↓vcd2, ↓vcd3, h2', h8]; kernel_rfl⟩, ?_⟩
      simp -implicitDefEqProofs (disch := omega) only [List.any_cons, List.any_nil, Nat.reduceEqDiff, List.map_cons, List.map_nil, Option.map_some, Option.map_none, List.nil_append, ↓reduceIte, vcu0, vcu1, vcu2, vcu3, vcu4, vcu5, vcu6, vcu7, vcu8, vcu9, vcu10, vcu11, vcu12, vcu13, vcu14, vcu15, vcu16, vcu17, vcu18, vcu19, vcu20, vcu21, vcu22, vcu23, vcu24, vcu25, vcu26, ↓vcd0, ↓vcd1, ↓vcd2, ↓vcd3]
      refine r_lit el23 (out := #[.int .i64 K, .int .i64 (K + far)]) (by simp -implicitDefEqProofs (disch := omega) only [List.any_cons, List.any_nil, Nat.reduceEqDiff, List.map_cons, List.map_nil, Option.map_some, Option.map_none, List.nil_append, ↓reduceIte, vcu0, vcu1, vcu2, vcu3, vcu4, vcu5, vcu6, vcu7, vcu8, vcu9, vcu10, vcu11, vcu12, vcu13, vcu14, vcu15, vcu16, vcu17, vcu18, vcu19, vcu20, vcu21, vcu22, vcu23, vcu24, vcu25, vcu26, ↓vcd0, ↓vcd1, ↓vcd2, ↓vcd3]; kernel_rfl) (by rfl) fun e τ4 n4 s4 v4 => ?_
      refine r_pushP (β := σ) (e := e) (o := 0) (m := 1) (cs := B ++ tl first far i) (ds := [(K, K + far)]) el23 (by omega) sl23 (hs.trans s4) rfl (.inr ⟨g, by simp -implicitDefEqProofs (disch := omega) only [List.any_cons, List.any_nil, Nat.reduceEqDiff, List.map_cons, List.map_nil, Option.map_some, Option.map_none, List.nil_append, ↓reduceIte, vcu0, vcu1, vcu2, vcu3, vcu4, vcu5, vcu6, vcu7, vcu8, vcu9, vcu10, vcu11, vcu12, vcu13, vcu14, vcu15, vcu16, vcu17, vcu18, vcu19, vcu20, vcu21, vcu22, vcu23, vcu24, vcu25, vcu26, ↓vcd0, ↓vcd1, ↓vcd2, ↓vcd3, h7], s4 _ _ vg, ng⟩) (by simp -implicitDefEqProofs (disch := omega) only [List.any_cons, List.any_nil, Nat.reduceEqDiff, List.map_cons, List.map_nil, Option.map_some, Option.map_none, List.nil_append, ↓reduceIte, vcu0, vcu1, vcu2, vcu3, vcu4, vcu5, vcu6, vcu7, vcu8, vcu9, vcu10, vcu11, vcu12, vcu13, vcu14, vcu15, vcu16, vcu17, vcu18, vcu19, vcu20, vcu21, vcu22, vcu23, vcu24, vcu25, vcu26, ↓vcd0, ↓vcd1, ↓vcd2, ↓vcd3]) (pairsAt_own v4) rfl (by rw [List.length_append, tl_length]; omega) fun g5 τ5 s5 n5 v5 => ?_
      rw [List.append_assoc, ← hKK, ← tl_succ] at v5
      simp -implicitDefEqProofs (disch := omega) only [List.any_cons, List.any_nil, Nat.reduceEqDiff, List.map_cons, List.map_nil, Option.map_some, Option.map_none, List.nil_append, ↓reduceIte, vcu0, vcu1, vcu2, vcu3, vcu4, vcu5, vcu6, vcu7, vcu8, vcu9, vcu10, vcu11, vcu12, vcu13, vcu14, vcu15, vcu16, vcu17, vcu18, vcu19, vcu20, vcu21, vcu22, vcu23, vcu24, vcu25, vcu26, ↓vcd0, ↓vcd1, ↓vcd2, ↓vcd3, h0', h1', h2', h8]
      refine ⟨⟨trivial, trivial, trivial, trivial⟩, m - 1, by omega, i + 1, by omega, by rw [hK], s5, g5, ?_, v5, n5⟩
      simp [tl_length]; omega
    · have hlt' : ¬ (K + far < first + many) := fun h => hlt (hci.1 h)
      simp -implicitDefEqProofs (disch := omega) only [List.any_cons, List.any_nil, Nat.reduceEqDiff, List.map_cons, List.map_nil, Option.map_some, Option.map_none, List.nil_append, ↓reduceIte, vcu0, vcu1, vcu2, vcu3, vcu4, vcu5, vcu6, vcu7, vcu8, vcu9, vcu10, vcu11, vcu12, vcu13, vcu14, vcu15, vcu16, vcu17, vcu18, vcu19, vcu20, vcu21, vcu22, vcu23, vcu24, vcu25, vcu26, ↓vcd0, ↓vcd1, ↓vcd2, ↓vcd3, h0', h1', h2', h7, h8]
      have e : i = mgc many far := by omega
      subst e
      refine fin_one Try.results102 ⟨hs, g, ?_, vg, ng⟩
      simp -implicitDefEqProofs (disch := omega) only [List.any_cons, List.any_nil, Nat.reduceEqDiff, List.map_cons, List.map_nil, Option.map_some, Option.map_none, List.nil_append, ↓reduceIte, vcu0, vcu1, vcu2, vcu3, vcu4, vcu5, vcu6, vcu7, vcu8, vcu9, vcu10, vcu11, vcu12, vcu13, vcu14, vcu15, vcu16, vcu17, vcu18, vcu19, vcu20, vcu21, vcu22, vcu23, vcu24, vcu25, vcu26, ↓vcd0, ↓vcd1, ↓vcd2, ↓vcd3]
end Go.Proofs.Ytnkpoflhdfchjaa
