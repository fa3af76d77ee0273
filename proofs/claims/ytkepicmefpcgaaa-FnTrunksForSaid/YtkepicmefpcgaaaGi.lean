/- The program's fractions: what is valid, what is less, lowest terms; factorials. -/
import Derived.Test.YtkepicmefpcgaaaGf
set_option linter.unusedSimpArgs false
set_option linter.unusedVariables false
namespace Go.Proofs.Ytkepicmefpcgaaa
open Go Go.Abs Go.RowKit
variable {w0 : World}

theorem implFV_calls (σ : AHeap) (x y : Int) : ACall Try.prog w0 18 [.agg #[.int .i64 x, .int .i64 y]] σ fun r σ' => r = .bool (decide (FV x y)) ∧ σ' = σ := by
  refine acall_go mixed Try.func18 rfl good18 fun pr => ?_
  simp -implicitDefEqProofs (disch := omega) only [List.any_cons, List.any_nil, Nat.reduceEqDiff, List.map_cons, List.map_nil, Option.map_some, Option.map_none, List.nil_append, ↓reduceIte, vcu, ↓vcd]
  refine r_boxed fun h1 τ1 n1 s1 e1 => ?_
  replace e1 : τ1 h1 = some ⟨[.int .i64 x, .int .i64 y], false⟩ := e1
  have l0 : ld τ1 h1 (0 + 0) = some (.int .i64 x) := ld_of e1 rfl
  have l1 : ld τ1 h1 (0 + 1) = some (.int .i64 y) := ld_of e1 rfl
  by_cases a1 : 0 ≤ x
  case neg =>
    simp -implicitDefEqProofs (disch := omega) only [List.any_cons, List.any_nil, Nat.reduceEqDiff, List.map_cons, List.map_nil, Option.map_some, Option.map_none, List.nil_append, ↓reduceIte, vcu, ↓vcd, l0, l1]
    refine fin_drop Try.results18 σ s1 ⟨?_, rfl⟩
    simp -implicitDefEqProofs (disch := omega) only [List.any_cons, List.any_nil, Nat.reduceEqDiff, List.map_cons, List.map_nil, Option.map_some, Option.map_none, List.nil_append, ↓reduceIte, vcu, ↓vcd]
    simp [FV, a1]
  by_cases a2 : x ≤ 1000000000
  case neg =>
    simp -implicitDefEqProofs (disch := omega) only [List.any_cons, List.any_nil, Nat.reduceEqDiff, List.map_cons, List.map_nil, Option.map_some, Option.map_none, List.nil_append, ↓reduceIte, vcu, ↓vcd, l0, l1]
    refine fin_drop Try.results18 σ s1 ⟨?_, rfl⟩
    simp -implicitDefEqProofs (disch := omega) only [List.any_cons, List.any_nil, Nat.reduceEqDiff, List.map_cons, List.map_nil, Option.map_some, Option.map_none, List.nil_append, ↓reduceIte, vcu, ↓vcd]
    simp [FV, a2]
  by_cases a3 : 1 ≤ y
  case neg =>
    simp -implicitDefEqProofs (disch := omega) only [List.any_cons, List.any_nil, Nat.reduceEqDiff, List.map_cons, List.map_nil, Option.map_some, Option.map_none, List.nil_append, ↓reduceIte, vcu, ↓vcd, l0, l1]
    refine fin_drop Try.results18 σ s1 ⟨?_, rfl⟩
    simp -implicitDefEqProofs (disch := omega) only [List.any_cons, List.any_nil, Nat.reduceEqDiff, List.map_cons, List.map_nil, Option.map_some, Option.map_none, List.nil_append, ↓reduceIte, vcu, ↓vcd]
    simp [FV, a3]
  by_cases a4 : y ≤ 1000000000
  case neg =>
    simp -implicitDefEqProofs (disch := omega) only [List.any_cons, List.any_nil, Nat.reduceEqDiff, List.map_cons, List.map_nil, Option.map_some, Option.map_none, List.nil_append, ↓reduceIte, vcu, ↓vcd, l0, l1]
    refine fin_drop Try.results18 σ s1 ⟨?_, rfl⟩
    simp -implicitDefEqProofs (disch := omega) only [List.any_cons, List.any_nil, Nat.reduceEqDiff, List.map_cons, List.map_nil, Option.map_some, Option.map_none, List.nil_append, ↓reduceIte, vcu, ↓vcd]
    simp [FV, a4]
  simp -implicitDefEqProofs (disch := omega) only [List.any_cons, List.any_nil, Nat.reduceEqDiff, List.map_cons, List.map_nil, Option.map_some, Option.map_none, List.nil_append, ↓reduceIte, vcu, ↓vcd, l0, l1]
  refine fin_drop Try.results18 σ s1 ⟨?_, rfl⟩
  simp -implicitDefEqProofs (disch := omega) only [List.any_cons, List.any_nil, Nat.reduceEqDiff, List.map_cons, List.map_nil, Option.map_some, Option.map_none, List.nil_append, ↓reduceIte, vcu, ↓vcd]
  simp [FV, a1, a2, a3, a4]

theorem implFL_calls (σ : AHeap) (x y z w : Int) : ACall Try.prog w0 22 [.agg #[.int .i64 x, .int .i64 y], .agg #[.int .i64 z, .int .i64 w]] σ fun r σ' => r = .bool (decide (FLs x y z w)) ∧ σ' = σ := by
  refine acall_go mixed Try.func22 rfl good22 fun pr => ?_
  simp -implicitDefEqProofs (disch := omega) only [List.any_cons, List.any_nil, Nat.reduceEqDiff, List.map_cons, List.map_nil, Option.map_some, Option.map_none, List.nil_append, ↓reduceIte, vcu, ↓vcd]
  refine r_boxed fun h1 τ1 n1 s1 e1 => ?_
  replace e1 : τ1 h1 = some ⟨[.int .i64 x, .int .i64 y], false⟩ := e1
  refine r_boxed fun h2 τ2 n2 s2 e2 => ?_
  replace e2 : τ2 h2 = some ⟨[.int .i64 z, .int .i64 w], false⟩ := by rw [e2]; simp -implicitDefEqProofs (disch := omega) only [List.any_cons, List.any_nil, Nat.reduceEqDiff, List.map_cons, List.map_nil, Option.map_some, Option.map_none, List.nil_append, ↓reduceIte, vcu, ↓vcd]; rfl
  have s12 := s1.trans s2
  replace e1 := s2 _ _ e1
  have l0 : ld τ2 h1 (0 + 0) = some (.int .i64 x) := ld_of e1 rfl
  have l1 : ld τ2 h1 (0 + 1) = some (.int .i64 y) := ld_of e1 rfl
  have m0 : ld τ2 h2 (0 + 0) = some (.int .i64 z) := ld_of e2 rfl
  have m1 : ld τ2 h2 (0 + 1) = some (.int .i64 w) := ld_of e2 rfl
  have ll : lds τ2 h1 0 2 = some [.int .i64 x, .int .i64 y] := lds_two (ld_of e1 rfl) (ld_of e1 rfl)
  have mm : lds τ2 h2 0 2 = some [.int .i64 z, .int .i64 w] := lds_two (ld_of e2 rfl) (ld_of e2 rfl)
  simp -implicitDefEqProofs (disch := omega) only [List.any_cons, List.any_nil, Nat.reduceEqDiff, List.map_cons, List.map_nil, Option.map_some, Option.map_none, List.nil_append, ↓reduceIte, vcu, ↓vcd, ll, co24]
  refine (implFV_calls τ2 x y).mono ?_
  rintro r _ ⟨rfl, rfl⟩
  rename_i τ2
  by_cases h : FV x y
  case neg =>
    rw [decide_eq_false h]
    simp -implicitDefEqProofs (disch := omega) only [List.any_cons, List.any_nil, Nat.reduceEqDiff, List.map_cons, List.map_nil, Option.map_some, Option.map_none, List.nil_append, ↓reduceIte, vcu, ↓vcd, opK_some]
    refine fin_drop Try.results22 σ s12 ⟨?_, rfl⟩
    simp -implicitDefEqProofs (disch := omega) only [List.any_cons, List.any_nil, Nat.reduceEqDiff, List.map_cons, List.map_nil, Option.map_some, Option.map_none, List.nil_append, ↓reduceIte, vcu, ↓vcd]
    simp [FLs, h]
  rw [decide_eq_true h]
  simp -implicitDefEqProofs (disch := omega) only [List.any_cons, List.any_nil, Nat.reduceEqDiff, List.map_cons, List.map_nil, Option.map_some, Option.map_none, List.nil_append, ↓reduceIte, vcu, ↓vcd, opK_some, mm, co24]
  refine (implFV_calls τ2 z w).mono ?_
  rintro r _ ⟨rfl, rfl⟩
  rename_i τ2
  by_cases h' : FV z w
  case neg =>
    rw [decide_eq_false h']
    simp -implicitDefEqProofs (disch := omega) only [List.any_cons, List.any_nil, Nat.reduceEqDiff, List.map_cons, List.map_nil, Option.map_some, Option.map_none, List.nil_append, ↓reduceIte, vcu, ↓vcd, opK_some]
    refine fin_drop Try.results22 σ s12 ⟨?_, rfl⟩
    simp -implicitDefEqProofs (disch := omega) only [List.any_cons, List.any_nil, Nat.reduceEqDiff, List.map_cons, List.map_nil, Option.map_some, Option.map_none, List.nil_append, ↓reduceIte, vcu, ↓vcd]
    simp [FLs, h']
  rw [decide_eq_true h']
  have c1 := cross_le h.1 h'.2
  have c2 := cross_le h'.1 h.2
  simp -implicitDefEqProofs (disch := omega) only [List.any_cons, List.any_nil, Nat.reduceEqDiff, List.map_cons, List.map_nil, Option.map_some, Option.map_none, List.nil_append, ↓reduceIte, vcu, ↓vcd, opK_some, l0, l1, m0, m1]
  refine fin_drop Try.results22 σ s12 ⟨?_, rfl⟩
  simp -implicitDefEqProofs (disch := omega) only [List.any_cons, List.any_nil, Nat.reduceEqDiff, List.map_cons, List.map_nil, Option.map_some, Option.map_none, List.nil_append, ↓reduceIte, vcu, ↓vcd]
  simp [FLs, h, h']

theorem implShares_calls (σ : AHeap) (L t : Int) : ACall Try.prog w0 52 [.int .i64 L, .int .i64 t] σ fun r σ' => r = .bool (decide (OK7 L t)) ∧ σ' = σ := by
  refine acall_go mixed Try.func52 rfl good52 fun pr => ?_
  by_cases a1 : 0 ≤ L
  case neg =>
    simp -implicitDefEqProofs (disch := omega) only [List.any_cons, List.any_nil, Nat.reduceEqDiff, List.map_cons, List.map_nil, Option.map_some, Option.map_none, List.nil_append, ↓reduceIte, vcu, ↓vcd]
    refine fin_one Try.results52 ⟨?_, rfl⟩
    simp -implicitDefEqProofs (disch := omega) only [List.any_cons, List.any_nil, Nat.reduceEqDiff, List.map_cons, List.map_nil, Option.map_some, Option.map_none, List.nil_append, ↓reduceIte, vcu, ↓vcd]
    simp [OK7, a1]
  by_cases a2 : L ≤ 6
  case neg =>
    simp -implicitDefEqProofs (disch := omega) only [List.any_cons, List.any_nil, Nat.reduceEqDiff, List.map_cons, List.map_nil, Option.map_some, Option.map_none, List.nil_append, ↓reduceIte, vcu, ↓vcd]
    refine fin_one Try.results52 ⟨?_, rfl⟩
    simp -implicitDefEqProofs (disch := omega) only [List.any_cons, List.any_nil, Nat.reduceEqDiff, List.map_cons, List.map_nil, Option.map_some, Option.map_none, List.nil_append, ↓reduceIte, vcu, ↓vcd]
    simp [OK7, a2]
  by_cases a3 : 0 ≤ t
  case neg =>
    simp -implicitDefEqProofs (disch := omega) only [List.any_cons, List.any_nil, Nat.reduceEqDiff, List.map_cons, List.map_nil, Option.map_some, Option.map_none, List.nil_append, ↓reduceIte, vcu, ↓vcd]
    refine fin_one Try.results52 ⟨?_, rfl⟩
    simp -implicitDefEqProofs (disch := omega) only [List.any_cons, List.any_nil, Nat.reduceEqDiff, List.map_cons, List.map_nil, Option.map_some, Option.map_none, List.nil_append, ↓reduceIte, vcu, ↓vcd]
    simp [OK7, a3]
  by_cases a4 : t ≤ 8
  case neg =>
    simp -implicitDefEqProofs (disch := omega) only [List.any_cons, List.any_nil, Nat.reduceEqDiff, List.map_cons, List.map_nil, Option.map_some, Option.map_none, List.nil_append, ↓reduceIte, vcu, ↓vcd]
    refine fin_one Try.results52 ⟨?_, rfl⟩
    simp -implicitDefEqProofs (disch := omega) only [List.any_cons, List.any_nil, Nat.reduceEqDiff, List.map_cons, List.map_nil, Option.map_some, Option.map_none, List.nil_append, ↓reduceIte, vcu, ↓vcd]
    simp [OK7, a4]
  simp -implicitDefEqProofs (disch := omega) only [List.any_cons, List.any_nil, Nat.reduceEqDiff, List.map_cons, List.map_nil, Option.map_some, Option.map_none, List.nil_append, ↓reduceIte, vcu, ↓vcd]
  refine fin_one Try.results52 ⟨?_, rfl⟩
  simp -implicitDefEqProofs (disch := omega) only [List.any_cons, List.any_nil, Nat.reduceEqDiff, List.map_cons, List.map_nil, Option.map_some, Option.map_none, List.nil_append, ↓reduceIte, vcu, ↓vcd]
  simp [OK7, a1, a2, a3, a4]

theorem implLow_calls (σ : AHeap) (a b : Nat) (ha : a ≤ 1000000000000) (hb : b ≤ 1000000000000) (hb0 : 0 < b) : ACall Try.prog w0 53 [.int .i64 a, .int .i64 b] σ fun r σ' => r = .agg #[.int .i64 (low a b).1, .int .i64 (low a b).2] ∧ σ' = σ := by
  refine acall_goc mixed Try.func53 rfl goodc53 fun pr => ?_
  simp -implicitDefEqProofs (disch := omega) only [List.any_cons, List.any_nil, Nat.reduceEqDiff, List.map_cons, List.map_nil, Option.map_some, Option.map_none, List.nil_append, ↓reduceIte, vcu, ↓vcd]
  refine r_new ze24 fun c4 τ1 n4 s1 e4 => ?_
  replace e4 : τ1 c4 = some ⟨[.int .i64 0, .int .i64 0], false⟩ := e4
  simp -implicitDefEqProofs (disch := omega) only [List.any_cons, List.any_nil, Nat.reduceEqDiff, List.map_cons, List.map_nil, Option.map_some, Option.map_none, List.nil_append, ↓reduceIte, vcu, ↓vcd]
  refine vc_loop_c mixed (by kernel_rfl) [0, 1, 4] (fun m f σ' => ∃ A : Nat, f 5 = .int .i64 A ∧ f 6 = .int .i64 m ∧ Nat.gcd A m = Nat.gcd a b ∧ A ≤ 1000000000000 ∧ m ≤ 1000000000000 ∧ σ' = τ1) a ⟨b, rfl, rfl, Nat.gcd_comm _ _, hb, ha, rfl⟩ ?_
  rintro B f σ' hc ⟨A, h5, h6, hg, hA, hB, rfl⟩
  simp -implicitDefEqProofs (disch := omega) only [List.any_cons, List.any_nil, Nat.reduceEqDiff, List.map_cons, List.map_nil, Option.map_some, Option.map_none, List.nil_append, ↓reduceIte, vcu, ↓vcd] at hc
  obtain ⟨h0, h1, h4, -⟩ := hc
  by_cases hz : B = 0
  · subst hz
    rw [Nat.gcd_zero_right] at hg
    have hgp : 0 < A := by rw [hg]; exact Nat.gcd_pos_of_pos_right _ hb0
    have q1 : (a : Int) / (A : Int) = (((low a b).1 : Nat) : Int) := by simp [low, hg]
    have q2 : (b : Int) / (A : Int) = (((low a b).2 : Nat) : Int) := by simp [low, hg]
    clear hg
    generalize (low a b).1 = x at *
    generalize (low a b).2 = y at *
    simp -implicitDefEqProofs (disch := omega) only [List.any_cons, List.any_nil, Nat.reduceEqDiff, List.map_cons, List.map_nil, Option.map_some, Option.map_none, List.nil_append, ↓reduceIte, vcu, ↓vcd, h0, h1, h4, h5, h6, Int.natCast_zero]
    refine region_tree mixed (quiets [0, 1, 2, 3, 4, 5] (.one 6 (.one 7 .stop))) [] (by kernel_rfl) (by kernel_rfl) (fun p hp => by cases hp) ?_
    refine tree_quiets (fun _ => none) _ _ _ sf0 (by kernel_rfl) (by kernel_rfl) ?_
    simp -implicitDefEqProofs (disch := omega) only [List.any_cons, List.any_nil, Nat.reduceEqDiff, List.map_cons, List.map_nil, Option.map_some, Option.map_none, List.nil_append, ↓reduceIte, vcu, ↓vcd, pickOps_nil, pickOps_cons, pickO_some, List.getElem?_cons_succ, List.getElem?_cons_zero, h0, h1, h4, h5, h6, q1, q2]
    refine tree_one rfl ?_
    rw [r_build]
    refine ⟨(_, #[.int .i64 x, .int .i64 y]), ⟨ze24, by simp -implicitDefEqProofs (disch := omega) only [List.any_cons, List.any_nil, Nat.reduceEqDiff, List.map_cons, List.map_nil, Option.map_some, Option.map_none, List.nil_append, ↓reduceIte, vcu, ↓vcd]; kernel_rfl⟩, ?_⟩
    simp -implicitDefEqProofs (disch := omega) only [List.any_cons, List.any_nil, Nat.reduceEqDiff, List.map_cons, List.map_nil, Option.map_some, Option.map_none, List.nil_append, ↓reduceIte, vcu, ↓vcd]
    refine ⟨keep_of rfl (fun p hp => by cases hp), tree_one rfl ?_⟩
    refine r_sets (g := c4) (i := 0) (C := [.int .i64 0, .int .i64 0]) (by simp -implicitDefEqProofs (disch := omega) only [List.any_cons, List.any_nil, Nat.reduceEqDiff, List.map_cons, List.map_nil, Option.map_some, Option.map_none, List.nil_append, ↓reduceIte, vcu, ↓vcd, h4]) (by simp -implicitDefEqProofs (disch := omega) only [List.any_cons, List.any_nil, Nat.reduceEqDiff, List.map_cons, List.map_nil, Option.map_some, Option.map_none, List.nil_append, ↓reduceIte, vcu, ↓vcd, co24]; rfl) (by simp -implicitDefEqProofs (disch := omega) only [List.any_cons, List.any_nil, Nat.reduceEqDiff, List.map_cons, List.map_nil, Option.map_some, Option.map_none, List.nil_append, ↓reduceIte, vcu, ↓vcd]; rfl) (by simp -implicitDefEqProofs (disch := omega) only [List.any_cons, List.any_nil, Nat.reduceEqDiff, List.map_cons, List.map_nil, Option.map_some, Option.map_none, List.nil_append, ↓reduceIte, vcu, ↓vcd]; exact Nat.zero_lt_succ _) e4 (by simp -implicitDefEqProofs (disch := omega) only [List.any_cons, List.any_nil, Nat.reduceEqDiff, List.map_cons, List.map_nil, Option.map_some, Option.map_none, List.nil_append, ↓reduceIte, vcu, ↓vcd]; exact Nat.le_refl _) fun τ2 k2 e2 => ?_
    replace e2 : τ2 c4 = some ⟨[.int .i64 x, .int .i64 y], false⟩ := e2
    have l2 : lds τ2 c4 0 2 = some [.int .i64 x, .int .i64 y] := lds_two (ld_of e2 rfl) (ld_of e2 rfl)
    simp -implicitDefEqProofs (disch := omega) only [List.any_cons, List.any_nil, Nat.reduceEqDiff, List.map_cons, List.map_nil, Option.map_some, Option.map_none, List.nil_append, ↓reduceIte, vcu, ↓vcd]
    refine ⟨keep_of rfl (fun p hp => by cases hp), tree_stop ?_⟩
    simp -implicitDefEqProofs (disch := omega) only [List.any_cons, List.any_nil, Nat.reduceEqDiff, List.map_cons, List.map_nil, Option.map_some, Option.map_none, List.nil_append, ↓reduceIte, vcu, ↓vcd, h4]
    refine fin_cell Try.results53 σ (k2.sub s1 n4) (v := .agg #[.int .i64 x, .int .i64 y]) (by simp -implicitDefEqProofs (disch := omega) only [List.any_cons, List.any_nil, Nat.reduceEqDiff, List.map_cons, List.map_nil, Option.map_some, Option.map_none, List.nil_append, ↓reduceIte, vcu, ↓vcd, h4, l2, co24]) ⟨rfl, rfl⟩
  · have hm : (A : Int) % (B : Int) = ((A % B : Nat) : Int) := by simp
    have hl : A % B < B := Nat.mod_lt _ (by omega)
    simp -implicitDefEqProofs (disch := omega) only [List.any_cons, List.any_nil, Nat.reduceEqDiff, List.map_cons, List.map_nil, Option.map_some, Option.map_none, List.nil_append, ↓reduceIte, vcu, ↓vcd, h0, h1, h4, h5, h6, hm]
    refine ⟨by simp [h0, h1, h4], A % B, hl, B, rfl, rfl, ?_, by omega, by omega, trivial⟩
    rw [Nat.gcd_comm B (A % B), ← Nat.gcd_rec, Nat.gcd_comm, hg]

theorem fromTo_zero_le : ∀ t, t ≤ 8 → fromTo 0 t ≤ 16777216 := fun t h => Nat.le_trans (fromTo_le t h) (pow8 h)
theorem implFact_calls (σ : AHeap) (t : Nat) (ht : t ≤ 8) : ACall Try.prog w0 56 [.int .i64 t] σ fun r σ' => r = .int .i64 (fromTo 0 t : Nat) ∧ σ' = σ := by
  refine acall_go mixed Try.func56 rfl good56 fun pr => ?_
  simp -implicitDefEqProofs (disch := omega) only [List.any_cons, List.any_nil, Nat.reduceEqDiff, List.map_cons, List.map_nil, Option.map_some, Option.map_none, List.nil_append, ↓reduceIte, vcu, ↓vcd]
  refine vc_loop_c mixed (by kernel_rfl) [0] (fun m a σ' => ∃ j : Nat, m = t - j ∧ 1 ≤ j ∧ (j ≤ t ∨ j = 1) ∧ a 3 = .int .i64 (fromTo 0 j : Nat) ∧ a 4 = .int .i64 ((j + 1 : Nat) : Int) ∧ σ' = σ) (t - 1) ⟨1, rfl, by omega, .inr rfl, rfl, rfl, rfl⟩ ?_
  rintro m a σ' hc ⟨j, hm, hj, hjt, h3, h4, rfl⟩
  simp -implicitDefEqProofs (disch := omega) only [List.any_cons, List.any_nil, Nat.reduceEqDiff, List.map_cons, List.map_nil, Option.map_some, Option.map_none, List.nil_append, ↓reduceIte, vcu, ↓vcd] at hc
  obtain ⟨h0, -⟩ := hc
  by_cases hlt : j < t
  · have hb := fromTo_zero_le (j + 1) (by omega)
    have q : ((fromTo 0 j : Nat) : Int) * ((j + 1 : Nat) : Int) = ((fromTo 0 (j + 1) : Nat) : Int) := by rw [fromTo_succ (Nat.zero_le _), Int.natCast_mul]
    simp -implicitDefEqProofs (disch := omega) only [List.any_cons, List.any_nil, Nat.reduceEqDiff, List.map_cons, List.map_nil, Option.map_some, Option.map_none, List.nil_append, ↓reduceIte, vcu, ↓vcd, h0, h3, h4, q]
    exact ⟨by simp [h0], m - 1, by omega, j + 1, by omega, by omega, by omega, rfl, by simp, trivial⟩
  · have e : fromTo 0 j = fromTo 0 t := by
      rcases hjt with h | h
      · rw [show j = t by omega]
      · subst h
        rcases Nat.eq_zero_or_pos t with h | h
        · subst h; rfl
        · rw [show t = 1 by omega]
    simp -implicitDefEqProofs (disch := omega) only [List.any_cons, List.any_nil, Nat.reduceEqDiff, List.map_cons, List.map_nil, Option.map_some, Option.map_none, List.nil_append, ↓reduceIte, vcu, ↓vcd, h0, h3, h4]
    refine fin_one Try.results56 ⟨?_, rfl⟩
    simp -implicitDefEqProofs (disch := omega) only [List.any_cons, List.any_nil, Nat.reduceEqDiff, List.map_cons, List.map_nil, Option.map_some, Option.map_none, List.nil_append, ↓reduceIte, vcu, ↓vcd, h3]
    rw [e]
end Go.Proofs.Ytkepicmefpcgaaa
