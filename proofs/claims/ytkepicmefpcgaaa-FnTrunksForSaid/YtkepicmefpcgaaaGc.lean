/- Blocking, by the reference: what is lost, taken and busy. -/
import Derived.Test.YtkepicmefpcgaaaGb
set_option linter.unusedSimpArgs false
set_option linter.unusedVariables false
namespace Go.Proofs.Ytkepicmefpcgaaa
open Go Go.Abs Go.RowKit
variable {w0 : World}

def OK7 (L t : Int) : Prop := (0 ≤ L ∧ L ≤ 6) ∧ (0 ≤ t ∧ t ≤ 8)
instance (L t : Int) : Decidable (OK7 L t) := by unfold OK7; infer_instance
theorem specOk_at (σ : AHeap) (L t : Int) : ACall Try.prog w0 54 [.int .i64 L, .int .i64 t] σ fun r σ' => r = .bool (decide (OK7 L t)) ∧ σ' = σ := by
  refine acall_go mixed Try.func54 rfl good54 fun pr => ?_
  simp -implicitDefEqProofs (disch := omega) only [List.any_cons, List.any_nil, Nat.reduceEqDiff, List.map_cons, List.map_nil, Option.map_some, Option.map_none, List.nil_append, ↓reduceIte, vcu, ↓vcd]
  refine (in_calls _ _ _ _).mono ?_
  rintro r _ ⟨rfl, rfl⟩
  rename_i σ
  by_cases h : 0 ≤ L ∧ L ≤ 6
  · rw [decide_eq_true h]
    simp -implicitDefEqProofs (disch := omega) only [List.any_cons, List.any_nil, Nat.reduceEqDiff, List.map_cons, List.map_nil, Option.map_some, Option.map_none, List.nil_append, ↓reduceIte, vcu, ↓vcd, opK_some]
    refine (in_calls _ _ _ _).mono ?_
    rintro r _ ⟨rfl, rfl⟩
    simp -implicitDefEqProofs (disch := omega) only [List.any_cons, List.any_nil, Nat.reduceEqDiff, List.map_cons, List.map_nil, Option.map_some, Option.map_none, List.nil_append, ↓reduceIte, vcu, ↓vcd, opK_some]
    refine fin_one Try.results54 ⟨?_, rfl⟩
    simp -implicitDefEqProofs (disch := omega) only [List.any_cons, List.any_nil, Nat.reduceEqDiff, List.map_cons, List.map_nil, Option.map_some, Option.map_none, List.nil_append, ↓reduceIte, vcu, ↓vcd]
    simp [OK7, h]
  · rw [decide_eq_false h]
    simp -implicitDefEqProofs (disch := omega) only [List.any_cons, List.any_nil, Nat.reduceEqDiff, List.map_cons, List.map_nil, Option.map_some, Option.map_none, List.nil_append, ↓reduceIte, vcu, ↓vcd, opK_some]
    refine fin_one Try.results54 ⟨?_, rfl⟩
    simp -implicitDefEqProofs (disch := omega) only [List.any_cons, List.any_nil, Nat.reduceEqDiff, List.map_cons, List.map_nil, Option.map_some, Option.map_none, List.nil_append, ↓reduceIte, vcu, ↓vcd]
    simp [OK7, h]
def lpN (L t : Int) : Int := if OK7 L t then ((lp L.toNat t.toNat).1 : Int) else 0
def lpD (L t : Int) : Int := if OK7 L t then ((lp L.toNat t.toNat).2 : Int) else 0
theorem step7 {L n : Nat} (hL : L ≤ 6) (hn : n < 8) {x y : Nat} (hx : x ≤ 1000000000) (hy : y ≤ 1000000000) : L * x ≤ 6000000000 ∧ (n + 1) * y ≤ 8000000000 := by
  have h1 := Nat.mul_le_mul hL hx
  have h2 := Nat.mul_le_mul (show n + 1 ≤ 8 by omega) hy
  omega

theorem specLP_at (σ : AHeap) (L t : Int) : ACall Try.prog w0 26 [.int .i64 L, .int .i64 t] σ fun r σ' => r = .tuple #[.agg #[.int .i64 (lpN L t), .int .i64 (lpD L t)], .bool (decide (OK7 L t))] ∧ σ' = σ := by
  unfold lpN lpD
  refine acall_goc mixed Try.func26 rfl goodc26 fun pr => ?_
  simp -implicitDefEqProofs (disch := omega) only [List.any_cons, List.any_nil, Nat.reduceEqDiff, List.map_cons, List.map_nil, Option.map_some, Option.map_none, List.nil_append, ↓reduceIte, vcu, ↓vcd]
  refine r_new ze24 fun c4 τ1 n4 s1 e4 => ?_
  replace e4 : τ1 c4 = some ⟨[.int .i64 0, .int .i64 0], false⟩ := e4
  simp -implicitDefEqProofs (disch := omega) only [List.any_cons, List.any_nil, Nat.reduceEqDiff, List.map_cons, List.map_nil, Option.map_some, Option.map_none, List.nil_append, ↓reduceIte, vcu, ↓vcd]
  refine (specOk_at τ1 L t).mono ?_
  rintro r _ ⟨rfl, rfl⟩
  rename_i τ1
  by_cases h : OK7 L t
  case neg =>
    rw [decide_eq_false h, if_neg h, if_neg h]
    simp -implicitDefEqProofs (disch := omega) only [List.any_cons, List.any_nil, Nat.reduceEqDiff, List.map_cons, List.map_nil, Option.map_some, Option.map_none, List.nil_append, ↓reduceIte, vcu, ↓vcd, opK_some, Bool.not_false]
    rw [r_build]
    refine ⟨(_, #[.int .i64 0, .int .i64 0]), ⟨ze24, by simp -implicitDefEqProofs (disch := omega) only [List.any_cons, List.any_nil, Nat.reduceEqDiff, List.map_cons, List.map_nil, Option.map_some, Option.map_none, List.nil_append, ↓reduceIte, vcu, ↓vcd]; kernel_rfl⟩, ?_⟩
    simp -implicitDefEqProofs (disch := omega) only [List.any_cons, List.any_nil, Nat.reduceEqDiff, List.map_cons, List.map_nil, Option.map_some, Option.map_none, List.nil_append, ↓reduceIte, vcu, ↓vcd]
    refine r_sets (g := c4) (i := 0) (C := [.int .i64 0, .int .i64 0]) (by simp -implicitDefEqProofs (disch := omega) only [List.any_cons, List.any_nil, Nat.reduceEqDiff, List.map_cons, List.map_nil, Option.map_some, Option.map_none, List.nil_append, ↓reduceIte, vcu, ↓vcd]) (by simp -implicitDefEqProofs (disch := omega) only [List.any_cons, List.any_nil, Nat.reduceEqDiff, List.map_cons, List.map_nil, Option.map_some, Option.map_none, List.nil_append, ↓reduceIte, vcu, ↓vcd, co24]; rfl) (by simp -implicitDefEqProofs (disch := omega) only [List.any_cons, List.any_nil, Nat.reduceEqDiff, List.map_cons, List.map_nil, Option.map_some, Option.map_none, List.nil_append, ↓reduceIte, vcu, ↓vcd]; rfl) (by simp -implicitDefEqProofs (disch := omega) only [List.any_cons, List.any_nil, Nat.reduceEqDiff, List.map_cons, List.map_nil, Option.map_some, Option.map_none, List.nil_append, ↓reduceIte, vcu, ↓vcd]; exact Nat.zero_lt_succ _) e4 (by simp -implicitDefEqProofs (disch := omega) only [List.any_cons, List.any_nil, Nat.reduceEqDiff, List.map_cons, List.map_nil, Option.map_some, Option.map_none, List.nil_append, ↓reduceIte, vcu, ↓vcd]; exact Nat.le_refl _) fun τ2 k2 e2 => ?_
    replace e2 : τ2 c4 = some ⟨[.int .i64 0, .int .i64 0], false⟩ := e2
    have l2 : lds τ2 c4 0 2 = some [.int .i64 0, .int .i64 0] := lds_two (ld_of e2 rfl) (ld_of e2 rfl)
    simp -implicitDefEqProofs (disch := omega) only [List.any_cons, List.any_nil, Nat.reduceEqDiff, List.map_cons, List.map_nil, Option.map_some, Option.map_none, List.nil_append, ↓reduceIte, vcu, ↓vcd]
    refine fin_ct7 Try.results26 σ (k2.sub s1 n4) (v := .agg #[.int .i64 0, .int .i64 0]) (by simp -implicitDefEqProofs (disch := omega) only [List.any_cons, List.any_nil, Nat.reduceEqDiff, List.map_cons, List.map_nil, Option.map_some, Option.map_none, List.nil_append, ↓reduceIte, vcu, ↓vcd, l2, co24]) ⟨?_, rfl⟩
    simp -implicitDefEqProofs (disch := omega) only [List.any_cons, List.any_nil, Nat.reduceEqDiff, List.map_cons, List.map_nil, Option.map_some, Option.map_none, List.nil_append, ↓reduceIte, vcu, ↓vcd]
  rw [decide_eq_true h, if_pos h, if_pos h]
  obtain ⟨⟨a1, a2⟩, a3, a4⟩ := h
  obtain ⟨L, rfl⟩ : ∃ n : Nat, L = n := ⟨L.toNat, by omega⟩
  obtain ⟨t, rfl⟩ : ∃ n : Nat, t = n := ⟨t.toNat, by omega⟩
  simp only [Int.toNat_natCast]
  simp -implicitDefEqProofs (disch := omega) only [List.any_cons, List.any_nil, Nat.reduceEqDiff, List.map_cons, List.map_nil, Option.map_some, Option.map_none, List.nil_append, ↓reduceIte, vcu, ↓vcd, opK_some, Bool.not_true]
  rw [r_build]
  refine ⟨(_, #[.int .i64 1, .int .i64 1]), ⟨ze24, by simp -implicitDefEqProofs (disch := omega) only [List.any_cons, List.any_nil, Nat.reduceEqDiff, List.map_cons, List.map_nil, Option.map_some, Option.map_none, List.nil_append, ↓reduceIte, vcu, ↓vcd]; kernel_rfl⟩, ?_⟩
  simp -implicitDefEqProofs (disch := omega) only [List.any_cons, List.any_nil, Nat.reduceEqDiff, List.map_cons, List.map_nil, Option.map_some, Option.map_none, List.nil_append, ↓reduceIte, vcu, ↓vcd]
  refine r_local (cs := #[.int .i64 1, .int .i64 1]) ze24 (by decide) (by simp -implicitDefEqProofs (disch := omega) only [List.any_cons, List.any_nil, Nat.reduceEqDiff, List.map_cons, List.map_nil, Option.map_some, Option.map_none, List.nil_append, ↓reduceIte, vcu, ↓vcd]) (by rw [co24]; rfl) rfl rfl (Nat.zero_lt_succ _) fun c6 τ2 n6 s2 e6 => ?_
  replace e6 : τ2 c6 = some ⟨[.int .i64 ((lp L 0).1 : Int), .int .i64 ((lp L 0).2 : Int)], false⟩ := e6
  have d46 : c4 ≠ c6 := ne_of' n6 e4
  replace e4 := s2 _ _ e4
  have s12 := s1.trans s2
  have n6' := free_sub s1 n6
  simp -implicitDefEqProofs (disch := omega) only [List.any_cons, List.any_nil, Nat.reduceEqDiff, List.map_cons, List.map_nil, Option.map_some, Option.map_none, List.nil_append, ↓reduceIte, vcu, ↓vcd]
  refine vc_loop_c mixed (by kernel_rfl) [0, 1, 4, 6] (fun m a σ' => ∃ n : Nat, m + n = t ∧ a 7 = .int .i64 ((n + 1 : Nat) : Int) ∧ Sub σ σ' ∧ σ' c4 = some ⟨[.int .i64 0, .int .i64 0], false⟩ ∧ σ' c6 = some ⟨[.int .i64 ((lp L n).1 : Int), .int .i64 ((lp L n).2 : Int)], false⟩) t ⟨0, by simp, rfl, s12, e4, e6⟩ ?_
  clear e4 e6 s12 s1 s2
  rintro m a σ' hc ⟨n, hn, h7, hs, e4, e6⟩
  simp -implicitDefEqProofs (disch := omega) only [List.any_cons, List.any_nil, Nat.reduceEqDiff, List.map_cons, List.map_nil, Option.map_some, Option.map_none, List.nil_append, ↓reduceIte, vcu, ↓vcd] at hc
  obtain ⟨h0, h1, h4, h6, -⟩ := hc
  have l0 : ld σ' c6 (0 + 0) = some (.int .i64 ((lp L n).1 : Int)) := ld_of e6 rfl
  have l1 : ld σ' c6 (0 + 1) = some (.int .i64 ((lp L n).2 : Int)) := ld_of e6 rfl
  have l2 : lds σ' c6 0 2 = some [.int .i64 ((lp L n).1 : Int), .int .i64 ((lp L n).2 : Int)] := lds_two (ld_of e6 rfl) (ld_of e6 rfl)
  have hP := part (L := L) (t := n) (by omega) (by omega)
  by_cases hlt : n < t
  · have hst := step7 (L := L) (n := n) (by omega) (by omega) hP.ok.1 hP.ok.2.2
    have hgo : lp L (n + 1) = low (L * (lp L n).1) ((n + 1) * (lp L n).2 + L * (lp L n).1) := rfl
    have hpos : 0 < (n + 1) * (lp L n).2 := Nat.mul_pos (by omega) (by have := hP.ok.2.1; omega)
    have q1 : (L : Int) * ((lp L n).1 : Int) = ((L * (lp L n).1 : Nat) : Int) := by simp
    have q2 : ((n + 1 : Nat) : Int) * ((lp L n).2 : Int) = (((n + 1) * (lp L n).2 : Nat) : Int) := by rw [Int.natCast_mul]
    have hok := hP.ok
    generalize hx : (lp L n).1 = x at *
    generalize hy : (lp L n).2 = y at *
    have q3 : ((L * x : Nat) : Int) = ((L * x : Nat) : Int) := rfl
    generalize hA : L * x = A at *
    generalize hB : (n + 1) * y = B at *
    have q4 : (B : Int) + (A : Int) = ((B + A : Nat) : Int) := by omega
    simp -implicitDefEqProofs (disch := omega) only [List.any_cons, List.any_nil, Nat.reduceEqDiff, List.map_cons, List.map_nil, Option.map_some, Option.map_none, List.nil_append, ↓reduceIte, vcu, ↓vcd, h0, h1, h4, h6, h7, l0, l1, q1, q2, q4]
    refine (specLow_at σ' A (B + A) (by omega) (by omega) (by omega)).mono ?_
    rintro r _ ⟨rfl, rfl⟩
    rename_i σ'
    rw [← hgo]
    simp -implicitDefEqProofs (disch := omega) only [List.any_cons, List.any_nil, Nat.reduceEqDiff, List.map_cons, List.map_nil, Option.map_some, Option.map_none, List.nil_append, ↓reduceIte, vcu, ↓vcd, opK_some]
    refine r_sets (g := c6) (i := 0) (C := [.int .i64 (x : Int), .int .i64 (y : Int)]) (by simp -implicitDefEqProofs (disch := omega) only [List.any_cons, List.any_nil, Nat.reduceEqDiff, List.map_cons, List.map_nil, Option.map_some, Option.map_none, List.nil_append, ↓reduceIte, vcu, ↓vcd, h6]) (by simp -implicitDefEqProofs (disch := omega) only [List.any_cons, List.any_nil, Nat.reduceEqDiff, List.map_cons, List.map_nil, Option.map_some, Option.map_none, List.nil_append, ↓reduceIte, vcu, ↓vcd, co24]; rfl) (by simp -implicitDefEqProofs (disch := omega) only [List.any_cons, List.any_nil, Nat.reduceEqDiff, List.map_cons, List.map_nil, Option.map_some, Option.map_none, List.nil_append, ↓reduceIte, vcu, ↓vcd]; rfl) (by simp -implicitDefEqProofs (disch := omega) only [List.any_cons, List.any_nil, Nat.reduceEqDiff, List.map_cons, List.map_nil, Option.map_some, Option.map_none, List.nil_append, ↓reduceIte, vcu, ↓vcd]; exact Nat.zero_lt_succ _) e6 (by simp -implicitDefEqProofs (disch := omega) only [List.any_cons, List.any_nil, Nat.reduceEqDiff, List.map_cons, List.map_nil, Option.map_some, Option.map_none, List.nil_append, ↓reduceIte, vcu, ↓vcd]; exact Nat.le_refl _) fun τ3 k3 e3 => ?_
    replace e3 : τ3 c6 = some ⟨[.int .i64 ((lp L (n + 1)).1 : Int), .int .i64 ((lp L (n + 1)).2 : Int)], false⟩ := e3
    simp -implicitDefEqProofs (disch := omega) only [List.any_cons, List.any_nil, Nat.reduceEqDiff, List.map_cons, List.map_nil, Option.map_some, Option.map_none, List.nil_append, ↓reduceIte, vcu, ↓vcd, h7]
    refine ⟨by simp [h0, h1, h4, h6], m - 1, by omega, n + 1, by omega, by simp, k3.sub hs n6', k3.at e4 d46, e3⟩
  · have e : n = t := by omega
    subst e
    simp -implicitDefEqProofs (disch := omega) only [List.any_cons, List.any_nil, Nat.reduceEqDiff, List.map_cons, List.map_nil, Option.map_some, Option.map_none, List.nil_append, ↓reduceIte, vcu, ↓vcd, h0, h1, h4, h6, h7, l2, co24]
    refine r_sets (g := c4) (i := 0) (C := [.int .i64 0, .int .i64 0]) (by simp -implicitDefEqProofs (disch := omega) only [List.any_cons, List.any_nil, Nat.reduceEqDiff, List.map_cons, List.map_nil, Option.map_some, Option.map_none, List.nil_append, ↓reduceIte, vcu, ↓vcd, h4]) (by simp -implicitDefEqProofs (disch := omega) only [List.any_cons, List.any_nil, Nat.reduceEqDiff, List.map_cons, List.map_nil, Option.map_some, Option.map_none, List.nil_append, ↓reduceIte, vcu, ↓vcd, co24]; rfl) (by simp -implicitDefEqProofs (disch := omega) only [List.any_cons, List.any_nil, Nat.reduceEqDiff, List.map_cons, List.map_nil, Option.map_some, Option.map_none, List.nil_append, ↓reduceIte, vcu, ↓vcd]; rfl) (by simp -implicitDefEqProofs (disch := omega) only [List.any_cons, List.any_nil, Nat.reduceEqDiff, List.map_cons, List.map_nil, Option.map_some, Option.map_none, List.nil_append, ↓reduceIte, vcu, ↓vcd]; exact Nat.zero_lt_succ _) e4 (by simp -implicitDefEqProofs (disch := omega) only [List.any_cons, List.any_nil, Nat.reduceEqDiff, List.map_cons, List.map_nil, Option.map_some, Option.map_none, List.nil_append, ↓reduceIte, vcu, ↓vcd]; exact Nat.le_refl _) fun τ3 k3 e3 => ?_
    replace e3 : τ3 c4 = some ⟨[.int .i64 ((lp L n).1 : Int), .int .i64 ((lp L n).2 : Int)], false⟩ := e3
    have l3 : lds τ3 c4 0 2 = some [.int .i64 ((lp L n).1 : Int), .int .i64 ((lp L n).2 : Int)] := lds_two (ld_of e3 rfl) (ld_of e3 rfl)
    simp -implicitDefEqProofs (disch := omega) only [List.any_cons, List.any_nil, Nat.reduceEqDiff, List.map_cons, List.map_nil, Option.map_some, Option.map_none, List.nil_append, ↓reduceIte, vcu, ↓vcd]
    refine fin_ct7 Try.results26 σ (k3.sub hs n4) (v := .agg #[.int .i64 ((lp L n).1 : Int), .int .i64 ((lp L n).2 : Int)]) (by simp -implicitDefEqProofs (disch := omega) only [List.any_cons, List.any_nil, Nat.reduceEqDiff, List.map_cons, List.map_nil, Option.map_some, Option.map_none, List.nil_append, ↓reduceIte, vcu, ↓vcd, h4, l3, co24]) ⟨?_, rfl⟩
    simp -implicitDefEqProofs (disch := omega) only [List.any_cons, List.any_nil, Nat.reduceEqDiff, List.map_cons, List.map_nil, Option.map_some, Option.map_none, List.nil_append, ↓reduceIte, vcu, ↓vcd]
end Go.Proofs.Ytkepicmefpcgaaa
