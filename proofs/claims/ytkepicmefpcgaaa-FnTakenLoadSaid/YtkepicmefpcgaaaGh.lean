/- What the laws of chapter 7 ask of the numbers. -/
import Derived.Test.YtkepicmefpcgaaaLaw7BP
set_option linter.unusedSimpArgs false
set_option linter.unusedVariables false
namespace Go.Proofs.Ytkepicmefpcgaaa
open Go Go.Abs Go.RowKit
variable {w0 : World}

theorem ls_lp (L t : Int) : lsN L t = lpN L t ∧ lsD L t = lpD L t := by
  unfold lsN lsD lpN lpD
  by_cases h : OK7 L t
  · have hP := part (L := L.toNat) (t := t.toNat) (by have := h.1; omega) (by have := h.2; omega)
    rw [if_pos h, if_pos h, if_pos h, if_pos h, hP.sum]
    exact ⟨rfl, rfl⟩
  · rw [if_neg h, if_neg h, if_neg h, if_neg h]; exact ⟨rfl, rfl⟩
theorem lp_at {L t : Nat} (hL : L ≤ 6) (ht : t ≤ 8) : lpN (L : Int) (t : Int) = ((lp L t).1 : Int) ∧ lpD (L : Int) (t : Int) = ((lp L t).2 : Int) := by
  have h : OK7 (L : Int) (t : Int) := ⟨by omega, by omega⟩
  unfold lpN lpD
  rw [if_pos h, if_pos h]
  simp
theorem fv_at {L t : Nat} (hL : L ≤ 6) (ht : t ≤ 8) : FV ((lp L t).1 : Int) ((lp L t).2 : Int) := by
  have := (part hL ht).ok
  exact ⟨by omega, by omega⟩
theorem fl_of {a b : Nat × Nat} (ha : FV (a.1 : Int) (a.2 : Int)) (hb : FV (b.1 : Int) (b.2 : Int)) (h : lessF a b = true) : FLs (a.1 : Int) (a.2 : Int) (b.1 : Int) (b.2 : Int) := by
  refine ⟨ha, hb, ?_⟩
  have := (lessF_iff a b).1 h
  rw [← Int.natCast_mul, ← Int.natCast_mul]
  omega
theorem lp_zero (n : Nat) (h : n ≤ 8) (h0 : 0 < n) : lp 0 n = (0, 1) := by
  rcases (part (L := 0) (t := n) (by omega) h).zero with h1 | h1 | h1
  · omega
  · omega
  · exact h1
/-- a line more: less is lost, if there is a load or no line yet -/
theorem line_less {L t : Nat} (hL : L ≤ 6) (ht : t < 8) (h : ¬ (L = 0 ∧ 0 < t)) : FLs ((lp L (t + 1)).1 : Int) ((lp L (t + 1)).2 : Int) ((lp L t).1 : Int) ((lp L t).2 : Int) := by
  rcases (part hL (show t ≤ 8 by omega)).line with ⟨a, b, -⟩ | h1
  · exact absurd ⟨a, b⟩ h
  · exact fl_of (fv_at hL (by omega)) (fv_at hL (by omega)) h1
theorem load_less {L t : Nat} (hL : L < 6) (ht : t ≤ 8) (h : t ≠ 0) : FLs ((lp L t).1 : Int) ((lp L t).2 : Int) ((lp (L + 1) t).1 : Int) ((lp (L + 1) t).2 : Int) := by
  rcases (part (show L ≤ 6 by omega) ht).load with ⟨a, -⟩ | h1
  · exact absurd a h
  · exact fl_of (fv_at (by omega) ht) (fv_at (by omega) ht) h1
set_option maxRecDepth 8000 in
theorem sumB_calls (σ : AHeap) (v : Value) (L t : Nat) (hL : L ≤ 6) (ht : t ≤ 8) (hv : Ints .i64 σ v (busyN L t (t + 1))) :
    ACall Try.prog w0 31 [v] σ fun r σ' => r = .int .i64 (sumN (term L t) (t + 1) : Nat) ∧ σ' = σ := by
  refine ACall.ints_quiet (pre := []) (post := []) (by kernel_rfl) hv fun σ1 h o _ hg => ?_
  have hl := busyN_length L t (t + 1)
  rw [hl]
  refine acall_go mixed Try.func31 rfl good31 fun pr => ?_
  simp -implicitDefEqProofs (disch := omega) only [List.any_cons, List.any_nil, Nat.reduceEqDiff, List.map_cons, List.map_nil, Option.map_some, Option.map_none, List.nil_append, ↓reduceIte, vcu, ↓vcd]
  refine vc_loop_c mixed (by kernel_rfl) [0] (fun m a σ' => ∃ k : Nat, m + k = t + 1 ∧ a 4 = .int .i64 k ∧ a 3 = .int .i64 (sumN (term L t) k : Nat) ∧ σ' = σ1) (t + 1) ⟨0, by simp, rfl, rfl, rfl⟩ ?_
  rintro m a σ' hc ⟨k, hk, h4, h3, rfl⟩
  simp -implicitDefEqProofs (disch := omega) only [List.any_cons, List.any_nil, Nat.reduceEqDiff, List.map_cons, List.map_nil, Option.map_some, Option.map_none, List.nil_append, ↓reduceIte, vcu, ↓vcd] at hc
  obtain ⟨h0, -⟩ := hc
  by_cases hlt : k < t + 1
  · have hy := hg k (by rw [hl]; exact hlt)
    rw [busyN_getD hlt] at hy
    have hb1 : ∀ i, i ≤ t → term L t i ≤ 28179280429056 := fun i hi => part_le hL (by omega) ht
    have hb2 := sumN_le (f := term L t) (B := 28179280429056) k fun i hi => hb1 i (by omega)
    have hb3 := hb1 k (by omega)
    have hb5 : k * 28179280429056 ≤ 9 * 28179280429056 := Nat.mul_le_mul (by omega) (Nat.le_refl _)
    have q : ((sumN (term L t) k : Nat) : Int) + ((term L t k : Nat) : Int) = ((sumN (term L t) (k + 1) : Nat) : Int) := by rw [sumN, Int.natCast_add]
    simp -implicitDefEqProofs (disch := omega) only [List.any_cons, List.any_nil, Nat.reduceEqDiff, List.map_cons, List.map_nil, Option.map_some, Option.map_none, List.nil_append, ↓reduceIte, vcu, ↓vcd, h0, h3, h4, hy, q]
    exact ⟨⟨(by first | trivial | rfl | exact Eq.symm (by assumption)), trivial⟩, m - 1, by omega, k + 1, by omega, by simp, rfl, trivial⟩
  · simp -implicitDefEqProofs (disch := omega) only [List.any_cons, List.any_nil, Nat.reduceEqDiff, List.map_cons, List.map_nil, Option.map_some, Option.map_none, List.nil_append, ↓reduceIte, vcu, ↓vcd, h0, h3, h4]
    have e : k = t + 1 := by omega
    refine fin_one Try.results31 ⟨?_, rfl⟩
    simp -implicitDefEqProofs (disch := omega) only [List.any_cons, List.any_nil, Nat.reduceEqDiff, List.map_cons, List.map_nil, Option.map_some, Option.map_none, List.nil_append, ↓reduceIte, vcu, ↓vcd, h3]
    rw [e]
end Go.Proofs.Ytkepicmefpcgaaa
