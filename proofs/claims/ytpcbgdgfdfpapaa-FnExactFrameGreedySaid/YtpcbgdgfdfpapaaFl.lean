/- Marks of tables that begin with great numbers. -/
import Derived.Test.YtpcbgdgfdfpapaaFk
set_option linter.unusedSimpArgs false
set_option linter.unusedVariables false
namespace Go.Proofs.Ytpcbgdgfdfpapaa
open Go Go.Abs Go.RowKit
variable {w0 : World}

theorem mark_own2 (σ : AHeap) (g : Nat) (ys : List Int) (k : Int) (hg : σ g = some ⟨ints .i64 ys, false⟩) (hl : ys.length ≤ 1048576) (hk : 0 ≤ k ∧ k ≤ 1152921504606846976) :
    ACall Try.prog w0 73 [.slice (some ⟨g, 0, none⟩) ys.length 1, .int .i64 k] σ fun r σ' => r = .int .i64 (k + ys.length) ∧ Kept g σ σ' ∧ σ' g = some ⟨ints .i64 (seq k ys.length), false⟩ := by
  refine acall_go mixed Try.func73 rfl good73 fun pr => ?_
  simp -implicitDefEqProofs (disch := omega) only [List.any_cons, List.any_nil, Nat.reduceEqDiff, List.map_cons, List.map_nil, Option.map_some, Option.map_none, List.nil_append, ↓reduceIte, vcu, ↓vcd]
  refine vc_loop_c mixed (by kernel_rfl) [0] (fun m a σ' => ∃ i : Nat, m + i = ys.length ∧ a 1 = .int .i64 (k + i) ∧ a 5 = .int .i64 i ∧ Kept g σ σ' ∧ σ' g = some ⟨ints .i64 (seq k i ++ ys.drop i), false⟩) ys.length ⟨0, by simp, by simp [fset, aenter], rfl, Kept.refl _ _, by simpa [seq] using hg⟩ ?_
  rintro m a σ' hc ⟨i, hi, h1, h5, hkp, hgk⟩
  simp -implicitDefEqProofs (disch := omega) only [List.any_cons, List.any_nil, Nat.reduceEqDiff, List.map_cons, List.map_nil, Option.map_some, Option.map_none, List.nil_append, ↓reduceIte, vcu, ↓vcd] at hc
  obtain ⟨h0, -⟩ := hc
  by_cases hlt : i < ys.length
  · have hll : (seq k i ++ ys.drop i).length = ys.length := by simp [seq_length]; omega
    simp -implicitDefEqProofs (disch := omega) only [List.any_cons, List.any_nil, Nat.reduceEqDiff, List.map_cons, List.map_nil, Option.map_some, Option.map_none, List.nil_append, ↓reduceIte, vcu, ↓vcd, h0, h1, h5]
    refine r_setI (g := g) (i := 0 + i) (v := k + i) (by simp -implicitDefEqProofs (disch := omega) only [List.any_cons, List.any_nil, Nat.reduceEqDiff, List.map_cons, List.map_nil, Option.map_some, Option.map_none, List.nil_append, ↓reduceIte, vcu, ↓vcd, h0]) (by simp -implicitDefEqProofs (disch := omega) only [List.any_cons, List.any_nil, Nat.reduceEqDiff, List.map_cons, List.map_nil, Option.map_some, Option.map_none, List.nil_append, ↓reduceIte, vcu, ↓vcd]) co3 hgk (by omega) fun τ1 k1 e1 => ?_
    rw [Nat.zero_add, set_seq hlt] at e1
    simp -implicitDefEqProofs (disch := omega) only [List.any_cons, List.any_nil, Nat.reduceEqDiff, List.map_cons, List.map_nil, Option.map_some, Option.map_none, List.nil_append, ↓reduceIte, vcu, ↓vcd, h0, h1, h5]
    refine ⟨⟨trivial, trivial⟩, m - 1, by omega, i + 1, by omega, ?_, by simp, hkp.trans k1, e1⟩
    congr 1; omega
  · simp -implicitDefEqProofs (disch := omega) only [List.any_cons, List.any_nil, Nat.reduceEqDiff, List.map_cons, List.map_nil, Option.map_some, Option.map_none, List.nil_append, ↓reduceIte, vcu, ↓vcd, h0, h1, h5]
    have e : i = ys.length := by omega
    subst e
    refine fin_one Try.results73 ⟨?_, hkp, by simpa using hgk⟩
    simp -implicitDefEqProofs (disch := omega) only [List.any_cons, List.any_nil, Nat.reduceEqDiff, List.map_cons, List.map_nil, Option.map_some, Option.map_none, List.nil_append, ↓reduceIte, vcu, ↓vcd, h1]
theorem markRows2_at (β σ : AHeap) (g : Nat) (q : Nat → Nat) (rows : List (List Int)) (k : Int) (hv : OwnT β σ g q rows) (hl : rows.length ≤ 1048576) (hr : ∀ i, i < rows.length → (rows.getD i []).length ≤ 1048576) (hk : 0 ≤ k ∧ k ≤ 1125899906842624) :
    ACall Try.prog w0 48 [.slice (some ⟨g, 0, none⟩) rows.length 1, .int .i64 k] σ fun r σ' => r = .int .i64 (k + tot rows rows.length) ∧ OwnT β σ' g q (mk rows k rows.length) ∧ KeptQ rows.length q σ σ' := by
  refine acall_go mixed Try.func48 rfl good48 fun pr => ?_
  simp -implicitDefEqProofs (disch := omega) only [List.any_cons, List.any_nil, Nat.reduceEqDiff, List.map_cons, List.map_nil, Option.map_some, Option.map_none, List.nil_append, ↓reduceIte, vcu, ↓vcd]
  refine vc_loop_c mixed (by kernel_rfl) [0] (fun m a σ' => ∃ i : Nat, m + i = rows.length ∧ a 5 = .int .i64 i ∧ a 1 = .int .i64 (k + tot rows i) ∧ OwnT β σ' g q (mk rows k i) ∧ KeptQ rows.length q σ σ') rows.length ⟨0, by simp, rfl, by simp [fset, aenter, tot], hv, fun _ _ _ e => e⟩ ?_
  rintro m a σ' hc ⟨i, hi, h5, h1, hO, hK⟩
  simp -implicitDefEqProofs (disch := omega) only [List.any_cons, List.any_nil, Nat.reduceEqDiff, List.map_cons, List.map_nil, Option.map_some, Option.map_none, List.nil_append, ↓reduceIte, vcu, ↓vcd] at hc
  obtain ⟨h0, -⟩ := hc
  have hb := tot_le hr i (by omega)
  by_cases hlt : i < rows.length
  · have hil : i < (mk rows k i).length := by rw [mk_length]; exact hlt
    have hx := hO.get hil
    have hrow := hO.row i hil
    have hri := hr i hlt
    have hts : tot rows (i + 1) = tot rows i + (rows.getD i []).length := rfl
    rw [mk_get rows k i (by omega), if_neg (by omega)] at hx hrow
    simp -implicitDefEqProofs (disch := omega) only [List.any_cons, List.any_nil, Nat.reduceEqDiff, List.map_cons, List.map_nil, Option.map_some, Option.map_none, List.nil_append, ↓reduceIte, vcu, ↓vcd, h0, h1, h5, hx]
    refine (mark_own2 σ' (q i) (rows.getD i []) (k + tot rows i) hrow hri (by omega)).mono ?_
    rintro r τ ⟨rfl, k1, e1⟩
    simp -implicitDefEqProofs (disch := omega) only [List.any_cons, List.any_nil, Nat.reduceEqDiff, List.map_cons, List.map_nil, Option.map_some, Option.map_none, List.nil_append, ↓reduceIte, vcu, ↓vcd, opK_some, h0, h5]
    refine ⟨⟨trivial, trivial⟩, m - 1, by omega, i + 1, by omega, by simp, ?_, ?_, fun h ob hh e => k1.at (hK h ob hh e) (hh i hlt).symm⟩
    · congr 1; rw [hts]; omega
    · exact hO.write hil (by rw [seq_length, mk_get rows k i (by omega), if_neg (by omega)]) k1 e1
  · simp -implicitDefEqProofs (disch := omega) only [List.any_cons, List.any_nil, Nat.reduceEqDiff, List.map_cons, List.map_nil, Option.map_some, Option.map_none, List.nil_append, ↓reduceIte, vcu, ↓vcd, h0, h1, h5]
    have e : i = rows.length := by omega
    subst e
    refine fin_one Try.results48 ⟨?_, hO, hK⟩
    simp -implicitDefEqProofs (disch := omega) only [List.any_cons, List.any_nil, Nat.reduceEqDiff, List.map_cons, List.map_nil, Option.map_some, Option.map_none, List.nil_append, ↓reduceIte, vcu, ↓vcd, h1]
end Go.Proofs.Ytpcbgdgfdfpapaa
