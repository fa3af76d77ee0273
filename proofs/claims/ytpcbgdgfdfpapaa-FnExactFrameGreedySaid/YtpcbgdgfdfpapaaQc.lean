/- MatchFirst, of the program and of the reference. -/
import Derived.Test.YtpcbgdgfdfpapaaQb
set_option linter.unusedSimpArgs false
set_option linter.unusedVariables false
namespace Go.Proofs.Ytpcbgdgfdfpapaa
open Go Go.Abs Go.RowKit
variable {w0 : World}

theorem tv_sq {rows : List (List Int)} (hT : TV rows) : Sq rows.length rows := ⟨rfl, fun i hi => (hT.2 i hi).1⟩
theorem cover_at (σ : AHeap) (h o g p : Nat) (rows : List (List Int)) (ps : List Int) (hv : RowsAt σ h o rows) (hT : TV rows) (hp : IntsAt .i64 σ g p ps) (hl : ps.length = rows.length) (hi : ∀ j, j < rows.length → 0 ≤ ps.getD j 0 ∧ ps.getD j 0 < rows.length) :
    ACall Try.prog w0 83 [.slice (some ⟨h, o, none⟩) rows.length 1, .slice (some ⟨g, p, none⟩) ps.length 1] σ fun r σ' => ∃ b : Bool, r = .bool b ∧ (b = true ↔ Cov rows ps) ∧ σ' = σ := by
  have h6 := hT.1
  refine acall_go mixed Try.func83 rfl good83 fun pr => ?_
  simp -implicitDefEqProofs (disch := omega) only [List.any_cons, List.any_nil, Nat.reduceEqDiff, List.map_cons, List.map_nil, Option.map_some, Option.map_none, List.nil_append, ↓reduceIte, vcu, ↓vcd]
  refine vc_loop_c mixed (by kernel_rfl) [0, 1] (fun m a σ' => ∃ k : Nat, m + k = rows.length ∧ a 5 = .int .i64 k ∧ σ' = σ ∧ ∀ j, j < k → Edge rows j (ps.getD j 0).toNat) rows.length ⟨0, by simp, rfl, rfl, fun j hj => absurd hj (by omega)⟩ ?_
  rintro m a σ' hc ⟨k, hk, h5, rfl, hall⟩
  simp -implicitDefEqProofs (disch := omega) only [List.any_cons, List.any_nil, Nat.reduceEqDiff, List.map_cons, List.map_nil, Option.map_some, Option.map_none, List.nil_append, ↓reduceIte, vcu, ↓vcd, hl] at hc
  obtain ⟨h0, h1, -⟩ := hc
  by_cases hlt : k < rows.length
  · obtain ⟨v, hx, hiv⟩ := hv k hlt
    have hy := hp k (by omega)
    have hik := hi k hlt
    have hrl := (hT.2 k hlt).1
    have hat := hT.at (i := k) (j := (ps.getD k 0).toNat) hlt (by omega)
    have hE : Edge rows k (ps.getD k 0).toNat ↔ 0 < (rows.getD k []).getD (ps.getD k 0).toNat 0 := Iff.rfl
    generalize rows.getD k [] = row at hiv hrl hat hE
    rcases hiv with ⟨rfl, rfl⟩ | ⟨e, o2, rfl, hrow⟩
    · simp at hrl; omega
    have hz := hrow (ps.getD k 0).toNat (by omega)
    rw [hrl] at hx
    by_cases h00 : row.getD (ps.getD k 0).toNat 0 = 0
    · simp -implicitDefEqProofs (disch := omega) only [List.any_cons, List.any_nil, Nat.reduceEqDiff, List.map_cons, List.map_nil, Option.map_some, Option.map_none, List.nil_append, ↓reduceIte, vcu, ↓vcd, h0, h1, h5, hx, hy, hz, h00, decide_true]
      refine fin_one Try.results83 ⟨false, ?_, ⟨fun h => (by cases h), fun hC => ?_⟩, rfl⟩
      · simp -implicitDefEqProofs (disch := omega) only [List.any_cons, List.any_nil, Nat.reduceEqDiff, List.map_cons, List.map_nil, Option.map_some, Option.map_none, List.nil_append, ↓reduceIte, vcu, ↓vcd]
      · have := hE.1 (hC k hlt); omega
    · simp -implicitDefEqProofs (disch := omega) only [List.any_cons, List.any_nil, Nat.reduceEqDiff, List.map_cons, List.map_nil, Option.map_some, Option.map_none, List.nil_append, ↓reduceIte, vcu, ↓vcd, h0, h1, h5, hx, hy, hz, h00, decide_false]
      refine ⟨?_, m - 1, by omega, k + 1, by omega, by simp, trivial, fun j hj => ?_⟩
      · first | trivial | simp [h0, h1, hl]
      · by_cases e : j = k
        · subst e; exact hE.2 (by omega)
        · exact hall j (by omega)
  · simp -implicitDefEqProofs (disch := omega) only [List.any_cons, List.any_nil, Nat.reduceEqDiff, List.map_cons, List.map_nil, Option.map_some, Option.map_none, List.nil_append, ↓reduceIte, vcu, ↓vcd, h0, h1, h5, hl]
    refine fin_one Try.results83 ⟨true, ?_, ⟨fun _ j hj => hall j (by omega), fun _ => rfl⟩, rfl⟩
    simp -implicitDefEqProofs (disch := omega) only [List.any_cons, List.any_nil, Nat.reduceEqDiff, List.map_cons, List.map_nil, Option.map_some, Option.map_none, List.nil_append, ↓reduceIte, vcu, ↓vcd]

end Go.Proofs.Ytpcbgdgfdfpapaa
