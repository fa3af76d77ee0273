/- Sums and columns of the laws' own helpers; contracts over tables that may be nil. -/
import Derived.Test.YtpcbgdgfdfpapaaJh
set_option linter.unusedSimpArgs false
set_option linter.unusedVariables false
namespace Go.Proofs.Ytpcbgdgfdfpapaa
open Go Go.Abs Go.RowKit Go.Frames
variable {w0 : World}

theorem sum3_calls (σ : AHeap) (v : Value) (xs : List Int) (hv : Ints .i64 σ v xs) (hl : xs.length ≤ 1000) (hx : ∀ j, j < xs.length → 0 ≤ xs.getD j 0 ∧ xs.getD j 0 ≤ 1000) :
    ACall Try.prog w0 22 [v] σ fun r σ' => r = .int .i64 (psum xs xs.length) ∧ σ' = σ := by
  refine ACall.ints_quiet (pre := []) (post := []) (by kernel_rfl) hv fun σ1 h o _ hg => ?_
  refine acall_go mixed Try.func22 rfl good22 fun pr => ?_
  simp -implicitDefEqProofs (disch := omega) only [List.any_cons, List.any_nil, Nat.reduceEqDiff, List.map_cons, List.map_nil, Option.map_some, Option.map_none, List.nil_append, ↓reduceIte, vcu, ↓vcd]
  refine vc_loop_c mixed (by kernel_rfl) [0] (fun m a σ' => ∃ k : Nat, m + k = xs.length ∧ a 4 = .int .i64 k ∧ a 3 = .int .i64 (psum xs k) ∧ σ' = σ1) xs.length ⟨0, by simp, rfl, rfl, rfl⟩ ?_
  rintro m a σ' hc ⟨k, hk, h4, h3, rfl⟩
  simp -implicitDefEqProofs (disch := omega) only [List.any_cons, List.any_nil, Nat.reduceEqDiff, List.map_cons, List.map_nil, Option.map_some, Option.map_none, List.nil_append, ↓reduceIte, vcu, ↓vcd] at hc
  obtain ⟨h0, -⟩ := hc
  have hb := psum_le2 (m := 0) hx k (by omega)
  by_cases hlt : k < xs.length
  · have hy := hg k hlt
    have hbx := hx k hlt
    simp -implicitDefEqProofs (disch := omega) only [List.any_cons, List.any_nil, Nat.reduceEqDiff, List.map_cons, List.map_nil, Option.map_some, Option.map_none, List.nil_append, ↓reduceIte, vcu, ↓vcd, h0, h3, h4, hy]
    exact ⟨⟨trivial, trivial⟩, m - 1, by omega, k + 1, by omega, by simp, rfl, trivial⟩
  · simp -implicitDefEqProofs (disch := omega) only [List.any_cons, List.any_nil, Nat.reduceEqDiff, List.map_cons, List.map_nil, Option.map_some, Option.map_none, List.nil_append, ↓reduceIte, vcu, ↓vcd, h0, h3, h4]
    have e : k = xs.length := by omega
    refine fin_one Try.results22 ⟨?_, rfl⟩
    simp -implicitDefEqProofs (disch := omega) only [List.any_cons, List.any_nil, Nat.reduceEqDiff, List.map_cons, List.map_nil, Option.map_some, Option.map_none, List.nil_append, ↓reduceIte, vcu, ↓vcd, h3]
    rw [e]
theorem column3_at (σ : AHeap) (h o : Nat) (rows : List (List Int)) (c n : Nat) (hv : RowsAt σ h o rows) (hsq : Sq n rows) (hn : n ≤ 1000) (hbd : ∀ a b, a < n → b < n → 0 ≤ en rows a b ∧ en rows a b ≤ 1000) (hc : c < n) :
    ACall Try.prog w0 38 [.slice (some ⟨h, o, none⟩) n 1, .int .i64 c] σ fun r σ' => r = .int .i64 (csum rows c n) ∧ σ' = σ := by
  refine acall_go mixed Try.func38 rfl good38 fun pr => ?_
  simp -implicitDefEqProofs (disch := omega) only [List.any_cons, List.any_nil, Nat.reduceEqDiff, List.map_cons, List.map_nil, Option.map_some, Option.map_none, List.nil_append, ↓reduceIte, vcu, ↓vcd]
  refine vc_loop_c mixed (by kernel_rfl) [0, 1] (fun m a σ' => ∃ k : Nat, m + k = n ∧ a 6 = .int .i64 k ∧ a 5 = .int .i64 (csum rows c k) ∧ σ' = σ) n ⟨0, by simp, rfl, rfl, rfl⟩ ?_
  rintro m a σ' hcc ⟨k, hk, h6, h5, rfl⟩
  simp -implicitDefEqProofs (disch := omega) only [List.any_cons, List.any_nil, Nat.reduceEqDiff, List.map_cons, List.map_nil, Option.map_some, Option.map_none, List.nil_append, ↓reduceIte, vcu, ↓vcd] at hcc
  obtain ⟨h0, h1, -⟩ := hcc
  have hb := csum_le2 hbd hc k (by omega)
  by_cases hlt : k < n
  · obtain ⟨v, hx, hi⟩ := hv k (by rw [hsq.1]; exact hlt)
    have hat := hbd k c hlt hc
    have hrl := hsq.2 k hlt
    have hs : csum rows c (k + 1) = csum rows c k + (rows.getD k []).getD c 0 := rfl
    unfold en at hat
    generalize rows.getD k [] = row at hi hat hrl hs
    rcases hi with ⟨rfl, rfl⟩ | ⟨g, p, rfl, hg⟩
    · simp at hrl; omega
    · have hy := hg c (by omega)
      simp -implicitDefEqProofs (disch := omega) only [List.any_cons, List.any_nil, Nat.reduceEqDiff, List.map_cons, List.map_nil, Option.map_some, Option.map_none, List.nil_append, ↓reduceIte, vcu, ↓vcd, h0, h1, h5, h6, hx, hy]
      exact ⟨⟨(by first | trivial | rfl | exact Eq.symm (by assumption)), (by first | trivial | rfl | exact Eq.symm (by assumption)), trivial⟩, m - 1, by omega, k + 1, by omega, by simp, by rw [hs], trivial⟩
  · simp -implicitDefEqProofs (disch := omega) only [List.any_cons, List.any_nil, Nat.reduceEqDiff, List.map_cons, List.map_nil, Option.map_some, Option.map_none, List.nil_append, ↓reduceIte, vcu, ↓vcd, h0, h1, h5, h6]
    have e : k = n := by omega
    refine fin_one Try.results38 ⟨?_, rfl⟩
    simp -implicitDefEqProofs (disch := omega) only [List.any_cons, List.any_nil, Nat.reduceEqDiff, List.map_cons, List.map_nil, Option.map_some, Option.map_none, List.nil_append, ↓reduceIte, vcu, ↓vcd, h5]
    rw [e]
theorem RowsV.of {σ : AHeap} {h o n : Nat} {rows : List (List Int)} (hv : RowsAt σ h o rows) (hn : rows.length = n) : RowsV σ (.slice (some ⟨h, o, none⟩) n 1) rows := .inr ⟨h, o, by rw [hn], hv⟩
theorem RowsAt.drop {σ : AHeap} {h o : Nat} {rows : List (List Int)} (hv : RowsAt σ h o rows) (m : Nat) : RowsAt σ h (o + m) (rows.drop m) := fun i hi => by
  simp only [List.length_drop] at hi
  obtain ⟨v, a, b⟩ := hv (m + i) (by omega)
  refine ⟨v, by rw [show o + m + i = o + (m + i) by omega]; exact a, ?_⟩
  have : (rows.drop m).getD i [] = rows.getD (m + i) [] := by simp [List.getD]
  rw [this]; exact b
end Go.Proofs.Ytpcbgdgfdfpapaa
