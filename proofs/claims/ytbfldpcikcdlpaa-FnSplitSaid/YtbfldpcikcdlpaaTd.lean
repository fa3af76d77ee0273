/- Sums of rows and columns; LineMost of the reference. -/
import Derived.Test.YtbfldpcikcdlpaaTc
set_option linter.unusedSimpArgs false
set_option linter.unusedVariables false
namespace Go.Proofs.Ytbfldpcikcdlpaa
open Go Go.Abs Go.RowKit
variable {w0 : World}

theorem amax_three {k k' k'' : IntKind} {x y z : Int} : amax [.int k x, .int k' y, .int k'' z] = some (.int k (max (max x y) z)) := by
  simp only [amax]; congr 2; split <;> split <;> omega
def psum (xs : List Int) : Nat → Int
  | 0 => 0
  | k + 1 => psum xs k + xs.getD k 0
def csum (rows : List (List Int)) (c : Nat) : Nat → Int
  | 0 => 0
  | k + 1 => csum rows c k + (rows.getD k []).getD c 0
theorem psum_le {xs : List Int} (h : ∀ j, j < xs.length → 0 ≤ xs.getD j 0 ∧ xs.getD j 0 ≤ 6) : ∀ k, k ≤ xs.length → 0 ≤ psum xs k ∧ psum xs k ≤ 6 * k
  | 0, _ => by simp [psum]
  | k + 1, hk => by
    have := psum_le h k (by omega)
    have := h k (by omega)
    simp only [psum]; omega
theorem TV.at {rows : List (List Int)} (hT : TV rows) {i j : Nat} (hi : i < rows.length) (hj : j < rows.length) : 0 ≤ (rows.getD i []).getD j 0 ∧ (rows.getD i []).getD j 0 ≤ 6 := by
  have h := hT.2 i hi
  exact h.2 j (by rw [h.1]; exact hj)
theorem csum_le {rows : List (List Int)} (hT : TV rows) {c : Nat} (hc : c < rows.length) : ∀ k, k ≤ rows.length → 0 ≤ csum rows c k ∧ csum rows c k ≤ 6 * k
  | 0, _ => by simp [csum]
  | k + 1, hk => by
    have := csum_le hT hc k (by omega)
    have := hT.at (i := k) (by omega) hc
    simp only [csum]; omega

theorem l1Sum_calls (σ : AHeap) (v : Value) (xs : List Int) (hv : Ints .i64 σ v xs) (hl : xs.length ≤ 6) (hx : ∀ j, j < xs.length → 0 ≤ xs.getD j 0 ∧ xs.getD j 0 ≤ 6) :
    ACall Try.prog w0 50 [v] σ fun r σ' => r = .int .i64 (psum xs xs.length) ∧ σ' = σ := by
  refine ACall.ints_quiet (pre := []) (post := []) (by kernel_rfl) hv fun σ1 h o _ hg => ?_
  refine acall_go mixed Try.func50 rfl good50 ?_
  simp -implicitDefEqProofs (disch := omega) only [List.any_cons, List.any_nil, Nat.reduceEqDiff, List.map_cons, List.map_nil, Option.map_some, Option.map_none, List.nil_append, ↓reduceIte, vcu0, vcu1, vcu2, vcu3, vcu4, vcu5, vcu6, vcu7, vcu8, vcu9, vcu10, vcu11, vcu12, vcu13, vcu14, vcu15, vcu16, ↓vcd0, ↓vcd1, ↓vcd2, ↓vcd3]
  refine vc_loop_c mixed (by kernel_rfl) [0] (fun m a σ' => ∃ k : Nat, m + k = xs.length ∧ a 4 = .int .i64 k ∧ a 3 = .int .i64 (psum xs k) ∧ σ' = σ1) xs.length ⟨0, by simp, rfl, rfl, rfl⟩ ?_
  rintro m a σ' hc ⟨k, hk, h4, h3, rfl⟩
  simp -implicitDefEqProofs (disch := omega) only [List.any_cons, List.any_nil, Nat.reduceEqDiff, List.map_cons, List.map_nil, Option.map_some, Option.map_none, List.nil_append, ↓reduceIte, vcu0, vcu1, vcu2, vcu3, vcu4, vcu5, vcu6, vcu7, vcu8, vcu9, vcu10, vcu11, vcu12, vcu13, vcu14, vcu15, vcu16, ↓vcd0, ↓vcd1, ↓vcd2, ↓vcd3] at hc
  obtain ⟨h0, -⟩ := hc
  have hb := psum_le hx k (by omega)
  by_cases hlt : k < xs.length
  · have hy := hg k hlt
    have hbx := hx k hlt
    simp -implicitDefEqProofs (disch := omega) only [List.any_cons, List.any_nil, Nat.reduceEqDiff, List.map_cons, List.map_nil, Option.map_some, Option.map_none, List.nil_append, ↓reduceIte, vcu0, vcu1, vcu2, vcu3, vcu4, vcu5, vcu6, vcu7, vcu8, vcu9, vcu10, vcu11, vcu12, vcu13, vcu14, vcu15, vcu16, ↓vcd0, ↓vcd1, ↓vcd2, ↓vcd3, h0, h3, h4, hy]
    exact ⟨⟨trivial, trivial⟩, m - 1, by omega, k + 1, by omega, by simp, rfl, trivial⟩
  · simp -implicitDefEqProofs (disch := omega) only [List.any_cons, List.any_nil, Nat.reduceEqDiff, List.map_cons, List.map_nil, Option.map_some, Option.map_none, List.nil_append, ↓reduceIte, vcu0, vcu1, vcu2, vcu3, vcu4, vcu5, vcu6, vcu7, vcu8, vcu9, vcu10, vcu11, vcu12, vcu13, vcu14, vcu15, vcu16, ↓vcd0, ↓vcd1, ↓vcd2, ↓vcd3, h0, h3, h4]
    have e : k = xs.length := by omega
    refine fin_one Try.results50 ⟨?_, rfl⟩
    simp -implicitDefEqProofs (disch := omega) only [List.any_cons, List.any_nil, Nat.reduceEqDiff, List.map_cons, List.map_nil, Option.map_some, Option.map_none, List.nil_append, ↓reduceIte, vcu0, vcu1, vcu2, vcu3, vcu4, vcu5, vcu6, vcu7, vcu8, vcu9, vcu10, vcu11, vcu12, vcu13, vcu14, vcu15, vcu16, ↓vcd0, ↓vcd1, ↓vcd2, ↓vcd3, h3]
    rw [e]

theorem l1Column_at (σ : AHeap) (h o : Nat) (rows : List (List Int)) (c : Nat) (hv : RowsAt σ h o rows) (hT : TV rows) (hc : c < rows.length) :
    ACall Try.prog w0 51 [.slice (some ⟨h, o, none⟩) rows.length 1, .int .i64 c] σ fun r σ' => r = .int .i64 (csum rows c rows.length) ∧ σ' = σ := by
  have hT6 := hT.1
  refine acall_go mixed Try.func51 rfl good51 ?_
  simp -implicitDefEqProofs (disch := omega) only [List.any_cons, List.any_nil, Nat.reduceEqDiff, List.map_cons, List.map_nil, Option.map_some, Option.map_none, List.nil_append, ↓reduceIte, vcu0, vcu1, vcu2, vcu3, vcu4, vcu5, vcu6, vcu7, vcu8, vcu9, vcu10, vcu11, vcu12, vcu13, vcu14, vcu15, vcu16, ↓vcd0, ↓vcd1, ↓vcd2, ↓vcd3]
  refine vc_loop_c mixed (by kernel_rfl) [0, 1] (fun m a σ' => ∃ k : Nat, m + k = rows.length ∧ a 6 = .int .i64 k ∧ a 5 = .int .i64 (csum rows c k) ∧ σ' = σ) rows.length ⟨0, by simp, rfl, rfl, rfl⟩ ?_
  rintro m a σ' hcc ⟨k, hk, h6, h5, rfl⟩
  simp -implicitDefEqProofs (disch := omega) only [List.any_cons, List.any_nil, Nat.reduceEqDiff, List.map_cons, List.map_nil, Option.map_some, Option.map_none, List.nil_append, ↓reduceIte, vcu0, vcu1, vcu2, vcu3, vcu4, vcu5, vcu6, vcu7, vcu8, vcu9, vcu10, vcu11, vcu12, vcu13, vcu14, vcu15, vcu16, ↓vcd0, ↓vcd1, ↓vcd2, ↓vcd3] at hcc
  obtain ⟨h0, h1, -⟩ := hcc
  have hb := csum_le hT hc k (by omega)
  by_cases hlt : k < rows.length
  · obtain ⟨v, hx, hi⟩ := hv k hlt
    have hat := hT.at hlt hc
    have hrl := (hT.2 k hlt).1
    have hs : csum rows c (k + 1) = csum rows c k + (rows.getD k []).getD c 0 := rfl
    generalize rows.getD k [] = row at hi hat hrl hs
    rcases hi with ⟨rfl, rfl⟩ | ⟨g, p, rfl, hg⟩
    · simp at hrl; omega
    · have hy := hg c (by omega)
      simp -implicitDefEqProofs (disch := omega) only [List.any_cons, List.any_nil, Nat.reduceEqDiff, List.map_cons, List.map_nil, Option.map_some, Option.map_none, List.nil_append, ↓reduceIte, vcu0, vcu1, vcu2, vcu3, vcu4, vcu5, vcu6, vcu7, vcu8, vcu9, vcu10, vcu11, vcu12, vcu13, vcu14, vcu15, vcu16, ↓vcd0, ↓vcd1, ↓vcd2, ↓vcd3, h0, h1, h5, h6, hx, hy]
      exact ⟨⟨trivial, trivial, trivial⟩, m - 1, by omega, k + 1, by omega, by simp, by rw [hs], trivial⟩
  · simp -implicitDefEqProofs (disch := omega) only [List.any_cons, List.any_nil, Nat.reduceEqDiff, List.map_cons, List.map_nil, Option.map_some, Option.map_none, List.nil_append, ↓reduceIte, vcu0, vcu1, vcu2, vcu3, vcu4, vcu5, vcu6, vcu7, vcu8, vcu9, vcu10, vcu11, vcu12, vcu13, vcu14, vcu15, vcu16, ↓vcd0, ↓vcd1, ↓vcd2, ↓vcd3, h0, h1, h5, h6]
    have e : k = rows.length := by omega
    refine fin_one Try.results51 ⟨?_, rfl⟩
    simp -implicitDefEqProofs (disch := omega) only [List.any_cons, List.any_nil, Nat.reduceEqDiff, List.map_cons, List.map_nil, Option.map_some, Option.map_none, List.nil_append, ↓reduceIte, vcu0, vcu1, vcu2, vcu3, vcu4, vcu5, vcu6, vcu7, vcu8, vcu9, vcu10, vcu11, vcu12, vcu13, vcu14, vcu15, vcu16, ↓vcd0, ↓vcd1, ↓vcd2, ↓vcd3, h5]
    rw [e]

/-- the most of the first k lines -/
def most (rows : List (List Int)) : Nat → Int
  | 0 => 0
  | k + 1 => max (max (most rows k) (psum (rows.getD k []) rows.length)) (csum rows k rows.length)
theorem most_le {rows : List (List Int)} (hT : TV rows) : ∀ k, k ≤ rows.length → 0 ≤ most rows k ∧ most rows k ≤ 36
  | 0, _ => by simp [most]
  | k + 1, hk => by
    have h1 := most_le hT k (by omega)
    have hr := hT.2 k (by omega)
    have h2 := psum_le hr.2 rows.length (by rw [hr.1]; exact Nat.le_refl _)
    have h3 := csum_le hT (c := k) (by omega) rows.length (Nat.le_refl _)
    have := hT.1
    simp only [most]; omega
def mostV (rows : List (List Int)) : Int := if TV rows then most rows rows.length else -1

theorem specMost_at (σ : AHeap) (h o : Nat) (rows : List (List Int)) (hv : RowsAt σ h o rows) (hl : rows.length ≤ 1048576) :
    ACall Try.prog w0 21 [.slice (some ⟨h, o, none⟩) rows.length 1] σ fun r σ' => r = .int .i64 (mostV rows) ∧ σ' = σ := by
  unfold mostV
  refine acall_go mixed Try.func21 rfl good21 ?_
  simp -implicitDefEqProofs (disch := omega) only [List.any_cons, List.any_nil, Nat.reduceEqDiff, List.map_cons, List.map_nil, Option.map_some, Option.map_none, List.nil_append, ↓reduceIte, vcu0, vcu1, vcu2, vcu3, vcu4, vcu5, vcu6, vcu7, vcu8, vcu9, vcu10, vcu11, vcu12, vcu13, vcu14, vcu15, vcu16, ↓vcd0, ↓vcd1, ↓vcd2, ↓vcd3]
  refine (specTV_at σ h o rows hv hl).mono ?_
  rintro r _ ⟨rfl, rfl⟩
  rename_i σ
  by_cases hT : TV rows
  · rw [decide_eq_true hT, if_pos hT]
    simp -implicitDefEqProofs (disch := omega) only [List.any_cons, List.any_nil, Nat.reduceEqDiff, List.map_cons, List.map_nil, Option.map_some, Option.map_none, List.nil_append, ↓reduceIte, vcu0, vcu1, vcu2, vcu3, vcu4, vcu5, vcu6, vcu7, vcu8, vcu9, vcu10, vcu11, vcu12, vcu13, vcu14, vcu15, vcu16, ↓vcd0, ↓vcd1, ↓vcd2, ↓vcd3, opK_some]
    refine vc_loop_c mixed (by kernel_rfl) [0] (fun m a σ' => ∃ k : Nat, m + k = rows.length ∧ a 4 = .int .i64 k ∧ a 3 = .int .i64 (most rows k) ∧ σ' = σ) rows.length ⟨0, by simp, rfl, rfl, rfl⟩ ?_
    rintro m a σ' hc ⟨k, hk, h4, h3, rfl⟩
    simp -implicitDefEqProofs (disch := omega) only [List.any_cons, List.any_nil, Nat.reduceEqDiff, List.map_cons, List.map_nil, Option.map_some, Option.map_none, List.nil_append, ↓reduceIte, vcu0, vcu1, vcu2, vcu3, vcu4, vcu5, vcu6, vcu7, vcu8, vcu9, vcu10, vcu11, vcu12, vcu13, vcu14, vcu15, vcu16, ↓vcd0, ↓vcd1, ↓vcd2, ↓vcd3] at hc
    obtain ⟨h0, -⟩ := hc
    have hT6 := hT.1
    by_cases hlt : k < rows.length
    · obtain ⟨v, hx, hi⟩ := hv k hlt
      have hr := hT.2 k hlt
      have hs : most rows (k + 1) = max (max (most rows k) (psum (rows.getD k []) rows.length)) (csum rows k rows.length) := rfl
      simp -implicitDefEqProofs (disch := omega) only [List.any_cons, List.any_nil, Nat.reduceEqDiff, List.map_cons, List.map_nil, Option.map_some, Option.map_none, List.nil_append, ↓reduceIte, vcu0, vcu1, vcu2, vcu3, vcu4, vcu5, vcu6, vcu7, vcu8, vcu9, vcu10, vcu11, vcu12, vcu13, vcu14, vcu15, vcu16, ↓vcd0, ↓vcd1, ↓vcd2, ↓vcd3, h0, h3, h4, hx]
      refine (l1Sum_calls σ' v _ hi (by rw [hr.1]; omega) hr.2).mono ?_
      rintro r _ ⟨rfl, rfl⟩
      rename_i σ'
      rw [hr.1]
      simp -implicitDefEqProofs (disch := omega) only [List.any_cons, List.any_nil, Nat.reduceEqDiff, List.map_cons, List.map_nil, Option.map_some, Option.map_none, List.nil_append, ↓reduceIte, vcu0, vcu1, vcu2, vcu3, vcu4, vcu5, vcu6, vcu7, vcu8, vcu9, vcu10, vcu11, vcu12, vcu13, vcu14, vcu15, vcu16, ↓vcd0, ↓vcd1, ↓vcd2, ↓vcd3, opK_some, h0, h3, h4]
      refine (l1Column_at σ' h o rows k hv hT hlt).mono ?_
      rintro r _ ⟨rfl, rfl⟩
      simp -implicitDefEqProofs (disch := omega) only [List.any_cons, List.any_nil, Nat.reduceEqDiff, List.map_cons, List.map_nil, Option.map_some, Option.map_none, List.nil_append, ↓reduceIte, vcu0, vcu1, vcu2, vcu3, vcu4, vcu5, vcu6, vcu7, vcu8, vcu9, vcu10, vcu11, vcu12, vcu13, vcu14, vcu15, vcu16, ↓vcd0, ↓vcd1, ↓vcd2, ↓vcd3, opK_some, h0, h3, h4, amax_three]
      exact ⟨⟨trivial, trivial⟩, m - 1, by omega, k + 1, by omega, by simp, by rw [hs], trivial⟩
    · simp -implicitDefEqProofs (disch := omega) only [List.any_cons, List.any_nil, Nat.reduceEqDiff, List.map_cons, List.map_nil, Option.map_some, Option.map_none, List.nil_append, ↓reduceIte, vcu0, vcu1, vcu2, vcu3, vcu4, vcu5, vcu6, vcu7, vcu8, vcu9, vcu10, vcu11, vcu12, vcu13, vcu14, vcu15, vcu16, ↓vcd0, ↓vcd1, ↓vcd2, ↓vcd3, h0, h3, h4]
      have e : k = rows.length := by omega
      refine fin_one Try.results21 ⟨?_, rfl⟩
      simp -implicitDefEqProofs (disch := omega) only [List.any_cons, List.any_nil, Nat.reduceEqDiff, List.map_cons, List.map_nil, Option.map_some, Option.map_none, List.nil_append, ↓reduceIte, vcu0, vcu1, vcu2, vcu3, vcu4, vcu5, vcu6, vcu7, vcu8, vcu9, vcu10, vcu11, vcu12, vcu13, vcu14, vcu15, vcu16, ↓vcd0, ↓vcd1, ↓vcd2, ↓vcd3, h3]
      rw [e]
  · rw [decide_eq_false hT, if_neg hT]
    simp -implicitDefEqProofs (disch := omega) only [List.any_cons, List.any_nil, Nat.reduceEqDiff, List.map_cons, List.map_nil, Option.map_some, Option.map_none, List.nil_append, ↓reduceIte, vcu0, vcu1, vcu2, vcu3, vcu4, vcu5, vcu6, vcu7, vcu8, vcu9, vcu10, vcu11, vcu12, vcu13, vcu14, vcu15, vcu16, ↓vcd0, ↓vcd1, ↓vcd2, ↓vcd3, opK_some]
    refine fin_one Try.results21 ⟨?_, rfl⟩
    simp -implicitDefEqProofs (disch := omega) only [List.any_cons, List.any_nil, Nat.reduceEqDiff, List.map_cons, List.map_nil, Option.map_some, Option.map_none, List.nil_append, ↓reduceIte, vcu0, vcu1, vcu2, vcu3, vcu4, vcu5, vcu6, vcu7, vcu8, vcu9, vcu10, vcu11, vcu12, vcu13, vcu14, vcu15, vcu16, ↓vcd0, ↓vcd1, ↓vcd2, ↓vcd3]
end Go.Proofs.Ytbfldpcikcdlpaa
