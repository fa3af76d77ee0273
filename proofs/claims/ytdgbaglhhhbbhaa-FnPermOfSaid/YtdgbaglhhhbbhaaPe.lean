/- PermCrosses of the reference; its exact law. -/
import Derived.Test.YtdgbaglhhhbbhaaPd
set_option linter.unusedSimpArgs false
set_option linter.unusedVariables false
namespace Go.Proofs.Ytdgbaglhhhbbhaa
open Go Go.Abs Go.RowKit
variable {w0 : World}

theorem own_ints {σ : AHeap} {g : Nat} {xs : List Int} : Ints .i64 (σ.upd g (some ⟨ints .i64 xs, false⟩)) (.slice (some ⟨g, 0, none⟩) xs.length 1) xs :=
  .inr ⟨g, 0, rfl, intsAt_own (AHeap.upd_same _ _ _)⟩

/-- how many ahead of a place are greater -/
def more (xs : List Int) (k : Nat) : Nat := cnt (fun y => decide (xs.getD k 0 < y)) xs k
def crossS (xs : List Int) (k : Nat) : Nat := ((List.range k).map (more xs)).sum
theorem crossS_succ (xs : List Int) (k : Nat) : crossS xs (k + 1) = crossS xs k + more xs k := by
  simp [crossS, List.range_succ, List.map_append, List.sum_append]
theorem crossS_le (xs : List Int) : ∀ k, crossS xs k ≤ k * xs.length
  | 0 => by simp [crossS]
  | k + 1 => by rw [crossS_succ, Nat.succ_mul]; have := crossS_le xs k; have := cnt_le (fun y => decide (xs.getD k 0 < y)) xs k; unfold more; omega
def crossV (xs : List Int) : Int := if Valid xs then (crossI xs xs.length : Int) else -1
theorem cross_all : allV.all (fun xs => crossS xs xs.length == crossI xs xs.length) = true := by kernel_rfl
theorem cross_eq {xs : List Int} (h : Valid xs) : crossS xs xs.length = crossI xs xs.length := by simpa using valid_all cross_all h

theorem specCross_at (σ : AHeap) (h o : Nat) (xs : List Int) (hv : IntsAt .i64 σ h o xs) (hl : xs.length ≤ 1048576) :
    ACall Try.prog w0 39 [.slice (some ⟨h, o, none⟩) xs.length 1] σ fun r σ' => r = .int .i64 (crossV xs) ∧ σ' = σ := by
  unfold crossV
  refine acall_go mixed Try.func39 rfl good39 ?_
  simp -implicitDefEqProofs (disch := omega) only [List.any_cons, List.any_nil, Nat.reduceEqDiff, List.map_cons, List.map_nil, Option.map_some, Option.map_none, List.nil_append, ↓reduceIte, vcu0, vcu1, vcu2, vcu3, vcu4, vcu5, vcu6, vcu7, vcu8, vcu9, vcu10, vcu11, vcu12, vcu13, vcu14, ↓vcd0, ↓vcd1, ↓vcd2]
  refine (specValid_at σ h o xs hv hl).mono ?_
  rintro r σ' ⟨rfl, rfl⟩
  by_cases hV : Valid xs
  · have h6 := hV.2
    rw [decide_eq_true hV, if_pos hV, ← cross_eq hV]
    simp -implicitDefEqProofs (disch := omega) only [List.any_cons, List.any_nil, Nat.reduceEqDiff, List.map_cons, List.map_nil, Option.map_some, Option.map_none, List.nil_append, ↓reduceIte, vcu0, vcu1, vcu2, vcu3, vcu4, vcu5, vcu6, vcu7, vcu8, vcu9, vcu10, vcu11, vcu12, vcu13, vcu14, ↓vcd0, ↓vcd1, ↓vcd2, opK_some]
    refine vc_loop mixed (by kernel_rfl) (fun m a σ1 => ∃ i : Nat, m + i = xs.length ∧ a 0 = .slice (some ⟨h, o, none⟩) xs.length 1 ∧ a 3 = .int .i64 (crossS xs i) ∧ a 4 = .int .i64 i ∧ σ1 = σ') xs.length ⟨0, by simp, rfl, rfl, rfl, rfl⟩ ?_
    rintro m a σ1 ⟨i, hi, h0, h3, h4, rfl⟩
    by_cases hlt : i < xs.length
    · have hle := crossS_le xs i
      have hb : i * xs.length ≤ 6 * 6 := Nat.mul_le_mul (by omega) h6
      have hx := hv i hlt
      simp -implicitDefEqProofs (disch := omega) only [List.any_cons, List.any_nil, Nat.reduceEqDiff, List.map_cons, List.map_nil, Option.map_some, Option.map_none, List.nil_append, ↓reduceIte, vcu0, vcu1, vcu2, vcu3, vcu4, vcu5, vcu6, vcu7, vcu8, vcu9, vcu10, vcu11, vcu12, vcu13, vcu14, ↓vcd0, ↓vcd1, ↓vcd2, h0, h3, h4]
      refine vc_loop mixed (by kernel_rfl) (fun m2 a σ2 => ∃ j : Nat, m2 + j = i ∧ a 0 = .slice (some ⟨h, o, none⟩) xs.length 1 ∧ a 3 = .int .i64 ((crossS xs i + cnt (fun y => decide (xs.getD i 0 < y)) xs j : Nat) : Int) ∧ a 4 = .int .i64 i ∧ a 5 = .int .i64 j ∧ σ2 = σ1) i ⟨0, by simp, by simp [fset, h0], by simp [fset, h3, cnt_zero], by simp [fset, h4], by simp [fset], rfl⟩ ?_
      rintro m2 a2 σ2 ⟨j, hj, g0, g3, g4, g5, rfl⟩
      have hcl := cnt_le (fun y => decide (xs.getD i 0 < y)) xs j
      by_cases hji : j < i
      · have hy := hv j (by omega)
        by_cases hc : xs.getD i 0 < xs.getD j 0
        · simp -implicitDefEqProofs (disch := omega) only [List.any_cons, List.any_nil, Nat.reduceEqDiff, List.map_cons, List.map_nil, Option.map_some, Option.map_none, List.nil_append, ↓reduceIte, vcu0, vcu1, vcu2, vcu3, vcu4, vcu5, vcu6, vcu7, vcu8, vcu9, vcu10, vcu11, vcu12, vcu13, vcu14, ↓vcd0, ↓vcd1, ↓vcd2, g0, g3, g4, g5, hx, hy]
          exact ⟨m2 - 1, by omega, j + 1, by omega, trivial, by rw [cnt_yes (by omega) (decide_eq_true hc)]; simp; omega, trivial, by simp, trivial⟩
        · simp -implicitDefEqProofs (disch := omega) only [List.any_cons, List.any_nil, Nat.reduceEqDiff, List.map_cons, List.map_nil, Option.map_some, Option.map_none, List.nil_append, ↓reduceIte, vcu0, vcu1, vcu2, vcu3, vcu4, vcu5, vcu6, vcu7, vcu8, vcu9, vcu10, vcu11, vcu12, vcu13, vcu14, ↓vcd0, ↓vcd1, ↓vcd2, g0, g3, g4, g5, hx, hy]
          exact ⟨m2 - 1, by omega, j + 1, by omega, trivial, by rw [cnt_no (by omega) (decide_eq_false hc)], trivial, by simp, trivial⟩
      · have e : j = i := by omega
        subst e
        simp -implicitDefEqProofs (disch := omega) only [List.any_cons, List.any_nil, Nat.reduceEqDiff, List.map_cons, List.map_nil, Option.map_some, Option.map_none, List.nil_append, ↓reduceIte, vcu0, vcu1, vcu2, vcu3, vcu4, vcu5, vcu6, vcu7, vcu8, vcu9, vcu10, vcu11, vcu12, vcu13, vcu14, ↓vcd0, ↓vcd1, ↓vcd2, g0, g3, g4, g5]
        exact ⟨m - 1, by omega, j + 1, by omega, trivial, by rw [crossS_succ]; rfl, by simp, trivial⟩
    · simp -implicitDefEqProofs (disch := omega) only [List.any_cons, List.any_nil, Nat.reduceEqDiff, List.map_cons, List.map_nil, Option.map_some, Option.map_none, List.nil_append, ↓reduceIte, vcu0, vcu1, vcu2, vcu3, vcu4, vcu5, vcu6, vcu7, vcu8, vcu9, vcu10, vcu11, vcu12, vcu13, vcu14, ↓vcd0, ↓vcd1, ↓vcd2, h0, h3, h4]
      refine fin_one Try.results39 ⟨?_, rfl⟩
      simp -implicitDefEqProofs (disch := omega) only [List.any_cons, List.any_nil, Nat.reduceEqDiff, List.map_cons, List.map_nil, Option.map_some, Option.map_none, List.nil_append, ↓reduceIte, vcu0, vcu1, vcu2, vcu3, vcu4, vcu5, vcu6, vcu7, vcu8, vcu9, vcu10, vcu11, vcu12, vcu13, vcu14, ↓vcd0, ↓vcd1, ↓vcd2, h3]
      have e : i = xs.length := by omega
      rw [e]
  · rw [decide_eq_false hV, if_neg hV]
    simp -implicitDefEqProofs (disch := omega) only [List.any_cons, List.any_nil, Nat.reduceEqDiff, List.map_cons, List.map_nil, Option.map_some, Option.map_none, List.nil_append, ↓reduceIte, vcu0, vcu1, vcu2, vcu3, vcu4, vcu5, vcu6, vcu7, vcu8, vcu9, vcu10, vcu11, vcu12, vcu13, vcu14, ↓vcd0, ↓vcd1, ↓vcd2, opK_some]
    refine fin_one Try.results39 ⟨?_, rfl⟩
    simp -implicitDefEqProofs (disch := omega) only [List.any_cons, List.any_nil, Nat.reduceEqDiff, List.map_cons, List.map_nil, Option.map_some, Option.map_none, List.nil_append, ↓reduceIte, vcu0, vcu1, vcu2, vcu3, vcu4, vcu5, vcu6, vcu7, vcu8, vcu9, vcu10, vcu11, vcu12, vcu13, vcu14, ↓vcd0, ↓vcd1, ↓vcd2]

end Go.Proofs.Ytdgbaglhhhbbhaa
