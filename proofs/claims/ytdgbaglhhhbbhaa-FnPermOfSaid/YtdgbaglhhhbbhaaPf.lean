/- PermRank of the program and of the reference; its exact law. -/
import Derived.Test.YtdgbaglhhhbbhaaPe
set_option linter.unusedSimpArgs false
set_option linter.unusedVariables false
namespace Go.Proofs.Ytdgbaglhhhbbhaa
open Go Go.Abs Go.RowKit
variable {w0 : World}

def fac : Nat → Nat
  | 0 => 1
  | n + 1 => fac n * (n + 1)
theorem fac_le : ∀ {n : Nat}, n ≤ 6 → 1 ≤ fac n ∧ fac n ≤ 720 := by
  intro n h
  have : n = 0 ∨ n = 1 ∨ n = 2 ∨ n = 3 ∨ n = 4 ∨ n = 5 ∨ n = 6 := by omega
  rcases this with rfl | rfl | rfl | rfl | rfl | rfl | rfl <;> decide

theorem implFac_calls (σ : AHeap) (z : Int) (hz : 0 ≤ z ∧ z ≤ 6) :
    ACall Try.prog w0 57 [.int .i64 z] σ fun r σ' => r = .int .i64 (fac z.toNat) ∧ σ' = σ := by
  obtain ⟨n, rfl⟩ : ∃ n : Nat, z = n := ⟨z.toNat, by omega⟩
  rw [Int.toNat_natCast]
  have hn : n ≤ 6 := by omega
  refine acall_go mixed Try.func57 rfl good57 ?_
  simp -implicitDefEqProofs (disch := omega) only [List.any_cons, List.any_nil, Nat.reduceEqDiff, List.map_cons, List.map_nil, Option.map_some, Option.map_none, List.nil_append, ↓reduceIte, vcu0, vcu1, vcu2, vcu3, vcu4, vcu5, vcu6, vcu7, vcu8, vcu9, vcu10, vcu11, vcu12, vcu13, vcu14, ↓vcd0, ↓vcd1, ↓vcd2]
  refine vc_loop mixed (by kernel_rfl) (fun m a σ' => ∃ i : Nat, m + i = 7 ∧ 1 ≤ i ∧ (i ≤ n ∨ i = 1) ∧ a 0 = .int .i64 n ∧ a 3 = .int .i64 (fac i) ∧ a 4 = .int .i64 (i + 1 : Nat) ∧ σ' = σ) 6 ⟨1, by omega, by omega, by omega, rfl, rfl, rfl, rfl⟩ ?_
  rintro m a σ' ⟨i, hi, h1, h2, h0, h3, h4, rfl⟩
  by_cases hlt : i + 1 ≤ n
  · have hb := fac_le (n := i) (by omega)
    have hb2 := fac_le (n := i + 1) (by omega)
    have hm : (fac i : Int) * ((i + 1 : Nat) : Int) = (fac (i + 1) : Nat) := by rw [fac]; simp
    simp -implicitDefEqProofs (disch := omega) only [List.any_cons, List.any_nil, Nat.reduceEqDiff, List.map_cons, List.map_nil, Option.map_some, Option.map_none, List.nil_append, ↓reduceIte, vcu0, vcu1, vcu2, vcu3, vcu4, vcu5, vcu6, vcu7, vcu8, vcu9, vcu10, vcu11, vcu12, vcu13, vcu14, ↓vcd0, ↓vcd1, ↓vcd2, h0, h3, h4]
    exact ⟨m - 1, by omega, i + 1, by omega, by omega, by omega, trivial, by rw [hm], by simp, trivial⟩
  · simp -implicitDefEqProofs (disch := omega) only [List.any_cons, List.any_nil, Nat.reduceEqDiff, List.map_cons, List.map_nil, Option.map_some, Option.map_none, List.nil_append, ↓reduceIte, vcu0, vcu1, vcu2, vcu3, vcu4, vcu5, vcu6, vcu7, vcu8, vcu9, vcu10, vcu11, vcu12, vcu13, vcu14, ↓vcd0, ↓vcd1, ↓vcd2, h0, h3, h4]
    refine fin_one Try.results57 ⟨?_, rfl⟩
    simp -implicitDefEqProofs (disch := omega) only [List.any_cons, List.any_nil, Nat.reduceEqDiff, List.map_cons, List.map_nil, Option.map_some, Option.map_none, List.nil_append, ↓reduceIte, vcu0, vcu1, vcu2, vcu3, vcu4, vcu5, vcu6, vcu7, vcu8, vcu9, vcu10, vcu11, vcu12, vcu13, vcu14, ↓vcd0, ↓vcd1, ↓vcd2, h3]
    rcases h2 with h2 | h2
    · have : i = n := by omega
      rw [this]
    · subst h2
      have : n = 0 ∨ n = 1 := by omega
      rcases this with rfl | rfl <;> rfl

theorem specFac_calls (σ : AHeap) (z : Int) (hz : 0 ≤ z ∧ z ≤ 6) :
    ACall Try.prog w0 58 [.int .i64 z] σ fun r σ' => r = .int .i64 (fac z.toNat) ∧ σ' = σ := by
  obtain ⟨n, rfl⟩ : ∃ n : Nat, z = n := ⟨z.toNat, by omega⟩
  rw [Int.toNat_natCast]
  have hn : n ≤ 6 := by omega
  refine acall_go mixed Try.func58 rfl good58 ?_
  simp -implicitDefEqProofs (disch := omega) only [List.any_cons, List.any_nil, Nat.reduceEqDiff, List.map_cons, List.map_nil, Option.map_some, Option.map_none, List.nil_append, ↓reduceIte, vcu0, vcu1, vcu2, vcu3, vcu4, vcu5, vcu6, vcu7, vcu8, vcu9, vcu10, vcu11, vcu12, vcu13, vcu14, ↓vcd0, ↓vcd1, ↓vcd2]
  refine vc_loop mixed (by kernel_rfl) (fun m a σ' => ∃ i : Nat, m + i = 7 ∧ 1 ≤ i ∧ (i ≤ n ∨ i = 1) ∧ a 0 = .int .i64 n ∧ a 3 = .int .i64 (fac i) ∧ a 4 = .int .i64 (i + 1 : Nat) ∧ σ' = σ) 6 ⟨1, by omega, by omega, by omega, rfl, rfl, rfl, rfl⟩ ?_
  rintro m a σ' ⟨i, hi, h1, h2, h0, h3, h4, rfl⟩
  by_cases hlt : i + 1 ≤ n
  · have hb := fac_le (n := i) (by omega)
    have hb2 := fac_le (n := i + 1) (by omega)
    have hm : (fac i : Int) * ((i + 1 : Nat) : Int) = (fac (i + 1) : Nat) := by rw [fac]; simp
    simp -implicitDefEqProofs (disch := omega) only [List.any_cons, List.any_nil, Nat.reduceEqDiff, List.map_cons, List.map_nil, Option.map_some, Option.map_none, List.nil_append, ↓reduceIte, vcu0, vcu1, vcu2, vcu3, vcu4, vcu5, vcu6, vcu7, vcu8, vcu9, vcu10, vcu11, vcu12, vcu13, vcu14, ↓vcd0, ↓vcd1, ↓vcd2, h0, h3, h4]
    exact ⟨m - 1, by omega, i + 1, by omega, by omega, by omega, trivial, by rw [hm], by simp, trivial⟩
  · simp -implicitDefEqProofs (disch := omega) only [List.any_cons, List.any_nil, Nat.reduceEqDiff, List.map_cons, List.map_nil, Option.map_some, Option.map_none, List.nil_append, ↓reduceIte, vcu0, vcu1, vcu2, vcu3, vcu4, vcu5, vcu6, vcu7, vcu8, vcu9, vcu10, vcu11, vcu12, vcu13, vcu14, ↓vcd0, ↓vcd1, ↓vcd2, h0, h3, h4]
    refine fin_one Try.results58 ⟨?_, rfl⟩
    simp -implicitDefEqProofs (disch := omega) only [List.any_cons, List.any_nil, Nat.reduceEqDiff, List.map_cons, List.map_nil, Option.map_some, Option.map_none, List.nil_append, ↓reduceIte, vcu0, vcu1, vcu2, vcu3, vcu4, vcu5, vcu6, vcu7, vcu8, vcu9, vcu10, vcu11, vcu12, vcu13, vcu14, ↓vcd0, ↓vcd1, ↓vcd2, h3]
    rcases h2 with h2 | h2
    · have : i = n := by omega
      rw [this]
    · subst h2
      have : n = 0 ∨ n = 1 := by omega
      rcases this with rfl | rfl <;> rfl

def rankT (xs : List Int) (i : Nat) : Nat := less xs i * fac ((xs.length : Int) - 1 - i).toNat
def rankI (xs : List Int) (k : Nat) : Nat := ((List.range k).map (rankT xs)).sum
theorem rankI_succ (xs : List Int) (k : Nat) : rankI xs (k + 1) = rankI xs k + rankT xs k := by
  simp [rankI, List.range_succ, List.map_append, List.sum_append]
theorem rankT_le {xs : List Int} (h : xs.length ≤ 6) (k : Nat) : rankT xs k ≤ 4320 :=
  Nat.le_trans (Nat.mul_le_mul (by have := less_le xs k; omega : less xs k ≤ 6) (fac_le (by omega)).2) (by decide)
theorem rankI_le {xs : List Int} (h : xs.length ≤ 6) : ∀ k, rankI xs k ≤ k * 4320
  | 0 => by simp [rankI]
  | k + 1 => by rw [rankI_succ, Nat.succ_mul]; have := rankI_le h k; have := rankT_le h k; omega
def rankV (xs : List Int) : Int := if Valid xs then (rankI xs xs.length : Int) else -1

theorem implRank_at (σ : AHeap) (h o : Nat) (xs : List Int) (hv : IntsAt .i64 σ h o xs) (hl : xs.length ≤ 1048576) :
    ACall Try.prog w0 41 [.slice (some ⟨h, o, none⟩) xs.length 1] σ fun r σ' => r = .int .i64 (rankV xs) ∧ σ' = σ := by
  unfold rankV
  refine acall_go mixed Try.func41 rfl good41 ?_
  simp -implicitDefEqProofs (disch := omega) only [List.any_cons, List.any_nil, Nat.reduceEqDiff, List.map_cons, List.map_nil, Option.map_some, Option.map_none, List.nil_append, ↓reduceIte, vcu0, vcu1, vcu2, vcu3, vcu4, vcu5, vcu6, vcu7, vcu8, vcu9, vcu10, vcu11, vcu12, vcu13, vcu14, ↓vcd0, ↓vcd1, ↓vcd2]
  refine (implValid_at σ h o xs hv hl).mono ?_
  rintro r σ' ⟨rfl, rfl⟩
  by_cases hV : Valid xs
  · have h6 := hV.2
    rw [decide_eq_true hV, if_pos hV]
    simp -implicitDefEqProofs (disch := omega) only [List.any_cons, List.any_nil, Nat.reduceEqDiff, List.map_cons, List.map_nil, Option.map_some, Option.map_none, List.nil_append, ↓reduceIte, vcu0, vcu1, vcu2, vcu3, vcu4, vcu5, vcu6, vcu7, vcu8, vcu9, vcu10, vcu11, vcu12, vcu13, vcu14, ↓vcd0, ↓vcd1, ↓vcd2, opK_some]
    refine vc_loop mixed (by kernel_rfl) (fun m a σ1 => ∃ i : Nat, m + i = xs.length ∧ a 0 = .slice (some ⟨h, o, none⟩) xs.length 1 ∧ a 3 = .int .i64 (rankI xs i) ∧ a 9 = .int .i64 xs.length ∧ a 10 = .int .i64 i ∧ σ1 = σ') xs.length ⟨0, by simp, rfl, rfl, rfl, rfl, rfl⟩ ?_
    rintro m a σ1 ⟨i, hi, h0, h3, h9, h10, rfl⟩
    by_cases hlt : i < xs.length
    · have hle : rankI xs i ≤ 25920 := Nat.le_trans (rankI_le h6 i) (by omega)
      have hT := rankT_le h6 i
      simp -implicitDefEqProofs (disch := omega) only [List.any_cons, List.any_nil, Nat.reduceEqDiff, List.map_cons, List.map_nil, Option.map_some, Option.map_none, List.nil_append, ↓reduceIte, vcu0, vcu1, vcu2, vcu3, vcu4, vcu5, vcu6, vcu7, vcu8, vcu9, vcu10, vcu11, vcu12, vcu13, vcu14, ↓vcd0, ↓vcd1, ↓vcd2, h0, h3, h9, h10]
      refine (less_at σ1 h o xs i hv hl hlt).mono ?_
      rintro r σ2 ⟨rfl, rfl⟩
      simp -implicitDefEqProofs (disch := omega) only [List.any_cons, List.any_nil, Nat.reduceEqDiff, List.map_cons, List.map_nil, Option.map_some, Option.map_none, List.nil_append, ↓reduceIte, vcu0, vcu1, vcu2, vcu3, vcu4, vcu5, vcu6, vcu7, vcu8, vcu9, vcu10, vcu11, vcu12, vcu13, vcu14, ↓vcd0, ↓vcd1, ↓vcd2, opK_some, h0, h3, h9, h10]
      have hm : (less xs i : Int) * (fac ((xs.length : Int) - 1 - i).toNat : Int) = (rankT xs i : Nat) := by unfold rankT; simp
      refine (implFac_calls σ2 _ (by omega)).mono ?_
      rintro r σ3 ⟨rfl, rfl⟩
      simp -implicitDefEqProofs (disch := omega) only [List.any_cons, List.any_nil, Nat.reduceEqDiff, List.map_cons, List.map_nil, Option.map_some, Option.map_none, List.nil_append, ↓reduceIte, vcu0, vcu1, vcu2, vcu3, vcu4, vcu5, vcu6, vcu7, vcu8, vcu9, vcu10, vcu11, vcu12, vcu13, vcu14, ↓vcd0, ↓vcd1, ↓vcd2, opK_some, h0, h3, h9, h10, hm]
      exact ⟨m - 1, by omega, i + 1, by omega, trivial, by rw [rankI_succ]; simp, trivial, by simp, trivial⟩
    · simp -implicitDefEqProofs (disch := omega) only [List.any_cons, List.any_nil, Nat.reduceEqDiff, List.map_cons, List.map_nil, Option.map_some, Option.map_none, List.nil_append, ↓reduceIte, vcu0, vcu1, vcu2, vcu3, vcu4, vcu5, vcu6, vcu7, vcu8, vcu9, vcu10, vcu11, vcu12, vcu13, vcu14, ↓vcd0, ↓vcd1, ↓vcd2, h0, h3, h9, h10]
      refine fin_one Try.results41 ⟨?_, rfl⟩
      simp -implicitDefEqProofs (disch := omega) only [List.any_cons, List.any_nil, Nat.reduceEqDiff, List.map_cons, List.map_nil, Option.map_some, Option.map_none, List.nil_append, ↓reduceIte, vcu0, vcu1, vcu2, vcu3, vcu4, vcu5, vcu6, vcu7, vcu8, vcu9, vcu10, vcu11, vcu12, vcu13, vcu14, ↓vcd0, ↓vcd1, ↓vcd2, h3]
      have e : i = xs.length := by omega
      rw [e]
  · rw [decide_eq_false hV, if_neg hV]
    simp -implicitDefEqProofs (disch := omega) only [List.any_cons, List.any_nil, Nat.reduceEqDiff, List.map_cons, List.map_nil, Option.map_some, Option.map_none, List.nil_append, ↓reduceIte, vcu0, vcu1, vcu2, vcu3, vcu4, vcu5, vcu6, vcu7, vcu8, vcu9, vcu10, vcu11, vcu12, vcu13, vcu14, ↓vcd0, ↓vcd1, ↓vcd2, opK_some]
    refine fin_one Try.results41 ⟨?_, rfl⟩
    simp -implicitDefEqProofs (disch := omega) only [List.any_cons, List.any_nil, Nat.reduceEqDiff, List.map_cons, List.map_nil, Option.map_some, Option.map_none, List.nil_append, ↓reduceIte, vcu0, vcu1, vcu2, vcu3, vcu4, vcu5, vcu6, vcu7, vcu8, vcu9, vcu10, vcu11, vcu12, vcu13, vcu14, ↓vcd0, ↓vcd1, ↓vcd2]

theorem specRank_at (σ : AHeap) (h o : Nat) (xs : List Int) (hv : IntsAt .i64 σ h o xs) (hl : xs.length ≤ 1048576) :
    ACall Try.prog w0 42 [.slice (some ⟨h, o, none⟩) xs.length 1] σ fun r σ' => r = .int .i64 (rankV xs) ∧ σ' = σ := by
  unfold rankV
  refine acall_go mixed Try.func42 rfl good42 ?_
  simp -implicitDefEqProofs (disch := omega) only [List.any_cons, List.any_nil, Nat.reduceEqDiff, List.map_cons, List.map_nil, Option.map_some, Option.map_none, List.nil_append, ↓reduceIte, vcu0, vcu1, vcu2, vcu3, vcu4, vcu5, vcu6, vcu7, vcu8, vcu9, vcu10, vcu11, vcu12, vcu13, vcu14, ↓vcd0, ↓vcd1, ↓vcd2]
  refine (specValid_at σ h o xs hv hl).mono ?_
  rintro r σ' ⟨rfl, rfl⟩
  by_cases hV : Valid xs
  · have h6 := hV.2
    rw [decide_eq_true hV, if_pos hV]
    simp -implicitDefEqProofs (disch := omega) only [List.any_cons, List.any_nil, Nat.reduceEqDiff, List.map_cons, List.map_nil, Option.map_some, Option.map_none, List.nil_append, ↓reduceIte, vcu0, vcu1, vcu2, vcu3, vcu4, vcu5, vcu6, vcu7, vcu8, vcu9, vcu10, vcu11, vcu12, vcu13, vcu14, ↓vcd0, ↓vcd1, ↓vcd2, opK_some]
    refine vc_loop mixed (by kernel_rfl) (fun m a σ1 => ∃ i : Nat, m + i = xs.length ∧ a 0 = .slice (some ⟨h, o, none⟩) xs.length 1 ∧ a 3 = .int .i64 (rankI xs i) ∧ a 4 = .int .i64 i ∧ σ1 = σ') xs.length ⟨0, by simp, rfl, rfl, rfl, rfl⟩ ?_
    rintro m a σ1 ⟨i, hi, h0, h3, h4, rfl⟩
    by_cases hlt : i < xs.length
    · have hle : rankI xs i ≤ 25920 := Nat.le_trans (rankI_le h6 i) (by omega)
      have hT := rankT_le h6 i
      have hm : (less xs i : Int) * (fac ((xs.length : Int) - 1 - i).toNat : Int) = (rankT xs i : Nat) := by unfold rankT; simp
      have hx := hv i hlt
      have hdl : (xs.drop (i + 1)).length = xs.length - (i + 1) := by simp
      simp -implicitDefEqProofs (disch := omega) only [List.any_cons, List.any_nil, Nat.reduceEqDiff, List.map_cons, List.map_nil, Option.map_some, Option.map_none, List.nil_append, ↓reduceIte, vcu0, vcu1, vcu2, vcu3, vcu4, vcu5, vcu6, vcu7, vcu8, vcu9, vcu10, vcu11, vcu12, vcu13, vcu14, ↓vcd0, ↓vcd1, ↓vcd2, h0, h3, h4]
      refine vc_loop mixed (by kernel_rfl) (fun m2 a σ2 => ∃ t : Nat, m2 + t = xs.length - (i + 1) ∧ a 0 = .slice (some ⟨h, o, none⟩) xs.length 1 ∧ a 3 = .int .i64 (rankI xs i) ∧ a 4 = .int .i64 i ∧
        a 5 = .int .i64 (cnt (fun y => decide (y < xs.getD i 0)) (xs.drop (i + 1)) t) ∧ a 6 = .int .i64 (i + 1 + t : Nat) ∧ σ2 = σ1) (xs.length - (i + 1)) ⟨0, by simp, by simp [fset, h0], by simp [fset, h3], by simp [fset, h4], by simp [fset, cnt_zero], by simp [fset], rfl⟩ ?_
      rintro m2 a2 σ2 ⟨t, ht, g0, g3, g4, g5, g6, rfl⟩
      have hcl := cnt_le (fun y => decide (y < xs.getD i 0)) (xs.drop (i + 1)) t
      by_cases hti : i + 1 + t < xs.length
      · have hy := hv (i + 1 + t) hti
        have hyd : (xs.drop (i + 1)).getD t 0 = xs.getD (i + 1 + t) 0 := by simp [List.getD, List.getElem?_drop]
        by_cases hc : xs.getD (i + 1 + t) 0 < xs.getD i 0
        · simp -implicitDefEqProofs (disch := omega) only [List.any_cons, List.any_nil, Nat.reduceEqDiff, List.map_cons, List.map_nil, Option.map_some, Option.map_none, List.nil_append, ↓reduceIte, vcu0, vcu1, vcu2, vcu3, vcu4, vcu5, vcu6, vcu7, vcu8, vcu9, vcu10, vcu11, vcu12, vcu13, vcu14, ↓vcd0, ↓vcd1, ↓vcd2, g0, g3, g4, g5, g6, hx, hy]
          exact ⟨m2 - 1, by omega, t + 1, by omega, trivial, trivial, trivial, by rw [cnt_yes (by omega) (by rw [hyd]; exact decide_eq_true hc)]; simp, by congr 1, trivial⟩
        · simp -implicitDefEqProofs (disch := omega) only [List.any_cons, List.any_nil, Nat.reduceEqDiff, List.map_cons, List.map_nil, Option.map_some, Option.map_none, List.nil_append, ↓reduceIte, vcu0, vcu1, vcu2, vcu3, vcu4, vcu5, vcu6, vcu7, vcu8, vcu9, vcu10, vcu11, vcu12, vcu13, vcu14, ↓vcd0, ↓vcd1, ↓vcd2, g0, g3, g4, g5, g6, hx, hy]
          exact ⟨m2 - 1, by omega, t + 1, by omega, trivial, trivial, trivial, by rw [cnt_no (by omega) (by rw [hyd]; exact decide_eq_false hc)], by congr 1, trivial⟩
      · have e : t = xs.length - (i + 1) := by omega
        have hls : cnt (fun y => decide (y < xs.getD i 0)) (xs.drop (i + 1)) t = less xs i := by rw [e]; rfl
        rw [hls] at g5
        simp -implicitDefEqProofs (disch := omega) only [List.any_cons, List.any_nil, Nat.reduceEqDiff, List.map_cons, List.map_nil, Option.map_some, Option.map_none, List.nil_append, ↓reduceIte, vcu0, vcu1, vcu2, vcu3, vcu4, vcu5, vcu6, vcu7, vcu8, vcu9, vcu10, vcu11, vcu12, vcu13, vcu14, ↓vcd0, ↓vcd1, ↓vcd2, g0, g3, g4, g5, g6]
        refine (specFac_calls σ2 _ (by omega)).mono ?_
        rintro r σ3 ⟨rfl, rfl⟩
        simp -implicitDefEqProofs (disch := omega) only [List.any_cons, List.any_nil, Nat.reduceEqDiff, List.map_cons, List.map_nil, Option.map_some, Option.map_none, List.nil_append, ↓reduceIte, vcu0, vcu1, vcu2, vcu3, vcu4, vcu5, vcu6, vcu7, vcu8, vcu9, vcu10, vcu11, vcu12, vcu13, vcu14, ↓vcd0, ↓vcd1, ↓vcd2, opK_some, g0, g3, g4, g5, g6, hm]
        exact ⟨m - 1, by omega, i + 1, by omega, trivial, by rw [rankI_succ]; simp, by simp, trivial⟩
    · simp -implicitDefEqProofs (disch := omega) only [List.any_cons, List.any_nil, Nat.reduceEqDiff, List.map_cons, List.map_nil, Option.map_some, Option.map_none, List.nil_append, ↓reduceIte, vcu0, vcu1, vcu2, vcu3, vcu4, vcu5, vcu6, vcu7, vcu8, vcu9, vcu10, vcu11, vcu12, vcu13, vcu14, ↓vcd0, ↓vcd1, ↓vcd2, h0, h3, h4]
      refine fin_one Try.results42 ⟨?_, rfl⟩
      simp -implicitDefEqProofs (disch := omega) only [List.any_cons, List.any_nil, Nat.reduceEqDiff, List.map_cons, List.map_nil, Option.map_some, Option.map_none, List.nil_append, ↓reduceIte, vcu0, vcu1, vcu2, vcu3, vcu4, vcu5, vcu6, vcu7, vcu8, vcu9, vcu10, vcu11, vcu12, vcu13, vcu14, ↓vcd0, ↓vcd1, ↓vcd2, h3]
      have e : i = xs.length := by omega
      rw [e]
  · rw [decide_eq_false hV, if_neg hV]
    simp -implicitDefEqProofs (disch := omega) only [List.any_cons, List.any_nil, Nat.reduceEqDiff, List.map_cons, List.map_nil, Option.map_some, Option.map_none, List.nil_append, ↓reduceIte, vcu0, vcu1, vcu2, vcu3, vcu4, vcu5, vcu6, vcu7, vcu8, vcu9, vcu10, vcu11, vcu12, vcu13, vcu14, ↓vcd0, ↓vcd1, ↓vcd2, opK_some]
    refine fin_one Try.results42 ⟨?_, rfl⟩
    simp -implicitDefEqProofs (disch := omega) only [List.any_cons, List.any_nil, Nat.reduceEqDiff, List.map_cons, List.map_nil, Option.map_some, Option.map_none, List.nil_append, ↓reduceIte, vcu0, vcu1, vcu2, vcu3, vcu4, vcu5, vcu6, vcu7, vcu8, vcu9, vcu10, vcu11, vcu12, vcu13, vcu14, ↓vcd0, ↓vcd1, ↓vcd2]

end Go.Proofs.Ytdgbaglhhhbbhaa
