/- How many lines, steps and switches; ways. -/
import Derived.Test.YtgieeafdgdkkcaaXb
import Derived.Test.YtgieeafdgdkkcaaBb
set_option linter.unusedSimpArgs false
set_option linter.unusedVariables false
namespace Go.Proofs.Ytgieeafdgdkkcaa
open Go Go.Abs Go.RowKit Go.Ban
variable {w0 : World}

/-- of which power of 2; 0 for other numbers -/
def lgOf (lines : Int) : Nat := if lines = 2 then 1 else if lines = 4 then 2 else if lines = 8 then 3 else 0
theorem lgOf_cases (lines : Int) : (lines = 2 ∧ lgOf lines = 1) ∨ (lines = 4 ∧ lgOf lines = 2) ∨ (lines = 8 ∧ lgOf lines = 3) ∨ (lines ≠ 2 ∧ lines ≠ 4 ∧ lines ≠ 8 ∧ lgOf lines = 0) := by
  unfold lgOf; split
  · exact .inl ⟨by assumption, rfl⟩
  · split
    · exact .inr (.inl ⟨by assumption, rfl⟩)
    · split
      · exact .inr (.inr (.inl ⟨by assumption, rfl⟩))
      · exact .inr (.inr (.inr ⟨by assumption, by assumption, by assumption, rfl⟩))
theorem lgOf_ls {lines : Int} (h : lgOf lines ≠ 0) : ∃ L : Nat, lines = L ∧ Ls L (lgOf lines) := by
  rcases lgOf_cases lines with ⟨e1, e2⟩ | ⟨e1, e2⟩ | ⟨e1, e2⟩ | ⟨_, _, _, e2⟩
  · exact ⟨2, e1, .inl ⟨rfl, e2⟩⟩
  · exact ⟨4, e1, .inr (.inl ⟨rfl, e2⟩)⟩
  · exact ⟨8, e1, .inr (.inr ⟨rfl, e2⟩)⟩
  · exact absurd e2 h
theorem lgOf_of {L lg : Nat} (h : Ls L lg) : lgOf L = lg := by
  rcases h with ⟨rfl, rfl⟩ | ⟨rfl, rfl⟩ | ⟨rfl, rfl⟩ <;> rfl

theorem stepsFor_at (σ : AHeap) (z : Int) : ACall Try.prog w0 57 [.int .i64 z] σ fun r σ' => r = .int .i64 (lgOf z : Int) ∧ σ' = σ := by
  refine acall_go mixed Try.func57 rfl good57 fun pr => ?_
  rcases lgOf_cases z with ⟨e1, e2⟩ | ⟨e1, e2⟩ | ⟨e1, e2⟩ | ⟨n1, n2, n3, e2⟩ <;> rw [e2]
  all_goals
    try subst e1
    simp -implicitDefEqProofs (disch := omega) only [List.any_cons, List.any_nil, Nat.reduceEqDiff, List.map_cons, List.map_nil, Option.map_some, Option.map_none, List.nil_append, ↓reduceIte, vcu0, vcu1, vcu2, vcu3, vcu4, vcu5, vcu6, vcu7, vcu8, vcu9, vcu10, vcu11, vcu12, vcu13, vcu14, vcu15, vcu16, vcu17, vcu18, vcu19, vcu20, vcu21, vcu22, ↓vcd0, ↓vcd1, ↓vcd2, ↓vcd3]
    refine fin_one Try.results57 ⟨?_, rfl⟩
    simp -implicitDefEqProofs (disch := omega) only [List.any_cons, List.any_nil, Nat.reduceEqDiff, List.map_cons, List.map_nil, Option.map_some, Option.map_none, List.nil_append, ↓reduceIte, vcu0, vcu1, vcu2, vcu3, vcu4, vcu5, vcu6, vcu7, vcu8, vcu9, vcu10, vcu11, vcu12, vcu13, vcu14, vcu15, vcu16, vcu17, vcu18, vcu19, vcu20, vcu21, vcu22, ↓vcd0, ↓vcd1, ↓vcd2, ↓vcd3]
    try rfl

theorem l3Lines_at (σ : AHeap) (z : Int) : ACall Try.prog w0 58 [.int .i64 z] σ fun r σ' => r = .bool (decide (lgOf z ≠ 0)) ∧ σ' = σ := by
  refine acall_go mixed Try.func58 rfl good58 fun pr => ?_
  rcases lgOf_cases z with ⟨e1, e2⟩ | ⟨e1, e2⟩ | ⟨e1, e2⟩ | ⟨n1, n2, n3, e2⟩ <;> rw [e2]
  all_goals
    try subst e1
    simp -implicitDefEqProofs (disch := omega) only [List.any_cons, List.any_nil, Nat.reduceEqDiff, List.map_cons, List.map_nil, Option.map_some, Option.map_none, List.nil_append, ↓reduceIte, vcu0, vcu1, vcu2, vcu3, vcu4, vcu5, vcu6, vcu7, vcu8, vcu9, vcu10, vcu11, vcu12, vcu13, vcu14, vcu15, vcu16, vcu17, vcu18, vcu19, vcu20, vcu21, vcu22, ↓vcd0, ↓vcd1, ↓vcd2, ↓vcd3]
    refine fin_one Try.results58 ⟨?_, rfl⟩
    simp -implicitDefEqProofs (disch := omega) only [List.any_cons, List.any_nil, Nat.reduceEqDiff, List.map_cons, List.map_nil, Option.map_some, Option.map_none, List.nil_append, ↓reduceIte, vcu0, vcu1, vcu2, vcu3, vcu4, vcu5, vcu6, vcu7, vcu8, vcu9, vcu10, vcu11, vcu12, vcu13, vcu14, vcu15, vcu16, vcu17, vcu18, vcu19, vcu20, vcu21, vcu22, ↓vcd0, ↓vcd1, ↓vcd2, ↓vcd3]
    try (simp; try omega)

theorem abin_shl1' {t : TypeId} {n : Nat} (h : n ≤ 62) : abin Try.prog t .shl (.int .i64 1) (.int .i64 (n : Int)) = some (.int .i64 ((2 ^ n : Nat) : Int)) := by
  have hp : 2 ^ n ≤ 2 ^ 62 := Nat.pow_le_pow_right (by omega) h
  have h1 : (0 : Int) ≤ (n : Int) := by omega
  have h2 : min n IntKind.i64.bits = n := Nat.min_eq_left (by show n ≤ 64; omega)
  simp only [abin, if_pos h1, Int.toNat_natCast, h2, Int.one_mul]
  have e : ((2 : Int) ^ n) = ((2 ^ n : Nat) : Int) := by norm_cast
  rw [e]
  have h3 : 2 ^ 62 = 4611686018427387904 := rfl
  rw [h3] at hp
  generalize 2 ^ n = N at hp
  rw [wrap_i64_ok (by omega)]
theorem abin_shrN' {t : TypeId} {k i : Nat} (h : i ≤ 63) : abin Try.prog t .shr (.int .i64 (k : Int)) (.int .i64 (i : Int)) = some (.int .i64 ((k / 2 ^ i : Nat) : Int)) := by
  have h1 : (0 : Int) ≤ (i : Int) := by omega
  have h2 : min i IntKind.i64.bits = i := Nat.min_eq_left (by show i ≤ 64; omega)
  simp only [abin, if_pos h1, Int.toNat_natCast, h2]
  rw [Int.fdiv_eq_ediv_of_nonneg _ (Int.pow_nonneg (by omega))]
  norm_cast

theorem l3Log_at (σ : AHeap) (L lg : Nat) (h : Ls L lg) : ACall Try.prog w0 73 [.int .i64 (L : Nat)] σ fun r σ' => r = .int .i64 (lg : Int) ∧ σ' = σ := by
  have hp : L = 2 ^ lg ∧ lg ≤ 3 := by rcases h with ⟨rfl, rfl⟩ | ⟨rfl, rfl⟩ | ⟨rfl, rfl⟩ <;> simp
  refine acall_go mixed Try.func73 rfl good73 fun pr => ?_
  simp -implicitDefEqProofs (disch := omega) only [List.any_cons, List.any_nil, Nat.reduceEqDiff, List.map_cons, List.map_nil, Option.map_some, Option.map_none, List.nil_append, ↓reduceIte, vcu0, vcu1, vcu2, vcu3, vcu4, vcu5, vcu6, vcu7, vcu8, vcu9, vcu10, vcu11, vcu12, vcu13, vcu14, vcu15, vcu16, vcu17, vcu18, vcu19, vcu20, vcu21, vcu22, ↓vcd0, ↓vcd1, ↓vcd2, ↓vcd3]
  refine vc_loop_c mixed (by kernel_rfl) [0] (fun m a τ => ∃ n : Nat, m + n = lg ∧ a 3 = .int .i64 n ∧ τ = σ) lg ⟨0, by simp, rfl, rfl⟩ ?_
  rintro m a _ hc ⟨n, hn, h3, rfl⟩
  simp -implicitDefEqProofs (disch := omega) only [List.any_cons, List.any_nil, Nat.reduceEqDiff, List.map_cons, List.map_nil, Option.map_some, Option.map_none, List.nil_append, ↓reduceIte, vcu0, vcu1, vcu2, vcu3, vcu4, vcu5, vcu6, vcu7, vcu8, vcu9, vcu10, vcu11, vcu12, vcu13, vcu14, vcu15, vcu16, vcu17, vcu18, vcu19, vcu20, vcu21, vcu22, ↓vcd0, ↓vcd1, ↓vcd2, ↓vcd3] at hc
  obtain ⟨h0, -⟩ := hc
  rename_i τ
  have hshl : ∀ {t : TypeId}, abin Try.prog t .shl (.int .i64 1) (.int .i64 (n : Int)) = some (.int .i64 ((2 ^ n : Nat) : Int)) := abin_shl1' (by omega)
  by_cases hlt : n < lg
  · have h2 : 2 ^ n < L := by rw [hp.1]; exact Nat.pow_lt_pow_right (by omega) hlt
    have hL : L ≤ 8 := h.le.1
    generalize 2 ^ n = M at hshl h2
    simp -implicitDefEqProofs (disch := omega) only [List.any_cons, List.any_nil, Nat.reduceEqDiff, List.map_cons, List.map_nil, Option.map_some, Option.map_none, List.nil_append, ↓reduceIte, vcu0, vcu1, vcu2, vcu3, vcu4, vcu5, vcu6, vcu7, vcu8, vcu9, vcu10, vcu11, vcu12, vcu13, vcu14, vcu15, vcu16, vcu17, vcu18, vcu19, vcu20, vcu21, vcu22, ↓vcd0, ↓vcd1, ↓vcd2, ↓vcd3, h0, h3, hshl]
    exact ⟨⟨trivial, trivial⟩, m - 1, by omega, n + 1, by omega, by simp, trivial⟩
  · have e : n = lg := by omega
    subst e
    rw [← hp.1] at hshl
    simp -implicitDefEqProofs (disch := omega) only [List.any_cons, List.any_nil, Nat.reduceEqDiff, List.map_cons, List.map_nil, Option.map_some, Option.map_none, List.nil_append, ↓reduceIte, vcu0, vcu1, vcu2, vcu3, vcu4, vcu5, vcu6, vcu7, vcu8, vcu9, vcu10, vcu11, vcu12, vcu13, vcu14, vcu15, vcu16, vcu17, vcu18, vcu19, vcu20, vcu21, vcu22, ↓vcd0, ↓vcd1, ↓vcd2, ↓vcd3, h0, h3, hshl]
    refine fin_one Try.results73 ⟨?_, rfl⟩
    simp -implicitDefEqProofs (disch := omega) only [List.any_cons, List.any_nil, Nat.reduceEqDiff, List.map_cons, List.map_nil, Option.map_some, Option.map_none, List.nil_append, ↓reduceIte, vcu0, vcu1, vcu2, vcu3, vcu4, vcu5, vcu6, vcu7, vcu8, vcu9, vcu10, vcu11, vcu12, vcu13, vcu14, vcu15, vcu16, vcu17, vcu18, vcu19, vcu20, vcu21, vcu22, ↓vcd0, ↓vcd1, ↓vcd2, ↓vcd3, h3]

def loopV (z : Int) : Int := if lgOf z = 0 then -1 else (many (lgOf z) : Int)
def stepV (z : Int) : Int := if lgOf z = 0 then -1 else z / 2 * (lgOf z : Int)
theorem stepV_ls {L lg : Nat} (h : Ls L lg) : stepV L = ((L / 2 * lg : Nat) : Int) := by
  rcases h with ⟨rfl, rfl⟩ | ⟨rfl, rfl⟩ | ⟨rfl, rfl⟩ <;> rfl
theorem loopV_ls {L lg : Nat} (h : Ls L lg) : loopV L = (many lg : Int) := by
  rcases h with ⟨rfl, rfl⟩ | ⟨rfl, rfl⟩ | ⟨rfl, rfl⟩ <;> rfl
theorem implLoopMany_ls (σ : AHeap) (l : Nat) (hl : l ≤ 2) : ACall Try.prog w0 20 [.int .i64 ((2 ^ (l + 1) : Nat) : Int)] σ fun r σ' => r = .int .i64 (many (l + 1) : Int) ∧ σ' = σ := by
  induction l generalizing σ with
  | zero =>
    refine acall_go mixed Try.func20 rfl good20 fun pr => ?_
    simp -implicitDefEqProofs (disch := omega) only [List.any_cons, List.any_nil, Nat.reduceEqDiff, List.map_cons, List.map_nil, Option.map_some, Option.map_none, List.nil_append, ↓reduceIte, vcu0, vcu1, vcu2, vcu3, vcu4, vcu5, vcu6, vcu7, vcu8, vcu9, vcu10, vcu11, vcu12, vcu13, vcu14, vcu15, vcu16, vcu17, vcu18, vcu19, vcu20, vcu21, vcu22, ↓vcd0, ↓vcd1, ↓vcd2, ↓vcd3]
    refine (stepsFor_at σ _).mono ?_
    rintro r _ ⟨rfl, rfl⟩
    have e : (lgOf ((2 ^ (0 + 1) : Nat) : Int) : Int) = 1 := rfl
    have e2 : ((2 ^ (0 + 1) : Nat) : Int) = 2 := rfl
    rw [e]
    simp -implicitDefEqProofs (disch := omega) only [List.any_cons, List.any_nil, Nat.reduceEqDiff, List.map_cons, List.map_nil, Option.map_some, Option.map_none, List.nil_append, ↓reduceIte, vcu0, vcu1, vcu2, vcu3, vcu4, vcu5, vcu6, vcu7, vcu8, vcu9, vcu10, vcu11, vcu12, vcu13, vcu14, vcu15, vcu16, vcu17, vcu18, vcu19, vcu20, vcu21, vcu22, ↓vcd0, ↓vcd1, ↓vcd2, ↓vcd3, opK_some, e2]
    refine fin_one Try.results20 ⟨?_, rfl⟩
    simp -implicitDefEqProofs (disch := omega) only [List.any_cons, List.any_nil, Nat.reduceEqDiff, List.map_cons, List.map_nil, Option.map_some, Option.map_none, List.nil_append, ↓reduceIte, vcu0, vcu1, vcu2, vcu3, vcu4, vcu5, vcu6, vcu7, vcu8, vcu9, vcu10, vcu11, vcu12, vcu13, vcu14, vcu15, vcu16, vcu17, vcu18, vcu19, vcu20, vcu21, vcu22, ↓vcd0, ↓vcd1, ↓vcd2, ↓vcd3]
    rfl
  | succ l ih =>
    refine acall_go mixed Try.func20 rfl good20 fun pr => ?_
    simp -implicitDefEqProofs (disch := omega) only [List.any_cons, List.any_nil, Nat.reduceEqDiff, List.map_cons, List.map_nil, Option.map_some, Option.map_none, List.nil_append, ↓reduceIte, vcu0, vcu1, vcu2, vcu3, vcu4, vcu5, vcu6, vcu7, vcu8, vcu9, vcu10, vcu11, vcu12, vcu13, vcu14, vcu15, vcu16, vcu17, vcu18, vcu19, vcu20, vcu21, vcu22, ↓vcd0, ↓vcd1, ↓vcd2, ↓vcd3]
    refine (stepsFor_at σ _).mono ?_
    rintro r _ ⟨rfl, rfl⟩
    rename_i σ
    have e : (lgOf ((2 ^ (l + 1 + 1) : Nat) : Int) : Int) ≠ 0 ∧ ((2 ^ (l + 1 + 1) : Nat) : Int) ≠ 2 ∧ ((2 ^ (l + 1 + 1) : Nat) : Int) / 2 = ((2 ^ (l + 1) : Nat) : Int) ∧ many (l + 1) ≤ 6 ∧ 2 ^ (l + 1 + 1) ≤ 8 := by
      have : l = 0 ∨ l = 1 := by omega
      rcases this with rfl | rfl <;> simp [lgOf, many]
    obtain ⟨e1, e2, e3, e4, e5⟩ := e
    have ihh := ih σ (by omega)
    have em : many (l + 1 + 1) = 2 ^ (l + 1 + 1) + 2 * many (l + 1) := rfl
    rw [em]
    generalize (lgOf ((2 ^ (l + 1 + 1) : Nat) : Int) : Int) = q at e1
    generalize 2 ^ (l + 1 + 1) = N at e1 e2 e3 e5
    generalize many (l + 1) = M at ihh e4
    simp -implicitDefEqProofs (disch := omega) only [List.any_cons, List.any_nil, Nat.reduceEqDiff, List.map_cons, List.map_nil, Option.map_some, Option.map_none, List.nil_append, ↓reduceIte, vcu0, vcu1, vcu2, vcu3, vcu4, vcu5, vcu6, vcu7, vcu8, vcu9, vcu10, vcu11, vcu12, vcu13, vcu14, vcu15, vcu16, vcu17, vcu18, vcu19, vcu20, vcu21, vcu22, ↓vcd0, ↓vcd1, ↓vcd2, ↓vcd3, opK_some, e3]
    refine ihh.mono ?_
    rintro r _ ⟨rfl, rfl⟩
    simp -implicitDefEqProofs (disch := omega) only [List.any_cons, List.any_nil, Nat.reduceEqDiff, List.map_cons, List.map_nil, Option.map_some, Option.map_none, List.nil_append, ↓reduceIte, vcu0, vcu1, vcu2, vcu3, vcu4, vcu5, vcu6, vcu7, vcu8, vcu9, vcu10, vcu11, vcu12, vcu13, vcu14, vcu15, vcu16, vcu17, vcu18, vcu19, vcu20, vcu21, vcu22, ↓vcd0, ↓vcd1, ↓vcd2, ↓vcd3, opK_some]
    refine fin_one Try.results20 ⟨?_, rfl⟩
    simp -implicitDefEqProofs (disch := omega) only [List.any_cons, List.any_nil, Nat.reduceEqDiff, List.map_cons, List.map_nil, Option.map_some, Option.map_none, List.nil_append, ↓reduceIte, vcu0, vcu1, vcu2, vcu3, vcu4, vcu5, vcu6, vcu7, vcu8, vcu9, vcu10, vcu11, vcu12, vcu13, vcu14, vcu15, vcu16, vcu17, vcu18, vcu19, vcu20, vcu21, vcu22, ↓vcd0, ↓vcd1, ↓vcd2, ↓vcd3]
    congr 1
theorem implLoopMany_at (σ : AHeap) (z : Int) : ACall Try.prog w0 20 [.int .i64 z] σ fun r σ' => r = .int .i64 (loopV z) ∧ σ' = σ := by
  rcases lgOf_cases z with ⟨e1, e2⟩ | ⟨e1, e2⟩ | ⟨e1, e2⟩ | ⟨n1, n2, n3, e2⟩
  · subst e1; exact implLoopMany_ls σ 0 (by omega)
  · subst e1; exact implLoopMany_ls σ 1 (by omega)
  · subst e1; exact implLoopMany_ls σ 2 (by omega)
  · have el : loopV z = -1 := by unfold loopV; rw [if_pos e2]
    rw [el]
    refine acall_go mixed Try.func20 rfl good20 fun pr => ?_
    simp -implicitDefEqProofs (disch := omega) only [List.any_cons, List.any_nil, Nat.reduceEqDiff, List.map_cons, List.map_nil, Option.map_some, Option.map_none, List.nil_append, ↓reduceIte, vcu0, vcu1, vcu2, vcu3, vcu4, vcu5, vcu6, vcu7, vcu8, vcu9, vcu10, vcu11, vcu12, vcu13, vcu14, vcu15, vcu16, vcu17, vcu18, vcu19, vcu20, vcu21, vcu22, ↓vcd0, ↓vcd1, ↓vcd2, ↓vcd3]
    refine (stepsFor_at σ _).mono ?_
    rintro r _ ⟨rfl, rfl⟩
    rw [e2]
    simp -implicitDefEqProofs (disch := omega) only [List.any_cons, List.any_nil, Nat.reduceEqDiff, List.map_cons, List.map_nil, Option.map_some, Option.map_none, List.nil_append, ↓reduceIte, vcu0, vcu1, vcu2, vcu3, vcu4, vcu5, vcu6, vcu7, vcu8, vcu9, vcu10, vcu11, vcu12, vcu13, vcu14, vcu15, vcu16, vcu17, vcu18, vcu19, vcu20, vcu21, vcu22, ↓vcd0, ↓vcd1, ↓vcd2, ↓vcd3, opK_some, Int.natCast_zero]
    refine fin_one Try.results20 ⟨?_, rfl⟩
    simp -implicitDefEqProofs (disch := omega) only [List.any_cons, List.any_nil, Nat.reduceEqDiff, List.map_cons, List.map_nil, Option.map_some, Option.map_none, List.nil_append, ↓reduceIte, vcu0, vcu1, vcu2, vcu3, vcu4, vcu5, vcu6, vcu7, vcu8, vcu9, vcu10, vcu11, vcu12, vcu13, vcu14, vcu15, vcu16, vcu17, vcu18, vcu19, vcu20, vcu21, vcu22, ↓vcd0, ↓vcd1, ↓vcd2, ↓vcd3]
theorem specLoopMany_ls (σ : AHeap) (l : Nat) (hl : l ≤ 2) : ACall Try.prog w0 21 [.int .i64 ((2 ^ (l + 1) : Nat) : Int)] σ fun r σ' => r = .int .i64 (many (l + 1) : Int) ∧ σ' = σ := by
  induction l generalizing σ with
  | zero =>
    refine acall_go mixed Try.func21 rfl good21 fun pr => ?_
    simp -implicitDefEqProofs (disch := omega) only [List.any_cons, List.any_nil, Nat.reduceEqDiff, List.map_cons, List.map_nil, Option.map_some, Option.map_none, List.nil_append, ↓reduceIte, vcu0, vcu1, vcu2, vcu3, vcu4, vcu5, vcu6, vcu7, vcu8, vcu9, vcu10, vcu11, vcu12, vcu13, vcu14, vcu15, vcu16, vcu17, vcu18, vcu19, vcu20, vcu21, vcu22, ↓vcd0, ↓vcd1, ↓vcd2, ↓vcd3]
    refine (l3Lines_at σ _).mono ?_
    rintro r _ ⟨rfl, rfl⟩
    have e : decide (lgOf ((2 ^ (0 + 1) : Nat) : Int) ≠ 0) = true := rfl
    have e2 : ((2 ^ (0 + 1) : Nat) : Int) = 2 := rfl
    rw [e]
    simp -implicitDefEqProofs (disch := omega) only [List.any_cons, List.any_nil, Nat.reduceEqDiff, List.map_cons, List.map_nil, Option.map_some, Option.map_none, List.nil_append, ↓reduceIte, vcu0, vcu1, vcu2, vcu3, vcu4, vcu5, vcu6, vcu7, vcu8, vcu9, vcu10, vcu11, vcu12, vcu13, vcu14, vcu15, vcu16, vcu17, vcu18, vcu19, vcu20, vcu21, vcu22, ↓vcd0, ↓vcd1, ↓vcd2, ↓vcd3, opK_some, e2]
    refine fin_one Try.results21 ⟨?_, rfl⟩
    simp -implicitDefEqProofs (disch := omega) only [List.any_cons, List.any_nil, Nat.reduceEqDiff, List.map_cons, List.map_nil, Option.map_some, Option.map_none, List.nil_append, ↓reduceIte, vcu0, vcu1, vcu2, vcu3, vcu4, vcu5, vcu6, vcu7, vcu8, vcu9, vcu10, vcu11, vcu12, vcu13, vcu14, vcu15, vcu16, vcu17, vcu18, vcu19, vcu20, vcu21, vcu22, ↓vcd0, ↓vcd1, ↓vcd2, ↓vcd3]
    rfl
  | succ l ih =>
    refine acall_go mixed Try.func21 rfl good21 fun pr => ?_
    simp -implicitDefEqProofs (disch := omega) only [List.any_cons, List.any_nil, Nat.reduceEqDiff, List.map_cons, List.map_nil, Option.map_some, Option.map_none, List.nil_append, ↓reduceIte, vcu0, vcu1, vcu2, vcu3, vcu4, vcu5, vcu6, vcu7, vcu8, vcu9, vcu10, vcu11, vcu12, vcu13, vcu14, vcu15, vcu16, vcu17, vcu18, vcu19, vcu20, vcu21, vcu22, ↓vcd0, ↓vcd1, ↓vcd2, ↓vcd3]
    refine (l3Lines_at σ _).mono ?_
    rintro r _ ⟨rfl, rfl⟩
    rename_i σ
    have e : decide (lgOf ((2 ^ (l + 1 + 1) : Nat) : Int) ≠ 0) = true ∧ ((2 ^ (l + 1 + 1) : Nat) : Int) ≠ 2 ∧ ((2 ^ (l + 1 + 1) : Nat) : Int) / 2 = ((2 ^ (l + 1) : Nat) : Int) ∧ many (l + 1) ≤ 6 ∧ 2 ^ (l + 1 + 1) ≤ 8 := by
      have : l = 0 ∨ l = 1 := by omega
      rcases this with rfl | rfl <;> simp [lgOf, many]
    obtain ⟨e1, e2, e3, e4, e5⟩ := e
    have ihh := ih σ (by omega)
    have em : many (l + 1 + 1) = 2 ^ (l + 1 + 1) + 2 * many (l + 1) := rfl
    rw [em, e1]
    generalize 2 ^ (l + 1 + 1) = N at e1 e2 e3 e5
    generalize many (l + 1) = M at ihh e4
    simp -implicitDefEqProofs (disch := omega) only [List.any_cons, List.any_nil, Nat.reduceEqDiff, List.map_cons, List.map_nil, Option.map_some, Option.map_none, List.nil_append, ↓reduceIte, vcu0, vcu1, vcu2, vcu3, vcu4, vcu5, vcu6, vcu7, vcu8, vcu9, vcu10, vcu11, vcu12, vcu13, vcu14, vcu15, vcu16, vcu17, vcu18, vcu19, vcu20, vcu21, vcu22, ↓vcd0, ↓vcd1, ↓vcd2, ↓vcd3, opK_some, e3]
    refine ihh.mono ?_
    rintro r _ ⟨rfl, rfl⟩
    simp -implicitDefEqProofs (disch := omega) only [List.any_cons, List.any_nil, Nat.reduceEqDiff, List.map_cons, List.map_nil, Option.map_some, Option.map_none, List.nil_append, ↓reduceIte, vcu0, vcu1, vcu2, vcu3, vcu4, vcu5, vcu6, vcu7, vcu8, vcu9, vcu10, vcu11, vcu12, vcu13, vcu14, vcu15, vcu16, vcu17, vcu18, vcu19, vcu20, vcu21, vcu22, ↓vcd0, ↓vcd1, ↓vcd2, ↓vcd3, opK_some]
    refine fin_one Try.results21 ⟨?_, rfl⟩
    simp -implicitDefEqProofs (disch := omega) only [List.any_cons, List.any_nil, Nat.reduceEqDiff, List.map_cons, List.map_nil, Option.map_some, Option.map_none, List.nil_append, ↓reduceIte, vcu0, vcu1, vcu2, vcu3, vcu4, vcu5, vcu6, vcu7, vcu8, vcu9, vcu10, vcu11, vcu12, vcu13, vcu14, vcu15, vcu16, vcu17, vcu18, vcu19, vcu20, vcu21, vcu22, ↓vcd0, ↓vcd1, ↓vcd2, ↓vcd3]
    congr 1
theorem specLoopMany_at (σ : AHeap) (z : Int) : ACall Try.prog w0 21 [.int .i64 z] σ fun r σ' => r = .int .i64 (loopV z) ∧ σ' = σ := by
  rcases lgOf_cases z with ⟨e1, e2⟩ | ⟨e1, e2⟩ | ⟨e1, e2⟩ | ⟨n1, n2, n3, e2⟩
  · subst e1; exact specLoopMany_ls σ 0 (by omega)
  · subst e1; exact specLoopMany_ls σ 1 (by omega)
  · subst e1; exact specLoopMany_ls σ 2 (by omega)
  · have el : loopV z = -1 := by unfold loopV; rw [if_pos e2]
    rw [el]
    refine acall_go mixed Try.func21 rfl good21 fun pr => ?_
    simp -implicitDefEqProofs (disch := omega) only [List.any_cons, List.any_nil, Nat.reduceEqDiff, List.map_cons, List.map_nil, Option.map_some, Option.map_none, List.nil_append, ↓reduceIte, vcu0, vcu1, vcu2, vcu3, vcu4, vcu5, vcu6, vcu7, vcu8, vcu9, vcu10, vcu11, vcu12, vcu13, vcu14, vcu15, vcu16, vcu17, vcu18, vcu19, vcu20, vcu21, vcu22, ↓vcd0, ↓vcd1, ↓vcd2, ↓vcd3]
    refine (l3Lines_at σ _).mono ?_
    rintro r _ ⟨rfl, rfl⟩
    have e : decide (lgOf z ≠ 0) = false := by simp [e2]
    rw [e]
    simp -implicitDefEqProofs (disch := omega) only [List.any_cons, List.any_nil, Nat.reduceEqDiff, List.map_cons, List.map_nil, Option.map_some, Option.map_none, List.nil_append, ↓reduceIte, vcu0, vcu1, vcu2, vcu3, vcu4, vcu5, vcu6, vcu7, vcu8, vcu9, vcu10, vcu11, vcu12, vcu13, vcu14, vcu15, vcu16, vcu17, vcu18, vcu19, vcu20, vcu21, vcu22, ↓vcd0, ↓vcd1, ↓vcd2, ↓vcd3, opK_some]
    refine fin_one Try.results21 ⟨?_, rfl⟩
    simp -implicitDefEqProofs (disch := omega) only [List.any_cons, List.any_nil, Nat.reduceEqDiff, List.map_cons, List.map_nil, Option.map_some, Option.map_none, List.nil_append, ↓reduceIte, vcu0, vcu1, vcu2, vcu3, vcu4, vcu5, vcu6, vcu7, vcu8, vcu9, vcu10, vcu11, vcu12, vcu13, vcu14, vcu15, vcu16, vcu17, vcu18, vcu19, vcu20, vcu21, vcu22, ↓vcd0, ↓vcd1, ↓vcd2, ↓vcd3]
theorem implStepMany_at (σ : AHeap) (z : Int) : ACall Try.prog w0 23 [.int .i64 z] σ fun r σ' => r = .int .i64 (stepV z) ∧ σ' = σ := by
  refine acall_go mixed Try.func23 rfl good23 fun pr => ?_
  simp -implicitDefEqProofs (disch := omega) only [List.any_cons, List.any_nil, Nat.reduceEqDiff, List.map_cons, List.map_nil, Option.map_some, Option.map_none, List.nil_append, ↓reduceIte, vcu0, vcu1, vcu2, vcu3, vcu4, vcu5, vcu6, vcu7, vcu8, vcu9, vcu10, vcu11, vcu12, vcu13, vcu14, vcu15, vcu16, vcu17, vcu18, vcu19, vcu20, vcu21, vcu22, ↓vcd0, ↓vcd1, ↓vcd2, ↓vcd3]
  refine (stepsFor_at σ _).mono ?_
  rintro r _ ⟨rfl, rfl⟩
  rename_i σ
  unfold stepV
  by_cases h : lgOf z = 0
  · rw [if_pos h, h]
    simp -implicitDefEqProofs (disch := omega) only [List.any_cons, List.any_nil, Nat.reduceEqDiff, List.map_cons, List.map_nil, Option.map_some, Option.map_none, List.nil_append, ↓reduceIte, vcu0, vcu1, vcu2, vcu3, vcu4, vcu5, vcu6, vcu7, vcu8, vcu9, vcu10, vcu11, vcu12, vcu13, vcu14, vcu15, vcu16, vcu17, vcu18, vcu19, vcu20, vcu21, vcu22, ↓vcd0, ↓vcd1, ↓vcd2, ↓vcd3, opK_some, Int.natCast_zero]
    refine fin_one Try.results23 ⟨?_, rfl⟩
    simp -implicitDefEqProofs (disch := omega) only [List.any_cons, List.any_nil, Nat.reduceEqDiff, List.map_cons, List.map_nil, Option.map_some, Option.map_none, List.nil_append, ↓reduceIte, vcu0, vcu1, vcu2, vcu3, vcu4, vcu5, vcu6, vcu7, vcu8, vcu9, vcu10, vcu11, vcu12, vcu13, vcu14, vcu15, vcu16, vcu17, vcu18, vcu19, vcu20, vcu21, vcu22, ↓vcd0, ↓vcd1, ↓vcd2, ↓vcd3]
  · rw [if_neg h]
    obtain ⟨L, e1, e2⟩ := lgOf_ls h
    have hle := e2.le
    have hz : 0 ≤ z / 2 ∧ z / 2 ≤ 4 := by omega
    have hmul : 0 ≤ z / 2 * (lgOf z : Int) ∧ z / 2 * (lgOf z : Int) ≤ 100 := by
      rcases lgOf_cases z with ⟨q1, q2⟩ | ⟨q1, q2⟩ | ⟨q1, q2⟩ | ⟨_, _, _, q2⟩
      · subst q1; rw [q2]; decide
      · subst q1; rw [q2]; decide
      · subst q1; rw [q2]; decide
      · exact absurd q2 h
    have h' : (lgOf z : Int) ≠ 0 := by omega
    simp -implicitDefEqProofs (disch := omega) only [List.any_cons, List.any_nil, Nat.reduceEqDiff, List.map_cons, List.map_nil, Option.map_some, Option.map_none, List.nil_append, ↓reduceIte, vcu0, vcu1, vcu2, vcu3, vcu4, vcu5, vcu6, vcu7, vcu8, vcu9, vcu10, vcu11, vcu12, vcu13, vcu14, vcu15, vcu16, vcu17, vcu18, vcu19, vcu20, vcu21, vcu22, ↓vcd0, ↓vcd1, ↓vcd2, ↓vcd3, opK_some]
    refine (stepsFor_at σ _).mono ?_
    rintro r _ ⟨rfl, rfl⟩
    simp -implicitDefEqProofs (disch := omega) only [List.any_cons, List.any_nil, Nat.reduceEqDiff, List.map_cons, List.map_nil, Option.map_some, Option.map_none, List.nil_append, ↓reduceIte, vcu0, vcu1, vcu2, vcu3, vcu4, vcu5, vcu6, vcu7, vcu8, vcu9, vcu10, vcu11, vcu12, vcu13, vcu14, vcu15, vcu16, vcu17, vcu18, vcu19, vcu20, vcu21, vcu22, ↓vcd0, ↓vcd1, ↓vcd2, ↓vcd3, opK_some]
    refine fin_one Try.results23 ⟨?_, rfl⟩
    simp -implicitDefEqProofs (disch := omega) only [List.any_cons, List.any_nil, Nat.reduceEqDiff, List.map_cons, List.map_nil, Option.map_some, Option.map_none, List.nil_append, ↓reduceIte, vcu0, vcu1, vcu2, vcu3, vcu4, vcu5, vcu6, vcu7, vcu8, vcu9, vcu10, vcu11, vcu12, vcu13, vcu14, vcu15, vcu16, vcu17, vcu18, vcu19, vcu20, vcu21, vcu22, ↓vcd0, ↓vcd1, ↓vcd2, ↓vcd3]
theorem specStepMany_at (σ : AHeap) (z : Int) : ACall Try.prog w0 40 [.int .i64 z] σ fun r σ' => r = .int .i64 (stepV z) ∧ σ' = σ := by
  refine acall_go mixed Try.func40 rfl good40 fun pr => ?_
  simp -implicitDefEqProofs (disch := omega) only [List.any_cons, List.any_nil, Nat.reduceEqDiff, List.map_cons, List.map_nil, Option.map_some, Option.map_none, List.nil_append, ↓reduceIte, vcu0, vcu1, vcu2, vcu3, vcu4, vcu5, vcu6, vcu7, vcu8, vcu9, vcu10, vcu11, vcu12, vcu13, vcu14, vcu15, vcu16, vcu17, vcu18, vcu19, vcu20, vcu21, vcu22, ↓vcd0, ↓vcd1, ↓vcd2, ↓vcd3]
  refine (l3Lines_at σ _).mono ?_
  rintro r _ ⟨rfl, rfl⟩
  rename_i σ
  unfold stepV
  by_cases h : lgOf z = 0
  · have e : decide (lgOf z ≠ 0) = false := by simp [h]
    rw [if_pos h, e]
    simp -implicitDefEqProofs (disch := omega) only [List.any_cons, List.any_nil, Nat.reduceEqDiff, List.map_cons, List.map_nil, Option.map_some, Option.map_none, List.nil_append, ↓reduceIte, vcu0, vcu1, vcu2, vcu3, vcu4, vcu5, vcu6, vcu7, vcu8, vcu9, vcu10, vcu11, vcu12, vcu13, vcu14, vcu15, vcu16, vcu17, vcu18, vcu19, vcu20, vcu21, vcu22, ↓vcd0, ↓vcd1, ↓vcd2, ↓vcd3, opK_some]
    refine fin_one Try.results40 ⟨?_, rfl⟩
    simp -implicitDefEqProofs (disch := omega) only [List.any_cons, List.any_nil, Nat.reduceEqDiff, List.map_cons, List.map_nil, Option.map_some, Option.map_none, List.nil_append, ↓reduceIte, vcu0, vcu1, vcu2, vcu3, vcu4, vcu5, vcu6, vcu7, vcu8, vcu9, vcu10, vcu11, vcu12, vcu13, vcu14, vcu15, vcu16, vcu17, vcu18, vcu19, vcu20, vcu21, vcu22, ↓vcd0, ↓vcd1, ↓vcd2, ↓vcd3]
  · have e : decide (lgOf z ≠ 0) = true := by simp [h]
    rw [if_neg h, e]
    obtain ⟨L, e1, e2⟩ := lgOf_ls h
    have hle := e2.le
    have hz : 0 ≤ z / 2 ∧ z / 2 ≤ 4 := by omega
    have hmul : 0 ≤ z / 2 * (lgOf z : Int) ∧ z / 2 * (lgOf z : Int) ≤ 100 := by
      rcases lgOf_cases z with ⟨q1, q2⟩ | ⟨q1, q2⟩ | ⟨q1, q2⟩ | ⟨_, _, _, q2⟩
      · subst q1; rw [q2]; decide
      · subst q1; rw [q2]; decide
      · subst q1; rw [q2]; decide
      · exact absurd q2 h
    have hlog := l3Log_at (w0 := w0) σ L _ e2
    rw [← e1] at hlog
    simp -implicitDefEqProofs (disch := omega) only [List.any_cons, List.any_nil, Nat.reduceEqDiff, List.map_cons, List.map_nil, Option.map_some, Option.map_none, List.nil_append, ↓reduceIte, vcu0, vcu1, vcu2, vcu3, vcu4, vcu5, vcu6, vcu7, vcu8, vcu9, vcu10, vcu11, vcu12, vcu13, vcu14, vcu15, vcu16, vcu17, vcu18, vcu19, vcu20, vcu21, vcu22, ↓vcd0, ↓vcd1, ↓vcd2, ↓vcd3, opK_some]
    refine hlog.mono ?_
    rintro r _ ⟨rfl, rfl⟩
    simp -implicitDefEqProofs (disch := omega) only [List.any_cons, List.any_nil, Nat.reduceEqDiff, List.map_cons, List.map_nil, Option.map_some, Option.map_none, List.nil_append, ↓reduceIte, vcu0, vcu1, vcu2, vcu3, vcu4, vcu5, vcu6, vcu7, vcu8, vcu9, vcu10, vcu11, vcu12, vcu13, vcu14, vcu15, vcu16, vcu17, vcu18, vcu19, vcu20, vcu21, vcu22, ↓vcd0, ↓vcd1, ↓vcd2, ↓vcd3, opK_some]
    refine fin_one Try.results40 ⟨?_, rfl⟩
    simp -implicitDefEqProofs (disch := omega) only [List.any_cons, List.any_nil, Nat.reduceEqDiff, List.map_cons, List.map_nil, Option.map_some, Option.map_none, List.nil_append, ↓reduceIte, vcu0, vcu1, vcu2, vcu3, vcu4, vcu5, vcu6, vcu7, vcu8, vcu9, vcu10, vcu11, vcu12, vcu13, vcu14, vcu15, vcu16, vcu17, vcu18, vcu19, vcu20, vcu21, vcu22, ↓vcd0, ↓vcd1, ↓vcd2, ↓vcd3]
end Go.Proofs.Ytgieeafdgdkkcaa
