/- Networks, and calls that collide: the program. -/
import Derived.Test.YtphacjkogompoaaCg
set_option linter.unusedSimpArgs false
set_option linter.unusedVariables false
namespace Go.Proofs.Ytphacjkogompoaa
open Go Go.Abs Go.RowKit Go.Clos
variable {w0 : World}

theorem inB_at (σ : AHeap) (n m : Int) : ACall Try.prog w0 70 [.int .i64 n, .int .i64 m] σ fun r σ' => r = .bool (decide (1 ≤ n ∧ n ≤ m)) ∧ σ' = σ := by
  refine acall_go mixed Try.func70 rfl good70 fun pr => ?_
  by_cases h : 1 ≤ n
  · simp -implicitDefEqProofs (disch := omega) only [List.any_cons, List.any_nil, Nat.reduceEqDiff, List.map_cons, List.map_nil, Option.map_some, Option.map_none, List.nil_append, ↓reduceIte, vcu, ↓vcd]
    refine fin_one Try.results70 ⟨?_, rfl⟩
    simp -implicitDefEqProofs (disch := omega) only [List.any_cons, List.any_nil, Nat.reduceEqDiff, List.map_cons, List.map_nil, Option.map_some, Option.map_none, List.nil_append, ↓reduceIte, vcu, ↓vcd]
    simp [h]
  · simp -implicitDefEqProofs (disch := omega) only [List.any_cons, List.any_nil, Nat.reduceEqDiff, List.map_cons, List.map_nil, Option.map_some, Option.map_none, List.nil_append, ↓reduceIte, vcu, ↓vcd]
    refine fin_one Try.results70 ⟨?_, rfl⟩
    simp -implicitDefEqProofs (disch := omega) only [List.any_cons, List.any_nil, Nat.reduceEqDiff, List.map_cons, List.map_nil, Option.map_some, Option.map_none, List.nil_append, ↓reduceIte, vcu, ↓vcd]
    simp [h]
theorem implSV_at (σ : AHeap) (O E M : Int) : ACall Try.prog w0 24 [.agg #[.int .i64 O, .int .i64 E, .int .i64 M]] σ fun r σ' => r = .bool (decide (SV ⟨O, E, M⟩)) ∧ σ' = σ := by
  refine acall_go mixed Try.func24 rfl good24 fun pr => ?_
  simp -implicitDefEqProofs (disch := omega) only [List.any_cons, List.any_nil, Nat.reduceEqDiff, List.map_cons, List.map_nil, Option.map_some, Option.map_none, List.nil_append, ↓reduceIte, vcu, ↓vcd]
  refine r_boxed fun b τ nb s1 e1 => ?_
  replace e1 : τ b = some ⟨[.int .i64 O, .int .i64 E, .int .i64 M], false⟩ := e1
  have lO : ld τ b (0 + 0) = some (.int .i64 O) := ld_of e1 rfl
  have lE : ld τ b (0 + 1) = some (.int .i64 E) := ld_of e1 rfl
  have lM : ld τ b (0 + 2) = some (.int .i64 M) := ld_of e1 rfl
  simp -implicitDefEqProofs (disch := omega) only [List.any_cons, List.any_nil, Nat.reduceEqDiff, List.map_cons, List.map_nil, Option.map_some, Option.map_none, List.nil_append, ↓reduceIte, vcu, ↓vcd, lO, lE, lM]
  refine (inB_at τ O 4).mono ?_
  rintro r _ ⟨rfl, rfl⟩
  rename_i τ
  by_cases h1 : 1 ≤ O ∧ O ≤ 4
  case neg =>
    have hS : ¬ SV ⟨O, E, M⟩ := fun h => h1 h.1
    rw [decide_eq_false h1, decide_eq_false hS]
    simp -implicitDefEqProofs (disch := omega) only [List.any_cons, List.any_nil, Nat.reduceEqDiff, List.map_cons, List.map_nil, Option.map_some, Option.map_none, List.nil_append, ↓reduceIte, vcu, ↓vcd, opK_some]
    refine fin_drop Try.results24 σ s1 ⟨?_, rfl⟩
    simp -implicitDefEqProofs (disch := omega) only [List.any_cons, List.any_nil, Nat.reduceEqDiff, List.map_cons, List.map_nil, Option.map_some, Option.map_none, List.nil_append, ↓reduceIte, vcu, ↓vcd]
  rw [decide_eq_true h1]
  simp -implicitDefEqProofs (disch := omega) only [List.any_cons, List.any_nil, Nat.reduceEqDiff, List.map_cons, List.map_nil, Option.map_some, Option.map_none, List.nil_append, ↓reduceIte, vcu, ↓vcd, opK_some, lO, lE, lM]
  refine (inB_at τ E 3).mono ?_
  rintro r _ ⟨rfl, rfl⟩
  rename_i τ
  by_cases h2 : 1 ≤ E ∧ E ≤ 3
  case neg =>
    have hS : ¬ SV ⟨O, E, M⟩ := fun h => h2 h.2.1
    rw [decide_eq_false h2, decide_eq_false hS]
    simp -implicitDefEqProofs (disch := omega) only [List.any_cons, List.any_nil, Nat.reduceEqDiff, List.map_cons, List.map_nil, Option.map_some, Option.map_none, List.nil_append, ↓reduceIte, vcu, ↓vcd, opK_some]
    refine fin_drop Try.results24 σ s1 ⟨?_, rfl⟩
    simp -implicitDefEqProofs (disch := omega) only [List.any_cons, List.any_nil, Nat.reduceEqDiff, List.map_cons, List.map_nil, Option.map_some, Option.map_none, List.nil_append, ↓reduceIte, vcu, ↓vcd]
  rw [decide_eq_true h2]
  simp -implicitDefEqProofs (disch := omega) only [List.any_cons, List.any_nil, Nat.reduceEqDiff, List.map_cons, List.map_nil, Option.map_some, Option.map_none, List.nil_append, ↓reduceIte, vcu, ↓vcd, opK_some, lO, lE, lM]
  refine (inB_at τ M 5).mono ?_
  rintro r _ ⟨rfl, rfl⟩
  by_cases h3 : 1 ≤ M ∧ M ≤ 5
  · have hS : SV ⟨O, E, M⟩ := ⟨h1, h2, h3⟩
    rw [decide_eq_true h3, decide_eq_true hS]
    simp -implicitDefEqProofs (disch := omega) only [List.any_cons, List.any_nil, Nat.reduceEqDiff, List.map_cons, List.map_nil, Option.map_some, Option.map_none, List.nil_append, ↓reduceIte, vcu, ↓vcd, opK_some]
    refine fin_drop Try.results24 σ s1 ⟨?_, rfl⟩
    simp -implicitDefEqProofs (disch := omega) only [List.any_cons, List.any_nil, Nat.reduceEqDiff, List.map_cons, List.map_nil, Option.map_some, Option.map_none, List.nil_append, ↓reduceIte, vcu, ↓vcd]
  · have hS : ¬ SV ⟨O, E, M⟩ := fun h => h3 h.2.2
    rw [decide_eq_false h3, decide_eq_false hS]
    simp -implicitDefEqProofs (disch := omega) only [List.any_cons, List.any_nil, Nat.reduceEqDiff, List.map_cons, List.map_nil, Option.map_some, Option.map_none, List.nil_append, ↓reduceIte, vcu, ↓vcd, opK_some]
    refine fin_drop Try.results24 σ s1 ⟨?_, rfl⟩
    simp -implicitDefEqProofs (disch := omega) only [List.any_cons, List.any_nil, Nat.reduceEqDiff, List.map_cons, List.map_nil, Option.map_some, Option.map_none, List.nil_append, ↓reduceIte, vcu, ↓vcd]
theorem implEnough_at (σ : AHeap) (O E M : Int) : ACall Try.prog w0 47 [.agg #[.int .i64 O, .int .i64 E, .int .i64 M]] σ fun r σ' => r = .bool (decide (Enough ⟨O, E, M⟩)) ∧ σ' = σ := by
  refine acall_go mixed Try.func47 rfl good47 fun pr => ?_
  simp -implicitDefEqProofs (disch := omega) only [List.any_cons, List.any_nil, Nat.reduceEqDiff, List.map_cons, List.map_nil, Option.map_some, Option.map_none, List.nil_append, ↓reduceIte, vcu, ↓vcd]
  refine r_boxed fun b τ nb s1 e1 => ?_
  replace e1 : τ b = some ⟨[.int .i64 O, .int .i64 E, .int .i64 M], false⟩ := e1
  have lE : ld τ b (0 + 1) = some (.int .i64 E) := ld_of e1 rfl
  have lM : ld τ b (0 + 2) = some (.int .i64 M) := ld_of e1 rfl
  have l3 : lds τ b 0 3 = some [.int .i64 O, .int .i64 E, .int .i64 M] := lds_three (ld_of e1 rfl) (ld_of e1 rfl) (ld_of e1 rfl)
  simp -implicitDefEqProofs (disch := omega) only [List.any_cons, List.any_nil, Nat.reduceEqDiff, List.map_cons, List.map_nil, Option.map_some, Option.map_none, List.nil_append, ↓reduceIte, vcu, ↓vcd, l3, co24]
  refine (implSV_at τ O E M).mono ?_
  rintro r _ ⟨rfl, rfl⟩
  rename_i τ
  by_cases hS : SV ⟨O, E, M⟩
  case neg =>
    have hE : ¬ Enough ⟨O, E, M⟩ := fun h => hS h.1
    rw [decide_eq_false hS, decide_eq_false hE]
    simp -implicitDefEqProofs (disch := omega) only [List.any_cons, List.any_nil, Nat.reduceEqDiff, List.map_cons, List.map_nil, Option.map_some, Option.map_none, List.nil_append, ↓reduceIte, vcu, ↓vcd, opK_some]
    refine fin_drop Try.results47 σ s1 ⟨?_, rfl⟩
    simp -implicitDefEqProofs (disch := omega) only [List.any_cons, List.any_nil, Nat.reduceEqDiff, List.map_cons, List.map_nil, Option.map_some, Option.map_none, List.nil_append, ↓reduceIte, vcu, ↓vcd]
  rw [decide_eq_true hS]
  have hd : decide (Enough ⟨O, E, M⟩) = decide (E ≤ M) := by
    by_cases h : E ≤ M
    · rw [decide_eq_true h, decide_eq_true (show Enough ⟨O, E, M⟩ from ⟨hS, h⟩)]
    · rw [decide_eq_false h, decide_eq_false (fun hE : Enough ⟨O, E, M⟩ => h hE.2)]
  rw [hd]
  simp -implicitDefEqProofs (disch := omega) only [List.any_cons, List.any_nil, Nat.reduceEqDiff, List.map_cons, List.map_nil, Option.map_some, Option.map_none, List.nil_append, ↓reduceIte, vcu, ↓vcd, opK_some, lE, lM]
  refine fin_drop Try.results47 σ s1 ⟨?_, rfl⟩
  simp -implicitDefEqProofs (disch := omega) only [List.any_cons, List.any_nil, Nat.reduceEqDiff, List.map_cons, List.map_nil, Option.map_some, Option.map_none, List.nil_append, ↓reduceIte, vcu, ↓vcd]
theorem strict_dec {O E M : Int} (hS : SV ⟨O, E, M⟩) : decide (Strict ⟨O, E, M⟩) = decide (2 * E - 1 ≤ M) := by
  by_cases h : 2 * E - 1 ≤ M
  · rw [decide_eq_true h, decide_eq_true (show Strict ⟨O, E, M⟩ from ⟨hS, h⟩)]
  · rw [decide_eq_false h, decide_eq_false (fun hE : Strict ⟨O, E, M⟩ => h hE.2)]
theorem implStrict_at (σ : AHeap) (O E M : Int) : ACall Try.prog w0 35 [.agg #[.int .i64 O, .int .i64 E, .int .i64 M]] σ fun r σ' => r = .bool (decide (Strict ⟨O, E, M⟩)) ∧ σ' = σ := by
  refine acall_go mixed Try.func35 rfl good35 fun pr => ?_
  simp -implicitDefEqProofs (disch := omega) only [List.any_cons, List.any_nil, Nat.reduceEqDiff, List.map_cons, List.map_nil, Option.map_some, Option.map_none, List.nil_append, ↓reduceIte, vcu, ↓vcd]
  refine r_boxed fun b τ nb s1 e1 => ?_
  replace e1 : τ b = some ⟨[.int .i64 O, .int .i64 E, .int .i64 M], false⟩ := e1
  have lE : ld τ b (0 + 1) = some (.int .i64 E) := ld_of e1 rfl
  have lM : ld τ b (0 + 2) = some (.int .i64 M) := ld_of e1 rfl
  have l3 : lds τ b 0 3 = some [.int .i64 O, .int .i64 E, .int .i64 M] := lds_three (ld_of e1 rfl) (ld_of e1 rfl) (ld_of e1 rfl)
  simp -implicitDefEqProofs (disch := omega) only [List.any_cons, List.any_nil, Nat.reduceEqDiff, List.map_cons, List.map_nil, Option.map_some, Option.map_none, List.nil_append, ↓reduceIte, vcu, ↓vcd, l3, co24]
  refine (implSV_at τ O E M).mono ?_
  rintro r _ ⟨rfl, rfl⟩
  rename_i τ
  by_cases hS : SV ⟨O, E, M⟩
  case neg =>
    have hE : ¬ Strict ⟨O, E, M⟩ := fun h => hS h.1
    rw [decide_eq_false hS, decide_eq_false hE]
    simp -implicitDefEqProofs (disch := omega) only [List.any_cons, List.any_nil, Nat.reduceEqDiff, List.map_cons, List.map_nil, Option.map_some, Option.map_none, List.nil_append, ↓reduceIte, vcu, ↓vcd, opK_some]
    refine fin_drop Try.results35 σ s1 ⟨?_, rfl⟩
    simp -implicitDefEqProofs (disch := omega) only [List.any_cons, List.any_nil, Nat.reduceEqDiff, List.map_cons, List.map_nil, Option.map_some, Option.map_none, List.nil_append, ↓reduceIte, vcu, ↓vcd]
  rw [decide_eq_true hS, strict_dec hS]
  obtain ⟨-, ⟨hE1, hE2⟩, -⟩ := hS
  dsimp only at hE1 hE2
  simp -implicitDefEqProofs (disch := omega) only [List.any_cons, List.any_nil, Nat.reduceEqDiff, List.map_cons, List.map_nil, Option.map_some, Option.map_none, List.nil_append, ↓reduceIte, vcu, ↓vcd, opK_some, lE, lM]
  refine fin_drop Try.results35 σ s1 ⟨?_, rfl⟩
  simp -implicitDefEqProofs (disch := omega) only [List.any_cons, List.any_nil, Nat.reduceEqDiff, List.map_cons, List.map_nil, Option.map_some, Option.map_none, List.nil_append, ↓reduceIte, vcu, ↓vcd]
theorem specStrict_at (σ : AHeap) (O E M : Int) : ACall Try.prog w0 46 [.agg #[.int .i64 O, .int .i64 E, .int .i64 M]] σ fun r σ' => r = .bool (decide (Strict ⟨O, E, M⟩)) ∧ σ' = σ := by
  refine acall_go mixed Try.func46 rfl good46 fun pr => ?_
  simp -implicitDefEqProofs (disch := omega) only [List.any_cons, List.any_nil, Nat.reduceEqDiff, List.map_cons, List.map_nil, Option.map_some, Option.map_none, List.nil_append, ↓reduceIte, vcu, ↓vcd]
  refine r_boxed fun b τ nb s1 e1 => ?_
  replace e1 : τ b = some ⟨[.int .i64 O, .int .i64 E, .int .i64 M], false⟩ := e1
  have lE : ld τ b (0 + 1) = some (.int .i64 E) := ld_of e1 rfl
  have lM : ld τ b (0 + 2) = some (.int .i64 M) := ld_of e1 rfl
  have l3 : lds τ b 0 3 = some [.int .i64 O, .int .i64 E, .int .i64 M] := lds_three (ld_of e1 rfl) (ld_of e1 rfl) (ld_of e1 rfl)
  simp -implicitDefEqProofs (disch := omega) only [List.any_cons, List.any_nil, Nat.reduceEqDiff, List.map_cons, List.map_nil, Option.map_some, Option.map_none, List.nil_append, ↓reduceIte, vcu, ↓vcd, l3, co24]
  refine (specSV_at τ O E M).mono ?_
  rintro r _ ⟨rfl, rfl⟩
  rename_i τ
  by_cases hS : SV ⟨O, E, M⟩
  case neg =>
    have hE : ¬ Strict ⟨O, E, M⟩ := fun h => hS h.1
    rw [decide_eq_false hS, decide_eq_false hE]
    simp -implicitDefEqProofs (disch := omega) only [List.any_cons, List.any_nil, Nat.reduceEqDiff, List.map_cons, List.map_nil, Option.map_some, Option.map_none, List.nil_append, ↓reduceIte, vcu, ↓vcd, opK_some]
    refine fin_drop Try.results46 σ s1 ⟨?_, rfl⟩
    simp -implicitDefEqProofs (disch := omega) only [List.any_cons, List.any_nil, Nat.reduceEqDiff, List.map_cons, List.map_nil, Option.map_some, Option.map_none, List.nil_append, ↓reduceIte, vcu, ↓vcd]
  rw [decide_eq_true hS, strict_dec hS]
  obtain ⟨-, ⟨hE1, hE2⟩, -⟩ := hS
  dsimp only at hE1 hE2
  simp -implicitDefEqProofs (disch := omega) only [List.any_cons, List.any_nil, Nat.reduceEqDiff, List.map_cons, List.map_nil, Option.map_some, Option.map_none, List.nil_append, ↓reduceIte, vcu, ↓vcd, opK_some, lE, lM]
  refine fin_drop Try.results46 σ s1 ⟨?_, rfl⟩
  simp -implicitDefEqProofs (disch := omega) only [List.any_cons, List.any_nil, Nat.reduceEqDiff, List.map_cons, List.map_nil, Option.map_some, Option.map_none, List.nil_append, ↓reduceIte, vcu, ↓vcd]
theorem hasLine_at (σ : AHeap) (O E M x : Int) (hS : SV ⟨O, E, M⟩) : ACall Try.prog w0 95 [.agg #[.int .i64 O, .int .i64 E, .int .i64 M], .int .i64 x] σ fun r σ' => r = .bool (decide (0 ≤ x ∧ x ≤ O * E - 1)) ∧ σ' = σ := by
  have hL := hS.lines
  dsimp only at hL
  refine acall_go mixed Try.func95 rfl good95 fun pr => ?_
  simp -implicitDefEqProofs (disch := omega) only [List.any_cons, List.any_nil, Nat.reduceEqDiff, List.map_cons, List.map_nil, Option.map_some, Option.map_none, List.nil_append, ↓reduceIte, vcu, ↓vcd]
  refine r_boxed fun b τ nb s1 e1 => ?_
  replace e1 : τ b = some ⟨[.int .i64 O, .int .i64 E, .int .i64 M], false⟩ := e1
  have lO : ld τ b (0 + 0) = some (.int .i64 O) := ld_of e1 rfl
  have lE : ld τ b (0 + 1) = some (.int .i64 E) := ld_of e1 rfl
  by_cases h0 : 0 ≤ x
  · have hd : decide (0 ≤ x ∧ x ≤ O * E - 1) = decide (x < O * E) := decide_eq_decide.2 ⟨fun h => by omega, fun h => ⟨h0, by omega⟩⟩
    rw [hd]
    simp -implicitDefEqProofs (disch := omega) only [List.any_cons, List.any_nil, Nat.reduceEqDiff, List.map_cons, List.map_nil, Option.map_some, Option.map_none, List.nil_append, ↓reduceIte, vcu, ↓vcd, lO, lE]
    refine fin_drop Try.results95 σ s1 ⟨?_, rfl⟩
    simp -implicitDefEqProofs (disch := omega) only [List.any_cons, List.any_nil, Nat.reduceEqDiff, List.map_cons, List.map_nil, Option.map_some, Option.map_none, List.nil_append, ↓reduceIte, vcu, ↓vcd]
  · rw [decide_eq_false (fun h : 0 ≤ x ∧ x ≤ O * E - 1 => h0 h.1)]
    simp -implicitDefEqProofs (disch := omega) only [List.any_cons, List.any_nil, Nat.reduceEqDiff, List.map_cons, List.map_nil, Option.map_some, Option.map_none, List.nil_append, ↓reduceIte, vcu, ↓vcd, lO, lE]
    refine fin_drop Try.results95 σ s1 ⟨?_, rfl⟩
    simp -implicitDefEqProofs (disch := omega) only [List.any_cons, List.any_nil, Nat.reduceEqDiff, List.map_cons, List.map_nil, Option.map_some, Option.map_none, List.nil_append, ↓reduceIte, vcu, ↓vcd]
theorem collide_at (σ : AHeap) (s : Sp) (c d : Cl) (hE : 1 ≤ s.E) (hc : Nng c) (hd : Nng d) :
    ACall Try.prog w0 98 [.agg #[.int .i64 s.O, .int .i64 s.E, .int .i64 s.M], .agg #[.int .i64 c.i, .int .i64 c.o, .int .i64 c.v], .agg #[.int .i64 d.i, .int .i64 d.o, .int .i64 d.v]] σ fun r σ' => r = .bool (decide (Hit s c d)) ∧ σ' = σ := by
  obtain ⟨O, E, M⟩ := s
  obtain ⟨ci, co, cv⟩ := c
  obtain ⟨di, do', dv⟩ := d
  obtain ⟨⟨c1, c2⟩, c3, c4⟩ := hc
  obtain ⟨⟨d1, d2⟩, d3, d4⟩ := hd
  dsimp only at *
  refine acall_go mixed Try.func98 rfl good98 fun pr => ?_
  simp -implicitDefEqProofs (disch := omega) only [List.any_cons, List.any_nil, Nat.reduceEqDiff, List.map_cons, List.map_nil, Option.map_some, Option.map_none, List.nil_append, ↓reduceIte, vcu, ↓vcd]
  refine r_boxed fun b τ1 n1 s1 e1 => ?_
  replace e1 : τ1 b = some ⟨[.int .i64 O, .int .i64 E, .int .i64 M], false⟩ := e1
  refine r_boxed fun g τ2 n2 s2 e2 => ?_
  replace e2 : τ2 g = some ⟨[.int .i64 ci, .int .i64 co, .int .i64 cv], false⟩ := e2
  refine r_boxed fun g2 τ3 n3 s3 e3 => ?_
  replace e3 : τ3 g2 = some ⟨[.int .i64 di, .int .i64 do', .int .i64 dv], false⟩ := e3
  have f2 := s3 _ _ e2
  have f1 := s3 _ _ (s2 _ _ e1)
  have ki : ld τ3 g (0 + 0) = some (.int .i64 ci) := ld_of f2 rfl
  have ko : ld τ3 g (0 + 1) = some (.int .i64 co) := ld_of f2 rfl
  have kv : ld τ3 g (0 + 2) = some (.int .i64 cv) := ld_of f2 rfl
  have ji : ld τ3 g2 (0 + 0) = some (.int .i64 di) := ld_of e3 rfl
  have jo : ld τ3 g2 (0 + 1) = some (.int .i64 do') := ld_of e3 rfl
  have jv : ld τ3 g2 (0 + 2) = some (.int .i64 dv) := ld_of e3 rfl
  have lE : ld τ3 b (0 + 1) = some (.int .i64 E) := ld_of f1 rfl
  have s13 := s1.trans (s2.trans s3)
  by_cases q1 : ci = di
  · rw [decide_eq_true (show Hit ⟨O, E, M⟩ ⟨ci, co, cv⟩ ⟨di, do', dv⟩ from .inl q1)]
    simp -implicitDefEqProofs (disch := omega) only [List.any_cons, List.any_nil, Nat.reduceEqDiff, List.map_cons, List.map_nil, Option.map_some, Option.map_none, List.nil_append, ↓reduceIte, vcu, ↓vcd, ki, ko, kv, ji, jo, jv, lE]
    refine fin_drop Try.results98 σ s13 ⟨?_, rfl⟩
    simp -implicitDefEqProofs (disch := omega) only [List.any_cons, List.any_nil, Nat.reduceEqDiff, List.map_cons, List.map_nil, Option.map_some, Option.map_none, List.nil_append, ↓reduceIte, vcu, ↓vcd]
  by_cases q2 : co = do'
  · rw [decide_eq_true (show Hit ⟨O, E, M⟩ ⟨ci, co, cv⟩ ⟨di, do', dv⟩ from .inr (.inl q2))]
    simp -implicitDefEqProofs (disch := omega) only [List.any_cons, List.any_nil, Nat.reduceEqDiff, List.map_cons, List.map_nil, Option.map_some, Option.map_none, List.nil_append, ↓reduceIte, vcu, ↓vcd, ki, ko, kv, ji, jo, jv, lE]
    refine fin_drop Try.results98 σ s13 ⟨?_, rfl⟩
    simp -implicitDefEqProofs (disch := omega) only [List.any_cons, List.any_nil, Nat.reduceEqDiff, List.map_cons, List.map_nil, Option.map_some, Option.map_none, List.nil_append, ↓reduceIte, vcu, ↓vcd]
  by_cases q3 : cv = dv
  case neg =>
    rw [decide_eq_false (fun hh : Hit ⟨O, E, M⟩ ⟨ci, co, cv⟩ ⟨di, do', dv⟩ => hh.elim q1 fun hh => hh.elim q2 fun hh => q3 hh.1)]
    simp -implicitDefEqProofs (disch := omega) only [List.any_cons, List.any_nil, Nat.reduceEqDiff, List.map_cons, List.map_nil, Option.map_some, Option.map_none, List.nil_append, ↓reduceIte, vcu, ↓vcd, ki, ko, kv, ji, jo, jv, lE]
    refine fin_drop Try.results98 σ s13 ⟨?_, rfl⟩
    simp -implicitDefEqProofs (disch := omega) only [List.any_cons, List.any_nil, Nat.reduceEqDiff, List.map_cons, List.map_nil, Option.map_some, Option.map_none, List.nil_append, ↓reduceIte, vcu, ↓vcd]
  by_cases q4 : ci / E = di / E
  · rw [decide_eq_true (show Hit ⟨O, E, M⟩ ⟨ci, co, cv⟩ ⟨di, do', dv⟩ from .inr (.inr ⟨q3, .inl q4⟩))]
    simp -implicitDefEqProofs (disch := omega) only [List.any_cons, List.any_nil, Nat.reduceEqDiff, List.map_cons, List.map_nil, Option.map_some, Option.map_none, List.nil_append, ↓reduceIte, vcu, ↓vcd, ki, ko, kv, ji, jo, jv, lE]
    refine fin_drop Try.results98 σ s13 ⟨?_, rfl⟩
    simp -implicitDefEqProofs (disch := omega) only [List.any_cons, List.any_nil, Nat.reduceEqDiff, List.map_cons, List.map_nil, Option.map_some, Option.map_none, List.nil_append, ↓reduceIte, vcu, ↓vcd]
  by_cases q5 : co / E = do' / E
  · rw [decide_eq_true (show Hit ⟨O, E, M⟩ ⟨ci, co, cv⟩ ⟨di, do', dv⟩ from .inr (.inr ⟨q3, .inr q5⟩))]
    simp -implicitDefEqProofs (disch := omega) only [List.any_cons, List.any_nil, Nat.reduceEqDiff, List.map_cons, List.map_nil, Option.map_some, Option.map_none, List.nil_append, ↓reduceIte, vcu, ↓vcd, ki, ko, kv, ji, jo, jv, lE]
    refine fin_drop Try.results98 σ s13 ⟨?_, rfl⟩
    simp -implicitDefEqProofs (disch := omega) only [List.any_cons, List.any_nil, Nat.reduceEqDiff, List.map_cons, List.map_nil, Option.map_some, Option.map_none, List.nil_append, ↓reduceIte, vcu, ↓vcd]
    rw [decide_eq_true q5]
  · rw [decide_eq_false (fun hh : Hit ⟨O, E, M⟩ ⟨ci, co, cv⟩ ⟨di, do', dv⟩ => hh.elim q1 fun hh => hh.elim q2 fun hh => hh.2.elim q4 q5)]
    simp -implicitDefEqProofs (disch := omega) only [List.any_cons, List.any_nil, Nat.reduceEqDiff, List.map_cons, List.map_nil, Option.map_some, Option.map_none, List.nil_append, ↓reduceIte, vcu, ↓vcd, ki, ko, kv, ji, jo, jv, lE]
    refine fin_drop Try.results98 σ s13 ⟨?_, rfl⟩
    simp -implicitDefEqProofs (disch := omega) only [List.any_cons, List.any_nil, Nat.reduceEqDiff, List.map_cons, List.map_nil, Option.map_some, Option.map_none, List.nil_append, ↓reduceIte, vcu, ↓vcd]
    rw [decide_eq_false q5]
end Go.Proofs.Ytphacjkogompoaa
