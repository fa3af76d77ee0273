/- ShapeValid, Enough and CallsValid of the reference. -/
import Derived.Test.YtphacjkogompoaaCd
import Derived.Test.YtphacjkogompoaaCf
set_option linter.unusedSimpArgs false
set_option linter.unusedVariables false
namespace Go.Proofs.Ytphacjkogompoaa
open Go Go.Abs Go.RowKit Go.Clos
variable {w0 : World}

def shp (s : Sp) : Value := .agg #[.int .i64 s.O, .int .i64 s.E, .int .i64 s.M]
theorem specSV_at (σ : AHeap) (O E M : Int) : ACall Try.prog w0 25 [.agg #[.int .i64 O, .int .i64 E, .int .i64 M]] σ fun r σ' => r = .bool (decide (SV ⟨O, E, M⟩)) ∧ σ' = σ := by
  refine acall_go mixed Try.func25 rfl good25 fun pr => ?_
  simp -implicitDefEqProofs (disch := omega) only [List.any_cons, List.any_nil, Nat.reduceEqDiff, List.map_cons, List.map_nil, Option.map_some, Option.map_none, List.nil_append, ↓reduceIte, vcu, ↓vcd]
  refine r_boxed fun b τ nb s1 e1 => ?_
  replace e1 : τ b = some ⟨[.int .i64 O, .int .i64 E, .int .i64 M], false⟩ := e1
  have lO : ld τ b (0 + 0) = some (.int .i64 O) := ld_of e1 rfl
  have lE : ld τ b (0 + 1) = some (.int .i64 E) := ld_of e1 rfl
  have lM : ld τ b (0 + 2) = some (.int .i64 M) := ld_of e1 rfl
  simp -implicitDefEqProofs (disch := omega) only [List.any_cons, List.any_nil, Nat.reduceEqDiff, List.map_cons, List.map_nil, Option.map_some, Option.map_none, List.nil_append, ↓reduceIte, vcu, ↓vcd, lO, lE, lM]
  refine (in_calls τ O 1 4).mono ?_
  rintro r _ ⟨rfl, rfl⟩
  rename_i τ
  by_cases h1 : 1 ≤ O ∧ O ≤ 4
  case neg =>
    have hS : ¬ SV ⟨O, E, M⟩ := fun h => h1 h.1
    rw [decide_eq_false h1, decide_eq_false hS]
    simp -implicitDefEqProofs (disch := omega) only [List.any_cons, List.any_nil, Nat.reduceEqDiff, List.map_cons, List.map_nil, Option.map_some, Option.map_none, List.nil_append, ↓reduceIte, vcu, ↓vcd, opK_some]
    refine fin_drop Try.results25 σ s1 ⟨?_, rfl⟩
    simp -implicitDefEqProofs (disch := omega) only [List.any_cons, List.any_nil, Nat.reduceEqDiff, List.map_cons, List.map_nil, Option.map_some, Option.map_none, List.nil_append, ↓reduceIte, vcu, ↓vcd]
  rw [decide_eq_true h1]
  simp -implicitDefEqProofs (disch := omega) only [List.any_cons, List.any_nil, Nat.reduceEqDiff, List.map_cons, List.map_nil, Option.map_some, Option.map_none, List.nil_append, ↓reduceIte, vcu, ↓vcd, opK_some, lO, lE, lM]
  refine (in_calls τ E 1 3).mono ?_
  rintro r _ ⟨rfl, rfl⟩
  rename_i τ
  by_cases h2 : 1 ≤ E ∧ E ≤ 3
  case neg =>
    have hS : ¬ SV ⟨O, E, M⟩ := fun h => h2 h.2.1
    rw [decide_eq_false h2, decide_eq_false hS]
    simp -implicitDefEqProofs (disch := omega) only [List.any_cons, List.any_nil, Nat.reduceEqDiff, List.map_cons, List.map_nil, Option.map_some, Option.map_none, List.nil_append, ↓reduceIte, vcu, ↓vcd, opK_some]
    refine fin_drop Try.results25 σ s1 ⟨?_, rfl⟩
    simp -implicitDefEqProofs (disch := omega) only [List.any_cons, List.any_nil, Nat.reduceEqDiff, List.map_cons, List.map_nil, Option.map_some, Option.map_none, List.nil_append, ↓reduceIte, vcu, ↓vcd]
  rw [decide_eq_true h2]
  simp -implicitDefEqProofs (disch := omega) only [List.any_cons, List.any_nil, Nat.reduceEqDiff, List.map_cons, List.map_nil, Option.map_some, Option.map_none, List.nil_append, ↓reduceIte, vcu, ↓vcd, opK_some, lO, lE, lM]
  refine (in_calls τ M 1 5).mono ?_
  rintro r _ ⟨rfl, rfl⟩
  by_cases h3 : 1 ≤ M ∧ M ≤ 5
  · have hS : SV ⟨O, E, M⟩ := ⟨h1, h2, h3⟩
    rw [decide_eq_true h3, decide_eq_true hS]
    simp -implicitDefEqProofs (disch := omega) only [List.any_cons, List.any_nil, Nat.reduceEqDiff, List.map_cons, List.map_nil, Option.map_some, Option.map_none, List.nil_append, ↓reduceIte, vcu, ↓vcd, opK_some]
    refine fin_drop Try.results25 σ s1 ⟨?_, rfl⟩
    simp -implicitDefEqProofs (disch := omega) only [List.any_cons, List.any_nil, Nat.reduceEqDiff, List.map_cons, List.map_nil, Option.map_some, Option.map_none, List.nil_append, ↓reduceIte, vcu, ↓vcd]
  · have hS : ¬ SV ⟨O, E, M⟩ := fun h => h3 h.2.2
    rw [decide_eq_false h3, decide_eq_false hS]
    simp -implicitDefEqProofs (disch := omega) only [List.any_cons, List.any_nil, Nat.reduceEqDiff, List.map_cons, List.map_nil, Option.map_some, Option.map_none, List.nil_append, ↓reduceIte, vcu, ↓vcd, opK_some]
    refine fin_drop Try.results25 σ s1 ⟨?_, rfl⟩
    simp -implicitDefEqProofs (disch := omega) only [List.any_cons, List.any_nil, Nat.reduceEqDiff, List.map_cons, List.map_nil, Option.map_some, Option.map_none, List.nil_append, ↓reduceIte, vcu, ↓vcd]
theorem specLines_at (σ : AHeap) (O E M : Int) (hS : SV ⟨O, E, M⟩) : ACall Try.prog w0 75 [.agg #[.int .i64 O, .int .i64 E, .int .i64 M]] σ fun r σ' => r = .int .i64 (O * E) ∧ σ' = σ := by
  have hL := hS.lines
  dsimp only at hL
  refine acall_go mixed Try.func75 rfl good75 fun pr => ?_
  simp -implicitDefEqProofs (disch := omega) only [List.any_cons, List.any_nil, Nat.reduceEqDiff, List.map_cons, List.map_nil, Option.map_some, Option.map_none, List.nil_append, ↓reduceIte, vcu, ↓vcd]
  refine r_boxed fun b τ nb s1 e1 => ?_
  replace e1 : τ b = some ⟨[.int .i64 O, .int .i64 E, .int .i64 M], false⟩ := e1
  have lO : ld τ b (0 + 0) = some (.int .i64 O) := ld_of e1 rfl
  have lE : ld τ b (0 + 1) = some (.int .i64 E) := ld_of e1 rfl
  simp -implicitDefEqProofs (disch := omega) only [List.any_cons, List.any_nil, Nat.reduceEqDiff, List.map_cons, List.map_nil, Option.map_some, Option.map_none, List.nil_append, ↓reduceIte, vcu, ↓vcd, lO, lE]
  refine fin_drop Try.results75 σ s1 ⟨?_, rfl⟩
  simp -implicitDefEqProofs (disch := omega) only [List.any_cons, List.any_nil, Nat.reduceEqDiff, List.map_cons, List.map_nil, Option.map_some, Option.map_none, List.nil_append, ↓reduceIte, vcu, ↓vcd]
theorem specEnough_at (σ : AHeap) (O E M : Int) : ACall Try.prog w0 49 [.agg #[.int .i64 O, .int .i64 E, .int .i64 M]] σ fun r σ' => r = .bool (decide (Enough ⟨O, E, M⟩)) ∧ σ' = σ := by
  refine acall_go mixed Try.func49 rfl good49 fun pr => ?_
  simp -implicitDefEqProofs (disch := omega) only [List.any_cons, List.any_nil, Nat.reduceEqDiff, List.map_cons, List.map_nil, Option.map_some, Option.map_none, List.nil_append, ↓reduceIte, vcu, ↓vcd]
  refine r_boxed fun b τ nb s1 e1 => ?_
  replace e1 : τ b = some ⟨[.int .i64 O, .int .i64 E, .int .i64 M], false⟩ := e1
  have lE : ld τ b (0 + 1) = some (.int .i64 E) := ld_of e1 rfl
  have lM : ld τ b (0 + 2) = some (.int .i64 M) := ld_of e1 rfl
  have l3 : lds τ b 0 3 = some [.int .i64 O, .int .i64 E, .int .i64 M] := lds_three (ld_of e1 rfl) (ld_of e1 rfl) (ld_of e1 rfl)
  simp -implicitDefEqProofs (disch := omega) only [List.any_cons, List.any_nil, Nat.reduceEqDiff, List.map_cons, List.map_nil, Option.map_some, Option.map_none, List.nil_append, ↓reduceIte, vcu, ↓vcd, l3, co24]
  refine (specSV_at τ O E M).mono ?_
  rintro r _ ⟨rfl, rfl⟩
  rename_i τ
  by_cases hS : SV ⟨O, E, M⟩
  case neg =>
    have hE : ¬ Enough ⟨O, E, M⟩ := fun h => hS h.1
    rw [decide_eq_false hS, decide_eq_false hE]
    simp -implicitDefEqProofs (disch := omega) only [List.any_cons, List.any_nil, Nat.reduceEqDiff, List.map_cons, List.map_nil, Option.map_some, Option.map_none, List.nil_append, ↓reduceIte, vcu, ↓vcd, opK_some]
    refine fin_drop Try.results49 σ s1 ⟨?_, rfl⟩
    simp -implicitDefEqProofs (disch := omega) only [List.any_cons, List.any_nil, Nat.reduceEqDiff, List.map_cons, List.map_nil, Option.map_some, Option.map_none, List.nil_append, ↓reduceIte, vcu, ↓vcd]
  rw [decide_eq_true hS]
  have hd : decide (Enough ⟨O, E, M⟩) = decide (E ≤ M) := by
    by_cases h : E ≤ M
    · rw [decide_eq_true h, decide_eq_true (show Enough ⟨O, E, M⟩ from ⟨hS, h⟩)]
    · rw [decide_eq_false h, decide_eq_false (fun hE : Enough ⟨O, E, M⟩ => h hE.2)]
  rw [hd]
  simp -implicitDefEqProofs (disch := omega) only [List.any_cons, List.any_nil, Nat.reduceEqDiff, List.map_cons, List.map_nil, Option.map_some, Option.map_none, List.nil_append, ↓reduceIte, vcu, ↓vcd, opK_some, lE, lM]
  refine fin_drop Try.results49 σ s1 ⟨?_, rfl⟩
  simp -implicitDefEqProofs (disch := omega) only [List.any_cons, List.any_nil, Nat.reduceEqDiff, List.map_cons, List.map_nil, Option.map_some, Option.map_none, List.nil_append, ↓reduceIte, vcu, ↓vcd]

theorem specCV_at (σ : AHeap) (O E M : Int) (h o : Nat) (cs : List Cl) (hv : TrisAt σ h o cs) (hl : cs.length ≤ 1048576) :
    ACall Try.prog w0 29 [.agg #[.int .i64 O, .int .i64 E, .int .i64 M], .slice (some ⟨h, o, none⟩) cs.length 3] σ fun r σ' => r = .bool (decide (CV ⟨O, E, M⟩ cs)) ∧ σ' = σ := by
  refine acall_go mixed Try.func29 rfl good29 fun pr => ?_
  simp -implicitDefEqProofs (disch := omega) only [List.any_cons, List.any_nil, Nat.reduceEqDiff, List.map_cons, List.map_nil, Option.map_some, Option.map_none, List.nil_append, ↓reduceIte, vcu, ↓vcd]
  refine r_boxed fun b τ nb s1 e1 => ?_
  replace e1 : τ b = some ⟨[.int .i64 O, .int .i64 E, .int .i64 M], false⟩ := e1
  have l3 : lds τ b 0 3 = some [.int .i64 O, .int .i64 E, .int .i64 M] := lds_three (ld_of e1 rfl) (ld_of e1 rfl) (ld_of e1 rfl)
  simp -implicitDefEqProofs (disch := omega) only [List.any_cons, List.any_nil, Nat.reduceEqDiff, List.map_cons, List.map_nil, Option.map_some, Option.map_none, List.nil_append, ↓reduceIte, vcu, ↓vcd, l3, co24]
  refine (specSV_at τ O E M).mono ?_
  rintro r _ ⟨rfl, rfl⟩
  rename_i τ
  by_cases hS : SV ⟨O, E, M⟩
  case neg =>
    rw [decide_eq_false hS, decide_eq_false (fun hC : CV ⟨O, E, M⟩ cs => hS hC.1)]
    simp -implicitDefEqProofs (disch := omega) only [List.any_cons, List.any_nil, Nat.reduceEqDiff, List.map_cons, List.map_nil, Option.map_some, Option.map_none, List.nil_append, ↓reduceIte, vcu, ↓vcd, opK_some, Bool.not_false]
    refine fin_drop Try.results29 σ s1 ⟨?_, rfl⟩
    simp -implicitDefEqProofs (disch := omega) only [List.any_cons, List.any_nil, Nat.reduceEqDiff, List.map_cons, List.map_nil, Option.map_some, Option.map_none, List.nil_append, ↓reduceIte, vcu, ↓vcd]
  rw [decide_eq_true hS]
  have hL := hS.lines
  have hS' := hS
  obtain ⟨-, ⟨hE1, hE2⟩, hM1, hM2⟩ := hS'
  dsimp only at hL hE1 hE2 hM1 hM2
  simp -implicitDefEqProofs (disch := omega) only [List.any_cons, List.any_nil, Nat.reduceEqDiff, List.map_cons, List.map_nil, Option.map_some, Option.map_none, List.nil_append, ↓reduceIte, vcu, ↓vcd, opK_some, Bool.not_true]
  refine vc_loop_c mixed (by kernel_rfl) [1, 2] (fun m a τ' => ∃ k : Nat, m + k = cs.length ∧ a 5 = .int .i64 k ∧ Sub τ τ' ∧ CV ⟨O, E, M⟩ (cs.take k)) cs.length ⟨0, by simp, rfl, Sub.refl _, by simpa using CV_nil.2 hS⟩ ?_
  rintro m a τ1 hc ⟨k, hk, h5, hs, hC⟩
  simp -implicitDefEqProofs (disch := omega) only [List.any_cons, List.any_nil, Nat.reduceEqDiff, List.map_cons, List.map_nil, Option.map_some, Option.map_none, List.nil_append, ↓reduceIte, vcu, ↓vcd] at hc
  obtain ⟨h1, h2, -⟩ := hc
  by_cases hlt : k < cs.length
  case neg =>
    obtain rfl : k = cs.length := by omega
    rw [List.take_length] at hC
    rw [decide_eq_true hC]
    simp -implicitDefEqProofs (disch := omega) only [List.any_cons, List.any_nil, Nat.reduceEqDiff, List.map_cons, List.map_nil, Option.map_some, Option.map_none, List.nil_append, ↓reduceIte, vcu, ↓vcd, h1, h2, h5]
    refine fin_drop Try.results29 σ (s1.trans hs) ⟨?_, rfl⟩
    simp -implicitDefEqProofs (disch := omega) only [List.any_cons, List.any_nil, Nat.reduceEqDiff, List.map_cons, List.map_nil, Option.map_some, Option.map_none, List.nil_append, ↓reduceIte, vcu, ↓vcd]
  have hx := ((hv.sub s1).sub hs).all hlt
  have hgk : cs.getD k cl0 = gc cs k := rfl
  have htk := CV_take (s := ⟨O, E, M⟩) hlt
  have bad : ¬ (Rg ⟨O, E, M⟩ (gc cs k) ∧ ∀ d ∈ cs.take k, ¬ Hit ⟨O, E, M⟩ (gc cs k) d) → ¬ CV ⟨O, E, M⟩ cs := fun hn hC => hn (htk.1 (hC.take (k + 1))).2
  rw [hgk] at hx
  generalize gc cs k = c at hx htk bad
  obtain ⟨ci, co, cv⟩ := c
  dsimp only at hx
  simp -implicitDefEqProofs (disch := omega) only [List.any_cons, List.any_nil, Nat.reduceEqDiff, List.map_cons, List.map_nil, Option.map_some, Option.map_none, List.nil_append, ↓reduceIte, vcu, ↓vcd, h1, h2, h5, hx, co34]
  refine r_local (cs := #[.int .i64 ci, .int .i64 co, .int .i64 cv]) ze34 (by decide) (by simp -implicitDefEqProofs (disch := omega) only [List.any_cons, List.any_nil, Nat.reduceEqDiff, List.map_cons, List.map_nil, Option.map_some, Option.map_none, List.nil_append, ↓reduceIte, vcu, ↓vcd]) (by rw [co34]; rfl) rfl rfl (Nat.zero_lt_succ _) fun g τ2 ng s2 e2 => ?_
  replace e2 : τ2 g = some ⟨[.int .i64 ci, .int .i64 co, .int .i64 cv], false⟩ := e2
  have li : ld τ2 g (0 + 0) = some (.int .i64 ci) := ld_of e2 rfl
  have lo : ld τ2 g (0 + 1) = some (.int .i64 co) := ld_of e2 rfl
  have lv : ld τ2 g (0 + 2) = some (.int .i64 cv) := ld_of e2 rfl
  have hs2 := hs.trans s2
  have f1 := hs2 _ _ e1
  have m3 : lds τ2 b 0 3 = some [.int .i64 O, .int .i64 E, .int .i64 M] := lds_three (ld_of f1 rfl) (ld_of f1 rfl) (ld_of f1 rfl)
  have mM : ld τ2 b (0 + 2) = some (.int .i64 M) := ld_of f1 rfl
  simp -implicitDefEqProofs (disch := omega) only [List.any_cons, List.any_nil, Nat.reduceEqDiff, List.map_cons, List.map_nil, Option.map_some, Option.map_none, List.nil_append, ↓reduceIte, vcu, ↓vcd, h1, h2, h5, li, lo, lv, m3, mM, co24]
  rw [r_callq]
  refine ⟨_, specLines_at τ2 O E M hS, ?_⟩
  simp -implicitDefEqProofs (disch := omega) only [List.any_cons, List.any_nil, Nat.reduceEqDiff, List.map_cons, List.map_nil, Option.map_some, Option.map_none, List.nil_append, ↓reduceIte, vcu, ↓vcd, h1, h2, h5, li, lo, lv, m3, mM, co24]
  rw [r_callq]
  refine ⟨_, in_calls τ2 _ _ _, ?_⟩
  by_cases hI : 0 ≤ ci ∧ ci ≤ O * E - 1
  case neg =>
    have hn := bad fun hh => hI hh.1.1
    rw [decide_eq_false hI, decide_eq_false hn]
    simp -implicitDefEqProofs (disch := omega) only [List.any_cons, List.any_nil, Nat.reduceEqDiff, List.map_cons, List.map_nil, Option.map_some, Option.map_none, List.nil_append, ↓reduceIte, vcu, ↓vcd, Bool.not_false]
    refine fin_drop Try.results29 σ (s1.trans hs2) ⟨?_, rfl⟩
    simp -implicitDefEqProofs (disch := omega) only [List.any_cons, List.any_nil, Nat.reduceEqDiff, List.map_cons, List.map_nil, Option.map_some, Option.map_none, List.nil_append, ↓reduceIte, vcu, ↓vcd]
  rw [decide_eq_true hI]
  simp -implicitDefEqProofs (disch := omega) only [List.any_cons, List.any_nil, Nat.reduceEqDiff, List.map_cons, List.map_nil, Option.map_some, Option.map_none, List.nil_append, ↓reduceIte, vcu, ↓vcd, h1, h2, h5, li, lo, lv, m3, mM, co24, Bool.not_true]
  rw [r_callq]
  refine ⟨_, specLines_at τ2 O E M hS, ?_⟩
  simp -implicitDefEqProofs (disch := omega) only [List.any_cons, List.any_nil, Nat.reduceEqDiff, List.map_cons, List.map_nil, Option.map_some, Option.map_none, List.nil_append, ↓reduceIte, vcu, ↓vcd, h1, h2, h5, li, lo, lv, m3, mM, co24]
  rw [r_callq]
  refine ⟨_, in_calls τ2 _ _ _, ?_⟩
  by_cases hO : 0 ≤ co ∧ co ≤ O * E - 1
  case neg =>
    have hn := bad fun hh => hO hh.1.2.1
    rw [decide_eq_false hO, decide_eq_false hn]
    simp -implicitDefEqProofs (disch := omega) only [List.any_cons, List.any_nil, Nat.reduceEqDiff, List.map_cons, List.map_nil, Option.map_some, Option.map_none, List.nil_append, ↓reduceIte, vcu, ↓vcd, Bool.not_false]
    refine fin_drop Try.results29 σ (s1.trans hs2) ⟨?_, rfl⟩
    simp -implicitDefEqProofs (disch := omega) only [List.any_cons, List.any_nil, Nat.reduceEqDiff, List.map_cons, List.map_nil, Option.map_some, Option.map_none, List.nil_append, ↓reduceIte, vcu, ↓vcd]
  rw [decide_eq_true hO]
  simp -implicitDefEqProofs (disch := omega) only [List.any_cons, List.any_nil, Nat.reduceEqDiff, List.map_cons, List.map_nil, Option.map_some, Option.map_none, List.nil_append, ↓reduceIte, vcu, ↓vcd, h1, h2, h5, li, lo, lv, m3, mM, co24, Bool.not_true]
  rw [r_callq]
  refine ⟨_, in_calls τ2 _ _ _, ?_⟩
  by_cases hV : 0 ≤ cv ∧ cv ≤ M - 1
  case neg =>
    have hn := bad fun hh => hV hh.1.2.2
    rw [decide_eq_false hV, decide_eq_false hn]
    simp -implicitDefEqProofs (disch := omega) only [List.any_cons, List.any_nil, Nat.reduceEqDiff, List.map_cons, List.map_nil, Option.map_some, Option.map_none, List.nil_append, ↓reduceIte, vcu, ↓vcd, Bool.not_false]
    refine fin_drop Try.results29 σ (s1.trans hs2) ⟨?_, rfl⟩
    simp -implicitDefEqProofs (disch := omega) only [List.any_cons, List.any_nil, Nat.reduceEqDiff, List.map_cons, List.map_nil, Option.map_some, Option.map_none, List.nil_append, ↓reduceIte, vcu, ↓vcd]
  rw [decide_eq_true hV]
  have hRg : Rg ⟨O, E, M⟩ ⟨ci, co, cv⟩ := ⟨hI, hO, hV⟩
  simp -implicitDefEqProofs (disch := omega) only [List.any_cons, List.any_nil, Nat.reduceEqDiff, List.map_cons, List.map_nil, Option.map_some, Option.map_none, List.nil_append, ↓reduceIte, vcu, ↓vcd, h1, h2, h5, Bool.not_true]
  refine vc_loop_c mixed (by kernel_rfl) [1, 2, 5, 6] (fun m a τ' => ∃ j : Nat, m + j = k ∧ a 7 = .int .i64 j ∧ Sub τ2 τ' ∧ ∀ d ∈ cs.take j, ¬ Hit ⟨O, E, M⟩ ⟨ci, co, cv⟩ d) k ⟨0, by simp, rfl, Sub.refl _, by simp⟩ ?_
  rintro m2 a2 τ3 hc2 ⟨j, hj, h7, hs3, hN⟩
  simp -implicitDefEqProofs (disch := omega) only [List.any_cons, List.any_nil, Nat.reduceEqDiff, List.map_cons, List.map_nil, Option.map_some, Option.map_none, List.nil_append, ↓reduceIte, vcu, ↓vcd, h1, h2, h5] at hc2
  obtain ⟨q1, q2, q5, q6, -⟩ := hc2
  by_cases hjk : j < k
  case neg =>
    obtain rfl : j = k := by omega
    simp -implicitDefEqProofs (disch := omega) only [List.any_cons, List.any_nil, Nat.reduceEqDiff, List.map_cons, List.map_nil, Option.map_some, Option.map_none, List.nil_append, ↓reduceIte, vcu, ↓vcd, q1, q2, q5, q6, h7]
    refine ⟨⟨trivial, trivial, trivial⟩, m - 1, by omega, j + 1, by omega, by simp, hs2.trans hs3, ?_⟩
    rw [htk]
    exact ⟨hC, hRg, hN⟩
  have hjl : j < cs.length := by omega
  have hy := (((hv.sub s1).sub hs2).sub hs3).all hjl
  have hgj : cs.getD j cl0 = gc cs j := rfl
  have hdk : gc cs j ∈ cs.take k := List.mem_of_getElem? (i := j) (by rw [List.getElem?_take, if_pos hjk]; exact gc_some hjl)
  have hdr := hC.2.1 _ hdk
  have bad2 : Hit ⟨O, E, M⟩ ⟨ci, co, cv⟩ (gc cs j) → ¬ CV ⟨O, E, M⟩ cs := fun hh => bad fun h2 => h2.2 _ hdk hh
  have hjt := take_gc hjl
  rw [hgj] at hy
  generalize gc cs j = d at hy hdk hdr bad2 hjt
  obtain ⟨di, do', dv⟩ := d
  obtain ⟨⟨d1, d2⟩, ⟨d3, d4⟩, d5, d6⟩ := hdr
  dsimp only at hy d1 d2 d3 d4 d5 d6
  simp -implicitDefEqProofs (disch := omega) only [List.any_cons, List.any_nil, Nat.reduceEqDiff, List.map_cons, List.map_nil, Option.map_some, Option.map_none, List.nil_append, ↓reduceIte, vcu, ↓vcd, q1, q2, q5, q6, h7, hy, co34]
  refine r_local (cs := #[.int .i64 di, .int .i64 do', .int .i64 dv]) ze34 (by decide) (by simp -implicitDefEqProofs (disch := omega) only [List.any_cons, List.any_nil, Nat.reduceEqDiff, List.map_cons, List.map_nil, Option.map_some, Option.map_none, List.nil_append, ↓reduceIte, vcu, ↓vcd]) (by rw [co34]; rfl) rfl rfl (Nat.zero_lt_succ _) fun g2 τ4 ng4 s4 e4 => ?_
  replace e4 : τ4 g2 = some ⟨[.int .i64 di, .int .i64 do', .int .i64 dv], false⟩ := e4
  have hs4 := hs3.trans s4
  have f2 := hs4 _ _ e2
  have f3 := hs4 _ _ f1
  have ki : ld τ4 g (0 + 0) = some (.int .i64 ci) := ld_of f2 rfl
  have ko : ld τ4 g (0 + 1) = some (.int .i64 co) := ld_of f2 rfl
  have kv : ld τ4 g (0 + 2) = some (.int .i64 cv) := ld_of f2 rfl
  have ji : ld τ4 g2 (0 + 0) = some (.int .i64 di) := ld_of e4 rfl
  have jo : ld τ4 g2 (0 + 1) = some (.int .i64 do') := ld_of e4 rfl
  have jv : ld τ4 g2 (0 + 2) = some (.int .i64 dv) := ld_of e4 rfl
  have lE : ld τ4 b (0 + 1) = some (.int .i64 E) := ld_of f3 rfl
  have fine : ¬ Hit ⟨O, E, M⟩ ⟨ci, co, cv⟩ ⟨di, do', dv⟩ → ∀ d ∈ cs.take (j + 1), ¬ Hit ⟨O, E, M⟩ ⟨ci, co, cv⟩ d := fun hn d hd => by
    rw [hjt] at hd
    rcases List.mem_append.1 hd with hd | hd
    · exact hN d hd
    · rw [List.mem_singleton] at hd; subst hd; exact hn
  by_cases c1 : ci = di
  · rw [decide_eq_false (bad2 (.inl c1))]
    simp -implicitDefEqProofs (disch := omega) only [List.any_cons, List.any_nil, Nat.reduceEqDiff, List.map_cons, List.map_nil, Option.map_some, Option.map_none, List.nil_append, ↓reduceIte, vcu, ↓vcd, q1, q2, q5, q6, h7, ki, ko, kv, ji, jo, jv, lE]
    refine fin_drop Try.results29 σ (s1.trans (hs2.trans hs4)) ⟨?_, rfl⟩
    simp -implicitDefEqProofs (disch := omega) only [List.any_cons, List.any_nil, Nat.reduceEqDiff, List.map_cons, List.map_nil, Option.map_some, Option.map_none, List.nil_append, ↓reduceIte, vcu, ↓vcd]
  by_cases c2 : co = do'
  · rw [decide_eq_false (bad2 (.inr (.inl c2)))]
    simp -implicitDefEqProofs (disch := omega) only [List.any_cons, List.any_nil, Nat.reduceEqDiff, List.map_cons, List.map_nil, Option.map_some, Option.map_none, List.nil_append, ↓reduceIte, vcu, ↓vcd, q1, q2, q5, q6, h7, ki, ko, kv, ji, jo, jv, lE]
    refine fin_drop Try.results29 σ (s1.trans (hs2.trans hs4)) ⟨?_, rfl⟩
    simp -implicitDefEqProofs (disch := omega) only [List.any_cons, List.any_nil, Nat.reduceEqDiff, List.map_cons, List.map_nil, Option.map_some, Option.map_none, List.nil_append, ↓reduceIte, vcu, ↓vcd]
  by_cases c3 : cv = dv
  case neg =>
    have hn := fine fun hh => hh.elim c1 fun hh => hh.elim c2 fun hh => c3 hh.1
    simp -implicitDefEqProofs (disch := omega) only [List.any_cons, List.any_nil, Nat.reduceEqDiff, List.map_cons, List.map_nil, Option.map_some, Option.map_none, List.nil_append, ↓reduceIte, vcu, ↓vcd, q1, q2, q5, q6, h7, ki, ko, kv, ji, jo, jv, lE]
    exact ⟨⟨h1.symm, h2.symm, h5.symm, trivial, trivial⟩, m2 - 1, by omega, j + 1, by omega, by simp, hs4, hn⟩
  by_cases c4 : ci / E = di / E
  · rw [decide_eq_false (bad2 (.inr (.inr ⟨c3, .inl c4⟩)))]
    simp -implicitDefEqProofs (disch := omega) only [List.any_cons, List.any_nil, Nat.reduceEqDiff, List.map_cons, List.map_nil, Option.map_some, Option.map_none, List.nil_append, ↓reduceIte, vcu, ↓vcd, q1, q2, q5, q6, h7, ki, ko, kv, ji, jo, jv, lE]
    refine fin_drop Try.results29 σ (s1.trans (hs2.trans hs4)) ⟨?_, rfl⟩
    simp -implicitDefEqProofs (disch := omega) only [List.any_cons, List.any_nil, Nat.reduceEqDiff, List.map_cons, List.map_nil, Option.map_some, Option.map_none, List.nil_append, ↓reduceIte, vcu, ↓vcd]
  by_cases c5 : co / E = do' / E
  · rw [decide_eq_false (bad2 (.inr (.inr ⟨c3, .inr c5⟩)))]
    simp -implicitDefEqProofs (disch := omega) only [List.any_cons, List.any_nil, Nat.reduceEqDiff, List.map_cons, List.map_nil, Option.map_some, Option.map_none, List.nil_append, ↓reduceIte, vcu, ↓vcd, q1, q2, q5, q6, h7, ki, ko, kv, ji, jo, jv, lE]
    refine fin_drop Try.results29 σ (s1.trans (hs2.trans hs4)) ⟨?_, rfl⟩
    simp -implicitDefEqProofs (disch := omega) only [List.any_cons, List.any_nil, Nat.reduceEqDiff, List.map_cons, List.map_nil, Option.map_some, Option.map_none, List.nil_append, ↓reduceIte, vcu, ↓vcd]
  have hn := fine fun hh => hh.elim c1 fun hh => hh.elim c2 fun hh => hh.2.elim c4 c5
  simp -implicitDefEqProofs (disch := omega) only [List.any_cons, List.any_nil, Nat.reduceEqDiff, List.map_cons, List.map_nil, Option.map_some, Option.map_none, List.nil_append, ↓reduceIte, vcu, ↓vcd, q1, q2, q5, q6, h7, ki, ko, kv, ji, jo, jv, lE]
  exact ⟨⟨h1.symm, h2.symm, h5.symm, trivial, trivial⟩, m2 - 1, by omega, j + 1, by omega, by simp, hs4, hn⟩
end Go.Proofs.Ytphacjkogompoaa
