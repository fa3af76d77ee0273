/- FnLostPart answers true for every code. -/
import Derived.Test.YtkepicmefpcgaaaGh
set_option linter.unusedSimpArgs false
set_option linter.unusedVariables false
namespace Go.Proofs.Ytkepicmefpcgaaa
open Go Go.Abs Go.RowKit
variable {w0 : World}

theorem law5 (σ : AHeap) (v : Value) (bs : List Int) (hv : Ints .u8 σ v bs) (hm : bs.length ≤ maxLen) (hw : ∀ z ∈ bs, (Lit.int .u8 z).wf = true) :
    ACall Try.prog w0 5 [v] σ fun r _ => r = .bool true := by
  unfold maxLen at hm
  refine ACall.ints_arg (pre := []) (by kernel_rfl) hv fun σ1 h o hs hg => ?_
  clear hv hs σ v
  have hb := bytes_of hw
  refine acall_go mixed Try.func5 rfl good5 fun pr => ?_
  by_cases hbig : 1048576 < bs.length
  · simp -implicitDefEqProofs (disch := omega) only [List.any_cons, List.any_nil, Nat.reduceEqDiff, List.map_cons, List.map_nil, Option.map_some, Option.map_none, List.nil_append, ↓reduceIte, vcu, ↓vcd]
    refine fin_one Try.results5 ?_
    simp -implicitDefEqProofs (disch := omega) only [List.any_cons, List.any_nil, Nat.reduceEqDiff, List.map_cons, List.map_nil, Option.map_some, Option.map_none, List.nil_append, ↓reduceIte, vcu, ↓vcd]
  have hl : bs.length ≤ 1048576 := by omega
  simp -implicitDefEqProofs (disch := omega) only [List.any_cons, List.any_nil, Nat.reduceEqDiff, List.map_cons, List.map_nil, Option.map_some, Option.map_none, List.nil_append, ↓reduceIte, vcu, ↓vcd]
  refine (drawLostPart_at σ1 h o bs hg hl hb).mono ?_
  rintro r τ ⟨L, t, rfl, b1, b2, hs⟩
  simp -implicitDefEqProofs (disch := omega) only [List.any_cons, List.any_nil, Nat.reduceEqDiff, List.map_cons, List.map_nil, Option.map_some, Option.map_none, List.nil_append, ↓reduceIte, vcu, ↓vcd, opK_some, List.getElem?_toArray, List.getElem?_cons_zero, List.getElem?_cons_succ]
  refine (implLP_at w0 τ L t).mono ?_
  rintro r _ ⟨rfl, rfl⟩
  rename_i τ
  simp -implicitDefEqProofs (disch := omega) only [List.any_cons, List.any_nil, Nat.reduceEqDiff, List.map_cons, List.map_nil, Option.map_some, Option.map_none, List.nil_append, ↓reduceIte, vcu, ↓vcd, opK_some, List.getElem?_toArray, List.getElem?_cons_zero, List.getElem?_cons_succ]
  refine r_local (cs := #[.int .i64 (lpN L t), .int .i64 (lpD L t)]) ze24 (by decide) (by simp -implicitDefEqProofs (disch := omega) only [List.any_cons, List.any_nil, Nat.reduceEqDiff, List.map_cons, List.map_nil, Option.map_some, Option.map_none, List.nil_append, ↓reduceIte, vcu, ↓vcd]) (by rw [co24]; rfl) rfl rfl (Nat.zero_lt_succ _) fun c5 τ1 n5 s1 e5 => ?_
  replace e5 : τ1 c5 = some ⟨[.int .i64 (lpN L t), .int .i64 (lpD L t)], false⟩ := e5
  simp -implicitDefEqProofs (disch := omega) only [List.any_cons, List.any_nil, Nat.reduceEqDiff, List.map_cons, List.map_nil, Option.map_some, Option.map_none, List.nil_append, ↓reduceIte, vcu, ↓vcd]
  refine (specLP_at τ1 L t).mono ?_
  rintro r _ ⟨rfl, rfl⟩
  rename_i τ1
  simp -implicitDefEqProofs (disch := omega) only [List.any_cons, List.any_nil, Nat.reduceEqDiff, List.map_cons, List.map_nil, Option.map_some, Option.map_none, List.nil_append, ↓reduceIte, vcu, ↓vcd, opK_some, List.getElem?_toArray, List.getElem?_cons_zero, List.getElem?_cons_succ]
  refine r_local (cs := #[.int .i64 (lpN L t), .int .i64 (lpD L t)]) ze24 (by decide) (by simp -implicitDefEqProofs (disch := omega) only [List.any_cons, List.any_nil, Nat.reduceEqDiff, List.map_cons, List.map_nil, Option.map_some, Option.map_none, List.nil_append, ↓reduceIte, vcu, ↓vcd]) (by rw [co24]; rfl) rfl rfl (Nat.zero_lt_succ _) fun c7 τ2 n7 s2 e7 => ?_
  replace e7 : τ2 c7 = some ⟨[.int .i64 (lpN L t), .int .i64 (lpD L t)], false⟩ := e7
  replace e5 := s2 _ _ e5
  have l5 : lds τ2 c5 0 2 = some [.int .i64 (lpN L t), .int .i64 (lpD L t)] := lds_two (ld_of e5 rfl) (ld_of e5 rfl)
  have l7 : lds τ2 c7 0 2 = some [.int .i64 (lpN L t), .int .i64 (lpD L t)] := lds_two (ld_of e7 rfl) (ld_of e7 rfl)
  simp -implicitDefEqProofs (disch := omega) only [List.any_cons, List.any_nil, Nat.reduceEqDiff, List.map_cons, List.map_nil, Option.map_some, Option.map_none, List.nil_append, ↓reduceIte, vcu, ↓vcd, l5, l7, co24, neq_frac, eq_self, decide_true, Bool.not_true, beq_self_eq_true]
  refine (implLS_at w0 τ2 L t).mono ?_
  rintro r _ ⟨rfl, rfl⟩
  rename_i τ2
  rw [(ls_lp L t).1, (ls_lp L t).2]
  simp -implicitDefEqProofs (disch := omega) only [List.any_cons, List.any_nil, Nat.reduceEqDiff, List.map_cons, List.map_nil, Option.map_some, Option.map_none, List.nil_append, ↓reduceIte, vcu, ↓vcd, opK_some, List.getElem?_toArray, List.getElem?_cons_zero, List.getElem?_cons_succ]
  refine r_local (cs := #[.int .i64 (lpN L t), .int .i64 (lpD L t)]) ze24 (by decide) (by simp -implicitDefEqProofs (disch := omega) only [List.any_cons, List.any_nil, Nat.reduceEqDiff, List.map_cons, List.map_nil, Option.map_some, Option.map_none, List.nil_append, ↓reduceIte, vcu, ↓vcd]) (by rw [co24]; rfl) rfl rfl (Nat.zero_lt_succ _) fun c9 τ3 n9 s3 e9 => ?_
  replace e9 : τ3 c9 = some ⟨[.int .i64 (lpN L t), .int .i64 (lpD L t)], false⟩ := e9
  replace e5 := s3 _ _ e5
  have l5 : lds τ3 c5 0 2 = some [.int .i64 (lpN L t), .int .i64 (lpD L t)] := lds_two (ld_of e5 rfl) (ld_of e5 rfl)
  have l9 : lds τ3 c9 0 2 = some [.int .i64 (lpN L t), .int .i64 (lpD L t)] := lds_two (ld_of e9 rfl) (ld_of e9 rfl)
  simp -implicitDefEqProofs (disch := omega) only [List.any_cons, List.any_nil, Nat.reduceEqDiff, List.map_cons, List.map_nil, Option.map_some, Option.map_none, List.nil_append, ↓reduceIte, vcu, ↓vcd, l5, l9, co24, neq_frac, eq_self, decide_true, Bool.not_true, beq_self_eq_true]
  by_cases hok : OK7 L t
  case neg =>
    have eN : lpN L t = 0 := if_neg hok
    have eD : lpD L t = 0 := if_neg hok
    rw [eN, eD] at l5
    rw [decide_eq_false hok]
    simp -implicitDefEqProofs (disch := omega) only [List.any_cons, List.any_nil, Nat.reduceEqDiff, List.map_cons, List.map_nil, Option.map_some, Option.map_none, List.nil_append, ↓reduceIte, vcu, ↓vcd, Bool.not_false, l5, co24]
    rw [r_build]
    refine ⟨(_, #[.int .i64 0, .int .i64 0]), ⟨ze24, by simp -implicitDefEqProofs (disch := omega) only [List.any_cons, List.any_nil, Nat.reduceEqDiff, List.map_cons, List.map_nil, Option.map_some, Option.map_none, List.nil_append, ↓reduceIte, vcu, ↓vcd]; kernel_rfl⟩, ?_⟩
    simp -implicitDefEqProofs (disch := omega) only [List.any_cons, List.any_nil, Nat.reduceEqDiff, List.map_cons, List.map_nil, Option.map_some, Option.map_none, List.nil_append, ↓reduceIte, vcu, ↓vcd, eql_frac, eq_self, decide_true]
    refine (alive_at _).mono ?_
    rintro r _ ⟨rfl, rfl⟩
    simp -implicitDefEqProofs (disch := omega) only [List.any_cons, List.any_nil, Nat.reduceEqDiff, List.map_cons, List.map_nil, Option.map_some, Option.map_none, List.nil_append, ↓reduceIte, vcu, ↓vcd, opK_some]
    refine fin_one Try.results5 ?_
    simp -implicitDefEqProofs (disch := omega) only [List.any_cons, List.any_nil, Nat.reduceEqDiff, List.map_cons, List.map_nil, Option.map_some, Option.map_none, List.nil_append, ↓reduceIte, vcu, ↓vcd]
  rw [decide_eq_true hok]
  clear l7 l9 e7 e9
  simp -implicitDefEqProofs (disch := omega) only [List.any_cons, List.any_nil, Nat.reduceEqDiff, List.map_cons, List.map_nil, Option.map_some, Option.map_none, List.nil_append, ↓reduceIte, vcu, ↓vcd, Bool.not_true]
  refine (implLP_at w0 τ3 L (t + 1)).mono ?_
  rintro r _ ⟨rfl, rfl⟩
  rename_i τ3
  simp -implicitDefEqProofs (disch := omega) only [List.any_cons, List.any_nil, Nat.reduceEqDiff, List.map_cons, List.map_nil, Option.map_some, Option.map_none, List.nil_append, ↓reduceIte, vcu, ↓vcd, opK_some, List.getElem?_toArray, List.getElem?_cons_zero, List.getElem?_cons_succ]
  refine r_local (cs := #[.int .i64 (lpN L (t + 1)), .int .i64 (lpD L (t + 1))]) ze24 (by decide) (by simp -implicitDefEqProofs (disch := omega) only [List.any_cons, List.any_nil, Nat.reduceEqDiff, List.map_cons, List.map_nil, Option.map_some, Option.map_none, List.nil_append, ↓reduceIte, vcu, ↓vcd]) (by rw [co24]; rfl) rfl rfl (Nat.zero_lt_succ _) fun cB τ4 nB s4 eB => ?_
  replace eB : τ4 cB = some ⟨[.int .i64 (lpN L (t + 1)), .int .i64 (lpD L (t + 1))], false⟩ := eB
  simp -implicitDefEqProofs (disch := omega) only [List.any_cons, List.any_nil, Nat.reduceEqDiff, List.map_cons, List.map_nil, Option.map_some, Option.map_none, List.nil_append, ↓reduceIte, vcu, ↓vcd]
  refine (implLP_at w0 τ4 (L + 1) t).mono ?_
  rintro r _ ⟨rfl, rfl⟩
  rename_i τ4
  simp -implicitDefEqProofs (disch := omega) only [List.any_cons, List.any_nil, Nat.reduceEqDiff, List.map_cons, List.map_nil, Option.map_some, Option.map_none, List.nil_append, ↓reduceIte, vcu, ↓vcd, opK_some, List.getElem?_toArray, List.getElem?_cons_zero, List.getElem?_cons_succ]
  refine r_local (cs := #[.int .i64 (lpN (L + 1) t), .int .i64 (lpD (L + 1) t)]) ze24 (by decide) (by simp -implicitDefEqProofs (disch := omega) only [List.any_cons, List.any_nil, Nat.reduceEqDiff, List.map_cons, List.map_nil, Option.map_some, Option.map_none, List.nil_append, ↓reduceIte, vcu, ↓vcd]) (by rw [co24]; rfl) rfl rfl (Nat.zero_lt_succ _) fun cD τ5 nD s5 eD => ?_
  replace eD : τ5 cD = some ⟨[.int .i64 (lpN (L + 1) t), .int .i64 (lpD (L + 1) t)], false⟩ := eD
  replace e5 := s5 _ _ (s4 _ _ e5)
  replace eB := s5 _ _ eB
  obtain ⟨⟨a1, a2⟩, a3, a4⟩ := hok
  obtain ⟨L, rfl⟩ : ∃ n : Nat, L = n := ⟨L.toNat, by omega⟩
  obtain ⟨t, rfl⟩ : ∃ n : Nat, t = n := ⟨t.toNat, by omega⟩
  have hL : L ≤ 6 := by omega
  have ht : t ≤ 8 := by omega
  have l5 : lds τ5 c5 0 2 = some [.int .i64 (lpN L t), .int .i64 (lpD L t)] := lds_two (ld_of e5 rfl) (ld_of e5 rfl)
  have lB : lds τ5 cB 0 2 = some [.int .i64 (lpN L (t + 1)), .int .i64 (lpD L (t + 1))] := lds_two (ld_of eB rfl) (ld_of eB rfl)
  have lD : lds τ5 cD 0 2 = some [.int .i64 (lpN (L + 1) t), .int .i64 (lpD (L + 1) t)] := lds_two (ld_of eD rfl) (ld_of eD rfl)
  -- the numbers
  have pN := (lp_at hL ht).1
  have pD := (lp_at hL ht).2
  have hmore : t < 8 → lpN (L : Int) ((t : Int) + 1) = ((lp L (t + 1)).1 : Int) ∧ lpD (L : Int) ((t : Int) + 1) = ((lp L (t + 1)).2 : Int) := fun h => lp_at (t := t + 1) hL (by omega)
  have hgreat : L < 6 → lpN ((L : Int) + 1) (t : Int) = ((lp (L + 1) t).1 : Int) ∧ lpD ((L : Int) + 1) (t : Int) = ((lp (L + 1) t).2 : Int) := fun h => lp_at (L := L + 1) (by omega) ht
  rw [pN, pD] at l5
  have A1 : t < 8 → ¬ (L = 0 ∧ 0 < t) → FLs (lpN (L : Int) ((t : Int) + 1)) (lpD (L : Int) ((t : Int) + 1)) ((lp L t).1 : Int) ((lp L t).2 : Int) := fun h1 h2 => by
    rw [(hmore h1).1, (hmore h1).2]; exact line_less hL h1 h2
  have A2 : t < 8 → L = 0 → 0 < t → (lpN (L : Int) ((t : Int) + 1), lpD (L : Int) ((t : Int) + 1)) = (((lp L t).1 : Int), ((lp L t).2 : Int)) := fun h1 h2 h3 => by
    rw [(hmore h1).1, (hmore h1).2]; subst h2
    rw [lp_zero t ht h3, lp_zero (t + 1) (by omega) (by omega)]
  have B1 : L < 6 → t ≠ 0 → FLs ((lp L t).1 : Int) ((lp L t).2 : Int) (lpN ((L : Int) + 1) (t : Int)) (lpD ((L : Int) + 1) (t : Int)) := fun h1 h2 => by
    rw [(hgreat h1).1, (hgreat h1).2]; exact load_less h1 ht h2
  have B2 : L < 6 → t = 0 → (lpN ((L : Int) + 1) (t : Int), lpD ((L : Int) + 1) (t : Int)) = (((lp L t).1 : Int), ((lp L t).2 : Int)) := fun h1 h2 => by
    rw [(hgreat h1).1, (hgreat h1).2]; subst h2; rfl
  have C1 : L = 0 → t ≠ 0 → (((lp L t).1 : Int), ((lp L t).2 : Int)) = (0, 1) := fun h1 h2 => by
    subst h1; rw [lp_zero t ht (by omega)]; rfl
  clear hmore hgreat pN pD
  generalize lpN (L : Int) ((t : Int) + 1) = mN at *
  generalize lpD (L : Int) ((t : Int) + 1) = mD at *
  generalize lpN ((L : Int) + 1) (t : Int) = gN at *
  generalize lpD ((L : Int) + 1) (t : Int) = gD at *
  generalize ((lp L t).1 : Int) = x at *
  generalize ((lp L t).2 : Int) = y at *
  -- the three parts, each true: what is left behind the first two
  have dm : (decide (OK7 (L : Int) ((t : Int) + 1)) = true ∧ t < 8) ∨ (decide (OK7 (L : Int) ((t : Int) + 1)) = false ∧ t = 8) := by
    by_cases h : t < 8
    · exact .inl ⟨decide_eq_true ⟨by omega, by omega⟩, h⟩
    · exact .inr ⟨decide_eq_false fun hh => by have := hh.2; omega, by omega⟩
  have dg : (decide (OK7 ((L : Int) + 1) (t : Int)) = true ∧ L < 6) ∨ (decide (OK7 ((L : Int) + 1) (t : Int)) = false ∧ L = 6) := by
    by_cases h : L < 6
    · exact .inl ⟨decide_eq_true ⟨by omega, by omega⟩, h⟩
    · exact .inr ⟨decide_eq_false fun hh => by have := hh.1; omega, by omega⟩
  have kL : (decide ((L : Int) = 0) = true ∧ decide ((L : Int) > 0) = false ∧ L = 0) ∨ (decide ((L : Int) = 0) = false ∧ decide ((L : Int) > 0) = true ∧ L ≠ 0) := by
    by_cases h : L = 0
    · exact .inl ⟨decide_eq_true (by omega), decide_eq_false (by omega), h⟩
    · exact .inr ⟨decide_eq_false (by omega), decide_eq_true (by omega), h⟩
  have kt : (decide ((t : Int) = 0) = true ∧ decide ((t : Int) > 0) = false ∧ t = 0) ∨ (decide ((t : Int) = 0) = false ∧ decide ((t : Int) > 0) = true ∧ t ≠ 0) := by
    by_cases h : t = 0
    · exact .inl ⟨decide_eq_true (by omega), decide_eq_false (by omega), h⟩
    · exact .inr ⟨decide_eq_false (by omega), decide_eq_true (by omega), h⟩
  rcases dm with ⟨dm, hm8⟩ | ⟨dm, hm8⟩ <;> rcases dg with ⟨dg, hg6⟩ | ⟨dg, hg6⟩ <;> rcases kL with ⟨k1, k2, k3⟩ | ⟨k1, k2, k3⟩ <;> rcases kt with ⟨k4, k5, k6⟩ | ⟨k4, k5, k6⟩ <;> (try (exfalso; omega)) <;> rw [dm, dg]
  · have qB := eql_frac_true (B2 (by omega) (by omega))
    simp -implicitDefEqProofs (disch := omega) only [List.any_cons, List.any_nil, Nat.reduceEqDiff, List.map_cons, List.map_nil, Option.map_some, Option.map_none, List.nil_append, ↓reduceIte, vcu, ↓vcd, Bool.not_true, Bool.not_false, k1, k2, k4, k5, l5, lB, lD, co24, qB]
    refine (implFL_at w0 τ5 _ _ _ _).mono ?_
    rintro r _ ⟨rfl, rfl⟩
    rename_i τ5
    rw [decide_eq_true (A1 (by omega) (by omega))]
    simp -implicitDefEqProofs (disch := omega) only [List.any_cons, List.any_nil, Nat.reduceEqDiff, List.map_cons, List.map_nil, Option.map_some, Option.map_none, List.nil_append, ↓reduceIte, vcu, ↓vcd, opK_some, Bool.not_true, Bool.not_false, k1, k2, k4, k5, l5, lB, lD, co24, qB]
    refine fin_one Try.results5 ?_
    simp -implicitDefEqProofs (disch := omega) only [List.any_cons, List.any_nil, Nat.reduceEqDiff, List.map_cons, List.map_nil, Option.map_some, Option.map_none, List.nil_append, ↓reduceIte, vcu, ↓vcd]
  · have qA := eql_frac_true (A2 (by omega) (by omega) (by omega))
    have qC := eql_frac_true (C1 (by omega) (by omega))
    simp -implicitDefEqProofs (disch := omega) only [List.any_cons, List.any_nil, Nat.reduceEqDiff, List.map_cons, List.map_nil, Option.map_some, Option.map_none, List.nil_append, ↓reduceIte, vcu, ↓vcd, Bool.not_true, Bool.not_false, k1, k2, k4, k5, l5, lB, lD, co24, qA, qC]
    refine (implFL_at w0 τ5 _ _ _ _).mono ?_
    rintro r _ ⟨rfl, rfl⟩
    rename_i τ5
    rw [decide_eq_true (B1 (by omega) (by omega))]
    simp -implicitDefEqProofs (disch := omega) only [List.any_cons, List.any_nil, Nat.reduceEqDiff, List.map_cons, List.map_nil, Option.map_some, Option.map_none, List.nil_append, ↓reduceIte, vcu, ↓vcd, opK_some, Bool.not_true, Bool.not_false, k1, k2, k4, k5, l5, lB, lD, co24, qA, qC]
    rw [r_build]
    refine ⟨(_, #[.int .i64 0, .int .i64 1]), ⟨ze24, by simp -implicitDefEqProofs (disch := omega) only [List.any_cons, List.any_nil, Nat.reduceEqDiff, List.map_cons, List.map_nil, Option.map_some, Option.map_none, List.nil_append, ↓reduceIte, vcu, ↓vcd]; kernel_rfl⟩, ?_⟩
    simp -implicitDefEqProofs (disch := omega) only [List.any_cons, List.any_nil, Nat.reduceEqDiff, List.map_cons, List.map_nil, Option.map_some, Option.map_none, List.nil_append, ↓reduceIte, vcu, ↓vcd, Bool.not_true, Bool.not_false, k1, k2, k4, k5, l5, lB, lD, co24, qA, qC]
    refine fin_one Try.results5 ?_
    simp -implicitDefEqProofs (disch := omega) only [List.any_cons, List.any_nil, Nat.reduceEqDiff, List.map_cons, List.map_nil, Option.map_some, Option.map_none, List.nil_append, ↓reduceIte, vcu, ↓vcd]
  · have qB := eql_frac_true (B2 (by omega) (by omega))
    simp -implicitDefEqProofs (disch := omega) only [List.any_cons, List.any_nil, Nat.reduceEqDiff, List.map_cons, List.map_nil, Option.map_some, Option.map_none, List.nil_append, ↓reduceIte, vcu, ↓vcd, Bool.not_true, Bool.not_false, k1, k2, k4, k5, l5, lB, lD, co24, qB]
    refine (implFL_at w0 τ5 _ _ _ _).mono ?_
    rintro r _ ⟨rfl, rfl⟩
    rename_i τ5
    rw [decide_eq_true (A1 (by omega) (by omega))]
    simp -implicitDefEqProofs (disch := omega) only [List.any_cons, List.any_nil, Nat.reduceEqDiff, List.map_cons, List.map_nil, Option.map_some, Option.map_none, List.nil_append, ↓reduceIte, vcu, ↓vcd, opK_some, Bool.not_true, Bool.not_false, k1, k2, k4, k5, l5, lB, lD, co24, qB]
    refine fin_one Try.results5 ?_
    simp -implicitDefEqProofs (disch := omega) only [List.any_cons, List.any_nil, Nat.reduceEqDiff, List.map_cons, List.map_nil, Option.map_some, Option.map_none, List.nil_append, ↓reduceIte, vcu, ↓vcd]
  · simp -implicitDefEqProofs (disch := omega) only [List.any_cons, List.any_nil, Nat.reduceEqDiff, List.map_cons, List.map_nil, Option.map_some, Option.map_none, List.nil_append, ↓reduceIte, vcu, ↓vcd, Bool.not_true, Bool.not_false, k1, k2, k4, k5, l5, lB, lD, co24]
    refine (implFL_at w0 τ5 _ _ _ _).mono ?_
    rintro r _ ⟨rfl, rfl⟩
    rename_i τ5
    rw [decide_eq_true (A1 (by omega) (by omega))]
    simp -implicitDefEqProofs (disch := omega) only [List.any_cons, List.any_nil, Nat.reduceEqDiff, List.map_cons, List.map_nil, Option.map_some, Option.map_none, List.nil_append, ↓reduceIte, vcu, ↓vcd, opK_some, Bool.not_true, Bool.not_false, k1, k2, k4, k5, l5, lB, lD, co24]
    refine (implFL_at w0 τ5 _ _ _ _).mono ?_
    rintro r _ ⟨rfl, rfl⟩
    rename_i τ5
    rw [decide_eq_true (B1 (by omega) (by omega))]
    simp -implicitDefEqProofs (disch := omega) only [List.any_cons, List.any_nil, Nat.reduceEqDiff, List.map_cons, List.map_nil, Option.map_some, Option.map_none, List.nil_append, ↓reduceIte, vcu, ↓vcd, opK_some, Bool.not_true, Bool.not_false, k1, k2, k4, k5, l5, lB, lD, co24]
    refine fin_one Try.results5 ?_
    simp -implicitDefEqProofs (disch := omega) only [List.any_cons, List.any_nil, Nat.reduceEqDiff, List.map_cons, List.map_nil, Option.map_some, Option.map_none, List.nil_append, ↓reduceIte, vcu, ↓vcd]
  · simp -implicitDefEqProofs (disch := omega) only [List.any_cons, List.any_nil, Nat.reduceEqDiff, List.map_cons, List.map_nil, Option.map_some, Option.map_none, List.nil_append, ↓reduceIte, vcu, ↓vcd, Bool.not_true, Bool.not_false, k1, k2, k4, k5, l5, lB, lD, co24]
    refine (implFL_at w0 τ5 _ _ _ _).mono ?_
    rintro r _ ⟨rfl, rfl⟩
    rename_i τ5
    rw [decide_eq_true (A1 (by omega) (by omega))]
    simp -implicitDefEqProofs (disch := omega) only [List.any_cons, List.any_nil, Nat.reduceEqDiff, List.map_cons, List.map_nil, Option.map_some, Option.map_none, List.nil_append, ↓reduceIte, vcu, ↓vcd, opK_some, Bool.not_true, Bool.not_false, k1, k2, k4, k5, l5, lB, lD, co24]
    refine fin_one Try.results5 ?_
    simp -implicitDefEqProofs (disch := omega) only [List.any_cons, List.any_nil, Nat.reduceEqDiff, List.map_cons, List.map_nil, Option.map_some, Option.map_none, List.nil_append, ↓reduceIte, vcu, ↓vcd]
  · simp -implicitDefEqProofs (disch := omega) only [List.any_cons, List.any_nil, Nat.reduceEqDiff, List.map_cons, List.map_nil, Option.map_some, Option.map_none, List.nil_append, ↓reduceIte, vcu, ↓vcd, Bool.not_true, Bool.not_false, k1, k2, k4, k5, l5, lB, lD, co24]
    refine (implFL_at w0 τ5 _ _ _ _).mono ?_
    rintro r _ ⟨rfl, rfl⟩
    rename_i τ5
    rw [decide_eq_true (A1 (by omega) (by omega))]
    simp -implicitDefEqProofs (disch := omega) only [List.any_cons, List.any_nil, Nat.reduceEqDiff, List.map_cons, List.map_nil, Option.map_some, Option.map_none, List.nil_append, ↓reduceIte, vcu, ↓vcd, opK_some, Bool.not_true, Bool.not_false, k1, k2, k4, k5, l5, lB, lD, co24]
    refine fin_one Try.results5 ?_
    simp -implicitDefEqProofs (disch := omega) only [List.any_cons, List.any_nil, Nat.reduceEqDiff, List.map_cons, List.map_nil, Option.map_some, Option.map_none, List.nil_append, ↓reduceIte, vcu, ↓vcd]
  · have qC := eql_frac_true (C1 (by omega) (by omega))
    simp -implicitDefEqProofs (disch := omega) only [List.any_cons, List.any_nil, Nat.reduceEqDiff, List.map_cons, List.map_nil, Option.map_some, Option.map_none, List.nil_append, ↓reduceIte, vcu, ↓vcd, Bool.not_true, Bool.not_false, k1, k2, k4, k5, l5, lB, lD, co24, qC]
    refine (implFL_at w0 τ5 _ _ _ _).mono ?_
    rintro r _ ⟨rfl, rfl⟩
    rename_i τ5
    rw [decide_eq_true (B1 (by omega) (by omega))]
    simp -implicitDefEqProofs (disch := omega) only [List.any_cons, List.any_nil, Nat.reduceEqDiff, List.map_cons, List.map_nil, Option.map_some, Option.map_none, List.nil_append, ↓reduceIte, vcu, ↓vcd, opK_some, Bool.not_true, Bool.not_false, k1, k2, k4, k5, l5, lB, lD, co24, qC]
    rw [r_build]
    refine ⟨(_, #[.int .i64 0, .int .i64 1]), ⟨ze24, by simp -implicitDefEqProofs (disch := omega) only [List.any_cons, List.any_nil, Nat.reduceEqDiff, List.map_cons, List.map_nil, Option.map_some, Option.map_none, List.nil_append, ↓reduceIte, vcu, ↓vcd]; kernel_rfl⟩, ?_⟩
    simp -implicitDefEqProofs (disch := omega) only [List.any_cons, List.any_nil, Nat.reduceEqDiff, List.map_cons, List.map_nil, Option.map_some, Option.map_none, List.nil_append, ↓reduceIte, vcu, ↓vcd, Bool.not_true, Bool.not_false, k1, k2, k4, k5, l5, lB, lD, co24, qC]
    refine fin_one Try.results5 ?_
    simp -implicitDefEqProofs (disch := omega) only [List.any_cons, List.any_nil, Nat.reduceEqDiff, List.map_cons, List.map_nil, Option.map_some, Option.map_none, List.nil_append, ↓reduceIte, vcu, ↓vcd]
  · simp -implicitDefEqProofs (disch := omega) only [List.any_cons, List.any_nil, Nat.reduceEqDiff, List.map_cons, List.map_nil, Option.map_some, Option.map_none, List.nil_append, ↓reduceIte, vcu, ↓vcd, Bool.not_true, Bool.not_false, k1, k2, k4, k5, l5, lB, lD, co24]
    refine (implFL_at w0 τ5 _ _ _ _).mono ?_
    rintro r _ ⟨rfl, rfl⟩
    rename_i τ5
    rw [decide_eq_true (B1 (by omega) (by omega))]
    simp -implicitDefEqProofs (disch := omega) only [List.any_cons, List.any_nil, Nat.reduceEqDiff, List.map_cons, List.map_nil, Option.map_some, Option.map_none, List.nil_append, ↓reduceIte, vcu, ↓vcd, opK_some, Bool.not_true, Bool.not_false, k1, k2, k4, k5, l5, lB, lD, co24]
    refine fin_one Try.results5 ?_
    simp -implicitDefEqProofs (disch := omega) only [List.any_cons, List.any_nil, Nat.reduceEqDiff, List.map_cons, List.map_nil, Option.map_some, Option.map_none, List.nil_append, ↓reduceIte, vcu, ↓vcd]
  · simp -implicitDefEqProofs (disch := omega) only [List.any_cons, List.any_nil, Nat.reduceEqDiff, List.map_cons, List.map_nil, Option.map_some, Option.map_none, List.nil_append, ↓reduceIte, vcu, ↓vcd, Bool.not_true, Bool.not_false, k1, k2, k4, k5, l5, lB, lD, co24]
    refine fin_one Try.results5 ?_
    simp -implicitDefEqProofs (disch := omega) only [List.any_cons, List.any_nil, Nat.reduceEqDiff, List.map_cons, List.map_nil, Option.map_some, Option.map_none, List.nil_append, ↓reduceIte, vcu, ↓vcd]

open Go.ChangeShapes Go.WideShapes Go.ChangeAt Go.RowKit

set_option maxRecDepth 100000 in
theorem lifted5 (os : Os) (started : os.Started) (H : Type) (enc : TypeId × Value → H) :
    ReturnsInHanded {} Try.checked os 5 .any (Rows.fnLostPartSpec.pre6 enc Try.prog Try.f5 Rows.fnLostPartRow.domain false) (Rows.fnLostPartSpec.post enc Try.prog Try.f5 false true false false) := by
  refine returnsInHanded_of_change (C := Try.checked) own started (by kernel_rfl) Try.func5
    (ChangeSpec.witness6 (enc := enc) (C := Try.checked) false ⟨#[], #[.slice none 0 0], []⟩ 8 (by kernel_rfl) (by kernel_rfl) (by kernel_rfl) (by kernel_rfl)) ?_
  intro W base args ds gs before hval hW _ _
  have hW' := hW
  obtain ⟨p, q, hA, hV, -, -, -⟩ := hW'
  rw [Try.params5] at hA hval
  obtain ⟨v0, vs0, d0, ds0, p0, q0, hargs, rfl, rfl, h0, r0⟩ := trodAll_cons hA
  obtain ⟨rfl, rfl, rfl⟩ := trodAll_nil r0
  obtain ⟨rfl, rfl⟩ := trodVars_none hV
  obtain rfl : args = #[v0] := by cases args; simp_all
  obtain ⟨β0, σ0, a0, zs0, L0, U0, S0, R0, I0, w0, m0⟩ := start_ints Try.underlying22 Try.underlying5 co5 (Start.start W) (hval 0 22 v0 rfl rfl) h0
  refine ((law5 σ0 a0 zs0 (I0) m0 w0).2 noProt β0 W [v0] S0.rel (.cons R0 (.nil _))).mono fun e W' h => ?_
  obtain ⟨β', r, r', σ', -, rfl, hr, hrel, rfl⟩ := h
  cases hr
  exact ⟨_, rfl, law_post laidOut hW rfl rfl (by rw [Try.params5]; intro t ht; simp only [List.mem_cons, List.not_mem_nil, or_false, or_self] at ht; rcases ht with rfl <;> exact ⟨by kernel_rfl, of_decide_eq_true (by kernel_rfl)⟩) rfl Try.underlying4 hrel.below⟩

theorem facts5 : joinedFacts Try.prog 5 Try.f5 Rows.fnLostPartSpec Rows.fnLostPartRow = true := by
  unfold joinedFacts
  rw [mayE, liftsE, makeE]
  kernel_rfl

theorem proved5 : Rows.FnLostPartSaid :=
  OpenClaim.holds_of_wide 5 Try.f5 rfl rfl rfl rfl rfl rfl rfl ⟨rfl, rfl, rfl, rfl, rfl⟩ rfl rfl rfl rfl rfl (by kernel_rfl) Try.func5 facts5 (of_decide_eq_true (by kernel_rfl))
    (by unfold Func.isWrapper; first | (rw [if_pos (by decide +kernel)]; kernel_rfl) | (rw [if_neg (by decide +kernel)]; exact ⟨rfl, rfl⟩))
    (fun os started H enc _ => lifted5 os started H enc)


end Go.Proofs.Ytkepicmefpcgaaa
