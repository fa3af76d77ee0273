/- Fractions: what is valid, what is less, lowest terms (the reference). -/
import Derived.Test.YtkepicmefpcgaaaGa
import Derived.Test.YtkepicmefpcgaaaYa
set_option linter.unusedSimpArgs false
set_option linter.unusedVariables false
namespace Go.Proofs.Ytkepicmefpcgaaa
open Go Go.Abs Go.RowKit
variable {w0 : World}

theorem fin_ct7 {P : Program} {fn : Func} {R : Value → AHeap → Prop} {a : AFrame} {σ : AHeap} {t u : Nat} {ty : TypeId} {v : Value} (h : fn.results = #[.cell t ty, .tmp u]) (σ'' : AHeap) (hs : Sub σ'' σ) (hv : aload P σ ty (a t) = some v) (hr : R (.tuple #[v, a u]) σ'') : finC P fn R a σ :=
  ⟨[v, a u], σ'', by simp [h, rvals, hv], hs, hr⟩
theorem fin_tc7 {P : Program} {fn : Func} {R : Value → AHeap → Prop} {a : AFrame} {σ : AHeap} {t u : Nat} {ty : TypeId} {v : Value} (h : fn.results = #[.tmp u, .cell t ty]) (σ'' : AHeap) (hs : Sub σ'' σ) (hv : aload P σ ty (a t) = some v) (hr : R (.tuple #[a u, v]) σ'') : finC P fn R a σ :=
  ⟨[a u, v], σ'', by simp [h, rvals, hv], hs, hr⟩
theorem fin_cc7 {P : Program} {fn : Func} {R : Value → AHeap → Prop} {a : AFrame} {σ : AHeap} {t u : Nat} {ty ty2 : TypeId} {v w : Value} (h : fn.results = #[.cell t ty, .cell u ty2]) (σ'' : AHeap) (hs : Sub σ'' σ) (hv : aload P σ ty (a t) = some v) (hw : aload P σ ty2 (a u) = some w) (hr : R (.tuple #[v, w]) σ'') : finC P fn R a σ :=
  ⟨[v, w], σ'', by simp [h, rvals, hv, hw], hs, hr⟩

/-- a fraction as a value -/
def frac (x y : Int) : Value := .agg #[.int .i64 x, .int .i64 y]
def FV (x y : Int) : Prop := (0 ≤ x ∧ x ≤ 1000000000) ∧ (1 ≤ y ∧ y ≤ 1000000000)
instance (x y : Int) : Decidable (FV x y) := by unfold FV; infer_instance
def FLs (x y z w : Int) : Prop := FV x y ∧ FV z w ∧ x * w < z * y
instance (x y z w : Int) : Decidable (FLs x y z w) := by unfold FLs; infer_instance
theorem cross_le {x y : Int} (hx : 0 ≤ x ∧ x ≤ 1000000000) (hy : 1 ≤ y ∧ y ≤ 1000000000) : 0 ≤ x * y ∧ x * y ≤ 1000000000000000000 :=
  ⟨Int.mul_nonneg hx.1 (by omega), by have := Int.mul_le_mul hx.2 hy.2 (by omega) (by omega); omega⟩

theorem specFV_at (σ : AHeap) (x y : Int) : ACall Try.prog w0 19 [.agg #[.int .i64 x, .int .i64 y]] σ fun r σ' => r = .bool (decide (FV x y)) ∧ σ' = σ := by
  refine acall_go mixed Try.func19 rfl good19 fun pr => ?_
  simp -implicitDefEqProofs (disch := omega) only [List.any_cons, List.any_nil, Nat.reduceEqDiff, List.map_cons, List.map_nil, Option.map_some, Option.map_none, List.nil_append, ↓reduceIte, vcu, ↓vcd]
  refine r_boxed fun h1 τ1 n1 s1 e1 => ?_
  replace e1 : τ1 h1 = some ⟨[.int .i64 x, .int .i64 y], false⟩ := e1
  have l0 : ld τ1 h1 (0 + 0) = some (.int .i64 x) := ld_of e1 rfl
  have l1 : ld τ1 h1 (0 + 1) = some (.int .i64 y) := ld_of e1 rfl
  simp -implicitDefEqProofs (disch := omega) only [List.any_cons, List.any_nil, Nat.reduceEqDiff, List.map_cons, List.map_nil, Option.map_some, Option.map_none, List.nil_append, ↓reduceIte, vcu, ↓vcd, l0, l1]
  refine (in_calls _ _ _ _).mono ?_
  rintro r _ ⟨rfl, rfl⟩
  rename_i τ1
  by_cases h : 0 ≤ x ∧ x ≤ 1000000000
  · rw [decide_eq_true h]
    simp -implicitDefEqProofs (disch := omega) only [List.any_cons, List.any_nil, Nat.reduceEqDiff, List.map_cons, List.map_nil, Option.map_some, Option.map_none, List.nil_append, ↓reduceIte, vcu, ↓vcd, opK_some, l1]
    refine (in_calls _ _ _ _).mono ?_
    rintro r _ ⟨rfl, rfl⟩
    simp -implicitDefEqProofs (disch := omega) only [List.any_cons, List.any_nil, Nat.reduceEqDiff, List.map_cons, List.map_nil, Option.map_some, Option.map_none, List.nil_append, ↓reduceIte, vcu, ↓vcd, opK_some]
    refine fin_drop Try.results19 σ s1 ⟨?_, rfl⟩
    simp -implicitDefEqProofs (disch := omega) only [List.any_cons, List.any_nil, Nat.reduceEqDiff, List.map_cons, List.map_nil, Option.map_some, Option.map_none, List.nil_append, ↓reduceIte, vcu, ↓vcd]
    simp [FV, h]
  · rw [decide_eq_false h]
    simp -implicitDefEqProofs (disch := omega) only [List.any_cons, List.any_nil, Nat.reduceEqDiff, List.map_cons, List.map_nil, Option.map_some, Option.map_none, List.nil_append, ↓reduceIte, vcu, ↓vcd, opK_some]
    refine fin_drop Try.results19 σ s1 ⟨?_, rfl⟩
    simp -implicitDefEqProofs (disch := omega) only [List.any_cons, List.any_nil, Nat.reduceEqDiff, List.map_cons, List.map_nil, Option.map_some, Option.map_none, List.nil_append, ↓reduceIte, vcu, ↓vcd]
    simp [FV, h]
theorem specFL_at (σ : AHeap) (x y z w : Int) : ACall Try.prog w0 23 [.agg #[.int .i64 x, .int .i64 y], .agg #[.int .i64 z, .int .i64 w]] σ fun r σ' => r = .bool (decide (FLs x y z w)) ∧ σ' = σ := by
  refine acall_go mixed Try.func23 rfl good23 fun pr => ?_
  simp -implicitDefEqProofs (disch := omega) only [List.any_cons, List.any_nil, Nat.reduceEqDiff, List.map_cons, List.map_nil, Option.map_some, Option.map_none, List.nil_append, ↓reduceIte, vcu, ↓vcd]
  refine r_boxed fun h1 τ1 n1 s1 e1 => ?_
  replace e1 : τ1 h1 = some ⟨[.int .i64 x, .int .i64 y], false⟩ := e1
  refine r_boxed fun h2 τ2 n2 s2 e2 => ?_
  replace e2 : τ2 h2 = some ⟨[.int .i64 z, .int .i64 w], false⟩ := by rw [e2]; simp -implicitDefEqProofs (disch := omega) only [List.any_cons, List.any_nil, Nat.reduceEqDiff, List.map_cons, List.map_nil, Option.map_some, Option.map_none, List.nil_append, ↓reduceIte, vcu, ↓vcd]; rfl
  have s12 := s1.trans s2
  replace e1 := s2 _ _ e1
  have l0 : ld τ2 h1 (0 + 0) = some (.int .i64 x) := ld_of e1 rfl
  have l1 : ld τ2 h1 (0 + 1) = some (.int .i64 y) := ld_of e1 rfl
  have m0 : ld τ2 h2 (0 + 0) = some (.int .i64 z) := ld_of e2 rfl
  have m1 : ld τ2 h2 (0 + 1) = some (.int .i64 w) := ld_of e2 rfl
  have ll : lds τ2 h1 0 2 = some [.int .i64 x, .int .i64 y] := lds_two (ld_of e1 rfl) (ld_of e1 rfl)
  have mm : lds τ2 h2 0 2 = some [.int .i64 z, .int .i64 w] := lds_two (ld_of e2 rfl) (ld_of e2 rfl)
  simp -implicitDefEqProofs (disch := omega) only [List.any_cons, List.any_nil, Nat.reduceEqDiff, List.map_cons, List.map_nil, Option.map_some, Option.map_none, List.nil_append, ↓reduceIte, vcu, ↓vcd, ll, co24]
  refine (specFV_at τ2 x y).mono ?_
  rintro r _ ⟨rfl, rfl⟩
  rename_i τ2
  by_cases h : FV x y
  case neg =>
    rw [decide_eq_false h]
    simp -implicitDefEqProofs (disch := omega) only [List.any_cons, List.any_nil, Nat.reduceEqDiff, List.map_cons, List.map_nil, Option.map_some, Option.map_none, List.nil_append, ↓reduceIte, vcu, ↓vcd, opK_some]
    refine fin_drop Try.results23 σ s12 ⟨?_, rfl⟩
    simp -implicitDefEqProofs (disch := omega) only [List.any_cons, List.any_nil, Nat.reduceEqDiff, List.map_cons, List.map_nil, Option.map_some, Option.map_none, List.nil_append, ↓reduceIte, vcu, ↓vcd]
    simp [FLs, h]
  rw [decide_eq_true h]
  simp -implicitDefEqProofs (disch := omega) only [List.any_cons, List.any_nil, Nat.reduceEqDiff, List.map_cons, List.map_nil, Option.map_some, Option.map_none, List.nil_append, ↓reduceIte, vcu, ↓vcd, opK_some, mm, co24]
  refine (specFV_at τ2 z w).mono ?_
  rintro r _ ⟨rfl, rfl⟩
  rename_i τ2
  by_cases h' : FV z w
  case neg =>
    rw [decide_eq_false h']
    simp -implicitDefEqProofs (disch := omega) only [List.any_cons, List.any_nil, Nat.reduceEqDiff, List.map_cons, List.map_nil, Option.map_some, Option.map_none, List.nil_append, ↓reduceIte, vcu, ↓vcd, opK_some]
    refine fin_drop Try.results23 σ s12 ⟨?_, rfl⟩
    simp -implicitDefEqProofs (disch := omega) only [List.any_cons, List.any_nil, Nat.reduceEqDiff, List.map_cons, List.map_nil, Option.map_some, Option.map_none, List.nil_append, ↓reduceIte, vcu, ↓vcd]
    simp [FLs, h']
  rw [decide_eq_true h']
  have c1 := cross_le h.1 h'.2
  have c2 := cross_le h'.1 h.2
  simp -implicitDefEqProofs (disch := omega) only [List.any_cons, List.any_nil, Nat.reduceEqDiff, List.map_cons, List.map_nil, Option.map_some, Option.map_none, List.nil_append, ↓reduceIte, vcu, ↓vcd, opK_some, l0, l1, m0, m1]
  refine fin_drop Try.results23 σ s12 ⟨?_, rfl⟩
  simp -implicitDefEqProofs (disch := omega) only [List.any_cons, List.any_nil, Nat.reduceEqDiff, List.map_cons, List.map_nil, Option.map_some, Option.map_none, List.nil_append, ↓reduceIte, vcu, ↓vcd]
  simp [FLs, h, h']

theorem specGcd_at (σ : AHeap) (a b : Nat) (ha : a ≤ 1000000000000) (hb : b ≤ 1000000000000) : ACall Try.prog w0 58 [.int .i64 a, .int .i64 b] σ fun r σ' => r = .int .i64 (Nat.gcd a b) ∧ σ' = σ := by
  refine acall_go mixed Try.func58 rfl good58 fun pr => ?_
  simp -implicitDefEqProofs (disch := omega) only [List.any_cons, List.any_nil, Nat.reduceEqDiff, List.map_cons, List.map_nil, Option.map_some, Option.map_none, List.nil_append, ↓reduceIte, vcu, ↓vcd]
  refine vc_loop mixed (by kernel_rfl) (fun m f σ' => ∃ A : Nat, f 0 = .int .i64 A ∧ f 1 = .int .i64 m ∧ Nat.gcd A m = Nat.gcd a b ∧ A ≤ 1000000000000 ∧ m ≤ 1000000000000 ∧ σ' = σ) b ⟨a, rfl, rfl, rfl, ha, hb, rfl⟩ ?_
  rintro B f σ' ⟨A, h0, h1, hg, hA, hB, rfl⟩
  by_cases hz : B = 0
  · subst hz
    rw [Nat.gcd_zero_right] at hg
    simp -implicitDefEqProofs (disch := omega) only [List.any_cons, List.any_nil, Nat.reduceEqDiff, List.map_cons, List.map_nil, Option.map_some, Option.map_none, List.nil_append, ↓reduceIte, vcu, ↓vcd, h0, h1, ne_eq, not_true_eq_false, decide_false, Int.natCast_zero]
    refine fin_one Try.results58 ⟨?_, rfl⟩
    simp -implicitDefEqProofs (disch := omega) only [List.any_cons, List.any_nil, Nat.reduceEqDiff, List.map_cons, List.map_nil, Option.map_some, Option.map_none, List.nil_append, ↓reduceIte, vcu, ↓vcd, h0]
    rw [hg]
  · have hne : ¬ (B : Int) = 0 := by omega
    have hm : (A : Int) % (B : Int) = ((A % B : Nat) : Int) := by simp
    have hl : A % B < B := Nat.mod_lt _ (by omega)
    simp -implicitDefEqProofs (disch := omega) only [List.any_cons, List.any_nil, Nat.reduceEqDiff, List.map_cons, List.map_nil, Option.map_some, Option.map_none, List.nil_append, ↓reduceIte, vcu, ↓vcd, h0, h1, ne_eq, hne, not_false_eq_true, decide_true, hm]
    refine ⟨A % B, hl, B, rfl, rfl, ?_, by omega, by omega, trivial⟩
    rw [Nat.gcd_comm B (A % B), ← Nat.gcd_rec, Nat.gcd_comm, hg]
theorem specLow_at (σ : AHeap) (a b : Nat) (ha : a ≤ 1000000000000) (hb : b ≤ 1000000000000) (h0 : 0 < b) : ACall Try.prog w0 55 [.int .i64 a, .int .i64 b] σ fun r σ' => r = .agg #[.int .i64 (low a b).1, .int .i64 (low a b).2] ∧ σ' = σ := by
  refine acall_goc mixed Try.func55 rfl goodc55 fun pr => ?_
  simp -implicitDefEqProofs (disch := omega) only [List.any_cons, List.any_nil, Nat.reduceEqDiff, List.map_cons, List.map_nil, Option.map_some, Option.map_none, List.nil_append, ↓reduceIte, vcu, ↓vcd]
  refine r_new ze24 fun c4 τ1 n4 s1 e4 => ?_
  replace e4 : τ1 c4 = some ⟨[.int .i64 0, .int .i64 0], false⟩ := e4
  simp -implicitDefEqProofs (disch := omega) only [List.any_cons, List.any_nil, Nat.reduceEqDiff, List.map_cons, List.map_nil, Option.map_some, Option.map_none, List.nil_append, ↓reduceIte, vcu, ↓vcd]
  refine (specGcd_at τ1 a b ha hb).mono ?_
  rintro r _ ⟨rfl, rfl⟩
  rename_i τ1
  have hg : 0 < Nat.gcd a b := Nat.gcd_pos_of_pos_right _ h0
  have q1 : (a : Int) / (Nat.gcd a b : Int) = (((low a b).1 : Nat) : Int) := by simp [low]
  have q2 : (b : Int) / (Nat.gcd a b : Int) = (((low a b).2 : Nat) : Int) := by simp [low]
  generalize Nat.gcd a b = g at *
  generalize (low a b).1 = x at *
  generalize (low a b).2 = y at *
  simp -implicitDefEqProofs (disch := omega) only [List.any_cons, List.any_nil, Nat.reduceEqDiff, List.map_cons, List.map_nil, Option.map_some, Option.map_none, List.nil_append, ↓reduceIte, vcu, ↓vcd, opK_some]
  refine region_tree mixed (quiets [0, 1, 2, 3, 4, 5] (.one 6 (.one 7 .stop))) [] (by kernel_rfl) (by kernel_rfl) (fun p hp => by cases hp) ?_
  refine tree_quiets (fun _ => none) _ _ _ sf0 (by kernel_rfl) (by kernel_rfl) ?_
  simp -implicitDefEqProofs (disch := omega) only [List.any_cons, List.any_nil, Nat.reduceEqDiff, List.map_cons, List.map_nil, Option.map_some, Option.map_none, List.nil_append, ↓reduceIte, vcu, ↓vcd, pickOps_nil, pickOps_cons, pickO_some, List.getElem?_cons_succ, List.getElem?_cons_zero, q1, q2]
  refine tree_one rfl ?_
  rw [r_build]
  refine ⟨(_, #[.int .i64 x, .int .i64 y]), ⟨ze24, by simp -implicitDefEqProofs (disch := omega) only [List.any_cons, List.any_nil, Nat.reduceEqDiff, List.map_cons, List.map_nil, Option.map_some, Option.map_none, List.nil_append, ↓reduceIte, vcu, ↓vcd]; kernel_rfl⟩, ?_⟩
  simp -implicitDefEqProofs (disch := omega) only [List.any_cons, List.any_nil, Nat.reduceEqDiff, List.map_cons, List.map_nil, Option.map_some, Option.map_none, List.nil_append, ↓reduceIte, vcu, ↓vcd]
  refine ⟨keep_of rfl (fun p hp => by cases hp), tree_one rfl ?_⟩
  refine r_sets (g := c4) (i := 0) (C := [.int .i64 0, .int .i64 0]) (by simp -implicitDefEqProofs (disch := omega) only [List.any_cons, List.any_nil, Nat.reduceEqDiff, List.map_cons, List.map_nil, Option.map_some, Option.map_none, List.nil_append, ↓reduceIte, vcu, ↓vcd]) (by simp -implicitDefEqProofs (disch := omega) only [List.any_cons, List.any_nil, Nat.reduceEqDiff, List.map_cons, List.map_nil, Option.map_some, Option.map_none, List.nil_append, ↓reduceIte, vcu, ↓vcd, co24]; rfl) (by simp -implicitDefEqProofs (disch := omega) only [List.any_cons, List.any_nil, Nat.reduceEqDiff, List.map_cons, List.map_nil, Option.map_some, Option.map_none, List.nil_append, ↓reduceIte, vcu, ↓vcd]; rfl) (by simp -implicitDefEqProofs (disch := omega) only [List.any_cons, List.any_nil, Nat.reduceEqDiff, List.map_cons, List.map_nil, Option.map_some, Option.map_none, List.nil_append, ↓reduceIte, vcu, ↓vcd]; exact Nat.zero_lt_succ _) e4 (by simp -implicitDefEqProofs (disch := omega) only [List.any_cons, List.any_nil, Nat.reduceEqDiff, List.map_cons, List.map_nil, Option.map_some, Option.map_none, List.nil_append, ↓reduceIte, vcu, ↓vcd]; exact Nat.le_refl _) fun τ2 k2 e2 => ?_
  replace e2 : τ2 c4 = some ⟨[.int .i64 x, .int .i64 y], false⟩ := e2
  have l2 : lds τ2 c4 0 2 = some [.int .i64 x, .int .i64 y] := lds_two (ld_of e2 rfl) (ld_of e2 rfl)
  simp -implicitDefEqProofs (disch := omega) only [List.any_cons, List.any_nil, Nat.reduceEqDiff, List.map_cons, List.map_nil, Option.map_some, Option.map_none, List.nil_append, ↓reduceIte, vcu, ↓vcd]
  refine ⟨keep_of rfl (fun p hp => by cases hp), tree_stop ?_⟩
  simp -implicitDefEqProofs (disch := omega) only [List.any_cons, List.any_nil, Nat.reduceEqDiff, List.map_cons, List.map_nil, Option.map_some, Option.map_none, List.nil_append, ↓reduceIte, vcu, ↓vcd]
  refine fin_cell Try.results55 σ (k2.sub s1 n4) (v := .agg #[.int .i64 x, .int .i64 y]) (by simp -implicitDefEqProofs (disch := omega) only [List.any_cons, List.any_nil, Nat.reduceEqDiff, List.map_cons, List.map_nil, Option.map_some, Option.map_none, List.nil_append, ↓reduceIte, vcu, ↓vcd, l2, co24]) ⟨rfl, rfl⟩
end Go.Proofs.Ytkepicmefpcgaaa
