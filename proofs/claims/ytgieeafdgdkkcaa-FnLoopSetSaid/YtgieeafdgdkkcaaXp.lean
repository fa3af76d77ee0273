/- LoopRun of the reference and of the program. -/
import Derived.Test.YtgieeafdgdkkcaaXo
set_option linter.unusedSimpArgs false
set_option linter.unusedVariables false
namespace Go.Proofs.Ytgieeafdgdkkcaa
open Go Go.Abs Go.RowKit Go.Ban
variable {w0 : World}

theorem b_tf : (true == false) = false := rfl
theorem b_ft : (false == true) = false := rfl
def LOk (z : Int) (set : List Bool) : Prop := lgOf z ≠ 0 ∧ (set.length : Int) = loopV z
instance (z : Int) (set : List Bool) : Decidable (LOk z set) := by unfold LOk; infer_instance
def lrV (z : Int) (set : List Bool) : List Int := if LOk z set then lrN (lgOf z - 1) set else []
theorem lrV_no {z : Int} {set : List Bool} (h : ¬ LOk z set) : lrV z set = [] := by unfold lrV; rw [if_neg h]
theorem LOk.ls {z : Int} {set : List Bool} (h : LOk z set) : ∃ l, l ≤ 2 ∧ z = ((2 ^ (l + 1) : Nat) : Int) ∧ set.length = many (l + 1) ∧ lrV z set = lrN l set := by
  obtain ⟨L, rfl, hL⟩ := lgOf_ls h.1
  obtain ⟨l, h1, h2, h3⟩ := ls_lvl hL
  have h4 := h.2
  rw [loopV_ls hL, h2] at h4
  refine ⟨l, h1, by rw [h3], by omega, ?_⟩
  unfold lrV; rw [if_pos h, h2]; rfl
theorem lrV_ls {l : Nat} (hl : l ≤ 2) {set : List Bool} (hs : set.length = many (l + 1)) : LOk ((2 ^ (l + 1) : Nat) : Int) set ∧ lrV ((2 ^ (l + 1) : Nat) : Int) set = lrN l set := by
  have hL := lvl hl
  have h1 := lgOf_of hL
  have hk : LOk ((2 ^ (l + 1) : Nat) : Int) set := ⟨by omega, by rw [loopV_ls hL, hs]⟩
  refine ⟨hk, ?_⟩
  unfold lrV; rw [if_pos hk, h1]; rfl
theorem lrV_length (z : Int) (set : List Bool) : (lrV z set).length ≤ 8 := by
  by_cases h : LOk z set
  · obtain ⟨l, h1, _, _, h4⟩ := h.ls
    rw [h4, lrN_length]
    have : l = 0 ∨ l = 1 ∨ l = 2 := by omega
    rcases this with rfl | rfl | rfl <;> decide
  · rw [lrV_no h]; simp

theorem specLoopRun_at (σ : AHeap) (z : Int) (h o : Nat) (set : List Bool) (hv : BoolsAt σ h o set) (hl : set.length ≤ 1048576) :
    ACall Try.prog w0 27 [.int .i64 z, .slice (some ⟨h, o, none⟩) set.length 1] σ fun r σ' => Sub σ σ' ∧ OwnI σ σ' r (lrV z set) := by
  refine acall_go mixed Try.func27 rfl good27 fun pr => ?_
  simp -implicitDefEqProofs (disch := omega) only [List.any_cons, List.any_nil, Nat.reduceEqDiff, List.map_cons, List.map_nil, Option.map_some, Option.map_none, List.nil_append, ↓reduceIte, vcu0, vcu1, vcu2, vcu3, vcu4, vcu5, vcu6, vcu7, vcu8, vcu9, vcu10, vcu11, vcu12, vcu13, vcu14, vcu15, vcu16, vcu17, vcu18, vcu19, vcu20, vcu21, vcu22, ↓vcd0, ↓vcd1, ↓vcd2, ↓vcd3]
  refine (l3Lines_at σ _).mono ?_
  rintro r _ ⟨rfl, rfl⟩
  rename_i σ
  by_cases hz : lgOf z = 0
  · have e : decide (lgOf z ≠ 0) = false := by simp [hz]
    rw [e, lrV_no (fun hR : LOk z set => hR.1 hz)]
    simp -implicitDefEqProofs (disch := omega) only [List.any_cons, List.any_nil, Nat.reduceEqDiff, List.map_cons, List.map_nil, Option.map_some, Option.map_none, List.nil_append, ↓reduceIte, vcu0, vcu1, vcu2, vcu3, vcu4, vcu5, vcu6, vcu7, vcu8, vcu9, vcu10, vcu11, vcu12, vcu13, vcu14, vcu15, vcu16, vcu17, vcu18, vcu19, vcu20, vcu21, vcu22, ↓vcd0, ↓vcd1, ↓vcd2, ↓vcd3, opK_some, Bool.not_false]
    refine r_lit el30 (out := #[]) (by kernel_rfl) (by kernel_rfl) fun e0 τ n0 s0 v0 => ?_
    simp -implicitDefEqProofs (disch := omega) only [List.any_cons, List.any_nil, Nat.reduceEqDiff, List.map_cons, List.map_nil, Option.map_some, Option.map_none, List.nil_append, ↓reduceIte, vcu0, vcu1, vcu2, vcu3, vcu4, vcu5, vcu6, vcu7, vcu8, vcu9, vcu10, vcu11, vcu12, vcu13, vcu14, vcu15, vcu16, vcu17, vcu18, vcu19, vcu20, vcu21, vcu22, ↓vcd0, ↓vcd1, ↓vcd2, ↓vcd3]
    refine fin_one Try.results27 ⟨s0, .inr ⟨e0, ?_, v0, n0⟩⟩
    simp -implicitDefEqProofs (disch := omega) only [List.any_cons, List.any_nil, Nat.reduceEqDiff, List.map_cons, List.map_nil, Option.map_some, Option.map_none, List.nil_append, ↓reduceIte, vcu0, vcu1, vcu2, vcu3, vcu4, vcu5, vcu6, vcu7, vcu8, vcu9, vcu10, vcu11, vcu12, vcu13, vcu14, vcu15, vcu16, vcu17, vcu18, vcu19, vcu20, vcu21, vcu22, ↓vcd0, ↓vcd1, ↓vcd2, ↓vcd3]
    rfl
  have e : decide (lgOf z ≠ 0) = true := by simp [hz]
  rw [e]
  clear e
  simp -implicitDefEqProofs (disch := omega) only [List.any_cons, List.any_nil, Nat.reduceEqDiff, List.map_cons, List.map_nil, Option.map_some, Option.map_none, List.nil_append, ↓reduceIte, vcu0, vcu1, vcu2, vcu3, vcu4, vcu5, vcu6, vcu7, vcu8, vcu9, vcu10, vcu11, vcu12, vcu13, vcu14, vcu15, vcu16, vcu17, vcu18, vcu19, vcu20, vcu21, vcu22, ↓vcd0, ↓vcd1, ↓vcd2, ↓vcd3, opK_some, Bool.not_true]
  refine (specLoopMany_at σ z).mono ?_
  rintro r _ ⟨rfl, rfl⟩
  rename_i σ
  by_cases hR : LOk z set
  case neg =>
    have hne : ¬ (set.length : Int) = loopV z := fun e => hR ⟨hz, e⟩
    rw [lrV_no hR]
    simp -implicitDefEqProofs (disch := omega) only [List.any_cons, List.any_nil, Nat.reduceEqDiff, List.map_cons, List.map_nil, Option.map_some, Option.map_none, List.nil_append, ↓reduceIte, vcu0, vcu1, vcu2, vcu3, vcu4, vcu5, vcu6, vcu7, vcu8, vcu9, vcu10, vcu11, vcu12, vcu13, vcu14, vcu15, vcu16, vcu17, vcu18, vcu19, vcu20, vcu21, vcu22, ↓vcd0, ↓vcd1, ↓vcd2, ↓vcd3, opK_some]
    refine r_lit el30 (out := #[]) (by kernel_rfl) (by kernel_rfl) fun e0 τ n0 s0 v0 => ?_
    simp -implicitDefEqProofs (disch := omega) only [List.any_cons, List.any_nil, Nat.reduceEqDiff, List.map_cons, List.map_nil, Option.map_some, Option.map_none, List.nil_append, ↓reduceIte, vcu0, vcu1, vcu2, vcu3, vcu4, vcu5, vcu6, vcu7, vcu8, vcu9, vcu10, vcu11, vcu12, vcu13, vcu14, vcu15, vcu16, vcu17, vcu18, vcu19, vcu20, vcu21, vcu22, ↓vcd0, ↓vcd1, ↓vcd2, ↓vcd3]
    refine fin_one Try.results27 ⟨s0, .inr ⟨e0, ?_, v0, n0⟩⟩
    simp -implicitDefEqProofs (disch := omega) only [List.any_cons, List.any_nil, Nat.reduceEqDiff, List.map_cons, List.map_nil, Option.map_some, Option.map_none, List.nil_append, ↓reduceIte, vcu0, vcu1, vcu2, vcu3, vcu4, vcu5, vcu6, vcu7, vcu8, vcu9, vcu10, vcu11, vcu12, vcu13, vcu14, vcu15, vcu16, vcu17, vcu18, vcu19, vcu20, vcu21, vcu22, ↓vcd0, ↓vcd1, ↓vcd2, ↓vcd3]
    rfl
  have he := hR.2
  obtain ⟨l, hl2, rfl, hsl, hrv⟩ := hR.ls
  rw [hrv]
  simp -implicitDefEqProofs (disch := omega) only [List.any_cons, List.any_nil, Nat.reduceEqDiff, List.map_cons, List.map_nil, Option.map_some, Option.map_none, List.nil_append, ↓reduceIte, vcu0, vcu1, vcu2, vcu3, vcu4, vcu5, vcu6, vcu7, vcu8, vcu9, vcu10, vcu11, vcu12, vcu13, vcu14, vcu15, vcu16, vcu17, vcu18, vcu19, vcu20, vcu21, vcu22, ↓vcd0, ↓vcd1, ↓vcd2, ↓vcd3, opK_some, he, ne_eq, not_true_eq_false, decide_false]
  refine (specLr_at l hl2 σ h o set hv hsl).mono ?_
  rintro v τ ⟨s1, w1⟩
  simp -implicitDefEqProofs (disch := omega) only [List.any_cons, List.any_nil, Nat.reduceEqDiff, List.map_cons, List.map_nil, Option.map_some, Option.map_none, List.nil_append, ↓reduceIte, vcu0, vcu1, vcu2, vcu3, vcu4, vcu5, vcu6, vcu7, vcu8, vcu9, vcu10, vcu11, vcu12, vcu13, vcu14, vcu15, vcu16, vcu17, vcu18, vcu19, vcu20, vcu21, vcu22, ↓vcd0, ↓vcd1, ↓vcd2, ↓vcd3, opK_some]
  refine fin_one Try.results27 ⟨s1, ?_⟩
  simp -implicitDefEqProofs (disch := omega) only [List.any_cons, List.any_nil, Nat.reduceEqDiff, List.map_cons, List.map_nil, Option.map_some, Option.map_none, List.nil_append, ↓reduceIte, vcu0, vcu1, vcu2, vcu3, vcu4, vcu5, vcu6, vcu7, vcu8, vcu9, vcu10, vcu11, vcu12, vcu13, vcu14, vcu15, vcu16, vcu17, vcu18, vcu19, vcu20, vcu21, vcu22, ↓vcd0, ↓vcd1, ↓vcd2, ↓vcd3]
  exact w1

theorem isOdd_at (σ : AHeap) (k : Nat) : ACall Try.prog w0 62 [.int .i64 (k : Int)] σ fun r σ' => r = .bool (decide (k % 2 = 1)) ∧ σ' = σ := by
  refine acall_go mixed Try.func62 rfl good62 fun pr => ?_
  simp -implicitDefEqProofs (disch := omega) only [List.any_cons, List.any_nil, Nat.reduceEqDiff, List.map_cons, List.map_nil, Option.map_some, Option.map_none, List.nil_append, ↓reduceIte, vcu0, vcu1, vcu2, vcu3, vcu4, vcu5, vcu6, vcu7, vcu8, vcu9, vcu10, vcu11, vcu12, vcu13, vcu14, vcu15, vcu16, vcu17, vcu18, vcu19, vcu20, vcu21, vcu22, ↓vcd0, ↓vcd1, ↓vcd2, ↓vcd3]
  refine fin_one Try.results62 ⟨?_, rfl⟩
  simp -implicitDefEqProofs (disch := omega) only [List.any_cons, List.any_nil, Nat.reduceEqDiff, List.map_cons, List.map_nil, Option.map_some, Option.map_none, List.nil_append, ↓reduceIte, vcu0, vcu1, vcu2, vcu3, vcu4, vcu5, vcu6, vcu7, vcu8, vcu9, vcu10, vcu11, vcu12, vcu13, vcu14, vcu15, vcu16, vcu17, vcu18, vcu19, vcu20, vcu21, vcu22, ↓vcd0, ↓vcd1, ↓vcd2, ↓vcd3]
  congr 1
  rw [Bool.eq_iff_iff, decide_eq_true_eq, decide_eq_true_eq]
  omega
theorem oneSwitch_at (σ : AHeap) (c : Bool) : ACall Try.prog w0 61 [.bool c] σ fun r σ' => Sub σ σ' ∧ OwnI σ σ' r (if c = true then [1, 0] else [0, 1]) := by
  refine acall_go mixed Try.func61 rfl good61 fun pr => ?_
  cases c with
  | true =>
    simp -implicitDefEqProofs (disch := omega) only [List.any_cons, List.any_nil, Nat.reduceEqDiff, List.map_cons, List.map_nil, Option.map_some, Option.map_none, List.nil_append, ↓reduceIte, vcu0, vcu1, vcu2, vcu3, vcu4, vcu5, vcu6, vcu7, vcu8, vcu9, vcu10, vcu11, vcu12, vcu13, vcu14, vcu15, vcu16, vcu17, vcu18, vcu19, vcu20, vcu21, vcu22, ↓vcd0, ↓vcd1, ↓vcd2, ↓vcd3]
    refine r_lit el30 (out := #[.int .i64 1, .int .i64 0]) (by first | kernel_rfl | (simp -implicitDefEqProofs (disch := omega) only [List.any_cons, List.any_nil, Nat.reduceEqDiff, List.map_cons, List.map_nil, Option.map_some, Option.map_none, List.nil_append, ↓reduceIte, vcu0, vcu1, vcu2, vcu3, vcu4, vcu5, vcu6, vcu7, vcu8, vcu9, vcu10, vcu11, vcu12, vcu13, vcu14, vcu15, vcu16, vcu17, vcu18, vcu19, vcu20, vcu21, vcu22, ↓vcd0, ↓vcd1, ↓vcd2, ↓vcd3]; kernel_rfl)) (by rfl) fun e τ2 n2 s2 v2 => ?_
    simp -implicitDefEqProofs (disch := omega) only [List.any_cons, List.any_nil, Nat.reduceEqDiff, List.map_cons, List.map_nil, Option.map_some, Option.map_none, List.nil_append, ↓reduceIte, vcu0, vcu1, vcu2, vcu3, vcu4, vcu5, vcu6, vcu7, vcu8, vcu9, vcu10, vcu11, vcu12, vcu13, vcu14, vcu15, vcu16, vcu17, vcu18, vcu19, vcu20, vcu21, vcu22, ↓vcd0, ↓vcd1, ↓vcd2, ↓vcd3]
    refine fin_one Try.results61 ⟨s2, .inr ⟨e, ?_, v2, n2⟩⟩
    simp -implicitDefEqProofs (disch := omega) only [List.any_cons, List.any_nil, Nat.reduceEqDiff, List.map_cons, List.map_nil, Option.map_some, Option.map_none, List.nil_append, ↓reduceIte, vcu0, vcu1, vcu2, vcu3, vcu4, vcu5, vcu6, vcu7, vcu8, vcu9, vcu10, vcu11, vcu12, vcu13, vcu14, vcu15, vcu16, vcu17, vcu18, vcu19, vcu20, vcu21, vcu22, ↓vcd0, ↓vcd1, ↓vcd2, ↓vcd3]
    rfl
  | false =>
    simp -implicitDefEqProofs (disch := omega) only [List.any_cons, List.any_nil, Nat.reduceEqDiff, List.map_cons, List.map_nil, Option.map_some, Option.map_none, List.nil_append, ↓reduceIte, vcu0, vcu1, vcu2, vcu3, vcu4, vcu5, vcu6, vcu7, vcu8, vcu9, vcu10, vcu11, vcu12, vcu13, vcu14, vcu15, vcu16, vcu17, vcu18, vcu19, vcu20, vcu21, vcu22, ↓vcd0, ↓vcd1, ↓vcd2, ↓vcd3]
    refine r_lit el30 (out := #[.int .i64 0, .int .i64 1]) (by first | kernel_rfl | (simp -implicitDefEqProofs (disch := omega) only [List.any_cons, List.any_nil, Nat.reduceEqDiff, List.map_cons, List.map_nil, Option.map_some, Option.map_none, List.nil_append, ↓reduceIte, vcu0, vcu1, vcu2, vcu3, vcu4, vcu5, vcu6, vcu7, vcu8, vcu9, vcu10, vcu11, vcu12, vcu13, vcu14, vcu15, vcu16, vcu17, vcu18, vcu19, vcu20, vcu21, vcu22, ↓vcd0, ↓vcd1, ↓vcd2, ↓vcd3]; kernel_rfl)) (by rfl) fun e τ2 n2 s2 v2 => ?_
    simp -implicitDefEqProofs (disch := omega) only [List.any_cons, List.any_nil, Nat.reduceEqDiff, List.map_cons, List.map_nil, Option.map_some, Option.map_none, List.nil_append, ↓reduceIte, vcu0, vcu1, vcu2, vcu3, vcu4, vcu5, vcu6, vcu7, vcu8, vcu9, vcu10, vcu11, vcu12, vcu13, vcu14, vcu15, vcu16, vcu17, vcu18, vcu19, vcu20, vcu21, vcu22, ↓vcd0, ↓vcd1, ↓vcd2, ↓vcd3]
    refine fin_one Try.results61 ⟨s2, .inr ⟨e, ?_, v2, n2⟩⟩
    simp -implicitDefEqProofs (disch := omega) only [List.any_cons, List.any_nil, Nat.reduceEqDiff, List.map_cons, List.map_nil, Option.map_some, Option.map_none, List.nil_append, ↓reduceIte, vcu0, vcu1, vcu2, vcu3, vcu4, vcu5, vcu6, vcu7, vcu8, vcu9, vcu10, vcu11, vcu12, vcu13, vcu14, vcu15, vcu16, vcu17, vcu18, vcu19, vcu20, vcu21, vcu22, ↓vcd0, ↓vcd1, ↓vcd2, ↓vcd3]
    rfl

theorem implLr_at : ∀ (l : Nat), l ≤ 2 → ∀ (σ : AHeap) (h o : Nat) (set : List Bool), BoolsAt σ h o set → set.length = many (l + 1) →
    ACall Try.prog w0 25 [.int .i64 ((2 ^ (l + 1) : Nat) : Int), .slice (some ⟨h, o, none⟩) set.length 1] σ fun r σ' => Sub σ σ' ∧ OwnI σ σ' r (lrN l set) := by
  intro l
  induction l with
  | zero =>
    intro _ σ h o set hv hl
    have h1 : set.length = 1 := hl
    have e2 : ((2 ^ (0 + 1) : Nat) : Int) = 2 := rfl
    have em : loopV 2 = 1 := rfl
    have lx := hv 0 (by omega)
    have hd : set.getD 0 false = dOf set 0 := rfl
    rw [hd] at lx
    rw [e2]
    refine acall_go mixed Try.func25 rfl good25 fun pr => ?_
    simp -implicitDefEqProofs (disch := omega) only [List.any_cons, List.any_nil, Nat.reduceEqDiff, List.map_cons, List.map_nil, Option.map_some, Option.map_none, List.nil_append, ↓reduceIte, vcu0, vcu1, vcu2, vcu3, vcu4, vcu5, vcu6, vcu7, vcu8, vcu9, vcu10, vcu11, vcu12, vcu13, vcu14, vcu15, vcu16, vcu17, vcu18, vcu19, vcu20, vcu21, vcu22, ↓vcd0, ↓vcd1, ↓vcd2, ↓vcd3, h1]
    refine (implLoopMany_at σ 2).mono ?_
    rintro r _ ⟨rfl, rfl⟩
    rename_i σ
    simp -implicitDefEqProofs (disch := omega) only [List.any_cons, List.any_nil, Nat.reduceEqDiff, List.map_cons, List.map_nil, Option.map_some, Option.map_none, List.nil_append, ↓reduceIte, vcu0, vcu1, vcu2, vcu3, vcu4, vcu5, vcu6, vcu7, vcu8, vcu9, vcu10, vcu11, vcu12, vcu13, vcu14, vcu15, vcu16, vcu17, vcu18, vcu19, vcu20, vcu21, vcu22, ↓vcd0, ↓vcd1, ↓vcd2, ↓vcd3, opK_some, em, h1, Int.natCast_one, ne_eq, not_true_eq_false, decide_false, lx, Int.toNat_zero]
    refine (oneSwitch_at σ _).mono ?_
    rintro v τ ⟨s1, w1⟩
    simp -implicitDefEqProofs (disch := omega) only [List.any_cons, List.any_nil, Nat.reduceEqDiff, List.map_cons, List.map_nil, Option.map_some, Option.map_none, List.nil_append, ↓reduceIte, vcu0, vcu1, vcu2, vcu3, vcu4, vcu5, vcu6, vcu7, vcu8, vcu9, vcu10, vcu11, vcu12, vcu13, vcu14, vcu15, vcu16, vcu17, vcu18, vcu19, vcu20, vcu21, vcu22, ↓vcd0, ↓vcd1, ↓vcd2, ↓vcd3, opK_some]
    refine fin_one Try.results25 ⟨s1, ?_⟩
    simp -implicitDefEqProofs (disch := omega) only [List.any_cons, List.any_nil, Nat.reduceEqDiff, List.map_cons, List.map_nil, Option.map_some, Option.map_none, List.nil_append, ↓reduceIte, vcu0, vcu1, vcu2, vcu3, vcu4, vcu5, vcu6, vcu7, vcu8, vcu9, vcu10, vcu11, vcu12, vcu13, vcu14, vcu15, vcu16, vcu17, vcu18, vcu19, vcu20, vcu21, vcu22, ↓vcd0, ↓vcd1, ↓vcd2, ↓vcd3]
    have : lrN 0 set = if dOf set 0 = true then [1, 0] else [0, 1] := by
      cases hc : dOf set 0 <;> simp [lrN, tabI, lr, hc, List.range_succ]
    rw [this]; exact w1
  | succ l ih =>
    intro hl2 σ h o set hv hl
    have hHP : 2 ≤ 2 ^ (l + 1) ∧ 2 ^ (l + 1) ≤ 4 ∧ many (l + 1) ≤ 6 := by
      have : l = 0 ∨ l = 1 := by omega
      rcases this with rfl | rfl <;> decide
    have hN : 2 ^ (l + 1 + 1) = 2 * 2 ^ (l + 1) := pow_two' l
    have hm : many (l + 1 + 1) = 2 ^ (l + 1 + 1) + 2 * many (l + 1) := rfl
    have ihh := ih (by omega)
    have hlm := fun σ => implLoopMany_ls (w0 := w0) σ l (by omega)
    have hlm0 := fun σ => implLoopMany_ls (w0 := w0) σ (l + 1) (by omega)
    have hp1 : ∀ k, k < 2 ^ (l + 1) → lr (l + 1) (dOf ((set.drop (2 ^ (l + 1))).take (many (l + 1)))) k = lr (l + 1) (fun j => dOf set (2 ^ (l + 1) + j)) k := fun k hk => part_of rfl hk
    have hp2 : ∀ k, k < 2 ^ (l + 1) → lr (l + 1) (dOf ((set.drop (2 ^ (l + 1) + many (l + 1))).take (many (l + 1)))) k = lr (l + 1) (fun j => dOf set (2 ^ (l + 1) + many (l + 1) + j)) k := fun k hk => part_of rfl hk
    have P1 := lr_perm l (fun j => dOf set (2 ^ (l + 1) + j))
    have P2 := lr_perm l (fun j => dOf set (2 ^ (l + 1) + many (l + 1) + j))
    have hcomb : ∀ k, lr (l + 1 + 1) (dOf set) k = comb (dOf set) (fun j => dOf set (2 ^ (l + 1) + 2 * many (l + 1) + j)) (lr (l + 1) fun j => dOf set (2 ^ (l + 1) + j)) (lr (l + 1) fun j => dOf set (2 ^ (l + 1) + many (l + 1) + j)) k := fun _ => rfl
    unfold lrN at ihh ⊢
    generalize lr (l + 1 + 1) (dOf set) = F at *
    generalize lr (l + 1) (fun j => dOf set (2 ^ (l + 1) + j)) = UF at *
    generalize lr (l + 1) (fun j => dOf set (2 ^ (l + 1) + many (l + 1) + j)) = WF at *
    rw [← hl] at hlm0
    rw [hm, hN] at hl
    rw [hN] at hlm0 ⊢
    generalize many (l + 1) = P at *
    generalize 2 ^ (l + 1) = H at *
    clear hm hN ih
    obtain ⟨hH2, hH4, hP6⟩ := hHP
    refine acall_go mixed Try.func25 rfl good25 fun pr => ?_
    simp -implicitDefEqProofs (disch := omega) only [List.any_cons, List.any_nil, Nat.reduceEqDiff, List.map_cons, List.map_nil, Option.map_some, Option.map_none, List.nil_append, ↓reduceIte, vcu0, vcu1, vcu2, vcu3, vcu4, vcu5, vcu6, vcu7, vcu8, vcu9, vcu10, vcu11, vcu12, vcu13, vcu14, vcu15, vcu16, vcu17, vcu18, vcu19, vcu20, vcu21, vcu22, ↓vcd0, ↓vcd1, ↓vcd2, ↓vcd3]
    refine (hlm0 σ).mono ?_
    rintro r _ ⟨rfl, rfl⟩
    rename_i σ
    have ed : ((2 * H : Nat) : Int) / 2 = (H : Int) := by omega
    have e2P : (H : Int) + 2 * (P : Int) = ((H + 2 * P : Nat) : Int) := by omega
    have eP : (H : Int) + (P : Int) = ((H + P : Nat) : Int) := by omega
    have eHP : H + P - H = P := by omega
    have eHP2 : H + 2 * P - (H + P) = P := by omega
    simp -implicitDefEqProofs (disch := omega) only [List.any_cons, List.any_nil, Nat.reduceEqDiff, List.map_cons, List.map_nil, Option.map_some, Option.map_none, List.nil_append, ↓reduceIte, vcu0, vcu1, vcu2, vcu3, vcu4, vcu5, vcu6, vcu7, vcu8, vcu9, vcu10, vcu11, vcu12, vcu13, vcu14, vcu15, vcu16, vcu17, vcu18, vcu19, vcu20, vcu21, vcu22, ↓vcd0, ↓vcd1, ↓vcd2, ↓vcd3, opK_some, ne_eq, not_true_eq_false, decide_false, ed]
    refine (hlm σ).mono ?_
    rintro r _ ⟨rfl, rfl⟩
    rename_i σ
    have c1 := ihh σ h (o + H) ((set.drop H).take P) ((hv.drop H).take P) (part_len (by omega))
    rw [part_len (by omega), tabI_congr (f' := UF) hp1] at c1
    simp -implicitDefEqProofs (disch := omega) only [List.any_cons, List.any_nil, Nat.reduceEqDiff, List.map_cons, List.map_nil, Option.map_some, Option.map_none, List.nil_append, ↓reduceIte, vcu0, vcu1, vcu2, vcu3, vcu4, vcu5, vcu6, vcu7, vcu8, vcu9, vcu10, vcu11, vcu12, vcu13, vcu14, vcu15, vcu16, vcu17, vcu18, vcu19, vcu20, vcu21, vcu22, ↓vcd0, ↓vcd1, ↓vcd2, ↓vcd3, opK_some, eP, e2P, Int.toNat_natCast, eHP]
    refine c1.mono ?_
    rintro up τ2 ⟨s2, w2⟩
    have c2 := ihh τ2 h (o + (H + P)) ((set.drop (H + P)).take P) (((hv.sub s2).drop (H + P)).take P) (part_len (by omega))
    rw [part_len (by omega), tabI_congr (f' := WF) hp2] at c2
    simp -implicitDefEqProofs (disch := omega) only [List.any_cons, List.any_nil, Nat.reduceEqDiff, List.map_cons, List.map_nil, Option.map_some, Option.map_none, List.nil_append, ↓reduceIte, vcu0, vcu1, vcu2, vcu3, vcu4, vcu5, vcu6, vcu7, vcu8, vcu9, vcu10, vcu11, vcu12, vcu13, vcu14, vcu15, vcu16, vcu17, vcu18, vcu19, vcu20, vcu21, vcu22, ↓vcd0, ↓vcd1, ↓vcd2, ↓vcd3, opK_some, eP, e2P, Int.toNat_natCast, eHP2]
    refine c2.mono ?_
    rintro low τ3 ⟨s3, w3⟩
    obtain ⟨gu, rfl, vu, nu⟩ := ownI_row w2 (by rw [tabI_length]; omega)
    obtain ⟨gl, rfl, vl, nl⟩ := ownI_row w3 (by rw [tabI_length]; omega)
    replace vu := s3 _ _ vu
    simp only [tabI_length]
    simp -implicitDefEqProofs (disch := omega) only [List.any_cons, List.any_nil, Nat.reduceEqDiff, List.map_cons, List.map_nil, Option.map_some, Option.map_none, List.nil_append, ↓reduceIte, vcu0, vcu1, vcu2, vcu3, vcu4, vcu5, vcu6, vcu7, vcu8, vcu9, vcu10, vcu11, vcu12, vcu13, vcu14, vcu15, vcu16, vcu17, vcu18, vcu19, vcu20, vcu21, vcu22, ↓vcd0, ↓vcd1, ↓vcd2, ↓vcd3, opK_some]
    refine r_makeI (kx := .i64) (ky := .i64) (l := 2 * H) (c := 2 * H) el30 (by omega) (by simp -implicitDefEqProofs (disch := omega) only [List.any_cons, List.any_nil, Nat.reduceEqDiff, List.map_cons, List.map_nil, Option.map_some, Option.map_none, List.nil_append, ↓reduceIte, vcu0, vcu1, vcu2, vcu3, vcu4, vcu5, vcu6, vcu7, vcu8, vcu9, vcu10, vcu11, vcu12, vcu13, vcu14, vcu15, vcu16, vcu17, vcu18, vcu19, vcu20, vcu21, vcu22, ↓vcd0, ↓vcd1, ↓vcd2, ↓vcd3]) (by simp -implicitDefEqProofs (disch := omega) only [List.any_cons, List.any_nil, Nat.reduceEqDiff, List.map_cons, List.map_nil, Option.map_some, Option.map_none, List.nil_append, ↓reduceIte, vcu0, vcu1, vcu2, vcu3, vcu4, vcu5, vcu6, vcu7, vcu8, vcu9, vcu10, vcu11, vcu12, vcu13, vcu14, vcu15, vcu16, vcu17, vcu18, vcu19, vcu20, vcu21, vcu22, ↓vcd0, ↓vcd1, ↓vcd2, ↓vcd3]) (by omega) fun g τ4 ng s4 e4 => ?_
    have hgu : gu ≠ g := ne_of' ng vu
    have hgl : gl ≠ g := ne_of' ng vl
    replace vu := s4 _ _ vu
    replace vl := s4 _ _ vl
    have hs3 : Sub σ τ4 := s2.trans (s3.trans s4)
    have ngσ : σ g = none := free_sub (s2.trans s3) ng
    have hv3 := hv.sub hs3
    have eg3 : τ4 g = some ⟨ints .i64 (tabI (2 * H) fun i => if i < 0 then F i else 0), false⟩ := by
      rw [e4, ← tabI_zero]; congr 3
    clear hv s2 s3 s4 w2 w3 e4 c1 c2
    simp -implicitDefEqProofs (disch := omega) only [List.any_cons, List.any_nil, Nat.reduceEqDiff, List.map_cons, List.map_nil, Option.map_some, Option.map_none, List.nil_append, ↓reduceIte, vcu0, vcu1, vcu2, vcu3, vcu4, vcu5, vcu6, vcu7, vcu8, vcu9, vcu10, vcu11, vcu12, vcu13, vcu14, vcu15, vcu16, vcu17, vcu18, vcu19, vcu20, vcu21, vcu22, ↓vcd0, ↓vcd1, ↓vcd2, ↓vcd3]
    refine vc_loop_c mixed (by kernel_rfl) [7, 8, 9, 10, 11, 63] (fun m a τ' => ∃ k : Nat, m + k = 2 * H ∧ a 64 = .int .i64 k ∧ Kept g τ4 τ' ∧ τ' g = some ⟨ints .i64 (tabI (2 * H) fun i => if i < k then F i else 0), false⟩) (2 * H) ⟨0, by simp, rfl, Kept.refl _ _, eg3⟩ ?_
    rintro m a τ5 hc ⟨k, hk, h64, hK, hg4⟩
    simp -implicitDefEqProofs (disch := omega) only [List.any_cons, List.any_nil, Nat.reduceEqDiff, List.map_cons, List.map_nil, Option.map_some, Option.map_none, List.nil_append, ↓reduceIte, vcu0, vcu1, vcu2, vcu3, vcu4, vcu5, vcu6, vcu7, vcu8, vcu9, vcu10, vcu11, vcu12, vcu13, vcu14, vcu15, vcu16, vcu17, vcu18, vcu19, vcu20, vcu21, vcu22, ↓vcd0, ↓vcd1, ↓vcd2, ↓vcd3] at hc
    obtain ⟨h7, h8, h9, h10, h11, h63, -⟩ := hc
    by_cases hlt : k < 2 * H
    · have hk2 : k / 2 < H := by omega
      have ek : (k : Int) / 2 = ((k / 2 : Nat) : Int) := by omega
      have lu := intsAt_own (hK.at vu hgu) (k / 2) (by rw [tabI_length]; exact hk2)
      have ll := intsAt_own (hK.at vl hgl) (k / 2) (by rw [tabI_length]; exact hk2)
      rw [tabI_getD hk2] at lu ll
      have hcell0 : ∀ τ', Kept g τ4 τ' → ∀ i, i < set.length → ld τ' h (o + i) = some (.bool (dOf set i)) := fun τ' hK' i hi => by
        have hx := hv3 i hi
        have hne : h ≠ g := fun e => by
          subst e
          unfold ld at hx
          rw [eg3] at hx
          simp only [Option.bind_some] at hx
          have := List.mem_of_getElem? hx
          simp [ints] at this
        unfold ld at hx ⊢
        cases hq : τ4 h with
        | none => rw [hq] at hx; cases hx
        | some ob => rw [hK'.at hq hne]; rw [hq] at hx; exact hx
      have l1 := hcell0 τ5 hK (k / 2) (by omega)
      have bU := P1.1 (k / 2) hk2
      have bW := P2.1 (k / 2) hk2
      have fval := hcomb k
      unfold comb at fval
      obtain ⟨U, hU⟩ : ∃ U, UF (k / 2) = U := ⟨_, rfl⟩
      obtain ⟨W, hW⟩ : ∃ W, WF (k / 2) = W := ⟨_, rfl⟩
      rw [hU] at lu bU fval
      rw [hW] at ll bW fval
      have eHH : set.length - (H + 2 * P) = H := by omega
      have fin4 : ∀ (τ : AHeap), τ g = some ⟨ints .i64 (tabI (2 * H) fun j => if j = k then F k else if j < k then F j else 0), false⟩ → τ g = some ⟨ints .i64 (tabI (2 * H) fun i => if i < k + 1 then F i else 0), false⟩ := fun τ e => by
        rw [e]; congr 3
        refine tabI_congr fun i _ => ?_
        by_cases ei : i = k
        · subst ei; rw [if_pos rfl, if_pos (by omega)]
        · rw [if_neg ei]
          by_cases h2 : i < k
          · rw [if_pos h2, if_pos (by omega)]
          · rw [if_neg h2, if_neg (by omega)]
      have hsd : (!(decide (k % 2 = 1) == dOf set (k / 2))) = side (dOf set) k := rfl
      clear hv3 eg3 hcomb hp1 hp2 hlm hlm0 ihh
      simp -implicitDefEqProofs (disch := omega) only [List.any_cons, List.any_nil, Nat.reduceEqDiff, List.map_cons, List.map_nil, Option.map_some, Option.map_none, List.nil_append, ↓reduceIte, vcu0, vcu1, vcu2, vcu3, vcu4, vcu5, vcu6, vcu7, vcu8, vcu9, vcu10, vcu11, vcu12, vcu13, vcu14, vcu15, vcu16, vcu17, vcu18, vcu19, vcu20, vcu21, vcu22, ↓vcd0, ↓vcd1, ↓vcd2, ↓vcd3, h7, h8, h9, h10, h11, h63, h64]
      rw [r_callq]
      refine ⟨_, isOdd_at _ k, ?_⟩
      simp -implicitDefEqProofs (disch := omega) only [List.any_cons, List.any_nil, Nat.reduceEqDiff, List.map_cons, List.map_nil, Option.map_some, Option.map_none, List.nil_append, ↓reduceIte, vcu0, vcu1, vcu2, vcu3, vcu4, vcu5, vcu6, vcu7, vcu8, vcu9, vcu10, vcu11, vcu12, vcu13, vcu14, vcu15, vcu16, vcu17, vcu18, vcu19, vcu20, vcu21, vcu22, ↓vcd0, ↓vcd1, ↓vcd2, ↓vcd3, h7, h8, h9, h10, h11, h63, h64, ek, l1, Int.toNat_natCast, hsd]
      cases hside : side (dOf set) k with
      | true =>
        rw [hside] at fval
        simp only [cond_true] at fval
        have lT := hcell0 τ5 hK (H + 2 * P + W) (by omega)
        simp -implicitDefEqProofs (disch := omega) only [List.any_cons, List.any_nil, Nat.reduceEqDiff, List.map_cons, List.map_nil, Option.map_some, Option.map_none, List.nil_append, ↓reduceIte, vcu0, vcu1, vcu2, vcu3, vcu4, vcu5, vcu6, vcu7, vcu8, vcu9, vcu10, vcu11, vcu12, vcu13, vcu14, vcu15, vcu16, vcu17, vcu18, vcu19, vcu20, vcu21, vcu22, ↓vcd0, ↓vcd1, ↓vcd2, ↓vcd3, h7, h8, h9, h10, h11, h63, h64, ek, lu, ll, Int.toNat_natCast]
        refine r_setI (g := g) (i := 0 + k) (v := ((2 * W : Nat) : Int)) (by simp -implicitDefEqProofs (disch := omega) only [List.any_cons, List.any_nil, Nat.reduceEqDiff, List.map_cons, List.map_nil, Option.map_some, Option.map_none, List.nil_append, ↓reduceIte, vcu0, vcu1, vcu2, vcu3, vcu4, vcu5, vcu6, vcu7, vcu8, vcu9, vcu10, vcu11, vcu12, vcu13, vcu14, vcu15, vcu16, vcu17, vcu18, vcu19, vcu20, vcu21, vcu22, ↓vcd0, ↓vcd1, ↓vcd2, ↓vcd3]) (by simp -implicitDefEqProofs (disch := omega) only [List.any_cons, List.any_nil, Nat.reduceEqDiff, List.map_cons, List.map_nil, Option.map_some, Option.map_none, List.nil_append, ↓reduceIte, vcu0, vcu1, vcu2, vcu3, vcu4, vcu5, vcu6, vcu7, vcu8, vcu9, vcu10, vcu11, vcu12, vcu13, vcu14, vcu15, vcu16, vcu17, vcu18, vcu19, vcu20, vcu21, vcu22, ↓vcd0, ↓vcd1, ↓vcd2, ↓vcd3]; rfl) co3 hg4 (by rw [tabI_length]; omega) fun τ6 k6 e6 => ?_
        rw [Nat.zero_add, tabI_set] at e6
        have lT6 := hcell0 τ6 (hK.trans k6) (H + 2 * P + W) (by omega)
        rw [← Nat.add_assoc] at lT6
        have lg6 := intsAt_own e6 k (by rw [tabI_length]; exact hlt)
        rw [tabI_getD hlt, if_pos rfl] at lg6
        cases hc2 : dOf set (H + 2 * P + W) with
        | true =>
          rw [hc2] at lT6 fval
          have fv : F k = 2 * W + 0 := fval
          simp -implicitDefEqProofs (disch := omega) only [List.any_cons, List.any_nil, Nat.reduceEqDiff, List.map_cons, List.map_nil, Option.map_some, Option.map_none, List.nil_append, ↓reduceIte, vcu0, vcu1, vcu2, vcu3, vcu4, vcu5, vcu6, vcu7, vcu8, vcu9, vcu10, vcu11, vcu12, vcu13, vcu14, vcu15, vcu16, vcu17, vcu18, vcu19, vcu20, vcu21, vcu22, ↓vcd0, ↓vcd1, ↓vcd2, ↓vcd3, h7, h8, h9, h10, h11, h63, h64, Int.toNat_natCast, lT6, lg6, beq_self_eq_true, Bool.not_true]
          refine ⟨⟨trivial, trivial, trivial, trivial, trivial, trivial, trivial⟩, m - 1, by omega, k + 1, by omega, by simp, hK.trans k6, fin4 τ6 ?_⟩
          rw [e6, fv]; rfl
        | false =>
          rw [hc2] at lT6 fval
          have fv : F k = 2 * W + 1 := fval
          simp -implicitDefEqProofs (disch := omega) only [List.any_cons, List.any_nil, Nat.reduceEqDiff, List.map_cons, List.map_nil, Option.map_some, Option.map_none, List.nil_append, ↓reduceIte, vcu0, vcu1, vcu2, vcu3, vcu4, vcu5, vcu6, vcu7, vcu8, vcu9, vcu10, vcu11, vcu12, vcu13, vcu14, vcu15, vcu16, vcu17, vcu18, vcu19, vcu20, vcu21, vcu22, ↓vcd0, ↓vcd1, ↓vcd2, ↓vcd3, h7, h8, h9, h10, h11, h63, h64, Int.toNat_natCast, lT6, lg6, b_tf, Bool.not_true, Bool.not_false]
          refine r_setI (g := g) (i := 0 + k) (v := ((F k : Nat) : Int)) (by simp -implicitDefEqProofs (disch := omega) only [List.any_cons, List.any_nil, Nat.reduceEqDiff, List.map_cons, List.map_nil, Option.map_some, Option.map_none, List.nil_append, ↓reduceIte, vcu0, vcu1, vcu2, vcu3, vcu4, vcu5, vcu6, vcu7, vcu8, vcu9, vcu10, vcu11, vcu12, vcu13, vcu14, vcu15, vcu16, vcu17, vcu18, vcu19, vcu20, vcu21, vcu22, ↓vcd0, ↓vcd1, ↓vcd2, ↓vcd3]) (by simp -implicitDefEqProofs (disch := omega) only [List.any_cons, List.any_nil, Nat.reduceEqDiff, List.map_cons, List.map_nil, Option.map_some, Option.map_none, List.nil_append, ↓reduceIte, vcu0, vcu1, vcu2, vcu3, vcu4, vcu5, vcu6, vcu7, vcu8, vcu9, vcu10, vcu11, vcu12, vcu13, vcu14, vcu15, vcu16, vcu17, vcu18, vcu19, vcu20, vcu21, vcu22, ↓vcd0, ↓vcd1, ↓vcd2, ↓vcd3]; congr 1; omega) co3 e6 (by rw [tabI_length]; omega) fun τ7 k7 e7 => ?_
          rw [Nat.zero_add, tabI_set] at e7
          simp -implicitDefEqProofs (disch := omega) only [List.any_cons, List.any_nil, Nat.reduceEqDiff, List.map_cons, List.map_nil, Option.map_some, Option.map_none, List.nil_append, ↓reduceIte, vcu0, vcu1, vcu2, vcu3, vcu4, vcu5, vcu6, vcu7, vcu8, vcu9, vcu10, vcu11, vcu12, vcu13, vcu14, vcu15, vcu16, vcu17, vcu18, vcu19, vcu20, vcu21, vcu22, ↓vcd0, ↓vcd1, ↓vcd2, ↓vcd3, h7, h8, h9, h10, h11, h63, h64]
          refine ⟨⟨trivial, trivial, trivial, trivial, trivial, trivial, trivial⟩, m - 1, by omega, k + 1, by omega, by simp, hK.trans (k6.trans k7), fin4 τ7 ?_⟩
          rw [e7]; congr 3
          exact tabI_congr fun i _ => by by_cases ei : i = k <;> simp [ei]
      | false =>
        rw [hside] at fval
        simp only [cond_false] at fval
        have lT := hcell0 τ5 hK (H + 2 * P + U) (by omega)
        simp -implicitDefEqProofs (disch := omega) only [List.any_cons, List.any_nil, Nat.reduceEqDiff, List.map_cons, List.map_nil, Option.map_some, Option.map_none, List.nil_append, ↓reduceIte, vcu0, vcu1, vcu2, vcu3, vcu4, vcu5, vcu6, vcu7, vcu8, vcu9, vcu10, vcu11, vcu12, vcu13, vcu14, vcu15, vcu16, vcu17, vcu18, vcu19, vcu20, vcu21, vcu22, ↓vcd0, ↓vcd1, ↓vcd2, ↓vcd3, h7, h8, h9, h10, h11, h63, h64, ek, lu, ll, Int.toNat_natCast]
        refine r_setI (g := g) (i := 0 + k) (v := ((2 * U : Nat) : Int)) (by simp -implicitDefEqProofs (disch := omega) only [List.any_cons, List.any_nil, Nat.reduceEqDiff, List.map_cons, List.map_nil, Option.map_some, Option.map_none, List.nil_append, ↓reduceIte, vcu0, vcu1, vcu2, vcu3, vcu4, vcu5, vcu6, vcu7, vcu8, vcu9, vcu10, vcu11, vcu12, vcu13, vcu14, vcu15, vcu16, vcu17, vcu18, vcu19, vcu20, vcu21, vcu22, ↓vcd0, ↓vcd1, ↓vcd2, ↓vcd3]) (by simp -implicitDefEqProofs (disch := omega) only [List.any_cons, List.any_nil, Nat.reduceEqDiff, List.map_cons, List.map_nil, Option.map_some, Option.map_none, List.nil_append, ↓reduceIte, vcu0, vcu1, vcu2, vcu3, vcu4, vcu5, vcu6, vcu7, vcu8, vcu9, vcu10, vcu11, vcu12, vcu13, vcu14, vcu15, vcu16, vcu17, vcu18, vcu19, vcu20, vcu21, vcu22, ↓vcd0, ↓vcd1, ↓vcd2, ↓vcd3]; rfl) co3 hg4 (by rw [tabI_length]; omega) fun τ6 k6 e6 => ?_
        rw [Nat.zero_add, tabI_set] at e6
        have lT6 := hcell0 τ6 (hK.trans k6) (H + 2 * P + U) (by omega)
        rw [← Nat.add_assoc] at lT6
        have lg6 := intsAt_own e6 k (by rw [tabI_length]; exact hlt)
        rw [tabI_getD hlt, if_pos rfl] at lg6
        cases hc2 : dOf set (H + 2 * P + U) with
        | true =>
          rw [hc2] at lT6 fval
          have fv : F k = 2 * U + 1 := fval
          simp -implicitDefEqProofs (disch := omega) only [List.any_cons, List.any_nil, Nat.reduceEqDiff, List.map_cons, List.map_nil, Option.map_some, Option.map_none, List.nil_append, ↓reduceIte, vcu0, vcu1, vcu2, vcu3, vcu4, vcu5, vcu6, vcu7, vcu8, vcu9, vcu10, vcu11, vcu12, vcu13, vcu14, vcu15, vcu16, vcu17, vcu18, vcu19, vcu20, vcu21, vcu22, ↓vcd0, ↓vcd1, ↓vcd2, ↓vcd3, h7, h8, h9, h10, h11, h63, h64, Int.toNat_natCast, lT6, lg6, b_ft, Bool.not_true, Bool.not_false]
          refine r_setI (g := g) (i := 0 + k) (v := ((F k : Nat) : Int)) (by simp -implicitDefEqProofs (disch := omega) only [List.any_cons, List.any_nil, Nat.reduceEqDiff, List.map_cons, List.map_nil, Option.map_some, Option.map_none, List.nil_append, ↓reduceIte, vcu0, vcu1, vcu2, vcu3, vcu4, vcu5, vcu6, vcu7, vcu8, vcu9, vcu10, vcu11, vcu12, vcu13, vcu14, vcu15, vcu16, vcu17, vcu18, vcu19, vcu20, vcu21, vcu22, ↓vcd0, ↓vcd1, ↓vcd2, ↓vcd3]) (by simp -implicitDefEqProofs (disch := omega) only [List.any_cons, List.any_nil, Nat.reduceEqDiff, List.map_cons, List.map_nil, Option.map_some, Option.map_none, List.nil_append, ↓reduceIte, vcu0, vcu1, vcu2, vcu3, vcu4, vcu5, vcu6, vcu7, vcu8, vcu9, vcu10, vcu11, vcu12, vcu13, vcu14, vcu15, vcu16, vcu17, vcu18, vcu19, vcu20, vcu21, vcu22, ↓vcd0, ↓vcd1, ↓vcd2, ↓vcd3]; congr 1; omega) co3 e6 (by rw [tabI_length]; omega) fun τ7 k7 e7 => ?_
          rw [Nat.zero_add, tabI_set] at e7
          simp -implicitDefEqProofs (disch := omega) only [List.any_cons, List.any_nil, Nat.reduceEqDiff, List.map_cons, List.map_nil, Option.map_some, Option.map_none, List.nil_append, ↓reduceIte, vcu0, vcu1, vcu2, vcu3, vcu4, vcu5, vcu6, vcu7, vcu8, vcu9, vcu10, vcu11, vcu12, vcu13, vcu14, vcu15, vcu16, vcu17, vcu18, vcu19, vcu20, vcu21, vcu22, ↓vcd0, ↓vcd1, ↓vcd2, ↓vcd3, h7, h8, h9, h10, h11, h63, h64]
          refine ⟨⟨trivial, trivial, trivial, trivial, trivial, trivial, trivial⟩, m - 1, by omega, k + 1, by omega, by simp, hK.trans (k6.trans k7), fin4 τ7 ?_⟩
          rw [e7]; congr 3
          exact tabI_congr fun i _ => by by_cases ei : i = k <;> simp [ei]
        | false =>
          rw [hc2] at lT6 fval
          have fv : F k = 2 * U + 0 := fval
          simp -implicitDefEqProofs (disch := omega) only [List.any_cons, List.any_nil, Nat.reduceEqDiff, List.map_cons, List.map_nil, Option.map_some, Option.map_none, List.nil_append, ↓reduceIte, vcu0, vcu1, vcu2, vcu3, vcu4, vcu5, vcu6, vcu7, vcu8, vcu9, vcu10, vcu11, vcu12, vcu13, vcu14, vcu15, vcu16, vcu17, vcu18, vcu19, vcu20, vcu21, vcu22, ↓vcd0, ↓vcd1, ↓vcd2, ↓vcd3, h7, h8, h9, h10, h11, h63, h64, Int.toNat_natCast, lT6, lg6, beq_self_eq_true, Bool.not_true]
          refine ⟨⟨trivial, trivial, trivial, trivial, trivial, trivial, trivial⟩, m - 1, by omega, k + 1, by omega, by simp, hK.trans k6, fin4 τ6 ?_⟩
          rw [e6, fv]; rfl
    · have e : k = 2 * H := by omega
      subst e
      simp -implicitDefEqProofs (disch := omega) only [List.any_cons, List.any_nil, Nat.reduceEqDiff, List.map_cons, List.map_nil, Option.map_some, Option.map_none, List.nil_append, ↓reduceIte, vcu0, vcu1, vcu2, vcu3, vcu4, vcu5, vcu6, vcu7, vcu8, vcu9, vcu10, vcu11, vcu12, vcu13, vcu14, vcu15, vcu16, vcu17, vcu18, vcu19, vcu20, vcu21, vcu22, ↓vcd0, ↓vcd1, ↓vcd2, ↓vcd3, h7, h8, h9, h10, h11, h63, h64]
      refine fin_one Try.results25 ⟨hK.sub hs3 ngσ, .inr ⟨g, ?_, ?_, ngσ⟩⟩
      · simp -implicitDefEqProofs (disch := omega) only [List.any_cons, List.any_nil, Nat.reduceEqDiff, List.map_cons, List.map_nil, Option.map_some, Option.map_none, List.nil_append, ↓reduceIte, vcu0, vcu1, vcu2, vcu3, vcu4, vcu5, vcu6, vcu7, vcu8, vcu9, vcu10, vcu11, vcu12, vcu13, vcu14, vcu15, vcu16, vcu17, vcu18, vcu19, vcu20, vcu21, vcu22, ↓vcd0, ↓vcd1, ↓vcd2, ↓vcd3, h11]
        rw [tabI_length]
      · rw [hg4]; congr 3
        exact tabI_congr fun i hi => by rw [if_pos hi]
theorem implLoopRun_at (σ : AHeap) (z : Int) (h o : Nat) (set : List Bool) (hv : BoolsAt σ h o set) (hl : set.length ≤ 1048576) :
    ACall Try.prog w0 25 [.int .i64 z, .slice (some ⟨h, o, none⟩) set.length 1] σ fun r σ' => Sub σ σ' ∧ OwnI σ σ' r (lrV z set) := by
  by_cases hR : LOk z set
  · obtain ⟨l, hl2, rfl, hsl, hrv⟩ := hR.ls
    rw [hrv]
    exact implLr_at l hl2 σ h o set hv hsl
  · have hne : ¬ (set.length : Int) = loopV z := fun e => hR ⟨fun h0 => by
      have : loopV z = -1 := by unfold loopV; rw [if_pos h0]
      omega, e⟩
    rw [lrV_no hR]
    refine acall_go mixed Try.func25 rfl good25 fun pr => ?_
    simp -implicitDefEqProofs (disch := omega) only [List.any_cons, List.any_nil, Nat.reduceEqDiff, List.map_cons, List.map_nil, Option.map_some, Option.map_none, List.nil_append, ↓reduceIte, vcu0, vcu1, vcu2, vcu3, vcu4, vcu5, vcu6, vcu7, vcu8, vcu9, vcu10, vcu11, vcu12, vcu13, vcu14, vcu15, vcu16, vcu17, vcu18, vcu19, vcu20, vcu21, vcu22, ↓vcd0, ↓vcd1, ↓vcd2, ↓vcd3]
    refine (implLoopMany_at σ z).mono ?_
    rintro r _ ⟨rfl, rfl⟩
    simp -implicitDefEqProofs (disch := omega) only [List.any_cons, List.any_nil, Nat.reduceEqDiff, List.map_cons, List.map_nil, Option.map_some, Option.map_none, List.nil_append, ↓reduceIte, vcu0, vcu1, vcu2, vcu3, vcu4, vcu5, vcu6, vcu7, vcu8, vcu9, vcu10, vcu11, vcu12, vcu13, vcu14, vcu15, vcu16, vcu17, vcu18, vcu19, vcu20, vcu21, vcu22, ↓vcd0, ↓vcd1, ↓vcd2, ↓vcd3, opK_some]
    refine fin_one Try.results25 ⟨Sub.refl _, .inl ⟨?_, rfl⟩⟩
    simp -implicitDefEqProofs (disch := omega) only [List.any_cons, List.any_nil, Nat.reduceEqDiff, List.map_cons, List.map_nil, Option.map_some, Option.map_none, List.nil_append, ↓reduceIte, vcu0, vcu1, vcu2, vcu3, vcu4, vcu5, vcu6, vcu7, vcu8, vcu9, vcu10, vcu11, vcu12, vcu13, vcu14, vcu15, vcu16, vcu17, vcu18, vcu19, vcu20, vcu21, vcu22, ↓vcd0, ↓vcd1, ↓vcd2, ↓vcd3]
end Go.Proofs.Ytgieeafdgdkkcaa
