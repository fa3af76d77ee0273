/- LoopSet of lists, of the reference and of the program. -/
import Derived.Test.YtgieeafdgdkkcaaXt
import Derived.Test.YtgieeafdgdkkcaaXn
set_option linter.unusedSimpArgs false
set_option linter.unusedVariables false
namespace Go.Proofs.Ytgieeafdgdkkcaa
open Go Go.Abs Go.RowKit Go.Ban
variable {w0 : World}

def lsV (p : List Int) : List Bool := if EO p then lsN (lgOf p.length - 1) (qOf p) else []
theorem lsV_no {p : List Int} (h : ¬ EO p) : lsV p = [] := by unfold lsV; rw [if_neg h]
theorem EO.lvl {p : List Int} (h : EO p) : ∃ l, l ≤ 2 ∧ p.length = 2 ^ (l + 1) ∧ lsV p = lsN l (qOf p) := by
  obtain ⟨lg, e, hL, -⟩ := h.fn
  obtain ⟨l, hl, e1, e2⟩ := ls_lvl hL
  refine ⟨l, hl, e2, ?_⟩
  unfold lsV; rw [if_pos h, e, e1]; rfl
theorem many_le {l : Nat} (h : l ≤ 2) : 1 ≤ many (l + 1) ∧ many (l + 1) ≤ 20 := by
  have : l = 0 ∨ l = 1 ∨ l = 2 := by omega
  rcases this with rfl | rfl | rfl <;> decide
theorem lsV_length (p : List Int) : (lsV p).length ≤ 20 := by
  by_cases h : EO p
  · obtain ⟨l, hl, -, e⟩ := h.lvl
    rw [e, lsN_length]; exact (many_le hl).2
  · rw [lsV_no h]; simp
/-- what is set so, realises the list -/
theorem lsV_run {p : List Int} (h : EO p) : LOk (p.length : Int) (lsV p) ∧ lrV (p.length : Int) (lsV p) = p := by
  obtain ⟨l, hl, e1, e2⟩ := h.lvl
  obtain ⟨lg, e, hL, hq, ht, -⟩ := h.fn
  have hn := lsN_length l (qOf p)
  obtain ⟨a1, a2⟩ := lrV_ls hl (set := lsN l (qOf p)) hn
  rw [e1, e2]
  refine ⟨a1, a2.trans ?_⟩
  rw [e1] at hq ht
  rw [← ht]
  unfold lrN
  have hqt : ∀ i, i < 2 ^ (l + 1) → lr (l + 1) (dOf (lsN l (qOf p))) i = qOf p i := fun i hi => by
    rw [← lr_lsC l hq i hi]
    refine lr_congr l (fun j hj => ?_) i hi
    unfold dOf lsN
    rw [tabB_getD hj]
  rw [ht]
  exact (tabI_congr hqt).trans ht

theorem implLoopSet_at (σ : AHeap) (h o : Nat) (p : List Int) (hv : IntsAt .i64 σ h o p) (hl : p.length ≤ 1048576) :
    ACall Try.prog w0 30 [.slice (some ⟨h, o, none⟩) p.length 1] σ fun r σ' => ∃ v, r = .tuple #[v, .bool (decide (EO p))] ∧ Sub σ σ' ∧ OwnB σ σ' v (lsV p) := by
  by_cases hE : EO p
  · obtain ⟨l, hl2, e1, e2⟩ := hE.lvl
    rw [decide_eq_true hE, e2]
    exact implLs_at l hl2 σ h o p hv hE e1
  rw [decide_eq_false hE, lsV_no hE]
  refine acall_go mixed Try.func30 rfl good30 fun pr => ?_
  simp -implicitDefEqProofs (disch := omega) only [List.any_cons, List.any_nil, Nat.reduceEqDiff, List.map_cons, List.map_nil, Option.map_some, Option.map_none, List.nil_append, ↓reduceIte, vcu0, vcu1, vcu2, vcu3, vcu4, vcu5, vcu6, vcu7, vcu8, vcu9, vcu10, vcu11, vcu12, vcu13, vcu14, vcu15, vcu16, vcu17, vcu18, vcu19, vcu20, vcu21, vcu22, ↓vcd0, ↓vcd1, ↓vcd2, ↓vcd3]
  refine (eachOnce_at σ h o p hv hl).mono ?_
  rintro r _ ⟨rfl, rfl⟩
  rename_i σ
  rw [decide_eq_false hE]
  simp -implicitDefEqProofs (disch := omega) only [List.any_cons, List.any_nil, Nat.reduceEqDiff, List.map_cons, List.map_nil, Option.map_some, Option.map_none, List.nil_append, ↓reduceIte, vcu0, vcu1, vcu2, vcu3, vcu4, vcu5, vcu6, vcu7, vcu8, vcu9, vcu10, vcu11, vcu12, vcu13, vcu14, vcu15, vcu16, vcu17, vcu18, vcu19, vcu20, vcu21, vcu22, ↓vcd0, ↓vcd1, ↓vcd2, ↓vcd3, opK_some, Bool.not_false]
  refine fin_two Try.results30 ⟨.slice none 0 0, ?_, Sub.refl _, .inl ⟨rfl, rfl⟩⟩
  simp -implicitDefEqProofs (disch := omega) only [List.any_cons, List.any_nil, Nat.reduceEqDiff, List.map_cons, List.map_nil, Option.map_some, Option.map_none, List.nil_append, ↓reduceIte, vcu0, vcu1, vcu2, vcu3, vcu4, vcu5, vcu6, vcu7, vcu8, vcu9, vcu10, vcu11, vcu12, vcu13, vcu14, vcu15, vcu16, vcu17, vcu18, vcu19, vcu20, vcu21, vcu22, ↓vcd0, ↓vcd1, ↓vcd2, ↓vcd3]
theorem specLoopSet_at (σ : AHeap) (h o : Nat) (p : List Int) (hv : IntsAt .i64 σ h o p) (hl : p.length ≤ 1048576) :
    ACall Try.prog w0 31 [.slice (some ⟨h, o, none⟩) p.length 1] σ fun r σ' => ∃ v, r = .tuple #[v, .bool (decide (EO p))] ∧ Sub σ σ' ∧ OwnB σ σ' v (lsV p) := by
  refine acall_go mixed Try.func31 rfl good31 fun pr => ?_
  simp -implicitDefEqProofs (disch := omega) only [List.any_cons, List.any_nil, Nat.reduceEqDiff, List.map_cons, List.map_nil, Option.map_some, Option.map_none, List.nil_append, ↓reduceIte, vcu0, vcu1, vcu2, vcu3, vcu4, vcu5, vcu6, vcu7, vcu8, vcu9, vcu10, vcu11, vcu12, vcu13, vcu14, vcu15, vcu16, vcu17, vcu18, vcu19, vcu20, vcu21, vcu22, ↓vcd0, ↓vcd1, ↓vcd2, ↓vcd3]
  refine (perm_at σ h o p hv hl).mono ?_
  rintro r _ ⟨rfl, rfl⟩
  rename_i σ
  by_cases hP : Perm p
  case neg =>
    have hE : ¬ EO p := fun hE => hP hE.2
    rw [decide_eq_false hP, decide_eq_false hE, lsV_no hE]
    simp -implicitDefEqProofs (disch := omega) only [List.any_cons, List.any_nil, Nat.reduceEqDiff, List.map_cons, List.map_nil, Option.map_some, Option.map_none, List.nil_append, ↓reduceIte, vcu0, vcu1, vcu2, vcu3, vcu4, vcu5, vcu6, vcu7, vcu8, vcu9, vcu10, vcu11, vcu12, vcu13, vcu14, vcu15, vcu16, vcu17, vcu18, vcu19, vcu20, vcu21, vcu22, ↓vcd0, ↓vcd1, ↓vcd2, ↓vcd3, opK_some, Bool.not_false]
    refine r_lit el27 (out := #[]) (by kernel_rfl) (by kernel_rfl) fun e0 τ n0 s0 v0 => ?_
    simp -implicitDefEqProofs (disch := omega) only [List.any_cons, List.any_nil, Nat.reduceEqDiff, List.map_cons, List.map_nil, Option.map_some, Option.map_none, List.nil_append, ↓reduceIte, vcu0, vcu1, vcu2, vcu3, vcu4, vcu5, vcu6, vcu7, vcu8, vcu9, vcu10, vcu11, vcu12, vcu13, vcu14, vcu15, vcu16, vcu17, vcu18, vcu19, vcu20, vcu21, vcu22, ↓vcd0, ↓vcd1, ↓vcd2, ↓vcd3]
    refine fin_two Try.results31 ⟨.slice (some ⟨e0, 0, none⟩) 0 1, ?_, s0, .inr ⟨e0, rfl, v0, n0⟩⟩
    simp -implicitDefEqProofs (disch := omega) only [List.any_cons, List.any_nil, Nat.reduceEqDiff, List.map_cons, List.map_nil, Option.map_some, Option.map_none, List.nil_append, ↓reduceIte, vcu0, vcu1, vcu2, vcu3, vcu4, vcu5, vcu6, vcu7, vcu8, vcu9, vcu10, vcu11, vcu12, vcu13, vcu14, vcu15, vcu16, vcu17, vcu18, vcu19, vcu20, vcu21, vcu22, ↓vcd0, ↓vcd1, ↓vcd2, ↓vcd3]
  rw [decide_eq_true hP]
  simp -implicitDefEqProofs (disch := omega) only [List.any_cons, List.any_nil, Nat.reduceEqDiff, List.map_cons, List.map_nil, Option.map_some, Option.map_none, List.nil_append, ↓reduceIte, vcu0, vcu1, vcu2, vcu3, vcu4, vcu5, vcu6, vcu7, vcu8, vcu9, vcu10, vcu11, vcu12, vcu13, vcu14, vcu15, vcu16, vcu17, vcu18, vcu19, vcu20, vcu21, vcu22, ↓vcd0, ↓vcd1, ↓vcd2, ↓vcd3, opK_some, Bool.not_true]
  refine (l3Lines_at σ _).mono ?_
  rintro r _ ⟨rfl, rfl⟩
  rename_i σ
  by_cases hlg : lgOf p.length = 0
  · have e : decide (lgOf p.length ≠ 0) = false := by simp [hlg]
    have hE : ¬ EO p := fun hE => hE.1 hlg
    rw [e, decide_eq_false hE, lsV_no hE]
    simp -implicitDefEqProofs (disch := omega) only [List.any_cons, List.any_nil, Nat.reduceEqDiff, List.map_cons, List.map_nil, Option.map_some, Option.map_none, List.nil_append, ↓reduceIte, vcu0, vcu1, vcu2, vcu3, vcu4, vcu5, vcu6, vcu7, vcu8, vcu9, vcu10, vcu11, vcu12, vcu13, vcu14, vcu15, vcu16, vcu17, vcu18, vcu19, vcu20, vcu21, vcu22, ↓vcd0, ↓vcd1, ↓vcd2, ↓vcd3, opK_some, Bool.not_false]
    refine r_lit el27 (out := #[]) (by kernel_rfl) (by kernel_rfl) fun e0 τ n0 s0 v0 => ?_
    simp -implicitDefEqProofs (disch := omega) only [List.any_cons, List.any_nil, Nat.reduceEqDiff, List.map_cons, List.map_nil, Option.map_some, Option.map_none, List.nil_append, ↓reduceIte, vcu0, vcu1, vcu2, vcu3, vcu4, vcu5, vcu6, vcu7, vcu8, vcu9, vcu10, vcu11, vcu12, vcu13, vcu14, vcu15, vcu16, vcu17, vcu18, vcu19, vcu20, vcu21, vcu22, ↓vcd0, ↓vcd1, ↓vcd2, ↓vcd3]
    refine fin_two Try.results31 ⟨.slice (some ⟨e0, 0, none⟩) 0 1, ?_, s0, .inr ⟨e0, rfl, v0, n0⟩⟩
    simp -implicitDefEqProofs (disch := omega) only [List.any_cons, List.any_nil, Nat.reduceEqDiff, List.map_cons, List.map_nil, Option.map_some, Option.map_none, List.nil_append, ↓reduceIte, vcu0, vcu1, vcu2, vcu3, vcu4, vcu5, vcu6, vcu7, vcu8, vcu9, vcu10, vcu11, vcu12, vcu13, vcu14, vcu15, vcu16, vcu17, vcu18, vcu19, vcu20, vcu21, vcu22, ↓vcd0, ↓vcd1, ↓vcd2, ↓vcd3]
  have hE : EO p := ⟨hlg, hP⟩
  have e : decide (lgOf p.length ≠ 0) = true := by simp [hlg]
  obtain ⟨l, hl2, e1, e2⟩ := hE.lvl
  rw [e, decide_eq_true hE, e2]
  simp -implicitDefEqProofs (disch := omega) only [List.any_cons, List.any_nil, Nat.reduceEqDiff, List.map_cons, List.map_nil, Option.map_some, Option.map_none, List.nil_append, ↓reduceIte, vcu0, vcu1, vcu2, vcu3, vcu4, vcu5, vcu6, vcu7, vcu8, vcu9, vcu10, vcu11, vcu12, vcu13, vcu14, vcu15, vcu16, vcu17, vcu18, vcu19, vcu20, vcu21, vcu22, ↓vcd0, ↓vcd1, ↓vcd2, ↓vcd3, opK_some, Bool.not_true]
  refine (specLs_at l hl2 σ h o p hv hE e1).mono ?_
  rintro v τ ⟨s1, w1⟩
  simp -implicitDefEqProofs (disch := omega) only [List.any_cons, List.any_nil, Nat.reduceEqDiff, List.map_cons, List.map_nil, Option.map_some, Option.map_none, List.nil_append, ↓reduceIte, vcu0, vcu1, vcu2, vcu3, vcu4, vcu5, vcu6, vcu7, vcu8, vcu9, vcu10, vcu11, vcu12, vcu13, vcu14, vcu15, vcu16, vcu17, vcu18, vcu19, vcu20, vcu21, vcu22, ↓vcd0, ↓vcd1, ↓vcd2, ↓vcd3, opK_some]
  refine fin_two Try.results31 ⟨v, ?_, s1, w1⟩
  simp -implicitDefEqProofs (disch := omega) only [List.any_cons, List.any_nil, Nat.reduceEqDiff, List.map_cons, List.map_nil, Option.map_some, Option.map_none, List.nil_append, ↓reduceIte, vcu0, vcu1, vcu2, vcu3, vcu4, vcu5, vcu6, vcu7, vcu8, vcu9, vcu10, vcu11, vcu12, vcu13, vcu14, vcu15, vcu16, vcu17, vcu18, vcu19, vcu20, vcu21, vcu22, ↓vcd0, ↓vcd1, ↓vcd2, ↓vcd3]
theorem implLoopSet_calls (σ : AHeap) (v : Value) (p : List Int) (hv : Ints .i64 σ v p) (hl : p.length ≤ 1048576) :
    ACall Try.prog w0 30 [v] σ fun r σ' => ∃ u, r = .tuple #[u, .bool (decide (EO p))] ∧ Sub σ σ' ∧ OwnB σ σ' u (lsV p) :=
  ACall.ints_arg (pre := []) (by kernel_rfl) hv fun σ1 g o hs hg => (implLoopSet_at σ1 g o p hg hl).mono fun r σ' ⟨u, a, b, c⟩ => ⟨u, a, hs.trans b, c.older hs⟩
end Go.Proofs.Ytgieeafdgdkkcaa
