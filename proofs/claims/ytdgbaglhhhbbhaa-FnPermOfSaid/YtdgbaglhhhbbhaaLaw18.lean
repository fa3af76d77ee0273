/- FnExactPermOf answers true at every two numbers. -/
import Derived.Test.YtdgbaglhhhbbhaaPu
set_option linter.unusedSimpArgs false
set_option linter.unusedVariables false
namespace Go.Proofs.Ytdgbaglhhhbbhaa
open Go Go.Abs Go.RowKit
variable {w0 : World}

theorem markI_calls (β σ : AHeap) (v : Value) (xs : List Int) (k : Int) (hv : OwnI β σ v xs) (hl : xs.length ≤ 1048576) (hk : 0 ≤ k ∧ k ≤ 1099511627776) :
    ACall Try.prog w0 48 [v, .int .i64 k] σ fun r σ' => r = .int .i64 (k + xs.length) ∧ OwnI β σ' v (seq k xs.length) ∧ (∀ h ob, β h = some ob → σ h = some ob → σ' h = some ob) := by
  rcases hv with ⟨rfl, rfl⟩ | ⟨g, rfl, hg, hn⟩
  · refine ACall.nil_arg (pre := []) (z := 1) (by kernel_rfl) fun g hg => ?_
    refine (mark_own _ g [] k (AHeap.upd_same _ _ _) (by simp) hk).mono ?_
    rintro r σ' ⟨rfl, rfl⟩
    exact ⟨rfl, .inl ⟨rfl, rfl⟩, fun h ob _ e => by rw [AHeap.upd_ne _ _ (ne_of' hg e), AHeap.upd_ne _ _ (ne_of' hg e)]; exact e⟩
  · refine (mark_own σ g xs k hg hl hk).mono ?_
    rintro r σ' ⟨rfl, rfl⟩
    exact ⟨rfl, .inr ⟨g, by rw [seq_length], AHeap.upd_same _ _ _, hn⟩, fun h ob hb e => by rw [AHeap.upd_ne _ _ (ne_of' hn hb)]; exact e⟩
theorem heldI_calls (β σ : AHeap) (v : Value) (n : Nat) (k : Int) (hv : OwnI β σ v (seq k n)) (hl : n ≤ 1048576) (hk : 0 ≤ k ∧ k ≤ 1099511627776) :
    ACall Try.prog w0 49 [v, .int .i64 k] σ fun r σ' => r = .int .i64 (k + n) ∧ σ' = σ := by
  rcases hv with ⟨rfl, h⟩ | ⟨g, rfl, hg, -⟩
  · have : n = 0 := by have := congrArg List.length h; rwa [seq_length] at this
    subst this
    exact (held_nil σ k hk).mono (by rintro r σ' ⟨rfl, rfl⟩; exact ⟨by simp, rfl⟩)
  · rw [seq_length]; exact held_own σ g n k (intsAt_own hg) hl hk
theorem ofV_length (l r : Int) : (ofV l r).length ≤ 6 := by
  unfold ofV; split
  · rename_i h
    rw [(ofS_inv (by have := h.2.2.2; have := h.2.2.1; omega) _ (Nat.le_refl _)).2.2]
    have := h.2.1; omega
  · simp
theorem OwnI.sub {β σ τ : AHeap} {v : Value} {xs : List Int} (h : OwnI β σ v xs) (hs : Sub σ τ) : OwnI β τ v xs := h.imp id fun ⟨g, e, hg, hn⟩ => ⟨g, e, hs _ _ hg, hn⟩

theorem law18 (σ : AHeap) (l r : Int) (hl : (Lit.int .i64 l).wf = true) (hr : (Lit.int .i64 r).wf = true) :
    ACall Try.prog w0 18 [.int .i64 l, .int .i64 r] σ fun r _ => r = .bool true := by
  have hR : -9223372036854775808 ≤ r := by
    have : -9223372036854775808 ≤ r ∧ r ≤ 9223372036854775807 := by simpa [Lit.wf, IntKind.min, IntKind.max, IntKind.signed, IntKind.bits] using hr
    exact this.1
  have hb : (ofV l r).length ≤ 1048576 := by have := ofV_length l r; omega
  have hS := fun σ => specOf_at (w0 := w0) σ l r hR
  have hI := fun σ => implOf_at (w0 := w0) σ l r
  generalize decide (OfOk l r) = ok at hS hI
  refine acall_go mixed Try.func18 rfl good18 ?_
  cases ok
  all_goals
    simp -implicitDefEqProofs (disch := omega) only [List.any_cons, List.any_nil, Nat.reduceEqDiff, List.map_cons, List.map_nil, Option.map_some, Option.map_none, List.nil_append, ↓reduceIte, vcu0, vcu1, vcu2, vcu3, vcu4, vcu5, vcu6, vcu7, vcu8, vcu9, vcu10, vcu11, vcu12, vcu13, vcu14, ↓vcd0, ↓vcd1, ↓vcd2]
    refine (hS σ).mono ?_
    rintro _ τ1 ⟨w, rfl, s1, w1⟩
    simp -implicitDefEqProofs (disch := omega) only [List.any_cons, List.any_nil, Nat.reduceEqDiff, List.map_cons, List.map_nil, Option.map_some, Option.map_none, List.nil_append, ↓reduceIte, vcu0, vcu1, vcu2, vcu3, vcu4, vcu5, vcu6, vcu7, vcu8, vcu9, vcu10, vcu11, vcu12, vcu13, vcu14, ↓vcd0, ↓vcd1, ↓vcd2, opK_some, List.getElem?_toArray, List.getElem?_cons_zero, List.getElem?_cons_succ]
    refine (hI τ1).mono ?_
    rintro _ τ2 ⟨g, rfl, s2, w2⟩
    simp -implicitDefEqProofs (disch := omega) only [List.any_cons, List.any_nil, Nat.reduceEqDiff, List.map_cons, List.map_nil, Option.map_some, Option.map_none, List.nil_append, ↓reduceIte, vcu0, vcu1, vcu2, vcu3, vcu4, vcu5, vcu6, vcu7, vcu8, vcu9, vcu10, vcu11, vcu12, vcu13, vcu14, ↓vcd0, ↓vcd1, ↓vcd2, opK_some, List.getElem?_toArray, List.getElem?_cons_zero, List.getElem?_cons_succ]
    refine (eqInts_calls τ2 _ _ _ _ w2.ints (w1.ints.sub s2) hb hb).mono ?_
    rintro r _ ⟨rfl, rfl⟩
    simp -implicitDefEqProofs (disch := omega) only [List.any_cons, List.any_nil, Nat.reduceEqDiff, List.map_cons, List.map_nil, Option.map_some, Option.map_none, List.nil_append, ↓reduceIte, vcu0, vcu1, vcu2, vcu3, vcu4, vcu5, vcu6, vcu7, vcu8, vcu9, vcu10, vcu11, vcu12, vcu13, vcu14, ↓vcd0, ↓vcd1, ↓vcd2, opK_some, decide_true, beq_self_eq_true, Bool.not_true]
    refine (markI_calls τ1 _ _ _ 1 w2 hb (by omega)).mono ?_
    rintro r τ3 ⟨rfl, m1, m2⟩
    have w1' := w1.sub (τ := τ3) fun h ob e => m2 h ob e (s2 h ob e)
    simp -implicitDefEqProofs (disch := omega) only [List.any_cons, List.any_nil, Nat.reduceEqDiff, List.map_cons, List.map_nil, Option.map_some, Option.map_none, List.nil_append, ↓reduceIte, vcu0, vcu1, vcu2, vcu3, vcu4, vcu5, vcu6, vcu7, vcu8, vcu9, vcu10, vcu11, vcu12, vcu13, vcu14, ↓vcd0, ↓vcd1, ↓vcd2, opK_some, List.getElem?_toArray, List.getElem?_cons_zero, List.getElem?_cons_succ]
    refine (heldI_calls τ1 τ3 _ _ 1 m1 hb (by omega)).mono ?_
    rintro r _ ⟨rfl, rfl⟩
    simp -implicitDefEqProofs (disch := omega) only [List.any_cons, List.any_nil, Nat.reduceEqDiff, List.map_cons, List.map_nil, Option.map_some, Option.map_none, List.nil_append, ↓reduceIte, vcu0, vcu1, vcu2, vcu3, vcu4, vcu5, vcu6, vcu7, vcu8, vcu9, vcu10, vcu11, vcu12, vcu13, vcu14, ↓vcd0, ↓vcd1, ↓vcd2, opK_some, ne_eq, not_true_eq_false, eq_self]
    refine (hI _).mono ?_
    rintro _ τ4 ⟨g2, rfl, s4, w4⟩
    simp -implicitDefEqProofs (disch := omega) only [List.any_cons, List.any_nil, Nat.reduceEqDiff, List.map_cons, List.map_nil, Option.map_some, Option.map_none, List.nil_append, ↓reduceIte, vcu0, vcu1, vcu2, vcu3, vcu4, vcu5, vcu6, vcu7, vcu8, vcu9, vcu10, vcu11, vcu12, vcu13, vcu14, ↓vcd0, ↓vcd1, ↓vcd2, opK_some, List.getElem?_toArray, List.getElem?_cons_zero, List.getElem?_cons_succ]
    refine (eqInts_calls τ4 _ _ _ _ w4.ints (w1'.ints.sub s4) hb hb).mono ?_
    rintro r _ ⟨rfl, rfl⟩
    simp -implicitDefEqProofs (disch := omega) only [List.any_cons, List.any_nil, Nat.reduceEqDiff, List.map_cons, List.map_nil, Option.map_some, Option.map_none, List.nil_append, ↓reduceIte, vcu0, vcu1, vcu2, vcu3, vcu4, vcu5, vcu6, vcu7, vcu8, vcu9, vcu10, vcu11, vcu12, vcu13, vcu14, ↓vcd0, ↓vcd1, ↓vcd2, opK_some, decide_true, beq_self_eq_true, Bool.not_true]
    refine (heldI_calls τ1 _ _ _ 1 (m1.sub s4) hb (by omega)).mono ?_
    rintro r _ ⟨rfl, rfl⟩
    simp -implicitDefEqProofs (disch := omega) only [List.any_cons, List.any_nil, Nat.reduceEqDiff, List.map_cons, List.map_nil, Option.map_some, Option.map_none, List.nil_append, ↓reduceIte, vcu0, vcu1, vcu2, vcu3, vcu4, vcu5, vcu6, vcu7, vcu8, vcu9, vcu10, vcu11, vcu12, vcu13, vcu14, ↓vcd0, ↓vcd1, ↓vcd2, opK_some, ne_eq, not_true_eq_false, eq_self]
    refine fin_one Try.results18 ?_
    simp -implicitDefEqProofs (disch := omega) only [List.any_cons, List.any_nil, Nat.reduceEqDiff, List.map_cons, List.map_nil, Option.map_some, Option.map_none, List.nil_append, ↓reduceIte, vcu0, vcu1, vcu2, vcu3, vcu4, vcu5, vcu6, vcu7, vcu8, vcu9, vcu10, vcu11, vcu12, vcu13, vcu14, ↓vcd0, ↓vcd1, ↓vcd2]

open Go.ChangeShapes Go.WideShapes Go.ChangeAt Go.RowKit

set_option maxRecDepth 100000 in
theorem lifted18 (os : Os) (started : os.Started) (H : Type) (enc : TypeId × Value → H) :
    ReturnsInHanded {} Try.checked os 18 .any (Rows.fnExactPermOfSpec.pre6 enc Try.prog Try.f18 Rows.fnExactPermOfRow.domain false) (Rows.fnExactPermOfSpec.post enc Try.prog Try.f18 false true false false) := by
  refine returnsInHanded_of_change (C := Try.checked) own started (by kernel_rfl) Try.func18
    (ChangeSpec.witness6 (enc := enc) (C := Try.checked) false ⟨#[], #[.int .i64 0, .int .i64 0], []⟩ 8 (by kernel_rfl) (by kernel_rfl) (by kernel_rfl) (by kernel_rfl)) ?_
  intro W base args ds gs before hval hW _ _
  have hW' := hW
  obtain ⟨p, q, hA, hV, -, -, -⟩ := hW'
  rw [Try.params18] at hA hval
  obtain ⟨v0, vs0, d0, ds0, p0, q0, hargs, rfl, rfl, h0, r0⟩ := trodAll_cons hA
  obtain ⟨v1, vs1, d1, ds1, p1, q1, rfl, rfl, rfl, h1, r1⟩ := trodAll_cons r0
  obtain ⟨rfl, rfl, rfl⟩ := trodAll_nil r1
  obtain ⟨rfl, rfl⟩ := trodVars_none hV
  obtain rfl : args = #[v0, v1] := by cases args; simp_all
  obtain ⟨z0, rfl, rfl, rfl, wz0⟩ := open_int Try.underlying3 (hval 0 3 v0 rfl rfl) h0
  obtain ⟨z1, rfl, rfl, rfl, wz1⟩ := open_int Try.underlying3 (hval 1 3 v1 rfl rfl) h1
  refine ((law18 (fun _ => none) z0 z1 wz0 wz1).2 (fun _ => none) W [.int .i64 z0, .int .i64 z1] (Start.start W).rel (.cons (.int _ _) (.cons (.int _ _) (.nil _)))).mono fun e W' h => ?_
  obtain ⟨β', r, r', σ', -, rfl, hr, hrel, rfl⟩ := h
  cases hr
  exact ⟨_, rfl, law_post laidOut hW rfl rfl (by rw [Try.params18]; intro t ht; simp only [List.mem_cons, List.not_mem_nil, or_false, or_self] at ht; rcases ht with rfl <;> exact ⟨by kernel_rfl, of_decide_eq_true (by kernel_rfl)⟩) rfl Try.underlying4 hrel.below⟩

theorem facts18 : joinedFacts Try.prog 18 Try.f18 Rows.fnExactPermOfSpec Rows.fnExactPermOfRow = true := by
  unfold joinedFacts
  rw [mayE, liftsE, makeE]
  kernel_rfl

theorem proved18 : Rows.FnExactPermOfSaid :=
  OpenClaim.holds_of_wide 18 Try.f18 rfl rfl rfl rfl rfl rfl rfl ⟨rfl, rfl, rfl, rfl, rfl⟩ rfl rfl rfl rfl rfl (by kernel_rfl) Try.func18 facts18 (of_decide_eq_true (by kernel_rfl))
    (by unfold Func.isWrapper; first | (rw [if_pos (by decide +kernel)]; kernel_rfl) | (rw [if_neg (by decide +kernel)]; exact ⟨rfl, rfl⟩))
    (fun os started H enc _ => lifted18 os started H enc)


end Go.Proofs.Ytdgbaglhhhbbhaa
