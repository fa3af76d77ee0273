/- FnDialLeast answers true for every code. -/
import Derived.Test.YtnenopebfobajaaKo
set_option linter.unusedSimpArgs false
set_option linter.unusedVariables false
namespace Go.Proofs.Ytnenopebfobajaa
open Go Go.Abs Go.RowKit Go.Dial
variable {w0 : World}

theorem leastG_le : ∀ (m : Nat) (gs : List Int), m ≤ 4 → gs.length % 3 = 1 → InB (bd m) gs → leastG m gs ≤ 101376 * m
  | 0, _, _, _, _ => by simp [leastG]
  | m + 1, gs, hm, h3, hb => by
    unfold leastG
    split
    · rename_i h1
      obtain ⟨j1, j2⟩ := joinG_facts hb (by omega)
      rw [bd_step (by omega)] at j2
      have ih := leastG_le m (joinG gs) (by omega) (by rw [j1]; omega) j2
      obtain ⟨-, -, -, t4⟩ := tak_facts hb 4 (by omega)
      have hbd := bd_le (m + 1)
      omega
    · omega
theorem leastV_le {xs : List Int} (h : OfOk xs) : 0 ≤ leastV xs ∧ leastV xs ≤ 405504 := by
  rw [leastV, if_pos h]
  have h0 := of_nonneg fun k hk => (h.1 k hk).1
  obtain ⟨p, hp, e1, e2⟩ := padG_eq h.2.1 h.2.2
  refine ⟨Int.le_trans (sumI_nonneg h0) (least_sum h0 h.2.1 h.2.2).1, ?_⟩
  refine Int.le_trans (leastG_le 4 _ (Nat.le_refl _) ?_ ?_) (by omega)
  · rw [e1, List.length_append, List.length_replicate]; omega
  · rw [e1]
    intro x hx
    have e99 : bd 4 = 99 := rfl
    rw [e99]
    rcases List.mem_append.1 hx with hx | hx
    · exact mem_of_getD (p := fun x => 0 ≤ x ∧ x ≤ 99) h.1 x hx
    · rw [(List.mem_replicate.1 hx).2]; omega
theorem dom_set : ∀ (xs : List Int) (k : Nat) (d : Int), 0 ≤ d → k < xs.length → Dom xs (xs.set k (xs.getD k 0 + d)) ∧ sumI (xs.set k (xs.getD k 0 + d)) = sumI xs + d
  | [], k, d, _, h => absurd h (by simp)
  | x :: xs, 0, d, hd, _ => ⟨⟨by simp; omega, Dom.refl xs⟩, by simp [sumI]; omega⟩
  | x :: xs, k + 1, d, hd, h => by
    obtain ⟨h1, h2⟩ := dom_set xs k d hd (by simpa using h)
    refine ⟨⟨Int.le_refl _, by simpa using h1⟩, ?_⟩
    simp only [List.set_cons_succ, List.getD_cons_succ, sumI]
    omega
theorem sumI_take (xs : List Int) {k : Nat} (h : k < xs.length) : sumI (xs.take (k + 1)) = sumI (xs.take k) + xs.getD k 0 := by
  rw [List.take_succ_eq_append_getElem h, sumI_app]; simp [sumI, List.getD, h]
theorem sumI_le {xs : List Int} (h : ∀ x ∈ xs, 0 ≤ x ∧ x ≤ 100) : 0 ≤ sumI xs ∧ sumI xs ≤ 100 * xs.length := by
  induction xs with
  | nil => simp [sumI]
  | cons x xs ih =>
    have h1 := h x (by simp)
    have h2 := ih fun y hy => h y (by simp [hy])
    simp only [sumI, List.length_cons]
    omega
set_option maxRecDepth 8000 in
theorem sum6_calls (σ : AHeap) (v : Value) (xs : List Int) (hv : Ints .i64 σ v xs) (hl : xs.length ≤ 1000) (hx : ∀ x ∈ xs, 0 ≤ x ∧ x ≤ 100) :
    ACall Try.prog w0 53 [v] σ fun r σ' => r = .int .i64 (sumI xs) ∧ σ' = σ := by
  refine ACall.ints_quiet (pre := []) (post := []) (by kernel_rfl) hv fun σ1 h o _ hg => ?_
  refine acall_go mixed Try.func53 rfl good53 fun pr => ?_
  simp -implicitDefEqProofs (disch := omega) only [List.any_cons, List.any_nil, Nat.reduceEqDiff, List.map_cons, List.map_nil, Option.map_some, Option.map_none, List.nil_append, ↓reduceIte, vcu, ↓vcd]
  refine vc_loop_c mixed (by kernel_rfl) [0] (fun m a σ' => ∃ k : Nat, m + k = xs.length ∧ a 4 = .int .i64 k ∧ a 3 = .int .i64 (sumI (xs.take k)) ∧ σ' = σ1) xs.length ⟨0, by simp, rfl, rfl, rfl⟩ ?_
  rintro m a σ' hc ⟨k, hk, h4, h3, rfl⟩
  simp -implicitDefEqProofs (disch := omega) only [List.any_cons, List.any_nil, Nat.reduceEqDiff, List.map_cons, List.map_nil, Option.map_some, Option.map_none, List.nil_append, ↓reduceIte, vcu, ↓vcd] at hc
  obtain ⟨h0, -⟩ := hc
  have hb := sumI_le (xs := xs.take k) fun x hx' => hx x (List.mem_of_mem_take hx')
  rw [List.length_take] at hb
  by_cases hlt : k < xs.length
  · have hy := hg k hlt
    have hbx := hx (xs.getD k 0) (by simp [List.getD, hlt])
    simp -implicitDefEqProofs (disch := omega) only [List.any_cons, List.any_nil, Nat.reduceEqDiff, List.map_cons, List.map_nil, Option.map_some, Option.map_none, List.nil_append, ↓reduceIte, vcu, ↓vcd, h0, h3, h4, hy]
    exact ⟨⟨trivial, trivial⟩, m - 1, by omega, k + 1, by omega, by simp, by rw [sumI_take xs hlt], trivial⟩
  · simp -implicitDefEqProofs (disch := omega) only [List.any_cons, List.any_nil, Nat.reduceEqDiff, List.map_cons, List.map_nil, Option.map_some, Option.map_none, List.nil_append, ↓reduceIte, vcu, ↓vcd, h0, h3, h4]
    have e : k = xs.length := by omega
    refine fin_one Try.results53 ⟨?_, rfl⟩
    simp -implicitDefEqProofs (disch := omega) only [List.any_cons, List.any_nil, Nat.reduceEqDiff, List.map_cons, List.map_nil, Option.map_some, Option.map_none, List.nil_append, ↓reduceIte, vcu, ↓vcd, h3]
    rw [e, List.take_length]
theorem law13 (σ : AHeap) (v : Value) (bs : List Int) (hv : Ints .u8 σ v bs) (hm : bs.length ≤ maxLen) (hw : ∀ z ∈ bs, (Lit.int .u8 z).wf = true) :
    ACall Try.prog w0 13 [v] σ fun r _ => r = .bool true := by
  unfold maxLen at hm
  refine ACall.ints_arg (pre := []) (by kernel_rfl) hv fun σ1 h o hs hg => ?_
  clear hv hs σ v
  have hb := bytes_of hw
  refine acall_go mixed Try.func13 rfl good13 fun pr => ?_
  by_cases hbig : 1048576 < bs.length
  · simp -implicitDefEqProofs (disch := omega) only [List.any_cons, List.any_nil, Nat.reduceEqDiff, List.map_cons, List.map_nil, Option.map_some, Option.map_none, List.nil_append, ↓reduceIte, vcu, ↓vcd]
    refine fin_one Try.results13 ?_
    simp -implicitDefEqProofs (disch := omega) only [List.any_cons, List.any_nil, Nat.reduceEqDiff, List.map_cons, List.map_nil, Option.map_some, Option.map_none, List.nil_append, ↓reduceIte, vcu, ↓vcd]
  have hl : bs.length ≤ 1048576 := by omega
  simp -implicitDefEqProofs (disch := omega) only [List.any_cons, List.any_nil, Nat.reduceEqDiff, List.map_cons, List.map_nil, Option.map_some, Option.map_none, List.nil_append, ↓reduceIte, vcu, ↓vcd]
  refine (drawDialLeast_at σ1 h o bs hg hl hb).mono ?_
  rintro r τ ⟨xs, hv, hl1, hl2, hs⟩
  clear hg hl hb hs
  simp -implicitDefEqProofs (disch := omega) only [List.any_cons, List.any_nil, Nat.reduceEqDiff, List.map_cons, List.map_nil, Option.map_some, Option.map_none, List.nil_append, ↓reduceIte, vcu, ↓vcd, opK_some]
  refine (implLe_calls τ r xs hv (by omega)).mono ?_
  rintro _ _ ⟨rfl, rfl⟩
  rename_i τ
  simp -implicitDefEqProofs (disch := omega) only [List.any_cons, List.any_nil, Nat.reduceEqDiff, List.map_cons, List.map_nil, Option.map_some, Option.map_none, List.nil_append, ↓reduceIte, vcu, ↓vcd, opK_some]
  refine (least_calls τ r xs hv (by omega)).mono ?_
  rintro _ _ ⟨rfl, rfl⟩
  rename_i τ
  by_cases hd : OfOk xs
  case neg =>
    have e : leastV xs = -1 := if_neg hd
    rw [e]
    simp -implicitDefEqProofs (disch := omega) only [List.any_cons, List.any_nil, Nat.reduceEqDiff, List.map_cons, List.map_nil, Option.map_some, Option.map_none, List.nil_append, ↓reduceIte, vcu, ↓vcd, opK_some, ne_eq, not_true_eq_false, decide_false, decide_true]
    refine (alive_at _).mono ?_
    rintro r _ ⟨rfl, rfl⟩
    simp -implicitDefEqProofs (disch := omega) only [List.any_cons, List.any_nil, Nat.reduceEqDiff, List.map_cons, List.map_nil, Option.map_some, Option.map_none, List.nil_append, ↓reduceIte, vcu, ↓vcd, opK_some]
    refine fin_one Try.results13 ?_
    simp -implicitDefEqProofs (disch := omega) only [List.any_cons, List.any_nil, Nat.reduceEqDiff, List.map_cons, List.map_nil, Option.map_some, Option.map_none, List.nil_append, ↓reduceIte, vcu, ↓vcd]
  have hx99 : ∀ x ∈ xs, 0 ≤ x ∧ x ≤ 99 := mem_of_getD (p := fun x => 0 ≤ x ∧ x ≤ 99) hd.1
  have h0 := of_nonneg fun k hk => (hd.1 k hk).1
  have hlb := leastV_le hd
  have hsum : sumI xs ≤ leastV xs ∧ (xs.length ≤ 4 → leastV xs = sumI xs) := by
    rw [leastV, if_pos hd]; exact least_sum h0 hd.2.1 hd.2.2
  have hsl := sumI_le (xs := xs) fun x hx => by have := hx99 x hx; omega
  -- one dialled once more, as far as it may be
  have hmore : ∀ k, k < xs.length → xs.getD k 0 + 1 ≤ 99 → leastV xs + 1 ≤ leastV (xs.set k (xs.getD k 0 + 1)) ∧ leastV (xs.set k (xs.getD k 0 + 1)) ≤ 405504 := fun k hk h1 => by
    have gs : ∀ i, (xs.set k (xs.getD k 0 + 1)).getD i 0 = if i = k then xs.getD k 0 + 1 else xs.getD i 0 := fun i => by
      by_cases e : i = k
      · subst e; simp [List.getD, hk]
      · rw [if_neg e]; simp [List.getD, List.getElem?_set, Ne.symm e]
    have hOf : OfOk (xs.set k (xs.getD k 0 + 1)) := by
      refine ⟨fun i hi => ?_, by rw [List.length_set]; exact hd.2⟩
      rw [List.length_set] at hi
      rw [gs]
      by_cases e : i = k
      · rw [if_pos e]; have := hd.1 k hk; omega
      · rw [if_neg e]; exact hd.1 i hi
    obtain ⟨d1, d2⟩ := dom_set xs k 1 (by omega) hk
    have := least_dom d1 h0 (of_nonneg fun i hi => (hOf.1 i hi).1) hd.2.1 hd.2.2
    refine ⟨?_, (leastV_le hOf).2⟩
    rw [leastV, leastV, if_pos hd, if_pos hOf]
    omega
  generalize hX : leastV xs = X at *
  have hof10 := hd.2
  obtain ⟨ad, z, rfl⟩ := ints_lenV hv
  simp -implicitDefEqProofs (disch := omega) only [List.any_cons, List.any_nil, Nat.reduceEqDiff, List.map_cons, List.map_nil, Option.map_some, Option.map_none, List.nil_append, ↓reduceIte, vcu, ↓vcd, opK_some, ne_eq, not_true_eq_false, decide_false, decide_true]
  refine vc_loop_c mixed (by kernel_rfl) [3, 4] (fun m a σ' => ∃ k : Nat, m + k = xs.length ∧ a 5 = .int .i64 k ∧ Sub τ σ') xs.length ⟨0, by simp, rfl, Sub.refl _⟩ ?_
  rintro m a σ' hc ⟨k, hk, h5, hsub⟩
  simp -implicitDefEqProofs (disch := omega) only [List.any_cons, List.any_nil, Nat.reduceEqDiff, List.map_cons, List.map_nil, Option.map_some, Option.map_none, List.nil_append, ↓reduceIte, vcu, ↓vcd] at hc
  obtain ⟨h3, h4, -⟩ := hc
  have hv2 := hv.sub hsub
  by_cases hlt : k < xs.length
  · have hx := hd.1 k hlt
    simp -implicitDefEqProofs (disch := omega) only [List.any_cons, List.any_nil, Nat.reduceEqDiff, List.map_cons, List.map_nil, Option.map_some, Option.map_none, List.nil_append, ↓reduceIte, vcu, ↓vcd, h3, h4, h5]
    refine r_lit el31 (out := #[]) (by kernel_rfl) (by kernel_rfl) fun g1 τ1 n1 s1 v1 => ?_
    simp -implicitDefEqProofs (disch := omega) only [List.any_cons, List.any_nil, Nat.reduceEqDiff, List.map_cons, List.map_nil, Option.map_some, Option.map_none, List.nil_append, ↓reduceIte, vcu, ↓vcd, h3]
    refine r_pushIV (g := g1) (xs := []) (ys := xs) (k := .i64) (len := 0) el31 (by omega) sl31 (by simp -implicitDefEqProofs (disch := omega) only [List.any_cons, List.any_nil, Nat.reduceEqDiff, List.map_cons, List.map_nil, Option.map_some, Option.map_none, List.nil_append, ↓reduceIte, vcu, ↓vcd]) v1 rfl (by simp -implicitDefEqProofs (disch := omega) only [List.any_cons, List.any_nil, Nat.reduceEqDiff, List.map_cons, List.map_nil, Option.map_some, Option.map_none, List.nil_append, ↓reduceIte, vcu, ↓vcd, h3]; exact hv2.sub s1) (by omega) fun g2 τ2 n2 k2 v2 => ?_
    rw [List.nil_append] at v2
    have rl : ld τ2 g2 (0 + k) = some (.int .i64 (xs.getD k 0)) := intsAt_own v2 k hlt
    simp -implicitDefEqProofs (disch := omega) only [List.any_cons, List.any_nil, Nat.reduceEqDiff, List.map_cons, List.map_nil, Option.map_some, Option.map_none, List.nil_append, ↓reduceIte, vcu, ↓vcd, h3, h4, h5, rl]
    refine r_setI (g := g2) (i := 0 + k) (v := xs.getD k 0 + 1) (by simp -implicitDefEqProofs (disch := omega) only [List.any_cons, List.any_nil, Nat.reduceEqDiff, List.map_cons, List.map_nil, Option.map_some, Option.map_none, List.nil_append, ↓reduceIte, vcu, ↓vcd]) (by simp -implicitDefEqProofs (disch := omega) only [List.any_cons, List.any_nil, Nat.reduceEqDiff, List.map_cons, List.map_nil, Option.map_some, Option.map_none, List.nil_append, ↓reduceIte, vcu, ↓vcd]) co3 v2 (by omega) fun τ3 k3 v3 => ?_
    rw [Nat.zero_add] at v3
    have hgd : (xs.set k (xs.getD k 0 + 1)).getD k 0 = xs.getD k 0 + 1 := by simp [List.getD, hlt]
    have rl3 : ld τ3 g2 (0 + k) = some (.int .i64 (xs.getD k 0 + 1)) := by
      have := intsAt_own v3 k (by rw [List.length_set]; exact hlt)
      rwa [hgd] at this
    have nn : ∀ g, σ' g = none → τ g = none := fun g hn => by
      cases e : τ g with
      | none => rfl
      | some ob => rw [hsub _ _ e] at hn; cases hn
    have nn2 : τ g2 = none := by
      cases e : τ g2 with
      | none => rfl
      | some ob => rw [(hsub.trans s1) _ _ e] at n2; cases n2
    have hs3 : Sub τ τ3 := k3.sub (k2.sub (hsub.trans s1) (nn g1 n1)) nn2
    simp -implicitDefEqProofs (disch := omega) only [List.any_cons, List.any_nil, Nat.reduceEqDiff, List.map_cons, List.map_nil, Option.map_some, Option.map_none, List.nil_append, ↓reduceIte, vcu, ↓vcd, h3, h4, h5]
    refine (implLe_calls τ3 _ (xs.set k (xs.getD k 0 + 1)) (.inr ⟨g2, 0, by simp, intsAt_own v3⟩) (by rw [List.length_set]; omega)).mono ?_
    rintro _ _ ⟨rfl, rfl⟩
    rename_i τ3
    by_cases h1 : xs.getD k 0 + 1 ≤ 99
    · have hl := hmore k hlt h1
      simp -implicitDefEqProofs (disch := omega) only [List.any_cons, List.any_nil, Nat.reduceEqDiff, List.map_cons, List.map_nil, Option.map_some, Option.map_none, List.nil_append, ↓reduceIte, vcu, ↓vcd, opK_some, h3, h4, h5, rl3]
      exact ⟨by simp [h3, h4], m - 1, by omega, k + 1, by omega, by simp, hs3⟩
    · simp -implicitDefEqProofs (disch := omega) only [List.any_cons, List.any_nil, Nat.reduceEqDiff, List.map_cons, List.map_nil, Option.map_some, Option.map_none, List.nil_append, ↓reduceIte, vcu, ↓vcd, opK_some, h3, h4, h5, rl3]
      exact ⟨by simp [h3, h4], m - 1, by omega, k + 1, by omega, by simp, hs3⟩
  · have cS := sum6_calls (w0 := w0) σ' _ xs hv2 (by omega) (fun x hx => by have := hx99 x hx; omega)
    simp -implicitDefEqProofs (disch := omega) only [List.any_cons, List.any_nil, Nat.reduceEqDiff, List.map_cons, List.map_nil, Option.map_some, Option.map_none, List.nil_append, ↓reduceIte, vcu, ↓vcd, h3, h4, h5]
    refine cS.mono ?_
    rintro _ _ ⟨rfl, rfl⟩
    rename_i τ4
    by_cases h4l : 4 < xs.length
    · simp -implicitDefEqProofs (disch := omega) only [List.any_cons, List.any_nil, Nat.reduceEqDiff, List.map_cons, List.map_nil, Option.map_some, Option.map_none, List.nil_append, ↓reduceIte, vcu, ↓vcd, opK_some, h3, h4, h5]
      refine fin_one Try.results13 ?_
      simp -implicitDefEqProofs (disch := omega) only [List.any_cons, List.any_nil, Nat.reduceEqDiff, List.map_cons, List.map_nil, Option.map_some, Option.map_none, List.nil_append, ↓reduceIte, vcu, ↓vcd]
    · have e := hsum.2 (by omega)
      simp -implicitDefEqProofs (disch := omega) only [List.any_cons, List.any_nil, Nat.reduceEqDiff, List.map_cons, List.map_nil, Option.map_some, Option.map_none, List.nil_append, ↓reduceIte, vcu, ↓vcd, opK_some, h3, h4, h5]
      refine (sum6_calls (w0 := w0) τ4 _ xs hv2 (by omega) (fun x hx => by have := hx99 x hx; omega)).mono ?_
      rintro _ _ ⟨rfl, rfl⟩
      simp -implicitDefEqProofs (disch := omega) only [List.any_cons, List.any_nil, Nat.reduceEqDiff, List.map_cons, List.map_nil, Option.map_some, Option.map_none, List.nil_append, ↓reduceIte, vcu, ↓vcd, opK_some, e, decide_true]
      refine fin_one Try.results13 ?_
      simp -implicitDefEqProofs (disch := omega) only [List.any_cons, List.any_nil, Nat.reduceEqDiff, List.map_cons, List.map_nil, Option.map_some, Option.map_none, List.nil_append, ↓reduceIte, vcu, ↓vcd]

open Go.ChangeShapes Go.WideShapes Go.ChangeAt Go.RowKit

set_option maxRecDepth 100000 in
theorem lifted13 (os : Os) (started : os.Started) (H : Type) (enc : TypeId × Value → H) :
    ReturnsInHanded {} Try.checked os 13 .any (Rows.fnDialLeastSpec.pre6 enc Try.prog Try.f13 Rows.fnDialLeastRow.domain false) (Rows.fnDialLeastSpec.post enc Try.prog Try.f13 false true false false) := by
  refine returnsInHanded_of_change (C := Try.checked) own started (by kernel_rfl) Try.func13
    (ChangeSpec.witness6 (enc := enc) (C := Try.checked) false ⟨#[], #[.slice none 0 0], []⟩ 8 (by kernel_rfl) (by kernel_rfl) (by kernel_rfl) (by kernel_rfl)) ?_
  intro W base args ds gs before hval hW _ _
  have hW' := hW
  obtain ⟨p, q, hA, hV, -, -, -⟩ := hW'
  rw [Try.params13] at hA hval
  obtain ⟨v0, vs0, d0, ds0, p0, q0, hargs, rfl, rfl, h0, r0⟩ := trodAll_cons hA
  obtain ⟨rfl, rfl, rfl⟩ := trodAll_nil r0
  obtain ⟨rfl, rfl⟩ := trodVars_none hV
  obtain rfl : args = #[v0] := by cases args; simp_all
  obtain ⟨β0, σ0, a0, zs0, L0, U0, S0, R0, I0, w0, m0⟩ := start_ints Try.underlying22 Try.underlying5 co5 (Start.start W) (hval 0 22 v0 rfl rfl) h0
  refine ((law13 σ0 a0 zs0 (I0) m0 w0).2 noProt β0 W [v0] S0.rel (.cons R0 (.nil _))).mono fun e W' h => ?_
  obtain ⟨β', r, r', σ', -, rfl, hr, hrel, rfl⟩ := h
  cases hr
  exact ⟨_, rfl, law_post laidOut hW rfl rfl (by rw [Try.params13]; intro t ht; simp only [List.mem_cons, List.not_mem_nil, or_false, or_self] at ht; rcases ht with rfl <;> exact ⟨by kernel_rfl, of_decide_eq_true (by kernel_rfl)⟩) rfl Try.underlying4 hrel.below⟩

theorem facts13 : joinedFacts Try.prog 13 Try.f13 Rows.fnDialLeastSpec Rows.fnDialLeastRow = true := by
  unfold joinedFacts
  rw [mayE, liftsE, makeE]
  kernel_rfl

theorem proved13 : Rows.FnDialLeastSaid :=
  OpenClaim.holds_of_wide 13 Try.f13 rfl rfl rfl rfl rfl rfl rfl ⟨rfl, rfl, rfl, rfl, rfl⟩ rfl rfl rfl rfl rfl (by kernel_rfl) Try.func13 facts13 (of_decide_eq_true (by kernel_rfl))
    (by unfold Func.isWrapper; first | (rw [if_pos (by decide +kernel)]; kernel_rfl) | (rw [if_neg (by decide +kernel)]; exact ⟨rfl, rfl⟩))
    (fun os started H enc _ => lifted13 os started H enc)


end Go.Proofs.Ytnenopebfobajaa
