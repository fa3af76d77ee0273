/- FnShareSum answers true for every code. -/
import Derived.Test.YtnenopebfobajaaKo
set_option linter.unusedSimpArgs false
set_option linter.unusedVariables false
namespace Go.Proofs.Ytnenopebfobajaa
open Go Go.Abs Go.RowKit Go.Dial
variable {w0 : World}

theorem shr_app : ∀ (a b : List Int), shr (a ++ b) = shr a + shr b
  | [], b => by simp [shr]
  | x :: a, b => by rw [List.cons_append, shr, shr, shr_app a b, Int.add_assoc]
theorem lnOk_sub {xs ys : List Int} (h : LnOk xs) (hs : ∀ y ∈ ys, y ∈ xs) (hl : ys.length ≤ 10) : LnOk ys := by
  refine ⟨fun k hk => ?_, hl⟩
  have := hs (ys.getD k 0) (by simp [List.getD, hk])
  exact mem_of_getD (p := fun x => 1 ≤ x ∧ x ≤ 3) h.1 _ this
theorem share_parts {xs : List Int} (h : LnOk xs) (m : Nat) : shareV (xs.take m) + shareV (xs.drop m) = shareV xs := by
  have ht : LnOk (xs.take m) := lnOk_sub h (fun y hy => List.mem_of_mem_take hy) (by rw [List.length_take]; have := h.2; omega)
  have hd : LnOk (xs.drop m) := lnOk_sub h (fun y hy => List.mem_of_mem_drop hy) (by rw [List.length_drop]; have := h.2; omega)
  rw [shareV, shareV, shareV, if_pos h, if_pos ht, if_pos hd, shS_shr _ _ (Nat.le_refl _), shS_shr _ _ (Nat.le_refl _), shS_shr _ _ (Nat.le_refl _), List.take_length, List.take_length, List.take_length, ← shr_app, List.take_append_drop]
/-- a shorter number takes more of the digits -/
theorem share_less {xs : List Int} (h : LnOk xs) {k : Nat} (hk : k < xs.length) (h1 : 1 < xs.getD k 0) : shareV xs < shareV (xs.set k (xs.getD k 0 - 1)) := by
  have hx := h.1 k hk
  have gs : ∀ i, (xs.set k (xs.getD k 0 - 1)).getD i 0 = if i = k then xs.getD k 0 - 1 else xs.getD i 0 := fun i => by
    by_cases e : i = k
    · subst e; simp [List.getD, hk]
    · rw [if_neg e]; simp [List.getD, List.getElem?_set, Ne.symm e]
  have h' : LnOk (xs.set k (xs.getD k 0 - 1)) := by
    refine ⟨fun i hi => ?_, by rw [List.length_set]; exact h.2⟩
    rw [List.length_set] at hi
    rw [gs]
    by_cases e : i = k
    · rw [if_pos e]; omega
    · rw [if_neg e]; exact h.1 i hi
  rw [shareV, shareV, if_pos h, if_pos h', shS_sumN h _ (Nat.le_refl _), shS_sumN h' _ (Nat.le_refl _), List.length_set]
  have hp := shA_pos xs k
  have e := sumN_upd (f := shA xs) (g := shA (xs.set k (xs.getD k 0 - 1))) (k := k) (c := 3 * shA xs k) xs.length hk (fun i _ hne => by unfold shA lnA; rw [gs, if_neg hne]) (by
    unfold shA lnA
    rw [gs, if_pos rfl]
    have : 3 - (xs.getD k 0 - 1).toNat = (3 - (xs.getD k 0).toNat) + 1 := by omega
    rw [this, Nat.pow_succ]; omega)
  omega
theorem law6 (σ : AHeap) (v : Value) (bs : List Int) (hv : Ints .u8 σ v bs) (hm : bs.length ≤ maxLen) (hw : ∀ z ∈ bs, (Lit.int .u8 z).wf = true) :
    ACall Try.prog w0 6 [v] σ fun r _ => r = .bool true := by
  unfold maxLen at hm
  refine ACall.ints_arg (pre := []) (by kernel_rfl) hv fun σ1 h o hs hg => ?_
  clear hv hs σ v
  have hb := bytes_of hw
  refine acall_go mixed Try.func6 rfl good6 fun pr => ?_
  by_cases hbig : 1048576 < bs.length
  · simp -implicitDefEqProofs (disch := omega) only [List.any_cons, List.any_nil, Nat.reduceEqDiff, List.map_cons, List.map_nil, Option.map_some, Option.map_none, List.nil_append, ↓reduceIte, vcu, ↓vcd]
    refine fin_one Try.results6 ?_
    simp -implicitDefEqProofs (disch := omega) only [List.any_cons, List.any_nil, Nat.reduceEqDiff, List.map_cons, List.map_nil, Option.map_some, Option.map_none, List.nil_append, ↓reduceIte, vcu, ↓vcd]
  have hl : bs.length ≤ 1048576 := by omega
  simp -implicitDefEqProofs (disch := omega) only [List.any_cons, List.any_nil, Nat.reduceEqDiff, List.map_cons, List.map_nil, Option.map_some, Option.map_none, List.nil_append, ↓reduceIte, vcu, ↓vcd]
  refine (drawShareSum_at σ1 h o bs hg hl hb).mono ?_
  rintro r τ ⟨xs, hv, hl1, hl2, hs⟩
  clear hg hl hb hs
  simp -implicitDefEqProofs (disch := omega) only [List.any_cons, List.any_nil, Nat.reduceEqDiff, List.map_cons, List.map_nil, Option.map_some, Option.map_none, List.nil_append, ↓reduceIte, vcu, ↓vcd, opK_some]
  refine (implSh_calls τ r xs hv (by omega)).mono ?_
  rintro _ _ ⟨rfl, rfl⟩
  rename_i τ
  simp -implicitDefEqProofs (disch := omega) only [List.any_cons, List.any_nil, Nat.reduceEqDiff, List.map_cons, List.map_nil, Option.map_some, Option.map_none, List.nil_append, ↓reduceIte, vcu, ↓vcd, opK_some]
  refine (share_calls τ r xs hv (by omega)).mono ?_
  rintro _ _ ⟨rfl, rfl⟩
  rename_i τ
  have hsv := shareV_le xs
  by_cases hd : LnOk xs
  case neg =>
    have e : shareV xs = -1 := if_neg hd
    rw [e]
    simp -implicitDefEqProofs (disch := omega) only [List.any_cons, List.any_nil, Nat.reduceEqDiff, List.map_cons, List.map_nil, Option.map_some, Option.map_none, List.nil_append, ↓reduceIte, vcu, ↓vcd, opK_some, ne_eq, not_true_eq_false, decide_false, decide_true]
    refine (alive_at _).mono ?_
    rintro r _ ⟨rfl, rfl⟩
    simp -implicitDefEqProofs (disch := omega) only [List.any_cons, List.any_nil, Nat.reduceEqDiff, List.map_cons, List.map_nil, Option.map_some, Option.map_none, List.nil_append, ↓reduceIte, vcu, ↓vcd, opK_some]
    refine fin_one Try.results6 ?_
    simp -implicitDefEqProofs (disch := omega) only [List.any_cons, List.any_nil, Nat.reduceEqDiff, List.map_cons, List.map_nil, Option.map_some, Option.map_none, List.nil_append, ↓reduceIte, vcu, ↓vcd]
  have h00 : 0 ≤ shareV xs := by
    rw [shareV, if_pos hd]
    exact (shS_le (fun j hj => by have := hd.1 j hj; omega) _ (Nat.le_refl _)).1
  have hparts := share_parts hd (xs.length / 2)
  have hless := fun k (hk : k < xs.length) => share_less hd hk
  generalize hS : shareV xs = S at *
  have hl10 := hd.2
  obtain ⟨ad, z, rfl⟩ := ints_lenV hv
  simp -implicitDefEqProofs (disch := omega) only [List.any_cons, List.any_nil, Nat.reduceEqDiff, List.map_cons, List.map_nil, Option.map_some, Option.map_none, List.nil_append, ↓reduceIte, vcu, ↓vcd, opK_some, ne_eq, not_true_eq_false, decide_false, decide_true]
  refine vc_loop_c mixed (by kernel_rfl) [3, 4] (fun m a σ' => ∃ k : Nat, m + k = xs.length ∧ a 5 = .int .i64 k ∧ Sub τ σ') xs.length ⟨0, by simp, rfl, Sub.refl _⟩ ?_
  rintro m a σ' hc ⟨k, hk, h5, hsub⟩
  simp -implicitDefEqProofs (disch := omega) only [List.any_cons, List.any_nil, Nat.reduceEqDiff, List.map_cons, List.map_nil, Option.map_some, Option.map_none, List.nil_append, ↓reduceIte, vcu, ↓vcd] at hc
  obtain ⟨h3, h4, -⟩ := hc
  have hv2 := hv.sub hsub
  by_cases hlt : k < xs.length
  · have hx := hd.1 k hlt
    simp -implicitDefEqProofs (disch := omega) only [List.any_cons, List.any_nil, Nat.reduceEqDiff, List.map_cons, List.map_nil, Option.map_some, Option.map_none, List.nil_append, ↓reduceIte, vcu, ↓vcd, h3, h4, h5]
    refine r_lit el31 (out := #[]) (by kernel_rfl) (by kernel_rfl) fun g1 τ1 n1 s1 v1 => ?_
    simp -implicitDefEqProofs (disch := omega) only [List.any_cons, List.any_nil, Nat.reduceEqDiff, List.map_cons, List.map_nil, Option.map_some, Option.map_none, List.nil_append, ↓reduceIte, vcu, ↓vcd, h3]
    refine r_pushIV (g := g1) (xs := []) (ys := xs) (k := .i64) (len := 0) el31 (by omega) sl31 (by simp -implicitDefEqProofs (disch := omega) only [List.any_cons, List.any_nil, Nat.reduceEqDiff, List.map_cons, List.map_nil, Option.map_some, Option.map_none, List.nil_append, ↓reduceIte, vcu, ↓vcd]) v1 rfl (by simp -implicitDefEqProofs (disch := omega) only [List.any_cons, List.any_nil, Nat.reduceEqDiff, List.map_cons, List.map_nil, Option.map_some, Option.map_none, List.nil_append, ↓reduceIte, vcu, ↓vcd, h3]; exact hv2.sub s1) (by omega) fun g2 τ2 n2 k2 v2 => ?_
    rw [List.nil_append] at v2
    have rl : ld τ2 g2 (0 + k) = some (.int .i64 (xs.getD k 0)) := intsAt_own v2 k hlt
    simp -implicitDefEqProofs (disch := omega) only [List.any_cons, List.any_nil, Nat.reduceEqDiff, List.map_cons, List.map_nil, Option.map_some, Option.map_none, List.nil_append, ↓reduceIte, vcu, ↓vcd, h3, h4, h5, rl]
    refine r_setI (g := g2) (i := 0 + k) (v := xs.getD k 0 - 1) (by simp -implicitDefEqProofs (disch := omega) only [List.any_cons, List.any_nil, Nat.reduceEqDiff, List.map_cons, List.map_nil, Option.map_some, Option.map_none, List.nil_append, ↓reduceIte, vcu, ↓vcd]) (by simp -implicitDefEqProofs (disch := omega) only [List.any_cons, List.any_nil, Nat.reduceEqDiff, List.map_cons, List.map_nil, Option.map_some, Option.map_none, List.nil_append, ↓reduceIte, vcu, ↓vcd]) co3 v2 (by omega) fun τ3 k3 v3 => ?_
    rw [Nat.zero_add] at v3
    have hgd : (xs.set k (xs.getD k 0 - 1)).getD k 0 = xs.getD k 0 - 1 := by simp [List.getD, hlt]
    have rl3 : ld τ3 g2 (0 + k) = some (.int .i64 (xs.getD k 0 - 1)) := by
      have := intsAt_own v3 k (by rw [List.length_set]; exact hlt)
      rwa [hgd] at this
    have nn : ∀ g, σ' g = none → τ g = none := fun g hn => by
      cases e : τ g with
      | none => rfl
      | some ob => rw [hsub _ _ e] at hn; cases hn
    have nn2 : τ g2 = none := by
      cases e : τ g2 with
      | none => rfl
      | some ob => rw [(hsub.trans s1) _ _ e] at n2; cases n2
    have hs3 : Sub τ τ3 := k3.sub (k2.sub (hsub.trans s1) (nn g1 n1)) nn2
    by_cases h1 : 1 < xs.getD k 0
    · have hl := hless k hlt h1
      simp -implicitDefEqProofs (disch := omega) only [List.any_cons, List.any_nil, Nat.reduceEqDiff, List.map_cons, List.map_nil, Option.map_some, Option.map_none, List.nil_append, ↓reduceIte, vcu, ↓vcd, h3, h4, h5, rl3]
      refine (implSh_calls τ3 _ (xs.set k (xs.getD k 0 - 1)) (.inr ⟨g2, 0, by simp, intsAt_own v3⟩) (by rw [List.length_set]; omega)).mono ?_
      rintro _ _ ⟨rfl, rfl⟩
      simp -implicitDefEqProofs (disch := omega) only [List.any_cons, List.any_nil, Nat.reduceEqDiff, List.map_cons, List.map_nil, Option.map_some, Option.map_none, List.nil_append, ↓reduceIte, vcu, ↓vcd, opK_some, h3, h4, h5]
      exact ⟨by simp [h3, h4], m - 1, by omega, k + 1, by omega, by simp, hs3⟩
    · simp -implicitDefEqProofs (disch := omega) only [List.any_cons, List.any_nil, Nat.reduceEqDiff, List.map_cons, List.map_nil, Option.map_some, Option.map_none, List.nil_append, ↓reduceIte, vcu, ↓vcd, h3, h4, h5, rl3]
      exact ⟨by simp [h3, h4], m - 1, by omega, k + 1, by omega, by simp, hs3⟩
  · clear hk
    rcases hv2 with ⟨e, rfl⟩ | ⟨g, p, e, hat⟩
    · cases e
      rw [List.length_nil] at h3
      have z0 : ((0 : Nat) : Int) / 2 = 0 := rfl
      have c1 := implSh_calls (w0 := w0) σ' (.slice none 0 0) [] (.inl ⟨rfl, rfl⟩) (by simp)
      have hS2 : S = 0 := by rw [← hS]; decide
      rw [hS, hS2] at c1
      rw [hS2] at h4
      simp -implicitDefEqProofs (disch := omega) only [List.any_cons, List.any_nil, Nat.reduceEqDiff, List.map_cons, List.map_nil, Option.map_some, Option.map_none, List.nil_append, ↓reduceIte, vcu, ↓vcd, h3, h4, h5, z0]
      rw [bindS_some trivial]
      rw [r_callq]
      refine ⟨_, c1, ?_⟩
      simp -implicitDefEqProofs (disch := omega) only [List.any_cons, List.any_nil, Nat.reduceEqDiff, List.map_cons, List.map_nil, Option.map_some, Option.map_none, List.nil_append, ↓reduceIte, vcu, ↓vcd, h3, h4, h5, z0]
      rw [bindS_some trivial]
      rw [r_callq]
      refine ⟨_, c1, ?_⟩
      simp -implicitDefEqProofs (disch := omega) only [List.any_cons, List.any_nil, Nat.reduceEqDiff, List.map_cons, List.map_nil, Option.map_some, Option.map_none, List.nil_append, ↓reduceIte, vcu, ↓vcd, h3, h4, h5, z0]
      refine fin_one Try.results6 ?_
      simp -implicitDefEqProofs (disch := omega) only [List.any_cons, List.any_nil, Nat.reduceEqDiff, List.map_cons, List.map_nil, Option.map_some, Option.map_none, List.nil_append, ↓reduceIte, vcu, ↓vcd]
      rfl
    · cases e
      have q : ((xs.length : Int) / 2).toNat = xs.length / 2 := by omega
      have c1 := implSh_calls (w0 := w0) σ' (.slice (some ⟨g, p, none⟩) (xs.length / 2) 1) (xs.take (xs.length / 2)) (.inr ⟨g, p, by rw [List.length_take, Nat.min_eq_left (by omega)], hat.take _⟩) (by rw [List.length_take]; omega)
      have c2 := implSh_calls (w0 := w0) σ' (.slice (some ⟨g, p + xs.length / 2, none⟩) (xs.length - xs.length / 2) 1) (xs.drop (xs.length / 2)) (.inr ⟨g, p + xs.length / 2, by rw [List.length_drop], hat.drop _⟩) (by rw [List.length_drop]; omega)
      have b1 := shareV_le (xs.take (xs.length / 2))
      have b2 := shareV_le (xs.drop (xs.length / 2))
      simp -implicitDefEqProofs (disch := omega) only [List.any_cons, List.any_nil, Nat.reduceEqDiff, List.map_cons, List.map_nil, Option.map_some, Option.map_none, List.nil_append, ↓reduceIte, vcu, ↓vcd, h3, h4, h5, q]
      rw [r_callq]
      refine ⟨_, c1, ?_⟩
      simp -implicitDefEqProofs (disch := omega) only [List.any_cons, List.any_nil, Nat.reduceEqDiff, List.map_cons, List.map_nil, Option.map_some, Option.map_none, List.nil_append, ↓reduceIte, vcu, ↓vcd, h3, h4, h5, q]
      rw [r_callq]
      refine ⟨_, c2, ?_⟩
      simp -implicitDefEqProofs (disch := omega) only [List.any_cons, List.any_nil, Nat.reduceEqDiff, List.map_cons, List.map_nil, Option.map_some, Option.map_none, List.nil_append, ↓reduceIte, vcu, ↓vcd, h3, h4, h5, q, hparts]
      refine fin_one Try.results6 ?_
      simp -implicitDefEqProofs (disch := omega) only [List.any_cons, List.any_nil, Nat.reduceEqDiff, List.map_cons, List.map_nil, Option.map_some, Option.map_none, List.nil_append, ↓reduceIte, vcu, ↓vcd]

open Go.ChangeShapes Go.WideShapes Go.ChangeAt Go.RowKit

set_option maxRecDepth 100000 in
theorem lifted6 (os : Os) (started : os.Started) (H : Type) (enc : TypeId × Value → H) :
    ReturnsInHanded {} Try.checked os 6 .any (Rows.fnShareSumSpec.pre6 enc Try.prog Try.f6 Rows.fnShareSumRow.domain false) (Rows.fnShareSumSpec.post enc Try.prog Try.f6 false true false false) := by
  refine returnsInHanded_of_change (C := Try.checked) own started (by kernel_rfl) Try.func6
    (ChangeSpec.witness6 (enc := enc) (C := Try.checked) false ⟨#[], #[.slice none 0 0], []⟩ 8 (by kernel_rfl) (by kernel_rfl) (by kernel_rfl) (by kernel_rfl)) ?_
  intro W base args ds gs before hval hW _ _
  have hW' := hW
  obtain ⟨p, q, hA, hV, -, -, -⟩ := hW'
  rw [Try.params6] at hA hval
  obtain ⟨v0, vs0, d0, ds0, p0, q0, hargs, rfl, rfl, h0, r0⟩ := trodAll_cons hA
  obtain ⟨rfl, rfl, rfl⟩ := trodAll_nil r0
  obtain ⟨rfl, rfl⟩ := trodVars_none hV
  obtain rfl : args = #[v0] := by cases args; simp_all
  obtain ⟨β0, σ0, a0, zs0, L0, U0, S0, R0, I0, w0, m0⟩ := start_ints Try.underlying22 Try.underlying5 co5 (Start.start W) (hval 0 22 v0 rfl rfl) h0
  refine ((law6 σ0 a0 zs0 (I0) m0 w0).2 noProt β0 W [v0] S0.rel (.cons R0 (.nil _))).mono fun e W' h => ?_
  obtain ⟨β', r, r', σ', -, rfl, hr, hrel, rfl⟩ := h
  cases hr
  exact ⟨_, rfl, law_post laidOut hW rfl rfl (by rw [Try.params6]; intro t ht; simp only [List.mem_cons, List.not_mem_nil, or_false, or_self] at ht; rcases ht with rfl <;> exact ⟨by kernel_rfl, of_decide_eq_true (by kernel_rfl)⟩) rfl Try.underlying4 hrel.below⟩

theorem facts6 : joinedFacts Try.prog 6 Try.f6 Rows.fnShareSumSpec Rows.fnShareSumRow = true := by
  unfold joinedFacts
  rw [mayE, liftsE, makeE]
  kernel_rfl

theorem proved6 : Rows.FnShareSumSaid :=
  OpenClaim.holds_of_wide 6 Try.f6 rfl rfl rfl rfl rfl rfl rfl ⟨rfl, rfl, rfl, rfl, rfl⟩ rfl rfl rfl rfl rfl (by kernel_rfl) Try.func6 facts6 (of_decide_eq_true (by kernel_rfl))
    (by unfold Func.isWrapper; first | (rw [if_pos (by decide +kernel)]; kernel_rfl) | (rw [if_neg (by decide +kernel)]; exact ⟨rfl, rfl⟩))
    (fun os started H enc _ => lifted6 os started H enc)


end Go.Proofs.Ytnenopebfobajaa
