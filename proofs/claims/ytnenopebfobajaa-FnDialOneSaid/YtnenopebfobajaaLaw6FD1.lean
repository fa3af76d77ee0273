/- FnDialOne answers true for every code. -/
import Derived.Test.YtnenopebfobajaaKo
set_option linter.unusedSimpArgs false
set_option linter.unusedVariables false
namespace Go.Proofs.Ytnenopebfobajaa
open Go Go.Abs Go.RowKit Go.Dial
variable {w0 : World}

theorem law9 (σ : AHeap) (v : Value) (bs : List Int) (hv : Ints .u8 σ v bs) (hm : bs.length ≤ maxLen) (hw : ∀ z ∈ bs, (Lit.int .u8 z).wf = true) :
    ACall Try.prog w0 9 [v] σ fun r _ => r = .bool true := by
  unfold maxLen at hm
  refine ACall.ints_arg (pre := []) (by kernel_rfl) hv fun σ1 h o hs hg => ?_
  clear hv hs σ v
  have hb := bytes_of hw
  refine acall_go mixed Try.func9 rfl good9 fun pr => ?_
  by_cases hbig : 1048576 < bs.length
  · simp -implicitDefEqProofs (disch := omega) only [List.any_cons, List.any_nil, Nat.reduceEqDiff, List.map_cons, List.map_nil, Option.map_some, Option.map_none, List.nil_append, ↓reduceIte, vcu, ↓vcd]
    refine fin_one Try.results9 ?_
    simp -implicitDefEqProofs (disch := omega) only [List.any_cons, List.any_nil, Nat.reduceEqDiff, List.map_cons, List.map_nil, Option.map_some, Option.map_none, List.nil_append, ↓reduceIte, vcu, ↓vcd]
  have hl : bs.length ≤ 1048576 := by omega
  simp -implicitDefEqProofs (disch := omega) only [List.any_cons, List.any_nil, Nat.reduceEqDiff, List.map_cons, List.map_nil, Option.map_some, Option.map_none, List.nil_append, ↓reduceIte, vcu, ↓vcd]
  refine (drawDialOne_at σ1 h o bs hg hl hb).mono ?_
  rintro _ τ ⟨v, ps, s, rfl, hv, hl1, hl2, hs30, hs⟩
  clear hg hl hb hs
  have hp4 : ∀ x ∈ ps, x.length ≤ 1048576 := fun x hx => by have := hl2 x hx; omega
  simp -implicitDefEqProofs (disch := omega) only [List.any_cons, List.any_nil, Nat.reduceEqDiff, List.map_cons, List.map_nil, Option.map_some, Option.map_none, List.nil_append, ↓reduceIte, vcu, ↓vcd, opK_some, List.getElem?_toArray, List.getElem?_cons_zero, List.getElem?_cons_succ]
  refine (implD1_calls τ v ps s hv (by omega) hp4 (by omega)).mono ?_
  rintro _ _ ⟨rfl, rfl⟩
  rename_i τ
  simp -implicitDefEqProofs (disch := omega) only [List.any_cons, List.any_nil, Nat.reduceEqDiff, List.map_cons, List.map_nil, Option.map_some, Option.map_none, List.nil_append, ↓reduceIte, vcu, ↓vcd, opK_some, List.getElem?_toArray, List.getElem?_cons_zero, List.getElem?_cons_succ]
  refine (dialOne_calls τ v ps s hv (by omega) hp4 (by omega)).mono ?_
  rintro _ _ ⟨rfl, rfl⟩
  rename_i τ
  cases hN : dialN ps s with
  | none =>
    have eK : dialK ps s = -1 := by unfold dialK; rw [hN]
    have eL : dialL ps s = 0 := by unfold dialL; rw [hN]
    have z0 : decide (((0 : Nat) : Int) = 0) = true := rfl
    rw [eK, eL]
    simp -implicitDefEqProofs (disch := omega) only [List.any_cons, List.any_nil, Nat.reduceEqDiff, List.map_cons, List.map_nil, Option.map_some, Option.map_none, List.nil_append, ↓reduceIte, vcu, ↓vcd, opK_some, List.getElem?_toArray, List.getElem?_cons_zero, List.getElem?_cons_succ, ne_eq, not_true_eq_false, decide_false, decide_true, z0]
    refine (alive_at _).mono ?_
    rintro r _ ⟨rfl, rfl⟩
    simp -implicitDefEqProofs (disch := omega) only [List.any_cons, List.any_nil, Nat.reduceEqDiff, List.map_cons, List.map_nil, Option.map_some, Option.map_none, List.nil_append, ↓reduceIte, vcu, ↓vcd, opK_some]
    refine fin_one Try.results9 ?_
    simp -implicitDefEqProofs (disch := omega) only [List.any_cons, List.any_nil, Nat.reduceEqDiff, List.map_cons, List.map_nil, Option.map_some, Option.map_none, List.nil_append, ↓reduceIte, vcu, ↓vcd]
  | some k =>
    have eK : dialK ps s = k := by unfold dialK; rw [hN]
    have eL : dialL ps s = (ps.getD k []).length := by unfold dialL; rw [hN]
    obtain ⟨hpo, hdg, hk, hbg⟩ := dialN_some hN
    generalize hB : ps.getD k [] = B at *
    have hBl : B.length ≤ s.length := hbg.1
    have hBe : s.take B.length = B := hbg.2
    have hN2 : dialN ps (B ++ [51, 49, 50, 48]) = some k := by
      refine dialN_of hpo ?_ hk (by rw [hB]; exact Beg.append _ _)
      exact DgT.app (hdg.beg hbg) (by decide)
    have eK2 : dialK ps (B ++ [51, 49, 50, 48]) = k := by unfold dialK; rw [hN2]
    have eL2 : dialL ps (B ++ [51, 49, 50, 48]) = B.length := by unfold dialL; rw [hN2]; show (ps.getD k []).length = _; rw [hB]
    rw [eK, eL]
    have a3 : abin Try.prog 9 .add (.string (tx B)) (.string { data := #[51, 49, 50, 48] }) = some (.string (tx (B ++ [51, 49, 50, 48]))) := abin_sadd (by simp; omega)
    have hv2 := hv
    rcases hv2 with ⟨-, rfl⟩ | ⟨g, p, e, hat⟩
    · simp at hk
    subst e
    simp -implicitDefEqProofs (disch := omega) only [List.any_cons, List.any_nil, Nat.reduceEqDiff, List.map_cons, List.map_nil, Option.map_some, Option.map_none, List.nil_append, ↓reduceIte, vcu, ↓vcd, opK_some, List.getElem?_toArray, List.getElem?_cons_zero, List.getElem?_cons_succ, ne_eq, not_true_eq_false, decide_false, decide_true, Int.toNat_natCast, hBe, a3]
    refine (implD1_calls τ _ ps (B ++ [51, 49, 50, 48]) hv (by omega) hp4 (by simp; omega)).mono ?_
    rintro _ _ ⟨rfl, rfl⟩
    rename_i τ
    rw [eK2, eL2]
    simp -implicitDefEqProofs (disch := omega) only [List.any_cons, List.any_nil, Nat.reduceEqDiff, List.map_cons, List.map_nil, Option.map_some, Option.map_none, List.nil_append, ↓reduceIte, vcu, ↓vcd, opK_some, List.getElem?_toArray, List.getElem?_cons_zero, List.getElem?_cons_succ]
    refine vc_loop_c mixed (by kernel_rfl) [3, 4, 5, 6, 9, 10] (fun m a σ' => ∃ j : Nat, m + j = ps.length ∧ a 11 = .int .i64 j ∧ σ' = τ) ps.length ⟨0, by simp, rfl, rfl⟩ ?_
    rintro m a σ' hc ⟨j, hj, h11, rfl⟩
    simp -implicitDefEqProofs (disch := omega) only [List.any_cons, List.any_nil, Nat.reduceEqDiff, List.map_cons, List.map_nil, Option.map_some, Option.map_none, List.nil_append, ↓reduceIte, vcu, ↓vcd] at hc
    obtain ⟨h3, h4, h5, h6, h9, h10, -⟩ := hc
    by_cases hlt : j < ps.length
    · have hx := hat j hlt
      by_cases hjk : j = k
      · subst hjk
        have dj : decide ((j : Int) ≠ (j : Int)) = false := decide_eq_false fun h => h rfl
        simp -implicitDefEqProofs (disch := omega) only [List.any_cons, List.any_nil, Nat.reduceEqDiff, List.map_cons, List.map_nil, Option.map_some, Option.map_none, List.nil_append, ↓reduceIte, vcu, ↓vcd, h3, h4, h5, h6, h9, h10, h11, hx, dj]
        exact ⟨by simp [h3, h4, h5, h6, h9, h10], m - 1, by omega, j + 1, by omega, by simp, trivial⟩
      · have dj : decide ((j : Int) ≠ (k : Int)) = true := decide_eq_true (by omega)
        have hno : ¬ Beg s (ps.getD j []) := fun hb => hjk (plan_uniq hpo hlt hk hb (by rw [hB]; exact hbg))
        by_cases hle : (ps.getD j []).length ≤ s.length
        · have dn : decide (s.take (ps.getD j []).length = ps.getD j []) = false := decide_eq_false fun h => hno ⟨hle, h⟩
          simp -implicitDefEqProofs (disch := omega) only [List.any_cons, List.any_nil, Nat.reduceEqDiff, List.map_cons, List.map_nil, Option.map_some, Option.map_none, List.nil_append, ↓reduceIte, vcu, ↓vcd, h3, h4, h5, h6, h9, h10, h11, hx, dj, Int.toNat_natCast, dn]
          exact ⟨by simp [h3, h4, h5, h6, h9, h10], m - 1, by omega, j + 1, by omega, by simp, trivial⟩
        · simp -implicitDefEqProofs (disch := omega) only [List.any_cons, List.any_nil, Nat.reduceEqDiff, List.map_cons, List.map_nil, Option.map_some, Option.map_none, List.nil_append, ↓reduceIte, vcu, ↓vcd, h3, h4, h5, h6, h9, h10, h11, hx, dj]
          exact ⟨by simp [h3, h4, h5, h6, h9, h10], m - 1, by omega, j + 1, by omega, by simp, trivial⟩
    · have hx := hat k hk
      rw [hB] at hx
      simp -implicitDefEqProofs (disch := omega) only [List.any_cons, List.any_nil, Nat.reduceEqDiff, List.map_cons, List.map_nil, Option.map_some, Option.map_none, List.nil_append, ↓reduceIte, vcu, ↓vcd, h3, h4, h5, h6, h9, h10, h11, hx, Int.toNat_natCast, hBe, decide_true]
      refine fin_one Try.results9 ?_
      simp -implicitDefEqProofs (disch := omega) only [List.any_cons, List.any_nil, Nat.reduceEqDiff, List.map_cons, List.map_nil, Option.map_some, Option.map_none, List.nil_append, ↓reduceIte, vcu, ↓vcd]

open Go.ChangeShapes Go.WideShapes Go.ChangeAt Go.RowKit

set_option maxRecDepth 100000 in
theorem lifted9 (os : Os) (started : os.Started) (H : Type) (enc : TypeId × Value → H) :
    ReturnsInHanded {} Try.checked os 9 .any (Rows.fnDialOneSpec.pre6 enc Try.prog Try.f9 Rows.fnDialOneRow.domain false) (Rows.fnDialOneSpec.post enc Try.prog Try.f9 false true false false) := by
  refine returnsInHanded_of_change (C := Try.checked) own started (by kernel_rfl) Try.func9
    (ChangeSpec.witness6 (enc := enc) (C := Try.checked) false ⟨#[], #[.slice none 0 0], []⟩ 8 (by kernel_rfl) (by kernel_rfl) (by kernel_rfl) (by kernel_rfl)) ?_
  intro W base args ds gs before hval hW _ _
  have hW' := hW
  obtain ⟨p, q, hA, hV, -, -, -⟩ := hW'
  rw [Try.params9] at hA hval
  obtain ⟨v0, vs0, d0, ds0, p0, q0, hargs, rfl, rfl, h0, r0⟩ := trodAll_cons hA
  obtain ⟨rfl, rfl, rfl⟩ := trodAll_nil r0
  obtain ⟨rfl, rfl⟩ := trodVars_none hV
  obtain rfl : args = #[v0] := by cases args; simp_all
  obtain ⟨β0, σ0, a0, zs0, L0, U0, S0, R0, I0, w0, m0⟩ := start_ints Try.underlying22 Try.underlying5 co5 (Start.start W) (hval 0 22 v0 rfl rfl) h0
  refine ((law9 σ0 a0 zs0 (I0) m0 w0).2 noProt β0 W [v0] S0.rel (.cons R0 (.nil _))).mono fun e W' h => ?_
  obtain ⟨β', r, r', σ', -, rfl, hr, hrel, rfl⟩ := h
  cases hr
  exact ⟨_, rfl, law_post laidOut hW rfl rfl (by rw [Try.params9]; intro t ht; simp only [List.mem_cons, List.not_mem_nil, or_false, or_self] at ht; rcases ht with rfl <;> exact ⟨by kernel_rfl, of_decide_eq_true (by kernel_rfl)⟩) rfl Try.underlying4 hrel.below⟩

theorem facts9 : joinedFacts Try.prog 9 Try.f9 Rows.fnDialOneSpec Rows.fnDialOneRow = true := by
  unfold joinedFacts
  rw [mayE, liftsE, makeE]
  kernel_rfl

theorem proved9 : Rows.FnDialOneSaid :=
  OpenClaim.holds_of_wide 9 Try.f9 rfl rfl rfl rfl rfl rfl rfl ⟨rfl, rfl, rfl, rfl, rfl⟩ rfl rfl rfl rfl rfl (by kernel_rfl) Try.func9 facts9 (of_decide_eq_true (by kernel_rfl))
    (by unfold Func.isWrapper; first | (rw [if_pos (by decide +kernel)]; kernel_rfl) | (rw [if_neg (by decide +kernel)]; exact ⟨rfl, rfl⟩))
    (fun os started H enc _ => lifted9 os started H enc)


end Go.Proofs.Ytnenopebfobajaa
