/- FnBusyParts answers true for every code. -/
import Derived.Test.YtkepicmefpcgaaaLaw7BP
set_option linter.unusedSimpArgs false
set_option linter.unusedVariables false
namespace Go.Proofs.Ytkepicmefpcgaaa
open Go Go.Abs Go.RowKit
variable {w0 : World}

theorem term_le {L t n : Nat} (hL : L ≤ 6) (hn : n ≤ 8) (ht : t ≤ 8) : term L t n ≤ 28179280429056 := part_le hL hn ht
theorem law8 (σ : AHeap) (v : Value) (bs : List Int) (hv : Ints .u8 σ v bs) (hm : bs.length ≤ maxLen) (hw : ∀ z ∈ bs, (Lit.int .u8 z).wf = true) :
    ACall Try.prog w0 8 [v] σ fun r _ => r = .bool true := by
  unfold maxLen at hm
  refine ACall.ints_arg (pre := []) (by kernel_rfl) hv fun σ1 h o hs hg => ?_
  clear hv hs σ v
  have hb := bytes_of hw
  refine acall_go mixed Try.func8 rfl good8 fun pr => ?_
  by_cases hbig : 1048576 < bs.length
  · simp -implicitDefEqProofs (disch := omega) only [List.any_cons, List.any_nil, Nat.reduceEqDiff, List.map_cons, List.map_nil, Option.map_some, Option.map_none, List.nil_append, ↓reduceIte, vcu, ↓vcd]
    refine fin_one Try.results8 ?_
    simp -implicitDefEqProofs (disch := omega) only [List.any_cons, List.any_nil, Nat.reduceEqDiff, List.map_cons, List.map_nil, Option.map_some, Option.map_none, List.nil_append, ↓reduceIte, vcu, ↓vcd]
  have hl : bs.length ≤ 1048576 := by omega
  simp -implicitDefEqProofs (disch := omega) only [List.any_cons, List.any_nil, Nat.reduceEqDiff, List.map_cons, List.map_nil, Option.map_some, Option.map_none, List.nil_append, ↓reduceIte, vcu, ↓vcd]
  refine (drawBusyParts_at σ1 h o bs hg hl hb).mono ?_
  rintro r τ ⟨L, t, rfl, b1, b2, hs⟩
  simp -implicitDefEqProofs (disch := omega) only [List.any_cons, List.any_nil, Nat.reduceEqDiff, List.map_cons, List.map_nil, Option.map_some, Option.map_none, List.nil_append, ↓reduceIte, vcu, ↓vcd, opK_some, List.getElem?_toArray, List.getElem?_cons_zero, List.getElem?_cons_succ]
  have hlen := busyV_len L t
  refine (implBP_at w0 τ L t).mono ?_
  rintro v τ1 ⟨s1, hv⟩
  simp -implicitDefEqProofs (disch := omega) only [List.any_cons, List.any_nil, Nat.reduceEqDiff, List.map_cons, List.map_nil, Option.map_some, Option.map_none, List.nil_append, ↓reduceIte, vcu, ↓vcd, opK_some]
  refine (specBP_at τ1 L t).mono ?_
  rintro r τ2 ⟨s2, g, rfl, ng, eg⟩
  have hi := hv.ints.sub s2
  simp -implicitDefEqProofs (disch := omega) only [List.any_cons, List.any_nil, Nat.reduceEqDiff, List.map_cons, List.map_nil, Option.map_some, Option.map_none, List.nil_append, ↓reduceIte, vcu, ↓vcd, opK_some]
  refine (same_calls τ2 v _ _ _ hi (.inr ⟨g, 0, rfl, intsAt_own eg⟩) (by omega) (by omega)).mono ?_
  rintro r _ ⟨rfl, rfl⟩
  rename_i τ2
  rw [decide_eq_true rfl]
  obtain ⟨vb, vz, rfl⟩ := ints_len' hi
  by_cases hok : OK7 L t
  case neg =>
    have e : (busyV L t).length = 0 := by rw [busyV, if_neg hok]; rfl
    rw [e]
    simp -implicitDefEqProofs (disch := omega) only [List.any_cons, List.any_nil, Nat.reduceEqDiff, List.map_cons, List.map_nil, Option.map_some, Option.map_none, List.nil_append, ↓reduceIte, vcu, ↓vcd, opK_some, Bool.not_true, decide_true]
    refine (alive_at _).mono ?_
    rintro r _ ⟨rfl, rfl⟩
    simp -implicitDefEqProofs (disch := omega) only [List.any_cons, List.any_nil, Nat.reduceEqDiff, List.map_cons, List.map_nil, Option.map_some, Option.map_none, List.nil_append, ↓reduceIte, vcu, ↓vcd, opK_some]
    refine fin_one Try.results8 ?_
    simp -implicitDefEqProofs (disch := omega) only [List.any_cons, List.any_nil, Nat.reduceEqDiff, List.map_cons, List.map_nil, Option.map_some, Option.map_none, List.nil_append, ↓reduceIte, vcu, ↓vcd]
  have eB : busyV L t = busyN L.toNat t.toNat (t.toNat + 1) := if_pos hok
  rw [eB] at hi ⊢
  clear eB hlen hv eg
  obtain ⟨⟨a1, a2⟩, a3, a4⟩ := hok
  obtain ⟨L, rfl⟩ : ∃ n : Nat, L = n := ⟨L.toNat, by omega⟩
  obtain ⟨t, rfl⟩ : ∃ n : Nat, t = n := ⟨t.toNat, by omega⟩
  simp only [Int.toNat_natCast] at hi ⊢
  have hL : L ≤ 6 := by omega
  have ht : t ≤ 8 := by omega
  have hP := part hL ht
  rw [busyN_length] at hi ⊢
  rcases hi with ⟨-, e⟩ | ⟨p, q, e, hat⟩
  · have := busyN_length L t (t + 1); rw [e] at this; simp at this
  rw [busyN_length] at e
  injection e with e1 e2 e3
  subst e1; subst e3
  have hget : ∀ i, i ≤ t → ld τ2 p (q + i) = some (.int .i64 (term L t i : Int)) := fun i hi => by
    rw [← busyN_getD (L := L) (t := t) (n := t + 1) (i := i) (by omega)]
    exact hat i (by rw [busyN_length]; omega)
  have hne : ¬ (((t + 1 : Nat) : Int) = 0) := by omega
  simp -implicitDefEqProofs (disch := omega) only [List.any_cons, List.any_nil, Nat.reduceEqDiff, List.map_cons, List.map_nil, Option.map_some, Option.map_none, List.nil_append, ↓reduceIte, vcu, ↓vcd, opK_some, Bool.not_true, hne]
  refine vc_loop_c mixed (by kernel_rfl) [3, 4, 5] (fun m a σ' => ∃ n : Nat, m + n = t + 1 ∧ 1 ≤ n ∧ a 6 = .int .i64 n ∧ σ' = τ2) t ⟨1, by omega, by omega, rfl, rfl⟩ ?_
  rintro m a σ' hc ⟨n, hn, hn1, h6, rfl⟩
  simp -implicitDefEqProofs (disch := omega) only [List.any_cons, List.any_nil, Nat.reduceEqDiff, List.map_cons, List.map_nil, Option.map_some, Option.map_none, List.nil_append, ↓reduceIte, vcu, ↓vcd] at hc
  obtain ⟨h3, h4, h5, -⟩ := hc
  by_cases hlt : n < t + 1
  · obtain ⟨n, rfl⟩ : ∃ k, n = k + 1 := ⟨n - 1, by omega⟩
    have y1 := hget n (by omega)
    have y2 := hget (n + 1) (by omega)
    have hbal := hP.bal n (by omega)
    have c1 := term_le (L := L) (t := t) (n := n) hL (by omega) ht
    have c2 := term_le (L := L) (t := t) (n := n + 1) hL (by omega) ht
    have c3 : term L t n * L ≤ 28179280429056 * 6 := Nat.mul_le_mul c1 hL
    have q0 : ((n + 1 : Nat) : Int) - 1 = (n : Int) := by omega
    have q1 : (term L t n : Int) * (L : Int) = ((term L t n * L : Nat) : Int) := by rw [Int.natCast_mul]
    have q2 : (term L t (n + 1) : Int) * ((n + 1 : Nat) : Int) = ((term L t n * L : Nat) : Int) := by rw [hbal, Int.natCast_mul]
    simp -implicitDefEqProofs (disch := omega) only [List.any_cons, List.any_nil, Nat.reduceEqDiff, List.map_cons, List.map_nil, Option.map_some, Option.map_none, List.nil_append, ↓reduceIte, vcu, ↓vcd, h3, h4, h5, h6, q0, y1, y2, q1, q2, ne_eq, not_true_eq_false, decide_false]
    exact ⟨by simp [h3, h4, h5], m - 1, by omega, n + 1 + 1, by omega, by omega, by simp, trivial⟩
  · have y0 := hget 0 (by omega)
    have hf := hP.first
    have c0 := term_le (L := L) (t := t) (n := 0) hL (by omega) ht
    have d1 : decide ((term L t 0 : Int) ≥ 1) = true := decide_eq_true (by omega)
    have e1 : ((t + 1 : Nat) : Int) = (t : Int) + 1 := by omega
    simp -implicitDefEqProofs (disch := omega) only [List.any_cons, List.any_nil, Nat.reduceEqDiff, List.map_cons, List.map_nil, Option.map_some, Option.map_none, List.nil_append, ↓reduceIte, vcu, ↓vcd, h3, h4, h5, h6, Int.toNat_zero, y0, d1, e1, decide_true]
    refine fin_one Try.results8 ?_
    simp -implicitDefEqProofs (disch := omega) only [List.any_cons, List.any_nil, Nat.reduceEqDiff, List.map_cons, List.map_nil, Option.map_some, Option.map_none, List.nil_append, ↓reduceIte, vcu, ↓vcd]

open Go.ChangeShapes Go.WideShapes Go.ChangeAt Go.RowKit

set_option maxRecDepth 100000 in
theorem lifted8 (os : Os) (started : os.Started) (H : Type) (enc : TypeId × Value → H) :
    ReturnsInHanded {} Try.checked os 8 .any (Rows.fnBusyPartsSpec.pre6 enc Try.prog Try.f8 Rows.fnBusyPartsRow.domain false) (Rows.fnBusyPartsSpec.post enc Try.prog Try.f8 false true false false) := by
  refine returnsInHanded_of_change (C := Try.checked) own started (by kernel_rfl) Try.func8
    (ChangeSpec.witness6 (enc := enc) (C := Try.checked) false ⟨#[], #[.slice none 0 0], []⟩ 8 (by kernel_rfl) (by kernel_rfl) (by kernel_rfl) (by kernel_rfl)) ?_
  intro W base args ds gs before hval hW _ _
  have hW' := hW
  obtain ⟨p, q, hA, hV, -, -, -⟩ := hW'
  rw [Try.params8] at hA hval
  obtain ⟨v0, vs0, d0, ds0, p0, q0, hargs, rfl, rfl, h0, r0⟩ := trodAll_cons hA
  obtain ⟨rfl, rfl, rfl⟩ := trodAll_nil r0
  obtain ⟨rfl, rfl⟩ := trodVars_none hV
  obtain rfl : args = #[v0] := by cases args; simp_all
  obtain ⟨β0, σ0, a0, zs0, L0, U0, S0, R0, I0, w0, m0⟩ := start_ints Try.underlying22 Try.underlying5 co5 (Start.start W) (hval 0 22 v0 rfl rfl) h0
  refine ((law8 σ0 a0 zs0 (I0) m0 w0).2 noProt β0 W [v0] S0.rel (.cons R0 (.nil _))).mono fun e W' h => ?_
  obtain ⟨β', r, r', σ', -, rfl, hr, hrel, rfl⟩ := h
  cases hr
  exact ⟨_, rfl, law_post laidOut hW rfl rfl (by rw [Try.params8]; intro t ht; simp only [List.mem_cons, List.not_mem_nil, or_false, or_self] at ht; rcases ht with rfl <;> exact ⟨by kernel_rfl, of_decide_eq_true (by kernel_rfl)⟩) rfl Try.underlying4 hrel.below⟩

theorem facts8 : joinedFacts Try.prog 8 Try.f8 Rows.fnBusyPartsSpec Rows.fnBusyPartsRow = true := by
  unfold joinedFacts
  rw [mayE, liftsE, makeE]
  kernel_rfl

theorem proved8 : Rows.FnBusyPartsSaid :=
  OpenClaim.holds_of_wide 8 Try.f8 rfl rfl rfl rfl rfl rfl rfl ⟨rfl, rfl, rfl, rfl, rfl⟩ rfl rfl rfl rfl rfl (by kernel_rfl) Try.func8 facts8 (of_decide_eq_true (by kernel_rfl))
    (by unfold Func.isWrapper; first | (rw [if_pos (by decide +kernel)]; kernel_rfl) | (rw [if_neg (by decide +kernel)]; exact ⟨rfl, rfl⟩))
    (fun os started H enc _ => lifted8 os started H enc)


end Go.Proofs.Ytkepicmefpcgaaa
