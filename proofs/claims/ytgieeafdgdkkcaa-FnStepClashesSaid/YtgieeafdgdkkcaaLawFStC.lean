/- FnStepClashes answers true for every code. -/
import Derived.Test.YtgieeafdgdkkcaaXi
import Derived.Test.YtgieeafdgdkkcaaXh
set_option linter.unusedSimpArgs false
set_option linter.unusedVariables false
namespace Go.Proofs.Ytgieeafdgdkkcaa
open Go Go.Abs Go.RowKit Go.Ban
variable {w0 : World}

theorem law7 (σ : AHeap) (v : Value) (bs : List Int) (hv : Ints .u8 σ v bs) (hm : bs.length ≤ maxLen) (hw : ∀ z ∈ bs, (Lit.int .u8 z).wf = true) :
    ACall Try.prog w0 7 [v] σ fun r _ => r = .bool true := by
  unfold maxLen at hm
  refine ACall.ints_arg (pre := []) (by kernel_rfl) hv fun σ1 h o hs hg => ?_
  clear hv hs σ v
  have hb := bytes_of hw
  refine acall_go mixed Try.func7 rfl good7 fun pr => ?_
  by_cases hbig : 1048576 < bs.length
  · simp -implicitDefEqProofs (disch := omega) only [List.any_cons, List.any_nil, Nat.reduceEqDiff, List.map_cons, List.map_nil, Option.map_some, Option.map_none, List.nil_append, ↓reduceIte, vcu0, vcu1, vcu2, vcu3, vcu4, vcu5, vcu6, vcu7, vcu8, vcu9, vcu10, vcu11, vcu12, vcu13, vcu14, vcu15, vcu16, vcu17, vcu18, vcu19, vcu20, vcu21, vcu22, ↓vcd0, ↓vcd1, ↓vcd2, ↓vcd3]
    refine fin_one Try.results7 ?_
    simp -implicitDefEqProofs (disch := omega) only [List.any_cons, List.any_nil, Nat.reduceEqDiff, List.map_cons, List.map_nil, Option.map_some, Option.map_none, List.nil_append, ↓reduceIte, vcu0, vcu1, vcu2, vcu3, vcu4, vcu5, vcu6, vcu7, vcu8, vcu9, vcu10, vcu11, vcu12, vcu13, vcu14, vcu15, vcu16, vcu17, vcu18, vcu19, vcu20, vcu21, vcu22, ↓vcd0, ↓vcd1, ↓vcd2, ↓vcd3]
  have hl : bs.length ≤ 1048576 := by omega
  simp -implicitDefEqProofs (disch := omega) only [List.any_cons, List.any_nil, Nat.reduceEqDiff, List.map_cons, List.map_nil, Option.map_some, Option.map_none, List.nil_append, ↓reduceIte, vcu0, vcu1, vcu2, vcu3, vcu4, vcu5, vcu6, vcu7, vcu8, vcu9, vcu10, vcu11, vcu12, vcu13, vcu14, vcu15, vcu16, vcu17, vcu18, vcu19, vcu20, vcu21, vcu22, ↓vcd0, ↓vcd1, ↓vcd2, ↓vcd3]
  refine (drawStepClashes_at σ1 h o bs hg hl hb).mono ?_
  rintro r τ ⟨q, p, rfl, h8, hq, hs⟩
  simp -implicitDefEqProofs (disch := omega) only [List.any_cons, List.any_nil, Nat.reduceEqDiff, List.map_cons, List.map_nil, Option.map_some, Option.map_none, List.nil_append, ↓reduceIte, vcu0, vcu1, vcu2, vcu3, vcu4, vcu5, vcu6, vcu7, vcu8, vcu9, vcu10, vcu11, vcu12, vcu13, vcu14, vcu15, vcu16, vcu17, vcu18, vcu19, vcu20, vcu21, vcu22, ↓vcd0, ↓vcd1, ↓vcd2, ↓vcd3, opK_some]
  refine (implCl_at τ q 0 p (intsAt_own hq) (by omega)).mono ?_
  rintro r _ ⟨rfl, rfl⟩
  rename_i τ
  simp -implicitDefEqProofs (disch := omega) only [List.any_cons, List.any_nil, Nat.reduceEqDiff, List.map_cons, List.map_nil, Option.map_some, Option.map_none, List.nil_append, ↓reduceIte, vcu0, vcu1, vcu2, vcu3, vcu4, vcu5, vcu6, vcu7, vcu8, vcu9, vcu10, vcu11, vcu12, vcu13, vcu14, vcu15, vcu16, vcu17, vcu18, vcu19, vcu20, vcu21, vcu22, ↓vcd0, ↓vcd1, ↓vcd2, ↓vcd3, opK_some]
  refine (specCl_at τ q 0 p (intsAt_own hq) (by omega)).mono ?_
  rintro r _ ⟨rfl, rfl⟩
  rename_i τ
  by_cases hE : EO p
  case neg =>
    have e : clV p = -1 := by unfold clV; rw [if_neg hE]
    rw [e]
    simp -implicitDefEqProofs (disch := omega) only [List.any_cons, List.any_nil, Nat.reduceEqDiff, List.map_cons, List.map_nil, Option.map_some, Option.map_none, List.nil_append, ↓reduceIte, vcu0, vcu1, vcu2, vcu3, vcu4, vcu5, vcu6, vcu7, vcu8, vcu9, vcu10, vcu11, vcu12, vcu13, vcu14, vcu15, vcu16, vcu17, vcu18, vcu19, vcu20, vcu21, vcu22, ↓vcd0, ↓vcd1, ↓vcd2, ↓vcd3, opK_some, ne_eq, not_true_eq_false, decide_false]
    refine (alive_at _).mono ?_
    rintro r _ ⟨rfl, rfl⟩
    simp -implicitDefEqProofs (disch := omega) only [List.any_cons, List.any_nil, Nat.reduceEqDiff, List.map_cons, List.map_nil, Option.map_some, Option.map_none, List.nil_append, ↓reduceIte, vcu0, vcu1, vcu2, vcu3, vcu4, vcu5, vcu6, vcu7, vcu8, vcu9, vcu10, vcu11, vcu12, vcu13, vcu14, vcu15, vcu16, vcu17, vcu18, vcu19, vcu20, vcu21, vcu22, ↓vcd0, ↓vcd1, ↓vcd2, ↓vcd3, opK_some]
    refine fin_one Try.results7 ?_
    simp -implicitDefEqProofs (disch := omega) only [List.any_cons, List.any_nil, Nat.reduceEqDiff, List.map_cons, List.map_nil, Option.map_some, Option.map_none, List.nil_append, ↓reduceIte, vcu0, vcu1, vcu2, vcu3, vcu4, vcu5, vcu6, vcu7, vcu8, vcu9, vcu10, vcu11, vcu12, vcu13, vcu14, vcu15, vcu16, vcu17, vcu18, vcu19, vcu20, vcu21, vcu22, ↓vcd0, ↓vcd1, ↓vcd2, ↓vcd3]
  have e : clV p = (allC p.length (lgOf p.length) (qOf p) p.length : Nat) := by unfold clV; rw [if_pos hE]
  obtain ⟨lg, e', hL, hQ, -, hgd⟩ := hE.fn
  rw [e'] at e
  have hle := hL.le
  have hbd := allC_le p.length lg (qOf p) p.length
  have hzero := noClash_iff p.length lg (qOf p)
  generalize hcl : clV p = c at *
  generalize allC p.length lg (qOf p) p.length = C at *
  subst e
  have hC : 2 * C ≤ 56 := by
    have : p.length * (p.length - 1) ≤ 8 * 7 := Nat.mul_le_mul (by omega) (by omega)
    omega
  generalize hLL : p.length = L at *
  simp -implicitDefEqProofs (disch := omega) only [List.any_cons, List.any_nil, Nat.reduceEqDiff, List.map_cons, List.map_nil, Option.map_some, Option.map_none, List.nil_append, ↓reduceIte, vcu0, vcu1, vcu2, vcu3, vcu4, vcu5, vcu6, vcu7, vcu8, vcu9, vcu10, vcu11, vcu12, vcu13, vcu14, vcu15, vcu16, vcu17, vcu18, vcu19, vcu20, vcu21, vcu22, ↓vcd0, ↓vcd1, ↓vcd2, ↓vcd3, opK_some, ne_eq, not_true_eq_false, decide_false]
  refine vc_loop_c mixed (by kernel_rfl) [3, 4] (fun m a τ' => ∃ k : Nat, m + k = L ∧ a 6 = .int .i64 k ∧ a 5 = .bool (decide (∀ j, j < k → qOf p j = (qOf p 0 + j) % L)) ∧ τ' = τ) L ⟨0, by simp, rfl, by simp [fset], rfl⟩ ?_
  rintro m a _ hc ⟨k, hk, h6, h5, rfl⟩
  simp -implicitDefEqProofs (disch := omega) only [List.any_cons, List.any_nil, Nat.reduceEqDiff, List.map_cons, List.map_nil, Option.map_some, Option.map_none, List.nil_append, ↓reduceIte, vcu0, vcu1, vcu2, vcu3, vcu4, vcu5, vcu6, vcu7, vcu8, vcu9, vcu10, vcu11, vcu12, vcu13, vcu14, vcu15, vcu16, vcu17, vcu18, vcu19, vcu20, vcu21, vcu22, ↓vcd0, ↓vcd1, ↓vcd2, ↓vcd3] at hc
  obtain ⟨h3, h4, -⟩ := hc
  rename_i τ
  by_cases hlt : k < L
  · have hx := intsAt_own hq k (by omega)
    have hx0 := intsAt_own hq 0 (by omega)
    rw [hgd k hlt] at hx
    rw [hgd 0 (by omega)] at hx0
    have b1 := hQ.1 k hlt
    have b0 := hQ.1 0 (by omega)
    have hstep : (∀ j, j < k + 1 → qOf p j = (qOf p 0 + j) % L) ↔ ((∀ j, j < k → qOf p j = (qOf p 0 + j) % L) ∧ qOf p k = (qOf p 0 + k) % L) :=
      ⟨fun hh => ⟨fun j hj => hh j (by omega), hh k (by omega)⟩, fun ⟨h1, h2⟩ j hj => by
        by_cases e : j = k
        · subst e; exact h2
        · exact h1 j (by omega)⟩
    have hmm : ((qOf p 0 : Int) + (k : Int)) % (L : Int) = (((qOf p 0 + k) % L : Nat) : Int) := by push_cast; rfl
    by_cases hall : ∀ j, j < k → qOf p j = (qOf p 0 + j) % L
    · rw [decide_eq_true hall] at h5
      simp -implicitDefEqProofs (disch := omega) only [List.any_cons, List.any_nil, Nat.reduceEqDiff, List.map_cons, List.map_nil, Option.map_some, Option.map_none, List.nil_append, ↓reduceIte, vcu0, vcu1, vcu2, vcu3, vcu4, vcu5, vcu6, vcu7, vcu8, vcu9, vcu10, vcu11, vcu12, vcu13, vcu14, vcu15, vcu16, vcu17, vcu18, vcu19, vcu20, vcu21, vcu22, ↓vcd0, ↓vcd1, ↓vcd2, ↓vcd3, h3, h4, h5, h6, hx, hx0, hmm, Int.toNat_zero]
      refine ⟨⟨trivial, trivial, trivial⟩, m - 1, by omega, k + 1, by omega, by simp, ?_, trivial⟩
      congr 1
      rw [Bool.eq_iff_iff, decide_eq_true_eq, decide_eq_true_eq, hstep]
      constructor
      · intro hh; exact ⟨hall, by omega⟩
      · intro hh; have := hh.2; omega
    · rw [decide_eq_false hall] at h5
      simp -implicitDefEqProofs (disch := omega) only [List.any_cons, List.any_nil, Nat.reduceEqDiff, List.map_cons, List.map_nil, Option.map_some, Option.map_none, List.nil_append, ↓reduceIte, vcu0, vcu1, vcu2, vcu3, vcu4, vcu5, vcu6, vcu7, vcu8, vcu9, vcu10, vcu11, vcu12, vcu13, vcu14, vcu15, vcu16, vcu17, vcu18, vcu19, vcu20, vcu21, vcu22, ↓vcd0, ↓vcd1, ↓vcd2, ↓vcd3, h3, h4, h5, h6]
      refine ⟨⟨trivial, trivial, trivial⟩, m - 1, by omega, k + 1, by omega, by simp, ?_, trivial⟩
      congr 1
      rw [eq_comm, decide_eq_false_iff_not, hstep]
      exact fun hh => hall hh.1
  · have e : k = L := by omega
    subst e
    have hfin : (2 * (C : Int) ≤ (k : Int) * ((k : Int) - 1)) := by
      have : (k : Int) * ((k : Int) - 1) = ((k * (k - 1) : Nat) : Int) := by
        rw [Int.natCast_mul, Int.natCast_sub (by omega)]; rfl
      omega
    have hkk : 0 ≤ (k : Int) * ((k : Int) - 1) ∧ (k : Int) * ((k : Int) - 1) ≤ 56 := by
      have h1 : k * (k - 1) ≤ 8 * 7 := Nat.mul_le_mul (by omega) (by omega)
      have : (k : Int) * ((k : Int) - 1) = ((k * (k - 1) : Nat) : Int) := by
        rw [Int.natCast_mul, Int.natCast_sub (by omega)]; rfl
      omega
    have hd := decide_eq_true hfin
    by_cases hall : ∀ j, j < k → qOf p j = (qOf p 0 + j) % k
    · have hC0 : C = 0 := hzero.2 (noClash_congr (fun j hj => (hall j hj).symm) (shift_noClash hL (hQ.1 0 (by omega))))
      subst hC0
      rw [decide_eq_true hall] at h5
      simp -implicitDefEqProofs (disch := omega) only [List.any_cons, List.any_nil, Nat.reduceEqDiff, List.map_cons, List.map_nil, Option.map_some, Option.map_none, List.nil_append, ↓reduceIte, vcu0, vcu1, vcu2, vcu3, vcu4, vcu5, vcu6, vcu7, vcu8, vcu9, vcu10, vcu11, vcu12, vcu13, vcu14, vcu15, vcu16, vcu17, vcu18, vcu19, vcu20, vcu21, vcu22, ↓vcd0, ↓vcd1, ↓vcd2, ↓vcd3, h3, h4, h5, h6, Bool.not_true, Int.natCast_zero, Int.mul_zero]
      refine fin_one Try.results7 ?_
      rw [Int.natCast_zero, Int.mul_zero] at hd
      simp -implicitDefEqProofs (disch := omega) only [List.any_cons, List.any_nil, Nat.reduceEqDiff, List.map_cons, List.map_nil, Option.map_some, Option.map_none, List.nil_append, ↓reduceIte, vcu0, vcu1, vcu2, vcu3, vcu4, vcu5, vcu6, vcu7, vcu8, vcu9, vcu10, vcu11, vcu12, vcu13, vcu14, vcu15, vcu16, vcu17, vcu18, vcu19, vcu20, vcu21, vcu22, ↓vcd0, ↓vcd1, ↓vcd2, ↓vcd3, hd]
    · rw [decide_eq_false hall] at h5
      simp -implicitDefEqProofs (disch := omega) only [List.any_cons, List.any_nil, Nat.reduceEqDiff, List.map_cons, List.map_nil, Option.map_some, Option.map_none, List.nil_append, ↓reduceIte, vcu0, vcu1, vcu2, vcu3, vcu4, vcu5, vcu6, vcu7, vcu8, vcu9, vcu10, vcu11, vcu12, vcu13, vcu14, vcu15, vcu16, vcu17, vcu18, vcu19, vcu20, vcu21, vcu22, ↓vcd0, ↓vcd1, ↓vcd2, ↓vcd3, h3, h4, h5, h6, Bool.not_false]
      refine fin_one Try.results7 ?_
      simp -implicitDefEqProofs (disch := omega) only [List.any_cons, List.any_nil, Nat.reduceEqDiff, List.map_cons, List.map_nil, Option.map_some, Option.map_none, List.nil_append, ↓reduceIte, vcu0, vcu1, vcu2, vcu3, vcu4, vcu5, vcu6, vcu7, vcu8, vcu9, vcu10, vcu11, vcu12, vcu13, vcu14, vcu15, vcu16, vcu17, vcu18, vcu19, vcu20, vcu21, vcu22, ↓vcd0, ↓vcd1, ↓vcd2, ↓vcd3, hd]

open Go.ChangeShapes Go.WideShapes Go.ChangeAt Go.RowKit

set_option maxRecDepth 100000 in
theorem lifted7 (os : Os) (started : os.Started) (H : Type) (enc : TypeId × Value → H) :
    ReturnsInHanded {} Try.checked os 7 .any (Rows.fnStepClashesSpec.pre6 enc Try.prog Try.f7 Rows.fnStepClashesRow.domain false) (Rows.fnStepClashesSpec.post enc Try.prog Try.f7 false true false false) := by
  refine returnsInHanded_of_change (C := Try.checked) own started (by kernel_rfl) Try.func7
    (ChangeSpec.witness6 (enc := enc) (C := Try.checked) false ⟨#[], #[.slice none 0 0], []⟩ 8 (by kernel_rfl) (by kernel_rfl) (by kernel_rfl) (by kernel_rfl)) ?_
  intro W base args ds gs before hval hW _ _
  have hW' := hW
  obtain ⟨p, q, hA, hV, -, -, -⟩ := hW'
  rw [Try.params7] at hA hval
  obtain ⟨v0, vs0, d0, ds0, p0, q0, hargs, rfl, rfl, h0, r0⟩ := trodAll_cons hA
  obtain ⟨rfl, rfl, rfl⟩ := trodAll_nil r0
  obtain ⟨rfl, rfl⟩ := trodVars_none hV
  obtain rfl : args = #[v0] := by cases args; simp_all
  obtain ⟨β0, σ0, a0, zs0, L0, U0, S0, R0, I0, w0, m0⟩ := start_ints Try.underlying22 Try.underlying5 co5 (Start.start W) (hval 0 22 v0 rfl rfl) h0
  refine ((law7 σ0 a0 zs0 (I0) m0 w0).2 noProt β0 W [v0] S0.rel (.cons R0 (.nil _))).mono fun e W' h => ?_
  obtain ⟨β', r, r', σ', -, rfl, hr, hrel, rfl⟩ := h
  cases hr
  exact ⟨_, rfl, law_post laidOut hW rfl rfl (by rw [Try.params7]; intro t ht; simp only [List.mem_cons, List.not_mem_nil, or_false, or_self] at ht; rcases ht with rfl <;> exact ⟨by kernel_rfl, of_decide_eq_true (by kernel_rfl)⟩) rfl Try.underlying4 hrel.below⟩

theorem facts7 : joinedFacts Try.prog 7 Try.f7 Rows.fnStepClashesSpec Rows.fnStepClashesRow = true := by
  unfold joinedFacts
  rw [mayE, liftsE, makeE]
  kernel_rfl

theorem proved7 : Rows.FnStepClashesSaid :=
  OpenClaim.holds_of_wide 7 Try.f7 rfl rfl rfl rfl rfl rfl rfl ⟨rfl, rfl, rfl, rfl, rfl⟩ rfl rfl rfl rfl rfl (by kernel_rfl) Try.func7 facts7 (of_decide_eq_true (by kernel_rfl))
    (by unfold Func.isWrapper; first | (rw [if_pos (by decide +kernel)]; kernel_rfl) | (rw [if_neg (by decide +kernel)]; exact ⟨rfl, rfl⟩))
    (fun os started H enc _ => lifted7 os started H enc)


end Go.Proofs.Ytgieeafdgdkkcaa
