/- FnTakenLoad answers true for every code. -/
import Derived.Test.YtkepicmefpcgaaaGh
set_option linter.unusedSimpArgs false
set_option linter.unusedVariables false
namespace Go.Proofs.Ytkepicmefpcgaaa
open Go Go.Abs Go.RowKit
variable {w0 : World}

def meanF (L t n : Nat) : Nat := n * term L t n
theorem law7 (σ : AHeap) (v : Value) (bs : List Int) (hv : Ints .u8 σ v bs) (hm : bs.length ≤ maxLen) (hw : ∀ z ∈ bs, (Lit.int .u8 z).wf = true) :
    ACall Try.prog w0 7 [v] σ fun r _ => r = .bool true := by
  unfold maxLen at hm
  refine ACall.ints_arg (pre := []) (by kernel_rfl) hv fun σ1 h o hs hg => ?_
  clear hv hs σ v
  have hb := bytes_of hw
  refine acall_go mixed Try.func7 rfl good7 fun pr => ?_
  by_cases hbig : 1048576 < bs.length
  · simp -implicitDefEqProofs (disch := omega) only [List.any_cons, List.any_nil, Nat.reduceEqDiff, List.map_cons, List.map_nil, Option.map_some, Option.map_none, List.nil_append, ↓reduceIte, vcu, ↓vcd]
    refine fin_one Try.results7 ?_
    simp -implicitDefEqProofs (disch := omega) only [List.any_cons, List.any_nil, Nat.reduceEqDiff, List.map_cons, List.map_nil, Option.map_some, Option.map_none, List.nil_append, ↓reduceIte, vcu, ↓vcd]
  have hl : bs.length ≤ 1048576 := by omega
  simp -implicitDefEqProofs (disch := omega) only [List.any_cons, List.any_nil, Nat.reduceEqDiff, List.map_cons, List.map_nil, Option.map_some, Option.map_none, List.nil_append, ↓reduceIte, vcu, ↓vcd]
  refine (drawTakenLoad_at σ1 h o bs hg hl hb).mono ?_
  rintro r τ ⟨L, t, rfl, b1, b2, hs⟩
  simp -implicitDefEqProofs (disch := omega) only [List.any_cons, List.any_nil, Nat.reduceEqDiff, List.map_cons, List.map_nil, Option.map_some, Option.map_none, List.nil_append, ↓reduceIte, vcu, ↓vcd, opK_some, List.getElem?_toArray, List.getElem?_cons_zero, List.getElem?_cons_succ]
  refine (implTL_at w0 τ L t).mono ?_
  rintro r _ ⟨rfl, rfl⟩
  rename_i τ
  simp -implicitDefEqProofs (disch := omega) only [List.any_cons, List.any_nil, Nat.reduceEqDiff, List.map_cons, List.map_nil, Option.map_some, Option.map_none, List.nil_append, ↓reduceIte, vcu, ↓vcd, opK_some, List.getElem?_toArray, List.getElem?_cons_zero, List.getElem?_cons_succ]
  refine r_local (cs := #[.int .i64 (tkN L t), .int .i64 (tkD L t)]) ze24 (by decide) (by simp -implicitDefEqProofs (disch := omega) only [List.any_cons, List.any_nil, Nat.reduceEqDiff, List.map_cons, List.map_nil, Option.map_some, Option.map_none, List.nil_append, ↓reduceIte, vcu, ↓vcd]) (by rw [co24]; rfl) rfl rfl (Nat.zero_lt_succ _) fun c5 τ1 n5 s1 e5 => ?_
  replace e5 : τ1 c5 = some ⟨[.int .i64 (tkN L t), .int .i64 (tkD L t)], false⟩ := e5
  simp -implicitDefEqProofs (disch := omega) only [List.any_cons, List.any_nil, Nat.reduceEqDiff, List.map_cons, List.map_nil, Option.map_some, Option.map_none, List.nil_append, ↓reduceIte, vcu, ↓vcd]
  refine (specTL_at τ1 L t).mono ?_
  rintro r _ ⟨rfl, rfl⟩
  rename_i τ1
  simp -implicitDefEqProofs (disch := omega) only [List.any_cons, List.any_nil, Nat.reduceEqDiff, List.map_cons, List.map_nil, Option.map_some, Option.map_none, List.nil_append, ↓reduceIte, vcu, ↓vcd, opK_some, List.getElem?_toArray, List.getElem?_cons_zero, List.getElem?_cons_succ]
  refine r_local (cs := #[.int .i64 (tkN L t), .int .i64 (tkD L t)]) ze24 (by decide) (by simp -implicitDefEqProofs (disch := omega) only [List.any_cons, List.any_nil, Nat.reduceEqDiff, List.map_cons, List.map_nil, Option.map_some, Option.map_none, List.nil_append, ↓reduceIte, vcu, ↓vcd]) (by rw [co24]; rfl) rfl rfl (Nat.zero_lt_succ _) fun c7 τ2 n7 s2 e7 => ?_
  replace e7 : τ2 c7 = some ⟨[.int .i64 (tkN L t), .int .i64 (tkD L t)], false⟩ := e7
  replace e5 := s2 _ _ e5
  have l5 : lds τ2 c5 0 2 = some [.int .i64 (tkN L t), .int .i64 (tkD L t)] := lds_two (ld_of e5 rfl) (ld_of e5 rfl)
  have l7 : lds τ2 c7 0 2 = some [.int .i64 (tkN L t), .int .i64 (tkD L t)] := lds_two (ld_of e7 rfl) (ld_of e7 rfl)
  simp -implicitDefEqProofs (disch := omega) only [List.any_cons, List.any_nil, Nat.reduceEqDiff, List.map_cons, List.map_nil, Option.map_some, Option.map_none, List.nil_append, ↓reduceIte, vcu, ↓vcd, l5, l7, co24, neq_frac, eq_self, decide_true, Bool.not_true, beq_self_eq_true]
  by_cases hok : OK7 L t
  case neg =>
    have eN : tkN L t = 0 := if_neg hok
    have eD : tkD L t = 0 := if_neg hok
    rw [eN, eD] at l5
    rw [decide_eq_false hok]
    simp -implicitDefEqProofs (disch := omega) only [List.any_cons, List.any_nil, Nat.reduceEqDiff, List.map_cons, List.map_nil, Option.map_some, Option.map_none, List.nil_append, ↓reduceIte, vcu, ↓vcd, Bool.not_false, l5, co24]
    rw [r_build]
    refine ⟨(_, #[.int .i64 0, .int .i64 0]), ⟨ze24, by simp -implicitDefEqProofs (disch := omega) only [List.any_cons, List.any_nil, Nat.reduceEqDiff, List.map_cons, List.map_nil, Option.map_some, Option.map_none, List.nil_append, ↓reduceIte, vcu, ↓vcd]; kernel_rfl⟩, ?_⟩
    simp -implicitDefEqProofs (disch := omega) only [List.any_cons, List.any_nil, Nat.reduceEqDiff, List.map_cons, List.map_nil, Option.map_some, Option.map_none, List.nil_append, ↓reduceIte, vcu, ↓vcd, eql_frac, eq_self, decide_true]
    refine (alive_at _).mono ?_
    rintro r _ ⟨rfl, rfl⟩
    simp -implicitDefEqProofs (disch := omega) only [List.any_cons, List.any_nil, Nat.reduceEqDiff, List.map_cons, List.map_nil, Option.map_some, Option.map_none, List.nil_append, ↓reduceIte, vcu, ↓vcd, opK_some]
    refine fin_one Try.results7 ?_
    simp -implicitDefEqProofs (disch := omega) only [List.any_cons, List.any_nil, Nat.reduceEqDiff, List.map_cons, List.map_nil, Option.map_some, Option.map_none, List.nil_append, ↓reduceIte, vcu, ↓vcd]
  rw [decide_eq_true hok]
  have hlen := busyV_len L t
  have eB : busyV L t = busyN L.toNat t.toNat (t.toNat + 1) := if_pos hok
  have eN : tkN L t = ((taken L.toNat t.toNat).1 : Int) := if_pos hok
  have eD : tkD L t = ((taken L.toNat t.toNat).2 : Int) := if_pos hok
  rw [eN, eD] at e5
  simp -implicitDefEqProofs (disch := omega) only [List.any_cons, List.any_nil, Nat.reduceEqDiff, List.map_cons, List.map_nil, Option.map_some, Option.map_none, List.nil_append, ↓reduceIte, vcu, ↓vcd, Bool.not_true]
  refine (implBP_at w0 τ2 L t).mono ?_
  rintro v τ3 ⟨s3, hv⟩
  replace e5 := s3 _ _ e5
  have hi := hv.ints
  rw [eB] at hi
  clear eB hlen hv l5 l7 e7 eN eD
  obtain ⟨⟨a1, a2⟩, a3, a4⟩ := hok
  obtain ⟨L, rfl⟩ : ∃ n : Nat, L = n := ⟨L.toNat, by omega⟩
  obtain ⟨t, rfl⟩ : ∃ n : Nat, t = n := ⟨t.toNat, by omega⟩
  simp only [Int.toNat_natCast] at hi e5
  have hL : L ≤ 6 := by omega
  have ht : t ≤ 8 := by omega
  have hP := part hL ht
  have k50 : ld τ3 c5 (0 + 0) = some (.int .i64 ((taken L t).1 : Int)) := ld_of e5 rfl
  have k51 : ld τ3 c5 (0 + 1) = some (.int .i64 ((taken L t).2 : Int)) := ld_of e5 rfl
  have hbl := busyN_length L t (t + 1)
  have hsum := sumB_calls (w0 := w0) τ3 _ L t hL ht hi
  rcases hi with ⟨-, e⟩ | ⟨p, q, rfl, hat⟩
  · rw [e] at hbl; simp at hbl
  rw [hbl] at hsum ⊢
  simp -implicitDefEqProofs (disch := omega) only [List.any_cons, List.any_nil, Nat.reduceEqDiff, List.map_cons, List.map_nil, Option.map_some, Option.map_none, List.nil_append, ↓reduceIte, vcu, ↓vcd, opK_some]
  refine vc_loop_c mixed (by kernel_rfl) [3, 4, 5, 9] (fun m a σ' => ∃ k : Nat, m + k = t + 1 ∧ a 10 = .int .i64 (sumN (meanF L t) k : Nat) ∧ a 11 = .int .i64 k ∧ σ' = τ3) (t + 1) ⟨0, by simp, rfl, rfl, rfl⟩ ?_
  rintro m a σ' hc ⟨k, hk, h10, h11, rfl⟩
  simp -implicitDefEqProofs (disch := omega) only [List.any_cons, List.any_nil, Nat.reduceEqDiff, List.map_cons, List.map_nil, Option.map_some, Option.map_none, List.nil_append, ↓reduceIte, vcu, ↓vcd] at hc
  obtain ⟨h3, h4, h5, h9, -⟩ := hc
  by_cases hlt : k < t + 1
  · have y := hat k (by rw [hbl]; exact hlt)
    rw [busyN_getD hlt] at y
    have hb1 : ∀ i, i ≤ t → meanF L t i ≤ 8 * 28179280429056 := fun i hi => Nat.mul_le_mul (by omega) (part_le hL (by omega) ht)
    have hb2 := sumN_le (f := meanF L t) (B := 8 * 28179280429056) k fun i hi => hb1 i (by omega)
    have hb3 := hb1 k (by omega)
    have hb5 : k * (8 * 28179280429056) ≤ 9 * (8 * 28179280429056) := Nat.mul_le_mul (by omega) (Nat.le_refl _)
    have q0 : (k : Int) * (term L t k : Int) = (meanF L t k : Int) := by rw [meanF, Int.natCast_mul]
    have q1 : ((sumN (meanF L t) k : Nat) : Int) + ((meanF L t k : Nat) : Int) = ((sumN (meanF L t) (k + 1) : Nat) : Int) := by rw [sumN, Int.natCast_add]
    simp -implicitDefEqProofs (disch := omega) only [List.any_cons, List.any_nil, Nat.reduceEqDiff, List.map_cons, List.map_nil, Option.map_some, Option.map_none, List.nil_append, ↓reduceIte, vcu, ↓vcd, h3, h4, h5, h9, h10, h11, y, q0, q1]
    exact ⟨by simp [h3, h4, h5, h9], m - 1, by omega, k + 1, by omega, rfl, by simp, trivial⟩
  · have e : k = t + 1 := by omega
    subst e
    have hall := hP.all
    have hmn : sumN (meanF L t) (t + 1) = mean L t := rfl
    have hmean := hP.mn
    have hbusy := hP.busy
    have hokT := hP.okT
    have hfew := hP.few
    have hmost := hP.most
    rw [hmn] at h10
    have hm : (taken L t).1 * sumN (term L t) (t + 1) ≤ 1000000000 * 100000000 := Nat.mul_le_mul hokT.1 hall
    have hm2 := Nat.mul_le_mul ht hokT.2.2
    have hm3 := Nat.mul_le_mul hL hokT.2.2
    have q1 : ((taken L t).1 : Int) * (sumN (term L t) (t + 1) : Int) = (((taken L t).1 * sumN (term L t) (t + 1) : Nat) : Int) := by rw [Int.natCast_mul]
    have q2 : (mean L t : Int) * ((taken L t).2 : Int) = (((taken L t).1 * sumN (term L t) (t + 1) : Nat) : Int) := by rw [hbusy, Int.natCast_mul]
    have q3 : (t : Int) * ((taken L t).2 : Int) = ((t * (taken L t).2 : Nat) : Int) := by rw [Int.natCast_mul]
    have q4 : (L : Int) * ((taken L t).2 : Int) = ((L * (taken L t).2 : Nat) : Int) := by rw [Int.natCast_mul]
    have d4 : decide (((taken L t).1 : Int) ≤ ((L * (taken L t).2 : Nat) : Int)) = true := decide_eq_true (by omega)
    generalize (taken L t).1 * sumN (term L t) (t + 1) = M at *
    generalize t * (taken L t).2 = B at *
    generalize L * (taken L t).2 = C at *
    generalize (taken L t).1 = x at *
    generalize (taken L t).2 = y at *
    by_cases ht0 : t = 0
    · have hx0 : x = 0 := by
        rcases hfew with ⟨-, h⟩ | h
        · exact h
        · have e0 : ((t : Int) * (y : Int)) = 0 := by rw [ht0]; simp
          omega
      have dt : decide ((t : Int) = 0) = true := decide_eq_true (by omega)
      have dx : decide ((x : Int) = 0) = true := decide_eq_true (by omega)
      simp -implicitDefEqProofs (disch := omega) only [List.any_cons, List.any_nil, Nat.reduceEqDiff, List.map_cons, List.map_nil, Option.map_some, Option.map_none, List.nil_append, ↓reduceIte, vcu, ↓vcd, h3, h4, h5, h9, h10, h11, k50]
      rw [r_callq]
      refine ⟨_, hsum, ?_⟩
      simp -implicitDefEqProofs (disch := omega) only [List.any_cons, List.any_nil, Nat.reduceEqDiff, List.map_cons, List.map_nil, Option.map_some, Option.map_none, List.nil_append, ↓reduceIte, vcu, ↓vcd, k50, k51, q1, q2, q3, q4, d4, dt, dx, decide_true, h3, h4, h5, h9, h10]
      refine fin_one Try.results7 ?_
      simp -implicitDefEqProofs (disch := omega) only [List.any_cons, List.any_nil, Nat.reduceEqDiff, List.map_cons, List.map_nil, Option.map_some, Option.map_none, List.nil_append, ↓reduceIte, vcu, ↓vcd]
    · have hx : x < B := by
        rcases hfew with ⟨h, -⟩ | h
        · exact absurd h ht0
        · exact h
      have d3 : decide ((x : Int) < (B : Int)) = true := decide_eq_true (by omega)
      simp -implicitDefEqProofs (disch := omega) only [List.any_cons, List.any_nil, Nat.reduceEqDiff, List.map_cons, List.map_nil, Option.map_some, Option.map_none, List.nil_append, ↓reduceIte, vcu, ↓vcd, h3, h4, h5, h9, h10, h11, k50]
      rw [r_callq]
      refine ⟨_, hsum, ?_⟩
      simp -implicitDefEqProofs (disch := omega) only [List.any_cons, List.any_nil, Nat.reduceEqDiff, List.map_cons, List.map_nil, Option.map_some, Option.map_none, List.nil_append, ↓reduceIte, vcu, ↓vcd, k50, k51, q1, q2, q3, q4, d3, d4, decide_true, h3, h4, h5, h9, h10, show ¬ ((t : Int) = 0) by omega]
      refine fin_one Try.results7 ?_
      simp -implicitDefEqProofs (disch := omega) only [List.any_cons, List.any_nil, Nat.reduceEqDiff, List.map_cons, List.map_nil, Option.map_some, Option.map_none, List.nil_append, ↓reduceIte, vcu, ↓vcd]

open Go.ChangeShapes Go.WideShapes Go.ChangeAt Go.RowKit

set_option maxRecDepth 100000 in
theorem lifted7 (os : Os) (started : os.Started) (H : Type) (enc : TypeId × Value → H) :
    ReturnsInHanded {} Try.checked os 7 .any (Rows.fnTakenLoadSpec.pre6 enc Try.prog Try.f7 Rows.fnTakenLoadRow.domain false) (Rows.fnTakenLoadSpec.post enc Try.prog Try.f7 false true false false) := by
  refine returnsInHanded_of_change (C := Try.checked) own started (by kernel_rfl) Try.func7
    (ChangeSpec.witness6 (enc := enc) (C := Try.checked) false ⟨#[], #[.slice none 0 0], []⟩ 8 (by kernel_rfl) (by kernel_rfl) (by kernel_rfl) (by kernel_rfl)) ?_
  intro W base args ds gs before hval hW _ _
  have hW' := hW
  obtain ⟨p, q, hA, hV, -, -, -⟩ := hW'
  rw [Try.params7] at hA hval
  obtain ⟨v0, vs0, d0, ds0, p0, q0, hargs, rfl, rfl, h0, r0⟩ := trodAll_cons hA
  obtain ⟨rfl, rfl, rfl⟩ := trodAll_nil r0
  obtain ⟨rfl, rfl⟩ := trodVars_none hV
  obtain rfl : args = #[v0] := by cases args; simp_all
  obtain ⟨β0, σ0, a0, zs0, L0, U0, S0, R0, I0, w0, m0⟩ := start_ints Try.underlying22 Try.underlying5 co5 (Start.start W) (hval 0 22 v0 rfl rfl) h0
  refine ((law7 σ0 a0 zs0 (I0) m0 w0).2 noProt β0 W [v0] S0.rel (.cons R0 (.nil _))).mono fun e W' h => ?_
  obtain ⟨β', r, r', σ', -, rfl, hr, hrel, rfl⟩ := h
  cases hr
  exact ⟨_, rfl, law_post laidOut hW rfl rfl (by rw [Try.params7]; intro t ht; simp only [List.mem_cons, List.not_mem_nil, or_false, or_self] at ht; rcases ht with rfl <;> exact ⟨by kernel_rfl, of_decide_eq_true (by kernel_rfl)⟩) rfl Try.underlying4 hrel.below⟩

theorem facts7 : joinedFacts Try.prog 7 Try.f7 Rows.fnTakenLoadSpec Rows.fnTakenLoadRow = true := by
  unfold joinedFacts
  rw [mayE, liftsE, makeE]
  kernel_rfl

theorem proved7 : Rows.FnTakenLoadSaid :=
  OpenClaim.holds_of_wide 7 Try.f7 rfl rfl rfl rfl rfl rfl rfl ⟨rfl, rfl, rfl, rfl, rfl⟩ rfl rfl rfl rfl rfl (by kernel_rfl) Try.func7 facts7 (of_decide_eq_true (by kernel_rfl))
    (by unfold Func.isWrapper; first | (rw [if_pos (by decide +kernel)]; kernel_rfl) | (rw [if_neg (by decide +kernel)]; exact ⟨rfl, rfl⟩))
    (fun os started H enc _ => lifted7 os started H enc)


end Go.Proofs.Ytkepicmefpcgaaa
