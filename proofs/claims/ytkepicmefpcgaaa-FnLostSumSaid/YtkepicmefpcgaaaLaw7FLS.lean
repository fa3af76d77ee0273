/- FnLostSum answers true for every code. -/
import Derived.Test.YtkepicmefpcgaaaGh
set_option linter.unusedSimpArgs false
set_option linter.unusedVariables false
namespace Go.Proofs.Ytkepicmefpcgaaa
open Go Go.Abs Go.RowKit
variable {w0 : World}

theorem law6 (σ : AHeap) (v : Value) (bs : List Int) (hv : Ints .u8 σ v bs) (hm : bs.length ≤ maxLen) (hw : ∀ z ∈ bs, (Lit.int .u8 z).wf = true) :
    ACall Try.prog w0 6 [v] σ fun r _ => r = .bool true := by
  unfold maxLen at hm
  refine ACall.ints_arg (pre := []) (by kernel_rfl) hv fun σ1 h o hs hg => ?_
  clear hv hs σ v
  have hb := bytes_of hw
  refine acall_go mixed Try.func6 rfl good6 fun pr => ?_
  by_cases hbig : 1048576 < bs.length
  · simp -implicitDefEqProofs (disch := omega) only [List.any_cons, List.any_nil, Nat.reduceEqDiff, List.map_cons, List.map_nil, Option.map_some, Option.map_none, List.nil_append, ↓reduceIte, vcu, ↓vcd]
    refine fin_one Try.results6 ?_
    simp -implicitDefEqProofs (disch := omega) only [List.any_cons, List.any_nil, Nat.reduceEqDiff, List.map_cons, List.map_nil, Option.map_some, Option.map_none, List.nil_append, ↓reduceIte, vcu, ↓vcd]
  have hl : bs.length ≤ 1048576 := by omega
  simp -implicitDefEqProofs (disch := omega) only [List.any_cons, List.any_nil, Nat.reduceEqDiff, List.map_cons, List.map_nil, Option.map_some, Option.map_none, List.nil_append, ↓reduceIte, vcu, ↓vcd]
  refine (drawLostSum_at σ1 h o bs hg hl hb).mono ?_
  rintro r τ ⟨L, t, rfl, b1, b2, hs⟩
  simp -implicitDefEqProofs (disch := omega) only [List.any_cons, List.any_nil, Nat.reduceEqDiff, List.map_cons, List.map_nil, Option.map_some, Option.map_none, List.nil_append, ↓reduceIte, vcu, ↓vcd, opK_some, List.getElem?_toArray, List.getElem?_cons_zero, List.getElem?_cons_succ]
  refine (implLS_at w0 τ L t).mono ?_
  rintro r _ ⟨rfl, rfl⟩
  rename_i τ
  simp -implicitDefEqProofs (disch := omega) only [List.any_cons, List.any_nil, Nat.reduceEqDiff, List.map_cons, List.map_nil, Option.map_some, Option.map_none, List.nil_append, ↓reduceIte, vcu, ↓vcd, opK_some, List.getElem?_toArray, List.getElem?_cons_zero, List.getElem?_cons_succ]
  refine r_local (cs := #[.int .i64 (lsN L t), .int .i64 (lsD L t)]) ze24 (by decide) (by simp -implicitDefEqProofs (disch := omega) only [List.any_cons, List.any_nil, Nat.reduceEqDiff, List.map_cons, List.map_nil, Option.map_some, Option.map_none, List.nil_append, ↓reduceIte, vcu, ↓vcd]) (by rw [co24]; rfl) rfl rfl (Nat.zero_lt_succ _) fun c5 τ1 n5 s1 e5 => ?_
  replace e5 : τ1 c5 = some ⟨[.int .i64 (lsN L t), .int .i64 (lsD L t)], false⟩ := e5
  simp -implicitDefEqProofs (disch := omega) only [List.any_cons, List.any_nil, Nat.reduceEqDiff, List.map_cons, List.map_nil, Option.map_some, Option.map_none, List.nil_append, ↓reduceIte, vcu, ↓vcd]
  refine (specLS_at τ1 L t).mono ?_
  rintro r _ ⟨rfl, rfl⟩
  rename_i τ1
  simp -implicitDefEqProofs (disch := omega) only [List.any_cons, List.any_nil, Nat.reduceEqDiff, List.map_cons, List.map_nil, Option.map_some, Option.map_none, List.nil_append, ↓reduceIte, vcu, ↓vcd, opK_some, List.getElem?_toArray, List.getElem?_cons_zero, List.getElem?_cons_succ]
  refine r_local (cs := #[.int .i64 (lsN L t), .int .i64 (lsD L t)]) ze24 (by decide) (by simp -implicitDefEqProofs (disch := omega) only [List.any_cons, List.any_nil, Nat.reduceEqDiff, List.map_cons, List.map_nil, Option.map_some, Option.map_none, List.nil_append, ↓reduceIte, vcu, ↓vcd]) (by rw [co24]; rfl) rfl rfl (Nat.zero_lt_succ _) fun c7 τ2 n7 s2 e7 => ?_
  replace e7 : τ2 c7 = some ⟨[.int .i64 (lsN L t), .int .i64 (lsD L t)], false⟩ := e7
  replace e5 := s2 _ _ e5
  have l5 : lds τ2 c5 0 2 = some [.int .i64 (lsN L t), .int .i64 (lsD L t)] := lds_two (ld_of e5 rfl) (ld_of e5 rfl)
  have l7 : lds τ2 c7 0 2 = some [.int .i64 (lsN L t), .int .i64 (lsD L t)] := lds_two (ld_of e7 rfl) (ld_of e7 rfl)
  have hlen := busyV_len L t
  simp -implicitDefEqProofs (disch := omega) only [List.any_cons, List.any_nil, Nat.reduceEqDiff, List.map_cons, List.map_nil, Option.map_some, Option.map_none, List.nil_append, ↓reduceIte, vcu, ↓vcd, l5, l7, co24, neq_frac, eq_self, decide_true, Bool.not_true, beq_self_eq_true]
  refine (implBP_at w0 τ2 L t).mono ?_
  rintro v τ3 ⟨s3, hv⟩
  replace e5 := s3 _ _ e5
  have k5 : lds τ3 c5 0 2 = some [.int .i64 (lsN L t), .int .i64 (lsD L t)] := lds_two (ld_of e5 rfl) (ld_of e5 rfl)
  have k50 : ld τ3 c5 (0 + 0) = some (.int .i64 (lsN L t)) := ld_of e5 rfl
  have k51 : ld τ3 c5 (0 + 1) = some (.int .i64 (lsD L t)) := ld_of e5 rfl
  have hi := hv.ints
  obtain ⟨vb, vz, rfl⟩ := ints_len' hi
  by_cases hok : OK7 L t
  case neg =>
    have e : (busyV L t).length = 0 := by rw [busyV, if_neg hok]; rfl
    have eN : lsN L t = 0 := if_neg hok
    have eD : lsD L t = 0 := if_neg hok
    rw [eN, eD] at k5
    rw [decide_eq_false hok, e]
    simp -implicitDefEqProofs (disch := omega) only [List.any_cons, List.any_nil, Nat.reduceEqDiff, List.map_cons, List.map_nil, Option.map_some, Option.map_none, List.nil_append, ↓reduceIte, vcu, ↓vcd, opK_some, Bool.not_false, k5, co24]
    rw [r_build]
    refine ⟨(_, #[.int .i64 0, .int .i64 0]), ⟨ze24, by simp -implicitDefEqProofs (disch := omega) only [List.any_cons, List.any_nil, Nat.reduceEqDiff, List.map_cons, List.map_nil, Option.map_some, Option.map_none, List.nil_append, ↓reduceIte, vcu, ↓vcd]; kernel_rfl⟩, ?_⟩
    simp -implicitDefEqProofs (disch := omega) only [List.any_cons, List.any_nil, Nat.reduceEqDiff, List.map_cons, List.map_nil, Option.map_some, Option.map_none, List.nil_append, ↓reduceIte, vcu, ↓vcd, eql_frac, eq_self, decide_true]
    refine (alive_at _).mono ?_
    rintro r _ ⟨rfl, rfl⟩
    simp -implicitDefEqProofs (disch := omega) only [List.any_cons, List.any_nil, Nat.reduceEqDiff, List.map_cons, List.map_nil, Option.map_some, Option.map_none, List.nil_append, ↓reduceIte, vcu, ↓vcd, opK_some]
    refine fin_one Try.results6 ?_
    simp -implicitDefEqProofs (disch := omega) only [List.any_cons, List.any_nil, Nat.reduceEqDiff, List.map_cons, List.map_nil, Option.map_some, Option.map_none, List.nil_append, ↓reduceIte, vcu, ↓vcd]
  rw [decide_eq_true hok]
  have eB : busyV L t = busyN L.toNat t.toNat (t.toNat + 1) := if_pos hok
  rw [(ls_lp L t).1] at k50
  rw [(ls_lp L t).2] at k51
  rw [eB] at hi ⊢
  clear eB hlen hv k5 l5 l7 e5 e7
  obtain ⟨⟨a1, a2⟩, a3, a4⟩ := hok
  obtain ⟨L, rfl⟩ : ∃ n : Nat, L = n := ⟨L.toNat, by omega⟩
  obtain ⟨t, rfl⟩ : ∃ n : Nat, t = n := ⟨t.toNat, by omega⟩
  simp only [Int.toNat_natCast] at hi ⊢
  have hL : L ≤ 6 := by omega
  have ht : t ≤ 8 := by omega
  have hP := part hL ht
  rw [(lp_at hL ht).1] at k50
  rw [(lp_at hL ht).2] at k51
  have hbl := busyN_length L t (t + 1)
  have hsum := sumB_calls (w0 := w0) τ3 _ L t hL ht hi
  rw [hbl] at hi hsum ⊢
  rcases hi with ⟨-, e⟩ | ⟨p, q, e, hat⟩
  · rw [e] at hbl; simp at hbl
  rw [hbl] at e
  injection e with e1 e2 e3
  subst e1; subst e3
  have y := hat t (by omega)
  rw [busyN_getD (by omega)] at y
  have c1 : term L t t ≤ sumN (term L t) (t + 1) := by rw [sumN]; omega
  have hall := hP.all
  have hlast := hP.last
  have hone := hP.one
  have hokP := hP.ok
  have q1 : (term L t t : Int) * ((lp L t).2 : Int) = ((term L t t * (lp L t).2 : Nat) : Int) := by rw [Int.natCast_mul]
  have q2 : (sumN (term L t) (t + 1) : Int) * ((lp L t).1 : Int) = ((term L t t * (lp L t).2 : Nat) : Int) := by rw [hlast, Int.natCast_mul]
  have hm : term L t t * (lp L t).2 ≤ 100000000 * 1000000000 := Nat.mul_le_mul (by omega) hokP.2.2
  have d1 : decide (((lp L t).1 : Int) ≤ ((lp L t).2 : Int)) = true := decide_eq_true (by omega)
  have d2 : decide (((lp L t).2 : Int) ≥ 1) = true := decide_eq_true (by omega)
  have d3 : decide (((t + 1 : Nat) : Int) = (t : Int) + 1) = true := decide_eq_true (by omega)
  generalize term L t t * (lp L t).2 = M at *
  generalize sumN (term L t) (t + 1) = S at *
  simp -implicitDefEqProofs (disch := omega) only [List.any_cons, List.any_nil, Nat.reduceEqDiff, List.map_cons, List.map_nil, Option.map_some, Option.map_none, List.nil_append, ↓reduceIte, vcu, ↓vcd, opK_some, Bool.not_true, y, k50, k51, d3, q1]
  rw [r_callq]
  refine ⟨_, hsum, ?_⟩
  simp -implicitDefEqProofs (disch := omega) only [List.any_cons, List.any_nil, Nat.reduceEqDiff, List.map_cons, List.map_nil, Option.map_some, Option.map_none, List.nil_append, ↓reduceIte, vcu, ↓vcd, k50, k51, q2, d1, d2, decide_true]
  refine fin_one Try.results6 ?_
  simp -implicitDefEqProofs (disch := omega) only [List.any_cons, List.any_nil, Nat.reduceEqDiff, List.map_cons, List.map_nil, Option.map_some, Option.map_none, List.nil_append, ↓reduceIte, vcu, ↓vcd]

open Go.ChangeShapes Go.WideShapes Go.ChangeAt Go.RowKit

set_option maxRecDepth 100000 in
theorem lifted6 (os : Os) (started : os.Started) (H : Type) (enc : TypeId × Value → H) :
    ReturnsInHanded {} Try.checked os 6 .any (Rows.fnLostSumSpec.pre6 enc Try.prog Try.f6 Rows.fnLostSumRow.domain false) (Rows.fnLostSumSpec.post enc Try.prog Try.f6 false true false false) := by
  refine returnsInHanded_of_change (C := Try.checked) own started (by kernel_rfl) Try.func6
    (ChangeSpec.witness6 (enc := enc) (C := Try.checked) false ⟨#[], #[.slice none 0 0], []⟩ 8 (by kernel_rfl) (by kernel_rfl) (by kernel_rfl) (by kernel_rfl)) ?_
  intro W base args ds gs before hval hW _ _
  have hW' := hW
  obtain ⟨p, q, hA, hV, -, -, -⟩ := hW'
  rw [Try.params6] at hA hval
  obtain ⟨v0, vs0, d0, ds0, p0, q0, hargs, rfl, rfl, h0, r0⟩ := trodAll_cons hA
  obtain ⟨rfl, rfl, rfl⟩ := trodAll_nil r0
  obtain ⟨rfl, rfl⟩ := trodVars_none hV
  obtain rfl : args = #[v0] := by cases args; simp_all
  obtain ⟨β0, σ0, a0, zs0, L0, U0, S0, R0, I0, w0, m0⟩ := start_ints Try.underlying22 Try.underlying5 co5 (Start.start W) (hval 0 22 v0 rfl rfl) h0
  refine ((law6 σ0 a0 zs0 (I0) m0 w0).2 noProt β0 W [v0] S0.rel (.cons R0 (.nil _))).mono fun e W' h => ?_
  obtain ⟨β', r, r', σ', -, rfl, hr, hrel, rfl⟩ := h
  cases hr
  exact ⟨_, rfl, law_post laidOut hW rfl rfl (by rw [Try.params6]; intro t ht; simp only [List.mem_cons, List.not_mem_nil, or_false, or_self] at ht; rcases ht with rfl <;> exact ⟨by kernel_rfl, of_decide_eq_true (by kernel_rfl)⟩) rfl Try.underlying4 hrel.below⟩

theorem facts6 : joinedFacts Try.prog 6 Try.f6 Rows.fnLostSumSpec Rows.fnLostSumRow = true := by
  unfold joinedFacts
  rw [mayE, liftsE, makeE]
  kernel_rfl

theorem proved6 : Rows.FnLostSumSaid :=
  OpenClaim.holds_of_wide 6 Try.f6 rfl rfl rfl rfl rfl rfl rfl ⟨rfl, rfl, rfl, rfl, rfl⟩ rfl rfl rfl rfl rfl (by kernel_rfl) Try.func6 facts6 (of_decide_eq_true (by kernel_rfl))
    (by unfold Func.isWrapper; first | (rw [if_pos (by decide +kernel)]; kernel_rfl) | (rw [if_neg (by decide +kernel)]; exact ⟨rfl, rfl⟩))
    (fun os started H enc _ => lifted6 os started H enc)


end Go.Proofs.Ytkepicmefpcgaaa
