/- FnCallPut answers true for every code. -/
import Derived.Test.YtphacjkogompoaaDk
set_option linter.unusedSimpArgs false
set_option linter.unusedVariables false
namespace Go.Proofs.Ytphacjkogompoaa
open Go Go.Abs Go.RowKit Go.Clos
variable {w0 : World}

set_option maxRecDepth 8000 in
set_option maxHeartbeats 1600000 in
theorem law6 (σ : AHeap) (v : Value) (bs : List Int) (hv : Ints .u8 σ v bs) (hm : bs.length ≤ maxLen) (hw : ∀ z ∈ bs, (Lit.int .u8 z).wf = true) :
    ACall Try.prog w0 6 [v] σ fun r _ => r = .bool true := by
  unfold maxLen at hm
  refine ACall.ints_arg (pre := []) (by kernel_rfl) hv fun σ1 h o hs hg => ?_
  clear hv hs σ v
  have hb := bytes_of hw
  refine acall_go mixed Try.func6 rfl good6 fun pr => ?_
  by_cases hbig : 1048576 < bs.length
  · simp -implicitDefEqProofs (disch := omega) only [List.any_cons, List.any_nil, Nat.reduceEqDiff, List.map_cons, List.map_nil, Option.map_some, Option.map_none, List.nil_append, ↓reduceIte, vcu, ↓vcd]
    refine fin_one Try.results6 ?_
    simp -implicitDefEqProofs (disch := omega) only [List.any_cons, List.any_nil, Nat.reduceEqDiff, List.map_cons, List.map_nil, Option.map_some, Option.map_none, List.nil_append, ↓reduceIte, vcu, ↓vcd]
  have hl : bs.length ≤ 1048576 := by omega
  simp -implicitDefEqProofs (disch := omega) only [List.any_cons, List.any_nil, Nat.reduceEqDiff, List.map_cons, List.map_nil, Option.map_some, Option.map_none, List.nil_append, ↓reduceIte, vcu, ↓vcd]
  refine (drawPut_row σ1 h o bs hg hl hb).mono ?_
  rintro _ τ ⟨s, q, u, cs, I, O, rfl, hD, hl14, hq, hs, hI, hO⟩
  simp -implicitDefEqProofs (disch := omega) only [List.any_cons, List.any_nil, Nat.reduceEqDiff, List.map_cons, List.map_nil, Option.map_some, Option.map_none, List.nil_append, ↓reduceIte, vcu, ↓vcd, opK_some, List.getElem?_toArray, List.getElem?_cons_zero, List.getElem?_cons_succ]
  refine r_new ze24 fun c3 τ2a n3 sa ea => ?_
  replace ea : τ2a c3 = some ⟨[.int .i64 0, .int .i64 0, .int .i64 0], false⟩ := ea
  refine r_sets (g := c3) (i := 0) (C := [.int .i64 0, .int .i64 0, .int .i64 0]) (by simp -implicitDefEqProofs (disch := omega) only [List.any_cons, List.any_nil, Nat.reduceEqDiff, List.map_cons, List.map_nil, Option.map_some, Option.map_none, List.nil_append, ↓reduceIte, vcu, ↓vcd]) (by simp -implicitDefEqProofs (disch := omega) only [List.any_cons, List.any_nil, Nat.reduceEqDiff, List.map_cons, List.map_nil, Option.map_some, Option.map_none, List.nil_append, ↓reduceIte, vcu, ↓vcd, co24]; rfl) (by simp -implicitDefEqProofs (disch := omega) only [List.any_cons, List.any_nil, Nat.reduceEqDiff, List.map_cons, List.map_nil, Option.map_some, Option.map_none, List.nil_append, ↓reduceIte, vcu, ↓vcd]; rfl) (by simp -implicitDefEqProofs (disch := omega) only [List.any_cons, List.any_nil, Nat.reduceEqDiff, List.map_cons, List.map_nil, Option.map_some, Option.map_none, List.nil_append, ↓reduceIte, vcu, ↓vcd]; exact Nat.zero_lt_succ _) ea (by simp -implicitDefEqProofs (disch := omega) only [List.any_cons, List.any_nil, Nat.reduceEqDiff, List.map_cons, List.map_nil, Option.map_some, Option.map_none, List.nil_append, ↓reduceIte, vcu, ↓vcd]; exact Nat.le_refl _) fun τ2 k2 e3 => ?_
  replace e3 : τ2 c3 = some ⟨[.int .i64 s.O, .int .i64 s.E, .int .i64 s.M], false⟩ := e3
  have s3 := k2.sub sa n3
  replace hq := hq.sub s3
  have m3 : ∀ τ', Sub τ2 τ' → lds τ' c3 0 3 = some [.int .i64 s.O, .int .i64 s.E, .int .i64 s.M] := fun τ' hs => lds_three (ld_of (hs _ _ e3) rfl) (ld_of (hs _ _ e3) rfl) (ld_of (hs _ _ e3) rfl)
  have mO : ∀ τ', Sub τ2 τ' → ld τ' c3 (0 + 0) = some (.int .i64 s.O) := fun τ' hs => ld_of (hs _ _ e3) rfl
  have mE : ∀ τ', Sub τ2 τ' → ld τ' c3 (0 + 1) = some (.int .i64 s.E) := fun τ' hs => ld_of (hs _ _ e3) rfl
  have mM : ∀ τ', Sub τ2 τ' → ld τ' c3 (0 + 2) = some (.int .i64 s.M) := fun τ' hs => ld_of (hs _ _ e3) rfl
  clear hs ea sa k2 s3
  have hlc : cs.length ≤ 1048576 := by omega
  have l2 := m3 τ2 (Sub.refl _)
  have hzl : (putL s cs I O).length ≤ 1048576 := by have := putL_len (s := s) (cs := cs) (i := I) (o := O); omega
  simp -implicitDefEqProofs (disch := omega) only [List.any_cons, List.any_nil, Nat.reduceEqDiff, List.map_cons, List.map_nil, Option.map_some, Option.map_none, List.nil_append, ↓reduceIte, vcu, ↓vcd, l2, co24]
  refine (implPut_at τ2 s q u cs I O hq hlc).mono ?_
  rintro _ τ3 ⟨v, rfl, s3, w3⟩
  have l3 := m3 τ3 s3
  simp -implicitDefEqProofs (disch := omega) only [List.any_cons, List.any_nil, Nat.reduceEqDiff, List.map_cons, List.map_nil, Option.map_some, Option.map_none, List.nil_append, ↓reduceIte, vcu, ↓vcd, opK_some, List.getElem?_toArray, List.getElem?_cons_zero, List.getElem?_cons_succ, l3, co24]
  refine (specPut_at τ3 s q u cs I O (hq.sub s3) hlc).mono ?_
  rintro _ τ4 ⟨v4, rfl, s4, w4⟩
  simp -implicitDefEqProofs (disch := omega) only [List.any_cons, List.any_nil, Nat.reduceEqDiff, List.map_cons, List.map_nil, Option.map_some, Option.map_none, List.nil_append, ↓reduceIte, vcu, ↓vcd, opK_some, List.getElem?_toArray, List.getElem?_cons_zero, List.getElem?_cons_succ]
  refine (sameCl_calls τ4 v v4 _ _ (w3.tris.sub s4) w4.tris hzl hzl).mono ?_
  rintro r τ5 ⟨rfl, q5⟩
  subst q5
  rw [decide_eq_true (rfl : putL s cs I O = putL s cs I O)]
  have hs5 := s3.trans s4
  have l5 := m3 τ5 hs5
  have hq5 := hq.sub hs5
  replace w3 := w3.sub s4
  clear w4 l2 l3 s4
  by_cases hC : CV s cs
  case neg =>
    obtain ⟨q1, q2⟩ := putL_no (i := I) (o := O) hC
    rw [q1] at w3
    rw [q2]
    have dC : decide (CV ⟨s.O, s.E, s.M⟩ cs) = false := decide_eq_false hC
    simp -implicitDefEqProofs (disch := omega) only [List.any_cons, List.any_nil, Nat.reduceEqDiff, List.map_cons, List.map_nil, Option.map_some, Option.map_none, List.nil_append, ↓reduceIte, vcu, ↓vcd, opK_some, Bool.not_true, Bool.not_false, beq_self_eq_true]
    refine (sameCl_calls τ5 v _ _ _ w3.tris (.inr ⟨q, u, rfl, hq5⟩) (by simp) hlc).mono ?_
    rintro r τ6 ⟨rfl, q6⟩
    subst q6
    by_cases he : ([] : List Cl) = cs
    · rw [decide_eq_true he]
      simp -implicitDefEqProofs (disch := omega) only [List.any_cons, List.any_nil, Nat.reduceEqDiff, List.map_cons, List.map_nil, Option.map_some, Option.map_none, List.nil_append, ↓reduceIte, vcu, ↓vcd, opK_some]
      refine (alive_at _).mono ?_
      rintro r _ ⟨rfl, rfl⟩
      simp -implicitDefEqProofs (disch := omega) only [List.any_cons, List.any_nil, Nat.reduceEqDiff, List.map_cons, List.map_nil, Option.map_some, Option.map_none, List.nil_append, ↓reduceIte, vcu, ↓vcd, opK_some]
      refine fin_one Try.results6 ?_
      simp -implicitDefEqProofs (disch := omega) only [List.any_cons, List.any_nil, Nat.reduceEqDiff, List.map_cons, List.map_nil, Option.map_some, Option.map_none, List.nil_append, ↓reduceIte, vcu, ↓vcd]
    rw [decide_eq_false he]
    simp -implicitDefEqProofs (disch := omega) only [List.any_cons, List.any_nil, Nat.reduceEqDiff, List.map_cons, List.map_nil, Option.map_some, Option.map_none, List.nil_append, ↓reduceIte, vcu, ↓vcd, opK_some, l5, co24]
    refine (implCV_at τ6 s.O s.E s.M q u cs hq5 hlc).mono ?_
    rintro r τ7 ⟨rfl, q7⟩
    subst q7
    rw [dC]
    simp -implicitDefEqProofs (disch := omega) only [List.any_cons, List.any_nil, Nat.reduceEqDiff, List.map_cons, List.map_nil, Option.map_some, Option.map_none, List.nil_append, ↓reduceIte, vcu, ↓vcd, opK_some, Bool.not_false]
    refine (alive_at _).mono ?_
    rintro r _ ⟨rfl, rfl⟩
    simp -implicitDefEqProofs (disch := omega) only [List.any_cons, List.any_nil, Nat.reduceEqDiff, List.map_cons, List.map_nil, Option.map_some, Option.map_none, List.nil_append, ↓reduceIte, vcu, ↓vcd, opK_some]
    refine fin_one Try.results6 ?_
    simp -implicitDefEqProofs (disch := omega) only [List.any_cons, List.any_nil, Nat.reduceEqDiff, List.map_cons, List.map_nil, Option.map_some, Option.map_none, List.nil_append, ↓reduceIte, vcu, ↓vcd]
  cases hf : freeV s cs I O with
  | nil =>
    obtain ⟨q1, q2⟩ := putL_nil hC hf
    rw [q1] at w3
    rw [q2]
    simp -implicitDefEqProofs (disch := omega) only [List.any_cons, List.any_nil, Nat.reduceEqDiff, List.map_cons, List.map_nil, Option.map_some, Option.map_none, List.nil_append, ↓reduceIte, vcu, ↓vcd, opK_some, Bool.not_true, Bool.not_false, beq_self_eq_true]
    refine (sameCl_calls τ5 v _ _ _ w3.tris (.inr ⟨q, u, rfl, hq5⟩) hlc hlc).mono ?_
    rintro r τ6 ⟨rfl, q6⟩
    subst q6
    rw [decide_eq_true (rfl : cs = cs)]
    simp -implicitDefEqProofs (disch := omega) only [List.any_cons, List.any_nil, Nat.reduceEqDiff, List.map_cons, List.map_nil, Option.map_some, Option.map_none, List.nil_append, ↓reduceIte, vcu, ↓vcd, opK_some]
    refine (alive_at _).mono ?_
    rintro r _ ⟨rfl, rfl⟩
    simp -implicitDefEqProofs (disch := omega) only [List.any_cons, List.any_nil, Nat.reduceEqDiff, List.map_cons, List.map_nil, Option.map_some, Option.map_none, List.nil_append, ↓reduceIte, vcu, ↓vcd, opK_some]
    refine fin_one Try.results6 ?_
    simp -implicitDefEqProofs (disch := omega) only [List.any_cons, List.any_nil, Nat.reduceEqDiff, List.map_cons, List.map_nil, Option.map_some, Option.map_none, List.nil_append, ↓reduceIte, vcu, ↓vcd]
  | cons v0 vs =>
    obtain ⟨q1, q2⟩ := putL_cons hC hf
    rw [q1] at w3 hzl
    rw [q2]
    have hfree : Free s cs I O v0 := mem_freeV.1 (by rw [hf]; simp)
    have hback := put_drop hfree
    have hCx : CV s (cs ++ [⟨I, O, v0⟩]) := hfree
    obtain ⟨r1, r2⟩ := drL_ok (i := I) hCx
    rw [hback] at r1 r2
    have r3 : dropOk s (cs ++ [⟨I, O, v0⟩]) I = true := by rw [r2]; exact decide_eq_true (by simp)
    have dC : decide (CV ⟨s.O, s.E, s.M⟩ (cs ++ [⟨I, O, v0⟩])) = true := decide_eq_true hCx
    have hmv := moved_snoc cs [⟨I, O, v0⟩]
    simp -implicitDefEqProofs (disch := omega) only [List.any_cons, List.any_nil, Nat.reduceEqDiff, List.map_cons, List.map_nil, Option.map_some, Option.map_none, List.nil_append, ↓reduceIte, vcu, ↓vcd, opK_some, Bool.not_true, beq_self_eq_true, l5, co24]
    refine (implDrop_calls τ5 s v _ I w3.tris hzl).mono ?_
    rintro _ τ6 ⟨b, rfl, s6, w6⟩
    rw [r1] at w6
    rw [r3]
    have l6 := m3 τ6 (hs5.trans s6)
    simp -implicitDefEqProofs (disch := omega) only [List.any_cons, List.any_nil, Nat.reduceEqDiff, List.map_cons, List.map_nil, Option.map_some, Option.map_none, List.nil_append, ↓reduceIte, vcu, ↓vcd, opK_some, List.getElem?_toArray, List.getElem?_cons_zero, List.getElem?_cons_succ, l6, co24]
    refine (implCV_calls τ6 s.O s.E s.M v _ (w3.tris.sub s6) hzl).mono ?_
    rintro r τ7 ⟨rfl, q7⟩
    subst q7
    rw [dC]
    simp -implicitDefEqProofs (disch := omega) only [List.any_cons, List.any_nil, Nat.reduceEqDiff, List.map_cons, List.map_nil, Option.map_some, Option.map_none, List.nil_append, ↓reduceIte, vcu, ↓vcd, opK_some]
    refine (sameCl_calls τ7 b _ _ _ w6.tris (.inr ⟨q, u, rfl, hq5.sub s6⟩) hlc hlc).mono ?_
    rintro r τ8 ⟨rfl, q8⟩
    subst q8
    rw [decide_eq_true (rfl : cs = cs)]
    simp -implicitDefEqProofs (disch := omega) only [List.any_cons, List.any_nil, Nat.reduceEqDiff, List.map_cons, List.map_nil, Option.map_some, Option.map_none, List.nil_append, ↓reduceIte, vcu, ↓vcd, opK_some]
    refine (implMoved_calls τ8 _ v _ _ (.inr ⟨q, u, rfl, hq5.sub s6⟩) (w3.tris.sub s6) hlc hzl).mono ?_
    rintro r τ9 ⟨rfl, q9⟩
    subst q9
    rw [hmv]
    simp -implicitDefEqProofs (disch := omega) only [List.any_cons, List.any_nil, Nat.reduceEqDiff, List.map_cons, List.map_nil, Option.map_some, Option.map_none, List.nil_append, ↓reduceIte, vcu, ↓vcd, opK_some, Int.natCast_zero]
    refine fin_one Try.results6 ?_
    simp -implicitDefEqProofs (disch := omega) only [List.any_cons, List.any_nil, Nat.reduceEqDiff, List.map_cons, List.map_nil, Option.map_some, Option.map_none, List.nil_append, ↓reduceIte, vcu, ↓vcd]

open Go.ChangeShapes Go.WideShapes Go.ChangeAt Go.RowKit

set_option maxRecDepth 100000 in
theorem lifted6 (os : Os) (started : os.Started) (H : Type) (enc : TypeId × Value → H) :
    ReturnsInHanded {} Try.checked os 6 .any (Rows.fnCallPutSpec.pre6 enc Try.prog Try.f6 Rows.fnCallPutRow.domain false) (Rows.fnCallPutSpec.post enc Try.prog Try.f6 false true false false) := by
  refine returnsInHanded_of_change (C := Try.checked) own started (by kernel_rfl) Try.func6
    (ChangeSpec.witness6 (enc := enc) (C := Try.checked) false ⟨#[], #[.slice none 0 0], []⟩ 8 (by kernel_rfl) (by kernel_rfl) (by kernel_rfl) (by kernel_rfl)) ?_
  intro W base args ds gs before hval hW _ _
  have hW' := hW
  obtain ⟨p, q, hA, hV, -, -, -⟩ := hW'
  rw [Try.params6] at hA hval
  obtain ⟨v0, vs0, d0, ds0, p0, q0, hargs, rfl, rfl, h0, r0⟩ := trodAll_cons hA
  obtain ⟨rfl, rfl, rfl⟩ := trodAll_nil r0
  obtain ⟨rfl, rfl⟩ := trodVars_none hV
  obtain rfl : args = #[v0] := by cases args; simp_all
  obtain ⟨β0, σ0, a0, zs0, L0, U0, S0, R0, I0, w0, m0⟩ := start_ints Try.underlying22 Try.underlying5 co5 (Start.start W) (hval 0 22 v0 rfl rfl) h0
  refine ((law6 σ0 a0 zs0 (I0) m0 w0).2 noProt β0 W [v0] S0.rel (.cons R0 (.nil _))).mono fun e W' h => ?_
  obtain ⟨β', r, r', σ', -, rfl, hr, hrel, rfl⟩ := h
  cases hr
  exact ⟨_, rfl, law_post laidOut hW rfl rfl (by rw [Try.params6]; intro t ht; simp only [List.mem_cons, List.not_mem_nil, or_false, or_self] at ht; rcases ht with rfl <;> exact ⟨by kernel_rfl, of_decide_eq_true (by kernel_rfl)⟩) rfl Try.underlying4 hrel.below⟩

theorem facts6 : joinedFacts Try.prog 6 Try.f6 Rows.fnCallPutSpec Rows.fnCallPutRow = true := by
  unfold joinedFacts
  rw [mayE, liftsE, makeE]
  kernel_rfl

theorem proved6 : Rows.FnCallPutSaid :=
  OpenClaim.holds_of_wide 6 Try.f6 rfl rfl rfl rfl rfl rfl rfl ⟨rfl, rfl, rfl, rfl, rfl⟩ rfl rfl rfl rfl rfl (by kernel_rfl) Try.func6 facts6 (of_decide_eq_true (by kernel_rfl))
    (by unfold Func.isWrapper; first | (rw [if_pos (by decide +kernel)]; kernel_rfl) | (rw [if_neg (by decide +kernel)]; exact ⟨rfl, rfl⟩))
    (fun os started H enc _ => lifted6 os started H enc)


end Go.Proofs.Ytphacjkogompoaa
