/- FnLineOf answers true for every code. -/
import Derived.Test.YtofdnmlpfagibaaSBg
set_option linter.unusedSimpArgs false
set_option linter.unusedVariables false
set_option maxHeartbeats 6400000
namespace Go.Proofs.Ytofdnmlpfagibaa
open Go Go.Abs Go.RowKit Go.Dial Go.Clos
variable {w0 : World}

set_option maxRecDepth 16000 in
theorem law6 (σ : AHeap) (v : Value) (bs : List Int) (hv : Ints .u8 σ v bs) (hm : bs.length ≤ maxLen) (hw : ∀ z ∈ bs, (Lit.int .u8 z).wf = true) :
  ACall Try.prog w0 6 [v] σ fun r _ => r = .bool true := by
 unfold maxLen at hm
 refine ACall.ints_arg (pre := []) (by kernel_rfl) hv fun σ1 h o hs hg => ?_
 clear hv hs σ v
 have hb := bytes_of hw
 refine acall_go mixed Try.func6 rfl good6 fun pr => ?_
 by_cases hbig : 1048576 < bs.length
 ·simp -implicitDefEqProofs (disch := omega) only [Nat.reduceEqDiff, ↓reduceIte, vcu, ↓vcd]
  refine fin_one Try.results6 ?_
  simp -implicitDefEqProofs (disch := omega) only [Nat.reduceEqDiff, ↓reduceIte, vcu, ↓vcd]
 have hl : bs.length ≤ 1048576 := by omega
 simp -implicitDefEqProofs (disch := omega) only [Nat.reduceEqDiff, ↓reduceIte, vcu, ↓vcd]
 refine (drawLO_at σ1 h o bs hg hl hb).mono ?_
 rintro _ τ ⟨⟨e, v1, v2, t, rfl, hv, hs, ht⟩, -⟩
 clear hg hl hb
 obtain ⟨ta, ca⟩ := exV_in hv
 clear hv
 have hB := hs.b
 unfold exV
 simp -implicitDefEqProofs (disch := omega) only [Nat.reduceEqDiff, ↓reduceIte, vcu, ↓vcd, opK_some, List.getElem?_toArray, List.getElem?_cons_zero, List.getElem?_cons_succ]
 have onea := cells_one ta ca
 refine r_local (cs := #[.int .i64 e.s.O, .int .i64 e.s.E, .int .i64 e.s.M, v1, v2]) ze28 (by decide) z9q (by rw [co28]; rfl) rfl onea (Nat.zero_lt_succ _) fun qa T1 n1 s1 ka => ?_
 replace ka : T1 qa = some ⟨exC v1 v2 e, false⟩ := ka
 replace ta := ta.sub s1
 replace ca := ca.sub s1
 have l2 : lds T1 qa 0 5 = some [.int .i64 e.s.O, .int .i64 e.s.E, .int .i64 e.s.M, v1, v2] := by rw [lds_of ka (by simp [exC])]; rfl
 simp -implicitDefEqProofs (disch := omega) only [Nat.reduceEqDiff, ↓reduceIte, vcu, ↓vcd, l2, co28, co50, co24]
 refine (implLO_calls T1 (.agg #[.int .i64 e.s.O, .int .i64 e.s.E, .int .i64 e.s.M, v1, v2]) e t ⟨_, _, rfl, ta, ca⟩ hB).mono ?_
 rintro _ _ ⟨rfl, rfl⟩
 rename_i T1
 simp -implicitDefEqProofs (disch := omega) only [Nat.reduceEqDiff, ↓reduceIte, vcu, ↓vcd, opK_some, l2, co28, co50, co24]
 refine (lineOf_calls T1 (.agg #[.int .i64 e.s.O, .int .i64 e.s.E, .int .i64 e.s.M, v1, v2]) e t ⟨_, _, rfl, ta, ca⟩ hB).mono ?_
 rintro _ _ ⟨rfl, rfl⟩
 rename_i T1
 have hm1 := lineV_m1 e t
 have hge := lineV_facts (e := e) (t := t)
 generalize lineV e t = y at hm1 hge
 by_cases hy : y < 0
 ·have := hm1 hy
  subst this
  simp -implicitDefEqProofs (disch := omega) only [Nat.reduceEqDiff, ↓reduceIte, vcu, ↓vcd, opK_some, ne_eq, not_true_eq_false, decide_false]
  refine (alive_at T1).mono ?_
  rintro _ _ ⟨rfl, rfl⟩
  rename_i T1
  simp -implicitDefEqProofs (disch := omega) only [Nat.reduceEqDiff, ↓reduceIte, vcu, ↓vcd, opK_some]
  refine fin_one Try.results6 ?_
  simp -implicitDefEqProofs (disch := omega) only [Nat.reduceEqDiff, ↓reduceIte, vcu, ↓vcd]
 obtain ⟨k, rfl, g1, g2, g3⟩ := hge (by omega)
 have l3 : ld T1 qa (0 + 3) = some v1 := ld_of ka rfl
 obtain ⟨gp, op, rfl, tp⟩ := rowT ta (by omega)
 have xt := tp k g1
 rw [g2] at xt
 have ha : abin Try.prog 9 .add (.string (tx t)) (.string { data := #[48, 49, 51, 50] }) = some (.string (tx (t ++ [48, 49, 51, 50]))) := abin_sadd (ys := [48, 49, 51, 50]) (by simp; omega)
 simp -implicitDefEqProofs (disch := omega) only [Nat.reduceEqDiff, ↓reduceIte, vcu, ↓vcd, opK_some, ne_eq, not_true_eq_false, decide_false, l3, ha]
 refine (implD1_calls T1 _ e.ps (t ++ [48, 49, 51, 50]) ta hB.1 hB.2.1 (by simp; omega)).mono ?_
 rintro _ _ ⟨rfl, rfl⟩
 rename_i T1
 have d1 : dialK e.ps (t ++ [48, 49, 51, 50]) = k := by unfold dialK; rw [g3]
 have d2 : dialL e.ps (t ++ [48, 49, 51, 50]) = t.length := by unfold dialL; rw [g3]; show (e.ps.getD k []).length = _; rw [g2]
 rw [d1, d2]
 simp -implicitDefEqProofs (disch := omega) only [Nat.reduceEqDiff, ↓reduceIte, vcu, ↓vcd, opK_some, List.getElem?_toArray, List.getElem?_cons_zero, List.getElem?_cons_succ, l3, xt]
 refine fin_one Try.results6 ?_
 simp -implicitDefEqProofs (disch := omega) only [Nat.reduceEqDiff, ↓reduceIte, vcu, ↓vcd]

open Go.ChangeShapes Go.WideShapes Go.ChangeAt Go.RowKit

set_option maxRecDepth 100000 in
theorem lifted6 (os : Os) (started : os.Started) (H : Type) (enc : TypeId × Value → H) :
  ReturnsInHanded {} Try.checked os 6 .any (Rows.fnLineOfSpec.pre6 enc Try.prog Try.f6 Rows.fnLineOfRow.domain false) (Rows.fnLineOfSpec.post enc Try.prog Try.f6 false true false false) := by
 refine returnsInHanded_of_change (C := Try.checked) own started (by kernel_rfl) Try.func6
  (ChangeSpec.witness6 (enc := enc) (C := Try.checked) false ⟨#[], #[.slice none 0 0], []⟩ 8 (by kernel_rfl) (by kernel_rfl) (by kernel_rfl) (by kernel_rfl)) ?_
 intro W base args ds gs before hval hW _ _
 have hW' := hW
 obtain ⟨p, q, hA, hV, -, -, -⟩ := hW'
 rw [Try.params6] at hA hval
 obtain ⟨v0, vs0, d0, ds0, p0, q0, hargs, rfl, rfl, h0, r0⟩ := trodAll_cons hA
 obtain ⟨rfl, rfl, rfl⟩ := trodAll_nil r0
 obtain ⟨rfl, rfl⟩ := trodVars_none hV
 obtain rfl : args = #[v0] := by cases args; simp_all
 obtain ⟨β0, σ0, a0, zs0, L0, U0, S0, R0, I0, w0, m0⟩ := start_ints Try.underlying22 Try.underlying5 co5 (Start.start W) (hval 0 22 v0 rfl rfl) h0
 refine ((law6 σ0 a0 zs0 (I0) m0 w0).2 noProt β0 W [v0] S0.rel (.cons R0 (.nil _))).mono fun e W' h => ?_
 obtain ⟨β', r, r', σ', -, rfl, hr, hrel, rfl⟩ := h
 cases hr
 exact ⟨_, rfl, law_post laidOut hW rfl rfl (by rw [Try.params6]; intro t ht; simp only [List.mem_cons, List.not_mem_nil, or_false, or_self] at ht; rcases ht with rfl <;> exact ⟨by kernel_rfl, of_decide_eq_true (by kernel_rfl)⟩) rfl Try.underlying4 hrel.below⟩

theorem facts6 : joinedFacts Try.prog 6 Try.f6 Rows.fnLineOfSpec Rows.fnLineOfRow = true := by
 unfold joinedFacts
 rw [mayE, liftsE, makeE]
 kernel_rfl

theorem proved6 : Rows.FnLineOfSaid :=
 OpenClaim.holds_of_wide 6 Try.f6 rfl rfl rfl rfl rfl rfl rfl ⟨rfl, rfl, rfl, rfl, rfl⟩ rfl rfl rfl rfl rfl (by kernel_rfl) Try.func6 facts6 (of_decide_eq_true (by kernel_rfl))
  (by unfold Func.isWrapper; first | (rw [if_pos (by decide +kernel)]; kernel_rfl) | (rw [if_neg (by decide +kernel)]; exact ⟨rfl, rfl⟩))
  (fun os started H enc _ => lifted6 os started H enc)


end Go.Proofs.Ytofdnmlpfagibaa
