/- FnExchangeValid answers true for every code. -/
import Derived.Test.YtofdnmlpfagibaaSBg
set_option linter.unusedSimpArgs false
set_option linter.unusedVariables false
set_option maxHeartbeats 6400000
namespace Go.Proofs.Ytofdnmlpfagibaa
open Go Go.Abs Go.RowKit Go.Dial Go.Clos
variable {w0 : World}

set_option maxRecDepth 16000 in
theorem law3 (σ : AHeap) (v : Value) (bs : List Int) (hv : Ints .u8 σ v bs) (hm : bs.length ≤ maxLen) (hw : ∀ z ∈ bs, (Lit.int .u8 z).wf = true) :
  ACall Try.prog w0 3 [v] σ fun r _ => r = .bool true := by
 unfold maxLen at hm
 refine ACall.ints_arg (pre := []) (by kernel_rfl) hv fun σ1 h o hs hg => ?_
 clear hv hs σ v
 have hb := bytes_of hw
 refine acall_go mixed Try.func3 rfl good3 fun pr => ?_
 by_cases hbig : 1048576 < bs.length
 ·simp -implicitDefEqProofs (disch := omega) only [Nat.reduceEqDiff, ↓reduceIte, vcu, ↓vcd]
  refine fin_one Try.results3 ?_
  simp -implicitDefEqProofs (disch := omega) only [Nat.reduceEqDiff, ↓reduceIte, vcu, ↓vcd]
 have hl : bs.length ≤ 1048576 := by omega
 simp -implicitDefEqProofs (disch := omega) only [Nat.reduceEqDiff, ↓reduceIte, vcu, ↓vcd]
 refine (drawEV_at σ1 h o bs hg hl hb).mono ?_
 rintro _ τ ⟨⟨e, v1, v2, rfl, hv, hs⟩, hsub⟩
 clear hg hl hb
 obtain ⟨ta, ca⟩ := exV_in hv
 clear hv
 have hB := hs.b
 unfold exV
 simp -implicitDefEqProofs (disch := omega) only [Nat.reduceEqDiff, ↓reduceIte, vcu, ↓vcd, opK_some, List.getElem?_toArray, List.getElem?_cons_zero, List.getElem?_cons_succ]
 have onea := cells_one ta ca
 refine r_local (cs := #[.int .i64 e.s.O, .int .i64 e.s.E, .int .i64 e.s.M, v1, v2]) ze28 (by decide) z9q (by rw [co28]; rfl) rfl onea (Nat.zero_lt_succ _) fun qa T1 n1 s1 ka => ?_
 replace ka : T1 qa = some ⟨exC v1 v2 e, false⟩ := ka
 replace ta := ta.sub s1
 replace ca := ca.sub s1
 have l2 : lds T1 qa 0 5 = some [.int .i64 e.s.O, .int .i64 e.s.E, .int .i64 e.s.M, v1, v2] := by rw [lds_of ka (by simp [exC])]; rfl
 simp -implicitDefEqProofs (disch := omega) only [Nat.reduceEqDiff, ↓reduceIte, vcu, ↓vcd, l2, co28, co50, co24]
 refine (implEV_calls T1 (.agg #[.int .i64 e.s.O, .int .i64 e.s.E, .int .i64 e.s.M, v1, v2]) e ⟨_, _, rfl, ta, ca⟩ hB).mono ?_
 rintro _ _ ⟨rfl, rfl⟩
 rename_i T1
 simp -implicitDefEqProofs (disch := omega) only [Nat.reduceEqDiff, ↓reduceIte, vcu, ↓vcd, opK_some, l2, co28, co50, co24]
 refine (exVal_calls T1 (.agg #[.int .i64 e.s.O, .int .i64 e.s.E, .int .i64 e.s.M, v1, v2]) e ⟨_, _, rfl, ta, ca⟩ hB).mono ?_
 rintro _ _ ⟨rfl, rfl⟩
 rename_i T1
 by_cases ho : ExOk e
 case neg =>
  rw [decide_eq_false ho]
  simp -implicitDefEqProofs (disch := omega) only [Nat.reduceEqDiff, ↓reduceIte, vcu, ↓vcd, opK_some, beq_self_eq_true, Bool.not_true, Bool.not_false]
  rw [r_build]
  refine ⟨(_, #[.int .i64 0, .int .i64 0, .int .i64 0, .slice none 0 0, .slice none 0 0]), ⟨ze28, by first | kernel_rfl | (simp -implicitDefEqProofs (disch := omega) only [Nat.reduceEqDiff, ↓reduceIte, vcu, ↓vcd]; kernel_rfl)⟩, ?_⟩
  simp -implicitDefEqProofs (disch := omega) only [Nat.reduceEqDiff, ↓reduceIte, vcu, ↓vcd]
  refine (implEV_calls T1 (.agg #[.int .i64 0, .int .i64 0, .int .i64 0, .slice none 0 0, .slice none 0 0]) ex0 ⟨.slice none 0 0, .slice none 0 0, rfl, .inl ⟨rfl, rfl⟩, .inl ⟨rfl, rfl⟩⟩ exB_0).mono ?_
  rintro _ _ ⟨rfl, rfl⟩
  rename_i T1
  rw [decide_eq_false ex0_no]
  simp -implicitDefEqProofs (disch := omega) only [Nat.reduceEqDiff, ↓reduceIte, vcu, ↓vcd, opK_some, Bool.not_false]
  refine (alive_at T1).mono ?_
  rintro _ _ ⟨rfl, rfl⟩
  rename_i T1
  simp -implicitDefEqProofs (disch := omega) only [Nat.reduceEqDiff, ↓reduceIte, vcu, ↓vcd, opK_some]
  refine fin_one Try.results3 ?_
  simp -implicitDefEqProofs (disch := omega) only [Nat.reduceEqDiff, ↓reduceIte, vcu, ↓vcd]
 rw [decide_eq_true ho]
 simp -implicitDefEqProofs (disch := omega) only [Nat.reduceEqDiff, ↓reduceIte, vcu, ↓vcd, opK_some, beq_self_eq_true, Bool.not_true, Bool.not_false]
 refine r_lit el32 (out := #[]) (by first | kernel_rfl | (simp -implicitDefEqProofs (disch := omega) only [Nat.reduceEqDiff, ↓reduceIte, vcu, ↓vcd]; kernel_rfl)) (by kernel_rfl) fun q0 T2 n0 s2 v0 => ?_
 replace v0 : T2 q0 = some ⟨ints .i64 [], false⟩ := v0
 have hc13 := hs.2.2
 have nc := lenC ca
 simp -implicitDefEqProofs (disch := omega) only [Nat.reduceEqDiff, ↓reduceIte, vcu, ↓vcd]
 refine vc_loop_c mixed (by kernel_rfl) [3] (fun m a σ' => ∃ (k q : Nat), m + k = e.cs.length ∧ a 6 = .int .i64 (k : Int) ∧ a 5 = .slice (some ⟨q, 0, none⟩) (2 * k) 1 ∧ σ' q = some ⟨ints .i64 (endsL (e.cs.take k)), false⟩ ∧ T1 q = none ∧ Sub T1 σ') e.cs.length ⟨0, q0, by simp, rfl, rfl, v0, n0, s2⟩ ?_
 clear s2 v0
 rintro mm aa A hcc ⟨k, q, hk, h6, h5, vq, nq, sA⟩
 simp -implicitDefEqProofs (disch := omega) only [Nat.reduceEqDiff, ↓reduceIte, vcu, ↓vcd] at hcc
 obtain ⟨h3, -⟩ := hcc
 have sL : Sub T1 (lessL A [q]) := fun j ob he => by
  rw [lessL_at (by simp only [List.mem_singleton]; rintro rfl; rw [nq] at he; cases he)]; exact sA j ob he
 have caL := ca.sub sL
 have kaL := sL _ _ ka
 have lcL : ld (lessL A [q]) qa (0 + 4) = some v2 := ld_of kaL rfl
 replace ta := ta.sub sA
 replace ca := ca.sub sA
 have ka' := sA _ _ ka
 have lc : ld A qa (0 + 4) = some v2 := ld_of ka' rfl
 by_cases hlt : k < e.cs.length
 ·skip
  obtain ⟨gc', oc, rfl, hrow⟩ := rowC caL (by omega)
  have y0 : ld (lessL A [q]) gc' (oc + k * 3 + 0) = some (.int .i64 (gc e.cs k).i) := (hrow k hlt).1
  have y1 : ld (lessL A [q]) gc' (oc + k * 3 + 1) = some (.int .i64 (gc e.cs k).o) := (hrow k hlt).2.1
  have x0 := ld_sub lessL_sub y0
  have x1 := ld_sub lessL_sub y1
  obtain ⟨f1, f2, f3⟩ := ends_new ho hlt
  have hst := endsL_step e.cs hlt
  have hel : (endsL (e.cs.take k)).length = 2 * k := by rw [endsL_len, List.length_take, Nat.min_eq_left (by omega)]
  have HI := fun z => hasInt_at (w0 := w0) A q 0 (endsL (e.cs.take k)) z (intsAt_own vq) (by omega)
  rw [hel] at HI
  have i1 := HI (gc e.cs k).i
  have i2 := HI (gc e.cs k).o
  rw [decide_eq_false f1] at i1
  rw [decide_eq_false f2] at i2
  generalize (gc e.cs k).i = I at *
  generalize (gc e.cs k).o = O at *
  simp -implicitDefEqProofs (disch := omega) only [Nat.reduceEqDiff, ↓reduceIte, vcu, ↓vcd, h3, h5, h6, lc, nc, x0, x1]
  rw [r_callq]
  refine ⟨_, i1, ?_⟩
  simp -implicitDefEqProofs (disch := omega) only [Nat.reduceEqDiff, ↓reduceIte, vcu, ↓vcd, h3, h5, h6, lc, nc, x0, x1]
  rw [r_callq]
  refine ⟨_, i2, ?_⟩
  simp -implicitDefEqProofs (disch := omega) only [Nat.reduceEqDiff, ↓reduceIte, vcu, ↓vcd, h3, h5, h6, lc, nc, x0, x1, f3, decide_false]
  refine region_tree mixed (quiets [0, 1, 2, 3, 4, 5, 6, 7, 8, 9, 10, 11, 12] (.one 13 (.one 14 (quiets [15] .stop)))) [([0, 1, 2, 3, 4, 5, 6, 7, 8, 9, 10, 11, 12, 15], Sub (lessL A [q]))] (by kernel_rfl) (by kernel_rfl) (fun p hp => by simp only [List.mem_singleton] at hp; subst hp; exact lessL_sub) ?_
  refine tree_quiets (lessL A [q]) _ _ _ (sfIn (by kernel_rfl)) (by kernel_rfl) (by kernel_rfl) ?_
  simp -implicitDefEqProofs (disch := omega) only [Nat.reduceEqDiff, ↓reduceIte, vcu, ↓vcd, pickOps_nil, pickOps_cons, pickO_some, List.getElem?_cons_succ, List.getElem?_cons_zero, h3, h5, h6, lcL, nc, y0, y1]
  refine tree_one rfl ?_
  refine r_lit el32 (out := #[.int .i64 I, .int .i64 O]) (by first | kernel_rfl | (simp -implicitDefEqProofs (disch := omega) only [Nat.reduceEqDiff, ↓reduceIte, vcu, ↓vcd]; kernel_rfl)) (by kernel_rfl) fun e2 A2 n2 s2 v2' => ?_
  replace v2' : A2 e2 = some ⟨ints .i64 [I, O], false⟩ := v2'
  try simp -implicitDefEqProofs (disch := omega) only [Nat.reduceEqDiff, ↓reduceIte, vcu, ↓vcd]
  refine ⟨keep_of rfl fun p hp => by simp only [List.mem_singleton] at hp; subst hp; exact .inr (lessL_sub.trans s2), tree_one rfl ?_⟩
  refine r_pushI (g := q) (e := e2) (o := 0) (k := .i64) (xs := endsL (e.cs.take k)) (ys := [I, O]) (m := 2) (len := 2 * k) el32 (by omega) sl32 (by simp -implicitDefEqProofs (disch := omega) only [Nat.reduceEqDiff, ↓reduceIte, vcu, ↓vcd, h5]) (s2 _ _ vq) hel z9q (intsAt_own v2') rfl (by omega) fun q3 A3 n3 k3 v3 => ?_
  rw [← hst] at v3
  try simp -implicitDefEqProofs (disch := omega) only [Nat.reduceEqDiff, ↓reduceIte, vcu, ↓vcd]
  refine ⟨keep_of rfl fun p hp => by simp only [List.mem_singleton] at hp; subst hp; exact .inr (lessL_kept (lessL_sub.trans s2) k3 (by simp)), ?_⟩
  refine tree_quiets (fun _ => none) _ _ _ sf0 (by kernel_rfl) (by kernel_rfl) ?_
  simp -implicitDefEqProofs (disch := omega) only [Nat.reduceEqDiff, ↓reduceIte, vcu, ↓vcd, pickOps_nil, pickOps_cons, pickO_some, List.getElem?_cons_succ, List.getElem?_cons_zero]
  refine tree_stop ?_
  have q2 : 2 * k + 2 = 2 * (k + 1) := by omega
  simp -implicitDefEqProofs (disch := omega) only [Nat.reduceEqDiff, ↓reduceIte, vcu, ↓vcd, h3, h6]
  exact ⟨by simp [h3], mm - 1, by omega, k + 1, q3, by omega, by simp, by rw [q2], v3, free_sub (sA.trans s2) n3, k3.sub (sA.trans s2) nq⟩
 have hq := ex_quiet ho
 have bq : ExB ⟨e.s, e.ps, []⟩ := exB_of hq
 rcases ta with ⟨rfl, hta⟩ | ⟨gt, ot, rfl, hta⟩
 ·skip
  have ln : lds A qa 0 3 = some [.int .i64 e.s.O, .int .i64 e.s.E, .int .i64 e.s.M] := lds_three (ld_of ka' rfl) (ld_of ka' rfl) (ld_of ka' rfl)
  have lpl : ld A qa (0 + 3) = some (.slice none 0 0) := ld_of ka' rfl
  simp -implicitDefEqProofs (disch := omega) only [Nat.reduceEqDiff, ↓reduceIte, vcu, ↓vcd, h3, h5, h6, lc, nc, ln, lpl, Nat.add_zero, co28, co50, co24]
  rw [r_build]
  refine ⟨(_, #[.int .i64 e.s.O, .int .i64 e.s.E, .int .i64 e.s.M, (.slice none 0 0), .slice none 0 0]), ⟨ze28, by simp -implicitDefEqProofs (disch := omega) only [Nat.reduceEqDiff, ↓reduceIte, vcu, ↓vcd]; kernel_rfl⟩, ?_⟩
  simp -implicitDefEqProofs (disch := omega) only [Nat.reduceEqDiff, ↓reduceIte, vcu, ↓vcd]
  refine (implEV_calls A (.agg #[.int .i64 e.s.O, .int .i64 e.s.E, .int .i64 e.s.M, (.slice none 0 0), .slice none 0 0]) ⟨e.s, e.ps, []⟩ ⟨(.slice none 0 0), .slice none 0 0, rfl, .inl ⟨rfl, hta⟩, .inl ⟨rfl, rfl⟩⟩ bq).mono ?_
  rintro _ _ ⟨rfl, rfl⟩
  rename_i A
  rw [decide_eq_true hq]
  simp -implicitDefEqProofs (disch := omega) only [Nat.reduceEqDiff, ↓reduceIte, vcu, ↓vcd, opK_some]
  refine fin_one Try.results3 ?_
  simp -implicitDefEqProofs (disch := omega) only [Nat.reduceEqDiff, ↓reduceIte, vcu, ↓vcd]
 ·skip
  have ln : lds A qa 0 3 = some [.int .i64 e.s.O, .int .i64 e.s.E, .int .i64 e.s.M] := lds_three (ld_of ka' rfl) (ld_of ka' rfl) (ld_of ka' rfl)
  have lpl : ld A qa (0 + 3) = some (.slice (some ⟨gt, ot, none⟩) e.ps.length 1) := ld_of ka' rfl
  simp -implicitDefEqProofs (disch := omega) only [Nat.reduceEqDiff, ↓reduceIte, vcu, ↓vcd, h3, h5, h6, lc, nc, ln, lpl, Nat.add_zero, co28, co50, co24]
  rw [r_build]
  refine ⟨(_, #[.int .i64 e.s.O, .int .i64 e.s.E, .int .i64 e.s.M, (.slice (some ⟨gt, ot, none⟩) e.ps.length 1), .slice none 0 0]), ⟨ze28, by simp -implicitDefEqProofs (disch := omega) only [Nat.reduceEqDiff, ↓reduceIte, vcu, ↓vcd]; kernel_rfl⟩, ?_⟩
  simp -implicitDefEqProofs (disch := omega) only [Nat.reduceEqDiff, ↓reduceIte, vcu, ↓vcd]
  refine (implEV_calls A (.agg #[.int .i64 e.s.O, .int .i64 e.s.E, .int .i64 e.s.M, (.slice (some ⟨gt, ot, none⟩) e.ps.length 1), .slice none 0 0]) ⟨e.s, e.ps, []⟩ ⟨(.slice (some ⟨gt, ot, none⟩) e.ps.length 1), .slice none 0 0, rfl, .inr ⟨gt, ot, rfl, hta⟩, .inl ⟨rfl, rfl⟩⟩ bq).mono ?_
  rintro _ _ ⟨rfl, rfl⟩
  rename_i A
  rw [decide_eq_true hq]
  simp -implicitDefEqProofs (disch := omega) only [Nat.reduceEqDiff, ↓reduceIte, vcu, ↓vcd, opK_some]
  refine fin_one Try.results3 ?_
  simp -implicitDefEqProofs (disch := omega) only [Nat.reduceEqDiff, ↓reduceIte, vcu, ↓vcd]

open Go.ChangeShapes Go.WideShapes Go.ChangeAt Go.RowKit

set_option maxRecDepth 100000 in
theorem lifted3 (os : Os) (started : os.Started) (H : Type) (enc : TypeId × Value → H) :
  ReturnsInHanded {} Try.checked os 3 .any (Rows.fnExchangeValidSpec.pre6 enc Try.prog Try.f3 Rows.fnExchangeValidRow.domain false) (Rows.fnExchangeValidSpec.post enc Try.prog Try.f3 false true false false) := by
 refine returnsInHanded_of_change (C := Try.checked) own started (by kernel_rfl) Try.func3
  (ChangeSpec.witness6 (enc := enc) (C := Try.checked) false ⟨#[], #[.slice none 0 0], []⟩ 8 (by kernel_rfl) (by kernel_rfl) (by kernel_rfl) (by kernel_rfl)) ?_
 intro W base args ds gs before hval hW _ _
 have hW' := hW
 obtain ⟨p, q, hA, hV, -, -, -⟩ := hW'
 rw [Try.params3] at hA hval
 obtain ⟨v0, vs0, d0, ds0, p0, q0, hargs, rfl, rfl, h0, r0⟩ := trodAll_cons hA
 obtain ⟨rfl, rfl, rfl⟩ := trodAll_nil r0
 obtain ⟨rfl, rfl⟩ := trodVars_none hV
 obtain rfl : args = #[v0] := by cases args; simp_all
 obtain ⟨β0, σ0, a0, zs0, L0, U0, S0, R0, I0, w0, m0⟩ := start_ints Try.underlying22 Try.underlying5 co5 (Start.start W) (hval 0 22 v0 rfl rfl) h0
 refine ((law3 σ0 a0 zs0 (I0) m0 w0).2 noProt β0 W [v0] S0.rel (.cons R0 (.nil _))).mono fun e W' h => ?_
 obtain ⟨β', r, r', σ', -, rfl, hr, hrel, rfl⟩ := h
 cases hr
 exact ⟨_, rfl, law_post laidOut hW rfl rfl (by rw [Try.params3]; intro t ht; simp only [List.mem_cons, List.not_mem_nil, or_false, or_self] at ht; rcases ht with rfl <;> exact ⟨by kernel_rfl, of_decide_eq_true (by kernel_rfl)⟩) rfl Try.underlying4 hrel.below⟩

theorem facts3 : joinedFacts Try.prog 3 Try.f3 Rows.fnExchangeValidSpec Rows.fnExchangeValidRow = true := by
 unfold joinedFacts
 rw [mayE, liftsE, makeE]
 kernel_rfl

theorem proved3 : Rows.FnExchangeValidSaid :=
 OpenClaim.holds_of_wide 3 Try.f3 rfl rfl rfl rfl rfl rfl rfl ⟨rfl, rfl, rfl, rfl, rfl⟩ rfl rfl rfl rfl rfl (by kernel_rfl) Try.func3 facts3 (of_decide_eq_true (by kernel_rfl))
  (by unfold Func.isWrapper; first | (rw [if_pos (by decide +kernel)]; kernel_rfl) | (rw [if_neg (by decide +kernel)]; exact ⟨rfl, rfl⟩))
  (fun os started H enc _ => lifted3 os started H enc)


end Go.Proofs.Ytofdnmlpfagibaa
