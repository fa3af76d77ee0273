/- FnExchangeNew answers true for every code. -/
import Derived.Test.YtofdnmlpfagibaaSBg
set_option linter.unusedSimpArgs false
set_option linter.unusedVariables false
set_option maxHeartbeats 6400000
namespace Go.Proofs.Ytofdnmlpfagibaa
open Go Go.Abs Go.RowKit Go.Dial Go.Clos
variable {w0 : World}

set_option maxRecDepth 16000 in
theorem law4 (σ : AHeap) (v : Value) (bs : List Int) (hv : Ints .u8 σ v bs) (hm : bs.length ≤ maxLen) (hw : ∀ z ∈ bs, (Lit.int .u8 z).wf = true) :
  ACall Try.prog w0 4 [v] σ fun r _ => r = .bool true := by
 unfold maxLen at hm
 refine ACall.ints_arg (pre := []) (by kernel_rfl) hv fun σ1 h o hs hg => ?_
 clear hv hs σ v
 have hb := bytes_of hw
 refine acall_go mixed Try.func4 rfl good4 fun pr => ?_
 by_cases hbig : 1048576 < bs.length
 ·simp -implicitDefEqProofs (disch := omega) only [Nat.reduceEqDiff, ↓reduceIte, vcu, ↓vcd]
  refine fin_one Try.results4 ?_
  simp -implicitDefEqProofs (disch := omega) only [Nat.reduceEqDiff, ↓reduceIte, vcu, ↓vcd]
 have hl : bs.length ≤ 1048576 := by omega
 simp -implicitDefEqProofs (disch := omega) only [Nat.reduceEqDiff, ↓reduceIte, vcu, ↓vcd]
 refine (drawEN_at σ1 h o bs hg hl hb).mono ?_
 rintro _ τ ⟨⟨s, v, ps, rfl, tv, hl11, ht⟩, hsub⟩
 clear hg hl hb
 have hps : ∀ t ∈ ps, t.length ≤ 1048576 := fun t h => by have := ht t h; omega
 simp -implicitDefEqProofs (disch := omega) only [Nat.reduceEqDiff, ↓reduceIte, vcu, ↓vcd, opK_some, List.getElem?_toArray, List.getElem?_cons_zero, List.getElem?_cons_succ]
 refine r_local (cs := #[.int .i64 s.O, .int .i64 s.E, .int .i64 s.M]) ze24 (by decide) z9q (by rw [co24]; rfl) rfl rfl (Nat.zero_lt_succ _) fun qs T1 ns s1 ks => ?_
 replace ks : T1 qs = some ⟨[.int .i64 s.O, .int .i64 s.E, .int .i64 s.M], false⟩ := ks
 replace tv := tv.sub s1
 have l1 : lds T1 qs 0 3 = some [.int .i64 s.O, .int .i64 s.E, .int .i64 s.M] := lds_three (ld_of ks rfl) (ld_of ks rfl) (ld_of ks rfl)
 obtain ⟨f, hf⟩ : ∃ f, newX s ps = f := ⟨_, rfl⟩
 have bf : ExB f := by rw [← hf]; exact newXB s ps
 simp -implicitDefEqProofs (disch := omega) only [Nat.reduceEqDiff, ↓reduceIte, vcu, ↓vcd, l1, co28, co50, co24]
 refine (implEN_calls T1 s v ps tv (by omega) hps).mono ?_
 rintro _ A1 ⟨b1, u1, u2, rfl, o1, o2⟩
 rw [hf] at o1 o2 ⊢
 have tp := o1.texts
 have cp := o2.tris
 clear o1 o2
 replace tv := tv.sub b1
 replace ks := b1 _ _ ks
 unfold exV
 simp -implicitDefEqProofs (disch := omega) only [Nat.reduceEqDiff, ↓reduceIte, vcu, ↓vcd, opK_some]
 have onep := cells_one tp cp
 refine r_local (cs := #[.int .i64 f.s.O, .int .i64 f.s.E, .int .i64 f.s.M, u1, u2]) ze28 (by decide) z9q (by rw [co28]; rfl) rfl onep (Nat.zero_lt_succ _) fun qp T6 n6 s6 kp => ?_
 replace kp : T6 qp = some ⟨exC u1 u2 f, false⟩ := kp
 replace tv := tv.sub s6
 replace tp := tp.sub s6
 replace cp := cp.sub s6
 replace ks := s6 _ _ ks
 have l2 : lds T6 qs 0 3 = some [.int .i64 s.O, .int .i64 s.E, .int .i64 s.M] := lds_three (ld_of ks rfl) (ld_of ks rfl) (ld_of ks rfl)
 have l7 : lds T6 qp 0 5 = some [.int .i64 f.s.O, .int .i64 f.s.E, .int .i64 f.s.M, u1, u2] := by rw [lds_of kp (by simp [exC])]; rfl
 refine region_tree mixed (quiets [0, 1, 2] (.one 3 (.one 4 (quiets [5] .stop)))) [([0, 1, 2, 5], Sub T6)] (by kernel_rfl) (by kernel_rfl) (fun p hp => by simp only [List.mem_singleton] at hp; subst hp; exact Sub.refl _) ?_
 refine tree_quiets T6 _ _ _ (sfIn (by kernel_rfl)) (by kernel_rfl) (by kernel_rfl) ?_
 simp -implicitDefEqProofs (disch := omega) only [Nat.reduceEqDiff, ↓reduceIte, vcu, ↓vcd, pickOps_nil, pickOps_cons, pickO_some, List.getElem?_cons_succ, List.getElem?_cons_zero, l2, l7, co28, co50, co24]
 refine tree_one rfl ?_
 try simp -implicitDefEqProofs (disch := omega) only [Nat.reduceEqDiff, ↓reduceIte, vcu, ↓vcd]
 refine (newX_calls T6 s v ps tv (by omega) hps).mono ?_
 rintro _ A2 ⟨b2, y1, y2, rfl, o1, o2⟩
 rw [hf] at o1 o2 ⊢
 have ty := o1.texts
 have cy := o2.tris
 clear o1 o2
 unfold exV
 simp -implicitDefEqProofs (disch := omega) only [Nat.reduceEqDiff, ↓reduceIte, vcu, ↓vcd, opK_some]
 refine ⟨keep_of rfl fun p hp => by simp only [List.mem_singleton] at hp; subst hp; exact .inr b2, tree_one rfl ?_⟩
 try simp -implicitDefEqProofs (disch := omega) only [Nat.reduceEqDiff, ↓reduceIte, vcu, ↓vcd]
 replace tv := tv.sub b2
 replace tp := tp.sub b2
 replace cp := cp.sub b2
 replace kp := b2 _ _ kp
 replace ks := b2 _ _ ks
 refine (sameEx_calls A2 (.agg #[.int .i64 f.s.O, .int .i64 f.s.E, .int .i64 f.s.M, u1, u2]) (.agg #[.int .i64 f.s.O, .int .i64 f.s.E, .int .i64 f.s.M, y1, y2]) f f ⟨_, _, rfl, tp, cp⟩ ⟨_, _, rfl, ty, cy⟩ bf bf).mono ?_
 rintro _ _ ⟨rfl, rfl⟩
 rename_i A2
 rw [decide_eq_true rfl]
 simp -implicitDefEqProofs (disch := omega) only [Nat.reduceEqDiff, ↓reduceIte, vcu, ↓vcd, opK_some]
 refine ⟨keep_of rfl fun p hp => by simp only [List.mem_singleton] at hp; subst hp; exact .inr b2, ?_⟩
 refine tree_quiets (fun _ => none) _ _ _ sf0 (by kernel_rfl) (by kernel_rfl) ?_
 simp -implicitDefEqProofs (disch := omega) only [Nat.reduceEqDiff, ↓reduceIte, vcu, ↓vcd, pickOps_nil, pickOps_cons, pickO_some, List.getElem?_cons_succ, List.getElem?_cons_zero]
 refine tree_stop ?_
 have l8 : ld A2 qp (0 + 3) = some u1 := ld_of kp rfl
 have l9 : lds A2 qp 0 5 = some [.int .i64 f.s.O, .int .i64 f.s.E, .int .i64 f.s.M, u1, u2] := by rw [lds_of kp (by simp [exC])]; rfl
 have lp := lenT tp
 simp -implicitDefEqProofs (disch := omega) only [Nat.reduceEqDiff, ↓reduceIte, vcu, ↓vcd, Bool.not_true]
 by_cases hz : f.ps.length = 0
 case pos =>
  have h0 := newX_zero hf hz
  rw [hz] at lp
  simp -implicitDefEqProofs (disch := omega) only [Nat.reduceEqDiff, ↓reduceIte, vcu, ↓vcd, l8, lp, Int.natCast_zero, l9, co28, co50, co24]
  refine (noEx_calls A2 (.agg #[.int .i64 f.s.O, .int .i64 f.s.E, .int .i64 f.s.M, u1, u2]) f ⟨_, _, rfl, tp, cp⟩ bf).mono ?_
  rintro _ _ ⟨rfl, rfl⟩
  rename_i A2
  rw [decide_eq_true h0]
  simp -implicitDefEqProofs (disch := omega) only [Nat.reduceEqDiff, ↓reduceIte, vcu, ↓vcd, opK_some]
  refine (alive_at A2).mono ?_
  rintro _ _ ⟨rfl, rfl⟩
  rename_i A2
  simp -implicitDefEqProofs (disch := omega) only [Nat.reduceEqDiff, ↓reduceIte, vcu, ↓vcd, opK_some]
  refine fin_one Try.results4 ?_
  simp -implicitDefEqProofs (disch := omega) only [Nat.reduceEqDiff, ↓reduceIte, vcu, ↓vcd]
 obtain ⟨ho, hfp, hfc⟩ := newX_facts hf hz
 rw [hfp] at hz lp
 have lv := lenT tv
 have LO := fun t => implLO_calls (w0 := w0) A2 (.agg #[.int .i64 f.s.O, .int .i64 f.s.E, .int .i64 f.s.M, u1, u2]) f t ⟨_, _, rfl, tp, cp⟩ bf
 have PO := fun z => implPO_calls (w0 := w0) A2 (.agg #[.int .i64 f.s.O, .int .i64 f.s.E, .int .i64 f.s.M, u1, u2]) f z ⟨_, _, rfl, tp, cp⟩ bf
 simp -implicitDefEqProofs (disch := omega) only [Nat.reduceEqDiff, ↓reduceIte, vcu, ↓vcd, l8, lp]
 refine vc_loop_c mixed (by kernel_rfl) [4, 5] (fun m a σ' => ∃ k : Nat, m + k = ps.length ∧ a 6 = .int .i64 (k : Int) ∧ σ' = A2) ps.length ⟨0, by simp, rfl, rfl⟩ ?_
 rintro mm aa _ hcc ⟨k, hk, h6, rfl⟩
 rename_i A2
 simp -implicitDefEqProofs (disch := omega) only [Nat.reduceEqDiff, ↓reduceIte, vcu, ↓vcd] at hcc
 obtain ⟨h4, h5, -⟩ := hcc
 by_cases hlt : k < ps.length
 ·obtain ⟨gv, ov, rfl, hvv⟩ := rowT tv (by omega)
  have xv := hvv k hlt
  have hln : lineV f (ps.getD k []) = k := by rw [← hfp]; exact newX_line ho (by rw [hfp]; exact hlt)
  simp -implicitDefEqProofs (disch := omega) only [Nat.reduceEqDiff, ↓reduceIte, vcu, ↓vcd, h4, h5, h6, xv, l9, co28, co50, co24]
  rw [r_callq]
  refine ⟨_, LO (ps.getD k []), ?_⟩
  rw [hln]
  simp -implicitDefEqProofs (disch := omega) only [Nat.reduceEqDiff, ↓reduceIte, vcu, ↓vcd, h4, h5, h6, l9, co28, co50, co24, ne_eq, not_true_eq_false, decide_false]
  rw [r_callq]
  refine ⟨_, PO k, ?_⟩
  rw [newX_peer ho hfc]
  simp -implicitDefEqProofs (disch := omega) only [Nat.reduceEqDiff, ↓reduceIte, vcu, ↓vcd, h4, h5, h6, ne_eq, not_true_eq_false, decide_false]
  exact ⟨by simp [h4, h5], mm - 1, by omega, k + 1, by omega, by simp, trivial⟩
 have l10 : ld A2 qp (0 + 4) = some u2 := ld_of kp rfl
 have l11 : lds A2 qp 0 5 = some [.int .i64 f.s.O, .int .i64 f.s.E, .int .i64 f.s.M, u1, u2] := by rw [lds_of kp (by simp [exC])]; rfl
 have lc := lenC cp
 rw [hfc] at lc
 simp -implicitDefEqProofs (disch := omega) only [Nat.reduceEqDiff, ↓reduceIte, vcu, ↓vcd, h4, h5, h6, lv, l11, co28, co50, co24]
 refine (implEV_calls A2 (.agg #[.int .i64 f.s.O, .int .i64 f.s.E, .int .i64 f.s.M, u1, u2]) f ⟨_, _, rfl, tp, cp⟩ bf).mono ?_
 rintro _ _ ⟨rfl, rfl⟩
 rename_i A2
 rw [decide_eq_true ho]
 simp -implicitDefEqProofs (disch := omega) only [Nat.reduceEqDiff, ↓reduceIte, vcu, ↓vcd, opK_some, h5, l10, lc, List.length_nil, Int.natCast_zero]
 refine fin_one Try.results4 ?_
 simp -implicitDefEqProofs (disch := omega) only [Nat.reduceEqDiff, ↓reduceIte, vcu, ↓vcd]

open Go.ChangeShapes Go.WideShapes Go.ChangeAt Go.RowKit

set_option maxRecDepth 100000 in
theorem lifted4 (os : Os) (started : os.Started) (H : Type) (enc : TypeId × Value → H) :
  ReturnsInHanded {} Try.checked os 4 .any (Rows.fnExchangeNewSpec.pre6 enc Try.prog Try.f4 Rows.fnExchangeNewRow.domain false) (Rows.fnExchangeNewSpec.post enc Try.prog Try.f4 false true false false) := by
 refine returnsInHanded_of_change (C := Try.checked) own started (by kernel_rfl) Try.func4
  (ChangeSpec.witness6 (enc := enc) (C := Try.checked) false ⟨#[], #[.slice none 0 0], []⟩ 8 (by kernel_rfl) (by kernel_rfl) (by kernel_rfl) (by kernel_rfl)) ?_
 intro W base args ds gs before hval hW _ _
 have hW' := hW
 obtain ⟨p, q, hA, hV, -, -, -⟩ := hW'
 rw [Try.params4] at hA hval
 obtain ⟨v0, vs0, d0, ds0, p0, q0, hargs, rfl, rfl, h0, r0⟩ := trodAll_cons hA
 obtain ⟨rfl, rfl, rfl⟩ := trodAll_nil r0
 obtain ⟨rfl, rfl⟩ := trodVars_none hV
 obtain rfl : args = #[v0] := by cases args; simp_all
 obtain ⟨β0, σ0, a0, zs0, L0, U0, S0, R0, I0, w0, m0⟩ := start_ints Try.underlying22 Try.underlying5 co5 (Start.start W) (hval 0 22 v0 rfl rfl) h0
 refine ((law4 σ0 a0 zs0 (I0) m0 w0).2 noProt β0 W [v0] S0.rel (.cons R0 (.nil _))).mono fun e W' h => ?_
 obtain ⟨β', r, r', σ', -, rfl, hr, hrel, rfl⟩ := h
 cases hr
 exact ⟨_, rfl, law_post laidOut hW rfl rfl (by rw [Try.params4]; intro t ht; simp only [List.mem_cons, List.not_mem_nil, or_false, or_self] at ht; rcases ht with rfl <;> exact ⟨by kernel_rfl, of_decide_eq_true (by kernel_rfl)⟩) rfl Try.underlying4 hrel.below⟩

theorem facts4 : joinedFacts Try.prog 4 Try.f4 Rows.fnExchangeNewSpec Rows.fnExchangeNewRow = true := by
 unfold joinedFacts
 rw [mayE, liftsE, makeE]
 kernel_rfl

theorem proved4 : Rows.FnExchangeNewSaid :=
 OpenClaim.holds_of_wide 4 Try.f4 rfl rfl rfl rfl rfl rfl rfl ⟨rfl, rfl, rfl, rfl, rfl⟩ rfl rfl rfl rfl rfl (by kernel_rfl) Try.func4 facts4 (of_decide_eq_true (by kernel_rfl))
  (by unfold Func.isWrapper; first | (rw [if_pos (by decide +kernel)]; kernel_rfl) | (rw [if_neg (by decide +kernel)]; exact ⟨rfl, rfl⟩))
  (fun os started H enc _ => lifted4 os started H enc)


end Go.Proofs.Ytofdnmlpfagibaa
