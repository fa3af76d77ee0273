/- FnExactNightDeeds answers true for all arguments. -/
import Derived.Test.YtafkndnmhhjdhaaSAf
set_option linter.unusedSimpArgs false
set_option linter.unusedVariables false
set_option maxHeartbeats 3200000
namespace Go.Proofs.Ytafkndnmhhjdhaa
open Go Go.Abs Go.RowKit Go.Dial Go.Clos
variable {w0 : World}

set_option maxRecDepth 8000 in
theorem law8ND (σ : AHeap) (x y z : Int) (v1 v2 : Value) (ps : List (List UInt8)) (cs : List Cl) (hE : ExL σ x y z v1 v2 ps cs) :
  ACall Try.prog w0 9 [.agg #[.int .i64 x, .int .i64 y, .int .i64 z, v1, v2]] σ fun r _ => r = .bool true := by
 obtain ⟨e, he⟩ : ∃ e : Ex, e = ⟨⟨x, y, z⟩, ps, cs⟩ := ⟨_, rfl⟩
 have hv : ExV σ (exV v1 v2 e) e := by rw [he]; exact ⟨v1, v2, rfl, hE.tt, hE.cc⟩
 have hqq : (.agg #[.int .i64 x, .int .i64 y, .int .i64 z, v1, v2] : Value) = .agg #[.int .i64 e.s.O, .int .i64 e.s.E, .int .i64 e.s.M, v1, v2] := by rw [he]
 have q1 : e.ps.length ≤ maxLen := by rw [he]; exact hE.tl
 have q2 : ∀ t ∈ e.ps, t.length ≤ maxLen := by rw [he]; exact hE.tw
 have q3 : e.cs.length ≤ maxLen := by rw [he]; exact hE.cl
 rw [hqq]
 clear hE hqq he
 refine acall_go mixed Try.func9 rfl good9 fun pr => ?_
 simp -implicitDefEqProofs (disch := omega) only [Nat.reduceEqDiff, ↓reduceIte, vcu, ↓vcd]
 refine r_boxed fun b σ1 nb s1 eb => ?_
 replace eb : σ1 b = some ⟨[.int .i64 e.s.O, .int .i64 e.s.E, .int .i64 e.s.M, v1, v2], false⟩ := eb
 replace hv := hv.sub s1
 clear s1 nb
 have sa : Sub σ1 σ1 := Sub.refl _
 have hsz := szEx_calls (w0 := w0) σ1 _ e hv q1 q2 q3
 unfold exV at hsz
 have l1 : lds σ1 b 0 5 = some [.int .i64 e.s.O, .int .i64 e.s.E, .int .i64 e.s.M, v1, v2] := by rw [lds_of (sa _ _ eb) (by simp)]; rfl
 simp -implicitDefEqProofs (disch := omega) only [Nat.reduceEqDiff, ↓reduceIte, vcu, ↓vcd, l1, co33, co27]
 refine hsz.mono ?_
 rintro _ _ ⟨⟨n, rfl, hn, hc⟩, rfl⟩
 rename_i σ1
 clear hsz
 simp -implicitDefEqProofs (disch := omega) only [Nat.reduceEqDiff, ↓reduceIte, vcu, ↓vcd, opK_some]
 by_cases hneg : n < 0
 ·simp -implicitDefEqProofs (disch := omega) only [Nat.reduceEqDiff, ↓reduceIte, vcu, ↓vcd]
  refine fin_one Try.results9 ?_
  simp -implicitDefEqProofs (disch := omega) only [Nat.reduceEqDiff, ↓reduceIte, vcu, ↓vcd]
 have hb := hc.resolve_left hneg
 clear hc q1 q2 q3
 have hto := fun (T : AHeap) (h : Sub σ1 T) => toEx_calls (w0 := w0) T _ e (hv.sub h) hb
 unfold exV at hto
 have hsp := fun (T : AHeap) (a1 a2 : Value) (h : ExV T (exV a1 a2 e) e) => night_calls (w0 := w0) T (exV a1 a2 e) e h hb
 have him := fun (T : AHeap) (a1 a2 : Value) (h : ExV T (exV a1 a2 e) e) => implND_calls (w0 := w0) T (exV a1 a2 e) e h hb
 have hB := nightVB e hb
 generalize nightV e = f at hsp him hB
 unfold exV at hsp him
 have l2 : lds σ1 b 0 5 = some [.int .i64 e.s.O, .int .i64 e.s.E, .int .i64 e.s.M, v1, v2] := by rw [lds_of (sa _ _ eb) (by simp)]; rfl
 simp -implicitDefEqProofs (disch := omega) only [Nat.reduceEqDiff, ↓reduceIte, vcu, ↓vcd, opK_some, l2, co33, co27]
 refine (hto _ sa).mono ?_
 rintro _ T3 ⟨r3, u3a, u3b, rfl, p3a, p3b⟩
 replace sa := sa.trans r3
 simp -implicitDefEqProofs (disch := omega) only [Nat.reduceEqDiff, ↓reduceIte, vcu, ↓vcd, opK_some, exV]
 refine (hsp _ _ _ ⟨u3a, u3b, rfl, p3a.texts, p3b.tris⟩).mono ?_
 rintro dw T4 ⟨r4, pw⟩
 replace sa := sa.trans r4
 have sw : Sub T4 T4 := Sub.refl _
 have l5 : lds T4 b 0 5 = some [.int .i64 e.s.O, .int .i64 e.s.E, .int .i64 e.s.M, v1, v2] := by rw [lds_of (sa _ _ eb) (by simp)]; rfl
 simp -implicitDefEqProofs (disch := omega) only [Nat.reduceEqDiff, ↓reduceIte, vcu, ↓vcd, opK_some, l5, co33, co27]
 have bx_a := sa
 have bx_w := sw
 refine (hto _ sa).mono ?_
 rintro _ T6 ⟨r6, u6a, u6b, rfl, p6a, p6b⟩
 replace sa := sa.trans r6
 replace sw := sw.trans r6
 have o7 := exC_one (show OwnX T4 T6 (exV u6a u6b e) e from ⟨u6a, u6b, rfl, p6a, p6b⟩)
 simp -implicitDefEqProofs (disch := omega) only [Nat.reduceEqDiff, ↓reduceIte, vcu, ↓vcd, opK_some, exV]
 refine r_local (cs := #[.int .i64 e.s.O, .int .i64 e.s.E, .int .i64 e.s.M, u6a, u6b]) ze33 (by decide) z9q (by rw [co33]; rfl) rfl o7 (Nat.zero_lt_succ _) fun cx T7 nx r7 ex => ?_
 replace ex : T7 cx = some ⟨[.int .i64 e.s.O, .int .i64 e.s.E, .int .i64 e.s.M, u6a, u6b], false⟩ := ex
 have ddxa : ∀ n z, u6a ≠ .slice (some ⟨cx, 0, none⟩) n z := by
  rintro n z rfl
  rcases p6a with ⟨h, _⟩ | ⟨g, h, hg, _⟩ <;> cases h
  rw [nx] at hg; cases hg
 have ddxb : ∀ n z, u6b ≠ .slice (some ⟨cx, 0, none⟩) n z := by
  rintro n z rfl
  rcases p6b with ⟨h, _⟩ | ⟨g, h, hg, _⟩ <;> cases h
  rw [nx] at hg; cases hg
 replace sa := sa.trans r7
 replace sw := sw.trans r7
 replace p6a := p6a.sub r7
 replace p6b := p6b.sub r7
 have sx : Sub T7 T7 := Sub.refl _
 have l8 : lds T7 cx 0 5 = some [.int .i64 e.s.O, .int .i64 e.s.E, .int .i64 e.s.M, u6a, u6b] := by rw [lds_of (sx _ _ ex) (by simp)]; rfl
 simp -implicitDefEqProofs (disch := omega) only [Nat.reduceEqDiff, ↓reduceIte, vcu, ↓vcd, l8, co33, co27]
 have bg_a := sa
 have bg_w := sw
 have bg_x := sx
 refine (him _ _ _ ⟨u6a, u6b, rfl, (p6a.sub sx).texts, (p6b.sub sx).tris⟩).mono ?_
 rintro dg T9 ⟨r9, pg⟩
 replace sa := sa.trans r9
 replace sw := sw.trans r9
 replace sx := sx.trans r9
 have sg : Sub T9 T9 := Sub.refl _
 simp -implicitDefEqProofs (disch := omega) only [Nat.reduceEqDiff, ↓reduceIte, vcu, ↓vcd, opK_some]
 refine (eqDds_calls T9 _ _ f f (pg.sub sg).dds (pw.sub sw).dds hB hB).mono ?_
 rintro _ _ ⟨rfl, rfl⟩
 rename_i T9
 simp -implicitDefEqProofs (disch := omega) only [Nat.reduceEqDiff, ↓reduceIte, vcu, ↓vcd, opK_some, eq_self, decide_true, Bool.not_true, beq_self_eq_true, ne_eq, not_true_eq_false]
 have l10 : lds T9 cx 0 5 = some [.int .i64 e.s.O, .int .i64 e.s.E, .int .i64 e.s.M, u6a, u6b] := by rw [lds_of (sx _ _ ex) (by simp)]; rfl
 have l11 : lds T9 b 0 5 = some [.int .i64 e.s.O, .int .i64 e.s.E, .int .i64 e.s.M, v1, v2] := by rw [lds_of (sa _ _ eb) (by simp)]; rfl
 refine region_tree mixed (quiets [0, 1] (.one 2 (.one 3 (quiets [4] .stop)))) [([0, 1], Sub T9)] (by kernel_rfl) (by kernel_rfl) (fun p hp => by simp only [List.mem_singleton] at hp; subst hp; exact Sub.refl _) ?_
 refine tree_quiets T9 _ _ _ sf1 (by kernel_rfl) (by kernel_rfl) ?_
 simp -implicitDefEqProofs (disch := omega) only [Nat.reduceEqDiff, ↓reduceIte, vcu, ↓vcd, pickOps_nil, pickOps_cons, pickO_some, List.getElem?_cons_succ, List.getElem?_cons_zero, l10, l11, co33, co27]
 refine tree_one rfl ?_
 try simp -implicitDefEqProofs (disch := omega) only [Nat.reduceEqDiff, ↓reduceIte, vcu, ↓vcd]
 refine (hto _ sa).mono ?_
 rintro _ T12 ⟨r12, u12a, u12b, rfl, p12a, p12b⟩
 replace sa := sa.trans r12
 replace sw := sw.trans r12
 replace sx := sx.trans r12
 replace sg := sg.trans r12
 have h13 := eqEx_calls (w0 := w0) T12 (exV u6a u6b e) (exV u12a u12b e) e e ⟨u6a, u6b, rfl, (p6a.sub sx).texts, (p6b.sub sx).tris⟩ ⟨u12a, u12b, rfl, p12a.texts, p12b.tris⟩ hb hb
 unfold exV at h13
 simp -implicitDefEqProofs (disch := omega) only [Nat.reduceEqDiff, ↓reduceIte, vcu, ↓vcd, opK_some, exV]
 refine ⟨keep_of rfl (fun p hp => by simp only [List.mem_singleton] at hp; subst hp; exact .inr r12), ?_⟩
 refine tree_one rfl ?_
 try simp -implicitDefEqProofs (disch := omega) only [Nat.reduceEqDiff, ↓reduceIte, vcu, ↓vcd]
 refine (h13).mono ?_
 rintro _ _ ⟨rfl, rfl⟩
 rename_i T12
 simp -implicitDefEqProofs (disch := omega) only [Nat.reduceEqDiff, ↓reduceIte, vcu, ↓vcd, opK_some]
 refine ⟨.inl rfl, ?_⟩
 refine tree_quiets _ _ _ _ sf0 (by kernel_rfl) (by kernel_rfl) ?_
 simp -implicitDefEqProofs (disch := omega) only [Nat.reduceEqDiff, ↓reduceIte, vcu, ↓vcd, pickOps_nil, pickOps_cons, pickO_some, List.getElem?_cons_succ, List.getElem?_cons_zero, eq_self, decide_true, Bool.not_true]
 refine tree_stop ?_
 try simp -implicitDefEqProofs (disch := omega) only [Nat.reduceEqDiff, ↓reduceIte, vcu, ↓vcd]
 have l14 : lds T12 cx 0 5 = some [.int .i64 e.s.O, .int .i64 e.s.E, .int .i64 e.s.M, u6a, u6b] := by rw [lds_of (sx _ _ ex) (by simp)]; rfl
 simp -implicitDefEqProofs (disch := omega) only [Nat.reduceEqDiff, ↓reduceIte, vcu, ↓vcd, l14, co33, co27]
 refine (markX_kp T4 T7 T12 u6a u6b e 1 ⟨u6a, u6b, rfl, p6a, p6b⟩ sx hb (by omega)).mono ?_
 rintro _ M15 ⟨rfl, ox, kx, -⟩
 replace sa := kx.sub bx_a sa
 replace sw := kx.sub bx_w sw
 have pg2 := kx.ownD (pg.sub sg) bg_x
 clear sg
 have sg : Sub M15 M15 := Sub.refl _
 have hm0 : decide (1 + (e.ps.length : Int) + 3 * e.cs.length < 0) = false := by rw [decide_eq_false_iff_not]; omega
 simp -implicitDefEqProofs (disch := omega) only [Nat.reduceEqDiff, ↓reduceIte, vcu, ↓vcd, opK_some, hm0]
 refine (eqDds_calls M15 _ _ f f (pg2.sub sg).dds (pw.sub sw).dds hB hB).mono ?_
 rintro _ _ ⟨rfl, rfl⟩
 rename_i M15
 simp -implicitDefEqProofs (disch := omega) only [Nat.reduceEqDiff, ↓reduceIte, vcu, ↓vcd, opK_some, eq_self, decide_true, Bool.not_true, beq_self_eq_true, ne_eq, not_true_eq_false]
 refine (markD_kp T7 T9 M15 dg f 1 pg (pg2.sub sg) hB (by omega)).mono ?_
 rintro r M16 ⟨hr, om, kg⟩
 generalize hqm : (1 : Int) + 3 * f.length = qm at hr
 subst hr
 have hq0 : decide (qm < 0) = false := by rw [decide_eq_false_iff_not, ← hqm]; omega
 replace sa := kg.sub bg_a sa
 replace sw := kg.sub bg_w sw
 clear sg
 have sg : Sub M16 M16 := Sub.refl _
 try simp -implicitDefEqProofs (disch := omega) only [Nat.reduceEqDiff, ↓reduceIte, vcu, ↓vcd, opK_some]
 refine (heldE_calls (w0 := w0) M16 dg f.length 1 (om.sub sg).dds hB (by omega)).mono ?_
 rintro r _ ⟨hr, rfl⟩
 rename_i M16
 rw [hqm] at hr
 subst hr
 simp -implicitDefEqProofs (disch := omega) only [Nat.reduceEqDiff, ↓reduceIte, vcu, ↓vcd, opK_some, hq0, eq_self, decide_true, Bool.not_true, beq_self_eq_true, ne_eq, not_true_eq_false]
 have l18 : lds M16 b 0 5 = some [.int .i64 e.s.O, .int .i64 e.s.E, .int .i64 e.s.M, v1, v2] := by rw [lds_of (sa _ _ eb) (by simp)]; rfl
 simp -implicitDefEqProofs (disch := omega) only [Nat.reduceEqDiff, ↓reduceIte, vcu, ↓vcd, opK_some, l18, co33, co27]
 refine (hto _ sa).mono ?_
 rintro _ T19 ⟨r19, u19a, u19b, rfl, p19a, p19b⟩
 replace sa := sa.trans r19
 replace sw := sw.trans r19
 replace sg := sg.trans r19
 simp -implicitDefEqProofs (disch := omega) only [Nat.reduceEqDiff, ↓reduceIte, vcu, ↓vcd, opK_some, exV]
 refine (him _ _ _ ⟨u19a, u19b, rfl, p19a.texts, p19b.tris⟩).mono ?_
 rintro dh T20 ⟨r20, ph⟩
 replace sa := sa.trans r20
 replace sw := sw.trans r20
 replace sg := sg.trans r20
 have sh : Sub T20 T20 := Sub.refl _
 simp -implicitDefEqProofs (disch := omega) only [Nat.reduceEqDiff, ↓reduceIte, vcu, ↓vcd, opK_some]
 refine (eqDds_calls T20 _ _ f f (ph.sub sh).dds (pw.sub sw).dds hB hB).mono ?_
 rintro _ _ ⟨rfl, rfl⟩
 rename_i T20
 simp -implicitDefEqProofs (disch := omega) only [Nat.reduceEqDiff, ↓reduceIte, vcu, ↓vcd, opK_some, eq_self, decide_true, Bool.not_true, beq_self_eq_true, ne_eq, not_true_eq_false]
 try simp -implicitDefEqProofs (disch := omega) only [Nat.reduceEqDiff, ↓reduceIte, vcu, ↓vcd, opK_some]
 refine (heldE_calls (w0 := w0) T20 dg f.length 1 (om.sub sg).dds hB (by omega)).mono ?_
 rintro r _ ⟨hr, rfl⟩
 rename_i T20
 rw [hqm] at hr
 subst hr
 simp -implicitDefEqProofs (disch := omega) only [Nat.reduceEqDiff, ↓reduceIte, vcu, ↓vcd, opK_some, hq0, eq_self, decide_true, Bool.not_true, beq_self_eq_true, ne_eq, not_true_eq_false]
 refine fin_one Try.results9 ?_
 simp -implicitDefEqProofs (disch := omega) only [Nat.reduceEqDiff, ↓reduceIte, vcu, ↓vcd]

open Go.ChangeShapes Go.WideShapes Go.ChangeAt Go.RowKit

set_option maxRecDepth 100000 in
theorem lifted9 (os : Os) (started : os.Started) (H : Type) (enc : TypeId × Value → H) :
  ReturnsInHanded {} Try.checked os 9 .any (Rows.fnExactNightDeedsSpec.pre6 enc Try.prog Try.f9 Rows.fnExactNightDeedsRow.domain false) (Rows.fnExactNightDeedsSpec.post enc Try.prog Try.f9 false true false false) := by
 refine returnsInHanded_of_change (C := Try.checked) own started (by kernel_rfl) Try.func9
  (ChangeSpec.witness6 (enc := enc) (C := Try.checked) false ⟨#[], #[.agg #[.int .i64 0, .int .i64 0, .int .i64 0, .slice none 0 0, .slice none 0 0]], []⟩ 8 (by kernel_rfl) (by kernel_rfl) (by kernel_rfl) (by kernel_rfl)) ?_
 intro W base args ds gs before hval hW _ _
 have hW' := hW
 obtain ⟨p, q, hA, hV, -, -, -⟩ := hW'
 rw [Try.params9] at hA hval
 obtain ⟨v0, vs0, d0, ds0, p0, q0, hargs, rfl, rfl, h0, r0⟩ := trodAll_cons hA
 obtain ⟨rfl, rfl, rfl⟩ := trodAll_nil r0
 obtain ⟨rfl, rfl⟩ := trodVars_none hV
 obtain rfl : args = #[v0] := by cases args; simp_all
 obtain ⟨β0, σ0, acs0, dd0, L0, U0, S0, R0, Y0⟩ := start_rec (m := 5) (s := .rcd [.rcd [.int .i64, .int .i64, .int .i64], .slc .str, .slc (.rcd [.int .i64, .int .i64, .int .i64])]) (by kernel_rfl) Try.underlying27 (Start.start W) (hval 0 27 v0 rfl rfl) h0
 obtain ⟨x0, y0, z0, a0, b0, zs0, us0, rfl, E0⟩ := lay_exch Y0
 refine ((law8ND σ0 x0 y0 z0 a0 b0 zs0 us0 (E0)).2 noProt β0 W [v0] S0.rel (.cons R0 (.nil _))).mono fun e W' h => ?_
 obtain ⟨β', r, r', σ', -, rfl, hr, hrel, rfl⟩ := h
 cases hr
 exact ⟨_, rfl, law_post laidOut hW rfl rfl (by rw [Try.params9]; intro t ht; simp only [List.mem_cons, List.not_mem_nil, or_false, or_self] at ht; rcases ht with rfl <;> exact ⟨by kernel_rfl, of_decide_eq_true (by kernel_rfl)⟩) rfl Try.underlying4 hrel.below⟩

theorem facts9 : joinedFacts Try.prog 9 Try.f9 Rows.fnExactNightDeedsSpec Rows.fnExactNightDeedsRow = true := by
 unfold joinedFacts
 rw [mayE, liftsE, makeE]
 kernel_rfl

theorem proved9 : Rows.FnExactNightDeedsSaid :=
 OpenClaim.holds_of_wide 9 Try.f9 rfl rfl rfl rfl rfl rfl rfl ⟨rfl, rfl, rfl, rfl, rfl⟩ rfl rfl rfl rfl rfl (by kernel_rfl) Try.func9 facts9 (of_decide_eq_true (by kernel_rfl))
  (by unfold Func.isWrapper; first | (rw [if_pos (by decide +kernel)]; kernel_rfl) | (rw [if_neg (by decide +kernel)]; exact ⟨rfl, rfl⟩))
  (fun os started H enc _ => lifted9 os started H enc)


end Go.Proofs.Ytafkndnmhhjdhaa
