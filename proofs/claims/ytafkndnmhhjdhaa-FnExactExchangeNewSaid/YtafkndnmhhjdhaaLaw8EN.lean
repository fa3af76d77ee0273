/- FnExactExchangeNew answers true for all arguments. -/
import Derived.Test.YtafkndnmhhjdhaaSAf
set_option linter.unusedSimpArgs false
set_option linter.unusedVariables false
set_option maxHeartbeats 3200000
namespace Go.Proofs.Ytafkndnmhhjdhaa
open Go Go.Abs Go.RowKit Go.Dial Go.Clos
variable {w0 : World}

set_option maxRecDepth 8000 in
theorem law8EN (σ : AHeap) (x y z : Int) (vd : Value) (ds : List (List UInt8)) (wx : (Lit.int .i64 x).wf = true) (wy : (Lit.int .i64 y).wf = true) (wz : (Lit.int .i64 z).wf = true) (hd : Texts σ vd ds) (hm : ds.length ≤ maxLen) (hw : ∀ z ∈ ds, z.length ≤ maxLen) :
  ACall Try.prog w0 4 [.agg #[.int .i64 x, .int .i64 y, .int .i64 z], vd] σ fun r _ => r = .bool true := by
 clear wx wy wz
 refine acall_go mixed Try.func4 rfl good4 fun pr => ?_
 simp -implicitDefEqProofs (disch := omega) only [Nat.reduceEqDiff, ↓reduceIte, vcu, ↓vcd]
 refine r_boxed fun b σ1 nb s1 eb => ?_
 replace eb : σ1 b = some ⟨[.int .i64 x, .int .i64 y, .int .i64 z], false⟩ := eb
 replace hd := hd.sub s1
 clear s1 nb
 have sa : Sub σ1 σ1 := Sub.refl _
 simp -implicitDefEqProofs (disch := omega) only [Nat.reduceEqDiff, ↓reduceIte, vcu, ↓vcd]
 refine (szTextsN_calls (w0 := w0) σ1 vd ds 1048576 (by omega) hd hm hw).mono ?_
 rintro _ _ ⟨⟨n, rfl, hn, hc⟩, rfl⟩
 rename_i σ1
 simp -implicitDefEqProofs (disch := omega) only [Nat.reduceEqDiff, ↓reduceIte, vcu, ↓vcd, opK_some]
 by_cases hneg : n < 0
 ·simp -implicitDefEqProofs (disch := omega) only [Nat.reduceEqDiff, ↓reduceIte, vcu, ↓vcd]
  refine fin_one Try.results4 ?_
  simp -implicitDefEqProofs (disch := omega) only [Nat.reduceEqDiff, ↓reduceIte, vcu, ↓vcd]
 obtain ⟨hl, hp⟩ := hc.resolve_left hneg
 clear hc hm hw
 have hsp := fun (T : AHeap) (a1 : Value) (h : Texts T a1 ds) => newX_calls (w0 := w0) T ⟨x, y, z⟩ a1 ds h hl hp
 have him := fun (T : AHeap) (a1 : Value) (h : Texts T a1 ds) => implEN_calls (w0 := w0) T ⟨x, y, z⟩ a1 ds h hl hp
 have hB := newXB ⟨x, y, z⟩ ds
 generalize newX ⟨x, y, z⟩ ds = f at hsp him hB
 dsimp only at hsp him
 have l1 : lds σ1 b 0 3 = some [.int .i64 x, .int .i64 y, .int .i64 z] := by rw [lds_of (sa _ _ eb) (by simp)]; rfl
 simp -implicitDefEqProofs (disch := omega) only [Nat.reduceEqDiff, ↓reduceIte, vcu, ↓vcd, opK_some, l1, co30, co23]
 refine (toShape_at σ1 x y z).mono ?_
 rintro _ _ ⟨rfl, rfl⟩
 rename_i σ1
 simp -implicitDefEqProofs (disch := omega) only [Nat.reduceEqDiff, ↓reduceIte, vcu, ↓vcd, opK_some]
 refine (toTexts_calls _ vd ds (hd.sub sa) hl).mono ?_
 rintro _ T2 ⟨y2g, y2n, rfl, r2, y2e⟩
 obtain ⟨y2, hy2⟩ : ∃ v : Value, v = .slice (some ⟨y2g, 0, none⟩) ds.length 1 := ⟨_, rfl⟩
 have yo2 : OwnS σ1 T2 y2 ds := .inr ⟨y2g, hy2, y2e, y2n⟩
 rw [← hy2]
 replace sa := sa.trans r2
 simp -implicitDefEqProofs (disch := omega) only [Nat.reduceEqDiff, ↓reduceIte, vcu, ↓vcd, opK_some]
 refine (hsp _ _ yo2.texts).mono ?_
 rintro _ T3 ⟨r3, u3a, u3b, rfl, p3a, p3b⟩
 replace sa := sa.trans r3
 have o4 := exC_one (show OwnX T2 T3 (exV u3a u3b f) f from ⟨u3a, u3b, rfl, p3a, p3b⟩)
 simp -implicitDefEqProofs (disch := omega) only [Nat.reduceEqDiff, ↓reduceIte, vcu, ↓vcd, opK_some, exV]
 refine r_local (cs := #[.int .i64 f.s.O, .int .i64 f.s.E, .int .i64 f.s.M, u3a, u3b]) ze33 (by decide) z9q (by rw [co33]; rfl) rfl o4 (Nat.zero_lt_succ _) fun cw T4 nw r4 ew => ?_
 replace ew : T4 cw = some ⟨[.int .i64 f.s.O, .int .i64 f.s.E, .int .i64 f.s.M, u3a, u3b], false⟩ := ew
 have ddwa : ∀ n z, u3a ≠ .slice (some ⟨cw, 0, none⟩) n z := by
  rintro n z rfl
  rcases p3a with ⟨h, _⟩ | ⟨g, h, hg, _⟩ <;> cases h
  rw [nw] at hg; cases hg
 have ddwb : ∀ n z, u3b ≠ .slice (some ⟨cw, 0, none⟩) n z := by
  rintro n z rfl
  rcases p3b with ⟨h, _⟩ | ⟨g, h, hg, _⟩ <;> cases h
  rw [nw] at hg; cases hg
 replace sa := sa.trans r4
 replace p3a := p3a.sub r4
 replace p3b := p3b.sub r4
 have sw : Sub T4 T4 := Sub.refl _
 simp -implicitDefEqProofs (disch := omega) only [Nat.reduceEqDiff, ↓reduceIte, vcu, ↓vcd]
 have by_a := sa
 have by_w := sw
 refine (toTexts_calls _ vd ds (hd.sub sa) hl).mono ?_
 rintro _ T5 ⟨y5g, y5n, rfl, r5, y5e⟩
 obtain ⟨y5, hy5⟩ : ∃ v : Value, v = .slice (some ⟨y5g, 0, none⟩) ds.length 1 := ⟨_, rfl⟩
 have yo5 : OwnS T4 T5 y5 ds := .inr ⟨y5g, hy5, y5e, y5n⟩
 rw [← hy5]
 replace sa := sa.trans r5
 replace sw := sw.trans r5
 have sy : Sub T5 T5 := Sub.refl _
 have l6 : lds T5 b 0 3 = some [.int .i64 x, .int .i64 y, .int .i64 z] := by rw [lds_of (sa _ _ eb) (by simp)]; rfl
 simp -implicitDefEqProofs (disch := omega) only [Nat.reduceEqDiff, ↓reduceIte, vcu, ↓vcd, opK_some, l6, co30, co23]
 refine (toShape_at T5 x y z).mono ?_
 rintro _ _ ⟨rfl, rfl⟩
 rename_i T5
 simp -implicitDefEqProofs (disch := omega) only [Nat.reduceEqDiff, ↓reduceIte, vcu, ↓vcd, opK_some]
 have bg_a := sa
 have bg_w := sw
 have bg_y := sy
 refine (him _ _ (yo5.sub sy).texts).mono ?_
 rintro _ T7 ⟨r7, u7a, u7b, rfl, p7a, p7b⟩
 replace sa := sa.trans r7
 replace sw := sw.trans r7
 replace sy := sy.trans r7
 have o8 := exC_one (show OwnX T5 T7 (exV u7a u7b f) f from ⟨u7a, u7b, rfl, p7a, p7b⟩)
 simp -implicitDefEqProofs (disch := omega) only [Nat.reduceEqDiff, ↓reduceIte, vcu, ↓vcd, opK_some, exV]
 refine r_local (cs := #[.int .i64 f.s.O, .int .i64 f.s.E, .int .i64 f.s.M, u7a, u7b]) ze33 (by decide) z9q (by rw [co33]; rfl) rfl o8 (Nat.zero_lt_succ _) fun cg T8 ng r8 eg => ?_
 replace eg : T8 cg = some ⟨[.int .i64 f.s.O, .int .i64 f.s.E, .int .i64 f.s.M, u7a, u7b], false⟩ := eg
 have ddga : ∀ n z, u7a ≠ .slice (some ⟨cg, 0, none⟩) n z := by
  rintro n z rfl
  rcases p7a with ⟨h, _⟩ | ⟨g, h, hg, _⟩ <;> cases h
  rw [ng] at hg; cases hg
 have ddgb : ∀ n z, u7b ≠ .slice (some ⟨cg, 0, none⟩) n z := by
  rintro n z rfl
  rcases p7b with ⟨h, _⟩ | ⟨g, h, hg, _⟩ <;> cases h
  rw [ng] at hg; cases hg
 replace sa := sa.trans r8
 replace sw := sw.trans r8
 replace sy := sy.trans r8
 replace p7a := p7a.sub r8
 replace p7b := p7b.sub r8
 have sg : Sub T8 T8 := Sub.refl _
 have l9 : lds T8 cg 0 5 = some [.int .i64 f.s.O, .int .i64 f.s.E, .int .i64 f.s.M, u7a, u7b] := by rw [lds_of (sg _ _ eg) (by simp)]; rfl
 have l10 : lds T8 cw 0 5 = some [.int .i64 f.s.O, .int .i64 f.s.E, .int .i64 f.s.M, u3a, u3b] := by rw [lds_of (sw _ _ ew) (by simp)]; rfl
 have h11 := eqEx_calls (w0 := w0) T8 (exV u7a u7b f) (exV u3a u3b f) f f ⟨u7a, u7b, rfl, (p7a.sub sg).texts, (p7b.sub sg).tris⟩ ⟨u3a, u3b, rfl, (p3a.sub sw).texts, (p3b.sub sw).tris⟩ hB hB
 unfold exV at h11
 simp -implicitDefEqProofs (disch := omega) only [Nat.reduceEqDiff, ↓reduceIte, vcu, ↓vcd, l9, l10, co33, co27]
 refine (h11).mono ?_
 rintro _ _ ⟨rfl, rfl⟩
 rename_i T8
 simp -implicitDefEqProofs (disch := omega) only [Nat.reduceEqDiff, ↓reduceIte, vcu, ↓vcd, opK_some, List.getElem?_toArray, List.getElem?_cons_zero, List.getElem?_cons_succ, eq_self, decide_true, Bool.not_true, beq_self_eq_true, ne_eq, not_true_eq_false]
 refine (toTexts_calls _ vd ds (hd.sub sa) hl).mono ?_
 rintro _ T12 ⟨y12g, y12n, rfl, r12, y12e⟩
 obtain ⟨y12, hy12⟩ : ∃ v : Value, v = .slice (some ⟨y12g, 0, none⟩) ds.length 1 := ⟨_, rfl⟩
 have yo12 : OwnS T8 T12 y12 ds := .inr ⟨y12g, hy12, y12e, y12n⟩
 rw [← hy12]
 replace sa := sa.trans r12
 replace sw := sw.trans r12
 replace sy := sy.trans r12
 replace sg := sg.trans r12
 simp -implicitDefEqProofs (disch := omega) only [Nat.reduceEqDiff, ↓reduceIte, vcu, ↓vcd, opK_some]
 refine (eqTexts_calls T12 _ _ ds ds (yo5.sub sy).texts yo12.texts hl hl).mono ?_
 rintro _ _ ⟨rfl, rfl⟩
 rename_i T12
 simp -implicitDefEqProofs (disch := omega) only [Nat.reduceEqDiff, ↓reduceIte, vcu, ↓vcd, opK_some, eq_self, decide_true, Bool.not_true, beq_self_eq_true, ne_eq, not_true_eq_false]
 refine (markT_kp T4 T5 T12 y5 ds 1 yo5 (yo5.sub sy) hl (by omega)).mono ?_
 rintro _ M13 ⟨rfl, -, ky, -⟩
 replace sa := ky.sub by_a sa
 replace sw := ky.sub by_w sw
 clear sy
 replace p7a := ky.ownS (p7a.sub sg) bg_y
 replace p7b := ky.ownC (p7b.sub sg) bg_y
 replace eg := ky.cell (sg _ _ eg) (free_sub bg_y (free_sub r7 ng))
 clear sg
 have sg : Sub M13 M13 := Sub.refl _
 have hm0 : decide (1 + (ds.length : Int) < 0) = false := by rw [decide_eq_false_iff_not]; omega
 simp -implicitDefEqProofs (disch := omega) only [Nat.reduceEqDiff, ↓reduceIte, vcu, ↓vcd, opK_some]
 have l14 : lds M13 cg 0 5 = some [.int .i64 f.s.O, .int .i64 f.s.E, .int .i64 f.s.M, u7a, u7b] := by rw [lds_of (sg _ _ eg) (by simp)]; rfl
 have l15 : lds M13 cw 0 5 = some [.int .i64 f.s.O, .int .i64 f.s.E, .int .i64 f.s.M, u3a, u3b] := by rw [lds_of (sw _ _ ew) (by simp)]; rfl
 have h16 := eqEx_calls (w0 := w0) M13 (exV u7a u7b f) (exV u3a u3b f) f f ⟨u7a, u7b, rfl, (p7a.sub sg).texts, (p7b.sub sg).tris⟩ ⟨u3a, u3b, rfl, (p3a.sub sw).texts, (p3b.sub sw).tris⟩ hB hB
 unfold exV at h16
 simp -implicitDefEqProofs (disch := omega) only [Nat.reduceEqDiff, ↓reduceIte, vcu, ↓vcd, hm0, l14, l15, co33, co27]
 refine (h16).mono ?_
 rintro _ _ ⟨rfl, rfl⟩
 rename_i M13
 simp -implicitDefEqProofs (disch := omega) only [Nat.reduceEqDiff, ↓reduceIte, vcu, ↓vcd, opK_some, List.getElem?_toArray, List.getElem?_cons_zero, List.getElem?_cons_succ, eq_self, decide_true, Bool.not_true, beq_self_eq_true, ne_eq, not_true_eq_false]
 have l17 : lds M13 cg 0 5 = some [.int .i64 f.s.O, .int .i64 f.s.E, .int .i64 f.s.M, u7a, u7b] := by rw [lds_of (sg _ _ eg) (by simp)]; rfl
 simp -implicitDefEqProofs (disch := omega) only [Nat.reduceEqDiff, ↓reduceIte, vcu, ↓vcd, l17, co33, co27]
 refine (markX_kp T5 M13 M13 u7a u7b f 1 ⟨u7a, u7b, rfl, p7a, p7b⟩ sg hB (by omega)).mono ?_
 rintro r M18 ⟨hr, om, kg, kk⟩
 generalize hqm : (1 : Int) + f.ps.length + 3 * f.cs.length = qm at hr
 subst hr
 have hq0 : decide (qm < 0) = false := by rw [decide_eq_false_iff_not, ← hqm]; omega
 replace sa := kg.sub bg_a sa
 replace sw := kg.sub bg_w sw
 replace eg := kk _ _ (sg _ _ eg) ddga ddgb
 clear sg
 have sg : Sub M18 M18 := Sub.refl _
 simp -implicitDefEqProofs (disch := omega) only [Nat.reduceEqDiff, ↓reduceIte, vcu, ↓vcd, opK_some]
 have l20 : lds M18 cg 0 5 = some [.int .i64 f.s.O, .int .i64 f.s.E, .int .i64 f.s.M, u7a, u7b] := by rw [lds_of (sg _ _ eg) (by simp)]; rfl
 simp -implicitDefEqProofs (disch := omega) only [Nat.reduceEqDiff, ↓reduceIte, vcu, ↓vcd, opK_some, l20, co33, co27]
 have h19 := heldEx_calls (w0 := w0) M18 (exV u7a u7b f) f 1 (om.ex.sub sg) hB (by omega)
 unfold exV at h19
 refine h19.mono ?_
 rintro r _ ⟨hr, rfl⟩
 rename_i M18
 rw [hqm] at hr
 subst hr
 simp -implicitDefEqProofs (disch := omega) only [Nat.reduceEqDiff, ↓reduceIte, vcu, ↓vcd, hq0, opK_some, List.getElem?_toArray, List.getElem?_cons_zero, List.getElem?_cons_succ, eq_self, decide_true, Bool.not_true, beq_self_eq_true, ne_eq, not_true_eq_false]
 have l21 : lds M18 b 0 3 = some [.int .i64 x, .int .i64 y, .int .i64 z] := by rw [lds_of (sa _ _ eb) (by simp)]; rfl
 simp -implicitDefEqProofs (disch := omega) only [Nat.reduceEqDiff, ↓reduceIte, vcu, ↓vcd, opK_some, l21, co30, co23]
 refine (toShape_at M18 x y z).mono ?_
 rintro _ _ ⟨rfl, rfl⟩
 rename_i M18
 simp -implicitDefEqProofs (disch := omega) only [Nat.reduceEqDiff, ↓reduceIte, vcu, ↓vcd, opK_some]
 refine (toTexts_calls _ vd ds (hd.sub sa) hl).mono ?_
 rintro _ T22 ⟨y22g, y22n, rfl, r22, y22e⟩
 obtain ⟨y22, hy22⟩ : ∃ v : Value, v = .slice (some ⟨y22g, 0, none⟩) ds.length 1 := ⟨_, rfl⟩
 have yo22 : OwnS M18 T22 y22 ds := .inr ⟨y22g, hy22, y22e, y22n⟩
 rw [← hy22]
 replace sa := sa.trans r22
 replace sw := sw.trans r22
 replace sg := sg.trans r22
 simp -implicitDefEqProofs (disch := omega) only [Nat.reduceEqDiff, ↓reduceIte, vcu, ↓vcd, opK_some]
 refine (him _ _ yo22.texts).mono ?_
 rintro _ T23 ⟨r23, u23a, u23b, rfl, p23a, p23b⟩
 replace sa := sa.trans r23
 replace sw := sw.trans r23
 replace sg := sg.trans r23
 have o24 := exC_one (show OwnX T22 T23 (exV u23a u23b f) f from ⟨u23a, u23b, rfl, p23a, p23b⟩)
 simp -implicitDefEqProofs (disch := omega) only [Nat.reduceEqDiff, ↓reduceIte, vcu, ↓vcd, opK_some, exV]
 refine r_local (cs := #[.int .i64 f.s.O, .int .i64 f.s.E, .int .i64 f.s.M, u23a, u23b]) ze33 (by decide) z9q (by rw [co33]; rfl) rfl o24 (Nat.zero_lt_succ _) fun ch T24 nh r24 eh => ?_
 replace eh : T24 ch = some ⟨[.int .i64 f.s.O, .int .i64 f.s.E, .int .i64 f.s.M, u23a, u23b], false⟩ := eh
 have ddha : ∀ n z, u23a ≠ .slice (some ⟨ch, 0, none⟩) n z := by
  rintro n z rfl
  rcases p23a with ⟨h, _⟩ | ⟨g, h, hg, _⟩ <;> cases h
  rw [nh] at hg; cases hg
 have ddhb : ∀ n z, u23b ≠ .slice (some ⟨ch, 0, none⟩) n z := by
  rintro n z rfl
  rcases p23b with ⟨h, _⟩ | ⟨g, h, hg, _⟩ <;> cases h
  rw [nh] at hg; cases hg
 replace sa := sa.trans r24
 replace sw := sw.trans r24
 replace sg := sg.trans r24
 replace p23a := p23a.sub r24
 replace p23b := p23b.sub r24
 have sh : Sub T24 T24 := Sub.refl _
 have l25 : lds T24 ch 0 5 = some [.int .i64 f.s.O, .int .i64 f.s.E, .int .i64 f.s.M, u23a, u23b] := by rw [lds_of (sh _ _ eh) (by simp)]; rfl
 have l26 : lds T24 cw 0 5 = some [.int .i64 f.s.O, .int .i64 f.s.E, .int .i64 f.s.M, u3a, u3b] := by rw [lds_of (sw _ _ ew) (by simp)]; rfl
 have h27 := eqEx_calls (w0 := w0) T24 (exV u23a u23b f) (exV u3a u3b f) f f ⟨u23a, u23b, rfl, (p23a.sub sh).texts, (p23b.sub sh).tris⟩ ⟨u3a, u3b, rfl, (p3a.sub sw).texts, (p3b.sub sw).tris⟩ hB hB
 unfold exV at h27
 simp -implicitDefEqProofs (disch := omega) only [Nat.reduceEqDiff, ↓reduceIte, vcu, ↓vcd, l25, l26, co33, co27]
 refine (h27).mono ?_
 rintro _ _ ⟨rfl, rfl⟩
 rename_i T24
 simp -implicitDefEqProofs (disch := omega) only [Nat.reduceEqDiff, ↓reduceIte, vcu, ↓vcd, opK_some, List.getElem?_toArray, List.getElem?_cons_zero, List.getElem?_cons_succ, eq_self, decide_true, Bool.not_true, beq_self_eq_true, ne_eq, not_true_eq_false]
 have l29 : lds T24 cg 0 5 = some [.int .i64 f.s.O, .int .i64 f.s.E, .int .i64 f.s.M, u7a, u7b] := by rw [lds_of (sg _ _ eg) (by simp)]; rfl
 simp -implicitDefEqProofs (disch := omega) only [Nat.reduceEqDiff, ↓reduceIte, vcu, ↓vcd, opK_some, l29, co33, co27]
 have h28 := heldEx_calls (w0 := w0) T24 (exV u7a u7b f) f 1 (om.ex.sub sg) hB (by omega)
 unfold exV at h28
 refine h28.mono ?_
 rintro r _ ⟨hr, rfl⟩
 rename_i T24
 rw [hqm] at hr
 subst hr
 simp -implicitDefEqProofs (disch := omega) only [Nat.reduceEqDiff, ↓reduceIte, vcu, ↓vcd, hq0, opK_some, List.getElem?_toArray, List.getElem?_cons_zero, List.getElem?_cons_succ, eq_self, decide_true, Bool.not_true, beq_self_eq_true, ne_eq, not_true_eq_false]
 refine fin_one Try.results4 ?_
 simp -implicitDefEqProofs (disch := omega) only [Nat.reduceEqDiff, ↓reduceIte, vcu, ↓vcd]

open Go.ChangeShapes Go.WideShapes Go.ChangeAt Go.RowKit

set_option maxRecDepth 100000 in
theorem lifted4 (os : Os) (started : os.Started) (H : Type) (enc : TypeId × Value → H) :
  ReturnsInHanded {} Try.checked os 4 .any (Rows.fnExactExchangeNewSpec.pre6 enc Try.prog Try.f4 Rows.fnExactExchangeNewRow.domain false) (Rows.fnExactExchangeNewSpec.post enc Try.prog Try.f4 false true false false) := by
 refine returnsInHanded_of_change (C := Try.checked) own started (by kernel_rfl) Try.func4
  (ChangeSpec.witness6 (enc := enc) (C := Try.checked) false ⟨#[], #[.agg #[.int .i64 0, .int .i64 0, .int .i64 0], .slice none 0 0], []⟩ 8 (by kernel_rfl) (by kernel_rfl) (by kernel_rfl) (by kernel_rfl)) ?_
 intro W base args ds gs before hval hW _ _
 have hW' := hW
 obtain ⟨p, q, hA, hV, -, -, -⟩ := hW'
 rw [Try.params4] at hA hval
 obtain ⟨v0, vs0, d0, ds0, p0, q0, hargs, rfl, rfl, h0, r0⟩ := trodAll_cons hA
 obtain ⟨v1, vs1, d1, ds1, p1, q1, rfl, rfl, rfl, h1, r1⟩ := trodAll_cons r0
 obtain ⟨rfl, rfl, rfl⟩ := trodAll_nil r1
 obtain ⟨rfl, rfl⟩ := trodVars_none hV
 obtain rfl : args = #[v0, v1] := by cases args; simp_all
 obtain ⟨β0, σ0, acs0, dd0, L0, U0, S0, R0, Y0⟩ := start_rec (m := 4) (s := .rcd [.int .i64, .int .i64, .int .i64]) (by kernel_rfl) Try.underlying23 (Start.start W) (hval 0 23 v0 rfl rfl) h0
 obtain ⟨x0, y0, z0, rfl, wx0, wy0, wz0⟩ := lay_three Y0
 obtain ⟨β1, σ1, a1, dd1, L1, U1, S1, R1, Y1⟩ := start_one (m := 4) (s := .slc .str) (by kernel_rfl) S0 (slice_cells Try.underlying24 (hval 1 24 v1 rfl rfl)) h1
 obtain ⟨zs1, I1, w1, m1⟩ := lay_texts Y1
 refine ((law8EN σ1 x0 y0 z0 a1 zs1 wx0 wy0 wz0 (I1) m1 w1).2 noProt β1 W [v0, v1] S1.rel (.cons (RelV.mono L1 R0) (.cons R1 (.nil _)))).mono fun e W' h => ?_
 obtain ⟨β', r, r', σ', -, rfl, hr, hrel, rfl⟩ := h
 cases hr
 exact ⟨_, rfl, law_post laidOut hW rfl rfl (by rw [Try.params4]; intro t ht; simp only [List.mem_cons, List.not_mem_nil, or_false, or_self] at ht; rcases ht with rfl | rfl <;> exact ⟨by kernel_rfl, of_decide_eq_true (by kernel_rfl)⟩) rfl Try.underlying4 hrel.below⟩

theorem facts4 : joinedFacts Try.prog 4 Try.f4 Rows.fnExactExchangeNewSpec Rows.fnExactExchangeNewRow = true := by
 unfold joinedFacts
 rw [mayE, liftsE, makeE]
 kernel_rfl

theorem proved4 : Rows.FnExactExchangeNewSaid :=
 OpenClaim.holds_of_wide 4 Try.f4 rfl rfl rfl rfl rfl rfl rfl ⟨rfl, rfl, rfl, rfl, rfl⟩ rfl rfl rfl rfl rfl (by kernel_rfl) Try.func4 facts4 (of_decide_eq_true (by kernel_rfl))
  (by unfold Func.isWrapper; first | (rw [if_pos (by decide +kernel)]; kernel_rfl) | (rw [if_neg (by decide +kernel)]; exact ⟨rfl, rfl⟩))
  (fun os started H enc _ => lifted4 os started H enc)


end Go.Proofs.Ytafkndnmhhjdhaa
