/- FnExactExRun answers true for all arguments. -/
import Derived.Test.YtafkndnmhhjdhaaSAf
set_option linter.unusedSimpArgs false
set_option linter.unusedVariables false
set_option maxHeartbeats 3200000
namespace Go.Proofs.Ytafkndnmhhjdhaa
open Go Go.Abs Go.RowKit Go.Dial Go.Clos
variable {w0 : World}

set_option maxRecDepth 8000 in
theorem law8ER (σ : AHeap) (x y z : Int) (v1 v2 : Value) (ps : List (List UInt8)) (cs : List Cl) (vd : Value) (ds : List Dd) (hE : ExL σ x y z v1 v2 ps cs) (hd : Dds σ vd ds) (hm : ds.length ≤ maxLen) (hw : ∀ z ∈ ds, z.t.length ≤ maxLen ∧ (Lit.int .i64 z.k).wf = true ∧ (Lit.int .i64 z.l).wf = true) :
  ACall Try.prog w0 8 [.agg #[.int .i64 x, .int .i64 y, .int .i64 z, v1, v2], vd] σ fun r _ => r = .bool true := by
 obtain ⟨e, he⟩ : ∃ e : Ex, e = ⟨⟨x, y, z⟩, ps, cs⟩ := ⟨_, rfl⟩
 have hv : ExV σ (exV v1 v2 e) e := by rw [he]; exact ⟨v1, v2, rfl, hE.tt, hE.cc⟩
 have hqq : (.agg #[.int .i64 x, .int .i64 y, .int .i64 z, v1, v2] : Value) = .agg #[.int .i64 e.s.O, .int .i64 e.s.E, .int .i64 e.s.M, v1, v2] := by rw [he]
 have q1 : e.ps.length ≤ maxLen := by rw [he]; exact hE.tl
 have q2 : ∀ t ∈ e.ps, t.length ≤ maxLen := by rw [he]; exact hE.tw
 have q3 : e.cs.length ≤ maxLen := by rw [he]; exact hE.cl
 rw [hqq]
 clear hE hqq he
 refine acall_go mixed Try.func8 rfl good8 fun pr => ?_
 simp -implicitDefEqProofs (disch := omega) only [Nat.reduceEqDiff, ↓reduceIte, vcu, ↓vcd]
 refine r_boxed fun b σ1 nb s1 eb => ?_
 replace eb : σ1 b = some ⟨[.int .i64 e.s.O, .int .i64 e.s.E, .int .i64 e.s.M, v1, v2], false⟩ := eb
 replace hv := hv.sub s1
 replace hd := hd.sub s1
 clear s1 nb
 have sa : Sub σ1 σ1 := Sub.refl _
 have hsz := szEx_calls (w0 := w0) σ1 _ e hv q1 q2 q3
 unfold exV at hsz
 have l1 : lds σ1 b 0 5 = some [.int .i64 e.s.O, .int .i64 e.s.E, .int .i64 e.s.M, v1, v2] := by rw [lds_of (sa _ _ eb) (by simp)]; rfl
 simp -implicitDefEqProofs (disch := omega) only [Nat.reduceEqDiff, ↓reduceIte, vcu, ↓vcd, l1, co33, co27]
 refine hsz.mono ?_
 rintro _ _ ⟨⟨n, rfl, hn, hc⟩, rfl⟩
 rename_i σ1
 clear hsz
 simp -implicitDefEqProofs (disch := omega) only [Nat.reduceEqDiff, ↓reduceIte, vcu, ↓vcd, opK_some]
 by_cases hneg : n < 0
 ·simp -implicitDefEqProofs (disch := omega) only [Nat.reduceEqDiff, ↓reduceIte, vcu, ↓vcd]
  refine fin_one Try.results8 ?_
  simp -implicitDefEqProofs (disch := omega) only [Nat.reduceEqDiff, ↓reduceIte, vcu, ↓vcd]
 have hb := hc.resolve_left hneg
 clear hc q1 q2 q3
 have hnl : ¬ n < 0 := hneg
 have hsz2 := szDds_calls (w0 := w0) σ1 vd ds n ⟨by omega, hn⟩ hd hm fun c hc => (hw c hc).1
 simp -implicitDefEqProofs (disch := omega) only [Nat.reduceEqDiff, ↓reduceIte, vcu, ↓vcd]
 refine hsz2.mono ?_
 rintro _ _ ⟨⟨n2, rfl, hn2, hc2⟩, rfl⟩
 rename_i σ1
 clear hsz2
 simp -implicitDefEqProofs (disch := omega) only [Nat.reduceEqDiff, ↓reduceIte, vcu, ↓vcd, opK_some]
 by_cases hneg2 : n2 < 0
 ·simp -implicitDefEqProofs (disch := omega) only [Nat.reduceEqDiff, ↓reduceIte, vcu, ↓vcd]
  refine fin_one Try.results8 ?_
  simp -implicitDefEqProofs (disch := omega) only [Nat.reduceEqDiff, ↓reduceIte, vcu, ↓vcd]
 obtain ⟨hl, hp⟩ := hc2.resolve_left hneg2
 clear hc2 hw hm
 have hto := fun (T : AHeap) (h : Sub σ1 T) => toEx_calls (w0 := w0) T _ e (hv.sub h) hb
 unfold exV at hto
 have hsp := fun (T : AHeap) (a1 a2 a3 : Value) (h : ExV T (exV a1 a2 e) e) (h2 : Dds T a3 ds) => exRun_calls (w0 := w0) T (exV a1 a2 e) a3 e ds h hb h2 hl hp
 have him := fun (T : AHeap) (a1 a2 a3 : Value) (h : ExV T (exV a1 a2 e) e) (h2 : Dds T a3 ds) => implER_calls (w0 := w0) T (exV a1 a2 e) a3 e ds h hb h2 hl hp
 have hB := exRunB e ds
 generalize exRun e ds = R at hsp him hB
 obtain ⟨f, ans⟩ := R
 dsimp only at hsp him hB
 unfold exV at hsp him
 have l2 : lds σ1 b 0 5 = some [.int .i64 e.s.O, .int .i64 e.s.E, .int .i64 e.s.M, v1, v2] := by rw [lds_of (sa _ _ eb) (by simp)]; rfl
 simp -implicitDefEqProofs (disch := omega) only [Nat.reduceEqDiff, ↓reduceIte, vcu, ↓vcd, l2, co33, co27]
 refine (hto _ sa).mono ?_
 rintro _ T3 ⟨r3, u3a, u3b, rfl, p3a, p3b⟩
 replace sa := sa.trans r3
 simp -implicitDefEqProofs (disch := omega) only [Nat.reduceEqDiff, ↓reduceIte, vcu, ↓vcd, opK_some, exV]
 refine (toDds_calls _ vd ds (hd.sub sa) hl).mono ?_
 rintro y4 T4 ⟨r4, yo4⟩
 replace sa := sa.trans r4
 replace p3a := p3a.sub r4
 replace p3b := p3b.sub r4
 simp -implicitDefEqProofs (disch := omega) only [Nat.reduceEqDiff, ↓reduceIte, vcu, ↓vcd, opK_some]
 refine (hsp _ _ _ _ ⟨u3a, u3b, rfl, p3a.texts, p3b.tris⟩ yo4.dds).mono ?_
 rintro _ T5 ⟨_, rfl, r5, u5a, u5b, rfl, p5a, p5b⟩
 replace sa := sa.trans r5
 have o6 := exC_one (show OwnX T4 T5 (exV u5a u5b f) f from ⟨u5a, u5b, rfl, p5a, p5b⟩)
 simp -implicitDefEqProofs (disch := omega) only [Nat.reduceEqDiff, ↓reduceIte, vcu, ↓vcd, opK_some, List.getElem?_toArray, List.getElem?_cons_zero, List.getElem?_cons_succ, exV]
 refine r_local (cs := #[.int .i64 f.s.O, .int .i64 f.s.E, .int .i64 f.s.M, u5a, u5b]) ze33 (by decide) z9q (by rw [co33]; rfl) rfl o6 (Nat.zero_lt_succ _) fun cw T6 nw r6 ew => ?_
 replace ew : T6 cw = some ⟨[.int .i64 f.s.O, .int .i64 f.s.E, .int .i64 f.s.M, u5a, u5b], false⟩ := ew
 have ddwa : ∀ n z, u5a ≠ .slice (some ⟨cw, 0, none⟩) n z := by
  rintro n z rfl
  rcases p5a with ⟨h, _⟩ | ⟨g, h, hg, _⟩ <;> cases h
  rw [nw] at hg; cases hg
 have ddwb : ∀ n z, u5b ≠ .slice (some ⟨cw, 0, none⟩) n z := by
  rintro n z rfl
  rcases p5b with ⟨h, _⟩ | ⟨g, h, hg, _⟩ <;> cases h
  rw [nw] at hg; cases hg
 replace sa := sa.trans r6
 replace p5a := p5a.sub r6
 replace p5b := p5b.sub r6
 have sw : Sub T6 T6 := Sub.refl _
 have l7 : lds T6 b 0 5 = some [.int .i64 e.s.O, .int .i64 e.s.E, .int .i64 e.s.M, v1, v2] := by rw [lds_of (sa _ _ eb) (by simp)]; rfl
 simp -implicitDefEqProofs (disch := omega) only [Nat.reduceEqDiff, ↓reduceIte, vcu, ↓vcd, l7, co33, co27, opK_some, List.getElem?_toArray, List.getElem?_cons_zero, List.getElem?_cons_succ]
 have bx_a := sa
 have bx_w := sw
 refine (hto _ sa).mono ?_
 rintro _ T8 ⟨r8, u8a, u8b, rfl, p8a, p8b⟩
 replace sa := sa.trans r8
 replace sw := sw.trans r8
 have o9 := exC_one (show OwnX T6 T8 (exV u8a u8b e) e from ⟨u8a, u8b, rfl, p8a, p8b⟩)
 simp -implicitDefEqProofs (disch := omega) only [Nat.reduceEqDiff, ↓reduceIte, vcu, ↓vcd, opK_some, exV]
 refine r_local (cs := #[.int .i64 e.s.O, .int .i64 e.s.E, .int .i64 e.s.M, u8a, u8b]) ze33 (by decide) z9q (by rw [co33]; rfl) rfl o9 (Nat.zero_lt_succ _) fun cx T9 nx r9 ex => ?_
 replace ex : T9 cx = some ⟨[.int .i64 e.s.O, .int .i64 e.s.E, .int .i64 e.s.M, u8a, u8b], false⟩ := ex
 have ddxa : ∀ n z, u8a ≠ .slice (some ⟨cx, 0, none⟩) n z := by
  rintro n z rfl
  rcases p8a with ⟨h, _⟩ | ⟨g, h, hg, _⟩ <;> cases h
  rw [nx] at hg; cases hg
 have ddxb : ∀ n z, u8b ≠ .slice (some ⟨cx, 0, none⟩) n z := by
  rintro n z rfl
  rcases p8b with ⟨h, _⟩ | ⟨g, h, hg, _⟩ <;> cases h
  rw [nx] at hg; cases hg
 replace sa := sa.trans r9
 replace sw := sw.trans r9
 replace p8a := p8a.sub r9
 replace p8b := p8b.sub r9
 have sx : Sub T9 T9 := Sub.refl _
 simp -implicitDefEqProofs (disch := omega) only [Nat.reduceEqDiff, ↓reduceIte, vcu, ↓vcd]
 have by_a := sa
 have by_w := sw
 have by_x := sx
 refine (toDds_calls _ vd ds (hd.sub sa) hl).mono ?_
 rintro y10 T10 ⟨r10, yo10⟩
 replace sa := sa.trans r10
 replace sw := sw.trans r10
 replace sx := sx.trans r10
 have sy : Sub T10 T10 := Sub.refl _
 simp -implicitDefEqProofs (disch := omega) only [Nat.reduceEqDiff, ↓reduceIte, vcu, ↓vcd, opK_some]
 have l11 : lds T10 cx 0 5 = some [.int .i64 e.s.O, .int .i64 e.s.E, .int .i64 e.s.M, u8a, u8b] := by rw [lds_of (sx _ _ ex) (by simp)]; rfl
 simp -implicitDefEqProofs (disch := omega) only [Nat.reduceEqDiff, ↓reduceIte, vcu, ↓vcd, l11, co33, co27]
 have bg_a := sa
 have bg_w := sw
 have bg_x := sx
 have bg_y := sy
 refine (him _ _ _ _ ⟨u8a, u8b, rfl, (p8a.sub sx).texts, (p8b.sub sx).tris⟩ (yo10.sub sy).dds).mono ?_
 rintro _ T12 ⟨_, rfl, r12, u12a, u12b, rfl, p12a, p12b⟩
 replace sa := sa.trans r12
 replace sw := sw.trans r12
 replace sx := sx.trans r12
 replace sy := sy.trans r12
 have o13 := exC_one (show OwnX T10 T12 (exV u12a u12b f) f from ⟨u12a, u12b, rfl, p12a, p12b⟩)
 simp -implicitDefEqProofs (disch := omega) only [Nat.reduceEqDiff, ↓reduceIte, vcu, ↓vcd, opK_some, List.getElem?_toArray, List.getElem?_cons_zero, List.getElem?_cons_succ, exV]
 refine r_local (cs := #[.int .i64 f.s.O, .int .i64 f.s.E, .int .i64 f.s.M, u12a, u12b]) ze33 (by decide) z9q (by rw [co33]; rfl) rfl o13 (Nat.zero_lt_succ _) fun cg T13 ng r13 eg => ?_
 replace eg : T13 cg = some ⟨[.int .i64 f.s.O, .int .i64 f.s.E, .int .i64 f.s.M, u12a, u12b], false⟩ := eg
 have ddga : ∀ n z, u12a ≠ .slice (some ⟨cg, 0, none⟩) n z := by
  rintro n z rfl
  rcases p12a with ⟨h, _⟩ | ⟨g, h, hg, _⟩ <;> cases h
  rw [ng] at hg; cases hg
 have ddgb : ∀ n z, u12b ≠ .slice (some ⟨cg, 0, none⟩) n z := by
  rintro n z rfl
  rcases p12b with ⟨h, _⟩ | ⟨g, h, hg, _⟩ <;> cases h
  rw [ng] at hg; cases hg
 replace sa := sa.trans r13
 replace sw := sw.trans r13
 replace sx := sx.trans r13
 replace sy := sy.trans r13
 replace p12a := p12a.sub r13
 replace p12b := p12b.sub r13
 have sg : Sub T13 T13 := Sub.refl _
 have l14 : lds T13 cg 0 5 = some [.int .i64 f.s.O, .int .i64 f.s.E, .int .i64 f.s.M, u12a, u12b] := by rw [lds_of (sg _ _ eg) (by simp)]; rfl
 have l15 : lds T13 cw 0 5 = some [.int .i64 f.s.O, .int .i64 f.s.E, .int .i64 f.s.M, u5a, u5b] := by rw [lds_of (sw _ _ ew) (by simp)]; rfl
 have h16 := eqEx_calls (w0 := w0) T13 (exV u12a u12b f) (exV u5a u5b f) f f ⟨u12a, u12b, rfl, (p12a.sub sg).texts, (p12b.sub sg).tris⟩ ⟨u5a, u5b, rfl, (p5a.sub sw).texts, (p5b.sub sw).tris⟩ hB hB
 unfold exV at h16
 simp -implicitDefEqProofs (disch := omega) only [Nat.reduceEqDiff, ↓reduceIte, vcu, ↓vcd, l14, l15, co33, co27]
 refine (h16).mono ?_
 rintro _ _ ⟨rfl, rfl⟩
 rename_i T13
 simp -implicitDefEqProofs (disch := omega) only [Nat.reduceEqDiff, ↓reduceIte, vcu, ↓vcd, opK_some, List.getElem?_toArray, List.getElem?_cons_zero, List.getElem?_cons_succ, eq_self, decide_true, Bool.not_true, beq_self_eq_true, ne_eq, not_true_eq_false]
 have l17 : lds T13 cx 0 5 = some [.int .i64 e.s.O, .int .i64 e.s.E, .int .i64 e.s.M, u8a, u8b] := by rw [lds_of (sx _ _ ex) (by simp)]; rfl
 have l18 : lds T13 b 0 5 = some [.int .i64 e.s.O, .int .i64 e.s.E, .int .i64 e.s.M, v1, v2] := by rw [lds_of (sa _ _ eb) (by simp)]; rfl
 refine region_tree mixed (quiets [0, 1] (.one 2 (.one 3 (quiets [4] .stop)))) [([0, 1], Sub T13)] (by kernel_rfl) (by kernel_rfl) (fun p hp => by simp only [List.mem_singleton] at hp; subst hp; exact Sub.refl _) ?_
 refine tree_quiets T13 _ _ _ sf1 (by kernel_rfl) (by kernel_rfl) ?_
 simp -implicitDefEqProofs (disch := omega) only [Nat.reduceEqDiff, ↓reduceIte, vcu, ↓vcd, pickOps_nil, pickOps_cons, pickO_some, List.getElem?_cons_succ, List.getElem?_cons_zero, l17, l18, co33, co27]
 refine tree_one rfl ?_
 try simp -implicitDefEqProofs (disch := omega) only [Nat.reduceEqDiff, ↓reduceIte, vcu, ↓vcd]
 refine (hto _ sa).mono ?_
 rintro _ T19 ⟨r19, u19a, u19b, rfl, p19a, p19b⟩
 replace sa := sa.trans r19
 replace sw := sw.trans r19
 replace sx := sx.trans r19
 replace sy := sy.trans r19
 replace sg := sg.trans r19
 have h20 := eqEx_calls (w0 := w0) T19 (exV u8a u8b e) (exV u19a u19b e) e e ⟨u8a, u8b, rfl, (p8a.sub sx).texts, (p8b.sub sx).tris⟩ ⟨u19a, u19b, rfl, p19a.texts, p19b.tris⟩ hb hb
 unfold exV at h20
 simp -implicitDefEqProofs (disch := omega) only [Nat.reduceEqDiff, ↓reduceIte, vcu, ↓vcd, opK_some, exV]
 refine ⟨keep_of rfl (fun p hp => by simp only [List.mem_singleton] at hp; subst hp; exact .inr r19), ?_⟩
 refine tree_one rfl ?_
 try simp -implicitDefEqProofs (disch := omega) only [Nat.reduceEqDiff, ↓reduceIte, vcu, ↓vcd]
 refine (h20).mono ?_
 rintro _ _ ⟨rfl, rfl⟩
 rename_i T19
 simp -implicitDefEqProofs (disch := omega) only [Nat.reduceEqDiff, ↓reduceIte, vcu, ↓vcd, opK_some]
 refine ⟨.inl rfl, ?_⟩
 refine tree_quiets _ _ _ _ sf0 (by kernel_rfl) (by kernel_rfl) ?_
 simp -implicitDefEqProofs (disch := omega) only [Nat.reduceEqDiff, ↓reduceIte, vcu, ↓vcd, pickOps_nil, pickOps_cons, pickO_some, List.getElem?_cons_succ, List.getElem?_cons_zero, eq_self, decide_true, Bool.not_true]
 refine tree_stop ?_
 try simp -implicitDefEqProofs (disch := omega) only [Nat.reduceEqDiff, ↓reduceIte, vcu, ↓vcd]
 refine (toDds_calls _ vd ds (hd.sub sa) hl).mono ?_
 rintro y21 T21 ⟨r21, yo21⟩
 replace sa := sa.trans r21
 replace sw := sw.trans r21
 replace sx := sx.trans r21
 replace sy := sy.trans r21
 replace sg := sg.trans r21
 simp -implicitDefEqProofs (disch := omega) only [Nat.reduceEqDiff, ↓reduceIte, vcu, ↓vcd, opK_some]
 refine (eqDds_calls T21 _ _ ds ds (yo10.sub sy).dds yo21.dds hl hl).mono ?_
 rintro _ _ ⟨rfl, rfl⟩
 rename_i T21
 simp -implicitDefEqProofs (disch := omega) only [Nat.reduceEqDiff, ↓reduceIte, vcu, ↓vcd, opK_some, eq_self, decide_true, Bool.not_true, beq_self_eq_true, ne_eq, not_true_eq_false]
 have l22 : lds T21 cx 0 5 = some [.int .i64 e.s.O, .int .i64 e.s.E, .int .i64 e.s.M, u8a, u8b] := by rw [lds_of (sx _ _ ex) (by simp)]; rfl
 simp -implicitDefEqProofs (disch := omega) only [Nat.reduceEqDiff, ↓reduceIte, vcu, ↓vcd, l22, co33, co27]
 refine (markX_kp T6 T9 T21 u8a u8b e 1 ⟨u8a, u8b, rfl, p8a, p8b⟩ sx hb (by omega)).mono ?_
 rintro _ M23 ⟨rfl, ox, kx, -⟩
 replace sa := kx.sub bx_a sa
 replace sw := kx.sub bx_w sw
 have yc := kx.ownD (yo10.sub sy) by_x
 clear sy
 have rg := r12
 replace p12a := kx.ownS (p12a.sub sg) bg_x
 replace p12b := kx.ownC (p12b.sub sg) bg_x
 replace eg := kx.cell (sg _ _ eg) (free_sub bg_x (free_sub rg ng))
 clear sg
 have sg : Sub M23 M23 := Sub.refl _
 simp -implicitDefEqProofs (disch := omega) only [Nat.reduceEqDiff, ↓reduceIte, vcu, ↓vcd, opK_some]
 refine (markD_kp T9 T10 M23 y10 ds (1 + (e.ps.length : Int) + 3 * e.cs.length) yo10 yc hl (by have := hb.1; have := hb.2.2; omega)).mono ?_
 rintro _ M24 ⟨rfl, -, ky⟩
 replace sa := ky.sub by_a sa
 replace sw := ky.sub by_w sw
 replace p12a := ky.ownS (p12a.sub sg) bg_y
 replace p12b := ky.ownC (p12b.sub sg) bg_y
 replace eg := ky.cell (sg _ _ eg) (free_sub bg_y (free_sub rg ng))
 clear sg
 have sg : Sub M24 M24 := Sub.refl _
 simp -implicitDefEqProofs (disch := omega) only [Nat.reduceEqDiff, ↓reduceIte, vcu, ↓vcd, opK_some]
 have hm0 : decide (1 + (e.ps.length : Int) + 3 * e.cs.length + 3 * (ds.length : Int) < 0) = false := by rw [decide_eq_false_iff_not]; omega
 have l25 : lds M24 cg 0 5 = some [.int .i64 f.s.O, .int .i64 f.s.E, .int .i64 f.s.M, u12a, u12b] := by rw [lds_of (sg _ _ eg) (by simp)]; rfl
 have l26 : lds M24 cw 0 5 = some [.int .i64 f.s.O, .int .i64 f.s.E, .int .i64 f.s.M, u5a, u5b] := by rw [lds_of (sw _ _ ew) (by simp)]; rfl
 have h27 := eqEx_calls (w0 := w0) M24 (exV u12a u12b f) (exV u5a u5b f) f f ⟨u12a, u12b, rfl, (p12a.sub sg).texts, (p12b.sub sg).tris⟩ ⟨u5a, u5b, rfl, (p5a.sub sw).texts, (p5b.sub sw).tris⟩ hB hB
 unfold exV at h27
 simp -implicitDefEqProofs (disch := omega) only [Nat.reduceEqDiff, ↓reduceIte, vcu, ↓vcd, hm0, l25, l26, co33, co27]
 refine (h27).mono ?_
 rintro _ _ ⟨rfl, rfl⟩
 rename_i M24
 simp -implicitDefEqProofs (disch := omega) only [Nat.reduceEqDiff, ↓reduceIte, vcu, ↓vcd, opK_some, List.getElem?_toArray, List.getElem?_cons_zero, List.getElem?_cons_succ, eq_self, decide_true, Bool.not_true, beq_self_eq_true, ne_eq, not_true_eq_false]
 have l28 : lds M24 cg 0 5 = some [.int .i64 f.s.O, .int .i64 f.s.E, .int .i64 f.s.M, u12a, u12b] := by rw [lds_of (sg _ _ eg) (by simp)]; rfl
 simp -implicitDefEqProofs (disch := omega) only [Nat.reduceEqDiff, ↓reduceIte, vcu, ↓vcd, l28, co33, co27]
 refine (markX_kp T10 M24 M24 u12a u12b f 1 ⟨u12a, u12b, rfl, p12a, p12b⟩ sg hB (by omega)).mono ?_
 rintro r M29 ⟨hr, om, kg, kk⟩
 replace sa := kg.sub bg_a sa
 replace sw := kg.sub bg_w sw
 replace eg := kk _ _ (sg _ _ eg) ddga ddgb
 clear sg
 have sg : Sub M29 M29 := Sub.refl _
 generalize hqm : (1 : Int) + f.ps.length + 3 * f.cs.length = qm at hr
 subst hr
 have hq0 : decide (qm < 0) = false := by rw [decide_eq_false_iff_not, ← hqm]; omega
 simp -implicitDefEqProofs (disch := omega) only [Nat.reduceEqDiff, ↓reduceIte, vcu, ↓vcd, opK_some]
 have l31 : lds M29 cg 0 5 = some [.int .i64 f.s.O, .int .i64 f.s.E, .int .i64 f.s.M, u12a, u12b] := by rw [lds_of (sg _ _ eg) (by simp)]; rfl
 simp -implicitDefEqProofs (disch := omega) only [Nat.reduceEqDiff, ↓reduceIte, vcu, ↓vcd, opK_some, l31, co33, co27]
 have h30 := heldEx_calls (w0 := w0) M29 (exV u12a u12b f) f 1 (om.ex.sub sg) hB (by omega)
 unfold exV at h30
 refine h30.mono ?_
 rintro r _ ⟨hr, rfl⟩
 rename_i M29
 rw [hqm] at hr
 subst hr
 simp -implicitDefEqProofs (disch := omega) only [Nat.reduceEqDiff, ↓reduceIte, vcu, ↓vcd, hq0, opK_some, List.getElem?_toArray, List.getElem?_cons_zero, List.getElem?_cons_succ, eq_self, decide_true, Bool.not_true, beq_self_eq_true, ne_eq, not_true_eq_false]
 have l32 : lds M29 b 0 5 = some [.int .i64 e.s.O, .int .i64 e.s.E, .int .i64 e.s.M, v1, v2] := by rw [lds_of (sa _ _ eb) (by simp)]; rfl
 simp -implicitDefEqProofs (disch := omega) only [Nat.reduceEqDiff, ↓reduceIte, vcu, ↓vcd, l32, co33, co27, opK_some, List.getElem?_toArray, List.getElem?_cons_zero, List.getElem?_cons_succ]
 refine (hto _ sa).mono ?_
 rintro _ T33 ⟨r33, u33a, u33b, rfl, p33a, p33b⟩
 replace sa := sa.trans r33
 replace sw := sw.trans r33
 replace sg := sg.trans r33
 simp -implicitDefEqProofs (disch := omega) only [Nat.reduceEqDiff, ↓reduceIte, vcu, ↓vcd, opK_some, exV]
 refine (toDds_calls _ vd ds (hd.sub sa) hl).mono ?_
 rintro y34 T34 ⟨r34, yo34⟩
 replace sa := sa.trans r34
 replace sw := sw.trans r34
 replace sg := sg.trans r34
 replace p33a := p33a.sub r34
 replace p33b := p33b.sub r34
 simp -implicitDefEqProofs (disch := omega) only [Nat.reduceEqDiff, ↓reduceIte, vcu, ↓vcd, opK_some]
 refine (him _ _ _ _ ⟨u33a, u33b, rfl, p33a.texts, p33b.tris⟩ yo34.dds).mono ?_
 rintro _ T35 ⟨_, rfl, r35, u35a, u35b, rfl, p35a, p35b⟩
 replace sa := sa.trans r35
 replace sw := sw.trans r35
 replace sg := sg.trans r35
 have o36 := exC_one (show OwnX T34 T35 (exV u35a u35b f) f from ⟨u35a, u35b, rfl, p35a, p35b⟩)
 simp -implicitDefEqProofs (disch := omega) only [Nat.reduceEqDiff, ↓reduceIte, vcu, ↓vcd, opK_some, List.getElem?_toArray, List.getElem?_cons_zero, List.getElem?_cons_succ, exV]
 refine r_local (cs := #[.int .i64 f.s.O, .int .i64 f.s.E, .int .i64 f.s.M, u35a, u35b]) ze33 (by decide) z9q (by rw [co33]; rfl) rfl o36 (Nat.zero_lt_succ _) fun ch T36 nh r36 eh => ?_
 replace eh : T36 ch = some ⟨[.int .i64 f.s.O, .int .i64 f.s.E, .int .i64 f.s.M, u35a, u35b], false⟩ := eh
 have ddha : ∀ n z, u35a ≠ .slice (some ⟨ch, 0, none⟩) n z := by
  rintro n z rfl
  rcases p35a with ⟨h, _⟩ | ⟨g, h, hg, _⟩ <;> cases h
  rw [nh] at hg; cases hg
 have ddhb : ∀ n z, u35b ≠ .slice (some ⟨ch, 0, none⟩) n z := by
  rintro n z rfl
  rcases p35b with ⟨h, _⟩ | ⟨g, h, hg, _⟩ <;> cases h
  rw [nh] at hg; cases hg
 replace sa := sa.trans r36
 replace sw := sw.trans r36
 replace sg := sg.trans r36
 replace p35a := p35a.sub r36
 replace p35b := p35b.sub r36
 have sh : Sub T36 T36 := Sub.refl _
 have l37 : lds T36 ch 0 5 = some [.int .i64 f.s.O, .int .i64 f.s.E, .int .i64 f.s.M, u35a, u35b] := by rw [lds_of (sh _ _ eh) (by simp)]; rfl
 have l38 : lds T36 cw 0 5 = some [.int .i64 f.s.O, .int .i64 f.s.E, .int .i64 f.s.M, u5a, u5b] := by rw [lds_of (sw _ _ ew) (by simp)]; rfl
 have h39 := eqEx_calls (w0 := w0) T36 (exV u35a u35b f) (exV u5a u5b f) f f ⟨u35a, u35b, rfl, (p35a.sub sh).texts, (p35b.sub sh).tris⟩ ⟨u5a, u5b, rfl, (p5a.sub sw).texts, (p5b.sub sw).tris⟩ hB hB
 unfold exV at h39
 simp -implicitDefEqProofs (disch := omega) only [Nat.reduceEqDiff, ↓reduceIte, vcu, ↓vcd, l37, l38, co33, co27]
 refine (h39).mono ?_
 rintro _ _ ⟨rfl, rfl⟩
 rename_i T36
 simp -implicitDefEqProofs (disch := omega) only [Nat.reduceEqDiff, ↓reduceIte, vcu, ↓vcd, opK_some, List.getElem?_toArray, List.getElem?_cons_zero, List.getElem?_cons_succ, eq_self, decide_true, Bool.not_true, beq_self_eq_true, ne_eq, not_true_eq_false]
 have l41 : lds T36 cg 0 5 = some [.int .i64 f.s.O, .int .i64 f.s.E, .int .i64 f.s.M, u12a, u12b] := by rw [lds_of (sg _ _ eg) (by simp)]; rfl
 simp -implicitDefEqProofs (disch := omega) only [Nat.reduceEqDiff, ↓reduceIte, vcu, ↓vcd, opK_some, l41, co33, co27]
 have h40 := heldEx_calls (w0 := w0) T36 (exV u12a u12b f) f 1 (om.ex.sub sg) hB (by omega)
 unfold exV at h40
 refine h40.mono ?_
 rintro r _ ⟨hr, rfl⟩
 rename_i T36
 rw [hqm] at hr
 subst hr
 simp -implicitDefEqProofs (disch := omega) only [Nat.reduceEqDiff, ↓reduceIte, vcu, ↓vcd, hq0, opK_some, List.getElem?_toArray, List.getElem?_cons_zero, List.getElem?_cons_succ, eq_self, decide_true, Bool.not_true, beq_self_eq_true, ne_eq, not_true_eq_false]
 refine fin_one Try.results8 ?_
 simp -implicitDefEqProofs (disch := omega) only [Nat.reduceEqDiff, ↓reduceIte, vcu, ↓vcd]

open Go.ChangeShapes Go.WideShapes Go.ChangeAt Go.RowKit

set_option maxRecDepth 100000 in
theorem lifted8 (os : Os) (started : os.Started) (H : Type) (enc : TypeId × Value → H) :
  ReturnsInHanded {} Try.checked os 8 .any (Rows.fnExactExRunSpec.pre6 enc Try.prog Try.f8 Rows.fnExactExRunRow.domain false) (Rows.fnExactExRunSpec.post enc Try.prog Try.f8 false true false false) := by
 refine returnsInHanded_of_change (C := Try.checked) own started (by kernel_rfl) Try.func8
  (ChangeSpec.witness6 (enc := enc) (C := Try.checked) false ⟨#[], #[.agg #[.int .i64 0, .int .i64 0, .int .i64 0, .slice none 0 0, .slice none 0 0], .slice none 0 0], []⟩ 8 (by kernel_rfl) (by kernel_rfl) (by kernel_rfl) (by kernel_rfl)) ?_
 intro W base args ds gs before hval hW _ _
 have hW' := hW
 obtain ⟨p, q, hA, hV, -, -, -⟩ := hW'
 rw [Try.params8] at hA hval
 obtain ⟨v0, vs0, d0, ds0, p0, q0, hargs, rfl, rfl, h0, r0⟩ := trodAll_cons hA
 obtain ⟨v1, vs1, d1, ds1, p1, q1, rfl, rfl, rfl, h1, r1⟩ := trodAll_cons r0
 obtain ⟨rfl, rfl, rfl⟩ := trodAll_nil r1
 obtain ⟨rfl, rfl⟩ := trodVars_none hV
 obtain rfl : args = #[v0, v1] := by cases args; simp_all
 obtain ⟨β0, σ0, acs0, dd0, L0, U0, S0, R0, Y0⟩ := start_rec (m := 5) (s := .rcd [.rcd [.int .i64, .int .i64, .int .i64], .slc .str, .slc (.rcd [.int .i64, .int .i64, .int .i64])]) (by kernel_rfl) Try.underlying27 (Start.start W) (hval 0 27 v0 rfl rfl) h0
 obtain ⟨x0, y0, z0, a0, b0, zs0, us0, rfl, E0⟩ := lay_exch Y0
 obtain ⟨β1, σ1, a1, dd1, L1, U1, S1, R1, Y1⟩ := start_one (m := 4) (s := .slc (.rcd [.int .i64, .int .i64, .str])) (by kernel_rfl) S0 (slice_cells Try.underlying55 (hval 1 55 v1 rfl rfl)) h1
 obtain ⟨zs1, I1, w1, m1⟩ := lay_dds Y1
 refine ((law8ER σ1 x0 y0 z0 a0 b0 zs0 us0 a1 zs1 (E0.sub U1) (I1) m1 w1).2 noProt β1 W [v0, v1] S1.rel (.cons (RelV.mono L1 R0) (.cons R1 (.nil _)))).mono fun e W' h => ?_
 obtain ⟨β', r, r', σ', -, rfl, hr, hrel, rfl⟩ := h
 cases hr
 exact ⟨_, rfl, law_post laidOut hW rfl rfl (by rw [Try.params8]; intro t ht; simp only [List.mem_cons, List.not_mem_nil, or_false, or_self] at ht; rcases ht with rfl | rfl <;> exact ⟨by kernel_rfl, of_decide_eq_true (by kernel_rfl)⟩) rfl Try.underlying4 hrel.below⟩

theorem facts8 : joinedFacts Try.prog 8 Try.f8 Rows.fnExactExRunSpec Rows.fnExactExRunRow = true := by
 unfold joinedFacts
 rw [mayE, liftsE, makeE]
 kernel_rfl

theorem proved8 : Rows.FnExactExRunSaid :=
 OpenClaim.holds_of_wide 8 Try.f8 rfl rfl rfl rfl rfl rfl rfl ⟨rfl, rfl, rfl, rfl, rfl⟩ rfl rfl rfl rfl rfl (by kernel_rfl) Try.func8 facts8 (of_decide_eq_true (by kernel_rfl))
  (by unfold Func.isWrapper; first | (rw [if_pos (by decide +kernel)]; kernel_rfl) | (rw [if_neg (by decide +kernel)]; exact ⟨rfl, rfl⟩))
  (fun os started H enc _ => lifted8 os started H enc)


end Go.Proofs.Ytafkndnmhhjdhaa
