/- FnExactExLines answers true for all arguments. -/
import Derived.Test.YtafkndnmhhjdhaaGreatDoorSDi
set_option linter.unusedSimpArgs false
set_option linter.unusedVariables false
set_option maxHeartbeats 3200000
namespace Go.Proofs.YtafkndnmhhjdhaaGreatDoor
open Go Go.Abs Go.RowKit Go.Dial Go.Clos
variable {w0 : World} [GlobE w0] [GlobM w0] [GlobT w0]

set_option maxRecDepth 8000 in
theorem law8ES (σ : AHeap) (x y z : Int) (v1 v2 : Value) (ps : List (List UInt8)) (cs : List Cl) (vd : Value) (ds : List (List UInt8)) (hE : ExL σ x y z v1 v2 ps cs) (hd : Texts σ vd ds) (hm : ds.length ≤ maxLen) (hw : ∀ z ∈ ds, z.length ≤ maxLen) :
  ACall Tryz.prog w0 4 [.agg #[.int .i64 x, .int .i64 y, .int .i64 z, v1, v2], vd] σ fun r _ => r = .bool true := by
 obtain ⟨e, he⟩ : ∃ e : Ex, e = ⟨⟨x, y, z⟩, ps, cs⟩ := ⟨_, rfl⟩
 have hv : ExV σ (exV v1 v2 e) e := by rw [he]; exact ⟨v1, v2, rfl, hE.tt, hE.cc⟩
 have hqq : (.agg #[.int .i64 x, .int .i64 y, .int .i64 z, v1, v2] : Value) = .agg #[.int .i64 e.s.O, .int .i64 e.s.E, .int .i64 e.s.M, v1, v2] := by rw [he]
 have q1 : e.ps.length ≤ maxLen := by rw [he]; exact hE.tl
 have q2 : ∀ t ∈ e.ps, t.length ≤ maxLen := by rw [he]; exact hE.tw
 have q3 : e.cs.length ≤ maxLen := by rw [he]; exact hE.cl
 rw [hqq]
 clear hE hqq he
 refine acall_go mixed Tryz.func4 rfl good4 fun pr => ?_
 simp -implicitDefEqProofs (disch := omega) only [Nat.reduceEqDiff, ↓reduceIte, vcu, ↓vcd]
 refine r_boxed fun b σ1 nb s1 eb => ?_
 replace eb : σ1 b = some ⟨[.int .i64 e.s.O, .int .i64 e.s.E, .int .i64 e.s.M, v1, v2], false⟩ := eb
 replace hv := hv.sub s1
 replace hd := hd.sub s1
 clear s1 nb
 have sa : Sub σ1 σ1 := Sub.refl _
 have hsz := szEx_calls (w0 := w0) σ1 _ e hv q1 q2 q3
 unfold exV at hsz
 have l1 : lds σ1 b 0 5 = some [.int .i64 e.s.O, .int .i64 e.s.E, .int .i64 e.s.M, v1, v2] := by rw [lds_of (sa _ _ eb) (by simp)]; rfl
 simp -implicitDefEqProofs (disch := omega) only [Nat.reduceEqDiff, ↓reduceIte, vcu, ↓vcd, l1, co32, co27]
 refine hsz.mono ?_
 rintro _ _ ⟨⟨n, rfl, hn, hc⟩, rfl⟩
 rename_i σ1
 clear hsz
 simp -implicitDefEqProofs (disch := omega) only [Nat.reduceEqDiff, ↓reduceIte, vcu, ↓vcd, opK_some]
 by_cases hneg : n < 0
 ·simp -implicitDefEqProofs (disch := omega) only [Nat.reduceEqDiff, ↓reduceIte, vcu, ↓vcd]
  refine fin_one Tryz.results4 ?_
  simp -implicitDefEqProofs (disch := omega) only [Nat.reduceEqDiff, ↓reduceIte, vcu, ↓vcd]
 have hb := hc.resolve_left hneg
 clear hc q1 q2 q3
 have hnl : ¬ n < 0 := hneg
 have hsz2 := szTextsN_calls (w0 := w0) σ1 vd ds n ⟨by omega, hn⟩ hd hm hw
 simp -implicitDefEqProofs (disch := omega) only [Nat.reduceEqDiff, ↓reduceIte, vcu, ↓vcd]
 refine hsz2.mono ?_
 rintro _ _ ⟨⟨n2, rfl, hn2, hc2⟩, rfl⟩
 rename_i σ1
 clear hsz2
 simp -implicitDefEqProofs (disch := omega) only [Nat.reduceEqDiff, ↓reduceIte, vcu, ↓vcd, opK_some]
 by_cases hneg2 : n2 < 0
 ·simp -implicitDefEqProofs (disch := omega) only [Nat.reduceEqDiff, ↓reduceIte, vcu, ↓vcd]
  refine fin_one Tryz.results4 ?_
  simp -implicitDefEqProofs (disch := omega) only [Nat.reduceEqDiff, ↓reduceIte, vcu, ↓vcd]
 obtain ⟨hl, hp⟩ := hc2.resolve_left hneg2
 clear hc2 hw hm
 have hto := fun (T : AHeap) (h : Sub σ1 T) => toEx_calls (w0 := w0) T _ e (hv.sub h) hb
 unfold exV at hto
 have hsp := fun (T : AHeap) (a1 a2 a3 : Value) (h : ExV T (exV a1 a2 e) e) (h2 : Texts T a3 ds) => exLines_calls (w0 := w0) T (exV a1 a2 e) a3 e ds h hb h2 hl hp
 have him := fun (T : AHeap) (a1 a2 a3 : Value) (h : ExV T (exV a1 a2 e) e) (h2 : Texts T a3 ds) => implES_calls (w0 := w0) T (exV a1 a2 e) a3 e ds h hb h2 hl hp
 have hB := exLinesB e ds
 generalize exLines e ds = R at hsp him hB
 obtain ⟨f, ans⟩ := R
 dsimp only at hsp him hB
 unfold exV at hsp him
 obtain ⟨hB, hBa⟩ := hB
 have l2 : lds σ1 b 0 5 = some [.int .i64 e.s.O, .int .i64 e.s.E, .int .i64 e.s.M, v1, v2] := by rw [lds_of (sa _ _ eb) (by simp)]; rfl
 simp -implicitDefEqProofs (disch := omega) only [Nat.reduceEqDiff, ↓reduceIte, vcu, ↓vcd, l2, co32, co27]
 refine (hto _ sa).mono ?_
 rintro _ T3 ⟨r3, u3a, u3b, rfl, p3a, p3b⟩
 replace sa := sa.trans r3
 simp -implicitDefEqProofs (disch := omega) only [Nat.reduceEqDiff, ↓reduceIte, vcu, ↓vcd, opK_some, exV]
 refine (toTexts_calls _ vd ds (hd.sub sa) hl).mono ?_
 rintro _ T4 ⟨y4g, y4n, rfl, r4, y4e⟩
 obtain ⟨y4, hy4⟩ : ∃ v : Value, v = .slice (some ⟨y4g, 0, none⟩) ds.length 1 := ⟨_, rfl⟩
 have yo4 : OwnS T3 T4 y4 ds := .inr ⟨y4g, hy4, y4e, y4n⟩
 rw [← hy4]
 replace sa := sa.trans r4
 replace p3a := p3a.sub r4
 replace p3b := p3b.sub r4
 simp -implicitDefEqProofs (disch := omega) only [Nat.reduceEqDiff, ↓reduceIte, vcu, ↓vcd, opK_some]
 refine (hsp _ _ _ _ ⟨u3a, u3b, rfl, p3a.texts, p3b.tris⟩ yo4.texts).mono ?_
 rintro _ T5 ⟨_, u5c, rfl, r5, ⟨u5a, u5b, rfl, p5a, p5b⟩, p5c, as5⟩
 replace sa := sa.trans r5
 have o6 := exC_one (show OwnX T4 T5 (exV u5a u5b f) f from ⟨u5a, u5b, rfl, p5a, p5b⟩)
 simp -implicitDefEqProofs (disch := omega) only [Nat.reduceEqDiff, ↓reduceIte, vcu, ↓vcd, opK_some, List.getElem?_toArray, List.getElem?_cons_zero, List.getElem?_cons_succ, exV]
 refine r_local (cs := #[.int .i64 f.s.O, .int .i64 f.s.E, .int .i64 f.s.M, u5a, u5b]) ze32 (by decide) z9q (by rw [co32]; rfl) rfl o6 (Nat.zero_lt_succ _) fun cw T6 nw r6 ew => ?_
 replace ew : T6 cw = some ⟨[.int .i64 f.s.O, .int .i64 f.s.E, .int .i64 f.s.M, u5a, u5b], false⟩ := ew
 have ddwa : ∀ n z, u5a ≠ .slice (some ⟨cw, 0, none⟩) n z := by
  rintro n z rfl
  rcases p5a with ⟨h, _⟩ | ⟨g, h, hg, _⟩ <;> cases h
  rw [nw] at hg; cases hg
 have ddwb : ∀ n z, u5b ≠ .slice (some ⟨cw, 0, none⟩) n z := by
  rintro n z rfl
  rcases p5b with ⟨h, _⟩ | ⟨g, h, hg, _⟩ <;> cases h
  rw [nw] at hg; cases hg
 replace sa := sa.trans r6
 replace p5a := p5a.sub r6
 replace p5b := p5b.sub r6
 have sw : Sub T6 T6 := Sub.refl _
 replace p5c := p5c.sub r6
 have l7 : lds T6 b 0 5 = some [.int .i64 e.s.O, .int .i64 e.s.E, .int .i64 e.s.M, v1, v2] := by rw [lds_of (sa _ _ eb) (by simp)]; rfl
 simp -implicitDefEqProofs (disch := omega) only [Nat.reduceEqDiff, ↓reduceIte, vcu, ↓vcd, l7, co32, co27, opK_some, List.getElem?_toArray, List.getElem?_cons_zero, List.getElem?_cons_succ]
 have bx_a := sa
 have bx_w := sw
 refine (hto _ sa).mono ?_
 rintro _ T8 ⟨r8, u8a, u8b, rfl, p8a, p8b⟩
 replace sa := sa.trans r8
 replace sw := sw.trans r8
 have o9 := exC_one (show OwnX T6 T8 (exV u8a u8b e) e from ⟨u8a, u8b, rfl, p8a, p8b⟩)
 simp -implicitDefEqProofs (disch := omega) only [Nat.reduceEqDiff, ↓reduceIte, vcu, ↓vcd, opK_some, exV]
 refine r_local (cs := #[.int .i64 e.s.O, .int .i64 e.s.E, .int .i64 e.s.M, u8a, u8b]) ze32 (by decide) z9q (by rw [co32]; rfl) rfl o9 (Nat.zero_lt_succ _) fun cx T9 nx r9 ex => ?_
 replace ex : T9 cx = some ⟨[.int .i64 e.s.O, .int .i64 e.s.E, .int .i64 e.s.M, u8a, u8b], false⟩ := ex
 have ddxa : ∀ n z, u8a ≠ .slice (some ⟨cx, 0, none⟩) n z := by
  rintro n z rfl
  rcases p8a with ⟨h, _⟩ | ⟨g, h, hg, _⟩ <;> cases h
  rw [nx] at hg; cases hg
 have ddxb : ∀ n z, u8b ≠ .slice (some ⟨cx, 0, none⟩) n z := by
  rintro n z rfl
  rcases p8b with ⟨h, _⟩ | ⟨g, h, hg, _⟩ <;> cases h
  rw [nx] at hg; cases hg
 replace sa := sa.trans r9
 replace sw := sw.trans r9
 replace p8a := p8a.sub r9
 replace p8b := p8b.sub r9
 have sx : Sub T9 T9 := Sub.refl _
 simp -implicitDefEqProofs (disch := omega) only [Nat.reduceEqDiff, ↓reduceIte, vcu, ↓vcd]
 have by_a := sa
 have by_w := sw
 have by_x := sx
 refine (toTexts_calls _ vd ds (hd.sub sa) hl).mono ?_
 rintro _ T10 ⟨y10g, y10n, rfl, r10, y10e⟩
 obtain ⟨y10, hy10⟩ : ∃ v : Value, v = .slice (some ⟨y10g, 0, none⟩) ds.length 1 := ⟨_, rfl⟩
 have yo10 : OwnS T9 T10 y10 ds := .inr ⟨y10g, hy10, y10e, y10n⟩
 rw [← hy10]
 replace sa := sa.trans r10
 replace sw := sw.trans r10
 replace sx := sx.trans r10
 have sy : Sub T10 T10 := Sub.refl _
 simp -implicitDefEqProofs (disch := omega) only [Nat.reduceEqDiff, ↓reduceIte, vcu, ↓vcd, opK_some]
 have l11 : lds T10 cx 0 5 = some [.int .i64 e.s.O, .int .i64 e.s.E, .int .i64 e.s.M, u8a, u8b] := by rw [lds_of (sx _ _ ex) (by simp)]; rfl
 simp -implicitDefEqProofs (disch := omega) only [Nat.reduceEqDiff, ↓reduceIte, vcu, ↓vcd, l11, co32, co27]
 have bg_a := sa
 have bg_w := sw
 have bg_x := sx
 have bg_y := sy
 refine (him _ _ _ _ ⟨u8a, u8b, rfl, (p8a.sub sx).texts, (p8b.sub sx).tris⟩ (yo10.sub sy).texts).mono ?_
 rintro _ T12 ⟨_, u12c, rfl, r12, ⟨u12a, u12b, rfl, p12a, p12b⟩, p12c, as12⟩
 replace sa := sa.trans r12
 replace sw := sw.trans r12
 replace sx := sx.trans r12
 replace sy := sy.trans r12
 have pc0 := p12c
 have o13 := exC_one (show OwnX T10 T12 (exV u12a u12b f) f from ⟨u12a, u12b, rfl, p12a, p12b⟩)
 simp -implicitDefEqProofs (disch := omega) only [Nat.reduceEqDiff, ↓reduceIte, vcu, ↓vcd, opK_some, List.getElem?_toArray, List.getElem?_cons_zero, List.getElem?_cons_succ, exV]
 refine r_local (cs := #[.int .i64 f.s.O, .int .i64 f.s.E, .int .i64 f.s.M, u12a, u12b]) ze32 (by decide) z9q (by rw [co32]; rfl) rfl o13 (Nat.zero_lt_succ _) fun cg T13 ng r13 eg => ?_
 replace eg : T13 cg = some ⟨[.int .i64 f.s.O, .int .i64 f.s.E, .int .i64 f.s.M, u12a, u12b], false⟩ := eg
 have ddga : ∀ n z, u12a ≠ .slice (some ⟨cg, 0, none⟩) n z := by
  rintro n z rfl
  rcases p12a with ⟨h, _⟩ | ⟨g, h, hg, _⟩ <;> cases h
  rw [ng] at hg; cases hg
 have ddgb : ∀ n z, u12b ≠ .slice (some ⟨cg, 0, none⟩) n z := by
  rintro n z rfl
  rcases p12b with ⟨h, _⟩ | ⟨g, h, hg, _⟩ <;> cases h
  rw [ng] at hg; cases hg
 replace sa := sa.trans r13
 replace sw := sw.trans r13
 replace sx := sx.trans r13
 replace sy := sy.trans r13
 replace p12a := p12a.sub r13
 replace p12b := p12b.sub r13
 have sg : Sub T13 T13 := Sub.refl _
 replace p12c := p12c.sub r13
 have l14 : lds T13 cg 0 5 = some [.int .i64 f.s.O, .int .i64 f.s.E, .int .i64 f.s.M, u12a, u12b] := by rw [lds_of (sg _ _ eg) (by simp)]; rfl
 have l15 : lds T13 cw 0 5 = some [.int .i64 f.s.O, .int .i64 f.s.E, .int .i64 f.s.M, u5a, u5b] := by rw [lds_of (sw _ _ ew) (by simp)]; rfl
 have h16 := eqEx_calls (w0 := w0) T13 (exV u12a u12b f) (exV u5a u5b f) f f ⟨u12a, u12b, rfl, (p12a.sub sg).texts, (p12b.sub sg).tris⟩ ⟨u5a, u5b, rfl, (p5a.sub sw).texts, (p5b.sub sw).tris⟩ hB hB
 unfold exV at h16
 simp -implicitDefEqProofs (disch := omega) only [Nat.reduceEqDiff, ↓reduceIte, vcu, ↓vcd, l14, l15, co32, co27]
 refine (h16).mono ?_
 rintro _ _ ⟨rfl, rfl⟩
 rename_i T13
 simp -implicitDefEqProofs (disch := omega) only [Nat.reduceEqDiff, ↓reduceIte, vcu, ↓vcd, opK_some, List.getElem?_toArray, List.getElem?_cons_zero, List.getElem?_cons_succ, eq_self, decide_true, Bool.not_true, beq_self_eq_true, ne_eq, not_true_eq_false]
 refine (eqTexts_calls T13 _ _ ans ans (p12c.sub sg).texts (p5c.sub sw).texts hBa hBa).mono ?_
 rintro _ _ ⟨rfl, rfl⟩
 rename_i T13
 simp -implicitDefEqProofs (disch := omega) only [Nat.reduceEqDiff, ↓reduceIte, vcu, ↓vcd, opK_some, eq_self, decide_true, Bool.not_true, beq_self_eq_true, ne_eq, not_true_eq_false]
 have l17 : lds T13 cx 0 5 = some [.int .i64 e.s.O, .int .i64 e.s.E, .int .i64 e.s.M, u8a, u8b] := by rw [lds_of (sx _ _ ex) (by simp)]; rfl
 have l18 : lds T13 b 0 5 = some [.int .i64 e.s.O, .int .i64 e.s.E, .int .i64 e.s.M, v1, v2] := by rw [lds_of (sa _ _ eb) (by simp)]; rfl
 refine region_tree mixed (quiets [0, 1] (.one 2 (.one 3 (quiets [4] .stop)))) [([0, 1], Sub T13)] (by kernel_rfl) (by kernel_rfl) (fun p hp => by simp only [List.mem_singleton] at hp; subst hp; exact Sub.refl _) ?_
 refine tree_quiets T13 _ _ _ sf1 (by kernel_rfl) (by kernel_rfl) ?_
 simp -implicitDefEqProofs (disch := omega) only [Nat.reduceEqDiff, ↓reduceIte, vcu, ↓vcd, pickOps_nil, pickOps_cons, pickO_some, List.getElem?_cons_succ, List.getElem?_cons_zero, l17, l18, co32, co27]
 refine tree_one rfl ?_
 try simp -implicitDefEqProofs (disch := omega) only [Nat.reduceEqDiff, ↓reduceIte, vcu, ↓vcd]
 refine (hto _ sa).mono ?_
 rintro _ T19 ⟨r19, u19a, u19b, rfl, p19a, p19b⟩
 replace sa := sa.trans r19
 replace sw := sw.trans r19
 replace sx := sx.trans r19
 replace sy := sy.trans r19
 replace sg := sg.trans r19
 have h20 := eqEx_calls (w0 := w0) T19 (exV u8a u8b e) (exV u19a u19b e) e e ⟨u8a, u8b, rfl, (p8a.sub sx).texts, (p8b.sub sx).tris⟩ ⟨u19a, u19b, rfl, p19a.texts, p19b.tris⟩ hb hb
 unfold exV at h20
 simp -implicitDefEqProofs (disch := omega) only [Nat.reduceEqDiff, ↓reduceIte, vcu, ↓vcd, opK_some, exV]
 refine ⟨keep_of rfl (fun p hp => by simp only [List.mem_singleton] at hp; subst hp; exact .inr r19), ?_⟩
 refine tree_one rfl ?_
 try simp -implicitDefEqProofs (disch := omega) only [Nat.reduceEqDiff, ↓reduceIte, vcu, ↓vcd]
 refine (h20).mono ?_
 rintro _ _ ⟨rfl, rfl⟩
 rename_i T19
 simp -implicitDefEqProofs (disch := omega) only [Nat.reduceEqDiff, ↓reduceIte, vcu, ↓vcd, opK_some]
 refine ⟨.inl rfl, ?_⟩
 refine tree_quiets _ _ _ _ sf0 (by kernel_rfl) (by kernel_rfl) ?_
 simp -implicitDefEqProofs (disch := omega) only [Nat.reduceEqDiff, ↓reduceIte, vcu, ↓vcd, pickOps_nil, pickOps_cons, pickO_some, List.getElem?_cons_succ, List.getElem?_cons_zero, eq_self, decide_true, Bool.not_true]
 refine tree_stop ?_
 try simp -implicitDefEqProofs (disch := omega) only [Nat.reduceEqDiff, ↓reduceIte, vcu, ↓vcd]
 refine (toTexts_calls _ vd ds (hd.sub sa) hl).mono ?_
 rintro _ T21 ⟨y21g, y21n, rfl, r21, y21e⟩
 obtain ⟨y21, hy21⟩ : ∃ v : Value, v = .slice (some ⟨y21g, 0, none⟩) ds.length 1 := ⟨_, rfl⟩
 have yo21 : OwnS T19 T21 y21 ds := .inr ⟨y21g, hy21, y21e, y21n⟩
 rw [← hy21]
 replace sa := sa.trans r21
 replace sw := sw.trans r21
 replace sx := sx.trans r21
 replace sy := sy.trans r21
 replace sg := sg.trans r21
 simp -implicitDefEqProofs (disch := omega) only [Nat.reduceEqDiff, ↓reduceIte, vcu, ↓vcd, opK_some]
 refine (eqTexts_calls T21 _ _ ds ds (yo10.sub sy).texts yo21.texts hl hl).mono ?_
 rintro _ _ ⟨rfl, rfl⟩
 rename_i T21
 simp -implicitDefEqProofs (disch := omega) only [Nat.reduceEqDiff, ↓reduceIte, vcu, ↓vcd, opK_some, eq_self, decide_true, Bool.not_true, beq_self_eq_true, ne_eq, not_true_eq_false]
 have l22 : lds T21 cx 0 5 = some [.int .i64 e.s.O, .int .i64 e.s.E, .int .i64 e.s.M, u8a, u8b] := by rw [lds_of (sx _ _ ex) (by simp)]; rfl
 simp -implicitDefEqProofs (disch := omega) only [Nat.reduceEqDiff, ↓reduceIte, vcu, ↓vcd, l22, co32, co27]
 refine (markX_kp T6 T9 T21 u8a u8b e 1 ⟨u8a, u8b, rfl, p8a, p8b⟩ sx hb (by omega)).mono ?_
 rintro _ M23 ⟨rfl, ox, kx, -⟩
 replace sa := kx.sub bx_a sa
 replace sw := kx.sub bx_w sw
 have yc := kx.ownS (yo10.sub sy) by_x
 clear sy
 have rg := r12
 replace p12a := kx.ownS (p12a.sub sg) bg_x
 replace p12b := kx.ownC (p12b.sub sg) bg_x
 replace p12c := kx.ownS (p12c.sub sg) bg_x
 replace eg := kx.cell (sg _ _ eg) (free_sub bg_x (free_sub rg ng))
 clear sg
 have sg : Sub M23 M23 := Sub.refl _
 simp -implicitDefEqProofs (disch := omega) only [Nat.reduceEqDiff, ↓reduceIte, vcu, ↓vcd, opK_some]
 refine (markT_kp T9 T10 M23 y10 ds (1 + (e.ps.length : Int) + 3 * e.cs.length) yo10 yc hl (by have := hb.1; have := hb.2.2; omega)).mono ?_
 rintro _ M24 ⟨rfl, -, ky, -⟩
 replace sa := ky.sub by_a sa
 replace sw := ky.sub by_w sw
 replace p12a := ky.ownS (p12a.sub sg) bg_y
 replace p12b := ky.ownC (p12b.sub sg) bg_y
 replace p12c := ky.ownS (p12c.sub sg) bg_y
 replace eg := ky.cell (sg _ _ eg) (free_sub bg_y (free_sub rg ng))
 clear sg
 have sg : Sub M24 M24 := Sub.refl _
 simp -implicitDefEqProofs (disch := omega) only [Nat.reduceEqDiff, ↓reduceIte, vcu, ↓vcd, opK_some]
 have hm0 : decide (1 + (e.ps.length : Int) + 3 * e.cs.length + ds.length < 0) = false := by rw [decide_eq_false_iff_not]; omega
 have l25 : lds M24 cg 0 5 = some [.int .i64 f.s.O, .int .i64 f.s.E, .int .i64 f.s.M, u12a, u12b] := by rw [lds_of (sg _ _ eg) (by simp)]; rfl
 have l26 : lds M24 cw 0 5 = some [.int .i64 f.s.O, .int .i64 f.s.E, .int .i64 f.s.M, u5a, u5b] := by rw [lds_of (sw _ _ ew) (by simp)]; rfl
 have h27 := eqEx_calls (w0 := w0) M24 (exV u12a u12b f) (exV u5a u5b f) f f ⟨u12a, u12b, rfl, (p12a.sub sg).texts, (p12b.sub sg).tris⟩ ⟨u5a, u5b, rfl, (p5a.sub sw).texts, (p5b.sub sw).tris⟩ hB hB
 unfold exV at h27
 simp -implicitDefEqProofs (disch := omega) only [Nat.reduceEqDiff, ↓reduceIte, vcu, ↓vcd, hm0, l25, l26, co32, co27]
 refine (h27).mono ?_
 rintro _ _ ⟨rfl, rfl⟩
 rename_i M24
 simp -implicitDefEqProofs (disch := omega) only [Nat.reduceEqDiff, ↓reduceIte, vcu, ↓vcd, opK_some, List.getElem?_toArray, List.getElem?_cons_zero, List.getElem?_cons_succ, eq_self, decide_true, Bool.not_true, beq_self_eq_true, ne_eq, not_true_eq_false]
 refine (eqTexts_calls M24 _ _ ans ans (p12c.sub sg).texts (p5c.sub sw).texts hBa hBa).mono ?_
 rintro _ _ ⟨rfl, rfl⟩
 rename_i M24
 simp -implicitDefEqProofs (disch := omega) only [Nat.reduceEqDiff, ↓reduceIte, vcu, ↓vcd, opK_some, eq_self, decide_true, Bool.not_true, beq_self_eq_true, ne_eq, not_true_eq_false]
 have l28 : lds M24 cg 0 5 = some [.int .i64 f.s.O, .int .i64 f.s.E, .int .i64 f.s.M, u12a, u12b] := by rw [lds_of (sg _ _ eg) (by simp)]; rfl
 simp -implicitDefEqProofs (disch := omega) only [Nat.reduceEqDiff, ↓reduceIte, vcu, ↓vcd, l28, co32, co27]
 refine (markX_kp T10 M24 M24 u12a u12b f 1 ⟨u12a, u12b, rfl, p12a, p12b⟩ sg hB (by omega)).mono ?_
 rintro r M29 ⟨hr, om, kg, kk⟩
 subst hr
 have pc1 := ownS_frame (p12c.sub sg) kk (fun g n z h => as12 _ _ _ _ _ g n z rfl h)
 replace sa := kg.sub bg_a sa
 replace sw := kg.sub bg_w sw
 replace eg := kk _ _ (sg _ _ eg) ddga ddgb
 clear sg
 have sg : Sub M29 M29 := Sub.refl _
 simp -implicitDefEqProofs (disch := omega) only [Nat.reduceEqDiff, ↓reduceIte, vcu, ↓vcd, opK_some]
 refine (markT_kp T10 T12 M29 u12c ans ((1 : Int) + f.ps.length + 3 * f.cs.length) pc0 (pc1.sub sg) hBa (by have := hB.1; have := hB.2.2; omega)).mono ?_
 rintro r M30 ⟨hr, om2, kt, kk2⟩
 replace om := ownX_frame (om.sub sg) as12 kk2
 replace sa := kt.sub bg_a sa
 replace sw := kt.sub bg_w sw
 replace eg := kt.cell (sg _ _ eg) ng
 clear sg
 have sg : Sub M30 M30 := Sub.refl _
 generalize hqm : (1 : Int) + f.ps.length + 3 * f.cs.length + (ans.length : Int) = qm at hr
 subst hr
 have hq0 : decide (qm < 0) = false := by rw [decide_eq_false_iff_not, ← hqm]; omega
 simp -implicitDefEqProofs (disch := omega) only [Nat.reduceEqDiff, ↓reduceIte, vcu, ↓vcd, opK_some]
 have l32 : lds M30 cg 0 5 = some [.int .i64 f.s.O, .int .i64 f.s.E, .int .i64 f.s.M, u12a, u12b] := by rw [lds_of (sg _ _ eg) (by simp)]; rfl
 simp -implicitDefEqProofs (disch := omega) only [Nat.reduceEqDiff, ↓reduceIte, vcu, ↓vcd, opK_some, l32, co32, co27]
 have h31 := heldEx_calls (w0 := w0) M30 (exV u12a u12b f) f 1 (om.ex.sub sg) hB (by omega)
 unfold exV at h31
 refine h31.mono ?_
 rintro r _ ⟨rfl, rfl⟩
 rename_i M30
 simp -implicitDefEqProofs (disch := omega) only [Nat.reduceEqDiff, ↓reduceIte, vcu, ↓vcd, opK_some]
 refine (heldS_calls (w0 := w0) M30 u12c ans.length ((1 : Int) + f.ps.length + 3 * f.cs.length) (om2.sub sg).texts hBa (by have := hB.1; have := hB.2.2; omega)).mono ?_
 rintro r _ ⟨hr, rfl⟩
 rename_i M30
 rw [hqm] at hr
 subst hr
 simp -implicitDefEqProofs (disch := omega) only [Nat.reduceEqDiff, ↓reduceIte, vcu, ↓vcd, hq0, opK_some, List.getElem?_toArray, List.getElem?_cons_zero, List.getElem?_cons_succ, eq_self, decide_true, Bool.not_true, beq_self_eq_true, ne_eq, not_true_eq_false]
 have l33 : lds M30 b 0 5 = some [.int .i64 e.s.O, .int .i64 e.s.E, .int .i64 e.s.M, v1, v2] := by rw [lds_of (sa _ _ eb) (by simp)]; rfl
 simp -implicitDefEqProofs (disch := omega) only [Nat.reduceEqDiff, ↓reduceIte, vcu, ↓vcd, l33, co32, co27, opK_some, List.getElem?_toArray, List.getElem?_cons_zero, List.getElem?_cons_succ]
 refine (hto _ sa).mono ?_
 rintro _ T34 ⟨r34, u34a, u34b, rfl, p34a, p34b⟩
 replace sa := sa.trans r34
 replace sw := sw.trans r34
 replace sg := sg.trans r34
 simp -implicitDefEqProofs (disch := omega) only [Nat.reduceEqDiff, ↓reduceIte, vcu, ↓vcd, opK_some, exV]
 refine (toTexts_calls _ vd ds (hd.sub sa) hl).mono ?_
 rintro _ T35 ⟨y35g, y35n, rfl, r35, y35e⟩
 obtain ⟨y35, hy35⟩ : ∃ v : Value, v = .slice (some ⟨y35g, 0, none⟩) ds.length 1 := ⟨_, rfl⟩
 have yo35 : OwnS T34 T35 y35 ds := .inr ⟨y35g, hy35, y35e, y35n⟩
 rw [← hy35]
 replace sa := sa.trans r35
 replace sw := sw.trans r35
 replace sg := sg.trans r35
 replace p34a := p34a.sub r35
 replace p34b := p34b.sub r35
 simp -implicitDefEqProofs (disch := omega) only [Nat.reduceEqDiff, ↓reduceIte, vcu, ↓vcd, opK_some]
 refine (him _ _ _ _ ⟨u34a, u34b, rfl, p34a.texts, p34b.tris⟩ yo35.texts).mono ?_
 rintro _ T36 ⟨_, u36c, rfl, r36, ⟨u36a, u36b, rfl, p36a, p36b⟩, p36c, as36⟩
 replace sa := sa.trans r36
 replace sw := sw.trans r36
 replace sg := sg.trans r36
 have o37 := exC_one (show OwnX T35 T36 (exV u36a u36b f) f from ⟨u36a, u36b, rfl, p36a, p36b⟩)
 simp -implicitDefEqProofs (disch := omega) only [Nat.reduceEqDiff, ↓reduceIte, vcu, ↓vcd, opK_some, List.getElem?_toArray, List.getElem?_cons_zero, List.getElem?_cons_succ, exV]
 refine r_local (cs := #[.int .i64 f.s.O, .int .i64 f.s.E, .int .i64 f.s.M, u36a, u36b]) ze32 (by decide) z9q (by rw [co32]; rfl) rfl o37 (Nat.zero_lt_succ _) fun ch T37 nh r37 eh => ?_
 replace eh : T37 ch = some ⟨[.int .i64 f.s.O, .int .i64 f.s.E, .int .i64 f.s.M, u36a, u36b], false⟩ := eh
 have ddha : ∀ n z, u36a ≠ .slice (some ⟨ch, 0, none⟩) n z := by
  rintro n z rfl
  rcases p36a with ⟨h, _⟩ | ⟨g, h, hg, _⟩ <;> cases h
  rw [nh] at hg; cases hg
 have ddhb : ∀ n z, u36b ≠ .slice (some ⟨ch, 0, none⟩) n z := by
  rintro n z rfl
  rcases p36b with ⟨h, _⟩ | ⟨g, h, hg, _⟩ <;> cases h
  rw [nh] at hg; cases hg
 replace sa := sa.trans r37
 replace sw := sw.trans r37
 replace sg := sg.trans r37
 replace p36a := p36a.sub r37
 replace p36b := p36b.sub r37
 have sh : Sub T37 T37 := Sub.refl _
 replace p36c := p36c.sub r37
 have l38 : lds T37 ch 0 5 = some [.int .i64 f.s.O, .int .i64 f.s.E, .int .i64 f.s.M, u36a, u36b] := by rw [lds_of (sh _ _ eh) (by simp)]; rfl
 have l39 : lds T37 cw 0 5 = some [.int .i64 f.s.O, .int .i64 f.s.E, .int .i64 f.s.M, u5a, u5b] := by rw [lds_of (sw _ _ ew) (by simp)]; rfl
 have h40 := eqEx_calls (w0 := w0) T37 (exV u36a u36b f) (exV u5a u5b f) f f ⟨u36a, u36b, rfl, (p36a.sub sh).texts, (p36b.sub sh).tris⟩ ⟨u5a, u5b, rfl, (p5a.sub sw).texts, (p5b.sub sw).tris⟩ hB hB
 unfold exV at h40
 simp -implicitDefEqProofs (disch := omega) only [Nat.reduceEqDiff, ↓reduceIte, vcu, ↓vcd, l38, l39, co32, co27]
 refine (h40).mono ?_
 rintro _ _ ⟨rfl, rfl⟩
 rename_i T37
 simp -implicitDefEqProofs (disch := omega) only [Nat.reduceEqDiff, ↓reduceIte, vcu, ↓vcd, opK_some, List.getElem?_toArray, List.getElem?_cons_zero, List.getElem?_cons_succ, eq_self, decide_true, Bool.not_true, beq_self_eq_true, ne_eq, not_true_eq_false]
 refine (eqTexts_calls T37 _ _ ans ans (p36c.sub sh).texts (p5c.sub sw).texts hBa hBa).mono ?_
 rintro _ _ ⟨rfl, rfl⟩
 rename_i T37
 simp -implicitDefEqProofs (disch := omega) only [Nat.reduceEqDiff, ↓reduceIte, vcu, ↓vcd, opK_some, eq_self, decide_true, Bool.not_true, beq_self_eq_true, ne_eq, not_true_eq_false]
 have l42 : lds T37 cg 0 5 = some [.int .i64 f.s.O, .int .i64 f.s.E, .int .i64 f.s.M, u12a, u12b] := by rw [lds_of (sg _ _ eg) (by simp)]; rfl
 simp -implicitDefEqProofs (disch := omega) only [Nat.reduceEqDiff, ↓reduceIte, vcu, ↓vcd, opK_some, l42, co32, co27]
 have h41 := heldEx_calls (w0 := w0) T37 (exV u12a u12b f) f 1 (om.ex.sub sg) hB (by omega)
 unfold exV at h41
 refine h41.mono ?_
 rintro r _ ⟨rfl, rfl⟩
 rename_i T37
 simp -implicitDefEqProofs (disch := omega) only [Nat.reduceEqDiff, ↓reduceIte, vcu, ↓vcd, opK_some]
 refine (heldS_calls (w0 := w0) T37 u12c ans.length ((1 : Int) + f.ps.length + 3 * f.cs.length) (om2.sub sg).texts hBa (by have := hB.1; have := hB.2.2; omega)).mono ?_
 rintro r _ ⟨hr, rfl⟩
 rename_i T37
 rw [hqm] at hr
 subst hr
 simp -implicitDefEqProofs (disch := omega) only [Nat.reduceEqDiff, ↓reduceIte, vcu, ↓vcd, hq0, opK_some, List.getElem?_toArray, List.getElem?_cons_zero, List.getElem?_cons_succ, eq_self, decide_true, Bool.not_true, beq_self_eq_true, ne_eq, not_true_eq_false]
 refine fin_one Tryz.results4 ?_
 simp -implicitDefEqProofs (disch := omega) only [Nat.reduceEqDiff, ↓reduceIte, vcu, ↓vcd]

open Go.ChangeShapes Go.WideShapes Go.ChangeAt Go.RowKit

noncomputable def laidW4 (os : Os) : World := World.doorLaid Tryz.prog 400 os
set_option maxRecDepth 100000 in
theorem laid_met4 (os : Os) : laidMetH Tryz.prog Rows.fnExactExLinesRow.laid ((laidW4 os).forCall (fun _ _ => 0) ⟨#[], #[.agg #[.int .i64 0, .int .i64 0, .int .i64 0, .slice none 0 0, .slice none 0 0], .slice none 0 0], []⟩).memory :=
 laidMetH_of_parts3 (fuel := 8) (laidMet_of_run' 8 (by kernel_rfl) (by kernel_rfl)) (by kernel_rfl) (by kernel_rfl)
set_option maxRecDepth 100000 in
theorem reads4 (os : Os) {H : Type} (enc : TypeId × Value → H) : (DataW.whole enc Tryz.prog ((laidW4 os).forCall (fun _ _ => 0) ⟨#[], #[.agg #[.int .i64 0, .int .i64 0, .int .i64 0, .slice none 0 0, .slice none 0 0], .slice none 0 0], []⟩).memory Tryz.f4.params.toList Rows.fnExactExLinesSpec.vars false (#[.agg #[.int .i64 0, .int .i64 0, .int .i64 0, .slice none 0 0, .slice none 0 0], .slice none 0 0] : Array Value).toList 8).isSome = true := by kernel_rfl
set_option maxRecDepth 100000 in
theorem lifted4 (os : Os) (started : os.Started) (H : Type) (enc : TypeId × Value → H) (F : Stop.Interp) :
  ReturnsInHanded {} Tryz.checked os 4 .any ((OpenSpec.ofChange Rows.fnExactExLinesSpec).preRow enc Tryz.prog Tryz.f4 Rows.fnExactExLinesRow.domain false Rows.fnExactExLinesRow.laid) (((OpenSpec.ofChange Rows.fnExactExLinesSpec).at F).post enc Tryz.prog Tryz.f4 false true false false) := by
 obtain ⟨x, hx⟩ := Option.isSome_iff_exists.1 (reads4 os enc)
 refine returnsInHanded_of_row (C := Tryz.checked) (s := OpenSpec.ofChange Rows.fnExactExLinesSpec) own started (by kernel_rfl) Tryz.func4
  (witness_row_at (enc := enc) (C := Tryz.checked) false (laidW4 os) #[.agg #[.int .i64 0, .int .i64 0, .int .i64 0, .slice none 0 0, .slice none 0 0], .slice none 0 0] rfl (by kernel_rfl) (by kernel_rfl) (by kernel_rfl)
   (OpenSpec.preRow_of_cond 8 hx (by kernel_rfl) (fun k hk => by cases hk) (by kernel_rfl) (laid_met4 os))) ?_
 intro W base args ds gs before hval hW _ _ _ hL hSh _
 rw [MakeChecks.laidMetH_plain _ _ _ (by kernel_rfl)] at hL
 haveI := glob_m hSh
 haveI := glob_e hL
 haveI := glob_t hL
 have hW' := hW
 obtain ⟨p, q, hA, hV, -, -, -⟩ := hW'
 rw [Tryz.params4] at hA hval
 obtain ⟨v0, vs0, d0, ds0, p0, q0, hargs, rfl, rfl, h0, r0⟩ := trodAll_cons hA
 obtain ⟨v1, vs1, d1, ds1, p1, q1, rfl, rfl, rfl, h1, r1⟩ := trodAll_cons r0
 obtain ⟨rfl, rfl, rfl⟩ := trodAll_nil r1
 obtain ⟨rfl, rfl⟩ := trodVars_none hV
 obtain rfl : args = #[v0, v1] := by cases args; simp_all
 obtain ⟨β0, σ0, acs0, dd0, L0, U0, S0, R0, Y0⟩ := start_rec (m := 5) (s := .rcd [.rcd [.int .i64, .int .i64, .int .i64], .slc .str, .slc (.rcd [.int .i64, .int .i64, .int .i64])]) (by kernel_rfl) Tryz.underlying27 (Start.start W) (hval 0 27 v0 rfl rfl) h0
 obtain ⟨x0, y0, z0, a0, b0, zs0, us0, rfl, E0⟩ := lay_exch Y0
 obtain ⟨β1, σ1, a1, dd1, L1, U1, S1, R1, Y1⟩ := start_one (m := 4) (s := .slc .str) (by kernel_rfl) S0 (slice_cells Tryz.underlying24 (hval 1 24 v1 rfl rfl)) h1
 obtain ⟨zs1, I1, w1, m1⟩ := lay_texts Y1
 refine ((law8ES σ1 x0 y0 z0 a0 b0 zs0 us0 a1 zs1 (E0.sub U1) (I1) m1 w1).2 noProt β1 W [v0, v1] S1.rel (.cons (RelV.mono L1 R0) (.cons R1 (.nil _)))).mono fun e W' h => ?_
 obtain ⟨β', r, r', σ', -, rfl, hr, hrel, rfl⟩ := h
 cases hr
 exact ⟨_, rfl, law_post laidOut hW rfl rfl (by rw [Tryz.params4]; intro t ht; simp only [List.mem_cons, List.not_mem_nil, or_false, or_self] at ht; rcases ht with rfl | rfl <;> exact ⟨by kernel_rfl, of_decide_eq_true (by kernel_rfl)⟩) rfl Tryz.underlying4 hrel.below⟩

theorem facts4 : joinedFacts Tryz.prog 4 Tryz.f4 Rows.fnExactExLinesSpec Rows.fnExactExLinesRow = true := by
 unfold joinedFacts
 rw [mayE, liftsE, makeE]
 kernel_rfl

set_option maxRecDepth 100000 in
theorem said4 : Rows.FnExactExLinesSaid :=
 OpenClaim.holds_of_cond 4 Tryz.f4 rfl rfl rfl rfl rfl rfl rfl ⟨rfl, rfl, rfl, rfl, rfl⟩ rfl rfl rfl rfl rfl (by kernel_rfl) Tryz.func4 facts4 (of_decide_eq_true (by kernel_rfl))
  (by unfold Func.isWrapper; first | (rw [if_pos (by decide +kernel)]; kernel_rfl) | (rw [if_neg (by decide +kernel)]; exact ⟨rfl, rfl⟩))
  (fun os started H enc _ F => by rw [OpenClaim.pre_eq_preRow]; exact lifted4 os started H enc F)
theorem plain4 (f : FuncId) (fn : Func) (hf : Tryz.pinned.checked.prog.funcNamed Rows.fnExactExLinesRow.func = some f) (hfn : Tryz.pinned.checked.prog.funcs[f]? = some fn) :
  true = Tryz.pinned.checked.prog.looks [] ∧ ∀ (j : Nat) t, fn.params[j]? = some t → Tryz.pinned.checked.prog.wantsStandIn t = false := by
 obtain rfl : f = 4 := Option.some.inj ((show Tryz.prog.funcNamed Rows.fnExactExLinesRow.func = some 4 by kernel_rfl).symm.trans hf) |>.symm
 obtain rfl : fn = Tryz.f4 := (Option.some.inj (Tryz.func4.symm.trans hfn)).symm
 refine ⟨isTrue_looks, fun j t ht => ?_⟩
 rw [Tryz.params4] at ht
 have ht2 : t = 27 ∨ t = 24 := by simpa using Array.mem_of_getElem? ht
 rcases ht2 with rfl | rfl
 ·exact (show Tryz.prog.wantsStandIn 27 = false by kernel_rfl)
 ·exact (show Tryz.prog.wantsStandIn 24 = false by kernel_rfl)
set_option maxRecDepth 100000 in
theorem proved4 : Rows.FnExactExLinesCardSaid :=
 Claim7.holds_tied_plain_at .later [] _ _ _ _ said4 (fun _ h => by cases h) (by kernel_rfl) (fun _ h => by cases h) fnExactExLines_row_tie rfl ⟨rfl, rfl⟩ (by kernel_rfl) rfl plain4 (by kernel_rfl)


end Go.Proofs.YtafkndnmhhjdhaaGreatDoor
