/- FnExactExLine answers true for all arguments. -/
import Derived.Test.YtafkndnmhhjdhaaGreatDoorSDi
set_option linter.unusedSimpArgs false
set_option linter.unusedVariables false
set_option maxHeartbeats 3200000
namespace Go.Proofs.YtafkndnmhhjdhaaGreatDoor
open Go Go.Abs Go.RowKit Go.Dial Go.Clos
variable {w0 : World} [GlobE w0] [GlobM w0] [GlobT w0]

set_option maxRecDepth 8000 in
theorem law8EL (σ : AHeap) (x y z : Int) (v1 v2 : Value) (ps : List (List UInt8)) (cs : List Cl) (t : List UInt8) (hE : ExL σ x y z v1 v2 ps cs) (hm : t.length ≤ maxLen) :
  ACall Tryz.prog w0 3 [.agg #[.int .i64 x, .int .i64 y, .int .i64 z, v1, v2], .string (tx t)] σ fun r _ => r = .bool true := by
 obtain ⟨e, he⟩ : ∃ e : Ex, e = ⟨⟨x, y, z⟩, ps, cs⟩ := ⟨_, rfl⟩
 have hv : ExV σ (exV v1 v2 e) e := by rw [he]; exact ⟨v1, v2, rfl, hE.tt, hE.cc⟩
 have hqq : (.agg #[.int .i64 x, .int .i64 y, .int .i64 z, v1, v2] : Value) = .agg #[.int .i64 e.s.O, .int .i64 e.s.E, .int .i64 e.s.M, v1, v2] := by rw [he]
 have q1 : e.ps.length ≤ maxLen := by rw [he]; exact hE.tl
 have q2 : ∀ t ∈ e.ps, t.length ≤ maxLen := by rw [he]; exact hE.tw
 have q3 : e.cs.length ≤ maxLen := by rw [he]; exact hE.cl
 rw [hqq]
 clear hE hqq he
 unfold maxLen at hm
 refine acall_go mixed Tryz.func3 rfl good3 fun pr => ?_
 simp -implicitDefEqProofs (disch := omega) only [Nat.reduceEqDiff, ↓reduceIte, vcu, ↓vcd]
 refine r_boxed fun b σ1 nb s1 eb => ?_
 replace eb : σ1 b = some ⟨[.int .i64 e.s.O, .int .i64 e.s.E, .int .i64 e.s.M, v1, v2], false⟩ := eb
 replace hv := hv.sub s1
 clear s1 nb
 have sa : Sub σ1 σ1 := Sub.refl _
 simp -implicitDefEqProofs (disch := omega) only [Nat.reduceEqDiff, ↓reduceIte, vcu, ↓vcd]
 by_cases hbig : 1048576 < t.length
 ·simp -implicitDefEqProofs (disch := omega) only [Nat.reduceEqDiff, ↓reduceIte, vcu, ↓vcd]
  refine fin_one Tryz.results3 ?_
  simp -implicitDefEqProofs (disch := omega) only [Nat.reduceEqDiff, ↓reduceIte, vcu, ↓vcd]
 have hl : t.length ≤ 1048576 := by omega
 have hsz := szEx_calls (w0 := w0) σ1 _ e hv q1 q2 q3
 unfold exV at hsz
 have l1 : lds σ1 b 0 5 = some [.int .i64 e.s.O, .int .i64 e.s.E, .int .i64 e.s.M, v1, v2] := by rw [lds_of (sa _ _ eb) (by simp)]; rfl
 simp -implicitDefEqProofs (disch := omega) only [Nat.reduceEqDiff, ↓reduceIte, vcu, ↓vcd, l1, co32, co27]
 refine hsz.mono ?_
 rintro _ _ ⟨⟨n, rfl, hn, hc⟩, rfl⟩
 rename_i σ1
 clear hsz
 simp -implicitDefEqProofs (disch := omega) only [Nat.reduceEqDiff, ↓reduceIte, vcu, ↓vcd, opK_some]
 by_cases hneg : n < 0
 ·simp -implicitDefEqProofs (disch := omega) only [Nat.reduceEqDiff, ↓reduceIte, vcu, ↓vcd]
  refine fin_one Tryz.results3 ?_
  simp -implicitDefEqProofs (disch := omega) only [Nat.reduceEqDiff, ↓reduceIte, vcu, ↓vcd]
 have hb := hc.resolve_left hneg
 clear hc q1 q2 q3
 have hto := fun (T : AHeap) (h : Sub σ1 T) => toEx_calls (w0 := w0) T _ e (hv.sub h) hb
 unfold exV at hto
 have hsp := fun (T : AHeap) (a1 a2 : Value) (h : ExV T (exV a1 a2 e) e) => exLine_calls (w0 := w0) T (exV a1 a2 e) e t h hb hl
 have him := fun (T : AHeap) (a1 a2 : Value) (h : ExV T (exV a1 a2 e) e) => implEL_calls (w0 := w0) T (exV a1 a2 e) e t h hb hl
 have hB := exLineB e t
 generalize exLine e t = R at hsp him hB
 obtain ⟨f, ans⟩ := R
 dsimp only at hsp him hB
 unfold exV at hsp him
 have l2 : lds σ1 b 0 5 = some [.int .i64 e.s.O, .int .i64 e.s.E, .int .i64 e.s.M, v1, v2] := by rw [lds_of (sa _ _ eb) (by simp)]; rfl
 simp -implicitDefEqProofs (disch := omega) only [Nat.reduceEqDiff, ↓reduceIte, vcu, ↓vcd, l2, co32, co27]
 refine (hto _ sa).mono ?_
 rintro _ T3 ⟨r3, u3a, u3b, rfl, p3a, p3b⟩
 replace sa := sa.trans r3
 simp -implicitDefEqProofs (disch := omega) only [Nat.reduceEqDiff, ↓reduceIte, vcu, ↓vcd, opK_some, exV]
 refine (hsp _ _ _ ⟨u3a, u3b, rfl, p3a.texts, p3b.tris⟩).mono ?_
 rintro _ T4 ⟨_, rfl, r4, u4a, u4b, rfl, p4a, p4b⟩
 replace sa := sa.trans r4
 have o5 := exC_one (show OwnX T3 T4 (exV u4a u4b f) f from ⟨u4a, u4b, rfl, p4a, p4b⟩)
 simp -implicitDefEqProofs (disch := omega) only [Nat.reduceEqDiff, ↓reduceIte, vcu, ↓vcd, opK_some, List.getElem?_toArray, List.getElem?_cons_zero, List.getElem?_cons_succ, exV]
 refine r_local (cs := #[.int .i64 f.s.O, .int .i64 f.s.E, .int .i64 f.s.M, u4a, u4b]) ze32 (by decide) z9q (by rw [co32]; rfl) rfl o5 (Nat.zero_lt_succ _) fun cw T5 nw r5 ew => ?_
 replace ew : T5 cw = some ⟨[.int .i64 f.s.O, .int .i64 f.s.E, .int .i64 f.s.M, u4a, u4b], false⟩ := ew
 have ddwa : ∀ n z, u4a ≠ .slice (some ⟨cw, 0, none⟩) n z := by
  rintro n z rfl
  rcases p4a with ⟨h, _⟩ | ⟨g, h, hg, _⟩ <;> cases h
  rw [nw] at hg; cases hg
 have ddwb : ∀ n z, u4b ≠ .slice (some ⟨cw, 0, none⟩) n z := by
  rintro n z rfl
  rcases p4b with ⟨h, _⟩ | ⟨g, h, hg, _⟩ <;> cases h
  rw [nw] at hg; cases hg
 replace sa := sa.trans r5
 replace p4a := p4a.sub r5
 replace p4b := p4b.sub r5
 have sw : Sub T5 T5 := Sub.refl _
 have l6 : lds T5 b 0 5 = some [.int .i64 e.s.O, .int .i64 e.s.E, .int .i64 e.s.M, v1, v2] := by rw [lds_of (sa _ _ eb) (by simp)]; rfl
 simp -implicitDefEqProofs (disch := omega) only [Nat.reduceEqDiff, ↓reduceIte, vcu, ↓vcd, l6, co32, co27, opK_some, List.getElem?_toArray, List.getElem?_cons_zero, List.getElem?_cons_succ]
 have bx_a := sa
 have bx_w := sw
 refine (hto _ sa).mono ?_
 rintro _ T7 ⟨r7, u7a, u7b, rfl, p7a, p7b⟩
 replace sa := sa.trans r7
 replace sw := sw.trans r7
 have o8 := exC_one (show OwnX T5 T7 (exV u7a u7b e) e from ⟨u7a, u7b, rfl, p7a, p7b⟩)
 simp -implicitDefEqProofs (disch := omega) only [Nat.reduceEqDiff, ↓reduceIte, vcu, ↓vcd, opK_some, exV]
 refine r_local (cs := #[.int .i64 e.s.O, .int .i64 e.s.E, .int .i64 e.s.M, u7a, u7b]) ze32 (by decide) z9q (by rw [co32]; rfl) rfl o8 (Nat.zero_lt_succ _) fun cx T8 nx r8 ex => ?_
 replace ex : T8 cx = some ⟨[.int .i64 e.s.O, .int .i64 e.s.E, .int .i64 e.s.M, u7a, u7b], false⟩ := ex
 have ddxa : ∀ n z, u7a ≠ .slice (some ⟨cx, 0, none⟩) n z := by
  rintro n z rfl
  rcases p7a with ⟨h, _⟩ | ⟨g, h, hg, _⟩ <;> cases h
  rw [nx] at hg; cases hg
 have ddxb : ∀ n z, u7b ≠ .slice (some ⟨cx, 0, none⟩) n z := by
  rintro n z rfl
  rcases p7b with ⟨h, _⟩ | ⟨g, h, hg, _⟩ <;> cases h
  rw [nx] at hg; cases hg
 replace sa := sa.trans r8
 replace sw := sw.trans r8
 replace p7a := p7a.sub r8
 replace p7b := p7b.sub r8
 have sx : Sub T8 T8 := Sub.refl _
 have l9 : lds T8 cx 0 5 = some [.int .i64 e.s.O, .int .i64 e.s.E, .int .i64 e.s.M, u7a, u7b] := by rw [lds_of (sx _ _ ex) (by simp)]; rfl
 simp -implicitDefEqProofs (disch := omega) only [Nat.reduceEqDiff, ↓reduceIte, vcu, ↓vcd, l9, co32, co27]
 have bg_a := sa
 have bg_w := sw
 have bg_x := sx
 refine (him _ _ _ ⟨u7a, u7b, rfl, (p7a.sub sx).texts, (p7b.sub sx).tris⟩).mono ?_
 rintro _ T10 ⟨_, rfl, r10, u10a, u10b, rfl, p10a, p10b⟩
 replace sa := sa.trans r10
 replace sw := sw.trans r10
 replace sx := sx.trans r10
 have o11 := exC_one (show OwnX T8 T10 (exV u10a u10b f) f from ⟨u10a, u10b, rfl, p10a, p10b⟩)
 simp -implicitDefEqProofs (disch := omega) only [Nat.reduceEqDiff, ↓reduceIte, vcu, ↓vcd, opK_some, List.getElem?_toArray, List.getElem?_cons_zero, List.getElem?_cons_succ, exV]
 refine r_local (cs := #[.int .i64 f.s.O, .int .i64 f.s.E, .int .i64 f.s.M, u10a, u10b]) ze32 (by decide) z9q (by rw [co32]; rfl) rfl o11 (Nat.zero_lt_succ _) fun cg T11 ng r11 eg => ?_
 replace eg : T11 cg = some ⟨[.int .i64 f.s.O, .int .i64 f.s.E, .int .i64 f.s.M, u10a, u10b], false⟩ := eg
 have ddga : ∀ n z, u10a ≠ .slice (some ⟨cg, 0, none⟩) n z := by
  rintro n z rfl
  rcases p10a with ⟨h, _⟩ | ⟨g, h, hg, _⟩ <;> cases h
  rw [ng] at hg; cases hg
 have ddgb : ∀ n z, u10b ≠ .slice (some ⟨cg, 0, none⟩) n z := by
  rintro n z rfl
  rcases p10b with ⟨h, _⟩ | ⟨g, h, hg, _⟩ <;> cases h
  rw [ng] at hg; cases hg
 replace sa := sa.trans r11
 replace sw := sw.trans r11
 replace sx := sx.trans r11
 replace p10a := p10a.sub r11
 replace p10b := p10b.sub r11
 have sg : Sub T11 T11 := Sub.refl _
 have l12 : lds T11 cg 0 5 = some [.int .i64 f.s.O, .int .i64 f.s.E, .int .i64 f.s.M, u10a, u10b] := by rw [lds_of (sg _ _ eg) (by simp)]; rfl
 have l13 : lds T11 cw 0 5 = some [.int .i64 f.s.O, .int .i64 f.s.E, .int .i64 f.s.M, u4a, u4b] := by rw [lds_of (sw _ _ ew) (by simp)]; rfl
 have h14 := eqEx_calls (w0 := w0) T11 (exV u10a u10b f) (exV u4a u4b f) f f ⟨u10a, u10b, rfl, (p10a.sub sg).texts, (p10b.sub sg).tris⟩ ⟨u4a, u4b, rfl, (p4a.sub sw).texts, (p4b.sub sw).tris⟩ hB hB
 unfold exV at h14
 simp -implicitDefEqProofs (disch := omega) only [Nat.reduceEqDiff, ↓reduceIte, vcu, ↓vcd, l12, l13, co32, co27]
 refine (h14).mono ?_
 rintro _ _ ⟨rfl, rfl⟩
 rename_i T11
 simp -implicitDefEqProofs (disch := omega) only [Nat.reduceEqDiff, ↓reduceIte, vcu, ↓vcd, opK_some, List.getElem?_toArray, List.getElem?_cons_zero, List.getElem?_cons_succ, eq_self, decide_true, Bool.not_true, beq_self_eq_true, ne_eq, not_true_eq_false]
 have l15 : lds T11 cx 0 5 = some [.int .i64 e.s.O, .int .i64 e.s.E, .int .i64 e.s.M, u7a, u7b] := by rw [lds_of (sx _ _ ex) (by simp)]; rfl
 have l16 : lds T11 b 0 5 = some [.int .i64 e.s.O, .int .i64 e.s.E, .int .i64 e.s.M, v1, v2] := by rw [lds_of (sa _ _ eb) (by simp)]; rfl
 refine region_tree mixed (quiets [0, 1] (.one 2 (.one 3 (quiets [4] .stop)))) [([0, 1], Sub T11)] (by kernel_rfl) (by kernel_rfl) (fun p hp => by simp only [List.mem_singleton] at hp; subst hp; exact Sub.refl _) ?_
 refine tree_quiets T11 _ _ _ sf1 (by kernel_rfl) (by kernel_rfl) ?_
 simp -implicitDefEqProofs (disch := omega) only [Nat.reduceEqDiff, ↓reduceIte, vcu, ↓vcd, pickOps_nil, pickOps_cons, pickO_some, List.getElem?_cons_succ, List.getElem?_cons_zero, l15, l16, co32, co27]
 refine tree_one rfl ?_
 try simp -implicitDefEqProofs (disch := omega) only [Nat.reduceEqDiff, ↓reduceIte, vcu, ↓vcd]
 refine (hto _ sa).mono ?_
 rintro _ T17 ⟨r17, u17a, u17b, rfl, p17a, p17b⟩
 replace sa := sa.trans r17
 replace sw := sw.trans r17
 replace sx := sx.trans r17
 replace sg := sg.trans r17
 have h18 := eqEx_calls (w0 := w0) T17 (exV u7a u7b e) (exV u17a u17b e) e e ⟨u7a, u7b, rfl, (p7a.sub sx).texts, (p7b.sub sx).tris⟩ ⟨u17a, u17b, rfl, p17a.texts, p17b.tris⟩ hb hb
 unfold exV at h18
 simp -implicitDefEqProofs (disch := omega) only [Nat.reduceEqDiff, ↓reduceIte, vcu, ↓vcd, opK_some, exV]
 refine ⟨keep_of rfl (fun p hp => by simp only [List.mem_singleton] at hp; subst hp; exact .inr r17), ?_⟩
 refine tree_one rfl ?_
 try simp -implicitDefEqProofs (disch := omega) only [Nat.reduceEqDiff, ↓reduceIte, vcu, ↓vcd]
 refine (h18).mono ?_
 rintro _ _ ⟨rfl, rfl⟩
 rename_i T17
 simp -implicitDefEqProofs (disch := omega) only [Nat.reduceEqDiff, ↓reduceIte, vcu, ↓vcd, opK_some]
 refine ⟨.inl rfl, ?_⟩
 refine tree_quiets _ _ _ _ sf0 (by kernel_rfl) (by kernel_rfl) ?_
 simp -implicitDefEqProofs (disch := omega) only [Nat.reduceEqDiff, ↓reduceIte, vcu, ↓vcd, pickOps_nil, pickOps_cons, pickO_some, List.getElem?_cons_succ, List.getElem?_cons_zero, eq_self, decide_true, Bool.not_true]
 refine tree_stop ?_
 try simp -implicitDefEqProofs (disch := omega) only [Nat.reduceEqDiff, ↓reduceIte, vcu, ↓vcd]
 have l19 : lds T17 cx 0 5 = some [.int .i64 e.s.O, .int .i64 e.s.E, .int .i64 e.s.M, u7a, u7b] := by rw [lds_of (sx _ _ ex) (by simp)]; rfl
 simp -implicitDefEqProofs (disch := omega) only [Nat.reduceEqDiff, ↓reduceIte, vcu, ↓vcd, l19, co32, co27]
 refine (markX_kp T5 T8 T17 u7a u7b e 1 ⟨u7a, u7b, rfl, p7a, p7b⟩ sx hb (by omega)).mono ?_
 rintro _ M20 ⟨rfl, ox, kx, -⟩
 replace sa := kx.sub bx_a sa
 replace sw := kx.sub bx_w sw
 have rg := r10
 replace p10a := kx.ownS (p10a.sub sg) bg_x
 replace p10b := kx.ownC (p10b.sub sg) bg_x
 replace eg := kx.cell (sg _ _ eg) (free_sub bg_x (free_sub rg ng))
 clear sg
 have sg : Sub M20 M20 := Sub.refl _
 simp -implicitDefEqProofs (disch := omega) only [Nat.reduceEqDiff, ↓reduceIte, vcu, ↓vcd, opK_some]
 have hm0 : decide (1 + (e.ps.length : Int) + 3 * e.cs.length < 0) = false := by rw [decide_eq_false_iff_not]; omega
 have l21 : lds M20 cg 0 5 = some [.int .i64 f.s.O, .int .i64 f.s.E, .int .i64 f.s.M, u10a, u10b] := by rw [lds_of (sg _ _ eg) (by simp)]; rfl
 have l22 : lds M20 cw 0 5 = some [.int .i64 f.s.O, .int .i64 f.s.E, .int .i64 f.s.M, u4a, u4b] := by rw [lds_of (sw _ _ ew) (by simp)]; rfl
 have h23 := eqEx_calls (w0 := w0) M20 (exV u10a u10b f) (exV u4a u4b f) f f ⟨u10a, u10b, rfl, (p10a.sub sg).texts, (p10b.sub sg).tris⟩ ⟨u4a, u4b, rfl, (p4a.sub sw).texts, (p4b.sub sw).tris⟩ hB hB
 unfold exV at h23
 simp -implicitDefEqProofs (disch := omega) only [Nat.reduceEqDiff, ↓reduceIte, vcu, ↓vcd, hm0, l21, l22, co32, co27]
 refine (h23).mono ?_
 rintro _ _ ⟨rfl, rfl⟩
 rename_i M20
 simp -implicitDefEqProofs (disch := omega) only [Nat.reduceEqDiff, ↓reduceIte, vcu, ↓vcd, opK_some, List.getElem?_toArray, List.getElem?_cons_zero, List.getElem?_cons_succ, eq_self, decide_true, Bool.not_true, beq_self_eq_true, ne_eq, not_true_eq_false]
 have l24 : lds M20 cg 0 5 = some [.int .i64 f.s.O, .int .i64 f.s.E, .int .i64 f.s.M, u10a, u10b] := by rw [lds_of (sg _ _ eg) (by simp)]; rfl
 simp -implicitDefEqProofs (disch := omega) only [Nat.reduceEqDiff, ↓reduceIte, vcu, ↓vcd, l24, co32, co27]
 refine (markX_kp T8 M20 M20 u10a u10b f 1 ⟨u10a, u10b, rfl, p10a, p10b⟩ sg hB (by omega)).mono ?_
 rintro r M25 ⟨hr, om, kg, kk⟩
 replace sa := kg.sub bg_a sa
 replace sw := kg.sub bg_w sw
 replace eg := kk _ _ (sg _ _ eg) ddga ddgb
 clear sg
 have sg : Sub M25 M25 := Sub.refl _
 generalize hqm : (1 : Int) + f.ps.length + 3 * f.cs.length = qm at hr
 subst hr
 have hq0 : decide (qm < 0) = false := by rw [decide_eq_false_iff_not, ← hqm]; omega
 simp -implicitDefEqProofs (disch := omega) only [Nat.reduceEqDiff, ↓reduceIte, vcu, ↓vcd, opK_some]
 have l27 : lds M25 cg 0 5 = some [.int .i64 f.s.O, .int .i64 f.s.E, .int .i64 f.s.M, u10a, u10b] := by rw [lds_of (sg _ _ eg) (by simp)]; rfl
 simp -implicitDefEqProofs (disch := omega) only [Nat.reduceEqDiff, ↓reduceIte, vcu, ↓vcd, opK_some, l27, co32, co27]
 have h26 := heldEx_calls (w0 := w0) M25 (exV u10a u10b f) f 1 (om.ex.sub sg) hB (by omega)
 unfold exV at h26
 refine h26.mono ?_
 rintro r _ ⟨hr, rfl⟩
 rename_i M25
 rw [hqm] at hr
 subst hr
 simp -implicitDefEqProofs (disch := omega) only [Nat.reduceEqDiff, ↓reduceIte, vcu, ↓vcd, hq0, opK_some, List.getElem?_toArray, List.getElem?_cons_zero, List.getElem?_cons_succ, eq_self, decide_true, Bool.not_true, beq_self_eq_true, ne_eq, not_true_eq_false]
 have l28 : lds M25 b 0 5 = some [.int .i64 e.s.O, .int .i64 e.s.E, .int .i64 e.s.M, v1, v2] := by rw [lds_of (sa _ _ eb) (by simp)]; rfl
 simp -implicitDefEqProofs (disch := omega) only [Nat.reduceEqDiff, ↓reduceIte, vcu, ↓vcd, l28, co32, co27, opK_some, List.getElem?_toArray, List.getElem?_cons_zero, List.getElem?_cons_succ]
 refine (hto _ sa).mono ?_
 rintro _ T29 ⟨r29, u29a, u29b, rfl, p29a, p29b⟩
 replace sa := sa.trans r29
 replace sw := sw.trans r29
 replace sg := sg.trans r29
 simp -implicitDefEqProofs (disch := omega) only [Nat.reduceEqDiff, ↓reduceIte, vcu, ↓vcd, opK_some, exV]
 refine (him _ _ _ ⟨u29a, u29b, rfl, p29a.texts, p29b.tris⟩).mono ?_
 rintro _ T30 ⟨_, rfl, r30, u30a, u30b, rfl, p30a, p30b⟩
 replace sa := sa.trans r30
 replace sw := sw.trans r30
 replace sg := sg.trans r30
 have o31 := exC_one (show OwnX T29 T30 (exV u30a u30b f) f from ⟨u30a, u30b, rfl, p30a, p30b⟩)
 simp -implicitDefEqProofs (disch := omega) only [Nat.reduceEqDiff, ↓reduceIte, vcu, ↓vcd, opK_some, List.getElem?_toArray, List.getElem?_cons_zero, List.getElem?_cons_succ, exV]
 refine r_local (cs := #[.int .i64 f.s.O, .int .i64 f.s.E, .int .i64 f.s.M, u30a, u30b]) ze32 (by decide) z9q (by rw [co32]; rfl) rfl o31 (Nat.zero_lt_succ _) fun ch T31 nh r31 eh => ?_
 replace eh : T31 ch = some ⟨[.int .i64 f.s.O, .int .i64 f.s.E, .int .i64 f.s.M, u30a, u30b], false⟩ := eh
 have ddha : ∀ n z, u30a ≠ .slice (some ⟨ch, 0, none⟩) n z := by
  rintro n z rfl
  rcases p30a with ⟨h, _⟩ | ⟨g, h, hg, _⟩ <;> cases h
  rw [nh] at hg; cases hg
 have ddhb : ∀ n z, u30b ≠ .slice (some ⟨ch, 0, none⟩) n z := by
  rintro n z rfl
  rcases p30b with ⟨h, _⟩ | ⟨g, h, hg, _⟩ <;> cases h
  rw [nh] at hg; cases hg
 replace sa := sa.trans r31
 replace sw := sw.trans r31
 replace sg := sg.trans r31
 replace p30a := p30a.sub r31
 replace p30b := p30b.sub r31
 have sh : Sub T31 T31 := Sub.refl _
 have l32 : lds T31 ch 0 5 = some [.int .i64 f.s.O, .int .i64 f.s.E, .int .i64 f.s.M, u30a, u30b] := by rw [lds_of (sh _ _ eh) (by simp)]; rfl
 have l33 : lds T31 cw 0 5 = some [.int .i64 f.s.O, .int .i64 f.s.E, .int .i64 f.s.M, u4a, u4b] := by rw [lds_of (sw _ _ ew) (by simp)]; rfl
 have h34 := eqEx_calls (w0 := w0) T31 (exV u30a u30b f) (exV u4a u4b f) f f ⟨u30a, u30b, rfl, (p30a.sub sh).texts, (p30b.sub sh).tris⟩ ⟨u4a, u4b, rfl, (p4a.sub sw).texts, (p4b.sub sw).tris⟩ hB hB
 unfold exV at h34
 simp -implicitDefEqProofs (disch := omega) only [Nat.reduceEqDiff, ↓reduceIte, vcu, ↓vcd, l32, l33, co32, co27]
 refine (h34).mono ?_
 rintro _ _ ⟨rfl, rfl⟩
 rename_i T31
 simp -implicitDefEqProofs (disch := omega) only [Nat.reduceEqDiff, ↓reduceIte, vcu, ↓vcd, opK_some, List.getElem?_toArray, List.getElem?_cons_zero, List.getElem?_cons_succ, eq_self, decide_true, Bool.not_true, beq_self_eq_true, ne_eq, not_true_eq_false]
 have l36 : lds T31 cg 0 5 = some [.int .i64 f.s.O, .int .i64 f.s.E, .int .i64 f.s.M, u10a, u10b] := by rw [lds_of (sg _ _ eg) (by simp)]; rfl
 simp -implicitDefEqProofs (disch := omega) only [Nat.reduceEqDiff, ↓reduceIte, vcu, ↓vcd, opK_some, l36, co32, co27]
 have h35 := heldEx_calls (w0 := w0) T31 (exV u10a u10b f) f 1 (om.ex.sub sg) hB (by omega)
 unfold exV at h35
 refine h35.mono ?_
 rintro r _ ⟨hr, rfl⟩
 rename_i T31
 rw [hqm] at hr
 subst hr
 simp -implicitDefEqProofs (disch := omega) only [Nat.reduceEqDiff, ↓reduceIte, vcu, ↓vcd, hq0, opK_some, List.getElem?_toArray, List.getElem?_cons_zero, List.getElem?_cons_succ, eq_self, decide_true, Bool.not_true, beq_self_eq_true, ne_eq, not_true_eq_false]
 refine fin_one Tryz.results3 ?_
 simp -implicitDefEqProofs (disch := omega) only [Nat.reduceEqDiff, ↓reduceIte, vcu, ↓vcd]

open Go.ChangeShapes Go.WideShapes Go.ChangeAt Go.RowKit

noncomputable def laidW3 (os : Os) : World := World.doorLaid Tryz.prog 400 os
set_option maxRecDepth 100000 in
theorem laid_met3 (os : Os) : laidMetH Tryz.prog Rows.fnExactExLineRow.laid ((laidW3 os).forCall (fun _ _ => 0) ⟨#[], #[.agg #[.int .i64 0, .int .i64 0, .int .i64 0, .slice none 0 0, .slice none 0 0], .string ⟨#[]⟩], []⟩).memory :=
 laidMetH_of_parts3 (fuel := 8) (laidMet_of_run' 8 (by kernel_rfl) (by kernel_rfl)) (by kernel_rfl) (by kernel_rfl)
set_option maxRecDepth 100000 in
theorem reads3 (os : Os) {H : Type} (enc : TypeId × Value → H) : (DataW.whole enc Tryz.prog ((laidW3 os).forCall (fun _ _ => 0) ⟨#[], #[.agg #[.int .i64 0, .int .i64 0, .int .i64 0, .slice none 0 0, .slice none 0 0], .string ⟨#[]⟩], []⟩).memory Tryz.f3.params.toList Rows.fnExactExLineSpec.vars false (#[.agg #[.int .i64 0, .int .i64 0, .int .i64 0, .slice none 0 0, .slice none 0 0], .string ⟨#[]⟩] : Array Value).toList 8).isSome = true := by kernel_rfl
set_option maxRecDepth 100000 in
theorem lifted3 (os : Os) (started : os.Started) (H : Type) (enc : TypeId × Value → H) (F : Stop.Interp) :
  ReturnsInHanded {} Tryz.checked os 3 .any ((OpenSpec.ofChange Rows.fnExactExLineSpec).preRow enc Tryz.prog Tryz.f3 Rows.fnExactExLineRow.domain false Rows.fnExactExLineRow.laid) (((OpenSpec.ofChange Rows.fnExactExLineSpec).at F).post enc Tryz.prog Tryz.f3 false true false false) := by
 obtain ⟨x, hx⟩ := Option.isSome_iff_exists.1 (reads3 os enc)
 refine returnsInHanded_of_row (C := Tryz.checked) (s := OpenSpec.ofChange Rows.fnExactExLineSpec) own started (by kernel_rfl) Tryz.func3
  (witness_row_at (enc := enc) (C := Tryz.checked) false (laidW3 os) #[.agg #[.int .i64 0, .int .i64 0, .int .i64 0, .slice none 0 0, .slice none 0 0], .string ⟨#[]⟩] rfl (by kernel_rfl) (by kernel_rfl) (by kernel_rfl)
   (OpenSpec.preRow_of_cond 8 hx (by kernel_rfl) (fun k hk => by cases hk) (by kernel_rfl) (laid_met3 os))) ?_
 intro W base args ds gs before hval hW _ _ _ hL hSh _
 rw [MakeChecks.laidMetH_plain _ _ _ (by kernel_rfl)] at hL
 haveI := glob_m hSh
 haveI := glob_e hL
 haveI := glob_t hL
 have hW' := hW
 obtain ⟨p, q, hA, hV, -, -, -⟩ := hW'
 rw [Tryz.params3] at hA hval
 obtain ⟨v0, vs0, d0, ds0, p0, q0, hargs, rfl, rfl, h0, r0⟩ := trodAll_cons hA
 obtain ⟨v1, vs1, d1, ds1, p1, q1, rfl, rfl, rfl, h1, r1⟩ := trodAll_cons r0
 obtain ⟨rfl, rfl, rfl⟩ := trodAll_nil r1
 obtain ⟨rfl, rfl⟩ := trodVars_none hV
 obtain rfl : args = #[v0, v1] := by cases args; simp_all
 obtain ⟨β0, σ0, acs0, dd0, L0, U0, S0, R0, Y0⟩ := start_rec (m := 5) (s := .rcd [.rcd [.int .i64, .int .i64, .int .i64], .slc .str, .slc (.rcd [.int .i64, .int .i64, .int .i64])]) (by kernel_rfl) Tryz.underlying27 (Start.start W) (hval 0 27 v0 rfl rfl) h0
 obtain ⟨x0, y0, z0, a0, b0, zs0, us0, rfl, E0⟩ := lay_exch Y0
 obtain ⟨β1, σ1, a1, dd1, L1, U1, S1, R1, Y1⟩ := start_one (m := 4) (s := .str) (by kernel_rfl) S0 (text_cells Tryz.underlying9 (hval 1 9 v1 rfl rfl)) h1
 obtain ⟨zs1, rfl, m1⟩ := lay_text Y1
 refine ((law8EL σ1 x0 y0 z0 a0 b0 zs0 us0 zs1 (E0.sub U1) m1).2 noProt β1 W [v0, v1] S1.rel (.cons (RelV.mono L1 R0) (.cons R1 (.nil _)))).mono fun e W' h => ?_
 obtain ⟨β', r, r', σ', -, rfl, hr, hrel, rfl⟩ := h
 cases hr
 exact ⟨_, rfl, law_post laidOut hW rfl rfl (by rw [Tryz.params3]; intro t ht; simp only [List.mem_cons, List.not_mem_nil, or_false, or_self] at ht; rcases ht with rfl | rfl <;> exact ⟨by kernel_rfl, of_decide_eq_true (by kernel_rfl)⟩) rfl Tryz.underlying4 hrel.below⟩

theorem facts3 : joinedFacts Tryz.prog 3 Tryz.f3 Rows.fnExactExLineSpec Rows.fnExactExLineRow = true := by
 unfold joinedFacts
 rw [mayE, liftsE, makeE]
 kernel_rfl

set_option maxRecDepth 100000 in
theorem said3 : Rows.FnExactExLineSaid :=
 OpenClaim.holds_of_cond 3 Tryz.f3 rfl rfl rfl rfl rfl rfl rfl ⟨rfl, rfl, rfl, rfl, rfl⟩ rfl rfl rfl rfl rfl (by kernel_rfl) Tryz.func3 facts3 (of_decide_eq_true (by kernel_rfl))
  (by unfold Func.isWrapper; first | (rw [if_pos (by decide +kernel)]; kernel_rfl) | (rw [if_neg (by decide +kernel)]; exact ⟨rfl, rfl⟩))
  (fun os started H enc _ F => by rw [OpenClaim.pre_eq_preRow]; exact lifted3 os started H enc F)
theorem plain3 (f : FuncId) (fn : Func) (hf : Tryz.pinned.checked.prog.funcNamed Rows.fnExactExLineRow.func = some f) (hfn : Tryz.pinned.checked.prog.funcs[f]? = some fn) :
  true = Tryz.pinned.checked.prog.looks [] ∧ ∀ (j : Nat) t, fn.params[j]? = some t → Tryz.pinned.checked.prog.wantsStandIn t = false := by
 obtain rfl : f = 3 := Option.some.inj ((show Tryz.prog.funcNamed Rows.fnExactExLineRow.func = some 3 by kernel_rfl).symm.trans hf) |>.symm
 obtain rfl : fn = Tryz.f3 := (Option.some.inj (Tryz.func3.symm.trans hfn)).symm
 refine ⟨isTrue_looks, fun j t ht => ?_⟩
 rw [Tryz.params3] at ht
 have ht2 : t = 27 ∨ t = 9 := by simpa using Array.mem_of_getElem? ht
 rcases ht2 with rfl | rfl
 ·exact (show Tryz.prog.wantsStandIn 27 = false by kernel_rfl)
 ·exact (show Tryz.prog.wantsStandIn 9 = false by kernel_rfl)
set_option maxRecDepth 100000 in
theorem proved3 : Rows.FnExactExLineCardSaid :=
 Claim7.holds_tied_plain_at .later [] _ _ _ _ said3 (fun _ h => by cases h) (by kernel_rfl) (fun _ h => by cases h) fnExactExLine_row_tie rfl ⟨rfl, rfl⟩ (by kernel_rfl) rfl plain3 (by kernel_rfl)


end Go.Proofs.YtafkndnmhhjdhaaGreatDoor
