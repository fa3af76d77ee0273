/- FnPermThen answers true for every two codes. -/
import Derived.Test.YtdgbaglhhhbbhaaPr
set_option linter.unusedSimpArgs false
set_option linter.unusedVariables false
namespace Go.Proofs.Ytdgbaglhhhbbhaa
open Go Go.Abs Go.RowKit
variable {w0 : World}

theorem then_group {xs ys zs : List Int} (hB : Both xs ys) (h0 : xs.length ≠ 0) : thenF (thenF xs ys) zs = thenF xs (thenF ys zs) := by
  obtain ⟨hl, hx, hy⟩ := hB
  have hB : Both xs ys := ⟨hl, hx, hy⟩
  have hP := valid_thn hx hy hl
  have e1 : thenF xs ys = thn xs ys xs.length := by unfold thenF; rw [if_pos hB]
  rw [e1]
  by_cases hc : Both ys zs
  · have hc2 : Both (thn xs ys xs.length) zs := ⟨by rw [thn_length, hl]; exact hc.1, hP, hc.2.2⟩
    have e2 : thenF ys zs = thn ys zs ys.length := by unfold thenF; rw [if_pos hc]
    have hQ := valid_thn hy hc.2.2 hc.1
    have hc3 : Both xs (thn ys zs ys.length) := ⟨by rw [thn_length, hl], hx, hQ⟩
    rw [e2]
    unfold thenF
    rw [if_pos hc2, if_pos hc3, thn_length, thn_assoc hx rfl, hl]
  · have hc2 : ¬ Both (thn xs ys xs.length) zs := fun h => hc ⟨by have := h.1; rw [thn_length] at this; omega, hy, h.2.2⟩
    have e2 : thenF ys zs = [] := by unfold thenF; rw [if_neg hc]
    rw [e2]
    unfold thenF
    rw [if_neg hc2, if_neg fun h => h0 (by simpa using h.1)]
theorem back_then {xs ys : List Int} (hB : Both xs ys) : backF (thenF xs ys) = thenF (backF ys) (backF xs) := by
  obtain ⟨hl, hx, hy⟩ := hB
  have hB : Both xs ys := ⟨hl, hx, hy⟩
  have hP := valid_thn hx hy hl
  have hc : Both (inv ys ys.length) (inv xs xs.length) := ⟨by rw [inv_length, inv_length, hl], valid_inv hy, valid_inv hx⟩
  unfold thenF backF
  rw [if_pos hB, if_pos hP, if_pos hx, if_pos hy, if_pos hc, thn_length, inv_length, inv_of_thn hx hy hl, hl]

theorem law5 (σ : AHeap) (v : Value) (bs : List Int) (u : Value) (cs : List Int) (hv : Ints .u8 σ v bs) (hm : bs.length ≤ maxLen) (hw : ∀ z ∈ bs, (Lit.int .u8 z).wf = true) (hu : Ints .u8 σ u cs) (hm2 : cs.length ≤ maxLen) (hw2 : ∀ z ∈ cs, (Lit.int .u8 z).wf = true) :
    ACall Try.prog w0 5 [v, u] σ fun r _ => r = .bool true := by
  unfold maxLen at hm hm2
  refine ACall.ints_arg (pre := []) (by kernel_rfl) hv fun σ0 h o hs hg0 => ?_
  refine ACall.ints_arg (pre := [_]) (by kernel_rfl) (hu.sub hs) fun σ1 h' o' hs' hu1 => ?_
  have hg := hg0.sub hs'
  clear hv hu hs hs' hg0 σ0 σ v u
  have hb := bytes_of hw
  have hb2 := bytes_of hw2
  refine acall_go mixed Try.func5 rfl good5 ?_
  by_cases hbig : 1048576 < bs.length
  · simp -implicitDefEqProofs (disch := omega) only [Nat.reduceEqDiff, List.map_cons, List.map_nil, Option.map_some, Option.map_none, List.nil_append, ↓reduceIte, vcu0, vcu1, vcu2, vcu3, vcu4, vcu5, vcu6, vcu7, vcu8, vcu9, vcu10, ↓vcd0, ↓vcd1, ↓vcd2, List.singleton_append, List.cons_append]
    refine fin_one Try.results5 ?_
    simp -implicitDefEqProofs (disch := omega) only [Nat.reduceEqDiff, List.map_cons, List.map_nil, Option.map_some, Option.map_none, List.nil_append, ↓reduceIte, vcu0, vcu1, vcu2, vcu3, vcu4, vcu5, vcu6, vcu7, vcu8, vcu9, vcu10, ↓vcd0, ↓vcd1, ↓vcd2]
  by_cases hbig2 : 1048576 < cs.length
  · simp -implicitDefEqProofs (disch := omega) only [Nat.reduceEqDiff, List.map_cons, List.map_nil, Option.map_some, Option.map_none, List.nil_append, ↓reduceIte, vcu0, vcu1, vcu2, vcu3, vcu4, vcu5, vcu6, vcu7, vcu8, vcu9, vcu10, ↓vcd0, ↓vcd1, ↓vcd2, List.singleton_append, List.cons_append]
    refine fin_one Try.results5 ?_
    simp -implicitDefEqProofs (disch := omega) only [Nat.reduceEqDiff, List.map_cons, List.map_nil, Option.map_some, Option.map_none, List.nil_append, ↓reduceIte, vcu0, vcu1, vcu2, vcu3, vcu4, vcu5, vcu6, vcu7, vcu8, vcu9, vcu10, ↓vcd0, ↓vcd1, ↓vcd2]
  have hl : bs.length ≤ 1048576 := by omega
  have hl2 : cs.length ≤ 1048576 := by omega
  simp -implicitDefEqProofs (disch := omega) only [Nat.reduceEqDiff, List.map_cons, List.map_nil, Option.map_some, Option.map_none, List.nil_append, ↓reduceIte, vcu0, vcu1, vcu2, vcu3, vcu4, vcu5, vcu6, vcu7, vcu8, vcu9, vcu10, ↓vcd0, ↓vcd1, ↓vcd2, List.singleton_append, List.cons_append]
  refine (drawThen_at σ1 h o bs hg hl hb).mono ?_
  rintro r τ1 ⟨qa, ps, qb, qs, rfl, ha7, hb7, s1, va, vb⟩
  have ex0 : (#[Value.slice (some ⟨qa, 0, none⟩) ps.length 1, Value.slice (some ⟨qb, 0, none⟩) qs.length 1])[0]? = some (Value.slice (some ⟨qa, 0, none⟩) ps.length 1) := rfl
  have ex1 : (#[Value.slice (some ⟨qa, 0, none⟩) ps.length 1, Value.slice (some ⟨qb, 0, none⟩) qs.length 1])[1]? = some (Value.slice (some ⟨qb, 0, none⟩) qs.length 1) := rfl
  simp -implicitDefEqProofs (disch := omega) only [Nat.reduceEqDiff, List.map_cons, List.map_nil, Option.map_some, Option.map_none, List.nil_append, ↓reduceIte, vcu0, vcu1, vcu2, vcu3, vcu4, vcu5, vcu6, vcu7, vcu8, vcu9, vcu10, ↓vcd0, ↓vcd1, ↓vcd2, opK_some, ex0, ex1]
  have ia : Ints .i64 τ1 (.slice (some ⟨qa, 0, none⟩) ps.length 1) ps := .inr ⟨qa, 0, rfl, intsAt_own va⟩
  have ib : Ints .i64 τ1 (.slice (some ⟨qb, 0, none⟩) qs.length 1) qs := .inr ⟨qb, 0, rfl, intsAt_own vb⟩
  refine (then_calls τ1 _ _ ps qs ia ib (by omega) (by omega)).mono ?_
  rintro x τ2 ⟨s2, hx⟩
  simp -implicitDefEqProofs (disch := omega) only [Nat.reduceEqDiff, List.map_cons, List.map_nil, Option.map_some, Option.map_none, List.nil_append, ↓reduceIte, vcu0, vcu1, vcu2, vcu3, vcu4, vcu5, vcu6, vcu7, vcu8, vcu9, vcu10, ↓vcd0, ↓vcd1, ↓vcd2, opK_some]
  refine (specThen_at τ2 qa 0 qb 0 ps qs (intsAt_own (s2 _ _ va)) (intsAt_own (s2 _ _ vb)) (by omega) (by omega)).mono ?_
  rintro r τ3 ⟨gz, zs, hzs, hgz, rfl, s3, vz⟩
  have ezs : zs = thenF ps qs := hzs
  have hxl := thenF_length ps qs
  simp -implicitDefEqProofs (disch := omega) only [Nat.reduceEqDiff, List.map_cons, List.map_nil, Option.map_some, Option.map_none, List.nil_append, ↓reduceIte, vcu0, vcu1, vcu2, vcu3, vcu4, vcu5, vcu6, vcu7, vcu8, vcu9, vcu10, ↓vcd0, ↓vcd1, ↓vcd2, opK_some]
  refine (same_calls τ3 x _ (thenF ps qs) zs (hx.ints.sub s3) (.inr ⟨gz, 0, rfl, intsAt_own vz⟩) (by omega) (by rw [ezs]; omega)).mono ?_
  rintro r _ ⟨rfl, rfl⟩
  rw [decide_eq_true ezs.symm]
  have hxs : ∃ ad z, x = .slice ad (thenF ps qs).length z := by
    rcases hx with ⟨rfl, he⟩ | ⟨g, rfl, _⟩
    · exact ⟨none, 0, by rw [he]; rfl⟩
    · exact ⟨_, _, rfl⟩
  by_cases hz0 : (thenF ps qs).length = 0
  · have e0 : (((thenF ps qs).length : Nat) : Int) = 0 := by omega
    obtain ⟨ad, z, hxe⟩ := hxs
    rw [hxe]
    simp -implicitDefEqProofs (disch := omega) only [Nat.reduceEqDiff, List.map_cons, List.map_nil, Option.map_some, Option.map_none, List.nil_append, ↓reduceIte, vcu0, vcu1, vcu2, vcu3, vcu4, vcu5, vcu6, vcu7, vcu8, vcu9, vcu10, ↓vcd0, ↓vcd1, ↓vcd2, opK_some, e0]
    refine (alive_at _).mono ?_
    rintro r _ ⟨rfl, rfl⟩
    simp -implicitDefEqProofs (disch := omega) only [Nat.reduceEqDiff, List.map_cons, List.map_nil, Option.map_some, Option.map_none, List.nil_append, ↓reduceIte, vcu0, vcu1, vcu2, vcu3, vcu4, vcu5, vcu6, vcu7, vcu8, vcu9, vcu10, ↓vcd0, ↓vcd1, ↓vcd2, opK_some]
    refine fin_one Try.results5 ?_
    simp -implicitDefEqProofs (disch := omega) only [Nat.reduceEqDiff, List.map_cons, List.map_nil, Option.map_some, Option.map_none, List.nil_append, ↓reduceIte, vcu0, vcu1, vcu2, vcu3, vcu4, vcu5, vcu6, vcu7, vcu8, vcu9, vcu10, ↓vcd0, ↓vcd1, ↓vcd2]
  · have hB : Both ps qs := by
      by_cases hB : Both ps qs
      · exact hB
      · exfalso; apply hz0; unfold thenF; rw [if_neg hB]; rfl
    have ha0 : ps.length ≠ 0 := by omega
    have e0 : ¬ (((thenF ps qs).length : Nat) : Int) = 0 := by omega
    have hgrp := fun zs => then_group (zs := zs) hB ha0
    have hbk := back_then hB
    rename_i τ3
    have ix3 := hx.ints.sub s3
    have ia3 := (ia.sub s2).sub s3
    have ib3 := (ib.sub s2).sub s3
    have hu3 := ((hu1.sub s1).sub s2).sub s3
    clear hx
    have hxlen := hxs
    obtain ⟨ad, z, hxe⟩ := hxs
    simp -implicitDefEqProofs (disch := omega) only [Nat.reduceEqDiff, List.map_cons, List.map_nil, Option.map_some, Option.map_none, List.nil_append, ↓reduceIte, vcu0, vcu1, vcu2, vcu3, vcu4, vcu5, vcu6, vcu7, vcu8, vcu9, vcu10, ↓vcd0, ↓vcd1, ↓vcd2, opK_some]
    have hlen : alenV Try.prog 23 x = some (.int .i64 ((thenF ps qs).length : Int)) := by rw [hxe]; exact alenV_slice Try.underlying23
    simp -implicitDefEqProofs (disch := omega) only [Nat.reduceEqDiff, List.map_cons, List.map_nil, Option.map_some, Option.map_none, List.nil_append, ↓reduceIte, vcu0, vcu1, vcu2, vcu3, vcu4, vcu5, vcu6, vcu7, vcu8, vcu9, vcu10, ↓vcd0, ↓vcd1, ↓vcd2, hlen]
    refine (drawThen_at τ3 h' o' cs hu3 hl2 hb2).mono ?_
    rintro r τ4 ⟨qd, ds, qc, es, rfl, hd7, he7, s4, vd, ve⟩
    have ey0 : (#[Value.slice (some ⟨qd, 0, none⟩) ds.length 1, Value.slice (some ⟨qc, 0, none⟩) es.length 1])[0]? = some (Value.slice (some ⟨qd, 0, none⟩) ds.length 1) := rfl
    have ey1 : (#[Value.slice (some ⟨qd, 0, none⟩) ds.length 1, Value.slice (some ⟨qc, 0, none⟩) es.length 1])[1]? = some (Value.slice (some ⟨qc, 0, none⟩) es.length 1) := rfl
    have ie : Ints .i64 τ4 (.slice (some ⟨qc, 0, none⟩) es.length 1) es := .inr ⟨qc, 0, rfl, intsAt_own ve⟩
    simp -implicitDefEqProofs (disch := omega) only [Nat.reduceEqDiff, List.map_cons, List.map_nil, Option.map_some, Option.map_none, List.nil_append, ↓reduceIte, vcu0, vcu1, vcu2, vcu3, vcu4, vcu5, vcu6, vcu7, vcu8, vcu9, vcu10, ↓vcd0, ↓vcd1, ↓vcd2, opK_some, ey0, ey1]
    refine (then_calls τ4 x _ (thenF ps qs) es (ix3.sub s4) ie (by omega) (by omega)).mono ?_
    rintro y τ5 ⟨s5, hy⟩
    have hyl := thenF_length (thenF ps qs) es
    simp -implicitDefEqProofs (disch := omega) only [Nat.reduceEqDiff, List.map_cons, List.map_nil, Option.map_some, Option.map_none, List.nil_append, ↓reduceIte, vcu0, vcu1, vcu2, vcu3, vcu4, vcu5, vcu6, vcu7, vcu8, vcu9, vcu10, ↓vcd0, ↓vcd1, ↓vcd2, opK_some]
    refine (then_calls τ5 _ _ qs es ((ib3.sub s4).sub s5) (ie.sub s5) (by omega) (by omega)).mono ?_
    rintro y2 τ6 ⟨s6, hy2⟩
    have hy2l := thenF_length qs es
    simp -implicitDefEqProofs (disch := omega) only [Nat.reduceEqDiff, List.map_cons, List.map_nil, Option.map_some, Option.map_none, List.nil_append, ↓reduceIte, vcu0, vcu1, vcu2, vcu3, vcu4, vcu5, vcu6, vcu7, vcu8, vcu9, vcu10, ↓vcd0, ↓vcd1, ↓vcd2, opK_some]
    refine (then_calls τ6 _ y2 ps (thenF qs es) (((ia3.sub s4).sub s5).sub s6) hy2.ints (by omega) (by omega)).mono ?_
    rintro y3 τ7 ⟨s7, hy3⟩
    have hy3l := thenF_length ps (thenF qs es)
    simp -implicitDefEqProofs (disch := omega) only [Nat.reduceEqDiff, List.map_cons, List.map_nil, Option.map_some, Option.map_none, List.nil_append, ↓reduceIte, vcu0, vcu1, vcu2, vcu3, vcu4, vcu5, vcu6, vcu7, vcu8, vcu9, vcu10, ↓vcd0, ↓vcd1, ↓vcd2, opK_some]
    refine (same_calls τ7 y y3 (thenF (thenF ps qs) es) (thenF ps (thenF qs es)) ((hy.ints.sub s6).sub s7) hy3.ints (by omega) (by omega)).mono ?_
    rintro r _ ⟨rfl, rfl⟩
    rw [decide_eq_true (hgrp es)]
    rename_i τ7
    have s37 : Sub τ3 τ7 := s4.trans (s5.trans (s6.trans s7))
    simp -implicitDefEqProofs (disch := omega) only [Nat.reduceEqDiff, List.map_cons, List.map_nil, Option.map_some, Option.map_none, List.nil_append, ↓reduceIte, vcu0, vcu1, vcu2, vcu3, vcu4, vcu5, vcu6, vcu7, vcu8, vcu9, vcu10, ↓vcd0, ↓vcd1, ↓vcd2, opK_some]
    refine (back_calls τ7 x (thenF ps qs) (ix3.sub s37) (by omega)).mono ?_
    rintro b1 τ8 ⟨s8, h8⟩
    have hb1l := backF_length (thenF ps qs)
    simp -implicitDefEqProofs (disch := omega) only [Nat.reduceEqDiff, List.map_cons, List.map_nil, Option.map_some, Option.map_none, List.nil_append, ↓reduceIte, vcu0, vcu1, vcu2, vcu3, vcu4, vcu5, vcu6, vcu7, vcu8, vcu9, vcu10, ↓vcd0, ↓vcd1, ↓vcd2, opK_some]
    refine (back_calls τ8 _ qs ((ib3.sub s37).sub s8) (by omega)).mono ?_
    rintro b2 τ9 ⟨s9, h9⟩
    have hb2l := backF_length qs
    simp -implicitDefEqProofs (disch := omega) only [Nat.reduceEqDiff, List.map_cons, List.map_nil, Option.map_some, Option.map_none, List.nil_append, ↓reduceIte, vcu0, vcu1, vcu2, vcu3, vcu4, vcu5, vcu6, vcu7, vcu8, vcu9, vcu10, ↓vcd0, ↓vcd1, ↓vcd2, opK_some]
    refine (back_calls τ9 _ ps (((ia3.sub s37).sub s8).sub s9) (by omega)).mono ?_
    rintro b3 τ10 ⟨s10, h10⟩
    have hb3l := backF_length ps
    simp -implicitDefEqProofs (disch := omega) only [Nat.reduceEqDiff, List.map_cons, List.map_nil, Option.map_some, Option.map_none, List.nil_append, ↓reduceIte, vcu0, vcu1, vcu2, vcu3, vcu4, vcu5, vcu6, vcu7, vcu8, vcu9, vcu10, ↓vcd0, ↓vcd1, ↓vcd2, opK_some]
    refine (then_calls τ10 b2 b3 (backF qs) (backF ps) (h9.ints.sub s10) h10.ints (by omega) (by omega)).mono ?_
    rintro b4 τ11 ⟨s11, h11⟩
    have hb4l := thenF_length (backF qs) (backF ps)
    simp -implicitDefEqProofs (disch := omega) only [Nat.reduceEqDiff, List.map_cons, List.map_nil, Option.map_some, Option.map_none, List.nil_append, ↓reduceIte, vcu0, vcu1, vcu2, vcu3, vcu4, vcu5, vcu6, vcu7, vcu8, vcu9, vcu10, ↓vcd0, ↓vcd1, ↓vcd2, opK_some]
    refine (same_calls τ11 b1 b4 (backF (thenF ps qs)) (thenF (backF qs) (backF ps)) (((h8.ints.sub s9).sub s10).sub s11) h11.ints (by omega) (by omega)).mono ?_
    rintro r _ ⟨rfl, rfl⟩
    rw [decide_eq_true hbk]
    simp -implicitDefEqProofs (disch := omega) only [Nat.reduceEqDiff, List.map_cons, List.map_nil, Option.map_some, Option.map_none, List.nil_append, ↓reduceIte, vcu0, vcu1, vcu2, vcu3, vcu4, vcu5, vcu6, vcu7, vcu8, vcu9, vcu10, ↓vcd0, ↓vcd1, ↓vcd2, opK_some]
    refine fin_one Try.results5 ?_
    simp -implicitDefEqProofs (disch := omega) only [Nat.reduceEqDiff, List.map_cons, List.map_nil, Option.map_some, Option.map_none, List.nil_append, ↓reduceIte, vcu0, vcu1, vcu2, vcu3, vcu4, vcu5, vcu6, vcu7, vcu8, vcu9, vcu10, ↓vcd0, ↓vcd1, ↓vcd2]

open Go.ChangeShapes Go.WideShapes Go.ChangeAt Go.RowKit

set_option maxRecDepth 100000 in
theorem lifted5 (os : Os) (started : os.Started) (H : Type) (enc : TypeId × Value → H) :
    ReturnsInHanded {} Try.checked os 5 .any (Rows.fnPermThenSpec.pre6 enc Try.prog Try.f5 Rows.fnPermThenRow.domain false) (Rows.fnPermThenSpec.post enc Try.prog Try.f5 false true false false) := by
  refine returnsInHanded_of_change (C := Try.checked) own started (by kernel_rfl) Try.func5
    (ChangeSpec.witness6 (enc := enc) (C := Try.checked) false ⟨#[], #[.slice none 0 0, .slice none 0 0], []⟩ 8 (by kernel_rfl) (by kernel_rfl) (by kernel_rfl) (by kernel_rfl)) ?_
  intro W base args ds gs before hval hW _ _
  have hW' := hW
  obtain ⟨p, q, hA, hV, -, -, -⟩ := hW'
  rw [Try.params5] at hA hval
  obtain ⟨v0, vs0, d0, ds0, p0, q0, hargs, rfl, rfl, h0, r0⟩ := trodAll_cons hA
  obtain ⟨v1, vs1, d1, ds1, p1, q1, rfl, rfl, rfl, h1, r1⟩ := trodAll_cons r0
  obtain ⟨rfl, rfl, rfl⟩ := trodAll_nil r1
  obtain ⟨rfl, rfl⟩ := trodVars_none hV
  obtain rfl : args = #[v0, v1] := by cases args; simp_all
  obtain ⟨β0, σ0, a0, zs0, L0, U0, S0, R0, I0, w0, m0⟩ := start_ints Try.underlying22 Try.underlying5 co5 (Start.start W) (hval 0 22 v0 rfl rfl) h0
  obtain ⟨β1, σ1, a1, zs1, L1, U1, S1, R1, I1, w1, m1⟩ := start_ints Try.underlying22 Try.underlying5 co5 S0 (hval 1 22 v1 rfl rfl) h1
  refine ((law5 σ1 a0 zs0 a1 zs1 (I0.sub U1) m0 w0 (I1) m1 w1).2 β1 W [v0, v1] S1.rel (.cons (RelV.mono L1 R0) (.cons R1 (.nil _)))).mono fun e W' h => ?_
  obtain ⟨β', r, r', σ', -, rfl, hr, hrel, rfl⟩ := h
  cases hr
  exact ⟨_, rfl, law_post laidOut hW rfl rfl (by rw [Try.params5]; intro t ht; simp only [List.mem_cons, List.not_mem_nil, or_false, or_self] at ht; rcases ht with rfl <;> exact ⟨by kernel_rfl, of_decide_eq_true (by kernel_rfl)⟩) rfl Try.underlying4 hrel.below⟩

theorem facts5 : joinedFacts Try.prog 5 Try.f5 Rows.fnPermThenSpec Rows.fnPermThenRow = true := by
  unfold joinedFacts
  rw [mayE, liftsE, makeE]
  kernel_rfl

theorem proved5 : Rows.FnPermThenSaid :=
  OpenClaim.holds_of_wide 5 Try.f5 rfl rfl rfl rfl rfl rfl rfl ⟨rfl, rfl, rfl, rfl, rfl⟩ rfl rfl rfl rfl rfl (by kernel_rfl) Try.func5 facts5 (of_decide_eq_true (by kernel_rfl))
    (by unfold Func.isWrapper; first | (rw [if_pos (by decide +kernel)]; kernel_rfl) | (rw [if_neg (by decide +kernel)]; exact ⟨rfl, rfl⟩))
    (fun os started H enc _ => lifted5 os started H enc)


end Go.Proofs.Ytdgbaglhhhbbhaa
