/- FnExactNetRun answers true for all lines, networks and numbers. -/
import Derived.Test.YtnkpoflhdfchjaaNn
import Derived.Test.YtnkpoflhdfchjaaNi
set_option linter.unusedSimpArgs false
set_option linter.unusedVariables false
namespace Go.Proofs.Ytnkpoflhdfchjaa
open Go Go.Abs Go.RowKit
variable {w0 : World}

theorem lawNetRun (σ : AHeap) (lines : Int) (v : Value) (cs : List (Int × Int)) (u : Value) (xs : List Int) (hr : (Lit.int .i64 lines).wf = true) (hv : Pairs σ v cs) (hm : cs.length ≤ maxLen) (hw : ∀ z ∈ cs, (Lit.int .i64 z.1).wf = true ∧ (Lit.int .i64 z.2).wf = true)
    (hu : Ints .i64 σ u xs) (hm2 : xs.length ≤ maxLen) (_hw2 : ∀ z ∈ xs, (Lit.int .i64 z).wf = true) :
    ACall Try.prog w0 15 [.int .i64 lines, v, u] σ fun r _ => r = .bool true := by
  have hR := inR_of hr
  have hF : Fits cs := fun c hc => ⟨inR_of (hw c hc).1, inR_of (hw c hc).2⟩
  refine ACall.pairs_arg (pre := [_]) (by kernel_rfl) hv fun σ0 h o hs hg0 => ?_
  refine ACall.ints_arg (pre := [_, _]) (by kernel_rfl) (hu.sub hs) fun σ1 h' o' hs' hu1 => ?_
  have hg := hg0.sub hs'
  clear hv hu hs hs' hg0 σ0 σ v u
  refine acall_go mixed Try.func15 rfl good15 ?_
  by_cases hbig2 : 1048576 < xs.length
  · simp -implicitDefEqProofs (disch := omega) only [List.any_cons, List.any_nil, Nat.reduceEqDiff, List.map_cons, List.map_nil, Option.map_some, Option.map_none, List.nil_append, ↓reduceIte, vcu0, vcu1, vcu2, vcu3, vcu4, vcu5, vcu6, vcu7, vcu8, vcu9, vcu10, vcu11, vcu12, vcu13, vcu14, vcu15, vcu16, vcu17, vcu18, vcu19, vcu20, ↓vcd0, ↓vcd1, ↓vcd2, ↓vcd3, List.singleton_append, List.cons_append, List.nil_append]
    refine fin_one Try.results15 ?_
    simp -implicitDefEqProofs (disch := omega) only [List.any_cons, List.any_nil, Nat.reduceEqDiff, List.map_cons, List.map_nil, Option.map_some, Option.map_none, List.nil_append, ↓reduceIte, vcu0, vcu1, vcu2, vcu3, vcu4, vcu5, vcu6, vcu7, vcu8, vcu9, vcu10, vcu11, vcu12, vcu13, vcu14, vcu15, vcu16, vcu17, vcu18, vcu19, vcu20, ↓vcd0, ↓vcd1, ↓vcd2, ↓vcd3]
  have hl2 : xs.length ≤ 1048576 := by omega
  simp -implicitDefEqProofs (disch := omega) only [List.any_cons, List.any_nil, Nat.reduceEqDiff, List.map_cons, List.map_nil, Option.map_some, Option.map_none, List.nil_append, ↓reduceIte, vcu0, vcu1, vcu2, vcu3, vcu4, vcu5, vcu6, vcu7, vcu8, vcu9, vcu10, vcu11, vcu12, vcu13, vcu14, vcu15, vcu16, vcu17, vcu18, vcu19, vcu20, ↓vcd0, ↓vcd1, ↓vcd2, ↓vcd3, List.singleton_append, List.cons_append, List.nil_append]
  refine (szComps_at σ1 h o cs 1048576 (by omega) hm).mono ?_
  rintro r _ ⟨rfl, rfl⟩
  by_cases hbig : 1048576 < cs.length
  · rw [if_pos (by omega)]
    simp -implicitDefEqProofs (disch := omega) only [List.any_cons, List.any_nil, Nat.reduceEqDiff, List.map_cons, List.map_nil, Option.map_some, Option.map_none, List.nil_append, ↓reduceIte, vcu0, vcu1, vcu2, vcu3, vcu4, vcu5, vcu6, vcu7, vcu8, vcu9, vcu10, vcu11, vcu12, vcu13, vcu14, vcu15, vcu16, vcu17, vcu18, vcu19, vcu20, ↓vcd0, ↓vcd1, ↓vcd2, ↓vcd3, opK_some]
    refine fin_one Try.results15 ?_
    simp -implicitDefEqProofs (disch := omega) only [List.any_cons, List.any_nil, Nat.reduceEqDiff, List.map_cons, List.map_nil, Option.map_some, Option.map_none, List.nil_append, ↓reduceIte, vcu0, vcu1, vcu2, vcu3, vcu4, vcu5, vcu6, vcu7, vcu8, vcu9, vcu10, vcu11, vcu12, vcu13, vcu14, vcu15, vcu16, vcu17, vcu18, vcu19, vcu20, ↓vcd0, ↓vcd1, ↓vcd2, ↓vcd3]
  have hl : cs.length ≤ 1048576 := by omega
  rw [if_neg (by omega)]
  rename_i σ1
  simp -implicitDefEqProofs (disch := omega) only [List.any_cons, List.any_nil, Nat.reduceEqDiff, List.map_cons, List.map_nil, Option.map_some, Option.map_none, List.nil_append, ↓reduceIte, vcu0, vcu1, vcu2, vcu3, vcu4, vcu5, vcu6, vcu7, vcu8, vcu9, vcu10, vcu11, vcu12, vcu13, vcu14, vcu15, vcu16, vcu17, vcu18, vcu19, vcu20, ↓vcd0, ↓vcd1, ↓vcd2, ↓vcd3, opK_some]
  refine (toComps_at σ1 h o cs hg hl).mono ?_
  rintro r τa ⟨ga, na, rfl, sa, ea⟩
  simp -implicitDefEqProofs (disch := omega) only [List.any_cons, List.any_nil, Nat.reduceEqDiff, List.map_cons, List.map_nil, Option.map_some, Option.map_none, List.nil_append, ↓reduceIte, vcu0, vcu1, vcu2, vcu3, vcu4, vcu5, vcu6, vcu7, vcu8, vcu9, vcu10, vcu11, vcu12, vcu13, vcu14, vcu15, vcu16, vcu17, vcu18, vcu19, vcu20, ↓vcd0, ↓vcd1, ↓vcd2, ↓vcd3, opK_some]
  refine (toInts_at τa h' o' xs (hu1.sub sa) hl2).mono ?_
  rintro r τb ⟨gb, nb, rfl, sb, eb⟩
  simp -implicitDefEqProofs (disch := omega) only [List.any_cons, List.any_nil, Nat.reduceEqDiff, List.map_cons, List.map_nil, Option.map_some, Option.map_none, List.nil_append, ↓reduceIte, vcu0, vcu1, vcu2, vcu3, vcu4, vcu5, vcu6, vcu7, vcu8, vcu9, vcu10, vcu11, vcu12, vcu13, vcu14, vcu15, vcu16, vcu17, vcu18, vcu19, vcu20, ↓vcd0, ↓vcd1, ↓vcd2, ↓vcd3, opK_some]
  refine (specRun_at τb lines ga 0 cs gb 0 xs (pairsAt_own (sb _ _ ea)) (intsAt_own eb) hl hl2 hF hR).mono ?_
  rintro r τ1 ⟨gw, zs, hzs, nw, rfl, sw, ew⟩
  have hg1 := (hg.sub (sa.trans sb)).sub sw
  have hu1' := (hu1.sub (sa.trans sb)).sub sw
  have hzl : zs.length ≤ 1048576 := by rw [hzs]; split <;> simp [runs_length] <;> omega
  clear sa sb ea eb na nb hg hu1 sw nw
  simp -implicitDefEqProofs (disch := omega) only [List.any_cons, List.any_nil, Nat.reduceEqDiff, List.map_cons, List.map_nil, Option.map_some, Option.map_none, List.nil_append, ↓reduceIte, vcu0, vcu1, vcu2, vcu3, vcu4, vcu5, vcu6, vcu7, vcu8, vcu9, vcu10, vcu11, vcu12, vcu13, vcu14, vcu15, vcu16, vcu17, vcu18, vcu19, vcu20, ↓vcd0, ↓vcd1, ↓vcd2, ↓vcd3, opK_some]
  refine (toComps_at τ1 h o cs hg1 hl).mono ?_
  rintro r τ2 ⟨g1, n1, rfl, s2, e1⟩
  simp -implicitDefEqProofs (disch := omega) only [List.any_cons, List.any_nil, Nat.reduceEqDiff, List.map_cons, List.map_nil, Option.map_some, Option.map_none, List.nil_append, ↓reduceIte, vcu0, vcu1, vcu2, vcu3, vcu4, vcu5, vcu6, vcu7, vcu8, vcu9, vcu10, vcu11, vcu12, vcu13, vcu14, vcu15, vcu16, vcu17, vcu18, vcu19, vcu20, ↓vcd0, ↓vcd1, ↓vcd2, ↓vcd3, opK_some]
  refine (toInts_at τ2 h' o' xs (hu1'.sub s2) hl2).mono ?_
  rintro r τ3 ⟨g2, n2, rfl, s3, e2⟩
  have e1' := s3 _ _ e1
  have ew3 := s3 _ _ (s2 _ _ ew)
  have nw1 : gw ≠ g1 := ne_of' n1 ew
  have nw2 : gw ≠ g2 := ne_of' n2 (s2 _ _ ew)
  have n12 : g1 ≠ g2 := ne_of' n2 e1
  have ng2 : τ1 g2 = none := free_sub s2 n2
  have s13 : Sub τ1 τ3 := s2.trans s3
  simp -implicitDefEqProofs (disch := omega) only [List.any_cons, List.any_nil, Nat.reduceEqDiff, List.map_cons, List.map_nil, Option.map_some, Option.map_none, List.nil_append, ↓reduceIte, vcu0, vcu1, vcu2, vcu3, vcu4, vcu5, vcu6, vcu7, vcu8, vcu9, vcu10, vcu11, vcu12, vcu13, vcu14, vcu15, vcu16, vcu17, vcu18, vcu19, vcu20, ↓vcd0, ↓vcd1, ↓vcd2, ↓vcd3, opK_some]
  refine (implRun_at τ3 lines g1 0 cs g2 0 xs (pairsAt_own e1') (intsAt_own e2) hl hl2 hF hR).mono ?_
  rintro got τ4 ⟨s4, w4⟩
  rw [← hzs] at w4
  simp -implicitDefEqProofs (disch := omega) only [List.any_cons, List.any_nil, Nat.reduceEqDiff, List.map_cons, List.map_nil, Option.map_some, Option.map_none, List.nil_append, ↓reduceIte, vcu0, vcu1, vcu2, vcu3, vcu4, vcu5, vcu6, vcu7, vcu8, vcu9, vcu10, vcu11, vcu12, vcu13, vcu14, vcu15, vcu16, vcu17, vcu18, vcu19, vcu20, ↓vcd0, ↓vcd1, ↓vcd2, ↓vcd3, opK_some]
  refine (eqInts_calls τ4 _ _ zs zs w4.ints (.inr ⟨gw, 0, rfl, intsAt_own (s4 _ _ ew3)⟩) hzl hzl).mono ?_
  rintro r _ ⟨rfl, rfl⟩
  rename_i τ4
  simp -implicitDefEqProofs (disch := omega) only [List.any_cons, List.any_nil, Nat.reduceEqDiff, List.map_cons, List.map_nil, Option.map_some, Option.map_none, List.nil_append, ↓reduceIte, vcu0, vcu1, vcu2, vcu3, vcu4, vcu5, vcu6, vcu7, vcu8, vcu9, vcu10, vcu11, vcu12, vcu13, vcu14, vcu15, vcu16, vcu17, vcu18, vcu19, vcu20, ↓vcd0, ↓vcd1, ↓vcd2, ↓vcd3, opK_some, decide_true]
  refine (toComps_at τ4 h o cs ((hg1.sub s13).sub s4) hl).mono ?_
  rintro r τ5 ⟨t5, n5, rfl, s5, e5⟩
  simp -implicitDefEqProofs (disch := omega) only [List.any_cons, List.any_nil, Nat.reduceEqDiff, List.map_cons, List.map_nil, Option.map_some, Option.map_none, List.nil_append, ↓reduceIte, vcu0, vcu1, vcu2, vcu3, vcu4, vcu5, vcu6, vcu7, vcu8, vcu9, vcu10, vcu11, vcu12, vcu13, vcu14, vcu15, vcu16, vcu17, vcu18, vcu19, vcu20, ↓vcd0, ↓vcd1, ↓vcd2, ↓vcd3, opK_some]
  refine (eqComps_at τ5 g1 0 t5 0 cs cs (pairsAt_own (s5 _ _ (s4 _ _ e1'))) (pairsAt_own e5) hl hl).mono ?_
  rintro r _ ⟨rfl, rfl⟩
  rename_i τ5
  simp -implicitDefEqProofs (disch := omega) only [List.any_cons, List.any_nil, Nat.reduceEqDiff, List.map_cons, List.map_nil, Option.map_some, Option.map_none, List.nil_append, ↓reduceIte, vcu0, vcu1, vcu2, vcu3, vcu4, vcu5, vcu6, vcu7, vcu8, vcu9, vcu10, vcu11, vcu12, vcu13, vcu14, vcu15, vcu16, vcu17, vcu18, vcu19, vcu20, ↓vcd0, ↓vcd1, ↓vcd2, ↓vcd3, opK_some, decide_true]
  refine (toInts_at τ5 h' o' xs (((hu1'.sub s13).sub s4).sub s5) hl2).mono ?_
  rintro r τ6 ⟨t6, n6, rfl, s6, e6⟩
  have s36 : Sub τ3 τ6 := (s4.trans s5).trans s6
  have w6 := w4.sub (s5.trans s6)
  simp -implicitDefEqProofs (disch := omega) only [List.any_cons, List.any_nil, Nat.reduceEqDiff, List.map_cons, List.map_nil, Option.map_some, Option.map_none, List.nil_append, ↓reduceIte, vcu0, vcu1, vcu2, vcu3, vcu4, vcu5, vcu6, vcu7, vcu8, vcu9, vcu10, vcu11, vcu12, vcu13, vcu14, vcu15, vcu16, vcu17, vcu18, vcu19, vcu20, ↓vcd0, ↓vcd1, ↓vcd2, ↓vcd3, opK_some]
  refine (eqInts_calls τ6 _ _ xs xs (.inr ⟨g2, 0, rfl, intsAt_own (s36 _ _ e2)⟩) (.inr ⟨t6, 0, rfl, intsAt_own e6⟩) hl2 hl2).mono ?_
  rintro r _ ⟨rfl, rfl⟩
  rename_i τ6
  simp -implicitDefEqProofs (disch := omega) only [List.any_cons, List.any_nil, Nat.reduceEqDiff, List.map_cons, List.map_nil, Option.map_some, Option.map_none, List.nil_append, ↓reduceIte, vcu0, vcu1, vcu2, vcu3, vcu4, vcu5, vcu6, vcu7, vcu8, vcu9, vcu10, vcu11, vcu12, vcu13, vcu14, vcu15, vcu16, vcu17, vcu18, vcu19, vcu20, ↓vcd0, ↓vcd1, ↓vcd2, ↓vcd3, opK_some, decide_true]
  refine (markP_own τ6 g1 cs 1 (s36 _ _ e1') hl (by omega)).mono ?_
  rintro r τ7 ⟨rfl, k7, e7⟩
  simp -implicitDefEqProofs (disch := omega) only [List.any_cons, List.any_nil, Nat.reduceEqDiff, List.map_cons, List.map_nil, Option.map_some, Option.map_none, List.nil_append, ↓reduceIte, vcu0, vcu1, vcu2, vcu3, vcu4, vcu5, vcu6, vcu7, vcu8, vcu9, vcu10, vcu11, vcu12, vcu13, vcu14, vcu15, vcu16, vcu17, vcu18, vcu19, vcu20, ↓vcd0, ↓vcd1, ↓vcd2, ↓vcd3, opK_some]
  refine (mark_own τ7 g2 xs (1 + 2 * (cs.length : Int)) (k7.at (s36 _ _ e2) n12.symm) hl2 (by omega)).mono ?_
  rintro r τ8 ⟨rfl, k8, e8⟩
  have w8 := (w6.kept k7 e1').kept k8 e2
  have ew8 := k8.at (k7.at (s36 _ _ ew3) nw1) nw2
  have s18 : Sub τ1 τ8 := k8.sub (k7.sub (s13.trans s36) n1) ng2
  simp -implicitDefEqProofs (disch := omega) only [List.any_cons, List.any_nil, Nat.reduceEqDiff, List.map_cons, List.map_nil, Option.map_some, Option.map_none, List.nil_append, ↓reduceIte, vcu0, vcu1, vcu2, vcu3, vcu4, vcu5, vcu6, vcu7, vcu8, vcu9, vcu10, vcu11, vcu12, vcu13, vcu14, vcu15, vcu16, vcu17, vcu18, vcu19, vcu20, ↓vcd0, ↓vcd1, ↓vcd2, ↓vcd3, opK_some]
  refine (eqInts_calls τ8 _ _ zs zs w8.ints (.inr ⟨gw, 0, rfl, intsAt_own ew8⟩) hzl hzl).mono ?_
  rintro r _ ⟨rfl, rfl⟩
  rename_i τ8
  simp -implicitDefEqProofs (disch := omega) only [List.any_cons, List.any_nil, Nat.reduceEqDiff, List.map_cons, List.map_nil, Option.map_some, Option.map_none, List.nil_append, ↓reduceIte, vcu0, vcu1, vcu2, vcu3, vcu4, vcu5, vcu6, vcu7, vcu8, vcu9, vcu10, vcu11, vcu12, vcu13, vcu14, vcu15, vcu16, vcu17, vcu18, vcu19, vcu20, ↓vcd0, ↓vcd1, ↓vcd2, ↓vcd3, opK_some, decide_true]
  refine (markI_calls τ3 τ8 got zs 1 w8 hzl (by omega)).mono ?_
  rintro r τ9 ⟨rfl, w9, m9⟩
  have s19 : Sub τ1 τ9 := fun k ob e => m9 k ob (s13 _ _ e) (s18 _ _ e)
  simp -implicitDefEqProofs (disch := omega) only [List.any_cons, List.any_nil, Nat.reduceEqDiff, List.map_cons, List.map_nil, Option.map_some, Option.map_none, List.nil_append, ↓reduceIte, vcu0, vcu1, vcu2, vcu3, vcu4, vcu5, vcu6, vcu7, vcu8, vcu9, vcu10, vcu11, vcu12, vcu13, vcu14, vcu15, vcu16, vcu17, vcu18, vcu19, vcu20, ↓vcd0, ↓vcd1, ↓vcd2, ↓vcd3, opK_some]
  refine (heldI_calls τ9 got zs.length 1 w9.ints hzl (by omega)).mono ?_
  rintro r _ ⟨rfl, rfl⟩
  rename_i τ9
  simp -implicitDefEqProofs (disch := omega) only [List.any_cons, List.any_nil, Nat.reduceEqDiff, List.map_cons, List.map_nil, Option.map_some, Option.map_none, List.nil_append, ↓reduceIte, vcu0, vcu1, vcu2, vcu3, vcu4, vcu5, vcu6, vcu7, vcu8, vcu9, vcu10, vcu11, vcu12, vcu13, vcu14, vcu15, vcu16, vcu17, vcu18, vcu19, vcu20, ↓vcd0, ↓vcd1, ↓vcd2, ↓vcd3, opK_some, ne_eq, not_true_eq_false, eq_self]
  refine (toComps_at τ9 h o cs (hg1.sub s19) hl).mono ?_
  rintro r τ10 ⟨g10, n10, rfl, s10, e10⟩
  simp -implicitDefEqProofs (disch := omega) only [List.any_cons, List.any_nil, Nat.reduceEqDiff, List.map_cons, List.map_nil, Option.map_some, Option.map_none, List.nil_append, ↓reduceIte, vcu0, vcu1, vcu2, vcu3, vcu4, vcu5, vcu6, vcu7, vcu8, vcu9, vcu10, vcu11, vcu12, vcu13, vcu14, vcu15, vcu16, vcu17, vcu18, vcu19, vcu20, ↓vcd0, ↓vcd1, ↓vcd2, ↓vcd3, opK_some]
  refine (toInts_at τ10 h' o' xs ((hu1'.sub s19).sub s10) hl2).mono ?_
  rintro r τ11 ⟨g11, n11, rfl, s11, e11⟩
  simp -implicitDefEqProofs (disch := omega) only [List.any_cons, List.any_nil, Nat.reduceEqDiff, List.map_cons, List.map_nil, Option.map_some, Option.map_none, List.nil_append, ↓reduceIte, vcu0, vcu1, vcu2, vcu3, vcu4, vcu5, vcu6, vcu7, vcu8, vcu9, vcu10, vcu11, vcu12, vcu13, vcu14, vcu15, vcu16, vcu17, vcu18, vcu19, vcu20, ↓vcd0, ↓vcd1, ↓vcd2, ↓vcd3, opK_some]
  refine (implRun_at τ11 lines g10 0 cs g11 0 xs (pairsAt_own (s11 _ _ e10)) (intsAt_own e11) hl hl2 hF hR).mono ?_
  rintro got2 τ12 ⟨s12, w12⟩
  rw [← hzs] at w12
  simp -implicitDefEqProofs (disch := omega) only [List.any_cons, List.any_nil, Nat.reduceEqDiff, List.map_cons, List.map_nil, Option.map_some, Option.map_none, List.nil_append, ↓reduceIte, vcu0, vcu1, vcu2, vcu3, vcu4, vcu5, vcu6, vcu7, vcu8, vcu9, vcu10, vcu11, vcu12, vcu13, vcu14, vcu15, vcu16, vcu17, vcu18, vcu19, vcu20, ↓vcd0, ↓vcd1, ↓vcd2, ↓vcd3, opK_some]
  refine (eqInts_calls τ12 _ _ zs zs w12.ints (.inr ⟨gw, 0, rfl, intsAt_own (s12 _ _ (s11 _ _ (s10 _ _ (s19 _ _ ew))))⟩) hzl hzl).mono ?_
  rintro r _ ⟨rfl, rfl⟩
  rename_i τ12
  simp -implicitDefEqProofs (disch := omega) only [List.any_cons, List.any_nil, Nat.reduceEqDiff, List.map_cons, List.map_nil, Option.map_some, Option.map_none, List.nil_append, ↓reduceIte, vcu0, vcu1, vcu2, vcu3, vcu4, vcu5, vcu6, vcu7, vcu8, vcu9, vcu10, vcu11, vcu12, vcu13, vcu14, vcu15, vcu16, vcu17, vcu18, vcu19, vcu20, ↓vcd0, ↓vcd1, ↓vcd2, ↓vcd3, opK_some, decide_true]
  refine (heldI_calls τ12 got zs.length 1 (w9.sub ((s10.trans s11).trans s12)).ints hzl (by omega)).mono ?_
  rintro r _ ⟨rfl, rfl⟩
  simp -implicitDefEqProofs (disch := omega) only [List.any_cons, List.any_nil, Nat.reduceEqDiff, List.map_cons, List.map_nil, Option.map_some, Option.map_none, List.nil_append, ↓reduceIte, vcu0, vcu1, vcu2, vcu3, vcu4, vcu5, vcu6, vcu7, vcu8, vcu9, vcu10, vcu11, vcu12, vcu13, vcu14, vcu15, vcu16, vcu17, vcu18, vcu19, vcu20, ↓vcd0, ↓vcd1, ↓vcd2, ↓vcd3, opK_some, ne_eq, not_true_eq_false, eq_self]
  refine fin_one Try.results15 ?_
  simp -implicitDefEqProofs (disch := omega) only [List.any_cons, List.any_nil, Nat.reduceEqDiff, List.map_cons, List.map_nil, Option.map_some, Option.map_none, List.nil_append, ↓reduceIte, vcu0, vcu1, vcu2, vcu3, vcu4, vcu5, vcu6, vcu7, vcu8, vcu9, vcu10, vcu11, vcu12, vcu13, vcu14, vcu15, vcu16, vcu17, vcu18, vcu19, vcu20, ↓vcd0, ↓vcd1, ↓vcd2, ↓vcd3]

open Go.ChangeShapes Go.WideShapes Go.ChangeAt Go.RowKit

set_option maxRecDepth 100000 in
theorem lifted15 (os : Os) (started : os.Started) (H : Type) (enc : TypeId × Value → H) :
    ReturnsInHanded {} Try.checked os 15 .any (Rows.fnExactNetRunSpec.pre6 enc Try.prog Try.f15 Rows.fnExactNetRunRow.domain false) (Rows.fnExactNetRunSpec.post enc Try.prog Try.f15 false true false false) := by
  refine returnsInHanded_of_change (C := Try.checked) own started (by kernel_rfl) Try.func15
    (ChangeSpec.witness6 (enc := enc) (C := Try.checked) false ⟨#[], #[.int .i64 0, .slice none 0 0, .slice none 0 0], []⟩ 8 (by kernel_rfl) (by kernel_rfl) (by kernel_rfl) (by kernel_rfl)) ?_
  intro W base args ds gs before hval hW _ _
  have hW' := hW
  obtain ⟨p, q, hA, hV, -, -, -⟩ := hW'
  rw [Try.params15] at hA hval
  obtain ⟨v0, vs0, d0, ds0, p0, q0, hargs, rfl, rfl, h0, r0⟩ := trodAll_cons hA
  obtain ⟨v1, vs1, d1, ds1, p1, q1, rfl, rfl, rfl, h1, r1⟩ := trodAll_cons r0
  obtain ⟨v2, vs2, d2, ds2, p2, q2, rfl, rfl, rfl, h2, r2⟩ := trodAll_cons r1
  obtain ⟨rfl, rfl, rfl⟩ := trodAll_nil r2
  obtain ⟨rfl, rfl⟩ := trodVars_none hV
  obtain rfl : args = #[v0, v1, v2] := by cases args; simp_all
  obtain ⟨z0, rfl, rfl, rfl, wz0⟩ := open_int Try.underlying3 (hval 0 3 v0 rfl rfl) h0
  obtain ⟨β1, σ1, a1, dd1, L1, U1, S1, R1, Y1⟩ := start_one (m := 4) (s := .slc (.rcd [.int .i64, .int .i64])) (by kernel_rfl) (Start.start W) (slice_cells Try.underlying44 (hval 1 44 v1 rfl rfl)) h1
  obtain ⟨zs1, I1, w1, m1⟩ := lay_pairs Y1
  obtain ⟨β2, σ2, a2, zs2, L2, U2, S2, R2, I2, w2, m2⟩ := start_ints Try.underlying31 Try.underlying3 co3 S1 (hval 2 31 v2 rfl rfl) h2
  refine ((lawNetRun σ2 z0 a1 zs1 a2 zs2 wz0 (I1.sub U2) m1 w1 (I2) m2 w2).2 β2 W [.int .i64 z0, v1, v2] S2.rel (.cons (.int _ _) (.cons (RelV.mono L2 R1) (.cons R2 (.nil _))))).mono fun e W' h => ?_
  obtain ⟨β', r, r', σ', -, rfl, hr, hrel, rfl⟩ := h
  cases hr
  exact ⟨_, rfl, law_post laidOut hW rfl rfl (by rw [Try.params15]; intro t ht; simp only [List.mem_cons, List.not_mem_nil, or_false, or_self] at ht; rcases ht with rfl | rfl | rfl <;> exact ⟨by kernel_rfl, of_decide_eq_true (by kernel_rfl)⟩) rfl Try.underlying4 hrel.below⟩

theorem facts15 : joinedFacts Try.prog 15 Try.f15 Rows.fnExactNetRunSpec Rows.fnExactNetRunRow = true := by
  unfold joinedFacts
  rw [mayE, liftsE, makeE]
  kernel_rfl

theorem proved15 : Rows.FnExactNetRunSaid :=
  OpenClaim.holds_of_wide 15 Try.f15 rfl rfl rfl rfl rfl rfl rfl ⟨rfl, rfl, rfl, rfl, rfl⟩ rfl rfl rfl rfl rfl (by kernel_rfl) Try.func15 facts15 (of_decide_eq_true (by kernel_rfl))
    (by unfold Func.isWrapper; first | (rw [if_pos (by decide +kernel)]; kernel_rfl) | (rw [if_neg (by decide +kernel)]; exact ⟨rfl, rfl⟩))
    (fun os started H enc _ => lifted15 os started H enc)


end Go.Proofs.Ytnkpoflhdfchjaa
