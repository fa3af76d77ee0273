/- FnNightDeeds answers true for every code. -/
import Derived.Test.YtofdnmlpfagibaaSBg
set_option linter.unusedSimpArgs false
set_option linter.unusedVariables false
set_option maxHeartbeats 6400000
namespace Go.Proofs.Ytofdnmlpfagibaa
open Go Go.Abs Go.RowKit Go.Dial Go.Clos
variable {w0 : World}

set_option maxRecDepth 16000 in
theorem law9 (σ : AHeap) (v : Value) (bs : List Int) (hv : Ints .u8 σ v bs) (hm : bs.length ≤ maxLen) (hw : ∀ z ∈ bs, (Lit.int .u8 z).wf = true) :
  ACall Try.prog w0 9 [v] σ fun r _ => r = .bool true := by
 unfold maxLen at hm
 refine ACall.ints_arg (pre := []) (by kernel_rfl) hv fun σ1 h o hs hg => ?_
 clear hv hs σ v
 have hb := bytes_of hw
 refine acall_go mixed Try.func9 rfl good9 fun pr => ?_
 by_cases hbig : 1048576 < bs.length
 ·simp -implicitDefEqProofs (disch := omega) only [Nat.reduceEqDiff, ↓reduceIte, vcu, ↓vcd]
  refine fin_one Try.results9 ?_
  simp -implicitDefEqProofs (disch := omega) only [Nat.reduceEqDiff, ↓reduceIte, vcu, ↓vcd]
 have hl : bs.length ≤ 1048576 := by omega
 simp -implicitDefEqProofs (disch := omega) only [Nat.reduceEqDiff, ↓reduceIte, vcu, ↓vcd]
 refine (drawND_at σ1 h o bs hg hl hb).mono ?_
 rintro _ τ ⟨⟨e, v1, v2, rfl, hv, hs⟩, hsub⟩
 clear hg hl hb
 obtain ⟨ta, ca⟩ := exV_in hv
 clear hv
 have hB := hs.b
 unfold exV
 simp -implicitDefEqProofs (disch := omega) only [Nat.reduceEqDiff, ↓reduceIte, vcu, ↓vcd, opK_some, List.getElem?_toArray, List.getElem?_cons_zero, List.getElem?_cons_succ]
 have onea := cells_one ta ca
 refine r_local (cs := #[.int .i64 e.s.O, .int .i64 e.s.E, .int .i64 e.s.M, v1, v2]) ze28 (by decide) z9q (by rw [co28]; rfl) rfl onea (Nat.zero_lt_succ _) fun qa T1 n1 s1 ka => ?_
 replace ka : T1 qa = some ⟨exC v1 v2 e, false⟩ := ka
 replace ta := ta.sub s1
 replace ca := ca.sub s1
 have l2 : lds T1 qa 0 5 = some [.int .i64 e.s.O, .int .i64 e.s.E, .int .i64 e.s.M, v1, v2] := by rw [lds_of ka (by simp [exC])]; rfl
 simp -implicitDefEqProofs (disch := omega) only [Nat.reduceEqDiff, ↓reduceIte, vcu, ↓vcd, l2, co28, co50, co24]
 refine (implND_calls T1 (.agg #[.int .i64 e.s.O, .int .i64 e.s.E, .int .i64 e.s.M, v1, v2]) e ⟨_, _, rfl, ta, ca⟩ hB).mono ?_
 rintro vd A1 ⟨b1, tl⟩
 replace ta := ta.sub b1
 replace ca := ca.sub b1
 replace ka := b1 _ _ ka
 replace tl := tl.dds
 have l3 : lds A1 qa 0 5 = some [.int .i64 e.s.O, .int .i64 e.s.E, .int .i64 e.s.M, v1, v2] := by rw [lds_of ka (by simp [exC])]; rfl
 simp -implicitDefEqProofs (disch := omega) only [Nat.reduceEqDiff, ↓reduceIte, vcu, ↓vcd, opK_some, l3, co28, co50, co24]
 refine (night_calls A1 (.agg #[.int .i64 e.s.O, .int .i64 e.s.E, .int .i64 e.s.M, v1, v2]) e ⟨_, _, rfl, ta, ca⟩ hB).mono ?_
 rintro vn A2 ⟨b2, tn⟩
 replace ta := ta.sub b2
 replace ca := ca.sub b2
 replace ka := b2 _ _ ka
 replace tl := tl.sub b2
 replace tn := tn.dds
 have hnl := nightVB e hB
 simp -implicitDefEqProofs (disch := omega) only [Nat.reduceEqDiff, ↓reduceIte, vcu, ↓vcd, opK_some]
 refine (sameD_calls A2 vd vn _ _ tl tn hnl hnl).mono ?_
 rintro _ _ ⟨rfl, rfl⟩
 rename_i A2
 have l4 : lds A2 qa 0 5 = some [.int .i64 e.s.O, .int .i64 e.s.E, .int .i64 e.s.M, v1, v2] := by rw [lds_of ka (by simp [exC])]; rfl
 rw [decide_eq_true rfl]
 simp -implicitDefEqProofs (disch := omega) only [Nat.reduceEqDiff, ↓reduceIte, vcu, ↓vcd, opK_some, l4, co28, co50, co24, Bool.not_true]
 refine (exVal_calls A2 (.agg #[.int .i64 e.s.O, .int .i64 e.s.E, .int .i64 e.s.M, v1, v2]) e ⟨_, _, rfl, ta, ca⟩ hB).mono ?_
 rintro _ _ ⟨rfl, rfl⟩
 rename_i A2
 have lnd := lenD tl
 by_cases ho : ExOk e
 case neg =>
  have h0 : nightV e = [] := if_neg ho
  rw [h0] at lnd
  rw [decide_eq_false ho]
  simp -implicitDefEqProofs (disch := omega) only [Nat.reduceEqDiff, ↓reduceIte, vcu, ↓vcd, opK_some, lnd, Bool.not_false, List.length_nil, Int.natCast_zero]
  refine (alive_at A2).mono ?_
  rintro _ _ ⟨rfl, rfl⟩
  rename_i A2
  simp -implicitDefEqProofs (disch := omega) only [Nat.reduceEqDiff, ↓reduceIte, vcu, ↓vcd, opK_some]
  refine fin_one Try.results9 ?_
  simp -implicitDefEqProofs (disch := omega) only [Nat.reduceEqDiff, ↓reduceIte, vcu, ↓vcd]
 have h0 : nightV e = nightL e.cs := if_pos ho
 have hR : exRun e (nightV e) = (⟨e.s, e.ps, []⟩, e.cs.length) := by rw [h0]; exact (if_pos ho).trans (night_is ho)
 have hnt : ∀ d ∈ nightV e, d.t.length ≤ 1048576 := by rw [h0]; exact nightL_t
 have hll : (nightV e).length = e.cs.length := by rw [h0]; exact List.length_map ..
 rw [decide_eq_true ho]
 simp -implicitDefEqProofs (disch := omega) only [Nat.reduceEqDiff, ↓reduceIte, vcu, ↓vcd, opK_some, l4, co28, co50, co24, Bool.not_true]
 refine (implER_calls A2 (.agg #[.int .i64 e.s.O, .int .i64 e.s.E, .int .i64 e.s.M, v1, v2]) vd e (nightV e) ⟨_, _, rfl, ta, ca⟩ hB tl hnl hnt).mono ?_
 rintro _ A3 ⟨_, rfl, b3, u1, u2, rfl, o1, o2⟩
 rw [hR] at o1 o2 ⊢
 dsimp only at o1 o2 ⊢
 have tx := o1.texts
 have cx := o2.tris
 clear o1 o2
 replace ta := ta.sub b3
 replace ca := ca.sub b3
 replace ka := b3 _ _ ka
 replace tl := tl.sub b3
 replace tn := tn.sub b3
 obtain ⟨x, hx⟩ : ∃ x : Ex, x = ⟨e.s, e.ps, []⟩ := ⟨_, rfl⟩
 have hxp : x.ps = e.ps := by rw [hx]
 have hxc : x.cs = [] := by rw [hx]
 replace tx : Texts A3 u1 x.ps := by rw [hxp]; exact tx
 replace cx : Tris A3 u2 x.cs := by rw [hxc]; exact cx
 rw [← hx]
 unfold exV
 simp -implicitDefEqProofs (disch := omega) only [Nat.reduceEqDiff, ↓reduceIte, vcu, ↓vcd, opK_some, List.getElem?_toArray, List.getElem?_cons_zero, List.getElem?_cons_succ]
 have onex := cells_one tx cx
 refine r_local (cs := #[.int .i64 x.s.O, .int .i64 x.s.E, .int .i64 x.s.M, u1, u2]) ze28 (by decide) z9q (by rw [co28]; rfl) rfl onex (Nat.zero_lt_succ _) fun qx T5 n5 s5 kx => ?_
 replace kx : T5 qx = some ⟨exC u1 u2 x, false⟩ := kx
 replace ta := ta.sub s5
 replace ca := ca.sub s5
 replace ka := s5 _ _ ka
 replace tl := tl.sub s5
 replace tn := tn.sub s5
 replace tx := tx.sub s5
 replace cx := cx.sub s5
 have l6 : ld T5 qx (0 + 4) = some u2 := ld_of kx rfl
 have l7 : ld T5 qx (0 + 3) = some u1 := ld_of kx rfl
 have l8 : ld T5 qa (0 + 3) = some v1 := ld_of ka rfl
 have lcx := lenC cx
 rw [hxc] at lcx
 have lnd := lenD tl
 rw [hll] at lnd
 simp -implicitDefEqProofs (disch := omega) only [Nat.reduceEqDiff, ↓reduceIte, vcu, ↓vcd, l6, l7, l8, lcx, lnd, List.length_nil, Int.natCast_zero]
 have hsm := sameS_calls (w0 := w0) T5 u1 v1 x.ps e.ps tx ta (by rw [hxp]; exact hB.1) hB.1
 rw [hxp, decide_eq_true rfl] at hsm
 refine (hsm).mono ?_
 rintro _ _ ⟨rfl, rfl⟩
 rename_i T5
 simp -implicitDefEqProofs (disch := omega) only [Nat.reduceEqDiff, ↓reduceIte, vcu, ↓vcd, opK_some]
 refine fin_one Try.results9 ?_
 simp -implicitDefEqProofs (disch := omega) only [Nat.reduceEqDiff, ↓reduceIte, vcu, ↓vcd]

open Go.ChangeShapes Go.WideShapes Go.ChangeAt Go.RowKit

set_option maxRecDepth 100000 in
theorem lifted9 (os : Os) (started : os.Started) (H : Type) (enc : TypeId × Value → H) :
  ReturnsInHanded {} Try.checked os 9 .any (Rows.fnNightDeedsSpec.pre6 enc Try.prog Try.f9 Rows.fnNightDeedsRow.domain false) (Rows.fnNightDeedsSpec.post enc Try.prog Try.f9 false true false false) := by
 refine returnsInHanded_of_change (C := Try.checked) own started (by kernel_rfl) Try.func9
  (ChangeSpec.witness6 (enc := enc) (C := Try.checked) false ⟨#[], #[.slice none 0 0], []⟩ 8 (by kernel_rfl) (by kernel_rfl) (by kernel_rfl) (by kernel_rfl)) ?_
 intro W base args ds gs before hval hW _ _
 have hW' := hW
 obtain ⟨p, q, hA, hV, -, -, -⟩ := hW'
 rw [Try.params9] at hA hval
 obtain ⟨v0, vs0, d0, ds0, p0, q0, hargs, rfl, rfl, h0, r0⟩ := trodAll_cons hA
 obtain ⟨rfl, rfl, rfl⟩ := trodAll_nil r0
 obtain ⟨rfl, rfl⟩ := trodVars_none hV
 obtain rfl : args = #[v0] := by cases args; simp_all
 obtain ⟨β0, σ0, a0, zs0, L0, U0, S0, R0, I0, w0, m0⟩ := start_ints Try.underlying22 Try.underlying5 co5 (Start.start W) (hval 0 22 v0 rfl rfl) h0
 refine ((law9 σ0 a0 zs0 (I0) m0 w0).2 noProt β0 W [v0] S0.rel (.cons R0 (.nil _))).mono fun e W' h => ?_
 obtain ⟨β', r, r', σ', -, rfl, hr, hrel, rfl⟩ := h
 cases hr
 exact ⟨_, rfl, law_post laidOut hW rfl rfl (by rw [Try.params9]; intro t ht; simp only [List.mem_cons, List.not_mem_nil, or_false, or_self] at ht; rcases ht with rfl <;> exact ⟨by kernel_rfl, of_decide_eq_true (by kernel_rfl)⟩) rfl Try.underlying4 hrel.below⟩

theorem facts9 : joinedFacts Try.prog 9 Try.f9 Rows.fnNightDeedsSpec Rows.fnNightDeedsRow = true := by
 unfold joinedFacts
 rw [mayE, liftsE, makeE]
 kernel_rfl

theorem proved9 : Rows.FnNightDeedsSaid :=
 OpenClaim.holds_of_wide 9 Try.f9 rfl rfl rfl rfl rfl rfl rfl ⟨rfl, rfl, rfl, rfl, rfl⟩ rfl rfl rfl rfl rfl (by kernel_rfl) Try.func9 facts9 (of_decide_eq_true (by kernel_rfl))
  (by unfold Func.isWrapper; first | (rw [if_pos (by decide +kernel)]; kernel_rfl) | (rw [if_neg (by decide +kernel)]; exact ⟨rfl, rfl⟩))
  (fun os started H enc _ => lifted9 os started H enc)


end Go.Proofs.Ytofdnmlpfagibaa
