/- FnExactJournalText answers true for all arguments. -/
import Derived.Test.YtafkndnmhhjdhaaDoorSHg
set_option linter.unusedSimpArgs false
set_option linter.unusedVariables false
namespace Go.Proofs.YtafkndnmhhjdhaaDoor
open Go Go.Abs Go.RowKit Go.Dial Go.Clos
variable {w0 : World} 

set_option maxRecDepth 8000 in
theorem law8JT (σ : AHeap) (vd : Value) (ds : List Dd) (hd : Dds σ vd ds) (hm : ds.length ≤ maxLen) (hw : ∀ z ∈ ds, z.t.length ≤ maxLen ∧ (Lit.int .i64 z.k).wf = true ∧ (Lit.int .i64 z.l).wf = true) :
  ACall Tryd.prog w0 5 [vd] σ fun r _ => r = .bool true := by
 refine acall_go mixed Tryd.func5 rfl good5 fun pr => ?_
 simp -implicitDefEqProofs (disch := omega) only [Nat.reduceEqDiff, ↓reduceIte, vcu, ↓vcd]
 refine (szDds_calls (w0 := w0) σ vd ds 1048576 (by omega) hd hm fun c hc => (hw c hc).1).mono ?_
 rintro _ _ ⟨⟨n, rfl, hn, hc⟩, rfl⟩
 rename_i σ
 simp -implicitDefEqProofs (disch := omega) only [Nat.reduceEqDiff, ↓reduceIte, vcu, ↓vcd, opK_some]
 by_cases hneg : n < 0
 ·simp -implicitDefEqProofs (disch := omega) only [Nat.reduceEqDiff, ↓reduceIte, vcu, ↓vcd]
  refine fin_one Tryd.results5 ?_
  simp -implicitDefEqProofs (disch := omega) only [Nat.reduceEqDiff, ↓reduceIte, vcu, ↓vcd]
 obtain ⟨hl, hp⟩ := hc.resolve_left hneg
 clear hc hw hm
 simp -implicitDefEqProofs (disch := omega) only [Nat.reduceEqDiff, ↓reduceIte, vcu, ↓vcd]
 refine (toDds_calls σ vd ds hd hl).mono ?_
 rintro v1 T1 ⟨s1, o1⟩
 simp -implicitDefEqProofs (disch := omega) only [Nat.reduceEqDiff, ↓reduceIte, vcu, ↓vcd, opK_some]
 refine (jrnText_calls T1 v1 ds o1.dds hl hp).mono ?_
 rintro _ _ ⟨rfl, rfl⟩
 rename_i T1
 simp -implicitDefEqProofs (disch := omega) only [Nat.reduceEqDiff, ↓reduceIte, vcu, ↓vcd, opK_some]
 refine (toDds_calls T1 vd ds (hd.sub s1) hl).mono ?_
 rintro v2 T2 ⟨s2, o2⟩
 simp -implicitDefEqProofs (disch := omega) only [Nat.reduceEqDiff, ↓reduceIte, vcu, ↓vcd, opK_some]
 refine (implJT_calls T2 v2 ds o2.dds hl hp).mono ?_
 rintro _ _ ⟨rfl, rfl⟩
 rename_i T2
 simp -implicitDefEqProofs (disch := omega) only [Nat.reduceEqDiff, ↓reduceIte, vcu, ↓vcd, opK_some, beq_self_eq_true, Bool.not_true, ne_eq, not_true_eq_false, eq_self]
 refine (toDds_calls T2 vd ds (hd.sub (s1.trans s2)) hl).mono ?_
 rintro v3 T3 ⟨s3, o3⟩
 simp -implicitDefEqProofs (disch := omega) only [Nat.reduceEqDiff, ↓reduceIte, vcu, ↓vcd, opK_some]
 refine (eqDds_calls T3 v2 v3 ds ds (o2.sub s3).dds o3.dds hl hl).mono ?_
 rintro _ _ ⟨rfl, rfl⟩
 simp -implicitDefEqProofs (disch := omega) only [Nat.reduceEqDiff, ↓reduceIte, vcu, ↓vcd, opK_some, eq_self, decide_true, Bool.not_true]
 refine fin_one Tryd.results5 ?_
 simp -implicitDefEqProofs (disch := omega) only [Nat.reduceEqDiff, ↓reduceIte, vcu, ↓vcd]

open Go.ChangeShapes Go.WideShapes Go.ChangeAt Go.RowKit

noncomputable def laidW5 (os : Os) : World := World.doorLaid Tryd.prog 400 os
set_option maxRecDepth 100000 in
theorem laid_met5 (os : Os) : laidMetH Tryd.prog Rows.fnExactJournalTextRow.laid ((laidW5 os).forCall (fun _ _ => 0) ⟨#[], #[.slice none 0 0], []⟩).memory :=
 laidMetH_of_parts3 (fuel := 8) (laidMet_of_run' 8 (by kernel_rfl) (by kernel_rfl)) (by kernel_rfl) (by kernel_rfl)
set_option maxRecDepth 100000 in
theorem reads5 (os : Os) {H : Type} (enc : TypeId × Value → H) : (DataW.whole enc Tryd.prog ((laidW5 os).forCall (fun _ _ => 0) ⟨#[], #[.slice none 0 0], []⟩).memory Tryd.f5.params.toList Rows.fnExactJournalTextSpec.vars false (#[.slice none 0 0] : Array Value).toList 8).isSome = true := by kernel_rfl
set_option maxRecDepth 100000 in
theorem lifted5 (os : Os) (started : os.Started) (H : Type) (enc : TypeId × Value → H) (F : Stop.Interp) :
  ReturnsInHanded {} Tryd.checked os 5 .any ((OpenSpec.ofChange Rows.fnExactJournalTextSpec).preRow enc Tryd.prog Tryd.f5 Rows.fnExactJournalTextRow.domain false Rows.fnExactJournalTextRow.laid) (((OpenSpec.ofChange Rows.fnExactJournalTextSpec).at F).post enc Tryd.prog Tryd.f5 false true false false) := by
 obtain ⟨x, hx⟩ := Option.isSome_iff_exists.1 (reads5 os enc)
 refine returnsInHanded_of_row (C := Tryd.checked) (s := OpenSpec.ofChange Rows.fnExactJournalTextSpec) own started (by kernel_rfl) Tryd.func5
  (witness_row_at (enc := enc) (C := Tryd.checked) false (laidW5 os) #[.slice none 0 0] rfl (by kernel_rfl) (by kernel_rfl) (by kernel_rfl)
   (OpenSpec.preRow_of_cond 8 hx (by kernel_rfl) (fun k hk => by cases hk) (by kernel_rfl) (laid_met5 os))) ?_
 intro W base args ds gs before hval hW _ _ _ hL hSh _
 rw [MakeChecks.laidMetH_plain _ _ _ (by kernel_rfl)] at hL
 haveI := glob_m hSh
 have hW' := hW
 obtain ⟨p, q, hA, hV, -, -, -⟩ := hW'
 rw [Tryd.params5] at hA hval
 obtain ⟨v0, vs0, d0, ds0, p0, q0, hargs, rfl, rfl, h0, r0⟩ := trodAll_cons hA
 obtain ⟨rfl, rfl, rfl⟩ := trodAll_nil r0
 obtain ⟨rfl, rfl⟩ := trodVars_none hV
 obtain rfl : args = #[v0] := by cases args; simp_all
 obtain ⟨β0, σ0, a0, dd0, L0, U0, S0, R0, Y0⟩ := start_one (m := 4) (s := .slc (.rcd [.int .i64, .int .i64, .str])) (by kernel_rfl) (Start.start W) (slice_cells Tryd.underlying33 (hval 0 33 v0 rfl rfl)) h0
 obtain ⟨zs0, I0, w0, m0⟩ := lay_dds Y0
 refine ((law8JT σ0 a0 zs0 (I0) m0 w0).2 noProt β0 W [v0] S0.rel (.cons R0 (.nil _))).mono fun e W' h => ?_
 obtain ⟨β', r, r', σ', -, rfl, hr, hrel, rfl⟩ := h
 cases hr
 exact ⟨_, rfl, law_post laidOut hW rfl rfl (by rw [Tryd.params5]; intro t ht; simp only [List.mem_cons, List.not_mem_nil, or_false, or_self] at ht; rcases ht with rfl <;> exact ⟨by kernel_rfl, of_decide_eq_true (by kernel_rfl)⟩) rfl Tryd.underlying4 hrel.below⟩

theorem facts5 : joinedFacts Tryd.prog 5 Tryd.f5 Rows.fnExactJournalTextSpec Rows.fnExactJournalTextRow = true := by
 unfold joinedFacts
 rw [mayE, liftsE, makeE]
 kernel_rfl

set_option maxRecDepth 100000 in
theorem said5 : Rows.FnExactJournalTextSaid :=
 OpenClaim.holds_of_cond 5 Tryd.f5 rfl rfl rfl rfl rfl rfl rfl ⟨rfl, rfl, rfl, rfl, rfl⟩ rfl rfl rfl rfl rfl (by kernel_rfl) Tryd.func5 facts5 (of_decide_eq_true (by kernel_rfl))
  (by unfold Func.isWrapper; first | (rw [if_pos (by decide +kernel)]; kernel_rfl) | (rw [if_neg (by decide +kernel)]; exact ⟨rfl, rfl⟩))
  (fun os started H enc _ F => by rw [OpenClaim.pre_eq_preRow]; exact lifted5 os started H enc F)
theorem plain5 (f : FuncId) (fn : Func) (hf : Tryd.pinned.checked.prog.funcNamed Rows.fnExactJournalTextRow.func = some f) (hfn : Tryd.pinned.checked.prog.funcs[f]? = some fn) :
  true = Tryd.pinned.checked.prog.looks [] ∧ ∀ (j : Nat) t, fn.params[j]? = some t → Tryd.pinned.checked.prog.wantsStandIn t = false := by
 obtain rfl : f = 5 := Option.some.inj ((show Tryd.prog.funcNamed Rows.fnExactJournalTextRow.func = some 5 by kernel_rfl).symm.trans hf) |>.symm
 obtain rfl : fn = Tryd.f5 := (Option.some.inj (Tryd.func5.symm.trans hfn)).symm
 refine ⟨isTrue_looks, fun j t ht => ?_⟩
 rw [Tryd.params5] at ht
 obtain rfl : t = 33 := by simpa using Array.mem_of_getElem? ht
 exact (show Tryd.prog.wantsStandIn 33 = false by kernel_rfl)
set_option maxRecDepth 100000 in
theorem proved5 : Rows.FnExactJournalTextCardSaid :=
 Claim7.holds_tied_plain_at .later [] _ _ _ _ said5 (fun _ h => by cases h) (by kernel_rfl) (fun _ h => by cases h) fnExactJournalText_row_tie rfl ⟨rfl, rfl⟩ (by kernel_rfl) rfl plain5 (by kernel_rfl)


end Go.Proofs.YtafkndnmhhjdhaaDoor
