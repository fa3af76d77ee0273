/- FnExactDeedText answers true for all arguments. -/
import Derived.Test.YtafkndnmhhjdhaaDoorSCf
set_option linter.unusedSimpArgs false
set_option linter.unusedVariables false
namespace Go.Proofs.YtafkndnmhhjdhaaDoor
open Go Go.Abs Go.RowKit Go.Dial Go.Clos
variable {w0 : World} 

set_option maxRecDepth 8000 in
theorem law8DT (σ : AHeap) (c : Dd) (hD : DdL c) :
  ACall Tryd.prog w0 3 [ddA c] σ fun r _ => r = .bool true := by
 have hx := hD.wt
 unfold maxLen at hx
 clear hD
 have hsz := fun (T : AHeap) => szDd_at (w0 := w0) T c 1048576 (by omega) hx
 have hto := fun (T : AHeap) => toDd_at (w0 := w0) T c
 unfold ddA at *
 refine acall_go mixed Tryd.func3 rfl good3 fun pr => ?_
 simp -implicitDefEqProofs (disch := omega) only [Nat.reduceEqDiff, ↓reduceIte, vcu, ↓vcd]
 refine r_boxed fun b σ1 nb s1 eb => ?_
 replace eb : σ1 b = some ⟨[.int .i64 c.k, .int .i64 c.l, .string (tx c.t)], false⟩ := eb
 have lb : lds σ1 b 0 3 = some [.int .i64 c.k, .int .i64 c.l, .string (tx c.t)] := by rw [lds_of eb (by simp)]; rfl
 simp -implicitDefEqProofs (disch := omega) only [Nat.reduceEqDiff, ↓reduceIte, vcu, ↓vcd, lb, co23]
 refine (hsz σ1).mono ?_
 rintro _ _ ⟨rfl, rfl⟩
 rename_i σ1
 simp -implicitDefEqProofs (disch := omega) only [Nat.reduceEqDiff, ↓reduceIte, vcu, ↓vcd, opK_some]
 by_cases hbig : (1048576 : Int) < c.t.length
 ·rw [if_pos hbig]
  simp -implicitDefEqProofs (disch := omega) only [Nat.reduceEqDiff, ↓reduceIte, vcu, ↓vcd]
  refine fin_one Tryd.results3 ?_
  simp -implicitDefEqProofs (disch := omega) only [Nat.reduceEqDiff, ↓reduceIte, vcu, ↓vcd]
 rw [if_neg hbig]
 have hl : c.t.length ≤ 1048576 := by omega
 have hneg : decide ((1048576 : Int) - c.t.length < 0) = false := by rw [decide_eq_false_iff_not]; omega
 have h1 := fun (T : AHeap) => deedText_calls (w0 := w0) T c hl
 have h2 := fun (T : AHeap) => implDT_calls (w0 := w0) T c hl
 unfold ddA at h2
 simp -implicitDefEqProofs (disch := omega) only [Nat.reduceEqDiff, ↓reduceIte, vcu, ↓vcd, hneg, lb, co23]
 refine (hto σ1).mono ?_
 rintro _ _ ⟨rfl, rfl⟩
 rename_i σ1
 simp -implicitDefEqProofs (disch := omega) only [Nat.reduceEqDiff, ↓reduceIte, vcu, ↓vcd, opK_some]
 refine (h1 σ1).mono ?_
 rintro _ _ ⟨rfl, rfl⟩
 rename_i σ1
 simp -implicitDefEqProofs (disch := omega) only [Nat.reduceEqDiff, ↓reduceIte, vcu, ↓vcd, opK_some, lb, co23]
 refine (hto σ1).mono ?_
 rintro _ _ ⟨rfl, rfl⟩
 rename_i σ1
 simp -implicitDefEqProofs (disch := omega) only [Nat.reduceEqDiff, ↓reduceIte, vcu, ↓vcd, opK_some]
 refine (h2 σ1).mono ?_
 rintro _ _ ⟨rfl, rfl⟩
 rename_i σ1
 simp -implicitDefEqProofs (disch := omega) only [Nat.reduceEqDiff, ↓reduceIte, vcu, ↓vcd, opK_some, beq_self_eq_true, Bool.not_true, ne_eq, not_true_eq_false, eq_self]
 refine fin_one Tryd.results3 ?_
 simp -implicitDefEqProofs (disch := omega) only [Nat.reduceEqDiff, ↓reduceIte, vcu, ↓vcd]

open Go.ChangeShapes Go.WideShapes Go.ChangeAt Go.RowKit

noncomputable def laidW3 (os : Os) : World := World.doorLaid Tryd.prog 400 os
set_option maxRecDepth 100000 in
theorem laid_met3 (os : Os) : laidMetH Tryd.prog Rows.fnExactDeedTextRow.laid ((laidW3 os).forCall (fun _ _ => 0) ⟨#[], #[.agg #[.int .i64 0, .int .i64 0, .string ⟨#[]⟩]], []⟩).memory :=
 laidMetH_of_parts3 (fuel := 8) (laidMet_of_run' 8 (by kernel_rfl) (by kernel_rfl)) (by kernel_rfl) (by kernel_rfl)
set_option maxRecDepth 100000 in
theorem reads3 (os : Os) {H : Type} (enc : TypeId × Value → H) : (DataW.whole enc Tryd.prog ((laidW3 os).forCall (fun _ _ => 0) ⟨#[], #[.agg #[.int .i64 0, .int .i64 0, .string ⟨#[]⟩]], []⟩).memory Tryd.f3.params.toList Rows.fnExactDeedTextSpec.vars false (#[.agg #[.int .i64 0, .int .i64 0, .string ⟨#[]⟩]] : Array Value).toList 8).isSome = true := by kernel_rfl
set_option maxRecDepth 100000 in
theorem lifted3 (os : Os) (started : os.Started) (H : Type) (enc : TypeId × Value → H) (F : Stop.Interp) :
  ReturnsInHanded {} Tryd.checked os 3 .any ((OpenSpec.ofChange Rows.fnExactDeedTextSpec).preRow enc Tryd.prog Tryd.f3 Rows.fnExactDeedTextRow.domain false Rows.fnExactDeedTextRow.laid) (((OpenSpec.ofChange Rows.fnExactDeedTextSpec).at F).post enc Tryd.prog Tryd.f3 false true false false) := by
 obtain ⟨x, hx⟩ := Option.isSome_iff_exists.1 (reads3 os enc)
 refine returnsInHanded_of_row (C := Tryd.checked) (s := OpenSpec.ofChange Rows.fnExactDeedTextSpec) own started (by kernel_rfl) Tryd.func3
  (witness_row_at (enc := enc) (C := Tryd.checked) false (laidW3 os) #[.agg #[.int .i64 0, .int .i64 0, .string ⟨#[]⟩]] rfl (by kernel_rfl) (by kernel_rfl) (by kernel_rfl)
   (OpenSpec.preRow_of_cond 8 hx (by kernel_rfl) (fun k hk => by cases hk) (by kernel_rfl) (laid_met3 os))) ?_
 intro W base args ds gs before hval hW _ _ _ hL hSh _
 rw [MakeChecks.laidMetH_plain _ _ _ (by kernel_rfl)] at hL
 haveI := glob_m hSh
 have hW' := hW
 obtain ⟨p, q, hA, hV, -, -, -⟩ := hW'
 rw [Tryd.params3] at hA hval
 obtain ⟨v0, vs0, d0, ds0, p0, q0, hargs, rfl, rfl, h0, r0⟩ := trodAll_cons hA
 obtain ⟨rfl, rfl, rfl⟩ := trodAll_nil r0
 obtain ⟨rfl, rfl⟩ := trodVars_none hV
 obtain rfl : args = #[v0] := by cases args; simp_all
 obtain ⟨β0, σ0, acs0, dd0, L0, U0, S0, R0, Y0⟩ := start_rec (m := 4) (s := .rcd [.int .i64, .int .i64, .str]) (by kernel_rfl) Tryd.underlying23 (Start.start W) (hval 0 23 v0 rfl rfl) h0
 obtain ⟨c0, rfl, w0⟩ := lay_deed Y0
 refine ((law8DT σ0 c0 w0).2 noProt β0 W [v0] S0.rel (.cons R0 (.nil _))).mono fun e W' h => ?_
 obtain ⟨β', r, r', σ', -, rfl, hr, hrel, rfl⟩ := h
 cases hr
 exact ⟨_, rfl, law_post laidOut hW rfl rfl (by rw [Tryd.params3]; intro t ht; simp only [List.mem_cons, List.not_mem_nil, or_false, or_self] at ht; rcases ht with rfl <;> exact ⟨by kernel_rfl, of_decide_eq_true (by kernel_rfl)⟩) rfl Tryd.underlying4 hrel.below⟩

theorem facts3 : joinedFacts Tryd.prog 3 Tryd.f3 Rows.fnExactDeedTextSpec Rows.fnExactDeedTextRow = true := by
 unfold joinedFacts
 rw [mayE, liftsE, makeE]
 kernel_rfl

theorem said3 : Rows.FnExactDeedTextSaid :=
 OpenClaim.holds_of_cond 3 Tryd.f3 rfl rfl rfl rfl rfl rfl rfl ⟨rfl, rfl, rfl, rfl, rfl⟩ rfl rfl rfl rfl rfl (by kernel_rfl) Tryd.func3 facts3 (of_decide_eq_true (by kernel_rfl))
  (by unfold Func.isWrapper; first | (rw [if_pos (by decide +kernel)]; kernel_rfl) | (rw [if_neg (by decide +kernel)]; exact ⟨rfl, rfl⟩))
  (fun os started H enc _ F => by rw [OpenClaim.pre_eq_preRow]; exact lifted3 os started H enc F)
theorem plain3 (f : FuncId) (fn : Func) (hf : Tryd.pinned.checked.prog.funcNamed Rows.fnExactDeedTextRow.func = some f) (hfn : Tryd.pinned.checked.prog.funcs[f]? = some fn) :
  true = Tryd.pinned.checked.prog.looks [] ∧ ∀ (j : Nat) t, fn.params[j]? = some t → Tryd.pinned.checked.prog.wantsStandIn t = false := by
 obtain rfl : f = 3 := Option.some.inj ((show Tryd.prog.funcNamed Rows.fnExactDeedTextRow.func = some 3 by kernel_rfl).symm.trans hf) |>.symm
 obtain rfl : fn = Tryd.f3 := (Option.some.inj (Tryd.func3.symm.trans hfn)).symm
 refine ⟨isTrue_looks, fun j t ht => ?_⟩
 rw [Tryd.params3] at ht
 obtain rfl : t = 23 := by simpa using Array.mem_of_getElem? ht
 exact (show Tryd.prog.wantsStandIn 23 = false by kernel_rfl)
theorem proved3 : Rows.FnExactDeedTextCardSaid :=
 Claim7.holds_tied_plain_at .later [] _ _ _ _ said3 (fun _ h => by cases h) (by kernel_rfl) (fun _ h => by cases h) fnExactDeedText_row_tie rfl ⟨rfl, rfl⟩ (by kernel_rfl) rfl plain3 (by kernel_rfl)


end Go.Proofs.YtafkndnmhhjdhaaDoor
