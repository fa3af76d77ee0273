/- FnJournalText answers true for every code. -/
import Derived.Test.YtofdnmlpfagibaaDoorSIj
set_option linter.unusedSimpArgs false
set_option linter.unusedVariables false
set_option maxHeartbeats 6400000
namespace Go.Proofs.YtofdnmlpfagibaaDoor
open Go Go.Abs Go.RowKit Go.Dial Go.Clos
variable {w0 : World} [GlobE w0] [GlobM w0]

set_option maxRecDepth 16000 in
theorem law5 (σ : AHeap) (v : Value) (bs : List Int) (hv : Ints .u8 σ v bs) (hm : bs.length ≤ maxLen) (hw : ∀ z ∈ bs, (Lit.int .u8 z).wf = true) :
  ACall Tryd.prog w0 5 [v] σ fun r _ => r = .bool true := by
 unfold maxLen at hm
 refine ACall.ints_arg (pre := []) (by kernel_rfl) hv fun σ1 h o hs hg => ?_
 clear hv hs σ v
 have hb := bytes_of hw
 refine acall_go mixed Tryd.func5 rfl good5 fun pr => ?_
 by_cases hbig : 1048576 < bs.length
 ·simp -implicitDefEqProofs (disch := omega) only [Nat.reduceEqDiff, ↓reduceIte, vcu, ↓vcd]
  refine fin_one Tryd.results5 ?_
  simp -implicitDefEqProofs (disch := omega) only [Nat.reduceEqDiff, ↓reduceIte, vcu, ↓vcd]
 have hl : bs.length ≤ 1048576 := by omega
 simp -implicitDefEqProofs (disch := omega) only [Nat.reduceEqDiff, ↓reduceIte, vcu, ↓vcd]
 refine (drawJT_at σ1 h o bs hg hl hb).mono ?_
 rintro _ τ ⟨⟨ds, ⟨q, rfl, hq⟩, hdl, hdt⟩, hsub⟩
 clear hg hl hb
 have td : ∀ A, Sub τ A → Dds A (.slice (some ⟨q, 0, none⟩) ds.length 3) ds := fun A s => .inr ⟨q, 0, rfl, hq.sub s⟩
 have hdt' : ∀ d ∈ ds, d.t.length ≤ 1048576 := fun d hd => by have := hdt d hd; omega
 simp -implicitDefEqProofs (disch := omega) only [Nat.reduceEqDiff, ↓reduceIte, vcu, ↓vcd, opK_some]
 refine (implJT_calls τ _ ds (td τ (Sub.refl _)) (by omega) hdt').mono ?_
 rintro _ _ ⟨rfl, rfl⟩
 rename_i τ
 simp -implicitDefEqProofs (disch := omega) only [Nat.reduceEqDiff, ↓reduceIte, vcu, ↓vcd, opK_some]
 refine (jrnText_calls τ _ ds (td τ (Sub.refl _)) (by omega) hdt').mono ?_
 rintro _ _ ⟨rfl, rfl⟩
 rename_i τ
 have q1 : abin Tryd.prog 9 .eql (.string (tx (jrnV ds))) (.string { data := #[] }) = some (.bool (decide (jrnV ds = []))) := abin_seql (ys := [])
 by_cases h0 : jrnV ds = []
 ·rw [decide_eq_true h0] at q1
  simp -implicitDefEqProofs (disch := omega) only [Nat.reduceEqDiff, ↓reduceIte, vcu, ↓vcd, opK_some, ne_eq, not_true_eq_false, decide_false, q1]
  refine (alive_at τ).mono ?_
  rintro _ _ ⟨rfl, rfl⟩
  rename_i τ
  simp -implicitDefEqProofs (disch := omega) only [Nat.reduceEqDiff, ↓reduceIte, vcu, ↓vcd, opK_some]
  refine fin_one Tryd.results5 ?_
  simp -implicitDefEqProofs (disch := omega) only [Nat.reduceEqDiff, ↓reduceIte, vcu, ↓vcd]
 obtain ⟨hall, hj⟩ := jrnV_ne h0
 have hjl := jrn_len ds
 rw [decide_eq_false h0] at q1
 simp -implicitDefEqProofs (disch := omega) only [Nat.reduceEqDiff, ↓reduceIte, vcu, ↓vcd, opK_some, ne_eq, not_true_eq_false, decide_false, q1]
 refine (implRJ_calls τ (jrnV ds) (by rw [hj]; omega)).mono ?_
 rintro _ τ2 ⟨v, rfl, s2, hv⟩
 have hrj := rj_jrn ds hall
 rw [hj, hrj] at hv ⊢
 dsimp only at hv ⊢
 simp -implicitDefEqProofs (disch := omega) only [Nat.reduceEqDiff, ↓reduceIte, vcu, ↓vcd, opK_some, List.getElem?_toArray, List.getElem?_cons_zero, List.getElem?_cons_succ]
 refine (sameD_calls τ2 v _ ds ds hv.dds (td τ2 s2) (by omega) (by omega)).mono ?_
 rintro _ _ ⟨rfl, rfl⟩
 rename_i τ2
 rw [decide_eq_true rfl]
 simp -implicitDefEqProofs (disch := omega) only [Nat.reduceEqDiff, ↓reduceIte, vcu, ↓vcd, opK_some]
 refine fin_one Tryd.results5 ?_
 simp -implicitDefEqProofs (disch := omega) only [Nat.reduceEqDiff, ↓reduceIte, vcu, ↓vcd]

open Go.ChangeShapes Go.WideShapes Go.ChangeAt Go.RowKit

noncomputable def laidW5 (os : Os) : World := World.doorLaid Tryd.prog 400 os
set_option maxRecDepth 100000 in
theorem laid_met5 (os : Os) : laidMetH Tryd.prog Rows.fnJournalTextRow.laid ((laidW5 os).forCall (fun _ _ => 0) ⟨#[], #[.slice none 0 0], []⟩).memory :=
 laidMetH_of_parts3 (fuel := 8) (laidMet_of_run' 8 (by kernel_rfl) (by kernel_rfl)) (by kernel_rfl) (by kernel_rfl)
set_option maxRecDepth 100000 in
theorem reads5 (os : Os) {H : Type} (enc : TypeId × Value → H) : (DataW.whole enc Tryd.prog ((laidW5 os).forCall (fun _ _ => 0) ⟨#[], #[.slice none 0 0], []⟩).memory Tryd.f5.params.toList Rows.fnJournalTextSpec.vars false (#[.slice none 0 0] : Array Value).toList 8).isSome = true := by kernel_rfl
set_option maxRecDepth 100000 in
theorem lifted5 (os : Os) (started : os.Started) (H : Type) (enc : TypeId × Value → H) (F : Stop.Interp) :
  ReturnsInHanded {} Tryd.checked os 5 .any ((OpenSpec.ofChange Rows.fnJournalTextSpec).preRow enc Tryd.prog Tryd.f5 Rows.fnJournalTextRow.domain false Rows.fnJournalTextRow.laid) (((OpenSpec.ofChange Rows.fnJournalTextSpec).at F).post enc Tryd.prog Tryd.f5 false true false false) := by
 obtain ⟨x, hx⟩ := Option.isSome_iff_exists.1 (reads5 os enc)
 refine returnsInHanded_of_row (C := Tryd.checked) (s := OpenSpec.ofChange Rows.fnJournalTextSpec) own started (by kernel_rfl) Tryd.func5
  (witness_row_at (enc := enc) (C := Tryd.checked) false (laidW5 os) #[.slice none 0 0] rfl (by kernel_rfl) (by kernel_rfl) (by kernel_rfl)
   (OpenSpec.preRow_of_cond 8 hx (by kernel_rfl) (fun k hk => by cases hk) (by kernel_rfl) (laid_met5 os))) ?_
 intro W base args ds gs before hval hW _ _ _ hL hSh _
 rw [MakeChecks.laidMetH_plain _ _ _ (by kernel_rfl)] at hL
 haveI := glob_m hSh
 haveI := glob_e hL
 have hW' := hW
 obtain ⟨p, q, hA, hV, -, -, -⟩ := hW'
 rw [Tryd.params5] at hA hval
 obtain ⟨v0, vs0, d0, ds0, p0, q0, hargs, rfl, rfl, h0, r0⟩ := trodAll_cons hA
 obtain ⟨rfl, rfl, rfl⟩ := trodAll_nil r0
 obtain ⟨rfl, rfl⟩ := trodVars_none hV
 obtain rfl : args = #[v0] := by cases args; simp_all
 obtain ⟨β0, σ0, a0, zs0, L0, U0, S0, R0, I0, w0, m0⟩ := start_ints Tryd.underlying22 Tryd.underlying5 co5 (Start.start W) (hval 0 22 v0 rfl rfl) h0
 refine ((law5 σ0 a0 zs0 (I0) m0 w0).2 noProt β0 W [v0] S0.rel (.cons R0 (.nil _))).mono fun e W' h => ?_
 obtain ⟨β', r, r', σ', -, rfl, hr, hrel, rfl⟩ := h
 cases hr
 exact ⟨_, rfl, law_post laidOut hW rfl rfl (by rw [Tryd.params5]; intro t ht; simp only [List.mem_cons, List.not_mem_nil, or_false, or_self] at ht; rcases ht with rfl <;> exact ⟨by kernel_rfl, of_decide_eq_true (by kernel_rfl)⟩) rfl Tryd.underlying4 hrel.below⟩

theorem facts5 : joinedFacts Tryd.prog 5 Tryd.f5 Rows.fnJournalTextSpec Rows.fnJournalTextRow = true := by
 unfold joinedFacts
 rw [mayE, liftsE, makeE]
 kernel_rfl

set_option maxRecDepth 100000 in
theorem said5 : Rows.FnJournalTextSaid :=
 OpenClaim.holds_of_cond 5 Tryd.f5 rfl rfl rfl rfl rfl rfl rfl ⟨rfl, rfl, rfl, rfl, rfl⟩ rfl rfl rfl rfl rfl (by kernel_rfl) Tryd.func5 facts5 (of_decide_eq_true (by kernel_rfl))
  (by unfold Func.isWrapper; first | (rw [if_pos (by decide +kernel)]; kernel_rfl) | (rw [if_neg (by decide +kernel)]; exact ⟨rfl, rfl⟩))
  (fun os started H enc _ F => by rw [OpenClaim.pre_eq_preRow]; exact lifted5 os started H enc F)
theorem plain5 (f : FuncId) (fn : Func) (hf : Tryd.pinned.checked.prog.funcNamed Rows.fnJournalTextRow.func = some f) (hfn : Tryd.pinned.checked.prog.funcs[f]? = some fn) :
  true = Tryd.pinned.checked.prog.looks [] ∧ ∀ (j : Nat) t, fn.params[j]? = some t → Tryd.pinned.checked.prog.wantsStandIn t = false := by
 obtain rfl : f = 5 := Option.some.inj ((show Tryd.prog.funcNamed Rows.fnJournalTextRow.func = some 5 by kernel_rfl).symm.trans hf) |>.symm
 obtain rfl : fn = Tryd.f5 := (Option.some.inj (Tryd.func5.symm.trans hfn)).symm
 refine ⟨isTrue_looks, fun j t ht => ?_⟩
 rw [Tryd.params5] at ht
 obtain rfl : t = 22 := by simpa using Array.mem_of_getElem? ht
 exact (show Tryd.prog.wantsStandIn 22 = false by kernel_rfl)
set_option maxRecDepth 100000 in
theorem proved5 : Rows.FnJournalTextCardSaid :=
 Claim7.holds_tied_plain_at .later [] _ _ _ _ said5 (fun _ h => by cases h) (by kernel_rfl) (fun _ h => by cases h) fnJournalText_row_tie rfl ⟨rfl, rfl⟩ (by kernel_rfl) rfl plain5 (by kernel_rfl)


end Go.Proofs.YtofdnmlpfagibaaDoor
