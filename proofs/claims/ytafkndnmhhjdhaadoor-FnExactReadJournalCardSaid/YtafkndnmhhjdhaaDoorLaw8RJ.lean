/- FnExactReadJournal answers true for all texts. -/
import Derived.Test.YtafkndnmhhjdhaaDoorSCf
set_option linter.unusedSimpArgs false
set_option linter.unusedVariables false
namespace Go.Proofs.YtafkndnmhhjdhaaDoor
open Go Go.Abs Go.RowKit Go.Dial Go.Clos
variable {w0 : World} [GlobE w0] [GlobM w0]

theorem jrn_ge : ∀ ds : List Dd, ds.length ≤ (jrn ds).length
 | [] => Nat.zero_le _
 | d :: ds => by
  have := jrn_ge ds
  simp only [jrn, List.length_append, List.length_cons, List.length_nil]
  omega
theorem rj_len (s : List UInt8) : (rj [] s).1.length ≤ s.length := by
 have h := jrn_ge (rj [] s).1
 have h2 := congrArg List.length (rj_text s []).1
 simp only [List.nil_append, List.length_take] at h2
 omega
set_option maxRecDepth 8000 in
theorem law8RJ (σ : AHeap) (xs : List UInt8) (hm : xs.length ≤ maxLen) :
  ACall Tryd.prog w0 6 [.string (tx xs)] σ fun r _ => r = .bool true := by
 unfold maxLen at hm
 refine acall_go mixed Tryd.func6 rfl good6 fun pr => ?_
 simp -implicitDefEqProofs (disch := omega) only [Nat.reduceEqDiff, ↓reduceIte, vcu, ↓vcd]
 by_cases hbig : 1048576 < xs.length
 ·simp -implicitDefEqProofs (disch := omega) only [Nat.reduceEqDiff, ↓reduceIte, vcu, ↓vcd]
  refine fin_one Tryd.results6 ?_
  simp -implicitDefEqProofs (disch := omega) only [Nat.reduceEqDiff, ↓reduceIte, vcu, ↓vcd]
 have hl : xs.length ≤ 1048576 := by omega
 have hB := Nat.le_trans (rj_len xs) hl
 have hsp := fun (T : AHeap) => readJrn_calls (w0 := w0) T xs hl
 have him := fun (T : AHeap) => implRJ_calls (w0 := w0) T xs hl
 generalize rj [] xs = R at hB hsp him
 obtain ⟨f, k⟩ := R
 dsimp only at hB hsp him
 simp -implicitDefEqProofs (disch := omega) only [Nat.reduceEqDiff, ↓reduceIte, vcu, ↓vcd]
 refine (hsp σ).mono ?_
 rintro _ T1 ⟨g1, rfl, s1, e1, m1⟩
 have pw : Dds T1 (.slice (some ⟨g1, 0, none⟩) f.length 3) f := (OwnD.dds (β := σ) (.inr ⟨g1, rfl, e1, m1⟩))
 generalize Value.slice (some ⟨g1, 0, none⟩) f.length 3 = v1 at pw
 clear e1 m1 s1
 simp -implicitDefEqProofs (disch := omega) only [Nat.reduceEqDiff, ↓reduceIte, vcu, ↓vcd, opK_some, List.getElem?_toArray, List.getElem?_cons_zero, List.getElem?_cons_succ]
 refine (him T1).mono ?_
 rintro _ T2 ⟨v2, rfl, s2, p2⟩
 simp -implicitDefEqProofs (disch := omega) only [Nat.reduceEqDiff, ↓reduceIte, vcu, ↓vcd, opK_some, List.getElem?_toArray, List.getElem?_cons_zero, List.getElem?_cons_succ]
 refine (eqDds_calls T2 v2 v1 f f p2.dds (pw.sub s2) hB hB).mono ?_
 rintro _ _ ⟨rfl, rfl⟩
 rename_i T2
 simp -implicitDefEqProofs (disch := omega) only [Nat.reduceEqDiff, ↓reduceIte, vcu, ↓vcd, opK_some, eq_self, decide_true, Bool.not_true, beq_self_eq_true, ne_eq, not_true_eq_false]
 refine (markD_kp T1 T2 T2 v2 f 1 p2 p2 hB (by omega)).mono ?_
 rintro r T3 ⟨hr, om, k3⟩
 have s3 := k3.sub (Sub.refl T1) s2
 generalize hqm : (1 : Int) + 3 * f.length = qm at hr
 subst hr
 have hq0 : decide (qm < 0) = false := by rw [decide_eq_false_iff_not, ← hqm]; omega
 simp -implicitDefEqProofs (disch := omega) only [Nat.reduceEqDiff, ↓reduceIte, vcu, ↓vcd, opK_some]
 refine (heldE_calls (w0 := w0) T3 v2 f.length 1 om.dds hB (by omega)).mono ?_
 rintro r _ ⟨hr, rfl⟩
 rename_i T3
 rw [hqm] at hr
 subst hr
 simp -implicitDefEqProofs (disch := omega) only [Nat.reduceEqDiff, ↓reduceIte, vcu, ↓vcd, opK_some, hq0, eq_self, decide_true, Bool.not_true, beq_self_eq_true, ne_eq, not_true_eq_false]
 refine (him T3).mono ?_
 rintro _ T4 ⟨v4, rfl, s4, p4⟩
 simp -implicitDefEqProofs (disch := omega) only [Nat.reduceEqDiff, ↓reduceIte, vcu, ↓vcd, opK_some, List.getElem?_toArray, List.getElem?_cons_zero, List.getElem?_cons_succ]
 refine (eqDds_calls T4 v4 v1 f f p4.dds (pw.sub (s3.trans s4)) hB hB).mono ?_
 rintro _ _ ⟨rfl, rfl⟩
 rename_i T4
 simp -implicitDefEqProofs (disch := omega) only [Nat.reduceEqDiff, ↓reduceIte, vcu, ↓vcd, opK_some, eq_self, decide_true, Bool.not_true, beq_self_eq_true, ne_eq, not_true_eq_false]
 refine (heldE_calls (w0 := w0) T4 v2 f.length 1 (om.sub s4).dds hB (by omega)).mono ?_
 rintro r _ ⟨hr, rfl⟩
 rw [hqm] at hr
 subst hr
 simp -implicitDefEqProofs (disch := omega) only [Nat.reduceEqDiff, ↓reduceIte, vcu, ↓vcd, opK_some, hq0, eq_self, decide_true, Bool.not_true, beq_self_eq_true, ne_eq, not_true_eq_false]
 refine fin_one Tryd.results6 ?_
 simp -implicitDefEqProofs (disch := omega) only [Nat.reduceEqDiff, ↓reduceIte, vcu, ↓vcd]

open Go.ChangeShapes Go.WideShapes Go.ChangeAt Go.RowKit

noncomputable def laidW6 (os : Os) : World := World.doorLaid Tryd.prog 400 os
set_option maxRecDepth 100000 in
theorem laid_met6 (os : Os) : laidMetH Tryd.prog Rows.fnExactReadJournalRow.laid ((laidW6 os).forCall (fun _ _ => 0) ⟨#[], #[.string ⟨#[]⟩], []⟩).memory :=
 laidMetH_of_parts3 (fuel := 8) (laidMet_of_run' 8 (by kernel_rfl) (by kernel_rfl)) (by kernel_rfl) (by kernel_rfl)
set_option maxRecDepth 100000 in
theorem reads6 (os : Os) {H : Type} (enc : TypeId × Value → H) : (DataW.whole enc Tryd.prog ((laidW6 os).forCall (fun _ _ => 0) ⟨#[], #[.string ⟨#[]⟩], []⟩).memory Tryd.f6.params.toList Rows.fnExactReadJournalSpec.vars false (#[.string ⟨#[]⟩] : Array Value).toList 8).isSome = true := by kernel_rfl
set_option maxRecDepth 100000 in
theorem lifted6 (os : Os) (started : os.Started) (H : Type) (enc : TypeId × Value → H) (F : Stop.Interp) :
  ReturnsInHanded {} Tryd.checked os 6 .any ((OpenSpec.ofChange Rows.fnExactReadJournalSpec).preRow enc Tryd.prog Tryd.f6 Rows.fnExactReadJournalRow.domain false Rows.fnExactReadJournalRow.laid) (((OpenSpec.ofChange Rows.fnExactReadJournalSpec).at F).post enc Tryd.prog Tryd.f6 false true false false) := by
 obtain ⟨x, hx⟩ := Option.isSome_iff_exists.1 (reads6 os enc)
 refine returnsInHanded_of_row (C := Tryd.checked) (s := OpenSpec.ofChange Rows.fnExactReadJournalSpec) own started (by kernel_rfl) Tryd.func6
  (witness_row_at (enc := enc) (C := Tryd.checked) false (laidW6 os) #[.string ⟨#[]⟩] rfl (by kernel_rfl) (by kernel_rfl) (by kernel_rfl)
   (OpenSpec.preRow_of_cond 8 hx (by kernel_rfl) (fun k hk => by cases hk) (by kernel_rfl) (laid_met6 os))) ?_
 intro W base args ds gs before hval hW _ _ _ hL hSh _
 rw [MakeChecks.laidMetH_plain _ _ _ (by kernel_rfl)] at hL
 haveI := glob_m hSh
 haveI := glob_e hL
 have hW' := hW
 obtain ⟨p, q, hA, hV, -, -, -⟩ := hW'
 rw [Tryd.params6] at hA hval
 obtain ⟨v0, vs0, d0, ds0, p0, q0, hargs, rfl, rfl, h0, r0⟩ := trodAll_cons hA
 obtain ⟨rfl, rfl, rfl⟩ := trodAll_nil r0
 obtain ⟨rfl, rfl⟩ := trodVars_none hV
 obtain rfl : args = #[v0] := by cases args; simp_all
 obtain ⟨β0, σ0, a0, dd0, L0, U0, S0, R0, Y0⟩ := start_one (m := 4) (s := .str) (by kernel_rfl) (Start.start W) (text_cells Tryd.underlying9 (hval 0 9 v0 rfl rfl)) h0
 obtain ⟨zs0, rfl, m0⟩ := lay_text Y0
 refine ((law8RJ σ0 zs0 m0).2 noProt β0 W [v0] S0.rel (.cons R0 (.nil _))).mono fun e W' h => ?_
 obtain ⟨β', r, r', σ', -, rfl, hr, hrel, rfl⟩ := h
 cases hr
 exact ⟨_, rfl, law_post laidOut hW rfl rfl (by rw [Tryd.params6]; intro t ht; simp only [List.mem_cons, List.not_mem_nil, or_false, or_self] at ht; rcases ht with rfl <;> exact ⟨by kernel_rfl, of_decide_eq_true (by kernel_rfl)⟩) rfl Tryd.underlying4 hrel.below⟩

theorem facts6 : joinedFacts Tryd.prog 6 Tryd.f6 Rows.fnExactReadJournalSpec Rows.fnExactReadJournalRow = true := by
 unfold joinedFacts
 rw [mayE, liftsE, makeE]
 kernel_rfl

theorem said6 : Rows.FnExactReadJournalSaid :=
 OpenClaim.holds_of_cond 6 Tryd.f6 rfl rfl rfl rfl rfl rfl rfl ⟨rfl, rfl, rfl, rfl, rfl⟩ rfl rfl rfl rfl rfl (by kernel_rfl) Tryd.func6 facts6 (of_decide_eq_true (by kernel_rfl))
  (by unfold Func.isWrapper; first | (rw [if_pos (by decide +kernel)]; kernel_rfl) | (rw [if_neg (by decide +kernel)]; exact ⟨rfl, rfl⟩))
  (fun os started H enc _ F => by rw [OpenClaim.pre_eq_preRow]; exact lifted6 os started H enc F)
theorem plain6 (f : FuncId) (fn : Func) (hf : Tryd.pinned.checked.prog.funcNamed Rows.fnExactReadJournalRow.func = some f) (hfn : Tryd.pinned.checked.prog.funcs[f]? = some fn) :
  true = Tryd.pinned.checked.prog.looks [] ∧ ∀ (j : Nat) t, fn.params[j]? = some t → Tryd.pinned.checked.prog.wantsStandIn t = false := by
 obtain rfl : f = 6 := Option.some.inj ((show Tryd.prog.funcNamed Rows.fnExactReadJournalRow.func = some 6 by kernel_rfl).symm.trans hf) |>.symm
 obtain rfl : fn = Tryd.f6 := (Option.some.inj (Tryd.func6.symm.trans hfn)).symm
 refine ⟨isTrue_looks, fun j t ht => ?_⟩
 rw [Tryd.params6] at ht
 obtain rfl : t = 9 := by simpa using Array.mem_of_getElem? ht
 exact (show Tryd.prog.wantsStandIn 9 = false by kernel_rfl)
theorem proved6 : Rows.FnExactReadJournalCardSaid :=
 Claim7.holds_tied_plain_at .later [] _ _ _ _ said6 (fun _ h => by cases h) (by kernel_rfl) (fun _ h => by cases h) fnExactReadJournal_row_tie rfl ⟨rfl, rfl⟩ (by kernel_rfl) rfl plain6 (by kernel_rfl)


end Go.Proofs.YtafkndnmhhjdhaaDoor
