/- FnExactReadDeed answers true for all texts. -/
import Derived.Test.YtafkndnmhhjdhaaDoorSCf
set_option linter.unusedSimpArgs false
set_option linter.unusedVariables false
namespace Go.Proofs.YtafkndnmhhjdhaaDoor
open Go Go.Abs Go.RowKit Go.Dial
variable {w0 : World} [GlobE w0] [GlobM w0]

theorem law8RD (σ : AHeap) (xs : List UInt8) (hm : xs.length ≤ maxLen) :
  ACall Tryd.prog w0 4 [.string (tx xs)] σ fun r _ => r = .bool true := by
 unfold maxLen at hm
 refine acall_go mixed Tryd.func4 rfl good4 fun pr => ?_
 by_cases hbig : 1048576 < xs.length
 ·simp -implicitDefEqProofs (disch := omega) only [Nat.reduceEqDiff, ↓reduceIte, vcu, ↓vcd]
  refine fin_one Tryd.results4 ?_
  simp -implicitDefEqProofs (disch := omega) only [Nat.reduceEqDiff, ↓reduceIte, vcu, ↓vcd]
 have hl : xs.length ≤ 1048576 := by omega
 simp -implicitDefEqProofs (disch := omega) only [Nat.reduceEqDiff, ↓reduceIte, vcu, ↓vcd]
 refine (readDeed_calls σ xs hl).mono ?_
 rintro _ _ ⟨rfl, rfl⟩
 rename_i σ
 generalize hP : rdP xs = p
 obtain ⟨d, b⟩ := p
 obtain ⟨A, B, C⟩ := d
 unfold ddA
 simp -implicitDefEqProofs (disch := omega) only [Nat.reduceEqDiff, ↓reduceIte, vcu, ↓vcd, opK_some, List.getElem?_toArray, List.getElem?_cons_zero, List.getElem?_cons_succ]
 refine r_local (cs := #[.int .i64 A, .int .i64 B, .string (tx C)]) ze26 (by decide) z9q (by rw [co26]; rfl) rfl rfl (Nat.zero_lt_succ _) fun c3 τ3 n3 s3 e3 => ?_
 replace e3 : τ3 c3 = some ⟨[.int .i64 A, .int .i64 B, .string (tx C)], false⟩ := e3
 simp -implicitDefEqProofs (disch := omega) only [Nat.reduceEqDiff, ↓reduceIte, vcu, ↓vcd]
 refine (implRD_calls τ3 xs hl).mono ?_
 rintro _ _ ⟨rfl, rfl⟩
 rename_i τ3
 rw [hP]
 unfold ddA
 simp -implicitDefEqProofs (disch := omega) only [Nat.reduceEqDiff, ↓reduceIte, vcu, ↓vcd, opK_some, List.getElem?_toArray, List.getElem?_cons_zero, List.getElem?_cons_succ]
 refine r_local (cs := #[.int .i64 A, .int .i64 B, .string (tx C)]) ze26 (by decide) z9q (by rw [co26]; rfl) rfl rfl (Nat.zero_lt_succ _) fun c5 τ5 n5 s5 e5 => ?_
 replace e5 : τ5 c5 = some ⟨[.int .i64 A, .int .i64 B, .string (tx C)], false⟩ := e5
 replace e3 := s5 _ _ e3
 have l3 : lds τ5 c3 0 3 = some [.int .i64 A, .int .i64 B, .string (tx C)] := lds_three (ld_of e3 rfl) (ld_of e3 rfl) (ld_of e3 rfl)
 have l5 : lds τ5 c5 0 3 = some [.int .i64 A, .int .i64 B, .string (tx C)] := lds_three (ld_of e5 rfl) (ld_of e5 rfl) (ld_of e5 rfl)
 simp -implicitDefEqProofs (disch := omega) only [Nat.reduceEqDiff, ↓reduceIte, vcu, ↓vcd, l3, l5, co26]
 refine (eqDd_at τ5 ⟨A, B, C⟩ ⟨A, B, C⟩).mono ?_
 rintro _ _ ⟨rfl, rfl⟩
 simp -implicitDefEqProofs (disch := omega) only [Nat.reduceEqDiff, ↓reduceIte, vcu, ↓vcd, opK_some, eq_self, decide_true, Bool.not_true, beq_self_eq_true]
 refine fin_one Tryd.results4 ?_
 simp -implicitDefEqProofs (disch := omega) only [Nat.reduceEqDiff, ↓reduceIte, vcu, ↓vcd]

open Go.ChangeShapes Go.WideShapes Go.ChangeAt Go.RowKit

noncomputable def laidW4 (os : Os) : World := World.doorLaid Tryd.prog 400 os
set_option maxRecDepth 100000 in
theorem laid_met4 (os : Os) : laidMetH Tryd.prog Rows.fnExactReadDeedRow.laid ((laidW4 os).forCall (fun _ _ => 0) ⟨#[], #[.string ⟨#[]⟩], []⟩).memory :=
 laidMetH_of_parts3 (fuel := 8) (laidMet_of_run' 8 (by kernel_rfl) (by kernel_rfl)) (by kernel_rfl) (by kernel_rfl)
set_option maxRecDepth 100000 in
theorem reads4 (os : Os) {H : Type} (enc : TypeId × Value → H) : (DataW.whole enc Tryd.prog ((laidW4 os).forCall (fun _ _ => 0) ⟨#[], #[.string ⟨#[]⟩], []⟩).memory Tryd.f4.params.toList Rows.fnExactReadDeedSpec.vars false (#[.string ⟨#[]⟩] : Array Value).toList 8).isSome = true := by kernel_rfl
set_option maxRecDepth 100000 in
theorem lifted4 (os : Os) (started : os.Started) (H : Type) (enc : TypeId × Value → H) (F : Stop.Interp) :
  ReturnsInHanded {} Tryd.checked os 4 .any ((OpenSpec.ofChange Rows.fnExactReadDeedSpec).preRow enc Tryd.prog Tryd.f4 Rows.fnExactReadDeedRow.domain false Rows.fnExactReadDeedRow.laid) (((OpenSpec.ofChange Rows.fnExactReadDeedSpec).at F).post enc Tryd.prog Tryd.f4 false true false false) := by
 obtain ⟨x, hx⟩ := Option.isSome_iff_exists.1 (reads4 os enc)
 refine returnsInHanded_of_row (C := Tryd.checked) (s := OpenSpec.ofChange Rows.fnExactReadDeedSpec) own started (by kernel_rfl) Tryd.func4
  (witness_row_at (enc := enc) (C := Tryd.checked) false (laidW4 os) #[.string ⟨#[]⟩] rfl (by kernel_rfl) (by kernel_rfl) (by kernel_rfl)
   (OpenSpec.preRow_of_cond 8 hx (by kernel_rfl) (fun k hk => by cases hk) (by kernel_rfl) (laid_met4 os))) ?_
 intro W base args ds gs before hval hW _ _ _ hL hSh _
 rw [MakeChecks.laidMetH_plain _ _ _ (by kernel_rfl)] at hL
 haveI := glob_m hSh
 haveI := glob_e hL
 have hW' := hW
 obtain ⟨p, q, hA, hV, -, -, -⟩ := hW'
 rw [Tryd.params4] at hA hval
 obtain ⟨v0, vs0, d0, ds0, p0, q0, hargs, rfl, rfl, h0, r0⟩ := trodAll_cons hA
 obtain ⟨rfl, rfl, rfl⟩ := trodAll_nil r0
 obtain ⟨rfl, rfl⟩ := trodVars_none hV
 obtain rfl : args = #[v0] := by cases args; simp_all
 obtain ⟨β0, σ0, a0, dd0, L0, U0, S0, R0, Y0⟩ := start_one (m := 4) (s := .str) (by kernel_rfl) (Start.start W) (text_cells Tryd.underlying9 (hval 0 9 v0 rfl rfl)) h0
 obtain ⟨zs0, rfl, m0⟩ := lay_text Y0
 refine ((law8RD σ0 zs0 m0).2 noProt β0 W [v0] S0.rel (.cons R0 (.nil _))).mono fun e W' h => ?_
 obtain ⟨β', r, r', σ', -, rfl, hr, hrel, rfl⟩ := h
 cases hr
 exact ⟨_, rfl, law_post laidOut hW rfl rfl (by rw [Tryd.params4]; intro t ht; simp only [List.mem_cons, List.not_mem_nil, or_false, or_self] at ht; rcases ht with rfl <;> exact ⟨by kernel_rfl, of_decide_eq_true (by kernel_rfl)⟩) rfl Tryd.underlying4 hrel.below⟩

theorem facts4 : joinedFacts Tryd.prog 4 Tryd.f4 Rows.fnExactReadDeedSpec Rows.fnExactReadDeedRow = true := by
 unfold joinedFacts
 rw [mayE, liftsE, makeE]
 kernel_rfl

theorem said4 : Rows.FnExactReadDeedSaid :=
 OpenClaim.holds_of_cond 4 Tryd.f4 rfl rfl rfl rfl rfl rfl rfl ⟨rfl, rfl, rfl, rfl, rfl⟩ rfl rfl rfl rfl rfl (by kernel_rfl) Tryd.func4 facts4 (of_decide_eq_true (by kernel_rfl))
  (by unfold Func.isWrapper; first | (rw [if_pos (by decide +kernel)]; kernel_rfl) | (rw [if_neg (by decide +kernel)]; exact ⟨rfl, rfl⟩))
  (fun os started H enc _ F => by rw [OpenClaim.pre_eq_preRow]; exact lifted4 os started H enc F)
theorem plain4 (f : FuncId) (fn : Func) (hf : Tryd.pinned.checked.prog.funcNamed Rows.fnExactReadDeedRow.func = some f) (hfn : Tryd.pinned.checked.prog.funcs[f]? = some fn) :
  true = Tryd.pinned.checked.prog.looks [] ∧ ∀ (j : Nat) t, fn.params[j]? = some t → Tryd.pinned.checked.prog.wantsStandIn t = false := by
 obtain rfl : f = 4 := Option.some.inj ((show Tryd.prog.funcNamed Rows.fnExactReadDeedRow.func = some 4 by kernel_rfl).symm.trans hf) |>.symm
 obtain rfl : fn = Tryd.f4 := (Option.some.inj (Tryd.func4.symm.trans hfn)).symm
 refine ⟨isTrue_looks, fun j t ht => ?_⟩
 rw [Tryd.params4] at ht
 obtain rfl : t = 9 := by simpa using Array.mem_of_getElem? ht
 exact (show Tryd.prog.wantsStandIn 9 = false by kernel_rfl)
theorem proved4 : Rows.FnExactReadDeedCardSaid :=
 Claim7.holds_tied_plain_at .later [] _ _ _ _ said4 (fun _ h => by cases h) (by kernel_rfl) (fun _ h => by cases h) fnExactReadDeed_row_tie rfl ⟨rfl, rfl⟩ (by kernel_rfl) rfl plain4 (by kernel_rfl)


end Go.Proofs.YtafkndnmhhjdhaaDoor
