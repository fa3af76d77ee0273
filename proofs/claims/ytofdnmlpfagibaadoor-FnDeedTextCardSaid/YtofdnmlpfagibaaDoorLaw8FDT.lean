/- FnDeedText answers true for every code. -/
import Derived.Test.YtofdnmlpfagibaaDoorSEh
set_option linter.unusedSimpArgs false
set_option linter.unusedVariables false
set_option maxHeartbeats 6400000
namespace Go.Proofs.YtofdnmlpfagibaaDoor
open Go Go.Abs Go.RowKit Go.Dial Go.Clos
variable {w0 : World} [GlobE w0] [GlobM w0]

set_option maxRecDepth 16000 in
theorem law3 (σ : AHeap) (v : Value) (bs : List Int) (hv : Ints .u8 σ v bs) (hm : bs.length ≤ maxLen) (hw : ∀ z ∈ bs, (Lit.int .u8 z).wf = true) :
  ACall Tryd.prog w0 3 [v] σ fun r _ => r = .bool true := by
 unfold maxLen at hm
 refine ACall.ints_arg (pre := []) (by kernel_rfl) hv fun σ1 h o hs hg => ?_
 clear hv hs σ v
 have hb := bytes_of hw
 refine acall_go mixed Tryd.func3 rfl good3 fun pr => ?_
 by_cases hbig : 1048576 < bs.length
 ·simp -implicitDefEqProofs (disch := omega) only [Nat.reduceEqDiff, ↓reduceIte, vcu, ↓vcd]
  refine fin_one Tryd.results3 ?_
  simp -implicitDefEqProofs (disch := omega) only [Nat.reduceEqDiff, ↓reduceIte, vcu, ↓vcd]
 have hl : bs.length ≤ 1048576 := by omega
 simp -implicitDefEqProofs (disch := omega) only [Nat.reduceEqDiff, ↓reduceIte, vcu, ↓vcd]
 refine (drawDT_at σ1 h o bs hg hl hb).mono ?_
 rintro _ τ ⟨⟨d, rfl, ht⟩, hsub⟩
 clear hg hl hb
 unfold ddA
 simp -implicitDefEqProofs (disch := omega) only [Nat.reduceEqDiff, ↓reduceIte, vcu, ↓vcd, opK_some]
 refine r_local (cs := #[.int .i64 d.k, .int .i64 d.l, .string (tx d.t)]) ze24 (by decide) z9q (by rw [co24]; rfl) rfl rfl (Nat.zero_lt_succ _) fun qd T1 n1 s1 kd => ?_
 replace kd : T1 qd = some ⟨[.int .i64 d.k, .int .i64 d.l, .string (tx d.t)], false⟩ := kd
 have l2 : lds T1 qd 0 3 = some [.int .i64 d.k, .int .i64 d.l, .string (tx d.t)] := lds_three (ld_of kd rfl) (ld_of kd rfl) (ld_of kd rfl)
 simp -implicitDefEqProofs (disch := omega) only [Nat.reduceEqDiff, ↓reduceIte, vcu, ↓vcd, l2, co46, co24, co42]
 refine (implDT_calls T1 d (by omega)).mono ?_
 rintro _ _ ⟨rfl, rfl⟩
 rename_i T1
 simp -implicitDefEqProofs (disch := omega) only [Nat.reduceEqDiff, ↓reduceIte, vcu, ↓vcd, opK_some, l2, co46, co24, co42]
 refine (deedText_calls T1 d (by omega)).mono ?_
 rintro _ _ ⟨rfl, rfl⟩
 rename_i T1
 have q1 : abin Tryd.prog 9 .eql (.string (tx (deedT d))) (.string { data := #[] }) = some (.bool (decide (deedT d = []))) := abin_seql (ys := [])
 by_cases h0 : deedT d = []
 ·rw [decide_eq_true h0] at q1
  simp -implicitDefEqProofs (disch := omega) only [Nat.reduceEqDiff, ↓reduceIte, vcu, ↓vcd, opK_some, ne_eq, not_true_eq_false, decide_false, q1]
  refine (alive_at T1).mono ?_
  rintro _ _ ⟨rfl, rfl⟩
  rename_i T1
  simp -implicitDefEqProofs (disch := omega) only [Nat.reduceEqDiff, ↓reduceIte, vcu, ↓vcd, opK_some]
  refine fin_one Tryd.results3 ?_
  simp -implicitDefEqProofs (disch := omega) only [Nat.reduceEqDiff, ↓reduceIte, vcu, ↓vcd]
 rw [decide_eq_false h0] at q1
 have hr : rdP (deedT d) = (d, true) := by unfold rdP; rw [readO_deed h0]
 have hdl := deedT_len d
 simp -implicitDefEqProofs (disch := omega) only [Nat.reduceEqDiff, ↓reduceIte, vcu, ↓vcd, opK_some, ne_eq, not_true_eq_false, decide_false, q1]
 refine (implRD_calls T1 (deedT d) (by omega)).mono ?_
 rintro _ _ ⟨rfl, rfl⟩
 rename_i T1
 rw [hr]
 unfold ddA
 simp -implicitDefEqProofs (disch := omega) only [Nat.reduceEqDiff, ↓reduceIte, vcu, ↓vcd, opK_some, List.getElem?_toArray, List.getElem?_cons_zero, List.getElem?_cons_succ]
 refine r_local (cs := #[.int .i64 d.k, .int .i64 d.l, .string (tx d.t)]) ze24 (by decide) z9q (by rw [co24]; rfl) rfl rfl (Nat.zero_lt_succ _) fun qx T3 n3 s3 kx => ?_
 replace kx : T3 qx = some ⟨[.int .i64 d.k, .int .i64 d.l, .string (tx d.t)], false⟩ := kx
 replace kd := s3 _ _ kd
 have l4 : lds T3 qd 0 3 = some [.int .i64 d.k, .int .i64 d.l, .string (tx d.t)] := lds_three (ld_of kd rfl) (ld_of kd rfl) (ld_of kd rfl)
 have l5 : lds T3 qx 0 3 = some [.int .i64 d.k, .int .i64 d.l, .string (tx d.t)] := lds_three (ld_of kx rfl) (ld_of kx rfl) (ld_of kx rfl)
 have hq := eql_dd d.k d.l d.k d.l d.t d.t
 rw [decide_eq_true rfl] at hq
 simp -implicitDefEqProofs (disch := omega) only [Nat.reduceEqDiff, ↓reduceIte, vcu, ↓vcd, l4, l5, hq, co46, co24, co42]
 refine fin_one Tryd.results3 ?_
 simp -implicitDefEqProofs (disch := omega) only [Nat.reduceEqDiff, ↓reduceIte, vcu, ↓vcd]

open Go.ChangeShapes Go.WideShapes Go.ChangeAt Go.RowKit

noncomputable def laidW3 (os : Os) : World := World.doorLaid Tryd.prog 400 os
set_option maxRecDepth 100000 in
theorem laid_met3 (os : Os) : laidMetH Tryd.prog Rows.fnDeedTextRow.laid ((laidW3 os).forCall (fun _ _ => 0) ⟨#[], #[.slice none 0 0], []⟩).memory :=
 laidMetH_of_parts3 (fuel := 8) (laidMet_of_run' 8 (by kernel_rfl) (by kernel_rfl)) (by kernel_rfl) (by kernel_rfl)
set_option maxRecDepth 100000 in
theorem reads3 (os : Os) {H : Type} (enc : TypeId × Value → H) : (DataW.whole enc Tryd.prog ((laidW3 os).forCall (fun _ _ => 0) ⟨#[], #[.slice none 0 0], []⟩).memory Tryd.f3.params.toList Rows.fnDeedTextSpec.vars false (#[.slice none 0 0] : Array Value).toList 8).isSome = true := by kernel_rfl
set_option maxRecDepth 100000 in
theorem lifted3 (os : Os) (started : os.Started) (H : Type) (enc : TypeId × Value → H) (F : Stop.Interp) :
  ReturnsInHanded {} Tryd.checked os 3 .any ((OpenSpec.ofChange Rows.fnDeedTextSpec).preRow enc Tryd.prog Tryd.f3 Rows.fnDeedTextRow.domain false Rows.fnDeedTextRow.laid) (((OpenSpec.ofChange Rows.fnDeedTextSpec).at F).post enc Tryd.prog Tryd.f3 false true false false) := by
 obtain ⟨x, hx⟩ := Option.isSome_iff_exists.1 (reads3 os enc)
 refine returnsInHanded_of_row (C := Tryd.checked) (s := OpenSpec.ofChange Rows.fnDeedTextSpec) own started (by kernel_rfl) Tryd.func3
  (witness_row_at (enc := enc) (C := Tryd.checked) false (laidW3 os) #[.slice none 0 0] rfl (by kernel_rfl) (by kernel_rfl) (by kernel_rfl)
   (OpenSpec.preRow_of_cond 8 hx (by kernel_rfl) (fun k hk => by cases hk) (by kernel_rfl) (laid_met3 os))) ?_
 intro W base args ds gs before hval hW _ _ _ hL hSh _
 rw [MakeChecks.laidMetH_plain _ _ _ (by kernel_rfl)] at hL
 haveI := glob_m hSh
 haveI := glob_e hL
 have hW' := hW
 obtain ⟨p, q, hA, hV, -, -, -⟩ := hW'
 rw [Tryd.params3] at hA hval
 obtain ⟨v0, vs0, d0, ds0, p0, q0, hargs, rfl, rfl, h0, r0⟩ := trodAll_cons hA
 obtain ⟨rfl, rfl, rfl⟩ := trodAll_nil r0
 obtain ⟨rfl, rfl⟩ := trodVars_none hV
 obtain rfl : args = #[v0] := by cases args; simp_all
 obtain ⟨β0, σ0, a0, zs0, L0, U0, S0, R0, I0, w0, m0⟩ := start_ints Tryd.underlying22 Tryd.underlying5 co5 (Start.start W) (hval 0 22 v0 rfl rfl) h0
 refine ((law3 σ0 a0 zs0 (I0) m0 w0).2 noProt β0 W [v0] S0.rel (.cons R0 (.nil _))).mono fun e W' h => ?_
 obtain ⟨β', r, r', σ', -, rfl, hr, hrel, rfl⟩ := h
 cases hr
 exact ⟨_, rfl, law_post laidOut hW rfl rfl (by rw [Tryd.params3]; intro t ht; simp only [List.mem_cons, List.not_mem_nil, or_false, or_self] at ht; rcases ht with rfl <;> exact ⟨by kernel_rfl, of_decide_eq_true (by kernel_rfl)⟩) rfl Tryd.underlying4 hrel.below⟩

theorem facts3 : joinedFacts Tryd.prog 3 Tryd.f3 Rows.fnDeedTextSpec Rows.fnDeedTextRow = true := by
 unfold joinedFacts
 rw [mayE, liftsE, makeE]
 kernel_rfl

set_option maxRecDepth 100000 in
theorem said3 : Rows.FnDeedTextSaid :=
 OpenClaim.holds_of_cond 3 Tryd.f3 rfl rfl rfl rfl rfl rfl rfl ⟨rfl, rfl, rfl, rfl, rfl⟩ rfl rfl rfl rfl rfl (by kernel_rfl) Tryd.func3 facts3 (of_decide_eq_true (by kernel_rfl))
  (by unfold Func.isWrapper; first | (rw [if_pos (by decide +kernel)]; kernel_rfl) | (rw [if_neg (by decide +kernel)]; exact ⟨rfl, rfl⟩))
  (fun os started H enc _ F => by rw [OpenClaim.pre_eq_preRow]; exact lifted3 os started H enc F)
theorem plain3 (f : FuncId) (fn : Func) (hf : Tryd.pinned.checked.prog.funcNamed Rows.fnDeedTextRow.func = some f) (hfn : Tryd.pinned.checked.prog.funcs[f]? = some fn) :
  true = Tryd.pinned.checked.prog.looks [] ∧ ∀ (j : Nat) t, fn.params[j]? = some t → Tryd.pinned.checked.prog.wantsStandIn t = false := by
 obtain rfl : f = 3 := Option.some.inj ((show Tryd.prog.funcNamed Rows.fnDeedTextRow.func = some 3 by kernel_rfl).symm.trans hf) |>.symm
 obtain rfl : fn = Tryd.f3 := (Option.some.inj (Tryd.func3.symm.trans hfn)).symm
 refine ⟨isTrue_looks, fun j t ht => ?_⟩
 rw [Tryd.params3] at ht
 obtain rfl : t = 22 := by simpa using Array.mem_of_getElem? ht
 exact (show Tryd.prog.wantsStandIn 22 = false by kernel_rfl)
set_option maxRecDepth 100000 in
theorem proved3 : Rows.FnDeedTextCardSaid :=
 Claim7.holds_tied_plain_at .later [] _ _ _ _ said3 (fun _ h => by cases h) (by kernel_rfl) (fun _ h => by cases h) fnDeedText_row_tie rfl ⟨rfl, rfl⟩ (by kernel_rfl) rfl plain3 (by kernel_rfl)


end Go.Proofs.YtofdnmlpfagibaaDoor
