/- FnReadDeed answers true for every code. -/
import Derived.Test.YtofdnmlpfagibaaDoorSEh
set_option linter.unusedSimpArgs false
set_option linter.unusedVariables false
set_option maxHeartbeats 6400000
namespace Go.Proofs.YtofdnmlpfagibaaDoor
open Go Go.Abs Go.RowKit Go.Dial Go.Clos
variable {w0 : World} [GlobE w0] [GlobM w0]

set_option maxRecDepth 16000 in
theorem law4 (σ : AHeap) (v : Value) (bs : List Int) (hv : Ints .u8 σ v bs) (hm : bs.length ≤ maxLen) (hw : ∀ z ∈ bs, (Lit.int .u8 z).wf = true) :
  ACall Tryd.prog w0 4 [v] σ fun r _ => r = .bool true := by
 unfold maxLen at hm
 refine ACall.ints_arg (pre := []) (by kernel_rfl) hv fun σ1 h o hs hg => ?_
 clear hv hs σ v
 have hb := bytes_of hw
 refine acall_go mixed Tryd.func4 rfl good4 fun pr => ?_
 by_cases hbig : 1048576 < bs.length
 ·simp -implicitDefEqProofs (disch := omega) only [Nat.reduceEqDiff, ↓reduceIte, vcu, ↓vcd]
  refine fin_one Tryd.results4 ?_
  simp -implicitDefEqProofs (disch := omega) only [Nat.reduceEqDiff, ↓reduceIte, vcu, ↓vcd]
 have hl : bs.length ≤ 1048576 := by omega
 simp -implicitDefEqProofs (disch := omega) only [Nat.reduceEqDiff, ↓reduceIte, vcu, ↓vcd]
 refine (drawRD_at σ1 h o bs hg hl hb).mono ?_
 rintro _ τ ⟨⟨t, rfl, ht⟩, hsub⟩
 clear hg hl hb
 simp -implicitDefEqProofs (disch := omega) only [Nat.reduceEqDiff, ↓reduceIte, vcu, ↓vcd, opK_some]
 refine (implRD_calls τ t (by omega)).mono ?_
 rintro _ _ ⟨rfl, rfl⟩
 rename_i τ
 obtain ⟨d, hd⟩ : ∃ d, (rdP t).1 = d := ⟨_, rfl⟩
 obtain ⟨b, hb⟩ : ∃ b, (rdP t).2 = b := ⟨_, rfl⟩
 have hrd := rdP_facts hd hb
 have hdt := rdP_len hd (by omega : t.length ≤ 200)
 rw [hd, hb]
 unfold ddA
 simp -implicitDefEqProofs (disch := omega) only [Nat.reduceEqDiff, ↓reduceIte, vcu, ↓vcd, opK_some, List.getElem?_toArray, List.getElem?_cons_zero, List.getElem?_cons_succ]
 refine r_local (cs := #[.int .i64 d.k, .int .i64 d.l, .string (tx d.t)]) ze24 (by decide) z9q (by rw [co24]; rfl) rfl rfl (Nat.zero_lt_succ _) fun qd T1 n1 s1 kd => ?_
 replace kd : T1 qd = some ⟨[.int .i64 d.k, .int .i64 d.l, .string (tx d.t)], false⟩ := kd
 simp -implicitDefEqProofs (disch := omega) only [Nat.reduceEqDiff, ↓reduceIte, vcu, ↓vcd]
 refine (readDeed_calls T1 t (by omega)).mono ?_
 rintro _ _ ⟨rfl, rfl⟩
 rename_i T1
 rw [hd, hb]
 unfold ddA
 simp -implicitDefEqProofs (disch := omega) only [Nat.reduceEqDiff, ↓reduceIte, vcu, ↓vcd, opK_some, List.getElem?_toArray, List.getElem?_cons_zero, List.getElem?_cons_succ]
 refine r_local (cs := #[.int .i64 d.k, .int .i64 d.l, .string (tx d.t)]) ze24 (by decide) z9q (by rw [co24]; rfl) rfl rfl (Nat.zero_lt_succ _) fun qx T2 n2 s2 kx => ?_
 replace kx : T2 qx = some ⟨[.int .i64 d.k, .int .i64 d.l, .string (tx d.t)], false⟩ := kx
 replace kd := s2 _ _ kd
 have l3 : lds T2 qd 0 3 = some [.int .i64 d.k, .int .i64 d.l, .string (tx d.t)] := lds_three (ld_of kd rfl) (ld_of kd rfl) (ld_of kd rfl)
 have l4 : lds T2 qx 0 3 = some [.int .i64 d.k, .int .i64 d.l, .string (tx d.t)] := lds_three (ld_of kx rfl) (ld_of kx rfl) (ld_of kx rfl)
 have hq := neq_dd d.k d.l d.k d.l d.t d.t
 rw [decide_eq_true rfl] at hq
 cases b with
 | false =>
  have e0 : d = ⟨0, 0, []⟩ := hrd.1 rfl
  have hz := eql_dd d.k d.l 0 0 d.t []
  rw [decide_eq_true (by rw [← e0])] at hz
  simp -implicitDefEqProofs (disch := omega) only [Nat.reduceEqDiff, ↓reduceIte, vcu, ↓vcd, l3, l4, hq, co46, co24, co42, beq_self_eq_true, Bool.not_true, Bool.not_false]
  rw [r_build]
  refine ⟨(_, #[.int .i64 0, .int .i64 0, .string (tx [])]), ⟨ze24, by first | kernel_rfl | (simp -implicitDefEqProofs (disch := omega) only [Nat.reduceEqDiff, ↓reduceIte, vcu, ↓vcd]; kernel_rfl)⟩, ?_⟩
  simp -implicitDefEqProofs (disch := omega) only [Nat.reduceEqDiff, ↓reduceIte, vcu, ↓vcd, hz]
  refine (alive_at T2).mono ?_
  rintro _ _ ⟨rfl, rfl⟩
  rename_i T2
  simp -implicitDefEqProofs (disch := omega) only [Nat.reduceEqDiff, ↓reduceIte, vcu, ↓vcd, opK_some]
  refine fin_one Tryd.results4 ?_
  simp -implicitDefEqProofs (disch := omega) only [Nat.reduceEqDiff, ↓reduceIte, vcu, ↓vcd]
 | true =>
  obtain ⟨h1, h2⟩ := hrd.2 rfl
  have h3 : rdP (t ++ [32]) = (⟨0, 0, []⟩, false) := by unfold rdP; rw [readO_space]
  have ha : abin Tryd.prog 9 .add (.string (tx t)) (.string { data := #[32] }) = some (.string (tx (t ++ [32]))) := abin_sadd (ys := [32]) (by simp; omega)
  simp -implicitDefEqProofs (disch := omega) only [Nat.reduceEqDiff, ↓reduceIte, vcu, ↓vcd, l3, l4, hq, co46, co24, co42, beq_self_eq_true, Bool.not_true, Bool.not_false, ha]
  refine (implRD_calls T2 (t ++ [32]) (by simp; omega)).mono ?_
  rintro _ _ ⟨rfl, rfl⟩
  rename_i T2
  rw [h3]
  unfold ddA
  simp -implicitDefEqProofs (disch := omega) only [Nat.reduceEqDiff, ↓reduceIte, vcu, ↓vcd, opK_some, List.getElem?_toArray, List.getElem?_cons_zero, List.getElem?_cons_succ]
  refine r_local (cs := #[.int .i64 0, .int .i64 0, .string (tx [])]) ze24 (by decide) z9q (by rw [co24]; rfl) rfl rfl (Nat.zero_lt_succ _) fun qz T5 n5 s5 kz => ?_
  replace kd := s5 _ _ kd
  replace kx := s5 _ _ kx
  have l6 : lds T5 qd 0 3 = some [.int .i64 d.k, .int .i64 d.l, .string (tx d.t)] := lds_three (ld_of kd rfl) (ld_of kd rfl) (ld_of kd rfl)
  simp -implicitDefEqProofs (disch := omega) only [Nat.reduceEqDiff, ↓reduceIte, vcu, ↓vcd, l6, co46, co24, co42]
  refine (implDT_calls T5 d (by omega)).mono ?_
  rintro _ _ ⟨rfl, rfl⟩
  rename_i T5
  rw [h1]
  simp -implicitDefEqProofs (disch := omega) only [Nat.reduceEqDiff, ↓reduceIte, vcu, ↓vcd, opK_some]
  refine fin_one Tryd.results4 ?_
  simp -implicitDefEqProofs (disch := omega) only [Nat.reduceEqDiff, ↓reduceIte, vcu, ↓vcd]

open Go.ChangeShapes Go.WideShapes Go.ChangeAt Go.RowKit

noncomputable def laidW4 (os : Os) : World := World.doorLaid Tryd.prog 400 os
set_option maxRecDepth 100000 in
theorem laid_met4 (os : Os) : laidMetH Tryd.prog Rows.fnReadDeedRow.laid ((laidW4 os).forCall (fun _ _ => 0) ⟨#[], #[.slice none 0 0], []⟩).memory :=
 laidMetH_of_parts3 (fuel := 8) (laidMet_of_run' 8 (by kernel_rfl) (by kernel_rfl)) (by kernel_rfl) (by kernel_rfl)
set_option maxRecDepth 100000 in
theorem reads4 (os : Os) {H : Type} (enc : TypeId × Value → H) : (DataW.whole enc Tryd.prog ((laidW4 os).forCall (fun _ _ => 0) ⟨#[], #[.slice none 0 0], []⟩).memory Tryd.f4.params.toList Rows.fnReadDeedSpec.vars false (#[.slice none 0 0] : Array Value).toList 8).isSome = true := by kernel_rfl
set_option maxRecDepth 100000 in
theorem lifted4 (os : Os) (started : os.Started) (H : Type) (enc : TypeId × Value → H) (F : Stop.Interp) :
  ReturnsInHanded {} Tryd.checked os 4 .any ((OpenSpec.ofChange Rows.fnReadDeedSpec).preRow enc Tryd.prog Tryd.f4 Rows.fnReadDeedRow.domain false Rows.fnReadDeedRow.laid) (((OpenSpec.ofChange Rows.fnReadDeedSpec).at F).post enc Tryd.prog Tryd.f4 false true false false) := by
 obtain ⟨x, hx⟩ := Option.isSome_iff_exists.1 (reads4 os enc)
 refine returnsInHanded_of_row (C := Tryd.checked) (s := OpenSpec.ofChange Rows.fnReadDeedSpec) own started (by kernel_rfl) Tryd.func4
  (witness_row_at (enc := enc) (C := Tryd.checked) false (laidW4 os) #[.slice none 0 0] rfl (by kernel_rfl) (by kernel_rfl) (by kernel_rfl)
   (OpenSpec.preRow_of_cond 8 hx (by kernel_rfl) (fun k hk => by cases hk) (by kernel_rfl) (laid_met4 os))) ?_
 intro W base args ds gs before hval hW _ _ _ hL hSh _
 rw [MakeChecks.laidMetH_plain _ _ _ (by kernel_rfl)] at hL
 haveI := glob_m hSh
 haveI := glob_e hL
 have hW' := hW
 obtain ⟨p, q, hA, hV, -, -, -⟩ := hW'
 rw [Tryd.params4] at hA hval
 obtain ⟨v0, vs0, d0, ds0, p0, q0, hargs, rfl, rfl, h0, r0⟩ := trodAll_cons hA
 obtain ⟨rfl, rfl, rfl⟩ := trodAll_nil r0
 obtain ⟨rfl, rfl⟩ := trodVars_none hV
 obtain rfl : args = #[v0] := by cases args; simp_all
 obtain ⟨β0, σ0, a0, zs0, L0, U0, S0, R0, I0, w0, m0⟩ := start_ints Tryd.underlying22 Tryd.underlying5 co5 (Start.start W) (hval 0 22 v0 rfl rfl) h0
 refine ((law4 σ0 a0 zs0 (I0) m0 w0).2 noProt β0 W [v0] S0.rel (.cons R0 (.nil _))).mono fun e W' h => ?_
 obtain ⟨β', r, r', σ', -, rfl, hr, hrel, rfl⟩ := h
 cases hr
 exact ⟨_, rfl, law_post laidOut hW rfl rfl (by rw [Tryd.params4]; intro t ht; simp only [List.mem_cons, List.not_mem_nil, or_false, or_self] at ht; rcases ht with rfl <;> exact ⟨by kernel_rfl, of_decide_eq_true (by kernel_rfl)⟩) rfl Tryd.underlying4 hrel.below⟩

theorem facts4 : joinedFacts Tryd.prog 4 Tryd.f4 Rows.fnReadDeedSpec Rows.fnReadDeedRow = true := by
 unfold joinedFacts
 rw [mayE, liftsE, makeE]
 kernel_rfl

set_option maxRecDepth 100000 in
theorem said4 : Rows.FnReadDeedSaid :=
 OpenClaim.holds_of_cond 4 Tryd.f4 rfl rfl rfl rfl rfl rfl rfl ⟨rfl, rfl, rfl, rfl, rfl⟩ rfl rfl rfl rfl rfl (by kernel_rfl) Tryd.func4 facts4 (of_decide_eq_true (by kernel_rfl))
  (by unfold Func.isWrapper; first | (rw [if_pos (by decide +kernel)]; kernel_rfl) | (rw [if_neg (by decide +kernel)]; exact ⟨rfl, rfl⟩))
  (fun os started H enc _ F => by rw [OpenClaim.pre_eq_preRow]; exact lifted4 os started H enc F)
theorem plain4 (f : FuncId) (fn : Func) (hf : Tryd.pinned.checked.prog.funcNamed Rows.fnReadDeedRow.func = some f) (hfn : Tryd.pinned.checked.prog.funcs[f]? = some fn) :
  true = Tryd.pinned.checked.prog.looks [] ∧ ∀ (j : Nat) t, fn.params[j]? = some t → Tryd.pinned.checked.prog.wantsStandIn t = false := by
 obtain rfl : f = 4 := Option.some.inj ((show Tryd.prog.funcNamed Rows.fnReadDeedRow.func = some 4 by kernel_rfl).symm.trans hf) |>.symm
 obtain rfl : fn = Tryd.f4 := (Option.some.inj (Tryd.func4.symm.trans hfn)).symm
 refine ⟨isTrue_looks, fun j t ht => ?_⟩
 rw [Tryd.params4] at ht
 obtain rfl : t = 22 := by simpa using Array.mem_of_getElem? ht
 exact (show Tryd.prog.wantsStandIn 22 = false by kernel_rfl)
set_option maxRecDepth 100000 in
theorem proved4 : Rows.FnReadDeedCardSaid :=
 Claim7.holds_tied_plain_at .later [] _ _ _ _ said4 (fun _ h => by cases h) (by kernel_rfl) (fun _ h => by cases h) fnReadDeed_row_tie rfl ⟨rfl, rfl⟩ (by kernel_rfl) rfl plain4 (by kernel_rfl)


end Go.Proofs.YtofdnmlpfagibaaDoor
