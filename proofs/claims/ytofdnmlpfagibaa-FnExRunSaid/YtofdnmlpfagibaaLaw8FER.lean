/- FnExRun answers true for every code. -/
import Derived.Test.YtofdnmlpfagibaaSBg
set_option linter.unusedSimpArgs false
set_option linter.unusedVariables false
set_option maxHeartbeats 6400000
namespace Go.Proofs.Ytofdnmlpfagibaa
open Go Go.Abs Go.RowKit Go.Dial Go.Clos
variable {w0 : World}

set_option maxRecDepth 16000 in
theorem law8 (σ : AHeap) (v : Value) (bs : List Int) (hv : Ints .u8 σ v bs) (hm : bs.length ≤ maxLen) (hw : ∀ z ∈ bs, (Lit.int .u8 z).wf = true) :
  ACall Try.prog w0 8 [v] σ fun r _ => r = .bool true := by
 unfold maxLen at hm
 refine ACall.ints_arg (pre := []) (by kernel_rfl) hv fun σ1 h o hs hg => ?_
 clear hv hs σ v
 have hb := bytes_of hw
 refine acall_go mixed Try.func8 rfl good8 fun pr => ?_
 by_cases hbig : 1048576 < bs.length
 ·simp -implicitDefEqProofs (disch := omega) only [Nat.reduceEqDiff, ↓reduceIte, vcu, ↓vcd]
  refine fin_one Try.results8 ?_
  simp -implicitDefEqProofs (disch := omega) only [Nat.reduceEqDiff, ↓reduceIte, vcu, ↓vcd]
 have hl : bs.length ≤ 1048576 := by omega
 simp -implicitDefEqProofs (disch := omega) only [Nat.reduceEqDiff, ↓reduceIte, vcu, ↓vcd]
 refine (drawER_at σ1 h o bs hg hl hb).mono ?_
 rintro _ τ ⟨⟨e, v1, v2, vd, ds, rfl, hv, hs, ⟨qd, rfl, hqd⟩, hdl, hdt⟩, hsub⟩
 clear hg hl hb
 obtain ⟨ta, ca⟩ := exV_in hv
 clear hv
 have hB := hs.b
 unfold exV
 simp -implicitDefEqProofs (disch := omega) only [Nat.reduceEqDiff, ↓reduceIte, vcu, ↓vcd, opK_some, List.getElem?_toArray, List.getElem?_cons_zero, List.getElem?_cons_succ]
 have onea := cells_one ta ca
 refine r_local (cs := #[.int .i64 e.s.O, .int .i64 e.s.E, .int .i64 e.s.M, v1, v2]) ze28 (by decide) z9q (by rw [co28]; rfl) rfl onea (Nat.zero_lt_succ _) fun qa T1 n1 s1 ka => ?_
 replace ka : T1 qa = some ⟨exC v1 v2 e, false⟩ := ka
 replace hqd := hqd.sub s1
 replace ta := ta.sub s1
 replace ca := ca.sub s1
 have l2 : lds T1 qa 0 5 = some [.int .i64 e.s.O, .int .i64 e.s.E, .int .i64 e.s.M, v1, v2] := by rw [lds_of ka (by simp [exC])]; rfl
 have hdt' : ∀ d ∈ ds, d.t.length ≤ 1048576 := fun d hd => by have := hdt d hd; omega
 obtain ⟨f, hf⟩ : ∃ f, (exRun e ds).1 = f := ⟨_, rfl⟩
 obtain ⟨n, hn⟩ : ∃ n, (exRun e ds).2 = n := ⟨_, rfl⟩
 have bf : ExB f := by rw [← hf]; exact exRunB e ds
 simp -implicitDefEqProofs (disch := omega) only [Nat.reduceEqDiff, ↓reduceIte, vcu, ↓vcd, l2, co28, co50, co24]
 refine (implER_calls T1 (.agg #[.int .i64 e.s.O, .int .i64 e.s.E, .int .i64 e.s.M, v1, v2]) (.slice (some ⟨qd, 0, none⟩) ds.length 3) e ds ⟨_, _, rfl, ta, ca⟩ hB (.inr ⟨qd, 0, rfl, hqd⟩) (by omega) hdt').mono ?_
 rintro _ Ap ⟨_, rfl, bp, up1, up2, rfl, o1, o2⟩
 rw [hf] at o1 o2
 rw [hf, hn]
 have tp := o1.texts
 have cp := o2.tris
 clear o1 o2
 replace ta := ta.sub bp
 replace ca := ca.sub bp
 replace ka := bp _ _ ka
 replace hqd := hqd.sub bp
 unfold exV
 simp -implicitDefEqProofs (disch := omega) only [Nat.reduceEqDiff, ↓reduceIte, vcu, ↓vcd, opK_some, List.getElem?_toArray, List.getElem?_cons_zero, List.getElem?_cons_succ]
 have onep := cells_one tp cp
 refine r_local (cs := #[.int .i64 f.s.O, .int .i64 f.s.E, .int .i64 f.s.M, up1, up2]) ze28 (by decide) z9q (by rw [co28]; rfl) rfl onep (Nat.zero_lt_succ _) fun qp T3 n3 s3 kp => ?_
 replace kp : T3 qp = some ⟨exC up1 up2 f, false⟩ := kp
 replace ta := ta.sub s3
 replace ca := ca.sub s3
 replace ka := s3 _ _ ka
 replace tp := tp.sub s3
 replace cp := cp.sub s3
 replace hqd := hqd.sub s3
 have l4 : lds T3 qa 0 5 = some [.int .i64 e.s.O, .int .i64 e.s.E, .int .i64 e.s.M, v1, v2] := by rw [lds_of ka (by simp [exC])]; rfl
 have l5 : lds T3 qp 0 5 = some [.int .i64 f.s.O, .int .i64 f.s.E, .int .i64 f.s.M, up1, up2] := by rw [lds_of kp (by simp [exC])]; rfl
 simp -implicitDefEqProofs (disch := omega) only [Nat.reduceEqDiff, ↓reduceIte, vcu, ↓vcd, l4, l5, co28, co50, co24]
 refine (exRun_calls T3 (.agg #[.int .i64 e.s.O, .int .i64 e.s.E, .int .i64 e.s.M, v1, v2]) (.slice (some ⟨qd, 0, none⟩) ds.length 3) e ds ⟨_, _, rfl, ta, ca⟩ hB (.inr ⟨qd, 0, rfl, hqd⟩) (by omega) hdt').mono ?_
 rintro _ Ag ⟨_, rfl, bg, ug1, ug2, rfl, o1, o2⟩
 rw [hf] at o1 o2
 rw [hf, hn]
 have tg := o1.texts
 have cg := o2.tris
 clear o1 o2
 replace ta := ta.sub bg
 replace ca := ca.sub bg
 replace ka := bg _ _ ka
 replace tp := tp.sub bg
 replace cp := cp.sub bg
 replace kp := bg _ _ kp
 replace hqd := hqd.sub bg
 unfold exV
 simp -implicitDefEqProofs (disch := omega) only [Nat.reduceEqDiff, ↓reduceIte, vcu, ↓vcd, opK_some, List.getElem?_toArray, List.getElem?_cons_zero, List.getElem?_cons_succ]
 have oneg := cells_one tg cg
 refine r_local (cs := #[.int .i64 f.s.O, .int .i64 f.s.E, .int .i64 f.s.M, ug1, ug2]) ze28 (by decide) z9q (by rw [co28]; rfl) rfl oneg (Nat.zero_lt_succ _) fun qg T6 n6 s6 kg => ?_
 replace kg : T6 qg = some ⟨exC ug1 ug2 f, false⟩ := kg
 replace ta := ta.sub s6
 replace ca := ca.sub s6
 replace ka := s6 _ _ ka
 replace tp := tp.sub s6
 replace cp := cp.sub s6
 replace kp := s6 _ _ kp
 replace tg := tg.sub s6
 replace cg := cg.sub s6
 replace hqd := hqd.sub s6
 have l7 : lds T6 qa 0 5 = some [.int .i64 e.s.O, .int .i64 e.s.E, .int .i64 e.s.M, v1, v2] := by rw [lds_of ka (by simp [exC])]; rfl
 have l8 : lds T6 qp 0 5 = some [.int .i64 f.s.O, .int .i64 f.s.E, .int .i64 f.s.M, up1, up2] := by rw [lds_of kp (by simp [exC])]; rfl
 have l9 : lds T6 qg 0 5 = some [.int .i64 f.s.O, .int .i64 f.s.E, .int .i64 f.s.M, ug1, ug2] := by rw [lds_of kg (by simp [exC])]; rfl
 simp -implicitDefEqProofs (disch := omega) only [Nat.reduceEqDiff, ↓reduceIte, vcu, ↓vcd, l7, l8, l9, co28, co50, co24]
 refine (sameEx_calls T6 (.agg #[.int .i64 f.s.O, .int .i64 f.s.E, .int .i64 f.s.M, up1, up2]) (.agg #[.int .i64 f.s.O, .int .i64 f.s.E, .int .i64 f.s.M, ug1, ug2]) f f ⟨_, _, rfl, tp, cp⟩ ⟨_, _, rfl, tg, cg⟩ bf bf).mono ?_
 rintro _ _ ⟨rfl, rfl⟩
 rename_i T6
 rw [decide_eq_true rfl]
 simp -implicitDefEqProofs (disch := omega) only [Nat.reduceEqDiff, ↓reduceIte, vcu, ↓vcd, opK_some, l7, l8, l9, co28, co50, co24, Bool.not_true, ne_eq, not_true_eq_false, decide_false]
 refine (exVal_calls T6 (.agg #[.int .i64 e.s.O, .int .i64 e.s.E, .int .i64 e.s.M, v1, v2]) e ⟨_, _, rfl, ta, ca⟩ hB).mono ?_
 rintro _ _ ⟨rfl, rfl⟩
 rename_i T6
 by_cases ho : ExOk e
 case neg =>
  have h1 : exRun e ds = (ex0, 0) := if_neg ho
  have h2 : f = ex0 := by rw [← hf, h1]
  have h3 : n = 0 := by rw [← hn, h1]
  subst h3
  rw [decide_eq_false ho]
  simp -implicitDefEqProofs (disch := omega) only [Nat.reduceEqDiff, ↓reduceIte, vcu, ↓vcd, opK_some, l7, l8, l9, co28, co50, co24, Bool.not_false, Int.natCast_zero]
  refine (noEx_calls T6 (.agg #[.int .i64 f.s.O, .int .i64 f.s.E, .int .i64 f.s.M, up1, up2]) f ⟨_, _, rfl, tp, cp⟩ bf).mono ?_
  rintro _ _ ⟨rfl, rfl⟩
  rename_i T6
  rw [decide_eq_true h2]
  simp -implicitDefEqProofs (disch := omega) only [Nat.reduceEqDiff, ↓reduceIte, vcu, ↓vcd, opK_some]
  refine (alive_at T6).mono ?_
  rintro _ _ ⟨rfl, rfl⟩
  rename_i T6
  simp -implicitDefEqProofs (disch := omega) only [Nat.reduceEqDiff, ↓reduceIte, vcu, ↓vcd, opK_some]
  refine fin_one Try.results8 ?_
  simp -implicitDefEqProofs (disch := omega) only [Nat.reduceEqDiff, ↓reduceIte, vcu, ↓vcd]
 obtain ⟨H, hH, hH2⟩ : ∃ H : Nat, (ds.length : Int) / 2 = H ∧ H ≤ ds.length := ⟨ds.length / 2, by omega, by omega⟩
 obtain ⟨x1, n1, x2, n2, r1, r2, r3, r4, r5, r6, r7, r8, r9⟩ := run_parts ho ds H hf hn
 have hN1 : ∀ d ∈ ds.take H, d.t.length ≤ 1048576 := fun d hd => hdt' d (List.mem_of_mem_take hd)
 have hN2 : ∀ d ∈ ds.drop H, d.t.length ≤ 1048576 := fun d hd => hdt' d (List.mem_of_mem_drop hd)
 rw [decide_eq_true ho]
 simp -implicitDefEqProofs (disch := omega) only [Nat.reduceEqDiff, ↓reduceIte, vcu, ↓vcd, opK_some, hH, Bool.not_true]
 have l11 : lds T6 qa 0 5 = some [.int .i64 e.s.O, .int .i64 e.s.E, .int .i64 e.s.M, v1, v2] := by rw [lds_of ka (by simp [exC])]; rfl
 have l12 : lds T6 qp 0 5 = some [.int .i64 f.s.O, .int .i64 f.s.E, .int .i64 f.s.M, up1, up2] := by rw [lds_of kp (by simp [exC])]; rfl
 refine acodeB_monoY (Q' := fun en a' T => en = .normal ∧ (a' 3 = .pointer (some ⟨qa, 0, none⟩) ∧ a' 4 = .slice (some ⟨qd, 0, none⟩) ds.length 3 ∧ a' 5 = .pointer (some ⟨qp, 0, none⟩) ∧ a' 6 = .int .i64 (n : Int) ∧ a' 9 = .int .i64 (H : Int)) ∧ ∃ (c : Nat) (u1 u2 : Value), a' 10 = .pointer (some ⟨c, 0, none⟩) ∧ a' 11 = .int .i64 (n1 : Int) ∧ Sub T6 T ∧ T c = some ⟨exC u1 u2 x1, false⟩ ∧ Texts T u1 (x1).ps ∧ Tris T u2 (x1).cs)
  (region_tree mixed (quiets [0, 1, 2, 3] (.two 4 (quiets [5, 6, 7] (.one 8 (.one 9 (quiets [10] .stop)))) 8 (.one 4 (quiets [5, 6, 7] (.one 9 (quiets [10] .stop)))))) [([0, 1, 2, 3], Sub T6)] (by kernel_rfl) (by kernel_rfl) (fun p hp => by simp only [List.mem_singleton] at hp; subst hp; exact Sub.refl _) ?_) ?_
 ·refine tree_quiets T6 _ _ _ (sfIn (by kernel_rfl)) (by kernel_rfl) (by kernel_rfl) ?_
  simp -implicitDefEqProofs (disch := omega) only [Nat.reduceEqDiff, ↓reduceIte, vcu, ↓vcd, pickOps_nil, pickOps_cons, pickO_some, List.getElem?_cons_succ, List.getElem?_cons_zero, l11, l12, co28, co50, co24]
  refine tree_two rfl rfl ?_ ?_
  ·skip
   try simp -implicitDefEqProofs (disch := omega) only [Nat.reduceEqDiff, ↓reduceIte, vcu, ↓vcd]
   refine (implER_calls T6 (.agg #[.int .i64 e.s.O, .int .i64 e.s.E, .int .i64 e.s.M, v1, v2]) (.slice (some ⟨qd, 0, none⟩) H 3) e (ds.take H) ⟨_, _, rfl, ta, ca⟩ hB (.inr ⟨qd, 0, by rw [List.length_take, Nat.min_eq_left hH2], hqd.take H⟩) (by rw [List.length_take]; omega) hN1).mono ?_
   rintro _ A1 ⟨_, rfl, b1, u1, u2, rfl, o1, o2⟩
   rw [r1] at o1 o2 ⊢
   dsimp only at o1 o2 ⊢
   unfold exV
   simp -implicitDefEqProofs (disch := omega) only [Nat.reduceEqDiff, ↓reduceIte, vcu, ↓vcd, opK_some]
   refine ⟨keep_of rfl fun p hp => by simp only [List.mem_singleton] at hp; subst hp; exact .inr b1, ?_⟩
   refine tree_quiets (fun _ => none) _ _ _ sf0 (by kernel_rfl) (by kernel_rfl) ?_
   simp -implicitDefEqProofs (disch := omega) only [Nat.reduceEqDiff, ↓reduceIte, vcu, ↓vcd, pickOps_nil, pickOps_cons, pickO_some, List.getElem?_cons_succ, List.getElem?_cons_zero, List.getElem?_toArray, List.getElem?_cons_zero, List.getElem?_cons_succ]
   refine tree_one rfl ?_
   refine r_new ze28 fun c A2 nc' b2 ec => ?_
   replace ec : A2 c = some ⟨[.int .i64 0, .int .i64 0, .int .i64 0, .slice none 0 0, .slice none 0 0], false⟩ := ec
   have nc := free_sub b1 nc'
   have B := b1.trans b2
   try simp -implicitDefEqProofs (disch := omega) only [Nat.reduceEqDiff, ↓reduceIte, vcu, ↓vcd]
   refine ⟨keep_of rfl fun p hp => by simp only [List.mem_singleton] at hp; subst hp; exact .inr B, ?_⟩
   refine tree_one rfl ?_
   have hone := cells_one o1.texts o2.tris
   refine r_sets (g := c) (i := 0) (C := [.int .i64 0, .int .i64 0, .int .i64 0, .slice none 0 0, .slice none 0 0]) z9q z9co28 (by simp -implicitDefEqProofs (disch := omega) only [Nat.reduceEqDiff, ↓reduceIte, vcu, ↓vcd]; exact hone) z9z ec z9l fun A9 k9 e9 => ?_
   replace e9 : A9 c = some ⟨exC u1 u2 x1, false⟩ := e9
   have S9 : Sub T6 A9 := k9.sub B nc
   try simp -implicitDefEqProofs (disch := omega) only [Nat.reduceEqDiff, ↓reduceIte, vcu, ↓vcd]
   refine ⟨keep_of rfl fun p hp => by simp only [List.mem_singleton] at hp; subst hp; exact .inr S9, ?_⟩
   refine tree_quiets (fun _ => none) _ _ _ sf0 (by kernel_rfl) (by kernel_rfl) ?_
   simp -implicitDefEqProofs (disch := omega) only [Nat.reduceEqDiff, ↓reduceIte, vcu, ↓vcd, pickOps_nil, pickOps_cons, pickO_some, List.getElem?_cons_succ, List.getElem?_cons_zero]
   refine tree_stop ?_
   exact ⟨by first | trivial | rfl, ⟨by first | trivial | rfl | simp -implicitDefEqProofs (disch := omega) only [Nat.reduceEqDiff, ↓reduceIte, vcu, ↓vcd], by first | trivial | rfl | simp -implicitDefEqProofs (disch := omega) only [Nat.reduceEqDiff, ↓reduceIte, vcu, ↓vcd], by first | trivial | rfl | simp -implicitDefEqProofs (disch := omega) only [Nat.reduceEqDiff, ↓reduceIte, vcu, ↓vcd], by first | trivial | rfl | simp -implicitDefEqProofs (disch := omega) only [Nat.reduceEqDiff, ↓reduceIte, vcu, ↓vcd], by first | trivial | rfl | simp -implicitDefEqProofs (disch := omega) only [Nat.reduceEqDiff, ↓reduceIte, vcu, ↓vcd]⟩, c, u1, u2, by first | trivial | simp -implicitDefEqProofs (disch := omega) only [Nat.reduceEqDiff, ↓reduceIte, vcu, ↓vcd], by first | trivial | simp -implicitDefEqProofs (disch := omega) only [Nat.reduceEqDiff, ↓reduceIte, vcu, ↓vcd], S9, e9, o1.texts.sub (k9.sub b2 nc'), o2.tris.sub (k9.sub b2 nc')⟩
  ·skip
   refine r_new ze28 fun c A1 nc b1' ec => ?_
   replace ec : A1 c = some ⟨[.int .i64 0, .int .i64 0, .int .i64 0, .slice none 0 0, .slice none 0 0], false⟩ := ec
   try simp -implicitDefEqProofs (disch := omega) only [Nat.reduceEqDiff, ↓reduceIte, vcu, ↓vcd]
   refine ⟨keep_of rfl fun p hp => by simp only [List.mem_singleton] at hp; subst hp; exact .inr b1', ?_⟩
   refine tree_one rfl ?_
   try simp -implicitDefEqProofs (disch := omega) only [Nat.reduceEqDiff, ↓reduceIte, vcu, ↓vcd]
   refine (implER_calls A1 (.agg #[.int .i64 e.s.O, .int .i64 e.s.E, .int .i64 e.s.M, v1, v2]) (.slice (some ⟨qd, 0, none⟩) H 3) e (ds.take H) ⟨_, _, rfl, ta.sub b1', ca.sub b1'⟩ hB (.inr ⟨qd, 0, by rw [List.length_take, Nat.min_eq_left hH2], (hqd.sub b1').take H⟩) (by rw [List.length_take]; omega) hN1).mono ?_
   rintro _ A2 ⟨_, rfl, b2, u1, u2, rfl, o1, o2⟩
   rw [r1] at o1 o2 ⊢
   dsimp only at o1 o2 ⊢
   unfold exV
   simp -implicitDefEqProofs (disch := omega) only [Nat.reduceEqDiff, ↓reduceIte, vcu, ↓vcd, opK_some]
   have B := b1'.trans b2
   have ec1 := ec
   replace ec := b2 _ _ ec
   refine ⟨keep_of rfl fun p hp => by simp only [List.mem_singleton] at hp; subst hp; exact .inr B, ?_⟩
   refine tree_quiets (fun _ => none) _ _ _ sf0 (by kernel_rfl) (by kernel_rfl) ?_
   simp -implicitDefEqProofs (disch := omega) only [Nat.reduceEqDiff, ↓reduceIte, vcu, ↓vcd, pickOps_nil, pickOps_cons, pickO_some, List.getElem?_cons_succ, List.getElem?_cons_zero, List.getElem?_toArray, List.getElem?_cons_zero, List.getElem?_cons_succ]
   refine tree_one rfl ?_
   have hone := cells_one o1.texts o2.tris
   refine r_sets (g := c) (i := 0) (C := [.int .i64 0, .int .i64 0, .int .i64 0, .slice none 0 0, .slice none 0 0]) z9q z9co28 (by simp -implicitDefEqProofs (disch := omega) only [Nat.reduceEqDiff, ↓reduceIte, vcu, ↓vcd]; exact hone) z9z ec z9l fun A9 k9 e9 => ?_
   replace e9 : A9 c = some ⟨exC u1 u2 x1, false⟩ := e9
   have S9 : Sub T6 A9 := k9.sub B nc
   try simp -implicitDefEqProofs (disch := omega) only [Nat.reduceEqDiff, ↓reduceIte, vcu, ↓vcd]
   refine ⟨keep_of rfl fun p hp => by simp only [List.mem_singleton] at hp; subst hp; exact .inr S9, ?_⟩
   refine tree_quiets (fun _ => none) _ _ _ sf0 (by kernel_rfl) (by kernel_rfl) ?_
   simp -implicitDefEqProofs (disch := omega) only [Nat.reduceEqDiff, ↓reduceIte, vcu, ↓vcd, pickOps_nil, pickOps_cons, pickO_some, List.getElem?_cons_succ, List.getElem?_cons_zero]
   refine tree_stop ?_
   exact ⟨by first | trivial | rfl, ⟨by first | trivial | rfl | simp -implicitDefEqProofs (disch := omega) only [Nat.reduceEqDiff, ↓reduceIte, vcu, ↓vcd], by first | trivial | rfl | simp -implicitDefEqProofs (disch := omega) only [Nat.reduceEqDiff, ↓reduceIte, vcu, ↓vcd], by first | trivial | rfl | simp -implicitDefEqProofs (disch := omega) only [Nat.reduceEqDiff, ↓reduceIte, vcu, ↓vcd], by first | trivial | rfl | simp -implicitDefEqProofs (disch := omega) only [Nat.reduceEqDiff, ↓reduceIte, vcu, ↓vcd], by first | trivial | rfl | simp -implicitDefEqProofs (disch := omega) only [Nat.reduceEqDiff, ↓reduceIte, vcu, ↓vcd]⟩, c, u1, u2, by first | trivial | simp -implicitDefEqProofs (disch := omega) only [Nat.reduceEqDiff, ↓reduceIte, vcu, ↓vcd], by first | trivial | simp -implicitDefEqProofs (disch := omega) only [Nat.reduceEqDiff, ↓reduceIte, vcu, ↓vcd], S9, e9, (o1.kept k9 ec1).texts, (o2.kept k9 ec1).tris⟩
 rintro _ a13 A13 ⟨rfl, ⟨hj9_3, hj9_4, hj9_5, hj9_6, hj9_9⟩, qm, um1, um2, hc13, hv13, b13, km, tm, cm⟩
 replace ta := ta.sub b13
 replace ca := ca.sub b13
 replace ka := b13 _ _ ka
 replace tp := tp.sub b13
 replace cp := cp.sub b13
 replace kp := b13 _ _ kp
 replace hqd := hqd.sub b13
 have bm : ExB x1 := exB_of r3
 have bz : ExB x2 := by rw [r4]; exact bf
 simp -implicitDefEqProofs (disch := omega) only [Nat.reduceEqDiff, ↓reduceIte, vcu, ↓vcd, hj9_3, hj9_4, hj9_5, hj9_6, hj9_9, hc13, hv13]
 have l15 : lds A13 qa 0 5 = some [.int .i64 e.s.O, .int .i64 e.s.E, .int .i64 e.s.M, v1, v2] := by rw [lds_of ka (by simp [exC])]; rfl
 have l16 : lds A13 qp 0 5 = some [.int .i64 f.s.O, .int .i64 f.s.E, .int .i64 f.s.M, up1, up2] := by rw [lds_of kp (by simp [exC])]; rfl
 have l17 : lds A13 qm 0 5 = some [.int .i64 x1.s.O, .int .i64 x1.s.E, .int .i64 x1.s.M, um1, um2] := by rw [lds_of km (by simp [exC])]; rfl
 refine acodeB_monoY (Q' := fun en a' T => en = .normal ∧ (a' 3 = .pointer (some ⟨qa, 0, none⟩) ∧ a' 5 = .pointer (some ⟨qp, 0, none⟩) ∧ a' 6 = .int .i64 (n : Int) ∧ a' 11 = .int .i64 (n1 : Int)) ∧ ∃ (c : Nat) (u1 u2 : Value), a' 12 = .pointer (some ⟨c, 0, none⟩) ∧ a' 13 = .int .i64 (n2 : Int) ∧ Sub A13 T ∧ T c = some ⟨exC u1 u2 x2, false⟩ ∧ Texts T u1 (x2).ps ∧ Tris T u2 (x2).cs)
  (region_tree mixed (quiets [0, 1, 2, 3] (.two 4 (quiets [5, 6, 7] (.one 8 (.one 9 (quiets [10] .stop)))) 8 (.one 4 (quiets [5, 6, 7] (.one 9 (quiets [10] .stop)))))) [([0, 1, 2, 3], Sub A13)] (by kernel_rfl) (by kernel_rfl) (fun p hp => by simp only [List.mem_singleton] at hp; subst hp; exact Sub.refl _) ?_) ?_
 ·refine tree_quiets A13 _ _ _ (sfIn (by kernel_rfl)) (by kernel_rfl) (by kernel_rfl) ?_
  simp -implicitDefEqProofs (disch := omega) only [Nat.reduceEqDiff, ↓reduceIte, vcu, ↓vcd, pickOps_nil, pickOps_cons, pickO_some, List.getElem?_cons_succ, List.getElem?_cons_zero, hj9_3, hj9_4, hj9_5, hj9_6, hj9_9, hc13, hv13, l15, l16, l17, co28, co50, co24]
  refine tree_two rfl rfl ?_ ?_
  ·skip
   try simp -implicitDefEqProofs (disch := omega) only [Nat.reduceEqDiff, ↓reduceIte, vcu, ↓vcd, hj9_3, hj9_4, hj9_5, hj9_6, hj9_9, hc13, hv13]
   refine (implER_calls A13 (.agg #[.int .i64 x1.s.O, .int .i64 x1.s.E, .int .i64 x1.s.M, um1, um2]) (.slice (some ⟨qd, 0 + H * 3, none⟩) (ds.length - H) 3) x1 (ds.drop H) ⟨_, _, rfl, tm, cm⟩ bm (.inr ⟨qd, 0 + H * 3, by rw [List.length_drop], hqd.drop H⟩) (by rw [List.length_drop]; omega) hN2).mono ?_
   rintro _ A1 ⟨_, rfl, b1, u1, u2, rfl, o1, o2⟩
   rw [r2] at o1 o2 ⊢
   dsimp only at o1 o2 ⊢
   unfold exV
   simp -implicitDefEqProofs (disch := omega) only [Nat.reduceEqDiff, ↓reduceIte, vcu, ↓vcd, opK_some]
   refine ⟨keep_of rfl fun p hp => by simp only [List.mem_singleton] at hp; subst hp; exact .inr b1, ?_⟩
   refine tree_quiets (fun _ => none) _ _ _ sf0 (by kernel_rfl) (by kernel_rfl) ?_
   simp -implicitDefEqProofs (disch := omega) only [Nat.reduceEqDiff, ↓reduceIte, vcu, ↓vcd, pickOps_nil, pickOps_cons, pickO_some, List.getElem?_cons_succ, List.getElem?_cons_zero, List.getElem?_toArray, List.getElem?_cons_zero, List.getElem?_cons_succ]
   refine tree_one rfl ?_
   refine r_new ze28 fun c A2 nc' b2 ec => ?_
   replace ec : A2 c = some ⟨[.int .i64 0, .int .i64 0, .int .i64 0, .slice none 0 0, .slice none 0 0], false⟩ := ec
   have nc := free_sub b1 nc'
   have B := b1.trans b2
   try simp -implicitDefEqProofs (disch := omega) only [Nat.reduceEqDiff, ↓reduceIte, vcu, ↓vcd]
   refine ⟨keep_of rfl fun p hp => by simp only [List.mem_singleton] at hp; subst hp; exact .inr B, ?_⟩
   refine tree_one rfl ?_
   have hone := cells_one o1.texts o2.tris
   refine r_sets (g := c) (i := 0) (C := [.int .i64 0, .int .i64 0, .int .i64 0, .slice none 0 0, .slice none 0 0]) z9q z9co28 (by simp -implicitDefEqProofs (disch := omega) only [Nat.reduceEqDiff, ↓reduceIte, vcu, ↓vcd]; exact hone) z9z ec z9l fun A9 k9 e9 => ?_
   replace e9 : A9 c = some ⟨exC u1 u2 x2, false⟩ := e9
   have S9 : Sub A13 A9 := k9.sub B nc
   try simp -implicitDefEqProofs (disch := omega) only [Nat.reduceEqDiff, ↓reduceIte, vcu, ↓vcd]
   refine ⟨keep_of rfl fun p hp => by simp only [List.mem_singleton] at hp; subst hp; exact .inr S9, ?_⟩
   refine tree_quiets (fun _ => none) _ _ _ sf0 (by kernel_rfl) (by kernel_rfl) ?_
   simp -implicitDefEqProofs (disch := omega) only [Nat.reduceEqDiff, ↓reduceIte, vcu, ↓vcd, pickOps_nil, pickOps_cons, pickO_some, List.getElem?_cons_succ, List.getElem?_cons_zero]
   refine tree_stop ?_
   exact ⟨by first | trivial | rfl, ⟨by first | trivial | rfl | simp -implicitDefEqProofs (disch := omega) only [Nat.reduceEqDiff, ↓reduceIte, vcu, ↓vcd, hj9_3, hj9_4, hj9_5, hj9_6, hj9_9, hc13, hv13], by first | trivial | rfl | simp -implicitDefEqProofs (disch := omega) only [Nat.reduceEqDiff, ↓reduceIte, vcu, ↓vcd, hj9_3, hj9_4, hj9_5, hj9_6, hj9_9, hc13, hv13], by first | trivial | rfl | simp -implicitDefEqProofs (disch := omega) only [Nat.reduceEqDiff, ↓reduceIte, vcu, ↓vcd, hj9_3, hj9_4, hj9_5, hj9_6, hj9_9, hc13, hv13], by first | trivial | rfl | simp -implicitDefEqProofs (disch := omega) only [Nat.reduceEqDiff, ↓reduceIte, vcu, ↓vcd, hj9_3, hj9_4, hj9_5, hj9_6, hj9_9, hc13, hv13]⟩, c, u1, u2, by first | trivial | simp -implicitDefEqProofs (disch := omega) only [Nat.reduceEqDiff, ↓reduceIte, vcu, ↓vcd], by first | trivial | simp -implicitDefEqProofs (disch := omega) only [Nat.reduceEqDiff, ↓reduceIte, vcu, ↓vcd], S9, e9, o1.texts.sub (k9.sub b2 nc'), o2.tris.sub (k9.sub b2 nc')⟩
  ·skip
   refine r_new ze28 fun c A1 nc b1' ec => ?_
   replace ec : A1 c = some ⟨[.int .i64 0, .int .i64 0, .int .i64 0, .slice none 0 0, .slice none 0 0], false⟩ := ec
   try simp -implicitDefEqProofs (disch := omega) only [Nat.reduceEqDiff, ↓reduceIte, vcu, ↓vcd]
   refine ⟨keep_of rfl fun p hp => by simp only [List.mem_singleton] at hp; subst hp; exact .inr b1', ?_⟩
   refine tree_one rfl ?_
   try simp -implicitDefEqProofs (disch := omega) only [Nat.reduceEqDiff, ↓reduceIte, vcu, ↓vcd, hj9_3, hj9_4, hj9_5, hj9_6, hj9_9, hc13, hv13]
   refine (implER_calls A1 (.agg #[.int .i64 x1.s.O, .int .i64 x1.s.E, .int .i64 x1.s.M, um1, um2]) (.slice (some ⟨qd, 0 + H * 3, none⟩) (ds.length - H) 3) x1 (ds.drop H) ⟨_, _, rfl, tm.sub b1', cm.sub b1'⟩ bm (.inr ⟨qd, 0 + H * 3, by rw [List.length_drop], (hqd.sub b1').drop H⟩) (by rw [List.length_drop]; omega) hN2).mono ?_
   rintro _ A2 ⟨_, rfl, b2, u1, u2, rfl, o1, o2⟩
   rw [r2] at o1 o2 ⊢
   dsimp only at o1 o2 ⊢
   unfold exV
   simp -implicitDefEqProofs (disch := omega) only [Nat.reduceEqDiff, ↓reduceIte, vcu, ↓vcd, opK_some]
   have B := b1'.trans b2
   have ec1 := ec
   replace ec := b2 _ _ ec
   refine ⟨keep_of rfl fun p hp => by simp only [List.mem_singleton] at hp; subst hp; exact .inr B, ?_⟩
   refine tree_quiets (fun _ => none) _ _ _ sf0 (by kernel_rfl) (by kernel_rfl) ?_
   simp -implicitDefEqProofs (disch := omega) only [Nat.reduceEqDiff, ↓reduceIte, vcu, ↓vcd, pickOps_nil, pickOps_cons, pickO_some, List.getElem?_cons_succ, List.getElem?_cons_zero, List.getElem?_toArray, List.getElem?_cons_zero, List.getElem?_cons_succ]
   refine tree_one rfl ?_
   have hone := cells_one o1.texts o2.tris
   refine r_sets (g := c) (i := 0) (C := [.int .i64 0, .int .i64 0, .int .i64 0, .slice none 0 0, .slice none 0 0]) z9q z9co28 (by simp -implicitDefEqProofs (disch := omega) only [Nat.reduceEqDiff, ↓reduceIte, vcu, ↓vcd]; exact hone) z9z ec z9l fun A9 k9 e9 => ?_
   replace e9 : A9 c = some ⟨exC u1 u2 x2, false⟩ := e9
   have S9 : Sub A13 A9 := k9.sub B nc
   try simp -implicitDefEqProofs (disch := omega) only [Nat.reduceEqDiff, ↓reduceIte, vcu, ↓vcd]
   refine ⟨keep_of rfl fun p hp => by simp only [List.mem_singleton] at hp; subst hp; exact .inr S9, ?_⟩
   refine tree_quiets (fun _ => none) _ _ _ sf0 (by kernel_rfl) (by kernel_rfl) ?_
   simp -implicitDefEqProofs (disch := omega) only [Nat.reduceEqDiff, ↓reduceIte, vcu, ↓vcd, pickOps_nil, pickOps_cons, pickO_some, List.getElem?_cons_succ, List.getElem?_cons_zero]
   refine tree_stop ?_
   exact ⟨by first | trivial | rfl, ⟨by first | trivial | rfl | simp -implicitDefEqProofs (disch := omega) only [Nat.reduceEqDiff, ↓reduceIte, vcu, ↓vcd, hj9_3, hj9_4, hj9_5, hj9_6, hj9_9, hc13, hv13], by first | trivial | rfl | simp -implicitDefEqProofs (disch := omega) only [Nat.reduceEqDiff, ↓reduceIte, vcu, ↓vcd, hj9_3, hj9_4, hj9_5, hj9_6, hj9_9, hc13, hv13], by first | trivial | rfl | simp -implicitDefEqProofs (disch := omega) only [Nat.reduceEqDiff, ↓reduceIte, vcu, ↓vcd, hj9_3, hj9_4, hj9_5, hj9_6, hj9_9, hc13, hv13], by first | trivial | rfl | simp -implicitDefEqProofs (disch := omega) only [Nat.reduceEqDiff, ↓reduceIte, vcu, ↓vcd, hj9_3, hj9_4, hj9_5, hj9_6, hj9_9, hc13, hv13]⟩, c, u1, u2, by first | trivial | simp -implicitDefEqProofs (disch := omega) only [Nat.reduceEqDiff, ↓reduceIte, vcu, ↓vcd], by first | trivial | simp -implicitDefEqProofs (disch := omega) only [Nat.reduceEqDiff, ↓reduceIte, vcu, ↓vcd], S9, e9, (o1.kept k9 ec1).texts, (o2.kept k9 ec1).tris⟩
 rintro _ a18 A18 ⟨rfl, ⟨hj13_3, hj13_5, hj13_6, hj13_11⟩, qz, uz1, uz2, hc18, hv18, b18, kz, tz, cz⟩
 replace ta := ta.sub b18
 replace ca := ca.sub b18
 replace ka := b18 _ _ ka
 replace tp := tp.sub b18
 replace cp := cp.sub b18
 replace kp := b18 _ _ kp
 replace tm := tm.sub b18
 replace cm := cm.sub b18
 replace km := b18 _ _ km
 replace hqd := hqd.sub b18
 have l19 : lds A18 qa 0 5 = some [.int .i64 e.s.O, .int .i64 e.s.E, .int .i64 e.s.M, v1, v2] := by rw [lds_of ka (by simp [exC])]; rfl
 have l20 : lds A18 qp 0 5 = some [.int .i64 f.s.O, .int .i64 f.s.E, .int .i64 f.s.M, up1, up2] := by rw [lds_of kp (by simp [exC])]; rfl
 have l21 : lds A18 qm 0 5 = some [.int .i64 x1.s.O, .int .i64 x1.s.E, .int .i64 x1.s.M, um1, um2] := by rw [lds_of km (by simp [exC])]; rfl
 have l22 : lds A18 qz 0 5 = some [.int .i64 x2.s.O, .int .i64 x2.s.E, .int .i64 x2.s.M, uz1, uz2] := by rw [lds_of kz (by simp [exC])]; rfl
 have hq := eql_sp f.s.O f.s.E f.s.M e.s.O e.s.E e.s.M
 rw [decide_eq_true (by rw [r6])] at hq
 have l23 : lds A18 qa (0 + 0) 3 = some [.int .i64 e.s.O, .int .i64 e.s.E, .int .i64 e.s.M] := lds_three (ld_of ka rfl) (ld_of ka rfl) (ld_of ka rfl)
 rw [Nat.add_zero] at l23
 have l24 : lds A18 qp (0 + 0) 3 = some [.int .i64 f.s.O, .int .i64 f.s.E, .int .i64 f.s.M] := lds_three (ld_of kp rfl) (ld_of kp rfl) (ld_of kp rfl)
 rw [Nat.add_zero] at l24
 have l25 : ld A18 qa (0 + 3) = some v1 := ld_of ka rfl
 have l26 : ld A18 qp (0 + 3) = some up1 := ld_of kp rfl
 have lna := lenT ta
 have lnp := lenT tp
 rw [r7] at lnp
 simp -implicitDefEqProofs (disch := omega) only [Nat.reduceEqDiff, ↓reduceIte, vcu, ↓vcd, hj13_3, hj13_5, hj13_6, hj13_11, hc18, hv18, l19, l20, l21, l22, co28, co50, co24]
 refine (implEV_calls A18 (.agg #[.int .i64 f.s.O, .int .i64 f.s.E, .int .i64 f.s.M, up1, up2]) f ⟨_, _, rfl, tp, cp⟩ bf).mono ?_
 rintro _ _ ⟨rfl, rfl⟩
 rename_i A18
 rw [decide_eq_true r5]
 have r8' : ((n1 : Int) + (n2 : Int)) = (n : Int) := by omega
 simp -implicitDefEqProofs (disch := omega) only [Nat.reduceEqDiff, ↓reduceIte, vcu, ↓vcd, opK_some, hj13_3, hj13_5, hj13_6, hj13_11, hc18, hv18, l19, l20, l21, l22, l23, l24, l25, l26, lna, lnp, hq, Nat.add_zero, co28, co50, co24]
 refine (sameEx_calls A18 (.agg #[.int .i64 x2.s.O, .int .i64 x2.s.E, .int .i64 x2.s.M, uz1, uz2]) (.agg #[.int .i64 f.s.O, .int .i64 f.s.E, .int .i64 f.s.M, up1, up2]) x2 f ⟨_, _, rfl, tz, cz⟩ ⟨_, _, rfl, tp, cp⟩ bz bf).mono ?_
 rintro _ _ ⟨rfl, rfl⟩
 rename_i A18
 rw [decide_eq_true r4]
 simp -implicitDefEqProofs (disch := omega) only [Nat.reduceEqDiff, ↓reduceIte, vcu, ↓vcd, opK_some, hj13_3, hj13_5, hj13_6, hj13_11, hc18, hv18, r8']
 refine fin_one Try.results8 ?_
 simp -implicitDefEqProofs (disch := omega) only [Nat.reduceEqDiff, ↓reduceIte, vcu, ↓vcd]

open Go.ChangeShapes Go.WideShapes Go.ChangeAt Go.RowKit

set_option maxRecDepth 100000 in
theorem lifted8 (os : Os) (started : os.Started) (H : Type) (enc : TypeId × Value → H) :
  ReturnsInHanded {} Try.checked os 8 .any (Rows.fnExRunSpec.pre6 enc Try.prog Try.f8 Rows.fnExRunRow.domain false) (Rows.fnExRunSpec.post enc Try.prog Try.f8 false true false false) := by
 refine returnsInHanded_of_change (C := Try.checked) own started (by kernel_rfl) Try.func8
  (ChangeSpec.witness6 (enc := enc) (C := Try.checked) false ⟨#[], #[.slice none 0 0], []⟩ 8 (by kernel_rfl) (by kernel_rfl) (by kernel_rfl) (by kernel_rfl)) ?_
 intro W base args ds gs before hval hW _ _
 have hW' := hW
 obtain ⟨p, q, hA, hV, -, -, -⟩ := hW'
 rw [Try.params8] at hA hval
 obtain ⟨v0, vs0, d0, ds0, p0, q0, hargs, rfl, rfl, h0, r0⟩ := trodAll_cons hA
 obtain ⟨rfl, rfl, rfl⟩ := trodAll_nil r0
 obtain ⟨rfl, rfl⟩ := trodVars_none hV
 obtain rfl : args = #[v0] := by cases args; simp_all
 obtain ⟨β0, σ0, a0, zs0, L0, U0, S0, R0, I0, w0, m0⟩ := start_ints Try.underlying22 Try.underlying5 co5 (Start.start W) (hval 0 22 v0 rfl rfl) h0
 refine ((law8 σ0 a0 zs0 (I0) m0 w0).2 noProt β0 W [v0] S0.rel (.cons R0 (.nil _))).mono fun e W' h => ?_
 obtain ⟨β', r, r', σ', -, rfl, hr, hrel, rfl⟩ := h
 cases hr
 exact ⟨_, rfl, law_post laidOut hW rfl rfl (by rw [Try.params8]; intro t ht; simp only [List.mem_cons, List.not_mem_nil, or_false, or_self] at ht; rcases ht with rfl <;> exact ⟨by kernel_rfl, of_decide_eq_true (by kernel_rfl)⟩) rfl Try.underlying4 hrel.below⟩

theorem facts8 : joinedFacts Try.prog 8 Try.f8 Rows.fnExRunSpec Rows.fnExRunRow = true := by
 unfold joinedFacts
 rw [mayE, liftsE, makeE]
 kernel_rfl

theorem proved8 : Rows.FnExRunSaid :=
 OpenClaim.holds_of_wide 8 Try.f8 rfl rfl rfl rfl rfl rfl rfl ⟨rfl, rfl, rfl, rfl, rfl⟩ rfl rfl rfl rfl rfl (by kernel_rfl) Try.func8 facts8 (of_decide_eq_true (by kernel_rfl))
  (by unfold Func.isWrapper; first | (rw [if_pos (by decide +kernel)]; kernel_rfl) | (rw [if_neg (by decide +kernel)]; exact ⟨rfl, rfl⟩))
  (fun os started H enc _ => lifted8 os started H enc)


end Go.Proofs.Ytofdnmlpfagibaa
