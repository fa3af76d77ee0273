/- FnExDo answers true for every code. -/
import Derived.Test.YtofdnmlpfagibaaSBg
set_option linter.unusedSimpArgs false
set_option linter.unusedVariables false
set_option maxHeartbeats 6400000
namespace Go.Proofs.Ytofdnmlpfagibaa
open Go Go.Abs Go.RowKit Go.Dial Go.Clos
variable {w0 : World}

set_option maxRecDepth 16000 in
theorem law7 (σ : AHeap) (v : Value) (bs : List Int) (hv : Ints .u8 σ v bs) (hm : bs.length ≤ maxLen) (hw : ∀ z ∈ bs, (Lit.int .u8 z).wf = true) :
  ACall Try.prog w0 7 [v] σ fun r _ => r = .bool true := by
 unfold maxLen at hm
 refine ACall.ints_arg (pre := []) (by kernel_rfl) hv fun σ1 h o hs hg => ?_
 clear hv hs σ v
 have hb := bytes_of hw
 refine acall_go mixed Try.func7 rfl good7 fun pr => ?_
 by_cases hbig : 1048576 < bs.length
 ·simp -implicitDefEqProofs (disch := omega) only [Nat.reduceEqDiff, ↓reduceIte, vcu, ↓vcd]
  refine fin_one Try.results7 ?_
  simp -implicitDefEqProofs (disch := omega) only [Nat.reduceEqDiff, ↓reduceIte, vcu, ↓vcd]
 have hl : bs.length ≤ 1048576 := by omega
 simp -implicitDefEqProofs (disch := omega) only [Nat.reduceEqDiff, ↓reduceIte, vcu, ↓vcd]
 refine (drawED_at σ1 h o bs hg hl hb).mono ?_
 rintro _ τ ⟨⟨e, v1, v2, d, rfl, hv, hs, dt⟩, hsub⟩
 clear hg hl hb
 obtain ⟨ta, ca⟩ := exV_in hv
 clear hv
 have hB := hs.b
 have hps11 := hs.1
 have onea := cells_one ta ca
 unfold exV ddA
 simp -implicitDefEqProofs (disch := omega) only [Nat.reduceEqDiff, ↓reduceIte, vcu, ↓vcd, opK_some, List.getElem?_toArray, List.getElem?_cons_zero, List.getElem?_cons_succ]
 refine r_new ze28 fun qa T1 na sa ka => ?_
 replace ka : T1 qa = some ⟨[.int .i64 0, .int .i64 0, .int .i64 0, .slice none 0 0, .slice none 0 0], false⟩ := ka
 try simp -implicitDefEqProofs (disch := omega) only [Nat.reduceEqDiff, ↓reduceIte, vcu, ↓vcd]
 refine r_new ze50 fun qd T2 nd sd kd => ?_
 replace kd : T2 qd = some ⟨[.int .i64 0, .int .i64 0, .string (tx [])], false⟩ := kd
 have dad : qa ≠ qd := ne_of' nd ka
 have S2 := sa.trans sd
 have nd' := free_sub sa nd
 replace ka := sd _ _ ka
 try simp -implicitDefEqProofs (disch := omega) only [Nat.reduceEqDiff, ↓reduceIte, vcu, ↓vcd]
 refine r_sets (g := qa) (i := 0) (C := [.int .i64 0, .int .i64 0, .int .i64 0, .slice none 0 0, .slice none 0 0]) z9q z9co28 (by simp -implicitDefEqProofs (disch := omega) only [Nat.reduceEqDiff, ↓reduceIte, vcu, ↓vcd]; exact onea) z9z ka z9l fun T3 k3 ka => ?_
 replace ka : T3 qa = some ⟨exC v1 v2 e, false⟩ := ka
 have S3 := k3.sub S2 na
 replace kd := k3.at kd dad.symm
 try simp -implicitDefEqProofs (disch := omega) only [Nat.reduceEqDiff, ↓reduceIte, vcu, ↓vcd]
 refine r_sets (g := qd) (i := 0) (C := [.int .i64 0, .int .i64 0, .string (tx [])]) z9q z9co50 z9r z9z kd z9l fun T4 k4 kd => ?_
 replace kd : T4 qd = some ⟨[.int .i64 d.k, .int .i64 d.l, .string (tx d.t)], false⟩ := kd
 have S4 := k4.sub S3 nd'
 replace ka := k4.at ka dad
 replace ta := ta.sub S4
 replace ca := ca.sub S4
 clear k3 k4 S2 S3 na nd sa sd onea
 obtain ⟨f, hf⟩ : ∃ f, (exDo e d).1 = f := ⟨_, rfl⟩
 obtain ⟨ok, hok⟩ : ∃ ok, (exDo e d).2 = ok := ⟨_, rfl⟩
 have bf : ExB f := by rw [← hf]; exact exDoB e d
 have l11 : lds T4 qa 0 5 = some [.int .i64 e.s.O, .int .i64 e.s.E, .int .i64 e.s.M, v1, v2] := by rw [lds_of ka (by simp [exC])]; rfl
 have l12 : lds T4 qd 0 3 = some [.int .i64 d.k, .int .i64 d.l, .string (tx d.t)] := lds_three (ld_of kd rfl) (ld_of kd rfl) (ld_of kd rfl)
 simp -implicitDefEqProofs (disch := omega) only [Nat.reduceEqDiff, ↓reduceIte, vcu, ↓vcd, l11, l12, co28, co50, co24]
 refine (implED_calls T4 (.agg #[.int .i64 e.s.O, .int .i64 e.s.E, .int .i64 e.s.M, v1, v2]) e d ⟨_, _, rfl, ta, ca⟩ hB (by omega)).mono ?_
 rintro _ Ap ⟨_, rfl, bp, up1, up2, rfl, o1, o2⟩
 rw [hf] at o1 o2
 rw [hf, hok]
 have tp := o1.texts
 have cp := o2.tris
 clear o1 o2
 replace ta := ta.sub bp
 replace ca := ca.sub bp
 replace ka := bp _ _ ka
 replace kd := bp _ _ kd
 unfold exV
 simp -implicitDefEqProofs (disch := omega) only [Nat.reduceEqDiff, ↓reduceIte, vcu, ↓vcd, opK_some, List.getElem?_toArray, List.getElem?_cons_zero, List.getElem?_cons_succ]
 have onep := cells_one tp cp
 refine r_local (cs := #[.int .i64 f.s.O, .int .i64 f.s.E, .int .i64 f.s.M, up1, up2]) ze28 (by decide) z9q (by rw [co28]; rfl) rfl onep (Nat.zero_lt_succ _) fun qp T13 n13 s13 kp => ?_
 replace kp : T13 qp = some ⟨exC up1 up2 f, false⟩ := kp
 replace ta := ta.sub s13
 replace ca := ca.sub s13
 replace ka := s13 _ _ ka
 replace tp := tp.sub s13
 replace cp := cp.sub s13
 replace kd := s13 _ _ kd
 have l14 : lds T13 qa 0 5 = some [.int .i64 e.s.O, .int .i64 e.s.E, .int .i64 e.s.M, v1, v2] := by rw [lds_of ka (by simp [exC])]; rfl
 have l15 : lds T13 qp 0 5 = some [.int .i64 f.s.O, .int .i64 f.s.E, .int .i64 f.s.M, up1, up2] := by rw [lds_of kp (by simp [exC])]; rfl
 have l16 : lds T13 qd 0 3 = some [.int .i64 d.k, .int .i64 d.l, .string (tx d.t)] := lds_three (ld_of kd rfl) (ld_of kd rfl) (ld_of kd rfl)
 simp -implicitDefEqProofs (disch := omega) only [Nat.reduceEqDiff, ↓reduceIte, vcu, ↓vcd, l14, l15, l16, co28, co50, co24]
 refine (exDo_calls T13 (.agg #[.int .i64 e.s.O, .int .i64 e.s.E, .int .i64 e.s.M, v1, v2]) e d ⟨_, _, rfl, ta, ca⟩ hB (by omega)).mono ?_
 rintro _ Ag ⟨_, rfl, bg, ug1, ug2, rfl, o1, o2⟩
 rw [hf] at o1 o2
 rw [hf, hok]
 have tg := o1.texts
 have cg := o2.tris
 clear o1 o2
 replace ta := ta.sub bg
 replace ca := ca.sub bg
 replace ka := bg _ _ ka
 replace tp := tp.sub bg
 replace cp := cp.sub bg
 replace kp := bg _ _ kp
 replace kd := bg _ _ kd
 unfold exV
 simp -implicitDefEqProofs (disch := omega) only [Nat.reduceEqDiff, ↓reduceIte, vcu, ↓vcd, opK_some, List.getElem?_toArray, List.getElem?_cons_zero, List.getElem?_cons_succ]
 have oneg := cells_one tg cg
 refine r_local (cs := #[.int .i64 f.s.O, .int .i64 f.s.E, .int .i64 f.s.M, ug1, ug2]) ze28 (by decide) z9q (by rw [co28]; rfl) rfl oneg (Nat.zero_lt_succ _) fun qg T17 n17 s17 kg => ?_
 replace kg : T17 qg = some ⟨exC ug1 ug2 f, false⟩ := kg
 replace ta := ta.sub s17
 replace ca := ca.sub s17
 replace ka := s17 _ _ ka
 replace tp := tp.sub s17
 replace cp := cp.sub s17
 replace kp := s17 _ _ kp
 replace tg := tg.sub s17
 replace cg := cg.sub s17
 replace kd := s17 _ _ kd
 have l18 : lds T17 qa 0 5 = some [.int .i64 e.s.O, .int .i64 e.s.E, .int .i64 e.s.M, v1, v2] := by rw [lds_of ka (by simp [exC])]; rfl
 have l19 : lds T17 qp 0 5 = some [.int .i64 f.s.O, .int .i64 f.s.E, .int .i64 f.s.M, up1, up2] := by rw [lds_of kp (by simp [exC])]; rfl
 have l20 : lds T17 qg 0 5 = some [.int .i64 f.s.O, .int .i64 f.s.E, .int .i64 f.s.M, ug1, ug2] := by rw [lds_of kg (by simp [exC])]; rfl
 simp -implicitDefEqProofs (disch := omega) only [Nat.reduceEqDiff, ↓reduceIte, vcu, ↓vcd, l18, l19, l20, co28, co50, co24]
 refine (sameEx_calls T17 (.agg #[.int .i64 f.s.O, .int .i64 f.s.E, .int .i64 f.s.M, up1, up2]) (.agg #[.int .i64 f.s.O, .int .i64 f.s.E, .int .i64 f.s.M, ug1, ug2]) f f ⟨_, _, rfl, tp, cp⟩ ⟨_, _, rfl, tg, cg⟩ bf bf).mono ?_
 rintro _ _ ⟨rfl, rfl⟩
 rename_i T17
 rw [decide_eq_true rfl]
 simp -implicitDefEqProofs (disch := omega) only [Nat.reduceEqDiff, ↓reduceIte, vcu, ↓vcd, opK_some, l18, l19, l20, co28, co50, co24, Bool.not_true, beq_self_eq_true, ne_eq, not_true_eq_false, decide_false]
 refine (exVal_calls T17 (.agg #[.int .i64 e.s.O, .int .i64 e.s.E, .int .i64 e.s.M, v1, v2]) e ⟨_, _, rfl, ta, ca⟩ hB).mono ?_
 rintro _ _ ⟨rfl, rfl⟩
 rename_i T17
 by_cases ho : ExOk e
 case neg =>
  have h1 : exDo e d = (ex0, false) := if_neg ho
  have h2 : f = ex0 := by rw [← hf, h1]
  have h3 : ok = false := by rw [← hok, h1]
  subst h3
  rw [decide_eq_false ho]
  simp -implicitDefEqProofs (disch := omega) only [Nat.reduceEqDiff, ↓reduceIte, vcu, ↓vcd, opK_some, l18, l19, l20, co28, co50, co24, Bool.not_false]
  refine (noEx_calls T17 (.agg #[.int .i64 f.s.O, .int .i64 f.s.E, .int .i64 f.s.M, up1, up2]) f ⟨_, _, rfl, tp, cp⟩ bf).mono ?_
  rintro _ _ ⟨rfl, rfl⟩
  rename_i T17
  rw [decide_eq_true h2]
  simp -implicitDefEqProofs (disch := omega) only [Nat.reduceEqDiff, ↓reduceIte, vcu, ↓vcd, opK_some]
  refine (alive_at T17).mono ?_
  rintro _ _ ⟨rfl, rfl⟩
  rename_i T17
  simp -implicitDefEqProofs (disch := omega) only [Nat.reduceEqDiff, ↓reduceIte, vcu, ↓vcd, opK_some]
  refine fin_one Try.results7 ?_
  simp -implicitDefEqProofs (disch := omega) only [Nat.reduceEqDiff, ↓reduceIte, vcu, ↓vcd]
 have l21 : ld T17 qd (0 + 2) = some (.string (tx d.t)) := ld_of kd rfl
 rw [decide_eq_true ho]
 simp -implicitDefEqProofs (disch := omega) only [Nat.reduceEqDiff, ↓reduceIte, vcu, ↓vcd, opK_some, l18, l19, l20, l21, co28, co50, co24, Bool.not_true]
 refine (implLO_calls T17 (.agg #[.int .i64 e.s.O, .int .i64 e.s.E, .int .i64 e.s.M, v1, v2]) e d.t ⟨_, _, rfl, ta, ca⟩ hB).mono ?_
 rintro _ _ ⟨rfl, rfl⟩
 rename_i T17
 obtain ⟨to, hto⟩ : ∃ to, lineV e d.t = to := ⟨_, rfl⟩
 rw [hto]
 have l22 : ld T17 qd (0 + 1) = some (.int .i64 d.l) := ld_of kd rfl
 have l23 : ld T17 qa (0 + 3) = some v1 := ld_of ka rfl
 have hFr : FreeD e d ↔ ((((0 ≤ d.l ∧ d.l < e.ps.length) ∧ 0 ≤ to) ∧ ¬(to = d.l)) ∧ peerV e d.l < 0) ∧ peerV e to < 0 := by unfold FreeD; rw [hto]
 obtain ⟨fr, hfr⟩ : ∃ fr, decide (FreeD e d) = fr := ⟨_, rfl⟩
 have lpa := lenT ta
 have PO := fun z => implPO_calls (w0 := w0) T17 (.agg #[.int .i64 e.s.O, .int .i64 e.s.E, .int .i64 e.s.M, v1, v2]) e z ⟨_, _, rfl, ta, ca⟩ hB
 simp -implicitDefEqProofs (disch := omega) only [Nat.reduceEqDiff, ↓reduceIte, vcu, ↓vcd, opK_some]
 refine ⟨_, l22, ?_⟩
 unfold stepK
 refine vcR_monoG (K' := fun a' S => S = T17 ∧ (a' 3 = .pointer (some ⟨qa, 0, none⟩) ∧ a' 4 = .pointer (some ⟨qd, 0, none⟩) ∧ a' 5 = .pointer (some ⟨qp, 0, none⟩) ∧ a' 6 = .bool ok ∧ a' 9 = .int .i64 to) ∧ a' 10 = .bool fr) ?_ _ _ _ ?_
 rotate_left
 ·skip
  by_cases c1 : 0 ≤ d.l
  case neg =>
   have : fr = false := by rw [← hfr]; exact decide_eq_false fun h => c1 (hFr.1 h).1.1.1.1.1
   subst this
   simp -implicitDefEqProofs (disch := omega) only [Nat.reduceEqDiff, ↓reduceIte, vcu, ↓vcd, l22, l23, lpa]
   exact ⟨by first | trivial | rfl, ⟨by first | trivial | rfl, by first | trivial | rfl, by first | trivial | rfl, by first | trivial | rfl, by first | trivial | rfl⟩, by first | trivial | rfl⟩
  by_cases c2 : d.l < e.ps.length
  case neg =>
   have : fr = false := by rw [← hfr]; exact decide_eq_false fun h => c2 (hFr.1 h).1.1.1.1.2
   subst this
   simp -implicitDefEqProofs (disch := omega) only [Nat.reduceEqDiff, ↓reduceIte, vcu, ↓vcd, l22, l23, lpa]
   exact ⟨by first | trivial | rfl, ⟨by first | trivial | rfl, by first | trivial | rfl, by first | trivial | rfl, by first | trivial | rfl, by first | trivial | rfl⟩, by first | trivial | rfl⟩
  by_cases c3 : 0 ≤ to
  case neg =>
   have : fr = false := by rw [← hfr]; exact decide_eq_false fun h => c3 (hFr.1 h).1.1.1.2
   subst this
   simp -implicitDefEqProofs (disch := omega) only [Nat.reduceEqDiff, ↓reduceIte, vcu, ↓vcd, l22, l23, lpa]
   exact ⟨by first | trivial | rfl, ⟨by first | trivial | rfl, by first | trivial | rfl, by first | trivial | rfl, by first | trivial | rfl, by first | trivial | rfl⟩, by first | trivial | rfl⟩
  by_cases c4 : ¬(to = d.l)
  case neg =>
   have : fr = false := by rw [← hfr]; exact decide_eq_false fun h => c4 (hFr.1 h).1.1.2
   subst this
   simp -implicitDefEqProofs (disch := omega) only [Nat.reduceEqDiff, ↓reduceIte, vcu, ↓vcd, l22, l23, lpa]
   exact ⟨by first | trivial | rfl, ⟨by first | trivial | rfl, by first | trivial | rfl, by first | trivial | rfl, by first | trivial | rfl, by first | trivial | rfl⟩, by first | trivial | rfl⟩
  have l24 : lds T17 qa 0 5 = some [.int .i64 e.s.O, .int .i64 e.s.E, .int .i64 e.s.M, v1, v2] := by rw [lds_of ka (by simp [exC])]; rfl
  have l25 : lds T17 qp 0 5 = some [.int .i64 f.s.O, .int .i64 f.s.E, .int .i64 f.s.M, up1, up2] := by rw [lds_of kp (by simp [exC])]; rfl
  have l26 : lds T17 qg 0 5 = some [.int .i64 f.s.O, .int .i64 f.s.E, .int .i64 f.s.M, ug1, ug2] := by rw [lds_of kg (by simp [exC])]; rfl
  simp -implicitDefEqProofs (disch := omega) only [Nat.reduceEqDiff, ↓reduceIte, vcu, ↓vcd, l22, l23, lpa, l24, l25, l26, ne_eq, c4, not_false_eq_true, decide_true, co28, co50, co24]
  refine (PO d.l).mono ?_
  rintro _ _ ⟨rfl, rfl⟩
  rename_i T17
  by_cases c5 : peerV e d.l < 0
  case neg =>
   have : fr = false := by rw [← hfr]; exact decide_eq_false fun h => c5 (hFr.1 h).1.2
   subst this
   simp -implicitDefEqProofs (disch := omega) only [Nat.reduceEqDiff, ↓reduceIte, vcu, ↓vcd, opK_some, l22, l23, lpa]
   exact ⟨by first | trivial | rfl, ⟨by first | trivial | rfl, by first | trivial | rfl, by first | trivial | rfl, by first | trivial | rfl, by first | trivial | rfl⟩, by first | trivial | rfl⟩
  simp -implicitDefEqProofs (disch := omega) only [Nat.reduceEqDiff, ↓reduceIte, vcu, ↓vcd, opK_some, c5, l22, l23, lpa, l24, l25, l26, co28, co50, co24]
  refine (PO to).mono ?_
  rintro _ _ ⟨rfl, rfl⟩
  rename_i T17
  by_cases c6 : peerV e to < 0
  case neg =>
   have : fr = false := by rw [← hfr]; exact decide_eq_false fun h => c6 (hFr.1 h).2
   subst this
   simp -implicitDefEqProofs (disch := omega) only [Nat.reduceEqDiff, ↓reduceIte, vcu, ↓vcd, opK_some, c6, decide_false, l22, l23, lpa]
   exact ⟨by first | trivial | rfl, ⟨by first | trivial | rfl, by first | trivial | rfl, by first | trivial | rfl, by first | trivial | rfl, by first | trivial | rfl⟩, by first | trivial | rfl⟩
  have : fr = true := by rw [← hfr]; exact decide_eq_true (hFr.2 ⟨⟨⟨⟨⟨c1, c2⟩, c3⟩, c4⟩, c5⟩, c6⟩)
  subst this
  simp -implicitDefEqProofs (disch := omega) only [Nat.reduceEqDiff, ↓reduceIte, vcu, ↓vcd, opK_some, c6]
  exact ⟨by first | trivial | rfl, ⟨by first | trivial | rfl, by first | trivial | rfl, by first | trivial | rfl, by first | trivial | rfl, by first | trivial | rfl⟩, by first | trivial | rfl⟩
 rintro a1 _ ⟨rfl, ⟨h3, h4, h5, h6, h9⟩, h10⟩
 rename_i T17
 have hkf : d.k = 0 → ok = fr := fun hk => by rw [← hok, ← hfr]; exact freeD_iff ho hk
 have hto' : lineS e.ps d.t = to := by rw [← hto]; exact (if_pos ho).symm
 have l27 : ld T17 qd (0 + 0) = some (.int .i64 d.k) := ld_of kd rfl
 have l28 : lds T17 qa 0 5 = some [.int .i64 e.s.O, .int .i64 e.s.E, .int .i64 e.s.M, v1, v2] := by rw [lds_of ka (by simp [exC])]; rfl
 have l29 : lds T17 qp 0 5 = some [.int .i64 f.s.O, .int .i64 f.s.E, .int .i64 f.s.M, up1, up2] := by rw [lds_of kp (by simp [exC])]; rfl
 have l30 : lds T17 qg 0 5 = some [.int .i64 f.s.O, .int .i64 f.s.E, .int .i64 f.s.M, ug1, ug2] := by rw [lds_of kg (by simp [exC])]; rfl
 by_cases k0 : d.k = 0
 ·have hof := hkf k0
  subst hof
  simp -implicitDefEqProofs (disch := omega) only [Nat.reduceEqDiff, ↓reduceIte, vcu, ↓vcd, h3, h4, h5, h9, h6, h10, l27, beq_self_eq_true, Bool.not_true]
  cases ok with
  | false =>
   have hfe := exDo_no hf hok ho
   simp -implicitDefEqProofs (disch := omega) only [Nat.reduceEqDiff, ↓reduceIte, vcu, ↓vcd, h3, h4, h5, h9, h6, l28, l29, l30, Bool.not_false, co28, co50, co24]
   refine (sameEx_calls T17 (.agg #[.int .i64 f.s.O, .int .i64 f.s.E, .int .i64 f.s.M, up1, up2]) (.agg #[.int .i64 e.s.O, .int .i64 e.s.E, .int .i64 e.s.M, v1, v2]) f e ⟨_, _, rfl, tp, cp⟩ ⟨_, _, rfl, ta, ca⟩ bf hB).mono ?_
   rintro _ _ ⟨rfl, rfl⟩
   rename_i T17
   rw [decide_eq_true hfe]
   simp -implicitDefEqProofs (disch := omega) only [Nat.reduceEqDiff, ↓reduceIte, vcu, ↓vcd, opK_some]
   refine fin_one Try.results7 ?_
   simp -implicitDefEqProofs (disch := omega) only [Nat.reduceEqDiff, ↓reduceIte, vcu, ↓vcd]
  | true =>
   have D := exDo_yes hf hok ho
   have PF := fun z => implPO_calls (w0 := w0) T17 (.agg #[.int .i64 f.s.O, .int .i64 f.s.E, .int .i64 f.s.M, up1, up2]) f z ⟨_, _, rfl, tp, cp⟩ bf
   have eB : ∀ z, peerV e z = peerS e.cs z := fun z => if_pos ho
   have eC : ∀ z, peerV f z = peerS f.cs z := fun z => if_pos D.ok
   simp -implicitDefEqProofs (disch := omega) only [Nat.reduceEqDiff, ↓reduceIte, vcu, ↓vcd, h3, h4, h5, h9, h6, Bool.not_true]
   refine vc_loop_c mixed (by kernel_rfl) [3, 4, 5, 9] (fun m a σ' => ∃ k : Nat, m + k = e.ps.length ∧ a 11 = .int .i64 (k : Int) ∧ σ' = T17) e.ps.length ⟨0, by simp, rfl, rfl⟩ ?_
   rintro mm aa _ hcc ⟨k, hk, h11, rfl⟩
   rename_i T17
   simp -implicitDefEqProofs (disch := omega) only [Nat.reduceEqDiff, ↓reduceIte, vcu, ↓vcd, h3, h4, h5, h9] at hcc
   obtain ⟨e3, e4, e5, e9, -⟩ := hcc
   by_cases hlt : k < e.ps.length
   ·simp -implicitDefEqProofs (disch := omega) only [Nat.reduceEqDiff, ↓reduceIte, vcu, ↓vcd, e3, e4, e5, e9, h11, l23, lpa, l28, l29, l30, co28, co50, co24]
    refine (PO k).mono ?_
    rintro _ _ ⟨rfl, rfl⟩
    rename_i T17
    simp -implicitDefEqProofs (disch := omega) only [Nat.reduceEqDiff, ↓reduceIte, vcu, ↓vcd, opK_some, e3, e4, e5, e9, h11, l28, l29, l30, co28, co50, co24]
    refine (PF k).mono ?_
    rintro _ _ ⟨rfl, rfl⟩
    rename_i T17
    rw [eB k, eC k]
    have hsame : (k : Int) ≠ d.l → (d.k = 0 → (k : Int) ≠ to) → (d.k = 1 → peerS e.cs k ≠ d.l) → peerS f.cs k = peerS e.cs k := fun a b c => Did.peer ho D a (fun h0 => by rw [hto']; exact b h0) c
    have hnum : d.k = 2 → peerS f.cs k = peerS e.cs k := fun h2 => Did.peer_num ho D h2 k
    have bB : True := trivial
    generalize peerS e.cs k = B at hsame hnum
    generalize peerS f.cs k = C at hsame hnum
    by_cases c1 : (k : Int) = d.l
    ·simp -implicitDefEqProofs (disch := omega) only [Nat.reduceEqDiff, ↓reduceIte, vcu, ↓vcd, opK_some, e3, e4, e5, e9, h11, l27, l22, ne_eq]
     exact ⟨by simp [e3, e4, e5, e9, h3, h4, h5, h9], mm - 1, by omega, k + 1, by omega, by simp, trivial⟩
    by_cases c2 : (k : Int) = to
    ·simp -implicitDefEqProofs (disch := omega) only [Nat.reduceEqDiff, ↓reduceIte, vcu, ↓vcd, opK_some, e3, e4, e5, e9, h11, l27, l22, ne_eq]
     exact ⟨by simp [e3, e4, e5, e9, h3, h4, h5, h9], mm - 1, by omega, k + 1, by omega, by simp, trivial⟩
    have hCB := hsame c1 (fun _ => c2) (fun h => absurd h (by omega))
    subst hCB
    simp -implicitDefEqProofs (disch := omega) only [Nat.reduceEqDiff, ↓reduceIte, vcu, ↓vcd, opK_some, e3, e4, e5, e9, h11, l27, l22, ne_eq, not_true_eq_false, decide_false]
    exact ⟨by simp [e3, e4, e5, e9, h3, h4, h5, h9], mm - 1, by omega, k + 1, by omega, by simp, trivial⟩
   simp -implicitDefEqProofs (disch := omega) only [Nat.reduceEqDiff, ↓reduceIte, vcu, ↓vcd, e3, e4, e5, e9, h11, l23, lpa, l28, l29, l30, co28, co50, co24]
   refine (implEV_calls T17 (.agg #[.int .i64 f.s.O, .int .i64 f.s.E, .int .i64 f.s.M, up1, up2]) f ⟨_, _, rfl, tp, cp⟩ bf).mono ?_
   rintro _ _ ⟨rfl, rfl⟩
   rename_i T17
   rw [decide_eq_true D.ok]
   simp -implicitDefEqProofs (disch := omega) only [Nat.reduceEqDiff, ↓reduceIte, vcu, ↓vcd, opK_some, e3, e4, e5, e9, l28, l29, l30, co28, co50, co24]
   refine (sameEx_calls T17 (.agg #[.int .i64 f.s.O, .int .i64 f.s.E, .int .i64 f.s.M, up1, up2]) (.agg #[.int .i64 e.s.O, .int .i64 e.s.E, .int .i64 e.s.M, v1, v2]) f e ⟨_, _, rfl, tp, cp⟩ ⟨_, _, rfl, ta, ca⟩ bf hB).mono ?_
   rintro _ _ ⟨rfl, rfl⟩
   rename_i T17
   rw [decide_eq_false D.ne]
   simp -implicitDefEqProofs (disch := omega) only [Nat.reduceEqDiff, ↓reduceIte, vcu, ↓vcd, opK_some, e3, e4, e5, e9, l27, l22, l28, l29, l30, ne_eq, Bool.not_false, co28, co50, co24]
   refine (PF d.l).mono ?_
   rintro _ _ ⟨rfl, rfl⟩
   rename_i T17
   rw [eC, Did.peer_call ho D (by omega), hto']
   simp -implicitDefEqProofs (disch := omega) only [Nat.reduceEqDiff, ↓reduceIte, vcu, ↓vcd, opK_some, e3, e4, e5, e9, l27, l22, l28, l29, l30, ne_eq, Bool.not_false, co28, co50, co24]
   refine fin_one Try.results7 ?_
   simp -implicitDefEqProofs (disch := omega) only [Nat.reduceEqDiff, ↓reduceIte, vcu, ↓vcd]
 ·simp -implicitDefEqProofs (disch := omega) only [Nat.reduceEqDiff, ↓reduceIte, vcu, ↓vcd, h3, h4, h5, h9, h6, h10, l27]
  cases ok with
  | false =>
   have hfe := exDo_no hf hok ho
   simp -implicitDefEqProofs (disch := omega) only [Nat.reduceEqDiff, ↓reduceIte, vcu, ↓vcd, h3, h4, h5, h9, h6, l28, l29, l30, Bool.not_false, co28, co50, co24]
   refine (sameEx_calls T17 (.agg #[.int .i64 f.s.O, .int .i64 f.s.E, .int .i64 f.s.M, up1, up2]) (.agg #[.int .i64 e.s.O, .int .i64 e.s.E, .int .i64 e.s.M, v1, v2]) f e ⟨_, _, rfl, tp, cp⟩ ⟨_, _, rfl, ta, ca⟩ bf hB).mono ?_
   rintro _ _ ⟨rfl, rfl⟩
   rename_i T17
   rw [decide_eq_true hfe]
   simp -implicitDefEqProofs (disch := omega) only [Nat.reduceEqDiff, ↓reduceIte, vcu, ↓vcd, opK_some]
   refine fin_one Try.results7 ?_
   simp -implicitDefEqProofs (disch := omega) only [Nat.reduceEqDiff, ↓reduceIte, vcu, ↓vcd]
  | true =>
   have D := exDo_yes hf hok ho
   have PF := fun z => implPO_calls (w0 := w0) T17 (.agg #[.int .i64 f.s.O, .int .i64 f.s.E, .int .i64 f.s.M, up1, up2]) f z ⟨_, _, rfl, tp, cp⟩ bf
   have eB : ∀ z, peerV e z = peerS e.cs z := fun z => if_pos ho
   have eC : ∀ z, peerV f z = peerS f.cs z := fun z => if_pos D.ok
   simp -implicitDefEqProofs (disch := omega) only [Nat.reduceEqDiff, ↓reduceIte, vcu, ↓vcd, h3, h4, h5, h9, h6, Bool.not_true]
   refine vc_loop_c mixed (by kernel_rfl) [3, 4, 5, 9] (fun m a σ' => ∃ k : Nat, m + k = e.ps.length ∧ a 11 = .int .i64 (k : Int) ∧ σ' = T17) e.ps.length ⟨0, by simp, rfl, rfl⟩ ?_
   rintro mm aa _ hcc ⟨k, hk, h11, rfl⟩
   rename_i T17
   simp -implicitDefEqProofs (disch := omega) only [Nat.reduceEqDiff, ↓reduceIte, vcu, ↓vcd, h3, h4, h5, h9] at hcc
   obtain ⟨e3, e4, e5, e9, -⟩ := hcc
   by_cases hlt : k < e.ps.length
   ·simp -implicitDefEqProofs (disch := omega) only [Nat.reduceEqDiff, ↓reduceIte, vcu, ↓vcd, e3, e4, e5, e9, h11, l23, lpa, l28, l29, l30, co28, co50, co24]
    refine (PO k).mono ?_
    rintro _ _ ⟨rfl, rfl⟩
    rename_i T17
    simp -implicitDefEqProofs (disch := omega) only [Nat.reduceEqDiff, ↓reduceIte, vcu, ↓vcd, opK_some, e3, e4, e5, e9, h11, l28, l29, l30, co28, co50, co24]
    refine (PF k).mono ?_
    rintro _ _ ⟨rfl, rfl⟩
    rename_i T17
    rw [eB k, eC k]
    have hsame : (k : Int) ≠ d.l → (d.k = 0 → (k : Int) ≠ to) → (d.k = 1 → peerS e.cs k ≠ d.l) → peerS f.cs k = peerS e.cs k := fun a b c => Did.peer ho D a (fun h0 => by rw [hto']; exact b h0) c
    have hnum : d.k = 2 → peerS f.cs k = peerS e.cs k := fun h2 => Did.peer_num ho D h2 k
    have bB : True := trivial
    generalize peerS e.cs k = B at hsame hnum
    generalize peerS f.cs k = C at hsame hnum
    by_cases k1 : d.k = 1
    ·skip
     by_cases c1 : (k : Int) = d.l
     ·simp -implicitDefEqProofs (disch := omega) only [Nat.reduceEqDiff, ↓reduceIte, vcu, ↓vcd, opK_some, e3, e4, e5, e9, h11, l27, l22, ne_eq]
      exact ⟨by simp [e3, e4, e5, e9, h3, h4, h5, h9], mm - 1, by omega, k + 1, by omega, by simp, trivial⟩
     by_cases c2 : B = d.l
     ·have c3 := decide_eq_true c2
      simp -implicitDefEqProofs (disch := omega) only [Nat.reduceEqDiff, ↓reduceIte, vcu, ↓vcd, opK_some, e3, e4, e5, e9, h11, l27, l22, ne_eq, c3, Bool.not_true]
      exact ⟨by simp [e3, e4, e5, e9, h3, h4, h5, h9], mm - 1, by omega, k + 1, by omega, by simp, trivial⟩
     have hCB := hsame c1 (fun h => absurd h (by omega)) (fun _ => c2)
     subst hCB
     have c3 := decide_eq_false c2
     simp -implicitDefEqProofs (disch := omega) only [Nat.reduceEqDiff, ↓reduceIte, vcu, ↓vcd, opK_some, e3, e4, e5, e9, h11, l27, l22, ne_eq, not_true_eq_false, decide_false, c3, Bool.not_false]
     exact ⟨by simp [e3, e4, e5, e9, h3, h4, h5, h9], mm - 1, by omega, k + 1, by omega, by simp, trivial⟩
    have k2 : d.k = 2 := by have := D.kind; omega
    by_cases c1 : (k : Int) = d.l
    ·have hCB := hnum (by omega)
     subst hCB
     simp -implicitDefEqProofs (disch := omega) only [Nat.reduceEqDiff, ↓reduceIte, vcu, ↓vcd, opK_some, e3, e4, e5, e9, h11, l27, l22, ne_eq, not_true_eq_false, decide_false]
     exact ⟨by simp [e3, e4, e5, e9, h3, h4, h5, h9], mm - 1, by omega, k + 1, by omega, by simp, trivial⟩
    ·have hCB := hnum (by omega)
     subst hCB
     simp -implicitDefEqProofs (disch := omega) only [Nat.reduceEqDiff, ↓reduceIte, vcu, ↓vcd, opK_some, e3, e4, e5, e9, h11, l27, l22, ne_eq, not_true_eq_false, decide_false]
     exact ⟨by simp [e3, e4, e5, e9, h3, h4, h5, h9], mm - 1, by omega, k + 1, by omega, by simp, trivial⟩
   simp -implicitDefEqProofs (disch := omega) only [Nat.reduceEqDiff, ↓reduceIte, vcu, ↓vcd, e3, e4, e5, e9, h11, l23, lpa, l28, l29, l30, co28, co50, co24]
   refine (implEV_calls T17 (.agg #[.int .i64 f.s.O, .int .i64 f.s.E, .int .i64 f.s.M, up1, up2]) f ⟨_, _, rfl, tp, cp⟩ bf).mono ?_
   rintro _ _ ⟨rfl, rfl⟩
   rename_i T17
   rw [decide_eq_true D.ok]
   simp -implicitDefEqProofs (disch := omega) only [Nat.reduceEqDiff, ↓reduceIte, vcu, ↓vcd, opK_some, e3, e4, e5, e9, l28, l29, l30, co28, co50, co24]
   refine (sameEx_calls T17 (.agg #[.int .i64 f.s.O, .int .i64 f.s.E, .int .i64 f.s.M, up1, up2]) (.agg #[.int .i64 e.s.O, .int .i64 e.s.E, .int .i64 e.s.M, v1, v2]) f e ⟨_, _, rfl, tp, cp⟩ ⟨_, _, rfl, ta, ca⟩ bf hB).mono ?_
   rintro _ _ ⟨rfl, rfl⟩
   rename_i T17
   rw [decide_eq_false D.ne]
   by_cases k1 : d.k = 1
   ·skip
    simp -implicitDefEqProofs (disch := omega) only [Nat.reduceEqDiff, ↓reduceIte, vcu, ↓vcd, opK_some, e3, e4, e5, e9, l27, l22, l28, l29, l30, ne_eq, Bool.not_false, co28, co50, co24]
    refine (PF d.l).mono ?_
    rintro _ _ ⟨rfl, rfl⟩
    rename_i T17
    rw [eC, Did.peer_drop ho D (by omega)]
    simp -implicitDefEqProofs (disch := omega) only [Nat.reduceEqDiff, ↓reduceIte, vcu, ↓vcd, opK_some, e3, e4, e5, e9, l27, l22, l28, l29, l30, ne_eq, Bool.not_false, co28, co50, co24]
    refine fin_one Try.results7 ?_
    simp -implicitDefEqProofs (disch := omega) only [Nat.reduceEqDiff, ↓reduceIte, vcu, ↓vcd]
   have k2 : d.k = 2 := by have := D.kind; omega
   simp -implicitDefEqProofs (disch := omega) only [Nat.reduceEqDiff, ↓reduceIte, vcu, ↓vcd, opK_some, e3, e4, e5, e9, l27, l22, l28, l29, l30, ne_eq, Bool.not_false, co28, co50, co24]
   refine fin_one Try.results7 ?_
   simp -implicitDefEqProofs (disch := omega) only [Nat.reduceEqDiff, ↓reduceIte, vcu, ↓vcd]

open Go.ChangeShapes Go.WideShapes Go.ChangeAt Go.RowKit

set_option maxRecDepth 100000 in
theorem lifted7 (os : Os) (started : os.Started) (H : Type) (enc : TypeId × Value → H) :
  ReturnsInHanded {} Try.checked os 7 .any (Rows.fnExDoSpec.pre6 enc Try.prog Try.f7 Rows.fnExDoRow.domain false) (Rows.fnExDoSpec.post enc Try.prog Try.f7 false true false false) := by
 refine returnsInHanded_of_change (C := Try.checked) own started (by kernel_rfl) Try.func7
  (ChangeSpec.witness6 (enc := enc) (C := Try.checked) false ⟨#[], #[.slice none 0 0], []⟩ 8 (by kernel_rfl) (by kernel_rfl) (by kernel_rfl) (by kernel_rfl)) ?_
 intro W base args ds gs before hval hW _ _
 have hW' := hW
 obtain ⟨p, q, hA, hV, -, -, -⟩ := hW'
 rw [Try.params7] at hA hval
 obtain ⟨v0, vs0, d0, ds0, p0, q0, hargs, rfl, rfl, h0, r0⟩ := trodAll_cons hA
 obtain ⟨rfl, rfl, rfl⟩ := trodAll_nil r0
 obtain ⟨rfl, rfl⟩ := trodVars_none hV
 obtain rfl : args = #[v0] := by cases args; simp_all
 obtain ⟨β0, σ0, a0, zs0, L0, U0, S0, R0, I0, w0, m0⟩ := start_ints Try.underlying22 Try.underlying5 co5 (Start.start W) (hval 0 22 v0 rfl rfl) h0
 refine ((law7 σ0 a0 zs0 (I0) m0 w0).2 noProt β0 W [v0] S0.rel (.cons R0 (.nil _))).mono fun e W' h => ?_
 obtain ⟨β', r, r', σ', -, rfl, hr, hrel, rfl⟩ := h
 cases hr
 exact ⟨_, rfl, law_post laidOut hW rfl rfl (by rw [Try.params7]; intro t ht; simp only [List.mem_cons, List.not_mem_nil, or_false, or_self] at ht; rcases ht with rfl <;> exact ⟨by kernel_rfl, of_decide_eq_true (by kernel_rfl)⟩) rfl Try.underlying4 hrel.below⟩

theorem facts7 : joinedFacts Try.prog 7 Try.f7 Rows.fnExDoSpec Rows.fnExDoRow = true := by
 unfold joinedFacts
 rw [mayE, liftsE, makeE]
 kernel_rfl

theorem proved7 : Rows.FnExDoSaid :=
 OpenClaim.holds_of_wide 7 Try.f7 rfl rfl rfl rfl rfl rfl rfl ⟨rfl, rfl, rfl, rfl, rfl⟩ rfl rfl rfl rfl rfl (by kernel_rfl) Try.func7 facts7 (of_decide_eq_true (by kernel_rfl))
  (by unfold Func.isWrapper; first | (rw [if_pos (by decide +kernel)]; kernel_rfl) | (rw [if_neg (by decide +kernel)]; exact ⟨rfl, rfl⟩))
  (fun os started H enc _ => lifted7 os started H enc)


end Go.Proofs.Ytofdnmlpfagibaa
