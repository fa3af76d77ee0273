/- FnMiddleFree answers true for every code. -/
import Derived.Test.YtphacjkogompoaaDk
set_option linter.unusedSimpArgs false
set_option linter.unusedVariables false
namespace Go.Proofs.Ytphacjkogompoaa
open Go Go.Abs Go.RowKit Go.Clos
variable {w0 : World}

set_option maxRecDepth 8000 in
set_option maxHeartbeats 1600000 in
theorem law5 (σ : AHeap) (v : Value) (bs : List Int) (hv : Ints .u8 σ v bs) (hm : bs.length ≤ maxLen) (hw : ∀ z ∈ bs, (Lit.int .u8 z).wf = true) :
    ACall Try.prog w0 5 [v] σ fun r _ => r = .bool true := by
  unfold maxLen at hm
  refine ACall.ints_arg (pre := []) (by kernel_rfl) hv fun σ1 h o hs hg => ?_
  clear hv hs σ v
  have hb := bytes_of hw
  refine acall_go mixed Try.func5 rfl good5 fun pr => ?_
  by_cases hbig : 1048576 < bs.length
  · simp -implicitDefEqProofs (disch := omega) only [List.any_cons, List.any_nil, Nat.reduceEqDiff, List.map_cons, List.map_nil, Option.map_some, Option.map_none, List.nil_append, ↓reduceIte, vcu, ↓vcd]
    refine fin_one Try.results5 ?_
    simp -implicitDefEqProofs (disch := omega) only [List.any_cons, List.any_nil, Nat.reduceEqDiff, List.map_cons, List.map_nil, Option.map_some, Option.map_none, List.nil_append, ↓reduceIte, vcu, ↓vcd]
  have hl : bs.length ≤ 1048576 := by omega
  simp -implicitDefEqProofs (disch := omega) only [List.any_cons, List.any_nil, Nat.reduceEqDiff, List.map_cons, List.map_nil, Option.map_some, Option.map_none, List.nil_append, ↓reduceIte, vcu, ↓vcd]
  refine (drawFr_row σ1 h o bs hg hl hb).mono ?_
  rintro _ τ ⟨s, q, u, cs, I, O, rfl, hD, hl14, hq, hs, hI, hO⟩
  simp -implicitDefEqProofs (disch := omega) only [List.any_cons, List.any_nil, Nat.reduceEqDiff, List.map_cons, List.map_nil, Option.map_some, Option.map_none, List.nil_append, ↓reduceIte, vcu, ↓vcd, opK_some, List.getElem?_toArray, List.getElem?_cons_zero, List.getElem?_cons_succ]
  refine r_new ze24 fun c3 τ2a n3 sa ea => ?_
  replace ea : τ2a c3 = some ⟨[.int .i64 0, .int .i64 0, .int .i64 0], false⟩ := ea
  refine r_sets (g := c3) (i := 0) (C := [.int .i64 0, .int .i64 0, .int .i64 0]) (by simp -implicitDefEqProofs (disch := omega) only [List.any_cons, List.any_nil, Nat.reduceEqDiff, List.map_cons, List.map_nil, Option.map_some, Option.map_none, List.nil_append, ↓reduceIte, vcu, ↓vcd]) (by simp -implicitDefEqProofs (disch := omega) only [List.any_cons, List.any_nil, Nat.reduceEqDiff, List.map_cons, List.map_nil, Option.map_some, Option.map_none, List.nil_append, ↓reduceIte, vcu, ↓vcd, co24]; rfl) (by simp -implicitDefEqProofs (disch := omega) only [List.any_cons, List.any_nil, Nat.reduceEqDiff, List.map_cons, List.map_nil, Option.map_some, Option.map_none, List.nil_append, ↓reduceIte, vcu, ↓vcd]; rfl) (by simp -implicitDefEqProofs (disch := omega) only [List.any_cons, List.any_nil, Nat.reduceEqDiff, List.map_cons, List.map_nil, Option.map_some, Option.map_none, List.nil_append, ↓reduceIte, vcu, ↓vcd]; exact Nat.zero_lt_succ _) ea (by simp -implicitDefEqProofs (disch := omega) only [List.any_cons, List.any_nil, Nat.reduceEqDiff, List.map_cons, List.map_nil, Option.map_some, Option.map_none, List.nil_append, ↓reduceIte, vcu, ↓vcd]; exact Nat.le_refl _) fun τ2 k2 e3 => ?_
  replace e3 : τ2 c3 = some ⟨[.int .i64 s.O, .int .i64 s.E, .int .i64 s.M], false⟩ := e3
  have s3 := k2.sub sa n3
  replace hq := hq.sub s3
  have m3 : ∀ τ', Sub τ2 τ' → lds τ' c3 0 3 = some [.int .i64 s.O, .int .i64 s.E, .int .i64 s.M] := fun τ' hs => lds_three (ld_of (hs _ _ e3) rfl) (ld_of (hs _ _ e3) rfl) (ld_of (hs _ _ e3) rfl)
  have mO : ∀ τ', Sub τ2 τ' → ld τ' c3 (0 + 0) = some (.int .i64 s.O) := fun τ' hs => ld_of (hs _ _ e3) rfl
  have mE : ∀ τ', Sub τ2 τ' → ld τ' c3 (0 + 1) = some (.int .i64 s.E) := fun τ' hs => ld_of (hs _ _ e3) rfl
  have mM : ∀ τ', Sub τ2 τ' → ld τ' c3 (0 + 2) = some (.int .i64 s.M) := fun τ' hs => ld_of (hs _ _ e3) rfl
  clear hs ea sa k2 s3
  have hlc : cs.length ≤ 1048576 := by omega
  have l2 := m3 τ2 (Sub.refl _)
  simp -implicitDefEqProofs (disch := omega) only [List.any_cons, List.any_nil, Nat.reduceEqDiff, List.map_cons, List.map_nil, Option.map_some, Option.map_none, List.nil_append, ↓reduceIte, vcu, ↓vcd, l2, co24]
  refine (implFree_at τ2 s q u cs I O hq hlc).mono ?_
  rintro vf τ3 ⟨s3, wf⟩
  have l3 := m3 τ3 s3
  simp -implicitDefEqProofs (disch := omega) only [List.any_cons, List.any_nil, Nat.reduceEqDiff, List.map_cons, List.map_nil, Option.map_some, Option.map_none, List.nil_append, ↓reduceIte, vcu, ↓vcd, opK_some, l3, co24]
  refine (specFree_at τ3 s q u cs I O (hq.sub s3) hlc).mono ?_
  rintro vf2 τ4 ⟨s4, wf2⟩
  have hl5 := freeV_len5 s cs I O
  simp -implicitDefEqProofs (disch := omega) only [List.any_cons, List.any_nil, Nat.reduceEqDiff, List.map_cons, List.map_nil, Option.map_some, Option.map_none, List.nil_append, ↓reduceIte, vcu, ↓vcd, opK_some]
  refine (same_calls τ4 vf vf2 _ _ (wf.ints.sub s4) wf2.ints (by omega) (by omega)).mono ?_
  rintro r τ5 ⟨rfl, q5⟩
  subst q5
  rw [decide_eq_true (rfl : freeV s cs I O = freeV s cs I O)]
  have hs5 := s3.trans s4
  have l5 := m3 τ5 hs5
  have lO := mO τ5 hs5
  have lE := mE τ5 hs5
  have hq5 := hq.sub hs5
  replace wf := wf.sub s4
  have hlf := ownI_lenD wf
  have hLd := hD.lines
  have hA : Tris τ5 (.slice (some ⟨q, u, none⟩) cs.length 3) cs := .inr ⟨q, u, rfl, hq5⟩
  clear wf2 l2 l3 s4
  simp -implicitDefEqProofs (disch := omega) only [List.any_cons, List.any_nil, Nat.reduceEqDiff, List.map_cons, List.map_nil, Option.map_some, Option.map_none, List.nil_append, ↓reduceIte, vcu, ↓vcd, opK_some, Bool.not_true, l5, lO, lE, co24]
  refine (specCV_calls τ5 s.O s.E s.M _ cs hA hlc).mono ?_
  rintro r τ6 ⟨rfl, q6⟩
  subst q6
  by_cases hC : CV s cs
  case neg =>
    have dC : decide (CV ⟨s.O, s.E, s.M⟩ cs) = false := decide_eq_false hC
    rw [dC]
    rw [freeV_no fun hh => hC hh.1] at hlf
    simp -implicitDefEqProofs (disch := omega) only [List.any_cons, List.any_nil, Nat.reduceEqDiff, List.map_cons, List.map_nil, Option.map_some, Option.map_none, List.nil_append, ↓reduceIte, vcu, ↓vcd, opK_some, Bool.not_true, hlf, List.length_nil, Int.natCast_zero, Bool.not_false]
    refine (alive_at _).mono ?_
    rintro r _ ⟨rfl, rfl⟩
    simp -implicitDefEqProofs (disch := omega) only [List.any_cons, List.any_nil, Nat.reduceEqDiff, List.map_cons, List.map_nil, Option.map_some, Option.map_none, List.nil_append, ↓reduceIte, vcu, ↓vcd, opK_some]
    refine fin_one Try.results5 ?_
    simp -implicitDefEqProofs (disch := omega) only [List.any_cons, List.any_nil, Nat.reduceEqDiff, List.map_cons, List.map_nil, Option.map_some, Option.map_none, List.nil_append, ↓reduceIte, vcu, ↓vcd]
  have dC : decide (CV ⟨s.O, s.E, s.M⟩ cs) = true := decide_eq_true hC
  rw [dC]
  by_cases hO0 : O < 0
  · rw [freeV_no fun hh => by have := hh.2.1.2.1; omega] at hlf
    simp -implicitDefEqProofs (disch := omega) only [List.any_cons, List.any_nil, Nat.reduceEqDiff, List.map_cons, List.map_nil, Option.map_some, Option.map_none, List.nil_append, ↓reduceIte, vcu, ↓vcd, opK_some, Bool.not_true, hlf, List.length_nil, Int.natCast_zero]
    refine (alive_at _).mono ?_
    rintro r _ ⟨rfl, rfl⟩
    simp -implicitDefEqProofs (disch := omega) only [List.any_cons, List.any_nil, Nat.reduceEqDiff, List.map_cons, List.map_nil, Option.map_some, Option.map_none, List.nil_append, ↓reduceIte, vcu, ↓vcd, opK_some]
    refine fin_one Try.results5 ?_
    simp -implicitDefEqProofs (disch := omega) only [List.any_cons, List.any_nil, Nat.reduceEqDiff, List.map_cons, List.map_nil, Option.map_some, Option.map_none, List.nil_append, ↓reduceIte, vcu, ↓vcd]
  by_cases hI1 : s.O * s.E ≤ I
  · rw [freeV_no fun hh => by have := hh.2.1.1.2; omega] at hlf
    simp -implicitDefEqProofs (disch := omega) only [List.any_cons, List.any_nil, Nat.reduceEqDiff, List.map_cons, List.map_nil, Option.map_some, Option.map_none, List.nil_append, ↓reduceIte, vcu, ↓vcd, opK_some, Bool.not_true, hlf, List.length_nil, Int.natCast_zero]
    refine (alive_at _).mono ?_
    rintro r _ ⟨rfl, rfl⟩
    simp -implicitDefEqProofs (disch := omega) only [List.any_cons, List.any_nil, Nat.reduceEqDiff, List.map_cons, List.map_nil, Option.map_some, Option.map_none, List.nil_append, ↓reduceIte, vcu, ↓vcd, opK_some]
    refine fin_one Try.results5 ?_
    simp -implicitDefEqProofs (disch := omega) only [List.any_cons, List.any_nil, Nat.reduceEqDiff, List.map_cons, List.map_nil, Option.map_some, Option.map_none, List.nil_append, ↓reduceIte, vcu, ↓vcd]
  by_cases hO1 : s.O * s.E ≤ O
  · rw [freeV_no fun hh => by have := hh.2.1.2.2; omega] at hlf
    simp -implicitDefEqProofs (disch := omega) only [List.any_cons, List.any_nil, Nat.reduceEqDiff, List.map_cons, List.map_nil, Option.map_some, Option.map_none, List.nil_append, ↓reduceIte, vcu, ↓vcd, opK_some, Bool.not_true, hlf, List.length_nil, Int.natCast_zero]
    refine (alive_at _).mono ?_
    rintro r _ ⟨rfl, rfl⟩
    simp -implicitDefEqProofs (disch := omega) only [List.any_cons, List.any_nil, Nat.reduceEqDiff, List.map_cons, List.map_nil, Option.map_some, Option.map_none, List.nil_append, ↓reduceIte, vcu, ↓vcd, opK_some]
    refine fin_one Try.results5 ?_
    simp -implicitDefEqProofs (disch := omega) only [List.any_cons, List.any_nil, Nat.reduceEqDiff, List.map_cons, List.map_nil, Option.map_some, Option.map_none, List.nil_append, ↓reduceIte, vcu, ↓vcd]
  have hLi : Lines s I O := ⟨⟨hI.1, by omega⟩, by omega, by omega⟩
  simp -implicitDefEqProofs (disch := omega) only [List.any_cons, List.any_nil, Nat.reduceEqDiff, List.map_cons, List.map_nil, Option.map_some, Option.map_none, List.nil_append, ↓reduceIte, vcu, ↓vcd, opK_some, Bool.not_true]
  refine (busy_calls τ6 _ cs I O hA hlc).mono ?_
  rintro r τ7 ⟨rfl, q7⟩
  subst q7
  by_cases hB : Busy cs I O
  · rw [decide_eq_true hB]
    rw [freeV_no fun hh => hh.2.2 hB] at hlf
    simp -implicitDefEqProofs (disch := omega) only [List.any_cons, List.any_nil, Nat.reduceEqDiff, List.map_cons, List.map_nil, Option.map_some, Option.map_none, List.nil_append, ↓reduceIte, vcu, ↓vcd, opK_some, Bool.not_true, hlf, List.length_nil, Int.natCast_zero]
    refine (alive_at _).mono ?_
    rintro r _ ⟨rfl, rfl⟩
    simp -implicitDefEqProofs (disch := omega) only [List.any_cons, List.any_nil, Nat.reduceEqDiff, List.map_cons, List.map_nil, Option.map_some, Option.map_none, List.nil_append, ↓reduceIte, vcu, ↓vcd, opK_some]
    refine fin_one Try.results5 ?_
    simp -implicitDefEqProofs (disch := omega) only [List.any_cons, List.any_nil, Nat.reduceEqDiff, List.map_cons, List.map_nil, Option.map_some, Option.map_none, List.nil_append, ↓reduceIte, vcu, ↓vcd]
  rw [decide_eq_false hB]
  simp -implicitDefEqProofs (disch := omega) only [List.any_cons, List.any_nil, Nat.reduceEqDiff, List.map_cons, List.map_nil, Option.map_some, Option.map_none, List.nil_append, ↓reduceIte, vcu, ↓vcd, opK_some]
  refine acodeB_monoY (Q' := fun e a' τ' => e = .exit 0 ∧ Sub τ7 τ' ∧ a' 3 = .pointer (some ⟨c3, 0, none⟩) ∧ a' 7 = vf)
    (vc_loop_c mixed (by kernel_rfl) [3, 4, 5, 6, 7] (fun m a τ' => ∃ k : Nat, m + k = (freeV s cs I O).length ∧ a 9 = .int .i64 (k : Int) ∧ Sub τ7 τ') (freeV s cs I O).length ⟨0, by simp, rfl, Sub.refl _⟩ ?_) ?_
  · rintro m a τ hc ⟨k, hk, h9, hs7⟩
    simp -implicitDefEqProofs (disch := omega) only [List.any_cons, List.any_nil, Nat.reduceEqDiff, List.map_cons, List.map_nil, Option.map_some, Option.map_none, List.nil_append, ↓reduceIte, vcu, ↓vcd] at hc
    obtain ⟨h3, h4, h5, h6, h7, -⟩ := hc
    by_cases hlt : k < (freeV s cs I O).length
    case neg =>
      simp -implicitDefEqProofs (disch := omega) only [List.any_cons, List.any_nil, Nat.reduceEqDiff, List.map_cons, List.map_nil, Option.map_some, Option.map_none, List.nil_append, ↓reduceIte, vcu, ↓vcd, h3, h4, h5, h6, h7, h9, hlf]
      exact ⟨trivial, hs7, trivial, trivial⟩
    have hfree := gc_free hlt
    obtain ⟨gf, rfl, vfr, -⟩ := rowI_D (wf.sub hs7) (by omega)
    have lx := intsAt_own vfr k hlt
    have hs := hs5.trans hs7
    have l2 := m3 τ hs
    have hv := hq5.sub hs7
    have hll : (cs ++ [(⟨I, O, (freeV s cs I O).getD k 0⟩ : Cl)]).length = cs.length + 1 := by simp
    have hve2 := fun (τ' : AHeap) (g9 : Nat) (hh : τ' g9 = some ⟨tris (cs ++ [⟨I, O, (freeV s cs I O).getD k 0⟩]), false⟩) => implCV_at (w0 := w0) τ' s.O s.E s.M g9 0 (cs ++ [⟨I, O, (freeV s cs I O).getD k 0⟩]) (trisAt_own hh) (by rw [hll]; omega)
    have dF : decide (CV ⟨s.O, s.E, s.M⟩ (cs ++ [⟨I, O, (freeV s cs I O).getD k 0⟩])) = true := decide_eq_true hfree
    rw [hll] at hve2
    generalize (freeV s cs I O).getD k 0 = Y at *
    generalize (freeV s cs I O).length = lf at *
    simp -implicitDefEqProofs (disch := omega) only [List.any_cons, List.any_nil, Nat.reduceEqDiff, List.map_cons, List.map_nil, Option.map_some, Option.map_none, List.nil_append, ↓reduceIte, vcu, ↓vcd, h3, h4, h5, h6, h7, h9]
    refine acodeB_monoY (Q' := fun e a' τ8 => e = .normal ∧ (a' 3 = .pointer (some ⟨c3, 0, none⟩) ∧ a' 4 = .slice (some ⟨q, u, none⟩) cs.length 3 ∧ a' 5 = .int .i64 I ∧ a' 6 = .int .i64 O ∧ a' 7 = .slice (some ⟨gf, 0, none⟩) lf 1 ∧ a' 9 = .int .i64 (k : Int) ∧ a' 92 = .bool false) ∧ Sub τ τ8)
      (region_tree mixed (quiets [0, 2, 4, 5, 6, 7, 8, 9, 10] (.two 1 (.two 3 (.one 11 (.one 12 (.one 13 (.one 14 .stop)))) 11 (.one 3 (.one 12 (.one 13 (.one 14 .stop))))) 11 (.one 1 (.one 3 (.one 12 (.one 13 (.one 14 .stop))))))) [([0, 2, 4, 5, 6, 7, 8, 9, 10], Sub τ)] (by kernel_rfl) (by kernel_rfl) (fun p hp => by simp only [List.mem_singleton] at hp; subst hp; exact Sub.refl _) ?_) ?_
    · refine tree_quiets τ _ _ _ sf1 (by kernel_rfl) (by kernel_rfl) ?_
      simp -implicitDefEqProofs (disch := omega) only [List.any_cons, List.any_nil, Nat.reduceEqDiff, List.map_cons, List.map_nil, Option.map_some, Option.map_none, List.nil_append, ↓reduceIte, vcu, ↓vcd, pickOps_nil, pickOps_cons, pickO_some, List.getElem?_cons_succ, List.getElem?_cons_zero, h3, h4, h5, h6, h7, h9, l2, lx, co24, Int.toNat_natCast, Nat.mul_one]
      rw [r_build]
      refine ⟨(_, #[.int .i64 I, .int .i64 O, .int .i64 Y]), ⟨ze34, by simp -implicitDefEqProofs (disch := omega) only [List.any_cons, List.any_nil, Nat.reduceEqDiff, List.map_cons, List.map_nil, Option.map_some, Option.map_none, List.nil_append, ↓reduceIte, vcu, ↓vcd, h5, h6]; kernel_rfl⟩, ?_⟩
      simp -implicitDefEqProofs (disch := omega) only [List.any_cons, List.any_nil, Nat.reduceEqDiff, List.map_cons, List.map_nil, Option.map_some, Option.map_none, List.nil_append, ↓reduceIte, vcu, ↓vcd, pickOps_nil, pickOps_cons, pickO_some, List.getElem?_cons_succ, List.getElem?_cons_zero]
      refine tree_two rfl rfl ?_ ?_
      · refine r_lit el29 (out := #[]) (by kernel_rfl) (by kernel_rfl) fun ea τ3 n3 s3 v3 => ?_
        simp -implicitDefEqProofs (disch := omega) only [List.any_cons, List.any_nil, Nat.reduceEqDiff, List.map_cons, List.map_nil, Option.map_some, Option.map_none, List.nil_append, ↓reduceIte, vcu, ↓vcd]
        refine ⟨keep_of rfl (fun p hp => by simp only [List.mem_singleton] at hp; subst hp; exact .inr s3), ?_⟩
        refine tree_two rfl rfl ?_ ?_
        · refine r_pushC (g := ea) (e := q) (o := u) (cs := []) (ds := cs) (m := cs.length) (len := 0) el29 (by omega) sl29 (by simp -implicitDefEqProofs (disch := omega) only [List.any_cons, List.any_nil, Nat.reduceEqDiff, List.map_cons, List.map_nil, Option.map_some, Option.map_none, List.nil_append, ↓reduceIte, vcu, ↓vcd]) v3 rfl (by simp -implicitDefEqProofs (disch := omega) only [List.any_cons, List.any_nil, Nat.reduceEqDiff, List.map_cons, List.map_nil, Option.map_some, Option.map_none, List.nil_append, ↓reduceIte, vcu, ↓vcd]) (hv.sub s3) rfl (by omega) fun gb τ4 n4 k4 v4 => ?_
          rw [List.nil_append] at v4
          simp -implicitDefEqProofs (disch := omega) only [List.any_cons, List.any_nil, Nat.reduceEqDiff, List.map_cons, List.map_nil, Option.map_some, Option.map_none, List.nil_append, ↓reduceIte, vcu, ↓vcd]
          have s4 : Sub τ τ4 := k4.sub s3 n3
          refine ⟨keep_of rfl (fun p hp => by simp only [List.mem_singleton] at hp; subst hp; exact .inr s4), tree_one rfl ?_⟩
          refine r_lit el29 (out := #[.int .i64 I, .int .i64 O, .int .i64 Y]) (by first | kernel_rfl | (simp -implicitDefEqProofs (disch := omega) only [List.any_cons, List.any_nil, Nat.reduceEqDiff, List.map_cons, List.map_nil, Option.map_some, Option.map_none, List.nil_append, ↓reduceIte, vcu, ↓vcd]; kernel_rfl)) (by rfl) fun eb τ5 n5 s5 v5 => ?_
          replace v5 : τ5 eb = some ⟨tris [⟨I, O, Y⟩], false⟩ := v5
          simp -implicitDefEqProofs (disch := omega) only [List.any_cons, List.any_nil, Nat.reduceEqDiff, List.map_cons, List.map_nil, Option.map_some, Option.map_none, List.nil_append, ↓reduceIte, vcu, ↓vcd]
          have s5' := s4.trans s5
          refine ⟨keep_of rfl (fun p hp => by simp only [List.mem_singleton] at hp; subst hp; exact .inr s5'), tree_one rfl ?_⟩
          refine r_pushC (g := gb) (e := eb) (o := 0) (cs := cs) (ds := [⟨I, O, Y⟩]) (m := 1) (len := cs.length) el29 (by omega) sl29 (by simp -implicitDefEqProofs (disch := omega) only [List.any_cons, List.any_nil, Nat.reduceEqDiff, List.map_cons, List.map_nil, Option.map_some, Option.map_none, List.nil_append, ↓reduceIte, vcu, ↓vcd, Nat.zero_add]) (s5 _ _ v4) rfl (by simp -implicitDefEqProofs (disch := omega) only [List.any_cons, List.any_nil, Nat.reduceEqDiff, List.map_cons, List.map_nil, Option.map_some, Option.map_none, List.nil_append, ↓reduceIte, vcu, ↓vcd]) (trisAt_own v5) rfl (by omega) fun gc9 τ9 n9 k9 v9 => ?_
          have s9 : Sub τ τ9 := fun z ob e => k9.at (s5' _ _ e) (ne_of' (free_sub s3 n4) e)
          have l9 := m3 τ9 (hs.trans s9)
          simp -implicitDefEqProofs (disch := omega) only [List.any_cons, List.any_nil, Nat.reduceEqDiff, List.map_cons, List.map_nil, Option.map_some, Option.map_none, List.nil_append, ↓reduceIte, vcu, ↓vcd]
          refine ⟨keep_of rfl (fun p hp => by simp only [List.mem_singleton] at hp; subst hp; exact .inr s9), tree_one rfl ?_⟩
          simp -implicitDefEqProofs (disch := omega) only [List.any_cons, List.any_nil, Nat.reduceEqDiff, List.map_cons, List.map_nil, Option.map_some, Option.map_none, List.nil_append, ↓reduceIte, vcu, ↓vcd, l9, co24]
          refine (hve2 τ9 gc9 v9).mono ?_
          rintro r τ10 ⟨rfl, e10⟩
          subst e10
          rw [dF]
          simp -implicitDefEqProofs (disch := omega) only [List.any_cons, List.any_nil, Nat.reduceEqDiff, List.map_cons, List.map_nil, Option.map_some, Option.map_none, List.nil_append, ↓reduceIte, vcu, ↓vcd, opK_some]
          refine ⟨keep_of rfl (fun p hp => by simp only [List.mem_singleton] at hp; subst hp; exact .inr s9), tree_one rfl ?_⟩
          simp -implicitDefEqProofs (disch := omega) only [List.any_cons, List.any_nil, Nat.reduceEqDiff, List.map_cons, List.map_nil, Option.map_some, Option.map_none, List.nil_append, ↓reduceIte, vcu, ↓vcd, Bool.not_true]
          refine ⟨.inl rfl, tree_stop ?_⟩
          refine ⟨trivial, ⟨?_, ?_, ?_, ?_, ?_, ?_, ?_⟩, s9⟩
          · simp -implicitDefEqProofs (disch := omega) only [List.any_cons, List.any_nil, Nat.reduceEqDiff, List.map_cons, List.map_nil, Option.map_some, Option.map_none, List.nil_append, ↓reduceIte, vcu, ↓vcd, h3]
          · simp -implicitDefEqProofs (disch := omega) only [List.any_cons, List.any_nil, Nat.reduceEqDiff, List.map_cons, List.map_nil, Option.map_some, Option.map_none, List.nil_append, ↓reduceIte, vcu, ↓vcd, h4]
          · simp -implicitDefEqProofs (disch := omega) only [List.any_cons, List.any_nil, Nat.reduceEqDiff, List.map_cons, List.map_nil, Option.map_some, Option.map_none, List.nil_append, ↓reduceIte, vcu, ↓vcd, h5]
          · simp -implicitDefEqProofs (disch := omega) only [List.any_cons, List.any_nil, Nat.reduceEqDiff, List.map_cons, List.map_nil, Option.map_some, Option.map_none, List.nil_append, ↓reduceIte, vcu, ↓vcd, h6]
          · simp -implicitDefEqProofs (disch := omega) only [List.any_cons, List.any_nil, Nat.reduceEqDiff, List.map_cons, List.map_nil, Option.map_some, Option.map_none, List.nil_append, ↓reduceIte, vcu, ↓vcd, h7]
          · simp -implicitDefEqProofs (disch := omega) only [List.any_cons, List.any_nil, Nat.reduceEqDiff, List.map_cons, List.map_nil, Option.map_some, Option.map_none, List.nil_append, ↓reduceIte, vcu, ↓vcd, h9]
          · simp -implicitDefEqProofs (disch := omega) only [List.any_cons, List.any_nil, Nat.reduceEqDiff, List.map_cons, List.map_nil, Option.map_some, Option.map_none, List.nil_append, ↓reduceIte, vcu, ↓vcd]
        · refine r_lit el29 (out := #[.int .i64 I, .int .i64 O, .int .i64 Y]) (by first | kernel_rfl | (simp -implicitDefEqProofs (disch := omega) only [List.any_cons, List.any_nil, Nat.reduceEqDiff, List.map_cons, List.map_nil, Option.map_some, Option.map_none, List.nil_append, ↓reduceIte, vcu, ↓vcd]; kernel_rfl)) (by rfl) fun eb τ4 n4 s4 v4 => ?_
          replace v4 : τ4 eb = some ⟨tris [⟨I, O, Y⟩], false⟩ := v4
          simp -implicitDefEqProofs (disch := omega) only [List.any_cons, List.any_nil, Nat.reduceEqDiff, List.map_cons, List.map_nil, Option.map_some, Option.map_none, List.nil_append, ↓reduceIte, vcu, ↓vcd]
          have s4' := s3.trans s4
          refine ⟨keep_of rfl (fun p hp => by simp only [List.mem_singleton] at hp; subst hp; exact .inr s4'), tree_one rfl ?_⟩
          refine r_pushC (g := ea) (e := q) (o := u) (cs := []) (ds := cs) (m := cs.length) (len := 0) el29 (by omega) sl29 (by simp -implicitDefEqProofs (disch := omega) only [List.any_cons, List.any_nil, Nat.reduceEqDiff, List.map_cons, List.map_nil, Option.map_some, Option.map_none, List.nil_append, ↓reduceIte, vcu, ↓vcd]) (s4 _ _ v3) rfl (by simp -implicitDefEqProofs (disch := omega) only [List.any_cons, List.any_nil, Nat.reduceEqDiff, List.map_cons, List.map_nil, Option.map_some, Option.map_none, List.nil_append, ↓reduceIte, vcu, ↓vcd]) (hv.sub s4') rfl (by omega) fun gb τ5 n5 k5 v5 => ?_
          rw [List.nil_append] at v5
          simp -implicitDefEqProofs (disch := omega) only [List.any_cons, List.any_nil, Nat.reduceEqDiff, List.map_cons, List.map_nil, Option.map_some, Option.map_none, List.nil_append, ↓reduceIte, vcu, ↓vcd]
          have s5' : Sub τ τ5 := k5.sub s4' n3
          refine ⟨keep_of rfl (fun p hp => by simp only [List.mem_singleton] at hp; subst hp; exact .inr s5'), tree_one rfl ?_⟩
          have v4' := k5.at v4 (ne_of n4 v3)
          refine r_pushC (g := gb) (e := eb) (o := 0) (cs := cs) (ds := [⟨I, O, Y⟩]) (m := 1) (len := cs.length) el29 (by omega) sl29 (by simp -implicitDefEqProofs (disch := omega) only [List.any_cons, List.any_nil, Nat.reduceEqDiff, List.map_cons, List.map_nil, Option.map_some, Option.map_none, List.nil_append, ↓reduceIte, vcu, ↓vcd, Nat.zero_add]) v5 rfl (by simp -implicitDefEqProofs (disch := omega) only [List.any_cons, List.any_nil, Nat.reduceEqDiff, List.map_cons, List.map_nil, Option.map_some, Option.map_none, List.nil_append, ↓reduceIte, vcu, ↓vcd]) (trisAt_own v4') rfl (by omega) fun gc9 τ9 n9 k9 v9 => ?_
          have s9 : Sub τ τ9 := fun z ob e => k9.at (s5' _ _ e) (ne_of' (free_sub s4' n5) e)
          have l9 := m3 τ9 (hs.trans s9)
          simp -implicitDefEqProofs (disch := omega) only [List.any_cons, List.any_nil, Nat.reduceEqDiff, List.map_cons, List.map_nil, Option.map_some, Option.map_none, List.nil_append, ↓reduceIte, vcu, ↓vcd]
          refine ⟨keep_of rfl (fun p hp => by simp only [List.mem_singleton] at hp; subst hp; exact .inr s9), tree_one rfl ?_⟩
          simp -implicitDefEqProofs (disch := omega) only [List.any_cons, List.any_nil, Nat.reduceEqDiff, List.map_cons, List.map_nil, Option.map_some, Option.map_none, List.nil_append, ↓reduceIte, vcu, ↓vcd, l9, co24]
          refine (hve2 τ9 gc9 v9).mono ?_
          rintro r τ10 ⟨rfl, e10⟩
          subst e10
          rw [dF]
          simp -implicitDefEqProofs (disch := omega) only [List.any_cons, List.any_nil, Nat.reduceEqDiff, List.map_cons, List.map_nil, Option.map_some, Option.map_none, List.nil_append, ↓reduceIte, vcu, ↓vcd, opK_some]
          refine ⟨keep_of rfl (fun p hp => by simp only [List.mem_singleton] at hp; subst hp; exact .inr s9), tree_one rfl ?_⟩
          simp -implicitDefEqProofs (disch := omega) only [List.any_cons, List.any_nil, Nat.reduceEqDiff, List.map_cons, List.map_nil, Option.map_some, Option.map_none, List.nil_append, ↓reduceIte, vcu, ↓vcd, Bool.not_true]
          refine ⟨.inl rfl, tree_stop ?_⟩
          refine ⟨trivial, ⟨?_, ?_, ?_, ?_, ?_, ?_, ?_⟩, s9⟩
          · simp -implicitDefEqProofs (disch := omega) only [List.any_cons, List.any_nil, Nat.reduceEqDiff, List.map_cons, List.map_nil, Option.map_some, Option.map_none, List.nil_append, ↓reduceIte, vcu, ↓vcd, h3]
          · simp -implicitDefEqProofs (disch := omega) only [List.any_cons, List.any_nil, Nat.reduceEqDiff, List.map_cons, List.map_nil, Option.map_some, Option.map_none, List.nil_append, ↓reduceIte, vcu, ↓vcd, h4]
          · simp -implicitDefEqProofs (disch := omega) only [List.any_cons, List.any_nil, Nat.reduceEqDiff, List.map_cons, List.map_nil, Option.map_some, Option.map_none, List.nil_append, ↓reduceIte, vcu, ↓vcd, h5]
          · simp -implicitDefEqProofs (disch := omega) only [List.any_cons, List.any_nil, Nat.reduceEqDiff, List.map_cons, List.map_nil, Option.map_some, Option.map_none, List.nil_append, ↓reduceIte, vcu, ↓vcd, h6]
          · simp -implicitDefEqProofs (disch := omega) only [List.any_cons, List.any_nil, Nat.reduceEqDiff, List.map_cons, List.map_nil, Option.map_some, Option.map_none, List.nil_append, ↓reduceIte, vcu, ↓vcd, h7]
          · simp -implicitDefEqProofs (disch := omega) only [List.any_cons, List.any_nil, Nat.reduceEqDiff, List.map_cons, List.map_nil, Option.map_some, Option.map_none, List.nil_append, ↓reduceIte, vcu, ↓vcd, h9]
          · simp -implicitDefEqProofs (disch := omega) only [List.any_cons, List.any_nil, Nat.reduceEqDiff, List.map_cons, List.map_nil, Option.map_some, Option.map_none, List.nil_append, ↓reduceIte, vcu, ↓vcd]
      · refine r_lit el29 (out := #[.int .i64 I, .int .i64 O, .int .i64 Y]) (by first | kernel_rfl | (simp -implicitDefEqProofs (disch := omega) only [List.any_cons, List.any_nil, Nat.reduceEqDiff, List.map_cons, List.map_nil, Option.map_some, Option.map_none, List.nil_append, ↓reduceIte, vcu, ↓vcd]; kernel_rfl)) (by rfl) fun eb τ3 n3 s3 v3 => ?_
        replace v3 : τ3 eb = some ⟨tris [⟨I, O, Y⟩], false⟩ := v3
        simp -implicitDefEqProofs (disch := omega) only [List.any_cons, List.any_nil, Nat.reduceEqDiff, List.map_cons, List.map_nil, Option.map_some, Option.map_none, List.nil_append, ↓reduceIte, vcu, ↓vcd]
        refine ⟨keep_of rfl (fun p hp => by simp only [List.mem_singleton] at hp; subst hp; exact .inr s3), tree_one rfl ?_⟩
        refine r_lit el29 (out := #[]) (by kernel_rfl) (by kernel_rfl) fun ea τ4 n4 s4 v4 => ?_
        simp -implicitDefEqProofs (disch := omega) only [List.any_cons, List.any_nil, Nat.reduceEqDiff, List.map_cons, List.map_nil, Option.map_some, Option.map_none, List.nil_append, ↓reduceIte, vcu, ↓vcd]
        have s4' := s3.trans s4
        refine ⟨keep_of rfl (fun p hp => by simp only [List.mem_singleton] at hp; subst hp; exact .inr s4'), tree_one rfl ?_⟩
        refine r_pushC (g := ea) (e := q) (o := u) (cs := []) (ds := cs) (m := cs.length) (len := 0) el29 (by omega) sl29 (by simp -implicitDefEqProofs (disch := omega) only [List.any_cons, List.any_nil, Nat.reduceEqDiff, List.map_cons, List.map_nil, Option.map_some, Option.map_none, List.nil_append, ↓reduceIte, vcu, ↓vcd]) v4 rfl (by simp -implicitDefEqProofs (disch := omega) only [List.any_cons, List.any_nil, Nat.reduceEqDiff, List.map_cons, List.map_nil, Option.map_some, Option.map_none, List.nil_append, ↓reduceIte, vcu, ↓vcd]) (hv.sub s4') rfl (by omega) fun gb τ5 n5 k5 v5 => ?_
        rw [List.nil_append] at v5
        simp -implicitDefEqProofs (disch := omega) only [List.any_cons, List.any_nil, Nat.reduceEqDiff, List.map_cons, List.map_nil, Option.map_some, Option.map_none, List.nil_append, ↓reduceIte, vcu, ↓vcd]
        have s5' : Sub τ τ5 := k5.sub s4' (free_sub s3 n4)
        refine ⟨keep_of rfl (fun p hp => by simp only [List.mem_singleton] at hp; subst hp; exact .inr s5'), tree_one rfl ?_⟩
        have v3' := k5.at (s4 _ _ v3) (ne_of' n4 v3)
        refine r_pushC (g := gb) (e := eb) (o := 0) (cs := cs) (ds := [⟨I, O, Y⟩]) (m := 1) (len := cs.length) el29 (by omega) sl29 (by simp -implicitDefEqProofs (disch := omega) only [List.any_cons, List.any_nil, Nat.reduceEqDiff, List.map_cons, List.map_nil, Option.map_some, Option.map_none, List.nil_append, ↓reduceIte, vcu, ↓vcd, Nat.zero_add]) v5 rfl (by simp -implicitDefEqProofs (disch := omega) only [List.any_cons, List.any_nil, Nat.reduceEqDiff, List.map_cons, List.map_nil, Option.map_some, Option.map_none, List.nil_append, ↓reduceIte, vcu, ↓vcd]) (trisAt_own v3') rfl (by omega) fun gc9 τ9 n9 k9 v9 => ?_
        have s9 : Sub τ τ9 := fun z ob e => k9.at (s5' _ _ e) (ne_of' (free_sub s4' n5) e)
        have l9 := m3 τ9 (hs.trans s9)
        simp -implicitDefEqProofs (disch := omega) only [List.any_cons, List.any_nil, Nat.reduceEqDiff, List.map_cons, List.map_nil, Option.map_some, Option.map_none, List.nil_append, ↓reduceIte, vcu, ↓vcd]
        refine ⟨keep_of rfl (fun p hp => by simp only [List.mem_singleton] at hp; subst hp; exact .inr s9), tree_one rfl ?_⟩
        simp -implicitDefEqProofs (disch := omega) only [List.any_cons, List.any_nil, Nat.reduceEqDiff, List.map_cons, List.map_nil, Option.map_some, Option.map_none, List.nil_append, ↓reduceIte, vcu, ↓vcd, l9, co24]
        refine (hve2 τ9 gc9 v9).mono ?_
        rintro r τ10 ⟨rfl, e10⟩
        subst e10
        rw [dF]
        simp -implicitDefEqProofs (disch := omega) only [List.any_cons, List.any_nil, Nat.reduceEqDiff, List.map_cons, List.map_nil, Option.map_some, Option.map_none, List.nil_append, ↓reduceIte, vcu, ↓vcd, opK_some]
        refine ⟨keep_of rfl (fun p hp => by simp only [List.mem_singleton] at hp; subst hp; exact .inr s9), tree_one rfl ?_⟩
        simp -implicitDefEqProofs (disch := omega) only [List.any_cons, List.any_nil, Nat.reduceEqDiff, List.map_cons, List.map_nil, Option.map_some, Option.map_none, List.nil_append, ↓reduceIte, vcu, ↓vcd, Bool.not_true]
        refine ⟨.inl rfl, tree_stop ?_⟩
        refine ⟨trivial, ⟨?_, ?_, ?_, ?_, ?_, ?_, ?_⟩, s9⟩
        · simp -implicitDefEqProofs (disch := omega) only [List.any_cons, List.any_nil, Nat.reduceEqDiff, List.map_cons, List.map_nil, Option.map_some, Option.map_none, List.nil_append, ↓reduceIte, vcu, ↓vcd, h3]
        · simp -implicitDefEqProofs (disch := omega) only [List.any_cons, List.any_nil, Nat.reduceEqDiff, List.map_cons, List.map_nil, Option.map_some, Option.map_none, List.nil_append, ↓reduceIte, vcu, ↓vcd, h4]
        · simp -implicitDefEqProofs (disch := omega) only [List.any_cons, List.any_nil, Nat.reduceEqDiff, List.map_cons, List.map_nil, Option.map_some, Option.map_none, List.nil_append, ↓reduceIte, vcu, ↓vcd, h5]
        · simp -implicitDefEqProofs (disch := omega) only [List.any_cons, List.any_nil, Nat.reduceEqDiff, List.map_cons, List.map_nil, Option.map_some, Option.map_none, List.nil_append, ↓reduceIte, vcu, ↓vcd, h6]
        · simp -implicitDefEqProofs (disch := omega) only [List.any_cons, List.any_nil, Nat.reduceEqDiff, List.map_cons, List.map_nil, Option.map_some, Option.map_none, List.nil_append, ↓reduceIte, vcu, ↓vcd, h7]
        · simp -implicitDefEqProofs (disch := omega) only [List.any_cons, List.any_nil, Nat.reduceEqDiff, List.map_cons, List.map_nil, Option.map_some, Option.map_none, List.nil_append, ↓reduceIte, vcu, ↓vcd, h9]
        · simp -implicitDefEqProofs (disch := omega) only [List.any_cons, List.any_nil, Nat.reduceEqDiff, List.map_cons, List.map_nil, Option.map_some, Option.map_none, List.nil_append, ↓reduceIte, vcu, ↓vcd]
    rintro _ a' τ8 ⟨rfl, ⟨f3, f4, f5, f6, f7, f9, f92⟩, s8⟩
    simp -implicitDefEqProofs (disch := omega) only [List.any_cons, List.any_nil, Nat.reduceEqDiff, List.map_cons, List.map_nil, Option.map_some, Option.map_none, List.nil_append, ↓reduceIte, vcu, ↓vcd, f3, f4, f5, f6, f7, f9, f92]
    exact ⟨⟨trivial, trivial, trivial, trivial, trivial, trivial⟩, m - 1, by omega, k + 1, by omega, by simp, hs7.trans s8⟩
  rintro _ a τ ⟨rfl, hs7, h3, h7⟩
  have l8 := m3 τ (hs5.trans hs7)
  have wf8 := wf.sub hs7
  simp -implicitDefEqProofs (disch := omega) only [List.any_cons, List.any_nil, Nat.reduceEqDiff, List.map_cons, List.map_nil, Option.map_some, Option.map_none, List.nil_append, ↓reduceIte, vcu, ↓vcd, h3, h7, l8, co24]
  refine (implStrict_at τ s.O s.E s.M).mono ?_
  rintro r τ9 ⟨rfl, q9⟩
  subst q9
  have hasc := freeV_asc s cs I O
  by_cases hSt : Strict s
  case neg =>
    have dS : decide (Strict ⟨s.O, s.E, s.M⟩) = false := decide_eq_false hSt
    rw [dS]
    simp -implicitDefEqProofs (disch := omega) only [List.any_cons, List.any_nil, Nat.reduceEqDiff, List.map_cons, List.map_nil, Option.map_some, Option.map_none, List.nil_append, ↓reduceIte, vcu, ↓vcd, opK_some, Bool.not_false, h7]
    refine (ascend_calls τ9 vf _ wf8.ints (by omega) hasc).mono ?_
    rintro r _ ⟨rfl, rfl⟩
    simp -implicitDefEqProofs (disch := omega) only [List.any_cons, List.any_nil, Nat.reduceEqDiff, List.map_cons, List.map_nil, Option.map_some, Option.map_none, List.nil_append, ↓reduceIte, vcu, ↓vcd, opK_some]
    refine fin_one Try.results5 ?_
    simp -implicitDefEqProofs (disch := omega) only [List.any_cons, List.any_nil, Nat.reduceEqDiff, List.map_cons, List.map_nil, Option.map_some, Option.map_none, List.nil_append, ↓reduceIte, vcu, ↓vcd]
  have dS : decide (Strict ⟨s.O, s.E, s.M⟩) = true := decide_eq_true hSt
  have hne := strict_free hSt hC hLi hB
  have hpos : (0 : Int) < ((freeV s cs I O).length : Int) := by
    cases hf : freeV s cs I O with
    | nil => exact absurd hf hne
    | cons v vs => simp
  rw [dS]
  simp -implicitDefEqProofs (disch := omega) only [List.any_cons, List.any_nil, Nat.reduceEqDiff, List.map_cons, List.map_nil, Option.map_some, Option.map_none, List.nil_append, ↓reduceIte, vcu, ↓vcd, opK_some, Bool.not_true, h7, hlf]
  refine (ascend_calls τ9 vf _ wf8.ints (by omega) hasc).mono ?_
  rintro r _ ⟨rfl, rfl⟩
  simp -implicitDefEqProofs (disch := omega) only [List.any_cons, List.any_nil, Nat.reduceEqDiff, List.map_cons, List.map_nil, Option.map_some, Option.map_none, List.nil_append, ↓reduceIte, vcu, ↓vcd, opK_some]
  refine fin_one Try.results5 ?_
  simp -implicitDefEqProofs (disch := omega) only [List.any_cons, List.any_nil, Nat.reduceEqDiff, List.map_cons, List.map_nil, Option.map_some, Option.map_none, List.nil_append, ↓reduceIte, vcu, ↓vcd]

open Go.ChangeShapes Go.WideShapes Go.ChangeAt Go.RowKit

set_option maxRecDepth 100000 in
theorem lifted5 (os : Os) (started : os.Started) (H : Type) (enc : TypeId × Value → H) :
    ReturnsInHanded {} Try.checked os 5 .any (Rows.fnMiddleFreeSpec.pre6 enc Try.prog Try.f5 Rows.fnMiddleFreeRow.domain false) (Rows.fnMiddleFreeSpec.post enc Try.prog Try.f5 false true false false) := by
  refine returnsInHanded_of_change (C := Try.checked) own started (by kernel_rfl) Try.func5
    (ChangeSpec.witness6 (enc := enc) (C := Try.checked) false ⟨#[], #[.slice none 0 0], []⟩ 8 (by kernel_rfl) (by kernel_rfl) (by kernel_rfl) (by kernel_rfl)) ?_
  intro W base args ds gs before hval hW _ _
  have hW' := hW
  obtain ⟨p, q, hA, hV, -, -, -⟩ := hW'
  rw [Try.params5] at hA hval
  obtain ⟨v0, vs0, d0, ds0, p0, q0, hargs, rfl, rfl, h0, r0⟩ := trodAll_cons hA
  obtain ⟨rfl, rfl, rfl⟩ := trodAll_nil r0
  obtain ⟨rfl, rfl⟩ := trodVars_none hV
  obtain rfl : args = #[v0] := by cases args; simp_all
  obtain ⟨β0, σ0, a0, zs0, L0, U0, S0, R0, I0, w0, m0⟩ := start_ints Try.underlying22 Try.underlying5 co5 (Start.start W) (hval 0 22 v0 rfl rfl) h0
  refine ((law5 σ0 a0 zs0 (I0) m0 w0).2 noProt β0 W [v0] S0.rel (.cons R0 (.nil _))).mono fun e W' h => ?_
  obtain ⟨β', r, r', σ', -, rfl, hr, hrel, rfl⟩ := h
  cases hr
  exact ⟨_, rfl, law_post laidOut hW rfl rfl (by rw [Try.params5]; intro t ht; simp only [List.mem_cons, List.not_mem_nil, or_false, or_self] at ht; rcases ht with rfl <;> exact ⟨by kernel_rfl, of_decide_eq_true (by kernel_rfl)⟩) rfl Try.underlying4 hrel.below⟩

theorem facts5 : joinedFacts Try.prog 5 Try.f5 Rows.fnMiddleFreeSpec Rows.fnMiddleFreeRow = true := by
  unfold joinedFacts
  rw [mayE, liftsE, makeE]
  kernel_rfl

theorem proved5 : Rows.FnMiddleFreeSaid :=
  OpenClaim.holds_of_wide 5 Try.f5 rfl rfl rfl rfl rfl rfl rfl ⟨rfl, rfl, rfl, rfl, rfl⟩ rfl rfl rfl rfl rfl (by kernel_rfl) Try.func5 facts5 (of_decide_eq_true (by kernel_rfl))
    (by unfold Func.isWrapper; first | (rw [if_pos (by decide +kernel)]; kernel_rfl) | (rw [if_neg (by decide +kernel)]; exact ⟨rfl, rfl⟩))
    (fun os started H enc _ => lifted5 os started H enc)


end Go.Proofs.Ytphacjkogompoaa
