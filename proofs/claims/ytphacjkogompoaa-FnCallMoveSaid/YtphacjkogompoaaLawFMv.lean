/- FnCallMove answers true for every code. -/
import Derived.Test.YtphacjkogompoaaDk
set_option linter.unusedSimpArgs false
set_option linter.unusedVariables false
namespace Go.Proofs.Ytphacjkogompoaa
open Go Go.Abs Go.RowKit Go.Clos
variable {w0 : World}

set_option maxRecDepth 8000 in
set_option maxHeartbeats 1600000 in
theorem law10 (σ : AHeap) (v : Value) (bs : List Int) (hv : Ints .u8 σ v bs) (hm : bs.length ≤ maxLen) (hw : ∀ z ∈ bs, (Lit.int .u8 z).wf = true) :
    ACall Try.prog w0 10 [v] σ fun r _ => r = .bool true := by
  unfold maxLen at hm
  refine ACall.ints_arg (pre := []) (by kernel_rfl) hv fun σ1 h o hs hg => ?_
  clear hv hs σ v
  have hb := bytes_of hw
  refine acall_go mixed Try.func10 rfl good10 fun pr => ?_
  by_cases hbig : 1048576 < bs.length
  · simp -implicitDefEqProofs (disch := omega) only [List.any_cons, List.any_nil, Nat.reduceEqDiff, List.map_cons, List.map_nil, Option.map_some, Option.map_none, List.nil_append, ↓reduceIte, vcu, ↓vcd]
    refine fin_one Try.results10 ?_
    simp -implicitDefEqProofs (disch := omega) only [List.any_cons, List.any_nil, Nat.reduceEqDiff, List.map_cons, List.map_nil, Option.map_some, Option.map_none, List.nil_append, ↓reduceIte, vcu, ↓vcd]
  have hl : bs.length ≤ 1048576 := by omega
  simp -implicitDefEqProofs (disch := omega) only [List.any_cons, List.any_nil, Nat.reduceEqDiff, List.map_cons, List.map_nil, Option.map_some, Option.map_none, List.nil_append, ↓reduceIte, vcu, ↓vcd]
  refine (drawMv_row σ1 h o bs hg hl hb).mono ?_
  rintro _ τ ⟨s, q, u, cs, I, O, rfl, hD, hl14, hq, hs, hI, hO⟩
  simp -implicitDefEqProofs (disch := omega) only [List.any_cons, List.any_nil, Nat.reduceEqDiff, List.map_cons, List.map_nil, Option.map_some, Option.map_none, List.nil_append, ↓reduceIte, vcu, ↓vcd, opK_some, List.getElem?_toArray, List.getElem?_cons_zero, List.getElem?_cons_succ]
  refine r_new ze24 fun c3 τ2a n3 sa ea => ?_
  replace ea : τ2a c3 = some ⟨[.int .i64 0, .int .i64 0, .int .i64 0], false⟩ := ea
  refine r_sets (g := c3) (i := 0) (C := [.int .i64 0, .int .i64 0, .int .i64 0]) (by simp -implicitDefEqProofs (disch := omega) only [List.any_cons, List.any_nil, Nat.reduceEqDiff, List.map_cons, List.map_nil, Option.map_some, Option.map_none, List.nil_append, ↓reduceIte, vcu, ↓vcd]) (by simp -implicitDefEqProofs (disch := omega) only [List.any_cons, List.any_nil, Nat.reduceEqDiff, List.map_cons, List.map_nil, Option.map_some, Option.map_none, List.nil_append, ↓reduceIte, vcu, ↓vcd, co24]; rfl) (by simp -implicitDefEqProofs (disch := omega) only [List.any_cons, List.any_nil, Nat.reduceEqDiff, List.map_cons, List.map_nil, Option.map_some, Option.map_none, List.nil_append, ↓reduceIte, vcu, ↓vcd]; rfl) (by simp -implicitDefEqProofs (disch := omega) only [List.any_cons, List.any_nil, Nat.reduceEqDiff, List.map_cons, List.map_nil, Option.map_some, Option.map_none, List.nil_append, ↓reduceIte, vcu, ↓vcd]; exact Nat.zero_lt_succ _) ea (by simp -implicitDefEqProofs (disch := omega) only [List.any_cons, List.any_nil, Nat.reduceEqDiff, List.map_cons, List.map_nil, Option.map_some, Option.map_none, List.nil_append, ↓reduceIte, vcu, ↓vcd]; exact Nat.le_refl _) fun τ2 k2 e3 => ?_
  replace e3 : τ2 c3 = some ⟨[.int .i64 s.O, .int .i64 s.E, .int .i64 s.M], false⟩ := e3
  have s3 := k2.sub sa n3
  replace hq := hq.sub s3
  have m3 : ∀ τ', Sub τ2 τ' → lds τ' c3 0 3 = some [.int .i64 s.O, .int .i64 s.E, .int .i64 s.M] := fun τ' hs => lds_three (ld_of (hs _ _ e3) rfl) (ld_of (hs _ _ e3) rfl) (ld_of (hs _ _ e3) rfl)
  have mO : ∀ τ', Sub τ2 τ' → ld τ' c3 (0 + 0) = some (.int .i64 s.O) := fun τ' hs => ld_of (hs _ _ e3) rfl
  have mE : ∀ τ', Sub τ2 τ' → ld τ' c3 (0 + 1) = some (.int .i64 s.E) := fun τ' hs => ld_of (hs _ _ e3) rfl
  have mM : ∀ τ', Sub τ2 τ' → ld τ' c3 (0 + 2) = some (.int .i64 s.M) := fun τ' hs => ld_of (hs _ _ e3) rfl
  clear hs ea sa k2 s3
  have hlc : cs.length ≤ 1048576 := by omega
  have l2 := m3 τ2 (Sub.refl _)
  have hzl : (mvL s cs I O).length ≤ 1048576 := by have := mvL_len (s := s) (cs := cs) (i := I) (o := O); omega
  simp -implicitDefEqProofs (disch := omega) only [List.any_cons, List.any_nil, Nat.reduceEqDiff, List.map_cons, List.map_nil, Option.map_some, Option.map_none, List.nil_append, ↓reduceIte, vcu, ↓vcd, l2, co24]
  refine (implMove_at τ2 s q u cs I O hq hlc).mono ?_
  rintro _ τ3 ⟨v, rfl, s3, w3⟩
  have l3 := m3 τ3 s3
  simp -implicitDefEqProofs (disch := omega) only [List.any_cons, List.any_nil, Nat.reduceEqDiff, List.map_cons, List.map_nil, Option.map_some, Option.map_none, List.nil_append, ↓reduceIte, vcu, ↓vcd, opK_some, List.getElem?_toArray, List.getElem?_cons_zero, List.getElem?_cons_succ, l3, co24]
  refine (specMove_at τ3 s q u cs I O (hq.sub s3) hlc).mono ?_
  rintro _ τ4 ⟨v4, rfl, s4, w4⟩
  simp -implicitDefEqProofs (disch := omega) only [List.any_cons, List.any_nil, Nat.reduceEqDiff, List.map_cons, List.map_nil, Option.map_some, Option.map_none, List.nil_append, ↓reduceIte, vcu, ↓vcd, opK_some, List.getElem?_toArray, List.getElem?_cons_zero, List.getElem?_cons_succ]
  refine (sameCl_calls τ4 v v4 _ _ (w3.tris.sub s4) w4.tris hzl hzl).mono ?_
  rintro r τ5 ⟨rfl, q5⟩
  subst q5
  rw [decide_eq_true (rfl : mvL s cs I O = mvL s cs I O)]
  have hs5 := s3.trans s4
  have l5 := m3 τ5 hs5
  have hq5 := hq.sub hs5
  replace w3 := w3.sub s4
  clear w4 l2 l3 s4
  have hlen := tris_lenK w3.tris
  have hA : Tris τ5 (.slice (some ⟨q, u, none⟩) cs.length 3) cs := .inr ⟨q, u, rfl, hq5⟩
  simp -implicitDefEqProofs (disch := omega) only [List.any_cons, List.any_nil, Nat.reduceEqDiff, List.map_cons, List.map_nil, Option.map_some, Option.map_none, List.nil_append, ↓reduceIte, vcu, ↓vcd, opK_some, Bool.not_true, beq_self_eq_true, l5, co24]
  refine (specCV_calls τ5 s.O s.E s.M _ cs hA hlc).mono ?_
  rintro r τ6 ⟨rfl, q6⟩
  subst q6
  by_cases hC : CV s cs
  case neg =>
    have dC : decide (CV ⟨s.O, s.E, s.M⟩ cs) = false := decide_eq_false hC
    rw [mvL_no fun hh => hC hh.1] at hlen
    rw [dC, decide_eq_false fun hh : mvOk s cs I O => hC hh.1.1]
    simp -implicitDefEqProofs (disch := omega) only [List.any_cons, List.any_nil, Nat.reduceEqDiff, List.map_cons, List.map_nil, Option.map_some, Option.map_none, List.nil_append, ↓reduceIte, vcu, ↓vcd, opK_some, Bool.not_false, hlen, List.length_nil, Int.natCast_zero]
    refine (alive_at _).mono ?_
    rintro r _ ⟨rfl, rfl⟩
    simp -implicitDefEqProofs (disch := omega) only [List.any_cons, List.any_nil, Nat.reduceEqDiff, List.map_cons, List.map_nil, Option.map_some, Option.map_none, List.nil_append, ↓reduceIte, vcu, ↓vcd, opK_some]
    refine fin_one Try.results10 ?_
    simp -implicitDefEqProofs (disch := omega) only [List.any_cons, List.any_nil, Nat.reduceEqDiff, List.map_cons, List.map_nil, Option.map_some, Option.map_none, List.nil_append, ↓reduceIte, vcu, ↓vcd]
  have dC : decide (CV ⟨s.O, s.E, s.M⟩ cs) = true := decide_eq_true hC
  rw [dC]
  simp -implicitDefEqProofs (disch := omega) only [List.any_cons, List.any_nil, Nat.reduceEqDiff, List.map_cons, List.map_nil, Option.map_some, Option.map_none, List.nil_append, ↓reduceIte, vcu, ↓vcd, opK_some, Bool.not_true, l5, co24]
  refine (specEnough_at τ6 s.O s.E s.M).mono ?_
  rintro r τ7 ⟨rfl, q7⟩
  subst q7
  by_cases hE : Enough s
  case neg =>
    have dE : decide (Enough ⟨s.O, s.E, s.M⟩) = false := decide_eq_false hE
    rw [mvL_no fun hh => hE hh.2] at hlen
    rw [dE, decide_eq_false fun hh : mvOk s cs I O => hE hh.1.2]
    simp -implicitDefEqProofs (disch := omega) only [List.any_cons, List.any_nil, Nat.reduceEqDiff, List.map_cons, List.map_nil, Option.map_some, Option.map_none, List.nil_append, ↓reduceIte, vcu, ↓vcd, opK_some, Bool.not_false, hlen, List.length_nil, Int.natCast_zero]
    refine (alive_at _).mono ?_
    rintro r _ ⟨rfl, rfl⟩
    simp -implicitDefEqProofs (disch := omega) only [List.any_cons, List.any_nil, Nat.reduceEqDiff, List.map_cons, List.map_nil, Option.map_some, Option.map_none, List.nil_append, ↓reduceIte, vcu, ↓vcd, opK_some]
    refine fin_one Try.results10 ?_
    simp -implicitDefEqProofs (disch := omega) only [List.any_cons, List.any_nil, Nat.reduceEqDiff, List.map_cons, List.map_nil, Option.map_some, Option.map_none, List.nil_append, ↓reduceIte, vcu, ↓vcd]
  have dE : decide (Enough ⟨s.O, s.E, s.M⟩) = true := decide_eq_true hE
  have hL := hC.1.lines
  have lO := mO τ7 hs5
  have lE := mE τ7 hs5
  rw [dE]
  by_cases hO0 : 0 ≤ O
  case neg =>
    have hno : ¬ mvOk s cs I O := fun hh => hO0 hh.2.1.2.1
    rw [mvL_same ⟨hC, hE⟩ hno] at w3
    rw [decide_eq_false hno]
    simp -implicitDefEqProofs (disch := omega) only [List.any_cons, List.any_nil, Nat.reduceEqDiff, List.map_cons, List.map_nil, Option.map_some, Option.map_none, List.nil_append, ↓reduceIte, vcu, ↓vcd, opK_some, lO, lE, beq_self_eq_true, Bool.not_true, Bool.not_false]
    refine (sameCl_calls τ7 v _ _ _ w3.tris (.inr ⟨q, u, rfl, hq5⟩) hlc hlc).mono ?_
    rintro r τ8 ⟨rfl, q8⟩
    subst q8
    rw [decide_eq_true (rfl : cs = cs)]
    simp -implicitDefEqProofs (disch := omega) only [List.any_cons, List.any_nil, Nat.reduceEqDiff, List.map_cons, List.map_nil, Option.map_some, Option.map_none, List.nil_append, ↓reduceIte, vcu, ↓vcd, opK_some]
    refine fin_one Try.results10 ?_
    simp -implicitDefEqProofs (disch := omega) only [List.any_cons, List.any_nil, Nat.reduceEqDiff, List.map_cons, List.map_nil, Option.map_some, Option.map_none, List.nil_append, ↓reduceIte, vcu, ↓vcd]
  by_cases hI1 : I < s.O * s.E
  case neg =>
    have hno : ¬ mvOk s cs I O := fun hh => hI1 (by have := hh.2.1.1.2; omega)
    rw [mvL_same ⟨hC, hE⟩ hno] at w3
    rw [decide_eq_false hno]
    simp -implicitDefEqProofs (disch := omega) only [List.any_cons, List.any_nil, Nat.reduceEqDiff, List.map_cons, List.map_nil, Option.map_some, Option.map_none, List.nil_append, ↓reduceIte, vcu, ↓vcd, opK_some, lO, lE, beq_self_eq_true, Bool.not_true, Bool.not_false]
    refine (sameCl_calls τ7 v _ _ _ w3.tris (.inr ⟨q, u, rfl, hq5⟩) hlc hlc).mono ?_
    rintro r τ8 ⟨rfl, q8⟩
    subst q8
    rw [decide_eq_true (rfl : cs = cs)]
    simp -implicitDefEqProofs (disch := omega) only [List.any_cons, List.any_nil, Nat.reduceEqDiff, List.map_cons, List.map_nil, Option.map_some, Option.map_none, List.nil_append, ↓reduceIte, vcu, ↓vcd, opK_some]
    refine fin_one Try.results10 ?_
    simp -implicitDefEqProofs (disch := omega) only [List.any_cons, List.any_nil, Nat.reduceEqDiff, List.map_cons, List.map_nil, Option.map_some, Option.map_none, List.nil_append, ↓reduceIte, vcu, ↓vcd]
  by_cases hO1 : O < s.O * s.E
  case neg =>
    have hno : ¬ mvOk s cs I O := fun hh => hO1 (by have := hh.2.1.2.2; omega)
    rw [mvL_same ⟨hC, hE⟩ hno] at w3
    rw [decide_eq_false hno]
    simp -implicitDefEqProofs (disch := omega) only [List.any_cons, List.any_nil, Nat.reduceEqDiff, List.map_cons, List.map_nil, Option.map_some, Option.map_none, List.nil_append, ↓reduceIte, vcu, ↓vcd, opK_some, lO, lE, beq_self_eq_true, Bool.not_true, Bool.not_false]
    refine (sameCl_calls τ7 v _ _ _ w3.tris (.inr ⟨q, u, rfl, hq5⟩) hlc hlc).mono ?_
    rintro r τ8 ⟨rfl, q8⟩
    subst q8
    rw [decide_eq_true (rfl : cs = cs)]
    simp -implicitDefEqProofs (disch := omega) only [List.any_cons, List.any_nil, Nat.reduceEqDiff, List.map_cons, List.map_nil, Option.map_some, Option.map_none, List.nil_append, ↓reduceIte, vcu, ↓vcd, opK_some]
    refine fin_one Try.results10 ?_
    simp -implicitDefEqProofs (disch := omega) only [List.any_cons, List.any_nil, Nat.reduceEqDiff, List.map_cons, List.map_nil, Option.map_some, Option.map_none, List.nil_append, ↓reduceIte, vcu, ↓vcd]
  have hLi : Lines s I O := ⟨⟨hI.1, by omega⟩, hO0, by omega⟩
  simp -implicitDefEqProofs (disch := omega) only [List.any_cons, List.any_nil, Nat.reduceEqDiff, List.map_cons, List.map_nil, Option.map_some, Option.map_none, List.nil_append, ↓reduceIte, vcu, ↓vcd, opK_some, Bool.not_true, lO, lE]
  refine (busy_calls τ7 _ cs I O hA hlc).mono ?_
  rintro r τ7' ⟨rfl, q7⟩
  subst q7
  by_cases hB : Busy cs I O
  · rw [decide_eq_true hB]
    have hno : ¬ mvOk s cs I O := fun hh => hh.2.2 hB
    rw [mvL_same ⟨hC, hE⟩ hno] at w3
    rw [decide_eq_false hno]
    simp -implicitDefEqProofs (disch := omega) only [List.any_cons, List.any_nil, Nat.reduceEqDiff, List.map_cons, List.map_nil, Option.map_some, Option.map_none, List.nil_append, ↓reduceIte, vcu, ↓vcd, opK_some, beq_self_eq_true, Bool.not_true, Bool.not_false]
    refine (sameCl_calls τ7' v _ _ _ w3.tris (.inr ⟨q, u, rfl, hq5⟩) hlc hlc).mono ?_
    rintro r τ8 ⟨rfl, q8⟩
    subst q8
    rw [decide_eq_true (rfl : cs = cs)]
    simp -implicitDefEqProofs (disch := omega) only [List.any_cons, List.any_nil, Nat.reduceEqDiff, List.map_cons, List.map_nil, Option.map_some, Option.map_none, List.nil_append, ↓reduceIte, vcu, ↓vcd, opK_some]
    refine fin_one Try.results10 ?_
    simp -implicitDefEqProofs (disch := omega) only [List.any_cons, List.any_nil, Nat.reduceEqDiff, List.map_cons, List.map_nil, Option.map_some, Option.map_none, List.nil_append, ↓reduceIte, vcu, ↓vcd]
  have hok : mvOk s cs I O := ⟨⟨hC, hE⟩, hLi, hB⟩
  have hml := moveL_length (s := s) (cs := cs) (i := I) (o := O)
  have hlast := moveL_last (s := s) (cs := cs) (i := I) (o := O)
  have hold := fun {k} (hk : k < cs.length) => moveL_old (s := s) (cs := cs) (i := I) (o := O) hk
  have hcv := moveL_CV hE hC hLi hB
  have hmf := fun hf => moveL_free (s := s) (cs := cs) (i := I) (o := O) hf
  have hmm := moveL_moved hE hC hLi hB
  rw [mvL_ok hok] at w3 hlen hzl
  rw [decide_eq_false hB, decide_eq_true hok]
  generalize moveL s cs I O = x at *
  obtain ⟨g3, rfl, v3, -⟩ := w3.row (by omega)
  have hcv' : CV ⟨s.O, s.E, s.M⟩ x := hcv
  obtain ⟨y1, y2, -⟩ := trisAt_own v3 cs.length (by omega)
  have hgk : x.getD cs.length cl0 = gc x cs.length := rfl
  rw [hgk, hlast.1] at y1
  rw [hgk, hlast.2] at y2
  rw [hml]
  rw [hml] at hlen
  have hc1 : ((cs.length + 1 : Nat) : Int) = (cs.length : Int) + 1 := by omega
  simp -implicitDefEqProofs (disch := omega) only [List.any_cons, List.any_nil, Nat.reduceEqDiff, List.map_cons, List.map_nil, Option.map_some, Option.map_none, List.nil_append, ↓reduceIte, vcu, ↓vcd, opK_some, Bool.not_false, Bool.not_true, beq_self_eq_true, hc1, y1, y2, Int.toNat_natCast, Nat.add_zero, ne_eq, not_true_eq_false]
  refine vc_loop_c mixed (by kernel_rfl) [3, 4, 5, 6, 7] (fun m a τ' => ∃ k : Nat, m + k = cs.length ∧ a 12 = .int .i64 (k : Int) ∧ τ' = τ7') cs.length ⟨0, by simp, rfl, rfl⟩ ?_
  rintro m a τ hc ⟨k, hk, h12, e⟩
  subst e
  simp -implicitDefEqProofs (disch := omega) only [List.any_cons, List.any_nil, Nat.reduceEqDiff, List.map_cons, List.map_nil, Option.map_some, Option.map_none, List.nil_append, ↓reduceIte, vcu, ↓vcd] at hc
  obtain ⟨h3, h4, h5, h6, h7, -⟩ := hc
  by_cases hlt : k < cs.length
  · obtain ⟨x1, x2, -⟩ := trisAt_own v3 k (by omega)
    obtain ⟨c1, c2, -⟩ := hq5 k hlt
    have hg1 : x.getD k cl0 = gc x k := rfl
    have hg2 : cs.getD k cl0 = gc cs k := rfl
    rw [hg1, (hold hlt).1] at x1
    rw [hg1, (hold hlt).2] at x2
    rw [hg2] at c1 c2
    have hk1 : (k : Int) < (cs.length : Int) + 1 := by omega
    simp -implicitDefEqProofs (disch := omega) only [List.any_cons, List.any_nil, Nat.reduceEqDiff, List.map_cons, List.map_nil, Option.map_some, Option.map_none, List.nil_append, ↓reduceIte, vcu, ↓vcd, h3, h4, h5, h6, h7, h12, hc1, x1, x2, c1, c2, Int.toNat_natCast, Nat.add_zero, ne_eq, not_true_eq_false]
    exact ⟨⟨trivial, trivial, trivial, trivial, trivial, trivial⟩, m - 1, by omega, k + 1, by omega, by simp, trivial⟩
  have wt : Tris τ (.slice (some ⟨g3, 0, none⟩) (cs.length + 1) 3) x := .inr ⟨g3, 0, by rw [hml], trisAt_own v3⟩
  simp -implicitDefEqProofs (disch := omega) only [List.any_cons, List.any_nil, Nat.reduceEqDiff, List.map_cons, List.map_nil, Option.map_some, Option.map_none, List.nil_append, ↓reduceIte, vcu, ↓vcd, h3, h4, h5, h6, h7, h12]
  refine (implMoved_calls τ _ _ cs x hA wt hlc (by omega)).mono ?_
  rintro r τ8 ⟨rfl, q8⟩
  subst q8
  simp -implicitDefEqProofs (disch := omega) only [List.any_cons, List.any_nil, Nat.reduceEqDiff, List.map_cons, List.map_nil, Option.map_some, Option.map_none, List.nil_append, ↓reduceIte, vcu, ↓vcd, opK_some, h3, h7, l5, co24]
  refine (implCV_calls τ8 s.O s.E s.M _ x wt (by omega)).mono ?_
  rintro r τ9 ⟨rfl, q9⟩
  subst q9
  rw [decide_eq_true hcv']
  simp -implicitDefEqProofs (disch := omega) only [List.any_cons, List.any_nil, Nat.reduceEqDiff, List.map_cons, List.map_nil, Option.map_some, Option.map_none, List.nil_append, ↓reduceIte, vcu, ↓vcd, opK_some, h3, h4, h5, h6, l5, co24]
  refine (implFree_at τ9 s q u cs I O hq5 hlc).mono ?_
  rintro vf τ10 ⟨s10, wf⟩
  have hlf := ownI_lenD wf
  have lO10 := ld_sub s10 lO
  have hO4 := hD.1
  have hmL : (moved cs x : Int) ≤ cs.length := by have := moved_le cs x; omega
  have dmm : decide ((moved cs x : Int) ≤ 2 * s.O - 1) = true := decide_eq_true hmm
  cases hf : freeV s cs I O with
  | nil =>
    rw [hf] at hlf
    simp -implicitDefEqProofs (disch := omega) only [List.any_cons, List.any_nil, Nat.reduceEqDiff, List.map_cons, List.map_nil, Option.map_some, Option.map_none, List.nil_append, ↓reduceIte, vcu, ↓vcd, opK_some, hlf, List.length_nil, Int.natCast_zero, h3, lO10]
    refine fin_one Try.results10 ?_
    simp -implicitDefEqProofs (disch := omega) only [List.any_cons, List.any_nil, Nat.reduceEqDiff, List.map_cons, List.map_nil, Option.map_some, Option.map_none, List.nil_append, ↓reduceIte, vcu, ↓vcd, dmm]
  | cons v0 vs =>
    have hm0 : moved cs x = 0 := hmf (by rw [hf]; simp)
    rw [hf] at hlf
    have hpos : ¬ ((v0 :: vs).length : Int) = 0 := by simp; omega
    have hz : decide ((0 : Int) ≤ 2 * s.O - 1) = true := decide_eq_true (by rw [hm0] at hmm; simpa using hmm)
    generalize (v0 :: vs).length = lf at hlf hpos
    rw [hm0]
    simp -implicitDefEqProofs (disch := omega) only [List.any_cons, List.any_nil, Nat.reduceEqDiff, List.map_cons, List.map_nil, Option.map_some, Option.map_none, List.nil_append, ↓reduceIte, vcu, ↓vcd, opK_some, hlf, h3, lO10, Int.natCast_zero]
    refine fin_one Try.results10 ?_
    simp -implicitDefEqProofs (disch := omega) only [List.any_cons, List.any_nil, Nat.reduceEqDiff, List.map_cons, List.map_nil, Option.map_some, Option.map_none, List.nil_append, ↓reduceIte, vcu, ↓vcd, hz]

open Go.ChangeShapes Go.WideShapes Go.ChangeAt Go.RowKit

set_option maxRecDepth 100000 in
theorem lifted10 (os : Os) (started : os.Started) (H : Type) (enc : TypeId × Value → H) :
    ReturnsInHanded {} Try.checked os 10 .any (Rows.fnCallMoveSpec.pre6 enc Try.prog Try.f10 Rows.fnCallMoveRow.domain false) (Rows.fnCallMoveSpec.post enc Try.prog Try.f10 false true false false) := by
  refine returnsInHanded_of_change (C := Try.checked) own started (by kernel_rfl) Try.func10
    (ChangeSpec.witness6 (enc := enc) (C := Try.checked) false ⟨#[], #[.slice none 0 0], []⟩ 8 (by kernel_rfl) (by kernel_rfl) (by kernel_rfl) (by kernel_rfl)) ?_
  intro W base args ds gs before hval hW _ _
  have hW' := hW
  obtain ⟨p, q, hA, hV, -, -, -⟩ := hW'
  rw [Try.params10] at hA hval
  obtain ⟨v0, vs0, d0, ds0, p0, q0, hargs, rfl, rfl, h0, r0⟩ := trodAll_cons hA
  obtain ⟨rfl, rfl, rfl⟩ := trodAll_nil r0
  obtain ⟨rfl, rfl⟩ := trodVars_none hV
  obtain rfl : args = #[v0] := by cases args; simp_all
  obtain ⟨β0, σ0, a0, zs0, L0, U0, S0, R0, I0, w0, m0⟩ := start_ints Try.underlying22 Try.underlying5 co5 (Start.start W) (hval 0 22 v0 rfl rfl) h0
  refine ((law10 σ0 a0 zs0 (I0) m0 w0).2 noProt β0 W [v0] S0.rel (.cons R0 (.nil _))).mono fun e W' h => ?_
  obtain ⟨β', r, r', σ', -, rfl, hr, hrel, rfl⟩ := h
  cases hr
  exact ⟨_, rfl, law_post laidOut hW rfl rfl (by rw [Try.params10]; intro t ht; simp only [List.mem_cons, List.not_mem_nil, or_false, or_self] at ht; rcases ht with rfl <;> exact ⟨by kernel_rfl, of_decide_eq_true (by kernel_rfl)⟩) rfl Try.underlying4 hrel.below⟩

theorem facts10 : joinedFacts Try.prog 10 Try.f10 Rows.fnCallMoveSpec Rows.fnCallMoveRow = true := by
  unfold joinedFacts
  rw [mayE, liftsE, makeE]
  kernel_rfl

theorem proved10 : Rows.FnCallMoveSaid :=
  OpenClaim.holds_of_wide 10 Try.f10 rfl rfl rfl rfl rfl rfl rfl ⟨rfl, rfl, rfl, rfl, rfl⟩ rfl rfl rfl rfl rfl (by kernel_rfl) Try.func10 facts10 (of_decide_eq_true (by kernel_rfl))
    (by unfold Func.isWrapper; first | (rw [if_pos (by decide +kernel)]; kernel_rfl) | (rw [if_neg (by decide +kernel)]; exact ⟨rfl, rfl⟩))
    (fun os started H enc _ => lifted10 os started H enc)


end Go.Proofs.Ytphacjkogompoaa
