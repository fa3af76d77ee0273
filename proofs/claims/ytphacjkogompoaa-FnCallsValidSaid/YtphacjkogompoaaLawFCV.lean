/- FnCallsValid answers true for every code. -/
import Derived.Test.YtphacjkogompoaaDk
set_option linter.unusedSimpArgs false
set_option linter.unusedVariables false
namespace Go.Proofs.Ytphacjkogompoaa
open Go Go.Abs Go.RowKit Go.Clos
variable {w0 : World}

set_option maxRecDepth 8000 in
set_option maxHeartbeats 1600000 in
theorem law4 (σ : AHeap) (v : Value) (bs : List Int) (hv : Ints .u8 σ v bs) (hm : bs.length ≤ maxLen) (hw : ∀ z ∈ bs, (Lit.int .u8 z).wf = true) :
    ACall Try.prog w0 4 [v] σ fun r _ => r = .bool true := by
  unfold maxLen at hm
  refine ACall.ints_arg (pre := []) (by kernel_rfl) hv fun σ1 h o hs hg => ?_
  clear hv hs σ v
  have hb := bytes_of hw
  refine acall_go mixed Try.func4 rfl good4 fun pr => ?_
  by_cases hbig : 1048576 < bs.length
  · simp -implicitDefEqProofs (disch := omega) only [List.any_cons, List.any_nil, Nat.reduceEqDiff, List.map_cons, List.map_nil, Option.map_some, Option.map_none, List.nil_append, ↓reduceIte, vcu, ↓vcd]
    refine fin_one Try.results4 ?_
    simp -implicitDefEqProofs (disch := omega) only [List.any_cons, List.any_nil, Nat.reduceEqDiff, List.map_cons, List.map_nil, Option.map_some, Option.map_none, List.nil_append, ↓reduceIte, vcu, ↓vcd]
  have hl : bs.length ≤ 1048576 := by omega
  simp -implicitDefEqProofs (disch := omega) only [List.any_cons, List.any_nil, Nat.reduceEqDiff, List.map_cons, List.map_nil, Option.map_some, Option.map_none, List.nil_append, ↓reduceIte, vcu, ↓vcd]
  refine (drawCV_row σ1 h o bs hg hl hb).mono ?_
  rintro _ τ ⟨s, q, u, cs, rfl, hD, hl14, hq, hs⟩
  simp -implicitDefEqProofs (disch := omega) only [List.any_cons, List.any_nil, Nat.reduceEqDiff, List.map_cons, List.map_nil, Option.map_some, Option.map_none, List.nil_append, ↓reduceIte, vcu, ↓vcd, opK_some, List.getElem?_toArray, List.getElem?_cons_zero, List.getElem?_cons_succ]
  refine r_new ze24 fun c3 τ2a n3 sa ea => ?_
  replace ea : τ2a c3 = some ⟨[.int .i64 0, .int .i64 0, .int .i64 0], false⟩ := ea
  refine r_sets (g := c3) (i := 0) (C := [.int .i64 0, .int .i64 0, .int .i64 0]) (by simp -implicitDefEqProofs (disch := omega) only [List.any_cons, List.any_nil, Nat.reduceEqDiff, List.map_cons, List.map_nil, Option.map_some, Option.map_none, List.nil_append, ↓reduceIte, vcu, ↓vcd]) (by simp -implicitDefEqProofs (disch := omega) only [List.any_cons, List.any_nil, Nat.reduceEqDiff, List.map_cons, List.map_nil, Option.map_some, Option.map_none, List.nil_append, ↓reduceIte, vcu, ↓vcd, co24]; rfl) (by simp -implicitDefEqProofs (disch := omega) only [List.any_cons, List.any_nil, Nat.reduceEqDiff, List.map_cons, List.map_nil, Option.map_some, Option.map_none, List.nil_append, ↓reduceIte, vcu, ↓vcd]; rfl) (by simp -implicitDefEqProofs (disch := omega) only [List.any_cons, List.any_nil, Nat.reduceEqDiff, List.map_cons, List.map_nil, Option.map_some, Option.map_none, List.nil_append, ↓reduceIte, vcu, ↓vcd]; exact Nat.zero_lt_succ _) ea (by simp -implicitDefEqProofs (disch := omega) only [List.any_cons, List.any_nil, Nat.reduceEqDiff, List.map_cons, List.map_nil, Option.map_some, Option.map_none, List.nil_append, ↓reduceIte, vcu, ↓vcd]; exact Nat.le_refl _) fun τ2 k2 e3 => ?_
  replace e3 : τ2 c3 = some ⟨[.int .i64 s.O, .int .i64 s.E, .int .i64 s.M], false⟩ := e3
  have s3 := k2.sub sa n3
  replace hq := hq.sub s3
  have m3 : ∀ τ', Sub τ2 τ' → lds τ' c3 0 3 = some [.int .i64 s.O, .int .i64 s.E, .int .i64 s.M] := fun τ' hs => lds_three (ld_of (hs _ _ e3) rfl) (ld_of (hs _ _ e3) rfl) (ld_of (hs _ _ e3) rfl)
  have mO : ∀ τ', Sub τ2 τ' → ld τ' c3 (0 + 0) = some (.int .i64 s.O) := fun τ' hs => ld_of (hs _ _ e3) rfl
  have mE : ∀ τ', Sub τ2 τ' → ld τ' c3 (0 + 1) = some (.int .i64 s.E) := fun τ' hs => ld_of (hs _ _ e3) rfl
  have mM : ∀ τ', Sub τ2 τ' → ld τ' c3 (0 + 2) = some (.int .i64 s.M) := fun τ' hs => ld_of (hs _ _ e3) rfl
  clear hs ea sa k2 s3
  have hlc : cs.length ≤ 1048576 := by omega
  have l2 := m3 τ2 (Sub.refl _)
  have hA : Tris τ2 (.slice (some ⟨q, u, none⟩) cs.length 3) cs := .inr ⟨q, u, rfl, hq⟩
  simp -implicitDefEqProofs (disch := omega) only [List.any_cons, List.any_nil, Nat.reduceEqDiff, List.map_cons, List.map_nil, Option.map_some, Option.map_none, List.nil_append, ↓reduceIte, vcu, ↓vcd, l2, co24]
  refine (implCV_at τ2 s.O s.E s.M q u cs hq hlc).mono ?_
  rintro r τ3 ⟨rfl, q3⟩
  subst q3
  have l3 := m3 τ3 (Sub.refl _)
  simp -implicitDefEqProofs (disch := omega) only [List.any_cons, List.any_nil, Nat.reduceEqDiff, List.map_cons, List.map_nil, Option.map_some, Option.map_none, List.nil_append, ↓reduceIte, vcu, ↓vcd, opK_some, l3, co24]
  refine (specCV_at τ3 s.O s.E s.M q u cs hq hlc).mono ?_
  rintro r τ4 ⟨rfl, q4⟩
  subst q4
  have l4 := m3 τ4 (Sub.refl _)
  have dN : decide (CV ⟨s.O, s.E, s.M⟩ []) = decide (SV ⟨s.O, s.E, s.M⟩) := decide_eq_decide.2 CV_nil
  by_cases hgo : CV s cs ∧ 0 < cs.length
  case neg =>
    have hcond : (!decide (CV ⟨s.O, s.E, s.M⟩ cs)) = true ∨ (!decide (CV ⟨s.O, s.E, s.M⟩ cs)) = false ∧ (cs.length : Int) = 0 := by
      by_cases hC : CV s cs
      · have dC : decide (CV ⟨s.O, s.E, s.M⟩ cs) = true := decide_eq_true hC
        rw [dC]
        exact .inr ⟨rfl, by have : ¬ 0 < cs.length := fun hh => hgo ⟨hC, hh⟩; omega⟩
      · have dC : decide (CV ⟨s.O, s.E, s.M⟩ cs) = false := decide_eq_false hC
        rw [dC]; exact .inl rfl
    rcases hcond with hn | ⟨hn, h0⟩
    · simp -implicitDefEqProofs (disch := omega) only [List.any_cons, List.any_nil, Nat.reduceEqDiff, List.map_cons, List.map_nil, Option.map_some, Option.map_none, List.nil_append, ↓reduceIte, vcu, ↓vcd, opK_some, Bool.not_true, beq_self_eq_true, hn, l4, co24]
      rw [r_callq]
      refine ⟨_, implCV_calls τ4 s.O s.E s.M _ [] (.inl ⟨rfl, rfl⟩) (by simp), ?_⟩
      rw [dN]
      simp -implicitDefEqProofs (disch := omega) only [List.any_cons, List.any_nil, Nat.reduceEqDiff, List.map_cons, List.map_nil, Option.map_some, Option.map_none, List.nil_append, ↓reduceIte, vcu, ↓vcd, l4, co24]
      rw [r_callq]
      refine ⟨_, implSV_at τ4 s.O s.E s.M, ?_⟩
      simp -implicitDefEqProofs (disch := omega) only [List.any_cons, List.any_nil, Nat.reduceEqDiff, List.map_cons, List.map_nil, Option.map_some, Option.map_none, List.nil_append, ↓reduceIte, vcu, ↓vcd, beq_self_eq_true]
      rw [r_callq]
      refine ⟨_, alive_at τ4, ?_⟩
      simp -implicitDefEqProofs (disch := omega) only [List.any_cons, List.any_nil, Nat.reduceEqDiff, List.map_cons, List.map_nil, Option.map_some, Option.map_none, List.nil_append, ↓reduceIte, vcu, ↓vcd]
      refine fin_one Try.results4 ?_
      simp -implicitDefEqProofs (disch := omega) only [List.any_cons, List.any_nil, Nat.reduceEqDiff, List.map_cons, List.map_nil, Option.map_some, Option.map_none, List.nil_append, ↓reduceIte, vcu, ↓vcd]
    · simp -implicitDefEqProofs (disch := omega) only [List.any_cons, List.any_nil, Nat.reduceEqDiff, List.map_cons, List.map_nil, Option.map_some, Option.map_none, List.nil_append, ↓reduceIte, vcu, ↓vcd, opK_some, Bool.not_true, beq_self_eq_true, hn, h0, l4, co24]
      rw [r_callq]
      refine ⟨_, implCV_calls τ4 s.O s.E s.M _ [] (.inl ⟨rfl, rfl⟩) (by simp), ?_⟩
      rw [dN]
      simp -implicitDefEqProofs (disch := omega) only [List.any_cons, List.any_nil, Nat.reduceEqDiff, List.map_cons, List.map_nil, Option.map_some, Option.map_none, List.nil_append, ↓reduceIte, vcu, ↓vcd, l4, co24]
      rw [r_callq]
      refine ⟨_, implSV_at τ4 s.O s.E s.M, ?_⟩
      simp -implicitDefEqProofs (disch := omega) only [List.any_cons, List.any_nil, Nat.reduceEqDiff, List.map_cons, List.map_nil, Option.map_some, Option.map_none, List.nil_append, ↓reduceIte, vcu, ↓vcd, beq_self_eq_true]
      rw [r_callq]
      refine ⟨_, alive_at τ4, ?_⟩
      simp -implicitDefEqProofs (disch := omega) only [List.any_cons, List.any_nil, Nat.reduceEqDiff, List.map_cons, List.map_nil, Option.map_some, Option.map_none, List.nil_append, ↓reduceIte, vcu, ↓vcd]
      refine fin_one Try.results4 ?_
      simp -implicitDefEqProofs (disch := omega) only [List.any_cons, List.any_nil, Nat.reduceEqDiff, List.map_cons, List.map_nil, Option.map_some, Option.map_none, List.nil_append, ↓reduceIte, vcu, ↓vcd]
  obtain ⟨hC, h0c⟩ := hgo
  have dC : decide (CV ⟨s.O, s.E, s.M⟩ cs) = true := decide_eq_true hC
  have h0i : ¬ (cs.length : Int) = 0 := by omega
  have lM := mM τ4 (Sub.refl _)
  have lO := mO τ4 (Sub.refl _)
  rw [dC]
  have hM := hC.1.2.2
  simp -implicitDefEqProofs (disch := omega) only [List.any_cons, List.any_nil, Nat.reduceEqDiff, List.map_cons, List.map_nil, Option.map_some, Option.map_none, List.nil_append, ↓reduceIte, vcu, ↓vcd, opK_some, Bool.not_true, beq_self_eq_true, h0i, lM]
  refine acodeB_monoY (Q' := fun e a' τ' => e = .exit 0 ∧ τ' = τ4 ∧ a' 3 = .pointer (some ⟨c3, 0, none⟩) ∧ a' 4 = .slice (some ⟨q, u, none⟩) cs.length 3)
    (vc_loop_c mixed (by kernel_rfl) [3, 4] (fun m a τ' => ∃ k : Nat, m + k = s.M.toNat ∧ a 6 = .int .i64 (k : Int) ∧ τ' = τ4) s.M.toNat ⟨0, by simp, rfl, rfl⟩ ?_) ?_
  · rintro m a τ hc ⟨k, hk, h6, e⟩
    subst e
    simp -implicitDefEqProofs (disch := omega) only [List.any_cons, List.any_nil, Nat.reduceEqDiff, List.map_cons, List.map_nil, Option.map_some, Option.map_none, List.nil_append, ↓reduceIte, vcu, ↓vcd] at hc
    obtain ⟨h3, h4, -⟩ := hc
    by_cases hlt : (k : Int) < s.M
    case neg =>
      simp -implicitDefEqProofs (disch := omega) only [List.any_cons, List.any_nil, Nat.reduceEqDiff, List.map_cons, List.map_nil, Option.map_some, Option.map_none, List.nil_append, ↓reduceIte, vcu, ↓vcd, h3, h4, h6, lM]
      exact ⟨trivial, trivial, trivial, trivial⟩
    simp -implicitDefEqProofs (disch := omega) only [List.any_cons, List.any_nil, Nat.reduceEqDiff, List.map_cons, List.map_nil, Option.map_some, Option.map_none, List.nil_append, ↓reduceIte, vcu, ↓vcd, h3, h4, h6, lM]
    refine vc_loop_c mixed (by kernel_rfl) [3, 4, 6] (fun m a τ' => ∃ j : Nat, m + j = cs.length ∧ a 8 = .int .i64 (j : Int) ∧ a 7 = .int .i64 (viaN cs k j : Int) ∧ τ' = τ) cs.length ⟨0, by simp, rfl, rfl, rfl⟩ ?_
    rintro m2 a2 τ1 hc2 ⟨j, hj, h8, h7, e⟩
    subst e
    simp -implicitDefEqProofs (disch := omega) only [List.any_cons, List.any_nil, Nat.reduceEqDiff, List.map_cons, List.map_nil, Option.map_some, Option.map_none, List.nil_append, ↓reduceIte, vcu, ↓vcd, h3, h4, h6] at hc2
    obtain ⟨g3, g4, g6, -⟩ := hc2
    have hvl : viaN cs k j ≤ j := by
      unfold viaN
      have := List.length_filter_le (fun c : Cl => decide (c.v = (k : Int))) (cs.take j)
      simp at this; omega
    by_cases hjl : j < cs.length
    · obtain ⟨-, -, x3⟩ := hq j hjl
      have hgk : cs.getD j cl0 = gc cs j := rfl
      have hsc := viaN_succ (v := (k : Int)) hjl
      rw [hgk] at x3
      by_cases he : (gc cs j).v = (k : Int)
      · rw [if_pos he] at hsc
        rw [he] at x3
        simp -implicitDefEqProofs (disch := omega) only [List.any_cons, List.any_nil, Nat.reduceEqDiff, List.map_cons, List.map_nil, Option.map_some, Option.map_none, List.nil_append, ↓reduceIte, vcu, ↓vcd, g3, g4, g6, h7, h8, x3]
        exact ⟨⟨h3.symm, h4.symm, h6.symm, trivial⟩, m2 - 1, by omega, j + 1, by omega, by simp, by rw [hsc]; simp, trivial⟩
      · rw [if_neg he] at hsc
        simp -implicitDefEqProofs (disch := omega) only [List.any_cons, List.any_nil, Nat.reduceEqDiff, List.map_cons, List.map_nil, Option.map_some, Option.map_none, List.nil_append, ↓reduceIte, vcu, ↓vcd, g3, g4, g6, h7, h8, x3]
        exact ⟨⟨h3.symm, h4.symm, h6.symm, trivial⟩, m2 - 1, by omega, j + 1, by omega, by simp, by rw [hsc]; simp [h7], trivial⟩
    obtain rfl : j = cs.length := by omega
    have hle := viaN_le hC (k : Int) cs.length
    have hgt : ¬ s.O < (viaN cs k cs.length : Int) := by omega
    simp -implicitDefEqProofs (disch := omega) only [List.any_cons, List.any_nil, Nat.reduceEqDiff, List.map_cons, List.map_nil, Option.map_some, Option.map_none, List.nil_append, ↓reduceIte, vcu, ↓vcd, g3, g4, g6, h7, h8, lO]
    exact ⟨⟨trivial, trivial, trivial⟩, m - 1, by omega, k + 1, by omega, by simp, trivial⟩
  rintro _ a τ ⟨rfl, e, h3, h4⟩
  subst e
  obtain ⟨A, B, C, hg0⟩ : ∃ A B C : Int, gc cs 0 = ⟨A, B, C⟩ := ⟨_, _, _, rfl⟩
  have hx := hq.all h0c
  have hgk : cs.getD 0 cl0 = gc cs 0 := rfl
  rw [hgk, hg0, Nat.zero_mul] at hx
  dsimp only at hx
  have hmem : (⟨A, B, C⟩ : Cl) ∈ cs := by rw [← hg0]; exact gc_mem h0c
  have dF : decide (CV ⟨s.O, s.E, s.M⟩ (cs ++ [⟨A, B, C⟩])) = false := decide_eq_false fun hh => CV_twice (s := s) hmem hh
  have dT : decide (CV ⟨s.O, s.E, s.M⟩ (cs.drop 1)) = true := decide_eq_true (hC.tail 1)
  have hll : (cs ++ [(⟨A, B, C⟩ : Cl)]).length = cs.length + 1 := by simp
  have hdl : (cs.drop 1).length = cs.length - 1 := by simp
  have htl := implCV_at (w0 := w0) τ s.O s.E s.M q (u + 1 * 3) (cs.drop 1) (hq.drop 1) (by rw [hdl]; omega)
  have hve2 := fun (τ' : AHeap) (g9 : Nat) (hh : τ' g9 = some ⟨tris (cs ++ [⟨A, B, C⟩]), false⟩) => implCV_at (w0 := w0) τ' s.O s.E s.M g9 0 (cs ++ [⟨A, B, C⟩]) (trisAt_own hh) (by rw [hll]; omega)
  rw [hll] at hve2
  rw [hdl] at htl
  have hs : Sub τ τ := Sub.refl _
  have hv := hq
  have h1i : (0 : Int) < (cs.length : Int) := by omega
  have e1 : (1 : Int).toNat = 1 := rfl
  simp -implicitDefEqProofs (disch := omega) only [List.any_cons, List.any_nil, Nat.reduceEqDiff, List.map_cons, List.map_nil, Option.map_some, Option.map_none, List.nil_append, ↓reduceIte, vcu, ↓vcd, h3, h4]
  refine acodeB_monoY (Q' := fun e a' τ8 => e = .normal ∧ a' 2 = .bool true)
      (region_tree mixed (quiets [0, 1, 2] (.one 3 (quiets [4, 5, 7, 9, 10, 11] (.two 6 (.two 8 (.one 12 (.one 13 (.one 14 (quiets [15, 16, 17] .stop)))) 12 (.one 8 (.one 13 (.one 14 (quiets [15, 16, 17] .stop))))) 12 (.one 6 (.one 8 (.one 13 (.one 14 (quiets [15, 16, 17] .stop))))))))) [([0, 1, 2, 4, 5, 7, 9, 10, 11], Sub τ)] (by kernel_rfl) (by kernel_rfl) (fun p hp => by simp only [List.mem_singleton] at hp; subst hp; exact Sub.refl _) ?_) ?_
  · refine tree_quiets τ _ _ _ (fun i hi => sf1 i (by simp only [List.mem_cons, List.not_mem_nil, or_false] at hi ⊢; omega)) (by kernel_rfl) (by kernel_rfl) ?_
    simp -implicitDefEqProofs (disch := omega) only [List.any_cons, List.any_nil, Nat.reduceEqDiff, List.map_cons, List.map_nil, Option.map_some, Option.map_none, List.nil_append, ↓reduceIte, vcu, ↓vcd, pickOps_nil, pickOps_cons, pickO_some, List.getElem?_cons_succ, List.getElem?_cons_zero, h3, h4, l4, co24, e1]
    refine tree_one rfl ?_
    simp -implicitDefEqProofs (disch := omega) only [List.any_cons, List.any_nil, Nat.reduceEqDiff, List.map_cons, List.map_nil, Option.map_some, Option.map_none, List.nil_append, ↓reduceIte, vcu, ↓vcd]
    refine htl.mono ?_
    rintro r _ ⟨rfl, rfl⟩
    rename_i τ
    rw [dT]
    simp -implicitDefEqProofs (disch := omega) only [List.any_cons, List.any_nil, Nat.reduceEqDiff, List.map_cons, List.map_nil, Option.map_some, Option.map_none, List.nil_append, ↓reduceIte, vcu, ↓vcd, opK_some]
    refine ⟨.inl rfl, ?_⟩
    refine tree_quiets τ _ _ _ (fun i hi => sf1 i (by simp only [List.mem_cons, List.not_mem_nil, or_false] at hi ⊢; omega)) (by kernel_rfl) (by kernel_rfl) ?_
    simp -implicitDefEqProofs (disch := omega) only [List.any_cons, List.any_nil, Nat.reduceEqDiff, List.map_cons, List.map_nil, Option.map_some, Option.map_none, List.nil_append, ↓reduceIte, vcu, ↓vcd, pickOps_nil, pickOps_cons, pickO_some, List.getElem?_cons_succ, List.getElem?_cons_zero, h3, h4, l4, hx, co24, co34, Int.toNat_zero, Nat.zero_mul]
    refine tree_two rfl rfl ?_ ?_
    · simp -implicitDefEqProofs (disch := omega) only [List.any_cons, List.any_nil, Nat.reduceEqDiff, List.map_cons, List.map_nil, Option.map_some, Option.map_none, List.nil_append, ↓reduceIte, vcu, ↓vcd]
      refine r_lit el29 (out := #[]) (by kernel_rfl) (by kernel_rfl) fun ea τ3 n3 s3 v3 => ?_
      simp -implicitDefEqProofs (disch := omega) only [List.any_cons, List.any_nil, Nat.reduceEqDiff, List.map_cons, List.map_nil, Option.map_some, Option.map_none, List.nil_append, ↓reduceIte, vcu, ↓vcd]
      refine ⟨keep_of rfl (fun p hp => by simp only [List.mem_singleton] at hp; subst hp; exact .inr s3), ?_⟩
      refine tree_two rfl rfl ?_ ?_
      · simp -implicitDefEqProofs (disch := omega) only [List.any_cons, List.any_nil, Nat.reduceEqDiff, List.map_cons, List.map_nil, Option.map_some, Option.map_none, List.nil_append, ↓reduceIte, vcu, ↓vcd]
        refine r_pushC (g := ea) (e := q) (o := u) (cs := []) (ds := cs) (m := cs.length) (len := 0) el29 (by omega) sl29 (by simp -implicitDefEqProofs (disch := omega) only [List.any_cons, List.any_nil, Nat.reduceEqDiff, List.map_cons, List.map_nil, Option.map_some, Option.map_none, List.nil_append, ↓reduceIte, vcu, ↓vcd]) v3 rfl (by simp -implicitDefEqProofs (disch := omega) only [List.any_cons, List.any_nil, Nat.reduceEqDiff, List.map_cons, List.map_nil, Option.map_some, Option.map_none, List.nil_append, ↓reduceIte, vcu, ↓vcd]) (hv.sub s3) rfl (by omega) fun gb τ4 n4 k4 v4 => ?_
        rw [List.nil_append] at v4
        simp -implicitDefEqProofs (disch := omega) only [List.any_cons, List.any_nil, Nat.reduceEqDiff, List.map_cons, List.map_nil, Option.map_some, Option.map_none, List.nil_append, ↓reduceIte, vcu, ↓vcd]
        have s4 : Sub τ τ4 := k4.sub s3 n3
        refine ⟨keep_of rfl (fun p hp => by simp only [List.mem_singleton] at hp; subst hp; exact .inr s4), tree_one rfl ?_⟩
        simp -implicitDefEqProofs (disch := omega) only [List.any_cons, List.any_nil, Nat.reduceEqDiff, List.map_cons, List.map_nil, Option.map_some, Option.map_none, List.nil_append, ↓reduceIte, vcu, ↓vcd]
        refine r_lit el29 (out := #[.int .i64 A, .int .i64 B, .int .i64 C]) (by first | kernel_rfl | (simp -implicitDefEqProofs (disch := omega) only [List.any_cons, List.any_nil, Nat.reduceEqDiff, List.map_cons, List.map_nil, Option.map_some, Option.map_none, List.nil_append, ↓reduceIte, vcu, ↓vcd]; kernel_rfl)) (by rfl) fun eb τ5 n5 s5 v5 => ?_
        replace v5 : τ5 eb = some ⟨tris [⟨A, B, C⟩], false⟩ := v5
        simp -implicitDefEqProofs (disch := omega) only [List.any_cons, List.any_nil, Nat.reduceEqDiff, List.map_cons, List.map_nil, Option.map_some, Option.map_none, List.nil_append, ↓reduceIte, vcu, ↓vcd]
        have s5' := s4.trans s5
        refine ⟨keep_of rfl (fun p hp => by simp only [List.mem_singleton] at hp; subst hp; exact .inr s5'), tree_one rfl ?_⟩
        simp -implicitDefEqProofs (disch := omega) only [List.any_cons, List.any_nil, Nat.reduceEqDiff, List.map_cons, List.map_nil, Option.map_some, Option.map_none, List.nil_append, ↓reduceIte, vcu, ↓vcd]
        refine r_pushC (g := gb) (e := eb) (o := 0) (cs := cs) (ds := [⟨A, B, C⟩]) (m := 1) (len := cs.length) el29 (by omega) sl29 (by simp -implicitDefEqProofs (disch := omega) only [List.any_cons, List.any_nil, Nat.reduceEqDiff, List.map_cons, List.map_nil, Option.map_some, Option.map_none, List.nil_append, ↓reduceIte, vcu, ↓vcd, Nat.zero_add]) (s5 _ _ v4) rfl (by simp -implicitDefEqProofs (disch := omega) only [List.any_cons, List.any_nil, Nat.reduceEqDiff, List.map_cons, List.map_nil, Option.map_some, Option.map_none, List.nil_append, ↓reduceIte, vcu, ↓vcd]) (trisAt_own v5) rfl (by omega) fun gc9 τ9 n9 k9 v9 => ?_
        have s9 : Sub τ τ9 := fun z ob e => k9.at (s5' _ _ e) (ne_of' (free_sub s3 n4) e)
        have l9 := m3 τ9 (hs.trans s9)
        simp -implicitDefEqProofs (disch := omega) only [List.any_cons, List.any_nil, Nat.reduceEqDiff, List.map_cons, List.map_nil, Option.map_some, Option.map_none, List.nil_append, ↓reduceIte, vcu, ↓vcd]
        refine ⟨keep_of rfl (fun p hp => by simp only [List.mem_singleton] at hp; subst hp; exact .inr s9), tree_one rfl ?_⟩
        simp -implicitDefEqProofs (disch := omega) only [List.any_cons, List.any_nil, Nat.reduceEqDiff, List.map_cons, List.map_nil, Option.map_some, Option.map_none, List.nil_append, ↓reduceIte, vcu, ↓vcd, l9, co24]
        refine (hve2 τ9 gc9 v9).mono ?_
        rintro r τ10 ⟨rfl, e10⟩
        subst e10
        rw [dF]
        simp -implicitDefEqProofs (disch := omega) only [List.any_cons, List.any_nil, Nat.reduceEqDiff, List.map_cons, List.map_nil, Option.map_some, Option.map_none, List.nil_append, ↓reduceIte, vcu, ↓vcd, opK_some]
        refine ⟨keep_of rfl (fun p hp => by simp only [List.mem_singleton] at hp; subst hp; exact .inr s9), ?_⟩
        refine tree_quiets (fun _ => none) _ _ _ (fun _ _ _ _ => fun x ob e => by cases e) (by kernel_rfl) (by kernel_rfl) ?_
        simp -implicitDefEqProofs (disch := omega) only [List.any_cons, List.any_nil, Nat.reduceEqDiff, List.map_cons, List.map_nil, Option.map_some, Option.map_none, List.nil_append, ↓reduceIte, vcu, ↓vcd, pickOps_nil, pickOps_cons, pickO_some, List.getElem?_cons_succ, List.getElem?_cons_zero, Bool.not_false]
        refine tree_stop ?_
        refine ⟨trivial, ?_⟩
        simp -implicitDefEqProofs (disch := omega) only [List.any_cons, List.any_nil, Nat.reduceEqDiff, List.map_cons, List.map_nil, Option.map_some, Option.map_none, List.nil_append, ↓reduceIte, vcu, ↓vcd]
      · simp -implicitDefEqProofs (disch := omega) only [List.any_cons, List.any_nil, Nat.reduceEqDiff, List.map_cons, List.map_nil, Option.map_some, Option.map_none, List.nil_append, ↓reduceIte, vcu, ↓vcd]
        refine r_lit el29 (out := #[.int .i64 A, .int .i64 B, .int .i64 C]) (by first | kernel_rfl | (simp -implicitDefEqProofs (disch := omega) only [List.any_cons, List.any_nil, Nat.reduceEqDiff, List.map_cons, List.map_nil, Option.map_some, Option.map_none, List.nil_append, ↓reduceIte, vcu, ↓vcd]; kernel_rfl)) (by rfl) fun eb τ4 n4 s4 v4 => ?_
        replace v4 : τ4 eb = some ⟨tris [⟨A, B, C⟩], false⟩ := v4
        simp -implicitDefEqProofs (disch := omega) only [List.any_cons, List.any_nil, Nat.reduceEqDiff, List.map_cons, List.map_nil, Option.map_some, Option.map_none, List.nil_append, ↓reduceIte, vcu, ↓vcd]
        have s4' := s3.trans s4
        refine ⟨keep_of rfl (fun p hp => by simp only [List.mem_singleton] at hp; subst hp; exact .inr s4'), tree_one rfl ?_⟩
        simp -implicitDefEqProofs (disch := omega) only [List.any_cons, List.any_nil, Nat.reduceEqDiff, List.map_cons, List.map_nil, Option.map_some, Option.map_none, List.nil_append, ↓reduceIte, vcu, ↓vcd]
        refine r_pushC (g := ea) (e := q) (o := u) (cs := []) (ds := cs) (m := cs.length) (len := 0) el29 (by omega) sl29 (by simp -implicitDefEqProofs (disch := omega) only [List.any_cons, List.any_nil, Nat.reduceEqDiff, List.map_cons, List.map_nil, Option.map_some, Option.map_none, List.nil_append, ↓reduceIte, vcu, ↓vcd]) (s4 _ _ v3) rfl (by simp -implicitDefEqProofs (disch := omega) only [List.any_cons, List.any_nil, Nat.reduceEqDiff, List.map_cons, List.map_nil, Option.map_some, Option.map_none, List.nil_append, ↓reduceIte, vcu, ↓vcd]) (hv.sub s4') rfl (by omega) fun gb τ5 n5 k5 v5 => ?_
        rw [List.nil_append] at v5
        simp -implicitDefEqProofs (disch := omega) only [List.any_cons, List.any_nil, Nat.reduceEqDiff, List.map_cons, List.map_nil, Option.map_some, Option.map_none, List.nil_append, ↓reduceIte, vcu, ↓vcd]
        have s5' : Sub τ τ5 := k5.sub s4' n3
        refine ⟨keep_of rfl (fun p hp => by simp only [List.mem_singleton] at hp; subst hp; exact .inr s5'), tree_one rfl ?_⟩
        have v4' := k5.at v4 (ne_of n4 v3)
        simp -implicitDefEqProofs (disch := omega) only [List.any_cons, List.any_nil, Nat.reduceEqDiff, List.map_cons, List.map_nil, Option.map_some, Option.map_none, List.nil_append, ↓reduceIte, vcu, ↓vcd]
        refine r_pushC (g := gb) (e := eb) (o := 0) (cs := cs) (ds := [⟨A, B, C⟩]) (m := 1) (len := cs.length) el29 (by omega) sl29 (by simp -implicitDefEqProofs (disch := omega) only [List.any_cons, List.any_nil, Nat.reduceEqDiff, List.map_cons, List.map_nil, Option.map_some, Option.map_none, List.nil_append, ↓reduceIte, vcu, ↓vcd, Nat.zero_add]) v5 rfl (by simp -implicitDefEqProofs (disch := omega) only [List.any_cons, List.any_nil, Nat.reduceEqDiff, List.map_cons, List.map_nil, Option.map_some, Option.map_none, List.nil_append, ↓reduceIte, vcu, ↓vcd]) (trisAt_own v4') rfl (by omega) fun gc9 τ9 n9 k9 v9 => ?_
        have s9 : Sub τ τ9 := fun z ob e => k9.at (s5' _ _ e) (ne_of' (free_sub s4' n5) e)
        have l9 := m3 τ9 (hs.trans s9)
        simp -implicitDefEqProofs (disch := omega) only [List.any_cons, List.any_nil, Nat.reduceEqDiff, List.map_cons, List.map_nil, Option.map_some, Option.map_none, List.nil_append, ↓reduceIte, vcu, ↓vcd]
        refine ⟨keep_of rfl (fun p hp => by simp only [List.mem_singleton] at hp; subst hp; exact .inr s9), tree_one rfl ?_⟩
        simp -implicitDefEqProofs (disch := omega) only [List.any_cons, List.any_nil, Nat.reduceEqDiff, List.map_cons, List.map_nil, Option.map_some, Option.map_none, List.nil_append, ↓reduceIte, vcu, ↓vcd, l9, co24]
        refine (hve2 τ9 gc9 v9).mono ?_
        rintro r τ10 ⟨rfl, e10⟩
        subst e10
        rw [dF]
        simp -implicitDefEqProofs (disch := omega) only [List.any_cons, List.any_nil, Nat.reduceEqDiff, List.map_cons, List.map_nil, Option.map_some, Option.map_none, List.nil_append, ↓reduceIte, vcu, ↓vcd, opK_some]
        refine ⟨keep_of rfl (fun p hp => by simp only [List.mem_singleton] at hp; subst hp; exact .inr s9), ?_⟩
        refine tree_quiets (fun _ => none) _ _ _ (fun _ _ _ _ => fun x ob e => by cases e) (by kernel_rfl) (by kernel_rfl) ?_
        simp -implicitDefEqProofs (disch := omega) only [List.any_cons, List.any_nil, Nat.reduceEqDiff, List.map_cons, List.map_nil, Option.map_some, Option.map_none, List.nil_append, ↓reduceIte, vcu, ↓vcd, pickOps_nil, pickOps_cons, pickO_some, List.getElem?_cons_succ, List.getElem?_cons_zero, Bool.not_false]
        refine tree_stop ?_
        refine ⟨trivial, ?_⟩
        simp -implicitDefEqProofs (disch := omega) only [List.any_cons, List.any_nil, Nat.reduceEqDiff, List.map_cons, List.map_nil, Option.map_some, Option.map_none, List.nil_append, ↓reduceIte, vcu, ↓vcd]
    · simp -implicitDefEqProofs (disch := omega) only [List.any_cons, List.any_nil, Nat.reduceEqDiff, List.map_cons, List.map_nil, Option.map_some, Option.map_none, List.nil_append, ↓reduceIte, vcu, ↓vcd]
      refine r_lit el29 (out := #[.int .i64 A, .int .i64 B, .int .i64 C]) (by first | kernel_rfl | (simp -implicitDefEqProofs (disch := omega) only [List.any_cons, List.any_nil, Nat.reduceEqDiff, List.map_cons, List.map_nil, Option.map_some, Option.map_none, List.nil_append, ↓reduceIte, vcu, ↓vcd]; kernel_rfl)) (by rfl) fun eb τ3 n3 s3 v3 => ?_
      replace v3 : τ3 eb = some ⟨tris [⟨A, B, C⟩], false⟩ := v3
      simp -implicitDefEqProofs (disch := omega) only [List.any_cons, List.any_nil, Nat.reduceEqDiff, List.map_cons, List.map_nil, Option.map_some, Option.map_none, List.nil_append, ↓reduceIte, vcu, ↓vcd]
      refine ⟨keep_of rfl (fun p hp => by simp only [List.mem_singleton] at hp; subst hp; exact .inr s3), tree_one rfl ?_⟩
      simp -implicitDefEqProofs (disch := omega) only [List.any_cons, List.any_nil, Nat.reduceEqDiff, List.map_cons, List.map_nil, Option.map_some, Option.map_none, List.nil_append, ↓reduceIte, vcu, ↓vcd]
      refine r_lit el29 (out := #[]) (by kernel_rfl) (by kernel_rfl) fun ea τ4 n4 s4 v4 => ?_
      simp -implicitDefEqProofs (disch := omega) only [List.any_cons, List.any_nil, Nat.reduceEqDiff, List.map_cons, List.map_nil, Option.map_some, Option.map_none, List.nil_append, ↓reduceIte, vcu, ↓vcd]
      have s4' := s3.trans s4
      refine ⟨keep_of rfl (fun p hp => by simp only [List.mem_singleton] at hp; subst hp; exact .inr s4'), tree_one rfl ?_⟩
      simp -implicitDefEqProofs (disch := omega) only [List.any_cons, List.any_nil, Nat.reduceEqDiff, List.map_cons, List.map_nil, Option.map_some, Option.map_none, List.nil_append, ↓reduceIte, vcu, ↓vcd]
      refine r_pushC (g := ea) (e := q) (o := u) (cs := []) (ds := cs) (m := cs.length) (len := 0) el29 (by omega) sl29 (by simp -implicitDefEqProofs (disch := omega) only [List.any_cons, List.any_nil, Nat.reduceEqDiff, List.map_cons, List.map_nil, Option.map_some, Option.map_none, List.nil_append, ↓reduceIte, vcu, ↓vcd]) v4 rfl (by simp -implicitDefEqProofs (disch := omega) only [List.any_cons, List.any_nil, Nat.reduceEqDiff, List.map_cons, List.map_nil, Option.map_some, Option.map_none, List.nil_append, ↓reduceIte, vcu, ↓vcd]) (hv.sub s4') rfl (by omega) fun gb τ5 n5 k5 v5 => ?_
      rw [List.nil_append] at v5
      simp -implicitDefEqProofs (disch := omega) only [List.any_cons, List.any_nil, Nat.reduceEqDiff, List.map_cons, List.map_nil, Option.map_some, Option.map_none, List.nil_append, ↓reduceIte, vcu, ↓vcd]
      have s5' : Sub τ τ5 := k5.sub s4' (free_sub s3 n4)
      refine ⟨keep_of rfl (fun p hp => by simp only [List.mem_singleton] at hp; subst hp; exact .inr s5'), tree_one rfl ?_⟩
      have v3' := k5.at (s4 _ _ v3) (ne_of' n4 v3)
      simp -implicitDefEqProofs (disch := omega) only [List.any_cons, List.any_nil, Nat.reduceEqDiff, List.map_cons, List.map_nil, Option.map_some, Option.map_none, List.nil_append, ↓reduceIte, vcu, ↓vcd]
      refine r_pushC (g := gb) (e := eb) (o := 0) (cs := cs) (ds := [⟨A, B, C⟩]) (m := 1) (len := cs.length) el29 (by omega) sl29 (by simp -implicitDefEqProofs (disch := omega) only [List.any_cons, List.any_nil, Nat.reduceEqDiff, List.map_cons, List.map_nil, Option.map_some, Option.map_none, List.nil_append, ↓reduceIte, vcu, ↓vcd, Nat.zero_add]) v5 rfl (by simp -implicitDefEqProofs (disch := omega) only [List.any_cons, List.any_nil, Nat.reduceEqDiff, List.map_cons, List.map_nil, Option.map_some, Option.map_none, List.nil_append, ↓reduceIte, vcu, ↓vcd]) (trisAt_own v3') rfl (by omega) fun gc9 τ9 n9 k9 v9 => ?_
      have s9 : Sub τ τ9 := fun z ob e => k9.at (s5' _ _ e) (ne_of' (free_sub s4' n5) e)
      have l9 := m3 τ9 (hs.trans s9)
      simp -implicitDefEqProofs (disch := omega) only [List.any_cons, List.any_nil, Nat.reduceEqDiff, List.map_cons, List.map_nil, Option.map_some, Option.map_none, List.nil_append, ↓reduceIte, vcu, ↓vcd]
      refine ⟨keep_of rfl (fun p hp => by simp only [List.mem_singleton] at hp; subst hp; exact .inr s9), tree_one rfl ?_⟩
      simp -implicitDefEqProofs (disch := omega) only [List.any_cons, List.any_nil, Nat.reduceEqDiff, List.map_cons, List.map_nil, Option.map_some, Option.map_none, List.nil_append, ↓reduceIte, vcu, ↓vcd, l9, co24]
      refine (hve2 τ9 gc9 v9).mono ?_
      rintro r τ10 ⟨rfl, e10⟩
      subst e10
      rw [dF]
      simp -implicitDefEqProofs (disch := omega) only [List.any_cons, List.any_nil, Nat.reduceEqDiff, List.map_cons, List.map_nil, Option.map_some, Option.map_none, List.nil_append, ↓reduceIte, vcu, ↓vcd, opK_some]
      refine ⟨keep_of rfl (fun p hp => by simp only [List.mem_singleton] at hp; subst hp; exact .inr s9), ?_⟩
      refine tree_quiets (fun _ => none) _ _ _ (fun _ _ _ _ => fun x ob e => by cases e) (by kernel_rfl) (by kernel_rfl) ?_
      simp -implicitDefEqProofs (disch := omega) only [List.any_cons, List.any_nil, Nat.reduceEqDiff, List.map_cons, List.map_nil, Option.map_some, Option.map_none, List.nil_append, ↓reduceIte, vcu, ↓vcd, pickOps_nil, pickOps_cons, pickO_some, List.getElem?_cons_succ, List.getElem?_cons_zero, Bool.not_false]
      refine tree_stop ?_
      refine ⟨trivial, ?_⟩
      simp -implicitDefEqProofs (disch := omega) only [List.any_cons, List.any_nil, Nat.reduceEqDiff, List.map_cons, List.map_nil, Option.map_some, Option.map_none, List.nil_append, ↓reduceIte, vcu, ↓vcd]
  rintro _ a' τ8 ⟨rfl, f2⟩
  simp -implicitDefEqProofs (disch := omega) only [List.any_cons, List.any_nil, Nat.reduceEqDiff, List.map_cons, List.map_nil, Option.map_some, Option.map_none, List.nil_append, ↓reduceIte, vcu, ↓vcd, f2]
  refine fin_one Try.results4 ?_
  simp -implicitDefEqProofs (disch := omega) only [List.any_cons, List.any_nil, Nat.reduceEqDiff, List.map_cons, List.map_nil, Option.map_some, Option.map_none, List.nil_append, ↓reduceIte, vcu, ↓vcd, f2]

open Go.ChangeShapes Go.WideShapes Go.ChangeAt Go.RowKit

set_option maxRecDepth 100000 in
theorem lifted4 (os : Os) (started : os.Started) (H : Type) (enc : TypeId × Value → H) :
    ReturnsInHanded {} Try.checked os 4 .any (Rows.fnCallsValidSpec.pre6 enc Try.prog Try.f4 Rows.fnCallsValidRow.domain false) (Rows.fnCallsValidSpec.post enc Try.prog Try.f4 false true false false) := by
  refine returnsInHanded_of_change (C := Try.checked) own started (by kernel_rfl) Try.func4
    (ChangeSpec.witness6 (enc := enc) (C := Try.checked) false ⟨#[], #[.slice none 0 0], []⟩ 8 (by kernel_rfl) (by kernel_rfl) (by kernel_rfl) (by kernel_rfl)) ?_
  intro W base args ds gs before hval hW _ _
  have hW' := hW
  obtain ⟨p, q, hA, hV, -, -, -⟩ := hW'
  rw [Try.params4] at hA hval
  obtain ⟨v0, vs0, d0, ds0, p0, q0, hargs, rfl, rfl, h0, r0⟩ := trodAll_cons hA
  obtain ⟨rfl, rfl, rfl⟩ := trodAll_nil r0
  obtain ⟨rfl, rfl⟩ := trodVars_none hV
  obtain rfl : args = #[v0] := by cases args; simp_all
  obtain ⟨β0, σ0, a0, zs0, L0, U0, S0, R0, I0, w0, m0⟩ := start_ints Try.underlying22 Try.underlying5 co5 (Start.start W) (hval 0 22 v0 rfl rfl) h0
  refine ((law4 σ0 a0 zs0 (I0) m0 w0).2 noProt β0 W [v0] S0.rel (.cons R0 (.nil _))).mono fun e W' h => ?_
  obtain ⟨β', r, r', σ', -, rfl, hr, hrel, rfl⟩ := h
  cases hr
  exact ⟨_, rfl, law_post laidOut hW rfl rfl (by rw [Try.params4]; intro t ht; simp only [List.mem_cons, List.not_mem_nil, or_false, or_self] at ht; rcases ht with rfl <;> exact ⟨by kernel_rfl, of_decide_eq_true (by kernel_rfl)⟩) rfl Try.underlying4 hrel.below⟩

theorem facts4 : joinedFacts Try.prog 4 Try.f4 Rows.fnCallsValidSpec Rows.fnCallsValidRow = true := by
  unfold joinedFacts
  rw [mayE, liftsE, makeE]
  kernel_rfl

theorem proved4 : Rows.FnCallsValidSaid :=
  OpenClaim.holds_of_wide 4 Try.f4 rfl rfl rfl rfl rfl rfl rfl ⟨rfl, rfl, rfl, rfl, rfl⟩ rfl rfl rfl rfl rfl (by kernel_rfl) Try.func4 facts4 (of_decide_eq_true (by kernel_rfl))
    (by unfold Func.isWrapper; first | (rw [if_pos (by decide +kernel)]; kernel_rfl) | (rw [if_neg (by decide +kernel)]; exact ⟨rfl, rfl⟩))
    (fun os started H enc _ => lifted4 os started H enc)


end Go.Proofs.Ytphacjkogompoaa
