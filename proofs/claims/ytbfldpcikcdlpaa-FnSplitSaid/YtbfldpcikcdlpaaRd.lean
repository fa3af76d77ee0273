/- The draws of traffic. -/
import Derived.Test.YtbfldpcikcdlpaaRc
set_option linter.unusedSimpArgs false
set_option linter.unusedVariables false
namespace Go.Proofs.Ytbfldpcikcdlpaa
open Go Go.Abs Go.RowKit
variable {w0 : World}

theorem OwnT.getL {σ0 σ : AHeap} {g2 g : Nat} {q : Nat → Nat} {rows : List (List Int)} (h : OwnT σ0 σ g2 q rows) (hne : g2 ≠ g) {i : Nat} (hi : i < rows.length) : ld (σ.upd g none) g2 (0 + i) = some (.slice (some ⟨q i, 0, none⟩) (rows.getD i []).length 1) := by
  rw [ld_upd_ne hne]; exact h.get hi

theorem traffic_k (β σ : AHeap) (g h o : Nat) (bs : List Int) (p n : Int) (hr : Rd β σ g h o bs p) (hp : 0 ≤ p ∧ p ≤ 100) (hn : 1 ≤ n ∧ n ≤ 1000) :
    ACall Try.prog w0 46 [.pointer (some ⟨g, 0, none⟩), .int .i64 n] σ fun r σ' => ∃ (g2 : Nat) (q : Nat → Nat) (rows : List (List Int)) (p' : Int), r = .slice (some ⟨g2, 0, none⟩) rows.length 1 ∧ OwnT σ σ' g2 q rows ∧ rows.length ≤ 7 ∧ (∀ i, i < rows.length → (rows.getD i []).length ≤ 6) ∧ Kept g σ σ' ∧ p ≤ p' ∧ p' ≤ p + 200 ∧ Rd β σ' g h o bs p' := by
  refine acall_go mixed Try.func46 rfl good46 ?_
  simp -implicitDefEqProofs (disch := omega) only [List.any_cons, List.any_nil, Nat.reduceEqDiff, List.map_cons, List.map_nil, Option.map_some, Option.map_none, List.nil_append, ↓reduceIte, vcu0, vcu1, vcu2, vcu3, vcu4, vcu5, vcu6, vcu7, vcu8, vcu9, vcu10, vcu11, vcu12, vcu13, vcu14, vcu15, vcu16, ↓vcd0, ↓vcd1, ↓vcd2, ↓vcd3]
  refine (even_k β σ g h o bs p hr (by omega)).mono ?_
  rintro r σ1 ⟨g2, q, rows, p1, rfl, hO1, hl6, hsq, hK1, a1, a2, hR1⟩
  obtain ⟨N, hN⟩ : ∃ N, rows.length = N := ⟨_, rfl⟩
  rw [hN] at hl6 hsq
  simp -implicitDefEqProofs (disch := omega) only [List.any_cons, List.any_nil, Nat.reduceEqDiff, List.map_cons, List.map_nil, Option.map_some, Option.map_none, List.nil_append, ↓reduceIte, vcu0, vcu1, vcu2, vcu3, vcu4, vcu5, vcu6, vcu7, vcu8, vcu9, vcu10, vcu11, vcu12, vcu13, vcu14, vcu15, vcu16, ↓vcd0, ↓vcd1, ↓vcd2, ↓vcd3, opK_some]
  refine (pick_at β σ1 g h o bs p1 3 hR1 (by omega) (by omega)).mono ?_
  rintro r σ2 ⟨z, rfl, hz0, hz1, hR2, hK2⟩
  have hO2 := hO1.kept hr.at_ hK2
  have hK02 := hK1.trans hK2
  have hgg : g2 ≠ g := ne_of hO2.new hr.at_
  by_cases hz : z = 0
  case' neg =>
    simp -implicitDefEqProofs (disch := omega) only [List.any_cons, List.any_nil, Nat.reduceEqDiff, List.map_cons, List.map_nil, Option.map_some, Option.map_none, List.nil_append, ↓reduceIte, vcu0, vcu1, vcu2, vcu3, vcu4, vcu5, vcu6, vcu7, vcu8, vcu9, vcu10, vcu11, vcu12, vcu13, vcu14, vcu15, vcu16, ↓vcd0, ↓vcd1, ↓vcd2, ↓vcd3, opK_some, hz]
    have h0 := True.intro
    have h1 := True.intro
    have h5 := hN
    obtain ⟨σ', rows', p', hN', hsq', hO, hK, a3, a4, hR⟩ : ∃ (σ' : AHeap) (rows' : List (List Int)) (p' : Int), rows'.length = N ∧ Sq N rows' ∧ OwnT σ σ' g2 q rows' ∧ Kept g σ σ' ∧ p ≤ p' ∧ p' ≤ p + 150 ∧ Rd β σ' g h o bs p' ∧ σ' = σ2 := ⟨σ2, rows, p1 + 1, hN, hsq, hO2, hK02, by omega, by omega, hR2, rfl⟩
    obtain ⟨hR, rfl⟩ := hR
  case' pos =>
    subst hz
    simp -implicitDefEqProofs (disch := omega) only [List.any_cons, List.any_nil, Nat.reduceEqDiff, List.map_cons, List.map_nil, Option.map_some, Option.map_none, List.nil_append, ↓reduceIte, vcu0, vcu1, vcu2, vcu3, vcu4, vcu5, vcu6, vcu7, vcu8, vcu9, vcu10, vcu11, vcu12, vcu13, vcu14, vcu15, vcu16, ↓vcd0, ↓vcd1, ↓vcd2, ↓vcd3, opK_some, decide_true]
    refine vc_loop_c mixed (by kernel_rfl) [0, 1, 5] (fun m a σ' => ∃ (k : Nat) (rows' : List (List Int)) (p' : Int), m + k = N ∧ a 6 = .int .i64 k ∧ rows'.length = N ∧ Sq N rows' ∧ OwnT σ σ' g2 q rows' ∧ Kept g σ σ' ∧ p ≤ p' ∧ p' ≤ p + 61 + 12 * k ∧ Rd β σ' g h o bs p') N
      ⟨0, rows, p1 + 1, by simp, rfl, hN, hsq, hO2, hK02, by omega, by omega, hR2⟩ ?_
    clear hO1 hO2 hK1 hK2 hK02 hR1 hR2 hsq
    rintro m a σ' hc ⟨k, rows', p', hk, h6, hN', hsq', hO, hK, a3, a4, hR⟩
    simp -implicitDefEqProofs (disch := omega) only [List.any_cons, List.any_nil, Nat.reduceEqDiff, List.map_cons, List.map_nil, Option.map_some, Option.map_none, List.nil_append, ↓reduceIte, vcu0, vcu1, vcu2, vcu3, vcu4, vcu5, vcu6, vcu7, vcu8, vcu9, vcu10, vcu11, vcu12, vcu13, vcu14, vcu15, vcu16, ↓vcd0, ↓vcd1, ↓vcd2, ↓vcd3, hN] at hc
    obtain ⟨h0, h1, h5, -⟩ := hc
    by_cases hlt : k < N
    case pos =>
      simp -implicitDefEqProofs (disch := omega) only [List.any_cons, List.any_nil, Nat.reduceEqDiff, List.map_cons, List.map_nil, Option.map_some, Option.map_none, List.nil_append, ↓reduceIte, vcu0, vcu1, vcu2, vcu3, vcu4, vcu5, vcu6, vcu7, vcu8, vcu9, vcu10, vcu11, vcu12, vcu13, vcu14, vcu15, vcu16, ↓vcd0, ↓vcd1, ↓vcd2, ↓vcd3, h0, h1, h5, h6]
      refine vc_loop_c mixed (by kernel_rfl) [0, 1, 5, 6] (fun m a σ' => ∃ (j : Nat) (rows' : List (List Int)) (p' : Int), m + j = N ∧ a 7 = .int .i64 j ∧ rows'.length = N ∧ Sq N rows' ∧ OwnT σ σ' g2 q rows' ∧ Kept g σ σ' ∧ p ≤ p' ∧ p' ≤ p + 61 + 12 * k + 2 * j ∧ Rd β σ' g h o bs p') N
        ⟨0, rows', p', by simp, rfl, hN', hsq', hO, hK, by omega, by omega, hR⟩ ?_
      clear hN' hsq' hO hK a3 a4 hR p' rows' σ'
      rintro m2 b σ' hc ⟨j, rows', p', hj, h7, hN', hsq', hO, hK, a3, a4, hR⟩
      simp -implicitDefEqProofs (disch := omega) only [List.any_cons, List.any_nil, Nat.reduceEqDiff, List.map_cons, List.map_nil, Option.map_some, Option.map_none, List.nil_append, ↓reduceIte, vcu0, vcu1, vcu2, vcu3, vcu4, vcu5, vcu6, vcu7, vcu8, vcu9, vcu10, vcu11, vcu12, vcu13, vcu14, vcu15, vcu16, ↓vcd0, ↓vcd1, ↓vcd2, ↓vcd3, h0, h1, h5, h6] at hc
      obtain ⟨c0, c1, c5, c6, -⟩ := hc
      by_cases hjl : j < N
      · simp -implicitDefEqProofs (disch := omega) only [List.any_cons, List.any_nil, Nat.reduceEqDiff, List.map_cons, List.map_nil, Option.map_some, Option.map_none, List.nil_append, ↓reduceIte, vcu0, vcu1, vcu2, vcu3, vcu4, vcu5, vcu6, vcu7, vcu8, vcu9, vcu10, vcu11, vcu12, vcu13, vcu14, vcu15, vcu16, ↓vcd0, ↓vcd1, ↓vcd2, ↓vcd3, c0, c1, c5, c6, h7]
        refine (pick_at β σ' g h o bs p' 4 hR (by omega) (by omega)).mono ?_
        rintro r σ3 ⟨y, rfl, hy0, hy1, hR3, hK3⟩
        have hO3 := hO.kept hr.at_ hK3
        have hK03 := hK.trans hK3
        by_cases hy : y = 0
        · subst hy
          simp -implicitDefEqProofs (disch := omega) only [List.any_cons, List.any_nil, Nat.reduceEqDiff, List.map_cons, List.map_nil, Option.map_some, Option.map_none, List.nil_append, ↓reduceIte, vcu0, vcu1, vcu2, vcu3, vcu4, vcu5, vcu6, vcu7, vcu8, vcu9, vcu10, vcu11, vcu12, vcu13, vcu14, vcu15, vcu16, ↓vcd0, ↓vcd1, ↓vcd2, ↓vcd3, opK_some, decide_true, c0, c1, c5, c6, h7]
          have hrow := hO3.getL hgg (i := k) (by omega)
          have hrl : (rows'.getD k []).length = N := hsq'.2 k hlt
          rw [hrl] at hrow
          refine region_tree mixed (quiets [0, 1, 2, 3, 4, 5] (.one 6 (quiets [7] (.one 8 .stop)))) [([0, 1, 2, 3, 4, 5], Sub (σ3.upd g none))] (by kernel_rfl) (by kernel_rfl) (fun p hp => by
            simp only [List.mem_cons, List.not_mem_nil, or_false] at hp
            subst hp; exact sub_erase _ _) ?_
          refine tree_quiets (σ3.upd g none) _ _ _ sf1 (by kernel_rfl) (by kernel_rfl) ?_
          simp -implicitDefEqProofs (disch := omega) only [List.any_cons, List.any_nil, Nat.reduceEqDiff, List.map_cons, List.map_nil, Option.map_some, Option.map_none, List.nil_append, ↓reduceIte, vcu0, vcu1, vcu2, vcu3, vcu4, vcu5, vcu6, vcu7, vcu8, vcu9, vcu10, vcu11, vcu12, vcu13, vcu14, vcu15, vcu16, ↓vcd0, ↓vcd1, ↓vcd2, ↓vcd3, pickOps_nil, pickOps_cons, pickO_some, List.getElem?_cons_succ, List.getElem?_cons_zero, c0, c1, c5, c6, h7, hrow]
          refine tree_one rfl ?_
          simp -implicitDefEqProofs (disch := omega) only [List.any_cons, List.any_nil, Nat.reduceEqDiff, List.map_cons, List.map_nil, Option.map_some, Option.map_none, List.nil_append, ↓reduceIte, vcu0, vcu1, vcu2, vcu3, vcu4, vcu5, vcu6, vcu7, vcu8, vcu9, vcu10, vcu11, vcu12, vcu13, vcu14, vcu15, vcu16, ↓vcd0, ↓vcd1, ↓vcd2, ↓vcd3]
          refine (pick_at β σ3 g h o bs (p' + 1) 4 hR3 (by omega) (by omega)).mono ?_
          rintro r σ4 ⟨x, rfl, hx0, hx1, hR4, hK4⟩
          have hO4 := hO3.kept hr.at_ hK4
          simp -implicitDefEqProofs (disch := omega) only [List.any_cons, List.any_nil, Nat.reduceEqDiff, List.map_cons, List.map_nil, Option.map_some, Option.map_none, List.nil_append, ↓reduceIte, vcu0, vcu1, vcu2, vcu3, vcu4, vcu5, vcu6, vcu7, vcu8, vcu9, vcu10, vcu11, vcu12, vcu13, vcu14, vcu15, vcu16, ↓vcd0, ↓vcd1, ↓vcd2, ↓vcd3, opK_some]
          refine ⟨keep_of rfl (fun p hp => by
            simp only [List.mem_cons, List.not_mem_nil, or_false] at hp
            subst hp; exact .inr (less_kept hK4)), ?_⟩
          refine tree_quiets (fun _ => none) _ _ _ sf0 (by kernel_rfl) (by kernel_rfl) ?_
          simp -implicitDefEqProofs (disch := omega) only [List.any_cons, List.any_nil, Nat.reduceEqDiff, List.map_cons, List.map_nil, Option.map_some, Option.map_none, List.nil_append, ↓reduceIte, vcu0, vcu1, vcu2, vcu3, vcu4, vcu5, vcu6, vcu7, vcu8, vcu9, vcu10, vcu11, vcu12, vcu13, vcu14, vcu15, vcu16, ↓vcd0, ↓vcd1, ↓vcd2, ↓vcd3, pickOps_nil, pickOps_cons, pickO_some, List.getElem?_cons_succ, List.getElem?_cons_zero]
          refine tree_one rfl ?_
          refine r_setI (g := q k) (i := 0 + j) (v := x) (by simp -implicitDefEqProofs (disch := omega) only [List.any_cons, List.any_nil, Nat.reduceEqDiff, List.map_cons, List.map_nil, Option.map_some, Option.map_none, List.nil_append, ↓reduceIte, vcu0, vcu1, vcu2, vcu3, vcu4, vcu5, vcu6, vcu7, vcu8, vcu9, vcu10, vcu11, vcu12, vcu13, vcu14, vcu15, vcu16, ↓vcd0, ↓vcd1, ↓vcd2, ↓vcd3]) (by simp -implicitDefEqProofs (disch := omega) only [List.any_cons, List.any_nil, Nat.reduceEqDiff, List.map_cons, List.map_nil, Option.map_some, Option.map_none, List.nil_append, ↓reduceIte, vcu0, vcu1, vcu2, vcu3, vcu4, vcu5, vcu6, vcu7, vcu8, vcu9, vcu10, vcu11, vcu12, vcu13, vcu14, vcu15, vcu16, ↓vcd0, ↓vcd1, ↓vcd2, ↓vcd3]) co3 (hO4.row k (by omega)) (by omega) fun τ5 k5 e5 => ?_
          rw [Nat.zero_add] at e5
          simp -implicitDefEqProofs (disch := omega) only [List.any_cons, List.any_nil, Nat.reduceEqDiff, List.map_cons, List.map_nil, Option.map_some, Option.map_none, List.nil_append, ↓reduceIte, vcu0, vcu1, vcu2, vcu3, vcu4, vcu5, vcu6, vcu7, vcu8, vcu9, vcu10, vcu11, vcu12, vcu13, vcu14, vcu15, vcu16, ↓vcd0, ↓vcd1, ↓vcd2, ↓vcd3]
          refine ⟨keep_of rfl (fun p hp => by
            simp only [List.mem_cons, List.not_mem_nil, or_false] at hp
            subst hp; exact .inl (by kernel_rfl)), tree_stop ?_⟩
          have hqg : q k ≠ g := ne_of (hO4.free k (by omega)) hr.at_
          simp -implicitDefEqProofs (disch := omega) only [List.any_cons, List.any_nil, Nat.reduceEqDiff, List.map_cons, List.map_nil, Option.map_some, Option.map_none, List.nil_append, ↓reduceIte, vcu0, vcu1, vcu2, vcu3, vcu4, vcu5, vcu6, vcu7, vcu8, vcu9, vcu10, vcu11, vcu12, vcu13, vcu14, vcu15, vcu16, ↓vcd0, ↓vcd1, ↓vcd2, ↓vcd3, h7]
          refine ⟨?_, m2 - 1, by omega, j + 1, _, p' + 1 + 1, by omega, by simp, ?_, ?_, hO4.write (by omega) (by simp) k5 e5, kept_put2 (hK03.trans hK4) k5 (hO4.free k (by omega)), by omega, by omega, hR4.put k5 hqg (free_sub hr.sub (hO4.free k (by omega)))⟩
          · simp [c0, c1, c5, c6, h0, h1, h5, h6]
          · simp [hN']
          · refine ⟨by simp [hN'], fun i hi => ?_⟩
            rw [getD_setL (by omega)]
            split
            · rw [List.length_set]; exact hrl
            · exact hsq'.2 i hi
        · simp -implicitDefEqProofs (disch := omega) only [List.any_cons, List.any_nil, Nat.reduceEqDiff, List.map_cons, List.map_nil, Option.map_some, Option.map_none, List.nil_append, ↓reduceIte, vcu0, vcu1, vcu2, vcu3, vcu4, vcu5, vcu6, vcu7, vcu8, vcu9, vcu10, vcu11, vcu12, vcu13, vcu14, vcu15, vcu16, ↓vcd0, ↓vcd1, ↓vcd2, ↓vcd3, opK_some, hy, c0, c1, c5, c6, h7]
          refine ⟨?_, m2 - 1, by omega, j + 1, rows', p' + 1, by omega, by simp, hN', hsq', hO3, hK03, by omega, by omega, hR3⟩
          first | trivial | simp [c0, c1, c5, c6, h0, h1, h5, h6]
      · simp -implicitDefEqProofs (disch := omega) only [List.any_cons, List.any_nil, Nat.reduceEqDiff, List.map_cons, List.map_nil, Option.map_some, Option.map_none, List.nil_append, ↓reduceIte, vcu0, vcu1, vcu2, vcu3, vcu4, vcu5, vcu6, vcu7, vcu8, vcu9, vcu10, vcu11, vcu12, vcu13, vcu14, vcu15, vcu16, ↓vcd0, ↓vcd1, ↓vcd2, ↓vcd3, c0, c1, c5, c6, h7]
        refine ⟨?_, m - 1, by omega, k + 1, rows', p', by omega, by simp, hN', hsq', hO, hK, by omega, by omega, hR⟩
        first | trivial | simp [c0, c1, c5, h0, h1, h5, hN]
    simp -implicitDefEqProofs (disch := omega) only [List.any_cons, List.any_nil, Nat.reduceEqDiff, List.map_cons, List.map_nil, Option.map_some, Option.map_none, List.nil_append, ↓reduceIte, vcu0, vcu1, vcu2, vcu3, vcu4, vcu5, vcu6, vcu7, vcu8, vcu9, vcu10, vcu11, vcu12, vcu13, vcu14, vcu15, vcu16, ↓vcd0, ↓vcd1, ↓vcd2, ↓vcd3, h0, h1, h5, h6]
    replace a4 : p' ≤ p + 150 := by omega
  all_goals
    refine (odd_at β σ' g h o bs p' n hR (by omega) (by omega)).mono ?_
    rintro r σ3 ⟨b, rfl, hR3, hK3⟩
    have hO3 := hO.kept hr.at_ hK3
    have hK03 := hK.trans hK3
    cases b with
    | false =>
      simp -implicitDefEqProofs (disch := omega) only [List.any_cons, List.any_nil, Nat.reduceEqDiff, List.map_cons, List.map_nil, Option.map_some, Option.map_none, List.nil_append, ↓reduceIte, vcu0, vcu1, vcu2, vcu3, vcu4, vcu5, vcu6, vcu7, vcu8, vcu9, vcu10, vcu11, vcu12, vcu13, vcu14, vcu15, vcu16, ↓vcd0, ↓vcd1, ↓vcd2, ↓vcd3, opK_some, h0, h1, h5]
      refine fin_one Try.results46 ⟨g2, q, rows', p' + 1, ?_, hO3, by omega, fun i hi => ?_, hK03, by omega, by omega, hR3⟩
      · simp -implicitDefEqProofs (disch := omega) only [List.any_cons, List.any_nil, Nat.reduceEqDiff, List.map_cons, List.map_nil, Option.map_some, Option.map_none, List.nil_append, ↓reduceIte, vcu0, vcu1, vcu2, vcu3, vcu4, vcu5, vcu6, vcu7, vcu8, vcu9, vcu10, vcu11, vcu12, vcu13, vcu14, vcu15, vcu16, ↓vcd0, ↓vcd1, ↓vcd2, ↓vcd3, h5]
        rw [hN']
      · rw [hsq'.2 i (by omega)]; exact hl6
    | true =>
      by_cases hN0 : 0 < N
      case' pos =>
        simp -implicitDefEqProofs (disch := omega) only [List.any_cons, List.any_nil, Nat.reduceEqDiff, List.map_cons, List.map_nil, Option.map_some, Option.map_none, List.nil_append, ↓reduceIte, vcu0, vcu1, vcu2, vcu3, vcu4, vcu5, vcu6, vcu7, vcu8, vcu9, vcu10, vcu11, vcu12, vcu13, vcu14, vcu15, vcu16, ↓vcd0, ↓vcd1, ↓vcd2, ↓vcd3, opK_some, h0, h1, h5]
        refine (pick_at β σ3 g h o bs (p' + 1) 2 hR3 (by omega) (by omega)).mono ?_
        rintro r σ4 ⟨y, rfl, hy0, hy1, hR4, hK4⟩
        have hO4 := hO3.kept hr.at_ hK4
        have hK04 := hK03.trans hK4
        by_cases hy : y = 0
        case pos =>
          subst hy
          simp -implicitDefEqProofs (disch := omega) only [List.any_cons, List.any_nil, Nat.reduceEqDiff, List.map_cons, List.map_nil, Option.map_some, Option.map_none, List.nil_append, ↓reduceIte, vcu0, vcu1, vcu2, vcu3, vcu4, vcu5, vcu6, vcu7, vcu8, vcu9, vcu10, vcu11, vcu12, vcu13, vcu14, vcu15, vcu16, ↓vcd0, ↓vcd1, ↓vcd2, ↓vcd3, opK_some, decide_true, h0, h1, h5]
          have hrow : ld (σ4.upd g none) g2 (0 + Int.toNat 0) = some (.slice (some ⟨q 0, 0, none⟩) N 1) := by
            rw [← hsq'.2 0 hN0]; exact hO4.getL hgg (i := 0) (by omega)
          have hr0 := hO4.row 0 (by omega)
          have hl0 := hsq'.2 0 hN0
          have hqg : q 0 ≠ g := ne_of (hO4.free 0 (by omega)) hr.at_
          refine region_tree mixed (quiets [0, 1, 2, 4] (.two 3 (.one 5 (.one 6 (.one 7 (.one 8 (.one 9 .stop))))) 5 (.one 3 (.one 6 (.one 7 (.one 8 (.one 9 .stop))))))) [([0, 1, 2, 4], Sub (σ4.upd g none))] (by kernel_rfl) (by kernel_rfl) (fun p hp => by
            simp only [List.mem_cons, List.not_mem_nil, or_false] at hp
            subst hp; exact sub_erase _ _) ?_
          refine tree_quiets (σ4.upd g none) _ _ _ sf1 (by kernel_rfl) (by kernel_rfl) ?_
          simp -implicitDefEqProofs (disch := omega) only [List.any_cons, List.any_nil, Nat.reduceEqDiff, List.map_cons, List.map_nil, Option.map_some, Option.map_none, List.nil_append, ↓reduceIte, vcu0, vcu1, vcu2, vcu3, vcu4, vcu5, vcu6, vcu7, vcu8, vcu9, vcu10, vcu11, vcu12, vcu13, vcu14, vcu15, vcu16, ↓vcd0, ↓vcd1, ↓vcd2, ↓vcd3, pickOps_nil, pickOps_cons, pickO_some, List.getElem?_cons_succ, List.getElem?_cons_zero, h0, h1, h5, hrow]
          refine tree_two rfl rfl ?_ ?_
          case' refine_1 =>
            refine r_lit el27 (out := #[.int .i64 (-1), .int .i64 7]) (by simp -implicitDefEqProofs (disch := omega) only [List.any_cons, List.any_nil, Nat.reduceEqDiff, List.map_cons, List.map_nil, Option.map_some, Option.map_none, List.nil_append, ↓reduceIte, vcu0, vcu1, vcu2, vcu3, vcu4, vcu5, vcu6, vcu7, vcu8, vcu9, vcu10, vcu11, vcu12, vcu13, vcu14, vcu15, vcu16, ↓vcd0, ↓vcd1, ↓vcd2, ↓vcd3]; kernel_rfl) (by kernel_rfl) fun e7 τ5 n5 s5 v5 => ?_
            simp -implicitDefEqProofs (disch := omega) only [List.any_cons, List.any_nil, Nat.reduceEqDiff, List.map_cons, List.map_nil, Option.map_some, Option.map_none, List.nil_append, ↓reduceIte, vcu0, vcu1, vcu2, vcu3, vcu4, vcu5, vcu6, vcu7, vcu8, vcu9, vcu10, vcu11, vcu12, vcu13, vcu14, vcu15, vcu16, ↓vcd0, ↓vcd1, ↓vcd2, ↓vcd3]
            refine ⟨keep_of rfl (fun p hp => by
              simp only [List.mem_cons, List.not_mem_nil, or_false] at hp
              subst hp; exact .inr ((sub_erase _ _).trans s5)), tree_one rfl ?_⟩
            simp -implicitDefEqProofs (disch := omega) only [List.any_cons, List.any_nil, Nat.reduceEqDiff, List.map_cons, List.map_nil, Option.map_some, Option.map_none, List.nil_append, ↓reduceIte, vcu0, vcu1, vcu2, vcu3, vcu4, vcu5, vcu6, vcu7, vcu8, vcu9, vcu10, vcu11, vcu12, vcu13, vcu14, vcu15, vcu16, ↓vcd0, ↓vcd1, ↓vcd2, ↓vcd3]
            refine (pick_at β τ5 g h o bs (p' + 1 + 1) 2 (hR4.sub' s5) (by omega) (by omega)).mono ?_
            rintro r σ6 ⟨x, rfl, hx0, hx1, hR6, hK6⟩
            simp -implicitDefEqProofs (disch := omega) only [List.any_cons, List.any_nil, Nat.reduceEqDiff, List.map_cons, List.map_nil, Option.map_some, Option.map_none, List.nil_append, ↓reduceIte, vcu0, vcu1, vcu2, vcu3, vcu4, vcu5, vcu6, vcu7, vcu8, vcu9, vcu10, vcu11, vcu12, vcu13, vcu14, vcu15, vcu16, ↓vcd0, ↓vcd1, ↓vcd2, ↓vcd3, opK_some]
            refine ⟨keep_of rfl (fun p hp => by
              simp only [List.mem_cons, List.not_mem_nil, or_false] at hp
              subst hp; exact .inr (less_kept (s5.kept.trans hK6))), ?_⟩
            have hO6 := (hO4.sub s5).kept hr.at_ hK6
            have hK06 := (hK04.trans s5.kept).trans hK6
            have he6 : σ6 e7 = some ⟨ints .i64 [-1, 7], false⟩ := hK6.at v5 (ne_of n5 hR4.at_)
          case' refine_2 =>
            simp -implicitDefEqProofs (disch := omega) only [List.any_cons, List.any_nil, Nat.reduceEqDiff, List.map_cons, List.map_nil, Option.map_some, Option.map_none, List.nil_append, ↓reduceIte, vcu0, vcu1, vcu2, vcu3, vcu4, vcu5, vcu6, vcu7, vcu8, vcu9, vcu10, vcu11, vcu12, vcu13, vcu14, vcu15, vcu16, ↓vcd0, ↓vcd1, ↓vcd2, ↓vcd3]
            refine (pick_at β σ4 g h o bs (p' + 1 + 1) 2 hR4 (by omega) (by omega)).mono ?_
            rintro r σ5 ⟨x, rfl, hx0, hx1, hR5, hK5⟩
            simp -implicitDefEqProofs (disch := omega) only [List.any_cons, List.any_nil, Nat.reduceEqDiff, List.map_cons, List.map_nil, Option.map_some, Option.map_none, List.nil_append, ↓reduceIte, vcu0, vcu1, vcu2, vcu3, vcu4, vcu5, vcu6, vcu7, vcu8, vcu9, vcu10, vcu11, vcu12, vcu13, vcu14, vcu15, vcu16, ↓vcd0, ↓vcd1, ↓vcd2, ↓vcd3, opK_some]
            refine ⟨keep_of rfl (fun p hp => by
              simp only [List.mem_cons, List.not_mem_nil, or_false] at hp
              subst hp; exact .inr (less_kept hK5)), tree_one rfl ?_⟩
            refine r_lit el27 (out := #[.int .i64 (-1), .int .i64 7]) (by simp -implicitDefEqProofs (disch := omega) only [List.any_cons, List.any_nil, Nat.reduceEqDiff, List.map_cons, List.map_nil, Option.map_some, Option.map_none, List.nil_append, ↓reduceIte, vcu0, vcu1, vcu2, vcu3, vcu4, vcu5, vcu6, vcu7, vcu8, vcu9, vcu10, vcu11, vcu12, vcu13, vcu14, vcu15, vcu16, ↓vcd0, ↓vcd1, ↓vcd2, ↓vcd3]; kernel_rfl) (by kernel_rfl) fun e7 σ6 n5 s5 v5 => ?_
            simp -implicitDefEqProofs (disch := omega) only [List.any_cons, List.any_nil, Nat.reduceEqDiff, List.map_cons, List.map_nil, Option.map_some, Option.map_none, List.nil_append, ↓reduceIte, vcu0, vcu1, vcu2, vcu3, vcu4, vcu5, vcu6, vcu7, vcu8, vcu9, vcu10, vcu11, vcu12, vcu13, vcu14, vcu15, vcu16, ↓vcd0, ↓vcd1, ↓vcd2, ↓vcd3]
            refine ⟨keep_of rfl (fun p hp => by
              simp only [List.mem_cons, List.not_mem_nil, or_false] at hp
              subst hp; exact .inr (less_kept (hK5.trans s5.kept))), ?_⟩
            have hO6 := (hO4.kept hr.at_ hK5).sub s5
            have hK06 := (hK04.trans hK5).trans s5.kept
            have he6 : σ6 e7 = some ⟨ints .i64 [-1, 7], false⟩ := v5
            have hR6 := hR5.sub' s5
          all_goals
            refine tree_one rfl ?_
            simp -implicitDefEqProofs (disch := omega) only [List.any_cons, List.any_nil, Nat.reduceEqDiff, List.map_cons, List.map_nil, Option.map_some, Option.map_none, List.nil_append, ↓reduceIte, vcu0, vcu1, vcu2, vcu3, vcu4, vcu5, vcu6, vcu7, vcu8, vcu9, vcu10, vcu11, vcu12, vcu13, vcu14, vcu15, vcu16, ↓vcd0, ↓vcd1, ↓vcd2, ↓vcd3]
            refine ⟨.inl rfl, tree_one rfl ?_⟩
            have hlx := own_at he6 (i := x.toNat) (by simp; omega)
            generalize ([-1, 7] : List Int).getD x.toNat 0 = w at hlx
            simp -implicitDefEqProofs (disch := omega) only [List.any_cons, List.any_nil, Nat.reduceEqDiff, List.map_cons, List.map_nil, Option.map_some, Option.map_none, List.nil_append, ↓reduceIte, vcu0, vcu1, vcu2, vcu3, vcu4, vcu5, vcu6, vcu7, vcu8, vcu9, vcu10, vcu11, vcu12, vcu13, vcu14, vcu15, vcu16, ↓vcd0, ↓vcd1, ↓vcd2, ↓vcd3, hlx]
            refine ⟨.inl rfl, tree_one rfl ?_⟩
            simp -implicitDefEqProofs (disch := omega) only [List.any_cons, List.any_nil, Nat.reduceEqDiff, List.map_cons, List.map_nil, Option.map_some, Option.map_none, List.nil_append, ↓reduceIte, vcu0, vcu1, vcu2, vcu3, vcu4, vcu5, vcu6, vcu7, vcu8, vcu9, vcu10, vcu11, vcu12, vcu13, vcu14, vcu15, vcu16, ↓vcd0, ↓vcd1, ↓vcd2, ↓vcd3]
            refine ⟨.inl rfl, tree_one rfl ?_⟩
            refine r_setI (g := q 0) (i := 0) (v := w) (by simp -implicitDefEqProofs (disch := omega) only [List.any_cons, List.any_nil, Nat.reduceEqDiff, List.map_cons, List.map_nil, Option.map_some, Option.map_none, List.nil_append, ↓reduceIte, vcu0, vcu1, vcu2, vcu3, vcu4, vcu5, vcu6, vcu7, vcu8, vcu9, vcu10, vcu11, vcu12, vcu13, vcu14, vcu15, vcu16, ↓vcd0, ↓vcd1, ↓vcd2, ↓vcd3]; rfl) (by simp -implicitDefEqProofs (disch := omega) only [List.any_cons, List.any_nil, Nat.reduceEqDiff, List.map_cons, List.map_nil, Option.map_some, Option.map_none, List.nil_append, ↓reduceIte, vcu0, vcu1, vcu2, vcu3, vcu4, vcu5, vcu6, vcu7, vcu8, vcu9, vcu10, vcu11, vcu12, vcu13, vcu14, vcu15, vcu16, ↓vcd0, ↓vcd1, ↓vcd2, ↓vcd3]) co3 (hO6.row 0 (by omega)) (by omega) fun τ8 k8 e8 => ?_
            simp -implicitDefEqProofs (disch := omega) only [List.any_cons, List.any_nil, Nat.reduceEqDiff, List.map_cons, List.map_nil, Option.map_some, Option.map_none, List.nil_append, ↓reduceIte, vcu0, vcu1, vcu2, vcu3, vcu4, vcu5, vcu6, vcu7, vcu8, vcu9, vcu10, vcu11, vcu12, vcu13, vcu14, vcu15, vcu16, ↓vcd0, ↓vcd1, ↓vcd2, ↓vcd3]
            refine ⟨keep_of rfl (fun p hp => by
              simp only [List.mem_cons, List.not_mem_nil, or_false] at hp
              subst hp; exact .inl (by kernel_rfl)), tree_stop ?_⟩
            simp -implicitDefEqProofs (disch := omega) only [List.any_cons, List.any_nil, Nat.reduceEqDiff, List.map_cons, List.map_nil, Option.map_some, Option.map_none, List.nil_append, ↓reduceIte, vcu0, vcu1, vcu2, vcu3, vcu4, vcu5, vcu6, vcu7, vcu8, vcu9, vcu10, vcu11, vcu12, vcu13, vcu14, vcu15, vcu16, ↓vcd0, ↓vcd1, ↓vcd2, ↓vcd3, h5]
            refine fin_one Try.results46 ⟨g2, q, _, p' + 1 + 1 + 1, ?_, hO6.write (by omega) (by simp) k8 e8, by simp; omega, fun i hi => ?_, kept_put2 hK06 k8 (hO6.free 0 (by omega)), by omega, by omega, hR6.put k8 hqg (free_sub hr.sub (hO6.free 0 (by omega)))⟩
            · simp -implicitDefEqProofs (disch := omega) only [List.any_cons, List.any_nil, Nat.reduceEqDiff, List.map_cons, List.map_nil, Option.map_some, Option.map_none, List.nil_append, ↓reduceIte, vcu0, vcu1, vcu2, vcu3, vcu4, vcu5, vcu6, vcu7, vcu8, vcu9, vcu10, vcu11, vcu12, vcu13, vcu14, vcu15, vcu16, ↓vcd0, ↓vcd1, ↓vcd2, ↓vcd3, List.length_set]
              rw [hN']
            · rw [List.length_set] at hi
              rw [getD_setL (by omega)]
              split
              · rw [List.length_set]; omega
              · rw [hsq'.2 i (by omega)]; exact hl6
        simp -implicitDefEqProofs (disch := omega) only [List.any_cons, List.any_nil, Nat.reduceEqDiff, List.map_cons, List.map_nil, Option.map_some, Option.map_none, List.nil_append, ↓reduceIte, vcu0, vcu1, vcu2, vcu3, vcu4, vcu5, vcu6, vcu7, vcu8, vcu9, vcu10, vcu11, vcu12, vcu13, vcu14, vcu15, vcu16, ↓vcd0, ↓vcd1, ↓vcd2, ↓vcd3, opK_some, hy, h0, h1, h5]
        obtain ⟨p4, hp4, b4⟩ : ∃ p4 : Int, p' + 1 + 1 = p4 ∧ p4 ≤ p + 160 ∧ p ≤ p4 := ⟨_, rfl, by omega, by omega⟩
        rw [hp4] at hR4
      case' neg =>
        simp -implicitDefEqProofs (disch := omega) only [List.any_cons, List.any_nil, Nat.reduceEqDiff, List.map_cons, List.map_nil, Option.map_some, Option.map_none, List.nil_append, ↓reduceIte, vcu0, vcu1, vcu2, vcu3, vcu4, vcu5, vcu6, vcu7, vcu8, vcu9, vcu10, vcu11, vcu12, vcu13, vcu14, vcu15, vcu16, ↓vcd0, ↓vcd1, ↓vcd2, ↓vcd3, opK_some, h0, h1, h5]
        obtain ⟨σ4, hO4, hK04, p4, hR4, b4⟩ : ∃ σ4, OwnT σ σ4 g2 q rows' ∧ Kept g σ σ4 ∧ ∃ p4 : Int, Rd β σ4 g h o bs p4 ∧ (p4 ≤ p + 160 ∧ p ≤ p4) ∧ σ4 = σ3 := ⟨σ3, hO3, hK03, p' + 1, hR3, ⟨by omega, by omega⟩, rfl⟩
        obtain ⟨b4, rfl⟩ := b4
      all_goals
        have hd : ∀ k, σ4 k = none → σ k = none := kept_dom hK04 hR4.at_
        refine r_lit el27 (out := #[.int .i64 1]) (by simp -implicitDefEqProofs (disch := omega) only [List.any_cons, List.any_nil, Nat.reduceEqDiff, List.map_cons, List.map_nil, Option.map_some, Option.map_none, List.nil_append, ↓reduceIte, vcu0, vcu1, vcu2, vcu3, vcu4, vcu5, vcu6, vcu7, vcu8, vcu9, vcu10, vcu11, vcu12, vcu13, vcu14, vcu15, vcu16, ↓vcd0, ↓vcd1, ↓vcd2, ↓vcd3]; kernel_rfl) (by kernel_rfl) fun e5 τ5 n5 s5 v5 => ?_
        refine r_lit el23 (out := #[.slice (some ⟨e5, 0, none⟩) 1 1]) (by simp -implicitDefEqProofs (disch := omega) only [List.any_cons, List.any_nil, Nat.reduceEqDiff, List.map_cons, List.map_nil, Option.map_some, Option.map_none, List.nil_append, ↓reduceIte, vcu0, vcu1, vcu2, vcu3, vcu4, vcu5, vcu6, vcu7, vcu8, vcu9, vcu10, vcu11, vcu12, vcu13, vcu14, vcu15, vcu16, ↓vcd0, ↓vcd1, ↓vcd2, ↓vcd3]; kernel_rfl) (by kernel_rfl) fun e6 τ6 n6 s6 v6 => ?_
        refine r_pushK (β := σ) (len := N) (g := g2) (e := e6) (r := e5) (q := q) (rows := rows') (row := [1]) el23 (by omega) sl23 (by simp -implicitDefEqProofs (disch := omega) only [List.any_cons, List.any_nil, Nat.reduceEqDiff, List.map_cons, List.map_nil, Option.map_some, Option.map_none, List.nil_append, ↓reduceIte, vcu0, vcu1, vcu2, vcu3, vcu4, vcu5, vcu6, vcu7, vcu8, vcu9, vcu10, vcu11, vcu12, vcu13, vcu14, vcu15, vcu16, ↓vcd0, ↓vcd1, ↓vcd2, ↓vcd3, h5]) hN' ((hO4.sub s5).sub s6) (by simp -implicitDefEqProofs (disch := omega) only [List.any_cons, List.any_nil, Nat.reduceEqDiff, List.map_cons, List.map_nil, Option.map_some, Option.map_none, List.nil_append, ↓reduceIte, vcu0, vcu1, vcu2, vcu3, vcu4, vcu5, vcu6, vcu7, vcu8, vcu9, vcu10, vcu11, vcu12, vcu13, vcu14, vcu15, vcu16, ↓vcd0, ↓vcd1, ↓vcd2, ↓vcd3]) (by rw [v6]; simp [rowV]) (s6 _ _ v5) (hd _ n5) (ne_of n5 hO4.at_) (fun i hi => ne_of' n5 (hO4.row i hi)) (dom_sub (s5.trans s6) hd) (by omega) fun g7 q7 τ7 hO7 k7 n7 => ?_
        simp -implicitDefEqProofs (disch := omega) only [List.any_cons, List.any_nil, Nat.reduceEqDiff, List.map_cons, List.map_nil, Option.map_some, Option.map_none, List.nil_append, ↓reduceIte, vcu0, vcu1, vcu2, vcu3, vcu4, vcu5, vcu6, vcu7, vcu8, vcu9, vcu10, vcu11, vcu12, vcu13, vcu14, vcu15, vcu16, ↓vcd0, ↓vcd1, ↓vcd2, ↓vcd3]
        refine fin_one Try.results46 ⟨g7, q7, rows' ++ [[1]], p4, ?_, hO7, by simp; omega, fun i hi => ?_, kept_put2 (hK04.trans (s5.trans s6).kept) k7 hO4.new, by omega, by omega, (hR4.sub' (s5.trans s6)).put k7 hgg (free_sub hr.sub hO4.new)⟩
        · simp -implicitDefEqProofs (disch := omega) only [List.any_cons, List.any_nil, Nat.reduceEqDiff, List.map_cons, List.map_nil, Option.map_some, Option.map_none, List.nil_append, ↓reduceIte, vcu0, vcu1, vcu2, vcu3, vcu4, vcu5, vcu6, vcu7, vcu8, vcu9, vcu10, vcu11, vcu12, vcu13, vcu14, vcu15, vcu16, ↓vcd0, ↓vcd1, ↓vcd2, ↓vcd3, List.length_append, List.length_singleton, hN']
        · rw [getD_appL]
          split
          · simp
          · rw [hsq'.2 i (by simp at hi; omega)]; exact hl6
end Go.Proofs.Ytbfldpcikcdlpaa
