/- The draw of a network: all of it. -/
import Derived.Test.YtnkpoflhdfchjaaNr
import Derived.Test.YtnkpoflhdfchjaaNk
set_option linter.unusedSimpArgs false
set_option linter.unusedVariables false
namespace Go.Proofs.Ytnkpoflhdfchjaa
open Go Go.Abs Go.RowKit
variable {w0 : World}

set_option maxHeartbeats 1600000 in
theorem net_k (β0 σ : AHeap) (g h o : Nat) (bs : List Int) (p n : Int) (hr : Rd β0 σ g h o bs p) (hp : 0 ≤ p ∧ p ≤ 1000) (hn : 1 ≤ n ∧ n ≤ 1000) :
    ACall Try.prog w0 73 [.pointer (some ⟨g, 0, none⟩), .int .i64 n] σ fun r σ' => ∃ (lines : Int) (v : Value) (net : List (Int × Int)) (p' : Int), r = .tuple #[.int .i64 lines, v] ∧ -1 ≤ lines ∧ lines ≤ 7 ∧ net.length ≤ 1010 ∧ p ≤ p' ∧ p' ≤ p + 4000 ∧ Dn β0 σ σ' g h o bs p' v net := by
  have h0b := hr.less
  have hsg := hr.at_
  refine acall_go mixed Try.func73 rfl good73 fun pr => ?_
  simp -implicitDefEqProofs (disch := omega) only [List.any_cons, List.any_nil, Nat.reduceEqDiff, List.map_cons, List.map_nil, Option.map_some, Option.map_none, List.nil_append, ↓reduceIte, vcu0, vcu1, vcu2, vcu3, vcu4, vcu5, vcu6, vcu7, vcu8, vcu9, vcu10, vcu11, vcu12, vcu13, vcu14, vcu15, vcu16, vcu17, vcu18, vcu19, vcu20, vcu21, vcu22, vcu23, vcu24, vcu25, vcu26, ↓vcd0, ↓vcd1, ↓vcd2, ↓vcd3]
  refine (pick_at β0 σ g h o bs p 6 hr (by omega) (by omega)).mono ?_
  rintro r σ1 ⟨z, rfl, hz0, hz1, hR1, hK1⟩
  obtain ⟨lines, hlines⟩ : ∃ l : Int, l = 1 + z := ⟨_, rfl⟩
  have hl6 : 1 ≤ lines ∧ lines ≤ 6 := by omega
  simp -implicitDefEqProofs (disch := omega) only [List.any_cons, List.any_nil, Nat.reduceEqDiff, List.map_cons, List.map_nil, Option.map_some, Option.map_none, List.nil_append, ↓reduceIte, vcu0, vcu1, vcu2, vcu3, vcu4, vcu5, vcu6, vcu7, vcu8, vcu9, vcu10, vcu11, vcu12, vcu13, vcu14, vcu15, vcu16, vcu17, vcu18, vcu19, vcu20, vcu21, vcu22, vcu23, vcu24, vcu25, vcu26, ↓vcd0, ↓vcd1, ↓vcd2, ↓vcd3, opK_some, ← hlines]
  clear hlines hz0 hz1
  refine r_lit el23 (out := #[]) (by kernel_rfl) (by kernel_rfl) fun e0 τ1 n0 s0 v0 => ?_
  have hD0 : Dn β0 σ τ1 g h o bs (p + 1) (.slice (some ⟨e0, 0, none⟩) 0 2) [] :=
    Dn.put (len := 0) (cs := []) ⟨hR1, hK1, .inl ⟨rfl, rfl⟩, by simp⟩ h0b hsg (keptB_sub s0) v0 n0 rfl (by simp)
  simp -implicitDefEqProofs (disch := omega) only [List.any_cons, List.any_nil, Nat.reduceEqDiff, List.map_cons, List.map_nil, Option.map_some, Option.map_none, List.nil_append, ↓reduceIte, vcu0, vcu1, vcu2, vcu3, vcu4, vcu5, vcu6, vcu7, vcu8, vcu9, vcu10, vcu11, vcu12, vcu13, vcu14, vcu15, vcu16, vcu17, vcu18, vcu19, vcu20, vcu21, vcu22, vcu23, vcu24, vcu25, vcu26, ↓vcd0, ↓vcd1, ↓vcd2, ↓vcd3]
  refine (pick_at β0 τ1 g h o bs (p + 1) 5 hD0.rd (by omega) (by omega)).mono ?_
  rintro r τ2 ⟨z, rfl, hz0, hz1, hR2, hK2⟩
  replace hD0 := hD0.next hsg hR2 hK2
  have hRl : InR lines := by unfold InR; omega
  have hpp : p ≤ p + 1 + 1 ∧ p + 1 + 1 ≤ p + 100 := by omega
  by_cases e0' : z = 0
  case' pos =>
    simp -implicitDefEqProofs (disch := omega) only [List.any_cons, List.any_nil, Nat.reduceEqDiff, List.map_cons, List.map_nil, Option.map_some, Option.map_none, List.nil_append, ↓reduceIte, vcu0, vcu1, vcu2, vcu3, vcu4, vcu5, vcu6, vcu7, vcu8, vcu9, vcu10, vcu11, vcu12, vcu13, vcu14, vcu15, vcu16, vcu17, vcu18, vcu19, vcu20, vcu21, vcu22, vcu23, vcu24, vcu25, vcu26, ↓vcd0, ↓vcd1, ↓vcd2, ↓vcd3, opK_some, e0', decide_true]
    refine (specBub_at τ2 lines hRl).mono ?_
    rintro v τ ⟨s3, w3⟩
    have hD := hD0.new s3 w3 (bub_small lines)
    have hnl : (bubV lines).length ≤ 1000 := by have := bubV_length lines; omega
    generalize bubV lines = net at hD hnl
    clear hD0 w3 s3 hR2 hK2 hR1 hK1 s0 n0 v0 e0'
    have h0 := True.intro
    have h1 := True.intro
    have h6 := True.intro
    have h7 := True.intro
    generalize p + 1 + 1 = p1 at hD hpp
    rw [opK_some]
    simp -implicitDefEqProofs (disch := omega) only [List.any_cons, List.any_nil, Nat.reduceEqDiff, List.map_cons, List.map_nil, Option.map_some, Option.map_none, List.nil_append, ↓reduceIte, vcu0, vcu1, vcu2, vcu3, vcu4, vcu5, vcu6, vcu7, vcu8, vcu9, vcu10, vcu11, vcu12, vcu13, vcu14, vcu15, vcu16, vcu17, vcu18, vcu19, vcu20, vcu21, vcu22, vcu23, vcu24, vcu25, vcu26, ↓vcd0, ↓vcd1, ↓vcd2, ↓vcd3, decide_true]
  case' neg =>
    by_cases e1' : z = 1
    case' pos =>
      simp -implicitDefEqProofs (disch := omega) only [List.any_cons, List.any_nil, Nat.reduceEqDiff, List.map_cons, List.map_nil, Option.map_some, Option.map_none, List.nil_append, ↓reduceIte, vcu0, vcu1, vcu2, vcu3, vcu4, vcu5, vcu6, vcu7, vcu8, vcu9, vcu10, vcu11, vcu12, vcu13, vcu14, vcu15, vcu16, vcu17, vcu18, vcu19, vcu20, vcu21, vcu22, vcu23, vcu24, vcu25, vcu26, ↓vcd0, ↓vcd1, ↓vcd2, ↓vcd3, opK_some, e1', decide_true]
      refine (specBri_at τ2 lines hRl).mono ?_
      rintro v τ ⟨s3, w3⟩
      have hD := hD0.new s3 w3 (bri_small lines)
      have hnl : (briV lines).length ≤ 1000 := by have := briV_length lines; omega
      generalize briV lines = net at hD hnl
      clear hD0 w3 s3 hR2 hK2 hR1 hK1 s0 n0 v0 e0' e1'
      have h0 := True.intro
      have h1 := True.intro
      have h6 := True.intro
      have h7 := True.intro
      generalize p + 1 + 1 = p1 at hD hpp
      rw [opK_some]
      simp -implicitDefEqProofs (disch := omega) only [List.any_cons, List.any_nil, Nat.reduceEqDiff, List.map_cons, List.map_nil, Option.map_some, Option.map_none, List.nil_append, ↓reduceIte, vcu0, vcu1, vcu2, vcu3, vcu4, vcu5, vcu6, vcu7, vcu8, vcu9, vcu10, vcu11, vcu12, vcu13, vcu14, vcu15, vcu16, vcu17, vcu18, vcu19, vcu20, vcu21, vcu22, vcu23, vcu24, vcu25, vcu26, ↓vcd0, ↓vcd1, ↓vcd2, ↓vcd3, decide_true]
    case' neg =>
      by_cases e2' : z = 2
      case' pos =>
        simp -implicitDefEqProofs (disch := omega) only [List.any_cons, List.any_nil, Nat.reduceEqDiff, List.map_cons, List.map_nil, Option.map_some, Option.map_none, List.nil_append, ↓reduceIte, vcu0, vcu1, vcu2, vcu3, vcu4, vcu5, vcu6, vcu7, vcu8, vcu9, vcu10, vcu11, vcu12, vcu13, vcu14, vcu15, vcu16, vcu17, vcu18, vcu19, vcu20, vcu21, vcu22, vcu23, vcu24, vcu25, vcu26, ↓vcd0, ↓vcd1, ↓vcd2, ↓vcd3, opK_some, e2', decide_true]
        refine (specMrg_at τ2 lines hRl).mono ?_
        rintro v τ ⟨s3, w3⟩
        have hD := hD0.new s3 w3.own (mrg_small lines)
        have hnl := mrgV_length lines
        generalize mrgV lines = net at hD hnl
        clear hD0 w3 s3 hR2 hK2 hR1 hK1 s0 n0 v0 e0' e1' e2'
        have h0 := True.intro
        have h1 := True.intro
        have h6 := True.intro
        have h7 := True.intro
        generalize p + 1 + 1 = p1 at hD hpp
        rw [opK_some]
        simp -implicitDefEqProofs (disch := omega) only [List.any_cons, List.any_nil, Nat.reduceEqDiff, List.map_cons, List.map_nil, Option.map_some, Option.map_none, List.nil_append, ↓reduceIte, vcu0, vcu1, vcu2, vcu3, vcu4, vcu5, vcu6, vcu7, vcu8, vcu9, vcu10, vcu11, vcu12, vcu13, vcu14, vcu15, vcu16, vcu17, vcu18, vcu19, vcu20, vcu21, vcu22, vcu23, vcu24, vcu25, vcu26, ↓vcd0, ↓vcd1, ↓vcd2, ↓vcd3, decide_true]
      case' neg =>
        simp -implicitDefEqProofs (disch := omega) only [List.any_cons, List.any_nil, Nat.reduceEqDiff, List.map_cons, List.map_nil, Option.map_some, Option.map_none, List.nil_append, ↓reduceIte, vcu0, vcu1, vcu2, vcu3, vcu4, vcu5, vcu6, vcu7, vcu8, vcu9, vcu10, vcu11, vcu12, vcu13, vcu14, vcu15, vcu16, vcu17, vcu18, vcu19, vcu20, vcu21, vcu22, vcu23, vcu24, vcu25, vcu26, ↓vcd0, ↓vcd1, ↓vcd2, ↓vcd3, opK_some]
        refine (pick_at β0 τ2 g h o bs (p + 1 + 1) 12 hD0.rd (by omega) (by omega)).mono ?_
        rintro r τ3 ⟨zk, rfl, hk0, hk1, hR3, hK3⟩
        have hD3 := hD0.next hsg hR3 hK3
        obtain ⟨zk, rfl⟩ : ∃ x : Nat, zk = x := ⟨zk.toNat, by omega⟩
        clear hD0 hR3 hK3 hR2 hK2 hR1 hK1 s0 n0 v0 e0' e1' e2' hpp
        simp -implicitDefEqProofs (disch := omega) only [List.any_cons, List.any_nil, Nat.reduceEqDiff, List.map_cons, List.map_nil, Option.map_some, Option.map_none, List.nil_append, ↓reduceIte, vcu0, vcu1, vcu2, vcu3, vcu4, vcu5, vcu6, vcu7, vcu8, vcu9, vcu10, vcu11, vcu12, vcu13, vcu14, vcu15, vcu16, vcu17, vcu18, vcu19, vcu20, vcu21, vcu22, vcu23, vcu24, vcu25, vcu26, ↓vcd0, ↓vcd1, ↓vcd2, ↓vcd3, opK_some]
        refine vc_loop_c mixed (by kernel_rfl) [0, 1, 6] (fun m a τ => ∃ (v : Value) (net : List (Int × Int)) (p' : Int), a 8 = .int .i64 m ∧ a 7 = v ∧ net.length + m ≤ 12 ∧ p ≤ p' ∧ p' ≤ p + 3 + 2 * net.length ∧ Dn β0 σ τ g h o bs p' v net) zk ⟨_, [], _, rfl, rfl, by simp; omega, by omega, by simp; omega, hD3⟩ ?_
        clear hD3
        rintro m a τ hc ⟨v, net, p', h8, h7, hnm, hp1, hp2, hD⟩
        simp -implicitDefEqProofs (disch := omega) only [List.any_cons, List.any_nil, Nat.reduceEqDiff, List.map_cons, List.map_nil, Option.map_some, Option.map_none, List.nil_append, ↓reduceIte, vcu0, vcu1, vcu2, vcu3, vcu4, vcu5, vcu6, vcu7, vcu8, vcu9, vcu10, vcu11, vcu12, vcu13, vcu14, vcu15, vcu16, vcu17, vcu18, vcu19, vcu20, vcu21, vcu22, vcu23, vcu24, vcu25, vcu26, ↓vcd0, ↓vcd1, ↓vcd2, ↓vcd3] at hc
        obtain ⟨h0, h1, h6, -⟩ := hc
        by_cases hm : 0 < m
        case' pos =>
          by_cases hl1 : 1 < lines
          case pos =>
            simp -implicitDefEqProofs (disch := omega) only [List.any_cons, List.any_nil, Nat.reduceEqDiff, List.map_cons, List.map_nil, Option.map_some, Option.map_none, List.nil_append, ↓reduceIte, vcu0, vcu1, vcu2, vcu3, vcu4, vcu5, vcu6, vcu7, vcu8, vcu9, vcu10, vcu11, vcu12, vcu13, vcu14, vcu15, vcu16, vcu17, vcu18, vcu19, vcu20, vcu21, vcu22, vcu23, vcu24, vcu25, vcu26, ↓vcd0, ↓vcd1, ↓vcd2, ↓vcd3, h0, h6, h8]
            refine (pick_at β0 τ g h o bs p' (lines - 1) hD.rd (by omega) (by omega)).mono ?_
            rintro r τ4 ⟨zb, rfl, hb0, hb1, hR4, hK4⟩
            replace hD := hD.next hsg hR4 hK4
            simp -implicitDefEqProofs (disch := omega) only [List.any_cons, List.any_nil, Nat.reduceEqDiff, List.map_cons, List.map_nil, Option.map_some, Option.map_none, List.nil_append, ↓reduceIte, vcu0, vcu1, vcu2, vcu3, vcu4, vcu5, vcu6, vcu7, vcu8, vcu9, vcu10, vcu11, vcu12, vcu13, vcu14, vcu15, vcu16, vcu17, vcu18, vcu19, vcu20, vcu21, vcu22, vcu23, vcu24, vcu25, vcu26, ↓vcd0, ↓vcd1, ↓vcd2, ↓vcd3, opK_some, h0, h7]
            refine (pick_at β0 τ4 g h o bs (p' + 1) (1 + zb) hD.rd (by omega) (by omega)).mono ?_
            rintro r τ5 ⟨za, rfl, ha0, ha1, hR5, hK5⟩
            replace hD := hD.next hsg hR5 hK5
            simp -implicitDefEqProofs (disch := omega) only [List.any_cons, List.any_nil, Nat.reduceEqDiff, List.map_cons, List.map_nil, Option.map_some, Option.map_none, List.nil_append, ↓reduceIte, vcu0, vcu1, vcu2, vcu3, vcu4, vcu5, vcu6, vcu7, vcu8, vcu9, vcu10, vcu11, vcu12, vcu13, vcu14, vcu15, vcu16, vcu17, vcu18, vcu19, vcu20, vcu21, vcu22, vcu23, vcu24, vcu25, vcu26, ↓vcd0, ↓vcd1, ↓vcd2, ↓vcd3, opK_some]
            rw [r_build]
            refine ⟨(_, #[.int .i64 za, .int .i64 (1 + zb)]), ⟨ze28, by simp -implicitDefEqProofs (disch := omega) only [List.any_cons, List.any_nil, Nat.reduceEqDiff, List.map_cons, List.map_nil, Option.map_some, Option.map_none, List.nil_append, ↓reduceIte, vcu0, vcu1, vcu2, vcu3, vcu4, vcu5, vcu6, vcu7, vcu8, vcu9, vcu10, vcu11, vcu12, vcu13, vcu14, vcu15, vcu16, vcu17, vcu18, vcu19, vcu20, vcu21, vcu22, vcu23, vcu24, vcu25, vcu26, ↓vcd0, ↓vcd1, ↓vcd2, ↓vcd3]; kernel_rfl⟩, ?_⟩
            simp -implicitDefEqProofs (disch := omega) only [List.any_cons, List.any_nil, Nat.reduceEqDiff, List.map_cons, List.map_nil, Option.map_some, Option.map_none, List.nil_append, ↓reduceIte, vcu0, vcu1, vcu2, vcu3, vcu4, vcu5, vcu6, vcu7, vcu8, vcu9, vcu10, vcu11, vcu12, vcu13, vcu14, vcu15, vcu16, vcu17, vcu18, vcu19, vcu20, vcu21, vcu22, vcu23, vcu24, vcu25, vcu26, ↓vcd0, ↓vcd1, ↓vcd2, ↓vcd3]
            refine r_lit el23 (out := #[.int .i64 za, .int .i64 (1 + zb)]) (by simp -implicitDefEqProofs (disch := omega) only [List.any_cons, List.any_nil, Nat.reduceEqDiff, List.map_cons, List.map_nil, Option.map_some, Option.map_none, List.nil_append, ↓reduceIte, vcu0, vcu1, vcu2, vcu3, vcu4, vcu5, vcu6, vcu7, vcu8, vcu9, vcu10, vcu11, vcu12, vcu13, vcu14, vcu15, vcu16, vcu17, vcu18, vcu19, vcu20, vcu21, vcu22, vcu23, vcu24, vcu25, vcu26, ↓vcd0, ↓vcd1, ↓vcd2, ↓vcd3]; kernel_rfl) (by rfl) fun e τ6 n6 s6 v6 => ?_
            refine r_pushPK (β := σ) (e := e) (o := 0) (m := 1) (ds := [(za, 1 + zb)]) el23 (by omega) sl23 rfl (by simp -implicitDefEqProofs (disch := omega) only [List.any_cons, List.any_nil, Nat.reduceEqDiff, List.map_cons, List.map_nil, Option.map_some, Option.map_none, List.nil_append, ↓reduceIte, vcu0, vcu1, vcu2, vcu3, vcu4, vcu5, vcu6, vcu7, vcu8, vcu9, vcu10, vcu11, vcu12, vcu13, vcu14, vcu15, vcu16, vcu17, vcu18, vcu19, vcu20, vcu21, vcu22, vcu23, vcu24, vcu25, vcu26, ↓vcd0, ↓vcd1, ↓vcd2, ↓vcd3, h7]; exact hD.own.sub s6) (by simp -implicitDefEqProofs (disch := omega) only [List.any_cons, List.any_nil, Nat.reduceEqDiff, List.map_cons, List.map_nil, Option.map_some, Option.map_none, List.nil_append, ↓reduceIte, vcu0, vcu1, vcu2, vcu3, vcu4, vcu5, vcu6, vcu7, vcu8, vcu9, vcu10, vcu11, vcu12, vcu13, vcu14, vcu15, vcu16, vcu17, vcu18, vcu19, vcu20, vcu21, vcu22, vcu23, vcu24, vcu25, vcu26, ↓vcd0, ↓vcd1, ↓vcd2, ↓vcd3]) (pairsAt_own v6) rfl (by omega) fun g7 τ7 k7 n7 v7 => ?_
            have hD7 := Dn.put (len := net.length + 1) hD h0b hsg ((keptB_sub s6).trans k7) v7 (free_sub s6 n7) (by simp) (by
              intro c hc
              rcases List.mem_append.1 hc with hc | hc
              · exact hD.fits c hc
              · rw [List.mem_singleton] at hc; subst hc; dsimp only; omega)
            simp -implicitDefEqProofs (disch := omega) only [List.any_cons, List.any_nil, Nat.reduceEqDiff, List.map_cons, List.map_nil, Option.map_some, Option.map_none, List.nil_append, ↓reduceIte, vcu0, vcu1, vcu2, vcu3, vcu4, vcu5, vcu6, vcu7, vcu8, vcu9, vcu10, vcu11, vcu12, vcu13, vcu14, vcu15, vcu16, vcu17, vcu18, vcu19, vcu20, vcu21, vcu22, vcu23, vcu24, vcu25, vcu26, ↓vcd0, ↓vcd1, ↓vcd2, ↓vcd3, h0, h1, h6, h8]
            exact ⟨⟨trivial, trivial, trivial, trivial⟩, m - 1, by omega, _, _, p' + 1 + 1, by congr 1; omega, rfl, by simp; omega, by omega, by simp; omega, hD7⟩
          case' neg =>
            have hnl : net.length ≤ 1000 := by omega
            have hpp : p ≤ p' ∧ p' ≤ p + 100 := by omega
            clear hp1 hp2
            generalize p' = p1 at hD hpp
            simp -implicitDefEqProofs (disch := omega) only [List.any_cons, List.any_nil, Nat.reduceEqDiff, List.map_cons, List.map_nil, Option.map_some, Option.map_none, List.nil_append, ↓reduceIte, vcu0, vcu1, vcu2, vcu3, vcu4, vcu5, vcu6, vcu7, vcu8, vcu9, vcu10, vcu11, vcu12, vcu13, vcu14, vcu15, vcu16, vcu17, vcu18, vcu19, vcu20, vcu21, vcu22, vcu23, vcu24, vcu25, vcu26, ↓vcd0, ↓vcd1, ↓vcd2, ↓vcd3, h0, h1, h6, h8]
            clear hl1
        case' neg =>
          have hnl : net.length ≤ 1000 := by omega
          have hpp : p ≤ p' ∧ p' ≤ p + 100 := by omega
          clear hp1 hp2
          generalize p' = p1 at hD hpp
          simp -implicitDefEqProofs (disch := omega) only [List.any_cons, List.any_nil, Nat.reduceEqDiff, List.map_cons, List.map_nil, Option.map_some, Option.map_none, List.nil_append, ↓reduceIte, vcu0, vcu1, vcu2, vcu3, vcu4, vcu5, vcu6, vcu7, vcu8, vcu9, vcu10, vcu11, vcu12, vcu13, vcu14, vcu15, vcu16, vcu17, vcu18, vcu19, vcu20, vcu21, vcu22, vcu23, vcu24, vcu25, vcu26, ↓vcd0, ↓vcd1, ↓vcd2, ↓vcd3, h0, h1, h6, h8]
  all_goals
    refine vc_loop_c mixed (by kernel_rfl) [0, 1, 6] (fun m a τ => ∃ (k : Nat) (v : Value) (net : List (Int × Int)) (p' : Int), m = net.length - k ∧ a 10 = .int .i64 k ∧ a 7 = v ∧ net.length ≤ 1000 ∧ k ≤ net.length + 1 ∧ p ≤ p' ∧ p' ≤ p + 100 + k ∧ Dn β0 σ τ g h o bs p' v net) net.length ⟨0, v, net, p1, by omega, rfl, by first | rfl | exact h7, hnl, by omega, hpp.1, by omega, hD⟩ ?_
    clear hD hnl hpp h7
    rintro m a τ hc ⟨k, v, net, p', rfl, h10, h7, hnl, hkl, hp1, hp2, hD⟩
    simp -implicitDefEqProofs (disch := omega) only [List.any_cons, List.any_nil, Nat.reduceEqDiff, List.map_cons, List.map_nil, Option.map_some, Option.map_none, List.nil_append, ↓reduceIte, vcu0, vcu1, vcu2, vcu3, vcu4, vcu5, vcu6, vcu7, vcu8, vcu9, vcu10, vcu11, vcu12, vcu13, vcu14, vcu15, vcu16, vcu17, vcu18, vcu19, vcu20, vcu21, vcu22, vcu23, vcu24, vcu25, vcu26, ↓vcd0, ↓vcd1, ↓vcd2, ↓vcd3, h0, h1, h6] at hc
    obtain ⟨h0', h1', h6', -⟩ := hc
    have hlen := own_len hD.own
    by_cases hlt : k < net.length
    case pos =>
      obtain ⟨-, hnil⟩ | ⟨g2, hv, hg2, hn2⟩ := hD.own
      · subst hnil; simp at hlt
      subst hv
      simp -implicitDefEqProofs (disch := omega) only [List.any_cons, List.any_nil, Nat.reduceEqDiff, List.map_cons, List.map_nil, Option.map_some, Option.map_none, List.nil_append, ↓reduceIte, vcu0, vcu1, vcu2, vcu3, vcu4, vcu5, vcu6, vcu7, vcu8, vcu9, vcu10, vcu11, vcu12, vcu13, vcu14, vcu15, vcu16, vcu17, vcu18, vcu19, vcu20, vcu21, vcu22, vcu23, vcu24, vcu25, vcu26, ↓vcd0, ↓vcd1, ↓vcd2, ↓vcd3, h0', h7, h10]
      refine (pick_at β0 τ g h o bs p' 16 hD.rd (by omega) (by omega)).mono ?_
      rintro r τ4 ⟨zc, rfl, hc0, hc1, hR4, hK4⟩
      replace hD := hD.next hsg hR4 hK4
      have e9 : ((k : Int) + 1).toNat = k + 1 := by omega
      have hg4 : τ4 g2 = some ⟨pairs net, false⟩ := hK4.at hg2 (ne_of hn2 hsg)
      by_cases hz : zc = 0
      · simp -implicitDefEqProofs (disch := omega) only [List.any_cons, List.any_nil, Nat.reduceEqDiff, List.map_cons, List.map_nil, Option.map_some, Option.map_none, List.nil_append, ↓reduceIte, vcu0, vcu1, vcu2, vcu3, vcu4, vcu5, vcu6, vcu7, vcu8, vcu9, vcu10, vcu11, vcu12, vcu13, vcu14, vcu15, vcu16, vcu17, vcu18, vcu19, vcu20, vcu21, vcu22, vcu23, vcu24, vcu25, vcu26, ↓vcd0, ↓vcd1, ↓vcd2, ↓vcd3, opK_some, hz, decide_true, h0', h1', h6', h7, h10]
        refine region_tree mixed (quiets [1, 2, 3, 5, 6, 7, 8] (.one 0 (.one 4 (.one 9 (.one 10 .stop))))) [] (by kernel_rfl) (by kernel_rfl) (fun p hp => absurd hp (by simp)) ?_
        refine tree_quiets (fun _ => none) _ _ _ (fun _ _ _ _ => fun x ob e => by cases e) (by kernel_rfl) (by kernel_rfl) ?_
        simp -implicitDefEqProofs (disch := omega) only [List.any_cons, List.any_nil, Nat.reduceEqDiff, List.map_cons, List.map_nil, Option.map_some, Option.map_none, List.nil_append, ↓reduceIte, vcu0, vcu1, vcu2, vcu3, vcu4, vcu5, vcu6, vcu7, vcu8, vcu9, vcu10, vcu11, vcu12, vcu13, vcu14, vcu15, vcu16, vcu17, vcu18, vcu19, vcu20, vcu21, vcu22, vcu23, vcu24, vcu25, vcu26, ↓vcd0, ↓vcd1, ↓vcd2, ↓vcd3, pickOps_nil, pickOps_cons, pickO_some, List.getElem?_cons_succ, List.getElem?_cons_zero, h7, h10]
        refine tree_one rfl ?_
        refine r_lit el23 (out := #[]) (by kernel_rfl) (by kernel_rfl) fun e τ5 n5 s5 v5 => ?_
        simp -implicitDefEqProofs (disch := omega) only [List.any_cons, List.any_nil, Nat.reduceEqDiff, List.map_cons, List.map_nil, Option.map_some, Option.map_none, List.nil_append, ↓reduceIte, vcu0, vcu1, vcu2, vcu3, vcu4, vcu5, vcu6, vcu7, vcu8, vcu9, vcu10, vcu11, vcu12, vcu13, vcu14, vcu15, vcu16, vcu17, vcu18, vcu19, vcu20, vcu21, vcu22, vcu23, vcu24, vcu25, vcu26, ↓vcd0, ↓vcd1, ↓vcd2, ↓vcd3]
        refine ⟨keep_of rfl (fun p hp => absurd hp (by simp)), tree_one rfl ?_⟩
        refine r_pushPK (β := τ4) (v := .slice (some ⟨e, 0, none⟩) 0 2) (e := g2) (o := 0) (m := k) (cs := []) (ds := net.take k) el23 (by omega) sl23 (by simp -implicitDefEqProofs (disch := omega) only [List.any_cons, List.any_nil, Nat.reduceEqDiff, List.map_cons, List.map_nil, Option.map_some, Option.map_none, List.nil_append, ↓reduceIte, vcu0, vcu1, vcu2, vcu3, vcu4, vcu5, vcu6, vcu7, vcu8, vcu9, vcu10, vcu11, vcu12, vcu13, vcu14, vcu15, vcu16, vcu17, vcu18, vcu19, vcu20, vcu21, vcu22, vcu23, vcu24, vcu25, vcu26, ↓vcd0, ↓vcd1, ↓vcd2, ↓vcd3]) (.inr ⟨e, rfl, v5, n5⟩) (by simp -implicitDefEqProofs (disch := omega) only [List.any_cons, List.any_nil, Nat.reduceEqDiff, List.map_cons, List.map_nil, Option.map_some, Option.map_none, List.nil_append, ↓reduceIte, vcu0, vcu1, vcu2, vcu3, vcu4, vcu5, vcu6, vcu7, vcu8, vcu9, vcu10, vcu11, vcu12, vcu13, vcu14, vcu15, vcu16, vcu17, vcu18, vcu19, vcu20, vcu21, vcu22, vcu23, vcu24, vcu25, vcu26, ↓vcd0, ↓vcd1, ↓vcd2, ↓vcd3, Int.toNat_natCast]) (pairsAt_take (pairsAt_own (s5 _ _ hg4)) k) (by simp; omega) (by simp; omega) fun g6 τ6 k6 n6 v6 => ?_
        simp -implicitDefEqProofs (disch := omega) only [List.any_cons, List.any_nil, Nat.reduceEqDiff, List.map_cons, List.map_nil, Option.map_some, Option.map_none, List.nil_append, ↓reduceIte, vcu0, vcu1, vcu2, vcu3, vcu4, vcu5, vcu6, vcu7, vcu8, vcu9, vcu10, vcu11, vcu12, vcu13, vcu14, vcu15, vcu16, vcu17, vcu18, vcu19, vcu20, vcu21, vcu22, vcu23, vcu24, vcu25, vcu26, ↓vcd0, ↓vcd1, ↓vcd2, ↓vcd3]
        refine ⟨keep_of rfl (fun p hp => absurd hp (by simp)), tree_one rfl ?_⟩
        have s6 : Sub τ4 τ6 := fun x ob e => k6 x ob (by rw [e]; simp) (s5 _ _ e)
        refine r_pushPK (β := τ4) (e := g2) (o := 0 + (k + 1) * 2) (m := net.length - (k + 1)) (cs := [] ++ net.take k) (ds := net.drop (k + 1)) el23 (by omega) sl23 rfl (.inr ⟨g6, by simp -implicitDefEqProofs (disch := omega) only [List.any_cons, List.any_nil, Nat.reduceEqDiff, List.map_cons, List.map_nil, Option.map_some, Option.map_none, List.nil_append, ↓reduceIte, vcu0, vcu1, vcu2, vcu3, vcu4, vcu5, vcu6, vcu7, vcu8, vcu9, vcu10, vcu11, vcu12, vcu13, vcu14, vcu15, vcu16, vcu17, vcu18, vcu19, vcu20, vcu21, vcu22, vcu23, vcu24, vcu25, vcu26, ↓vcd0, ↓vcd1, ↓vcd2, ↓vcd3]; simp; omega, v6, free_sub s5 n6⟩) (by simp -implicitDefEqProofs (disch := omega) only [List.any_cons, List.any_nil, Nat.reduceEqDiff, List.map_cons, List.map_nil, Option.map_some, Option.map_none, List.nil_append, ↓reduceIte, vcu0, vcu1, vcu2, vcu3, vcu4, vcu5, vcu6, vcu7, vcu8, vcu9, vcu10, vcu11, vcu12, vcu13, vcu14, vcu15, vcu16, vcu17, vcu18, vcu19, vcu20, vcu21, vcu22, vcu23, vcu24, vcu25, vcu26, ↓vcd0, ↓vcd1, ↓vcd2, ↓vcd3, e9]) (pairsAt_drop (pairsAt_own (s6 _ _ hg4)) (k + 1)) (by simp) (by simp; omega) fun g7 τ7 k7 n7 v7 => ?_
        simp -implicitDefEqProofs (disch := omega) only [List.any_cons, List.any_nil, Nat.reduceEqDiff, List.map_cons, List.map_nil, Option.map_some, Option.map_none, List.nil_append, ↓reduceIte, vcu0, vcu1, vcu2, vcu3, vcu4, vcu5, vcu6, vcu7, vcu8, vcu9, vcu10, vcu11, vcu12, vcu13, vcu14, vcu15, vcu16, vcu17, vcu18, vcu19, vcu20, vcu21, vcu22, vcu23, vcu24, vcu25, vcu26, ↓vcd0, ↓vcd1, ↓vcd2, ↓vcd3]
        refine ⟨keep_of rfl (fun p hp => absurd hp (by simp)), tree_one rfl ?_⟩
        simp -implicitDefEqProofs (disch := omega) only [List.any_cons, List.any_nil, Nat.reduceEqDiff, List.map_cons, List.map_nil, Option.map_some, Option.map_none, List.nil_append, ↓reduceIte, vcu0, vcu1, vcu2, vcu3, vcu4, vcu5, vcu6, vcu7, vcu8, vcu9, vcu10, vcu11, vcu12, vcu13, vcu14, vcu15, vcu16, vcu17, vcu18, vcu19, vcu20, vcu21, vcu22, vcu23, vcu24, vcu25, vcu26, ↓vcd0, ↓vcd1, ↓vcd2, ↓vcd3]
        refine ⟨.inl rfl, tree_stop ?_⟩
        have s7 : Sub τ4 τ7 := fun x ob e => k7 x ob (by rw [e]; simp) (s6 _ _ e)
        have hD7 := Dn.put (len := ([] ++ net.take k).length + (net.length - (k + 1))) hD h0b hsg (keptB_sub s7) v7 (free_sub s6 n7) (by simp) (by
          intro c hc
          rcases List.mem_append.1 hc with hc | hc
          · exact hD.fits c (List.mem_of_mem_take (by simpa using hc))
          · exact hD.fits c (List.mem_of_mem_drop hc))
        have hl7 : ([] ++ net.take k ++ net.drop (k + 1)).length = net.length - 1 := by simp; omega
        simp -implicitDefEqProofs (disch := omega) only [List.any_cons, List.any_nil, Nat.reduceEqDiff, List.map_cons, List.map_nil, Option.map_some, Option.map_none, List.nil_append, ↓reduceIte, vcu0, vcu1, vcu2, vcu3, vcu4, vcu5, vcu6, vcu7, vcu8, vcu9, vcu10, vcu11, vcu12, vcu13, vcu14, vcu15, vcu16, vcu17, vcu18, vcu19, vcu20, vcu21, vcu22, vcu23, vcu24, vcu25, vcu26, ↓vcd0, ↓vcd1, ↓vcd2, ↓vcd3, h0', h1', h6', h10]
        exact ⟨⟨by first | trivial | exact h0.symm, by first | trivial | exact h1.symm, by first | trivial | exact h6.symm, trivial⟩, _, by omega, k + 1, _, _, p' + 1, rfl, by simp, rfl, by omega, by omega, by omega, by omega, hD7⟩
      · simp -implicitDefEqProofs (disch := omega) only [List.any_cons, List.any_nil, Nat.reduceEqDiff, List.map_cons, List.map_nil, Option.map_some, Option.map_none, List.nil_append, ↓reduceIte, vcu0, vcu1, vcu2, vcu3, vcu4, vcu5, vcu6, vcu7, vcu8, vcu9, vcu10, vcu11, vcu12, vcu13, vcu14, vcu15, vcu16, vcu17, vcu18, vcu19, vcu20, vcu21, vcu22, vcu23, vcu24, vcu25, vcu26, ↓vcd0, ↓vcd1, ↓vcd2, ↓vcd3, opK_some, h0', h1', h6', h7, h10]
        exact ⟨⟨by first | trivial | exact h0.symm, by first | trivial | exact h1.symm, by first | trivial | exact h6.symm, trivial⟩, net.length - (k + 1), by omega, k + 1, _, net, p' + 1, rfl, by simp, rfl, hnl, by omega, by omega, by omega, hD⟩
    case neg =>
      simp -implicitDefEqProofs (disch := omega) only [List.any_cons, List.any_nil, Nat.reduceEqDiff, List.map_cons, List.map_nil, Option.map_some, Option.map_none, List.nil_append, ↓reduceIte, vcu0, vcu1, vcu2, vcu3, vcu4, vcu5, vcu6, vcu7, vcu8, vcu9, vcu10, vcu11, vcu12, vcu13, vcu14, vcu15, vcu16, vcu17, vcu18, vcu19, vcu20, vcu21, vcu22, vcu23, vcu24, vcu25, vcu26, ↓vcd0, ↓vcd1, ↓vcd2, ↓vcd3, h0', h7, h10, hlen]
      refine (pick_at β0 τ g h o bs p' 4 hD.rd (by omega) (by omega)).mono ?_
      rintro r τ4 ⟨zc, rfl, hc0, hc1, hR4, hK4⟩
      replace hD := hD.next hsg hR4 hK4
      have hp3 : p ≤ p' + 1 ∧ p' + 1 ≤ p + 2001 := by omega
      clear hR4 hK4 hp1 hp2
      by_cases hz : zc = 0
      case' neg =>
        have hnl2 : net.length ≤ 1001 := by omega
        generalize p' + 1 = p2 at hD hp3
        simp -implicitDefEqProofs (disch := omega) only [List.any_cons, List.any_nil, Nat.reduceEqDiff, List.map_cons, List.map_nil, Option.map_some, Option.map_none, List.nil_append, ↓reduceIte, vcu0, vcu1, vcu2, vcu3, vcu4, vcu5, vcu6, vcu7, vcu8, vcu9, vcu10, vcu11, vcu12, vcu13, vcu14, vcu15, vcu16, vcu17, vcu18, vcu19, vcu20, vcu21, vcu22, vcu23, vcu24, vcu25, vcu26, ↓vcd0, ↓vcd1, ↓vcd2, ↓vcd3, opK_some, h0', h1', h6', h7]
      case' pos =>
        by_cases hl1 : 1 < lines
        case' neg =>
          have hnl2 : net.length ≤ 1001 := by omega
          generalize p' + 1 = p2 at hD hp3
          simp -implicitDefEqProofs (disch := omega) only [List.any_cons, List.any_nil, Nat.reduceEqDiff, List.map_cons, List.map_nil, Option.map_some, Option.map_none, List.nil_append, ↓reduceIte, vcu0, vcu1, vcu2, vcu3, vcu4, vcu5, vcu6, vcu7, vcu8, vcu9, vcu10, vcu11, vcu12, vcu13, vcu14, vcu15, vcu16, vcu17, vcu18, vcu19, vcu20, vcu21, vcu22, vcu23, vcu24, vcu25, vcu26, ↓vcd0, ↓vcd1, ↓vcd2, ↓vcd3, opK_some, hz, decide_true, h0', h1', h6', h7]
        case' pos =>
          by_cases h20 : net.length < 20
          case' neg =>
            have hnl2 : net.length ≤ 1001 := by omega
            generalize p' + 1 = p2 at hD hp3
            simp -implicitDefEqProofs (disch := omega) only [List.any_cons, List.any_nil, Nat.reduceEqDiff, List.map_cons, List.map_nil, Option.map_some, Option.map_none, List.nil_append, ↓reduceIte, vcu0, vcu1, vcu2, vcu3, vcu4, vcu5, vcu6, vcu7, vcu8, vcu9, vcu10, vcu11, vcu12, vcu13, vcu14, vcu15, vcu16, vcu17, vcu18, vcu19, vcu20, vcu21, vcu22, vcu23, vcu24, vcu25, vcu26, ↓vcd0, ↓vcd1, ↓vcd2, ↓vcd3, opK_some, hz, decide_true, h0', h1', h6', h7, hlen]
          case' pos =>
            simp -implicitDefEqProofs (disch := omega) only [List.any_cons, List.any_nil, Nat.reduceEqDiff, List.map_cons, List.map_nil, Option.map_some, Option.map_none, List.nil_append, ↓reduceIte, vcu0, vcu1, vcu2, vcu3, vcu4, vcu5, vcu6, vcu7, vcu8, vcu9, vcu10, vcu11, vcu12, vcu13, vcu14, vcu15, vcu16, vcu17, vcu18, vcu19, vcu20, vcu21, vcu22, vcu23, vcu24, vcu25, vcu26, ↓vcd0, ↓vcd1, ↓vcd2, ↓vcd3, opK_some, hz, decide_true, h0', h1', h6', h7, hlen]
            refine (pick_at β0 τ4 g h o bs (p' + 1) (lines - 1) hD.rd (by omega) (by omega)).mono ?_
            rintro r τ5 ⟨za, rfl, ha0, ha1, hR5, hK5⟩
            replace hD := hD.next hsg hR5 hK5
            simp -implicitDefEqProofs (disch := omega) only [List.any_cons, List.any_nil, Nat.reduceEqDiff, List.map_cons, List.map_nil, Option.map_some, Option.map_none, List.nil_append, ↓reduceIte, vcu0, vcu1, vcu2, vcu3, vcu4, vcu5, vcu6, vcu7, vcu8, vcu9, vcu10, vcu11, vcu12, vcu13, vcu14, vcu15, vcu16, vcu17, vcu18, vcu19, vcu20, vcu21, vcu22, vcu23, vcu24, vcu25, vcu26, ↓vcd0, ↓vcd1, ↓vcd2, ↓vcd3, opK_some, h6']
            rw [r_build]
            refine ⟨(_, #[.int .i64 za, .int .i64 (lines - 1)]), ⟨ze28, by simp -implicitDefEqProofs (disch := omega) only [List.any_cons, List.any_nil, Nat.reduceEqDiff, List.map_cons, List.map_nil, Option.map_some, Option.map_none, List.nil_append, ↓reduceIte, vcu0, vcu1, vcu2, vcu3, vcu4, vcu5, vcu6, vcu7, vcu8, vcu9, vcu10, vcu11, vcu12, vcu13, vcu14, vcu15, vcu16, vcu17, vcu18, vcu19, vcu20, vcu21, vcu22, vcu23, vcu24, vcu25, vcu26, ↓vcd0, ↓vcd1, ↓vcd2, ↓vcd3]; kernel_rfl⟩, ?_⟩
            simp -implicitDefEqProofs (disch := omega) only [List.any_cons, List.any_nil, Nat.reduceEqDiff, List.map_cons, List.map_nil, Option.map_some, Option.map_none, List.nil_append, ↓reduceIte, vcu0, vcu1, vcu2, vcu3, vcu4, vcu5, vcu6, vcu7, vcu8, vcu9, vcu10, vcu11, vcu12, vcu13, vcu14, vcu15, vcu16, vcu17, vcu18, vcu19, vcu20, vcu21, vcu22, vcu23, vcu24, vcu25, vcu26, ↓vcd0, ↓vcd1, ↓vcd2, ↓vcd3]
            refine r_lit el23 (out := #[.int .i64 za, .int .i64 (lines - 1)]) (by simp -implicitDefEqProofs (disch := omega) only [List.any_cons, List.any_nil, Nat.reduceEqDiff, List.map_cons, List.map_nil, Option.map_some, Option.map_none, List.nil_append, ↓reduceIte, vcu0, vcu1, vcu2, vcu3, vcu4, vcu5, vcu6, vcu7, vcu8, vcu9, vcu10, vcu11, vcu12, vcu13, vcu14, vcu15, vcu16, vcu17, vcu18, vcu19, vcu20, vcu21, vcu22, vcu23, vcu24, vcu25, vcu26, ↓vcd0, ↓vcd1, ↓vcd2, ↓vcd3]; kernel_rfl) (by rfl) fun e τ6 n6 s6 v6 => ?_
            refine r_pushPK (β := σ) (v := v) (e := e) (o := 0) (m := 1) (cs := net) (ds := [(za, lines - 1)]) el23 (by omega) sl23 (by simp -implicitDefEqProofs (disch := omega) only [List.any_cons, List.any_nil, Nat.reduceEqDiff, List.map_cons, List.map_nil, Option.map_some, Option.map_none, List.nil_append, ↓reduceIte, vcu0, vcu1, vcu2, vcu3, vcu4, vcu5, vcu6, vcu7, vcu8, vcu9, vcu10, vcu11, vcu12, vcu13, vcu14, vcu15, vcu16, vcu17, vcu18, vcu19, vcu20, vcu21, vcu22, vcu23, vcu24, vcu25, vcu26, ↓vcd0, ↓vcd1, ↓vcd2, ↓vcd3, h7]) (hD.own.sub s6) (by simp -implicitDefEqProofs (disch := omega) only [List.any_cons, List.any_nil, Nat.reduceEqDiff, List.map_cons, List.map_nil, Option.map_some, Option.map_none, List.nil_append, ↓reduceIte, vcu0, vcu1, vcu2, vcu3, vcu4, vcu5, vcu6, vcu7, vcu8, vcu9, vcu10, vcu11, vcu12, vcu13, vcu14, vcu15, vcu16, vcu17, vcu18, vcu19, vcu20, vcu21, vcu22, vcu23, vcu24, vcu25, vcu26, ↓vcd0, ↓vcd1, ↓vcd2, ↓vcd3]) (pairsAt_own v6) rfl (by omega) fun g7 τ7 k7 n7 v7 => ?_
            have hD7 := Dn.put (len := net.length + 1) hD h0b hsg ((keptB_sub s6).trans k7) v7 (free_sub s6 n7) (by simp) (by
              intro c hc
              rcases List.mem_append.1 hc with hc | hc
              · exact hD.fits c hc
              · rw [List.mem_singleton] at hc; subst hc; dsimp only; omega)
            have hnl2 : (net ++ [(za, lines - 1)]).length ≤ 1001 := by simp; omega
            replace hp3 : p ≤ p' + 1 + 1 ∧ p' + 1 + 1 ≤ p + 2002 := by omega
            clear hD hlen hnl
            generalize p' + 1 + 1 = p2 at hD7 hp3
            generalize net ++ [(za, lines - 1)] = net2 at hD7 hnl2
            obtain ⟨v2, hv2⟩ : ∃ v2, v2 = Value.slice (some ⟨g7, 0, none⟩) (net.length + 1) 2 := ⟨_, rfl⟩
            rw [← hv2] at hD7
            have hD := hD7
            simp -implicitDefEqProofs (disch := omega) only [List.any_cons, List.any_nil, Nat.reduceEqDiff, List.map_cons, List.map_nil, Option.map_some, Option.map_none, List.nil_append, ↓reduceIte, vcu0, vcu1, vcu2, vcu3, vcu4, vcu5, vcu6, vcu7, vcu8, vcu9, vcu10, vcu11, vcu12, vcu13, vcu14, vcu15, vcu16, vcu17, vcu18, vcu19, vcu20, vcu21, vcu22, vcu23, vcu24, vcu25, vcu26, ↓vcd0, ↓vcd1, ↓vcd2, ↓vcd3, h0', h1', h6', ← hv2]
      all_goals
        refine (odd_at β0 _ g h o bs p2 n hD.rd (by omega) (by omega)).mono ?_
        rintro r τ8 ⟨b, rfl, hR8, hK8⟩
        replace hD := hD.next hsg hR8 hK8
        cases b with
        | false =>
          simp -implicitDefEqProofs (disch := omega) only [List.any_cons, List.any_nil, Nat.reduceEqDiff, List.map_cons, List.map_nil, Option.map_some, Option.map_none, List.nil_append, ↓reduceIte, vcu0, vcu1, vcu2, vcu3, vcu4, vcu5, vcu6, vcu7, vcu8, vcu9, vcu10, vcu11, vcu12, vcu13, vcu14, vcu15, vcu16, vcu17, vcu18, vcu19, vcu20, vcu21, vcu22, vcu23, vcu24, vcu25, vcu26, ↓vcd0, ↓vcd1, ↓vcd2, ↓vcd3, opK_some, h0', h1', h6', h7]
          refine fin_two Try.results73 ⟨lines, _, _, p2 + 1, ?_, by omega, by omega, by omega, by omega, by omega, hD⟩
          simp -implicitDefEqProofs (disch := omega) only [List.any_cons, List.any_nil, Nat.reduceEqDiff, List.map_cons, List.map_nil, Option.map_some, Option.map_none, List.nil_append, ↓reduceIte, vcu0, vcu1, vcu2, vcu3, vcu4, vcu5, vcu6, vcu7, vcu8, vcu9, vcu10, vcu11, vcu12, vcu13, vcu14, vcu15, vcu16, vcu17, vcu18, vcu19, vcu20, vcu21, vcu22, vcu23, vcu24, vcu25, vcu26, ↓vcd0, ↓vcd1, ↓vcd2, ↓vcd3, h7, h6']
        | true =>
          simp -implicitDefEqProofs (disch := omega) only [List.any_cons, List.any_nil, Nat.reduceEqDiff, List.map_cons, List.map_nil, Option.map_some, Option.map_none, List.nil_append, ↓reduceIte, vcu0, vcu1, vcu2, vcu3, vcu4, vcu5, vcu6, vcu7, vcu8, vcu9, vcu10, vcu11, vcu12, vcu13, vcu14, vcu15, vcu16, vcu17, vcu18, vcu19, vcu20, vcu21, vcu22, vcu23, vcu24, vcu25, vcu26, ↓vcd0, ↓vcd1, ↓vcd2, ↓vcd3, opK_some, h0', h1', h6', h7]
          refine (pick_at β0 _ g h o bs (p2 + 1) 3 hD.rd (by omega) (by omega)).mono ?_
          rintro r τ9 ⟨zq, rfl, hq0, hq1, hR9, hK9⟩
          replace hD := hD.next hsg hR9 hK9
          by_cases hz0 : zq = 0
          · simp -implicitDefEqProofs (disch := omega) only [List.any_cons, List.any_nil, Nat.reduceEqDiff, List.map_cons, List.map_nil, Option.map_some, Option.map_none, List.nil_append, ↓reduceIte, vcu0, vcu1, vcu2, vcu3, vcu4, vcu5, vcu6, vcu7, vcu8, vcu9, vcu10, vcu11, vcu12, vcu13, vcu14, vcu15, vcu16, vcu17, vcu18, vcu19, vcu20, vcu21, vcu22, vcu23, vcu24, vcu25, vcu26, ↓vcd0, ↓vcd1, ↓vcd2, ↓vcd3, opK_some, hz0, decide_true, h0', h1', h6', h7]
            refine r_lit el31 (out := (ints .i64 [0, -1, 7]).toArray) (by kernel_rfl) (by kernel_rfl) fun e τa na sa va => ?_
            simp -implicitDefEqProofs (disch := omega) only [List.any_cons, List.any_nil, Nat.reduceEqDiff, List.map_cons, List.map_nil, Option.map_some, Option.map_none, List.nil_append, ↓reduceIte, vcu0, vcu1, vcu2, vcu3, vcu4, vcu5, vcu6, vcu7, vcu8, vcu9, vcu10, vcu11, vcu12, vcu13, vcu14, vcu15, vcu16, vcu17, vcu18, vcu19, vcu20, vcu21, vcu22, vcu23, vcu24, vcu25, vcu26, ↓vcd0, ↓vcd1, ↓vcd2, ↓vcd3, h0', h6', h7]
            refine (pick_at β0 τa g h o bs (p2 + 1 + 1) 3 (hD.sub sa).rd (by omega) (by omega)).mono ?_
            rintro r τb ⟨zi, rfl, hi0, hi1, hRb, hKb⟩
            have hDb := (hD.sub sa).next hsg hRb hKb
            have hvb := hKb.at va (ne_of na hD.rd.at_)
            have hx := intsAt_own (xs := [0, -1, 7]) hvb zi.toNat (by simp; omega)
            obtain ⟨x, hxe, hx1, hx2⟩ : ∃ x : Int, ([0, -1, 7] : List Int).getD zi.toNat 0 = x ∧ -1 ≤ x ∧ x ≤ 7 := by
              rcases (by omega : zi = 0 ∨ zi = 1 ∨ zi = 2) with rfl | rfl | rfl <;> exact ⟨_, rfl, by decide, by decide⟩
            rw [hxe] at hx
            simp -implicitDefEqProofs (disch := omega) only [List.any_cons, List.any_nil, Nat.reduceEqDiff, List.map_cons, List.map_nil, Option.map_some, Option.map_none, List.nil_append, ↓reduceIte, vcu0, vcu1, vcu2, vcu3, vcu4, vcu5, vcu6, vcu7, vcu8, vcu9, vcu10, vcu11, vcu12, vcu13, vcu14, vcu15, vcu16, vcu17, vcu18, vcu19, vcu20, vcu21, vcu22, vcu23, vcu24, vcu25, vcu26, ↓vcd0, ↓vcd1, ↓vcd2, ↓vcd3, opK_some, hx, h7]
            refine fin_two Try.results73 ⟨x, _, _, p2 + 1 + 1 + 1, ?_, by omega, by omega, by omega, by omega, by omega, hDb⟩
            simp -implicitDefEqProofs (disch := omega) only [List.any_cons, List.any_nil, Nat.reduceEqDiff, List.map_cons, List.map_nil, Option.map_some, Option.map_none, List.nil_append, ↓reduceIte, vcu0, vcu1, vcu2, vcu3, vcu4, vcu5, vcu6, vcu7, vcu8, vcu9, vcu10, vcu11, vcu12, vcu13, vcu14, vcu15, vcu16, vcu17, vcu18, vcu19, vcu20, vcu21, vcu22, vcu23, vcu24, vcu25, vcu26, ↓vcd0, ↓vcd1, ↓vcd2, ↓vcd3, h7, h6']
          · by_cases hz1 : zq = 1
            · simp -implicitDefEqProofs (disch := omega) only [List.any_cons, List.any_nil, Nat.reduceEqDiff, List.map_cons, List.map_nil, Option.map_some, Option.map_none, List.nil_append, ↓reduceIte, vcu0, vcu1, vcu2, vcu3, vcu4, vcu5, vcu6, vcu7, vcu8, vcu9, vcu10, vcu11, vcu12, vcu13, vcu14, vcu15, vcu16, vcu17, vcu18, vcu19, vcu20, vcu21, vcu22, vcu23, vcu24, vcu25, vcu26, ↓vcd0, ↓vcd1, ↓vcd2, ↓vcd3, opK_some, hz1, decide_true, h0', h1', h6', h7]
              rw [r_build]
              refine ⟨(_, #[.int .i64 1, .int .i64 1]), ⟨ze28, by kernel_rfl⟩, ?_⟩
              simp -implicitDefEqProofs (disch := omega) only [List.any_cons, List.any_nil, Nat.reduceEqDiff, List.map_cons, List.map_nil, Option.map_some, Option.map_none, List.nil_append, ↓reduceIte, vcu0, vcu1, vcu2, vcu3, vcu4, vcu5, vcu6, vcu7, vcu8, vcu9, vcu10, vcu11, vcu12, vcu13, vcu14, vcu15, vcu16, vcu17, vcu18, vcu19, vcu20, vcu21, vcu22, vcu23, vcu24, vcu25, vcu26, ↓vcd0, ↓vcd1, ↓vcd2, ↓vcd3]
              refine r_lit el23 (out := #[.int .i64 1, .int .i64 1]) (by first | kernel_rfl | (simp -implicitDefEqProofs (disch := omega) only [List.any_cons, List.any_nil, Nat.reduceEqDiff, List.map_cons, List.map_nil, Option.map_some, Option.map_none, List.nil_append, ↓reduceIte, vcu0, vcu1, vcu2, vcu3, vcu4, vcu5, vcu6, vcu7, vcu8, vcu9, vcu10, vcu11, vcu12, vcu13, vcu14, vcu15, vcu16, vcu17, vcu18, vcu19, vcu20, vcu21, vcu22, vcu23, vcu24, vcu25, vcu26, ↓vcd0, ↓vcd1, ↓vcd2, ↓vcd3]; kernel_rfl)) (by rfl) fun e τ6 n6 s6 v6 => ?_
              refine r_pushPK (β := σ) (e := e) (o := 0) (m := 1) (ds := [(1, 1)]) el23 (by omega) sl23 rfl (by simp -implicitDefEqProofs (disch := omega) only [List.any_cons, List.any_nil, Nat.reduceEqDiff, List.map_cons, List.map_nil, Option.map_some, Option.map_none, List.nil_append, ↓reduceIte, vcu0, vcu1, vcu2, vcu3, vcu4, vcu5, vcu6, vcu7, vcu8, vcu9, vcu10, vcu11, vcu12, vcu13, vcu14, vcu15, vcu16, vcu17, vcu18, vcu19, vcu20, vcu21, vcu22, vcu23, vcu24, vcu25, vcu26, ↓vcd0, ↓vcd1, ↓vcd2, ↓vcd3, h7]; exact hD.own.sub s6) (by simp -implicitDefEqProofs (disch := omega) only [List.any_cons, List.any_nil, Nat.reduceEqDiff, List.map_cons, List.map_nil, Option.map_some, Option.map_none, List.nil_append, ↓reduceIte, vcu0, vcu1, vcu2, vcu3, vcu4, vcu5, vcu6, vcu7, vcu8, vcu9, vcu10, vcu11, vcu12, vcu13, vcu14, vcu15, vcu16, vcu17, vcu18, vcu19, vcu20, vcu21, vcu22, vcu23, vcu24, vcu25, vcu26, ↓vcd0, ↓vcd1, ↓vcd2, ↓vcd3]) (pairsAt_own v6) rfl (by omega) fun g7 τ7 k7 n7 v7 => ?_
              have hD7 := hD.put h0b hsg ((keptB_sub s6).trans k7) v7 (free_sub s6 n7) (List.length_append (bs := [((1 : Int), (1 : Int))])).symm (by
                intro c hc
                rcases List.mem_append.1 hc with hc | hc
                · exact hD.fits c hc
                · rw [List.mem_singleton] at hc; subst hc; dsimp only; omega)
              simp -implicitDefEqProofs (disch := omega) only [List.any_cons, List.any_nil, Nat.reduceEqDiff, List.map_cons, List.map_nil, Option.map_some, Option.map_none, List.nil_append, ↓reduceIte, vcu0, vcu1, vcu2, vcu3, vcu4, vcu5, vcu6, vcu7, vcu8, vcu9, vcu10, vcu11, vcu12, vcu13, vcu14, vcu15, vcu16, vcu17, vcu18, vcu19, vcu20, vcu21, vcu22, vcu23, vcu24, vcu25, vcu26, ↓vcd0, ↓vcd1, ↓vcd2, ↓vcd3, h6']
              refine fin_two Try.results73 ⟨lines, _, _, p2 + 1 + 1, ?_, by omega, by omega, ?_, by omega, by omega, hD7⟩
              · simp -implicitDefEqProofs (disch := omega) only [List.any_cons, List.any_nil, Nat.reduceEqDiff, List.map_cons, List.map_nil, Option.map_some, Option.map_none, List.nil_append, ↓reduceIte, vcu0, vcu1, vcu2, vcu3, vcu4, vcu5, vcu6, vcu7, vcu8, vcu9, vcu10, vcu11, vcu12, vcu13, vcu14, vcu15, vcu16, vcu17, vcu18, vcu19, vcu20, vcu21, vcu22, vcu23, vcu24, vcu25, vcu26, ↓vcd0, ↓vcd1, ↓vcd2, ↓vcd3, h6']
                rfl
              · simp; omega
            · simp -implicitDefEqProofs (disch := omega) only [List.any_cons, List.any_nil, Nat.reduceEqDiff, List.map_cons, List.map_nil, Option.map_some, Option.map_none, List.nil_append, ↓reduceIte, vcu0, vcu1, vcu2, vcu3, vcu4, vcu5, vcu6, vcu7, vcu8, vcu9, vcu10, vcu11, vcu12, vcu13, vcu14, vcu15, vcu16, vcu17, vcu18, vcu19, vcu20, vcu21, vcu22, vcu23, vcu24, vcu25, vcu26, ↓vcd0, ↓vcd1, ↓vcd2, ↓vcd3, opK_some, h0', h1', h6', h7]
              refine region_tree mixed (quiets [0, 2] (.one 1 (.one 3 .stop))) [] (by kernel_rfl) (by kernel_rfl) (fun p hp => absurd hp (by simp)) ?_
              refine tree_quiets (fun _ => none) _ _ _ (fun _ _ _ _ => fun x ob e => by cases e) (by kernel_rfl) (by kernel_rfl) ?_
              simp -implicitDefEqProofs (disch := omega) only [List.any_cons, List.any_nil, Nat.reduceEqDiff, List.map_cons, List.map_nil, Option.map_some, Option.map_none, List.nil_append, ↓reduceIte, vcu0, vcu1, vcu2, vcu3, vcu4, vcu5, vcu6, vcu7, vcu8, vcu9, vcu10, vcu11, vcu12, vcu13, vcu14, vcu15, vcu16, vcu17, vcu18, vcu19, vcu20, vcu21, vcu22, vcu23, vcu24, vcu25, vcu26, ↓vcd0, ↓vcd1, ↓vcd2, ↓vcd3, pickOps_nil, pickOps_cons, pickO_some, List.getElem?_cons_succ, List.getElem?_cons_zero, h6']
              refine tree_one rfl ?_
              refine r_make (kx := .i64) (ky := .i64) (l := 21) (c := 21) el23 rfl rfl (by omega) fun e τ6 n6 s6 v6 => ?_
              simp -implicitDefEqProofs (disch := omega) only [List.any_cons, List.any_nil, Nat.reduceEqDiff, List.map_cons, List.map_nil, Option.map_some, Option.map_none, List.nil_append, ↓reduceIte, vcu0, vcu1, vcu2, vcu3, vcu4, vcu5, vcu6, vcu7, vcu8, vcu9, vcu10, vcu11, vcu12, vcu13, vcu14, vcu15, vcu16, vcu17, vcu18, vcu19, vcu20, vcu21, vcu22, vcu23, vcu24, vcu25, vcu26, ↓vcd0, ↓vcd1, ↓vcd2, ↓vcd3]
              refine ⟨keep_of rfl (fun p hp => absurd hp (by simp)), tree_one rfl ?_⟩
              simp -implicitDefEqProofs (disch := omega) only [List.any_cons, List.any_nil, Nat.reduceEqDiff, List.map_cons, List.map_nil, Option.map_some, Option.map_none, List.nil_append, ↓reduceIte, vcu0, vcu1, vcu2, vcu3, vcu4, vcu5, vcu6, vcu7, vcu8, vcu9, vcu10, vcu11, vcu12, vcu13, vcu14, vcu15, vcu16, vcu17, vcu18, vcu19, vcu20, vcu21, vcu22, vcu23, vcu24, vcu25, vcu26, ↓vcd0, ↓vcd1, ↓vcd2, ↓vcd3]
              refine ⟨.inl rfl, tree_stop ?_⟩
              have hD7 := hD.put (cs := List.replicate 21 (0, 0)) (len := 21) h0b hsg (keptB_sub s6) (by rw [v6, zeros21]) n6 (by rfl) (by
                intro c hc
                rw [List.eq_of_mem_replicate hc]; decide)
              simp -implicitDefEqProofs (disch := omega) only [List.any_cons, List.any_nil, Nat.reduceEqDiff, List.map_cons, List.map_nil, Option.map_some, Option.map_none, List.nil_append, ↓reduceIte, vcu0, vcu1, vcu2, vcu3, vcu4, vcu5, vcu6, vcu7, vcu8, vcu9, vcu10, vcu11, vcu12, vcu13, vcu14, vcu15, vcu16, vcu17, vcu18, vcu19, vcu20, vcu21, vcu22, vcu23, vcu24, vcu25, vcu26, ↓vcd0, ↓vcd1, ↓vcd2, ↓vcd3, h6']
              refine fin_two Try.results73 ⟨lines, _, _, p2 + 1 + 1, ?_, by omega, by omega, by simp, by omega, by omega, hD7⟩
              simp -implicitDefEqProofs (disch := omega) only [List.any_cons, List.any_nil, Nat.reduceEqDiff, List.map_cons, List.map_nil, Option.map_some, Option.map_none, List.nil_append, ↓reduceIte, vcu0, vcu1, vcu2, vcu3, vcu4, vcu5, vcu6, vcu7, vcu8, vcu9, vcu10, vcu11, vcu12, vcu13, vcu14, vcu15, vcu16, vcu17, vcu18, vcu19, vcu20, vcu21, vcu22, vcu23, vcu24, vcu25, vcu26, ↓vcd0, ↓vcd1, ↓vcd2, ↓vcd3, h6']
end Go.Proofs.Ytnkpoflhdfchjaa
