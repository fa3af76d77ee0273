/- FnPermValid answers true for every code. -/
import Derived.Test.YtdgbaglhhhbbhaaPq
set_option linter.unusedSimpArgs false
set_option linter.unusedVariables false
namespace Go.Proofs.Ytdgbaglhhhbbhaa
open Go Go.Abs Go.RowKit
variable {w0 : World}

theorem once_more {xs : List Int} (h : 0 < xs.length) : ¬ Valid (xs ++ [xs.getD 0 0]) := by
  intro hV
  have hn := hV.1.2
  rw [List.nodup_append] at hn
  exact hn.2.2 (xs.getD 0 0) (by simp [List.getD, h]) _ (by simp) rfl

def tailW : Abs.Way := .one 14 (.one 15 (quiets [16, 17, 18] .stop))

theorem law3 (σ : AHeap) (v : Value) (bs : List Int) (hv : Ints .u8 σ v bs) (hm : bs.length ≤ maxLen) (hw : ∀ z ∈ bs, (Lit.int .u8 z).wf = true) :
    ACall Try.prog w0 3 [v] σ fun r _ => r = .bool true := by
  unfold maxLen at hm
  refine ACall.ints_arg (pre := []) (by kernel_rfl) hv fun σ1 h o hs hg => ?_
  clear hv hs σ v
  have hb := bytes_of hw
  refine acall_go mixed Try.func3 rfl good3 ?_
  by_cases hbig : 1048576 < bs.length
  · simp -implicitDefEqProofs (disch := omega) only [Nat.reduceEqDiff, List.map_cons, List.map_nil, Option.map_some, Option.map_none, List.nil_append, ↓reduceIte, vcu0, vcu1, vcu2, vcu3, vcu4, vcu5, vcu6, vcu7, vcu8, vcu9, vcu10, ↓vcd0, ↓vcd1, ↓vcd2]
    refine fin_one Try.results3 ?_
    simp -implicitDefEqProofs (disch := omega) only [Nat.reduceEqDiff, List.map_cons, List.map_nil, Option.map_some, Option.map_none, List.nil_append, ↓reduceIte, vcu0, vcu1, vcu2, vcu3, vcu4, vcu5, vcu6, vcu7, vcu8, vcu9, vcu10, ↓vcd0, ↓vcd1, ↓vcd2]
  have hl : bs.length ≤ 1048576 := by omega
  simp -implicitDefEqProofs (disch := omega) only [Nat.reduceEqDiff, List.map_cons, List.map_nil, Option.map_some, Option.map_none, List.nil_append, ↓reduceIte, vcu0, vcu1, vcu2, vcu3, vcu4, vcu5, vcu6, vcu7, vcu8, vcu9, vcu10, ↓vcd0, ↓vcd1, ↓vcd2]
  refine (drawValid_at σ1 h o bs hg hl hb).mono ?_
  rintro r τ ⟨q, ps, rfl, h7, hs, hq, hqf⟩
  simp -implicitDefEqProofs (disch := omega) only [Nat.reduceEqDiff, List.map_cons, List.map_nil, Option.map_some, Option.map_none, List.nil_append, ↓reduceIte, vcu0, vcu1, vcu2, vcu3, vcu4, vcu5, vcu6, vcu7, vcu8, vcu9, vcu10, ↓vcd0, ↓vcd1, ↓vcd2, opK_some]
  refine (implValid_at τ q 0 ps (intsAt_own hq) (by omega)).mono ?_
  rintro r _ ⟨rfl, rfl⟩
  simp -implicitDefEqProofs (disch := omega) only [Nat.reduceEqDiff, List.map_cons, List.map_nil, Option.map_some, Option.map_none, List.nil_append, ↓reduceIte, vcu0, vcu1, vcu2, vcu3, vcu4, vcu5, vcu6, vcu7, vcu8, vcu9, vcu10, ↓vcd0, ↓vcd1, ↓vcd2, opK_some]
  refine (specValid_at _ q 0 ps (intsAt_own hq) (by omega)).mono ?_
  rintro r τ' ⟨rfl, rfl⟩
  have hnil : decide (Valid ([] : List Int)) = true := by decide
  by_cases hV : Valid ps
  · rw [decide_eq_true hV]
    by_cases h0 : ps.length = 0
    · simp -implicitDefEqProofs (disch := omega) only [Nat.reduceEqDiff, List.map_cons, List.map_nil, Option.map_some, Option.map_none, List.nil_append, ↓reduceIte, vcu0, vcu1, vcu2, vcu3, vcu4, vcu5, vcu6, vcu7, vcu8, vcu9, vcu10, ↓vcd0, ↓vcd1, ↓vcd2, opK_some, beq_self_eq_true]
      refine (implValid_calls _ _ [] (.inl ⟨rfl, rfl⟩) (by simp)).mono ?_
      rintro r _ ⟨rfl, rfl⟩
      rw [hnil]
      simp -implicitDefEqProofs (disch := omega) only [Nat.reduceEqDiff, List.map_cons, List.map_nil, Option.map_some, Option.map_none, List.nil_append, ↓reduceIte, vcu0, vcu1, vcu2, vcu3, vcu4, vcu5, vcu6, vcu7, vcu8, vcu9, vcu10, ↓vcd0, ↓vcd1, ↓vcd2, opK_some]
      refine (alive_at _).mono ?_
      rintro r _ ⟨rfl, rfl⟩
      simp -implicitDefEqProofs (disch := omega) only [Nat.reduceEqDiff, List.map_cons, List.map_nil, Option.map_some, Option.map_none, List.nil_append, ↓reduceIte, vcu0, vcu1, vcu2, vcu3, vcu4, vcu5, vcu6, vcu7, vcu8, vcu9, vcu10, ↓vcd0, ↓vcd1, ↓vcd2, opK_some]
      refine fin_one Try.results3 ?_
      simp -implicitDefEqProofs (disch := omega) only [Nat.reduceEqDiff, List.map_cons, List.map_nil, Option.map_some, Option.map_none, List.nil_append, ↓reduceIte, vcu0, vcu1, vcu2, vcu3, vcu4, vcu5, vcu6, vcu7, vcu8, vcu9, vcu10, ↓vcd0, ↓vcd1, ↓vcd2]
    · have hpos : 0 < ps.length := by omega
      have hVs := valid_swp hV hpos (show ps.length - 1 < ps.length by omega)
      have e1 : (ps.length : Int) - 1 = (ps.length - 1 : Nat) := by omega
      have h6 := hV.2
      obtain ⟨τ, rfl⟩ : ∃ t : AHeap, t = τ' := ⟨_, rfl⟩
      have x0 := own_at hq hpos
      have hbad : decide (Valid (ps ++ [ps.getD 0 0])) = false := decide_eq_false (once_more hpos)
      generalize ps.getD 0 0 = p0 at x0 hbad
      simp -implicitDefEqProofs (disch := omega) only [Nat.reduceEqDiff, List.map_cons, List.map_nil, Option.map_some, Option.map_none, List.nil_append, ↓reduceIte, vcu0, vcu1, vcu2, vcu3, vcu4, vcu5, vcu6, vcu7, vcu8, vcu9, vcu10, ↓vcd0, ↓vcd1, ↓vcd2, opK_some, beq_self_eq_true]
      refine region_tree mixed (quiets [0, 1, 2, 3] (.one 4 (.one 5 (quiets [6, 8, 10, 11, 12] (.two 7 (.two 9 (.one 13 tailW) 13 (.one 9 tailW)) 13 (.one 7 (.one 9 tailW))))))) [([6, 8, 10, 11, 12], Sub (only τ q))] (by kernel_rfl) (by kernel_rfl) ?_ ?_
      · intro p hp
        simp only [List.mem_cons, List.not_mem_nil, or_false] at hp
        subst hp
        exact only_sub rfl
      refine tree_quiets _ _ _ _ sf0 (by kernel_rfl) (by kernel_rfl) ?_
      simp -implicitDefEqProofs (disch := omega) only [Nat.reduceEqDiff, List.map_cons, List.map_nil, Option.map_some, Option.map_none, List.nil_append, ↓reduceIte, vcu0, vcu1, vcu2, vcu3, vcu4, vcu5, vcu6, vcu7, vcu8, vcu9, vcu10, ↓vcd0, ↓vcd1, ↓vcd2, pickOps_nil, pickOps_cons, pickO_some, List.getElem?_cons_succ, List.getElem?_cons_zero, e1]
      refine tree_one rfl ?_
      simp -implicitDefEqProofs (disch := omega) only [Nat.reduceEqDiff, List.map_cons, List.map_nil, Option.map_some, Option.map_none, List.nil_append, ↓reduceIte, vcu0, vcu1, vcu2, vcu3, vcu4, vcu5, vcu6, vcu7, vcu8, vcu9, vcu10, ↓vcd0, ↓vcd1, ↓vcd2]
      refine (swapped_at τ q 0 ps 0 (ps.length - 1) hq h7 hpos (by omega)).mono ?_
      rintro r τ1 ⟨g1, n1, rfl, s1, v1⟩
      have hq1 := s1 _ _ hq
      simp -implicitDefEqProofs (disch := omega) only [Nat.reduceEqDiff, List.map_cons, List.map_nil, Option.map_some, Option.map_none, List.nil_append, ↓reduceIte, vcu0, vcu1, vcu2, vcu3, vcu4, vcu5, vcu6, vcu7, vcu8, vcu9, vcu10, ↓vcd0, ↓vcd1, ↓vcd2, opK_some]
      have kq : ∀ τ' : AHeap, τ' q = some ⟨ints .i64 ps, false⟩ → Sub (only τ q) τ' := fun τ' e => only_sub (by rw [e, hq])
      refine ⟨keep_of rfl ?_, ?_⟩
      · intro p hp
        simp only [List.mem_cons, List.not_mem_nil, or_false] at hp
        subst hp
        exact .inr (kq _ hq1)
      refine tree_one rfl ?_
      simp -implicitDefEqProofs (disch := omega) only [Nat.reduceEqDiff, List.map_cons, List.map_nil, Option.map_some, Option.map_none, List.nil_append, ↓reduceIte, vcu0, vcu1, vcu2, vcu3, vcu4, vcu5, vcu6, vcu7, vcu8, vcu9, vcu10, ↓vcd0, ↓vcd1, ↓vcd2]
      have hvs := implValid_at (w0 := w0) τ1 g1 0 (swp ps 0 (ps.length - 1)) (intsAt_own v1) (by rw [swp_length]; omega)
      rw [swp_length, decide_eq_true hVs] at hvs
      refine hvs.mono ?_
      rintro r τ2 ⟨rfl, e2⟩
      subst e2
      simp -implicitDefEqProofs (disch := omega) only [Nat.reduceEqDiff, List.map_cons, List.map_nil, Option.map_some, Option.map_none, List.nil_append, ↓reduceIte, vcu0, vcu1, vcu2, vcu3, vcu4, vcu5, vcu6, vcu7, vcu8, vcu9, vcu10, ↓vcd0, ↓vcd1, ↓vcd2, opK_some]
      refine ⟨.inl rfl, ?_⟩
      refine tree_quiets (only τ q) _ _ _ sf1 (by kernel_rfl) (by kernel_rfl) ?_
      have x0' : ld (only τ q) q (0 + 0) = some (.int .i64 p0) := by
        have e : (only τ q) q = some ⟨ints .i64 ps, false⟩ := by rw [only_at]; exact hq
        unfold ld; rw [e]; unfold ld at x0; rw [hq] at x0; exact x0
      have x0z : ld (only τ q) q 0 = some (.int .i64 p0) := x0'
      simp -implicitDefEqProofs (disch := omega) only [Nat.reduceEqDiff, List.map_cons, List.map_nil, Option.map_some, Option.map_none, List.nil_append, ↓reduceIte, vcu0, vcu1, vcu2, vcu3, vcu4, vcu5, vcu6, vcu7, vcu8, vcu9, vcu10, ↓vcd0, ↓vcd1, ↓vcd2, pickOps_nil, pickOps_cons, pickO_some, List.getElem?_cons_succ, List.getElem?_cons_zero, x0z, x0', Int.toNat_zero, Nat.add_zero]
      refine tree_two rfl rfl ?_ ?_
      ·
        simp -implicitDefEqProofs (disch := omega) only [Nat.reduceEqDiff, List.map_cons, List.map_nil, Option.map_some, Option.map_none, List.nil_append, ↓reduceIte, vcu0, vcu1, vcu2, vcu3, vcu4, vcu5, vcu6, vcu7, vcu8, vcu9, vcu10, ↓vcd0, ↓vcd1, ↓vcd2]
        refine r_lit el23 (out := #[]) (by simp -implicitDefEqProofs (disch := omega) only [Nat.reduceEqDiff, List.map_cons, List.map_nil, Option.map_some, Option.map_none, List.nil_append, ↓reduceIte, vcu0, vcu1, vcu2, vcu3, vcu4, vcu5, vcu6, vcu7, vcu8, vcu9, vcu10, ↓vcd0, ↓vcd1, ↓vcd2]; kernel_rfl) (by kernel_rfl) fun e1 τ3 me1 s3 w3 => ?_
        have hq_τ3 := s3 _ _ hq1
        simp -implicitDefEqProofs (disch := omega) only [Nat.reduceEqDiff, List.map_cons, List.map_nil, Option.map_some, Option.map_none, List.nil_append, ↓reduceIte, vcu0, vcu1, vcu2, vcu3, vcu4, vcu5, vcu6, vcu7, vcu8, vcu9, vcu10, ↓vcd0, ↓vcd1, ↓vcd2]
        refine ⟨keep_of rfl ?_, ?_⟩
        · intro p hp
          simp only [List.mem_cons, List.not_mem_nil, or_false] at hp
          subst hp
          exact .inr (kq _ (hq_τ3))
        refine tree_two rfl rfl ?_ ?_
        ·
          simp -implicitDefEqProofs (disch := omega) only [Nat.reduceEqDiff, List.map_cons, List.map_nil, Option.map_some, Option.map_none, List.nil_append, ↓reduceIte, vcu0, vcu1, vcu2, vcu3, vcu4, vcu5, vcu6, vcu7, vcu8, vcu9, vcu10, ↓vcd0, ↓vcd1, ↓vcd2]
          refine r_pushI (g := e1) (e := q) (o := 0) (k := .i64) (xs := []) (ys := ps) (m := ps.length) (len := 0) el23 (by omega) sl23 (by simp -implicitDefEqProofs (disch := omega) only [Nat.reduceEqDiff, List.map_cons, List.map_nil, Option.map_some, Option.map_none, List.nil_append, ↓reduceIte, vcu0, vcu1, vcu2, vcu3, vcu4, vcu5, vcu6, vcu7, vcu8, vcu9, vcu10, ↓vcd0, ↓vcd1, ↓vcd2]) w3 rfl (by simp -implicitDefEqProofs (disch := omega) only [Nat.reduceEqDiff, List.map_cons, List.map_nil, Option.map_some, Option.map_none, List.nil_append, ↓reduceIte, vcu0, vcu1, vcu2, vcu3, vcu4, vcu5, vcu6, vcu7, vcu8, vcu9, vcu10, ↓vcd0, ↓vcd1, ↓vcd2]) (intsAt_own hq_τ3) rfl (by omega) fun g2 τ4 ng2 kg2 vg2 => ?_
          rw [List.nil_append] at vg2
          have hq_τ4 := kg2.at hq_τ3 (ne_of' me1 hq1)
          simp -implicitDefEqProofs (disch := omega) only [Nat.reduceEqDiff, List.map_cons, List.map_nil, Option.map_some, Option.map_none, List.nil_append, ↓reduceIte, vcu0, vcu1, vcu2, vcu3, vcu4, vcu5, vcu6, vcu7, vcu8, vcu9, vcu10, ↓vcd0, ↓vcd1, ↓vcd2, Nat.zero_add]
          refine ⟨keep_of rfl ?_, ?_⟩
          · intro p hp
            simp only [List.mem_cons, List.not_mem_nil, or_false] at hp
            subst hp
            exact .inr (kq _ (hq_τ4))
          refine tree_one rfl ?_
          simp -implicitDefEqProofs (disch := omega) only [Nat.reduceEqDiff, List.map_cons, List.map_nil, Option.map_some, Option.map_none, List.nil_append, ↓reduceIte, vcu0, vcu1, vcu2, vcu3, vcu4, vcu5, vcu6, vcu7, vcu8, vcu9, vcu10, ↓vcd0, ↓vcd1, ↓vcd2]
          refine r_lit el23 (out := #[.int .i64 p0]) (by simp -implicitDefEqProofs (disch := omega) only [Nat.reduceEqDiff, List.map_cons, List.map_nil, Option.map_some, Option.map_none, List.nil_append, ↓reduceIte, vcu0, vcu1, vcu2, vcu3, vcu4, vcu5, vcu6, vcu7, vcu8, vcu9, vcu10, ↓vcd0, ↓vcd1, ↓vcd2]; kernel_rfl) (by kernel_rfl) fun e3 τ5 me3 s5 w5 => ?_
          have hq_τ5 := s5 _ _ hq_τ4
          simp -implicitDefEqProofs (disch := omega) only [Nat.reduceEqDiff, List.map_cons, List.map_nil, Option.map_some, Option.map_none, List.nil_append, ↓reduceIte, vcu0, vcu1, vcu2, vcu3, vcu4, vcu5, vcu6, vcu7, vcu8, vcu9, vcu10, ↓vcd0, ↓vcd1, ↓vcd2]
          refine ⟨keep_of rfl ?_, ?_⟩
          · intro p hp
            simp only [List.mem_cons, List.not_mem_nil, or_false] at hp
            subst hp
            exact .inr (kq _ (hq_τ5))
          refine tree_one rfl ?_
          simp -implicitDefEqProofs (disch := omega) only [Nat.reduceEqDiff, List.map_cons, List.map_nil, Option.map_some, Option.map_none, List.nil_append, ↓reduceIte, vcu0, vcu1, vcu2, vcu3, vcu4, vcu5, vcu6, vcu7, vcu8, vcu9, vcu10, ↓vcd0, ↓vcd1, ↓vcd2]
          refine r_pushI (g := g2) (e := e3) (o := 0) (k := .i64) (xs := ps) (ys := [p0]) (m := 1) (len := ps.length) el23 (by omega) sl23 (by simp -implicitDefEqProofs (disch := omega) only [Nat.reduceEqDiff, List.map_cons, List.map_nil, Option.map_some, Option.map_none, List.nil_append, ↓reduceIte, vcu0, vcu1, vcu2, vcu3, vcu4, vcu5, vcu6, vcu7, vcu8, vcu9, vcu10, ↓vcd0, ↓vcd1, ↓vcd2]) (s5 _ _ vg2) rfl (by simp -implicitDefEqProofs (disch := omega) only [Nat.reduceEqDiff, List.map_cons, List.map_nil, Option.map_some, Option.map_none, List.nil_append, ↓reduceIte, vcu0, vcu1, vcu2, vcu3, vcu4, vcu5, vcu6, vcu7, vcu8, vcu9, vcu10, ↓vcd0, ↓vcd1, ↓vcd2]) (intsAt_own w5) rfl (by omega) fun g4 τz n4 k4 v4 => ?_
          have hqz := k4.at hq_τ5 (ne_of' ng2 hq_τ3)
          simp -implicitDefEqProofs (disch := omega) only [Nat.reduceEqDiff, List.map_cons, List.map_nil, Option.map_some, Option.map_none, List.nil_append, ↓reduceIte, vcu0, vcu1, vcu2, vcu3, vcu4, vcu5, vcu6, vcu7, vcu8, vcu9, vcu10, ↓vcd0, ↓vcd1, ↓vcd2]
          refine ⟨keep_of rfl ?_, ?_⟩
          · intro p hp
            simp only [List.mem_cons, List.not_mem_nil, or_false] at hp
            subst hp
            exact .inr (kq _ (hqz))
          refine tree_one rfl ?_
          simp -implicitDefEqProofs (disch := omega) only [Nat.reduceEqDiff, List.map_cons, List.map_nil, Option.map_some, Option.map_none, List.nil_append, ↓reduceIte, vcu0, vcu1, vcu2, vcu3, vcu4, vcu5, vcu6, vcu7, vcu8, vcu9, vcu10, ↓vcd0, ↓vcd1, ↓vcd2]
          have hb2 := implValid_at (w0 := w0) τz g4 0 (ps ++ [p0]) (intsAt_own v4) (by simp; omega)
          rw [List.length_append, List.length_singleton, hbad] at hb2
          refine hb2.mono ?_
          rintro r _ ⟨rfl, rfl⟩
          simp -implicitDefEqProofs (disch := omega) only [Nat.reduceEqDiff, List.map_cons, List.map_nil, Option.map_some, Option.map_none, List.nil_append, ↓reduceIte, vcu0, vcu1, vcu2, vcu3, vcu4, vcu5, vcu6, vcu7, vcu8, vcu9, vcu10, ↓vcd0, ↓vcd1, ↓vcd2, opK_some]
          refine ⟨.inl rfl, ?_⟩
          refine tree_quiets _ _ _ _ sf0 (by kernel_rfl) (by kernel_rfl) ?_
          simp -implicitDefEqProofs (disch := omega) only [Nat.reduceEqDiff, List.map_cons, List.map_nil, Option.map_some, Option.map_none, List.nil_append, ↓reduceIte, vcu0, vcu1, vcu2, vcu3, vcu4, vcu5, vcu6, vcu7, vcu8, vcu9, vcu10, ↓vcd0, ↓vcd1, ↓vcd2, pickOps_nil, pickOps_cons, pickO_some, List.getElem?_cons_succ, List.getElem?_cons_zero]
          refine tree_stop ?_
          simp -implicitDefEqProofs (disch := omega) only [Nat.reduceEqDiff, List.map_cons, List.map_nil, Option.map_some, Option.map_none, List.nil_append, ↓reduceIte, vcu0, vcu1, vcu2, vcu3, vcu4, vcu5, vcu6, vcu7, vcu8, vcu9, vcu10, ↓vcd0, ↓vcd1, ↓vcd2]
          refine fin_one Try.results3 ?_
          simp -implicitDefEqProofs (disch := omega) only [Nat.reduceEqDiff, List.map_cons, List.map_nil, Option.map_some, Option.map_none, List.nil_append, ↓reduceIte, vcu0, vcu1, vcu2, vcu3, vcu4, vcu5, vcu6, vcu7, vcu8, vcu9, vcu10, ↓vcd0, ↓vcd1, ↓vcd2]
        ·
          simp -implicitDefEqProofs (disch := omega) only [Nat.reduceEqDiff, List.map_cons, List.map_nil, Option.map_some, Option.map_none, List.nil_append, ↓reduceIte, vcu0, vcu1, vcu2, vcu3, vcu4, vcu5, vcu6, vcu7, vcu8, vcu9, vcu10, ↓vcd0, ↓vcd1, ↓vcd2]
          refine r_lit el23 (out := #[.int .i64 p0]) (by simp -implicitDefEqProofs (disch := omega) only [Nat.reduceEqDiff, List.map_cons, List.map_nil, Option.map_some, Option.map_none, List.nil_append, ↓reduceIte, vcu0, vcu1, vcu2, vcu3, vcu4, vcu5, vcu6, vcu7, vcu8, vcu9, vcu10, ↓vcd0, ↓vcd1, ↓vcd2]; kernel_rfl) (by kernel_rfl) fun e3 τ5 me3 s5 w5 => ?_
          have hq_τ5 := s5 _ _ hq_τ3
          simp -implicitDefEqProofs (disch := omega) only [Nat.reduceEqDiff, List.map_cons, List.map_nil, Option.map_some, Option.map_none, List.nil_append, ↓reduceIte, vcu0, vcu1, vcu2, vcu3, vcu4, vcu5, vcu6, vcu7, vcu8, vcu9, vcu10, ↓vcd0, ↓vcd1, ↓vcd2]
          refine ⟨keep_of rfl ?_, ?_⟩
          · intro p hp
            simp only [List.mem_cons, List.not_mem_nil, or_false] at hp
            subst hp
            exact .inr (kq _ (hq_τ5))
          refine tree_one rfl ?_
          simp -implicitDefEqProofs (disch := omega) only [Nat.reduceEqDiff, List.map_cons, List.map_nil, Option.map_some, Option.map_none, List.nil_append, ↓reduceIte, vcu0, vcu1, vcu2, vcu3, vcu4, vcu5, vcu6, vcu7, vcu8, vcu9, vcu10, ↓vcd0, ↓vcd1, ↓vcd2]
          refine r_pushI (g := e1) (e := q) (o := 0) (k := .i64) (xs := []) (ys := ps) (m := ps.length) (len := 0) el23 (by omega) sl23 (by simp -implicitDefEqProofs (disch := omega) only [Nat.reduceEqDiff, List.map_cons, List.map_nil, Option.map_some, Option.map_none, List.nil_append, ↓reduceIte, vcu0, vcu1, vcu2, vcu3, vcu4, vcu5, vcu6, vcu7, vcu8, vcu9, vcu10, ↓vcd0, ↓vcd1, ↓vcd2]) (s5 _ _ w3) rfl (by simp -implicitDefEqProofs (disch := omega) only [Nat.reduceEqDiff, List.map_cons, List.map_nil, Option.map_some, Option.map_none, List.nil_append, ↓reduceIte, vcu0, vcu1, vcu2, vcu3, vcu4, vcu5, vcu6, vcu7, vcu8, vcu9, vcu10, ↓vcd0, ↓vcd1, ↓vcd2]) (intsAt_own hq_τ5) rfl (by omega) fun g2 τ4 ng2 kg2 vg2 => ?_
          rw [List.nil_append] at vg2
          have hq_τ4 := kg2.at hq_τ5 (ne_of' me1 hq1)
          have w5' := kg2.at w5 (ne_of me3 w3)
          simp -implicitDefEqProofs (disch := omega) only [Nat.reduceEqDiff, List.map_cons, List.map_nil, Option.map_some, Option.map_none, List.nil_append, ↓reduceIte, vcu0, vcu1, vcu2, vcu3, vcu4, vcu5, vcu6, vcu7, vcu8, vcu9, vcu10, ↓vcd0, ↓vcd1, ↓vcd2, Nat.zero_add]
          refine ⟨keep_of rfl ?_, ?_⟩
          · intro p hp
            simp only [List.mem_cons, List.not_mem_nil, or_false] at hp
            subst hp
            exact .inr (kq _ (hq_τ4))
          refine tree_one rfl ?_
          simp -implicitDefEqProofs (disch := omega) only [Nat.reduceEqDiff, List.map_cons, List.map_nil, Option.map_some, Option.map_none, List.nil_append, ↓reduceIte, vcu0, vcu1, vcu2, vcu3, vcu4, vcu5, vcu6, vcu7, vcu8, vcu9, vcu10, ↓vcd0, ↓vcd1, ↓vcd2]
          refine r_pushI (g := g2) (e := e3) (o := 0) (k := .i64) (xs := ps) (ys := [p0]) (m := 1) (len := ps.length) el23 (by omega) sl23 (by simp -implicitDefEqProofs (disch := omega) only [Nat.reduceEqDiff, List.map_cons, List.map_nil, Option.map_some, Option.map_none, List.nil_append, ↓reduceIte, vcu0, vcu1, vcu2, vcu3, vcu4, vcu5, vcu6, vcu7, vcu8, vcu9, vcu10, ↓vcd0, ↓vcd1, ↓vcd2]) vg2 rfl (by simp -implicitDefEqProofs (disch := omega) only [Nat.reduceEqDiff, List.map_cons, List.map_nil, Option.map_some, Option.map_none, List.nil_append, ↓reduceIte, vcu0, vcu1, vcu2, vcu3, vcu4, vcu5, vcu6, vcu7, vcu8, vcu9, vcu10, ↓vcd0, ↓vcd1, ↓vcd2]) (intsAt_own w5') rfl (by omega) fun g4 τz n4 k4 v4 => ?_
          have hqz := k4.at hq_τ4 (ne_of' ng2 hq_τ5)
          simp -implicitDefEqProofs (disch := omega) only [Nat.reduceEqDiff, List.map_cons, List.map_nil, Option.map_some, Option.map_none, List.nil_append, ↓reduceIte, vcu0, vcu1, vcu2, vcu3, vcu4, vcu5, vcu6, vcu7, vcu8, vcu9, vcu10, ↓vcd0, ↓vcd1, ↓vcd2]
          refine ⟨keep_of rfl ?_, ?_⟩
          · intro p hp
            simp only [List.mem_cons, List.not_mem_nil, or_false] at hp
            subst hp
            exact .inr (kq _ (hqz))
          refine tree_one rfl ?_
          simp -implicitDefEqProofs (disch := omega) only [Nat.reduceEqDiff, List.map_cons, List.map_nil, Option.map_some, Option.map_none, List.nil_append, ↓reduceIte, vcu0, vcu1, vcu2, vcu3, vcu4, vcu5, vcu6, vcu7, vcu8, vcu9, vcu10, ↓vcd0, ↓vcd1, ↓vcd2]
          have hb2 := implValid_at (w0 := w0) τz g4 0 (ps ++ [p0]) (intsAt_own v4) (by simp; omega)
          rw [List.length_append, List.length_singleton, hbad] at hb2
          refine hb2.mono ?_
          rintro r _ ⟨rfl, rfl⟩
          simp -implicitDefEqProofs (disch := omega) only [Nat.reduceEqDiff, List.map_cons, List.map_nil, Option.map_some, Option.map_none, List.nil_append, ↓reduceIte, vcu0, vcu1, vcu2, vcu3, vcu4, vcu5, vcu6, vcu7, vcu8, vcu9, vcu10, ↓vcd0, ↓vcd1, ↓vcd2, opK_some]
          refine ⟨.inl rfl, ?_⟩
          refine tree_quiets _ _ _ _ sf0 (by kernel_rfl) (by kernel_rfl) ?_
          simp -implicitDefEqProofs (disch := omega) only [Nat.reduceEqDiff, List.map_cons, List.map_nil, Option.map_some, Option.map_none, List.nil_append, ↓reduceIte, vcu0, vcu1, vcu2, vcu3, vcu4, vcu5, vcu6, vcu7, vcu8, vcu9, vcu10, ↓vcd0, ↓vcd1, ↓vcd2, pickOps_nil, pickOps_cons, pickO_some, List.getElem?_cons_succ, List.getElem?_cons_zero]
          refine tree_stop ?_
          simp -implicitDefEqProofs (disch := omega) only [Nat.reduceEqDiff, List.map_cons, List.map_nil, Option.map_some, Option.map_none, List.nil_append, ↓reduceIte, vcu0, vcu1, vcu2, vcu3, vcu4, vcu5, vcu6, vcu7, vcu8, vcu9, vcu10, ↓vcd0, ↓vcd1, ↓vcd2]
          refine fin_one Try.results3 ?_
          simp -implicitDefEqProofs (disch := omega) only [Nat.reduceEqDiff, List.map_cons, List.map_nil, Option.map_some, Option.map_none, List.nil_append, ↓reduceIte, vcu0, vcu1, vcu2, vcu3, vcu4, vcu5, vcu6, vcu7, vcu8, vcu9, vcu10, ↓vcd0, ↓vcd1, ↓vcd2]
      ·
        simp -implicitDefEqProofs (disch := omega) only [Nat.reduceEqDiff, List.map_cons, List.map_nil, Option.map_some, Option.map_none, List.nil_append, ↓reduceIte, vcu0, vcu1, vcu2, vcu3, vcu4, vcu5, vcu6, vcu7, vcu8, vcu9, vcu10, ↓vcd0, ↓vcd1, ↓vcd2]
        refine r_lit el23 (out := #[.int .i64 p0]) (by simp -implicitDefEqProofs (disch := omega) only [Nat.reduceEqDiff, List.map_cons, List.map_nil, Option.map_some, Option.map_none, List.nil_append, ↓reduceIte, vcu0, vcu1, vcu2, vcu3, vcu4, vcu5, vcu6, vcu7, vcu8, vcu9, vcu10, ↓vcd0, ↓vcd1, ↓vcd2]; kernel_rfl) (by kernel_rfl) fun e3 τ5 me3 s5 w5 => ?_
        have hq_τ5 := s5 _ _ hq1
        simp -implicitDefEqProofs (disch := omega) only [Nat.reduceEqDiff, List.map_cons, List.map_nil, Option.map_some, Option.map_none, List.nil_append, ↓reduceIte, vcu0, vcu1, vcu2, vcu3, vcu4, vcu5, vcu6, vcu7, vcu8, vcu9, vcu10, ↓vcd0, ↓vcd1, ↓vcd2]
        refine ⟨keep_of rfl ?_, ?_⟩
        · intro p hp
          simp only [List.mem_cons, List.not_mem_nil, or_false] at hp
          subst hp
          exact .inr (kq _ (hq_τ5))
        refine tree_one rfl ?_
        simp -implicitDefEqProofs (disch := omega) only [Nat.reduceEqDiff, List.map_cons, List.map_nil, Option.map_some, Option.map_none, List.nil_append, ↓reduceIte, vcu0, vcu1, vcu2, vcu3, vcu4, vcu5, vcu6, vcu7, vcu8, vcu9, vcu10, ↓vcd0, ↓vcd1, ↓vcd2]
        refine r_lit el23 (out := #[]) (by simp -implicitDefEqProofs (disch := omega) only [Nat.reduceEqDiff, List.map_cons, List.map_nil, Option.map_some, Option.map_none, List.nil_append, ↓reduceIte, vcu0, vcu1, vcu2, vcu3, vcu4, vcu5, vcu6, vcu7, vcu8, vcu9, vcu10, ↓vcd0, ↓vcd1, ↓vcd2]; kernel_rfl) (by kernel_rfl) fun e1 τ3 me1 s3 w3 => ?_
        have hq_τ3 := s3 _ _ hq_τ5
        simp -implicitDefEqProofs (disch := omega) only [Nat.reduceEqDiff, List.map_cons, List.map_nil, Option.map_some, Option.map_none, List.nil_append, ↓reduceIte, vcu0, vcu1, vcu2, vcu3, vcu4, vcu5, vcu6, vcu7, vcu8, vcu9, vcu10, ↓vcd0, ↓vcd1, ↓vcd2]
        refine ⟨keep_of rfl ?_, ?_⟩
        · intro p hp
          simp only [List.mem_cons, List.not_mem_nil, or_false] at hp
          subst hp
          exact .inr (kq _ (hq_τ3))
        refine tree_one rfl ?_
        simp -implicitDefEqProofs (disch := omega) only [Nat.reduceEqDiff, List.map_cons, List.map_nil, Option.map_some, Option.map_none, List.nil_append, ↓reduceIte, vcu0, vcu1, vcu2, vcu3, vcu4, vcu5, vcu6, vcu7, vcu8, vcu9, vcu10, ↓vcd0, ↓vcd1, ↓vcd2]
        refine r_pushI (g := e1) (e := q) (o := 0) (k := .i64) (xs := []) (ys := ps) (m := ps.length) (len := 0) el23 (by omega) sl23 (by simp -implicitDefEqProofs (disch := omega) only [Nat.reduceEqDiff, List.map_cons, List.map_nil, Option.map_some, Option.map_none, List.nil_append, ↓reduceIte, vcu0, vcu1, vcu2, vcu3, vcu4, vcu5, vcu6, vcu7, vcu8, vcu9, vcu10, ↓vcd0, ↓vcd1, ↓vcd2]) w3 rfl (by simp -implicitDefEqProofs (disch := omega) only [Nat.reduceEqDiff, List.map_cons, List.map_nil, Option.map_some, Option.map_none, List.nil_append, ↓reduceIte, vcu0, vcu1, vcu2, vcu3, vcu4, vcu5, vcu6, vcu7, vcu8, vcu9, vcu10, ↓vcd0, ↓vcd1, ↓vcd2]) (intsAt_own hq_τ3) rfl (by omega) fun g2 τ4 ng2 kg2 vg2 => ?_
        rw [List.nil_append] at vg2
        have hq_τ4 := kg2.at hq_τ3 (ne_of' me1 hq_τ5)
        have w5' := kg2.at (s3 _ _ w5) (ne_of' me1 w5)
        simp -implicitDefEqProofs (disch := omega) only [Nat.reduceEqDiff, List.map_cons, List.map_nil, Option.map_some, Option.map_none, List.nil_append, ↓reduceIte, vcu0, vcu1, vcu2, vcu3, vcu4, vcu5, vcu6, vcu7, vcu8, vcu9, vcu10, ↓vcd0, ↓vcd1, ↓vcd2, Nat.zero_add]
        refine ⟨keep_of rfl ?_, ?_⟩
        · intro p hp
          simp only [List.mem_cons, List.not_mem_nil, or_false] at hp
          subst hp
          exact .inr (kq _ (hq_τ4))
        refine tree_one rfl ?_
        simp -implicitDefEqProofs (disch := omega) only [Nat.reduceEqDiff, List.map_cons, List.map_nil, Option.map_some, Option.map_none, List.nil_append, ↓reduceIte, vcu0, vcu1, vcu2, vcu3, vcu4, vcu5, vcu6, vcu7, vcu8, vcu9, vcu10, ↓vcd0, ↓vcd1, ↓vcd2]
        refine r_pushI (g := g2) (e := e3) (o := 0) (k := .i64) (xs := ps) (ys := [p0]) (m := 1) (len := ps.length) el23 (by omega) sl23 (by simp -implicitDefEqProofs (disch := omega) only [Nat.reduceEqDiff, List.map_cons, List.map_nil, Option.map_some, Option.map_none, List.nil_append, ↓reduceIte, vcu0, vcu1, vcu2, vcu3, vcu4, vcu5, vcu6, vcu7, vcu8, vcu9, vcu10, ↓vcd0, ↓vcd1, ↓vcd2]) vg2 rfl (by simp -implicitDefEqProofs (disch := omega) only [Nat.reduceEqDiff, List.map_cons, List.map_nil, Option.map_some, Option.map_none, List.nil_append, ↓reduceIte, vcu0, vcu1, vcu2, vcu3, vcu4, vcu5, vcu6, vcu7, vcu8, vcu9, vcu10, ↓vcd0, ↓vcd1, ↓vcd2]) (intsAt_own w5') rfl (by omega) fun g4 τz n4 k4 v4 => ?_
        have hqz := k4.at hq_τ4 (ne_of' ng2 hq_τ3)
        simp -implicitDefEqProofs (disch := omega) only [Nat.reduceEqDiff, List.map_cons, List.map_nil, Option.map_some, Option.map_none, List.nil_append, ↓reduceIte, vcu0, vcu1, vcu2, vcu3, vcu4, vcu5, vcu6, vcu7, vcu8, vcu9, vcu10, ↓vcd0, ↓vcd1, ↓vcd2]
        refine ⟨keep_of rfl ?_, ?_⟩
        · intro p hp
          simp only [List.mem_cons, List.not_mem_nil, or_false] at hp
          subst hp
          exact .inr (kq _ (hqz))
        refine tree_one rfl ?_
        simp -implicitDefEqProofs (disch := omega) only [Nat.reduceEqDiff, List.map_cons, List.map_nil, Option.map_some, Option.map_none, List.nil_append, ↓reduceIte, vcu0, vcu1, vcu2, vcu3, vcu4, vcu5, vcu6, vcu7, vcu8, vcu9, vcu10, ↓vcd0, ↓vcd1, ↓vcd2]
        have hb2 := implValid_at (w0 := w0) τz g4 0 (ps ++ [p0]) (intsAt_own v4) (by simp; omega)
        rw [List.length_append, List.length_singleton, hbad] at hb2
        refine hb2.mono ?_
        rintro r _ ⟨rfl, rfl⟩
        simp -implicitDefEqProofs (disch := omega) only [Nat.reduceEqDiff, List.map_cons, List.map_nil, Option.map_some, Option.map_none, List.nil_append, ↓reduceIte, vcu0, vcu1, vcu2, vcu3, vcu4, vcu5, vcu6, vcu7, vcu8, vcu9, vcu10, ↓vcd0, ↓vcd1, ↓vcd2, opK_some]
        refine ⟨.inl rfl, ?_⟩
        refine tree_quiets _ _ _ _ sf0 (by kernel_rfl) (by kernel_rfl) ?_
        simp -implicitDefEqProofs (disch := omega) only [Nat.reduceEqDiff, List.map_cons, List.map_nil, Option.map_some, Option.map_none, List.nil_append, ↓reduceIte, vcu0, vcu1, vcu2, vcu3, vcu4, vcu5, vcu6, vcu7, vcu8, vcu9, vcu10, ↓vcd0, ↓vcd1, ↓vcd2, pickOps_nil, pickOps_cons, pickO_some, List.getElem?_cons_succ, List.getElem?_cons_zero]
        refine tree_stop ?_
        simp -implicitDefEqProofs (disch := omega) only [Nat.reduceEqDiff, List.map_cons, List.map_nil, Option.map_some, Option.map_none, List.nil_append, ↓reduceIte, vcu0, vcu1, vcu2, vcu3, vcu4, vcu5, vcu6, vcu7, vcu8, vcu9, vcu10, ↓vcd0, ↓vcd1, ↓vcd2]
        refine fin_one Try.results3 ?_
        simp -implicitDefEqProofs (disch := omega) only [Nat.reduceEqDiff, List.map_cons, List.map_nil, Option.map_some, Option.map_none, List.nil_append, ↓reduceIte, vcu0, vcu1, vcu2, vcu3, vcu4, vcu5, vcu6, vcu7, vcu8, vcu9, vcu10, ↓vcd0, ↓vcd1, ↓vcd2]
  · rw [decide_eq_false hV]
    simp -implicitDefEqProofs (disch := omega) only [Nat.reduceEqDiff, List.map_cons, List.map_nil, Option.map_some, Option.map_none, List.nil_append, ↓reduceIte, vcu0, vcu1, vcu2, vcu3, vcu4, vcu5, vcu6, vcu7, vcu8, vcu9, vcu10, ↓vcd0, ↓vcd1, ↓vcd2, opK_some, beq_self_eq_true]
    refine (implValid_calls _ _ [] (.inl ⟨rfl, rfl⟩) (by simp)).mono ?_
    rintro r _ ⟨rfl, rfl⟩
    rw [hnil]
    simp -implicitDefEqProofs (disch := omega) only [Nat.reduceEqDiff, List.map_cons, List.map_nil, Option.map_some, Option.map_none, List.nil_append, ↓reduceIte, vcu0, vcu1, vcu2, vcu3, vcu4, vcu5, vcu6, vcu7, vcu8, vcu9, vcu10, ↓vcd0, ↓vcd1, ↓vcd2, opK_some]
    refine (alive_at _).mono ?_
    rintro r _ ⟨rfl, rfl⟩
    simp -implicitDefEqProofs (disch := omega) only [Nat.reduceEqDiff, List.map_cons, List.map_nil, Option.map_some, Option.map_none, List.nil_append, ↓reduceIte, vcu0, vcu1, vcu2, vcu3, vcu4, vcu5, vcu6, vcu7, vcu8, vcu9, vcu10, ↓vcd0, ↓vcd1, ↓vcd2, opK_some]
    refine fin_one Try.results3 ?_
    simp -implicitDefEqProofs (disch := omega) only [Nat.reduceEqDiff, List.map_cons, List.map_nil, Option.map_some, Option.map_none, List.nil_append, ↓reduceIte, vcu0, vcu1, vcu2, vcu3, vcu4, vcu5, vcu6, vcu7, vcu8, vcu9, vcu10, ↓vcd0, ↓vcd1, ↓vcd2]

open Go.ChangeShapes Go.WideShapes Go.ChangeAt Go.RowKit

set_option maxRecDepth 100000 in
theorem lifted3 (os : Os) (started : os.Started) (H : Type) (enc : TypeId × Value → H) :
    ReturnsInHanded {} Try.checked os 3 .any (Rows.fnPermValidSpec.pre6 enc Try.prog Try.f3 Rows.fnPermValidRow.domain false) (Rows.fnPermValidSpec.post enc Try.prog Try.f3 false true false false) := by
  refine returnsInHanded_of_change (C := Try.checked) own started (by kernel_rfl) Try.func3
    (ChangeSpec.witness6 (enc := enc) (C := Try.checked) false ⟨#[], #[.slice none 0 0], []⟩ 8 (by kernel_rfl) (by kernel_rfl) (by kernel_rfl) (by kernel_rfl)) ?_
  intro W base args ds gs before hval hW _ _
  have hW' := hW
  obtain ⟨p, q, hA, hV, -, -, -⟩ := hW'
  rw [Try.params3] at hA hval
  obtain ⟨v0, vs0, d0, ds0, p0, q0, hargs, rfl, rfl, h0, r0⟩ := trodAll_cons hA
  obtain ⟨rfl, rfl, rfl⟩ := trodAll_nil r0
  obtain ⟨rfl, rfl⟩ := trodVars_none hV
  obtain rfl : args = #[v0] := by cases args; simp_all
  obtain ⟨β0, σ0, a0, zs0, L0, U0, S0, R0, I0, w0, m0⟩ := start_ints Try.underlying22 Try.underlying5 co5 (Start.start W) (hval 0 22 v0 rfl rfl) h0
  refine ((law3 σ0 a0 zs0 (I0) m0 w0).2 β0 W [v0] S0.rel (.cons R0 (.nil _))).mono fun e W' h => ?_
  obtain ⟨β', r, r', σ', -, rfl, hr, hrel, rfl⟩ := h
  cases hr
  exact ⟨_, rfl, law_post laidOut hW rfl rfl (by rw [Try.params3]; intro t ht; simp only [List.mem_cons, List.not_mem_nil, or_false, or_self] at ht; rcases ht with rfl <;> exact ⟨by kernel_rfl, of_decide_eq_true (by kernel_rfl)⟩) rfl Try.underlying4 hrel.below⟩

theorem facts3 : joinedFacts Try.prog 3 Try.f3 Rows.fnPermValidSpec Rows.fnPermValidRow = true := by
  unfold joinedFacts
  rw [mayE, liftsE, makeE]
  kernel_rfl

theorem proved3 : Rows.FnPermValidSaid :=
  OpenClaim.holds_of_wide 3 Try.f3 rfl rfl rfl rfl rfl rfl rfl ⟨rfl, rfl, rfl, rfl, rfl⟩ rfl rfl rfl rfl rfl (by kernel_rfl) Try.func3 facts3 (of_decide_eq_true (by kernel_rfl))
    (by unfold Func.isWrapper; first | (rw [if_pos (by decide +kernel)]; kernel_rfl) | (rw [if_neg (by decide +kernel)]; exact ⟨rfl, rfl⟩))
    (fun os started H enc _ => lifted3 os started H enc)


end Go.Proofs.Ytdgbaglhhhbbhaa
