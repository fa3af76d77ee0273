/- The draws: a list; the draws of the laws of permutations. -/
import Derived.Test.YtdgbaglhhhbbhaaPk
set_option linter.unusedSimpArgs false
set_option linter.unusedVariables false
namespace Go.Proofs.Ytdgbaglhhhbbhaa
open Go Go.Abs Go.RowKit
variable {w0 : World}

theorem appd_end (A B : List Int) : appd (ints .i64 A) A.length (ints .i64 B) = ints .i64 (A ++ B) := by
  rw [appd_gen]
  split
  · rename_i h
    have : B = [] := List.eq_nil_of_length_eq_zero (by omega)
    subst this; simp
  · rw [List.take_of_length_le (Nat.le_refl _)]

theorem list_draw (β σ : AHeap) (g h o : Nat) (bs : List Int) (p n : Int) (hr : Rd β σ g h o bs p) (hp : 0 ≤ p ∧ p ≤ 1000) (hn : 1 ≤ n ∧ n ≤ 1000) :
    ACall Try.prog w0 50 [.pointer (some ⟨g, 0, none⟩), .int .i64 n] σ fun r σ' => ∃ (q : Nat) (ps : List Int) (p' : Int), r = .slice (some ⟨q, 0, none⟩) ps.length 1 ∧ ps.length ≤ 7 ∧ σ' q = some ⟨ints .i64 ps, false⟩ ∧ β q = none ∧ q ≠ g ∧ p ≤ p' ∧ p' ≤ p + 20 ∧ Rd β σ' g h o bs p' := by
  refine acall_go mixed Try.func50 rfl good50 ?_
  simp -implicitDefEqProofs (disch := omega) only [List.any_cons, List.any_nil, Nat.reduceEqDiff, List.map_cons, List.map_nil, Option.map_some, Option.map_none, List.nil_append, ↓reduceIte, vcu0, vcu1, vcu2, vcu3, vcu4, vcu5, vcu6, vcu7, vcu8, vcu9, vcu10, vcu11, vcu12, vcu13, vcu14, ↓vcd0, ↓vcd1, ↓vcd2]
  refine (pick_at β σ g h o bs p 7 hr (by omega) (by omega)).mono ?_
  rintro r σ1 ⟨z, rfl, hz0, hz1, hR1, -⟩
  obtain ⟨zn, rfl⟩ : ∃ zn : Nat, z = zn := ⟨z.toNat, by omega⟩
  simp -implicitDefEqProofs (disch := omega) only [List.any_cons, List.any_nil, Nat.reduceEqDiff, List.map_cons, List.map_nil, Option.map_some, Option.map_none, List.nil_append, ↓reduceIte, vcu0, vcu1, vcu2, vcu3, vcu4, vcu5, vcu6, vcu7, vcu8, vcu9, vcu10, vcu11, vcu12, vcu13, vcu14, ↓vcd0, ↓vcd1, ↓vcd2, opK_some]
  refine (perm_draw β σ1 g h o bs (p + 1) zn hR1 (by omega) (by omega)).mono ?_
  rintro r σ2 ⟨q, ps, p2, rfl, hpl, hq, hqf, hqg, hp2, hp3, hR2⟩
  simp -implicitDefEqProofs (disch := omega) only [List.any_cons, List.any_nil, Nat.reduceEqDiff, List.map_cons, List.map_nil, Option.map_some, Option.map_none, List.nil_append, ↓reduceIte, vcu0, vcu1, vcu2, vcu3, vcu4, vcu5, vcu6, vcu7, vcu8, vcu9, vcu10, vcu11, vcu12, vcu13, vcu14, ↓vcd0, ↓vcd1, ↓vcd2, opK_some]
  refine (odd_at β σ2 g h o bs p2 n hR2 (by omega) (by omega)).mono ?_
  rintro r σ3 ⟨b, rfl, hR3, hK3⟩
  have hq3 := hK3 q _ hqg hq
  cases b with
  | false =>
    simp -implicitDefEqProofs (disch := omega) only [List.any_cons, List.any_nil, Nat.reduceEqDiff, List.map_cons, List.map_nil, Option.map_some, Option.map_none, List.nil_append, ↓reduceIte, vcu0, vcu1, vcu2, vcu3, vcu4, vcu5, vcu6, vcu7, vcu8, vcu9, vcu10, vcu11, vcu12, vcu13, vcu14, ↓vcd0, ↓vcd1, ↓vcd2, opK_some]
    refine fin_one Try.results50 ⟨q, ps, p2 + 1, ?_, by omega, hq3, hqf, hqg, by omega, by omega, hR3⟩
    simp -implicitDefEqProofs (disch := omega) only [List.any_cons, List.any_nil, Nat.reduceEqDiff, List.map_cons, List.map_nil, Option.map_some, Option.map_none, List.nil_append, ↓reduceIte, vcu0, vcu1, vcu2, vcu3, vcu4, vcu5, vcu6, vcu7, vcu8, vcu9, vcu10, vcu11, vcu12, vcu13, vcu14, ↓vcd0, ↓vcd1, ↓vcd2, hpl]
  | true =>
    simp -implicitDefEqProofs (disch := omega) only [List.any_cons, List.any_nil, Nat.reduceEqDiff, List.map_cons, List.map_nil, Option.map_some, Option.map_none, List.nil_append, ↓reduceIte, vcu0, vcu1, vcu2, vcu3, vcu4, vcu5, vcu6, vcu7, vcu8, vcu9, vcu10, vcu11, vcu12, vcu13, vcu14, ↓vcd0, ↓vcd1, ↓vcd2, opK_some]
    refine (pick_at β σ3 g h o bs (p2 + 1) 3 hR3 (by omega) (by omega)).mono ?_
    rintro r σ4 ⟨c, rfl, hc0, hc1, hR4, hK4⟩
    have hq4 := hK4 q _ hqg hq3
    have hsz : Try.t3.size = 1 := rfl
    by_cases e0 : c = 0
    · subst e0
      simp -implicitDefEqProofs (disch := omega) only [List.any_cons, List.any_nil, Nat.reduceEqDiff, List.map_cons, List.map_nil, Option.map_some, Option.map_none, List.nil_append, ↓reduceIte, vcu0, vcu1, vcu2, vcu3, vcu4, vcu5, vcu6, vcu7, vcu8, vcu9, vcu10, vcu11, vcu12, vcu13, vcu14, ↓vcd0, ↓vcd1, ↓vcd2, opK_some, decide_true]
      refine r_lit_at Try.underlying23 ze3 (out := #[.int .i64 0]) (by kernel_rfl) (by kernel_rfl) fun e1 he1 => ?_
      simp -implicitDefEqProofs (disch := omega) only [List.any_cons, List.any_nil, Nat.reduceEqDiff, List.map_cons, List.map_nil, Option.map_some, Option.map_none, List.nil_append, ↓reduceIte, vcu0, vcu1, vcu2, vcu3, vcu4, vcu5, vcu6, vcu7, vcu8, vcu9, vcu10, vcu11, vcu12, vcu13, vcu14, ↓vcd0, ↓vcd1, ↓vcd2]
      refine r_append_at Try.underlying23 Try.underlying23 (i := Try.t3) (z := .int .i64 0) (ys := ints .i64 [(0 : Int)]) (h := q) (b := 0) (len := zn) (ob := ⟨ints .i64 ps, false⟩) rfl rfl ?_ (by simp -implicitDefEqProofs (disch := omega) only [List.any_cons, List.any_nil, Nat.reduceEqDiff, List.map_cons, List.map_nil, Option.map_some, Option.map_none, List.nil_append, ↓reduceIte, vcu0, vcu1, vcu2, vcu3, vcu4, vcu5, vcu6, vcu7, vcu8, vcu9, vcu10, vcu11, vcu12, vcu13, vcu14, ↓vcd0, ↓vcd1, ↓vcd2]; rfl) (put_other hq4 he1) rfl ?_ rfl ?_ fun q1 hq1 => ?_
      · simp -implicitDefEqProofs (disch := omega) only [List.any_cons, List.any_nil, Nat.reduceEqDiff, List.map_cons, List.map_nil, Option.map_some, Option.map_none, List.nil_append, ↓reduceIte, vcu0, vcu1, vcu2, vcu3, vcu4, vcu5, vcu6, vcu7, vcu8, vcu9, vcu10, vcu11, vcu12, vcu13, vcu14, ↓vcd0, ↓vcd1, ↓vcd2, co3]
        exact acells_at (k := .i64) (o := 0) (xs := [(0 : Int)]) (intsAt_own (AHeap.upd_same _ _ _)) ⟨_, AHeap.upd_same _ _ _, by simp⟩
      · show 0 + zn * 1 ≤ (ints .i64 ps).length
        rw [ints_length]; omega
      · show (zn * 1 + 1) * 8 ≤ _ ∧ zn * 1 + 1 ≤ _
        omega
      have eb : appd (List.drop 0 (ints .i64 ps)) (zn * Try.t3.size) (ints .i64 [(0 : Int)]) = ints .i64 (ps ++ [0]) := by
        rw [List.drop_zero, hsz, Nat.mul_one, ← hpl]; exact appd_end ps [0]
      rw [eb]
      have hq1' : σ4 q1 = none := free_sub (sub_put (Sub.refl _) he1) hq1
      have hq1g : q1 ≠ g := by rintro rfl; rw [hR4.at_] at hq1'; cases hq1'
      have he1g : e1 ≠ g := by rintro rfl; rw [hR4.at_] at he1; cases he1
      simp -implicitDefEqProofs (disch := omega) only [List.any_cons, List.any_nil, Nat.reduceEqDiff, List.map_cons, List.map_nil, Option.map_some, Option.map_none, List.nil_append, ↓reduceIte, vcu0, vcu1, vcu2, vcu3, vcu4, vcu5, vcu6, vcu7, vcu8, vcu9, vcu10, vcu11, vcu12, vcu13, vcu14, ↓vcd0, ↓vcd1, ↓vcd2]
      refine fin_one Try.results50 ⟨q1, ps ++ [0], p2 + 1 + 1, ?_, by simp; omega, AHeap.upd_same _ _ _, free_sub hR4.sub hq1', hq1g, by omega, by omega, hR4.keep (sub_put (sub_put (sub_put hR4.sub (free_sub hR4.sub he1)) hqf) (free_sub hR4.sub hq1')) (by rw [AHeap.upd_ne _ _ hq1g.symm, AHeap.upd_ne _ _ hqg.symm, AHeap.upd_ne _ _ he1g.symm])⟩
      simp -implicitDefEqProofs (disch := omega) only [List.any_cons, List.any_nil, Nat.reduceEqDiff, List.map_cons, List.map_nil, Option.map_some, Option.map_none, List.nil_append, ↓reduceIte, vcu0, vcu1, vcu2, vcu3, vcu4, vcu5, vcu6, vcu7, vcu8, vcu9, vcu10, vcu11, vcu12, vcu13, vcu14, ↓vcd0, ↓vcd1, ↓vcd2, hsz, ints_length, Nat.div_one, List.length_append, hpl, List.length_singleton]
    · by_cases e1 : c = 1
      · subst e1
        simp -implicitDefEqProofs (disch := omega) only [List.any_cons, List.any_nil, Nat.reduceEqDiff, List.map_cons, List.map_nil, Option.map_some, Option.map_none, List.nil_append, ↓reduceIte, vcu0, vcu1, vcu2, vcu3, vcu4, vcu5, vcu6, vcu7, vcu8, vcu9, vcu10, vcu11, vcu12, vcu13, vcu14, ↓vcd0, ↓vcd1, ↓vcd2, opK_some, decide_true]
        refine r_lit_at Try.underlying23 ze3 (out := (ints .i64 [0, 1, 2, 3, 4, 5, 6]).toArray) (by kernel_rfl) (by kernel_rfl) fun q1 hq1 => ?_
        have hq1g : q1 ≠ g := by rintro rfl; rw [hR4.at_] at hq1; cases hq1
        simp -implicitDefEqProofs (disch := omega) only [List.any_cons, List.any_nil, Nat.reduceEqDiff, List.map_cons, List.map_nil, Option.map_some, Option.map_none, List.nil_append, ↓reduceIte, vcu0, vcu1, vcu2, vcu3, vcu4, vcu5, vcu6, vcu7, vcu8, vcu9, vcu10, vcu11, vcu12, vcu13, vcu14, ↓vcd0, ↓vcd1, ↓vcd2]
        refine fin_one Try.results50 ⟨q1, [0, 1, 2, 3, 4, 5, 6], p2 + 1 + 1, ?_, by simp, AHeap.upd_same _ _ _, free_sub hR4.sub hq1, hq1g, by omega, by omega, hR4.keep (sub_put hR4.sub (free_sub hR4.sub hq1)) (AHeap.upd_ne _ _ hq1g.symm)⟩
        simp -implicitDefEqProofs (disch := omega) only [List.any_cons, List.any_nil, Nat.reduceEqDiff, List.map_cons, List.map_nil, Option.map_some, Option.map_none, List.nil_append, ↓reduceIte, vcu0, vcu1, vcu2, vcu3, vcu4, vcu5, vcu6, vcu7, vcu8, vcu9, vcu10, vcu11, vcu12, vcu13, vcu14, ↓vcd0, ↓vcd1, ↓vcd2, co3]
        rfl
      · simp -implicitDefEqProofs (disch := omega) only [List.any_cons, List.any_nil, Nat.reduceEqDiff, List.map_cons, List.map_nil, Option.map_some, Option.map_none, List.nil_append, ↓reduceIte, vcu0, vcu1, vcu2, vcu3, vcu4, vcu5, vcu6, vcu7, vcu8, vcu9, vcu10, vcu11, vcu12, vcu13, vcu14, ↓vcd0, ↓vcd1, ↓vcd2, opK_some]
        refine r_lit_at Try.underlying23 ze3 (out := (ints .i64 [-1]).toArray) (by kernel_rfl) (by kernel_rfl) fun e1 he1 => ?_
        simp -implicitDefEqProofs (disch := omega) only [List.any_cons, List.any_nil, Nat.reduceEqDiff, List.map_cons, List.map_nil, Option.map_some, Option.map_none, List.nil_append, ↓reduceIte, vcu0, vcu1, vcu2, vcu3, vcu4, vcu5, vcu6, vcu7, vcu8, vcu9, vcu10, vcu11, vcu12, vcu13, vcu14, ↓vcd0, ↓vcd1, ↓vcd2]
        have hq5 : (σ4.upd e1 (some ⟨(ints .i64 [-1]).toArray.toList, false⟩)) q = some ⟨ints .i64 ps, false⟩ := put_other hq4 he1
        refine r_append_at Try.underlying23 Try.underlying23 (i := Try.t3) (z := .int .i64 0) (ys := ints .i64 ps) (h := e1) (b := 0) (len := 1) (ob := ⟨ints .i64 [-1], false⟩) rfl rfl ?_ (by simp -implicitDefEqProofs (disch := omega) only [List.any_cons, List.any_nil, Nat.reduceEqDiff, List.map_cons, List.map_nil, Option.map_some, Option.map_none, List.nil_append, ↓reduceIte, vcu0, vcu1, vcu2, vcu3, vcu4, vcu5, vcu6, vcu7, vcu8, vcu9, vcu10, vcu11, vcu12, vcu13, vcu14, ↓vcd0, ↓vcd1, ↓vcd2, co3]; rfl) (AHeap.upd_same _ _ _) rfl ?_ (ints_one _) ?_ fun q1 hq1 => ?_
        · have hA := acells_at (k := .i64) (o := 0) (xs := ps) (intsAt_own hq5) ⟨_, hq5, by rw [ints_length]; omega⟩
          rw [hpl] at hA
          simp -implicitDefEqProofs (disch := omega) only [List.any_cons, List.any_nil, Nat.reduceEqDiff, List.map_cons, List.map_nil, Option.map_some, Option.map_none, List.nil_append, ↓reduceIte, vcu0, vcu1, vcu2, vcu3, vcu4, vcu5, vcu6, vcu7, vcu8, vcu9, vcu10, vcu11, vcu12, vcu13, vcu14, ↓vcd0, ↓vcd1, ↓vcd2]
          exact hA
        · show 0 + 1 * 1 ≤ 1
          omega
        · rw [ints_length, hpl]
          show (1 * 1 + zn) * 8 ≤ _ ∧ 1 * 1 + zn ≤ _
          omega
        have eb : appd (List.drop 0 (ints .i64 [-1])) (1 * Try.t3.size) (ints .i64 ps) = ints .i64 ([-1] ++ ps) := appd_end [-1] ps
        rw [eb]
        have hq1' : σ4 q1 = none := free_sub (sub_put (Sub.refl _) he1) hq1
        have hq1g : q1 ≠ g := by rintro rfl; rw [hR4.at_] at hq1'; cases hq1'
        have he1g : e1 ≠ g := by rintro rfl; rw [hR4.at_] at he1; cases he1
        simp -implicitDefEqProofs (disch := omega) only [List.any_cons, List.any_nil, Nat.reduceEqDiff, List.map_cons, List.map_nil, Option.map_some, Option.map_none, List.nil_append, ↓reduceIte, vcu0, vcu1, vcu2, vcu3, vcu4, vcu5, vcu6, vcu7, vcu8, vcu9, vcu10, vcu11, vcu12, vcu13, vcu14, ↓vcd0, ↓vcd1, ↓vcd2]
        refine fin_one Try.results50 ⟨q1, [-1] ++ ps, p2 + 1 + 1, ?_, by simp; omega, AHeap.upd_same _ _ _, free_sub hR4.sub hq1', hq1g, by omega, by omega, hR4.keep (sub_put (sub_put (sub_put hR4.sub (free_sub hR4.sub he1)) (free_sub hR4.sub he1)) (free_sub hR4.sub hq1')) (by rw [AHeap.upd_ne _ _ hq1g.symm, AHeap.upd_ne _ _ he1g.symm, AHeap.upd_ne _ _ he1g.symm])⟩
        simp -implicitDefEqProofs (disch := omega) only [List.any_cons, List.any_nil, Nat.reduceEqDiff, List.map_cons, List.map_nil, Option.map_some, Option.map_none, List.nil_append, ↓reduceIte, vcu0, vcu1, vcu2, vcu3, vcu4, vcu5, vcu6, vcu7, vcu8, vcu9, vcu10, vcu11, vcu12, vcu13, vcu14, ↓vcd0, ↓vcd1, ↓vcd2, hsz, ints_length, Nat.div_one, List.length_append, hpl, List.length_singleton]

end Go.Proofs.Ytdgbaglhhhbbhaa
