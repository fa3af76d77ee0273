/- Permutations that are drawn. -/
import Derived.Test.YtphacjkogompoaaYa
set_option linter.unusedSimpArgs false
set_option linter.unusedVariables false
namespace Go.Proofs.Ytphacjkogompoaa
open Go Go.Abs Go.RowKit
variable {w0 : World}

theorem appd_gen (A B : List Int) (n : Nat) : appd (ints .i64 A) n (ints .i64 B) = ints .i64 (if n + B.length ≤ A.length then A.take n ++ B ++ A.drop (n + B.length) else A.take n ++ B) := by
  unfold appd
  rw [ints_length, ints_length]
  split
  · unfold lwrite; rw [ints_length]; simp [ints]
  · simp [ints]
theorem insert_eq (ps : List Int) (z : Nat) (v : Int) (hz : z ≤ ps.length) :
    appd (appd (ints .i64 ps) z (ints .i64 [v])) (z + 1) (ints .i64 (ps.drop z)) = ints .i64 (ps.take z ++ [v] ++ ps.drop z) := by
  rw [appd_gen, appd_gen]
  congr 1
  have hl : (ps.take z ++ [v]).length = z + 1 := by simp; omega
  by_cases h : z + [v].length ≤ ps.length
  · rw [if_pos h, if_neg (by simp at h ⊢; omega), List.take_append_of_le_length (by omega), List.take_of_length_le (by omega)]
  · rw [if_neg h]
    have e : z = ps.length := by simp at h; omega
    subst e
    rw [List.take_of_length_le (Nat.le_refl _), List.take_of_length_le (by simp)]
    simp

theorem Rd.keep {β σ τ : AHeap} {g h o : Nat} {bs : List Int} {p : Int} (hr : Rd β σ g h o bs p) (hs : Sub β τ) (hg : τ g = σ g) : Rd β τ g h o bs p :=
  ⟨by rw [hg]; exact hr.at_, hs, hr.free, hr.ints, hr.len, hr.byte⟩

theorem perm_draw (β σ : AHeap) (g h o : Nat) (bs : List Int) (p : Int) (n : Nat) (hr : Rd β σ g h o bs p) (hp : 0 ≤ p ∧ p ≤ 10000) (hn : n ≤ 100) :
    ACall Try.prog w0 90 [.pointer (some ⟨g, 0, none⟩), .int .i64 n] σ fun r σ' => ∃ (q : Nat) (ps : List Int) (p' : Int), r = .slice (some ⟨q, 0, none⟩) n 1 ∧ ps.length = n ∧ σ' q = some ⟨ints .i64 ps, false⟩ ∧ β q = none ∧ q ≠ g ∧ p ≤ p' ∧ p' ≤ p + n ∧ Rd β σ' g h o bs p' := by
  refine acall_go mixed Try.func90 rfl good90 fun pr => ?_
  simp -implicitDefEqProofs (disch := omega) only [List.any_cons, List.any_nil, Nat.reduceEqDiff, List.map_cons, List.map_nil, Option.map_some, Option.map_none, List.nil_append, ↓reduceIte, vcu, ↓vcd]
  refine r_lit_at Try.underlying37 ze3 (out := #[]) (by kernel_rfl) (by kernel_rfl) fun q hq => ?_
  simp -implicitDefEqProofs (disch := omega) only [List.any_cons, List.any_nil, Nat.reduceEqDiff, List.map_cons, List.map_nil, Option.map_some, Option.map_none, List.nil_append, ↓reduceIte, vcu, ↓vcd]
  have hqg : q ≠ g := by rintro rfl; rw [hr.at_] at hq; cases hq
  refine vc_loop mixed (by kernel_rfl) (fun m a τ => ∃ (k q : Nat) (ps : List Int) (p' : Int), m + k = n ∧ a 0 = .pointer (some ⟨g, 0, none⟩) ∧ a 1 = .int .i64 n ∧ a 5 = .slice (some ⟨q, 0, none⟩) k 1 ∧ a 6 = .int .i64 k ∧ ps.length = k ∧ τ q = some ⟨ints .i64 ps, false⟩ ∧ β q = none ∧ q ≠ g ∧ p ≤ p' ∧ p' ≤ p + k ∧ Rd β τ g h o bs p')
    n ⟨0, q, [], p, by simp, rfl, rfl, by simp -implicitDefEqProofs (disch := omega) only [List.any_cons, List.any_nil, Nat.reduceEqDiff, List.map_cons, List.map_nil, Option.map_some, Option.map_none, List.nil_append, ↓reduceIte, vcu, ↓vcd, co3], rfl, rfl, AHeap.upd_same _ _ _, free_sub hr.sub hq, hqg, by omega, by omega, hr.keep (sub_put hr.sub (free_sub hr.sub hq)) (AHeap.upd_ne _ _ hqg.symm)⟩ ?_
  clear hq hqg q hr
  rintro m a τ ⟨k, q, ps, p', hk, h0, h1, h5, h6, hpl, hqv, hqf, hqg, hp1, hp2, hr⟩
  by_cases hlt : k < n
  · simp -implicitDefEqProofs (disch := omega) only [List.any_cons, List.any_nil, Nat.reduceEqDiff, List.map_cons, List.map_nil, Option.map_some, Option.map_none, List.nil_append, ↓reduceIte, vcu, ↓vcd, h0, h1, h5, h6]
    refine (pick_at β _ g h o bs p' ((k : Int) + 1) hr (by omega) (by omega)).mono ?_
    rintro r τ1 ⟨z, rfl, hz0, hz1, hR, hK⟩
    have hqv1 := hK q _ hqg hqv
    obtain ⟨zt, rfl⟩ : ∃ zt : Nat, z = zt := ⟨z.toNat, by omega⟩
    have hzk : zt ≤ k := by omega
    simp -implicitDefEqProofs (disch := omega) only [List.any_cons, List.any_nil, Nat.reduceEqDiff, List.map_cons, List.map_nil, Option.map_some, Option.map_none, List.nil_append, ↓reduceIte, vcu, ↓vcd, opK_some, h0, h1, h5, h6, Int.toNat_natCast]
    refine r_lit_at Try.underlying37 ze3 (out := #[]) (by kernel_rfl) (by kernel_rfl) fun e1 he1 => ?_
    simp -implicitDefEqProofs (disch := omega) only [List.any_cons, List.any_nil, Nat.reduceEqDiff, List.map_cons, List.map_nil, Option.map_some, Option.map_none, List.nil_append, ↓reduceIte, vcu, ↓vcd, h5, Int.toNat_natCast]
    have hdl : (ps.drop zt).length = k - zt := by simp [hpl]
    refine r_append_at Try.underlying37 Try.underlying37 (i := Try.t3) (z := .int .i64 0) (ys := ints .i64 (ps.drop zt)) (h := e1) (b := 0) (len := 0) (ob := ⟨[], false⟩) rfl rfl ?_ (by simp -implicitDefEqProofs (disch := omega) only [List.any_cons, List.any_nil, Nat.reduceEqDiff, List.map_cons, List.map_nil, Option.map_some, Option.map_none, List.nil_append, ↓reduceIte, vcu, ↓vcd, co3]; rfl) (AHeap.upd_same _ _ _) rfl (by simp) ?_ ?_ fun r1 hr1 => ?_
    · simp -implicitDefEqProofs (disch := omega) only [List.any_cons, List.any_nil, Nat.reduceEqDiff, List.map_cons, List.map_nil, Option.map_some, Option.map_none, List.nil_append, ↓reduceIte, vcu, ↓vcd]
      have hq2 : (τ1.upd e1 (some ⟨[], false⟩)) q = some ⟨ints .i64 ps, false⟩ := put_other hqv1 he1
      have hA := acells_at (k := .i64) (o := 0 + zt) (xs := ps.drop zt) ((intsAt_own hq2).drop zt) ⟨_, hq2, by rw [ints_length, hdl]; omega⟩
      rw [hdl] at hA
      exact hA
    · exact ints_one _ _
    · rw [ints_length, hdl]
      show (0 * 1 + (k - zt)) * 8 ≤ _ ∧ 0 * 1 + (k - zt) ≤ _
      omega
    have ea : appd (List.drop 0 ([] : List Value)) (0 * Try.t3.size) (ints .i64 (ps.drop zt)) = ints .i64 (ps.drop zt) := by
      have := appd_gen [] (ps.drop zt) 0
      rw [show (0 * Try.t3.size) = 0 from Nat.zero_mul _]
      rw [show (List.drop 0 ([] : List Value)) = ints .i64 [] from rfl, this]
      congr 1
      split
      · rename_i hh; have : ps.drop zt = [] := List.eq_nil_of_length_eq_zero (by simp at hh ⊢; omega)
        simp [this]
      · simp
    rw [ea]
    have hr1' : τ1 r1 = none := free_sub (sub_upd he1) hr1
    have hr1n : r1 ≠ q := by rintro rfl; rw [hqv1] at hr1'; cases hr1'
    have hr1g : r1 ≠ g := by rintro rfl; rw [hR.at_] at hr1'; cases hr1'
    have he1g : e1 ≠ g := by rintro rfl; rw [hR.at_] at he1; cases he1
    have he1q : e1 ≠ q := by rintro rfl; rw [hqv1] at he1; cases he1
    generalize hH : ((τ1.upd e1 (some ⟨[], false⟩)).upd e1 none).upd r1 (some ⟨ints .i64 (ps.drop zt), false⟩) = H
    have Hs : Sub β H := by rw [← hH]; exact sub_put (sub_put (sub_put hR.sub (free_sub hR.sub he1)) (free_sub hR.sub he1)) (free_sub hR.sub hr1')
    have Hq : H q = some ⟨ints .i64 ps, false⟩ := by rw [← hH, AHeap.upd_ne _ _ hr1n.symm, AHeap.upd_ne _ _ he1q.symm, AHeap.upd_ne _ _ he1q.symm]; exact hqv1
    have Hg : H g = τ1 g := by rw [← hH, AHeap.upd_ne _ _ hr1g.symm, AHeap.upd_ne _ _ he1g.symm, AHeap.upd_ne _ _ he1g.symm]
    have Hr : H r1 = some ⟨ints .i64 (ps.drop zt), false⟩ := by rw [← hH]; exact AHeap.upd_same _ _ _
    have Hrf : β r1 = none := free_sub hR.sub hr1'
    have HR := hR.keep Hs Hg
    have hlen1 : (ints .i64 (ps.drop zt)).length / Try.t3.size = k - zt := by rw [ints_length, hdl]; exact Nat.div_one _
    have hsz : Try.t3.size = 1 := rfl
    clear hH hr1 hr1' he1g he1q he1 ea
    have hlk : (ints .i64 [(k : Int)]).length / Try.t3.size = 1 := by rw [hsz, ints_length, Nat.div_one]; rfl
    simp -implicitDefEqProofs (disch := omega) only [List.any_cons, List.any_nil, Nat.reduceEqDiff, List.map_cons, List.map_nil, Option.map_some, Option.map_none, List.nil_append, ↓reduceIte, vcu, ↓vcd, h5, h6, Int.toNat_natCast, hlen1, hsz, Nat.zero_add]
    refine r_lit_at Try.underlying37 ze3 (out := #[.int .i64 k]) (by simp -implicitDefEqProofs (disch := omega) only [List.any_cons, List.any_nil, Nat.reduceEqDiff, List.map_cons, List.map_nil, Option.map_some, Option.map_none, List.nil_append, ↓reduceIte, vcu, ↓vcd, h6]; kernel_rfl) (by kernel_rfl) fun e2 he2 => ?_
    simp -implicitDefEqProofs (disch := omega) only [List.any_cons, List.any_nil, Nat.reduceEqDiff, List.map_cons, List.map_nil, Option.map_some, Option.map_none, List.nil_append, ↓reduceIte, vcu, ↓vcd]
    have Hq2 : (H.upd e2 (some ⟨[.int .i64 k], false⟩)) q = some ⟨ints .i64 ps, false⟩ := put_other Hq he2
    refine r_append_at Try.underlying37 Try.underlying37 (i := Try.t3) (z := .int .i64 0) (ys := ints .i64 [(k : Int)]) (h := q) (b := 0) (len := zt) (ob := ⟨ints .i64 ps, false⟩) rfl rfl ?_ (by simp -implicitDefEqProofs (disch := omega) only [List.any_cons, List.any_nil, Nat.reduceEqDiff, List.map_cons, List.map_nil, Option.map_some, Option.map_none, List.nil_append, ↓reduceIte, vcu, ↓vcd]; rfl) Hq2 rfl ?_ ?_ ?_ fun q1 hq1 => ?_
    · simp -implicitDefEqProofs (disch := omega) only [List.any_cons, List.any_nil, Nat.reduceEqDiff, List.map_cons, List.map_nil, Option.map_some, Option.map_none, List.nil_append, ↓reduceIte, vcu, ↓vcd, co3]
      exact acells_at (k := .i64) (o := 0) (xs := [(k : Int)]) (intsAt_own (AHeap.upd_same _ _ _)) ⟨_, AHeap.upd_same _ _ _, by simp⟩
    · show 0 + zt * 1 ≤ (ints .i64 ps).length
      rw [ints_length]; omega
    · rfl
    · show (zt * 1 + 1) * 8 ≤ _ ∧ zt * 1 + 1 ≤ _
      omega
    have hq1' : H q1 = none := free_sub (sub_upd he2) hq1
    have he2q : e2 ≠ q := by rintro rfl; rw [Hq] at he2; cases he2
    have he2r : e2 ≠ r1 := by rintro rfl; rw [Hr] at he2; cases he2
    have he2g : e2 ≠ g := by rintro rfl; rw [HR.at_] at he2; cases he2
    have hq1r : q1 ≠ r1 := by rintro rfl; rw [Hr] at hq1'; cases hq1'
    have hq1g : q1 ≠ g := by rintro rfl; rw [HR.at_] at hq1'; cases hq1'
    have hc1 : (some ⟨appd (List.drop 0 (ints .i64 ps)) (zt * Try.t3.size) (ints .i64 [(k : Int)]), false⟩ : Option AObj) = some ⟨appd (ints .i64 ps) zt (ints .i64 [(k : Int)]), false⟩ := by
      rw [List.drop_zero, hsz, Nat.mul_one]
    rw [hc1]
    generalize hJ : ((H.upd e2 (some ⟨[.int .i64 k], false⟩)).upd q none).upd q1 (some ⟨appd (ints .i64 ps) zt (ints .i64 [(k : Int)]), false⟩) = J
    have Js : Sub β J := by rw [← hJ]; exact sub_put (sub_put (sub_put Hs (free_sub Hs he2)) hqf) (free_sub Hs hq1')
    have Jg : J g = H g := by rw [← hJ, AHeap.upd_ne _ _ hq1g.symm, AHeap.upd_ne _ _ hqg.symm, AHeap.upd_ne _ _ he2g.symm]
    have Jr : J r1 = some ⟨ints .i64 (ps.drop zt), false⟩ := by rw [← hJ, AHeap.upd_ne _ _ hq1r.symm, AHeap.upd_ne _ _ hr1n, AHeap.upd_ne _ _ he2r.symm]; exact Hr
    have Jq : J q1 = some ⟨appd (ints .i64 ps) zt (ints .i64 [(k : Int)]), false⟩ := by rw [← hJ]; exact AHeap.upd_same _ _ _
    have Jqf : β q1 = none := free_sub Hs hq1'
    have JR := HR.keep Js Jg
    clear hJ hq1 hq1' he2q he2r he2g he2 Hq2 hc1
    simp -implicitDefEqProofs (disch := omega) only [List.any_cons, List.any_nil, Nat.reduceEqDiff, List.map_cons, List.map_nil, Option.map_some, Option.map_none, List.nil_append, ↓reduceIte, vcu, ↓vcd]
    refine r_append_at Try.underlying37 Try.underlying37 (i := Try.t3) (z := .int .i64 0) (ys := ints .i64 (ps.drop zt)) (h := q1) (b := 0) (len := zt + 1) (ob := ⟨appd (ints .i64 ps) zt (ints .i64 [(k : Int)]), false⟩) rfl rfl ?_ (by simp -implicitDefEqProofs (disch := omega) only [List.any_cons, List.any_nil, Nat.reduceEqDiff, List.map_cons, List.map_nil, Option.map_some, Option.map_none, List.nil_append, ↓reduceIte, vcu, ↓vcd, hlk]) Jq rfl ?_ (ints_one _ _) ?_ fun q2 hq2 => ?_
    · have hA := acells_at (k := .i64) (o := 0) (xs := ps.drop zt) (intsAt_own Jr) ⟨_, Jr, by rw [ints_length]; omega⟩
      rw [hdl] at hA
      simp -implicitDefEqProofs (disch := omega) only [List.any_cons, List.any_nil, Nat.reduceEqDiff, List.map_cons, List.map_nil, Option.map_some, Option.map_none, List.nil_append, ↓reduceIte, vcu, ↓vcd, ints_length, hdl, Nat.div_one]
      exact hA
    · show 0 + (zt + 1) * 1 ≤ _
      rw [appd_gen, ints_length]
      split
      · simp; omega
      · simp; omega
    · rw [ints_length, hdl]
      show ((zt + 1) * 1 + (k - zt)) * 8 ≤ _ ∧ (zt + 1) * 1 + (k - zt) ≤ _
      omega
    have eb : appd (List.drop 0 (appd (ints .i64 ps) zt (ints .i64 [(k : Int)]))) ((zt + 1) * Try.t3.size) (ints .i64 (ps.drop zt)) = ints .i64 (ps.take zt ++ [(k : Int)] ++ ps.drop zt) := by
      rw [List.drop_zero, hsz, Nat.mul_one]; exact insert_eq ps zt k (by omega)
    rw [eb]
    have hq2g : q2 ≠ g := by rintro rfl; rw [JR.at_] at hq2; cases hq2
    have hq2f := free_sub Js hq2
    have hlen2 : zt + 1 + (ints .i64 (ps.drop zt)).length / Try.t3.size = k + 1 := by rw [hlen1]; omega
    have hlen3 : zt + 1 + (k - zt) = k + 1 := by omega
    simp -implicitDefEqProofs (disch := omega) only [List.any_cons, List.any_nil, Nat.reduceEqDiff, List.map_cons, List.map_nil, Option.map_some, Option.map_none, List.nil_append, ↓reduceIte, vcu, ↓vcd, h0, h1, h6, hsz, ints_length, hdl, Nat.div_one, hlen3]
    exact ⟨m - 1, by omega, k + 1, q2, _, p' + 1, by omega, trivial, trivial, rfl, by simp, by simp; omega, AHeap.upd_same _ _ _, hq2f, hq2g, by omega, by omega, JR.keep (sub_put (sub_put Js Jqf) hq2f) (by rw [AHeap.upd_ne _ _ hq2g.symm, AHeap.upd_ne _ _ hq1g.symm])⟩
  · simp -implicitDefEqProofs (disch := omega) only [List.any_cons, List.any_nil, Nat.reduceEqDiff, List.map_cons, List.map_nil, Option.map_some, Option.map_none, List.nil_append, ↓reduceIte, vcu, ↓vcd, h0, h1, h5, h6]
    have e : k = n := by omega
    subst e
    refine fin_one Try.results90 ⟨q, ps, p', ?_, hpl, hqv, hqf, hqg, hp1, hp2, hr⟩
    simp -implicitDefEqProofs (disch := omega) only [List.any_cons, List.any_nil, Nat.reduceEqDiff, List.map_cons, List.map_nil, Option.map_some, Option.map_none, List.nil_append, ↓reduceIte, vcu, ↓vcd, h5]

end Go.Proofs.Ytphacjkogompoaa
