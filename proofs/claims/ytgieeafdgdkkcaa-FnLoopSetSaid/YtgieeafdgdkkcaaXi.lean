/- Lists that are drawn. -/
import Derived.Test.YtgieeafdgdkkcaaXe
import Derived.Test.YtgieeafdgdkkcaaXf
set_option linter.unusedSimpArgs false
set_option linter.unusedVariables false
namespace Go.Proofs.Ytgieeafdgdkkcaa
open Go Go.Abs Go.RowKit
variable {w0 : World}

theorem appd_gen (A B : List Int) (n : Nat) : appd (ints .i64 A) n (ints .i64 B) = ints .i64 (if n + B.length ≤ A.length then A.take n ++ B ++ A.drop (n + B.length) else A.take n ++ B) := by
  unfold appd
  rw [ints_length, ints_length]
  split
  · unfold lwrite; rw [ints_length]; simp [ints]
  · simp [ints]
theorem insert_eq (ps : List Int) (z : Nat) (v : Int) (hz : z ≤ ps.length) :
    appd (appd (ints .i64 ps) z (ints .i64 [v])) (z + 1) (ints .i64 (ps.drop z)) = ints .i64 (ps.take z ++ [v] ++ ps.drop z) := by
  rw [appd_gen, appd_gen]
  congr 1
  have hl : (ps.take z ++ [v]).length = z + 1 := by simp; omega
  by_cases h : z + [v].length ≤ ps.length
  · rw [if_pos h, if_neg (by simp at h ⊢; omega), List.take_append_of_le_length (by omega), List.take_of_length_le (by omega)]
  · rw [if_neg h]
    have e : z = ps.length := by simp at h; omega
    subst e
    rw [List.take_of_length_le (Nat.le_refl _), List.take_of_length_le (by simp)]
    simp

theorem Rd.keep {β σ τ : AHeap} {g h o : Nat} {bs : List Int} {p : Int} (hr : Rd β σ g h o bs p) (hs : Sub β τ) (hg : τ g = σ g) : Rd β τ g h o bs p :=
  ⟨by rw [hg]; exact hr.at_, hs, hr.free, hr.ints, hr.len, hr.byte⟩

theorem perm_draw (β σ : AHeap) (g h o : Nat) (bs : List Int) (p : Int) (n : Nat) (hr : Rd β σ g h o bs p) (hp : 0 ≤ p ∧ p ≤ 10000) (hn : n ≤ 10) :
    ACall Try.prog w0 79 [.pointer (some ⟨g, 0, none⟩), .int .i64 n] σ fun r σ' => ∃ (q : Nat) (ps : List Int) (p' : Int), r = .slice (some ⟨q, 0, none⟩) n 1 ∧ ps.length = n ∧ σ' q = some ⟨ints .i64 ps, false⟩ ∧ β q = none ∧ q ≠ g ∧ p ≤ p' ∧ p' ≤ p + n ∧ Rd β σ' g h o bs p' := by
  refine acall_go mixed Try.func79 rfl good79 fun pr => ?_
  simp -implicitDefEqProofs (disch := omega) only [List.any_cons, List.any_nil, Nat.reduceEqDiff, List.map_cons, List.map_nil, Option.map_some, Option.map_none, List.nil_append, ↓reduceIte, vcu0, vcu1, vcu2, vcu3, vcu4, vcu5, vcu6, vcu7, vcu8, vcu9, vcu10, vcu11, vcu12, vcu13, vcu14, vcu15, vcu16, vcu17, vcu18, vcu19, vcu20, vcu21, vcu22, ↓vcd0, ↓vcd1, ↓vcd2, ↓vcd3]
  refine r_lit_at Try.underlying30 ze3 (out := #[]) (by kernel_rfl) (by kernel_rfl) fun q hq => ?_
  simp -implicitDefEqProofs (disch := omega) only [List.any_cons, List.any_nil, Nat.reduceEqDiff, List.map_cons, List.map_nil, Option.map_some, Option.map_none, List.nil_append, ↓reduceIte, vcu0, vcu1, vcu2, vcu3, vcu4, vcu5, vcu6, vcu7, vcu8, vcu9, vcu10, vcu11, vcu12, vcu13, vcu14, vcu15, vcu16, vcu17, vcu18, vcu19, vcu20, vcu21, vcu22, ↓vcd0, ↓vcd1, ↓vcd2, ↓vcd3]
  have hqg : q ≠ g := by rintro rfl; rw [hr.at_] at hq; cases hq
  refine vc_loop mixed (by kernel_rfl) (fun m a τ => ∃ (k q : Nat) (ps : List Int) (p' : Int), m + k = n ∧ a 0 = .pointer (some ⟨g, 0, none⟩) ∧ a 1 = .int .i64 n ∧ a 5 = .slice (some ⟨q, 0, none⟩) k 1 ∧ a 6 = .int .i64 k ∧ ps.length = k ∧ τ q = some ⟨ints .i64 ps, false⟩ ∧ β q = none ∧ q ≠ g ∧ p ≤ p' ∧ p' ≤ p + k ∧ Rd β τ g h o bs p')
    n ⟨0, q, [], p, by simp, rfl, rfl, rfl, rfl, rfl, AHeap.upd_same _ _ _, free_sub hr.sub hq, hqg, by omega, by omega, hr.keep (sub_put hr.sub (free_sub hr.sub hq)) (AHeap.upd_ne _ _ hqg.symm)⟩ ?_
  clear hq hqg q hr
  rintro m a τ ⟨k, q, ps, p', hk, h0, h1, h5, h6, hpl, hqv, hqf, hqg, hp1, hp2, hr⟩
  by_cases hlt : k < n
  · simp -implicitDefEqProofs (disch := omega) only [List.any_cons, List.any_nil, Nat.reduceEqDiff, List.map_cons, List.map_nil, Option.map_some, Option.map_none, List.nil_append, ↓reduceIte, vcu0, vcu1, vcu2, vcu3, vcu4, vcu5, vcu6, vcu7, vcu8, vcu9, vcu10, vcu11, vcu12, vcu13, vcu14, vcu15, vcu16, vcu17, vcu18, vcu19, vcu20, vcu21, vcu22, ↓vcd0, ↓vcd1, ↓vcd2, ↓vcd3, h0, h1, h5, h6]
    refine (pick_at β _ g h o bs p' ((k : Int) + 1) hr (by omega) (by omega)).mono ?_
    rintro r τ1 ⟨z, rfl, hz0, hz1, hR, hK⟩
    have hqv1 := hK q _ hqg hqv
    obtain ⟨zt, rfl⟩ : ∃ zt : Nat, z = zt := ⟨z.toNat, by omega⟩
    have hzk : zt ≤ k := by omega
    simp -implicitDefEqProofs (disch := omega) only [List.any_cons, List.any_nil, Nat.reduceEqDiff, List.map_cons, List.map_nil, Option.map_some, Option.map_none, List.nil_append, ↓reduceIte, vcu0, vcu1, vcu2, vcu3, vcu4, vcu5, vcu6, vcu7, vcu8, vcu9, vcu10, vcu11, vcu12, vcu13, vcu14, vcu15, vcu16, vcu17, vcu18, vcu19, vcu20, vcu21, vcu22, ↓vcd0, ↓vcd1, ↓vcd2, ↓vcd3, opK_some, h0, h1, h5, h6, Int.toNat_natCast]
    refine r_lit_at Try.underlying30 ze3 (out := #[]) (by kernel_rfl) (by kernel_rfl) fun e1 he1 => ?_
    simp -implicitDefEqProofs (disch := omega) only [List.any_cons, List.any_nil, Nat.reduceEqDiff, List.map_cons, List.map_nil, Option.map_some, Option.map_none, List.nil_append, ↓reduceIte, vcu0, vcu1, vcu2, vcu3, vcu4, vcu5, vcu6, vcu7, vcu8, vcu9, vcu10, vcu11, vcu12, vcu13, vcu14, vcu15, vcu16, vcu17, vcu18, vcu19, vcu20, vcu21, vcu22, ↓vcd0, ↓vcd1, ↓vcd2, ↓vcd3, h5, Int.toNat_natCast]
    have hdl : (ps.drop zt).length = k - zt := by simp [hpl]
    refine r_append_at Try.underlying30 Try.underlying30 (i := Try.t3) (z := .int .i64 0) (ys := ints .i64 (ps.drop zt)) (h := e1) (b := 0) (len := 0) (ob := ⟨[], false⟩) rfl rfl ?_ (by simp -implicitDefEqProofs (disch := omega) only [List.any_cons, List.any_nil, Nat.reduceEqDiff, List.map_cons, List.map_nil, Option.map_some, Option.map_none, List.nil_append, ↓reduceIte, vcu0, vcu1, vcu2, vcu3, vcu4, vcu5, vcu6, vcu7, vcu8, vcu9, vcu10, vcu11, vcu12, vcu13, vcu14, vcu15, vcu16, vcu17, vcu18, vcu19, vcu20, vcu21, vcu22, ↓vcd0, ↓vcd1, ↓vcd2, ↓vcd3, co3]; rfl) (AHeap.upd_same _ _ _) rfl (by simp) ?_ ?_ fun r1 hr1 => ?_
    · simp -implicitDefEqProofs (disch := omega) only [List.any_cons, List.any_nil, Nat.reduceEqDiff, List.map_cons, List.map_nil, Option.map_some, Option.map_none, List.nil_append, ↓reduceIte, vcu0, vcu1, vcu2, vcu3, vcu4, vcu5, vcu6, vcu7, vcu8, vcu9, vcu10, vcu11, vcu12, vcu13, vcu14, vcu15, vcu16, vcu17, vcu18, vcu19, vcu20, vcu21, vcu22, ↓vcd0, ↓vcd1, ↓vcd2, ↓vcd3]
      have hq2 : (τ1.upd e1 (some ⟨[], false⟩)) q = some ⟨ints .i64 ps, false⟩ := put_other hqv1 he1
      have hA := acells_at (k := .i64) (o := 0 + zt) (xs := ps.drop zt) ((intsAt_own hq2).drop zt) ⟨_, hq2, by rw [ints_length, hdl]; omega⟩
      rw [hdl] at hA
      exact hA
    · exact ints_one _ _
    · rw [ints_length, hdl]
      show (0 * 1 + (k - zt)) * 8 ≤ _ ∧ 0 * 1 + (k - zt) ≤ _
      omega
    have ea : appd (List.drop 0 ([] : List Value)) (0 * Try.t3.size) (ints .i64 (ps.drop zt)) = ints .i64 (ps.drop zt) := by
      have := appd_gen [] (ps.drop zt) 0
      rw [show (0 * Try.t3.size) = 0 from Nat.zero_mul _]
      rw [show (List.drop 0 ([] : List Value)) = ints .i64 [] from rfl, this]
      congr 1
      split
      · rename_i hh; have : ps.drop zt = [] := List.eq_nil_of_length_eq_zero (by simp at hh ⊢; omega)
        simp [this]
      · simp
    rw [ea]
    have hr1' : τ1 r1 = none := free_sub (sub_upd he1) hr1
    have hr1n : r1 ≠ q := by rintro rfl; rw [hqv1] at hr1'; cases hr1'
    have hr1g : r1 ≠ g := by rintro rfl; rw [hR.at_] at hr1'; cases hr1'
    have he1g : e1 ≠ g := by rintro rfl; rw [hR.at_] at he1; cases he1
    have he1q : e1 ≠ q := by rintro rfl; rw [hqv1] at he1; cases he1
    generalize hH : ((τ1.upd e1 (some ⟨[], false⟩)).upd e1 none).upd r1 (some ⟨ints .i64 (ps.drop zt), false⟩) = H
    have Hs : Sub β H := by rw [← hH]; exact sub_put (sub_put (sub_put hR.sub (free_sub hR.sub he1)) (free_sub hR.sub he1)) (free_sub hR.sub hr1')
    have Hq : H q = some ⟨ints .i64 ps, false⟩ := by rw [← hH, AHeap.upd_ne _ _ hr1n.symm, AHeap.upd_ne _ _ he1q.symm, AHeap.upd_ne _ _ he1q.symm]; exact hqv1
    have Hg : H g = τ1 g := by rw [← hH, AHeap.upd_ne _ _ hr1g.symm, AHeap.upd_ne _ _ he1g.symm, AHeap.upd_ne _ _ he1g.symm]
    have Hr : H r1 = some ⟨ints .i64 (ps.drop zt), false⟩ := by rw [← hH]; exact AHeap.upd_same _ _ _
    have Hrf : β r1 = none := free_sub hR.sub hr1'
    have HR := hR.keep Hs Hg
    have hlen1 : (ints .i64 (ps.drop zt)).length / Try.t3.size = k - zt := by rw [ints_length, hdl]; exact Nat.div_one _
    have hsz : Try.t3.size = 1 := rfl
    clear hH hr1 hr1' he1g he1q he1 ea
    have hlk : (ints .i64 [(k : Int)]).length / Try.t3.size = 1 := by rw [hsz, ints_length, Nat.div_one]; rfl
    simp -implicitDefEqProofs (disch := omega) only [List.any_cons, List.any_nil, Nat.reduceEqDiff, List.map_cons, List.map_nil, Option.map_some, Option.map_none, List.nil_append, ↓reduceIte, vcu0, vcu1, vcu2, vcu3, vcu4, vcu5, vcu6, vcu7, vcu8, vcu9, vcu10, vcu11, vcu12, vcu13, vcu14, vcu15, vcu16, vcu17, vcu18, vcu19, vcu20, vcu21, vcu22, ↓vcd0, ↓vcd1, ↓vcd2, ↓vcd3, h5, h6, Int.toNat_natCast, hlen1, hsz, Nat.zero_add]
    refine r_lit_at Try.underlying30 ze3 (out := #[.int .i64 k]) (by simp -implicitDefEqProofs (disch := omega) only [List.any_cons, List.any_nil, Nat.reduceEqDiff, List.map_cons, List.map_nil, Option.map_some, Option.map_none, List.nil_append, ↓reduceIte, vcu0, vcu1, vcu2, vcu3, vcu4, vcu5, vcu6, vcu7, vcu8, vcu9, vcu10, vcu11, vcu12, vcu13, vcu14, vcu15, vcu16, vcu17, vcu18, vcu19, vcu20, vcu21, vcu22, ↓vcd0, ↓vcd1, ↓vcd2, ↓vcd3, h6]; kernel_rfl) (by kernel_rfl) fun e2 he2 => ?_
    simp -implicitDefEqProofs (disch := omega) only [List.any_cons, List.any_nil, Nat.reduceEqDiff, List.map_cons, List.map_nil, Option.map_some, Option.map_none, List.nil_append, ↓reduceIte, vcu0, vcu1, vcu2, vcu3, vcu4, vcu5, vcu6, vcu7, vcu8, vcu9, vcu10, vcu11, vcu12, vcu13, vcu14, vcu15, vcu16, vcu17, vcu18, vcu19, vcu20, vcu21, vcu22, ↓vcd0, ↓vcd1, ↓vcd2, ↓vcd3]
    have Hq2 : (H.upd e2 (some ⟨[.int .i64 k], false⟩)) q = some ⟨ints .i64 ps, false⟩ := put_other Hq he2
    refine r_append_at Try.underlying30 Try.underlying30 (i := Try.t3) (z := .int .i64 0) (ys := ints .i64 [(k : Int)]) (h := q) (b := 0) (len := zt) (ob := ⟨ints .i64 ps, false⟩) rfl rfl ?_ (by simp -implicitDefEqProofs (disch := omega) only [List.any_cons, List.any_nil, Nat.reduceEqDiff, List.map_cons, List.map_nil, Option.map_some, Option.map_none, List.nil_append, ↓reduceIte, vcu0, vcu1, vcu2, vcu3, vcu4, vcu5, vcu6, vcu7, vcu8, vcu9, vcu10, vcu11, vcu12, vcu13, vcu14, vcu15, vcu16, vcu17, vcu18, vcu19, vcu20, vcu21, vcu22, ↓vcd0, ↓vcd1, ↓vcd2, ↓vcd3]; rfl) Hq2 rfl ?_ ?_ ?_ fun q1 hq1 => ?_
    · simp -implicitDefEqProofs (disch := omega) only [List.any_cons, List.any_nil, Nat.reduceEqDiff, List.map_cons, List.map_nil, Option.map_some, Option.map_none, List.nil_append, ↓reduceIte, vcu0, vcu1, vcu2, vcu3, vcu4, vcu5, vcu6, vcu7, vcu8, vcu9, vcu10, vcu11, vcu12, vcu13, vcu14, vcu15, vcu16, vcu17, vcu18, vcu19, vcu20, vcu21, vcu22, ↓vcd0, ↓vcd1, ↓vcd2, ↓vcd3, co3]
      exact acells_at (k := .i64) (o := 0) (xs := [(k : Int)]) (intsAt_own (AHeap.upd_same _ _ _)) ⟨_, AHeap.upd_same _ _ _, by simp⟩
    · show 0 + zt * 1 ≤ (ints .i64 ps).length
      rw [ints_length]; omega
    · rfl
    · show (zt * 1 + 1) * 8 ≤ _ ∧ zt * 1 + 1 ≤ _
      omega
    have hq1' : H q1 = none := free_sub (sub_upd he2) hq1
    have he2q : e2 ≠ q := by rintro rfl; rw [Hq] at he2; cases he2
    have he2r : e2 ≠ r1 := by rintro rfl; rw [Hr] at he2; cases he2
    have he2g : e2 ≠ g := by rintro rfl; rw [HR.at_] at he2; cases he2
    have hq1r : q1 ≠ r1 := by rintro rfl; rw [Hr] at hq1'; cases hq1'
    have hq1g : q1 ≠ g := by rintro rfl; rw [HR.at_] at hq1'; cases hq1'
    have hc1 : (some ⟨appd (List.drop 0 (ints .i64 ps)) (zt * Try.t3.size) (ints .i64 [(k : Int)]), false⟩ : Option AObj) = some ⟨appd (ints .i64 ps) zt (ints .i64 [(k : Int)]), false⟩ := by
      rw [List.drop_zero, hsz, Nat.mul_one]
    rw [hc1]
    generalize hJ : ((H.upd e2 (some ⟨[.int .i64 k], false⟩)).upd q none).upd q1 (some ⟨appd (ints .i64 ps) zt (ints .i64 [(k : Int)]), false⟩) = J
    have Js : Sub β J := by rw [← hJ]; exact sub_put (sub_put (sub_put Hs (free_sub Hs he2)) hqf) (free_sub Hs hq1')
    have Jg : J g = H g := by rw [← hJ, AHeap.upd_ne _ _ hq1g.symm, AHeap.upd_ne _ _ hqg.symm, AHeap.upd_ne _ _ he2g.symm]
    have Jr : J r1 = some ⟨ints .i64 (ps.drop zt), false⟩ := by rw [← hJ, AHeap.upd_ne _ _ hq1r.symm, AHeap.upd_ne _ _ hr1n, AHeap.upd_ne _ _ he2r.symm]; exact Hr
    have Jq : J q1 = some ⟨appd (ints .i64 ps) zt (ints .i64 [(k : Int)]), false⟩ := by rw [← hJ]; exact AHeap.upd_same _ _ _
    have Jqf : β q1 = none := free_sub Hs hq1'
    have JR := HR.keep Js Jg
    clear hJ hq1 hq1' he2q he2r he2g he2 Hq2 hc1
    simp -implicitDefEqProofs (disch := omega) only [List.any_cons, List.any_nil, Nat.reduceEqDiff, List.map_cons, List.map_nil, Option.map_some, Option.map_none, List.nil_append, ↓reduceIte, vcu0, vcu1, vcu2, vcu3, vcu4, vcu5, vcu6, vcu7, vcu8, vcu9, vcu10, vcu11, vcu12, vcu13, vcu14, vcu15, vcu16, vcu17, vcu18, vcu19, vcu20, vcu21, vcu22, ↓vcd0, ↓vcd1, ↓vcd2, ↓vcd3]
    refine r_append_at Try.underlying30 Try.underlying30 (i := Try.t3) (z := .int .i64 0) (ys := ints .i64 (ps.drop zt)) (h := q1) (b := 0) (len := zt + 1) (ob := ⟨appd (ints .i64 ps) zt (ints .i64 [(k : Int)]), false⟩) rfl rfl ?_ (by simp -implicitDefEqProofs (disch := omega) only [List.any_cons, List.any_nil, Nat.reduceEqDiff, List.map_cons, List.map_nil, Option.map_some, Option.map_none, List.nil_append, ↓reduceIte, vcu0, vcu1, vcu2, vcu3, vcu4, vcu5, vcu6, vcu7, vcu8, vcu9, vcu10, vcu11, vcu12, vcu13, vcu14, vcu15, vcu16, vcu17, vcu18, vcu19, vcu20, vcu21, vcu22, ↓vcd0, ↓vcd1, ↓vcd2, ↓vcd3, hlk]) Jq rfl ?_ (ints_one _ _) ?_ fun q2 hq2 => ?_
    · have hA := acells_at (k := .i64) (o := 0) (xs := ps.drop zt) (intsAt_own Jr) ⟨_, Jr, by rw [ints_length]; omega⟩
      rw [hdl] at hA
      simp -implicitDefEqProofs (disch := omega) only [List.any_cons, List.any_nil, Nat.reduceEqDiff, List.map_cons, List.map_nil, Option.map_some, Option.map_none, List.nil_append, ↓reduceIte, vcu0, vcu1, vcu2, vcu3, vcu4, vcu5, vcu6, vcu7, vcu8, vcu9, vcu10, vcu11, vcu12, vcu13, vcu14, vcu15, vcu16, vcu17, vcu18, vcu19, vcu20, vcu21, vcu22, ↓vcd0, ↓vcd1, ↓vcd2, ↓vcd3, ints_length, hdl, Nat.div_one]
      exact hA
    · show 0 + (zt + 1) * 1 ≤ _
      rw [appd_gen, ints_length]
      split
      · simp; omega
      · simp; omega
    · rw [ints_length, hdl]
      show ((zt + 1) * 1 + (k - zt)) * 8 ≤ _ ∧ (zt + 1) * 1 + (k - zt) ≤ _
      omega
    have eb : appd (List.drop 0 (appd (ints .i64 ps) zt (ints .i64 [(k : Int)]))) ((zt + 1) * Try.t3.size) (ints .i64 (ps.drop zt)) = ints .i64 (ps.take zt ++ [(k : Int)] ++ ps.drop zt) := by
      rw [List.drop_zero, hsz, Nat.mul_one]; exact insert_eq ps zt k (by omega)
    rw [eb]
    have hq2g : q2 ≠ g := by rintro rfl; rw [JR.at_] at hq2; cases hq2
    have hq2f := free_sub Js hq2
    have hlen2 : zt + 1 + (ints .i64 (ps.drop zt)).length / Try.t3.size = k + 1 := by rw [hlen1]; omega
    have hlen3 : zt + 1 + (k - zt) = k + 1 := by omega
    simp -implicitDefEqProofs (disch := omega) only [List.any_cons, List.any_nil, Nat.reduceEqDiff, List.map_cons, List.map_nil, Option.map_some, Option.map_none, List.nil_append, ↓reduceIte, vcu0, vcu1, vcu2, vcu3, vcu4, vcu5, vcu6, vcu7, vcu8, vcu9, vcu10, vcu11, vcu12, vcu13, vcu14, vcu15, vcu16, vcu17, vcu18, vcu19, vcu20, vcu21, vcu22, ↓vcd0, ↓vcd1, ↓vcd2, ↓vcd3, h0, h1, h6, hsz, ints_length, hdl, Nat.div_one, hlen3]
    exact ⟨m - 1, by omega, k + 1, q2, _, p' + 1, by omega, trivial, trivial, rfl, by simp, by simp; omega, AHeap.upd_same _ _ _, hq2f, hq2g, by omega, by omega, JR.keep (sub_put (sub_put Js Jqf) hq2f) (by rw [AHeap.upd_ne _ _ hq2g.symm, AHeap.upd_ne _ _ hq1g.symm])⟩
  · simp -implicitDefEqProofs (disch := omega) only [List.any_cons, List.any_nil, Nat.reduceEqDiff, List.map_cons, List.map_nil, Option.map_some, Option.map_none, List.nil_append, ↓reduceIte, vcu0, vcu1, vcu2, vcu3, vcu4, vcu5, vcu6, vcu7, vcu8, vcu9, vcu10, vcu11, vcu12, vcu13, vcu14, vcu15, vcu16, vcu17, vcu18, vcu19, vcu20, vcu21, vcu22, ↓vcd0, ↓vcd1, ↓vcd2, ↓vcd3, h0, h1, h5, h6]
    have e : k = n := by omega
    subst e
    refine fin_one Try.results79 ⟨q, ps, p', ?_, hpl, hqv, hqf, hqg, hp1, hp2, hr⟩
    simp -implicitDefEqProofs (disch := omega) only [List.any_cons, List.any_nil, Nat.reduceEqDiff, List.map_cons, List.map_nil, Option.map_some, Option.map_none, List.nil_append, ↓reduceIte, vcu0, vcu1, vcu2, vcu3, vcu4, vcu5, vcu6, vcu7, vcu8, vcu9, vcu10, vcu11, vcu12, vcu13, vcu14, vcu15, vcu16, vcu17, vcu18, vcu19, vcu20, vcu21, vcu22, ↓vcd0, ↓vcd1, ↓vcd2, ↓vcd3, h5]

/-- a permutation, shifted or not, broken or not -/
theorem whole_draw (β σ : AHeap) (g h o : Nat) (bs : List Int) (p n : Int) (hr : Rd β σ g h o bs p) (hp : 0 ≤ p ∧ p ≤ 1000) (hn : 1 ≤ n ∧ n ≤ 1000) :
    ACall Try.prog w0 65 [.pointer (some ⟨g, 0, none⟩), .int .i64 n] σ fun r σ' => ∃ (q : Nat) (ps : List Int), r = .slice (some ⟨q, 0, none⟩) ps.length 1 ∧ ps.length ≤ 8 ∧ σ' q = some ⟨ints .i64 ps, false⟩ ∧ Sub β σ' := by
  refine acall_go mixed Try.func65 rfl good65 fun pr => ?_
  simp -implicitDefEqProofs (disch := omega) only [List.any_cons, List.any_nil, Nat.reduceEqDiff, List.map_cons, List.map_nil, Option.map_some, Option.map_none, List.nil_append, ↓reduceIte, vcu0, vcu1, vcu2, vcu3, vcu4, vcu5, vcu6, vcu7, vcu8, vcu9, vcu10, vcu11, vcu12, vcu13, vcu14, vcu15, vcu16, vcu17, vcu18, vcu19, vcu20, vcu21, vcu22, ↓vcd0, ↓vcd1, ↓vcd2, ↓vcd3]
  refine (ways_at β σ g h o bs p n hr hp hn).mono ?_
  rintro r σ1 ⟨z, p1, rfl, hz1, hz2, hp1, hp2, hR1, -⟩
  have hm9 : 0 ≤ max z 0 % 9 ∧ max z 0 % 9 ≤ 8 := by omega
  simp -implicitDefEqProofs (disch := omega) only [List.any_cons, List.any_nil, Nat.reduceEqDiff, List.map_cons, List.map_nil, Option.map_some, Option.map_none, List.nil_append, ↓reduceIte, vcu0, vcu1, vcu2, vcu3, vcu4, vcu5, vcu6, vcu7, vcu8, vcu9, vcu10, vcu11, vcu12, vcu13, vcu14, vcu15, vcu16, vcu17, vcu18, vcu19, vcu20, vcu21, vcu22, ↓vcd0, ↓vcd1, ↓vcd2, ↓vcd3, opK_some]
  obtain ⟨zn, hzn⟩ : ∃ zn : Nat, max z 0 % 9 = zn := ⟨(max z 0 % 9).toNat, by omega⟩
  rw [hzn]
  refine (perm_draw β σ1 g h o bs p1 zn hR1 (by omega) (by omega)).mono ?_
  rintro r σ2 ⟨q, ps, p2, rfl, hpl, hq, hqf, hqg, hp3, hp4, hR2⟩
  rw [← hpl]
  have h8 : ps.length ≤ 8 := by omega
  simp -implicitDefEqProofs (disch := omega) only [List.any_cons, List.any_nil, Nat.reduceEqDiff, List.map_cons, List.map_nil, Option.map_some, Option.map_none, List.nil_append, ↓reduceIte, vcu0, vcu1, vcu2, vcu3, vcu4, vcu5, vcu6, vcu7, vcu8, vcu9, vcu10, vcu11, vcu12, vcu13, vcu14, vcu15, vcu16, vcu17, vcu18, vcu19, vcu20, vcu21, vcu22, ↓vcd0, ↓vcd1, ↓vcd2, ↓vcd3, opK_some]
  refine (pick_at β σ2 g h o bs p2 3 hR2 (by omega) (by omega)).mono ?_
  rintro r σ3 ⟨y, rfl, hy0, hy1, hR3, hK3⟩
  have hq3 := hK3.at hq hqg
  by_cases hsh : y = 0 ∧ 0 < ps.length
  · obtain ⟨rfl, h0⟩ := hsh
    simp -implicitDefEqProofs (disch := omega) only [List.any_cons, List.any_nil, Nat.reduceEqDiff, List.map_cons, List.map_nil, Option.map_some, Option.map_none, List.nil_append, ↓reduceIte, vcu0, vcu1, vcu2, vcu3, vcu4, vcu5, vcu6, vcu7, vcu8, vcu9, vcu10, vcu11, vcu12, vcu13, vcu14, vcu15, vcu16, vcu17, vcu18, vcu19, vcu20, vcu21, vcu22, ↓vcd0, ↓vcd1, ↓vcd2, ↓vcd3, opK_some]
    refine (pick_at β σ3 g h o bs (p2 + 1) _ hR3 (by omega) (by omega)).mono ?_
    rintro r σ4 ⟨by_, rfl, hb0, hb1, hR4, hK4⟩
    have hq4 := hK4.at hq3 hqg
    simp -implicitDefEqProofs (disch := omega) only [List.any_cons, List.any_nil, Nat.reduceEqDiff, List.map_cons, List.map_nil, Option.map_some, Option.map_none, List.nil_append, ↓reduceIte, vcu0, vcu1, vcu2, vcu3, vcu4, vcu5, vcu6, vcu7, vcu8, vcu9, vcu10, vcu11, vcu12, vcu13, vcu14, vcu15, vcu16, vcu17, vcu18, vcu19, vcu20, vcu21, vcu22, ↓vcd0, ↓vcd1, ↓vcd2, ↓vcd3, opK_some]
    refine vc_loop_c mixed (by kernel_rfl) [0, 1, 6, 7] (fun m a τ => ∃ (k : Nat) (xs : List Int), m + k = ps.length ∧ a 8 = .int .i64 k ∧ xs.length = ps.length ∧ τ q = some ⟨ints .i64 xs, false⟩ ∧ Rd β τ g h o bs (p2 + 1 + 1)) ps.length ⟨0, ps, by omega, rfl, rfl, hq4, hR4⟩ ?_
    rintro m a τ hc ⟨k, xs, hk, h8', hxl, hqx, hRx⟩
    simp -implicitDefEqProofs (disch := omega) only [List.any_cons, List.any_nil, Nat.reduceEqDiff, List.map_cons, List.map_nil, Option.map_some, Option.map_none, List.nil_append, ↓reduceIte, vcu0, vcu1, vcu2, vcu3, vcu4, vcu5, vcu6, vcu7, vcu8, vcu9, vcu10, vcu11, vcu12, vcu13, vcu14, vcu15, vcu16, vcu17, vcu18, vcu19, vcu20, vcu21, vcu22, ↓vcd0, ↓vcd1, ↓vcd2, ↓vcd3] at hc
    obtain ⟨g0, g1, g6, g7, -⟩ := hc
    by_cases hlt : k < ps.length
    · have hmod : 0 ≤ ((k : Int) + by_) % (ps.length : Int) := Int.emod_nonneg _ (by omega)
      simp -implicitDefEqProofs (disch := omega) only [List.any_cons, List.any_nil, Nat.reduceEqDiff, List.map_cons, List.map_nil, Option.map_some, Option.map_none, List.nil_append, ↓reduceIte, vcu0, vcu1, vcu2, vcu3, vcu4, vcu5, vcu6, vcu7, vcu8, vcu9, vcu10, vcu11, vcu12, vcu13, vcu14, vcu15, vcu16, vcu17, vcu18, vcu19, vcu20, vcu21, vcu22, ↓vcd0, ↓vcd1, ↓vcd2, ↓vcd3, g0, g1, g6, g7, h8']
      refine r_setI (g := q) (i := 0 + k) (v := ((k : Int) + by_) % (ps.length : Int)) (by simp -implicitDefEqProofs (disch := omega) only [List.any_cons, List.any_nil, Nat.reduceEqDiff, List.map_cons, List.map_nil, Option.map_some, Option.map_none, List.nil_append, ↓reduceIte, vcu0, vcu1, vcu2, vcu3, vcu4, vcu5, vcu6, vcu7, vcu8, vcu9, vcu10, vcu11, vcu12, vcu13, vcu14, vcu15, vcu16, vcu17, vcu18, vcu19, vcu20, vcu21, vcu22, ↓vcd0, ↓vcd1, ↓vcd2, ↓vcd3]) (by simp -implicitDefEqProofs (disch := omega) only [List.any_cons, List.any_nil, Nat.reduceEqDiff, List.map_cons, List.map_nil, Option.map_some, Option.map_none, List.nil_append, ↓reduceIte, vcu0, vcu1, vcu2, vcu3, vcu4, vcu5, vcu6, vcu7, vcu8, vcu9, vcu10, vcu11, vcu12, vcu13, vcu14, vcu15, vcu16, vcu17, vcu18, vcu19, vcu20, vcu21, vcu22, ↓vcd0, ↓vcd1, ↓vcd2, ↓vcd3]) co3 hqx (by omega) fun τ2 k2 e2 => ?_
      simp -implicitDefEqProofs (disch := omega) only [List.any_cons, List.any_nil, Nat.reduceEqDiff, List.map_cons, List.map_nil, Option.map_some, Option.map_none, List.nil_append, ↓reduceIte, vcu0, vcu1, vcu2, vcu3, vcu4, vcu5, vcu6, vcu7, vcu8, vcu9, vcu10, vcu11, vcu12, vcu13, vcu14, vcu15, vcu16, vcu17, vcu18, vcu19, vcu20, vcu21, vcu22, ↓vcd0, ↓vcd1, ↓vcd2, ↓vcd3, g0, g1, g6, g7, h8']
      exact ⟨⟨trivial, trivial, trivial, trivial, trivial⟩, m - 1, by omega, k + 1, _, by omega, by simp, by simpa using hxl, e2, hRx.put k2 hqg hqf⟩
    · simp -implicitDefEqProofs (disch := omega) only [List.any_cons, List.any_nil, Nat.reduceEqDiff, List.map_cons, List.map_nil, Option.map_some, Option.map_none, List.nil_append, ↓reduceIte, vcu0, vcu1, vcu2, vcu3, vcu4, vcu5, vcu6, vcu7, vcu8, vcu9, vcu10, vcu11, vcu12, vcu13, vcu14, vcu15, vcu16, vcu17, vcu18, vcu19, vcu20, vcu21, vcu22, ↓vcd0, ↓vcd1, ↓vcd2, ↓vcd3, g0, g1, g6, g7, h8']
      refine (odd_at β τ g h o bs _ n hRx (by omega) (by omega)).mono ?_
      rintro r τ3 ⟨b, rfl, hR5, hK5⟩
      have hq5 := hK5.at hqx hqg
      cases b with
      | false =>
        simp -implicitDefEqProofs (disch := omega) only [List.any_cons, List.any_nil, Nat.reduceEqDiff, List.map_cons, List.map_nil, Option.map_some, Option.map_none, List.nil_append, ↓reduceIte, vcu0, vcu1, vcu2, vcu3, vcu4, vcu5, vcu6, vcu7, vcu8, vcu9, vcu10, vcu11, vcu12, vcu13, vcu14, vcu15, vcu16, vcu17, vcu18, vcu19, vcu20, vcu21, vcu22, ↓vcd0, ↓vcd1, ↓vcd2, ↓vcd3, opK_some, g6]
        refine fin_one Try.results65 ⟨q, xs, ?_, by omega, hq5, hR5.sub⟩
        simp -implicitDefEqProofs (disch := omega) only [List.any_cons, List.any_nil, Nat.reduceEqDiff, List.map_cons, List.map_nil, Option.map_some, Option.map_none, List.nil_append, ↓reduceIte, vcu0, vcu1, vcu2, vcu3, vcu4, vcu5, vcu6, vcu7, vcu8, vcu9, vcu10, vcu11, vcu12, vcu13, vcu14, vcu15, vcu16, vcu17, vcu18, vcu19, vcu20, vcu21, vcu22, ↓vcd0, ↓vcd1, ↓vcd2, ↓vcd3, g6, hxl]
      | true =>
        have hld := intsAt_own hq5 (ps.length - 1) (by omega)
        have ei : ((ps.length : Int) - 1).toNat = ps.length - 1 := by omega
        simp -implicitDefEqProofs (disch := omega) only [List.any_cons, List.any_nil, Nat.reduceEqDiff, List.map_cons, List.map_nil, Option.map_some, Option.map_none, List.nil_append, ↓reduceIte, vcu0, vcu1, vcu2, vcu3, vcu4, vcu5, vcu6, vcu7, vcu8, vcu9, vcu10, vcu11, vcu12, vcu13, vcu14, vcu15, vcu16, vcu17, vcu18, vcu19, vcu20, vcu21, vcu22, ↓vcd0, ↓vcd1, ↓vcd2, ↓vcd3, opK_some, g6, hld, ei]
        refine r_setI (g := q) (i := 0) (v := xs.getD (ps.length - 1) 0) (by simp -implicitDefEqProofs (disch := omega) only [List.any_cons, List.any_nil, Nat.reduceEqDiff, List.map_cons, List.map_nil, Option.map_some, Option.map_none, List.nil_append, ↓reduceIte, vcu0, vcu1, vcu2, vcu3, vcu4, vcu5, vcu6, vcu7, vcu8, vcu9, vcu10, vcu11, vcu12, vcu13, vcu14, vcu15, vcu16, vcu17, vcu18, vcu19, vcu20, vcu21, vcu22, ↓vcd0, ↓vcd1, ↓vcd2, ↓vcd3, Int.toNat_zero]) (by simp -implicitDefEqProofs (disch := omega) only [List.any_cons, List.any_nil, Nat.reduceEqDiff, List.map_cons, List.map_nil, Option.map_some, Option.map_none, List.nil_append, ↓reduceIte, vcu0, vcu1, vcu2, vcu3, vcu4, vcu5, vcu6, vcu7, vcu8, vcu9, vcu10, vcu11, vcu12, vcu13, vcu14, vcu15, vcu16, vcu17, vcu18, vcu19, vcu20, vcu21, vcu22, ↓vcd0, ↓vcd1, ↓vcd2, ↓vcd3]) co3 hq5 (by omega) fun τ6 k6 e6 => ?_
        simp -implicitDefEqProofs (disch := omega) only [List.any_cons, List.any_nil, Nat.reduceEqDiff, List.map_cons, List.map_nil, Option.map_some, Option.map_none, List.nil_append, ↓reduceIte, vcu0, vcu1, vcu2, vcu3, vcu4, vcu5, vcu6, vcu7, vcu8, vcu9, vcu10, vcu11, vcu12, vcu13, vcu14, vcu15, vcu16, vcu17, vcu18, vcu19, vcu20, vcu21, vcu22, ↓vcd0, ↓vcd1, ↓vcd2, ↓vcd3, g6]
        refine fin_one Try.results65 ⟨q, _, ?_, by simp; omega, e6, k6.sub hR5.sub hqf⟩
        simp -implicitDefEqProofs (disch := omega) only [List.any_cons, List.any_nil, Nat.reduceEqDiff, List.map_cons, List.map_nil, Option.map_some, Option.map_none, List.nil_append, ↓reduceIte, vcu0, vcu1, vcu2, vcu3, vcu4, vcu5, vcu6, vcu7, vcu8, vcu9, vcu10, vcu11, vcu12, vcu13, vcu14, vcu15, vcu16, vcu17, vcu18, vcu19, vcu20, vcu21, vcu22, ↓vcd0, ↓vcd1, ↓vcd2, ↓vcd3, g6, List.length_set, hxl]
  · by_cases hy : y = 0
    · subst hy
      have h0 : ps.length = 0 := by omega
      simp -implicitDefEqProofs (disch := omega) only [List.any_cons, List.any_nil, Nat.reduceEqDiff, List.map_cons, List.map_nil, Option.map_some, Option.map_none, List.nil_append, ↓reduceIte, vcu0, vcu1, vcu2, vcu3, vcu4, vcu5, vcu6, vcu7, vcu8, vcu9, vcu10, vcu11, vcu12, vcu13, vcu14, vcu15, vcu16, vcu17, vcu18, vcu19, vcu20, vcu21, vcu22, ↓vcd0, ↓vcd1, ↓vcd2, ↓vcd3, opK_some, h0]
      refine (odd_at β σ3 g h o bs _ n hR3 (by omega) (by omega)).mono ?_
      rintro r τ3 ⟨b, rfl, hR5, hK5⟩
      have hq5 := hK5.at hq3 hqg
      cases b with
      | false =>
        simp -implicitDefEqProofs (disch := omega) only [List.any_cons, List.any_nil, Nat.reduceEqDiff, List.map_cons, List.map_nil, Option.map_some, Option.map_none, List.nil_append, ↓reduceIte, vcu0, vcu1, vcu2, vcu3, vcu4, vcu5, vcu6, vcu7, vcu8, vcu9, vcu10, vcu11, vcu12, vcu13, vcu14, vcu15, vcu16, vcu17, vcu18, vcu19, vcu20, vcu21, vcu22, ↓vcd0, ↓vcd1, ↓vcd2, ↓vcd3, opK_some]
        refine fin_one Try.results65 ⟨q, ps, ?_, by omega, hq5, hR5.sub⟩
        simp -implicitDefEqProofs (disch := omega) only [List.any_cons, List.any_nil, Nat.reduceEqDiff, List.map_cons, List.map_nil, Option.map_some, Option.map_none, List.nil_append, ↓reduceIte, vcu0, vcu1, vcu2, vcu3, vcu4, vcu5, vcu6, vcu7, vcu8, vcu9, vcu10, vcu11, vcu12, vcu13, vcu14, vcu15, vcu16, vcu17, vcu18, vcu19, vcu20, vcu21, vcu22, ↓vcd0, ↓vcd1, ↓vcd2, ↓vcd3, h0]
      | true =>
        simp -implicitDefEqProofs (disch := omega) only [List.any_cons, List.any_nil, Nat.reduceEqDiff, List.map_cons, List.map_nil, Option.map_some, Option.map_none, List.nil_append, ↓reduceIte, vcu0, vcu1, vcu2, vcu3, vcu4, vcu5, vcu6, vcu7, vcu8, vcu9, vcu10, vcu11, vcu12, vcu13, vcu14, vcu15, vcu16, vcu17, vcu18, vcu19, vcu20, vcu21, vcu22, ↓vcd0, ↓vcd1, ↓vcd2, ↓vcd3, opK_some]
        refine fin_one Try.results65 ⟨q, ps, ?_, by omega, hq5, hR5.sub⟩
        simp -implicitDefEqProofs (disch := omega) only [List.any_cons, List.any_nil, Nat.reduceEqDiff, List.map_cons, List.map_nil, Option.map_some, Option.map_none, List.nil_append, ↓reduceIte, vcu0, vcu1, vcu2, vcu3, vcu4, vcu5, vcu6, vcu7, vcu8, vcu9, vcu10, vcu11, vcu12, vcu13, vcu14, vcu15, vcu16, vcu17, vcu18, vcu19, vcu20, vcu21, vcu22, ↓vcd0, ↓vcd1, ↓vcd2, ↓vcd3, h0]
    · simp -implicitDefEqProofs (disch := omega) only [List.any_cons, List.any_nil, Nat.reduceEqDiff, List.map_cons, List.map_nil, Option.map_some, Option.map_none, List.nil_append, ↓reduceIte, vcu0, vcu1, vcu2, vcu3, vcu4, vcu5, vcu6, vcu7, vcu8, vcu9, vcu10, vcu11, vcu12, vcu13, vcu14, vcu15, vcu16, vcu17, vcu18, vcu19, vcu20, vcu21, vcu22, ↓vcd0, ↓vcd1, ↓vcd2, ↓vcd3, opK_some]
      refine (odd_at β σ3 g h o bs _ n hR3 (by omega) (by omega)).mono ?_
      rintro r τ3 ⟨b, rfl, hR5, hK5⟩
      have hq5 := hK5.at hq3 hqg
      cases b with
      | false =>
        simp -implicitDefEqProofs (disch := omega) only [List.any_cons, List.any_nil, Nat.reduceEqDiff, List.map_cons, List.map_nil, Option.map_some, Option.map_none, List.nil_append, ↓reduceIte, vcu0, vcu1, vcu2, vcu3, vcu4, vcu5, vcu6, vcu7, vcu8, vcu9, vcu10, vcu11, vcu12, vcu13, vcu14, vcu15, vcu16, vcu17, vcu18, vcu19, vcu20, vcu21, vcu22, ↓vcd0, ↓vcd1, ↓vcd2, ↓vcd3, opK_some]
        refine fin_one Try.results65 ⟨q, ps, ?_, by omega, hq5, hR5.sub⟩
        simp -implicitDefEqProofs (disch := omega) only [List.any_cons, List.any_nil, Nat.reduceEqDiff, List.map_cons, List.map_nil, Option.map_some, Option.map_none, List.nil_append, ↓reduceIte, vcu0, vcu1, vcu2, vcu3, vcu4, vcu5, vcu6, vcu7, vcu8, vcu9, vcu10, vcu11, vcu12, vcu13, vcu14, vcu15, vcu16, vcu17, vcu18, vcu19, vcu20, vcu21, vcu22, ↓vcd0, ↓vcd1, ↓vcd2, ↓vcd3]
      | true =>
        by_cases h0 : 0 < ps.length
        · have hld := intsAt_own hq5 (ps.length - 1) (by omega)
          have ei : ((ps.length : Int) - 1).toNat = ps.length - 1 := by omega
          simp -implicitDefEqProofs (disch := omega) only [List.any_cons, List.any_nil, Nat.reduceEqDiff, List.map_cons, List.map_nil, Option.map_some, Option.map_none, List.nil_append, ↓reduceIte, vcu0, vcu1, vcu2, vcu3, vcu4, vcu5, vcu6, vcu7, vcu8, vcu9, vcu10, vcu11, vcu12, vcu13, vcu14, vcu15, vcu16, vcu17, vcu18, vcu19, vcu20, vcu21, vcu22, ↓vcd0, ↓vcd1, ↓vcd2, ↓vcd3, opK_some, hld, ei]
          refine r_setI (g := q) (i := 0) (v := ps.getD (ps.length - 1) 0) (by simp -implicitDefEqProofs (disch := omega) only [List.any_cons, List.any_nil, Nat.reduceEqDiff, List.map_cons, List.map_nil, Option.map_some, Option.map_none, List.nil_append, ↓reduceIte, vcu0, vcu1, vcu2, vcu3, vcu4, vcu5, vcu6, vcu7, vcu8, vcu9, vcu10, vcu11, vcu12, vcu13, vcu14, vcu15, vcu16, vcu17, vcu18, vcu19, vcu20, vcu21, vcu22, ↓vcd0, ↓vcd1, ↓vcd2, ↓vcd3, Int.toNat_zero]) (by simp -implicitDefEqProofs (disch := omega) only [List.any_cons, List.any_nil, Nat.reduceEqDiff, List.map_cons, List.map_nil, Option.map_some, Option.map_none, List.nil_append, ↓reduceIte, vcu0, vcu1, vcu2, vcu3, vcu4, vcu5, vcu6, vcu7, vcu8, vcu9, vcu10, vcu11, vcu12, vcu13, vcu14, vcu15, vcu16, vcu17, vcu18, vcu19, vcu20, vcu21, vcu22, ↓vcd0, ↓vcd1, ↓vcd2, ↓vcd3]) co3 hq5 (by omega) fun τ6 k6 e6 => ?_
          simp -implicitDefEqProofs (disch := omega) only [List.any_cons, List.any_nil, Nat.reduceEqDiff, List.map_cons, List.map_nil, Option.map_some, Option.map_none, List.nil_append, ↓reduceIte, vcu0, vcu1, vcu2, vcu3, vcu4, vcu5, vcu6, vcu7, vcu8, vcu9, vcu10, vcu11, vcu12, vcu13, vcu14, vcu15, vcu16, vcu17, vcu18, vcu19, vcu20, vcu21, vcu22, ↓vcd0, ↓vcd1, ↓vcd2, ↓vcd3]
          refine fin_one Try.results65 ⟨q, _, ?_, by simp; omega, e6, k6.sub hR5.sub hqf⟩
          simp -implicitDefEqProofs (disch := omega) only [List.any_cons, List.any_nil, Nat.reduceEqDiff, List.map_cons, List.map_nil, Option.map_some, Option.map_none, List.nil_append, ↓reduceIte, vcu0, vcu1, vcu2, vcu3, vcu4, vcu5, vcu6, vcu7, vcu8, vcu9, vcu10, vcu11, vcu12, vcu13, vcu14, vcu15, vcu16, vcu17, vcu18, vcu19, vcu20, vcu21, vcu22, ↓vcd0, ↓vcd1, ↓vcd2, ↓vcd3, List.length_set]
        · simp -implicitDefEqProofs (disch := omega) only [List.any_cons, List.any_nil, Nat.reduceEqDiff, List.map_cons, List.map_nil, Option.map_some, Option.map_none, List.nil_append, ↓reduceIte, vcu0, vcu1, vcu2, vcu3, vcu4, vcu5, vcu6, vcu7, vcu8, vcu9, vcu10, vcu11, vcu12, vcu13, vcu14, vcu15, vcu16, vcu17, vcu18, vcu19, vcu20, vcu21, vcu22, ↓vcd0, ↓vcd1, ↓vcd2, ↓vcd3, opK_some]
          refine fin_one Try.results65 ⟨q, ps, ?_, by omega, hq5, hR5.sub⟩
          simp -implicitDefEqProofs (disch := omega) only [List.any_cons, List.any_nil, Nat.reduceEqDiff, List.map_cons, List.map_nil, Option.map_some, Option.map_none, List.nil_append, ↓reduceIte, vcu0, vcu1, vcu2, vcu3, vcu4, vcu5, vcu6, vcu7, vcu8, vcu9, vcu10, vcu11, vcu12, vcu13, vcu14, vcu15, vcu16, vcu17, vcu18, vcu19, vcu20, vcu21, vcu22, ↓vcd0, ↓vcd1, ↓vcd2, ↓vcd3]
theorem drawStepClashes_at (σ : AHeap) (h o : Nat) (bs : List Int) (hv : IntsAt .u8 σ h o bs) (hl : bs.length ≤ 1048576) (hb : ∀ b ∈ bs, 0 ≤ b ∧ b ≤ 255) :
    ACall Try.prog w0 36 [.slice (some ⟨h, o, none⟩) bs.length 1] σ fun r σ' => ∃ (q : Nat) (ps : List Int), r = .slice (some ⟨q, 0, none⟩) ps.length 1 ∧ ps.length ≤ 8 ∧ σ' q = some ⟨ints .i64 ps, false⟩ ∧ Sub σ σ' := by
  refine acall_go mixed Try.func36 rfl good36 fun pr => ?_
  simp -implicitDefEqProofs (disch := omega) only [List.any_cons, List.any_nil, Nat.reduceEqDiff, List.map_cons, List.map_nil, Option.map_some, Option.map_none, List.nil_append, ↓reduceIte, vcu0, vcu1, vcu2, vcu3, vcu4, vcu5, vcu6, vcu7, vcu8, vcu9, vcu10, vcu11, vcu12, vcu13, vcu14, vcu15, vcu16, vcu17, vcu18, vcu19, vcu20, vcu21, vcu22, ↓vcd0, ↓vcd1, ↓vcd2, ↓vcd3]
  refine (opened σ h o bs hv hl hb).mono ?_
  rintro r τ ⟨g, m, rfl, hs0, hR⟩
  simp -implicitDefEqProofs (disch := omega) only [List.any_cons, List.any_nil, Nat.reduceEqDiff, List.map_cons, List.map_nil, Option.map_some, Option.map_none, List.nil_append, ↓reduceIte, vcu0, vcu1, vcu2, vcu3, vcu4, vcu5, vcu6, vcu7, vcu8, vcu9, vcu10, vcu11, vcu12, vcu13, vcu14, vcu15, vcu16, vcu17, vcu18, vcu19, vcu20, vcu21, vcu22, ↓vcd0, ↓vcd1, ↓vcd2, ↓vcd3, opK_some]
  refine (whole_draw σ τ g h o _ 0 9 hR (by omega) (by omega)).mono ?_
  rintro r τ1 ⟨q, ps, rfl, h1, h2, h3⟩
  simp -implicitDefEqProofs (disch := omega) only [List.any_cons, List.any_nil, Nat.reduceEqDiff, List.map_cons, List.map_nil, Option.map_some, Option.map_none, List.nil_append, ↓reduceIte, vcu0, vcu1, vcu2, vcu3, vcu4, vcu5, vcu6, vcu7, vcu8, vcu9, vcu10, vcu11, vcu12, vcu13, vcu14, vcu15, vcu16, vcu17, vcu18, vcu19, vcu20, vcu21, vcu22, ↓vcd0, ↓vcd1, ↓vcd2, ↓vcd3, opK_some]
  refine fin_one Try.results36 ⟨q, ps, ?_, h1, h2, h3⟩
  simp -implicitDefEqProofs (disch := omega) only [List.any_cons, List.any_nil, Nat.reduceEqDiff, List.map_cons, List.map_nil, Option.map_some, Option.map_none, List.nil_append, ↓reduceIte, vcu0, vcu1, vcu2, vcu3, vcu4, vcu5, vcu6, vcu7, vcu8, vcu9, vcu10, vcu11, vcu12, vcu13, vcu14, vcu15, vcu16, vcu17, vcu18, vcu19, vcu20, vcu21, vcu22, ↓vcd0, ↓vcd1, ↓vcd2, ↓vcd3]
theorem drawLoopSet_at (σ : AHeap) (h o : Nat) (bs : List Int) (hv : IntsAt .u8 σ h o bs) (hl : bs.length ≤ 1048576) (hb : ∀ b ∈ bs, 0 ≤ b ∧ b ≤ 255) :
    ACall Try.prog w0 29 [.slice (some ⟨h, o, none⟩) bs.length 1] σ fun r σ' => ∃ (q : Nat) (ps : List Int), r = .slice (some ⟨q, 0, none⟩) ps.length 1 ∧ ps.length ≤ 8 ∧ σ' q = some ⟨ints .i64 ps, false⟩ ∧ Sub σ σ' := by
  refine acall_go mixed Try.func29 rfl good29 fun pr => ?_
  simp -implicitDefEqProofs (disch := omega) only [List.any_cons, List.any_nil, Nat.reduceEqDiff, List.map_cons, List.map_nil, Option.map_some, Option.map_none, List.nil_append, ↓reduceIte, vcu0, vcu1, vcu2, vcu3, vcu4, vcu5, vcu6, vcu7, vcu8, vcu9, vcu10, vcu11, vcu12, vcu13, vcu14, vcu15, vcu16, vcu17, vcu18, vcu19, vcu20, vcu21, vcu22, ↓vcd0, ↓vcd1, ↓vcd2, ↓vcd3]
  refine (opened σ h o bs hv hl hb).mono ?_
  rintro r τ ⟨g, m, rfl, hs0, hR⟩
  simp -implicitDefEqProofs (disch := omega) only [List.any_cons, List.any_nil, Nat.reduceEqDiff, List.map_cons, List.map_nil, Option.map_some, Option.map_none, List.nil_append, ↓reduceIte, vcu0, vcu1, vcu2, vcu3, vcu4, vcu5, vcu6, vcu7, vcu8, vcu9, vcu10, vcu11, vcu12, vcu13, vcu14, vcu15, vcu16, vcu17, vcu18, vcu19, vcu20, vcu21, vcu22, ↓vcd0, ↓vcd1, ↓vcd2, ↓vcd3, opK_some]
  refine (whole_draw σ τ g h o _ 0 9 hR (by omega) (by omega)).mono ?_
  rintro r τ1 ⟨q, ps, rfl, h1, h2, h3⟩
  simp -implicitDefEqProofs (disch := omega) only [List.any_cons, List.any_nil, Nat.reduceEqDiff, List.map_cons, List.map_nil, Option.map_some, Option.map_none, List.nil_append, ↓reduceIte, vcu0, vcu1, vcu2, vcu3, vcu4, vcu5, vcu6, vcu7, vcu8, vcu9, vcu10, vcu11, vcu12, vcu13, vcu14, vcu15, vcu16, vcu17, vcu18, vcu19, vcu20, vcu21, vcu22, ↓vcd0, ↓vcd1, ↓vcd2, ↓vcd3, opK_some]
  refine fin_one Try.results29 ⟨q, ps, ?_, h1, h2, h3⟩
  simp -implicitDefEqProofs (disch := omega) only [List.any_cons, List.any_nil, Nat.reduceEqDiff, List.map_cons, List.map_nil, Option.map_some, Option.map_none, List.nil_append, ↓reduceIte, vcu0, vcu1, vcu2, vcu3, vcu4, vcu5, vcu6, vcu7, vcu8, vcu9, vcu10, vcu11, vcu12, vcu13, vcu14, vcu15, vcu16, vcu17, vcu18, vcu19, vcu20, vcu21, vcu22, ↓vcd0, ↓vcd1, ↓vcd2, ↓vcd3]
end Go.Proofs.Ytgieeafdgdkkcaa
