/- The reference: the permutation with the least rank by which a table has something. -/
import Derived.Test.YtpcbgdgfdfpapaaFd
set_option linter.unusedSimpArgs false
set_option linter.unusedVariables false
namespace Go.Proofs.Ytpcbgdgfdfpapaa
open Go Go.Abs Go.RowKit Go.Frames
variable {w0 : World}

theorem match5_at (σ : AHeap) (h o : Nat) (rows : List (List Int)) (n r0 : Nat) (hv : RowsAt σ h o rows) (hsq : Sq n rows) (hn0 : 0 < n) (hn6 : n ≤ 6) (hnn : ∀ a b, a < n → b < n → 0 ≤ en rows a b) (hr0 : r0 < fac n) (hcov : Cov rows (ofV n r0)) (hno : ∀ r', r' < r0 → ¬ Cov rows (ofV n r')) :
    ACall Try.prog w0 68 [.slice (some ⟨h, o, none⟩) n 1] σ fun r σ' => ∃ z, r = .slice (some ⟨z, 0, none⟩) n 1 ∧ Sub σ σ' ∧ σ z = none ∧ σ' z = some ⟨ints .i64 (ofV n r0), false⟩ := by
  have hfl := fac_le hn6
  obtain rfl : rows.length = n := hsq.1
  refine acall_go mixed Try.func68 rfl good68 fun pr => ?_
  simp -implicitDefEqProofs (disch := omega) only [List.any_cons, List.any_nil, Nat.reduceEqDiff, List.map_cons, List.map_nil, Option.map_some, Option.map_none, List.nil_append, ↓reduceIte, vcu, ↓vcd]
  refine vc_loop_c mixed (by kernel_rfl) [0] (fun m a σ' => ∃ k : Nat, m + k = fac rows.length ∧ a 3 = .int .i64 k ∧ Sub σ σ' ∧ k ≤ r0) (fac rows.length) ⟨0, by simp, rfl, Sub.refl _, by omega⟩ ?_
  rintro m a σ' hc ⟨k, hk, h3, hs, hkr⟩
  simp -implicitDefEqProofs (disch := omega) only [List.any_cons, List.any_nil, Nat.reduceEqDiff, List.map_cons, List.map_nil, Option.map_some, Option.map_none, List.nil_append, ↓reduceIte, vcu, ↓vcd] at hc
  obtain ⟨h0, -⟩ := hc
  simp -implicitDefEqProofs (disch := omega) only [List.any_cons, List.any_nil, Nat.reduceEqDiff, List.map_cons, List.map_nil, Option.map_some, Option.map_none, List.nil_append, ↓reduceIte, vcu, ↓vcd, h0, h3]
  refine (specFac_calls σ' rows.length (by omega)).mono ?_
  rintro r _ ⟨rfl, rfl⟩
  rename_i σ'
  rw [Int.toNat_natCast]
  have ho : OfOk rows.length k := ⟨by omega, by omega, by omega, by simp; omega⟩
  obtain ⟨hV, -, hlen, -⟩ := of_ok ho
  simp -implicitDefEqProofs (disch := omega) only [List.any_cons, List.any_nil, Nat.reduceEqDiff, List.map_cons, List.map_nil, Option.map_some, Option.map_none, List.nil_append, ↓reduceIte, vcu, ↓vcd, opK_some, h0, h3]
  refine (specOf_at σ' rows.length k (by omega)).mono ?_
  rintro r σ2 ⟨v, rfl, s2, hO⟩
  rw [decide_eq_true ho]
  have hin : ∀ j, j < rows.length → 0 ≤ (ofV rows.length k).getD j 0 ∧ (ofV rows.length k).getD j 0 < rows.length := fun j hj => by
    have := hV.1.1 ((ofV rows.length k).getD j 0) (by simp [List.getD, hlen, hj]); rw [hlen] at this; exact this
  rcases hO with ⟨-, e⟩ | ⟨g, rfl, hg, hng⟩
  · rw [e] at hlen; simp at hlen; omega
  have hcv := cover2_at (w0 := w0) σ2 h o g 0 rows _ (hv.sub (hs.trans s2)) hn6 hsq hnn (intsAt_own hg) hlen hin
  simp -implicitDefEqProofs (disch := omega) only [List.any_cons, List.any_nil, Nat.reduceEqDiff, List.map_cons, List.map_nil, Option.map_some, Option.map_none, List.nil_append, ↓reduceIte, vcu, ↓vcd, opK_some, List.getElem?_toArray, List.getElem?_cons_zero, List.getElem?_cons_succ, h0, h3]
  refine hcv.mono ?_
  rintro r _ ⟨b, rfl, hb, rfl⟩
  rename_i σ2
  cases b with
  | true =>
    have e : k = r0 := by
      rcases Nat.lt_or_ge k r0 with h | h
      · exact absurd (hb.1 rfl) (hno k h)
      · omega
    subst e
    simp -implicitDefEqProofs (disch := omega) only [List.any_cons, List.any_nil, Nat.reduceEqDiff, List.map_cons, List.map_nil, Option.map_some, Option.map_none, List.nil_append, ↓reduceIte, vcu, ↓vcd, opK_some]
    refine fin_one Try.results68 ⟨g, ?_, hs.trans s2, free_sub hs hng, hg⟩
    simp -implicitDefEqProofs (disch := omega) only [List.any_cons, List.any_nil, Nat.reduceEqDiff, List.map_cons, List.map_nil, Option.map_some, Option.map_none, List.nil_append, ↓reduceIte, vcu, ↓vcd]
    rw [hlen]
  | false =>
    have hne : k ≠ r0 := fun e => by subst e; exact absurd (hb.2 hcov) (by simp)
    simp -implicitDefEqProofs (disch := omega) only [List.any_cons, List.any_nil, Nat.reduceEqDiff, List.map_cons, List.map_nil, Option.map_some, Option.map_none, List.nil_append, ↓reduceIte, vcu, ↓vcd, opK_some, h0, h3]
    refine ⟨⟨(by first | trivial | rfl | exact Eq.symm (by assumption)), trivial⟩, m - 1, by omega, k + 1, by omega, by simp, hs.trans s2, by omega⟩
end Go.Proofs.Ytpcbgdgfdfpapaa
