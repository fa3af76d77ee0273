/- slices.Concat of networks; merge and mergeSort of the program. -/
import Derived.Test.YtnkpoflhdfchjaaOl
import Derived.Test.YtnkpoflhdfchjaaNt
set_option linter.unusedSimpArgs false
set_option linter.unusedVariables false
namespace Go.Proofs.Ytnkpoflhdfchjaa
open Go Go.Abs Go.RowKit
variable {w0 : World}

def cat (f : Nat → List (Int × Int)) : Nat → List (Int × Int)
  | 0 => []
  | k + 1 => cat f k ++ f k
theorem cat_length {f : Nat → List (Int × Int)} (h : ∀ k, (f k).length ≤ 1000) : ∀ n, (cat f n).length ≤ 1000 * n
  | 0 => by simp [cat]
  | n + 1 => by have := cat_length h n; have := h n; rw [cat, List.length_append]; omega
theorem pairs_len {σ : AHeap} {v : Value} {cs : List (Int × Int)} (h : Pairs σ v cs) : alenV Try.prog 23 v = some (.int .i64 (cs.length : Int)) := by
  rcases h with ⟨rfl, rfl⟩ | ⟨g, o, rfl, -⟩
  · exact alenV_slice Try.underlying23
  · exact alenV_slice Try.underlying23

theorem concat_at (σ : AHeap) (r : Nat) (vs : List Value) (f : Nat → List (Int × Int)) (hr : σ r = some ⟨vs, false⟩) (hn : vs.length ≤ 3) (hv : ∀ k v, vs[k]? = some v → Pairs σ v (f k)) (hl : ∀ k, (f k).length ≤ 1000) :
    ACall Try.prog w0 100 [.slice (some ⟨r, 0, none⟩) vs.length 1] σ fun v σ' => Sub σ σ' ∧ OwnP σ σ' v (cat f vs.length) := by
  refine acall_go mixed Try.func100 rfl good100 fun pr => ?_
  simp -implicitDefEqProofs (disch := omega) only [List.any_cons, List.any_nil, Nat.reduceEqDiff, List.map_cons, List.map_nil, Option.map_some, Option.map_none, List.nil_append, ↓reduceIte, vcu0, vcu1, vcu2, vcu3, vcu4, vcu5, vcu6, vcu7, vcu8, vcu9, vcu10, vcu11, vcu12, vcu13, vcu14, vcu15, vcu16, vcu17, vcu18, vcu19, vcu20, vcu21, vcu22, vcu23, vcu24, vcu25, vcu26, ↓vcd0, ↓vcd1, ↓vcd2, ↓vcd3]
  refine vc_loop_c mixed (by kernel_rfl) [0, 9, 10] (fun m a τ => ∃ k : Nat, m + k = vs.length ∧ a 11 = .int .i64 k ∧ a 3 = .int .i64 ((cat f k).length : Nat) ∧ τ = σ) vs.length ⟨0, by simp, rfl, by simp [cat, fset], rfl⟩ ?_
  rintro m a τ hc ⟨k, hk, h11, h3, rfl⟩
  simp -implicitDefEqProofs (disch := omega) only [List.any_cons, List.any_nil, Nat.reduceEqDiff, List.map_cons, List.map_nil, Option.map_some, Option.map_none, List.nil_append, ↓reduceIte, vcu0, vcu1, vcu2, vcu3, vcu4, vcu5, vcu6, vcu7, vcu8, vcu9, vcu10, vcu11, vcu12, vcu13, vcu14, vcu15, vcu16, vcu17, vcu18, vcu19, vcu20, vcu21, vcu22, vcu23, vcu24, vcu25, vcu26, ↓vcd0, ↓vcd1, ↓vcd2, ↓vcd3] at hc
  obtain ⟨h0, h9, h10, -⟩ := hc
  have hcl := cat_length hl k
  by_cases hlt : k < vs.length
  · have hvk : vs[k]? = some vs[k] := List.getElem?_eq_getElem hlt
    have hx : ld τ r (0 + k) = some vs[k] := ld_of hr (by rw [Nat.zero_add]; exact hvk)
    have hp := pairs_len (hv k _ hvk)
    have hfl := hl k
    have hadd : ((cat f k).length : Int) + ((f k).length : Int) = ((cat f (k + 1)).length : Nat) := by rw [cat, List.length_append]; simp
    generalize vs[k] = v at hx hp
    simp -implicitDefEqProofs (disch := omega) only [List.any_cons, List.any_nil, Nat.reduceEqDiff, List.map_cons, List.map_nil, Option.map_some, Option.map_none, List.nil_append, ↓reduceIte, vcu0, vcu1, vcu2, vcu3, vcu4, vcu5, vcu6, vcu7, vcu8, vcu9, vcu10, vcu11, vcu12, vcu13, vcu14, vcu15, vcu16, vcu17, vcu18, vcu19, vcu20, vcu21, vcu22, vcu23, vcu24, vcu25, vcu26, ↓vcd0, ↓vcd1, ↓vcd2, ↓vcd3, h0, h9, h10, h11, h3, hx, hp, hadd, Nat.mul_one]
    exact ⟨⟨trivial, trivial, trivial, trivial⟩, m - 1, by omega, k + 1, by omega, by simp, rfl, trivial⟩
  · have e : k = vs.length := by omega
    subst e
    simp -implicitDefEqProofs (disch := omega) only [List.any_cons, List.any_nil, Nat.reduceEqDiff, List.map_cons, List.map_nil, Option.map_some, Option.map_none, List.nil_append, ↓reduceIte, vcu0, vcu1, vcu2, vcu3, vcu4, vcu5, vcu6, vcu7, vcu8, vcu9, vcu10, vcu11, vcu12, vcu13, vcu14, vcu15, vcu16, vcu17, vcu18, vcu19, vcu20, vcu21, vcu22, vcu23, vcu24, vcu25, vcu26, ↓vcd0, ↓vcd1, ↓vcd2, ↓vcd3, h0, h9, h10, h11, h3]
    refine (grow_calls τ _ (by omega)).mono ?_
    rintro v0 τ1 ⟨s1, hv1⟩
    simp -implicitDefEqProofs (disch := omega) only [List.any_cons, List.any_nil, Nat.reduceEqDiff, List.map_cons, List.map_nil, Option.map_some, Option.map_none, List.nil_append, ↓reduceIte, vcu0, vcu1, vcu2, vcu3, vcu4, vcu5, vcu6, vcu7, vcu8, vcu9, vcu10, vcu11, vcu12, vcu13, vcu14, vcu15, vcu16, vcu17, vcu18, vcu19, vcu20, vcu21, vcu22, vcu23, vcu24, vcu25, vcu26, ↓vcd0, ↓vcd1, ↓vcd2, ↓vcd3, opK_some, h0]
    refine vc_loop_c mixed (by kernel_rfl) [0, 25, 26] (fun m a τ2 => ∃ k : Nat, m + k = vs.length ∧ a 27 = .int .i64 k ∧ OwnP τ τ2 (a 6) (cat f k) ∧ Sub τ τ2) vs.length ⟨0, by simp, rfl, by simpa [cat, fset] using hv1, s1⟩ ?_
    rintro m2 a2 τ2 hc2 ⟨k, hk2, h27, ho, hs⟩
    simp -implicitDefEqProofs (disch := omega) only [List.any_cons, List.any_nil, Nat.reduceEqDiff, List.map_cons, List.map_nil, Option.map_some, Option.map_none, List.nil_append, ↓reduceIte, vcu0, vcu1, vcu2, vcu3, vcu4, vcu5, vcu6, vcu7, vcu8, vcu9, vcu10, vcu11, vcu12, vcu13, vcu14, vcu15, vcu16, vcu17, vcu18, vcu19, vcu20, vcu21, vcu22, vcu23, vcu24, vcu25, vcu26, ↓vcd0, ↓vcd1, ↓vcd2, ↓vcd3, h0] at hc2
    obtain ⟨g0, g25, g26, -⟩ := hc2
    have hcl2 := cat_length hl k
    by_cases hlt : k < vs.length
    · have hvk : vs[k]? = some vs[k] := List.getElem?_eq_getElem hlt
      have hx : ld τ2 r (0 + k) = some vs[k] := ld_of (hs _ _ hr) (by rw [Nat.zero_add]; exact hvk)
      have hp := (hv k _ hvk).sub hs
      have hfl := hl k
      generalize vs[k] = v at hx hp
      simp -implicitDefEqProofs (disch := omega) only [List.any_cons, List.any_nil, Nat.reduceEqDiff, List.map_cons, List.map_nil, Option.map_some, Option.map_none, List.nil_append, ↓reduceIte, vcu0, vcu1, vcu2, vcu3, vcu4, vcu5, vcu6, vcu7, vcu8, vcu9, vcu10, vcu11, vcu12, vcu13, vcu14, vcu15, vcu16, vcu17, vcu18, vcu19, vcu20, vcu21, vcu22, vcu23, vcu24, vcu25, vcu26, ↓vcd0, ↓vcd1, ↓vcd2, ↓vcd3, g0, g25, g26, h27, hx, Nat.mul_one]
      refine r_pushV (β := τ) (v := a2 6) (w := v) (cs := cat f k) (ds := f k) el23 (by omega) sl23 hs (by simp -implicitDefEqProofs (disch := omega) only [List.any_cons, List.any_nil, Nat.reduceEqDiff, List.map_cons, List.map_nil, Option.map_some, Option.map_none, List.nil_append, ↓reduceIte, vcu0, vcu1, vcu2, vcu3, vcu4, vcu5, vcu6, vcu7, vcu8, vcu9, vcu10, vcu11, vcu12, vcu13, vcu14, vcu15, vcu16, vcu17, vcu18, vcu19, vcu20, vcu21, vcu22, vcu23, vcu24, vcu25, vcu26, ↓vcd0, ↓vcd1, ↓vcd2, ↓vcd3]) ho (by simp -implicitDefEqProofs (disch := omega) only [List.any_cons, List.any_nil, Nat.reduceEqDiff, List.map_cons, List.map_nil, Option.map_some, Option.map_none, List.nil_append, ↓reduceIte, vcu0, vcu1, vcu2, vcu3, vcu4, vcu5, vcu6, vcu7, vcu8, vcu9, vcu10, vcu11, vcu12, vcu13, vcu14, vcu15, vcu16, vcu17, vcu18, vcu19, vcu20, vcu21, vcu22, vcu23, vcu24, vcu25, vcu26, ↓vcd0, ↓vcd1, ↓vcd2, ↓vcd3]) hp (by omega) fun g6 τ6 s6 n6 v6 => ?_
      simp -implicitDefEqProofs (disch := omega) only [List.any_cons, List.any_nil, Nat.reduceEqDiff, List.map_cons, List.map_nil, Option.map_some, Option.map_none, List.nil_append, ↓reduceIte, vcu0, vcu1, vcu2, vcu3, vcu4, vcu5, vcu6, vcu7, vcu8, vcu9, vcu10, vcu11, vcu12, vcu13, vcu14, vcu15, vcu16, vcu17, vcu18, vcu19, vcu20, vcu21, vcu22, vcu23, vcu24, vcu25, vcu26, ↓vcd0, ↓vcd1, ↓vcd2, ↓vcd3, g0, g25, g26, h27]
      exact ⟨⟨h0.symm, trivial, trivial, trivial⟩, m2 - 1, by omega, k + 1, by omega, by simp, .inr ⟨g6, by rw [cat, List.length_append], v6, n6⟩, s6⟩
    · have e : k = vs.length := by omega
      subst e
      simp -implicitDefEqProofs (disch := omega) only [List.any_cons, List.any_nil, Nat.reduceEqDiff, List.map_cons, List.map_nil, Option.map_some, Option.map_none, List.nil_append, ↓reduceIte, vcu0, vcu1, vcu2, vcu3, vcu4, vcu5, vcu6, vcu7, vcu8, vcu9, vcu10, vcu11, vcu12, vcu13, vcu14, vcu15, vcu16, vcu17, vcu18, vcu19, vcu20, vcu21, vcu22, vcu23, vcu24, vcu25, vcu26, ↓vcd0, ↓vcd1, ↓vcd2, ↓vcd3, g0, g25, g26, h27]
      refine fin_one Try.results100 ⟨hs, ?_⟩
      simp -implicitDefEqProofs (disch := omega) only [List.any_cons, List.any_nil, Nat.reduceEqDiff, List.map_cons, List.map_nil, Option.map_some, Option.map_none, List.nil_append, ↓reduceIte, vcu0, vcu1, vcu2, vcu3, vcu4, vcu5, vcu6, vcu7, vcu8, vcu9, vcu10, vcu11, vcu12, vcu13, vcu14, vcu15, vcu16, vcu17, vcu18, vcu19, vcu20, vcu21, vcu22, vcu23, vcu24, vcu25, vcu26, ↓vcd0, ↓vcd1, ↓vcd2, ↓vcd3]
      exact ho
end Go.Proofs.Ytnkpoflhdfchjaa
