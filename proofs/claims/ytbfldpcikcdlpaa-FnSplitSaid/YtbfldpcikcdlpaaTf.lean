/- Even, of the program and of the reference. -/
import Derived.Test.YtbfldpcikcdlpaaTe
set_option linter.unusedSimpArgs false
set_option linter.unusedVariables false
namespace Go.Proofs.Ytbfldpcikcdlpaa
open Go Go.Abs Go.RowKit
variable {w0 : World}

def EvenT (rows : List (List Int)) : Prop := TV rows ∧ ∀ i, i < rows.length → psum (rows.getD i []) rows.length = most rows rows.length ∧ csum rows i rows.length = most rows rows.length
instance (rows : List (List Int)) : Decidable (EvenT rows) := by unfold EvenT; infer_instance

theorem specEven_at (σ : AHeap) (h o : Nat) (rows : List (List Int)) (hv : RowsAt σ h o rows) (hl : rows.length ≤ 1048576) :
    ACall Try.prog w0 25 [.slice (some ⟨h, o, none⟩) rows.length 1] σ fun r σ' => r = .bool (decide (EvenT rows)) ∧ σ' = σ := by
  refine acall_go mixed Try.func25 rfl good25 ?_
  simp -implicitDefEqProofs (disch := omega) only [List.any_cons, List.any_nil, Nat.reduceEqDiff, List.map_cons, List.map_nil, Option.map_some, Option.map_none, List.nil_append, ↓reduceIte, vcu0, vcu1, vcu2, vcu3, vcu4, vcu5, vcu6, vcu7, vcu8, vcu9, vcu10, vcu11, vcu12, vcu13, vcu14, vcu15, vcu16, ↓vcd0, ↓vcd1, ↓vcd2, ↓vcd3]
  refine (specMost_at σ h o rows hv hl).mono ?_
  rintro r _ ⟨rfl, rfl⟩
  rename_i σ
  by_cases hT : TV rows
  · have hm0 := most_le hT rows.length (Nat.le_refl _)
    obtain ⟨M, hM⟩ : ∃ M, most rows rows.length = M := ⟨_, rfl⟩
    have hmv : mostV rows = M := by rw [← hM]; exact if_pos hT
    rw [hM] at hm0
    rw [hmv]
    have hEq : ∀ M, most rows rows.length = M → decide (EvenT rows) = decide (∀ i, i < rows.length → psum (rows.getD i []) rows.length = M ∧ csum rows i rows.length = M) := by
      rintro M rfl
      exact decide_eq_decide.2 ⟨fun hE => hE.2, fun hE => ⟨hT, hE⟩⟩
    rw [hEq M hM]
    simp -implicitDefEqProofs (disch := omega) only [List.any_cons, List.any_nil, Nat.reduceEqDiff, List.map_cons, List.map_nil, Option.map_some, Option.map_none, List.nil_append, ↓reduceIte, vcu0, vcu1, vcu2, vcu3, vcu4, vcu5, vcu6, vcu7, vcu8, vcu9, vcu10, vcu11, vcu12, vcu13, vcu14, vcu15, vcu16, ↓vcd0, ↓vcd1, ↓vcd2, ↓vcd3, opK_some]
    refine vc_loop_c mixed (by kernel_rfl) [0, 3] (fun m a σ' => ∃ k : Nat, m + k = rows.length ∧ a 4 = .int .i64 k ∧ σ' = σ ∧ ∀ i, i < k → psum (rows.getD i []) rows.length = M ∧ csum rows i rows.length = M) rows.length ⟨0, by simp, rfl, rfl, by simp⟩ ?_
    rintro m a σ' hc ⟨k, hk, h4, rfl, hall⟩
    simp -implicitDefEqProofs (disch := omega) only [List.any_cons, List.any_nil, Nat.reduceEqDiff, List.map_cons, List.map_nil, Option.map_some, Option.map_none, List.nil_append, ↓reduceIte, vcu0, vcu1, vcu2, vcu3, vcu4, vcu5, vcu6, vcu7, vcu8, vcu9, vcu10, vcu11, vcu12, vcu13, vcu14, vcu15, vcu16, ↓vcd0, ↓vcd1, ↓vcd2, ↓vcd3] at hc
    obtain ⟨h0, h3, -⟩ := hc
    have hT6 := hT.1
    by_cases hlt : k < rows.length
    · obtain ⟨v, hx, hi⟩ := hv k hlt
      have hr := hT.2 k hlt
      have no : ¬ (psum (rows.getD k []) rows.length = M ∧ csum rows k rows.length = M) → decide (∀ i, i < rows.length → psum (rows.getD i []) rows.length = M ∧ csum rows i rows.length = M) = false := fun hn => decide_eq_false fun hE => hn (hE k hlt)
      simp -implicitDefEqProofs (disch := omega) only [List.any_cons, List.any_nil, Nat.reduceEqDiff, List.map_cons, List.map_nil, Option.map_some, Option.map_none, List.nil_append, ↓reduceIte, vcu0, vcu1, vcu2, vcu3, vcu4, vcu5, vcu6, vcu7, vcu8, vcu9, vcu10, vcu11, vcu12, vcu13, vcu14, vcu15, vcu16, ↓vcd0, ↓vcd1, ↓vcd2, ↓vcd3, h0, h3, h4, hx]
      refine (l1Sum_calls σ' v _ hi (by rw [hr.1]; omega) hr.2).mono ?_
      rintro r _ ⟨rfl, rfl⟩
      rename_i σ'
      rw [hr.1]
      by_cases hp : psum (rows.getD k []) rows.length = M
      · simp -implicitDefEqProofs (disch := omega) only [List.any_cons, List.any_nil, Nat.reduceEqDiff, List.map_cons, List.map_nil, Option.map_some, Option.map_none, List.nil_append, ↓reduceIte, vcu0, vcu1, vcu2, vcu3, vcu4, vcu5, vcu6, vcu7, vcu8, vcu9, vcu10, vcu11, vcu12, vcu13, vcu14, vcu15, vcu16, ↓vcd0, ↓vcd1, ↓vcd2, ↓vcd3, opK_some, h0, h3, h4, hp, ne_eq, not_true_eq_false, decide_false]
        refine (l1Column_at σ' h o rows k hv hT hlt).mono ?_
        rintro r _ ⟨rfl, rfl⟩
        rename_i σ'
        by_cases hq : csum rows k rows.length = M
        · simp -implicitDefEqProofs (disch := omega) only [List.any_cons, List.any_nil, Nat.reduceEqDiff, List.map_cons, List.map_nil, Option.map_some, Option.map_none, List.nil_append, ↓reduceIte, vcu0, vcu1, vcu2, vcu3, vcu4, vcu5, vcu6, vcu7, vcu8, vcu9, vcu10, vcu11, vcu12, vcu13, vcu14, vcu15, vcu16, ↓vcd0, ↓vcd1, ↓vcd2, ↓vcd3, opK_some, h0, h3, h4, hq, ne_eq, not_true_eq_false, decide_false]
          refine ⟨⟨trivial, trivial, trivial⟩, m - 1, by omega, k + 1, by omega, by simp, trivial, fun i hi => ?_⟩
          by_cases e : i = k
          · subst e; exact ⟨hp, hq⟩
          · exact hall i (by omega)
        · simp -implicitDefEqProofs (disch := omega) only [List.any_cons, List.any_nil, Nat.reduceEqDiff, List.map_cons, List.map_nil, Option.map_some, Option.map_none, List.nil_append, ↓reduceIte, vcu0, vcu1, vcu2, vcu3, vcu4, vcu5, vcu6, vcu7, vcu8, vcu9, vcu10, vcu11, vcu12, vcu13, vcu14, vcu15, vcu16, ↓vcd0, ↓vcd1, ↓vcd2, ↓vcd3, opK_some, h0, h3, h4, hq, ne_eq, not_false_eq_true, decide_true]
          refine fin_one Try.results25 ⟨?_, rfl⟩
          simp -implicitDefEqProofs (disch := omega) only [List.any_cons, List.any_nil, Nat.reduceEqDiff, List.map_cons, List.map_nil, Option.map_some, Option.map_none, List.nil_append, ↓reduceIte, vcu0, vcu1, vcu2, vcu3, vcu4, vcu5, vcu6, vcu7, vcu8, vcu9, vcu10, vcu11, vcu12, vcu13, vcu14, vcu15, vcu16, ↓vcd0, ↓vcd1, ↓vcd2, ↓vcd3]
          rw [no (fun hh => hq hh.2)]
      · simp -implicitDefEqProofs (disch := omega) only [List.any_cons, List.any_nil, Nat.reduceEqDiff, List.map_cons, List.map_nil, Option.map_some, Option.map_none, List.nil_append, ↓reduceIte, vcu0, vcu1, vcu2, vcu3, vcu4, vcu5, vcu6, vcu7, vcu8, vcu9, vcu10, vcu11, vcu12, vcu13, vcu14, vcu15, vcu16, ↓vcd0, ↓vcd1, ↓vcd2, ↓vcd3, opK_some, h0, h3, h4, hp, ne_eq, not_false_eq_true, decide_true]
        refine fin_one Try.results25 ⟨?_, rfl⟩
        simp -implicitDefEqProofs (disch := omega) only [List.any_cons, List.any_nil, Nat.reduceEqDiff, List.map_cons, List.map_nil, Option.map_some, Option.map_none, List.nil_append, ↓reduceIte, vcu0, vcu1, vcu2, vcu3, vcu4, vcu5, vcu6, vcu7, vcu8, vcu9, vcu10, vcu11, vcu12, vcu13, vcu14, vcu15, vcu16, ↓vcd0, ↓vcd1, ↓vcd2, ↓vcd3]
        rw [no (fun hh => hp hh.1)]
    · simp -implicitDefEqProofs (disch := omega) only [List.any_cons, List.any_nil, Nat.reduceEqDiff, List.map_cons, List.map_nil, Option.map_some, Option.map_none, List.nil_append, ↓reduceIte, vcu0, vcu1, vcu2, vcu3, vcu4, vcu5, vcu6, vcu7, vcu8, vcu9, vcu10, vcu11, vcu12, vcu13, vcu14, vcu15, vcu16, ↓vcd0, ↓vcd1, ↓vcd2, ↓vcd3, h0, h3, h4]
      refine fin_one Try.results25 ⟨?_, rfl⟩
      simp -implicitDefEqProofs (disch := omega) only [List.any_cons, List.any_nil, Nat.reduceEqDiff, List.map_cons, List.map_nil, Option.map_some, Option.map_none, List.nil_append, ↓reduceIte, vcu0, vcu1, vcu2, vcu3, vcu4, vcu5, vcu6, vcu7, vcu8, vcu9, vcu10, vcu11, vcu12, vcu13, vcu14, vcu15, vcu16, ↓vcd0, ↓vcd1, ↓vcd2, ↓vcd3]
      rw [decide_eq_true (show 0 ≤ M from hm0.1), decide_eq_true (fun i hi => hall i (by omega) : ∀ i, i < rows.length → psum (rows.getD i []) rows.length = M ∧ csum rows i rows.length = M)]
  · have hmv : mostV rows = -1 := if_neg hT
    rw [hmv, decide_eq_false (fun hE : EvenT rows => hT hE.1)]
    simp -implicitDefEqProofs (disch := omega) only [List.any_cons, List.any_nil, Nat.reduceEqDiff, List.map_cons, List.map_nil, Option.map_some, Option.map_none, List.nil_append, ↓reduceIte, vcu0, vcu1, vcu2, vcu3, vcu4, vcu5, vcu6, vcu7, vcu8, vcu9, vcu10, vcu11, vcu12, vcu13, vcu14, vcu15, vcu16, ↓vcd0, ↓vcd1, ↓vcd2, ↓vcd3, opK_some]
    refine vc_loop_c mixed (by kernel_rfl) [0, 3] (fun m a σ' => m = 0 ∧ a 4 = .int .i64 0 ∧ σ' = σ) 0 ⟨rfl, rfl, rfl⟩ ?_
    rintro m a σ' hc ⟨rfl, h4, rfl⟩
    simp -implicitDefEqProofs (disch := omega) only [List.any_cons, List.any_nil, Nat.reduceEqDiff, List.map_cons, List.map_nil, Option.map_some, Option.map_none, List.nil_append, ↓reduceIte, vcu0, vcu1, vcu2, vcu3, vcu4, vcu5, vcu6, vcu7, vcu8, vcu9, vcu10, vcu11, vcu12, vcu13, vcu14, vcu15, vcu16, ↓vcd0, ↓vcd1, ↓vcd2, ↓vcd3] at hc
    obtain ⟨h0, h3, -⟩ := hc
    by_cases hlt : 0 < rows.length
    · simp -implicitDefEqProofs (disch := omega) only [List.any_cons, List.any_nil, Nat.reduceEqDiff, List.map_cons, List.map_nil, Option.map_some, Option.map_none, List.nil_append, ↓reduceIte, vcu0, vcu1, vcu2, vcu3, vcu4, vcu5, vcu6, vcu7, vcu8, vcu9, vcu10, vcu11, vcu12, vcu13, vcu14, vcu15, vcu16, ↓vcd0, ↓vcd1, ↓vcd2, ↓vcd3, h0, h3, h4]
      refine fin_one Try.results25 ⟨?_, rfl⟩
      simp -implicitDefEqProofs (disch := omega) only [List.any_cons, List.any_nil, Nat.reduceEqDiff, List.map_cons, List.map_nil, Option.map_some, Option.map_none, List.nil_append, ↓reduceIte, vcu0, vcu1, vcu2, vcu3, vcu4, vcu5, vcu6, vcu7, vcu8, vcu9, vcu10, vcu11, vcu12, vcu13, vcu14, vcu15, vcu16, ↓vcd0, ↓vcd1, ↓vcd2, ↓vcd3]
      rfl
    · simp -implicitDefEqProofs (disch := omega) only [List.any_cons, List.any_nil, Nat.reduceEqDiff, List.map_cons, List.map_nil, Option.map_some, Option.map_none, List.nil_append, ↓reduceIte, vcu0, vcu1, vcu2, vcu3, vcu4, vcu5, vcu6, vcu7, vcu8, vcu9, vcu10, vcu11, vcu12, vcu13, vcu14, vcu15, vcu16, ↓vcd0, ↓vcd1, ↓vcd2, ↓vcd3, h0, h3, h4]
      refine fin_one Try.results25 ⟨?_, rfl⟩
      simp -implicitDefEqProofs (disch := omega) only [List.any_cons, List.any_nil, Nat.reduceEqDiff, List.map_cons, List.map_nil, Option.map_some, Option.map_none, List.nil_append, ↓reduceIte, vcu0, vcu1, vcu2, vcu3, vcu4, vcu5, vcu6, vcu7, vcu8, vcu9, vcu10, vcu11, vcu12, vcu13, vcu14, vcu15, vcu16, ↓vcd0, ↓vcd1, ↓vcd2, ↓vcd3]
      rfl

theorem even_sums {rows : List (List Int)} {S : List Int} (hT : TV rows) (h : SumsAt rows rows.length 0 S) : EvenT rows ↔ ∀ i, i < S.length → S.getD i 0 = S.getD 0 0 := by
  have hrow : ∀ a, a < rows.length → S.getD a 0 = psum (rows.getD a []) rows.length := fun a ha => by rw [h.row a ha, if_pos ha]
  have hcol : ∀ b, b < rows.length → S.getD (rows.length + b) 0 = csum rows b rows.length := fun b hb => by rw [h.col b hb, if_neg (by omega)]
  have hm := mx_most hT h
  have hl := h.len
  constructor
  · intro hE i hi
    have h0 : S.getD 0 0 = most rows rows.length := by rw [hrow 0 (by omega)]; exact (hE.2 0 (by omega)).1
    rw [h0]
    by_cases h1 : i < rows.length
    · rw [hrow i h1]; exact (hE.2 i h1).1
    · obtain ⟨b, rfl⟩ : ∃ b, i = rows.length + b := ⟨i - rows.length, by omega⟩
      rw [hcol b (by omega)]; exact (hE.2 b (by omega)).2
  · intro hS
    refine ⟨hT, fun i hi => ?_⟩
    have hM : most rows rows.length = S.getD 0 0 := by
      rw [← hm]
      have h0 : 0 ≤ S.getD 0 0 := by
        rw [hrow 0 (by omega)]
        have hr := hT.2 0 (by omega)
        exact (psum_le hr.2 rows.length (by rw [hr.1]; exact Nat.le_refl _)).1
      apply Int.le_antisymm
      · exact mx_le h0 _ fun j hj => by rw [hS j (by omega)]; exact Int.le_refl _
      · exact le_mx S (by omega)
    rw [hM]
    exact ⟨by rw [← hrow i hi]; exact hS i (by omega), by rw [← hcol i hi]; exact hS _ (by omega)⟩

theorem implEven_at (σ : AHeap) (h o : Nat) (rows : List (List Int)) (hv : RowsAt σ h o rows) (hl : rows.length ≤ 1048576) :
    ACall Try.prog w0 24 [.slice (some ⟨h, o, none⟩) rows.length 1] σ fun r σ' => r = .bool (decide (EvenT rows)) ∧ Sub σ σ' := by
  refine acall_go mixed Try.func24 rfl good24 ?_
  simp -implicitDefEqProofs (disch := omega) only [List.any_cons, List.any_nil, Nat.reduceEqDiff, List.map_cons, List.map_nil, Option.map_some, Option.map_none, List.nil_append, ↓reduceIte, vcu0, vcu1, vcu2, vcu3, vcu4, vcu5, vcu6, vcu7, vcu8, vcu9, vcu10, vcu11, vcu12, vcu13, vcu14, vcu15, vcu16, ↓vcd0, ↓vcd1, ↓vcd2, ↓vcd3]
  refine (implTV_at σ h o rows hv hl).mono ?_
  rintro r _ ⟨rfl, rfl⟩
  rename_i σ
  by_cases hT : TV rows
  · rw [decide_eq_true hT]
    simp -implicitDefEqProofs (disch := omega) only [List.any_cons, List.any_nil, Nat.reduceEqDiff, List.map_cons, List.map_nil, Option.map_some, Option.map_none, List.nil_append, ↓reduceIte, vcu0, vcu1, vcu2, vcu3, vcu4, vcu5, vcu6, vcu7, vcu8, vcu9, vcu10, vcu11, vcu12, vcu13, vcu14, vcu15, vcu16, ↓vcd0, ↓vcd1, ↓vcd2, ↓vcd3, opK_some]
    refine (lineSums_at σ h o rows hv hT).mono ?_
    rintro r τ ⟨g, S, hg, rfl, hs, he, hS⟩
    have hl2 := hS.len
    have h6 := hT.1
    have hev := even_sums hT hS
    rw [← hl2]
    simp -implicitDefEqProofs (disch := omega) only [List.any_cons, List.any_nil, Nat.reduceEqDiff, List.map_cons, List.map_nil, Option.map_some, Option.map_none, List.nil_append, ↓reduceIte, vcu0, vcu1, vcu2, vcu3, vcu4, vcu5, vcu6, vcu7, vcu8, vcu9, vcu10, vcu11, vcu12, vcu13, vcu14, vcu15, vcu16, ↓vcd0, ↓vcd1, ↓vcd2, ↓vcd3, opK_some]
    refine vc_loop_c mixed (by kernel_rfl) [3, 11, 12] (fun m a σ' => ∃ k : Nat, m + k = S.length ∧ a 13 = .int .i64 k ∧ σ' = τ ∧ ∀ i, i < k → S.getD i 0 = S.getD 0 0) S.length ⟨0, by simp, rfl, rfl, by simp⟩ ?_
    rintro m a σ' hc ⟨k, hk, h13, rfl, hall⟩
    simp -implicitDefEqProofs (disch := omega) only [List.any_cons, List.any_nil, Nat.reduceEqDiff, List.map_cons, List.map_nil, Option.map_some, Option.map_none, List.nil_append, ↓reduceIte, vcu0, vcu1, vcu2, vcu3, vcu4, vcu5, vcu6, vcu7, vcu8, vcu9, vcu10, vcu11, vcu12, vcu13, vcu14, vcu15, vcu16, ↓vcd0, ↓vcd1, ↓vcd2, ↓vcd3] at hc
    obtain ⟨h3, h11, h12, -⟩ := hc
    by_cases hlt : k < S.length
    · have hx := own_at he hlt
      have hx0 : ld σ' g (0 + Int.toNat 0) = some (.int .i64 (S.getD 0 0)) := own_at he (show 0 < S.length by omega)
      by_cases hq : S.getD k 0 = S.getD 0 0
      · simp -implicitDefEqProofs (disch := omega) only [List.any_cons, List.any_nil, Nat.reduceEqDiff, List.map_cons, List.map_nil, Option.map_some, Option.map_none, List.nil_append, ↓reduceIte, vcu0, vcu1, vcu2, vcu3, vcu4, vcu5, vcu6, vcu7, vcu8, vcu9, vcu10, vcu11, vcu12, vcu13, vcu14, vcu15, vcu16, ↓vcd0, ↓vcd1, ↓vcd2, ↓vcd3, h3, h11, h12, h13, hx, hx0, hq, ne_eq, not_true_eq_false, decide_false]
        refine ⟨⟨trivial, trivial, trivial, trivial⟩, m - 1, by omega, k + 1, by omega, by simp, trivial, fun i hi => ?_⟩
        by_cases e : i = k
        · subst e; exact hq
        · exact hall i (by omega)
      · simp -implicitDefEqProofs (disch := omega) only [List.any_cons, List.any_nil, Nat.reduceEqDiff, List.map_cons, List.map_nil, Option.map_some, Option.map_none, List.nil_append, ↓reduceIte, vcu0, vcu1, vcu2, vcu3, vcu4, vcu5, vcu6, vcu7, vcu8, vcu9, vcu10, vcu11, vcu12, vcu13, vcu14, vcu15, vcu16, ↓vcd0, ↓vcd1, ↓vcd2, ↓vcd3, h3, h11, h12, h13, hx, hx0, hq, ne_eq, not_false_eq_true, decide_true]
        refine fin_one Try.results24 ⟨?_, hs⟩
        simp -implicitDefEqProofs (disch := omega) only [List.any_cons, List.any_nil, Nat.reduceEqDiff, List.map_cons, List.map_nil, Option.map_some, Option.map_none, List.nil_append, ↓reduceIte, vcu0, vcu1, vcu2, vcu3, vcu4, vcu5, vcu6, vcu7, vcu8, vcu9, vcu10, vcu11, vcu12, vcu13, vcu14, vcu15, vcu16, ↓vcd0, ↓vcd1, ↓vcd2, ↓vcd3]
        rw [decide_eq_false (fun hE => hq (hev.1 hE k hlt))]
    · simp -implicitDefEqProofs (disch := omega) only [List.any_cons, List.any_nil, Nat.reduceEqDiff, List.map_cons, List.map_nil, Option.map_some, Option.map_none, List.nil_append, ↓reduceIte, vcu0, vcu1, vcu2, vcu3, vcu4, vcu5, vcu6, vcu7, vcu8, vcu9, vcu10, vcu11, vcu12, vcu13, vcu14, vcu15, vcu16, ↓vcd0, ↓vcd1, ↓vcd2, ↓vcd3, h3, h11, h12, h13]
      refine fin_one Try.results24 ⟨?_, hs⟩
      simp -implicitDefEqProofs (disch := omega) only [List.any_cons, List.any_nil, Nat.reduceEqDiff, List.map_cons, List.map_nil, Option.map_some, Option.map_none, List.nil_append, ↓reduceIte, vcu0, vcu1, vcu2, vcu3, vcu4, vcu5, vcu6, vcu7, vcu8, vcu9, vcu10, vcu11, vcu12, vcu13, vcu14, vcu15, vcu16, ↓vcd0, ↓vcd1, ↓vcd2, ↓vcd3]
      rw [decide_eq_true (hev.2 fun i hi => hall i (by omega))]
  · rw [decide_eq_false hT, decide_eq_false (fun hE : EvenT rows => hT hE.1)]
    simp -implicitDefEqProofs (disch := omega) only [List.any_cons, List.any_nil, Nat.reduceEqDiff, List.map_cons, List.map_nil, Option.map_some, Option.map_none, List.nil_append, ↓reduceIte, vcu0, vcu1, vcu2, vcu3, vcu4, vcu5, vcu6, vcu7, vcu8, vcu9, vcu10, vcu11, vcu12, vcu13, vcu14, vcu15, vcu16, ↓vcd0, ↓vcd1, ↓vcd2, ↓vcd3, opK_some]
    refine fin_one Try.results24 ⟨?_, Sub.refl _⟩
    simp -implicitDefEqProofs (disch := omega) only [List.any_cons, List.any_nil, Nat.reduceEqDiff, List.map_cons, List.map_nil, Option.map_some, Option.map_none, List.nil_append, ↓reduceIte, vcu0, vcu1, vcu2, vcu3, vcu4, vcu5, vcu6, vcu7, vcu8, vcu9, vcu10, vcu11, vcu12, vcu13, vcu14, vcu15, vcu16, ↓vcd0, ↓vcd1, ↓vcd2, ↓vcd3]
end Go.Proofs.Ytbfldpcikcdlpaa
