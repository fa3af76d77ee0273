/- LineMost of the program. -/
import Derived.Test.YtbfldpcikcdlpaaTd
set_option linter.unusedSimpArgs false
set_option linter.unusedVariables false
namespace Go.Proofs.Ytbfldpcikcdlpaa
open Go Go.Abs Go.RowKit
variable {w0 : World}

theorem getD_set (S : List Int) {i : Nat} (hi : i < S.length) (v : Int) (a : Nat) : (S.set i v).getD a 0 = if a = i then v else S.getD a 0 := by
  simp only [List.getD, List.getElem?_set]
  by_cases e : i = a
  · subst e; simp [hi]
  · rw [if_neg e, if_neg (fun h => e h.symm)]
/-- the sums while the line i is added, up to j -/
structure SumsAt (rows : List (List Int)) (i j : Nat) (S : List Int) : Prop where
  len : S.length = 2 * rows.length
  row : ∀ a, a < rows.length → S.getD a 0 = if a < i then psum (rows.getD a []) rows.length else if a = i then psum (rows.getD a []) j else 0
  col : ∀ b, b < rows.length → S.getD (rows.length + b) 0 = csum rows b (if b < j then i + 1 else i)
theorem SumsAt.next {rows : List (List Int)} {i : Nat} {S : List Int} (h : SumsAt rows i rows.length S) : SumsAt rows (i + 1) 0 S :=
  ⟨h.len, fun a ha => by
    rw [h.row a ha]
    by_cases h1 : a < i
    · rw [if_pos h1, if_pos (by omega)]
    · by_cases h2 : a = i
      · subst h2; rw [if_neg (by omega), if_pos rfl, if_pos (by omega)]
      · rw [if_neg h1, if_neg h2, if_neg (by omega)]; split <;> rfl, fun b hb => by
    rw [h.col b hb, if_pos hb, if_neg (by omega)]⟩
theorem SumsAt.step {rows : List (List Int)} {i j : Nat} {S : List Int} (h : SumsAt rows i j S) (hi : i < rows.length) (hj : j < rows.length) (x : Int) (hx : (rows.getD i []).getD j 0 = x) :
    SumsAt rows i (j + 1) ((S.set i (S.getD i 0 + x)).set (rows.length + j) ((S.set i (S.getD i 0 + x)).getD (rows.length + j) 0 + x)) := by
  have hl := h.len
  refine ⟨by simp [hl], fun a ha => ?_, fun b hb => ?_⟩
  · rw [getD_set _ (by simp; omega), if_neg (by omega), getD_set _ (by omega)]
    by_cases e : a = i
    · subst e
      rw [if_pos rfl, if_neg (by omega), if_pos rfl, h.row a ha, if_neg (by omega), if_pos rfl, ← hx]; rfl
    · rw [if_neg e, h.row a ha, if_neg e, if_neg e]
  · rw [getD_set _ (by simp; omega)]
    by_cases e : b = j
    · subst e
      rw [if_pos rfl, getD_set _ (by omega), if_neg (by omega), h.col b hb, if_neg (by omega), if_pos (by omega), ← hx]; rfl
    · rw [if_neg (by omega), getD_set _ (by omega), if_neg (by omega), h.col b hb]
      by_cases h1 : b < j
      · rw [if_pos h1, if_pos (by omega)]
      · rw [if_neg h1, if_neg (by omega)]
theorem SumsAt.start (rows : List (List Int)) : SumsAt rows 0 0 (List.replicate (2 * rows.length) 0) :=
  ⟨by simp, fun a ha => by
    have : (List.replicate (2 * rows.length) (0 : Int)).getD a 0 = 0 := by simp [List.getD, List.getElem?_replicate]; split <;> rfl
    rw [this]; by_cases h : a = 0
    · subst h; simp [psum]
    · simp [h], fun b hb => by
    have : (List.replicate (2 * rows.length) (0 : Int)).getD (rows.length + b) 0 = 0 := by simp [List.getD, List.getElem?_replicate]; split <;> rfl
    rw [this]; simp [csum]⟩
theorem SumsAt.le {rows : List (List Int)} {i j : Nat} {S : List Int} (hT : TV rows) (h : SumsAt rows i j S) (hi : i < rows.length) (hj : j ≤ rows.length) : ∀ a, a < S.length → 0 ≤ S.getD a 0 ∧ S.getD a 0 ≤ 36 := by
  intro a ha
  have h6 := hT.1
  rw [h.len] at ha
  by_cases h1 : a < rows.length
  · rw [h.row a h1]
    have hr := hT.2 a h1
    have p1 := psum_le hr.2 rows.length (by rw [hr.1]; exact Nat.le_refl _)
    have p2 := psum_le hr.2 j (by rw [hr.1]; exact hj)
    split
    · omega
    · split <;> omega
  · obtain ⟨b, rfl⟩ : ∃ b, a = rows.length + b := ⟨a - rows.length, by omega⟩
    rw [h.col b (by omega)]
    split
    · have := csum_le hT (c := b) (by omega) (i + 1) (by omega); omega
    · have := csum_le hT (c := b) (by omega) i (by omega); omega

theorem lineSums_at (σ : AHeap) (h o : Nat) (rows : List (List Int)) (hv : RowsAt σ h o rows) (hT : TV rows) :
    ACall Try.prog w0 49 [.slice (some ⟨h, o, none⟩) rows.length 1] σ fun r σ' => ∃ (g : Nat) (S : List Int), σ g = none ∧ r = .slice (some ⟨g, 0, none⟩) (2 * rows.length) 1 ∧ Sub σ σ' ∧ σ' g = some ⟨ints .i64 S, false⟩ ∧ SumsAt rows rows.length 0 S := by
  have h6 := hT.1
  refine acall_go mixed Try.func49 rfl good49 ?_
  have e2 : (2 * (rows.length : Int)) = ((2 * rows.length : Nat) : Int) := by omega
  simp -implicitDefEqProofs (disch := omega) only [List.any_cons, List.any_nil, Nat.reduceEqDiff, List.map_cons, List.map_nil, Option.map_some, Option.map_none, List.nil_append, ↓reduceIte, vcu0, vcu1, vcu2, vcu3, vcu4, vcu5, vcu6, vcu7, vcu8, vcu9, vcu10, vcu11, vcu12, vcu13, vcu14, vcu15, vcu16, ↓vcd0, ↓vcd1, ↓vcd2, ↓vcd3, e2]
  refine r_makeI (kx := .i64) (ky := .i64) (l := 2 * rows.length) (c := 2 * rows.length) el27 (by omega) (by simp -implicitDefEqProofs (disch := omega) only [List.any_cons, List.any_nil, Nat.reduceEqDiff, List.map_cons, List.map_nil, Option.map_some, Option.map_none, List.nil_append, ↓reduceIte, vcu0, vcu1, vcu2, vcu3, vcu4, vcu5, vcu6, vcu7, vcu8, vcu9, vcu10, vcu11, vcu12, vcu13, vcu14, vcu15, vcu16, ↓vcd0, ↓vcd1, ↓vcd2, ↓vcd3]) (by simp -implicitDefEqProofs (disch := omega) only [List.any_cons, List.any_nil, Nat.reduceEqDiff, List.map_cons, List.map_nil, Option.map_some, Option.map_none, List.nil_append, ↓reduceIte, vcu0, vcu1, vcu2, vcu3, vcu4, vcu5, vcu6, vcu7, vcu8, vcu9, vcu10, vcu11, vcu12, vcu13, vcu14, vcu15, vcu16, ↓vcd0, ↓vcd1, ↓vcd2, ↓vcd3]) (by omega) fun g τ hg hs he => ?_
  simp -implicitDefEqProofs (disch := omega) only [List.any_cons, List.any_nil, Nat.reduceEqDiff, List.map_cons, List.map_nil, Option.map_some, Option.map_none, List.nil_append, ↓reduceIte, vcu0, vcu1, vcu2, vcu3, vcu4, vcu5, vcu6, vcu7, vcu8, vcu9, vcu10, vcu11, vcu12, vcu13, vcu14, vcu15, vcu16, ↓vcd0, ↓vcd1, ↓vcd2, ↓vcd3]
  refine vc_loop_c mixed (by kernel_rfl) [0, 3, 12, 13] (fun m a σ' => ∃ (i : Nat) (S : List Int), m + i = rows.length ∧ a 14 = .int .i64 i ∧ Sub σ σ' ∧ σ' g = some ⟨ints .i64 S, false⟩ ∧ SumsAt rows i 0 S) rows.length ⟨0, _, by simp, rfl, hs, he, SumsAt.start rows⟩ ?_
  rintro m a σ' hc ⟨i, S, hi, h14, hsub, hgS, hS⟩
  simp -implicitDefEqProofs (disch := omega) only [List.any_cons, List.any_nil, Nat.reduceEqDiff, List.map_cons, List.map_nil, Option.map_some, Option.map_none, List.nil_append, ↓reduceIte, vcu0, vcu1, vcu2, vcu3, vcu4, vcu5, vcu6, vcu7, vcu8, vcu9, vcu10, vcu11, vcu12, vcu13, vcu14, vcu15, vcu16, ↓vcd0, ↓vcd1, ↓vcd2, ↓vcd3] at hc
  obtain ⟨h0, h3, h12, h13, -⟩ := hc
  by_cases hlt : i < rows.length
  · obtain ⟨v, hx, hrow⟩ := (hv.sub hsub) i hlt
    have hr := hT.2 i hlt
    have hrl := hr.1
    generalize hrw : rows.getD i [] = row at hrow hr hrl
    rcases hrow with ⟨rfl, rfl⟩ | ⟨q, p, rfl, hq⟩
    · simp at hrl; omega
    have hqg : q ≠ g := by
      rintro rfl
      have h00 := hq 0 (by omega)
      obtain ⟨v', hv', hr'⟩ := hv i hlt
      rw [hrw] at hr'
      unfold ld at hx hv'
      cases hσ : σ h with
      | none => rw [hσ] at hv'; cases hv'
      | some ob =>
        rw [hσ] at hv'
        rw [hsub _ _ hσ] at hx
        simp only [Option.bind_some] at hx hv'
        rw [hx] at hv'
        cases hv'
        rcases hr' with ⟨e, -⟩ | ⟨q', p', e, hq'⟩
        · cases e
        · cases e
          have := hq' 0 (by omega)
          unfold ld at this; rw [hg] at this; cases this
    simp -implicitDefEqProofs (disch := omega) only [List.any_cons, List.any_nil, Nat.reduceEqDiff, List.map_cons, List.map_nil, Option.map_some, Option.map_none, List.nil_append, ↓reduceIte, vcu0, vcu1, vcu2, vcu3, vcu4, vcu5, vcu6, vcu7, vcu8, vcu9, vcu10, vcu11, vcu12, vcu13, vcu14, vcu15, vcu16, ↓vcd0, ↓vcd1, ↓vcd2, ↓vcd3, h0, h3, h12, h13, h14, hx]
    refine vc_loop_c mixed (by kernel_rfl) [0, 3, 4, 12, 13, 14, 19, 20] (fun m2 a2 σ2 => ∃ (j : Nat) (S2 : List Int), m2 + j = rows.length ∧ a2 21 = .int .i64 j ∧ Sub σ σ2 ∧ Kept g σ' σ2 ∧ σ2 g = some ⟨ints .i64 S2, false⟩ ∧ SumsAt rows i j S2) rows.length ⟨0, S, by simp, rfl, hsub, Kept.refl _ _, hgS, hS⟩ ?_
    rintro m2 a2 σ2 hc2 ⟨j, S2, hj, h21, hsub2, hk2, hgS2, hS2⟩
    simp -implicitDefEqProofs (disch := omega) only [List.any_cons, List.any_nil, Nat.reduceEqDiff, List.map_cons, List.map_nil, Option.map_some, Option.map_none, List.nil_append, ↓reduceIte, vcu0, vcu1, vcu2, vcu3, vcu4, vcu5, vcu6, vcu7, vcu8, vcu9, vcu10, vcu11, vcu12, vcu13, vcu14, vcu15, vcu16, ↓vcd0, ↓vcd1, ↓vcd2, ↓vcd3, h0, h3, h12, h13, h14] at hc2
    obtain ⟨c0, c3, c4, c12, c13, c14, c19, c20, -⟩ := hc2
    have hqall : IntsAt .i64 σ2 q p row := fun i' hi' => by
      have := hq i' hi'
      unfold ld at this ⊢
      cases e : σ' q with
      | none => rw [e] at this; cases this
      | some ob => rw [e] at this; rw [hk2.at e hqg]; exact this
    by_cases hjl : j < rows.length
    · have hy := hqall j (by omega)
      have hb := hr.2 j (by omega)
      have hle := hS2.le hT hlt (by omega)
      have hl2 := hS2.len
      have b1 := hle i (by omega)
      have hst := hS2.step hlt hjl (row.getD j 0) (by rw [hrw])
      have x1 := own_at hgS2 (i := i) (by omega)
      have enj : (rows.length : Int) + (j : Int) = ((rows.length + j : Nat) : Int) := by omega
      generalize row.getD j 0 = x at hy hb hst
      simp -implicitDefEqProofs (disch := omega) only [List.any_cons, List.any_nil, Nat.reduceEqDiff, List.map_cons, List.map_nil, Option.map_some, Option.map_none, List.nil_append, ↓reduceIte, vcu0, vcu1, vcu2, vcu3, vcu4, vcu5, vcu6, vcu7, vcu8, vcu9, vcu10, vcu11, vcu12, vcu13, vcu14, vcu15, vcu16, ↓vcd0, ↓vcd1, ↓vcd2, ↓vcd3, c0, c3, c4, c12, c13, c14, c19, c20, h21, hy, x1, hrl]
      refine r_setI (g := g) (i := 0 + i) (v := S2.getD i 0 + x) (by simp -implicitDefEqProofs (disch := omega) only [List.any_cons, List.any_nil, Nat.reduceEqDiff, List.map_cons, List.map_nil, Option.map_some, Option.map_none, List.nil_append, ↓reduceIte, vcu0, vcu1, vcu2, vcu3, vcu4, vcu5, vcu6, vcu7, vcu8, vcu9, vcu10, vcu11, vcu12, vcu13, vcu14, vcu15, vcu16, ↓vcd0, ↓vcd1, ↓vcd2, ↓vcd3, c3, c4]) (by simp -implicitDefEqProofs (disch := omega) only [List.any_cons, List.any_nil, Nat.reduceEqDiff, List.map_cons, List.map_nil, Option.map_some, Option.map_none, List.nil_append, ↓reduceIte, vcu0, vcu1, vcu2, vcu3, vcu4, vcu5, vcu6, vcu7, vcu8, vcu9, vcu10, vcu11, vcu12, vcu13, vcu14, vcu15, vcu16, ↓vcd0, ↓vcd1, ↓vcd2, ↓vcd3]) co3 hgS2 (by omega) fun τ3 k3 e3 => ?_
      rw [Nat.zero_add] at e3
      have hl3 : (S2.set i (S2.getD i 0 + x)).length = 2 * rows.length := by simp [hl2]
      have x2 := own_at e3 (i := rows.length + j) (by omega)
      have b2 : 0 ≤ (S2.set i (S2.getD i 0 + x)).getD (rows.length + j) 0 ∧ (S2.set i (S2.getD i 0 + x)).getD (rows.length + j) 0 ≤ 42 := by
        rw [getD_set _ (by omega)]
        have := hle (rows.length + j) (by omega)
        split <;> omega
      simp -implicitDefEqProofs (disch := omega) only [List.any_cons, List.any_nil, Nat.reduceEqDiff, List.map_cons, List.map_nil, Option.map_some, Option.map_none, List.nil_append, ↓reduceIte, vcu0, vcu1, vcu2, vcu3, vcu4, vcu5, vcu6, vcu7, vcu8, vcu9, vcu10, vcu11, vcu12, vcu13, vcu14, vcu15, vcu16, ↓vcd0, ↓vcd1, ↓vcd2, ↓vcd3, c0, c3, h21, x2, enj]
      refine r_setI (g := g) (i := 0 + (rows.length + j)) (v := (S2.set i (S2.getD i 0 + x)).getD (rows.length + j) 0 + x) (by simp -implicitDefEqProofs (disch := omega) only [List.any_cons, List.any_nil, Nat.reduceEqDiff, List.map_cons, List.map_nil, Option.map_some, Option.map_none, List.nil_append, ↓reduceIte, vcu0, vcu1, vcu2, vcu3, vcu4, vcu5, vcu6, vcu7, vcu8, vcu9, vcu10, vcu11, vcu12, vcu13, vcu14, vcu15, vcu16, ↓vcd0, ↓vcd1, ↓vcd2, ↓vcd3, c3]) (by simp -implicitDefEqProofs (disch := omega) only [List.any_cons, List.any_nil, Nat.reduceEqDiff, List.map_cons, List.map_nil, Option.map_some, Option.map_none, List.nil_append, ↓reduceIte, vcu0, vcu1, vcu2, vcu3, vcu4, vcu5, vcu6, vcu7, vcu8, vcu9, vcu10, vcu11, vcu12, vcu13, vcu14, vcu15, vcu16, ↓vcd0, ↓vcd1, ↓vcd2, ↓vcd3]) co3 e3 (by omega) fun τ4 k4 e4 => ?_
      rw [Nat.zero_add] at e4
      simp -implicitDefEqProofs (disch := omega) only [List.any_cons, List.any_nil, Nat.reduceEqDiff, List.map_cons, List.map_nil, Option.map_some, Option.map_none, List.nil_append, ↓reduceIte, vcu0, vcu1, vcu2, vcu3, vcu4, vcu5, vcu6, vcu7, vcu8, vcu9, vcu10, vcu11, vcu12, vcu13, vcu14, vcu15, vcu16, ↓vcd0, ↓vcd1, ↓vcd2, ↓vcd3, h21]
      refine ⟨?_, m2 - 1, by omega, j + 1, _, by omega, by simp, (k3.trans k4).sub hsub2 hg, hk2.trans (k3.trans k4), e4, hst⟩
      simp [c0, c3, c4, c12, c13, c14, c19, c20, h0, h3, h12, h13, h14, hrl]
    · have e : j = rows.length := by omega
      subst e
      simp -implicitDefEqProofs (disch := omega) only [List.any_cons, List.any_nil, Nat.reduceEqDiff, List.map_cons, List.map_nil, Option.map_some, Option.map_none, List.nil_append, ↓reduceIte, vcu0, vcu1, vcu2, vcu3, vcu4, vcu5, vcu6, vcu7, vcu8, vcu9, vcu10, vcu11, vcu12, vcu13, vcu14, vcu15, vcu16, ↓vcd0, ↓vcd1, ↓vcd2, ↓vcd3, c0, c3, c14, c20, h21, hrl]
      refine ⟨?_, m - 1, by omega, i + 1, S2, by omega, by simp, hsub2, hgS2, hS2.next⟩
      simp [c0, c3, c12, c13, h0, h3, h12, h13]
  · have e : i = rows.length := by omega
    subst e
    simp -implicitDefEqProofs (disch := omega) only [List.any_cons, List.any_nil, Nat.reduceEqDiff, List.map_cons, List.map_nil, Option.map_some, Option.map_none, List.nil_append, ↓reduceIte, vcu0, vcu1, vcu2, vcu3, vcu4, vcu5, vcu6, vcu7, vcu8, vcu9, vcu10, vcu11, vcu12, vcu13, vcu14, vcu15, vcu16, ↓vcd0, ↓vcd1, ↓vcd2, ↓vcd3, h0, h3, h12, h13, h14]
    refine fin_one Try.results49 ⟨g, S, hg, ?_, hsub, hgS, hS⟩
    simp -implicitDefEqProofs (disch := omega) only [List.any_cons, List.any_nil, Nat.reduceEqDiff, List.map_cons, List.map_nil, Option.map_some, Option.map_none, List.nil_append, ↓reduceIte, vcu0, vcu1, vcu2, vcu3, vcu4, vcu5, vcu6, vcu7, vcu8, vcu9, vcu10, vcu11, vcu12, vcu13, vcu14, vcu15, vcu16, ↓vcd0, ↓vcd1, ↓vcd2, ↓vcd3, h3]

def mx (S : List Int) : Nat → Int
  | 0 => 0
  | k + 1 => max (mx S k) (S.getD k 0)
theorem mx_nn (S : List Int) : ∀ k, 0 ≤ mx S k
  | 0 => by simp [mx]
  | k + 1 => by have := mx_nn S k; simp only [mx]; omega
theorem le_mx (S : List Int) {i : Nat} : ∀ {k}, i < k → S.getD i 0 ≤ mx S k
  | 0, h => by omega
  | k + 1, h => by
    simp only [mx]
    by_cases e : i = k
    · subst e; omega
    · have := le_mx S (i := i) (k := k) (by omega); omega
theorem mx_le {S : List Int} {M : Int} (h0 : 0 ≤ M) : ∀ k, (∀ i, i < k → S.getD i 0 ≤ M) → mx S k ≤ M
  | 0, _ => by simpa [mx] using h0
  | k + 1, h => by
    have := mx_le h0 k (fun i hi => h i (by omega))
    have := h k (by omega)
    simp only [mx]; omega
theorem le_most {rows : List (List Int)} {i : Nat} : ∀ {k}, i < k → psum (rows.getD i []) rows.length ≤ most rows k ∧ csum rows i rows.length ≤ most rows k
  | 0, h => by omega
  | k + 1, h => by
    simp only [most]
    by_cases e : i = k
    · subst e; omega
    · have := le_most (rows := rows) (i := i) (k := k) (by omega); omega
theorem most_le' {rows : List (List Int)} {M : Int} (h0 : 0 ≤ M) : ∀ k, (∀ i, i < k → psum (rows.getD i []) rows.length ≤ M ∧ csum rows i rows.length ≤ M) → most rows k ≤ M
  | 0, _ => by simpa [most] using h0
  | k + 1, h => by
    have := most_le' h0 k (fun i hi => h i (by omega))
    have := h k (by omega)
    simp only [most]; omega
theorem mx_most {rows : List (List Int)} {S : List Int} (hT : TV rows) (h : SumsAt rows rows.length 0 S) : mx S (2 * rows.length) = most rows rows.length := by
  have hrow : ∀ a, a < rows.length → S.getD a 0 = psum (rows.getD a []) rows.length := fun a ha => by rw [h.row a ha, if_pos ha]
  have hcol : ∀ b, b < rows.length → S.getD (rows.length + b) 0 = csum rows b rows.length := fun b hb => by rw [h.col b hb, if_neg (by omega)]
  apply Int.le_antisymm
  · refine mx_le (most_le hT _ (Nat.le_refl _)).1 _ fun a ha => ?_
    by_cases h1 : a < rows.length
    · rw [hrow a h1]; exact (le_most h1).1
    · obtain ⟨b, rfl⟩ : ∃ b, a = rows.length + b := ⟨a - rows.length, by omega⟩
      rw [hcol b (by omega)]; exact (le_most (by omega)).2
  · refine most_le' (mx_nn _ _) _ fun i hi => ⟨?_, ?_⟩
    · rw [← hrow i hi]; exact le_mx S (by omega)
    · rw [← hcol i hi]; exact le_mx S (by omega)
theorem mx_36 {rows : List (List Int)} {S : List Int} (hT : TV rows) (h : SumsAt rows rows.length 0 S) (k : Nat) (hk : k ≤ 2 * rows.length) : 0 ≤ mx S k ∧ mx S k ≤ 36 := by
  refine ⟨mx_nn _ _, ?_⟩
  have hm := mx_most hT h
  have := (most_le hT rows.length (Nat.le_refl _)).2
  refine mx_le (by omega) _ fun i hi => ?_
  have := le_mx S (i := i) (k := 2 * rows.length) (by omega)
  omega

theorem implMost_at (σ : AHeap) (h o : Nat) (rows : List (List Int)) (hv : RowsAt σ h o rows) (hl : rows.length ≤ 1048576) :
    ACall Try.prog w0 20 [.slice (some ⟨h, o, none⟩) rows.length 1] σ fun r σ' => r = .int .i64 (mostV rows) ∧ Sub σ σ' := by
  unfold mostV
  refine acall_go mixed Try.func20 rfl good20 ?_
  simp -implicitDefEqProofs (disch := omega) only [List.any_cons, List.any_nil, Nat.reduceEqDiff, List.map_cons, List.map_nil, Option.map_some, Option.map_none, List.nil_append, ↓reduceIte, vcu0, vcu1, vcu2, vcu3, vcu4, vcu5, vcu6, vcu7, vcu8, vcu9, vcu10, vcu11, vcu12, vcu13, vcu14, vcu15, vcu16, ↓vcd0, ↓vcd1, ↓vcd2, ↓vcd3]
  refine (implTV_at σ h o rows hv hl).mono ?_
  rintro r _ ⟨rfl, rfl⟩
  rename_i σ
  by_cases hT : TV rows
  · rw [decide_eq_true hT, if_pos hT]
    have h6 := hT.1
    simp -implicitDefEqProofs (disch := omega) only [List.any_cons, List.any_nil, Nat.reduceEqDiff, List.map_cons, List.map_nil, Option.map_some, Option.map_none, List.nil_append, ↓reduceIte, vcu0, vcu1, vcu2, vcu3, vcu4, vcu5, vcu6, vcu7, vcu8, vcu9, vcu10, vcu11, vcu12, vcu13, vcu14, vcu15, vcu16, ↓vcd0, ↓vcd1, ↓vcd2, ↓vcd3, opK_some]
    refine (lineSums_at σ h o rows hv hT).mono ?_
    rintro r τ ⟨g, S, hg, rfl, hs, he, hS⟩
    have hl2 := hS.len
    rw [← hl2]
    simp -implicitDefEqProofs (disch := omega) only [List.any_cons, List.any_nil, Nat.reduceEqDiff, List.map_cons, List.map_nil, Option.map_some, Option.map_none, List.nil_append, ↓reduceIte, vcu0, vcu1, vcu2, vcu3, vcu4, vcu5, vcu6, vcu7, vcu8, vcu9, vcu10, vcu11, vcu12, vcu13, vcu14, vcu15, vcu16, ↓vcd0, ↓vcd1, ↓vcd2, ↓vcd3, opK_some]
    refine vc_loop_c mixed (by kernel_rfl) [10, 11] (fun m a σ' => ∃ k : Nat, m + k = S.length ∧ a 12 = .int .i64 k ∧ a 3 = .int .i64 (mx S k) ∧ σ' = τ) S.length ⟨0, by simp, rfl, rfl, rfl⟩ ?_
    rintro m a σ' hc ⟨k, hk, h12, h3, rfl⟩
    simp -implicitDefEqProofs (disch := omega) only [List.any_cons, List.any_nil, Nat.reduceEqDiff, List.map_cons, List.map_nil, Option.map_some, Option.map_none, List.nil_append, ↓reduceIte, vcu0, vcu1, vcu2, vcu3, vcu4, vcu5, vcu6, vcu7, vcu8, vcu9, vcu10, vcu11, vcu12, vcu13, vcu14, vcu15, vcu16, ↓vcd0, ↓vcd1, ↓vcd2, ↓vcd3] at hc
    obtain ⟨h10, h11, -⟩ := hc
    by_cases hlt : k < S.length
    · have hx := own_at he hlt
      have hs2 : mx S (k + 1) = max (mx S k) (S.getD k 0) := rfl
      simp -implicitDefEqProofs (disch := omega) only [List.any_cons, List.any_nil, Nat.reduceEqDiff, List.map_cons, List.map_nil, Option.map_some, Option.map_none, List.nil_append, ↓reduceIte, vcu0, vcu1, vcu2, vcu3, vcu4, vcu5, vcu6, vcu7, vcu8, vcu9, vcu10, vcu11, vcu12, vcu13, vcu14, vcu15, vcu16, ↓vcd0, ↓vcd1, ↓vcd2, ↓vcd3, h10, h11, h12, h3, hx]
      exact ⟨⟨trivial, trivial, trivial⟩, m - 1, by omega, k + 1, by omega, by simp, by rw [hs2], trivial⟩
    · have e : k = S.length := by omega
      simp -implicitDefEqProofs (disch := omega) only [List.any_cons, List.any_nil, Nat.reduceEqDiff, List.map_cons, List.map_nil, Option.map_some, Option.map_none, List.nil_append, ↓reduceIte, vcu0, vcu1, vcu2, vcu3, vcu4, vcu5, vcu6, vcu7, vcu8, vcu9, vcu10, vcu11, vcu12, vcu13, vcu14, vcu15, vcu16, ↓vcd0, ↓vcd1, ↓vcd2, ↓vcd3, h10, h11, h12, h3]
      refine fin_one Try.results20 ⟨?_, hs⟩
      simp -implicitDefEqProofs (disch := omega) only [List.any_cons, List.any_nil, Nat.reduceEqDiff, List.map_cons, List.map_nil, Option.map_some, Option.map_none, List.nil_append, ↓reduceIte, vcu0, vcu1, vcu2, vcu3, vcu4, vcu5, vcu6, vcu7, vcu8, vcu9, vcu10, vcu11, vcu12, vcu13, vcu14, vcu15, vcu16, ↓vcd0, ↓vcd1, ↓vcd2, ↓vcd3, h3]
      rw [e, hl2, mx_most hT hS]
  · rw [decide_eq_false hT, if_neg hT]
    simp -implicitDefEqProofs (disch := omega) only [List.any_cons, List.any_nil, Nat.reduceEqDiff, List.map_cons, List.map_nil, Option.map_some, Option.map_none, List.nil_append, ↓reduceIte, vcu0, vcu1, vcu2, vcu3, vcu4, vcu5, vcu6, vcu7, vcu8, vcu9, vcu10, vcu11, vcu12, vcu13, vcu14, vcu15, vcu16, ↓vcd0, ↓vcd1, ↓vcd2, ↓vcd3, opK_some]
    refine fin_one Try.results20 ⟨?_, Sub.refl _⟩
    simp -implicitDefEqProofs (disch := omega) only [List.any_cons, List.any_nil, Nat.reduceEqDiff, List.map_cons, List.map_nil, Option.map_some, Option.map_none, List.nil_append, ↓reduceIte, vcu0, vcu1, vcu2, vcu3, vcu4, vcu5, vcu6, vcu7, vcu8, vcu9, vcu10, vcu11, vcu12, vcu13, vcu14, vcu15, vcu16, ↓vcd0, ↓vcd1, ↓vcd2, ↓vcd3]
end Go.Proofs.Ytbfldpcikcdlpaa
