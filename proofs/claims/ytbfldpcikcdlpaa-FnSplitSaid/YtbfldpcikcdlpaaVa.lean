/- Permutations that are valid, by the program and by the reference. -/
import Derived.Test.YtbfldpcikcdlpaaTa
set_option linter.unusedSimpArgs false
set_option linter.unusedVariables false
namespace Go.Proofs.Ytbfldpcikcdlpaa
open Go Go.Abs Go.RowKit
variable {w0 : World}


theorem has_at (σ : AHeap) (h o : Nat) (xs : List Int) (n : Int) (hv : IntsAt .i64 σ h o xs) (hl : xs.length ≤ 1048576) :
    ACall Try.prog w0 71 [.slice (some ⟨h, o, none⟩) xs.length 1, .int .i64 n] σ fun r σ' => r = .bool (decide (n ∈ xs)) ∧ σ' = σ := by
  refine acall_go mixed Try.func71 rfl good71 ?_
  simp -implicitDefEqProofs (disch := omega) only [List.any_cons, List.any_nil, Nat.reduceEqDiff, List.map_cons, List.map_nil, Option.map_some, Option.map_none, List.nil_append, ↓reduceIte, vcu0, vcu1, vcu2, vcu3, vcu4, vcu5, vcu6, vcu7, vcu8, vcu9, vcu10, vcu11, vcu12, vcu13, vcu14, vcu15, vcu16, ↓vcd0, ↓vcd1, ↓vcd2, ↓vcd3]
  refine vc_loop mixed (by kernel_rfl) (fun m a σ' => ∃ k : Nat, m + k = xs.length ∧ a 0 = .slice (some ⟨h, o, none⟩) xs.length 1 ∧ a 1 = .int .i64 n ∧ a 5 = .int .i64 k ∧ σ' = σ ∧ ∀ j, j < k → xs.getD j 0 ≠ n) xs.length ⟨0, by simp, rfl, rfl, rfl, rfl, by simp⟩ ?_
  rintro m a σ' ⟨k, hk, h0, h1, h5, rfl, hne⟩
  by_cases hlt : k < xs.length
  · have hx := hv k hlt
    simp -implicitDefEqProofs (disch := omega) only [List.any_cons, List.any_nil, Nat.reduceEqDiff, List.map_cons, List.map_nil, Option.map_some, Option.map_none, List.nil_append, ↓reduceIte, vcu0, vcu1, vcu2, vcu3, vcu4, vcu5, vcu6, vcu7, vcu8, vcu9, vcu10, vcu11, vcu12, vcu13, vcu14, vcu15, vcu16, ↓vcd0, ↓vcd1, ↓vcd2, ↓vcd3, h0, h1, h5, hx]
    rw [condR_dec]
    refine ⟨fun heq => ?_, fun hneq => ?_⟩
    · rw [vcH_eq]
      simp -implicitDefEqProofs (disch := omega) only [List.any_cons, List.any_nil, Nat.reduceEqDiff, List.map_cons, List.map_nil, Option.map_some, Option.map_none, List.nil_append, ↓reduceIte, vcu0, vcu1, vcu2, vcu3, vcu4, vcu5, vcu6, vcu7, vcu8, vcu9, vcu10, vcu11, vcu12, vcu13, vcu14, vcu15, vcu16, ↓vcd0, ↓vcd1, ↓vcd2, ↓vcd3]
      refine fin_one Try.results71 ⟨?_, rfl⟩
      simp -implicitDefEqProofs (disch := omega) only [List.any_cons, List.any_nil, Nat.reduceEqDiff, List.map_cons, List.map_nil, Option.map_some, Option.map_none, List.nil_append, ↓reduceIte, vcu0, vcu1, vcu2, vcu3, vcu4, vcu5, vcu6, vcu7, vcu8, vcu9, vcu10, vcu11, vcu12, vcu13, vcu14, vcu15, vcu16, ↓vcd0, ↓vcd1, ↓vcd2, ↓vcd3]
      have : n ∈ xs := by rw [← heq]; simp [List.getD, hlt]
      simp [this]
    · rw [vcH_eq]
      simp -implicitDefEqProofs (disch := omega) only [List.any_cons, List.any_nil, Nat.reduceEqDiff, List.map_cons, List.map_nil, Option.map_some, Option.map_none, List.nil_append, ↓reduceIte, vcu0, vcu1, vcu2, vcu3, vcu4, vcu5, vcu6, vcu7, vcu8, vcu9, vcu10, vcu11, vcu12, vcu13, vcu14, vcu15, vcu16, ↓vcd0, ↓vcd1, ↓vcd2, ↓vcd3, h0, h1, h5]
      refine ⟨m - 1, by omega, k + 1, by omega, trivial, trivial, by simp, trivial, fun j hj => ?_⟩
      by_cases e : j = k
      · subst e; exact hneq
      · exact hne j (by omega)
  · simp -implicitDefEqProofs (disch := omega) only [List.any_cons, List.any_nil, Nat.reduceEqDiff, List.map_cons, List.map_nil, Option.map_some, Option.map_none, List.nil_append, ↓reduceIte, vcu0, vcu1, vcu2, vcu3, vcu4, vcu5, vcu6, vcu7, vcu8, vcu9, vcu10, vcu11, vcu12, vcu13, vcu14, vcu15, vcu16, ↓vcd0, ↓vcd1, ↓vcd2, ↓vcd3, h0, h1, h5]
    refine fin_one Try.results71 ⟨?_, rfl⟩
    simp -implicitDefEqProofs (disch := omega) only [List.any_cons, List.any_nil, Nat.reduceEqDiff, List.map_cons, List.map_nil, Option.map_some, Option.map_none, List.nil_append, ↓reduceIte, vcu0, vcu1, vcu2, vcu3, vcu4, vcu5, vcu6, vcu7, vcu8, vcu9, vcu10, vcu11, vcu12, vcu13, vcu14, vcu15, vcu16, ↓vcd0, ↓vcd1, ↓vcd2, ↓vcd3]
    have : n ∉ xs := by
      intro hm
      obtain ⟨i, hi, rfl⟩ := List.getElem_of_mem hm
      exact hne i (by omega) (by simp [List.getD, hi])
    simp [this]



/-- each number from 0 on once -/
def Perm (xs : List Int) : Prop := (∀ x ∈ xs, 0 ≤ x ∧ x < xs.length) ∧ xs.Nodup
instance (xs : List Int) : Decidable (Perm xs) := by unfold Perm; infer_instance

theorem nodup_take {xs : List Int} : xs.Nodup ↔ ∀ j, j < xs.length → xs.getD j 0 ∉ xs.take j := by
  constructor
  · intro h j hj hm
    obtain ⟨i, hi, he⟩ := List.getElem_of_mem hm
    simp at hi
    have e1 : xs.getD j 0 = xs[j] := by simp [List.getD, hj]
    rw [e1, List.getElem_take] at he
    exact absurd ((List.getElem_inj h).1 he) (by omega)
  · intro h
    rw [List.nodup_iff_pairwise_ne, List.pairwise_iff_getElem]
    intro i j hi hj hij he
    refine h j hj ?_
    have e1 : xs.getD j 0 = xs[j] := by simp [List.getD, hj]
    rw [e1, ← he]
    rw [List.mem_take_iff_getElem]
    exact ⟨i, by omega, rfl⟩

theorem has_calls (σ : AHeap) (v : Value) (xs : List Int) (n : Int) (hv : Ints .i64 σ v xs) (hl : xs.length ≤ 1048576) :
    ACall Try.prog w0 71 [v, .int .i64 n] σ fun r σ' => r = .bool (decide (n ∈ xs)) ∧ σ' = σ :=
  ACall.ints_quiet (pre := []) (by kernel_rfl) hv fun σ1 g o _ hg => has_at σ1 g o xs n hg hl

theorem perm_at (σ : AHeap) (h o : Nat) (xs : List Int) (hv : IntsAt .i64 σ h o xs) (hl : xs.length ≤ 1048576) :
    ACall Try.prog w0 68 [.slice (some ⟨h, o, none⟩) xs.length 1] σ fun r σ' => r = .bool (decide (Perm xs)) ∧ σ' = σ := by
  refine acall_go mixed Try.func68 rfl good68 ?_
  simp -implicitDefEqProofs (disch := omega) only [List.any_cons, List.any_nil, Nat.reduceEqDiff, List.map_cons, List.map_nil, Option.map_some, Option.map_none, List.nil_append, ↓reduceIte, vcu0, vcu1, vcu2, vcu3, vcu4, vcu5, vcu6, vcu7, vcu8, vcu9, vcu10, vcu11, vcu12, vcu13, vcu14, vcu15, vcu16, ↓vcd0, ↓vcd1, ↓vcd2, ↓vcd3]
  refine vc_loop mixed (by kernel_rfl) (fun m a σ' => ∃ k : Nat, m + k = xs.length ∧ a 0 = .slice (some ⟨h, o, none⟩) xs.length 1 ∧ a 3 = .int .i64 k ∧ σ' = σ ∧ ∀ j, j < k → (0 ≤ xs.getD j 0 ∧ xs.getD j 0 < xs.length) ∧ xs.getD j 0 ∉ xs.take j) xs.length ⟨0, by simp, rfl, rfl, rfl, by simp⟩ ?_
  rintro m a σ' ⟨k, hk, h0, h3, rfl, hp⟩
  by_cases hlt : k < xs.length
  · have hx := hv k hlt
    have hxm : xs.getD k 0 ∈ xs := by simp [List.getD, hlt]
    simp -implicitDefEqProofs (disch := omega) only [List.any_cons, List.any_nil, Nat.reduceEqDiff, List.map_cons, List.map_nil, Option.map_some, Option.map_none, List.nil_append, ↓reduceIte, vcu0, vcu1, vcu2, vcu3, vcu4, vcu5, vcu6, vcu7, vcu8, vcu9, vcu10, vcu11, vcu12, vcu13, vcu14, vcu15, vcu16, ↓vcd0, ↓vcd1, ↓vcd2, ↓vcd3, h0, h3, hx]
    rw [r_callq]
    refine ⟨_, in_calls _ _ _ _, ?_⟩
    by_cases hin : 0 ≤ xs.getD k 0 ∧ xs.getD k 0 ≤ (xs.length : Int) - 1
    · rw [decide_eq_true hin]
      simp -implicitDefEqProofs (disch := omega) only [List.any_cons, List.any_nil, Nat.reduceEqDiff, List.map_cons, List.map_nil, Option.map_some, Option.map_none, List.nil_append, ↓reduceIte, vcu0, vcu1, vcu2, vcu3, vcu4, vcu5, vcu6, vcu7, vcu8, vcu9, vcu10, vcu11, vcu12, vcu13, vcu14, vcu15, vcu16, ↓vcd0, ↓vcd1, ↓vcd2, ↓vcd3, h0, h3, hx]
      rw [r_callq]
      have hsub := has_at (w0 := w0) σ' h o (xs.take k) (xs.getD k 0) (hv.take k) (by simp; omega)
      rw [List.length_take, Nat.min_eq_left (by omega)] at hsub
      refine ⟨_, hsub, ?_⟩
      by_cases hm : xs.getD k 0 ∈ xs.take k
      · rw [decide_eq_true hm]
        simp -implicitDefEqProofs (disch := omega) only [List.any_cons, List.any_nil, Nat.reduceEqDiff, List.map_cons, List.map_nil, Option.map_some, Option.map_none, List.nil_append, ↓reduceIte, vcu0, vcu1, vcu2, vcu3, vcu4, vcu5, vcu6, vcu7, vcu8, vcu9, vcu10, vcu11, vcu12, vcu13, vcu14, vcu15, vcu16, ↓vcd0, ↓vcd1, ↓vcd2, ↓vcd3]
        refine fin_one Try.results68 ⟨?_, rfl⟩
        simp -implicitDefEqProofs (disch := omega) only [List.any_cons, List.any_nil, Nat.reduceEqDiff, List.map_cons, List.map_nil, Option.map_some, Option.map_none, List.nil_append, ↓reduceIte, vcu0, vcu1, vcu2, vcu3, vcu4, vcu5, vcu6, vcu7, vcu8, vcu9, vcu10, vcu11, vcu12, vcu13, vcu14, vcu15, vcu16, ↓vcd0, ↓vcd1, ↓vcd2, ↓vcd3]
        have : ¬ Perm xs := fun hP => (nodup_take.1 hP.2) k hlt hm
        simp [this]
      · rw [decide_eq_false hm]
        simp -implicitDefEqProofs (disch := omega) only [List.any_cons, List.any_nil, Nat.reduceEqDiff, List.map_cons, List.map_nil, Option.map_some, Option.map_none, List.nil_append, ↓reduceIte, vcu0, vcu1, vcu2, vcu3, vcu4, vcu5, vcu6, vcu7, vcu8, vcu9, vcu10, vcu11, vcu12, vcu13, vcu14, vcu15, vcu16, ↓vcd0, ↓vcd1, ↓vcd2, ↓vcd3, h0, h3]
        refine ⟨m - 1, by omega, k + 1, by omega, trivial, by simp, trivial, fun j hj => ?_⟩
        by_cases e : j = k
        · subst e; exact ⟨by omega, hm⟩
        · exact hp j (by omega)
    · rw [decide_eq_false hin]
      simp -implicitDefEqProofs (disch := omega) only [List.any_cons, List.any_nil, Nat.reduceEqDiff, List.map_cons, List.map_nil, Option.map_some, Option.map_none, List.nil_append, ↓reduceIte, vcu0, vcu1, vcu2, vcu3, vcu4, vcu5, vcu6, vcu7, vcu8, vcu9, vcu10, vcu11, vcu12, vcu13, vcu14, vcu15, vcu16, ↓vcd0, ↓vcd1, ↓vcd2, ↓vcd3]
      refine fin_one Try.results68 ⟨?_, rfl⟩
      simp -implicitDefEqProofs (disch := omega) only [List.any_cons, List.any_nil, Nat.reduceEqDiff, List.map_cons, List.map_nil, Option.map_some, Option.map_none, List.nil_append, ↓reduceIte, vcu0, vcu1, vcu2, vcu3, vcu4, vcu5, vcu6, vcu7, vcu8, vcu9, vcu10, vcu11, vcu12, vcu13, vcu14, vcu15, vcu16, ↓vcd0, ↓vcd1, ↓vcd2, ↓vcd3]
      have : ¬ Perm xs := fun hP => hin (by have := hP.1 _ hxm; omega)
      simp [this]
  · simp -implicitDefEqProofs (disch := omega) only [List.any_cons, List.any_nil, Nat.reduceEqDiff, List.map_cons, List.map_nil, Option.map_some, Option.map_none, List.nil_append, ↓reduceIte, vcu0, vcu1, vcu2, vcu3, vcu4, vcu5, vcu6, vcu7, vcu8, vcu9, vcu10, vcu11, vcu12, vcu13, vcu14, vcu15, vcu16, ↓vcd0, ↓vcd1, ↓vcd2, ↓vcd3, h0, h3]
    refine fin_one Try.results68 ⟨?_, rfl⟩
    simp -implicitDefEqProofs (disch := omega) only [List.any_cons, List.any_nil, Nat.reduceEqDiff, List.map_cons, List.map_nil, Option.map_some, Option.map_none, List.nil_append, ↓reduceIte, vcu0, vcu1, vcu2, vcu3, vcu4, vcu5, vcu6, vcu7, vcu8, vcu9, vcu10, vcu11, vcu12, vcu13, vcu14, vcu15, vcu16, ↓vcd0, ↓vcd1, ↓vcd2, ↓vcd3]
    have : Perm xs := by
      refine ⟨fun x hx => ?_, nodup_take.2 fun j hj => (hp j (by omega)).2⟩
      obtain ⟨i, hi, rfl⟩ := List.getElem_of_mem hx
      have := (hp i (by omega)).1
      simpa [List.getD, hi] using this
    simp [this]

theorem perm_calls (σ : AHeap) (v : Value) (xs : List Int) (hv : Ints .i64 σ v xs) (hl : xs.length ≤ 1048576) :
    ACall Try.prog w0 68 [v] σ fun r σ' => r = .bool (decide (Perm xs)) ∧ σ' = σ :=
  ACall.ints_quiet (pre := []) (by kernel_rfl) hv fun σ1 g o _ hg => perm_at σ1 g o xs hg hl

def Valid (xs : List Int) : Prop := Perm xs ∧ xs.length ≤ 6
instance (xs : List Int) : Decidable (Valid xs) := by unfold Valid; infer_instance

theorem specValid_at (σ : AHeap) (h o : Nat) (xs : List Int) (hv : IntsAt .i64 σ h o xs) (hl : xs.length ≤ 1048576) :
    ACall Try.prog w0 62 [.slice (some ⟨h, o, none⟩) xs.length 1] σ fun r σ' => r = .bool (decide (Valid xs)) ∧ σ' = σ := by
  refine acall_go mixed Try.func62 rfl good62 ?_
  simp -implicitDefEqProofs (disch := omega) only [List.any_cons, List.any_nil, Nat.reduceEqDiff, List.map_cons, List.map_nil, Option.map_some, Option.map_none, List.nil_append, ↓reduceIte, vcu0, vcu1, vcu2, vcu3, vcu4, vcu5, vcu6, vcu7, vcu8, vcu9, vcu10, vcu11, vcu12, vcu13, vcu14, vcu15, vcu16, ↓vcd0, ↓vcd1, ↓vcd2, ↓vcd3]
  refine (perm_at σ h o xs hv hl).mono ?_
  rintro r σ' ⟨rfl, rfl⟩
  by_cases hp : Perm xs
  · rw [decide_eq_true hp]
    simp -implicitDefEqProofs (disch := omega) only [List.any_cons, List.any_nil, Nat.reduceEqDiff, List.map_cons, List.map_nil, Option.map_some, Option.map_none, List.nil_append, ↓reduceIte, vcu0, vcu1, vcu2, vcu3, vcu4, vcu5, vcu6, vcu7, vcu8, vcu9, vcu10, vcu11, vcu12, vcu13, vcu14, vcu15, vcu16, ↓vcd0, ↓vcd1, ↓vcd2, ↓vcd3, opK_some]
    refine fin_one Try.results62 ⟨?_, rfl⟩
    simp -implicitDefEqProofs (disch := omega) only [List.any_cons, List.any_nil, Nat.reduceEqDiff, List.map_cons, List.map_nil, Option.map_some, Option.map_none, List.nil_append, ↓reduceIte, vcu0, vcu1, vcu2, vcu3, vcu4, vcu5, vcu6, vcu7, vcu8, vcu9, vcu10, vcu11, vcu12, vcu13, vcu14, vcu15, vcu16, ↓vcd0, ↓vcd1, ↓vcd2, ↓vcd3]
    simp [Valid, hp]
    omega
  · rw [decide_eq_false hp]
    simp -implicitDefEqProofs (disch := omega) only [List.any_cons, List.any_nil, Nat.reduceEqDiff, List.map_cons, List.map_nil, Option.map_some, Option.map_none, List.nil_append, ↓reduceIte, vcu0, vcu1, vcu2, vcu3, vcu4, vcu5, vcu6, vcu7, vcu8, vcu9, vcu10, vcu11, vcu12, vcu13, vcu14, vcu15, vcu16, ↓vcd0, ↓vcd1, ↓vcd2, ↓vcd3, opK_some]
    refine fin_one Try.results62 ⟨?_, rfl⟩
    simp -implicitDefEqProofs (disch := omega) only [List.any_cons, List.any_nil, Nat.reduceEqDiff, List.map_cons, List.map_nil, Option.map_some, Option.map_none, List.nil_append, ↓reduceIte, vcu0, vcu1, vcu2, vcu3, vcu4, vcu5, vcu6, vcu7, vcu8, vcu9, vcu10, vcu11, vcu12, vcu13, vcu14, vcu15, vcu16, ↓vcd0, ↓vcd1, ↓vcd2, ↓vcd3]
    simp [Valid, hp]

theorem specValid_calls (σ : AHeap) (v : Value) (xs : List Int) (hv : Ints .i64 σ v xs) (hl : xs.length ≤ 1048576) :
    ACall Try.prog w0 62 [v] σ fun r σ' => r = .bool (decide (Valid xs)) ∧ σ' = σ :=
  ACall.ints_quiet (pre := []) (by kernel_rfl) hv fun σ1 g o _ hg => specValid_at σ1 g o xs hg hl


/-- what has been seen, number by number -/
def seenB (xs : List Int) : List Value := (List.range 6).map fun (i : Nat) => .bool (decide ((i : Int) ∈ xs))
theorem seenB_length (xs : List Int) : (seenB xs).length = 6 := by simp [seenB]
theorem seenB_get (xs : List Int) {i : Nat} (h : i < 6) : (seenB xs)[i]? = some (.bool (decide ((i : Int) ∈ xs))) := by simp [seenB, h]
theorem seenB_set (xs : List Int) {x : Int} (h0 : 0 ≤ x) (h : x < 6) : (seenB xs).set x.toNat (.bool true) = seenB (xs ++ [x]) := by
  apply List.ext_getElem?
  intro i
  rw [List.getElem?_set]
  by_cases hi : i < 6
  · rw [seenB_get _ hi, seenB_get _ hi, seenB_length]
    by_cases e : x.toNat = i
    · have : (i : Int) = x := by omega
      rw [if_pos e, if_pos (by omega)]; simp [this]
    · have : (i : Int) ≠ x := by omega
      rw [if_neg e]; simp [this]
  · have : x.toNat ≠ i := by omega
    rw [if_neg this, List.getElem?_eq_none (by simp [seenB]; omega), List.getElem?_eq_none (by simp [seenB]; omega)]

theorem implValid_at (σ : AHeap) (h o : Nat) (xs : List Int) (hv : IntsAt .i64 σ h o xs) (hl : xs.length ≤ 1048576) :
    ACall Try.prog w0 33 [.slice (some ⟨h, o, none⟩) xs.length 1] σ fun r σ' => r = .bool (decide (Valid xs)) ∧ σ' = σ := by
  refine acall_go mixed Try.func33 rfl good33 ?_
  by_cases h6 : 6 < xs.length
  · simp -implicitDefEqProofs (disch := omega) only [List.any_cons, List.any_nil, Nat.reduceEqDiff, List.map_cons, List.map_nil, Option.map_some, Option.map_none, List.nil_append, ↓reduceIte, vcu0, vcu1, vcu2, vcu3, vcu4, vcu5, vcu6, vcu7, vcu8, vcu9, vcu10, vcu11, vcu12, vcu13, vcu14, vcu15, vcu16, ↓vcd0, ↓vcd1, ↓vcd2, ↓vcd3]
    refine fin_one Try.results33 ⟨?_, rfl⟩
    simp -implicitDefEqProofs (disch := omega) only [List.any_cons, List.any_nil, Nat.reduceEqDiff, List.map_cons, List.map_nil, Option.map_some, Option.map_none, List.nil_append, ↓reduceIte, vcu0, vcu1, vcu2, vcu3, vcu4, vcu5, vcu6, vcu7, vcu8, vcu9, vcu10, vcu11, vcu12, vcu13, vcu14, vcu15, vcu16, ↓vcd0, ↓vcd1, ↓vcd2, ↓vcd3]
    have : ¬ Valid xs := fun hV => by have := hV.2; omega
    simp [this]
  · simp -implicitDefEqProofs (disch := omega) only [List.any_cons, List.any_nil, Nat.reduceEqDiff, List.map_cons, List.map_nil, Option.map_some, Option.map_none, List.nil_append, ↓reduceIte, vcu0, vcu1, vcu2, vcu3, vcu4, vcu5, vcu6, vcu7, vcu8, vcu9, vcu10, vcu11, vcu12, vcu13, vcu14, vcu15, vcu16, ↓vcd0, ↓vcd1, ↓vcd2, ↓vcd3]
    refine r_alloc_at ze53 fun g hg => ?_
    simp -implicitDefEqProofs (disch := omega) only [List.any_cons, List.any_nil, Nat.reduceEqDiff, List.map_cons, List.map_nil, Option.map_some, Option.map_none, List.nil_append, ↓reduceIte, vcu0, vcu1, vcu2, vcu3, vcu4, vcu5, vcu6, vcu7, vcu8, vcu9, vcu10, vcu11, vcu12, vcu13, vcu14, vcu15, vcu16, ↓vcd0, ↓vcd1, ↓vcd2, ↓vcd3]
    refine vc_loop mixed (by kernel_rfl) (fun m a σ' => ∃ k : Nat, m + k = xs.length ∧ a 0 = .slice (some ⟨h, o, none⟩) xs.length 1 ∧ a 3 = .pointer (some ⟨g, 0, none⟩) ∧ a 9 = .slice (some ⟨h, o, none⟩) xs.length 1 ∧ a 10 = .int .i64 xs.length ∧ a 11 = .int .i64 k ∧
      σ' = σ.upd g (some ⟨seenB (xs.take k), false⟩) ∧ ∀ j, j < k → (0 ≤ xs.getD j 0 ∧ xs.getD j 0 < xs.length) ∧ xs.getD j 0 ∉ xs.take j) xs.length ⟨0, by simp, rfl, rfl, rfl, rfl, rfl, rfl, by simp⟩ ?_
    rintro m a σ' ⟨k, hk, h0, h3, h9, h10, h11, rfl, hp⟩
    by_cases hlt : k < xs.length
    · have hx := (hv.sub (sub_upd (o := some ⟨seenB (xs.take k), false⟩) hg)) k hlt
      have hxm : xs.getD k 0 ∈ xs := by simp [List.getD, hlt]
      generalize hxx : xs.getD k 0 = x at hx hxm
      by_cases hneg : x < 0
      · simp -implicitDefEqProofs (disch := omega) only [List.any_cons, List.any_nil, Nat.reduceEqDiff, List.map_cons, List.map_nil, Option.map_some, Option.map_none, List.nil_append, ↓reduceIte, vcu0, vcu1, vcu2, vcu3, vcu4, vcu5, vcu6, vcu7, vcu8, vcu9, vcu10, vcu11, vcu12, vcu13, vcu14, vcu15, vcu16, ↓vcd0, ↓vcd1, ↓vcd2, ↓vcd3, h0, h3, h9, h10, h11, hx]
        refine fin_drop Try.results33 σ (sub_upd hg) ⟨?_, rfl⟩
        simp -implicitDefEqProofs (disch := omega) only [List.any_cons, List.any_nil, Nat.reduceEqDiff, List.map_cons, List.map_nil, Option.map_some, Option.map_none, List.nil_append, ↓reduceIte, vcu0, vcu1, vcu2, vcu3, vcu4, vcu5, vcu6, vcu7, vcu8, vcu9, vcu10, vcu11, vcu12, vcu13, vcu14, vcu15, vcu16, ↓vcd0, ↓vcd1, ↓vcd2, ↓vcd3]
        have : ¬ Valid xs := fun hV => by have := hV.1.1 _ hxm; omega
        simp [this]
      · by_cases hbig : (xs.length : Int) ≤ x
        · simp -implicitDefEqProofs (disch := omega) only [List.any_cons, List.any_nil, Nat.reduceEqDiff, List.map_cons, List.map_nil, Option.map_some, Option.map_none, List.nil_append, ↓reduceIte, vcu0, vcu1, vcu2, vcu3, vcu4, vcu5, vcu6, vcu7, vcu8, vcu9, vcu10, vcu11, vcu12, vcu13, vcu14, vcu15, vcu16, ↓vcd0, ↓vcd1, ↓vcd2, ↓vcd3, h0, h3, h9, h10, h11, hx]
          refine fin_drop Try.results33 σ (sub_upd hg) ⟨?_, rfl⟩
          simp -implicitDefEqProofs (disch := omega) only [List.any_cons, List.any_nil, Nat.reduceEqDiff, List.map_cons, List.map_nil, Option.map_some, Option.map_none, List.nil_append, ↓reduceIte, vcu0, vcu1, vcu2, vcu3, vcu4, vcu5, vcu6, vcu7, vcu8, vcu9, vcu10, vcu11, vcu12, vcu13, vcu14, vcu15, vcu16, ↓vcd0, ↓vcd1, ↓vcd2, ↓vcd3]
          have : ¬ Valid xs := fun hV => by have := hV.1.1 _ hxm; omega
          simp [this]
        · have hs : ld (σ.upd g (some ⟨seenB (xs.take k), false⟩)) g (0 + x.toNat) = some (.bool (decide (x ∈ xs.take k))) := by
            rw [ld_upd_same]
            dsimp only
            rw [Nat.zero_add, seenB_get _ (by omega)]
            have : ((x.toNat : Nat) : Int) = x := by omega
            rw [this]
          by_cases hm : x ∈ xs.take k
          · rw [decide_eq_true hm] at hs
            simp -implicitDefEqProofs (disch := omega) only [List.any_cons, List.any_nil, Nat.reduceEqDiff, List.map_cons, List.map_nil, Option.map_some, Option.map_none, List.nil_append, ↓reduceIte, vcu0, vcu1, vcu2, vcu3, vcu4, vcu5, vcu6, vcu7, vcu8, vcu9, vcu10, vcu11, vcu12, vcu13, vcu14, vcu15, vcu16, ↓vcd0, ↓vcd1, ↓vcd2, ↓vcd3, h0, h3, h9, h10, h11, hx, hs]
            refine fin_drop Try.results33 σ (sub_upd hg) ⟨?_, rfl⟩
            simp -implicitDefEqProofs (disch := omega) only [List.any_cons, List.any_nil, Nat.reduceEqDiff, List.map_cons, List.map_nil, Option.map_some, Option.map_none, List.nil_append, ↓reduceIte, vcu0, vcu1, vcu2, vcu3, vcu4, vcu5, vcu6, vcu7, vcu8, vcu9, vcu10, vcu11, vcu12, vcu13, vcu14, vcu15, vcu16, ↓vcd0, ↓vcd1, ↓vcd2, ↓vcd3]
            have : ¬ Valid xs := fun hV => (nodup_take.1 hV.1.2) k hlt (by rw [hxx]; exact hm)
            simp [this]
          · rw [decide_eq_false hm] at hs
            simp -implicitDefEqProofs (disch := omega) only [List.any_cons, List.any_nil, Nat.reduceEqDiff, List.map_cons, List.map_nil, Option.map_some, Option.map_none, List.nil_append, ↓reduceIte, vcu0, vcu1, vcu2, vcu3, vcu4, vcu5, vcu6, vcu7, vcu8, vcu9, vcu10, vcu11, vcu12, vcu13, vcu14, vcu15, vcu16, ↓vcd0, ↓vcd1, ↓vcd2, ↓vcd3, h0, h3, h9, h10, h11, hx, hs]
            have hst := sts_one (σ := σ.upd g (some ⟨seenB (xs.take k), false⟩)) (h := g) (cs := seenB (xs.take k)) (i := 0 + x.toNat) (v := .bool true) (AHeap.upd_same _ _ _) (by rw [seenB_length]; omega)
            refine r_store_at (h := g) (i := 0 + x.toNat) (by simp -implicitDefEqProofs (disch := omega) only [List.any_cons, List.any_nil, Nat.reduceEqDiff, List.map_cons, List.map_nil, Option.map_some, Option.map_none, List.nil_append, ↓reduceIte, vcu0, vcu1, vcu2, vcu3, vcu4, vcu5, vcu6, vcu7, vcu8, vcu9, vcu10, vcu11, vcu12, vcu13, vcu14, vcu15, vcu16, ↓vcd0, ↓vcd1, ↓vcd2, ↓vcd3, h3]) (by rfl) (by rfl) hst ?_
            have htk : xs.take k ++ [x] = xs.take (k + 1) := by
              rw [List.take_succ_eq_append_getElem hlt]
              simp [List.getD, hlt] at hxx
              rw [hxx]
            rw [Nat.zero_add, seenB_set _ (by omega) (by omega), AHeap.upd_upd, htk]
            simp -implicitDefEqProofs (disch := omega) only [List.any_cons, List.any_nil, Nat.reduceEqDiff, List.map_cons, List.map_nil, Option.map_some, Option.map_none, List.nil_append, ↓reduceIte, vcu0, vcu1, vcu2, vcu3, vcu4, vcu5, vcu6, vcu7, vcu8, vcu9, vcu10, vcu11, vcu12, vcu13, vcu14, vcu15, vcu16, ↓vcd0, ↓vcd1, ↓vcd2, ↓vcd3, h0, h3, h9, h10, h11]
            refine ⟨m - 1, by omega, k + 1, by omega, trivial, trivial, trivial, trivial, by simp, rfl, fun j hj => ?_⟩
            by_cases e : j = k
            · subst e; rw [hxx]; exact ⟨by omega, hm⟩
            · exact hp j (by omega)
    · simp -implicitDefEqProofs (disch := omega) only [List.any_cons, List.any_nil, Nat.reduceEqDiff, List.map_cons, List.map_nil, Option.map_some, Option.map_none, List.nil_append, ↓reduceIte, vcu0, vcu1, vcu2, vcu3, vcu4, vcu5, vcu6, vcu7, vcu8, vcu9, vcu10, vcu11, vcu12, vcu13, vcu14, vcu15, vcu16, ↓vcd0, ↓vcd1, ↓vcd2, ↓vcd3, h0, h3, h9, h10, h11]
      refine fin_drop Try.results33 σ (sub_upd hg) ⟨?_, rfl⟩
      simp -implicitDefEqProofs (disch := omega) only [List.any_cons, List.any_nil, Nat.reduceEqDiff, List.map_cons, List.map_nil, Option.map_some, Option.map_none, List.nil_append, ↓reduceIte, vcu0, vcu1, vcu2, vcu3, vcu4, vcu5, vcu6, vcu7, vcu8, vcu9, vcu10, vcu11, vcu12, vcu13, vcu14, vcu15, vcu16, ↓vcd0, ↓vcd1, ↓vcd2, ↓vcd3]
      have : Valid xs := by
        refine ⟨⟨fun x hx => ?_, nodup_take.2 fun j hj => (hp j (by omega)).2⟩, by omega⟩
        obtain ⟨i, hi, rfl⟩ := List.getElem_of_mem hx
        have := (hp i (by omega)).1
        simpa [List.getD, hi] using this
      simp [this]

theorem implValid_calls (σ : AHeap) (v : Value) (xs : List Int) (hv : Ints .i64 σ v xs) (hl : xs.length ≤ 1048576) :
    ACall Try.prog w0 33 [v] σ fun r σ' => r = .bool (decide (Valid xs)) ∧ σ' = σ :=
  ACall.ints_quiet (pre := []) (by kernel_rfl) hv fun σ1 g o _ hg => implValid_at σ1 g o xs hg hl


end Go.Proofs.Ytbfldpcikcdlpaa
