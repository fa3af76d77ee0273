/- Permutations that are valid, by the program and by the reference. -/
import Derived.Test.YtpcbgdgfdfpapaaGaT
set_option linter.unusedSimpArgs false
set_option linter.unusedVariables false
namespace Go.Proofs.Ytpcbgdgfdfpapaa
open Go Go.Abs Go.RowKit
variable {w0 : World}


theorem has_at (σ : AHeap) (h o : Nat) (xs : List Int) (n : Int) (hv : IntsAt .i64 σ h o xs) (hl : xs.length ≤ 1048576) :
    ACall Try.prog w0 56 [.slice (some ⟨h, o, none⟩) xs.length 1, .int .i64 n] σ fun r σ' => r = .bool (decide (n ∈ xs)) ∧ σ' = σ := by
  refine acall_go mixed Try.func56 rfl good56 fun pr => ?_
  simp -implicitDefEqProofs (disch := omega) only [List.any_cons, List.any_nil, Nat.reduceEqDiff, List.map_cons, List.map_nil, Option.map_some, Option.map_none, List.nil_append, ↓reduceIte, vcu, ↓vcd]
  refine vc_loop mixed (by kernel_rfl) (fun m a σ' => ∃ k : Nat, m + k = xs.length ∧ a 0 = .slice (some ⟨h, o, none⟩) xs.length 1 ∧ a 1 = .int .i64 n ∧ a 5 = .int .i64 k ∧ σ' = σ ∧ ∀ j, j < k → xs.getD j 0 ≠ n) xs.length ⟨0, by simp, rfl, rfl, rfl, rfl, by simp⟩ ?_
  rintro m a σ' ⟨k, hk, h0, h1, h5, rfl, hne⟩
  by_cases hlt : k < xs.length
  · have hx := hv k hlt
    simp -implicitDefEqProofs (disch := omega) only [List.any_cons, List.any_nil, Nat.reduceEqDiff, List.map_cons, List.map_nil, Option.map_some, Option.map_none, List.nil_append, ↓reduceIte, vcu, ↓vcd, h0, h1, h5, hx]
    rw [condR_dec]
    refine ⟨fun heq => ?_, fun hneq => ?_⟩
    · rw [vcH_eq]
      simp -implicitDefEqProofs (disch := omega) only [List.any_cons, List.any_nil, Nat.reduceEqDiff, List.map_cons, List.map_nil, Option.map_some, Option.map_none, List.nil_append, ↓reduceIte, vcu, ↓vcd]
      refine fin_one Try.results56 ⟨?_, rfl⟩
      simp -implicitDefEqProofs (disch := omega) only [List.any_cons, List.any_nil, Nat.reduceEqDiff, List.map_cons, List.map_nil, Option.map_some, Option.map_none, List.nil_append, ↓reduceIte, vcu, ↓vcd]
      have : n ∈ xs := by rw [← heq]; simp [List.getD, hlt]
      simp [this]
    · rw [vcH_eq]
      simp -implicitDefEqProofs (disch := omega) only [List.any_cons, List.any_nil, Nat.reduceEqDiff, List.map_cons, List.map_nil, Option.map_some, Option.map_none, List.nil_append, ↓reduceIte, vcu, ↓vcd, h0, h1, h5]
      refine ⟨m - 1, by omega, k + 1, by omega, trivial, trivial, by simp, trivial, fun j hj => ?_⟩
      by_cases e : j = k
      · subst e; exact hneq
      · exact hne j (by omega)
  · simp -implicitDefEqProofs (disch := omega) only [List.any_cons, List.any_nil, Nat.reduceEqDiff, List.map_cons, List.map_nil, Option.map_some, Option.map_none, List.nil_append, ↓reduceIte, vcu, ↓vcd, h0, h1, h5]
    refine fin_one Try.results56 ⟨?_, rfl⟩
    simp -implicitDefEqProofs (disch := omega) only [List.any_cons, List.any_nil, Nat.reduceEqDiff, List.map_cons, List.map_nil, Option.map_some, Option.map_none, List.nil_append, ↓reduceIte, vcu, ↓vcd]
    have : n ∉ xs := by
      intro hm
      obtain ⟨i, hi, rfl⟩ := List.getElem_of_mem hm
      exact hne i (by omega) (by simp [List.getD, hi])
    simp [this]



/-- each number from 0 on once -/
def Perm (xs : List Int) : Prop := (∀ x ∈ xs, 0 ≤ x ∧ x < xs.length) ∧ xs.Nodup
instance (xs : List Int) : Decidable (Perm xs) := by unfold Perm; infer_instance

theorem nodup_take {xs : List Int} : xs.Nodup ↔ ∀ j, j < xs.length → xs.getD j 0 ∉ xs.take j := by
  constructor
  · intro h j hj hm
    obtain ⟨i, hi, he⟩ := List.getElem_of_mem hm
    simp at hi
    have e1 : xs.getD j 0 = xs[j] := by simp [List.getD, hj]
    rw [e1, List.getElem_take] at he
    exact absurd ((List.getElem_inj h).1 he) (by omega)
  · intro h
    rw [List.nodup_iff_pairwise_ne, List.pairwise_iff_getElem]
    intro i j hi hj hij he
    refine h j hj ?_
    have e1 : xs.getD j 0 = xs[j] := by simp [List.getD, hj]
    rw [e1, ← he]
    rw [List.mem_take_iff_getElem]
    exact ⟨i, by omega, rfl⟩

theorem has_calls (σ : AHeap) (v : Value) (xs : List Int) (n : Int) (hv : Ints .i64 σ v xs) (hl : xs.length ≤ 1048576) :
    ACall Try.prog w0 56 [v, .int .i64 n] σ fun r σ' => r = .bool (decide (n ∈ xs)) ∧ σ' = σ :=
  ACall.ints_quiet (pre := []) (by kernel_rfl) hv fun σ1 g o _ hg => has_at σ1 g o xs n hg hl

theorem perm_at (σ : AHeap) (h o : Nat) (xs : List Int) (hv : IntsAt .i64 σ h o xs) (hl : xs.length ≤ 1048576) :
    ACall Try.prog w0 89 [.slice (some ⟨h, o, none⟩) xs.length 1] σ fun r σ' => r = .bool (decide (Perm xs)) ∧ σ' = σ := by
  refine acall_go mixed Try.func89 rfl good89 fun pr => ?_
  simp -implicitDefEqProofs (disch := omega) only [List.any_cons, List.any_nil, Nat.reduceEqDiff, List.map_cons, List.map_nil, Option.map_some, Option.map_none, List.nil_append, ↓reduceIte, vcu, ↓vcd]
  refine vc_loop mixed (by kernel_rfl) (fun m a σ' => ∃ k : Nat, m + k = xs.length ∧ a 0 = .slice (some ⟨h, o, none⟩) xs.length 1 ∧ a 3 = .int .i64 k ∧ σ' = σ ∧ ∀ j, j < k → (0 ≤ xs.getD j 0 ∧ xs.getD j 0 < xs.length) ∧ xs.getD j 0 ∉ xs.take j) xs.length ⟨0, by simp, rfl, rfl, rfl, by simp⟩ ?_
  rintro m a σ' ⟨k, hk, h0, h3, rfl, hp⟩
  by_cases hlt : k < xs.length
  · have hx := hv k hlt
    have hxm : xs.getD k 0 ∈ xs := by simp [List.getD, hlt]
    simp -implicitDefEqProofs (disch := omega) only [List.any_cons, List.any_nil, Nat.reduceEqDiff, List.map_cons, List.map_nil, Option.map_some, Option.map_none, List.nil_append, ↓reduceIte, vcu, ↓vcd, h0, h3, hx]
    rw [r_callq]
    refine ⟨_, in_calls _ _ _ _, ?_⟩
    by_cases hin : 0 ≤ xs.getD k 0 ∧ xs.getD k 0 ≤ (xs.length : Int) - 1
    · rw [decide_eq_true hin]
      simp -implicitDefEqProofs (disch := omega) only [List.any_cons, List.any_nil, Nat.reduceEqDiff, List.map_cons, List.map_nil, Option.map_some, Option.map_none, List.nil_append, ↓reduceIte, vcu, ↓vcd, h0, h3, hx]
      rw [r_callq]
      have hsub := has_at (w0 := w0) σ' h o (xs.take k) (xs.getD k 0) (hv.take k) (by simp; omega)
      rw [List.length_take, Nat.min_eq_left (by omega)] at hsub
      refine ⟨_, hsub, ?_⟩
      by_cases hm : xs.getD k 0 ∈ xs.take k
      · rw [decide_eq_true hm]
        simp -implicitDefEqProofs (disch := omega) only [List.any_cons, List.any_nil, Nat.reduceEqDiff, List.map_cons, List.map_nil, Option.map_some, Option.map_none, List.nil_append, ↓reduceIte, vcu, ↓vcd]
        refine fin_one Try.results89 ⟨?_, rfl⟩
        simp -implicitDefEqProofs (disch := omega) only [List.any_cons, List.any_nil, Nat.reduceEqDiff, List.map_cons, List.map_nil, Option.map_some, Option.map_none, List.nil_append, ↓reduceIte, vcu, ↓vcd]
        have : ¬ Perm xs := fun hP => (nodup_take.1 hP.2) k hlt hm
        simp [this]
      · rw [decide_eq_false hm]
        simp -implicitDefEqProofs (disch := omega) only [List.any_cons, List.any_nil, Nat.reduceEqDiff, List.map_cons, List.map_nil, Option.map_some, Option.map_none, List.nil_append, ↓reduceIte, vcu, ↓vcd, h0, h3]
        refine ⟨m - 1, by omega, k + 1, by omega, trivial, by simp, trivial, fun j hj => ?_⟩
        by_cases e : j = k
        · subst e; exact ⟨by omega, hm⟩
        · exact hp j (by omega)
    · rw [decide_eq_false hin]
      simp -implicitDefEqProofs (disch := omega) only [List.any_cons, List.any_nil, Nat.reduceEqDiff, List.map_cons, List.map_nil, Option.map_some, Option.map_none, List.nil_append, ↓reduceIte, vcu, ↓vcd]
      refine fin_one Try.results89 ⟨?_, rfl⟩
      simp -implicitDefEqProofs (disch := omega) only [List.any_cons, List.any_nil, Nat.reduceEqDiff, List.map_cons, List.map_nil, Option.map_some, Option.map_none, List.nil_append, ↓reduceIte, vcu, ↓vcd]
      have : ¬ Perm xs := fun hP => hin (by have := hP.1 _ hxm; omega)
      simp [this]
  · simp -implicitDefEqProofs (disch := omega) only [List.any_cons, List.any_nil, Nat.reduceEqDiff, List.map_cons, List.map_nil, Option.map_some, Option.map_none, List.nil_append, ↓reduceIte, vcu, ↓vcd, h0, h3]
    refine fin_one Try.results89 ⟨?_, rfl⟩
    simp -implicitDefEqProofs (disch := omega) only [List.any_cons, List.any_nil, Nat.reduceEqDiff, List.map_cons, List.map_nil, Option.map_some, Option.map_none, List.nil_append, ↓reduceIte, vcu, ↓vcd]
    have : Perm xs := by
      refine ⟨fun x hx => ?_, nodup_take.2 fun j hj => (hp j (by omega)).2⟩
      obtain ⟨i, hi, rfl⟩ := List.getElem_of_mem hx
      have := (hp i (by omega)).1
      simpa [List.getD, hi] using this
    simp [this]

theorem perm_calls (σ : AHeap) (v : Value) (xs : List Int) (hv : Ints .i64 σ v xs) (hl : xs.length ≤ 1048576) :
    ACall Try.prog w0 89 [v] σ fun r σ' => r = .bool (decide (Perm xs)) ∧ σ' = σ :=
  ACall.ints_quiet (pre := []) (by kernel_rfl) hv fun σ1 g o _ hg => perm_at σ1 g o xs hg hl

def Valid (xs : List Int) : Prop := Perm xs ∧ xs.length ≤ 6
instance (xs : List Int) : Decidable (Valid xs) := by unfold Valid; infer_instance

theorem specValid_at (σ : AHeap) (h o : Nat) (xs : List Int) (hv : IntsAt .i64 σ h o xs) (hl : xs.length ≤ 1048576) :
    ACall Try.prog w0 88 [.slice (some ⟨h, o, none⟩) xs.length 1] σ fun r σ' => r = .bool (decide (Valid xs)) ∧ σ' = σ := by
  refine acall_go mixed Try.func88 rfl good88 fun pr => ?_
  simp -implicitDefEqProofs (disch := omega) only [List.any_cons, List.any_nil, Nat.reduceEqDiff, List.map_cons, List.map_nil, Option.map_some, Option.map_none, List.nil_append, ↓reduceIte, vcu, ↓vcd]
  refine (perm_at σ h o xs hv hl).mono ?_
  rintro r σ' ⟨rfl, rfl⟩
  by_cases hp : Perm xs
  · rw [decide_eq_true hp]
    simp -implicitDefEqProofs (disch := omega) only [List.any_cons, List.any_nil, Nat.reduceEqDiff, List.map_cons, List.map_nil, Option.map_some, Option.map_none, List.nil_append, ↓reduceIte, vcu, ↓vcd, opK_some]
    refine fin_one Try.results88 ⟨?_, rfl⟩
    simp -implicitDefEqProofs (disch := omega) only [List.any_cons, List.any_nil, Nat.reduceEqDiff, List.map_cons, List.map_nil, Option.map_some, Option.map_none, List.nil_append, ↓reduceIte, vcu, ↓vcd]
    simp [Valid, hp]
    omega
  · rw [decide_eq_false hp]
    simp -implicitDefEqProofs (disch := omega) only [List.any_cons, List.any_nil, Nat.reduceEqDiff, List.map_cons, List.map_nil, Option.map_some, Option.map_none, List.nil_append, ↓reduceIte, vcu, ↓vcd, opK_some]
    refine fin_one Try.results88 ⟨?_, rfl⟩
    simp -implicitDefEqProofs (disch := omega) only [List.any_cons, List.any_nil, Nat.reduceEqDiff, List.map_cons, List.map_nil, Option.map_some, Option.map_none, List.nil_append, ↓reduceIte, vcu, ↓vcd]
    simp [Valid, hp]

theorem specValid_calls (σ : AHeap) (v : Value) (xs : List Int) (hv : Ints .i64 σ v xs) (hl : xs.length ≤ 1048576) :
    ACall Try.prog w0 88 [v] σ fun r σ' => r = .bool (decide (Valid xs)) ∧ σ' = σ :=
  ACall.ints_quiet (pre := []) (by kernel_rfl) hv fun σ1 g o _ hg => specValid_at σ1 g o xs hg hl


/-- what has been seen, number by number -/
def seenB (xs : List Int) : List Value := (List.range 6).map fun (i : Nat) => .bool (decide ((i : Int) ∈ xs))
theorem seenB_length (xs : List Int) : (seenB xs).length = 6 := by simp [seenB]
theorem seenB_get (xs : List Int) {i : Nat} (h : i < 6) : (seenB xs)[i]? = some (.bool (decide ((i : Int) ∈ xs))) := by simp [seenB, h]
theorem seenB_set (xs : List Int) {x : Int} (h0 : 0 ≤ x) (h : x < 6) : (seenB xs).set x.toNat (.bool true) = seenB (xs ++ [x]) := by
  apply List.ext_getElem?
  intro i
  rw [List.getElem?_set]
  by_cases hi : i < 6
  · rw [seenB_get _ hi, seenB_get _ hi, seenB_length]
    by_cases e : x.toNat = i
    · have : (i : Int) = x := by omega
      rw [if_pos e, if_pos (by omega)]; simp [this]
    · have : (i : Int) ≠ x := by omega
      rw [if_neg e]; simp [this]
  · have : x.toNat ≠ i := by omega
    rw [if_neg this, List.getElem?_eq_none (by simp [seenB]; omega), List.getElem?_eq_none (by simp [seenB]; omega)]

theorem implValid_at (σ : AHeap) (h o : Nat) (xs : List Int) (hv : IntsAt .i64 σ h o xs) (hl : xs.length ≤ 1048576) :
    ACall Try.prog w0 57 [.slice (some ⟨h, o, none⟩) xs.length 1] σ fun r σ' => r = .bool (decide (Valid xs)) ∧ σ' = σ := by
  refine acall_go mixed Try.func57 rfl good57 fun pr => ?_
  by_cases h6 : 6 < xs.length
  · simp -implicitDefEqProofs (disch := omega) only [List.any_cons, List.any_nil, Nat.reduceEqDiff, List.map_cons, List.map_nil, Option.map_some, Option.map_none, List.nil_append, ↓reduceIte, vcu, ↓vcd]
    refine fin_one Try.results57 ⟨?_, rfl⟩
    simp -implicitDefEqProofs (disch := omega) only [List.any_cons, List.any_nil, Nat.reduceEqDiff, List.map_cons, List.map_nil, Option.map_some, Option.map_none, List.nil_append, ↓reduceIte, vcu, ↓vcd]
    have : ¬ Valid xs := fun hV => by have := hV.2; omega
    simp [this]
  · simp -implicitDefEqProofs (disch := omega) only [List.any_cons, List.any_nil, Nat.reduceEqDiff, List.map_cons, List.map_nil, Option.map_some, Option.map_none, List.nil_append, ↓reduceIte, vcu, ↓vcd]
    refine r_alloc_at ze57 fun g hg => ?_
    simp -implicitDefEqProofs (disch := omega) only [List.any_cons, List.any_nil, Nat.reduceEqDiff, List.map_cons, List.map_nil, Option.map_some, Option.map_none, List.nil_append, ↓reduceIte, vcu, ↓vcd]
    refine vc_loop mixed (by kernel_rfl) (fun m a σ' => ∃ k : Nat, m + k = xs.length ∧ a 0 = .slice (some ⟨h, o, none⟩) xs.length 1 ∧ a 3 = .pointer (some ⟨g, 0, none⟩) ∧ a 9 = .slice (some ⟨h, o, none⟩) xs.length 1 ∧ a 10 = .int .i64 xs.length ∧ a 11 = .int .i64 k ∧
      σ' = σ.upd g (some ⟨seenB (xs.take k), false⟩) ∧ ∀ j, j < k → (0 ≤ xs.getD j 0 ∧ xs.getD j 0 < xs.length) ∧ xs.getD j 0 ∉ xs.take j) xs.length ⟨0, by simp, rfl, rfl, rfl, rfl, rfl, rfl, by simp⟩ ?_
    rintro m a σ' ⟨k, hk, h0, h3, h9, h10, h11, rfl, hp⟩
    by_cases hlt : k < xs.length
    · have hx := (hv.sub (sub_upd (o := some ⟨seenB (xs.take k), false⟩) hg)) k hlt
      have hxm : xs.getD k 0 ∈ xs := by simp [List.getD, hlt]
      generalize hxx : xs.getD k 0 = x at hx hxm
      by_cases hneg : x < 0
      · simp -implicitDefEqProofs (disch := omega) only [List.any_cons, List.any_nil, Nat.reduceEqDiff, List.map_cons, List.map_nil, Option.map_some, Option.map_none, List.nil_append, ↓reduceIte, vcu, ↓vcd, h0, h3, h9, h10, h11, hx]
        refine fin_drop Try.results57 σ (sub_upd hg) ⟨?_, rfl⟩
        simp -implicitDefEqProofs (disch := omega) only [List.any_cons, List.any_nil, Nat.reduceEqDiff, List.map_cons, List.map_nil, Option.map_some, Option.map_none, List.nil_append, ↓reduceIte, vcu, ↓vcd]
        have : ¬ Valid xs := fun hV => by have := hV.1.1 _ hxm; omega
        simp [this]
      · by_cases hbig : (xs.length : Int) ≤ x
        · simp -implicitDefEqProofs (disch := omega) only [List.any_cons, List.any_nil, Nat.reduceEqDiff, List.map_cons, List.map_nil, Option.map_some, Option.map_none, List.nil_append, ↓reduceIte, vcu, ↓vcd, h0, h3, h9, h10, h11, hx]
          refine fin_drop Try.results57 σ (sub_upd hg) ⟨?_, rfl⟩
          simp -implicitDefEqProofs (disch := omega) only [List.any_cons, List.any_nil, Nat.reduceEqDiff, List.map_cons, List.map_nil, Option.map_some, Option.map_none, List.nil_append, ↓reduceIte, vcu, ↓vcd]
          have : ¬ Valid xs := fun hV => by have := hV.1.1 _ hxm; omega
          simp [this]
        · have hs : ld (σ.upd g (some ⟨seenB (xs.take k), false⟩)) g (0 + x.toNat) = some (.bool (decide (x ∈ xs.take k))) := by
            rw [ld_upd_same]
            dsimp only
            rw [Nat.zero_add, seenB_get _ (by omega)]
            have : ((x.toNat : Nat) : Int) = x := by omega
            rw [this]
          by_cases hm : x ∈ xs.take k
          · rw [decide_eq_true hm] at hs
            simp -implicitDefEqProofs (disch := omega) only [List.any_cons, List.any_nil, Nat.reduceEqDiff, List.map_cons, List.map_nil, Option.map_some, Option.map_none, List.nil_append, ↓reduceIte, vcu, ↓vcd, h0, h3, h9, h10, h11, hx, hs]
            refine fin_drop Try.results57 σ (sub_upd hg) ⟨?_, rfl⟩
            simp -implicitDefEqProofs (disch := omega) only [List.any_cons, List.any_nil, Nat.reduceEqDiff, List.map_cons, List.map_nil, Option.map_some, Option.map_none, List.nil_append, ↓reduceIte, vcu, ↓vcd]
            have : ¬ Valid xs := fun hV => (nodup_take.1 hV.1.2) k hlt (by rw [hxx]; exact hm)
            simp [this]
          · rw [decide_eq_false hm] at hs
            simp -implicitDefEqProofs (disch := omega) only [List.any_cons, List.any_nil, Nat.reduceEqDiff, List.map_cons, List.map_nil, Option.map_some, Option.map_none, List.nil_append, ↓reduceIte, vcu, ↓vcd, h0, h3, h9, h10, h11, hx, hs]
            have hst := sts_one (σ := σ.upd g (some ⟨seenB (xs.take k), false⟩)) (h := g) (cs := seenB (xs.take k)) (i := 0 + x.toNat) (v := .bool true) (AHeap.upd_same _ _ _) (by rw [seenB_length]; omega)
            refine r_store_at (h := g) (i := 0 + x.toNat) (by simp -implicitDefEqProofs (disch := omega) only [List.any_cons, List.any_nil, Nat.reduceEqDiff, List.map_cons, List.map_nil, Option.map_some, Option.map_none, List.nil_append, ↓reduceIte, vcu, ↓vcd, h3]) (by rfl) (by rfl) hst ?_
            have htk : xs.take k ++ [x] = xs.take (k + 1) := by
              rw [List.take_succ_eq_append_getElem hlt]
              simp [List.getD, hlt] at hxx
              rw [hxx]
            rw [Nat.zero_add, seenB_set _ (by omega) (by omega), AHeap.upd_upd, htk]
            simp -implicitDefEqProofs (disch := omega) only [List.any_cons, List.any_nil, Nat.reduceEqDiff, List.map_cons, List.map_nil, Option.map_some, Option.map_none, List.nil_append, ↓reduceIte, vcu, ↓vcd, h0, h3, h9, h10, h11]
            refine ⟨m - 1, by omega, k + 1, by omega, trivial, trivial, trivial, trivial, by simp, rfl, fun j hj => ?_⟩
            by_cases e : j = k
            · subst e; rw [hxx]; exact ⟨by omega, hm⟩
            · exact hp j (by omega)
    · simp -implicitDefEqProofs (disch := omega) only [List.any_cons, List.any_nil, Nat.reduceEqDiff, List.map_cons, List.map_nil, Option.map_some, Option.map_none, List.nil_append, ↓reduceIte, vcu, ↓vcd, h0, h3, h9, h10, h11]
      refine fin_drop Try.results57 σ (sub_upd hg) ⟨?_, rfl⟩
      simp -implicitDefEqProofs (disch := omega) only [List.any_cons, List.any_nil, Nat.reduceEqDiff, List.map_cons, List.map_nil, Option.map_some, Option.map_none, List.nil_append, ↓reduceIte, vcu, ↓vcd]
      have : Valid xs := by
        refine ⟨⟨fun x hx => ?_, nodup_take.2 fun j hj => (hp j (by omega)).2⟩, by omega⟩
        obtain ⟨i, hi, rfl⟩ := List.getElem_of_mem hx
        have := (hp i (by omega)).1
        simpa [List.getD, hi] using this
      simp [this]

theorem implValid_calls (σ : AHeap) (v : Value) (xs : List Int) (hv : Ints .i64 σ v xs) (hl : xs.length ≤ 1048576) :
    ACall Try.prog w0 57 [v] σ fun r σ' => r = .bool (decide (Valid xs)) ∧ σ' = σ :=
  ACall.ints_quiet (pre := []) (by kernel_rfl) hv fun σ1 g o _ hg => implValid_at σ1 g o xs hg hl


end Go.Proofs.Ytpcbgdgfdfpapaa

namespace Go.Proofs.Ytpcbgdgfdfpapaa
open Go Go.Abs Go.RowKit
variable {w0 : World}


/-- all orders of k of the numbers of a pool -/
def orders : Nat → List Int → List (List Int)
  | 0, _ => [[]]
  | k + 1, pool => pool.flatMap fun x => (orders k (pool.filter (· ≠ x))).map (x :: ·)
theorem mem_orders : ∀ (ys pool : List Int), ys.Nodup → (∀ y ∈ ys, y ∈ pool) → ys ∈ orders ys.length pool
  | [], pool, _, _ => by simp [orders]
  | y :: ys, pool, hd, hm => by
    rw [List.nodup_cons] at hd
    simp only [List.length_cons, orders, List.mem_flatMap]
    refine ⟨y, hm y (by simp), List.mem_map.2 ⟨ys, mem_orders ys _ hd.2 fun z hz => ?_, rfl⟩⟩
    rw [List.mem_filter]
    refine ⟨hm z (by simp [hz]), ?_⟩
    have : z ≠ y := fun e => hd.1 (e ▸ hz)
    simpa using this
/-- all valid lists -/
def allV : List (List Int) := (List.range 7).flatMap fun n => orders n ((List.range n).map fun (i : Nat) => (i : Int))
theorem valid_mem {xs : List Int} (h : Valid xs) : xs ∈ allV := by
  unfold allV
  rw [List.mem_flatMap]
  refine ⟨xs.length, by have := h.2; simp; omega, mem_orders xs _ h.1.2 fun y hy => ?_⟩
  have := h.1.1 y hy
  rw [List.mem_map]
  exact ⟨y.toNat, by simp; omega, by omega⟩
theorem valid_all {p : List Int → Bool} (hp : allV.all p = true) {xs : List Int} (h : Valid xs) : p xs = true := List.all_eq_true.1 hp xs (valid_mem h)

theorem own_ints {σ : AHeap} {g : Nat} {xs : List Int} : Ints .i64 (σ.upd g (some ⟨ints .i64 xs, false⟩)) (.slice (some ⟨g, 0, none⟩) xs.length 1) xs :=
  .inr ⟨g, 0, rfl, intsAt_own (AHeap.upd_same _ _ _)⟩



def xorN (a b : Int) : Nat := a.toNat ^^^ b.toNat
theorem conv_byte {b : Int} (h : 0 ≤ b ∧ b ≤ 255) : aconv Try.prog 5 3 (.int .u8 b) = some (.int .i64 b) := by
  simp only [aconv, Try.underlying5, Try.underlying3]
  rw [wrap_i64_ok (by omega)]
theorem xor_ok {a b : Int} {t : TypeId} (ha : 0 ≤ a ∧ a < 4611686018427387904) (hb : 0 ≤ b ∧ b < 4611686018427387904) :
    abin Try.prog t .xor (.int .i64 a) (.int .i64 b) = some (.int .i64 (xorN a b : Int)) ∧ xorN a b < 4611686018427387904 := by
  unfold xorN
  have hlt : a.toNat ^^^ b.toNat < 2 ^ 62 := Nat.xor_lt_two_pow (by omega) (by omega)
  refine ⟨?_, hlt⟩
  simp only [abin, if_true]
  have e1 : (BitVec.ofInt IntKind.i64.bits a ^^^ BitVec.ofInt IntKind.i64.bits b).toNat = a.toNat ^^^ b.toNat := by
    rw [BitVec.toNat_xor, BitVec.toNat_ofInt, BitVec.toNat_ofInt]
    have h1 : (a % ((2 ^ IntKind.i64.bits : Nat) : Int)).toNat = a.toNat := by rw [Int.emod_eq_of_lt ha.1 (by simp [IntKind.bits]; omega)]
    have h2 : (b % ((2 ^ IntKind.i64.bits : Nat) : Int)).toNat = b.toNat := by rw [Int.emod_eq_of_lt hb.1 (by simp [IntKind.bits]; omega)]
    rw [h1, h2]
  rw [e1, wrap_i64_ok (by omega)]

theorem abin_xor' {a b : Int} {t : TypeId} (h : (0 ≤ a ∧ a < 4611686018427387904) ∧ 0 ≤ b ∧ b < 4611686018427387904) : abin Try.prog t .xor (.int .i64 a) (.int .i64 b) = some (.int .i64 (xorN a b : Int)) := (xor_ok h.1 h.2).1

theorem open_at (σ : AHeap) (h o : Nat) (bs : List Int) (hl : bs.length ≤ 1048576) :
    ACall Try.prog w0 51 [.slice (some ⟨h, o, none⟩) bs.length 1] σ fun r σ' => ∃ (g m : Nat), σ g = none ∧ m ≤ 2000 ∧ m ≤ bs.length ∧ r = .pointer (some ⟨g, 0, none⟩) ∧ σ' = σ.upd g (some ⟨[.slice (some ⟨h, o, none⟩) m 1, .int .i64 0], false⟩) := by
  refine acall_go mixed Try.func51 rfl good51 fun pr => ?_
  by_cases hb : 2000 < bs.length
  · simp -implicitDefEqProofs (disch := omega) only [List.any_cons, List.any_nil, Nat.reduceEqDiff, List.map_cons, List.map_nil, Option.map_some, Option.map_none, List.nil_append, ↓reduceIte, vcu, ↓vcd]
    rw [r_build]
    refine ⟨(_, #[.slice (some ⟨h, o, none⟩) 2000 1, .int .i64 0]), ⟨ze56, by simp -implicitDefEqProofs (disch := omega) only [List.any_cons, List.any_nil, Nat.reduceEqDiff, List.map_cons, List.map_nil, Option.map_some, Option.map_none, List.nil_append, ↓reduceIte, vcu, ↓vcd]; kernel_rfl⟩, ?_⟩
    simp -implicitDefEqProofs (disch := omega) only [List.any_cons, List.any_nil, Nat.reduceEqDiff, List.map_cons, List.map_nil, Option.map_some, Option.map_none, List.nil_append, ↓reduceIte, vcu, ↓vcd]
    rw [r_box]
    intro g hg
    rw [vcRH_eq]
    simp -implicitDefEqProofs (disch := omega) only [List.any_cons, List.any_nil, Nat.reduceEqDiff, List.map_cons, List.map_nil, Option.map_some, Option.map_none, List.nil_append, ↓reduceIte, vcu, ↓vcd]
    refine fin_one Try.results51 ⟨g, 2000, hg, by omega, by omega, ?_, ?_⟩
    · simp -implicitDefEqProofs (disch := omega) only [List.any_cons, List.any_nil, Nat.reduceEqDiff, List.map_cons, List.map_nil, Option.map_some, Option.map_none, List.nil_append, ↓reduceIte, vcu, ↓vcd]
    · rfl
  · simp -implicitDefEqProofs (disch := omega) only [List.any_cons, List.any_nil, Nat.reduceEqDiff, List.map_cons, List.map_nil, Option.map_some, Option.map_none, List.nil_append, ↓reduceIte, vcu, ↓vcd]
    rw [r_build]
    refine ⟨(_, #[.slice (some ⟨h, o, none⟩) bs.length 1, .int .i64 0]), ⟨ze56, by simp -implicitDefEqProofs (disch := omega) only [List.any_cons, List.any_nil, Nat.reduceEqDiff, List.map_cons, List.map_nil, Option.map_some, Option.map_none, List.nil_append, ↓reduceIte, vcu, ↓vcd]; kernel_rfl⟩, ?_⟩
    simp -implicitDefEqProofs (disch := omega) only [List.any_cons, List.any_nil, Nat.reduceEqDiff, List.map_cons, List.map_nil, Option.map_some, Option.map_none, List.nil_append, ↓reduceIte, vcu, ↓vcd]
    rw [r_box]
    intro g hg
    rw [vcRH_eq]
    simp -implicitDefEqProofs (disch := omega) only [List.any_cons, List.any_nil, Nat.reduceEqDiff, List.map_cons, List.map_nil, Option.map_some, Option.map_none, List.nil_append, ↓reduceIte, vcu, ↓vcd]
    refine fin_one Try.results51 ⟨g, bs.length, hg, by omega, by omega, ?_, ?_⟩
    · simp -implicitDefEqProofs (disch := omega) only [List.any_cons, List.any_nil, Nat.reduceEqDiff, List.map_cons, List.map_nil, Option.map_some, Option.map_none, List.nil_append, ↓reduceIte, vcu, ↓vcd]
    · rfl

/-- a reader: what is left of the code, and how often it was asked -/
structure Rd (β σ : AHeap) (g h o : Nat) (bs : List Int) (p : Int) : Prop where
  at_ : σ g = some ⟨[.slice (some ⟨h, o, none⟩) bs.length 1, .int .i64 p], false⟩
  sub : Sub β σ
  free : β g = none
  ints : IntsAt .u8 β h o bs
  len : bs.length ≤ 2000
  byte : ∀ b ∈ bs, 0 ≤ b ∧ b ≤ 255

theorem pick_at (β σ : AHeap) (g h o : Nat) (bs : List Int) (p n : Int) (hr : Rd β σ g h o bs p) (hp : 0 ≤ p ∧ p ≤ 1000000) (hn : 1 ≤ n ∧ n ≤ 1000000) :
    ACall Try.prog w0 75 [.pointer (some ⟨g, 0, none⟩), .int .i64 n] σ fun r σ' => ∃ z : Int, r = .int .i64 z ∧ 0 ≤ z ∧ z < n ∧ Rd β σ' g h o bs (p + 1) ∧ Kept g σ σ' := by
  refine acall_go mixed Try.func75 rfl good75 fun pr => ?_
  have hl0 : ld σ g (0 + 0) = some (.slice (some ⟨h, o, none⟩) bs.length 1) := by unfold ld; rw [hr.at_]; rfl
  have hl1 : ld σ g (0 + 1) = some (.int .i64 p) := by unfold ld; rw [hr.at_]; rfl
  simp -implicitDefEqProofs (disch := omega) only [List.any_cons, List.any_nil, Nat.reduceEqDiff, List.map_cons, List.map_nil, Option.map_some, Option.map_none, List.nil_append, ↓reduceIte, vcu, ↓vcd, hl0, hl1]
  refine r_store_at (h := g) (i := 0 + 1) (by simp -implicitDefEqProofs (disch := omega) only [List.any_cons, List.any_nil, Nat.reduceEqDiff, List.map_cons, List.map_nil, Option.map_some, Option.map_none, List.nil_append, ↓reduceIte, vcu, ↓vcd]) (by simp -implicitDefEqProofs (disch := omega) only [List.any_cons, List.any_nil, Nat.reduceEqDiff, List.map_cons, List.map_nil, Option.map_some, Option.map_none, List.nil_append, ↓reduceIte, vcu, ↓vcd]; rfl) (by simp -implicitDefEqProofs (disch := omega) only [List.any_cons, List.any_nil, Nat.reduceEqDiff, List.map_cons, List.map_nil, Option.map_some, Option.map_none, List.nil_append, ↓reduceIte, vcu, ↓vcd]; rfl) (by simp -implicitDefEqProofs (disch := omega) only [List.any_cons, List.any_nil, Nat.reduceEqDiff, List.map_cons, List.map_nil, Option.map_some, Option.map_none, List.nil_append, ↓reduceIte, vcu, ↓vcd]; exact sts_one hr.at_ (by simp)) ?_
  generalize hσ : σ.upd g (some ⟨List.set [.slice (some ⟨h, o, none⟩) bs.length 1, .int .i64 p] (0 + 1) (.int .i64 (p + 1)), false⟩) = τ
  have hm0 : ld τ g (0 + 0) = some (.slice (some ⟨h, o, none⟩) bs.length 1) := by rw [← hσ, ld_upd_same]; rfl
  have hm1 : ld τ g (0 + 1) = some (.int .i64 (p + 1)) := by rw [← hσ, ld_upd_same]; rfl
  have hst : Sub β τ := by rw [← hσ]; exact sub_put hr.sub hr.free
  have hbs : IntsAt .u8 τ h o bs := hr.ints.sub hst
  have hR : Rd β τ g h o bs (p + 1) := ⟨by rw [← hσ]; exact AHeap.upd_same _ _ _, hst, hr.free, hr.ints, hr.len, hr.byte⟩
  have hK : Kept g σ τ := by rw [← hσ]; exact Kept.put _ _ _
  by_cases h0 : bs.length = 0
  · simp -implicitDefEqProofs (disch := omega) only [List.any_cons, List.any_nil, Nat.reduceEqDiff, List.map_cons, List.map_nil, Option.map_some, Option.map_none, List.nil_append, ↓reduceIte, vcu, ↓vcd, hm0, hm1]
    refine fin_one Try.results75 ⟨0, ?_, by omega, by omega, hR, hK⟩
    simp -implicitDefEqProofs (disch := omega) only [List.any_cons, List.any_nil, Nat.reduceEqDiff, List.map_cons, List.map_nil, Option.map_some, Option.map_none, List.nil_append, ↓reduceIte, vcu, ↓vcd]
  · have byte : ∀ i : Nat, i < bs.length → ∃ b : Int, ld τ h (o + i) = some (.int .u8 b) ∧ 0 ≤ b ∧ b ≤ 255 := fun i hi => ⟨_, hbs i hi, hr.byte _ (by simp [List.getD, hi])⟩
    have hlen := hr.len
    by_cases hpl : p < bs.length
    · obtain ⟨b, hb, hb0⟩ := byte p.toNat (by omega)
      have hcv := conv_byte hb0
      simp -implicitDefEqProofs (disch := omega) only [List.any_cons, List.any_nil, Nat.reduceEqDiff, List.map_cons, List.map_nil, Option.map_some, Option.map_none, List.nil_append, ↓reduceIte, vcu, ↓vcd, hm0, hm1, Int.add_sub_cancel, hb, hcv]
      refine fin_one Try.results75 ⟨b % n, ?_, Int.emod_nonneg _ (by omega), Int.emod_lt_of_pos _ (by omega), hR, hK⟩
      simp -implicitDefEqProofs (disch := omega) only [List.any_cons, List.any_nil, Nat.reduceEqDiff, List.map_cons, List.map_nil, Option.map_some, Option.map_none, List.nil_append, ↓reduceIte, vcu, ↓vcd]
    · have h1 : 0 ≤ p % (bs.length : Int) ∧ p % (bs.length : Int) < bs.length := ⟨Int.emod_nonneg _ (by omega), Int.emod_lt_of_pos _ (by omega)⟩
      have h2 : 0 ≤ (p * 7 + 3) % (bs.length : Int) ∧ (p * 7 + 3) % (bs.length : Int) < bs.length := ⟨Int.emod_nonneg _ (by omega), Int.emod_lt_of_pos _ (by omega)⟩
      have h3 : 0 ≤ p / (bs.length : Int) ∧ p / (bs.length : Int) ≤ p := ⟨Int.ediv_nonneg (by omega) (by omega), Int.ediv_le_self _ (by omega)⟩
      obtain ⟨b1, hb1, hc1⟩ := byte (p % (bs.length : Int)).toNat (by omega)
      obtain ⟨b2, hb2, hc2⟩ := byte ((p * 7 + 3) % (bs.length : Int)).toNat (by omega)
      have hcv1 := conv_byte hc1
      have hcv2 := conv_byte hc2
      simp -implicitDefEqProofs (disch := omega) only [List.any_cons, List.any_nil, Nat.reduceEqDiff, List.map_cons, List.map_nil, Option.map_some, Option.map_none, List.nil_append, ↓reduceIte, vcu, ↓vcd, hm0, hm1, Int.add_sub_cancel, hb1, hb2, hcv1, hcv2, abin_xor']
      refine fin_one Try.results75 ?_
      simp -implicitDefEqProofs (disch := omega) only [List.any_cons, List.any_nil, Nat.reduceEqDiff, List.map_cons, List.map_nil, Option.map_some, Option.map_none, List.nil_append, ↓reduceIte, vcu, ↓vcd]
      exact ⟨_, rfl, Int.emod_nonneg _ (by omega), Int.emod_lt_of_pos _ (by omega), hR, hK⟩

theorem odd_at (β σ : AHeap) (g h o : Nat) (bs : List Int) (p n : Int) (hr : Rd β σ g h o bs p) (hp : 0 ≤ p ∧ p ≤ 1000000) (hn : 1 ≤ n ∧ n ≤ 1000000) :
    ACall Try.prog w0 76 [.pointer (some ⟨g, 0, none⟩), .int .i64 n] σ fun r σ' => ∃ b : Bool, r = .bool b ∧ Rd β σ' g h o bs (p + 1) ∧ Kept g σ σ' := by
  refine acall_go mixed Try.func76 rfl good76 fun pr => ?_
  simp -implicitDefEqProofs (disch := omega) only [List.any_cons, List.any_nil, Nat.reduceEqDiff, List.map_cons, List.map_nil, Option.map_some, Option.map_none, List.nil_append, ↓reduceIte, vcu, ↓vcd]
  refine (pick_at β σ g h o bs p n hr hp hn).mono ?_
  rintro r σ' ⟨z, rfl, hz0, hz1, hR, hK⟩
  simp -implicitDefEqProofs (disch := omega) only [List.any_cons, List.any_nil, Nat.reduceEqDiff, List.map_cons, List.map_nil, Option.map_some, Option.map_none, List.nil_append, ↓reduceIte, vcu, ↓vcd, opK_some]
  refine fin_one Try.results76 ⟨decide (z = n - 1), ?_, hR, hK⟩
  simp -implicitDefEqProofs (disch := omega) only [List.any_cons, List.any_nil, Nat.reduceEqDiff, List.map_cons, List.map_nil, Option.map_some, Option.map_none, List.nil_append, ↓reduceIte, vcu, ↓vcd]

end Go.Proofs.Ytpcbgdgfdfpapaa

namespace Go.Proofs.Ytpcbgdgfdfpapaa
open Go Go.Abs Go.RowKit
variable {w0 : World}


theorem appd_gen (A B : List Int) (n : Nat) : appd (ints .i64 A) n (ints .i64 B) = ints .i64 (if n + B.length ≤ A.length then A.take n ++ B ++ A.drop (n + B.length) else A.take n ++ B) := by
  unfold appd
  rw [ints_length, ints_length]
  split
  · unfold lwrite; rw [ints_length]; simp [ints]
  · simp [ints]
theorem insert_eq (ps : List Int) (z : Nat) (v : Int) (hz : z ≤ ps.length) :
    appd (appd (ints .i64 ps) z (ints .i64 [v])) (z + 1) (ints .i64 (ps.drop z)) = ints .i64 (ps.take z ++ [v] ++ ps.drop z) := by
  rw [appd_gen, appd_gen]
  congr 1
  have hl : (ps.take z ++ [v]).length = z + 1 := by simp; omega
  by_cases h : z + [v].length ≤ ps.length
  · rw [if_pos h, if_neg (by simp at h ⊢; omega), List.take_append_of_le_length (by omega), List.take_of_length_le (by omega)]
  · rw [if_neg h]
    have e : z = ps.length := by simp at h; omega
    subst e
    rw [List.take_of_length_le (Nat.le_refl _), List.take_of_length_le (by simp)]
    simp

theorem Rd.keep {β σ τ : AHeap} {g h o : Nat} {bs : List Int} {p : Int} (hr : Rd β σ g h o bs p) (hs : Sub β τ) (hg : τ g = σ g) : Rd β τ g h o bs p :=
  ⟨by rw [hg]; exact hr.at_, hs, hr.free, hr.ints, hr.len, hr.byte⟩

theorem perm_draw (β σ : AHeap) (g h o : Nat) (bs : List Int) (p : Int) (n : Nat) (hr : Rd β σ g h o bs p) (hp : 0 ≤ p ∧ p ≤ 10000) (hn : n ≤ 10) :
    ACall Try.prog w0 84 [.pointer (some ⟨g, 0, none⟩), .int .i64 n] σ fun r σ' => ∃ (q : Nat) (ps : List Int) (p' : Int), r = .slice (some ⟨q, 0, none⟩) n 1 ∧ ps.length = n ∧ σ' q = some ⟨ints .i64 ps, false⟩ ∧ β q = none ∧ q ≠ g ∧ p ≤ p' ∧ p' ≤ p + n ∧ Rd β σ' g h o bs p' := by
  refine acall_go mixed Try.func84 rfl good84 fun pr => ?_
  simp -implicitDefEqProofs (disch := omega) only [List.any_cons, List.any_nil, Nat.reduceEqDiff, List.map_cons, List.map_nil, Option.map_some, Option.map_none, List.nil_append, ↓reduceIte, vcu, ↓vcd]
  refine r_lit_at Try.underlying30 ze3 (out := #[]) (by kernel_rfl) (by kernel_rfl) fun q hq => ?_
  simp -implicitDefEqProofs (disch := omega) only [List.any_cons, List.any_nil, Nat.reduceEqDiff, List.map_cons, List.map_nil, Option.map_some, Option.map_none, List.nil_append, ↓reduceIte, vcu, ↓vcd]
  have hqg : q ≠ g := by rintro rfl; rw [hr.at_] at hq; cases hq
  refine vc_loop mixed (by kernel_rfl) (fun m a τ => ∃ (k q : Nat) (ps : List Int) (p' : Int), m + k = n ∧ a 0 = .pointer (some ⟨g, 0, none⟩) ∧ a 1 = .int .i64 n ∧ a 5 = .slice (some ⟨q, 0, none⟩) k 1 ∧ a 6 = .int .i64 k ∧ ps.length = k ∧ τ q = some ⟨ints .i64 ps, false⟩ ∧ β q = none ∧ q ≠ g ∧ p ≤ p' ∧ p' ≤ p + k ∧ Rd β τ g h o bs p')
    n ⟨0, q, [], p, by simp, rfl, rfl, rfl, rfl, rfl, AHeap.upd_same _ _ _, free_sub hr.sub hq, hqg, by omega, by omega, hr.keep (sub_put hr.sub (free_sub hr.sub hq)) (AHeap.upd_ne _ _ hqg.symm)⟩ ?_
  clear hq hqg q hr
  rintro m a τ ⟨k, q, ps, p', hk, h0, h1, h5, h6, hpl, hqv, hqf, hqg, hp1, hp2, hr⟩
  by_cases hlt : k < n
  · simp -implicitDefEqProofs (disch := omega) only [List.any_cons, List.any_nil, Nat.reduceEqDiff, List.map_cons, List.map_nil, Option.map_some, Option.map_none, List.nil_append, ↓reduceIte, vcu, ↓vcd, h0, h1, h5, h6]
    refine (pick_at β _ g h o bs p' ((k : Int) + 1) hr (by omega) (by omega)).mono ?_
    rintro r τ1 ⟨z, rfl, hz0, hz1, hR, hK⟩
    have hqv1 := hK q _ hqg hqv
    obtain ⟨zt, rfl⟩ : ∃ zt : Nat, z = zt := ⟨z.toNat, by omega⟩
    have hzk : zt ≤ k := by omega
    simp -implicitDefEqProofs (disch := omega) only [List.any_cons, List.any_nil, Nat.reduceEqDiff, List.map_cons, List.map_nil, Option.map_some, Option.map_none, List.nil_append, ↓reduceIte, vcu, ↓vcd, opK_some, h0, h1, h5, h6, Int.toNat_natCast]
    refine r_lit_at Try.underlying30 ze3 (out := #[]) (by kernel_rfl) (by kernel_rfl) fun e1 he1 => ?_
    simp -implicitDefEqProofs (disch := omega) only [List.any_cons, List.any_nil, Nat.reduceEqDiff, List.map_cons, List.map_nil, Option.map_some, Option.map_none, List.nil_append, ↓reduceIte, vcu, ↓vcd, h5, Int.toNat_natCast]
    have hdl : (ps.drop zt).length = k - zt := by simp [hpl]
    refine r_append_at Try.underlying30 Try.underlying30 (i := Try.t3) (z := .int .i64 0) (ys := ints .i64 (ps.drop zt)) (h := e1) (b := 0) (len := 0) (ob := ⟨[], false⟩) rfl rfl ?_ (by simp -implicitDefEqProofs (disch := omega) only [List.any_cons, List.any_nil, Nat.reduceEqDiff, List.map_cons, List.map_nil, Option.map_some, Option.map_none, List.nil_append, ↓reduceIte, vcu, ↓vcd, co3]; rfl) (AHeap.upd_same _ _ _) rfl (by simp) ?_ ?_ fun r1 hr1 => ?_
    · simp -implicitDefEqProofs (disch := omega) only [List.any_cons, List.any_nil, Nat.reduceEqDiff, List.map_cons, List.map_nil, Option.map_some, Option.map_none, List.nil_append, ↓reduceIte, vcu, ↓vcd]
      have hq2 : (τ1.upd e1 (some ⟨[], false⟩)) q = some ⟨ints .i64 ps, false⟩ := put_other hqv1 he1
      have hA := acells_at (k := .i64) (o := 0 + zt) (xs := ps.drop zt) ((intsAt_own hq2).drop zt) ⟨_, hq2, by rw [ints_length, hdl]; omega⟩
      rw [hdl] at hA
      exact hA
    · exact ints_one _ _
    · rw [ints_length, hdl]
      show (0 * 1 + (k - zt)) * 8 ≤ _ ∧ 0 * 1 + (k - zt) ≤ _
      omega
    have ea : appd (List.drop 0 ([] : List Value)) (0 * Try.t3.size) (ints .i64 (ps.drop zt)) = ints .i64 (ps.drop zt) := by
      have := appd_gen [] (ps.drop zt) 0
      rw [show (0 * Try.t3.size) = 0 from Nat.zero_mul _]
      rw [show (List.drop 0 ([] : List Value)) = ints .i64 [] from rfl, this]
      congr 1
      split
      · rename_i hh; have : ps.drop zt = [] := List.eq_nil_of_length_eq_zero (by simp at hh ⊢; omega)
        simp [this]
      · simp
    rw [ea]
    have hr1' : τ1 r1 = none := free_sub (sub_upd he1) hr1
    have hr1n : r1 ≠ q := by rintro rfl; rw [hqv1] at hr1'; cases hr1'
    have hr1g : r1 ≠ g := by rintro rfl; rw [hR.at_] at hr1'; cases hr1'
    have he1g : e1 ≠ g := by rintro rfl; rw [hR.at_] at he1; cases he1
    have he1q : e1 ≠ q := by rintro rfl; rw [hqv1] at he1; cases he1
    generalize hH : ((τ1.upd e1 (some ⟨[], false⟩)).upd e1 none).upd r1 (some ⟨ints .i64 (ps.drop zt), false⟩) = H
    have Hs : Sub β H := by rw [← hH]; exact sub_put (sub_put (sub_put hR.sub (free_sub hR.sub he1)) (free_sub hR.sub he1)) (free_sub hR.sub hr1')
    have Hq : H q = some ⟨ints .i64 ps, false⟩ := by rw [← hH, AHeap.upd_ne _ _ hr1n.symm, AHeap.upd_ne _ _ he1q.symm, AHeap.upd_ne _ _ he1q.symm]; exact hqv1
    have Hg : H g = τ1 g := by rw [← hH, AHeap.upd_ne _ _ hr1g.symm, AHeap.upd_ne _ _ he1g.symm, AHeap.upd_ne _ _ he1g.symm]
    have Hr : H r1 = some ⟨ints .i64 (ps.drop zt), false⟩ := by rw [← hH]; exact AHeap.upd_same _ _ _
    have Hrf : β r1 = none := free_sub hR.sub hr1'
    have HR := hR.keep Hs Hg
    have hlen1 : (ints .i64 (ps.drop zt)).length / Try.t3.size = k - zt := by rw [ints_length, hdl]; exact Nat.div_one _
    have hsz : Try.t3.size = 1 := rfl
    clear hH hr1 hr1' he1g he1q he1 ea
    have hlk : (ints .i64 [(k : Int)]).length / Try.t3.size = 1 := by rw [hsz, ints_length, Nat.div_one]; rfl
    simp -implicitDefEqProofs (disch := omega) only [List.any_cons, List.any_nil, Nat.reduceEqDiff, List.map_cons, List.map_nil, Option.map_some, Option.map_none, List.nil_append, ↓reduceIte, vcu, ↓vcd, h5, h6, Int.toNat_natCast, hlen1, hsz, Nat.zero_add]
    refine r_lit_at Try.underlying30 ze3 (out := #[.int .i64 k]) (by simp -implicitDefEqProofs (disch := omega) only [List.any_cons, List.any_nil, Nat.reduceEqDiff, List.map_cons, List.map_nil, Option.map_some, Option.map_none, List.nil_append, ↓reduceIte, vcu, ↓vcd, h6]; kernel_rfl) (by kernel_rfl) fun e2 he2 => ?_
    simp -implicitDefEqProofs (disch := omega) only [List.any_cons, List.any_nil, Nat.reduceEqDiff, List.map_cons, List.map_nil, Option.map_some, Option.map_none, List.nil_append, ↓reduceIte, vcu, ↓vcd]
    have Hq2 : (H.upd e2 (some ⟨[.int .i64 k], false⟩)) q = some ⟨ints .i64 ps, false⟩ := put_other Hq he2
    refine r_append_at Try.underlying30 Try.underlying30 (i := Try.t3) (z := .int .i64 0) (ys := ints .i64 [(k : Int)]) (h := q) (b := 0) (len := zt) (ob := ⟨ints .i64 ps, false⟩) rfl rfl ?_ (by simp -implicitDefEqProofs (disch := omega) only [List.any_cons, List.any_nil, Nat.reduceEqDiff, List.map_cons, List.map_nil, Option.map_some, Option.map_none, List.nil_append, ↓reduceIte, vcu, ↓vcd]; rfl) Hq2 rfl ?_ ?_ ?_ fun q1 hq1 => ?_
    · simp -implicitDefEqProofs (disch := omega) only [List.any_cons, List.any_nil, Nat.reduceEqDiff, List.map_cons, List.map_nil, Option.map_some, Option.map_none, List.nil_append, ↓reduceIte, vcu, ↓vcd, co3]
      exact acells_at (k := .i64) (o := 0) (xs := [(k : Int)]) (intsAt_own (AHeap.upd_same _ _ _)) ⟨_, AHeap.upd_same _ _ _, by simp⟩
    · show 0 + zt * 1 ≤ (ints .i64 ps).length
      rw [ints_length]; omega
    · rfl
    · show (zt * 1 + 1) * 8 ≤ _ ∧ zt * 1 + 1 ≤ _
      omega
    have hq1' : H q1 = none := free_sub (sub_upd he2) hq1
    have he2q : e2 ≠ q := by rintro rfl; rw [Hq] at he2; cases he2
    have he2r : e2 ≠ r1 := by rintro rfl; rw [Hr] at he2; cases he2
    have he2g : e2 ≠ g := by rintro rfl; rw [HR.at_] at he2; cases he2
    have hq1r : q1 ≠ r1 := by rintro rfl; rw [Hr] at hq1'; cases hq1'
    have hq1g : q1 ≠ g := by rintro rfl; rw [HR.at_] at hq1'; cases hq1'
    have hc1 : (some ⟨appd (List.drop 0 (ints .i64 ps)) (zt * Try.t3.size) (ints .i64 [(k : Int)]), false⟩ : Option AObj) = some ⟨appd (ints .i64 ps) zt (ints .i64 [(k : Int)]), false⟩ := by
      rw [List.drop_zero, hsz, Nat.mul_one]
    rw [hc1]
    generalize hJ : ((H.upd e2 (some ⟨[.int .i64 k], false⟩)).upd q none).upd q1 (some ⟨appd (ints .i64 ps) zt (ints .i64 [(k : Int)]), false⟩) = J
    have Js : Sub β J := by rw [← hJ]; exact sub_put (sub_put (sub_put Hs (free_sub Hs he2)) hqf) (free_sub Hs hq1')
    have Jg : J g = H g := by rw [← hJ, AHeap.upd_ne _ _ hq1g.symm, AHeap.upd_ne _ _ hqg.symm, AHeap.upd_ne _ _ he2g.symm]
    have Jr : J r1 = some ⟨ints .i64 (ps.drop zt), false⟩ := by rw [← hJ, AHeap.upd_ne _ _ hq1r.symm, AHeap.upd_ne _ _ hr1n, AHeap.upd_ne _ _ he2r.symm]; exact Hr
    have Jq : J q1 = some ⟨appd (ints .i64 ps) zt (ints .i64 [(k : Int)]), false⟩ := by rw [← hJ]; exact AHeap.upd_same _ _ _
    have Jqf : β q1 = none := free_sub Hs hq1'
    have JR := HR.keep Js Jg
    clear hJ hq1 hq1' he2q he2r he2g he2 Hq2 hc1
    simp -implicitDefEqProofs (disch := omega) only [List.any_cons, List.any_nil, Nat.reduceEqDiff, List.map_cons, List.map_nil, Option.map_some, Option.map_none, List.nil_append, ↓reduceIte, vcu, ↓vcd]
    refine r_append_at Try.underlying30 Try.underlying30 (i := Try.t3) (z := .int .i64 0) (ys := ints .i64 (ps.drop zt)) (h := q1) (b := 0) (len := zt + 1) (ob := ⟨appd (ints .i64 ps) zt (ints .i64 [(k : Int)]), false⟩) rfl rfl ?_ (by simp -implicitDefEqProofs (disch := omega) only [List.any_cons, List.any_nil, Nat.reduceEqDiff, List.map_cons, List.map_nil, Option.map_some, Option.map_none, List.nil_append, ↓reduceIte, vcu, ↓vcd, hlk]) Jq rfl ?_ (ints_one _ _) ?_ fun q2 hq2 => ?_
    · have hA := acells_at (k := .i64) (o := 0) (xs := ps.drop zt) (intsAt_own Jr) ⟨_, Jr, by rw [ints_length]; omega⟩
      rw [hdl] at hA
      simp -implicitDefEqProofs (disch := omega) only [List.any_cons, List.any_nil, Nat.reduceEqDiff, List.map_cons, List.map_nil, Option.map_some, Option.map_none, List.nil_append, ↓reduceIte, vcu, ↓vcd, ints_length, hdl, Nat.div_one]
      exact hA
    · show 0 + (zt + 1) * 1 ≤ _
      rw [appd_gen, ints_length]
      split
      · simp; omega
      · simp; omega
    · rw [ints_length, hdl]
      show ((zt + 1) * 1 + (k - zt)) * 8 ≤ _ ∧ (zt + 1) * 1 + (k - zt) ≤ _
      omega
    have eb : appd (List.drop 0 (appd (ints .i64 ps) zt (ints .i64 [(k : Int)]))) ((zt + 1) * Try.t3.size) (ints .i64 (ps.drop zt)) = ints .i64 (ps.take zt ++ [(k : Int)] ++ ps.drop zt) := by
      rw [List.drop_zero, hsz, Nat.mul_one]; exact insert_eq ps zt k (by omega)
    rw [eb]
    have hq2g : q2 ≠ g := by rintro rfl; rw [JR.at_] at hq2; cases hq2
    have hq2f := free_sub Js hq2
    have hlen2 : zt + 1 + (ints .i64 (ps.drop zt)).length / Try.t3.size = k + 1 := by rw [hlen1]; omega
    have hlen3 : zt + 1 + (k - zt) = k + 1 := by omega
    simp -implicitDefEqProofs (disch := omega) only [List.any_cons, List.any_nil, Nat.reduceEqDiff, List.map_cons, List.map_nil, Option.map_some, Option.map_none, List.nil_append, ↓reduceIte, vcu, ↓vcd, h0, h1, h6, hsz, ints_length, hdl, Nat.div_one, hlen3]
    exact ⟨m - 1, by omega, k + 1, q2, _, p' + 1, by omega, trivial, trivial, rfl, by simp, by simp; omega, AHeap.upd_same _ _ _, hq2f, hq2g, by omega, by omega, JR.keep (sub_put (sub_put Js Jqf) hq2f) (by rw [AHeap.upd_ne _ _ hq2g.symm, AHeap.upd_ne _ _ hq1g.symm])⟩
  · simp -implicitDefEqProofs (disch := omega) only [List.any_cons, List.any_nil, Nat.reduceEqDiff, List.map_cons, List.map_nil, Option.map_some, Option.map_none, List.nil_append, ↓reduceIte, vcu, ↓vcd, h0, h1, h5, h6]
    have e : k = n := by omega
    subst e
    refine fin_one Try.results84 ⟨q, ps, p', ?_, hpl, hqv, hqf, hqg, hp1, hp2, hr⟩
    simp -implicitDefEqProofs (disch := omega) only [List.any_cons, List.any_nil, Nat.reduceEqDiff, List.map_cons, List.map_nil, Option.map_some, Option.map_none, List.nil_append, ↓reduceIte, vcu, ↓vcd, h5]



theorem appd_end (A B : List Int) : appd (ints .i64 A) A.length (ints .i64 B) = ints .i64 (A ++ B) := by
  rw [appd_gen]
  split
  · rename_i h
    have : B = [] := List.eq_nil_of_length_eq_zero (by omega)
    subst this; simp
  · rw [List.take_of_length_le (Nat.le_refl _)]

end Go.Proofs.Ytpcbgdgfdfpapaa

namespace Go.Proofs.Ytpcbgdgfdfpapaa
open Go Go.Abs Go.RowKit
variable {w0 : World}

/-- nil, or a row of its own that is newer than β -/
def OwnI (β σ : AHeap) (v : Value) (xs : List Int) : Prop := (v = .slice none 0 0 ∧ xs = []) ∨ ∃ g, v = .slice (some ⟨g, 0, none⟩) xs.length 1 ∧ σ g = some ⟨ints .i64 xs, false⟩ ∧ β g = none
theorem OwnI.ints {β σ : AHeap} {v : Value} {xs : List Int} (h : OwnI β σ v xs) : Ints .i64 σ v xs := h.imp id fun ⟨g, e, hg, _⟩ => ⟨g, 0, e, intsAt_own hg⟩
theorem OwnI.sub {β σ τ : AHeap} {v : Value} {xs : List Int} (h : OwnI β σ v xs) (hs : Sub σ τ) : OwnI β τ v xs := h.imp id fun ⟨g, e, hg, hn⟩ => ⟨g, e, hs _ _ hg, hn⟩
theorem OwnI.kept {β σ τ : AHeap} {v : Value} {xs : List Int} {k : Nat} {ob : AObj} (h : OwnI β σ v xs) (hk : Kept k σ τ) (hb : β k = some ob) : OwnI β τ v xs := h.imp id fun ⟨g, e, hg, hn⟩ => ⟨g, e, hk.at hg (ne_of hn hb), hn⟩

def seq (k : Int) (n : Nat) : List Int := (List.range n).map fun (i : Nat) => k + i
theorem seq_length (k : Int) (n : Nat) : (seq k n).length = n := by simp [seq]
theorem seq_getD {k : Int} {n i : Nat} (h : i < n) : (seq k n).getD i 0 = k + i := by simp [seq, List.getD, h]
theorem seq_succ (k : Int) (n : Nat) : seq k (n + 1) = seq k n ++ [k + n] := by simp [seq, List.range_succ]
theorem set_seq {k : Int} {ys : List Int} {i : Nat} (h : i < ys.length) : (seq k i ++ ys.drop i).set i (k + i) = seq k (i + 1) ++ ys.drop (i + 1) := by
  rw [List.set_append_right _ _ (by rw [seq_length]; omega), seq_length, Nat.sub_self, seq_succ, List.append_assoc]
  congr 1
  rw [List.drop_eq_getElem_cons h]; rfl

theorem mark_own (σ : AHeap) (g : Nat) (ys : List Int) (k : Int) (hg : σ g = some ⟨ints .i64 ys, false⟩) (hl : ys.length ≤ 1048576) (hk : 0 ≤ k ∧ k ≤ 1099511627776) :
    ACall Try.prog w0 73 [.slice (some ⟨g, 0, none⟩) ys.length 1, .int .i64 k] σ fun r σ' => r = .int .i64 (k + ys.length) ∧ Kept g σ σ' ∧ σ' g = some ⟨ints .i64 (seq k ys.length), false⟩ := by
  refine acall_go mixed Try.func73 rfl good73 fun pr => ?_
  simp -implicitDefEqProofs (disch := omega) only [List.any_cons, List.any_nil, Nat.reduceEqDiff, List.map_cons, List.map_nil, Option.map_some, Option.map_none, List.nil_append, ↓reduceIte, vcu, ↓vcd]
  refine vc_loop_c mixed (by kernel_rfl) [0] (fun m a σ' => ∃ i : Nat, m + i = ys.length ∧ a 1 = .int .i64 (k + i) ∧ a 5 = .int .i64 i ∧ Kept g σ σ' ∧ σ' g = some ⟨ints .i64 (seq k i ++ ys.drop i), false⟩) ys.length ⟨0, by simp, by simp [fset, aenter], rfl, Kept.refl _ _, by simpa [seq] using hg⟩ ?_
  rintro m a σ' hc ⟨i, hi, h1, h5, hkp, hgk⟩
  simp -implicitDefEqProofs (disch := omega) only [List.any_cons, List.any_nil, Nat.reduceEqDiff, List.map_cons, List.map_nil, Option.map_some, Option.map_none, List.nil_append, ↓reduceIte, vcu, ↓vcd] at hc
  obtain ⟨h0, -⟩ := hc
  by_cases hlt : i < ys.length
  · have hll : (seq k i ++ ys.drop i).length = ys.length := by simp [seq_length]; omega
    simp -implicitDefEqProofs (disch := omega) only [List.any_cons, List.any_nil, Nat.reduceEqDiff, List.map_cons, List.map_nil, Option.map_some, Option.map_none, List.nil_append, ↓reduceIte, vcu, ↓vcd, h0, h1, h5]
    refine r_setI (g := g) (i := 0 + i) (v := k + i) (by simp -implicitDefEqProofs (disch := omega) only [List.any_cons, List.any_nil, Nat.reduceEqDiff, List.map_cons, List.map_nil, Option.map_some, Option.map_none, List.nil_append, ↓reduceIte, vcu, ↓vcd, h0]) (by simp -implicitDefEqProofs (disch := omega) only [List.any_cons, List.any_nil, Nat.reduceEqDiff, List.map_cons, List.map_nil, Option.map_some, Option.map_none, List.nil_append, ↓reduceIte, vcu, ↓vcd]) co3 hgk (by omega) fun τ1 k1 e1 => ?_
    rw [Nat.zero_add, set_seq hlt] at e1
    simp -implicitDefEqProofs (disch := omega) only [List.any_cons, List.any_nil, Nat.reduceEqDiff, List.map_cons, List.map_nil, Option.map_some, Option.map_none, List.nil_append, ↓reduceIte, vcu, ↓vcd, h0, h1, h5]
    refine ⟨⟨trivial, trivial⟩, m - 1, by omega, i + 1, by omega, ?_, by simp, hkp.trans k1, e1⟩
    congr 1; omega
  · simp -implicitDefEqProofs (disch := omega) only [List.any_cons, List.any_nil, Nat.reduceEqDiff, List.map_cons, List.map_nil, Option.map_some, Option.map_none, List.nil_append, ↓reduceIte, vcu, ↓vcd, h0, h1, h5]
    have e : i = ys.length := by omega
    subst e
    refine fin_one Try.results73 ⟨?_, hkp, by simpa using hgk⟩
    simp -implicitDefEqProofs (disch := omega) only [List.any_cons, List.any_nil, Nat.reduceEqDiff, List.map_cons, List.map_nil, Option.map_some, Option.map_none, List.nil_append, ↓reduceIte, vcu, ↓vcd, h1]
theorem held_at (σ : AHeap) (g o n : Nat) (k : Int) (hv : IntsAt .i64 σ g o (seq k n)) (hl : n ≤ 1048576) (hk : 0 ≤ k ∧ k ≤ 1099511627776) :
    ACall Try.prog w0 74 [.slice (some ⟨g, o, none⟩) n 1, .int .i64 k] σ fun r σ' => r = .int .i64 (k + n) ∧ σ' = σ := by
  refine acall_go mixed Try.func74 rfl good74 fun pr => ?_
  simp -implicitDefEqProofs (disch := omega) only [List.any_cons, List.any_nil, Nat.reduceEqDiff, List.map_cons, List.map_nil, Option.map_some, Option.map_none, List.nil_append, ↓reduceIte, vcu, ↓vcd]
  refine vc_loop_c mixed (by kernel_rfl) [0] (fun m a σ' => ∃ i : Nat, m + i = n ∧ a 1 = .int .i64 (k + i) ∧ a 5 = .int .i64 i ∧ σ' = σ) n ⟨0, by simp, by simp [fset, aenter], rfl, rfl⟩ ?_
  rintro m a σ' hc ⟨i, hi, h1, h5, rfl⟩
  simp -implicitDefEqProofs (disch := omega) only [List.any_cons, List.any_nil, Nat.reduceEqDiff, List.map_cons, List.map_nil, Option.map_some, Option.map_none, List.nil_append, ↓reduceIte, vcu, ↓vcd] at hc
  obtain ⟨h0, -⟩ := hc
  by_cases hlt : i < n
  · have hx := hv i (by rw [seq_length]; exact hlt)
    rw [seq_getD hlt] at hx
    simp -implicitDefEqProofs (disch := omega) only [List.any_cons, List.any_nil, Nat.reduceEqDiff, List.map_cons, List.map_nil, Option.map_some, Option.map_none, List.nil_append, ↓reduceIte, vcu, ↓vcd, h0, h1, h5, hx]
    refine ⟨⟨trivial, trivial⟩, m - 1, by omega, i + 1, by omega, ?_, by simp, trivial⟩
    congr 1; omega
  · simp -implicitDefEqProofs (disch := omega) only [List.any_cons, List.any_nil, Nat.reduceEqDiff, List.map_cons, List.map_nil, Option.map_some, Option.map_none, List.nil_append, ↓reduceIte, vcu, ↓vcd, h0, h1, h5]
    have e : i = n := by omega
    subst e
    refine fin_one Try.results74 ⟨?_, rfl⟩
    simp -implicitDefEqProofs (disch := omega) only [List.any_cons, List.any_nil, Nat.reduceEqDiff, List.map_cons, List.map_nil, Option.map_some, Option.map_none, List.nil_append, ↓reduceIte, vcu, ↓vcd, h1]
theorem markI_calls (β σ : AHeap) (v : Value) (xs : List Int) (k : Int) (hv : OwnI β σ v xs) (hl : xs.length ≤ 1048576) (hk : 0 ≤ k ∧ k ≤ 1099511627776) :
    ACall Try.prog w0 73 [v, .int .i64 k] σ fun r σ' => r = .int .i64 (k + xs.length) ∧ OwnI β σ' v (seq k xs.length) ∧ (∀ h ob, β h = some ob → σ h = some ob → σ' h = some ob) := by
  rcases hv with ⟨rfl, rfl⟩ | ⟨g, rfl, hg, hn⟩
  · refine ACall.nil_arg (pre := []) (z := 1) (by kernel_rfl) fun g hg => ?_
    refine (mark_own _ g [] k (AHeap.upd_same _ _ _) (by simp) hk).mono ?_
    rintro r σ' ⟨rfl, h1, h2⟩
    exact ⟨rfl, .inl ⟨rfl, rfl⟩, fun h ob _ e => h1 h ob (ne_of' hg e) (sub_upd hg h ob e)⟩
  · refine (mark_own σ g xs k hg hl hk).mono ?_
    rintro r σ' ⟨rfl, h1, h2⟩
    exact ⟨rfl, .inr ⟨g, by rw [seq_length], h2, hn⟩, fun h ob hb e => h1 h ob (ne_of' hn hb) e⟩
theorem heldI_calls (σ : AHeap) (v : Value) (n : Nat) (k : Int) (hv : Ints .i64 σ v (seq k n)) (hl : n ≤ 1048576) (hk : 0 ≤ k ∧ k ≤ 1099511627776) :
    ACall Try.prog w0 74 [v, .int .i64 k] σ fun r σ' => r = .int .i64 (k + n) ∧ σ' = σ :=
  ACall.ints_quiet (pre := []) (by kernel_rfl) hv fun σ1 g o _ hg => by
    rw [seq_length]; exact held_at σ1 g o n k hg hl hk

theorem clone_at (σ : AHeap) (h o : Nat) (xs : List Int) (hv : IntsAt .i64 σ h o xs) (hl : xs.length ≤ 1048576) :
    ACall Try.prog w0 77 [.slice (some ⟨h, o, none⟩) xs.length 1] σ fun r σ' => Sub σ σ' ∧ OwnI σ σ' r xs := by
  refine acall_go mixed Try.func77 rfl good77 fun pr => ?_
  simp -implicitDefEqProofs (disch := omega) only [List.any_cons, List.any_nil, Nat.reduceEqDiff, List.map_cons, List.map_nil, Option.map_some, Option.map_none, List.nil_append, ↓reduceIte, vcu, ↓vcd]
  refine r_nilEq (b := some ⟨h, o, none⟩) (l := xs.length) (z := 1) Try.underlying30 (by simp -implicitDefEqProofs (disch := omega) only [List.any_cons, List.any_nil, Nat.reduceEqDiff, List.map_cons, List.map_nil, Option.map_some, Option.map_none, List.nil_append, ↓reduceIte, vcu, ↓vcd]) fun c _ h2 => ?_
  cases c with
  | true =>
    simp -implicitDefEqProofs (disch := omega) only [List.any_cons, List.any_nil, Nat.reduceEqDiff, List.map_cons, List.map_nil, Option.map_some, Option.map_none, List.nil_append, ↓reduceIte, vcu, ↓vcd]
    have : xs = [] := by
      cases xs with
      | nil => rfl
      | cons x xs => have := h2 (by simp); cases this
    subst this
    refine fin_one Try.results77 ⟨Sub.refl _, .inl ⟨?_, rfl⟩⟩
    simp -implicitDefEqProofs (disch := omega) only [List.any_cons, List.any_nil, Nat.reduceEqDiff, List.map_cons, List.map_nil, Option.map_some, Option.map_none, List.nil_append, ↓reduceIte, vcu, ↓vcd]
  | false =>
    simp -implicitDefEqProofs (disch := omega) only [List.any_cons, List.any_nil, Nat.reduceEqDiff, List.map_cons, List.map_nil, Option.map_some, Option.map_none, List.nil_append, ↓reduceIte, vcu, ↓vcd]
    refine r_lit el30 (out := #[]) (by kernel_rfl) (by kernel_rfl) fun e1 τ1 n1 s1 v1 => ?_
    simp -implicitDefEqProofs (disch := omega) only [List.any_cons, List.any_nil, Nat.reduceEqDiff, List.map_cons, List.map_nil, Option.map_some, Option.map_none, List.nil_append, ↓reduceIte, vcu, ↓vcd]
    refine r_pushI (g := e1) (e := h) (o := o) (k := .i64) (xs := []) (ys := xs) (m := xs.length) (len := 0) el30 (by omega) sl30 (by simp -implicitDefEqProofs (disch := omega) only [List.any_cons, List.any_nil, Nat.reduceEqDiff, List.map_cons, List.map_nil, Option.map_some, Option.map_none, List.nil_append, ↓reduceIte, vcu, ↓vcd]) v1 rfl (by simp -implicitDefEqProofs (disch := omega) only [List.any_cons, List.any_nil, Nat.reduceEqDiff, List.map_cons, List.map_nil, Option.map_some, Option.map_none, List.nil_append, ↓reduceIte, vcu, ↓vcd]) (hv.sub s1) rfl (by omega) fun g τ2 n2 k2 v2 => ?_
    rw [List.nil_append] at v2
    simp -implicitDefEqProofs (disch := omega) only [List.any_cons, List.any_nil, Nat.reduceEqDiff, List.map_cons, List.map_nil, Option.map_some, Option.map_none, List.nil_append, ↓reduceIte, vcu, ↓vcd, Nat.zero_add]
    refine fin_one Try.results77 ⟨k2.sub s1 n1, .inr ⟨g, ?_, v2, free_sub s1 n2⟩⟩
    simp -implicitDefEqProofs (disch := omega) only [List.any_cons, List.any_nil, Nat.reduceEqDiff, List.map_cons, List.map_nil, Option.map_some, Option.map_none, List.nil_append, ↓reduceIte, vcu, ↓vcd]


def rowV (q : Nat) (row : List Int) : Value := .slice (some ⟨q, 0, none⟩) row.length 1
def rowVs (q : Nat → Nat) (rows : List (List Int)) : List Value := (List.range rows.length).map fun i => rowV (q i) (rows.getD i [])
theorem rowVs_length (q : Nat → Nat) (rows : List (List Int)) : (rowVs q rows).length = rows.length := by simp [rowVs]
theorem rowVs_get {q : Nat → Nat} {rows : List (List Int)} {i : Nat} (h : i < rows.length) : (rowVs q rows)[i]? = some (rowV (q i) (rows.getD i [])) := by simp [rowVs, h]
/-- a table of its own, newer than β: rows of their own, each another one -/
structure OwnT (β σ : AHeap) (g : Nat) (q : Nat → Nat) (rows : List (List Int)) : Prop where
  at_ : σ g = some ⟨rowVs q rows, false⟩
  new : β g = none
  row : ∀ i, i < rows.length → σ (q i) = some ⟨ints .i64 (rows.getD i []), false⟩
  free : ∀ i, i < rows.length → β (q i) = none
  ne : ∀ i, i < rows.length → q i ≠ g
  inj : ∀ i j, i < rows.length → j < rows.length → q i = q j → i = j
theorem OwnT.get {β σ : AHeap} {g : Nat} {q : Nat → Nat} {rows : List (List Int)} (h : OwnT β σ g q rows) {i : Nat} (hi : i < rows.length) : ld σ g (0 + i) = some (.slice (some ⟨q i, 0, none⟩) (rows.getD i []).length 1) := by
  unfold ld; rw [h.at_, Nat.zero_add]; exact rowVs_get hi
theorem OwnT.rows {β σ : AHeap} {g : Nat} {q : Nat → Nat} {rows : List (List Int)} (h : OwnT β σ g q rows) : RowsAt σ g 0 rows := fun i hi => ⟨_, h.get hi, .inr ⟨q i, 0, rfl, intsAt_own (h.row i hi)⟩⟩
theorem OwnT.keep {β σ τ : AHeap} {g : Nat} {q : Nat → Nat} {rows : List (List Int)} (h : OwnT β σ g q rows) (hk : ∀ k ob, β k = none → σ k = some ob → τ k = some ob) : OwnT β τ g q rows :=
  ⟨hk _ _ h.new h.at_, h.new, fun i hi => hk _ _ (h.free i hi) (h.row i hi), h.free, h.ne, h.inj⟩
theorem OwnT.sub {β σ τ : AHeap} {g : Nat} {q : Nat → Nat} {rows : List (List Int)} (h : OwnT β σ g q rows) (hs : Sub σ τ) : OwnT β τ g q rows := h.keep fun k ob _ e => hs k ob e
theorem OwnT.base {β β' σ : AHeap} {g : Nat} {q : Nat → Nat} {rows : List (List Int)} (h : OwnT β σ g q rows) (hs : Sub β' β) : OwnT β' σ g q rows :=
  ⟨h.at_, free_sub hs h.new, h.row, fun i hi => free_sub hs (h.free i hi), h.ne, h.inj⟩
theorem getD_setL {rows : List (List Int)} {i : Nat} (hi : i < rows.length) (ys : List Int) (j : Nat) : (rows.set i ys).getD j [] = if j = i then ys else rows.getD j [] := by
  simp only [List.getD, List.getElem?_set]
  by_cases e : i = j
  · subst e; simp [hi]
  · rw [if_neg e, if_neg (fun h => e h.symm)]
theorem getD_appL (rows : List (List Int)) (ys : List Int) (j : Nat) : (rows ++ [ys]).getD j [] = if j = rows.length then ys else rows.getD j [] := by
  simp only [List.getD, List.getElem?_append]
  by_cases h1 : j < rows.length
  · rw [if_pos h1, if_neg (by omega)]
  · rw [if_neg h1]
    by_cases h2 : j = rows.length
    · subst h2; simp
    · rw [if_neg h2, List.getElem?_eq_none (by simp; omega), List.getElem?_eq_none (by omega)]
/-- one of its rows is written -/
theorem OwnT.write {β σ τ : AHeap} {g : Nat} {q : Nat → Nat} {rows : List (List Int)} (h : OwnT β σ g q rows) {i : Nat} (hi : i < rows.length) {ys : List Int} (hl : ys.length = (rows.getD i []).length)
    (hk : Kept (q i) σ τ) (he : τ (q i) = some ⟨ints .i64 ys, false⟩) : OwnT β τ g q (rows.set i ys) := by
  have hlen : (rows.set i ys).length = rows.length := List.length_set
  refine ⟨?_, h.new, fun j hj => ?_, fun j hj => h.free j (by omega), fun j hj => h.ne j (by omega), fun a b ha hb => h.inj a b (by omega) (by omega)⟩
  · rw [hk.at h.at_ (h.ne i hi).symm]
    congr 2
    unfold rowVs
    rw [hlen]
    apply List.map_congr_left
    intro j hj
    rw [getD_setL hi]
    split
    · rename_i e; subst e; unfold rowV; rw [hl]
    · rfl
  · rw [getD_setL hi]
    split
    · rename_i e; subst e; exact he
    · rename_i e
      exact hk.at (h.row j (by omega)) (fun e2 => e (h.inj j i (by omega) hi e2))
theorem rowVs_push {q : Nat → Nat} {rows : List (List Int)} {r : Nat} {row : List Int} : rowVs (fun i => if i = rows.length then r else q i) (rows ++ [row]) = rowVs q rows ++ [rowV r row] := by
  unfold rowVs
  rw [List.length_append, List.length_singleton, List.range_succ, List.map_append, List.map_singleton, getD_appL, if_pos rfl]
  dsimp only
  rw [if_pos rfl]
  congr 1
  apply List.map_congr_left
  intro j hj
  have hj := List.mem_range.1 hj
  rw [if_neg (by omega), getD_appL, if_neg (by omega)]
/-- a row of its own is put behind the others -/
theorem OwnT.push {β σ τ : AHeap} {g g' r : Nat} {q : Nat → Nat} {rows : List (List Int)} {row : List Int} (h : OwnT β σ g q rows) (hr : σ r = some ⟨ints .i64 row, false⟩) (hb : β r = none) (hg : r ≠ g) (hq : ∀ i, i < rows.length → q i ≠ r)
    (hn : σ g' = none) (hbg : β g' = none) (hk : Kept g σ τ) (he : τ g' = some ⟨rowVs q rows ++ [rowV r row], false⟩) : OwnT β τ g' (fun i => if i = rows.length then r else q i) (rows ++ [row]) := by
  have hl : (rows ++ [row]).length = rows.length + 1 := by simp
  refine ⟨by rw [rowVs_push]; exact he, hbg, fun i hi => ?_, fun i hi => ?_, fun i hi => ?_, fun i j hi hj => ?_⟩
  · rw [getD_appL]
    split
    · exact hk.at hr hg
    · exact hk.at (h.row i (by omega)) (h.ne i (by omega))
  · split
    · exact hb
    · exact h.free i (by omega)
  · split
    · exact ne_of' hn hr
    · exact ne_of' hn (h.row i (by omega))
  · intro e
    split at e
    · split at e
      · omega
      · exact absurd e.symm (hq j (by omega))
    · split at e
      · exact absurd e (hq i (by omega))
      · exact h.inj i j (by omega) (by omega) e
theorem OwnT.nil {β σ : AHeap} {g : Nat} (q : Nat → Nat) (hg : σ g = some ⟨[], false⟩) (hb : β g = none) : OwnT β σ g q [] :=
  ⟨hg, hb, fun i hi => absurd hi (by simp), fun i hi => absurd hi (by simp), fun i hi => absurd hi (by simp), fun i j hi => absurd hi (by simp)⟩
/-- nil, or a table of its own -/
def OwnTV (β σ : AHeap) (v : Value) (rows : List (List Int)) : Prop := (v = .slice none 0 0 ∧ rows = []) ∨ ∃ g q, v = .slice (some ⟨g, 0, none⟩) rows.length 1 ∧ OwnT β σ g q rows
theorem OwnTV.rowsV {β σ : AHeap} {v : Value} {rows : List (List Int)} (h : OwnTV β σ v rows) : RowsV σ v rows := h.imp id fun ⟨g, q, e, ho⟩ => ⟨g, 0, e, ho.rows⟩
theorem OwnTV.keep {β σ τ : AHeap} {v : Value} {rows : List (List Int)} (h : OwnTV β σ v rows) (hk : ∀ k ob, β k = none → σ k = some ob → τ k = some ob) : OwnTV β τ v rows := h.imp id fun ⟨g, q, e, ho⟩ => ⟨g, q, e, ho.keep hk⟩
theorem OwnTV.sub {β σ τ : AHeap} {v : Value} {rows : List (List Int)} (h : OwnTV β σ v rows) (hs : Sub σ τ) : OwnTV β τ v rows := h.keep fun k ob _ e => hs k ob e
theorem OwnTV.base {β β' σ : AHeap} {v : Value} {rows : List (List Int)} (h : OwnTV β σ v rows) (hs : Sub β' β) : OwnTV β' σ v rows := h.imp id fun ⟨g, q, e, ho⟩ => ⟨g, q, e, ho.base hs⟩
/-- all but some rows stay -/
def KeptQ (n : Nat) (q : Nat → Nat) (σ τ : AHeap) : Prop := ∀ h ob, (∀ i, i < n → q i ≠ h) → σ h = some ob → τ h = some ob
theorem KeptQ.sub {n : Nat} {q : Nat → Nat} {b σ τ : AHeap} (h : KeptQ n q σ τ) (hs : Sub b σ) (hn : ∀ i, i < n → b (q i) = none) : Sub b τ := fun k ob e => h k ob (fun i hi e2 => by rw [← e2, hn i hi] at e; cases e) (hs k ob e)
/-- what is newer than these rows stays -/
theorem KeptQ.newer {n : Nat} {q : Nat → Nat} {β σ τ : AHeap} (h : KeptQ n q σ τ) (hn : ∀ i, i < n → ∃ ob, β (q i) = some ob) : ∀ k ob, β k = none → σ k = some ob → τ k = some ob := fun k ob hb e => h k ob (fun i hi e2 => by
  obtain ⟨ob', ho⟩ := hn i hi
  rw [e2, hb] at ho; cases ho) e

theorem toRowsO_at (σ : AHeap) (h o : Nat) (rows : List (List Int)) (hv : RowsAt σ h o rows) (hl : rows.length ≤ 1048576) (hr : ∀ i, i < rows.length → (rows.getD i []).length ≤ 1048576) :
    ACall Try.prog w0 46 [.slice (some ⟨h, o, none⟩) rows.length 1] σ fun r σ' => ∃ g q, r = .slice (some ⟨g, 0, none⟩) rows.length 1 ∧ Sub σ σ' ∧ OwnT σ σ' g q rows := by
  refine acall_go mixed Try.func46 rfl good46 fun pr => ?_
  simp -implicitDefEqProofs (disch := omega) only [List.any_cons, List.any_nil, Nat.reduceEqDiff, List.map_cons, List.map_nil, Option.map_some, Option.map_none, List.nil_append, ↓reduceIte, vcu, ↓vcd]
  refine r_make (kx := .i64) (ky := .i64) (l := rows.length) (c := rows.length) el23 (by simp -implicitDefEqProofs (disch := omega) only [List.any_cons, List.any_nil, Nat.reduceEqDiff, List.map_cons, List.map_nil, Option.map_some, Option.map_none, List.nil_append, ↓reduceIte, vcu, ↓vcd]) (by simp -implicitDefEqProofs (disch := omega) only [List.any_cons, List.any_nil, Nat.reduceEqDiff, List.map_cons, List.map_nil, Option.map_some, Option.map_none, List.nil_append, ↓reduceIte, vcu, ↓vcd]) (by omega) fun g τ hg hs he => ?_
  rw [azeros_nil] at he
  simp -implicitDefEqProofs (disch := omega) only [List.any_cons, List.any_nil, Nat.reduceEqDiff, List.map_cons, List.map_nil, Option.map_some, Option.map_none, List.nil_append, ↓reduceIte, vcu, ↓vcd]
  refine vc_loop_c mixed (by kernel_rfl) [0, 3] (fun m a σ' => ∃ (k : Nat) (q : Nat → Nat), m + k = rows.length ∧ a 4 = .int .i64 k ∧ Sub σ σ' ∧ σ' g = some ⟨rowVs q (rows.take k) ++ List.replicate (rows.length - k) (.slice none 0 0), false⟩ ∧
    (∀ i, i < k → σ' (q i) = some ⟨ints .i64 (rows.getD i []), false⟩ ∧ σ (q i) = none ∧ q i ≠ g) ∧ ∀ i j, i < k → j < k → q i = q j → i = j) rows.length ⟨0, fun _ => 0, by simp, rfl, hs, by simpa [rowVs] using he, by simp, by simp⟩ ?_
  rintro m a σ' hc ⟨k, q, hk, h4, hsub, hgk, hall, hinj⟩
  simp -implicitDefEqProofs (disch := omega) only [List.any_cons, List.any_nil, Nat.reduceEqDiff, List.map_cons, List.map_nil, Option.map_some, Option.map_none, List.nil_append, ↓reduceIte, vcu, ↓vcd] at hc
  obtain ⟨h0, h3, -⟩ := hc
  by_cases hlt : k < rows.length
  · obtain ⟨v, hx, hi⟩ := (hv.sub hsub) k hlt
    have hrk := hr k hlt
    have htk : rows.take (k + 1) = rows.take k ++ [rows.getD k []] := by
      rw [List.take_succ_eq_append_getElem hlt]; simp [List.getD, hlt]
    generalize hrow : rows.getD k [] = row at hi hrk htk
    simp -implicitDefEqProofs (disch := omega) only [List.any_cons, List.any_nil, Nat.reduceEqDiff, List.map_cons, List.map_nil, Option.map_some, Option.map_none, List.nil_append, ↓reduceIte, vcu, ↓vcd, h0, h3, h4, hx]
    refine (toInts_calls σ' v row hi hrk).mono ?_
    rintro r τ3 ⟨z, nz, rfl, s3, e3⟩
    have hne : z ≠ g := ne_of nz hgk
    simp -implicitDefEqProofs (disch := omega) only [List.any_cons, List.any_nil, Nat.reduceEqDiff, List.map_cons, List.map_nil, Option.map_some, Option.map_none, List.nil_append, ↓reduceIte, vcu, ↓vcd, opK_some, h0, h3, h4]
    refine r_set (g := g) (i := 0 + k) (by simp -implicitDefEqProofs (disch := omega) only [List.any_cons, List.any_nil, Nat.reduceEqDiff, List.map_cons, List.map_nil, Option.map_some, Option.map_none, List.nil_append, ↓reduceIte, vcu, ↓vcd, h3]) (by simp -implicitDefEqProofs (disch := omega) only [List.any_cons, List.any_nil, Nat.reduceEqDiff, List.map_cons, List.map_nil, Option.map_some, Option.map_none, List.nil_append, ↓reduceIte, vcu, ↓vcd]; rfl) co30 (by simp -implicitDefEqProofs (disch := omega) only [List.any_cons, List.any_nil, Nat.reduceEqDiff, List.map_cons, List.map_nil, Option.map_some, Option.map_none, List.nil_append, ↓reduceIte, vcu, ↓vcd]; rfl) (s3 _ _ hgk) (by simp [rowVs_length]; omega) fun τ4 k4 e4 => ?_
    simp -implicitDefEqProofs (disch := omega) only [List.any_cons, List.any_nil, Nat.reduceEqDiff, List.map_cons, List.map_nil, Option.map_some, Option.map_none, List.nil_append, ↓reduceIte, vcu, ↓vcd, Nat.zero_add] at e4
    rw [set_new (by rw [rowVs_length]; simp; omega) hlt] at e4
    simp -implicitDefEqProofs (disch := omega) only [List.any_cons, List.any_nil, Nat.reduceEqDiff, List.map_cons, List.map_nil, Option.map_some, Option.map_none, List.nil_append, ↓reduceIte, vcu, ↓vcd, h0, h3, h4]
    refine ⟨⟨trivial, trivial, trivial⟩, m - 1, by omega, k + 1, fun i => if i = k then z else q i, by omega, by simp, k4.sub (hsub.trans s3) hg, ?_, fun i hi => ?_, fun i j hi hj => ?_⟩
    · rw [e4, htk]
      have hkl : (rows.take k).length = k := by simp; omega
      have := rowVs_push (q := q) (rows := rows.take k) (r := z) (row := row)
      rw [hkl] at this
      rw [this]; rfl
    · dsimp only
      split
      · rename_i e; subst e
        exact ⟨by rw [hrow]; exact k4.at e3 hne, free_sub hsub nz, hne⟩
      · obtain ⟨b1, b2, b3⟩ := hall i (by omega)
        exact ⟨k4.at (s3 _ _ b1) b3, b2, b3⟩
    · dsimp only
      intro e
      split at e
      · split at e
        · omega
        · exact absurd e (ne_of nz (hall j (by omega)).1)
      · split at e
        · exact absurd e (ne_of' nz (hall i (by omega)).1)
        · exact hinj i j (by omega) (by omega) e
  · simp -implicitDefEqProofs (disch := omega) only [List.any_cons, List.any_nil, Nat.reduceEqDiff, List.map_cons, List.map_nil, Option.map_some, Option.map_none, List.nil_append, ↓reduceIte, vcu, ↓vcd, h0, h3, h4]
    have e2 : k = rows.length := by omega
    subst e2
    refine fin_one Try.results46 ⟨g, q, ?_, hsub, ⟨by simpa using hgk, hg, fun i hi => (hall i hi).1, fun i hi => (hall i hi).2.1, fun i hi => (hall i hi).2.2, hinj⟩⟩
    simp -implicitDefEqProofs (disch := omega) only [List.any_cons, List.any_nil, Nat.reduceEqDiff, List.map_cons, List.map_nil, Option.map_some, Option.map_none, List.nil_append, ↓reduceIte, vcu, ↓vcd, h3]

/-- how many numbers the first k rows have -/
def tot (rows : List (List Int)) : Nat → Nat
  | 0 => 0
  | k + 1 => tot rows k + (rows.getD k []).length
theorem tot_le {rows : List (List Int)} (hr : ∀ i, i < rows.length → (rows.getD i []).length ≤ 1048576) : ∀ k, k ≤ rows.length → tot rows k ≤ 1048576 * k
  | 0, _ => by simp [tot]
  | k + 1, hk => by
    have := tot_le hr k (by omega)
    have := hr k (by omega)
    simp only [tot]; omega
/-- the first m rows are marked -/
def mk (rows : List (List Int)) (k : Int) : Nat → List (List Int)
  | 0 => rows
  | m + 1 => (mk rows k m).set m (seq (k + tot rows m) (rows.getD m []).length)
theorem mk_length (rows : List (List Int)) (k : Int) : ∀ m, (mk rows k m).length = rows.length
  | 0 => rfl
  | m + 1 => by rw [mk, List.length_set, mk_length rows k m]
theorem mk_get (rows : List (List Int)) (k : Int) : ∀ m, m ≤ rows.length → ∀ i, (mk rows k m).getD i [] = if i < m then seq (k + tot rows i) (rows.getD i []).length else rows.getD i []
  | 0, _, i => by simp [mk]
  | m + 1, hm, i => by
    rw [mk, getD_setL (by rw [mk_length]; omega), mk_get rows k m (by omega)]
    by_cases e : i = m
    · subst e; rw [if_pos rfl, if_pos (by omega)]
    · rw [if_neg e]
      by_cases h : i < m
      · rw [if_pos h, if_pos (by omega)]
      · rw [if_neg h, if_neg (by omega)]

theorem markRows_at (β σ : AHeap) (g : Nat) (q : Nat → Nat) (rows : List (List Int)) (k : Int) (hv : OwnT β σ g q rows) (hl : rows.length ≤ 1048576) (hr : ∀ i, i < rows.length → (rows.getD i []).length ≤ 1048576) (hk : 0 ≤ k ∧ k ≤ 1048576) :
    ACall Try.prog w0 48 [.slice (some ⟨g, 0, none⟩) rows.length 1, .int .i64 k] σ fun r σ' => r = .int .i64 (k + tot rows rows.length) ∧ OwnT β σ' g q (mk rows k rows.length) ∧ KeptQ rows.length q σ σ' := by
  refine acall_go mixed Try.func48 rfl good48 fun pr => ?_
  simp -implicitDefEqProofs (disch := omega) only [List.any_cons, List.any_nil, Nat.reduceEqDiff, List.map_cons, List.map_nil, Option.map_some, Option.map_none, List.nil_append, ↓reduceIte, vcu, ↓vcd]
  refine vc_loop_c mixed (by kernel_rfl) [0] (fun m a σ' => ∃ i : Nat, m + i = rows.length ∧ a 5 = .int .i64 i ∧ a 1 = .int .i64 (k + tot rows i) ∧ OwnT β σ' g q (mk rows k i) ∧ KeptQ rows.length q σ σ') rows.length ⟨0, by simp, rfl, by simp [fset, aenter, tot], hv, fun _ _ _ e => e⟩ ?_
  rintro m a σ' hc ⟨i, hi, h5, h1, hO, hK⟩
  simp -implicitDefEqProofs (disch := omega) only [List.any_cons, List.any_nil, Nat.reduceEqDiff, List.map_cons, List.map_nil, Option.map_some, Option.map_none, List.nil_append, ↓reduceIte, vcu, ↓vcd] at hc
  obtain ⟨h0, -⟩ := hc
  have hb := tot_le hr i (by omega)
  by_cases hlt : i < rows.length
  · have hil : i < (mk rows k i).length := by rw [mk_length]; exact hlt
    have hx := hO.get hil
    have hrow := hO.row i hil
    have hri := hr i hlt
    have hts : tot rows (i + 1) = tot rows i + (rows.getD i []).length := rfl
    rw [mk_get rows k i (by omega), if_neg (by omega)] at hx hrow
    simp -implicitDefEqProofs (disch := omega) only [List.any_cons, List.any_nil, Nat.reduceEqDiff, List.map_cons, List.map_nil, Option.map_some, Option.map_none, List.nil_append, ↓reduceIte, vcu, ↓vcd, h0, h1, h5, hx]
    refine (mark_own σ' (q i) (rows.getD i []) (k + tot rows i) hrow hri (by omega)).mono ?_
    rintro r τ ⟨rfl, k1, e1⟩
    simp -implicitDefEqProofs (disch := omega) only [List.any_cons, List.any_nil, Nat.reduceEqDiff, List.map_cons, List.map_nil, Option.map_some, Option.map_none, List.nil_append, ↓reduceIte, vcu, ↓vcd, opK_some, h0, h5]
    refine ⟨⟨trivial, trivial⟩, m - 1, by omega, i + 1, by omega, by simp, ?_, ?_, fun h ob hh e => k1.at (hK h ob hh e) (hh i hlt).symm⟩
    · congr 1; rw [hts]; omega
    · exact hO.write hil (by rw [seq_length, mk_get rows k i (by omega), if_neg (by omega)]) k1 e1
  · simp -implicitDefEqProofs (disch := omega) only [List.any_cons, List.any_nil, Nat.reduceEqDiff, List.map_cons, List.map_nil, Option.map_some, Option.map_none, List.nil_append, ↓reduceIte, vcu, ↓vcd, h0, h1, h5]
    have e : i = rows.length := by omega
    subst e
    refine fin_one Try.results48 ⟨?_, hO, hK⟩
    simp -implicitDefEqProofs (disch := omega) only [List.any_cons, List.any_nil, Nat.reduceEqDiff, List.map_cons, List.map_nil, Option.map_some, Option.map_none, List.nil_append, ↓reduceIte, vcu, ↓vcd, h1]
theorem heldRows_at (σ : AHeap) (g o : Nat) (rows M : List (List Int)) (k : Int) (hM : M.length = rows.length) (hv : RowsAt σ g o M) (hm : ∀ i, i < rows.length → M.getD i [] = seq (k + tot rows i) (rows.getD i []).length) (hl : rows.length ≤ 1048576) (hr : ∀ i, i < rows.length → (rows.getD i []).length ≤ 1048576) (hk : 0 ≤ k ∧ k ≤ 1048576) :
    ACall Try.prog w0 49 [.slice (some ⟨g, o, none⟩) rows.length 1, .int .i64 k] σ fun r σ' => r = .int .i64 (k + tot rows rows.length) ∧ σ' = σ := by
  refine acall_go mixed Try.func49 rfl good49 fun pr => ?_
  simp -implicitDefEqProofs (disch := omega) only [List.any_cons, List.any_nil, Nat.reduceEqDiff, List.map_cons, List.map_nil, Option.map_some, Option.map_none, List.nil_append, ↓reduceIte, vcu, ↓vcd]
  refine vc_loop_c mixed (by kernel_rfl) [0] (fun m a σ' => ∃ i : Nat, m + i = rows.length ∧ a 5 = .int .i64 i ∧ a 1 = .int .i64 (k + tot rows i) ∧ σ' = σ) rows.length ⟨0, by simp, rfl, by simp [fset, aenter, tot], rfl⟩ ?_
  rintro m a σ' hc ⟨i, hi, h5, h1, rfl⟩
  simp -implicitDefEqProofs (disch := omega) only [List.any_cons, List.any_nil, Nat.reduceEqDiff, List.map_cons, List.map_nil, Option.map_some, Option.map_none, List.nil_append, ↓reduceIte, vcu, ↓vcd] at hc
  obtain ⟨h0, -⟩ := hc
  have hb := tot_le hr i (by omega)
  by_cases hlt : i < rows.length
  · obtain ⟨v, hx, hi'⟩ := hv i (by omega)
    rw [hm i hlt] at hi'
    have hri := hr i hlt
    have hts : tot rows (i + 1) = tot rows i + (rows.getD i []).length := rfl
    simp -implicitDefEqProofs (disch := omega) only [List.any_cons, List.any_nil, Nat.reduceEqDiff, List.map_cons, List.map_nil, Option.map_some, Option.map_none, List.nil_append, ↓reduceIte, vcu, ↓vcd, h0, h1, h5, hx]
    refine (heldI_calls σ' v _ (k + tot rows i) hi' hri (by omega)).mono ?_
    rintro r _ ⟨rfl, rfl⟩
    simp -implicitDefEqProofs (disch := omega) only [List.any_cons, List.any_nil, Nat.reduceEqDiff, List.map_cons, List.map_nil, Option.map_some, Option.map_none, List.nil_append, ↓reduceIte, vcu, ↓vcd, opK_some, h0, h5]
    refine ⟨⟨trivial, trivial⟩, m - 1, by omega, i + 1, by omega, by simp, ?_, trivial⟩
    congr 1; rw [hts]; omega
  · simp -implicitDefEqProofs (disch := omega) only [List.any_cons, List.any_nil, Nat.reduceEqDiff, List.map_cons, List.map_nil, Option.map_some, Option.map_none, List.nil_append, ↓reduceIte, vcu, ↓vcd, h0, h1, h5]
    have e : i = rows.length := by omega
    subst e
    refine fin_one Try.results49 ⟨?_, rfl⟩
    simp -implicitDefEqProofs (disch := omega) only [List.any_cons, List.any_nil, Nat.reduceEqDiff, List.map_cons, List.map_nil, Option.map_some, Option.map_none, List.nil_append, ↓reduceIte, vcu, ↓vcd, h1]
end Go.Proofs.Ytpcbgdgfdfpapaa

namespace Go.Proofs.Ytpcbgdgfdfpapaa
open Go Go.Abs Go.RowKit
variable {w0 : World}

/-- what stands at a place -/
def en (T : List (List Int)) (i o : Nat) : Int := (T.getD i []).getD o 0
def bump (T : List (List Int)) (i o : Nat) : List (List Int) := T.set i ((T.getD i []).set o (en T i o + 1))
/-- a square table -/
def Sq (n : Nat) (T : List (List Int)) : Prop := T.length = n ∧ ∀ i, i < n → (T.getD i []).length = n
theorem bump_sq {n : Nat} {T : List (List Int)} (h : Sq n T) {i o : Nat} (hi : i < n) : Sq n (bump T i o) := by
  refine ⟨by simp [bump, h.1], fun j hj => ?_⟩
  unfold bump
  rw [getD_setL (by rw [h.1]; exact hi)]
  split
  · rw [List.length_set]; exact h.2 i hi
  · exact h.2 j hj
theorem en_bump {n : Nat} {T : List (List Int)} (h : Sq n T) {i o : Nat} (hi : i < n) (ho : o < n) (a b : Nat) : en (bump T i o) a b = if a = i ∧ b = o then en T i o + 1 else en T a b := by
  unfold en bump
  rw [getD_setL (by rw [h.1]; exact hi)]
  by_cases e : a = i
  · subst e
    rw [if_pos rfl, getD_set _ (by rw [h.2 a hi]; exact ho)]
    by_cases e2 : b = o
    · subst e2; rw [if_pos rfl, if_pos ⟨rfl, rfl⟩]; rfl
    · rw [if_neg e2, if_neg (fun hh => e2 hh.2)]
  · rw [if_neg e, if_neg (fun hh => e hh.1)]
/-- a list is added, as far as a place -/
def addP (T : List (List Int)) (p : List Int) : Nat → List (List Int)
  | 0 => T
  | j + 1 => bump (addP T p j) j (p.getD j 0).toNat
def zeroT (n : Nat) : List (List Int) := List.replicate n (List.replicate n 0)
def addL (n : Nat) (rows : List (List Int)) : Nat → List (List Int)
  | 0 => zeroT n
  | k + 1 => addP (addL n rows k) (rows.getD k []) n
theorem zeroT_sq (n : Nat) : Sq n (zeroT n) := ⟨by simp [zeroT], fun i hi => by simp [zeroT, List.getD, hi]⟩
/-- lists of so many numbers, each less -/
def InN (n : Nat) (p : List Int) : Prop := p.length = n ∧ ∀ j, j < n → (p.getD j 0).toNat < n
theorem addP_sq {n : Nat} {T : List (List Int)} (h : Sq n T) (p : List Int) : ∀ j, j ≤ n → Sq n (addP T p j)
  | 0, _ => h
  | j + 1, hj => bump_sq (addP_sq h p j (by omega)) (by omega)
theorem en_addP' {n : Nat} {T : List (List Int)} (h : Sq n T) {p : List Int} (hp : InN n p) : ∀ j, j ≤ n → ∀ a b, en (addP T p j) a b = en T a b + if a < j ∧ b = (p.getD a 0).toNat then 1 else 0
  | 0, _, a, b => by rw [addP, if_neg (by omega)]; omega
  | j + 1, hj, a, b => by
    have ih := en_addP' h hp j (by omega)
    rw [addP, en_bump (addP_sq h p j (by omega)) (by omega) (hp.2 j (by omega)), ih a b]
    by_cases e : a = j
    · by_cases e2 : b = (p.getD a 0).toNat
      · rw [if_pos ⟨e, by rw [e2, e]⟩, if_pos ⟨by omega, e2⟩, ih j, if_neg (by omega), ← e, ← e2]; omega
      · rw [if_neg (fun hh => e2 (by rw [hh.2, e])), if_neg (fun hh => e2 hh.2), if_neg (fun hh => e2 hh.2)]
    · rw [if_neg (fun hh => e hh.1)]
      congr 1
      by_cases h1 : a < j
      · by_cases e2 : b = (p.getD a 0).toNat
        · rw [if_pos ⟨h1, e2⟩, if_pos ⟨by omega, e2⟩]
        · rw [if_neg (fun hh => e2 hh.2), if_neg (fun hh => e2 hh.2)]
      · rw [if_neg (fun hh => h1 hh.1), if_neg (by omega)]
theorem en_addP {n : Nat} {T : List (List Int)} (h : Sq n T) {p : List Int} (hp : InN n p) (a b j : Nat) (hj : j ≤ n) : en (addP T p j) a b = en T a b + if a < j ∧ b = (p.getD a 0).toNat then 1 else 0 := en_addP' h hp j hj a b
/-- how many of the first k lists take a to b -/
def cntL (rows : List (List Int)) (a b : Nat) : Nat → Nat
  | 0 => 0
  | k + 1 => cntL rows a b k + if b = ((rows.getD k []).getD a 0).toNat then 1 else 0
theorem cntL_le (rows : List (List Int)) (a b : Nat) : ∀ k, cntL rows a b k ≤ k
  | 0 => Nat.le_refl _
  | k + 1 => by have := cntL_le rows a b k; simp only [cntL]; split <;> omega
theorem cntL_mono (rows : List (List Int)) (a b : Nat) {k : Nat} : ∀ {m}, k ≤ m → cntL rows a b k ≤ cntL rows a b m
  | 0, h => by obtain rfl : k = 0 := by omega
               exact Nat.le_refl _
  | m + 1, h => by
    by_cases e : k = m + 1
    · subst e; exact Nat.le_refl _
    · have := cntL_mono rows a b (k := k) (m := m) (by omega)
      simp only [cntL]; omega
theorem addL_sq (n : Nat) (rows : List (List Int)) : ∀ k, Sq n (addL n rows k)
  | 0 => zeroT_sq n
  | k + 1 => addP_sq (addL_sq n rows k) _ n (Nat.le_refl _)
theorem en_zero (n a b : Nat) : en (zeroT n) a b = 0 := by
  unfold en zeroT
  by_cases h : a < n
  · by_cases h2 : b < n
    · simp [List.getD, h, h2]
    · simp [List.getD, h, h2]
  · simp [List.getD, h]
theorem en_addL {n : Nat} {rows : List (List Int)} {a : Nat} (ha : a < n) (b : Nat) : ∀ k, (∀ i, i < k → InN n (rows.getD i [])) → en (addL n rows k) a b = cntL rows a b k
  | 0, _ => by simp [addL, en_zero, cntL]
  | k + 1, h => by
    rw [addL, en_addP (addL_sq n rows k) (h k (by omega)) a b n (Nat.le_refl _), en_addL ha b k (fun i hi => h i (by omega)), cntL]
    by_cases e : b = ((rows.getD k []).getD a 0).toNat
    · rw [if_pos ⟨ha, e⟩, if_pos e]; omega
    · rw [if_neg (fun hh => e hh.2), if_neg e]; omega
theorem valid_in {p : List Int} {n : Nat} (hV : Valid p) (hl : p.length = n) : InN n p ∧ ∀ j, j < n → 0 ≤ p.getD j 0 := by
  subst hl
  have : ∀ j, j < p.length → 0 ≤ p.getD j 0 ∧ p.getD j 0 < p.length := fun j hj => hV.1.1 _ (by simp [List.getD, hj])
  exact ⟨⟨rfl, fun j hj => by have := this j hj; omega⟩, fun j hj => (this j hj).1⟩

def LoadOk (ports : Int) (rows : List (List Int)) : Prop := (0 ≤ ports ∧ ports ≤ 6) ∧ (∀ i, i < rows.length → Valid (rows.getD i []) ∧ (rows.getD i []).length = ports.toNat) ∧ ∀ a, a < ports.toNat → ∀ b, b < ports.toNat → cntL rows a b rows.length ≤ 6
instance (ports : Int) (rows : List (List Int)) : Decidable (LoadOk ports rows) := by unfold LoadOk; infer_instance
def loadV (ports : Int) (rows : List (List Int)) : List (List Int) := if LoadOk ports rows then addL ports.toNat rows rows.length else []

theorem ints_len {σ : AHeap} {v : Value} {xs : List Int} (h : Ints .i64 σ v xs) : ∃ b z, v = .slice b xs.length z := by
  rcases h with ⟨rfl, rfl⟩ | ⟨g, o, rfl, _⟩
  · exact ⟨none, 0, rfl⟩
  · exact ⟨_, _, rfl⟩

end Go.Proofs.Ytpcbgdgfdfpapaa

namespace Go.Proofs.Ytpcbgdgfdfpapaa
open Go Go.Abs Go.RowKit
variable {w0 : World}

/-- a row is put behind those of a table of one's own -/
theorem r_pushT {b0 : Base} {P : Program} {a : AFrame} {σ β : AHeap} {K : AK} {all os : List Oper} {d : Nat} {ty : TypeId} {pos : String} {af : Array Edge} {t u : TypeId} {b : Nat} {x y : Operand} {g e r : Nat} {q : Nat → Nat} {rows : List (List Int)} {row : List Int} {len : Nat}
    (hE : Elems P t 1 (.slice none 0 0) b) (hb : b ≤ 64) (hu : ∃ e2, P.underlying u = some (.slice e2)) (hx : ev a x = .slice (some ⟨g, 0, none⟩) len 1) (hn : rows.length = len) (hO : OwnT β σ g q rows)
    (hy : ev a y = .slice (some ⟨e, 0, none⟩) 1 1) (he : σ e = some ⟨[rowV r row], false⟩) (hr : σ r = some ⟨ints .i64 row, false⟩) (hbr : β r = none) (hg : r ≠ g) (hq : ∀ i, i < rows.length → q i ≠ r) (hs : Sub β σ) (hl : len ≤ 1048576)
    (hk : ∀ g' q' τ, Sub β τ → OwnT β τ g' q' (rows ++ [row]) → Kept g σ τ → σ g' = none → vcR P b0 false all os (fset a d (.slice (some ⟨g', 0, none⟩) (len + 1) 1)) τ K) :
    vcR P b0 false all (⟨some d, .call ⟨.builtin .append, #[x, y], #[t, u]⟩, ty, pos, af, none⟩ :: os) a σ K := by
  refine r_push hE hu hx hO.at_ (by rw [rowVs_length, hn]; omega) (D := [rowV r row]) ?_ (by rfl) (by
      have : (len + 1) * b ≤ 1048577 * 64 := Nat.mul_le_mul (by omega) hb
      simp; omega) fun g' τ h1 h2 h3 => ?_
  · rw [hy]; simp [acells, lds, he]
  · have e1 : [rowV r row].length / 1 = 1 := by simp
    rw [e1]
    exact hk g' _ τ (h2.sub hs hO.new) (hO.push hr hbr hg hq h1 (free_sub hs h1) h2 h3) h2 h1

theorem addL_zero (n : Nat) (rows : List (List Int)) : addL n rows 0 = zeroT n := rfl
theorem zeroT_take {n k : Nat} (hk : k ≤ n) : (zeroT n).take k = List.replicate k (List.replicate n 0) := by simp [zeroT, Nat.min_eq_left hk]

theorem specLoadO_at (σ : AHeap) (ports : Int) (h o : Nat) (rows : List (List Int)) (hv : RowsAt σ h o rows) (hl : rows.length ≤ 1048576) (hr : ∀ i, i < rows.length → (rows.getD i []).length ≤ 1048576) :
    ACall Try.prog w0 85 [.int .i64 ports, .slice (some ⟨h, o, none⟩) rows.length 1] σ fun r σ' => Sub σ σ' ∧ ∃ g q, r = .slice (some ⟨g, 0, none⟩) (loadV ports rows).length 1 ∧ OwnT σ σ' g q (loadV ports rows) := by
  unfold loadV
  refine acall_go mixed Try.func85 rfl good85 fun pr => ?_
  simp -implicitDefEqProofs (disch := omega) only [List.any_cons, List.any_nil, Nat.reduceEqDiff, List.map_cons, List.map_nil, Option.map_some, Option.map_none, List.nil_append, ↓reduceIte, vcu, ↓vcd]
  refine r_lit el23 (out := #[]) (by kernel_rfl) (by kernel_rfl) fun e1 τ1 n1 s1 v1 => ?_
  simp -implicitDefEqProofs (disch := omega) only [List.any_cons, List.any_nil, Nat.reduceEqDiff, List.map_cons, List.map_nil, Option.map_some, Option.map_none, List.nil_append, ↓reduceIte, vcu, ↓vcd]
  by_cases hp : 0 ≤ ports ∧ ports ≤ 6
  · obtain ⟨n, rfl⟩ : ∃ n : Nat, ports = n := ⟨ports.toNat, by omega⟩
    have hn : n ≤ 6 := by omega
    simp only [Int.toNat_natCast]
    refine vc_loop_c mixed (by kernel_rfl) [0, 1] (fun m a σ' => ∃ (k g : Nat) (q : Nat → Nat), m + k = n ∧ a 5 = .slice (some ⟨g, 0, none⟩) k 1 ∧ a 6 = .int .i64 k ∧ Sub σ σ' ∧ OwnT σ σ' g q (List.replicate k (List.replicate n 0))) n ⟨0, e1, fun _ => 0, by simp, rfl, rfl, s1, OwnT.nil _ v1 n1⟩ ?_
    rintro m a σ' hc ⟨k, g, q, hk, h5, h6, hsub, hO⟩
    simp -implicitDefEqProofs (disch := omega) only [List.any_cons, List.any_nil, Nat.reduceEqDiff, List.map_cons, List.map_nil, Option.map_some, Option.map_none, List.nil_append, ↓reduceIte, vcu, ↓vcd] at hc
    obtain ⟨h0, h1, -⟩ := hc
    by_cases hlt : k < n
    · simp -implicitDefEqProofs (disch := omega) only [List.any_cons, List.any_nil, Nat.reduceEqDiff, List.map_cons, List.map_nil, Option.map_some, Option.map_none, List.nil_append, ↓reduceIte, vcu, ↓vcd, h0, h1, h5, h6]
      refine (in_calls _ _ _ _).mono ?_
      rintro r _ ⟨rfl, rfl⟩
      rename_i σ'
      rw [decide_eq_true (show (0 : Int) ≤ n ∧ (n : Int) ≤ 6 by omega)]
      simp -implicitDefEqProofs (disch := omega) only [List.any_cons, List.any_nil, Nat.reduceEqDiff, List.map_cons, List.map_nil, Option.map_some, Option.map_none, List.nil_append, ↓reduceIte, vcu, ↓vcd, opK_some, h0, h1, h5, h6]
      refine r_makeI (kx := .i64) (ky := .i64) (l := n) (c := n) el30 (by omega) (by simp -implicitDefEqProofs (disch := omega) only [List.any_cons, List.any_nil, Nat.reduceEqDiff, List.map_cons, List.map_nil, Option.map_some, Option.map_none, List.nil_append, ↓reduceIte, vcu, ↓vcd, h0]) (by simp -implicitDefEqProofs (disch := omega) only [List.any_cons, List.any_nil, Nat.reduceEqDiff, List.map_cons, List.map_nil, Option.map_some, Option.map_none, List.nil_append, ↓reduceIte, vcu, ↓vcd, h0]) (by omega) fun z τ3 nz s3 e3 => ?_
      have hzg : z ≠ g := ne_of nz hO.at_
      refine r_lit el23 (out := #[.slice (some ⟨z, 0, none⟩) n 1]) (by simp -implicitDefEqProofs (disch := omega) only [List.any_cons, List.any_nil, Nat.reduceEqDiff, List.map_cons, List.map_nil, Option.map_some, Option.map_none, List.nil_append, ↓reduceIte, vcu, ↓vcd]; kernel_rfl) (by kernel_rfl) fun e4 τ4 n4 s4 v4 => ?_
      refine r_pushT (β := σ) (len := k) (g := g) (e := e4) (r := z) (q := q) (rows := List.replicate k (List.replicate n 0)) (row := List.replicate n 0) el23 (by omega) sl23 (by simp -implicitDefEqProofs (disch := omega) only [List.any_cons, List.any_nil, Nat.reduceEqDiff, List.map_cons, List.map_nil, Option.map_some, Option.map_none, List.nil_append, ↓reduceIte, vcu, ↓vcd, h5]) (by simp) (hO.sub (s3.trans s4)) (by simp -implicitDefEqProofs (disch := omega) only [List.any_cons, List.any_nil, Nat.reduceEqDiff, List.map_cons, List.map_nil, Option.map_some, Option.map_none, List.nil_append, ↓reduceIte, vcu, ↓vcd]) (by rw [v4]; simp [rowV]) (s4 _ _ e3) (free_sub hsub nz) hzg (fun i hi => ne_of' nz (hO.row i hi)) (hsub.trans (s3.trans s4)) (by omega) fun g' q' τ5 s5 hO5 _ _ => ?_
      simp -implicitDefEqProofs (disch := omega) only [List.any_cons, List.any_nil, Nat.reduceEqDiff, List.map_cons, List.map_nil, Option.map_some, Option.map_none, List.nil_append, ↓reduceIte, vcu, ↓vcd, h0, h1, h6]
      refine ⟨⟨trivial, trivial, trivial⟩, m - 1, by omega, k + 1, g', q', by omega, rfl, by simp, s5, ?_⟩
      rw [List.replicate_succ']; exact hO5
    · have e2 : n = k := by omega
      subst e2
      have hO0 : OwnT σ σ' g q (addL n rows 0) := hO
      simp -implicitDefEqProofs (disch := omega) only [List.any_cons, List.any_nil, Nat.reduceEqDiff, List.map_cons, List.map_nil, Option.map_some, Option.map_none, List.nil_append, ↓reduceIte, vcu, ↓vcd, h0, h1, h5, h6]
      clear hO
      refine vc_loop_c mixed (by kernel_rfl) [0, 1, 5] (fun m a σ2 => ∃ k : Nat, m + k = rows.length ∧ a 7 = .int .i64 k ∧ Sub σ σ2 ∧ OwnT σ σ2 g q (addL n rows k) ∧ (∀ i, i < k → Valid (rows.getD i []) ∧ (rows.getD i []).length = n)) rows.length ⟨0, by simp, rfl, hsub, hO0, by simp⟩ ?_
      clear hO0 hsub
      rintro m2 a2 σ2 hc ⟨k, hk, h7, hsub, hO, hval⟩
      simp -implicitDefEqProofs (disch := omega) only [List.any_cons, List.any_nil, Nat.reduceEqDiff, List.map_cons, List.map_nil, Option.map_some, Option.map_none, List.nil_append, ↓reduceIte, vcu, ↓vcd, h0, h1, h5] at hc
      obtain ⟨c0, c1, c5, -⟩ := hc
      by_cases hlt : k < rows.length
      · obtain ⟨v, hx, hi⟩ := (hv.sub hsub) k hlt
        have hrk := hr k hlt
        have hgo : addL n rows (k + 1) = addP (addL n rows k) (rows.getD k []) n := rfl
        have no : ¬ (Valid (rows.getD k []) ∧ (rows.getD k []).length = n) → ¬ LoadOk n rows := fun hn hh => hn (by simpa using hh.2.1 k hlt)
        generalize hrw : rows.getD k [] = p at hi hrk hgo no
        obtain ⟨pb, pz, rfl⟩ := ints_len hi
        simp -implicitDefEqProofs (disch := omega) only [List.any_cons, List.any_nil, Nat.reduceEqDiff, List.map_cons, List.map_nil, Option.map_some, Option.map_none, List.nil_append, ↓reduceIte, vcu, ↓vcd, c0, c1, c5, h7, hx]
        refine (specValid_calls (w0 := w0) σ2 _ p hi (by omega)).mono ?_
        rintro r _ ⟨rfl, rfl⟩
        rename_i σ2
        by_cases hV : Valid p
        · rw [decide_eq_true hV]
          by_cases hlen : p.length = n
          · obtain ⟨hin, hnn⟩ := valid_in hV hlen
            have hsq := addL_sq n rows k
            have hlen' : (p.length : Int) = n := by omega
            simp -implicitDefEqProofs (disch := omega) only [List.any_cons, List.any_nil, Nat.reduceEqDiff, List.map_cons, List.map_nil, Option.map_some, Option.map_none, List.nil_append, ↓reduceIte, vcu, ↓vcd, opK_some, c0, c1, c5, h7, hx, hlen', ne_eq, not_true_eq_false, decide_false]
            refine vc_loop_c mixed (by kernel_rfl) [0, 1, 5, 7] (fun m3 a3 σ3 => ∃ j : Nat, m3 + j = n ∧ a3 8 = .int .i64 j ∧ Sub σ σ3 ∧ OwnT σ σ3 g q (addP (addL n rows k) p j)) n ⟨0, by simp, rfl, hsub, hO⟩ ?_
            rintro m3 a3 σ3 hc3 ⟨j, hj, h8, hsub3, hO3⟩
            simp -implicitDefEqProofs (disch := omega) only [List.any_cons, List.any_nil, Nat.reduceEqDiff, List.map_cons, List.map_nil, Option.map_some, Option.map_none, List.nil_append, ↓reduceIte, vcu, ↓vcd, c0, c1, c5, h7] at hc3
            obtain ⟨d0, d1, d5, d7, -⟩ := hc3
            have hsqj := addP_sq hsq p j (by omega)
            by_cases hjl : j < n
            · have hgj := hO3.get (i := j) (by rw [hsqj.1]; exact hjl)
              have hrj := hO3.row j (by rw [hsqj.1]; exact hjl)
              have hrl := hsqj.2 j hjl
              have hpj := hin.2 j hjl
              have hp0 := hnn j hjl
              have hej : en (addP (addL n rows k) p j) j (p.getD j 0).toNat = cntL rows j (p.getD j 0).toNat k := by
                rw [en_addP hsq hin _ _ j (by omega), if_neg (by omega), en_addL hjl _ k (fun i hi => (valid_in (hval i hi).1 (hval i hi).2).1)]; omega
              have hxx : ld σ3 h (o + k) = some (.slice pb p.length pz) := by
                obtain ⟨v0, hx0, -⟩ := hv k hlt
                have r1 := ld_sub hsub hx0
                rw [r1] at hx; cases hx
                exact ld_sub hsub3 hx0
              obtain ⟨v', hx', hi'⟩ := (hv.sub hsub3) k hlt
              rw [hrw] at hi'
              rw [hxx] at hx'
              cases hx'
              rcases hi' with ⟨e, rfl⟩ | ⟨e2, o2, e, hat⟩
              · simp at hlen; omega
              injection e with ea eb ec
              subst ea; subst ec
              have hpx := hat j (by omega)
              have hcl := cntL_le rows j (p.getD j 0).toNat k
              have hld : ld σ3 (q j) (0 + (p.getD j 0).toNat) = some (.int .i64 (cntL rows j (p.getD j 0).toNat k)) := by
                rw [own_at hrj (by rw [hrl]; exact hpj), ← hej]; rfl
              have hab : addP (addL n rows k) p (j + 1) = bump (addP (addL n rows k) p j) j (p.getD j 0).toNat := rfl
              unfold bump at hab
              rw [hej] at hab
              have hpl : p.getD j 0 < n := by omega
              rw [hrl] at hgj
              simp -implicitDefEqProofs (disch := omega) only [List.any_cons, List.any_nil, Nat.reduceEqDiff, List.map_cons, List.map_nil, Option.map_some, Option.map_none, List.nil_append, ↓reduceIte, vcu, ↓vcd, d0, d1, d5, d7, h8]
              refine region_tree mixed (quiets [0, 1, 2, 3, 4, 5, 6, 7, 8, 9, 10, 11, 12, 13, 14, 15, 16, 17, 18, 19, 20, 21, 22, 23, 24, 25] (.one 26 .stop)) [([0, 1, 2, 3, 4, 5, 6, 7, 8, 9, 10, 11, 12, 13, 14, 15, 16, 17, 18, 19, 20, 21, 22, 23, 24, 25], Sub σ3)] (by kernel_rfl) (by kernel_rfl) (fun p hp => by
                simp only [List.mem_cons, List.not_mem_nil, or_false] at hp
                subst hp; exact Sub.refl _) ?_
              refine tree_quiets σ3 _ _ _ sf1 (by kernel_rfl) (by kernel_rfl) ?_
              simp -implicitDefEqProofs (disch := omega) only [List.any_cons, List.any_nil, Nat.reduceEqDiff, List.map_cons, List.map_nil, Option.map_some, Option.map_none, List.nil_append, ↓reduceIte, vcu, ↓vcd, pickOps_nil, pickOps_cons, pickO_some, List.getElem?_cons_succ, List.getElem?_cons_zero, d0, d1, d5, d7, h8, hgj, hxx, hpx, hld, hrl, hlen]
              refine tree_one rfl ?_
              refine r_setI (g := q j) (i := 0 + (p.getD j 0).toNat) (v := (cntL rows j (p.getD j 0).toNat k : Int) + 1) (by simp -implicitDefEqProofs (disch := omega) only [List.any_cons, List.any_nil, Nat.reduceEqDiff, List.map_cons, List.map_nil, Option.map_some, Option.map_none, List.nil_append, ↓reduceIte, vcu, ↓vcd]) (by simp -implicitDefEqProofs (disch := omega) only [List.any_cons, List.any_nil, Nat.reduceEqDiff, List.map_cons, List.map_nil, Option.map_some, Option.map_none, List.nil_append, ↓reduceIte, vcu, ↓vcd]) co3 hrj (by omega) fun τ5 k5 e5 => ?_
              rw [Nat.zero_add] at e5
              simp -implicitDefEqProofs (disch := omega) only [List.any_cons, List.any_nil, Nat.reduceEqDiff, List.map_cons, List.map_nil, Option.map_some, Option.map_none, List.nil_append, ↓reduceIte, vcu, ↓vcd]
              refine ⟨keep_of rfl (fun p hp => by
                simp only [List.mem_cons, List.not_mem_nil, or_false] at hp
                subst hp; exact .inl (by kernel_rfl)), tree_stop ?_⟩
              simp -implicitDefEqProofs (disch := omega) only [List.any_cons, List.any_nil, Nat.reduceEqDiff, List.map_cons, List.map_nil, Option.map_some, Option.map_none, List.nil_append, ↓reduceIte, vcu, ↓vcd, h8]
              refine ⟨?_, m3 - 1, by omega, j + 1, by omega, by simp, k5.sub hsub3 (hO3.free j (by rw [hsqj.1]; exact hjl)), ?_⟩
              · simp [d0, d1, d5, d7, c0, c1, c5, h7]
              · rw [hab]
                exact hO3.write (by rw [hsqj.1]; exact hjl) (by simp) k5 e5
            · have e : j = n := by omega
              subst e
              simp -implicitDefEqProofs (disch := omega) only [List.any_cons, List.any_nil, Nat.reduceEqDiff, List.map_cons, List.map_nil, Option.map_some, Option.map_none, List.nil_append, ↓reduceIte, vcu, ↓vcd, d0, d1, d5, d7, h8]
              refine ⟨?_, m2 - 1, by omega, k + 1, by omega, by simp, hsub3, by rw [hgo]; exact hO3, fun i hi => ?_⟩
              · simp [d0, d1, d5, c0, c1, c5, h0, h1, h5]
              · by_cases e : i = k
                · subst e; rw [hrw]; exact ⟨hV, hlen⟩
                · exact hval i (by omega)
          · have hlen' : ¬ (p.length : Int) = n := by omega
            simp -implicitDefEqProofs (disch := omega) only [List.any_cons, List.any_nil, Nat.reduceEqDiff, List.map_cons, List.map_nil, Option.map_some, Option.map_none, List.nil_append, ↓reduceIte, vcu, ↓vcd, opK_some, c0, c1, c5, h7, hx, hlen', ne_eq, not_false_eq_true, decide_true]
            refine r_lit el23 (out := #[]) (by kernel_rfl) (by kernel_rfl) fun e7 τ7 n7 s7 v7 => ?_
            simp -implicitDefEqProofs (disch := omega) only [List.any_cons, List.any_nil, Nat.reduceEqDiff, List.map_cons, List.map_nil, Option.map_some, Option.map_none, List.nil_append, ↓reduceIte, vcu, ↓vcd]
            rw [if_neg (no (fun hh => hlen hh.2))]
            refine fin_one Try.results85 ⟨hsub.trans s7, ⟨e7, fun _ => 0, ?_, OwnT.nil _ v7 (free_sub hsub n7)⟩⟩
            simp -implicitDefEqProofs (disch := omega) only [List.any_cons, List.any_nil, Nat.reduceEqDiff, List.map_cons, List.map_nil, Option.map_some, Option.map_none, List.nil_append, ↓reduceIte, vcu, ↓vcd]
            rfl
        · rw [decide_eq_false hV]
          simp -implicitDefEqProofs (disch := omega) only [List.any_cons, List.any_nil, Nat.reduceEqDiff, List.map_cons, List.map_nil, Option.map_some, Option.map_none, List.nil_append, ↓reduceIte, vcu, ↓vcd, opK_some]
          refine r_lit el23 (out := #[]) (by kernel_rfl) (by kernel_rfl) fun e7 τ7 n7 s7 v7 => ?_
          simp -implicitDefEqProofs (disch := omega) only [List.any_cons, List.any_nil, Nat.reduceEqDiff, List.map_cons, List.map_nil, Option.map_some, Option.map_none, List.nil_append, ↓reduceIte, vcu, ↓vcd]
          rw [if_neg (no (fun hh => hV hh.1))]
          refine fin_one Try.results85 ⟨hsub.trans s7, ⟨e7, fun _ => 0, ?_, OwnT.nil _ v7 (free_sub hsub n7)⟩⟩
          simp -implicitDefEqProofs (disch := omega) only [List.any_cons, List.any_nil, Nat.reduceEqDiff, List.map_cons, List.map_nil, Option.map_some, Option.map_none, List.nil_append, ↓reduceIte, vcu, ↓vcd]
          rfl
      · have e : k = rows.length := by omega
        subst e
        have hsq := addL_sq n rows rows.length
        simp -implicitDefEqProofs (disch := omega) only [List.any_cons, List.any_nil, Nat.reduceEqDiff, List.map_cons, List.map_nil, Option.map_some, Option.map_none, List.nil_append, ↓reduceIte, vcu, ↓vcd, c0, c1, c5, h7]
        have htv := specTV_at (w0 := w0) σ2 g 0 _ hO.rows (by rw [hsq.1]; omega)
        rw [hsq.1] at htv
        refine htv.mono ?_
        rintro r _ ⟨rfl, rfl⟩
        rename_i σ2
        have hiff : TV (addL n rows rows.length) ↔ LoadOk n rows := by
          have hen : ∀ a, a < n → ∀ b, en (addL n rows rows.length) a b = cntL rows a b rows.length := fun a ha b => en_addL ha b _ (fun i hi => (valid_in (hval i hi).1 (hval i hi).2).1)
          constructor
          · intro hT
            refine ⟨by omega, by simpa using hval, fun a ha b hb => ?_⟩
            simp only [Int.toNat_natCast] at ha hb
            have := (hT.at (i := a) (j := b) (by rw [hsq.1]; exact ha) (by rw [hsq.1]; exact hb)).2
            have h2 := hen a ha b
            unfold en at h2
            omega
          · intro hL
            refine ⟨by rw [hsq.1]; exact hn, fun i hi => ⟨by rw [hsq.1]; exact hsq.2 i (by rw [← hsq.1]; exact hi), fun j hj => ?_⟩⟩
            rw [hsq.1] at hi
            have hj' : j < n := by rw [← hsq.2 i hi]; exact hj
            have h1 := hen i hi j
            have h2 := hL.2.2 i (by simpa using hi) j (by simpa using hj')
            unfold en at h1
            omega
        by_cases hL : LoadOk n rows
        · rw [decide_eq_true (hiff.2 hL), if_pos hL]
          simp -implicitDefEqProofs (disch := omega) only [List.any_cons, List.any_nil, Nat.reduceEqDiff, List.map_cons, List.map_nil, Option.map_some, Option.map_none, List.nil_append, ↓reduceIte, vcu, ↓vcd, opK_some, c5]
          refine fin_one Try.results85 ⟨hsub, ⟨g, q, ?_, hO⟩⟩
          simp -implicitDefEqProofs (disch := omega) only [List.any_cons, List.any_nil, Nat.reduceEqDiff, List.map_cons, List.map_nil, Option.map_some, Option.map_none, List.nil_append, ↓reduceIte, vcu, ↓vcd]
          rw [hsq.1]
        · rw [decide_eq_false (fun hh => hL (hiff.1 hh)), if_neg hL]
          simp -implicitDefEqProofs (disch := omega) only [List.any_cons, List.any_nil, Nat.reduceEqDiff, List.map_cons, List.map_nil, Option.map_some, Option.map_none, List.nil_append, ↓reduceIte, vcu, ↓vcd, opK_some]
          refine r_lit el23 (out := #[]) (by kernel_rfl) (by kernel_rfl) fun e7 τ7 n7 s7 v7 => ?_
          simp -implicitDefEqProofs (disch := omega) only [List.any_cons, List.any_nil, Nat.reduceEqDiff, List.map_cons, List.map_nil, Option.map_some, Option.map_none, List.nil_append, ↓reduceIte, vcu, ↓vcd]
          refine fin_one Try.results85 ⟨hsub.trans s7, ⟨e7, fun _ => 0, ?_, OwnT.nil _ v7 (free_sub hsub n7)⟩⟩
          simp -implicitDefEqProofs (disch := omega) only [List.any_cons, List.any_nil, Nat.reduceEqDiff, List.map_cons, List.map_nil, Option.map_some, Option.map_none, List.nil_append, ↓reduceIte, vcu, ↓vcd]
          rfl
  · rw [if_neg (fun hh : LoadOk ports rows => hp hh.1)]
    refine vc_loop_c mixed (by kernel_rfl) [0, 1, 5] (fun m a σ' => m = 0 ∧ a 6 = .int .i64 0 ∧ σ' = τ1) 0 ⟨rfl, rfl, rfl⟩ ?_
    rintro m a σ' hc ⟨rfl, h6, rfl⟩
    simp -implicitDefEqProofs (disch := omega) only [List.any_cons, List.any_nil, Nat.reduceEqDiff, List.map_cons, List.map_nil, Option.map_some, Option.map_none, List.nil_append, ↓reduceIte, vcu, ↓vcd] at hc
    obtain ⟨h0, h1, h5, -⟩ := hc
    have hl0 : RowsAt σ' h o rows := hv.sub s1
    by_cases hneg : 0 < ports
    case' pos =>
      simp -implicitDefEqProofs (disch := omega) only [List.any_cons, List.any_nil, Nat.reduceEqDiff, List.map_cons, List.map_nil, Option.map_some, Option.map_none, List.nil_append, ↓reduceIte, vcu, ↓vcd, h0, h1, h5, h6]
      refine (in_calls _ _ _ _).mono ?_
      rintro r _ ⟨rfl, rfl⟩
      rename_i σ'
      rw [decide_eq_false (show ¬ ((0 : Int) ≤ ports ∧ ports ≤ 6) by omega)]
      simp -implicitDefEqProofs (disch := omega) only [List.any_cons, List.any_nil, Nat.reduceEqDiff, List.map_cons, List.map_nil, Option.map_some, Option.map_none, List.nil_append, ↓reduceIte, vcu, ↓vcd, opK_some, h0, h1, h5, h6]
    case' neg => simp -implicitDefEqProofs (disch := omega) only [List.any_cons, List.any_nil, Nat.reduceEqDiff, List.map_cons, List.map_nil, Option.map_some, Option.map_none, List.nil_append, ↓reduceIte, vcu, ↓vcd, h0, h1, h5, h6]
    all_goals
      refine vc_loop_c mixed (by kernel_rfl) [0, 1, 5] (fun m a σ2 => m = 0 ∧ a 7 = .int .i64 0 ∧ σ2 = σ') 0 ⟨rfl, rfl, rfl⟩ ?_
      rintro m2 a2 σ2 hc ⟨rfl, h7, rfl⟩
      simp -implicitDefEqProofs (disch := omega) only [List.any_cons, List.any_nil, Nat.reduceEqDiff, List.map_cons, List.map_nil, Option.map_some, Option.map_none, List.nil_append, ↓reduceIte, vcu, ↓vcd, h0, h1, h5] at hc
      obtain ⟨c0, c1, c5, -⟩ := hc
      by_cases hlt : 0 < rows.length
      · obtain ⟨v, hx, hi⟩ := hl0 0 hlt
        have hrk := hr 0 hlt
        have hx' : ld σ2 h (o + Int.toNat 0) = some v := hx
        generalize rows.getD 0 [] = p at hi hrk
        obtain ⟨pb, pz, rfl⟩ := ints_len hi
        simp -implicitDefEqProofs (disch := omega) only [List.any_cons, List.any_nil, Nat.reduceEqDiff, List.map_cons, List.map_nil, Option.map_some, Option.map_none, List.nil_append, ↓reduceIte, vcu, ↓vcd, c0, c1, c5, h7, hx']
        refine (specValid_calls (w0 := w0) σ2 _ p hi (by omega)).mono ?_
        rintro r _ ⟨rfl, rfl⟩
        rename_i σ2
        by_cases hV : Valid p
        · have hlen' : ¬ (p.length : Int) = ports := by have := hV.2; omega
          rw [decide_eq_true hV]
          simp -implicitDefEqProofs (disch := omega) only [List.any_cons, List.any_nil, Nat.reduceEqDiff, List.map_cons, List.map_nil, Option.map_some, Option.map_none, List.nil_append, ↓reduceIte, vcu, ↓vcd, opK_some, c0, c1, c5, h7, hx', hlen', ne_eq, not_false_eq_true, decide_true]
          refine r_lit el23 (out := #[]) (by kernel_rfl) (by kernel_rfl) fun e7 τ7 n7 s7 v7 => ?_
          simp -implicitDefEqProofs (disch := omega) only [List.any_cons, List.any_nil, Nat.reduceEqDiff, List.map_cons, List.map_nil, Option.map_some, Option.map_none, List.nil_append, ↓reduceIte, vcu, ↓vcd]
          refine fin_one Try.results85 ⟨s1.trans s7, ⟨e7, fun _ => 0, ?_, OwnT.nil _ v7 (free_sub s1 n7)⟩⟩
          simp -implicitDefEqProofs (disch := omega) only [List.any_cons, List.any_nil, Nat.reduceEqDiff, List.map_cons, List.map_nil, Option.map_some, Option.map_none, List.nil_append, ↓reduceIte, vcu, ↓vcd]
          rfl
        · rw [decide_eq_false hV]
          simp -implicitDefEqProofs (disch := omega) only [List.any_cons, List.any_nil, Nat.reduceEqDiff, List.map_cons, List.map_nil, Option.map_some, Option.map_none, List.nil_append, ↓reduceIte, vcu, ↓vcd, opK_some]
          refine r_lit el23 (out := #[]) (by kernel_rfl) (by kernel_rfl) fun e7 τ7 n7 s7 v7 => ?_
          simp -implicitDefEqProofs (disch := omega) only [List.any_cons, List.any_nil, Nat.reduceEqDiff, List.map_cons, List.map_nil, Option.map_some, Option.map_none, List.nil_append, ↓reduceIte, vcu, ↓vcd]
          refine fin_one Try.results85 ⟨s1.trans s7, ⟨e7, fun _ => 0, ?_, OwnT.nil _ v7 (free_sub s1 n7)⟩⟩
          simp -implicitDefEqProofs (disch := omega) only [List.any_cons, List.any_nil, Nat.reduceEqDiff, List.map_cons, List.map_nil, Option.map_some, Option.map_none, List.nil_append, ↓reduceIte, vcu, ↓vcd]
          rfl
      · simp -implicitDefEqProofs (disch := omega) only [List.any_cons, List.any_nil, Nat.reduceEqDiff, List.map_cons, List.map_nil, Option.map_some, Option.map_none, List.nil_append, ↓reduceIte, vcu, ↓vcd, c0, c1, c5, h7]
        refine (specTV_at (w0 := w0) σ2 e1 0 [] (fun i hi => absurd hi (by simp)) (by simp)).mono ?_
        rintro r _ ⟨rfl, rfl⟩
        rename_i σ2
        rw [decide_eq_true (show TV [] from ⟨by simp, fun i hi => absurd hi (by simp)⟩)]
        simp -implicitDefEqProofs (disch := omega) only [List.any_cons, List.any_nil, Nat.reduceEqDiff, List.map_cons, List.map_nil, Option.map_some, Option.map_none, List.nil_append, ↓reduceIte, vcu, ↓vcd, opK_some, c5]
        refine fin_one Try.results85 ⟨s1, ⟨e1, fun _ => 0, ?_, OwnT.nil _ v1 n1⟩⟩
        simp -implicitDefEqProofs (disch := omega) only [List.any_cons, List.any_nil, Nat.reduceEqDiff, List.map_cons, List.map_nil, Option.map_some, Option.map_none, List.nil_append, ↓reduceIte, vcu, ↓vcd]
        rfl
theorem specLoad_at (σ : AHeap) (ports : Int) (h o : Nat) (rows : List (List Int)) (hv : RowsAt σ h o rows) (hl : rows.length ≤ 1048576) (hr : ∀ i, i < rows.length → (rows.getD i []).length ≤ 1048576) :
    ACall Try.prog w0 85 [.int .i64 ports, .slice (some ⟨h, o, none⟩) rows.length 1] σ fun r σ' => Sub σ σ' ∧ OwnTV σ σ' r (loadV ports rows) :=
  (specLoadO_at σ ports h o rows hv hl hr).mono fun r σ' ⟨h1, h2⟩ => ⟨h1, .inr h2⟩
end Go.Proofs.Ytpcbgdgfdfpapaa

namespace Go.Proofs.Ytpcbgdgfdfpapaa
open Go Go.Abs Go.RowKit
variable {w0 : World}

theorem ACall.rows_quiet {f : FuncId} {pre post : List Value} {σ : AHeap} {v F : Value} {rows : List (List Int)} (hc : callable Try.prog f = true) (hv : RowsV σ v rows)
    (h : ∀ σ1 g o, Sub σ σ1 → RowsAt σ1 g o rows → ACall Try.prog w0 f (pre ++ .slice (some ⟨g, o, none⟩) rows.length 1 :: post) σ1 fun r σ' => r = F ∧ σ' = σ1) : ACall Try.prog w0 f (pre ++ v :: post) σ fun r σ' => r = F ∧ σ' = σ :=
  ACall.rows_arg hc hv fun σ1 g o hs hg => (h σ1 g o hs hg).drop fun _ _ ⟨h1, h2⟩ => ⟨σ, h2 ▸ hs, h1, rfl⟩
theorem eqRows_calls (σ : AHeap) (v u : Value) (xs : List (List Int)) (hv : RowsV σ v xs) (hu : RowsV σ u xs) (hl : xs.length ≤ 1048576) (hr : ∀ i, i < xs.length → (xs.getD i []).length ≤ 1048576) :
    ACall Try.prog w0 47 [v, u] σ fun r σ' => r = .bool true ∧ σ' = σ :=
  ACall.rows_quiet (pre := []) (post := [u]) (by kernel_rfl) hv fun σ1 h o hs hg =>
    ACall.rows_quiet (pre := [_]) (post := []) (by kernel_rfl) (hu.sub hs) fun σ2 g p hs2 hg2 => eqRows_at σ2 h o g p xs xs (hg.sub hs2) hg2 hl rfl hr
theorem markT_calls (β σ : AHeap) (v : Value) (rows : List (List Int)) (k : Int) (hv : OwnTV β σ v rows) (hl : rows.length ≤ 1048576) (hr : ∀ i, i < rows.length → (rows.getD i []).length ≤ 1048576) (hk : 0 ≤ k ∧ k ≤ 1048576) :
    ACall Try.prog w0 48 [v, .int .i64 k] σ fun r σ' => r = .int .i64 (k + tot rows rows.length) ∧ OwnTV β σ' v (mk rows k rows.length) ∧ (∀ h ob, β h = some ob → σ h = some ob → σ' h = some ob) := by
  rcases hv with ⟨rfl, rfl⟩ | ⟨g, q, rfl, hO⟩
  · refine ACall.nil_arg (pre := []) (z := 1) (by kernel_rfl) fun g hg => ?_
    refine (markRows_at σ _ g (fun _ => 0) [] k (OwnT.nil _ (AHeap.upd_same _ _ _) hg) (by simp) (fun i hi => absurd hi (by simp)) hk).mono ?_
    rintro r σ' ⟨rfl, h1, h2⟩
    exact ⟨rfl, .inl ⟨rfl, rfl⟩, fun h ob _ e => h2 h ob (fun i hi => absurd hi (by simp)) (sub_upd hg h ob e)⟩
  · refine (markRows_at β σ g q rows k hO hl hr hk).mono ?_
    rintro r σ' ⟨rfl, h1, h2⟩
    exact ⟨rfl, .inr ⟨g, q, by rw [mk_length], h1⟩, fun h ob hb e => h2 h ob (fun i hi e2 => by rw [← e2, hO.free i hi] at hb; cases hb) e⟩
theorem heldT_calls (σ : AHeap) (v : Value) (rows : List (List Int)) (k : Int) (hv : RowsV σ v (mk rows k rows.length)) (hl : rows.length ≤ 1048576) (hr : ∀ i, i < rows.length → (rows.getD i []).length ≤ 1048576) (hk : 0 ≤ k ∧ k ≤ 1048576) :
    ACall Try.prog w0 49 [v, .int .i64 k] σ fun r σ' => r = .int .i64 (k + tot rows rows.length) ∧ σ' = σ :=
  ACall.rows_quiet (pre := []) (post := [.int .i64 k]) (by kernel_rfl) hv fun σ1 g o _ hg => by
    rw [mk_length]
    exact heldRows_at σ1 g o rows _ k (mk_length _ _ _) hg (fun i hi => by rw [mk_get rows k _ (Nat.le_refl _), if_pos hi]) hl hr hk
end Go.Proofs.Ytpcbgdgfdfpapaa
