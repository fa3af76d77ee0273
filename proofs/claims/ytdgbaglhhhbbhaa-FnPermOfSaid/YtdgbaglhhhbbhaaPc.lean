/- The walks of PermValid of the program, of the copy and the comparison of lists; the exact law of PermValid. -/
import Derived.Test.YtdgbaglhhhbbhaaPb
set_option linter.unusedSimpArgs false
set_option linter.unusedVariables false
namespace Go.Proofs.Ytdgbaglhhhbbhaa
open Go Go.Abs Go.RowKit
variable {w0 : World}

/-- what has been seen, number by number -/
def seenB (xs : List Int) : List Value := (List.range 6).map fun (i : Nat) => .bool (decide ((i : Int) ∈ xs))
theorem seenB_length (xs : List Int) : (seenB xs).length = 6 := by simp [seenB]
theorem seenB_get (xs : List Int) {i : Nat} (h : i < 6) : (seenB xs)[i]? = some (.bool (decide ((i : Int) ∈ xs))) := by simp [seenB, h]
theorem seenB_set (xs : List Int) {x : Int} (h0 : 0 ≤ x) (h : x < 6) : (seenB xs).set x.toNat (.bool true) = seenB (xs ++ [x]) := by
  apply List.ext_getElem?
  intro i
  rw [List.getElem?_set]
  by_cases hi : i < 6
  · rw [seenB_get _ hi, seenB_get _ hi, seenB_length]
    by_cases e : x.toNat = i
    · have : (i : Int) = x := by omega
      rw [if_pos e, if_pos (by omega)]; simp [this]
    · have : (i : Int) ≠ x := by omega
      rw [if_neg e]; simp [this]
  · have : x.toNat ≠ i := by omega
    rw [if_neg this, List.getElem?_eq_none (by simp [seenB]; omega), List.getElem?_eq_none (by simp [seenB]; omega)]

theorem implValid_at (σ : AHeap) (h o : Nat) (xs : List Int) (hv : IntsAt .i64 σ h o xs) (hl : xs.length ≤ 1048576) :
    ACall Try.prog w0 20 [.slice (some ⟨h, o, none⟩) xs.length 1] σ fun r σ' => r = .bool (decide (Valid xs)) ∧ σ' = σ := by
  refine acall_go mixed Try.func20 rfl good20 ?_
  by_cases h6 : 6 < xs.length
  · simp -implicitDefEqProofs (disch := omega) only [List.any_cons, List.any_nil, Nat.reduceEqDiff, List.map_cons, List.map_nil, Option.map_some, Option.map_none, List.nil_append, ↓reduceIte, vcu0, vcu1, vcu2, vcu3, vcu4, vcu5, vcu6, vcu7, vcu8, vcu9, vcu10, vcu11, vcu12, vcu13, vcu14, ↓vcd0, ↓vcd1, ↓vcd2]
    refine fin_one Try.results20 ⟨?_, rfl⟩
    simp -implicitDefEqProofs (disch := omega) only [List.any_cons, List.any_nil, Nat.reduceEqDiff, List.map_cons, List.map_nil, Option.map_some, Option.map_none, List.nil_append, ↓reduceIte, vcu0, vcu1, vcu2, vcu3, vcu4, vcu5, vcu6, vcu7, vcu8, vcu9, vcu10, vcu11, vcu12, vcu13, vcu14, ↓vcd0, ↓vcd1, ↓vcd2]
    have : ¬ Valid xs := fun hV => by have := hV.2; omega
    simp [this]
  · simp -implicitDefEqProofs (disch := omega) only [List.any_cons, List.any_nil, Nat.reduceEqDiff, List.map_cons, List.map_nil, Option.map_some, Option.map_none, List.nil_append, ↓reduceIte, vcu0, vcu1, vcu2, vcu3, vcu4, vcu5, vcu6, vcu7, vcu8, vcu9, vcu10, vcu11, vcu12, vcu13, vcu14, ↓vcd0, ↓vcd1, ↓vcd2]
    refine r_alloc_at ze45 fun g hg => ?_
    simp -implicitDefEqProofs (disch := omega) only [List.any_cons, List.any_nil, Nat.reduceEqDiff, List.map_cons, List.map_nil, Option.map_some, Option.map_none, List.nil_append, ↓reduceIte, vcu0, vcu1, vcu2, vcu3, vcu4, vcu5, vcu6, vcu7, vcu8, vcu9, vcu10, vcu11, vcu12, vcu13, vcu14, ↓vcd0, ↓vcd1, ↓vcd2]
    refine vc_loop mixed (by kernel_rfl) (fun m a σ' => ∃ k : Nat, m + k = xs.length ∧ a 0 = .slice (some ⟨h, o, none⟩) xs.length 1 ∧ a 3 = .pointer (some ⟨g, 0, none⟩) ∧ a 9 = .slice (some ⟨h, o, none⟩) xs.length 1 ∧ a 10 = .int .i64 xs.length ∧ a 11 = .int .i64 k ∧
      σ' = σ.upd g (some ⟨seenB (xs.take k), false⟩) ∧ ∀ j, j < k → (0 ≤ xs.getD j 0 ∧ xs.getD j 0 < xs.length) ∧ xs.getD j 0 ∉ xs.take j) xs.length ⟨0, by simp, rfl, rfl, rfl, rfl, rfl, rfl, by simp⟩ ?_
    rintro m a σ' ⟨k, hk, h0, h3, h9, h10, h11, rfl, hp⟩
    by_cases hlt : k < xs.length
    · have hx := (hv.sub (sub_upd (o := some ⟨seenB (xs.take k), false⟩) hg)) k hlt
      have hxm : xs.getD k 0 ∈ xs := by simp [List.getD, hlt]
      generalize hxx : xs.getD k 0 = x at hx hxm
      by_cases hneg : x < 0
      · simp -implicitDefEqProofs (disch := omega) only [List.any_cons, List.any_nil, Nat.reduceEqDiff, List.map_cons, List.map_nil, Option.map_some, Option.map_none, List.nil_append, ↓reduceIte, vcu0, vcu1, vcu2, vcu3, vcu4, vcu5, vcu6, vcu7, vcu8, vcu9, vcu10, vcu11, vcu12, vcu13, vcu14, ↓vcd0, ↓vcd1, ↓vcd2, h0, h3, h9, h10, h11, hx]
        refine fin_drop Try.results20 σ (sub_upd hg) ⟨?_, rfl⟩
        simp -implicitDefEqProofs (disch := omega) only [List.any_cons, List.any_nil, Nat.reduceEqDiff, List.map_cons, List.map_nil, Option.map_some, Option.map_none, List.nil_append, ↓reduceIte, vcu0, vcu1, vcu2, vcu3, vcu4, vcu5, vcu6, vcu7, vcu8, vcu9, vcu10, vcu11, vcu12, vcu13, vcu14, ↓vcd0, ↓vcd1, ↓vcd2]
        have : ¬ Valid xs := fun hV => by have := hV.1.1 _ hxm; omega
        simp [this]
      · by_cases hbig : (xs.length : Int) ≤ x
        · simp -implicitDefEqProofs (disch := omega) only [List.any_cons, List.any_nil, Nat.reduceEqDiff, List.map_cons, List.map_nil, Option.map_some, Option.map_none, List.nil_append, ↓reduceIte, vcu0, vcu1, vcu2, vcu3, vcu4, vcu5, vcu6, vcu7, vcu8, vcu9, vcu10, vcu11, vcu12, vcu13, vcu14, ↓vcd0, ↓vcd1, ↓vcd2, h0, h3, h9, h10, h11, hx]
          refine fin_drop Try.results20 σ (sub_upd hg) ⟨?_, rfl⟩
          simp -implicitDefEqProofs (disch := omega) only [List.any_cons, List.any_nil, Nat.reduceEqDiff, List.map_cons, List.map_nil, Option.map_some, Option.map_none, List.nil_append, ↓reduceIte, vcu0, vcu1, vcu2, vcu3, vcu4, vcu5, vcu6, vcu7, vcu8, vcu9, vcu10, vcu11, vcu12, vcu13, vcu14, ↓vcd0, ↓vcd1, ↓vcd2]
          have : ¬ Valid xs := fun hV => by have := hV.1.1 _ hxm; omega
          simp [this]
        · have hs : ld (σ.upd g (some ⟨seenB (xs.take k), false⟩)) g (0 + x.toNat) = some (.bool (decide (x ∈ xs.take k))) := by
            rw [ld_upd_same]
            dsimp only
            rw [Nat.zero_add, seenB_get _ (by omega)]
            have : ((x.toNat : Nat) : Int) = x := by omega
            rw [this]
          by_cases hm : x ∈ xs.take k
          · rw [decide_eq_true hm] at hs
            simp -implicitDefEqProofs (disch := omega) only [List.any_cons, List.any_nil, Nat.reduceEqDiff, List.map_cons, List.map_nil, Option.map_some, Option.map_none, List.nil_append, ↓reduceIte, vcu0, vcu1, vcu2, vcu3, vcu4, vcu5, vcu6, vcu7, vcu8, vcu9, vcu10, vcu11, vcu12, vcu13, vcu14, ↓vcd0, ↓vcd1, ↓vcd2, h0, h3, h9, h10, h11, hx, hs]
            refine fin_drop Try.results20 σ (sub_upd hg) ⟨?_, rfl⟩
            simp -implicitDefEqProofs (disch := omega) only [List.any_cons, List.any_nil, Nat.reduceEqDiff, List.map_cons, List.map_nil, Option.map_some, Option.map_none, List.nil_append, ↓reduceIte, vcu0, vcu1, vcu2, vcu3, vcu4, vcu5, vcu6, vcu7, vcu8, vcu9, vcu10, vcu11, vcu12, vcu13, vcu14, ↓vcd0, ↓vcd1, ↓vcd2]
            have : ¬ Valid xs := fun hV => (nodup_take.1 hV.1.2) k hlt (by rw [hxx]; exact hm)
            simp [this]
          · rw [decide_eq_false hm] at hs
            simp -implicitDefEqProofs (disch := omega) only [List.any_cons, List.any_nil, Nat.reduceEqDiff, List.map_cons, List.map_nil, Option.map_some, Option.map_none, List.nil_append, ↓reduceIte, vcu0, vcu1, vcu2, vcu3, vcu4, vcu5, vcu6, vcu7, vcu8, vcu9, vcu10, vcu11, vcu12, vcu13, vcu14, ↓vcd0, ↓vcd1, ↓vcd2, h0, h3, h9, h10, h11, hx, hs]
            have hst := sts_one (σ := σ.upd g (some ⟨seenB (xs.take k), false⟩)) (h := g) (cs := seenB (xs.take k)) (i := 0 + x.toNat) (v := .bool true) (AHeap.upd_same _ _ _) (by rw [seenB_length]; omega)
            refine r_store_at (h := g) (i := 0 + x.toNat) (by simp -implicitDefEqProofs (disch := omega) only [List.any_cons, List.any_nil, Nat.reduceEqDiff, List.map_cons, List.map_nil, Option.map_some, Option.map_none, List.nil_append, ↓reduceIte, vcu0, vcu1, vcu2, vcu3, vcu4, vcu5, vcu6, vcu7, vcu8, vcu9, vcu10, vcu11, vcu12, vcu13, vcu14, ↓vcd0, ↓vcd1, ↓vcd2, h3]) (by rfl) (by rfl) hst ?_
            have htk : xs.take k ++ [x] = xs.take (k + 1) := by
              rw [List.take_succ_eq_append_getElem hlt]
              simp [List.getD, hlt] at hxx
              rw [hxx]
            rw [Nat.zero_add, seenB_set _ (by omega) (by omega), AHeap.upd_upd, htk]
            simp -implicitDefEqProofs (disch := omega) only [List.any_cons, List.any_nil, Nat.reduceEqDiff, List.map_cons, List.map_nil, Option.map_some, Option.map_none, List.nil_append, ↓reduceIte, vcu0, vcu1, vcu2, vcu3, vcu4, vcu5, vcu6, vcu7, vcu8, vcu9, vcu10, vcu11, vcu12, vcu13, vcu14, ↓vcd0, ↓vcd1, ↓vcd2, h0, h3, h9, h10, h11]
            refine ⟨m - 1, by omega, k + 1, by omega, trivial, trivial, trivial, trivial, by simp, rfl, fun j hj => ?_⟩
            by_cases e : j = k
            · subst e; rw [hxx]; exact ⟨by omega, hm⟩
            · exact hp j (by omega)
    · simp -implicitDefEqProofs (disch := omega) only [List.any_cons, List.any_nil, Nat.reduceEqDiff, List.map_cons, List.map_nil, Option.map_some, Option.map_none, List.nil_append, ↓reduceIte, vcu0, vcu1, vcu2, vcu3, vcu4, vcu5, vcu6, vcu7, vcu8, vcu9, vcu10, vcu11, vcu12, vcu13, vcu14, ↓vcd0, ↓vcd1, ↓vcd2, h0, h3, h9, h10, h11]
      refine fin_drop Try.results20 σ (sub_upd hg) ⟨?_, rfl⟩
      simp -implicitDefEqProofs (disch := omega) only [List.any_cons, List.any_nil, Nat.reduceEqDiff, List.map_cons, List.map_nil, Option.map_some, Option.map_none, List.nil_append, ↓reduceIte, vcu0, vcu1, vcu2, vcu3, vcu4, vcu5, vcu6, vcu7, vcu8, vcu9, vcu10, vcu11, vcu12, vcu13, vcu14, ↓vcd0, ↓vcd1, ↓vcd2]
      have : Valid xs := by
        refine ⟨⟨fun x hx => ?_, nodup_take.2 fun j hj => (hp j (by omega)).2⟩, by omega⟩
        obtain ⟨i, hi, rfl⟩ := List.getElem_of_mem hx
        have := (hp i (by omega)).1
        simpa [List.getD, hi] using this
      simp [this]

theorem implValid_calls (σ : AHeap) (v : Value) (xs : List Int) (hv : Ints .i64 σ v xs) (hl : xs.length ≤ 1048576) :
    ACall Try.prog w0 20 [v] σ fun r σ' => r = .bool (decide (Valid xs)) ∧ σ' = σ :=
  ACall.ints_quiet (pre := []) (by kernel_rfl) hv fun σ1 g o _ hg => implValid_at σ1 g o xs hg hl


/-- the copy of a list: a new row -/
theorem toInts_at (σ : AHeap) (h o : Nat) (xs : List Int) (hv : IntsAt .i64 σ h o xs) (hl : xs.length ≤ 1048576) :
    ACall Try.prog w0 46 [.slice (some ⟨h, o, none⟩) xs.length 1] σ fun r σ' => ∃ g, σ g = none ∧ r = .slice (some ⟨g, 0, none⟩) xs.length 1 ∧ σ' = σ.upd g (some ⟨ints .i64 xs, false⟩) := by
  refine acall_go mixed Try.func46 rfl good46 ?_
  simp -implicitDefEqProofs (disch := omega) only [List.any_cons, List.any_nil, Nat.reduceEqDiff, List.map_cons, List.map_nil, Option.map_some, Option.map_none, List.nil_append, ↓reduceIte, vcu0, vcu1, vcu2, vcu3, vcu4, vcu5, vcu6, vcu7, vcu8, vcu9, vcu10, vcu11, vcu12, vcu13, vcu14, ↓vcd0, ↓vcd1, ↓vcd2]
  refine r_make_at Try.underlying23 (i := Try.t3) (z := .int .i64 0) rfl rfl (kx := .i64) (l := xs.length) (ky := .i64) (c := xs.length) (by simp -implicitDefEqProofs (disch := omega) only [List.any_cons, List.any_nil, Nat.reduceEqDiff, List.map_cons, List.map_nil, Option.map_some, Option.map_none, List.nil_append, ↓reduceIte, vcu0, vcu1, vcu2, vcu3, vcu4, vcu5, vcu6, vcu7, vcu8, vcu9, vcu10, vcu11, vcu12, vcu13, vcu14, ↓vcd0, ↓vcd1, ↓vcd2]) (by simp -implicitDefEqProofs (disch := omega) only [List.any_cons, List.any_nil, Nat.reduceEqDiff, List.map_cons, List.map_nil, Option.map_some, Option.map_none, List.nil_append, ↓reduceIte, vcu0, vcu1, vcu2, vcu3, vcu4, vcu5, vcu6, vcu7, vcu8, vcu9, vcu10, vcu11, vcu12, vcu13, vcu14, ↓vcd0, ↓vcd1, ↓vcd2]) ?_ fun g hg => ?_
  · have : ((Try.t3.bytes : Nat) : Int) = 8 := rfl
    rw [this]; omega
  have e1 : Try.t3.size = 1 := rfl
  rw [e1, Nat.mul_one, azeros_ints]
  simp -implicitDefEqProofs (disch := omega) only [List.any_cons, List.any_nil, Nat.reduceEqDiff, List.map_cons, List.map_nil, Option.map_some, Option.map_none, List.nil_append, ↓reduceIte, vcu0, vcu1, vcu2, vcu3, vcu4, vcu5, vcu6, vcu7, vcu8, vcu9, vcu10, vcu11, vcu12, vcu13, vcu14, ↓vcd0, ↓vcd1, ↓vcd2]
  refine vc_loop mixed (by kernel_rfl) (fun m a σ' => ∃ k : Nat, m + k = xs.length ∧ a 0 = .slice (some ⟨h, o, none⟩) xs.length 1 ∧ a 3 = .slice (some ⟨g, 0, none⟩) xs.length 1 ∧ a 4 = .int .i64 k ∧
      σ' = σ.upd g (some ⟨ints .i64 (xs.take k ++ List.replicate (xs.length - k) 0), false⟩)) xs.length ⟨0, by simp, rfl, rfl, rfl, by simp⟩ ?_
  rintro m a σ' ⟨k, hk, h0, h3, h4, rfl⟩
  by_cases hlt : k < xs.length
  · have hx := (hv.sub (sub_upd (o := some ⟨ints .i64 (xs.take k ++ List.replicate (xs.length - k) 0), false⟩) hg)) k hlt
    simp -implicitDefEqProofs (disch := omega) only [List.any_cons, List.any_nil, Nat.reduceEqDiff, List.map_cons, List.map_nil, Option.map_some, Option.map_none, List.nil_append, ↓reduceIte, vcu0, vcu1, vcu2, vcu3, vcu4, vcu5, vcu6, vcu7, vcu8, vcu9, vcu10, vcu11, vcu12, vcu13, vcu14, ↓vcd0, ↓vcd1, ↓vcd2, h0, h3, h4, hx]
    have hst := sts_one (σ := σ.upd g (some ⟨ints .i64 (xs.take k ++ List.replicate (xs.length - k) 0), false⟩)) (h := g) (cs := ints .i64 (xs.take k ++ List.replicate (xs.length - k) 0)) (i := 0 + k) (v := .int .i64 (xs.getD k 0)) (AHeap.upd_same _ _ _) (by rw [ints_length]; simp; omega)
    refine r_store_at (h := g) (i := 0 + k) (by simp -implicitDefEqProofs (disch := omega) only [List.any_cons, List.any_nil, Nat.reduceEqDiff, List.map_cons, List.map_nil, Option.map_some, Option.map_none, List.nil_append, ↓reduceIte, vcu0, vcu1, vcu2, vcu3, vcu4, vcu5, vcu6, vcu7, vcu8, vcu9, vcu10, vcu11, vcu12, vcu13, vcu14, ↓vcd0, ↓vcd1, ↓vcd2, h3]) (by simp -implicitDefEqProofs (disch := omega) only [List.any_cons, List.any_nil, Nat.reduceEqDiff, List.map_cons, List.map_nil, Option.map_some, Option.map_none, List.nil_append, ↓reduceIte, vcu0, vcu1, vcu2, vcu3, vcu4, vcu5, vcu6, vcu7, vcu8, vcu9, vcu10, vcu11, vcu12, vcu13, vcu14, ↓vcd0, ↓vcd1, ↓vcd2]; rfl) (by simp -implicitDefEqProofs (disch := omega) only [List.any_cons, List.any_nil, Nat.reduceEqDiff, List.map_cons, List.map_nil, Option.map_some, Option.map_none, List.nil_append, ↓reduceIte, vcu0, vcu1, vcu2, vcu3, vcu4, vcu5, vcu6, vcu7, vcu8, vcu9, vcu10, vcu11, vcu12, vcu13, vcu14, ↓vcd0, ↓vcd1, ↓vcd2]; rfl) (by simp -implicitDefEqProofs (disch := omega) only [List.any_cons, List.any_nil, Nat.reduceEqDiff, List.map_cons, List.map_nil, Option.map_some, Option.map_none, List.nil_append, ↓reduceIte, vcu0, vcu1, vcu2, vcu3, vcu4, vcu5, vcu6, vcu7, vcu8, vcu9, vcu10, vcu11, vcu12, vcu13, vcu14, ↓vcd0, ↓vcd1, ↓vcd2]; exact hst) ?_
    have hset : (xs.take k ++ List.replicate (xs.length - k) 0).set (0 + k) (xs.getD k 0) = xs.take (k + 1) ++ List.replicate (xs.length - (k + 1)) 0 := by
      apply List.ext_getElem?
      intro i
      rw [List.getElem?_set, List.take_succ_eq_append_getElem hlt]
      rcases Nat.lt_trichotomy i k with hi | hi | hi
      · rw [if_neg (by omega), List.getElem?_append_left (by simp; omega), List.getElem?_append_left (by simp; omega), List.getElem?_append_left (by simp; omega)]
      · subst hi
        rw [if_pos (by omega), if_pos (by simp; omega), List.getElem?_append_left (by simp; omega), List.getElem?_append_right (by simp; omega)]
        have : i - (xs.take i).length = 0 := by simp; omega
        rw [this]; simp [List.getD, hlt]
      · rw [if_neg (by omega), List.getElem?_append_right (by simp; omega), List.getElem?_append_right (by simp; omega), List.getElem?_replicate, List.getElem?_replicate]
        simp only [List.length_take, List.length_append, List.length_singleton]
        by_cases hil : i < xs.length
        · rw [if_pos (by omega), if_pos (by omega)]
        · rw [if_neg (by omega), if_neg (by omega)]
    rw [ints_set, hset, AHeap.upd_upd]
    simp -implicitDefEqProofs (disch := omega) only [List.any_cons, List.any_nil, Nat.reduceEqDiff, List.map_cons, List.map_nil, Option.map_some, Option.map_none, List.nil_append, ↓reduceIte, vcu0, vcu1, vcu2, vcu3, vcu4, vcu5, vcu6, vcu7, vcu8, vcu9, vcu10, vcu11, vcu12, vcu13, vcu14, ↓vcd0, ↓vcd1, ↓vcd2, h0, h3, h4]
    exact ⟨m - 1, by omega, k + 1, by omega, trivial, trivial, by simp, rfl⟩
  · simp -implicitDefEqProofs (disch := omega) only [List.any_cons, List.any_nil, Nat.reduceEqDiff, List.map_cons, List.map_nil, Option.map_some, Option.map_none, List.nil_append, ↓reduceIte, vcu0, vcu1, vcu2, vcu3, vcu4, vcu5, vcu6, vcu7, vcu8, vcu9, vcu10, vcu11, vcu12, vcu13, vcu14, ↓vcd0, ↓vcd1, ↓vcd2, h0, h3, h4]
    refine fin_one Try.results46 ⟨g, hg, ?_, ?_⟩
    · simp -implicitDefEqProofs (disch := omega) only [List.any_cons, List.any_nil, Nat.reduceEqDiff, List.map_cons, List.map_nil, Option.map_some, Option.map_none, List.nil_append, ↓reduceIte, vcu0, vcu1, vcu2, vcu3, vcu4, vcu5, vcu6, vcu7, vcu8, vcu9, vcu10, vcu11, vcu12, vcu13, vcu14, ↓vcd0, ↓vcd1, ↓vcd2, h3]
    · have e2 : k = xs.length := by omega
      subst e2; simp

theorem toInts_calls (σ : AHeap) (v : Value) (xs : List Int) (hv : Ints .i64 σ v xs) (hl : xs.length ≤ 1048576) :
    ACall Try.prog w0 46 [v] σ fun r σ' => ∃ g, σ g = none ∧ r = .slice (some ⟨g, 0, none⟩) xs.length 1 ∧ σ' = σ.upd g (some ⟨ints .i64 xs, false⟩) :=
  ACall.ints_arg (pre := []) (by kernel_rfl) hv fun σ1 g o hs hg => (toInts_at σ1 g o xs hg hl).drop fun r σ2 ⟨g', h1, h2, h3⟩ => by
    have hg' : σ g' = none := by
      cases e : σ g' with
      | none => rfl
      | some ob => have := hs g' ob e; rw [h1] at this; cases this
    refine ⟨_, fun k ob hk => ?_, g', hg', h2, rfl⟩
    subst h3
    by_cases e : k = g'
    · subst e; rw [AHeap.upd_same] at hk ⊢; exact hk
    · rw [AHeap.upd_ne _ _ e] at hk ⊢; exact hs k ob hk

theorem eqInts_at (σ : AHeap) (h o g p : Nat) (xs ys : List Int) (hv : IntsAt .i64 σ h o xs) (hu : IntsAt .i64 σ g p ys) (hl : xs.length ≤ 1048576) (hl2 : ys.length ≤ 1048576) :
    ACall Try.prog w0 47 [.slice (some ⟨h, o, none⟩) xs.length 1, .slice (some ⟨g, p, none⟩) ys.length 1] σ fun r σ' => r = .bool (decide (xs = ys)) ∧ σ' = σ := by
  refine acall_go mixed Try.func47 rfl good47 ?_
  by_cases hlen : xs.length = ys.length
  · simp -implicitDefEqProofs (disch := omega) only [List.any_cons, List.any_nil, Nat.reduceEqDiff, List.map_cons, List.map_nil, Option.map_some, Option.map_none, List.nil_append, ↓reduceIte, vcu0, vcu1, vcu2, vcu3, vcu4, vcu5, vcu6, vcu7, vcu8, vcu9, vcu10, vcu11, vcu12, vcu13, vcu14, ↓vcd0, ↓vcd1, ↓vcd2]
    refine vc_loop mixed (by kernel_rfl) (fun m a σ' => ∃ k : Nat, m + k = xs.length ∧ a 0 = .slice (some ⟨h, o, none⟩) xs.length 1 ∧ a 1 = .slice (some ⟨g, p, none⟩) ys.length 1 ∧ a 5 = .int .i64 k ∧ σ' = σ ∧ ∀ j, j < k → xs.getD j 0 = ys.getD j 0) xs.length ⟨0, by simp, rfl, rfl, rfl, rfl, by simp⟩ ?_
    rintro m a σ' ⟨k, hk, h0, h1, h5, rfl, he⟩
    by_cases hlt : k < xs.length
    · have hx := hv k hlt
      have hy := hu k (by omega)
      by_cases hxy : xs.getD k 0 = ys.getD k 0
      · simp -implicitDefEqProofs (disch := omega) only [List.any_cons, List.any_nil, Nat.reduceEqDiff, List.map_cons, List.map_nil, Option.map_some, Option.map_none, List.nil_append, ↓reduceIte, vcu0, vcu1, vcu2, vcu3, vcu4, vcu5, vcu6, vcu7, vcu8, vcu9, vcu10, vcu11, vcu12, vcu13, vcu14, ↓vcd0, ↓vcd1, ↓vcd2, h0, h1, h5, hx, hy]
        refine ⟨m - 1, by omega, k + 1, by omega, trivial, trivial, by simp, trivial, fun j hj => ?_⟩
        by_cases e : j = k
        · subst e; exact hxy
        · exact he j (by omega)
      · simp -implicitDefEqProofs (disch := omega) only [List.any_cons, List.any_nil, Nat.reduceEqDiff, List.map_cons, List.map_nil, Option.map_some, Option.map_none, List.nil_append, ↓reduceIte, vcu0, vcu1, vcu2, vcu3, vcu4, vcu5, vcu6, vcu7, vcu8, vcu9, vcu10, vcu11, vcu12, vcu13, vcu14, ↓vcd0, ↓vcd1, ↓vcd2, h0, h1, h5, hx, hy]
        refine fin_one Try.results47 ⟨?_, rfl⟩
        simp -implicitDefEqProofs (disch := omega) only [List.any_cons, List.any_nil, Nat.reduceEqDiff, List.map_cons, List.map_nil, Option.map_some, Option.map_none, List.nil_append, ↓reduceIte, vcu0, vcu1, vcu2, vcu3, vcu4, vcu5, vcu6, vcu7, vcu8, vcu9, vcu10, vcu11, vcu12, vcu13, vcu14, ↓vcd0, ↓vcd1, ↓vcd2]
        have : xs ≠ ys := fun e => hxy (by rw [e])
        simp [this]
    · simp -implicitDefEqProofs (disch := omega) only [List.any_cons, List.any_nil, Nat.reduceEqDiff, List.map_cons, List.map_nil, Option.map_some, Option.map_none, List.nil_append, ↓reduceIte, vcu0, vcu1, vcu2, vcu3, vcu4, vcu5, vcu6, vcu7, vcu8, vcu9, vcu10, vcu11, vcu12, vcu13, vcu14, ↓vcd0, ↓vcd1, ↓vcd2, h0, h1, h5]
      refine fin_one Try.results47 ⟨?_, rfl⟩
      simp -implicitDefEqProofs (disch := omega) only [List.any_cons, List.any_nil, Nat.reduceEqDiff, List.map_cons, List.map_nil, Option.map_some, Option.map_none, List.nil_append, ↓reduceIte, vcu0, vcu1, vcu2, vcu3, vcu4, vcu5, vcu6, vcu7, vcu8, vcu9, vcu10, vcu11, vcu12, vcu13, vcu14, ↓vcd0, ↓vcd1, ↓vcd2]
      have : xs = ys := by
        apply List.ext_getElem hlen
        intro i h1 h2
        have := he i (by omega)
        simpa [List.getD, h1, h2] using this
      simp [this]
  · simp -implicitDefEqProofs (disch := omega) only [List.any_cons, List.any_nil, Nat.reduceEqDiff, List.map_cons, List.map_nil, Option.map_some, Option.map_none, List.nil_append, ↓reduceIte, vcu0, vcu1, vcu2, vcu3, vcu4, vcu5, vcu6, vcu7, vcu8, vcu9, vcu10, vcu11, vcu12, vcu13, vcu14, ↓vcd0, ↓vcd1, ↓vcd2]
    refine fin_one Try.results47 ⟨?_, rfl⟩
    simp -implicitDefEqProofs (disch := omega) only [List.any_cons, List.any_nil, Nat.reduceEqDiff, List.map_cons, List.map_nil, Option.map_some, Option.map_none, List.nil_append, ↓reduceIte, vcu0, vcu1, vcu2, vcu3, vcu4, vcu5, vcu6, vcu7, vcu8, vcu9, vcu10, vcu11, vcu12, vcu13, vcu14, ↓vcd0, ↓vcd1, ↓vcd2]
    have : xs ≠ ys := fun e => hlen (by rw [e])
    simp [this]

theorem eqInts_calls (σ : AHeap) (v u : Value) (xs ys : List Int) (hv : Ints .i64 σ v xs) (hu : Ints .i64 σ u ys) (hl : xs.length ≤ 1048576) (hl2 : ys.length ≤ 1048576) :
    ACall Try.prog w0 47 [v, u] σ fun r σ' => r = .bool (decide (xs = ys)) ∧ σ' = σ :=
  ACall.ints_quiet (pre := []) (post := [u]) (by kernel_rfl) hv fun σ1 h o hs hg =>
    ACall.ints_quiet (pre := [_]) (post := []) (by kernel_rfl) (hu.sub hs) fun σ2 g p hs2 hg2 => eqInts_at σ2 h o g p xs ys (hg.sub hs2) hg2 hl hl2

end Go.Proofs.Ytdgbaglhhhbbhaa
