/- The walks of PermCrosses; all valid lists. -/
import Derived.Test.YtdgbaglhhhbbhaaPc
set_option linter.unusedSimpArgs false
set_option linter.unusedVariables false
namespace Go.Proofs.Ytdgbaglhhhbbhaa
open Go Go.Abs Go.RowKit
variable {w0 : World}

/-- all orders of k of the numbers of a pool -/
def orders : Nat → List Int → List (List Int)
  | 0, _ => [[]]
  | k + 1, pool => pool.flatMap fun x => (orders k (pool.filter (· ≠ x))).map (x :: ·)
theorem mem_orders : ∀ (ys pool : List Int), ys.Nodup → (∀ y ∈ ys, y ∈ pool) → ys ∈ orders ys.length pool
  | [], pool, _, _ => by simp [orders]
  | y :: ys, pool, hd, hm => by
    rw [List.nodup_cons] at hd
    simp only [List.length_cons, orders, List.mem_flatMap]
    refine ⟨y, hm y (by simp), List.mem_map.2 ⟨ys, mem_orders ys _ hd.2 fun z hz => ?_, rfl⟩⟩
    rw [List.mem_filter]
    refine ⟨hm z (by simp [hz]), ?_⟩
    have : z ≠ y := fun e => hd.1 (e ▸ hz)
    simpa using this
/-- all valid lists -/
def allV : List (List Int) := (List.range 7).flatMap fun n => orders n ((List.range n).map fun (i : Nat) => (i : Int))
theorem valid_mem {xs : List Int} (h : Valid xs) : xs ∈ allV := by
  unfold allV
  rw [List.mem_flatMap]
  refine ⟨xs.length, by have := h.2; simp; omega, mem_orders xs _ h.1.2 fun y hy => ?_⟩
  have := h.1.1 y hy
  rw [List.mem_map]
  exact ⟨y.toNat, by simp; omega, by omega⟩
theorem valid_all {p : List Int → Bool} (hp : allV.all p = true) {xs : List Int} (h : Valid xs) : p xs = true := List.all_eq_true.1 hp xs (valid_mem h)

/-- how many of the first i are such -/
def cnt (q : Int → Bool) (ys : List Int) (i : Nat) : Nat := ((ys.take i).filter q).length
theorem cnt_zero (q : Int → Bool) (ys : List Int) : cnt q ys 0 = 0 := by simp [cnt]
theorem cnt_le (q : Int → Bool) (ys : List Int) (i : Nat) : cnt q ys i ≤ ys.length := by
  unfold cnt; have h := List.length_filter_le q (ys.take i); have h2 := List.length_take_le' i ys; omega
theorem cnt_yes {q : Int → Bool} {ys : List Int} {i : Nat} (h : i < ys.length) (hq : q (ys.getD i 0) = true) : cnt q ys (i + 1) = cnt q ys i + 1 := by
  unfold cnt
  have e : ys.getD i 0 = ys[i] := by simp [List.getD, h]
  rw [e] at hq
  rw [List.take_succ_eq_append_getElem h, List.filter_append, List.length_append]; simp [hq]
theorem cnt_no {q : Int → Bool} {ys : List Int} {i : Nat} (h : i < ys.length) (hq : q (ys.getD i 0) = false) : cnt q ys (i + 1) = cnt q ys i := by
  unfold cnt
  have e : ys.getD i 0 = ys[i] := by simp [List.getD, h]
  rw [e] at hq
  rw [List.take_succ_eq_append_getElem h, List.filter_append, List.length_append]; simp [hq]
/-- how many behind a place are less -/
def less (xs : List Int) (k : Nat) : Nat := cnt (fun y => decide (y < xs.getD k 0)) (xs.drop (k + 1)) (xs.length - (k + 1))
theorem less_le (xs : List Int) (k : Nat) : less xs k ≤ xs.length := by
  unfold less; have := cnt_le (fun y => decide (y < xs.getD k 0)) (xs.drop (k + 1)) (xs.length - (k + 1)); simp at this ⊢; omega

theorem less_at (σ : AHeap) (h o : Nat) (xs : List Int) (k : Nat) (hv : IntsAt .i64 σ h o xs) (hl : xs.length ≤ 1048576) (hk : k < xs.length) :
    ACall Try.prog w0 56 [.slice (some ⟨h, o, none⟩) xs.length 1, .int .i64 k] σ fun r σ' => r = .int .i64 (less xs k) ∧ σ' = σ := by
  refine acall_go mixed Try.func56 rfl good56 ?_
  have hx := hv k hk
  have hd : IntsAt .i64 σ h (o + (k + 1)) (xs.drop (k + 1)) := hv.drop (k + 1)
  generalize hys : xs.drop (k + 1) = ys at hd
  have hyl : ys.length = xs.length - (k + 1) := by rw [← hys]; simp
  have hkk : ((k : Int) + 1).toNat = k + 1 := by omega
  unfold less
  rw [hys, ← hyl]
  generalize xs.getD k 0 = x at hx
  generalize hq : (fun y => decide (y < x)) = q
  simp -implicitDefEqProofs (disch := omega) only [List.any_cons, List.any_nil, Nat.reduceEqDiff, List.map_cons, List.map_nil, Option.map_some, Option.map_none, List.nil_append, ↓reduceIte, vcu0, vcu1, vcu2, vcu3, vcu4, vcu5, vcu6, vcu7, vcu8, vcu9, vcu10, vcu11, vcu12, vcu13, vcu14, ↓vcd0, ↓vcd1, ↓vcd2, hkk, ← hyl]
  refine vc_loop mixed (by kernel_rfl) (fun m a σ' => ∃ i : Nat, m + i = ys.length ∧ a 0 = .slice (some ⟨h, o, none⟩) xs.length 1 ∧ a 1 = .int .i64 k ∧ a 5 = .int .i64 (cnt q ys i) ∧
    a 11 = .slice (some ⟨h, o + (k + 1), none⟩) ys.length 1 ∧ a 12 = .int .i64 ys.length ∧ a 13 = .int .i64 i ∧ σ' = σ) ys.length ⟨0, by simp, rfl, rfl, by simp [fset, cnt_zero], by simp [fset, hkk, ← hyl], by simp [fset, hkk, ← hyl], rfl, rfl⟩ ?_
  rintro m a σ' ⟨i, hi, h0, h1, h5, h11, h12, h13, rfl⟩
  by_cases hlt : i < ys.length
  · have hy := hd i hlt
    have hle := cnt_le q ys i
    by_cases hc : ys.getD i 0 < x
    · simp -implicitDefEqProofs (disch := omega) only [List.any_cons, List.any_nil, Nat.reduceEqDiff, List.map_cons, List.map_nil, Option.map_some, Option.map_none, List.nil_append, ↓reduceIte, vcu0, vcu1, vcu2, vcu3, vcu4, vcu5, vcu6, vcu7, vcu8, vcu9, vcu10, vcu11, vcu12, vcu13, vcu14, ↓vcd0, ↓vcd1, ↓vcd2, h0, h1, h5, h11, h12, h13, hx, hy]
      exact ⟨m - 1, by omega, i + 1, by omega, trivial, trivial, by rw [cnt_yes hlt (by rw [← hq]; exact decide_eq_true hc)]; simp, trivial, trivial, by simp, trivial⟩
    · simp -implicitDefEqProofs (disch := omega) only [List.any_cons, List.any_nil, Nat.reduceEqDiff, List.map_cons, List.map_nil, Option.map_some, Option.map_none, List.nil_append, ↓reduceIte, vcu0, vcu1, vcu2, vcu3, vcu4, vcu5, vcu6, vcu7, vcu8, vcu9, vcu10, vcu11, vcu12, vcu13, vcu14, ↓vcd0, ↓vcd1, ↓vcd2, h0, h1, h5, h11, h12, h13, hx, hy]
      exact ⟨m - 1, by omega, i + 1, by omega, trivial, trivial, by rw [cnt_no hlt (by rw [← hq]; exact decide_eq_false hc)], trivial, trivial, by simp, trivial⟩
  · simp -implicitDefEqProofs (disch := omega) only [List.any_cons, List.any_nil, Nat.reduceEqDiff, List.map_cons, List.map_nil, Option.map_some, Option.map_none, List.nil_append, ↓reduceIte, vcu0, vcu1, vcu2, vcu3, vcu4, vcu5, vcu6, vcu7, vcu8, vcu9, vcu10, vcu11, vcu12, vcu13, vcu14, ↓vcd0, ↓vcd1, ↓vcd2, h0, h1, h5, h11, h12, h13]
    refine fin_one Try.results56 ⟨?_, rfl⟩
    simp -implicitDefEqProofs (disch := omega) only [List.any_cons, List.any_nil, Nat.reduceEqDiff, List.map_cons, List.map_nil, Option.map_some, Option.map_none, List.nil_append, ↓reduceIte, vcu0, vcu1, vcu2, vcu3, vcu4, vcu5, vcu6, vcu7, vcu8, vcu9, vcu10, vcu11, vcu12, vcu13, vcu14, ↓vcd0, ↓vcd1, ↓vcd2, h5]
    have e : i = ys.length := by omega
    rw [e]

/-- crosses, as the program adds them -/
def crossI (xs : List Int) (k : Nat) : Nat := ((List.range k).map (less xs)).sum
theorem crossI_succ (xs : List Int) (k : Nat) : crossI xs (k + 1) = crossI xs k + less xs k := by
  simp [crossI, List.range_succ, List.map_append, List.sum_append]
theorem crossI_le (xs : List Int) : ∀ k, crossI xs k ≤ k * xs.length
  | 0 => by simp [crossI]
  | k + 1 => by rw [crossI_succ, Nat.succ_mul]; have := crossI_le xs k; have := less_le xs k; omega

theorem implCross_at (σ : AHeap) (h o : Nat) (xs : List Int) (hv : IntsAt .i64 σ h o xs) (hl : xs.length ≤ 1048576) :
    ACall Try.prog w0 37 [.slice (some ⟨h, o, none⟩) xs.length 1] σ fun r σ' => r = .int .i64 (if Valid xs then (crossI xs xs.length : Int) else -1) ∧ σ' = σ := by
  refine acall_go mixed Try.func37 rfl good37 ?_
  simp -implicitDefEqProofs (disch := omega) only [List.any_cons, List.any_nil, Nat.reduceEqDiff, List.map_cons, List.map_nil, Option.map_some, Option.map_none, List.nil_append, ↓reduceIte, vcu0, vcu1, vcu2, vcu3, vcu4, vcu5, vcu6, vcu7, vcu8, vcu9, vcu10, vcu11, vcu12, vcu13, vcu14, ↓vcd0, ↓vcd1, ↓vcd2]
  refine (implValid_at σ h o xs hv hl).mono ?_
  rintro r σ' ⟨rfl, rfl⟩
  by_cases hV : Valid xs
  · have h6 := hV.2
    rw [decide_eq_true hV, if_pos hV]
    simp -implicitDefEqProofs (disch := omega) only [List.any_cons, List.any_nil, Nat.reduceEqDiff, List.map_cons, List.map_nil, Option.map_some, Option.map_none, List.nil_append, ↓reduceIte, vcu0, vcu1, vcu2, vcu3, vcu4, vcu5, vcu6, vcu7, vcu8, vcu9, vcu10, vcu11, vcu12, vcu13, vcu14, ↓vcd0, ↓vcd1, ↓vcd2, opK_some]
    refine vc_loop mixed (by kernel_rfl) (fun m a σ1 => ∃ i : Nat, m + i = xs.length ∧ a 0 = .slice (some ⟨h, o, none⟩) xs.length 1 ∧ a 3 = .int .i64 (crossI xs i) ∧ a 9 = .int .i64 xs.length ∧ a 10 = .int .i64 i ∧ σ1 = σ') xs.length ⟨0, by simp, rfl, rfl, rfl, rfl, rfl⟩ ?_
    rintro m a σ1 ⟨i, hi, h0, h3, h9, h10, rfl⟩
    by_cases hlt : i < xs.length
    · have hle := crossI_le xs i
      have hb : i * xs.length ≤ 6 * 6 := Nat.mul_le_mul (by omega) h6
      have hls := less_le xs i
      simp -implicitDefEqProofs (disch := omega) only [List.any_cons, List.any_nil, Nat.reduceEqDiff, List.map_cons, List.map_nil, Option.map_some, Option.map_none, List.nil_append, ↓reduceIte, vcu0, vcu1, vcu2, vcu3, vcu4, vcu5, vcu6, vcu7, vcu8, vcu9, vcu10, vcu11, vcu12, vcu13, vcu14, ↓vcd0, ↓vcd1, ↓vcd2, h0, h3, h9, h10]
      refine (less_at σ1 h o xs i hv hl hlt).mono ?_
      rintro r σ2 ⟨rfl, rfl⟩
      simp -implicitDefEqProofs (disch := omega) only [List.any_cons, List.any_nil, Nat.reduceEqDiff, List.map_cons, List.map_nil, Option.map_some, Option.map_none, List.nil_append, ↓reduceIte, vcu0, vcu1, vcu2, vcu3, vcu4, vcu5, vcu6, vcu7, vcu8, vcu9, vcu10, vcu11, vcu12, vcu13, vcu14, ↓vcd0, ↓vcd1, ↓vcd2, opK_some, h0, h3, h9, h10]
      exact ⟨m - 1, by omega, i + 1, by omega, trivial, by rw [crossI_succ]; simp, trivial, by simp, trivial⟩
    · simp -implicitDefEqProofs (disch := omega) only [List.any_cons, List.any_nil, Nat.reduceEqDiff, List.map_cons, List.map_nil, Option.map_some, Option.map_none, List.nil_append, ↓reduceIte, vcu0, vcu1, vcu2, vcu3, vcu4, vcu5, vcu6, vcu7, vcu8, vcu9, vcu10, vcu11, vcu12, vcu13, vcu14, ↓vcd0, ↓vcd1, ↓vcd2, h0, h3, h9, h10]
      refine fin_one Try.results37 ⟨?_, rfl⟩
      simp -implicitDefEqProofs (disch := omega) only [List.any_cons, List.any_nil, Nat.reduceEqDiff, List.map_cons, List.map_nil, Option.map_some, Option.map_none, List.nil_append, ↓reduceIte, vcu0, vcu1, vcu2, vcu3, vcu4, vcu5, vcu6, vcu7, vcu8, vcu9, vcu10, vcu11, vcu12, vcu13, vcu14, ↓vcd0, ↓vcd1, ↓vcd2, h3]
      have e : i = xs.length := by omega
      rw [e]
  · rw [decide_eq_false hV, if_neg hV]
    simp -implicitDefEqProofs (disch := omega) only [List.any_cons, List.any_nil, Nat.reduceEqDiff, List.map_cons, List.map_nil, Option.map_some, Option.map_none, List.nil_append, ↓reduceIte, vcu0, vcu1, vcu2, vcu3, vcu4, vcu5, vcu6, vcu7, vcu8, vcu9, vcu10, vcu11, vcu12, vcu13, vcu14, ↓vcd0, ↓vcd1, ↓vcd2, opK_some]
    refine fin_one Try.results37 ⟨?_, rfl⟩
    simp -implicitDefEqProofs (disch := omega) only [List.any_cons, List.any_nil, Nat.reduceEqDiff, List.map_cons, List.map_nil, Option.map_some, Option.map_none, List.nil_append, ↓reduceIte, vcu0, vcu1, vcu2, vcu3, vcu4, vcu5, vcu6, vcu7, vcu8, vcu9, vcu10, vcu11, vcu12, vcu13, vcu14, ↓vcd0, ↓vcd1, ↓vcd2]

end Go.Proofs.Ytdgbaglhhhbbhaa
