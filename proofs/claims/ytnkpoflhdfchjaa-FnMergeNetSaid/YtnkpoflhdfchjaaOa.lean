/- Inputs of 0 and 1: what a network does to them; the first one that it does not bring into order. -/
import Derived.Test.YtnkpoflhdfchjaaNg
set_option linter.unusedSimpArgs false
set_option linter.unusedVariables false
namespace Go.Proofs.Ytnkpoflhdfchjaa
open Go Go.Abs Go.RowKit

/-- the bits of a number, from the least one on -/
def bitsL (n k : Nat) : List Int := (List.range n).map fun i => ((k / 2 ^ i % 2 : Nat) : Int)
theorem bitsL_length (n k : Nat) : (bitsL n k).length = n := by simp [bitsL]
theorem bitsL_zero (k : Nat) : bitsL 0 k = [] := rfl
theorem bitsL_snoc (n k : Nat) : bitsL (n + 1) k = bitsL n k ++ [((k / 2 ^ n % 2 : Nat) : Int)] := by simp [bitsL, List.range_succ]
theorem bitsL_cons (n k : Nat) : bitsL (n + 1) k = ((k % 2 : Nat) : Int) :: bitsL n (k / 2) := by
  simp only [bitsL, List.range_succ_eq_map, List.map_cons, List.map_map]
  congr 1
  · simp
  · apply List.map_congr_left
    intro i _
    simp only [Function.comp]
    rw [Nat.pow_succ, Nat.mul_comm, Nat.div_div_eq_div_mul]
theorem bitsL_getD {n k i : Nat} (h : i < n) : (bitsL n k).getD i 0 = ((k / 2 ^ i % 2 : Nat) : Int) := by simp [bitsL, List.getD, h]
/-- a list of 0 and 1 -/
def Bin (b : List Int) : Prop := ∀ x ∈ b, x = 0 ∨ x = 1
theorem bin_bits (n k : Nat) : Bin (bitsL n k) := by
  intro x hx
  simp only [bitsL, List.mem_map] at hx
  obtain ⟨i, _, rfl⟩ := hx
  have : k / 2 ^ i % 2 < 2 := Nat.mod_lt _ (by omega)
  omega
theorem bits_of_bin : ∀ (b : List Int), Bin b → ∃ k, k < 2 ^ b.length ∧ bitsL b.length k = b
  | [], _ => ⟨0, by simp, rfl⟩
  | x :: b, h => by
    obtain ⟨k, h1, h2⟩ := bits_of_bin b fun y hy => h y (by simp [hy])
    have hx := h x (by simp)
    obtain ⟨c, hc, hx⟩ : ∃ c : Nat, c < 2 ∧ x = c := by
      rcases hx with rfl | rfl
      · exact ⟨0, by omega, rfl⟩
      · exact ⟨1, by omega, rfl⟩
    refine ⟨c + 2 * k, ?_, ?_⟩
    · simp only [List.length_cons, Nat.pow_succ]; omega
    · simp only [List.length_cons, bitsL_cons]
      have e1 : (c + 2 * k) % 2 = c := by omega
      have e2 : (c + 2 * k) / 2 = k := by omega
      rw [e1, e2, h2, hx]

/-- the first input that is not brought into order -/
def fault (cs : List (Int × Int)) (n : Nat) : Option Nat := (List.range (2 ^ n)).find? fun k => !decide (Up (runs cs (bitsL n k)))
theorem fault_some {cs : List (Int × Int)} {n k : Nat} : fault cs n = some k ↔ k < 2 ^ n ∧ ¬ Up (runs cs (bitsL n k)) ∧ ∀ j, j < k → Up (runs cs (bitsL n j)) := by
  unfold fault
  rw [List.find?_range_eq_some]
  simp only [Bool.not_eq_true', decide_eq_false_iff_not, List.mem_range, Bool.not_not, decide_eq_true_eq]
  exact ⟨fun ⟨a, b, c⟩ => ⟨b, a, c⟩, fun ⟨a, b, c⟩ => ⟨b, a, c⟩⟩
theorem fault_none {cs : List (Int × Int)} {n : Nat} : fault cs n = none ↔ ∀ j, j < 2 ^ n → Up (runs cs (bitsL n j)) := by
  unfold fault
  rw [List.find?_range_eq_none]
  simp
def bfV (lines : Int) (cs : List (Int × Int)) : Int := if NV lines cs then (match fault cs lines.toNat with | some k => (k : Int) | none => -1) else -1
def Srt (lines : Int) (cs : List (Int × Int)) : Prop := NV lines cs ∧ fault cs lines.toNat = none
instance (lines : Int) (cs : List (Int × Int)) : Decidable (Srt lines cs) := by unfold Srt; infer_instance
theorem pow6 {n : Nat} (h : n ≤ 6) : 2 ^ n ≤ 64 := by
  have : 2 ^ n ≤ 2 ^ 6 := Nat.pow_le_pow_right (by omega) h
  omega
theorem bfV_some {lines : Int} {cs : List (Int × Int)} {k : Nat} (hN : NV lines cs) (h : fault cs lines.toNat = some k) : bfV lines cs = k := by unfold bfV; rw [if_pos hN, h]
theorem bfV_none {lines : Int} {cs : List (Int × Int)} (hN : NV lines cs) (h : fault cs lines.toNat = none) : bfV lines cs = -1 := by unfold bfV; rw [if_pos hN, h]
theorem bfV_not {lines : Int} {cs : List (Int × Int)} (hN : ¬ NV lines cs) : bfV lines cs = -1 := by unfold bfV; rw [if_neg hN]
theorem srt_bf {lines : Int} {cs : List (Int × Int)} : Srt lines cs ↔ NV lines cs ∧ bfV lines cs = -1 := by
  unfold Srt
  constructor
  · rintro ⟨h1, h2⟩; exact ⟨h1, bfV_none h1 h2⟩
  · rintro ⟨h1, h2⟩
    refine ⟨h1, ?_⟩
    cases h : fault cs lines.toNat with
    | none => rfl
    | some k => rw [bfV_some h1 h] at h2; omega
theorem bfV_lo (lines : Int) (cs : List (Int × Int)) : -1 ≤ bfV lines cs := by
  unfold bfV
  split
  · split <;> omega
  · omega

/-- shifts and the last bit, as the machine reckons them -/
theorem shr_bits (k i : Nat) (hk : k ≤ 64) : Int.fdiv (k : Int) (2 ^ (min i 64)) = ((k / 2 ^ (min i 64) : Nat) : Int) := by
  rw [Int.fdiv_eq_ediv_of_nonneg _ (Int.pow_nonneg (by omega))]
  norm_cast
theorem and_one (k : Nat) (hk : k ≤ 9223372036854775807) : IntKind.i64.wrap ((BitVec.ofInt 64 (k : Int) &&& BitVec.ofInt 64 1).toNat : Int) = ((k % 2 : Nat) : Int) := by
  have h1 : (BitVec.ofInt 64 (k : Int)).toNat = k := by
    rw [BitVec.toNat_ofInt]; omega
  have h2 : (BitVec.ofInt 64 (1 : Int)).toNat = 1 := rfl
  rw [BitVec.toNat_and, h1, h2, Nat.and_one_is_mod]
  exact wrap_i64_ok (by omega)

/-! Whoever sorts 0 and 1 sorts everything. -/
theorem cmpx_map (f : Int → Int) (hf : ∀ x y, x ≤ y → f x ≤ f y) (ys : List Int) {A B : Nat} (hA : A < ys.length) (hB : B < ys.length) (hAB : A < B) : cmpx (ys.map f) A B = (cmpx ys A B).map f := by
  have g : ∀ i, i < ys.length → (ys.map f).getD i 0 = f (ys.getD i 0) := fun i hi => by simp [List.getD, hi]
  rw [← cmpx_set _ (by simpa using hA) (by simpa using hB) hAB, ← cmpx_set ys hA hB hAB, g A hA, g B hB, List.map_set, List.map_set]
  generalize ys.getD A 0 = x
  generalize ys.getD B 0 = y
  rcases Int.le_total x y with h | h
  · have := hf _ _ h
    rw [Int.min_eq_left h, Int.max_eq_right h, Int.min_eq_left this, Int.max_eq_right this]
  · have := hf _ _ h
    rw [Int.min_eq_right h, Int.max_eq_left h, Int.min_eq_right this, Int.max_eq_left this]
theorem runs_map (f : Int → Int) (hf : ∀ x y, x ≤ y → f x ≤ f y) : ∀ (cs : List (Int × Int)) (ys : List Int), (∀ c ∈ cs, NVc ys.length c) → runs cs (ys.map f) = (runs cs ys).map f
  | [], _, _ => rfl
  | c :: cs, ys, hc => by
    have h := hc c (by simp)
    unfold NVc at h
    show runs cs (cmpx (ys.map f) c.1.toNat c.2.toNat) = (runs cs (cmpx ys c.1.toNat c.2.toNat)).map f
    rw [cmpx_map f hf ys (by omega) (by omega) (by omega)]
    exact runs_map f hf cs _ fun d hd => by rw [cmpx_length]; exact hc d (by simp [hd])
def thr (t x : Int) : Int := if t ≤ x then 1 else 0
theorem thr_mono (t x y : Int) (h : x ≤ y) : thr t x ≤ thr t y := by unfold thr; split <;> split <;> omega
theorem bin_thr (t : Int) (ys : List Int) : Bin (ys.map (thr t)) := by
  intro x hx
  simp only [List.mem_map] at hx
  obtain ⟨y, _, rfl⟩ := hx
  unfold thr; split <;> simp
theorem sorts_all {cs : List (Int × Int)} {n : Nat} (h : ∀ k, k < 2 ^ n → Up (runs cs (bitsL n k))) (ys : List Int) (hl : ys.length = n) (hc : ∀ c ∈ cs, NVc n c) : Up (runs cs ys) := by
  intro i hi
  rcases Int.lt_or_le ((runs cs ys).getD (i + 1) 0) ((runs cs ys).getD i 0) with hlt | hle
  · exfalso
    have hb := bin_thr ((runs cs ys).getD i 0) ys
    obtain ⟨k, h1, h2⟩ := bits_of_bin _ hb
    rw [List.length_map, hl] at h1 h2
    have hU := h k h1
    rw [h2, runs_map _ (thr_mono _) cs ys (by rw [hl]; exact hc)] at hU
    have := hU i (by simpa using hi)
    have g : ∀ j, j < (runs cs ys).length → ((runs cs ys).map (thr ((runs cs ys).getD i 0))).getD j 0 = thr ((runs cs ys).getD i 0) ((runs cs ys).getD j 0) := fun j hj => by simp [List.getD, hj]
    rw [g i (by omega), g (i + 1) (by omega)] at this
    unfold thr at this
    rw [if_pos (Int.le_refl _), if_neg (by omega)] at this
    omega
  · exact hle
end Go.Proofs.Ytnkpoflhdfchjaa
