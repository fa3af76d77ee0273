/- Filling up: rows and columns that lack something. -/
import Derived.Test.YtpcbgdgfdfpapaaFacts
import Derived.Test.YtpcbgdgfdfpapaaSa
import Derived.Test.YtpcbgdgfdfpapaaQc
set_option linter.unusedSimpArgs false
set_option linter.unusedVariables false
namespace Go.Frames
def sm (f : Nat → Int) : Nat → Int
  | 0 => 0
  | k + 1 => sm f k + f k
theorem sm_congr {f g : Nat → Int} : ∀ n, (∀ k, k < n → f k = g k) → sm f n = sm g n
  | 0, _ => rfl
  | n + 1, h => by rw [sm, sm, sm_congr n (fun k hk => h k (by omega)), h n (by omega)]
theorem sm_le {f g : Nat → Int} : ∀ n, (∀ k, k < n → f k ≤ g k) → sm f n ≤ sm g n
  | 0, _ => Int.le_refl _
  | n + 1, h => by
    have := sm_le n (fun k hk => h k (by omega))
    have := h n (by omega)
    simp only [sm]; omega
theorem sm_add (f g : Nat → Int) : ∀ n, sm (fun k => f k + g k) n = sm f n + sm g n
  | 0 => rfl
  | n + 1 => by simp only [sm, sm_add f g n]; omega
theorem sm_sub (f g : Nat → Int) : ∀ n, sm (fun k => f k - g k) n = sm f n - sm g n
  | 0 => rfl
  | n + 1 => by simp only [sm, sm_sub f g n]; omega
theorem sm_zero : ∀ n, sm (fun _ => 0) n = 0
  | 0 => rfl
  | n + 1 => by rw [sm, sm_zero n]; rfl
theorem sm_nonneg {f : Nat → Int} (n : Nat) (h : ∀ k, k < n → 0 ≤ f k) : 0 ≤ sm f n := by
  have := sm_le (f := fun _ => 0) (g := f) n h
  rwa [sm_zero] at this
theorem sm_one_le {f : Nat → Int} {n k : Nat} (h : ∀ k, k < n → 0 ≤ f k) (hk : k < n) : f k ≤ sm f n := by
  induction n with
  | zero => omega
  | succ n ih =>
    simp only [sm]
    by_cases e : k = n
    · subst e
      have := sm_nonneg k fun j hj => h j (by omega)
      omega
    · have := ih (fun j hj => h j (by omega)) (by omega)
      have := h n (by omega)
      omega
theorem sm_all_zero {f : Nat → Int} {n : Nat} (h : ∀ k, k < n → 0 ≤ f k) (h0 : sm f n = 0) {k : Nat} (hk : k < n) : f k = 0 := by
  have := sm_one_le h hk
  have := h k hk
  omega
theorem sm_swap (g : Nat → Nat → Int) (m : Nat) : ∀ n, sm (fun a => sm (fun o => g a o) m) n = sm (fun o => sm (fun a => g a o) n) m
  | 0 => by simp only [sm]; rw [sm_zero]
  | n + 1 => by
    simp only [sm]
    rw [sm_swap g m n, ← sm_add]
theorem sm_split (f : Nat → Int) (n : Nat) : ∀ k, k ≤ n → ∃ t, sm f n = sm f k + t ∧ ((∀ j, k ≤ j → j < n → 0 ≤ f j) → 0 ≤ t) := by
  induction n with
  | zero => intro k hk; obtain rfl : k = 0 := by omega
            exact ⟨0, by simp [sm], fun _ => Int.le_refl _⟩
  | succ n ih =>
    intro k hk
    by_cases e : k = n + 1
    · subst e; exact ⟨0, by omega, fun _ => Int.le_refl _⟩
    · obtain ⟨t, h1, h2⟩ := ih k (by omega)
      refine ⟨t + f n, by simp only [sm]; omega, fun h => ?_⟩
      have := h2 fun j a b => h j a (by omega)
      have := h n (by omega) (by omega)
      omega

/-- what a row lacks behind its first columns -/
def rowRem (x : Int) (c : Nat → Int) : Nat → Int
  | 0 => x
  | j + 1 => rowRem x c j - min (rowRem x c j) (c j)
/-- what columns lack behind the first rows -/
def colRem (r c : Nat → Int) : Nat → Nat → Int
  | 0 => c
  | k + 1 => fun j => colRem r c k j - min (rowRem (r k) (colRem r c k) j) (colRem r c k j)
def fillO (r c : Nat → Int) (k j : Nat) : Int := min (rowRem (r k) (colRem r c k) j) (colRem r c k j)
theorem rowRem_nonneg {x : Int} {c : Nat → Int} {n : Nat} (hx : 0 ≤ x) (hc : ∀ j, j < n → 0 ≤ c j) : ∀ j, j ≤ n → 0 ≤ rowRem x c j
  | 0, _ => hx
  | j + 1, hj => by
    have := rowRem_nonneg hx hc j (by omega)
    have := hc j (by omega)
    unfold rowRem; omega
theorem rowRem_sum (x : Int) (c : Nat → Int) : ∀ j, rowRem x c j = x - sm (fun i => min (rowRem x c i) (c i)) j
  | 0 => by simp [rowRem, sm]
  | j + 1 => by
    have := rowRem_sum x c j
    simp only [sm]
    rw [rowRem]; omega
/-- if a row still lacks something, its columns lack nothing -/
theorem rowRem_left {x : Int} {c : Nat → Int} {n : Nat} (hx : 0 ≤ x) (hc : ∀ j, j < n → 0 ≤ c j) : ∀ j, j ≤ n → 0 < rowRem x c j → ∀ i, i < j → min (rowRem x c i) (c i) = c i
  | 0, _, _, i, hi => absurd hi (by omega)
  | j + 1, hj, h, i, hi => by
    have h0 := rowRem_nonneg hx hc j (by omega)
    have hcj := hc j (by omega)
    unfold rowRem at h
    by_cases e : i = j
    · subst e; omega
    · exact rowRem_left hx hc j (by omega) (by omega) i (by omega)
section
variable {n : Nat} {r c : Nat → Int} (hr : ∀ k, k < n → 0 ≤ r k) (hc : ∀ j, j < n → 0 ≤ c j) (he : sm r n = sm c n)
include hr hc he
theorem colRem_ok : ∀ k, k ≤ n → (∀ j, j < n → 0 ≤ colRem r c k j) ∧ sm (colRem r c k) n = sm r n - sm r k ∧ ∀ i, i < k → rowRem (r i) (colRem r c i) n = 0
  | 0, _ => ⟨hc, by show sm c n = _; simp only [sm]; omega, fun i hi => absurd hi (by omega)⟩
  | k + 1, hk => by
    obtain ⟨h1, h2, h3⟩ := colRem_ok k (by omega)
    have hrk := hr k (by omega)
    have hn : ∀ j, j < n → 0 ≤ colRem r c (k + 1) j := fun j hj => by
      have := h1 j hj
      show 0 ≤ colRem r c k j - min _ _
      omega
    have hs : sm (colRem r c (k + 1)) n = sm (colRem r c k) n - (r k - rowRem (r k) (colRem r c k) n) := by
      have e1 : sm (colRem r c (k + 1)) n = sm (fun j => colRem r c k j - min (rowRem (r k) (colRem r c k) j) (colRem r c k j)) n := rfl
      rw [e1, sm_sub]
      have := rowRem_sum (r k) (colRem r c k) n
      omega
    have h0 := rowRem_nonneg hrk h1 n (Nat.le_refl _)
    obtain ⟨t, t1, t2⟩ := sm_split r n (k + 1) (by omega)
    have t3 := t2 fun j _ hj => hr j hj
    have hz : rowRem (r k) (colRem r c k) n = 0 := by
      refine Classical.byContradiction fun hne => ?_
      have hl := rowRem_left hrk h1 n (Nat.le_refl _) (by omega)
      have e1 : sm (colRem r c (k + 1)) n = sm (fun _ => 0) n := sm_congr n fun j hj => by
        show colRem r c k j - min _ _ = 0
        rw [hl j hj]; omega
      rw [sm_zero] at e1
      simp only [sm] at t1
      omega
    refine ⟨hn, by simp only [sm]; omega, fun i hi => ?_⟩
    by_cases e : i = k
    · subst e; exact hz
    · exact h3 i (by omega)
/-- what is filled up: nothing less than nothing, and every row and every column is full -/
theorem fill_ok : (∀ k j, k < n → j < n → 0 ≤ fillO r c k j) ∧ (∀ k, k < n → sm (fillO r c k) n = r k) ∧ ∀ j, j < n → sm (fun k => fillO r c k j) n = c j := by
  have hcol : ∀ k j, sm (fun i => fillO r c i j) k = c j - colRem r c k j := fun k j => by
    induction k with
    | zero => simp [sm, colRem]
    | succ k ih =>
      simp only [sm]
      rw [ih]
      show _ = c j - (colRem r c k j - fillO r c k j)
      omega
  refine ⟨fun k j hk hj => ?_, fun k hk => ?_, fun j hj => ?_⟩
  · have h1 := (colRem_ok hr hc he k (by omega)).1
    have := rowRem_nonneg (hr k hk) h1 j (by omega)
    have := h1 j hj
    unfold fillO; omega
  · have h3 := (colRem_ok hr hc he n (Nat.le_refl _)).2.2 k hk
    have := rowRem_sum (r k) (colRem r c k) n
    have e : sm (fillO r c k) n = sm (fun i => min (rowRem (r k) (colRem r c k) i) (colRem r c k i)) n := rfl
    omega
  · obtain ⟨h1, h2, -⟩ := colRem_ok hr hc he n (Nat.le_refl _)
    have := sm_all_zero h1 (by omega) hj
    rw [hcol]; omega
end
end Go.Frames

namespace Go.Frames
theorem sm_if {n i : Nat} (h : i < n) (c : Int) : sm (fun k => if k = i then c else 0) n = c := by
  induction n with
  | zero => omega
  | succ n ih =>
    simp only [sm]
    by_cases e : n = i
    · subst e
      have : sm (fun k => if k = n then c else 0) n = sm (fun _ => 0) n := sm_congr n fun k hk => by rw [if_neg (by omega)]
      rw [this, sm_zero, if_pos rfl]; omega
    · rw [if_neg e, ih (by omega)]; omega
theorem sm_const (c : Int) : ∀ n, sm (fun _ => c) n = n * c
  | 0 => by simp [sm]
  | n + 1 => by rw [sm, sm_const c n]; push_cast; rw [Int.add_mul]; omega
/-- an input sends to an output in a slot -/
def hit (f : Nat → Nat → Int) (s a b : Nat) : Int := if f s a = (b : Int) then 1 else 0
theorem hit_01 (f : Nat → Nat → Int) (s a b : Nat) : 0 ≤ hit f s a b ∧ hit f s a b ≤ 1 := by unfold hit; split <;> omega
/-- how often an input sends to an output in the first m slots -/
def sent (f : Nat → Nat → Int) (a b m : Nat) : Int := sm (fun s => hit f s a b) m
structure Slots (n m : Nat) (f : Nat → Nat → Int) : Prop where
  rg : ∀ s a, s < m → a < n → -1 ≤ f s a ∧ f s a < n
  once : ∀ s a a', s < m → a < n → a' < n → 0 ≤ f s a → f s a = f s a' → a = a'
section
variable {n m : Nat} {f : Nat → Nat → Int} (h : Slots n m f)
include h
theorem hit_row {s a : Nat} (hs : s < m) (ha : a < n) : sm (fun b => hit f s a b) n = if 0 ≤ f s a then 1 else 0 := by
  have hr := h.rg s a hs ha
  by_cases h0 : 0 ≤ f s a
  · rw [if_pos h0]
    have : sm (fun b => hit f s a b) n = sm (fun b => if b = (f s a).toNat then 1 else 0) n := sm_congr n fun b hb => by
      unfold hit
      by_cases e : b = (f s a).toNat
      · rw [if_pos e, if_pos (by omega)]
      · rw [if_neg e, if_neg (by omega)]
    rw [this, sm_if (by omega)]
  · rw [if_neg h0]
    have : sm (fun b => hit f s a b) n = sm (fun _ => 0) n := sm_congr n fun b hb => by unfold hit; rw [if_neg (by omega)]
    rw [this, sm_zero]
theorem hit_col {s : Nat} (hs : s < m) (b : Nat) : ∀ k, k ≤ n → 0 ≤ sm (fun a => hit f s a b) k ∧ sm (fun a => hit f s a b) k ≤ 1 ∧ (sm (fun a => hit f s a b) k = 1 → ∃ a, a < k ∧ f s a = b)
  | 0, _ => ⟨by simp [sm], by simp [sm], by simp [sm]⟩
  | k + 1, hk => by
    obtain ⟨h1, h2, h3⟩ := hit_col hs b k (by omega)
    simp only [sm]
    by_cases e : f s k = (b : Int)
    · have e1 : hit f s k b = 1 := if_pos e
      have h0 : sm (fun a => hit f s a b) k = 0 := by
        refine Classical.byContradiction fun hne => ?_
        obtain ⟨a, ha, e2⟩ := h3 (by omega)
        have := h.once s a k hs (by omega) (by omega) (by omega) (by rw [e, e2])
        omega
      rw [e1, h0]
      exact ⟨by omega, by omega, fun _ => ⟨k, by omega, e⟩⟩
    · have e1 : hit f s k b = 0 := if_neg e
      rw [e1]
      exact ⟨by omega, by omega, fun h4 => by obtain ⟨a, ha, e2⟩ := h3 (by omega); exact ⟨a, by omega, e2⟩⟩
/-- what a row, and what a column sends -/
theorem sent_row {a : Nat} (ha : a < n) : sm (fun b => sent f a b m) n = sm (fun s => if 0 ≤ f s a then 1 else 0) m := by
  unfold sent
  rw [sm_swap (fun b s => hit f s a b) m n]
  exact sm_congr m fun s hs => hit_row h hs ha
theorem sent_row_le {a : Nat} (ha : a < n) : sm (fun b => sent f a b m) n ≤ m := by
  rw [sent_row h ha]
  have := sm_le (f := fun s => if 0 ≤ f s a then (1 : Int) else 0) (g := fun _ => 1) m fun s _ => by split <;> omega
  rw [sm_const] at this; omega
theorem sent_col_le {b : Nat} : sm (fun a => sent f a b m) n ≤ m := by
  unfold sent
  rw [sm_swap (fun a s => hit f s a b) m n]
  have := sm_le (f := fun s => sm (fun a => hit f s a b) n) (g := fun _ => 1) m fun s hs => (hit_col h hs b n (Nat.le_refl _)).2.1
  rw [sm_const] at this; omega
/-- all that is sent -/
theorem sent_all : sm (fun a => sm (fun b => sent f a b m) n) n = sm (fun s => sm (fun a => if 0 ≤ f s a then 1 else 0) n) m := by
  rw [sm_congr n fun a ha => sent_row h ha, sm_swap (fun a s => if 0 ≤ f s a then (1 : Int) else 0) m n]
/-- if nothing is left, no line has more than there are slots -/
theorem slots_lines {t : Nat → Nat → Int} (hz : ∀ a b, a < n → b < n → t a b - sent f a b m = 0) : (∀ a, a < n → sm (t a) n ≤ m) ∧ ∀ b, b < n → sm (fun a => t a b) n ≤ m := by
  constructor
  · intro a ha
    rw [sm_congr (g := fun b => sent f a b m) n fun b hb => by have := hz a b ha hb; omega]
    exact sent_row_le h ha
  · intro b hb
    rw [sm_congr (g := fun a => sent f a b m) n fun a ha => by have := hz a b ha hb; omega]
    exact sent_col_le h
end
/-- what is sent and what is left is all -/
theorem left_all (n m : Nat) (f t : Nat → Nat → Int) : sm (fun a => sm (fun b => t a b - sent f a b m) n) n = sm (fun a => sm (t a) n) n - sm (fun a => sm (fun b => sent f a b m) n) n := by
  rw [← sm_sub]
  exact sm_congr n fun a _ => sm_sub _ _ n
theorem all_zero {n : Nat} {g : Nat → Nat → Int} (h : ∀ a b, a < n → b < n → 0 ≤ g a b) (h0 : sm (fun a => sm (g a) n) n = 0) {a b : Nat} (ha : a < n) (hb : b < n) : g a b = 0 :=
  sm_all_zero (h a · ha) (sm_all_zero (f := fun a => sm (g a) n) (fun k hk => sm_nonneg n fun b hb => h k b hk hb) h0 ha) hb

/-- greed: in every slot in which a unit from a to b is left, a or b is busy -/
theorem greedy_len {n m : Nat} {f t : Nat → Nat → Int} (h : Slots n m f) (hm : 0 < m) {a b : Nat} (ha : a < n) (hb : b < n) (hl : ∀ i j, i < n → j < n → 0 ≤ t i j - sent f i j m)
    (hlast : f (m - 1) a = b) (hgr : ∀ s, s < m → f s a = b ∨ (0 ≤ f s a ∨ ∃ a', a' < n ∧ f s a' = b)) : (m : Int) ≤ sm (t a) n + sm (fun i => t i b) n - 1 := by
  have h1 : sm (fun j => sent f a j m) n ≤ sm (t a) n := sm_le n fun j hj => by have := hl a j ha hj; omega
  have h2 : sm (fun i => sent f i b m) n ≤ sm (fun i => t i b) n := sm_le n fun i hi => by have := hl i b hi hb; omega
  rw [sent_row h ha] at h1
  have h3 : sm (fun i => sent f i b m) n = sm (fun s => sm (fun i => hit f s i b) n) m := sm_swap (fun i s => hit f s i b) m n
  rw [h3] at h2
  have h4 : sm (fun s => 1 + if s = m - 1 then 1 else 0) m ≤ sm (fun s => (if 0 ≤ f s a then 1 else 0) + sm (fun i => hit f s i b) n) m := sm_le m fun s hs => by
    have hc := hit_col h hs b n (Nat.le_refl _)
    have hin : ∀ i, i < n → f s i = b → 1 ≤ sm (fun i => hit f s i b) n := fun i hi e => by
      have := sm_one_le (f := fun i => hit f s i b) (n := n) (k := i) (fun k _ => (hit_01 f s k b).1) hi
      have e1 : hit f s i b = 1 := if_pos e
      omega
    by_cases e : s = m - 1
    · subst e
      have := hin a ha hlast
      rw [if_pos rfl, if_pos (by rw [hlast]; omega)]; omega
    · rw [if_neg e]
      rcases hgr s hs with e1 | e1 | ⟨i, hi, e1⟩
      · have := hin a ha e1; split <;> omega
      · rw [if_pos e1]; omega
      · have := hin i hi e1; split <;> omega
  rw [sm_add, sm_add, sm_const, sm_if (show m - 1 < m by omega)] at h4
  omega
end Go.Frames

namespace Go.Proofs.Ytpcbgdgfdfpapaa
open Go Go.Abs Go.RowKit Go.Frames
variable {w0 : World}

/-- what is left behind the first K numbers of a slot -/
def slotL (n : Nat) (T : List (List Int)) (slot : List Int) : Nat → List (List Int)
  | 0 => T
  | k + 1 => if 0 ≤ slot.getD k 0 ∧ slot.getD k 0 ≤ (n : Int) - 1 then less1 (slotL n T slot k) k (slot.getD k 0).toNat else slotL n T slot k
theorem slotL_sq {n : Nat} {T : List (List Int)} (h : Sq n T) (slot : List Int) : ∀ K, K ≤ n → Sq n (slotL n T slot K)
  | 0, _ => h
  | K + 1, hK => by
    unfold slotL
    split
    · exact less1_sq (slotL_sq h slot K (by omega)) (by omega)
    · exact slotL_sq h slot K (by omega)
theorem en_slotL {n : Nat} {T : List (List Int)} (h : Sq n T) (slot : List Int) : ∀ K, K ≤ n → ∀ a b, b < n → en (slotL n T slot K) a b = en T a b - if a < K ∧ slot.getD a 0 = (b : Int) then 1 else 0
  | 0, _, a, b, _ => by simp [slotL]
  | K + 1, hK, a, b, hb => by
    have ih := en_slotL h slot K (by omega) a b hb
    unfold slotL
    split
    · rename_i hx
      rw [en_less1 (slotL_sq h slot K (by omega)) (by omega) (by omega)]
      by_cases e : a = K ∧ b = (slot.getD K 0).toNat
      · obtain ⟨rfl, rfl⟩ := e
        rw [if_pos ⟨rfl, rfl⟩, ih, if_neg (by omega), if_pos ⟨by omega, by omega⟩]; omega
      · rw [if_neg e, ih]
        by_cases e2 : a < K ∧ slot.getD a 0 = (b : Int)
        · rw [if_pos e2, if_pos ⟨by omega, e2.2⟩]
        · rw [if_neg e2, if_neg]
          rintro ⟨h1, h2⟩
          by_cases e3 : a = K
          · subst e3; exact e ⟨rfl, by omega⟩
          · exact e2 ⟨by omega, h2⟩
    · rename_i hx
      rw [ih]
      by_cases e2 : a < K ∧ slot.getD a 0 = (b : Int)
      · rw [if_pos e2, if_pos ⟨by omega, e2.2⟩]
      · rw [if_neg e2, if_neg]
        rintro ⟨h1, h2⟩
        by_cases e3 : a = K
        · subst e3; exact hx ⟨by omega, by omega⟩
        · exact e2 ⟨by omega, h2⟩
/-- what is left behind the first m slots of a frame -/
def frameL (T : List (List Int)) (F : List (List Int)) : Nat → List (List Int)
  | 0 => T
  | m + 1 => slotL T.length (frameL T F m) (F.getD m []) (min (F.getD m []).length T.length)
theorem frameL_sq {n : Nat} {T : List (List Int)} (h : Sq n T) (F : List (List Int)) : ∀ m, Sq n (frameL T F m)
  | 0 => h
  | m + 1 => by
    unfold frameL
    rw [h.1]
    exact slotL_sq (frameL_sq h F m) _ _ (by omega)
/-- the output of an input in a slot; -1 if there is none -/
def fS (F : List (List Int)) (s a : Nat) : Int := if a < (F.getD s []).length then (F.getD s []).getD a 0 else -1
theorem en_frameL {n : Nat} {T : List (List Int)} (h : Sq n T) (F : List (List Int)) : ∀ m a b, a < n → b < n → en (frameL T F m) a b = en T a b - sent (fS F) a b m
  | 0, a, b, _, _ => by simp [frameL, sent, sm]
  | m + 1, a, b, ha, hb => by
    have ih := en_frameL h F m a b ha hb
    unfold frameL
    rw [h.1, en_slotL (frameL_sq h F m) _ _ (by omega) a b hb, ih]
    have hs : sent (fS F) a b (m + 1) = sent (fS F) a b m + hit (fS F) m a b := rfl
    rw [hs]
    have : (if a < min (F.getD m []).length n ∧ (F.getD m []).getD a 0 = (b : Int) then (1 : Int) else 0) = hit (fS F) m a b := by
      unfold hit fS
      by_cases h1 : a < (F.getD m []).length
      · rw [if_pos h1]
        by_cases h2 : (F.getD m []).getD a 0 = (b : Int)
        · rw [if_pos ⟨by omega, h2⟩, if_pos h2]
        · rw [if_neg fun hh => h2 hh.2, if_neg h2]
      · rw [if_neg h1, if_neg fun hh => h1 (by omega), if_neg (by omega)]
    rw [this]; omega
/-- the valid slots of a frame -/
def SlotOk (n : Nat) (slot : List Int) : Prop := slot.length = n ∧ ∀ k, k < n → (-1 ≤ slot.getD k 0 ∧ slot.getD k 0 ≤ (n : Int) - 1) ∧ (0 ≤ slot.getD k 0 → slot.getD k 0 ∉ slot.take k)
instance (n : Nat) (slot : List Int) : Decidable (SlotOk n slot) := by unfold SlotOk; infer_instance
/-- nothing below 0 -/
def NonNeg (T : List (List Int)) : Prop := ∀ i, i < T.length → ∀ j, j < (T.getD i []).length → 0 ≤ en T i j
instance (T : List (List Int)) : Decidable (NonNeg T) := by unfold NonNeg; infer_instance
def FrOk (T F : List (List Int)) : Prop := TV T ∧ F.length ≤ 36 ∧ (∀ s, s < F.length → SlotOk T.length (F.getD s [])) ∧ NonNeg (frameL T F F.length)
instance (T F : List (List Int)) : Decidable (FrOk T F) := by unfold FrOk; infer_instance
/-- how many numbers of a row are not below 0 -/
def sendsR (row : List Int) : Nat → Int
  | 0 => 0
  | k + 1 => sendsR row k + if 0 ≤ row.getD k 0 then 1 else 0
def sendsF (F : List (List Int)) : Nat → Int
  | 0 => 0
  | m + 1 => sendsF F m + sendsR (F.getD m []) (F.getD m []).length
theorem sendsR_01 (row : List Int) : ∀ k : Nat, 0 ≤ sendsR row k ∧ sendsR row k ≤ k
  | 0 => by simp [sendsR]
  | k + 1 => by
    have := sendsR_01 row k
    unfold sendsR
    split <;> omega
/-- the sum of all units -/
def allN (T : List (List Int)) : Nat → Int
  | 0 => 0
  | k + 1 => allN T k + psum (T.getD k []) (T.getD k []).length
end Go.Proofs.Ytpcbgdgfdfpapaa

namespace Go.Proofs.Ytpcbgdgfdfpapaa
open Go Go.Abs Go.RowKit Go.Frames
variable {w0 : World}

theorem psum_sm (xs : List Int) : ∀ n, psum xs n = sm (fun o => xs.getD o 0) n
  | 0 => rfl
  | n + 1 => by rw [psum, sm, psum_sm xs n]
theorem csum_sm (T : List (List Int)) (b : Nat) : ∀ n, csum T b n = sm (fun a => en T a b) n
  | 0 => rfl
  | n + 1 => by rw [csum, sm, csum_sm T b n]; rfl
theorem allN_sm {n : Nat} {T : List (List Int)} (h : Sq n T) : ∀ k, k ≤ n → allN T k = sm (fun a => sm (fun b => en T a b) n) k
  | 0, _ => rfl
  | k + 1, hk => by rw [allN, sm, allN_sm h k (by omega), h.2 k (by omega), psum_sm]; rfl
theorem sendsR_sm (row : List Int) : ∀ k, sendsR row k = sm (fun a => if 0 ≤ row.getD a 0 then 1 else 0) k
  | 0 => rfl
  | k + 1 => by rw [sendsR, sm, sendsR_sm row k]
theorem FrOk.at {T F : List (List Int)} (h : FrOk T F) {s a : Nat} (hs : s < F.length) (ha : a < T.length) : fS F s a = (F.getD s []).getD a 0 := by
  unfold fS; rw [if_pos (by rw [(h.2.2.1 s hs).1]; exact ha)]
theorem FrOk.slots {T F : List (List Int)} (h : FrOk T F) : Slots T.length F.length (fS F) := by
  refine ⟨fun s a hs ha => ?_, fun s a a' hs ha ha' h0 he => ?_⟩
  · rw [h.at hs ha]
    have := ((h.2.2.1 s hs).2 a ha).1
    omega
  · rw [h.at hs ha] at h0 he
    rw [h.at hs ha'] at he
    have hl := (h.2.2.1 s hs).1
    rcases Nat.lt_trichotomy a a' with e | e | e
    · exact absurd ((mem_take (by omega) _).2 ⟨a, e, he⟩) (((h.2.2.1 s hs).2 a' ha').2 (by omega))
    · exact e
    · exact absurd ((mem_take (by omega) _).2 ⟨a', e, he.symm⟩) (((h.2.2.1 s hs).2 a ha).2 (by omega))
theorem sendsF_sm {T F : List (List Int)} (h : FrOk T F) : ∀ m, m ≤ F.length → sendsF F m = sm (fun s => sm (fun a => if 0 ≤ fS F s a then 1 else 0) T.length) m
  | 0, _ => rfl
  | m + 1, hm => by
    rw [sendsF, sm, sendsF_sm h m (by omega), sendsR_sm, (h.2.2.1 m (by omega)).1]
    congr 1
    exact sm_congr _ fun a ha => by rw [h.at (by omega) ha]
theorem FrOk.sq {T F : List (List Int)} (h : FrOk T F) : Sq T.length T := tv_sq h.1
/-- what is left and what is sent is all -/
theorem frok_all {T F : List (List Int)} (h : FrOk T F) : allN (frameL T F F.length) T.length + sendsF F F.length = allN T T.length := by
  rw [allN_sm (frameL_sq h.sq F _) _ (Nat.le_refl _), allN_sm h.sq _ (Nat.le_refl _), sendsF_sm h _ (Nat.le_refl _), ← sent_all h.slots]
  rw [sm_congr (g := fun a => sm (fun b => en T a b - sent (fS F) a b F.length) T.length) _ fun a ha => sm_congr _ fun b hb => en_frameL h.sq F _ a b ha hb]
  rw [left_all]
  have e : sm (fun a => sm (en T a) T.length) T.length = sm (fun a => sm (fun b => en T a b) T.length) T.length := rfl
  rw [e]; omega
theorem frok_nonneg {T F : List (List Int)} (h : FrOk T F) {a b : Nat} (ha : a < T.length) (hb : b < T.length) : 0 ≤ en (frameL T F F.length) a b := by
  have hs := frameL_sq h.sq F F.length
  exact h.2.2.2 a (by rw [hs.1]; exact ha) b (by rw [hs.2 a ha]; exact hb)
/-- a frame that leaves nothing has as many slots as the fullest line -/
theorem frok_len {T F : List (List Int)} (h : FrOk T F) (h0 : allN (frameL T F F.length) T.length = 0) : most T T.length ≤ F.length := by
  rw [allN_sm (frameL_sq h.sq F _) _ (Nat.le_refl _)] at h0
  have hz : ∀ a b, a < T.length → b < T.length → en T a b - sent (fS F) a b F.length = 0 := fun a b ha hb => by
    rw [← en_frameL h.sq F _ a b ha hb]
    exact all_zero (fun a b ha hb => frok_nonneg h ha hb) h0 ha hb
  have hl := slots_lines h.slots hz
  refine most_le' (by omega) _ fun i hi => ⟨?_, ?_⟩
  · rw [psum_sm]; exact hl.1 i hi
  · rw [csum_sm]; exact hl.2 i hi
theorem allN_nonneg {T F : List (List Int)} (h : FrOk T F) : 0 ≤ allN (frameL T F F.length) T.length := by
  rw [allN_sm (frameL_sq h.sq F _) _ (Nat.le_refl _)]
  exact sm_nonneg _ fun a ha => sm_nonneg _ fun b hb => frok_nonneg h ha hb
/-- one slot more takes at most one unit from an input to an output -/
theorem frameL_step {n : Nat} {T : List (List Int)} (h : Sq n T) (F : List (List Int)) (m a b : Nat) (ha : a < n) (hb : b < n) : en (frameL T F (m + 1)) a b ≤ en (frameL T F m) a b ∧ en (frameL T F m) a b ≤ en (frameL T F (m + 1)) a b + 1 := by
  rw [en_frameL h F _ a b ha hb, en_frameL h F _ a b ha hb]
  have hs : sent (fS F) a b (m + 1) = sent (fS F) a b m + hit (fS F) m a b := rfl
  have := hit_01 (fS F) m a b
  omega
theorem sendsF_nonneg (F : List (List Int)) : ∀ m, 0 ≤ sendsF F m
  | 0 => by simp [sendsF]
  | m + 1 => by
    have h1 := sendsF_nonneg F m
    have h2 := (sendsR_01 (F.getD m []) (F.getD m []).length).1
    unfold sendsF; omega
/-- the first slot and the rest send what all send -/
theorem sendsF_cons (x : List Int) (F : List (List Int)) : ∀ m, sendsF (x :: F) (m + 1) = sendsR x x.length + sendsF F m
  | 0 => by simp [sendsF]
  | m + 1 => by
    rw [sendsF, sendsF_cons x F m, sendsF]
    have : (x :: F).getD (m + 1) [] = F.getD m [] := by simp [List.getD]
    rw [this]; omega
/-- all units: at most the fullest line's for every line, and as many only of even traffic -/
theorem all_most {T : List (List Int)} (hT : TV T) : allN T T.length ≤ most T T.length * T.length ∧ (allN T T.length = most T T.length * T.length ↔ EvenT T) := by
  have hsq := tv_sq hT
  have hr : ∀ i, i < T.length → sm (fun b => en T i b) T.length ≤ most T T.length := fun i hi => by have := (le_most (rows := T) hi).1; rw [psum_sm] at this; exact this
  have hc : ∀ i, i < T.length → sm (fun a => en T a i) T.length ≤ most T T.length := fun i hi => by have := (le_most (rows := T) hi).2; rw [csum_sm] at this; exact this
  have e1 : allN T T.length = sm (fun a => sm (fun b => en T a b) T.length) T.length := allN_sm hsq _ (Nat.le_refl _)
  have e2 : allN T T.length = sm (fun b => sm (fun a => en T a b) T.length) T.length := by rw [e1, sm_swap (fun a b => en T a b)]
  have ec : sm (fun _ => most T T.length) T.length = most T T.length * T.length := by rw [sm_const, Int.mul_comm]
  have le : allN T T.length ≤ most T T.length * T.length := by rw [e1, ← ec]; exact sm_le _ hr
  refine ⟨le, fun h => ⟨hT, fun i hi => ?_⟩, fun h => ?_⟩
  · have z1 : sm (fun a => most T T.length - sm (fun b => en T a b) T.length) T.length = 0 := by rw [sm_sub, ec, ← e1, h]; omega
    have z2 : sm (fun b => most T T.length - sm (fun a => en T a b) T.length) T.length = 0 := by rw [sm_sub, ec, ← e2, h]; omega
    have y1 := sm_all_zero (fun k hk => by have := hr k hk; omega) z1 hi
    have y2 := sm_all_zero (fun k hk => by have := hc k hk; omega) z2 hi
    rw [psum_sm, csum_sm]
    have d1 : sm (fun o => (T.getD i []).getD o 0) T.length = sm (fun b => en T i b) T.length := rfl
    rw [d1]
    constructor <;> omega
  · rw [e1, ← ec]
    exact sm_congr _ fun a ha => by
      have := (h.2 a ha).1
      rw [psum_sm] at this
      exact this
end Go.Proofs.Ytpcbgdgfdfpapaa

namespace Go.Proofs.Ytpcbgdgfdfpapaa
open Go Go.Abs Go.RowKit Go.Frames
variable {w0 : World}

/-- what a row and a column lack -/
def rN (T : List (List Int)) (k : Nat) : Int := most T T.length - psum (T.getD k []) T.length
def cN (T : List (List Int)) (j : Nat) : Int := most T T.length - csum T j T.length
/-- a table of a function -/
def tabN (n : Nat) (g : Nat → Nat → Int) : List (List Int) := (List.range n).map fun k => (List.range n).map fun j => g k j
theorem tabN_sq (n : Nat) (g : Nat → Nat → Int) : Sq n (tabN n g) := ⟨by simp [tabN], fun i hi => by simp [tabN, List.getD, hi]⟩
theorem en_tabN {n : Nat} (g : Nat → Nat → Int) {a b : Nat} (ha : a < n) (hb : b < n) : en (tabN n g) a b = g a b := by simp [en, tabN, List.getD, ha, hb]
/-- FillUp behind the first K rows and the first J numbers of the next one -/
def fillX (T : List (List Int)) (K J : Nat) : List (List Int) := tabN T.length fun k j => if k < K ∨ (k = K ∧ j < J) then fillO (rN T) (cN T) k j else 0
def fillV (T : List (List Int)) : List (List Int) := tabN T.length (fillO (rN T) (cN T))
theorem sm_part (f : Nat → Int) (j : Nat) : ∀ n, j ≤ n → sm (fun i => if i < j then f i else 0) n = sm f j
  | 0, h => by have : j = 0 := by omega
               subst this; rfl
  | n + 1, h => by
    by_cases e : j = n + 1
    · subst e; exact sm_congr _ fun k hk => if_pos hk
    · rw [sm, sm_part f j n (by omega), if_neg (by omega)]; omega
theorem fillX_row {T : List (List Int)} {K J : Nat} (hK : K < T.length) (hJ : J ≤ T.length) : psum ((fillX T K J).getD K []) T.length = rN T K - rowRem (rN T K) (colRem (rN T) (cN T) K) J := by
  rw [psum_sm, rowRem_sum, sm_congr (g := fun i => if i < J then fillO (rN T) (cN T) K i else 0) _ fun j hj => ?_, sm_part _ _ _ hJ]
  · have : sm (fillO (rN T) (cN T) K) J = sm (fun i => min (rowRem (rN T K) (colRem (rN T) (cN T) K) i) (colRem (rN T) (cN T) K i)) J := rfl
    omega
  · show en (fillX T K J) K j = _
    rw [fillX, en_tabN _ hK hj]
    by_cases e : j < J
    · rw [if_pos (.inr ⟨rfl, e⟩), if_pos e]
    · rw [if_neg (by omega), if_neg e]
theorem colRem_sum (r c : Nat → Int) (j : Nat) : ∀ k, colRem r c k j = c j - sm (fun i => fillO r c i j) k
  | 0 => by simp [colRem, sm]
  | k + 1 => by
    have := colRem_sum r c j k
    have e : colRem r c (k + 1) j = colRem r c k j - fillO r c k j := rfl
    rw [e, sm]; omega
theorem fillX_col {T : List (List Int)} {K J : Nat} (hK : K < T.length) (hJ : J < T.length) : csum (fillX T K J) J T.length = cN T J - colRem (rN T) (cN T) K J := by
  rw [csum_sm, colRem_sum, sm_congr (g := fun i => if i < K then fillO (rN T) (cN T) i J else 0) _ fun a ha => ?_, sm_part (fun i => fillO (rN T) (cN T) i J) _ _ (by omega)]
  · omega
  · rw [fillX, en_tabN _ ha hJ]
    by_cases e : a < K
    · rw [if_pos (.inl e), if_pos e]
    · rw [if_neg (by omega), if_neg e]
/-- what the reference stores -/
theorem fillX_val {T : List (List Int)} {K J : Nat} (hK : K < T.length) (hJ : J < T.length) :
    min (most T T.length - psum (T.getD K []) T.length - psum ((fillX T K J).getD K []) T.length) (most T T.length - csum T J T.length - csum (fillX T K J) J T.length) = fillO (rN T) (cN T) K J := by
  rw [fillX_row hK (by omega), fillX_col hK hJ]
  unfold fillO
  have e1 : most T T.length - psum (T.getD K []) T.length = rN T K := rfl
  have e2 : most T T.length - csum T J T.length = cN T J := rfl
  rw [e1, e2]
  congr 1 <;> omega
theorem tabN_ext {n : Nat} {f g : Nat → Nat → Int} (h : ∀ a b, a < n → b < n → f a b = g a b) : tabN n f = tabN n g := by
  unfold tabN
  refine List.map_congr_left fun a ha => List.map_congr_left fun b hb => h a b (by simpa using ha) (by simpa using hb)
theorem tab_of {n : Nat} {A : List (List Int)} (h : Sq n A) : A = tabN n (en A) := by
  refine List.ext_getElem (by rw [h.1, (tabN_sq n _).1]) fun i h1 h2 => ?_
  have hi : i < n := by rw [← h.1]; exact h1
  have hr := h.2 i hi
  have e1 : A.getD i [] = A[i] := by simp [List.getD, h1]
  rw [e1] at hr
  refine List.ext_getElem (by simp [tabN, hr]) fun j h3 h4 => ?_
  simp [tabN, en, List.getD, h1, h3]
theorem set_tab {n : Nat} (g : Nat → Nat → Int) {K J : Nat} (hK : K < n) (hJ : J < n) (v : Int) : (tabN n g).set K (((tabN n g).getD K []).set J v) = tabN n fun a b => if a = K ∧ b = J then v else g a b := by
  have hs := tabN_sq n g
  have hq : Sq n ((tabN n g).set K (((tabN n g).getD K []).set J v)) := ⟨by rw [List.length_set]; exact hs.1, fun i hi => by
    by_cases e : K = i
    · subst e; rw [List.getD_eq_getElem?_getD, List.getElem?_set_self (by rw [hs.1]; exact hi), Option.getD_some, List.length_set]; exact hs.2 K hi
    · rw [List.getD_eq_getElem?_getD, List.getElem?_set_ne e, ← List.getD_eq_getElem?_getD]; exact hs.2 i hi⟩
  rw [tab_of hq]
  refine tabN_ext fun a b ha hb => ?_
  unfold en
  by_cases e : K = a
  · subst e
    rw [List.getD_eq_getElem?_getD (l := List.set _ _ _), List.getElem?_set_self (by rw [hs.1]; exact ha)]
    simp only [Option.getD_some]
    by_cases e2 : J = b
    · subst e2
      rw [List.getD_eq_getElem?_getD, List.getElem?_set_self (by rw [hs.2 K ha]; exact hb)]; simp
    · rw [List.getD_eq_getElem?_getD, List.getElem?_set_ne e2, ← List.getD_eq_getElem?_getD, if_neg (by omega)]
      exact en_tabN g ha hb
  · rw [List.getD_eq_getElem?_getD (l := List.set _ _ _), List.getElem?_set_ne e, ← List.getD_eq_getElem?_getD, if_neg (by omega)]
    exact en_tabN g ha hb
theorem fillX_step {T : List (List Int)} {K J : Nat} (hK : K < T.length) (hJ : J < T.length) :
    (fillX T K J).set K (((fillX T K J).getD K []).set J (fillO (rN T) (cN T) K J)) = fillX T K (J + 1) := by
  unfold fillX
  rw [set_tab _ hK hJ]
  refine tabN_ext fun a b ha hb => ?_
  by_cases e : a = K ∧ b = J
  · obtain ⟨rfl, rfl⟩ := e
    rw [if_pos ⟨rfl, rfl⟩, if_pos (.inr ⟨rfl, by omega⟩)]
  · rw [if_neg e]
    by_cases e2 : a < K ∨ (a = K ∧ b < J)
    · rw [if_pos e2, if_pos (by omega)]
    · rw [if_neg e2, if_neg (by omega)]
theorem fillX_next (T : List (List Int)) (K : Nat) : fillX T K T.length = fillX T (K + 1) 0 := tabN_ext fun a b ha hb => by
  by_cases e : a < K + 1
  · rw [if_pos (by omega), if_pos (.inl e)]
  · rw [if_neg (by omega), if_neg (by omega)]
theorem fillX_done (T : List (List Int)) : fillX T T.length 0 = fillV T := tabN_ext fun a b ha hb => if_pos (.inl ha)
theorem fillX_zero (T : List (List Int)) : fillX T 0 0 = tabN T.length fun _ _ => 0 := tabN_ext fun a b ha hb => if_neg (by omega)
/-- what is filled up makes every line full -/
theorem fillV_ok {T : List (List Int)} (hT : TV T) : Sq T.length (fillV T) ∧ (∀ a b, a < T.length → b < T.length → 0 ≤ en (fillV T) a b) ∧
    (∀ k, k < T.length → psum (T.getD k []) T.length + psum ((fillV T).getD k []) T.length = most T T.length ∧ csum T k T.length + csum (fillV T) k T.length = most T T.length) := by
  have hsq := tv_sq hT
  have hr : ∀ k, k < T.length → 0 ≤ rN T k := fun k hk => by have := (le_most (rows := T) hk).1; unfold rN; omega
  have hc : ∀ k, k < T.length → 0 ≤ cN T k := fun k hk => by have := (le_most (rows := T) hk).2; unfold cN; omega
  have he : sm (rN T) T.length = sm (cN T) T.length := by
    have e1 : sm (rN T) T.length = sm (fun k => most T T.length - sm (fun b => en T k b) T.length) T.length := sm_congr _ fun k hk => by unfold rN; rw [psum_sm]; rfl
    have e2 : sm (cN T) T.length = sm (fun j => most T T.length - sm (fun a => en T a j) T.length) T.length := sm_congr _ fun k hk => by unfold cN; rw [csum_sm]
    rw [e1, e2, sm_sub, sm_sub, sm_swap (fun a b => en T a b)]
  obtain ⟨f1, f2, f3⟩ := fill_ok hr hc he
  refine ⟨tabN_sq _ _, fun a b ha hb => by rw [fillV, en_tabN _ ha hb]; exact f1 a b ha hb, fun k hk => ⟨?_, ?_⟩⟩
  · have e : psum ((fillV T).getD k []) T.length = rN T k := by
      rw [psum_sm, ← f2 k hk]; exact sm_congr _ fun j hj => en_tabN (fillO (rN T) (cN T)) hk hj
    rw [e]; unfold rN; omega
  · have e : csum (fillV T) k T.length = cN T k := by
      rw [csum_sm, ← f3 k hk]; exact sm_congr _ fun a ha => en_tabN (fillO (rN T) (cN T)) ha hk
    rw [e]; unfold cN; omega
/-- nothing is filled up into even traffic alone -/
theorem fillV_zero {T : List (List Int)} (hT : TV T) : allN (fillV T) T.length = 0 ↔ EvenT T := by
  have h := fillV_ok hT
  have e1 : allN T T.length + allN (fillV T) T.length = most T T.length * T.length := by
    rw [allN_sm (tv_sq hT) _ (Nat.le_refl _), allN_sm h.1 _ (Nat.le_refl _), ← sm_add, sm_congr (g := fun _ => most T T.length) _ fun k hk => ?_, sm_const, Int.mul_comm]
    have := (h.2.2 k hk).1
    rw [psum_sm, psum_sm] at this
    exact this
  rw [← (all_most hT).2]
  omega
end Go.Proofs.Ytpcbgdgfdfpapaa

namespace Go.Proofs.Ytpcbgdgfdfpapaa
open Go Go.Abs Go.RowKit Go.Frames
variable {w0 : World}

open Classical in
/-- the permutation with the least rank by which a table has something -/
noncomputable def mq (T : List (List Int)) : List Int := if h : ∃ ps : List Int, ps.length = T.length ∧ Pre T ps then Classical.choose h else []
theorem mq_at {T : List (List Int)} {ps : List Int} (hl : ps.length = T.length) (h : Pre T ps) : mq T = ps := by
  have hex : ∃ ps : List Int, ps.length = T.length ∧ Pre T ps := ⟨ps, hl, h⟩
  unfold mq
  rw [dif_pos hex]
  exact (Classical.choose_spec hex).2.uniq h (Classical.choose_spec hex).1 hl
theorem sm_sumTo (f : Nat → Int) : ∀ n, sm f n = sumTo f n
  | 0 => rfl
  | n + 1 => by rw [sm, sumTo, sm_sumTo f n]
/-- what is left and what is filled up together -/
structure Bal (n : Nat) (L X : List (List Int)) (d : Int) : Prop where
  n6 : n ≤ 6
  l : Sq n L
  x : Sq n X
  l0 : ∀ a b, a < n → b < n → 0 ≤ en L a b
  x0 : ∀ a b, a < n → b < n → 0 ≤ en X a b
  row : ∀ a, a < n → sm (fun b => en L a b + en X a b) n = d
  col : ∀ b, b < n → sm (fun a => en L a b + en X a b) n = d
def bothT (n : Nat) (L X : List (List Int)) : List (List Int) := tabN n fun a b => en L a b + en X a b
theorem Bal.mq {n : Nat} {L X : List (List Int)} {d : Int} (h : Bal n L X d) (hd : 0 < d) (hn : 0 < n) : (mq (bothT n L X)).length = n ∧ Pre (bothT n L X) (mq (bothT n L X)) ∧
    ∃ r, r < fac n ∧ mq (bothT n L X) = ofV n r ∧ Cov (bothT n L X) (ofV n r) ∧ ∀ r', r' < r → ¬ Cov (bothT n L X) (ofV n r') := by
  have hs : Sq n (bothT n L X) := tabN_sq _ _
  have he : ∀ a b, a < n → b < n → en (bothT n L X) a b = en L a b + en X a b := fun a b ha hb => en_tabN _ ha hb
  have hcan : CanM (bothT n L X) [] := by
    refine bal_can (d := d) hs.1 (fun a ha => ?_) (fun b hb => ?_) (fun a o ha ho => ?_) ?_
    · rw [← sm_sumTo, ← h.row a ha]; exact sm_congr _ fun b hb => he a b ha hb
    · rw [← sm_sumTo, ← h.col b hb]; exact sm_congr _ fun a ha => he a b ha hb
    · rw [he a o ha ho]; have := h.l0 a o ha ho; have := h.x0 a o ha ho; omega
    · exact hd
  obtain ⟨r, hr, hc, hno⟩ : ∃ r, r < fac n ∧ Cov (bothT n L X) (ofV n r) ∧ ∀ r', r' < r → ¬ Cov (bothT n L X) (ofV n r') := by
    apply Classical.byContradiction
    intro hn'
    have : ∀ r', r' < fac n → ¬ Cov (bothT n L X) (ofV n r') := by
      intro r'
      induction r' using Nat.strongRecOn with
      | ind r' ih => exact fun hr hC => hn' ⟨r', hr, hC, fun r'' h'' => ih r'' h'' (by omega)⟩
    have := none_can (rows := bothT n L X) (by rw [hs.1]; exact h.n6) (by rw [hs.1]; exact this)
    exact this hcan
  have h6 := h.n6
  have ho : OfOk n r := ⟨by omega, by omega, by omega, by simpa using hr⟩
  have hl := (of_ok ho).2.2.1
  have hp := first_pre (rows := bothT n L X) (r := r) (by rw [hs.1]; exact h6) (by rw [hs.1]; exact ho) (by rw [hs.1]; exact hc) (by rw [hs.1]; exact hno)
  rw [hs.1] at hp
  have e : Go.Proofs.Ytpcbgdgfdfpapaa.mq (bothT n L X) = ofV n r := mq_at (by rw [hs.1]; simpa using hl) hp
  rw [e]
  exact ⟨by simpa using hl, hp, r, hr, rfl, hc, hno⟩
/-- a permutation meets every output once -/
theorem perm_col {n : Nat} {p : List Int} (hr : ∀ a, a < n → 0 ≤ p.getD a 0 ∧ p.getD a 0 < n) (hi : ∀ a a', a < n → a' < n → p.getD a 0 = p.getD a' 0 → a = a') {b : Nat} (hb : b < n) : sm (fun a => if p.getD a 0 = (b : Int) then 1 else 0) n = 1 := by
  have hS : Slots n 1 (fun _ a => p.getD a 0) := ⟨fun s a _ ha => by have := hr a ha; omega, fun s a a' _ ha ha' _ e => hi a a' ha ha' e⟩
  have hc : ∀ b, sm (fun a => hit (fun _ a => p.getD a 0) 0 a b) n ≤ 1 := fun b => (hit_col hS (s := 0) (by omega) b n (Nat.le_refl _)).2.1
  have ht : sm (fun b => sm (fun a => hit (fun _ a => p.getD a 0) 0 a b) n) n = n := by
    rw [← sm_swap (fun a b => hit (fun _ a => p.getD a 0) 0 a b)]
    rw [sm_congr (g := fun _ => 1) _ fun a ha => by rw [hit_row hS (s := 0) (by omega) ha, if_pos (hr a ha).1], sm_const]; omega
  have hz : sm (fun b => 1 - sm (fun a => hit (fun _ a => p.getD a 0) 0 a b) n) n = 0 := by rw [sm_sub, ht, sm_const]; omega
  have := sm_all_zero (fun k hk => by have := hc k; omega) hz hb
  have e : sm (fun a => if p.getD a 0 = (b : Int) then 1 else 0) n = sm (fun a => hit (fun _ a => p.getD a 0) 0 a b) n := rfl
  omega
/-- the tables and the slot behind the first K inputs -/
def goL (n : Nat) (L : List (List Int)) (p : List Int) (K : Nat) : List (List Int) := tabN n fun a b => en L a b - if a < K ∧ p.getD a 0 = (b : Int) ∧ 0 < en L a b then 1 else 0
def goX (n : Nat) (L X : List (List Int)) (p : List Int) (K : Nat) : List (List Int) := tabN n fun a b => en X a b - if a < K ∧ p.getD a 0 = (b : Int) ∧ ¬ 0 < en L a b then 1 else 0
def slB (L : List (List Int)) (p : List Int) (K : Nat) : List Int := (List.range K).map fun a => if 0 < en L a (p.getD a 0).toNat then p.getD a 0 else -1
theorem Bal.step {n : Nat} {L X : List (List Int)} {d : Int} (h : Bal n L X d) {p : List Int} (hr : ∀ a, a < n → 0 ≤ p.getD a 0 ∧ p.getD a 0 < n) (hi : ∀ a a', a < n → a' < n → p.getD a 0 = p.getD a' 0 → a = a')
    (hp : ∀ a, a < n → 0 < en L a (p.getD a 0).toNat + en X a (p.getD a 0).toNat) : Bal n (goL n L p n) (goX n L X p n) (d - 1) := by
  have e1 : ∀ a b, a < n → b < n → en (goL n L p n) a b + en (goX n L X p n) a b = en L a b + en X a b - if p.getD a 0 = (b : Int) then 1 else 0 := fun a b ha hb => by
    rw [goL, goX, en_tabN _ ha hb, en_tabN _ ha hb]
    by_cases c1 : p.getD a 0 = (b : Int)
    · by_cases c2 : 0 < en L a b
      · rw [if_pos ⟨ha, c1, c2⟩, if_neg fun hh => hh.2.2 c2, if_pos c1]; omega
      · rw [if_neg fun hh => c2 hh.2.2, if_pos ⟨ha, c1, c2⟩, if_pos c1]; omega
    · rw [if_neg fun hh => c1 hh.2.1, if_neg fun hh => c1 hh.2.1, if_neg c1]; omega
  refine ⟨h.n6, tabN_sq _ _, tabN_sq _ _, fun a b ha hb => ?_, fun a b ha hb => ?_, fun a ha => ?_, fun b hb => ?_⟩
  · rw [goL, en_tabN _ ha hb]
    have := h.l0 a b ha hb
    split <;> omega
  · rw [goX, en_tabN _ ha hb]
    have := h.x0 a b ha hb
    split
    · rename_i hh
      have h2 := hp a ha
      have e : (p.getD a 0).toNat = b := by rw [hh.2.1]; omega
      rw [e] at h2
      omega
    · omega
  · rw [sm_congr _ fun b hb => e1 a b ha hb, sm_sub, h.row a ha]
    have := hr a ha
    have e : sm (fun b : Nat => if p.getD a 0 = (b : Int) then (1 : Int) else 0) n = sm (fun b => if b = (p.getD a 0).toNat then 1 else 0) n := sm_congr _ fun b hb => by
      by_cases c : p.getD a 0 = (b : Int)
      · rw [if_pos c, if_pos (by omega)]
      · rw [if_neg c, if_neg (by omega)]
    rw [e, sm_if (by omega)]
  · rw [sm_congr _ fun a ha => e1 a b ha hb, sm_sub, h.col b hb, perm_col hr hi hb]
theorem Pre.perm {T : List (List Int)} {p : List Int} (h : Pre T p) (hl : p.length = T.length) : (∀ a, a < T.length → 0 ≤ p.getD a 0 ∧ p.getD a 0 < T.length) ∧ (∀ a a', a < T.length → a' < T.length → p.getD a 0 = p.getD a' 0 → a = a') := by
  refine ⟨fun a ha => by have := h.ok a (by omega); omega, fun a a' ha ha' e => ?_⟩
  rcases Nat.lt_trichotomy a a' with c | c | c
  · exact absurd ((mem_take (by omega) _).2 ⟨a, c, e⟩) (h.ok a' (by omega)).2.2.2
  · exact c
  · exact absurd ((mem_take (by omega) _).2 ⟨a', c, e.symm⟩) (h.ok a (by omega)).2.2.2
end Go.Proofs.Ytpcbgdgfdfpapaa

namespace Go.Proofs.Ytpcbgdgfdfpapaa
open Go Go.Abs Go.RowKit Go.Frames
variable {w0 : World}

noncomputable def bestS (T : List (List Int)) : Nat → List (List Int) × List (List Int)
  | 0 => (T, fillV T)
  | s + 1 => (goL T.length (bestS T s).1 (mq (bothT T.length (bestS T s).1 (bestS T s).2)) T.length, goX T.length (bestS T s).1 (bestS T s).2 (mq (bothT T.length (bestS T s).1 (bestS T s).2)) T.length)
noncomputable def bestP (T : List (List Int)) (s : Nat) : List Int := mq (bothT T.length (bestS T s).1 (bestS T s).2)
noncomputable def bestF (T : List (List Int)) (k : Nat) : List (List Int) := (List.range k).map fun s => slB (bestS T s).1 (bestP T s) T.length
theorem most_pos {T : List (List Int)} (h : 0 < most T T.length) : 0 < T.length := by
  rcases Nat.eq_zero_or_pos T.length with e | e
  · rw [e] at h; simp [most] at h
  · exact e
theorem best_bal {T : List (List Int)} (hT : TV T) : ∀ s : Nat, (s : Int) ≤ most T T.length → Bal T.length (bestS T s).1 (bestS T s).2 (most T T.length - s)
  | 0, _ => by
    have h := fillV_ok hT
    have e : most T T.length - ((0 : Nat) : Int) = most T T.length := by simp
    rw [e]
    refine ⟨hT.1, tv_sq hT, h.1, fun a b ha hb => (hT.at ha hb).1, h.2.1, fun a ha => ?_, fun b hb => ?_⟩
    · show sm (fun b => en T a b + en (fillV T) a b) T.length = _
      rw [sm_add, ← (h.2.2 a ha).1, psum_sm, psum_sm]; rfl
    · show sm (fun a => en T a b + en (fillV T) a b) T.length = _
      rw [sm_add, ← (h.2.2 b hb).2, csum_sm, csum_sm]
  | s + 1, hs => by
    have ih := best_bal hT s (by omega)
    have h0 := most_pos (T := T) (by omega)
    obtain ⟨q1, q2, -⟩ := ih.mq (by omega) h0
    have hl : (bothT T.length (bestS T s).1 (bestS T s).2).length = T.length := (tabN_sq _ _).1
    have hp := q2.perm (by rw [hl]; exact q1)
    rw [hl] at hp
    have e : most T T.length - ((s + 1 : Nat) : Int) = most T T.length - s - 1 := by push_cast; omega
    rw [e]
    refine ih.step hp.1 hp.2 fun a ha => ?_
    have h1 := (q2.ok a (by omega)).2.2.1
    have h2 := hp.1 a ha
    unfold Edge at h1
    have e2 : ∀ b, b < T.length → en (bothT T.length (bestS T s).1 (bestS T s).2) a b = en (bestS T s).1 a b + en (bestS T s).2 a b := fun b hb => en_tabN _ ha hb
    rw [e2 _ (by omega)] at h1
    exact h1
theorem best_perm {T : List (List Int)} (hT : TV T) {s : Nat} (hs : (s : Int) < most T T.length) : (bestP T s).length = T.length ∧ (∀ a, a < T.length → 0 ≤ (bestP T s).getD a 0 ∧ (bestP T s).getD a 0 < T.length) ∧
    ∀ a a', a < T.length → a' < T.length → (bestP T s).getD a 0 = (bestP T s).getD a' 0 → a = a' := by
  have ih := best_bal hT s (by omega)
  have h0 := most_pos (T := T) (by omega)
  obtain ⟨q1, q2, -⟩ := ih.mq (by omega) h0
  have hl : (bothT T.length (bestS T s).1 (bestS T s).2).length = T.length := (tabN_sq _ _).1
  have hp := q2.perm (by rw [hl]; exact q1)
  rw [hl] at hp
  exact ⟨q1, hp⟩
theorem bestF_getD {T : List (List Int)} {k s : Nat} (h : s < k) : (bestF T k).getD s [] = slB (bestS T s).1 (bestP T s) T.length := by simp [bestF, List.getD, h]
theorem slB_getD {L : List (List Int)} {p : List Int} {n a : Nat} (h : a < n) : (slB L p n).getD a 0 = if 0 < en L a (p.getD a 0).toNat then p.getD a 0 else -1 := by
  rw [slB, List.getD_eq_getElem?_getD, List.getElem?_map, List.getElem?_range h]; rfl
theorem best_hit {T : List (List Int)} (hT : TV T) {k s a b : Nat} (hk : s < k) (hs : (s : Int) < most T T.length) (ha : a < T.length) (hb : b < T.length) :
    hit (fS (bestF T k)) s a b = if a < T.length ∧ (bestP T s).getD a 0 = (b : Int) ∧ 0 < en (bestS T s).1 a b then 1 else 0 := by
  have hp := (best_perm hT hs).2.1 a ha
  have ef : fS (bestF T k) s a = if 0 < en (bestS T s).1 a ((bestP T s).getD a 0).toNat then (bestP T s).getD a 0 else -1 := by
    unfold fS
    rw [bestF_getD hk, if_pos (by simpa [slB] using ha), slB_getD ha]
  unfold hit
  rw [ef]
  by_cases c : 0 < en (bestS T s).1 a ((bestP T s).getD a 0).toNat
  · rw [if_pos c]
    by_cases c2 : (bestP T s).getD a 0 = (b : Int)
    · have e : ((bestP T s).getD a 0).toNat = b := by omega
      rw [e] at c
      rw [if_pos c2, if_pos ⟨ha, c2, c⟩]
    · rw [if_neg c2, if_neg fun hh => c2 hh.2.1]
  · rw [if_neg c, if_neg (by omega), if_neg]
    rintro ⟨-, h1, h2⟩
    have e : ((bestP T s).getD a 0).toNat = b := by omega
    rw [e] at c
    exact c h2
theorem best_left {T : List (List Int)} (hT : TV T) {k : Nat} : ∀ s, s ≤ k → (s : Int) ≤ most T T.length → ∀ a b, a < T.length → b < T.length → en (frameL T (bestF T k) s) a b = en (bestS T s).1 a b
  | 0, _, _, _, _, _, _ => rfl
  | s + 1, hk, hs, a, b, ha, hb => by
    have ih := best_left (k := k) hT s (by omega) (by omega) a b ha hb
    rw [en_frameL (tv_sq hT) _ _ a b ha hb] at ih ⊢
    have e : sent (fS (bestF T k)) a b (s + 1) = sent (fS (bestF T k)) a b s + hit (fS (bestF T k)) s a b := rfl
    rw [e, best_hit (k := k) (s := s) hT (by omega) (by omega) ha hb]
    show _ = en (goL T.length (bestS T s).1 (bestP T s) T.length) a b
    have e2 : en (goL T.length (bestS T s).1 (bestP T s) T.length) a b = en (bestS T s).1 a b - if a < T.length ∧ (bestP T s).getD a 0 = (b : Int) ∧ 0 < en (bestS T s).1 a b then 1 else 0 := en_tabN _ ha hb
    rw [e2]
    split <;> omega
/-- the best frame: valid, nothing is left, and as many slots as the fullest line has units -/
theorem best_ok {T : List (List Int)} (hT : TV T) : FrOk T (bestF T (most T T.length).toNat) ∧ (bestF T (most T T.length).toNat).length = (most T T.length).toNat ∧
    ∀ a b, a < T.length → b < T.length → en (frameL T (bestF T (most T T.length).toNat) (most T T.length).toNat) a b = 0 := by
  have hm := most_le hT _ (Nat.le_refl _)
  have hl : (bestF T (most T T.length).toNat).length = (most T T.length).toNat := by simp [bestF]
  have hz : ∀ a b, a < T.length → b < T.length → en (frameL T (bestF T (most T T.length).toNat) (most T T.length).toNat) a b = 0 := fun a b ha hb => by
    have hB := best_bal hT (most T T.length).toNat (by omega)
    rw [best_left hT _ (Nat.le_refl _) (by omega) a b ha hb]
    have hr := hB.row a ha
    have e : most T T.length - ((most T T.length).toNat : Int) = 0 := by omega
    rw [e] at hr
    have := sm_all_zero (fun b hb => by have := hB.l0 a b ha hb; have := hB.x0 a b ha hb; omega) hr hb
    have := hB.l0 a b ha hb
    have := hB.x0 a b ha hb
    omega
  refine ⟨⟨hT, by omega, fun s hs => ?_, fun i hi j hj => ?_⟩, hl, hz⟩
  · rw [hl] at hs
    have hs' : (s : Int) < most T T.length := by omega
    obtain ⟨p1, p2, p3⟩ := best_perm hT hs'
    rw [bestF_getD hs]
    have hlen : (slB (bestS T s).1 (bestP T s) T.length).length = T.length := by simp [slB]
    refine ⟨hlen, fun a ha => ⟨?_, fun h0 hm' => ?_⟩⟩
    · rw [slB_getD ha]
      have := p2 a ha
      split <;> omega
    · obtain ⟨a', ha', e⟩ := (mem_take (by omega) _).1 hm'
      rw [slB_getD ha] at h0 e
      rw [slB_getD (by omega)] at e
      have := p2 a ha
      have := p2 a' (by omega)
      have : (bestP T s).getD a' 0 = (bestP T s).getD a 0 := by
        split at e <;> split at e <;> first | exact e | (split at h0 <;> omega)
      have := p3 a' a (by omega) ha this
      omega
  · rw [hl] at hi hj ⊢
    have hs := frameL_sq (tv_sq hT) (bestF T (most T T.length).toNat) (most T T.length).toNat
    rw [hs.1] at hi
    rw [hs.2 i hi] at hj
    rw [hz i j hi hj]; omega
end Go.Proofs.Ytpcbgdgfdfpapaa

namespace Go.Proofs.Ytpcbgdgfdfpapaa
open Go Go.Abs Go.RowKit Go.Frames
variable {w0 : World}

/-- the first of J outputs for which there is a unit and which is not in a slot; -1 if there is none -/
def firstJ (L : List (List Int)) (k : Nat) (slot : List Int) : Nat → Int
  | 0 => -1
  | j + 1 => if firstJ L k slot j < 0 ∧ 0 < en L k j ∧ (j : Int) ∉ slot then (j : Int) else firstJ L k slot j
theorem firstJ_ok (L : List (List Int)) (k : Nat) (slot : List Int) : ∀ J, (firstJ L k slot J = -1 ∧ ∀ j, j < J → ¬ (0 < en L k j ∧ (j : Int) ∉ slot)) ∨ ∃ j, j < J ∧ firstJ L k slot J = (j : Int) ∧ 0 < en L k j ∧ (j : Int) ∉ slot
  | 0 => .inl ⟨rfl, fun j hj => absurd hj (by omega)⟩
  | J + 1 => by
    unfold firstJ
    rcases firstJ_ok L k slot J with ⟨h1, h2⟩ | ⟨j, h1, h2, h3⟩
    · by_cases c : 0 < en L k J ∧ (J : Int) ∉ slot
      · rw [if_pos ⟨by omega, c⟩]; exact .inr ⟨J, by omega, rfl, c⟩
      · rw [if_neg fun hh => c hh.2]
        refine .inl ⟨h1, fun j hj => ?_⟩
        by_cases e : j = J
        · subst e; exact c
        · exact h2 j (by omega)
    · rw [if_neg (by omega)]; exact .inr ⟨j, by omega, h2, h3⟩
/-- the greedy slot -/
def grS (n : Nat) (L : List (List Int)) : Nat → List Int
  | 0 => []
  | k + 1 => grS n L k ++ [firstJ L k (grS n L k) n]
theorem grS_length (n : Nat) (L : List (List Int)) : ∀ k, (grS n L k).length = k
  | 0 => rfl
  | k + 1 => by rw [grS, List.length_append, grS_length n L k]; rfl
theorem grS_take (n : Nat) (L : List (List Int)) {k : Nat} : ∀ K, k ≤ K → (grS n L K).take k = grS n L k
  | 0, h => by have : k = 0 := by omega
               subst this; rfl
  | K + 1, h => by
    by_cases e : k = K + 1
    · subst e; exact List.take_of_length_le (by rw [grS_length]; omega)
    · rw [grS, List.take_append_of_le_length (by rw [grS_length]; omega)]; exact grS_take n L K (by omega)
theorem grS_getD (n : Nat) (L : List (List Int)) {k : Nat} : ∀ K, k < K → (grS n L K).getD k 0 = firstJ L k (grS n L k) n
  | 0, h => absurd h (by omega)
  | K + 1, h => by
    rw [grS, getD_app, grS_length]
    by_cases e : k = K
    · subst e; rw [if_pos rfl]
    · rw [if_neg e]; exact grS_getD n L K (by omega)
theorem grS_ok (n : Nat) (L : List (List Int)) {a : Nat} (ha : a < n) :
    ((grS n L n).getD a 0 = -1 ∧ ∀ b, b < n → 0 < en L a b → ∃ a', a' < a ∧ (grS n L n).getD a' 0 = (b : Int)) ∨ ∃ b, b < n ∧ (grS n L n).getD a 0 = (b : Int) ∧ 0 < en L a b ∧ (b : Int) ∉ (grS n L n).take a := by
  rw [grS_getD n L n ha, grS_take n L n (by omega)]
  rcases firstJ_ok L a (grS n L a) n with ⟨h1, h2⟩ | h
  · refine .inl ⟨h1, fun b hb h0 => ?_⟩
    have h3 := h2 b hb
    have h4 : (b : Int) ∈ grS n L a := Classical.byContradiction fun hh => h3 ⟨h0, hh⟩
    rw [← grS_take n L n (show a ≤ n by omega)] at h4
    exact (mem_take (by rw [grS_length]; omega) _).1 h4
  · exact .inr h
theorem grS_slot (n : Nat) (L : List (List Int)) : SlotOk n (grS n L n) := by
  refine ⟨grS_length _ _ _, fun a ha => ?_⟩
  rcases grS_ok n L ha with ⟨h1, -⟩ | ⟨b, hb, h1, -, h2⟩
  · exact ⟨by omega, fun h => by omega⟩
  · exact ⟨by omega, fun _ => by rw [h1]; exact h2⟩
/-- what is left behind s greedy slots, and the frame -/
def grL (T : List (List Int)) : Nat → List (List Int)
  | 0 => T
  | s + 1 => slotL T.length (grL T s) (grS T.length (grL T s) T.length) T.length
def grF (T : List (List Int)) (k : Nat) : List (List Int) := (List.range k).map fun s => grS T.length (grL T s) T.length
theorem grF_getD {T : List (List Int)} {k s : Nat} (h : s < k) : (grF T k).getD s [] = grS T.length (grL T s) T.length := by simp [grF, List.getD, h]
theorem grF_length (T : List (List Int)) (k : Nat) : (grF T k).length = k := by simp [grF]
theorem grF_succ (T : List (List Int)) (k : Nat) : grF T (k + 1) = grF T k ++ [grS T.length (grL T k) T.length] := by simp [grF, List.range_succ]
theorem grL_sq {n : Nat} {T : List (List Int)} (h : Sq n T) : ∀ s, Sq n (grL T s)
  | 0 => h
  | s + 1 => by unfold grL; rw [h.1]; exact slotL_sq (grL_sq h s) _ _ (Nat.le_refl _)
theorem grL_eq {T : List (List Int)} (h : Sq T.length T) {k : Nat} : ∀ s, s ≤ k → frameL T (grF T k) s = grL T s
  | 0, _ => rfl
  | s + 1, hs => by
    rw [frameL, grL, grL_eq h s (by omega), grF_getD (by omega), grS_length, Nat.min_self]
theorem en_grL {T : List (List Int)} (h : Sq T.length T) (s a b : Nat) (hb : b < T.length) : en (grL T (s + 1)) a b = en (grL T s) a b - if a < T.length ∧ (grS T.length (grL T s) T.length).getD a 0 = (b : Int) then 1 else 0 := by
  rw [grL, en_slotL (grL_sq h s) _ _ (Nat.le_refl _) a b hb]
theorem grL_nonneg {T : List (List Int)} (hT : TV T) : ∀ s a b, a < T.length → b < T.length → 0 ≤ en (grL T s) a b
  | 0, a, b, ha, hb => (hT.at ha hb).1
  | s + 1, a, b, ha, hb => by
    have ih := grL_nonneg hT s a b ha hb
    rw [en_grL (tv_sq hT) s a b hb]
    split
    · rename_i hh
      rcases grS_ok T.length (grL T s) ha with ⟨h1, -⟩ | ⟨b', hb', h1, h2, -⟩
      · omega
      · have : b' = b := by omega
        subst this; omega
    · omega
/-- as long as anything is left, a slot sends something -/
theorem grS_sends {T : List (List Int)} (hT : TV T) {s : Nat} (h : 0 < allN (grL T s) T.length) : ∃ a b, a < T.length ∧ b < T.length ∧ (grS T.length (grL T s) T.length).getD a 0 = (b : Int) := by
  have hsq := grL_sq (tv_sq hT) s
  rw [allN_sm hsq _ (Nat.le_refl _)] at h
  apply Classical.byContradiction
  intro hn
  have hz : ∀ a b, a < T.length → b < T.length → en (grL T s) a b = 0 := fun a b ha hb => by
    apply Classical.byContradiction
    intro h0
    have hp := grL_nonneg hT s a b ha hb
    rcases grS_ok T.length (grL T s) ha with ⟨h1, h2⟩ | ⟨b', hb', h1, -⟩
    · obtain ⟨a', ha', e⟩ := h2 b hb (by omega)
      exact hn ⟨a', b, by omega, hb, e⟩
    · exact hn ⟨a, b', ha, hb', h1⟩
  have : sm (fun a => sm (fun b => en (grL T s) a b) T.length) T.length = 0 := by
    rw [sm_congr (g := fun _ => 0) _ fun a ha => by rw [sm_congr (g := fun _ => 0) _ fun b hb => hz a b ha hb, sm_zero], sm_zero]
  omega
theorem fS_grF {T : List (List Int)} {k s a : Nat} (hs : s < k) (ha : a < T.length) : fS (grF T k) s a = (grS T.length (grL T s) T.length).getD a 0 := by
  unfold fS; rw [grF_getD hs, if_pos (by rw [grS_length]; exact ha)]
theorem grF_slots {T : List (List Int)} {k : Nat} : Slots T.length k (fS (grF T k)) := by
  refine ⟨fun s a hs ha => ?_, fun s a a' hs ha ha' h0 he => ?_⟩
  · rw [fS_grF hs ha]
    have := ((grS_slot T.length (grL T s)).2 a ha).1
    omega
  · rw [fS_grF hs ha] at h0 he
    rw [fS_grF hs ha'] at he
    have hS := grS_slot T.length (grL T s)
    rcases Nat.lt_trichotomy a a' with e | e | e
    · exact absurd ((mem_take (by rw [hS.1]; omega) _).2 ⟨a, e, he⟩) ((hS.2 a' ha').2 (by omega))
    · exact e
    · exact absurd ((mem_take (by rw [hS.1]; omega) _).2 ⟨a', e, he.symm⟩) ((hS.2 a ha).2 (by omega))
/-- what is sent and what is left -/
theorem gr_all {T : List (List Int)} (hT : TV T) (k : Nat) : allN (grL T k) T.length = allN T T.length - sendsF (grF T k) k := by
  have hsq := tv_sq hT
  have e0 : sendsF (grF T k) k = sm (fun s => sm (fun a => if 0 ≤ fS (grF T k) s a then 1 else 0) T.length) k := by
    have : ∀ m, m ≤ k → sendsF (grF T k) m = sm (fun s => sm (fun a => if 0 ≤ fS (grF T k) s a then 1 else 0) T.length) m := by
      intro m
      induction m with
      | zero => intro _; rfl
      | succ m ih =>
        intro hm
        rw [sendsF, sm, ih (by omega), sendsR_sm, grF_getD (by omega), grS_length]
        congr 1
        exact sm_congr _ fun a ha => by rw [fS_grF (by omega) ha]
    exact this k (Nat.le_refl _)
  rw [e0, ← sent_all grF_slots, allN_sm (grL_sq hsq k) _ (Nat.le_refl _), allN_sm hsq _ (Nat.le_refl _), ← grL_eq hsq k (Nat.le_refl _)]
  rw [sm_congr (g := fun a => sm (fun b => en T a b - sent (fS (grF T k)) a b k) T.length) _ fun a ha => sm_congr _ fun b hb => en_frameL hsq _ _ a b ha hb]
  rw [left_all]
theorem grL_mono {T : List (List Int)} (hT : TV T) {s a b : Nat} (ha : a < T.length) (hb : b < T.length) : ∀ d, en (grL T (s + d)) a b ≤ en (grL T s) a b
  | 0 => Int.le_refl _
  | d + 1 => by
    have := grL_mono hT (s := s) ha hb d
    have e := en_grL (tv_sq hT) (s + d) a b hb
    rw [← Nat.add_assoc]
    split at e <;> omega
/-- greedy frames are shorter than twice the fullest line, and no shorter than it -/
theorem gr_len {T : List (List Int)} (hT : TV T) {k : Nat} (h0 : allN (grL T k) T.length = 0) (hp : ∀ s, s < k → 0 < allN (grL T s) T.length) :
    most T T.length ≤ k ∧ (0 < k → (k : Int) ≤ 2 * most T T.length - 1) := by
  have hsq := tv_sq hT
  have hen : ∀ a b, a < T.length → b < T.length → en (grL T k) a b = en T a b - sent (fS (grF T k)) a b k := fun a b ha hb => by rw [← grL_eq hsq k (Nat.le_refl _), en_frameL hsq _ _ a b ha hb]
  have hz : ∀ a b, a < T.length → b < T.length → en T a b - sent (fS (grF T k)) a b k = 0 := fun a b ha hb => by
    rw [← hen a b ha hb]
    rw [allN_sm (grL_sq hsq k) _ (Nat.le_refl _)] at h0
    exact all_zero (fun a b ha hb => grL_nonneg hT k a b ha hb) h0 ha hb
  refine ⟨?_, fun hk => ?_⟩
  · have hl := slots_lines grF_slots hz
    refine most_le' (by omega) _ fun i hi => ⟨?_, ?_⟩
    · rw [psum_sm]; exact hl.1 i hi
    · rw [csum_sm]; exact hl.2 i hi
  · obtain ⟨a, b, ha, hb, e⟩ := grS_sends hT (hp (k - 1) (by omega))
    have hg := greedy_len (t := en T) (f := fS (grF T k)) (n := T.length) (m := k) grF_slots hk ha hb (fun i j hi hj => by rw [hz i j hi hj]; omega) (by rw [fS_grF (by omega) ha]; exact e) fun s hs => ?_
    · have h1 := (le_most (rows := T) ha).1
      have h2 := (le_most (rows := T) hb).2
      rw [psum_sm] at h1
      rw [csum_sm] at h2
      have e1 : sm (en T a) T.length = sm (fun o => (T.getD a []).getD o 0) T.length := rfl
      omega
    · have hleft : 0 < en (grL T s) a b := by
        have hm := grL_mono hT (s := s) ha hb (k - 1 - s)
        rw [show s + (k - 1 - s) = k - 1 by omega] at hm
        have h2 := en_grL hsq (k - 1) a b hb
        rw [if_pos ⟨ha, e⟩] at h2
        have := grL_nonneg hT (k - 1 + 1) a b ha hb
        omega
      rw [fS_grF hs ha]
      rcases grS_ok T.length (grL T s) ha with ⟨h1, h2⟩ | ⟨b', hb', h1, -⟩
      · obtain ⟨a', ha', e'⟩ := h2 b hb hleft
        exact .inr (.inr ⟨a', by omega, by rw [fS_grF hs (by omega)]; exact e'⟩)
      · exact .inr (.inl (by omega))
end Go.Proofs.Ytpcbgdgfdfpapaa

namespace Go.Proofs.Ytpcbgdgfdfpapaa
open Go Go.Abs Go.RowKit
variable {w0 : World}

theorem cover2_at (σ : AHeap) (h o g p : Nat) (rows : List (List Int)) (ps : List Int) (hv : RowsAt σ h o rows) (n6 : rows.length ≤ 6) (hsq : Sq rows.length rows) (hnn : ∀ a b, a < rows.length → b < rows.length → 0 ≤ en rows a b) (hp : IntsAt .i64 σ g p ps) (hl : ps.length = rows.length) (hi : ∀ j, j < rows.length → 0 ≤ ps.getD j 0 ∧ ps.getD j 0 < rows.length) :
    ACall Try.prog w0 83 [.slice (some ⟨h, o, none⟩) rows.length 1, .slice (some ⟨g, p, none⟩) ps.length 1] σ fun r σ' => ∃ b : Bool, r = .bool b ∧ (b = true ↔ Cov rows ps) ∧ σ' = σ := by
  have h6 := n6
  refine acall_go mixed Try.func83 rfl good83 fun pr => ?_
  simp -implicitDefEqProofs (disch := omega) only [List.any_cons, List.any_nil, Nat.reduceEqDiff, List.map_cons, List.map_nil, Option.map_some, Option.map_none, List.nil_append, ↓reduceIte, vcu, ↓vcd]
  refine vc_loop_c mixed (by kernel_rfl) [0, 1] (fun m a σ' => ∃ k : Nat, m + k = rows.length ∧ a 5 = .int .i64 k ∧ σ' = σ ∧ ∀ j, j < k → Edge rows j (ps.getD j 0).toNat) rows.length ⟨0, by simp, rfl, rfl, fun j hj => absurd hj (by omega)⟩ ?_
  rintro m a σ' hc ⟨k, hk, h5, rfl, hall⟩
  simp -implicitDefEqProofs (disch := omega) only [List.any_cons, List.any_nil, Nat.reduceEqDiff, List.map_cons, List.map_nil, Option.map_some, Option.map_none, List.nil_append, ↓reduceIte, vcu, ↓vcd, hl] at hc
  obtain ⟨h0, h1, -⟩ := hc
  by_cases hlt : k < rows.length
  · obtain ⟨v, hx, hiv⟩ := hv k hlt
    have hy := hp k (by omega)
    have hik := hi k hlt
    have hrl := hsq.2 k hlt
    have hat : 0 ≤ (rows.getD k []).getD (ps.getD k 0).toNat 0 := hnn k (ps.getD k 0).toNat hlt (by omega)
    have hE : Edge rows k (ps.getD k 0).toNat ↔ 0 < (rows.getD k []).getD (ps.getD k 0).toNat 0 := Iff.rfl
    generalize rows.getD k [] = row at hiv hrl hat hE
    rcases hiv with ⟨rfl, rfl⟩ | ⟨e, o2, rfl, hrow⟩
    · simp at hrl; omega
    have hz := hrow (ps.getD k 0).toNat (by omega)
    rw [hrl] at hx
    by_cases h00 : row.getD (ps.getD k 0).toNat 0 = 0
    · simp -implicitDefEqProofs (disch := omega) only [List.any_cons, List.any_nil, Nat.reduceEqDiff, List.map_cons, List.map_nil, Option.map_some, Option.map_none, List.nil_append, ↓reduceIte, vcu, ↓vcd, h0, h1, h5, hx, hy, hz, h00, decide_true]
      refine fin_one Try.results83 ⟨false, ?_, ⟨fun h => (by cases h), fun hC => ?_⟩, rfl⟩
      · simp -implicitDefEqProofs (disch := omega) only [List.any_cons, List.any_nil, Nat.reduceEqDiff, List.map_cons, List.map_nil, Option.map_some, Option.map_none, List.nil_append, ↓reduceIte, vcu, ↓vcd]
      · have := hE.1 (hC k hlt); omega
    · simp -implicitDefEqProofs (disch := omega) only [List.any_cons, List.any_nil, Nat.reduceEqDiff, List.map_cons, List.map_nil, Option.map_some, Option.map_none, List.nil_append, ↓reduceIte, vcu, ↓vcd, h0, h1, h5, hx, hy, hz, h00, decide_false]
      refine ⟨?_, m - 1, by omega, k + 1, by omega, by simp, trivial, fun j hj => ?_⟩
      · first | trivial | simp [h0, h1, hl]
      · by_cases e : j = k
        · subst e; exact hE.2 (by omega)
        · exact hall j (by omega)
  · simp -implicitDefEqProofs (disch := omega) only [List.any_cons, List.any_nil, Nat.reduceEqDiff, List.map_cons, List.map_nil, Option.map_some, Option.map_none, List.nil_append, ↓reduceIte, vcu, ↓vcd, h0, h1, h5, hl]
    refine fin_one Try.results83 ⟨true, ?_, ⟨fun _ j hj => hall j (by omega), fun _ => rfl⟩, rfl⟩
    simp -implicitDefEqProofs (disch := omega) only [List.any_cons, List.any_nil, Nat.reduceEqDiff, List.map_cons, List.map_nil, Option.map_some, Option.map_none, List.nil_append, ↓reduceIte, vcu, ↓vcd]

end Go.Proofs.Ytpcbgdgfdfpapaa
