/- Neighbours: one input decides; how many comparators it takes. -/
import Derived.Test.YtnkpoflhdfchjaaOa
import Derived.Test.YtnkpoflhdfchjaaNl
set_option linter.unusedSimpArgs false
set_option linter.unusedVariables false
namespace Go.Proofs.Ytnkpoflhdfchjaa
open Go Go.Abs Go.RowKit

def ones (b : List Int) (i : Nat) : Int := (b.take i).sum
theorem ones_zero (b : List Int) : ones b 0 = 0 := by simp [ones]
theorem ones_nil (i : Nat) : ones [] i = 0 := by simp [ones]
theorem ones_cons (z : Int) (b : List Int) (i : Nat) : ones (z :: b) (i + 1) = z + ones b i := by simp [ones]
theorem cmpx_cons (z : Int) (b : List Int) (A B : Nat) : cmpx (z :: b) (A + 1) (B + 1) = z :: cmpx b A B := by
  unfold cmpx
  simp only [List.getD_cons_succ, List.set_cons_succ]
  split <;> rfl
theorem cmpx_head (x y : Int) (q : List Int) : cmpx (x :: y :: q) 0 1 = min x y :: max x y :: q := by
  unfold cmpx
  simp only [List.getD_cons_zero, List.getD_cons_succ]
  split
  · rename_i h; rw [Int.min_eq_left h, Int.max_eq_right h]
  · rename_i h; rw [Int.min_eq_right (by omega), Int.max_eq_left (by omega)]; rfl
theorem ones_cmpx : ∀ (a : Nat) (b : List Int) (i : Nat), Bin b → a + 1 < b.length → ones (cmpx b a (a + 1)) i = if i = a + 1 then max (ones b a) (ones b (a + 2) - 1) else ones b i
  | 0, x :: y :: q, i, hb, _ => by
    have hx := hb x (by simp)
    have hy := hb y (by simp)
    rw [cmpx_head]
    match i with
    | 0 => simp [ones_zero]
    | 1 => simp only [ones_cons, ones_zero, if_true]; omega
    | j + 2 => simp only [ones_cons]; rw [if_neg (by omega)]; omega
  | a + 1, z :: b, i, hb, hl => by
    rw [cmpx_cons]
    match i with
    | 0 => simp [ones_zero]
    | j + 1 =>
      have ih := ones_cmpx a b j (fun x hx => hb x (by simp [hx])) (by simpa using hl)
      simp only [ones_cons]
      rw [ih]
      by_cases e : j = a + 1
      · subst e; rw [if_pos rfl, if_pos rfl]; omega
      · rw [if_neg e, if_neg (by omega)]
  | 0, [], _, _, h => by simp at h
  | 0, [_], _, _, h => by simp at h
  | a + 1, [], _, _, h => by simp at h
theorem bin_cmpx {b : List Int} (h : Bin b) (A B : Nat) : Bin (cmpx b A B) := by
  intro x hx
  unfold cmpx at hx
  have g : ∀ i, b.getD i 0 = 0 ∨ b.getD i 0 = 1 := fun i => by
    by_cases hi : i < b.length
    · rw [getD_lt hi]; exact h _ (by simp)
    · simp [List.getD, List.getElem?_eq_none (Nat.le_of_not_lt hi)]
  split at hx
  · exact h x hx
  · rcases List.mem_or_eq_of_mem_set hx with hx | rfl
    · rcases List.mem_or_eq_of_mem_set hx with hx | rfl
      · exact h x hx
      · exact g B
    · exact g A
def Dom (b c : List Int) : Prop := ∀ i, ones b i ≤ ones c i
def Side (n : Nat) (cs : List (Int × Int)) : Prop := ∀ c ∈ cs, NVc n c ∧ c.2 = c.1 + 1
theorem side_runs {n : Nat} : ∀ (cs : List (Int × Int)) (b c : List Int), Side n cs → Bin b → Bin c → b.length = n → c.length = n → Dom b c →
    Dom (runs cs b) (runs cs c) ∧ Bin (runs cs b) ∧ Bin (runs cs c) ∧ ones (runs cs b) n = ones b n ∧ ones (runs cs c) n = ones c n
  | [], b, c, _, hb, hc, _, _, hd => ⟨hd, hb, hc, rfl, rfl⟩
  | x :: cs, b, c, hs, hb, hc, lb, lc, hd => by
    obtain ⟨h1, h2⟩ := hs x (by simp)
    unfold NVc at h1
    obtain ⟨a, ha⟩ : ∃ a : Nat, x.1 = a := ⟨x.1.toNat, by omega⟩
    have e1 : x.1.toNat = a := by omega
    have e2 : x.2.toNat = a + 1 := by omega
    have hl : a + 1 < n := by omega
    have k1 := fun i => ones_cmpx a b i hb (by omega)
    have k2 := fun i => ones_cmpx a c i hc (by omega)
    have hd' : Dom (cmpx b a (a + 1)) (cmpx c a (a + 1)) := fun i => by
      rw [k1, k2]
      have q1 := hd a
      have q2 := hd (a + 2)
      have q3 := hd i
      split <;> omega
    have ih := side_runs cs (cmpx b a (a + 1)) (cmpx c a (a + 1)) (fun y hy => hs y (by simp [hy])) (bin_cmpx hb _ _) (bin_cmpx hc _ _) (by rw [cmpx_length]; exact lb) (by rw [cmpx_length]; exact lc) hd'
    show Dom (runs cs (cmpx b x.1.toNat x.2.toNat)) (runs cs (cmpx c x.1.toNat x.2.toNat)) ∧ _
    have r : ∀ y, runs (x :: cs) y = runs cs (cmpx y a (a + 1)) := fun y => by show runs cs (cmpx y x.1.toNat x.2.toNat) = _; rw [e1, e2]
    rw [r, r, e1, e2]
    refine ⟨ih.1, ih.2.1, ih.2.2.1, ?_, ?_⟩
    · rw [ih.2.2.2.1, k1, if_neg (by omega)]
    · rw [ih.2.2.2.2, k2, if_neg (by omega)]
theorem ones_le : ∀ (b : List Int) (i : Nat), Bin b → 0 ≤ ones b i ∧ ones b i ≤ i ∧ ones b i ≤ ones b b.length ∧ (i ≤ b.length → ones b b.length ≤ ones b i + (b.length - i : Nat))
  | [], i, _ => by simp [ones_nil]
  | z :: b, 0, h => by
    have hz := h z (by simp)
    have ih := ones_le b 0 fun x hx => h x (by simp [hx])
    simp only [List.length_cons, ones_cons, ones_zero] at ih ⊢
    omega
  | z :: b, i + 1, h => by
    have hz := h z (by simp)
    have ih := ones_le b i fun x hx => h x (by simp [hx])
    simp only [List.length_cons, ones_cons] at ih ⊢
    omega
theorem up_cons {x y : Int} {s : List Int} (h : Up (x :: y :: s)) : x ≤ y ∧ Up (y :: s) :=
  ⟨by simpa using h 0 (by simp), fun i hi => by simpa using h (i + 1) (by simp at hi ⊢; omega)⟩
theorem all_one : ∀ (s : List Int), Bin s → Up (1 :: s) → ∀ i, i ≤ s.length → ones s i = i
  | [], _, _, i, hi => by simp at hi; subst hi; rfl
  | y :: s, hb, hu, 0, _ => by simp [ones_zero]
  | y :: s, hb, hu, i + 1, hi => by
    obtain ⟨h1, h2⟩ := up_cons hu
    have hy : y = 1 := by have := hb y (by simp); omega
    subst hy
    have := all_one s (fun x hx => hb x (by simp [hx])) h2 i (by simpa using hi)
    rw [ones_cons, this]; omega
theorem up_ones : ∀ (s : List Int) (j : Nat), Bin s → Up s → j ≤ s.length → ones s j ≤ max 0 (ones s s.length - (s.length - j : Nat))
  | [], j, _, _, _ => by simp [ones_nil]
  | x :: s, 0, _, _, _ => by rw [ones_zero]; omega
  | x :: s, j + 1, hb, hu, hj => by
    have hx := hb x (by simp)
    have hb' : Bin s := fun y hy => hb y (by simp [hy])
    have hj' : j ≤ s.length := by simpa using hj
    simp only [List.length_cons, ones_cons]
    rcases hx with rfl | rfl
    · have hu' : Up s := by
        cases s with
        | nil => intro i hi; simp at hi
        | cons y s => exact (up_cons hu).2
      have := up_ones s j hb' hu' hj'
      omega
    · have h1 := all_one s hb' hu j hj'
      have h2 := all_one s hb' hu s.length (Nat.le_refl _)
      omega
theorem dom_up {b s : List Int} {n : Nat} (hb : Bin b) (hs : Bin s) (lb : b.length = n) (ls : s.length = n) (hd : Dom b s) (ht : ones b n = ones s n) (hu : Up s) : Up b := by
  intro i hi
  rcases Int.lt_or_le (b.getD (i + 1) 0) (b.getD i 0) with hlt | hle
  · exfalso
    have hi1 : i + 1 < b.length := by omega
    have step : ∀ j, j < b.length → ones b (j + 1) = ones b j + b.getD j 0 := fun j hj => by
      unfold ones
      rw [List.take_succ_eq_append_getElem hj, List.sum_append, getD_lt hj]; simp
    have g : ∀ j, j < b.length → b.getD j 0 = 0 ∨ b.getD j 0 = 1 := fun j hj => by rw [getD_lt hj]; exact hb _ (by simp)
    have s1 := step i (by omega)
    have s2 := step (i + 1) hi1
    have g1 := g i (by omega)
    have g2 := g (i + 1) hi1
    have l1 := ones_le b i hb
    have l2 := (ones_le b (i + 2) hb).2.2.2 (by omega)
    have u := up_ones s (i + 1) hs hu (by omega)
    have d := hd (i + 1)
    rw [ls, ← ht] at u
    rw [lb] at l2
    have e : i + 1 + 1 = i + 2 := rfl
    rw [e] at s2
    omega
  · exact hle
def blk (m n : Nat) : List Int := (List.range n).map fun i => if i < m then 1 else 0
theorem blk_length (m n : Nat) : (blk m n).length = n := by simp [blk]
theorem bin_blk (m n : Nat) : Bin (blk m n) := by
  intro x hx
  simp only [blk, List.mem_map] at hx
  obtain ⟨i, _, rfl⟩ := hx
  split <;> simp
theorem blk_snoc (m n : Nat) : blk m (n + 1) = blk m n ++ [if n < m then 1 else 0] := by simp [blk, List.range_succ]
theorem ones_blk (m : Nat) : ∀ (n i : Nat), i ≤ n → ones (blk m n) i = (min i m : Nat)
  | 0, i, h => by have : i = 0 := by omega
                  subst this; simp [ones_zero]
  | n + 1, i, h => by
    by_cases e : i = n + 1
    · subst e
      unfold ones
      rw [List.take_of_length_le (by rw [blk_length]; exact Nat.le_refl _), blk_snoc, List.sum_append]
      have ih := ones_blk m n n (Nat.le_refl _)
      unfold ones at ih
      rw [List.take_of_length_le (by rw [blk_length]; exact Nat.le_refl _)] at ih
      rw [ih]
      by_cases h2 : n < m
      · simp [h2]; omega
      · simp [h2]; omega
    · have ih := ones_blk m n i (by omega)
      unfold ones at ih ⊢
      rw [blk_snoc, List.take_append_of_le_length (by rw [blk_length]; omega)]
      exact ih
theorem thr_desc (m n : Nat) (h : m ≤ n) : (desc n).map (thr ((n : Int) - m)) = blk m n := by
  simp only [desc, blk, List.map_map]
  apply List.map_congr_left
  intro i hi
  rw [List.mem_range] at hi
  simp only [Function.comp, thr]
  by_cases h2 : i < m
  · rw [if_pos (by omega), if_pos h2]
  · rw [if_neg (by omega), if_neg h2]
theorem up_map {f : Int → Int} (hf : ∀ x y, x ≤ y → f x ≤ f y) {s : List Int} (h : Up s) : Up (s.map f) := by
  intro i hi
  rw [List.length_map] at hi
  have g : ∀ j, j < s.length → (s.map f).getD j 0 = f (s.getD j 0) := fun j hj => by simp [List.getD, hj]
  rw [g i (by omega), g (i + 1) (by omega)]
  exact hf _ _ (h i hi)
/-- for neighbours the descending numbers decide -/
theorem side_sorts {n : Nat} {cs : List (Int × Int)} (hs : Side n cs) (hd : Up (runs cs (desc n))) (b : List Int) (hb : Bin b) (lb : b.length = n) : Up (runs cs b) := by
  have l0 := ones_le b n hb
  rw [lb] at l0
  obtain ⟨m, hm⟩ : ∃ m : Nat, ones b n = m := ⟨(ones b n).toNat, by omega⟩
  have hmn : m ≤ n := by omega
  have hdom : Dom b (blk m n) := fun i => by
    have h1 := ones_le b i hb
    rw [lb] at h1
    rcases Nat.lt_or_ge n i with hi | hi
    · have e : ones (blk m n) i = ones (blk m n) n := by
        unfold ones; rw [List.take_of_length_le (by rw [blk_length]; omega), List.take_of_length_le (by rw [blk_length]; exact Nat.le_refl _)]
      rw [e, ones_blk m n n (Nat.le_refl _)]; omega
    · rw [ones_blk m n i hi]; omega
  obtain ⟨k1, k2, k3, k4, k5⟩ := side_runs cs b (blk m n) hs hb (bin_blk m n) lb (blk_length m n) hdom
  have hu : Up (runs cs (blk m n)) := by
    rw [← thr_desc m n hmn, runs_map _ (thr_mono _) cs _ (fun c hc => by rw [desc_length]; exact (hs c hc).1)]
    exact up_map (thr_mono _) hd
  refine dom_up (n := n) k2 k3 (by rw [runs_length]; exact lb) (by rw [runs_length, blk_length]) k1 ?_ hu
  rw [k4, k5, ones_blk m n n (Nat.le_refl _), hm]; omega

/-! how many comparators it takes -/
def inv : List Int → Nat
  | [] => 0
  | x :: ys => ys.countP (fun y => decide (y < x)) + inv ys
theorem countP_cmpx (p : Int → Bool) : ∀ (a : Nat) (b : List Int), a + 1 < b.length → (cmpx b a (a + 1)).countP p = b.countP p
  | 0, x :: y :: q, _ => by
    rw [cmpx_head]
    simp only [List.countP_cons]
    rcases Int.le_total x y with h | h
    · rw [Int.min_eq_left h, Int.max_eq_right h]
    · rw [Int.min_eq_right h, Int.max_eq_left h]; omega
  | a + 1, z :: b, h => by
    rw [cmpx_cons, List.countP_cons, List.countP_cons, countP_cmpx p a b (by simpa using h)]
  | 0, [], h => by simp at h
  | 0, [_], h => by simp at h
  | a + 1, [], h => by simp at h
theorem inv_cmpx : ∀ (a : Nat) (b : List Int), a + 1 < b.length → inv b ≤ inv (cmpx b a (a + 1)) + 1
  | 0, x :: y :: q, _ => by
    rw [cmpx_head]
    simp only [inv, List.countP_cons]
    rcases Int.le_total x y with h | h
    · rw [Int.min_eq_left h, Int.max_eq_right h]; omega
    · rw [Int.min_eq_right h, Int.max_eq_left h]
      by_cases e : y < x
      · simp [e]; omega
      · have : x = y := by omega
        subst this; omega
  | a + 1, z :: b, h => by
    have ih := inv_cmpx a b (by simpa using h)
    rw [cmpx_cons]
    simp only [inv]
    rw [countP_cmpx _ a b (by simpa using h)]; omega
  | 0, [], h => by simp at h
  | 0, [_], h => by simp at h
  | a + 1, [], h => by simp at h
theorem inv_runs {n : Nat} : ∀ (cs : List (Int × Int)) (b : List Int), Side n cs → b.length = n → inv b ≤ inv (runs cs b) + cs.length
  | [], b, _, _ => by simp [runs]
  | x :: cs, b, hs, lb => by
    obtain ⟨h1, h2⟩ := hs x (by simp)
    unfold NVc at h1
    obtain ⟨a, ha⟩ : ∃ a : Nat, x.1 = a := ⟨x.1.toNat, by omega⟩
    have e1 : x.1.toNat = a := by omega
    have e2 : x.2.toNat = a + 1 := by omega
    have i1 := inv_cmpx a b (by omega)
    have i2 := inv_runs cs (cmpx b a (a + 1)) (fun y hy => hs y (by simp [hy])) (by rw [cmpx_length]; exact lb)
    show inv b ≤ inv (runs cs (cmpx b x.1.toNat x.2.toNat)) + (cs.length + 1)
    rw [e1, e2]; omega
theorem up_inv : ∀ (s : List Int), Up s → inv s = 0
  | [], _ => rfl
  | [_], _ => rfl
  | x :: y :: s, h => by
    obtain ⟨h1, h2⟩ := up_cons h
    have ih := up_inv (y :: s) h2
    have low : ∀ (s : List Int) (y : Int), Up (y :: s) → ∀ z ∈ s, y ≤ z := by
      intro s
      induction s with
      | nil => intro y _ z hz; cases hz
      | cons w s ih =>
        intro y hu z hz
        obtain ⟨u1, u2⟩ := up_cons hu
        rcases List.mem_cons.1 hz with rfl | hz
        · exact u1
        · have := ih w u2 z hz; omega
    have hl := low (y :: s) x h
    show (y :: s).countP (fun z => decide (z < x)) + inv (y :: s) = 0
    rw [ih, List.countP_eq_zero.2 fun z hz => by have := hl z hz; simp; omega]
theorem inv_desc : ∀ n, n ≤ 6 → inv (desc n) = n * (n - 1) / 2 := by decide
theorem side_many {n : Nat} (hn : n ≤ 6) {cs : List (Int × Int)} (hs : Side n cs) (hd : Up (runs cs (desc n))) : n * (n - 1) / 2 ≤ cs.length := by
  have h1 := inv_runs cs (desc n) hs (desc_length n)
  rw [up_inv _ hd, inv_desc n hn] at h1
  omega

/-- the ascending numbers with two neighbours exchanged -/
def swp (n i : Nat) : List Int := (List.range n).map fun j => if j = i then ((i : Int) + 1) else if j = i + 1 then (i : Int) else (j : Int)
theorem swp_length (n i : Nat) : (swp n i).length = n := by simp [swp]
theorem swp_getD {n i j : Nat} (h : j < n) : (swp n i).getD j 0 = if j = i then ((i : Int) + 1) else if j = i + 1 then (i : Int) else (j : Int) := by simp [swp, List.getD, h]
theorem runs_swp {n i : Nat} : ∀ (cs : List (Int × Int)), (∀ c ∈ cs, NVc n c) → ((i : Int), (i : Int) + 1) ∉ cs → runs cs (swp n i) = swp n i
  | [], _, _ => rfl
  | x :: cs, hc, hn => by
    have h := hc x (by simp)
    unfold NVc at h
    obtain ⟨A, B⟩ := x
    dsimp only at h
    obtain ⟨a, rfl⟩ : ∃ a : Nat, A = a := ⟨A.toNat, by omega⟩
    obtain ⟨b, rfl⟩ : ∃ b : Nat, B = b := ⟨B.toNat, by omega⟩
    have hne : ¬ (a = i ∧ b = i + 1) := fun ⟨h1, h2⟩ => hn (by subst h1; subst h2; simp)
    have e : cmpx (swp n i) a b = swp n i := by
      unfold cmpx
      rw [swp_getD (by omega), swp_getD (by omega)]
      refine if_pos ?_
      split <;> split <;> (try split) <;> (try split) <;> omega
    show runs cs (cmpx (swp n i) (a : Int).toNat (b : Int).toNat) = _
    rw [Int.toNat_natCast, Int.toNat_natCast, e]
    exact runs_swp cs (fun d hd => hc d (by simp [hd])) (fun h => hn (by simp [h]))
theorem many_of_mem : ∀ (m : Nat) (cs : List (Int × Int)), (∀ i : Nat, i < m → ((i : Int), (i : Int) + 1) ∈ cs) → m ≤ cs.length
  | 0, _, _ => Nat.zero_le _
  | m + 1, cs, h => by
    have hm := h m (by omega)
    have ih := many_of_mem m (cs.erase ((m : Int), (m : Int) + 1)) fun i hi => by
      refine (List.mem_erase_of_ne ?_).2 (h i (by omega))
      intro e
      have := congrArg Prod.fst e
      dsimp only at this
      omega
    rw [List.length_erase_of_mem hm] at ih
    have : 0 < cs.length := List.length_pos_of_mem hm
    omega
theorem sorts_many {cs : List (Int × Int)} {n : Nat} (h : ∀ k, k < 2 ^ n → Up (runs cs (bitsL n k))) (hc : ∀ c ∈ cs, NVc n c) : n - 1 ≤ cs.length := by
  refine many_of_mem (n - 1) cs fun i hi => ?_
  by_cases hm : ((i : Int), (i : Int) + 1) ∈ cs
  · exact hm
  · exfalso
    have hu := sorts_all h (swp n i) (swp_length n i) hc
    rw [runs_swp cs hc hm] at hu
    have := hu i (by rw [swp_length]; omega)
    rw [swp_getD (by omega), swp_getD (by omega)] at this
    rw [if_pos rfl, if_neg (by omega), if_pos rfl] at this
    omega
end Go.Proofs.Ytnkpoflhdfchjaa
