/- Even traffic has a permutation. -/
import Derived.Test.YtpcbgdgfdfpapaaQc
set_option linter.unusedSimpArgs false
set_option linter.unusedVariables false
namespace Go.Proofs.Ytpcbgdgfdfpapaa
open Go Go.Abs Go.RowKit

/-- a way is found, or none -/
theorem dich (rows : List (List Int)) : ∀ (u : Nat) (M : List Int) (T : List Bool) (i : Nat), T.count false < u → i < rows.length → Mat rows M → T.length = rows.length →
    (∃ M' T', Won rows M T i M' T' ∧ T'.count false ≤ T.count false) ∨ (∃ T', Lost rows M T i rows.length T' ∧ T'.count false ≤ T.count false) := by
  intro u
  induction u with
  | zero => intro M T i h; omega
  | succ u ih =>
    intro M T i hu hi hM hT
    have inner : ∀ k, k ≤ rows.length → (∃ M' T', Won rows M T i M' T' ∧ T'.count false ≤ T.count false) ∨ (∃ T1, Lost rows M T i k T1 ∧ T1.count false ≤ T.count false) := by
      intro k
      induction k with
      | zero => exact fun _ => .inr ⟨T, Lost.start i hT, Nat.le_refl _⟩
      | succ k ihk =>
        intro hk
        rcases ihk (by omega) with h | ⟨T1, hL, hc⟩
        · exact .inl h
        · by_cases hE : Edge rows i k
          · cases ht : T1.getD k false with
            | true => exact .inr ⟨T1, hL.skip (fun _ => ht), hc⟩
            | false =>
              have hus := un_set (T := T1) (k := k) (by rw [hL.len]; omega) ht
              unfold un at hus
              by_cases hneg : M.getD k 0 < 0
              · exact .inl ⟨_, _, Won.take (i := i) (k := k) (T2 := T1.set k true) (M2 := M) (T3 := T1.set k true) hi (by omega) hE hL (by rw [ht]; simp) rfl (.inl ⟨hneg, rfl, rfl, hM⟩), by omega⟩
              · have hmk := hM.ok k (by omega) (by omega)
                rcases ih M (T1.set k true) (M.getD k 0).toNat (by omega) (by omega) hM (by simp [hL.len]) with ⟨M2, T3, hw, h3⟩ | ⟨T3, hl, h3⟩
                · exact .inl ⟨_, _, Won.take (i := i) (k := k) (T2 := T1.set k true) (M2 := M2) (T3 := T3) hi (by omega) hE hL (by rw [ht]; simp) rfl (.inr ⟨by omega, hw⟩), by omega⟩
                · exact .inr ⟨T3, hL.fail (by omega) rfl (by omega) hl, by omega⟩
          · exact .inr ⟨T1, hL.skip (fun h => absurd h hE), hc⟩
    exact inner rows.length (Nat.le_refl _)
theorem marks_none (n : Nat) : Marks n [] (List.replicate n false) := Marks.start n
/-- all can be connected, or there is one that can't -/
theorem can_or (rows : List (List Int)) : CanM rows [] ∨ ∃ (M : List Int) (i : Nat) (T' : List Bool), i < rows.length ∧ Top rows [] M i ∧ Lost rows M (List.replicate rows.length false) i rows.length T' := by
  have h : ∀ i, i ≤ rows.length → (∃ M, Top rows [] M i) ∨ ∃ (M : List Int) (i : Nat) (T' : List Bool), i < rows.length ∧ Top rows [] M i ∧ Lost rows M (List.replicate rows.length false) i rows.length T' := by
    intro i
    induction i with
    | zero => exact fun _ => .inl ⟨_, Top.start rows []⟩
    | succ i ih =>
      intro hi
      rcases ih (by omega) with ⟨M, hM⟩ | h
      · rcases dich rows _ M (List.replicate rows.length false) i (Nat.lt_succ_self _) (by omega) hM.mat (by simp) with ⟨M', T', hw, -⟩ | ⟨T', hl, -⟩
        · exact .inl ⟨M', hM.won (marks_none _) (by simp) hw⟩
        · exact .inr ⟨M, i, T', by omega, hM, hl⟩
      · exact .inr h
  rcases h rows.length (Nat.le_refl _) with ⟨M, hM⟩ | h
  · exact .inl hM.all
  · exact .inr h

def sumTo (f : Nat → Int) : Nat → Int
  | 0 => 0
  | k + 1 => sumTo f k + f k
theorem sumTo_congr {f g : Nat → Int} : ∀ n, (∀ k, k < n → f k = g k) → sumTo f n = sumTo g n
  | 0, _ => rfl
  | n + 1, h => by rw [sumTo, sumTo, sumTo_congr n (fun k hk => h k (by omega)), h n (by omega)]
theorem sumTo_le {f g : Nat → Int} : ∀ n, (∀ k, k < n → f k ≤ g k) → sumTo f n ≤ sumTo g n
  | 0, _ => Int.le_refl _
  | n + 1, h => by
    have := sumTo_le n (fun k hk => h k (by omega))
    have := h n (by omega)
    simp only [sumTo]; omega
theorem sumTo_add (f g : Nat → Int) : ∀ n, sumTo (fun k => f k + g k) n = sumTo f n + sumTo g n
  | 0 => rfl
  | n + 1 => by simp only [sumTo, sumTo_add f g n]; omega
theorem sumTo_mul (c : Int) (f : Nat → Int) : ∀ n, sumTo (fun k => c * f k) n = c * sumTo f n
  | 0 => by simp [sumTo]
  | n + 1 => by simp only [sumTo, sumTo_mul c f n, Int.mul_add]
theorem sumTo_mulr (c : Int) (f : Nat → Int) (n : Nat) : sumTo (fun k => f k * c) n = sumTo f n * c := by
  rw [Int.mul_comm, ← sumTo_mul]; exact sumTo_congr n fun k _ => Int.mul_comm _ _
theorem sumTo_zero : ∀ n, sumTo (fun _ => 0) n = 0
  | 0 => rfl
  | n + 1 => by rw [sumTo, sumTo_zero n]; rfl
theorem sumTo_swap (g : Nat → Nat → Int) (m : Nat) : ∀ n, sumTo (fun a => sumTo (fun o => g a o) m) n = sumTo (fun o => sumTo (fun a => g a o) n) m
  | 0 => by simp only [sumTo]; rw [sumTo_zero]
  | n + 1 => by
    simp only [sumTo]
    rw [sumTo_swap g m n, ← sumTo_add]
theorem sumTo_pos {f : Nat → Int} {n : Nat} (h : 0 < sumTo f n) : ∃ k, k < n ∧ 0 < f k := by
  apply Classical.byContradiction
  intro hn
  have : sumTo f n ≤ sumTo (fun _ => 0) n := sumTo_le n fun k hk => by
    apply Classical.byContradiction
    intro h2; exact hn ⟨k, hk, by omega⟩
  rw [sumTo_zero] at this; omega
theorem sumTo_one {n i : Nat} (h : i < n) (c : Int) : sumTo (fun k => if k = i then c else 0) n = c := by
  induction n with
  | zero => omega
  | succ n ih =>
    simp only [sumTo]
    by_cases e : n = i
    · subst e
      have : sumTo (fun k => if k = n then c else 0) n = sumTo (fun _ => 0) n := sumTo_congr n fun k hk => by rw [if_neg (by omega)]
      rw [this, sumTo_zero, if_pos rfl]; omega
    · rw [if_neg e, ih (by omega)]; omega
theorem psum_sumTo (xs : List Int) : ∀ n, psum xs n = sumTo (fun o => xs.getD o 0) n
  | 0 => rfl
  | n + 1 => by rw [psum, sumTo, psum_sumTo xs n]
theorem csum_sumTo (rows : List (List Int)) (b : Nat) : ∀ n, csum rows b n = sumTo (fun a => en rows a b) n
  | 0 => rfl
  | n + 1 => by rw [csum, sumTo, csum_sumTo rows b n]; rfl
theorem count_sumTo (M : List Int) (x : Int) : ∀ k, k ≤ M.length → sumTo (fun o => if M.getD o 0 = x then 1 else 0) k = ((M.take k).count x : Nat)
  | 0, _ => by simp [sumTo]
  | k + 1, hk => by
    rw [sumTo, count_sumTo M x k (by omega), take_succ' (by omega), List.count_append]
    by_cases e : M.getD k 0 = x
    · rw [if_pos e, e]; simp
    · rw [if_neg e]
      have : List.count x [M.getD k 0] = 0 := List.count_eq_zero.2 (by simpa using fun h => e h.symm)
      rw [this]; simp

theorem bal_can {rows : List (List Int)} {n : Nat} {d : Int} (hn : rows.length = n) (hrow : ∀ a, a < n → sumTo (fun o => en rows a o) n = d) (hcol : ∀ b, b < n → sumTo (fun a => en rows a b) n = d) (hnn : ∀ a o, a < n → o < n → 0 ≤ en rows a o) (hm : 0 < d) : CanM rows [] := by
  rcases can_or rows with h | ⟨M, i, T', hi, hTop, hL⟩
  · exact h
  exfalso
  have hfalse : ∀ o, (List.replicate rows.length false).getD o false = false := fun o => by
    simp only [List.getD, List.getElem?_replicate]; split <;> rfl
  rw [hn] at hi hL
  have hcl : ∀ o, o < n → T'.getD o false = true → 0 ≤ M.getD o 0 ∧ M.getD o 0 < n ∧ ∀ o', o' < n → Edge rows (M.getD o 0).toNat o' → T'.getD o' false = true := fun o ho h => by
    have h1 := hL.cl o (by omega) h (by rw [← hn, hfalse]; simp)
    have h2 := hTop.mat.ok o (by omega) h1.1
    rw [hn] at h2
    exact ⟨h1.1, h2.1, fun o' ho' he => h1.2 o' (by omega) he⟩
  have hB : ∀ o, (if T'.getD o false = true then (1 : Int) else 0) = 0 ∨ (if T'.getD o false = true then (1 : Int) else 0) = 1 := fun o => by split <;> simp
  generalize hBe : (fun o => if T'.getD o false = true then (1 : Int) else 0) = B
  generalize hHe : (fun a o => if T'.getD o false = true ∧ M.getD o 0 = ((a : Nat) : Int) then (1 : Int) else 0) = H
  have hHB : ∀ o, o < n → sumTo (fun a => H a o) n = B o := fun o ho => by
    rw [← hHe, ← hBe]
    dsimp only
    by_cases ht : T'.getD o false = true
    · obtain ⟨h1, h2, -⟩ := hcl o ho ht
      rw [if_pos ht]
      have : sumTo (fun a => if T'.getD o false = true ∧ M.getD o 0 = ((a : Nat) : Int) then (1 : Int) else 0) n = sumTo (fun a => if a = (M.getD o 0).toNat then 1 else 0) n := sumTo_congr n fun a ha => by
        by_cases e : a = (M.getD o 0).toNat
        · rw [if_pos e, if_pos ⟨ht, by omega⟩]
        · rw [if_neg e, if_neg (fun hh => e (by omega))]
      rw [this, sumTo_one (by omega)]
    · rw [if_neg ht]
      have : sumTo (fun a => if T'.getD o false = true ∧ M.getD o 0 = ((a : Nat) : Int) then (1 : Int) else 0) n = sumTo (fun _ => 0) n := sumTo_congr n fun a ha => if_neg fun hh => ht hh.1
      rw [this, sumTo_zero]
  have hHc : ∀ a, a < n → 0 ≤ sumTo (H a) n ∧ sumTo (H a) n ≤ (M.count ((a : Nat) : Int) : Nat) := fun a ha => by
    constructor
    · have := sumTo_le (f := fun _ => 0) (g := H a) n fun o ho => by rw [← hHe]; dsimp only; split <;> omega
      rw [sumTo_zero] at this; exact this
    · have h1 := count_sumTo M a n (by rw [hTop.mat.len]; omega)
      have h2 : M.take n = M := List.take_of_length_le (by rw [hTop.mat.len]; omega)
      rw [h2] at h1
      rw [← h1]
      refine sumTo_le n fun o ho => ?_
      rw [← hHe]
      dsimp only
      by_cases e : M.getD o 0 = ((a : Nat) : Int)
      · rw [if_pos e]; split <;> omega
      · rw [if_neg e, if_neg (fun hh => e hh.2)]; omega
  generalize hWe : (fun a => (if a = i then (1 : Int) else 0) + sumTo (H a) n) = W
  have hW : ∀ a, a < n → (W a = 0 ∨ W a = 1) ∧ (W a = 1 → ∀ o, o < n → Edge rows a o → T'.getD o false = true) := fun a ha => by
    have hc := hHc a ha
    have hcnt := hTop.cnt a
    have hWa : W a = (if a = i then (1 : Int) else 0) + sumTo (H a) n := by rw [← hWe]
    by_cases e : a = i
    · subst e
      rw [if_neg (by simp)] at hcnt
      rw [hcnt] at hc
      rw [if_pos rfl] at hWa
      exact ⟨.inr (by omega), fun _ o ho he => hL.nb o ho (by omega) he⟩
    · rw [if_neg e] at hWa
      have h1 : M.count ((a : Nat) : Int) ≤ 1 := by rw [hcnt]; split <;> omega
      refine ⟨by omega, fun h o ho he => ?_⟩
      obtain ⟨k, hk, hpos⟩ := sumTo_pos (f := H a) (n := n) (by omega)
      rw [← hHe] at hpos
      dsimp only at hpos
      split at hpos
      · rename_i hh
        have := (hcl k hk hh.1).2.2 o ho
        rw [hh.2, Int.toNat_natCast] at this
        exact this he
      · omega
  have hWs : sumTo W n = 1 + sumTo B n := by
    rw [← hWe, sumTo_add, sumTo_one hi]
    congr 1
    rw [sumTo_swap H n n]
    exact sumTo_congr n hHB
  have hX1 : sumTo (fun a => sumTo (fun o => W a * en rows a o) n) n = sumTo W n * d := by
    rw [← sumTo_mulr]
    exact sumTo_congr n fun a ha => by rw [sumTo_mul, hrow a ha]
  have hX2 : sumTo (fun a => sumTo (fun o => W a * en rows a o) n) n ≤ sumTo B n * d := by
    rw [sumTo_swap, ← sumTo_mulr]
    refine sumTo_le n fun o ho => ?_
    have hBo : B o = if T'.getD o false = true then (1 : Int) else 0 := by rw [← hBe]
    by_cases ht : T'.getD o false = true
    · rw [hBo, if_pos ht, Int.one_mul, ← hcol o ho]
      refine sumTo_le n fun a ha => ?_
      have := hnn a o ha ho
      rcases (hW a ha).1 with h | h <;> rw [h] <;> omega
    · rw [hBo, if_neg ht, Int.zero_mul]
      have : sumTo (fun a => W a * en rows a o) n = sumTo (fun _ => 0) n := sumTo_congr n fun a ha => by
        rcases (hW a ha).1 with h | h
        · rw [h, Int.zero_mul]
        · have hz : ¬ Edge rows a o := fun he => ht ((hW a ha).2 h o ho he)
          have := hnn a o ha ho
          unfold Edge at hz
          have e0 : en rows a o = 0 := by omega
          rw [e0, Int.mul_zero]
      rw [this, sumTo_zero]; exact Int.le_refl _
  rw [hX1, hWs, Int.add_mul, Int.one_mul] at hX2
  omega
theorem even_can {rows : List (List Int)} (hE : EvenT rows) (hm : 0 < most rows rows.length) : CanM rows [] := by
  have hT := hE.1
  refine bal_can (n := rows.length) (d := most rows rows.length) rfl (fun a ha => ?_) (fun b hb => ?_) (fun a o ha ho => (hT.at (i := a) (j := o) ha ho).1) hm
  · have := (hE.2 a ha).1
    rw [psum_sumTo] at this; exact this
  · have := (hE.2 b hb).2
    rw [csum_sumTo] at this; exact this
end Go.Proofs.Ytpcbgdgfdfpapaa
