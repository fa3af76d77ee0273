/- What joining costs: the rarest of a list. -/
import Derived.Test.YtnenopebfobajaaGaR
set_option linter.unusedSimpArgs false
set_option linter.unusedVariables false
namespace Go.Proofs.Ytnenopebfobajaa
open Go Go.Abs Go.RowKit
/-- the sum of a list -/
def sumI : List Int → Int
  | [] => 0
  | x :: xs => x + sumI xs
theorem sumI_app : ∀ xs ys, sumI (xs ++ ys) = sumI xs + sumI ys
  | [], ys => by simp [sumI]
  | x :: xs, ys => by rw [List.cons_append, sumI, sumI, sumI_app xs ys]; omega
theorem sumI_perm {xs ys : List Int} (h : xs.Perm ys) : sumI xs = sumI ys := by
  induction h with
  | nil => rfl
  | cons x _ ih => rw [sumI, sumI, ih]
  | swap x y l => simp only [sumI]; omega
  | trans _ _ h1 h2 => rw [h1, h2]
theorem sumI_nonneg : ∀ {xs : List Int}, (∀ x ∈ xs, 0 ≤ x) → 0 ≤ sumI xs
  | [], _ => Int.le_refl _
  | x :: xs, h => by
    have h1 := h x (by simp)
    have h2 := sumI_nonneg fun y hy => h y (List.mem_cons_of_mem _ hy)
    rw [sumI]; omega
theorem argm_min (gs : List Int) : ∀ k j, j ≤ k → gs.getD (argm gs k) 0 ≤ gs.getD j 0
  | 0, j, h => by have : j = 0 := by omega
                  subst this; exact Int.le_refl _
  | k + 1, j, h => by
    have ih := argm_min gs k
    unfold argm
    split
    · rename_i hlt
      by_cases e : j = k + 1
      · subst e; exact Int.le_refl _
      · have := ih j (by omega); omega
    · rename_i hlt
      by_cases e : j = k + 1
      · subst e; omega
      · exact ih j (by omega)
theorem low_le {gs : List Int} {x : Int} (h : x ∈ gs) : low gs ≤ x := by
  obtain ⟨j, hj, rfl⟩ := List.mem_iff_getElem.1 h
  have := argm_min gs (gs.length - 1) j (by omega)
  unfold low
  simpa [List.getD, hj] using this
theorem rmv_perm {gs : List Int} (h : 0 < gs.length) : gs.Perm (low gs :: rmv gs) := by
  have h1 := argm_le gs (gs.length - 1)
  have h2 : argm gs (gs.length - 1) < gs.length := by omega
  unfold low rmv
  generalize argm gs (gs.length - 1) = i at *
  have e : gs = gs.take i ++ gs.getD i 0 :: gs.drop (i + 1) := by
    have : gs.getD i 0 = gs[i] := by simp [List.getD, h2]
    rw [this, ← List.drop_eq_getElem_cons h2, List.take_append_drop]
  conv => lhs; rw [e]
  exact List.perm_middle
theorem tak_front (gs : List Int) : ∀ n, tak gs (n + 1) = ((tak (rmv gs) n).1, low gs + (tak (rmv gs) n).2)
  | 0 => by simp [tak]
  | n + 1 => by
    have ih := tak_front gs n
    have e : tak gs (n + 1 + 1) = (rmv (tak gs (n + 1)).1, (tak gs (n + 1)).2 + low (tak gs (n + 1)).1) := rfl
    rw [e, ih]
    show _ = ((rmv (tak (rmv gs) n).1), low gs + ((tak (rmv gs) n).2 + low (tak (rmv gs) n).1))
    rw [Int.add_assoc]
theorem tak_add (gs : List Int) (a : Nat) : ∀ b, tak gs (a + b) = ((tak (tak gs a).1 b).1, (tak gs a).2 + (tak (tak gs a).1 b).2)
  | 0 => by simp [tak]
  | b + 1 => by
    have ih := tak_add gs a b
    have e : tak gs (a + (b + 1)) = (rmv (tak gs (a + b)).1, (tak gs (a + b)).2 + low (tak gs (a + b)).1) := rfl
    rw [e, ih]
    show (_, _) = ((rmv (tak (tak gs a).1 b).1), (tak gs a).2 + ((tak (tak gs a).1 b).2 + low (tak (tak gs a).1 b).1))
    rw [Int.add_assoc]
theorem tak_len (gs : List Int) : ∀ n, n ≤ gs.length → (tak gs n).1.length = gs.length - n
  | 0, _ => rfl
  | n + 1, h => by
    have ih := tak_len gs n (by omega)
    show (rmv (tak gs n).1).length = _
    rw [rmv_len (by omega)]; omega
/-- the rarest k: they are k of the list -/
theorem tak_perm (gs : List Int) : ∀ n, n ≤ gs.length → ∃ us : List Int, us.length = n ∧ sumI us = (tak gs n).2 ∧ gs.Perm (us ++ (tak gs n).1)
  | 0, _ => ⟨[], rfl, rfl, List.Perm.refl _⟩
  | n + 1, h => by
    obtain ⟨us, h1, h2, h3⟩ := tak_perm gs n (by omega)
    have hl := tak_len gs n (by omega)
    have h4 := rmv_perm (gs := (tak gs n).1) (by omega)
    refine ⟨us ++ [low (tak gs n).1], by simp [h1], by rw [sumI_app, h2]; simp [sumI, tak], ?_⟩
    refine h3.trans ?_
    rw [List.append_assoc]
    exact h4.append_left us
/-- and no k of it have a smaller sum -/
theorem tak_least : ∀ (k : Nat) (gs us vs : List Int), gs.Perm (us ++ vs) → (∀ x ∈ gs, 0 ≤ x) → k ≤ us.length → (tak gs k).2 ≤ sumI us
  | 0, gs, us, vs, hp, h0, _ => sumI_nonneg fun x hx => h0 x (hp.mem_iff.2 (by simp [hx]))
  | k + 1, gs, us, vs, hp, h0, hk => by
    have hl : gs.length = us.length + vs.length := by rw [hp.length_eq, List.length_append]
    have hr := rmv_perm (gs := gs) (by omega)
    rw [tak_front]
    show low gs + (tak (rmv gs) k).2 ≤ _
    have h0' : ∀ x ∈ rmv gs, 0 ≤ x := fun x hx => h0 x (hr.mem_iff.2 (by simp [hx]))
    have hm : low gs ∈ us ++ vs := hp.mem_iff.1 (hr.mem_iff.2 (by simp))
    by_cases hu : low gs ∈ us
    · have e := List.perm_cons_erase hu
      have h1 : (low gs :: rmv gs).Perm (low gs :: (us.erase (low gs) ++ vs)) := hr.symm.trans (hp.trans (e.append_right vs))
      have ih := tak_least k (rmv gs) (us.erase (low gs)) vs h1.cons_inv h0' (by rw [List.length_erase_of_mem hu]; omega)
      rw [sumI_perm e, sumI]; omega
    · have hv : low gs ∈ vs := (List.mem_append.1 hm).resolve_left hu
      cases us with
      | nil => simp at hk
      | cons u us =>
        have e := List.perm_cons_erase hv
        have hle : low gs ≤ u := low_le (hp.mem_iff.2 (by simp))
        have h1 : (low gs :: rmv gs).Perm (low gs :: (us ++ (u :: vs.erase (low gs)))) := by
          refine hr.symm.trans (hp.trans ?_)
          refine ((e.append_left (u :: us))).trans ?_
          refine List.perm_middle.trans (List.Perm.cons _ ?_)
          rw [List.cons_append]
          exact List.perm_middle.symm
        have ih := tak_least k (rmv gs) us (u :: vs.erase (low gs)) h1.cons_inv h0' (by simpa using hk)
        rw [sumI]; omega
theorem tak_all {gs : List Int} : (tak gs gs.length).2 = sumI gs := by
  obtain ⟨us, h1, h2, h3⟩ := tak_perm gs gs.length (Nat.le_refl _)
  have hl := tak_len gs gs.length (Nat.le_refl _)
  rw [Nat.sub_self] at hl
  rw [List.eq_nil_of_length_eq_zero hl, List.append_nil] at h3
  rw [sumI_perm h3, h2]
theorem tak_sum {gs : List Int} {k : Nat} (h : k ≤ gs.length) : sumI (tak gs k).1 + (tak gs k).2 = sumI gs := by
  obtain ⟨us, h1, h2, h3⟩ := tak_perm gs k h
  rw [sumI_perm h3, sumI_app, h2]; omega
theorem joinG_sum {gs : List Int} (h : 4 ≤ gs.length) : sumI (joinG gs) = sumI gs := by
  rw [joinG, sumI_app]; simp only [sumI]; have := tak_sum h; omega
/-- pointwise no more -/
def Dom : List Int → List Int → Prop
  | [], [] => True
  | x :: xs, y :: ys => x ≤ y ∧ Dom xs ys
  | _, _ => False
theorem Dom.len : ∀ {xs ys : List Int}, Dom xs ys → xs.length = ys.length
  | [], [], _ => rfl
  | x :: xs, y :: ys, h => by rw [List.length_cons, List.length_cons, Dom.len h.2]
  | [], _ :: _, h => h.elim
  | _ :: _, [], h => h.elim
theorem Dom.sum : ∀ {xs ys : List Int}, Dom xs ys → sumI xs ≤ sumI ys
  | [], [], _ => Int.le_refl _
  | x :: xs, y :: ys, h => by have := Dom.sum h.2; have := h.1; rw [sumI, sumI]; omega
  | [], _ :: _, h => h.elim
  | _ :: _, [], h => h.elim
theorem Dom.refl : ∀ xs, Dom xs xs
  | [] => trivial
  | x :: xs => ⟨Int.le_refl _, Dom.refl xs⟩
theorem Dom.perm {ys zs : List Int} (hp : ys.Perm zs) : ∀ {xs}, Dom xs ys → ∃ ws, xs.Perm ws ∧ Dom ws zs := by
  induction hp with
  | nil => intro xs h; exact ⟨xs, List.Perm.refl _, h⟩
  | cons y _ ih =>
    intro xs h
    cases xs with
    | nil => exact h.elim
    | cons x xs =>
      obtain ⟨ws, h1, h2⟩ := ih h.2
      exact ⟨x :: ws, h1.cons _, h.1, h2⟩
  | swap a b l =>
    intro xs h
    cases xs with
    | nil => exact h.elim
    | cons x xs =>
      cases xs with
      | nil => exact h.2.elim
      | cons x2 xs => exact ⟨x2 :: x :: xs, List.Perm.swap _ _ _, h.2.1, h.1, h.2.2⟩
  | trans _ _ h1 h2 =>
    intro xs h
    obtain ⟨ws, a, b⟩ := h1 h
    obtain ⟨vs, c, d⟩ := h2 b
    exact ⟨vs, a.trans c, d⟩
theorem Dom.split : ∀ {us vs ws : List Int}, Dom ws (us ++ vs) → ∃ a b, ws = a ++ b ∧ Dom a us ∧ Dom b vs
  | [], vs, ws, h => ⟨[], ws, rfl, trivial, h⟩
  | u :: us, vs, [], h => h.elim
  | u :: us, vs, w :: ws, h => by
    obtain ⟨a, b, e, h1, h2⟩ := Dom.split (us := us) (vs := vs) h.2
    exact ⟨w :: a, b, by rw [e]; rfl, ⟨h.1, h1⟩, h2⟩
theorem tak_mono {gs hs : List Int} (h : Dom gs hs) (h0 : ∀ x ∈ gs, 0 ≤ x) {k : Nat} (hk : k ≤ gs.length) : (tak gs k).2 ≤ (tak hs k).2 := by
  obtain ⟨us, h1, h2, h3⟩ := tak_perm hs k (by rw [← h.len]; exact hk)
  obtain ⟨ws, h4, h5⟩ := Dom.perm h3 h
  obtain ⟨a, b, rfl, h6, h7⟩ := h5.split
  have := tak_least k gs a b h4 h0 (by rw [h6.len, h1]; exact Nat.le_refl _)
  have := h6.sum
  omega
/-- what joining costs, by sums of the rarest -/
theorem least4 {gs : List Int} (h : gs.length = 4) : leastG 4 gs = sumI gs := by
  have hj : (joinG gs).length = 1 := by rw [joinG, List.length_append, tak_len gs 4 (by omega)]; simp [h]
  rw [leastG, if_pos (by omega), leastG, if_neg (by omega), ← h, tak_all]; omega
theorem least7 {gs : List Int} (h : gs.length = 7) : leastG 4 gs = sumI gs + (tak gs 4).2 := by
  have hj : (joinG gs).length = 4 := by rw [joinG, List.length_append, tak_len gs 4 (by omega)]; simp [h]
  have hj2 : (joinG (joinG gs)).length = 1 := by rw [joinG, List.length_append, tak_len _ 4 (by omega)]; simp [hj]
  rw [leastG, if_pos (by omega), leastG, if_pos (by omega), leastG, if_neg (by omega)]
  have e : (tak (joinG gs) 4).2 = sumI (joinG gs) := by have := tak_all (gs := joinG gs); rwa [hj] at this
  rw [e, joinG_sum (by omega)]; omega
theorem least10 {gs : List Int} (h : gs.length = 10) (h0 : ∀ x ∈ gs, 0 ≤ x) : leastG 4 gs = sumI gs + min (tak gs 8).2 ((tak gs 7).2 + (tak gs 4).2) := by
  have hr : (tak gs 4).1.length = 6 := by rw [tak_len gs 4 (by omega)]; omega
  have hj : (joinG gs).length = 7 := by rw [joinG, List.length_append, hr]; rfl
  have hj2 : (joinG (joinG gs)).length = 4 := by rw [joinG, List.length_append, tak_len _ 4 (by omega)]; simp [hj]
  have hj3 : (joinG (joinG (joinG gs))).length = 1 := by rw [joinG, List.length_append, tak_len _ 4 (by omega)]; simp [hj2]
  rw [leastG, if_pos (by omega), leastG, if_pos (by omega), leastG, if_pos (by omega), leastG, if_neg (by omega)]
  have e : (tak (joinG (joinG gs)) 4).2 = sumI (joinG (joinG gs)) := by have := tak_all (gs := joinG (joinG gs)); rwa [hj2] at this
  rw [e, joinG_sum (by omega), joinG_sum (by omega)]
  obtain ⟨us, u1, u2, u3⟩ := tak_perm gs 4 (by omega)
  have hrest0 : ∀ x ∈ (tak gs 4).1, 0 ≤ x := fun x hx => h0 x (u3.mem_iff.2 (by simp [hx]))
  have hB0 : 0 ≤ (tak gs 4).2 := by rw [← u2]; exact sumI_nonneg fun x hx => h0 x (u3.mem_iff.2 (by simp [hx]))
  have e8 : (tak gs 8).2 = (tak gs 4).2 + (tak (tak gs 4).1 4).2 := by have := tak_add gs 4 4; rw [this]
  have e7 : (tak gs 7).2 = (tak gs 4).2 + (tak (tak gs 4).1 3).2 := by have := tak_add gs 4 3; rw [this]
  have hj0 : ∀ x ∈ joinG gs, 0 ≤ x := fun x hx => by
    rcases List.mem_append.1 hx with hx | hx
    · exact hrest0 x hx
    · rw [List.mem_singleton] at hx; subst hx; exact hB0
  -- two ways to choose four groups of the joined ones
  have w1 : (tak (joinG gs) 4).2 ≤ (tak (tak gs 4).1 4).2 := by
    obtain ⟨a, a1, a2, a3⟩ := tak_perm (tak gs 4).1 4 (by omega)
    rw [← a2]
    refine tak_least 4 (joinG gs) a ((tak (tak gs 4).1 4).1 ++ [(tak gs 4).2]) ?_ hj0 (by omega)
    rw [← List.append_assoc]
    exact a3.append_right _
  have w2 : (tak (joinG gs) 4).2 ≤ (tak gs 4).2 + (tak (tak gs 4).1 3).2 := by
    obtain ⟨a, a1, a2, a3⟩ := tak_perm (tak gs 4).1 3 (by omega)
    rw [← a2]
    have := tak_least 4 (joinG gs) ((tak gs 4).2 :: a) (tak (tak gs 4).1 3).1 ?_ hj0 (by simp [a1])
    · simpa [sumI] using this
    · unfold joinG
      refine List.perm_append_comm.trans ?_
      exact List.Perm.cons _ a3
  have w3 : (tak (tak gs 4).1 4).2 ≤ (tak (joinG gs) 4).2 ∨ (tak gs 4).2 + (tak (tak gs 4).1 3).2 ≤ (tak (joinG gs) 4).2 := by
    obtain ⟨a, a1, a2, a3⟩ := tak_perm (joinG gs) 4 (by omega)
    have a4 : ((tak gs 4).2 :: (tak gs 4).1).Perm (a ++ (tak (joinG gs) 4).1) := by
      refine List.Perm.trans ?_ a3
      unfold joinG
      exact List.perm_append_comm (l₁ := [_])
    have hm : (tak gs 4).2 ∈ a ++ (tak (joinG gs) 4).1 := a4.mem_iff.1 (by simp)
    rw [← a2]
    by_cases ha : (tak gs 4).2 ∈ a
    · right
      have e1 := List.perm_cons_erase ha
      have h1 := (a4.trans (e1.append_right _)).cons_inv
      have := tak_least 3 _ _ _ h1 hrest0 (by rw [List.length_erase_of_mem ha]; omega)
      rw [sumI_perm e1, sumI]; omega
    · left
      have hb := (List.mem_append.1 hm).resolve_left ha
      have e1 := List.perm_cons_erase hb
      have h1 := (a4.trans ((e1.append_left a).trans List.perm_middle)).cons_inv
      exact tak_least 4 _ _ _ h1 hrest0 (by omega)
  rw [e8, e7]
  omega
end Go.Proofs.Ytnenopebfobajaa

namespace Go.Proofs.Ytnenopebfobajaa
open Go Go.Abs Go.RowKit
theorem padG_eq {xs : List Int} (h2 : 2 ≤ xs.length) (h10 : xs.length ≤ 10) : ∃ p, p ≤ 2 ∧ padG 2 xs = xs ++ List.replicate p 0 ∧ (xs.length + p = 4 ∨ xs.length + p = 7 ∨ xs.length + p = 10) := by
  unfold padG
  split
  · rename_i a
    unfold padG
    split
    · rename_i b
      rw [List.length_append, List.length_singleton] at b
      refine ⟨2, by omega, by unfold padG; simp, by omega⟩
    · rename_i b
      rw [List.length_append, List.length_singleton] at b
      exact ⟨1, by omega, rfl, by omega⟩
  · exact ⟨0, by omega, by simp, by omega⟩
theorem sumI_zeros (p : Nat) : sumI (List.replicate p 0) = 0 := by
  induction p with
  | zero => rfl
  | succ p ih => rw [List.replicate_succ, sumI, ih]; rfl
theorem of_nonneg {xs : List Int} (h : ∀ k, k < xs.length → 0 ≤ xs.getD k 0) : ∀ x ∈ xs, 0 ≤ x := fun x hx => by
  obtain ⟨j, hj, rfl⟩ := List.mem_iff_getElem.1 hx
  have := h j hj
  simpa [List.getD, hj] using this
theorem pad_nonneg {xs : List Int} {p : Nat} (h : ∀ x ∈ xs, 0 ≤ x) : ∀ x ∈ xs ++ List.replicate p 0, 0 ≤ x := fun x hx => by
  rcases List.mem_append.1 hx with hx | hx
  · exact h x hx
  · rw [(List.mem_replicate.1 hx).2]; exact Int.le_refl _
theorem Dom.app : ∀ {a b c d : List Int}, Dom a b → Dom c d → Dom (a ++ c) (b ++ d)
  | [], [], _, _, _, h => h
  | _ :: _, _ :: _, _, _, h1, h2 => ⟨h1.1, Dom.app h1.2 h2⟩
  | [], _ :: _, _, _, h, _ => h.elim
  | _ :: _, [], _, _, h, _ => h.elim
/-- what is dialled more costs more, by as much at least -/
theorem least_dom {xs ys : List Int} (h : Dom xs ys) (h0 : ∀ x ∈ xs, 0 ≤ x) (h0' : ∀ y ∈ ys, 0 ≤ y) (h2 : 2 ≤ xs.length) (h10 : xs.length ≤ 10) : leastG 4 (padG 2 xs) + (sumI ys - sumI xs) ≤ leastG 4 (padG 2 ys) := by
  have hl := h.len
  obtain ⟨p, hp, e1, e2⟩ := padG_eq h2 h10
  obtain ⟨p', hp', e1', e2'⟩ := padG_eq (xs := ys) (by omega) (by omega)
  obtain rfl : p' = p := by omega
  rw [e1, e1']
  have hD := h.app (Dom.refl (List.replicate p' 0))
  have hx := pad_nonneg (p := p') h0
  have hy := pad_nonneg (p := p') h0'
  have s1 : sumI (xs ++ List.replicate p' 0) = sumI xs := by rw [sumI_app, sumI_zeros]; omega
  have s2 : sumI (ys ++ List.replicate p' 0) = sumI ys := by rw [sumI_app, sumI_zeros]; omega
  have l1 : (xs ++ List.replicate p' 0).length = xs.length + p' := by simp
  have l2 : (ys ++ List.replicate p' 0).length = xs.length + p' := by simp [hl]
  have hm := fun k (hk : k ≤ xs.length + p') => tak_mono hD hx (k := k) (by omega)
  rcases e2 with e | e | e
  · rw [least4 (by omega), least4 (by omega)]; omega
  · rw [least7 (by omega), least7 (by omega)]
    have := hm 4 (by omega); omega
  · rw [least10 (by omega) hx, least10 (by omega) hy]
    have := hm 4 (by omega); have := hm 7 (by omega); have := hm 8 (by omega); omega
/-- it costs at least the sum of all, and just that for at most four -/
theorem least_sum {xs : List Int} (h0 : ∀ x ∈ xs, 0 ≤ x) (h2 : 2 ≤ xs.length) (h10 : xs.length ≤ 10) : sumI xs ≤ leastG 4 (padG 2 xs) ∧ (xs.length ≤ 4 → leastG 4 (padG 2 xs) = sumI xs) := by
  obtain ⟨p, hp, e1, e2⟩ := padG_eq h2 h10
  rw [e1]
  have hx := pad_nonneg (p := p) h0
  have s1 : sumI (xs ++ List.replicate p 0) = sumI xs := by rw [sumI_app, sumI_zeros]; omega
  have l1 : (xs ++ List.replicate p 0).length = xs.length + p := by simp
  have hn : ∀ k, k ≤ xs.length + p → 0 ≤ (tak (xs ++ List.replicate p 0) k).2 := fun k hk => by
    obtain ⟨us, u1, u2, u3⟩ := tak_perm (xs ++ List.replicate p 0) k (by omega)
    rw [← u2]; exact sumI_nonneg fun x hx' => hx x (u3.mem_iff.2 (by simp [hx']))
  rcases e2 with e | e | e
  · rw [least4 (by omega)]; exact ⟨by omega, fun _ => by omega⟩
  · rw [least7 (by omega)]
    have := hn 4 (by omega); exact ⟨by omega, fun _ => by omega⟩
  · rw [least10 (by omega) hx]
    have := hn 4 (by omega); have := hn 7 (by omega); have := hn 8 (by omega); exact ⟨by omega, fun _ => by omega⟩
/-- how often those are dialled whose numbers have so many digits at least; and the others -/
def atL (t : Int) : List Int → List Int → List Int
  | f :: fs, l :: ls => if t ≤ l then f :: atL t fs ls else atL t fs ls
  | _, _ => []
def ltL (t : Int) : List Int → List Int → List Int
  | f :: fs, l :: ls => if t ≤ l then ltL t fs ls else f :: ltL t fs ls
  | _, _ => []
theorem atL_perm (t : Int) : ∀ {fs ls : List Int}, ls.length = fs.length → fs.Perm (atL t fs ls ++ ltL t fs ls)
  | [], [], _ => List.Perm.refl _
  | f :: fs, l :: ls, h => by
    have ih := atL_perm t (fs := fs) (ls := ls) (by simpa using h)
    unfold atL ltL
    split
    · exact ih.cons _
    · exact (ih.cons f).trans List.perm_middle.symm
  | [], _ :: _, h => by simp at h
  | _ :: _, [], h => by simp at h
def cst : List Int → List Int → Int
  | f :: fs, l :: ls => f * l + cst fs ls
  | _, _ => 0
def shr : List Int → Int
  | [] => 0
  | l :: ls => 4 ^ (3 - l).toNat + shr ls
theorem cst_split : ∀ {fs ls : List Int}, ls.length = fs.length → (∀ l ∈ ls, 1 ≤ l ∧ l ≤ 3) → cst fs ls = sumI fs + sumI (atL 2 fs ls) + sumI (atL 3 fs ls)
  | [], [], _, _ => rfl
  | f :: fs, l :: ls, h, hl => by
    have ih := cst_split (fs := fs) (ls := ls) (by simpa using h) fun x hx => hl x (List.mem_cons_of_mem _ hx)
    have h1 := hl l (by simp)
    unfold cst atL
    rw [ih, sumI]
    have : l = 1 ∨ l = 2 ∨ l = 3 := by omega
    rcases this with rfl | rfl | rfl
    · rw [if_neg (by omega), if_neg (by omega)]; omega
    · rw [if_pos (by omega), if_neg (by omega), sumI]; omega
    · rw [if_pos (by omega), if_pos (by omega), sumI, sumI]; omega
  | [], _ :: _, h, _ => by simp at h
  | _ :: _, [], h, _ => by simp at h
theorem shr_split : ∀ {fs ls : List Int}, ls.length = fs.length → (∀ l ∈ ls, 1 ≤ l ∧ l ≤ 3) → shr ls = 16 * fs.length - 12 * (atL 2 fs ls).length - 3 * (atL 3 fs ls).length ∧ (atL 3 fs ls).length ≤ (atL 2 fs ls).length ∧ (atL 2 fs ls).length ≤ fs.length
  | [], [], _, _ => by simp [shr, atL]
  | f :: fs, l :: ls, h, hl => by
    obtain ⟨ih, i2, i3⟩ := shr_split (fs := fs) (ls := ls) (by simpa using h) fun x hx => hl x (List.mem_cons_of_mem _ hx)
    have h1 := hl l (by simp)
    unfold shr atL
    rw [ih]
    have : l = 1 ∨ l = 2 ∨ l = 3 := by omega
    rcases this with rfl | rfl | rfl
    · rw [if_neg (by omega), if_neg (by omega)]
      have : (4 : Int) ^ ((3 : Int) - 1).toNat = 16 := rfl
      simp only [List.length_cons]; omega
    · rw [if_pos (by omega), if_neg (by omega)]
      have : (4 : Int) ^ ((3 : Int) - 2).toNat = 4 := rfl
      simp only [List.length_cons]; omega
    · rw [if_pos (by omega), if_pos (by omega)]
      have : (4 : Int) ^ ((3 : Int) - 3).toNat = 1 := rfl
      simp only [List.length_cons]; omega
  | [], _ :: _, h, _ => by simp at h
  | _ :: _, [], h, _ => by simp at h
/-- no lengths with shares that are not too great cost less -/
theorem least_le {fs ls : List Int} (h0 : ∀ x ∈ fs, 0 ≤ x) (h2 : 2 ≤ fs.length) (h10 : fs.length ≤ 10) (hl : ls.length = fs.length) (h13 : ∀ l ∈ ls, 1 ≤ l ∧ l ≤ 3) (hs : shr ls ≤ 64) : leastG 4 (padG 2 fs) ≤ cst fs ls := by
  obtain ⟨p, hp, e1, e2⟩ := padG_eq h2 h10
  rw [e1, cst_split hl h13]
  obtain ⟨c1, c2, c3⟩ := shr_split hl h13
  have hx := pad_nonneg (p := p) h0
  have s1 : sumI (fs ++ List.replicate p 0) = sumI fs := by rw [sumI_app, sumI_zeros]; omega
  have l1 : (fs ++ List.replicate p 0).length = fs.length + p := by simp
  have sub : ∀ (t : Int) (k : Nat), k ≤ (atL t fs ls).length + p → (tak (fs ++ List.replicate p 0) k).2 ≤ sumI (atL t fs ls) := fun t k hk => by
    have := tak_least k (fs ++ List.replicate p 0) (atL t fs ls ++ List.replicate p 0) (ltL t fs ls) ?_ hx (by simpa using hk)
    · rw [sumI_app, sumI_zeros] at this; omega
    · refine ((atL_perm t hl).append_right _).trans ?_
      rw [List.append_assoc, List.append_assoc]
      exact List.perm_append_comm.append_left _
  have n2 : 0 ≤ sumI (atL 2 fs ls) := sumI_nonneg fun x hx' => h0 x ((atL_perm 2 hl).mem_iff.2 (by simp [hx']))
  have n3 : 0 ≤ sumI (atL 3 fs ls) := sumI_nonneg fun x hx' => h0 x ((atL_perm 3 hl).mem_iff.2 (by simp [hx']))
  rcases e2 with e | e | e
  · rw [least4 (by omega)]; omega
  · rw [least7 (by omega)]
    have := sub 2 4 (by omega); omega
  · rw [least10 (by omega) hx]
    by_cases h8 : 8 ≤ (atL 2 fs ls).length + p
    · have := sub 2 8 h8; omega
    · have := sub 2 7 (by omega); have := sub 3 4 (by omega); omega
/-- the sums by places -/
theorem coS_cst : ∀ (fs ls : List Int), ls.length = fs.length → ∀ k, k ≤ fs.length → coS fs ls k = cst (fs.take k) (ls.take k)
  | fs, ls, h, 0, _ => by simp [coS, cst]
  | fs, ls, h, k + 1, hk => by
    rw [coS, coS_cst fs ls h k (by omega), List.take_succ_eq_append_getElem (by omega), List.take_succ_eq_append_getElem (l := ls) (by omega)]
    have app : ∀ (a b : List Int) (x y : Int), b.length = a.length → cst (a ++ [x]) (b ++ [y]) = cst a b + x * y := by
      intro a
      induction a with
      | nil => intro b x y hb; cases b with
        | nil => simp [cst]
        | cons _ _ => simp at hb
      | cons c a ih => intro b x y hb; cases b with
        | nil => simp at hb
        | cons d b => simp only [List.cons_append, cst]; rw [ih b x y (by simpa using hb)]; omega
    rw [app _ _ _ _ (by simp [h])]
    have h1 : k < fs.length := by omega
    have h2 : k < ls.length := by omega
    simp [List.getD, h1, h2]
theorem shS_shr : ∀ (ls : List Int) (k : Nat), k ≤ ls.length → shS ls k = shr (ls.take k)
  | ls, 0, _ => by simp [shS, shr]
  | ls, k + 1, hk => by
    rw [shS, shS_shr ls k (by omega), List.take_succ_eq_append_getElem (by omega)]
    have app : ∀ (a : List Int) (x : Int), shr (a ++ [x]) = shr a + 4 ^ (3 - x).toNat := by
      intro a
      induction a with
      | nil => intro x; simp [shr]
      | cons c a ih => intro x; simp only [List.cons_append, shr]; rw [ih]; omega
    rw [app]
    have h1 : k < ls.length := by omega
    simp [List.getD, h1, pw]
theorem mem_of_getD {p : Int → Prop} {xs : List Int} (h : ∀ k, k < xs.length → p (xs.getD k 0)) : ∀ x ∈ xs, p x := fun x hx => by
  obtain ⟨j, hj, rfl⟩ := List.mem_iff_getElem.1 hx
  have := h j hj
  simpa [List.getD, hj] using this
/-- lengths that have a plan cost no less than joining tells -/
theorem cost_least {fs ls : List Int} (h : CoOk fs ls) (hs : shS ls ls.length ≤ 64) : leastG 4 (padG 2 fs) ≤ coS fs ls fs.length := by
  rw [coS_cst fs ls h.2.2 _ (Nat.le_refl _), List.take_length, ← h.2.2, List.take_length]
  rw [shS_shr ls _ (Nat.le_refl _), List.take_length] at hs
  exact least_le (of_nonneg fun k hk => (h.1.1 k hk).1) h.1.2.1 h.1.2.2 h.2.2 (mem_of_getD h.2.1.1) hs
end Go.Proofs.Ytnenopebfobajaa

namespace Go.Proofs.Ytnenopebfobajaa
open Go Go.Abs Go.RowKit
theorem Beg.refl (s : List UInt8) : Beg s s := ⟨Nat.le_refl _, List.take_length⟩
theorem Beg.trans {s t u : List UInt8} (h : Beg s t) (h2 : Beg t u) : Beg s u := by
  refine ⟨Nat.le_trans h2.1 h.1, ?_⟩
  have e := h2.2
  rw [← h.2, List.take_take, Nat.min_eq_left h2.1] at e
  exact e
/-- of two beginnings of a text the shorter one is one of the longer one -/
theorem Beg.both {s t u : List UInt8} (h : Beg s t) (h2 : Beg s u) (hl : u.length ≤ t.length) : Beg t u := by
  refine ⟨hl, ?_⟩
  rw [← h.2, List.take_take, Nat.min_eq_left hl]
  exact h2.2
theorem Beg.eq {s t u : List UInt8} (h : Beg s t) (h2 : Beg s u) (hl : u.length = t.length) : t = u := by
  rw [← h.2, ← h2.2, hl]
theorem Beg.append (s t : List UInt8) : Beg (s ++ t) s := ⟨by simp, by simp⟩
theorem Beg.app {s u : List UInt8} (h : Beg s u) (t : List UInt8) : Beg (s ++ t) u := (Beg.append s t).trans h
theorem beg_app {s u t : List UInt8} (hl : u.length ≤ s.length) : Beg (s ++ t) u ↔ Beg s u := ⟨fun h => (Beg.append s t).both h hl, fun h => h.app t⟩
theorem DgT.app {a b : List UInt8} (ha : DgT a) (hb : DgT b) : DgT (a ++ b) := fun x hx => (List.mem_append.1 hx).elim (ha x) (hb x)
theorem DgT.take {a : List UInt8} (h : DgT a) (n : Nat) : DgT (a.take n) := fun x hx => h x (List.mem_of_mem_take hx)
theorem DgT.beg {s t : List UInt8} (h : DgT s) (hb : Beg s t) : DgT t := by rw [← hb.2]; exact h.take _
theorem txV_dg : ∀ (n v : Nat), DgT (txV v n)
  | 0, _ => fun x hx => by simp [txV] at hx
  | n + 1, v => (txV_dg n (v / 4)).app fun x hx => by
    rw [List.mem_singleton] at hx
    subst hx
    have : v % 4 < 4 := Nat.mod_lt _ (by omega)
    have e : (UInt8.ofNat (48 + v % 4)).toNat = 48 + v % 4 := by rw [UInt8.toNat_ofNat']; omega
    rw [e]; omega
theorem txV_take : ∀ (n m v : Nat), m ≤ n → (txV v n).take m = txV (v / 4 ^ (n - m)) m
  | 0, m, v, h => by obtain rfl : m = 0 := by omega
                     simp [txV]
  | n + 1, m, v, h => by
    by_cases e : m = n + 1
    · subst e
      rw [Nat.sub_self, Nat.pow_zero, Nat.div_one, List.take_of_length_le (by rw [txV_len]; exact Nat.le_refl _)]
    · rw [txV, List.take_append_of_le_length (by rw [txV_len]; omega), txV_take n m _ (by omega), Nat.div_div_eq_div_mul, show n + 1 - m = (n - m) + 1 by omega, Nat.pow_succ, Nat.mul_comm]
theorem txV_inj : ∀ (n v w : Nat), v < 4 ^ n → w < 4 ^ n → txV v n = txV w n → v = w
  | 0, v, w, hv, hw, _ => by simp at hv hw; omega
  | n + 1, v, w, hv, hw, h => by
    rw [Nat.pow_succ] at hv hw
    simp only [txV] at h
    obtain ⟨h1, h2⟩ := List.append_inj' h rfl
    have ih := txV_inj n (v / 4) (w / 4) (by omega) (by omega) h1
    have h3 : UInt8.ofNat (48 + v % 4) = UInt8.ofNat (48 + w % 4) := by simpa using h2
    have h4 := congrArg UInt8.toNat h3
    rw [UInt8.toNat_ofNat', UInt8.toNat_ofNat'] at h4
    omega
/-- texts of digits are those of numbers -/
theorem dg_tx : ∀ (n : Nat) (t : List UInt8), t.length = n → DgT t → ∃ v, v < 4 ^ n ∧ t = txV v n
  | 0, t, h, _ => ⟨0, by simp, by rw [List.eq_nil_of_length_eq_zero h]; rfl⟩
  | n + 1, t, h, hd => by
    have hne : t ≠ [] := fun e => by rw [e] at h; simp at h
    have e := (List.dropLast_concat_getLast hne).symm
    obtain ⟨v, hv, ev⟩ := dg_tx n t.dropLast (by simp [h]) fun x hx => hd x (List.dropLast_subset t hx)
    have hb := hd (t.getLast hne) (List.getLast_mem hne)
    refine ⟨4 * v + ((t.getLast hne).toNat - 48), by rw [Nat.pow_succ]; omega, ?_⟩
    rw [txV, show (4 * v + ((t.getLast hne).toNat - 48)) / 4 = v by omega, show 48 + (4 * v + ((t.getLast hne).toNat - 48)) % 4 = (t.getLast hne).toNat by omega, ← ev, UInt8.ofNat_toNat]
    exact e
theorem beg_tx {n m v w : Nat} (hm : m ≤ n) (hw : w < 4 ^ n) (hv : v < 4 ^ m) : Beg (txV w n) (txV v m) ↔ w / 4 ^ (n - m) = v := by
  unfold Beg
  rw [txV_len, txV_len, txV_take n m w hm]
  have hlt : w / 4 ^ (n - m) < 4 ^ m := by
    apply Nat.div_lt_of_lt_mul
    rw [← Nat.pow_add, Nat.sub_add_cancel hm]; exact hw
  exact ⟨fun h => txV_inj m _ _ hlt hv h.2, fun h => ⟨hm, by rw [h]⟩⟩
/-- how many -/
def cnt (p : Nat → Bool) : Nat → Nat
  | 0 => 0
  | n + 1 => cnt p n + (p n).toNat
theorem cnt_le (p : Nat → Bool) : ∀ n, cnt p n ≤ n
  | 0 => Nat.le_refl _
  | n + 1 => by have := cnt_le p n; have : (p n).toNat ≤ 1 := by cases p n <;> simp
                unfold cnt; omega
theorem cnt_or {p q : Nat → Bool} : ∀ n, (∀ i, i < n → p i = true → q i = false) → cnt (fun i => p i || q i) n = cnt p n + cnt q n
  | 0, _ => rfl
  | n + 1, h => by
    have ih := cnt_or (p := p) (q := q) n fun i hi => h i (by omega)
    have hn := h n (by omega)
    unfold cnt
    rw [ih]
    cases e : p n with
    | true => rw [hn e]; simp; omega
    | false => simp; omega
theorem cnt_congr {p q : Nat → Bool} : ∀ n, (∀ i, i < n → p i = q i) → cnt p n = cnt q n
  | 0, _ => rfl
  | n + 1, h => by unfold cnt; rw [cnt_congr n fun i hi => h i (by omega), h n (by omega)]
/-- how many numbers of three digits begin with one of m digits -/
theorem cnt_share {m v : Nat} (h1 : 1 ≤ m) (h3 : m ≤ 3) (hv : v < 4 ^ m) : cnt (fun n => decide (n / 4 ^ (3 - m) = v)) 64 = 4 ^ (3 - m) := by
  have e1 : ∀ v, v < 4 → cnt (fun n => decide (n / 16 = v)) 64 = 16 := by decide
  have e2 : ∀ v, v < 16 → cnt (fun n => decide (n / 4 = v)) 64 = 4 := by decide
  have e3 : ∀ v, v < 64 → cnt (fun n => decide (n / 1 = v)) 64 = 1 := by decide
  have : m = 1 ∨ m = 2 ∨ m = 3 := by omega
  rcases this with rfl | rfl | rfl
  · exact e1 v hv
  · exact e2 v hv
  · exact e3 v hv
/-- shares of texts of which none begins with another one -/
theorem kraft : ∀ (ps : List (List UInt8)), (∀ k, k < ps.length → DgT (ps.getD k []) ∧ 1 ≤ (ps.getD k []).length ∧ (ps.getD k []).length ≤ 3) → (∀ k j, k < ps.length → j < ps.length → j ≠ k → ¬ Beg (ps.getD k []) (ps.getD j [])) →
    ∃ q : Nat → Bool, shr (ps.map fun p => (p.length : Int)) = cnt q 64 ∧ ∀ n, n < 64 → (q n = true ↔ ∃ k, k < ps.length ∧ Beg (txV n 3) (ps.getD k []))
  | [], _, _ => ⟨fun _ => false, by simp [shr]; decide, fun n _ => by simp⟩
  | p :: ps, h, hp => by
    obtain ⟨q, q1, q2⟩ := kraft ps (fun k hk => by have := h (k + 1) (by simpa using hk); simpa using this) fun k j hk hj hne => by
      have := hp (k + 1) (j + 1) (by simpa using hk) (by simpa using hj) (by omega); simpa using this
    obtain ⟨d, l1, l3⟩ := h 0 (by simp)
    rw [List.getD_cons_zero] at d l1 l3
    obtain ⟨v, hv, e⟩ := dg_tx _ p rfl d
    have hb : ∀ n, n < 64 → (Beg (txV n 3) p ↔ n / 4 ^ (3 - p.length) = v) := fun n hn => by
      conv => lhs; rw [e]
      exact beg_tx l3 (by simpa using hn) hv
    refine ⟨fun n => decide (n / 4 ^ (3 - p.length) = v) || q n, ?_, fun n hn => ?_⟩
    · rw [cnt_or, cnt_share l1 l3 hv, List.map_cons, shr, q1]
      · have : (3 - (p.length : Int)).toNat = 3 - p.length := by omega
        rw [this]; simp
      · intro i hi hd
        cases eq : q i with
        | false => rfl
        | true =>
          obtain ⟨k, hk, hbk⟩ := (q2 i hi).1 eq
          have hb0 := (hb i hi).2 (of_decide_eq_true hd)
          rcases Nat.le_total (ps.getD k []).length p.length with hle | hle
          · exact absurd (hb0.both hbk hle) (by have := hp 0 (k + 1) (by simp) (by simpa using hk) (by omega); simpa using this)
          · exact absurd (hbk.both hb0 hle) (by have := hp (k + 1) 0 (by simpa using hk) (by simp) (by omega); simpa using this)
    · rw [Bool.or_eq_true, decide_eq_true_eq, ← hb n hn, q2 n hn]
      constructor
      · rintro (h0 | ⟨k, hk, h0⟩)
        · exact ⟨0, by simp, by simpa using h0⟩
        · exact ⟨k + 1, by simpa using hk, by simpa using h0⟩
      · rintro ⟨k, hk, h0⟩
        cases k with
        | zero => left; simpa using h0
        | succ k => right; exact ⟨k, by simpa using hk, by simpa using h0⟩
theorem plan_share {ps : List (List UInt8)} (h : PlanOk ps) : shr (lensV ps) ≤ 64 := by
  obtain ⟨q, q1, _⟩ := kraft ps (fun k hk => ⟨(h.1 k hk).1, (h.1 k hk).2.1⟩) fun k j hk hj hne => (h.1 k hk).2.2 j hj hne
  rw [lensV, if_pos h, q1]
  have := cnt_le q 64; omega
theorem lens_getD {ps : List (List UInt8)} (h : PlanOk ps) {k : Nat} (hk : k < ps.length) : (lensV ps).getD k 0 = (ps.getD k []).length := by
  rw [lensV, if_pos h]; simp [List.getD, hk]
theorem lens_length {ps : List (List UInt8)} (h : PlanOk ps) : (lensV ps).length = ps.length := by rw [lensV, if_pos h]; simp
theorem lens_ok {ps : List (List UInt8)} (h : PlanOk ps) : LnOk (lensV ps) := by
  refine ⟨fun k hk => ?_, by rw [lens_length h]; exact h.2⟩
  rw [lens_length h] at hk
  have := (h.1 k hk).2.1
  rw [lens_getD h hk]; omega
theorem plan_shS {ps : List (List UInt8)} (h : PlanOk ps) : shS (lensV ps) (lensV ps).length ≤ 64 := by
  rw [shS_shr _ _ (Nat.le_refl _), List.take_length]; exact plan_share h
/-- without its first number a plan is one -/
theorem PlanOk.tail {p : List UInt8} {ps : List (List UInt8)} (h : PlanOk (p :: ps)) : PlanOk ps := by
  refine ⟨fun k hk => ?_, by have := h.2; simp at this; omega⟩
  have h1 := h.1 (k + 1) (by simpa using hk)
  unfold PRow at h1 ⊢
  simp only [List.getD_cons_succ] at h1
  refine ⟨h1.1, h1.2.1, fun j hj hne => ?_⟩
  have := h1.2.2 (j + 1) (by simpa using hj) (by omega)
  simpa using this
end Go.Proofs.Ytnenopebfobajaa

namespace Go.Proofs.Ytnenopebfobajaa
open Go Go.Abs Go.RowKit
/-- a sum over the first places -/
def sumN (f : Nat → Nat) : Nat → Nat
  | 0 => 0
  | n + 1 => sumN f n + f n
theorem sumN_congr {f g : Nat → Nat} : ∀ n, (∀ i, i < n → f i = g i) → sumN f n = sumN g n
  | 0, _ => rfl
  | n + 1, h => by rw [sumN, sumN, sumN_congr n fun i hi => h i (by omega), h n (by omega)]
theorem sumN_upd {f g : Nat → Nat} {k c : Nat} : ∀ n, k < n → (∀ i, i < n → i ≠ k → g i = f i) → g k = f k + c → sumN g n = sumN f n + c
  | 0, h, _, _ => by omega
  | n + 1, h, hne, hk => by
    rw [sumN, sumN]
    by_cases e : k = n
    · subst e
      rw [sumN_congr k fun i hi => hne i (by omega) (by omega), hk]; omega
    · rw [sumN_upd n (by omega) (fun i hi hn => hne i (by omega) hn) hk, hne n (by omega) (by omega)]; omega
/-- the length at a place; its share -/
def lnA (xs : List Int) (i : Nat) : Nat := (xs.getD i 0).toNat
def shA (xs : List Int) (i : Nat) : Nat := 4 ^ (3 - lnA xs i)
theorem shA_pos (xs : List Int) (i : Nat) : 0 < shA xs i := Nat.pos_of_ne_zero (by simp [shA])
theorem shS_sumN {xs : List Int} (h : LnOk xs) : ∀ k, k ≤ xs.length → shS xs k = (sumN (shA xs) k : Int)
  | 0, _ => rfl
  | k + 1, hk => by
    have h1 := h.1 k (by omega)
    rw [shS, shS_sumN h k (by omega), sumN, Int.natCast_add]
    congr 1
    unfold shA lnA pw
    rw [show (3 - xs.getD k 0).toNat = 3 - (xs.getD k 0).toNat by omega]
    simp
/-- which numbers are found before -/
def dn (xs : List Int) (L k i : Nat) : Prop := lnA xs i ≤ L ∨ (lnA xs i = L + 1 ∧ i < k)
instance (xs : List Int) (L k i : Nat) : Decidable (dn xs L k i) := inferInstanceAs (Decidable (_ ∨ _))
structure PfI (xs : List Int) (L k : Nat) (st : List (List UInt8) × Nat) : Prop where
  len : st.1.length = xs.length
  sum : st.2 = sumN (fun i => if dn xs L k i then shA xs i else 0) xs.length
  ex : ∃ a : Nat → Nat, (∀ i, i < xs.length → dn xs L k i → st.1.getD i [] = txV (a i / shA xs i) (lnA xs i) ∧ shA xs i ∣ a i ∧ a i + shA xs i ≤ st.2) ∧
    ∀ i j, i < xs.length → j < xs.length → dn xs L k i → dn xs L k j → i ≠ j → a i + shA xs i ≤ a j ∨ a j + shA xs j ≤ a i
theorem pfK_inv {xs : List Int} {L : Nat} (hL : L ≤ 2) {st : List (List UInt8) × Nat} (h0 : PfI xs L 0 st) (hd : 4 ^ (2 - L) ∣ st.2) : ∀ k, k ≤ xs.length → PfI xs L k (pfK xs (L + 1) st k) ∧ 4 ^ (2 - L) ∣ (pfK xs (L + 1) st k).2
  | 0, _ => ⟨h0, hd⟩
  | k + 1, hk => by
    obtain ⟨ih, id⟩ := pfK_inv hL h0 hd k (by omega)
    unfold pfK
    generalize pfK xs (L + 1) st k = s at *
    have hpw : 3 - (L + 1) = 2 - L := by omega
    by_cases e : xs.getD k 0 = ((L + 1 : Nat) : Int)
    · rw [if_pos e]
      have hln : lnA xs k = L + 1 := by unfold lnA; rw [e]; rfl
      have hsh : shA xs k = 4 ^ (2 - L) := by unfold shA; rw [hln, hpw]
      rw [hpw, ← hsh]
      rw [← hsh] at id
      obtain ⟨a, a1, a2⟩ := ih.ex
      have hdn : ∀ i, i ≠ k → (dn xs L (k + 1) i ↔ dn xs L k i) := fun i hne => by unfold dn; omega
      have hdk : ¬ dn xs L k k := by unfold dn; omega
      have hdk1 : dn xs L (k + 1) k := .inr ⟨hln, by omega⟩
      refine ⟨⟨by simpa using ih.len, ?_, fun i => if i = k then s.2 else a i, fun i hi hdi => ?_, fun i j hi hj hdi hdj hne => ?_⟩, ?_⟩
      · dsimp only
        rw [ih.sum]
        refine (sumN_upd (k := k) xs.length (by omega) (fun i hi hne => ?_) ?_).symm
        · by_cases hh : dn xs L k i
          · rw [if_pos hh, if_pos ((hdn i hne).2 hh)]
          · rw [if_neg hh, if_neg fun h2 => hh ((hdn i hne).1 h2)]
        · rw [if_neg hdk, if_pos hdk1, Nat.zero_add]
      · dsimp only
        by_cases hik : i = k
        · subst hik
          rw [if_pos rfl]
          refine ⟨?_, id, Nat.le_refl _⟩
          have : i < s.1.length := by rw [ih.len]; exact hi
          simp [List.getD, List.getElem?_set, this, hln]
        · rw [if_neg hik]
          obtain ⟨c1, c2, c3⟩ := a1 i hi ((hdn i hik).1 hdi)
          refine ⟨?_, c2, by omega⟩
          rw [← c1]
          simp only [List.getD, List.getElem?_set, if_neg (show ¬ k = i by omega)]
      · dsimp only
        by_cases hik : i = k
        · subst hik
          have hjk : j ≠ i := fun e => hne e.symm
          have := (a1 j hj ((hdn j hjk).1 hdj)).2.2
          rw [if_pos rfl, if_neg hjk]
          exact .inr this
        · by_cases hjk : j = k
          · subst hjk
            have := (a1 i hi ((hdn i hik).1 hdi)).2.2
            rw [if_neg hik, if_pos rfl]
            exact .inl this
          · rw [if_neg hik, if_neg hjk]
            exact a2 i j hi hj ((hdn i hik).1 hdi) ((hdn j hjk).1 hdj) hne
      · exact Nat.dvd_add id (Nat.dvd_refl _)
    · rw [if_neg e]
      refine ⟨?_, id⟩
      have hne : lnA xs k ≠ L + 1 := fun h => e (by unfold lnA at h; omega)
      have hdn : ∀ i, dn xs L (k + 1) i ↔ dn xs L k i := fun i => by
        by_cases h : i = k
        · subst h; unfold dn; omega
        · unfold dn; omega
      have hdf : dn xs L (k + 1) = dn xs L k := funext fun i => propext (hdn i)
      refine ⟨ih.len, ?_, ?_⟩
      · rw [ih.sum]
        refine sumN_congr _ fun i _ => ?_
        by_cases hh : dn xs L k i
        · rw [if_pos hh, if_pos ((hdn i).2 hh)]
        · rw [if_neg hh, if_neg fun h2 => hh ((hdn i).1 h2)]
      · rw [hdf]; exact ih.ex
theorem pfL_inv {xs : List Int} (h : LnOk xs) : ∀ L, L ≤ 3 → PfI xs L 0 (pfL xs L) ∧ 4 ^ (3 - L) ∣ (pfL xs L).2
  | 0, _ => by
    have hno : ∀ i, i < xs.length → ¬ dn xs 0 0 i := fun i hi => by have := h.1 i hi; unfold dn lnA; omega
    refine ⟨⟨by simp [pfL], ?_, fun _ => 0, fun i hi hd => absurd hd (hno i hi), fun i j hi hj hd => absurd hd (hno i hi)⟩, ⟨0, rfl⟩⟩
    rw [sumN_congr (g := fun _ => 0) _ fun i hi => if_neg (hno i hi)]
    have : ∀ n, sumN (fun _ => 0) n = 0 := fun n => by
      induction n with
      | zero => rfl
      | succ n ih => rw [sumN, ih]
    rw [this]; rfl
  | L + 1, hL => by
    obtain ⟨i1, i2⟩ := pfL_inv h L (by omega)
    have hd : 4 ^ (2 - L) ∣ (pfL xs L).2 := Nat.dvd_trans (Nat.pow_dvd_pow 4 (by omega)) i2
    obtain ⟨j1, j2⟩ := pfK_inv (by omega) i1 hd xs.length (Nat.le_refl _)
    refine ⟨?_, by rw [show 3 - (L + 1) = 2 - L by omega]; exact j2⟩
    have hdn : ∀ i, i < xs.length → (dn xs (L + 1) 0 i ↔ dn xs L xs.length i) := fun i hi => by unfold dn; omega
    refine ⟨j1.len, ?_, ?_⟩
    · show (pfK xs (L + 1) (pfL xs L) xs.length).2 = _
      rw [j1.sum]
      refine sumN_congr _ fun i hi => ?_
      by_cases hh : dn xs L xs.length i
      · rw [if_pos hh, if_pos ((hdn i hi).2 hh)]
      · rw [if_neg hh, if_neg fun h2 => hh ((hdn i hi).1 h2)]
    · obtain ⟨a, a1, a2⟩ := j1.ex
      exact ⟨a, fun i hi hdi => a1 i hi ((hdn i hi).1 hdi), fun i j hi hj hdi hdj => a2 i j hi hj ((hdn i hi).1 hdi) ((hdn j hj).1 hdj)⟩
/-- the plan for lengths: it is one, with these lengths -/
theorem planV_ok {xs : List Int} (h : pfOk xs) : PlanOk (planV xs) ∧ (planV xs).length = xs.length ∧ lensV (planV xs) = xs := by
  obtain ⟨hl, hs⟩ := h
  have hV : planV xs = (pfL xs 3).1 := if_pos ⟨hl, hs⟩
  obtain ⟨I, -⟩ := pfL_inv hl 3 (Nat.le_refl _)
  have hall : ∀ i, i < xs.length → dn xs 3 0 i := fun i hi => by have := hl.1 i hi; unfold dn lnA; omega
  have hsum : (pfL xs 3).2 ≤ 64 := by
    have h1 := I.sum
    rw [sumN_congr (g := shA xs) _ fun i hi => if_pos (hall i hi)] at h1
    unfold shareV at hs
    rw [if_pos hl, shS_sumN hl _ (Nat.le_refl _)] at hs
    omega
  obtain ⟨a, a1, a2⟩ := I.ex
  have hln : ∀ i, i < xs.length → 1 ≤ lnA xs i ∧ lnA xs i ≤ 3 := fun i hi => by have := hl.1 i hi; unfold lnA; omega
  have hval : ∀ i, i < xs.length → a i / shA xs i < 4 ^ lnA xs i := fun i hi => by
    apply Nat.div_lt_of_lt_mul
    have h1 := hln i hi
    have e : shA xs i * 4 ^ lnA xs i = 64 := by
      unfold shA
      rw [← Nat.pow_add, show 3 - lnA xs i + lnA xs i = 3 by omega]
    rw [e]
    have := (a1 i hi (hall i hi)).2.2
    have := shA_pos xs i
    omega
  have hlen : ∀ i, i < xs.length → ((planV xs).getD i []).length = lnA xs i := fun i hi => by rw [hV, (a1 i hi (hall i hi)).1, txV_len]
  have hll : (planV xs).length = xs.length := by rw [hV, I.len]
  have hok : PlanOk (planV xs) := by
    refine ⟨fun k hk => ?_, by rw [hll]; exact hl.2⟩
    rw [hll] at hk
    refine ⟨?_, by rw [hlen k hk]; exact hln k hk, fun j hj hne hb => ?_⟩
    · rw [hV, (a1 k hk (hall k hk)).1]; exact txV_dg _ _
    · rw [hll] at hj
      have hle := hb.1
      rw [hlen k hk, hlen j hj] at hle
      rw [hV, (a1 k hk (hall k hk)).1, (a1 j hj (hall j hj)).1, beg_tx hle (hval k hk) (hval j hj), Nat.div_div_eq_div_mul] at hb
      have e : shA xs k * 4 ^ (lnA xs k - lnA xs j) = shA xs j := by
        unfold shA
        have := hln k hk
        rw [← Nat.pow_add]; congr 1; omega
      rw [e] at hb
      obtain ⟨c, hc⟩ := (a1 j hj (hall j hj)).2.1
      have hp := shA_pos xs j
      have hpk := shA_pos xs k
      have h1 : a j / shA xs j = c := by rw [hc]; exact Nat.mul_div_cancel_left c hp
      rw [h1] at hb
      have h2 := Nat.div_add_mod (a k) (shA xs j)
      have h3 := Nat.mod_lt (a k) hp
      rw [hb] at h2
      rcases a2 k j hk hj (hall k hk) (hall j hj) (fun e => hne e.symm) with h4 | h4
      · omega
      · omega
  refine ⟨hok, hll, ?_⟩
  apply List.ext_getElem
  · rw [lens_length hok, hll]
  · intro i h1 h2
    have h3 := lens_getD hok (k := i) (by rw [hll]; exact h2)
    rw [hlen i h2] at h3
    have h4 := hl.1 i h2
    have h5 : (xs.getD i 0) = xs[i] := by simp [List.getD, h2]
    have h6 : (lensV (planV xs)).getD i 0 = (lensV (planV xs))[i] := by simp [List.getD, h1]
    rw [← h5, ← h6, h3]
    unfold lnA; omega
/-- the lengths of a plan have one -/
theorem lens_pf {ps : List (List UInt8)} (h : PlanOk ps) : pfOk (lensV ps) := by
  refine ⟨lens_ok h, ?_⟩
  unfold shareV
  rw [if_pos (lens_ok h)]
  exact plan_shS h
end Go.Proofs.Ytnenopebfobajaa

namespace Go.Proofs.Ytnenopebfobajaa
open Go Go.Abs Go.RowKit
theorem fstN_none {p : Nat → Bool} : ∀ {m k i : Nat}, fstN p k m = none → k ≤ i → i < k + m → p i = false
  | 0, k, i, _, h1, h2 => by omega
  | m + 1, k, i, h, h1, h2 => by
    unfold fstN at h
    split at h
    · cases h
    · rename_i hp
      by_cases e : i = k
      · subst e; simpa using hp
      · exact fstN_none h (by omega) (by omega)
/-- a text begins with at most one number of a plan -/
theorem plan_uniq {ps : List (List UInt8)} (h : PlanOk ps) {s : List UInt8} {j k : Nat} (hj : j < ps.length) (hk : k < ps.length) (bj : Beg s (ps.getD j [])) (bk : Beg s (ps.getD k [])) : j = k := by
  apply Classical.byContradiction
  intro hne
  rcases Nat.le_total (ps.getD j []).length (ps.getD k []).length with hl | hl
  · exact (h.1 k hk).2.2 j hj hne (bk.both bj hl)
  · exact (h.1 j hj).2.2 k hk (fun e => hne e.symm) (bj.both bk hl)
theorem dialN_of {ps : List (List UInt8)} (h : PlanOk ps) {s : List UInt8} (hd : DgT s) {k : Nat} (hk : k < ps.length) (hb : Beg s (ps.getD k [])) : dialN ps s = some k := by
  unfold dialN
  rw [if_pos ⟨h, hd⟩]
  cases e : fstN (begB ps s) 0 ps.length with
  | none =>
    have := fstN_none e (i := k) (by omega) (by omega)
    unfold begB at this
    rw [decide_eq_true hb] at this; cases this
  | some i =>
    obtain ⟨_, h1, h2⟩ := fstN_some e
    rw [plan_uniq h (by omega) hk (of_decide_eq_true h2) hb]
theorem dialN_some {ps : List (List UInt8)} {s : List UInt8} {k : Nat} (h : dialN ps s = some k) : PlanOk ps ∧ DgT s ∧ k < ps.length ∧ Beg s (ps.getD k []) := by
  unfold dialN at h
  split at h
  · rename_i hh
    obtain ⟨_, h1, h2⟩ := fstN_some h
    exact ⟨hh.1, hh.2, by omega, of_decide_eq_true h2⟩
  · cases h
/-- numbers one behind the other -/
def catP (ps : List (List UInt8)) : List Nat → List UInt8
  | [] => []
  | k :: ks => ps.getD k [] ++ catP ps ks
theorem catP_dg {ps : List (List UInt8)} (h : PlanOk ps) : ∀ {ks : List Nat}, (∀ k ∈ ks, k < ps.length) → DgT (catP ps ks)
  | [], _ => fun x hx => by simp [catP] at hx
  | k :: ks, hk => (h.1 k (hk k (by simp))).1.app (catP_dg h fun j hj => hk j (List.mem_cons_of_mem _ hj))
theorem allN_cat {ps : List (List UInt8)} (h : PlanOk ps) : ∀ (ks : List Nat) (f : Nat), (∀ k ∈ ks, k < ps.length) → (catP ps ks).length ≤ f → allN ps f (catP ps ks) = some (ks.map fun (k : Nat) => (k : Int))
  | [], 0, _, _ => rfl
  | [], f + 1, _, _ => by simp [allN, catP]
  | k :: ks, f, hk, hf => by
    have hkl := hk k (by simp)
    have hrow := h.1 k hkl
    have hl := hrow.2.1.1
    have e : catP ps (k :: ks) = ps.getD k [] ++ catP ps ks := rfl
    rw [e, List.length_append] at hf
    obtain ⟨f, rfl⟩ : ∃ g, f = g + 1 := ⟨f - 1, by omega⟩
    have hne : catP ps (k :: ks) ≠ [] := fun h0 => by
      have := congrArg List.length h0
      rw [e, List.length_append, List.length_nil] at this; omega
    have hd := catP_dg h hk
    have hdl := dialN_of h hd hkl (by rw [e]; exact Beg.append _ _)
    unfold allN
    rw [if_neg hne, hdl]
    show (allN ps f ((catP ps (k :: ks)).drop (ps.getD k []).length)).map _ = _
    rw [e, List.drop_left, allN_cat h ks f (fun j hj => hk j (List.mem_cons_of_mem _ hj)) (by omega)]
    rfl
theorem allN_some {ps : List (List UInt8)} : ∀ (f : Nat) (t : List UInt8) (l : List Int), t.length ≤ f → allN ps f t = some l → ∃ ks : List Nat, l = ks.map (fun (k : Nat) => (k : Int)) ∧ (∀ k ∈ ks, k < ps.length) ∧ catP ps ks = t
  | 0, t, l, hf, h => by
    cases h
    exact ⟨[], rfl, by simp, (List.eq_nil_of_length_eq_zero (by omega)).symm⟩
  | f + 1, t, l, hf, h => by
    unfold allN at h
    split at h
    · rename_i e; cases h; exact ⟨[], rfl, by simp, e.symm⟩
    · split at h
      · cases h
      · rename_i k hd
        obtain ⟨h1, h2, h3, h4⟩ := dialN_some hd
        have hl := (h1.1 k h3).2.1.1
        cases e : allN ps f (t.drop (ps.getD k []).length) with
        | none => rw [e] at h; cases h
        | some l' =>
          rw [e] at h
          have h := (Option.some.inj h).symm
          obtain ⟨ks, e1, e2, e3⟩ := allN_some f _ l' (by rw [List.length_drop]; omega) e
          refine ⟨k :: ks, by rw [h, e1]; rfl, fun j hj => ?_, ?_⟩
          · rcases List.mem_cons.1 hj with rfl | hj
            · exact h3
            · exact e2 j hj
          · show ps.getD k [] ++ catP ps ks = t
            have e5 : t.take (ps.getD k []).length = ps.getD k [] := h4.2
            rw [e3]
            have e6 := List.take_append_drop (ps.getD k []).length t
            rw [e5] at e6
            exact e6
end Go.Proofs.Ytnenopebfobajaa

namespace Go.Proofs.Ytnenopebfobajaa
open Go Go.Abs Go.RowKit Go.Dial
/-- a valid table, element by element -/
structure RtP (cs : List Rt) : Prop where
  ok : ∀ c ∈ cs, DgT c.b ∧ c.b.length ≤ 3 ∧ 0 ≤ c.n ∧ c.n ≤ 99
  ne : cs.Pairwise fun a b => a.b ≠ b.b
  le : cs.length ≤ 8
theorem getD_rt {cs : List Rt} {k : Nat} (h : k < cs.length) : cs.getD k rt0 = cs[k] := by simp [List.getD, h]
theorem rtP_iff {cs : List Rt} : RtOk cs ↔ RtP cs := by
  constructor
  · rintro ⟨h, hl⟩
    refine ⟨fun c hc => ?_, List.pairwise_iff_getElem.2 fun i j hi hj hij => ?_, hl⟩
    · obtain ⟨i, hi, rfl⟩ := List.mem_iff_getElem.1 hc
      have := h i hi
      unfold RRow at this
      rw [getD_rt hi] at this
      exact ⟨this.1, this.2.1, this.2.2.1⟩
    · have := (h j hj).2.2.2 i hij
      rw [getD_rt hi, getD_rt hj] at this
      exact this
  · rintro ⟨h1, h2, h3⟩
    refine ⟨fun k hk => ?_, h3⟩
    unfold RRow
    have h := h1 _ (List.getElem_mem hk)
    rw [getD_rt hk]
    refine ⟨h.1, h.2.1, h.2.2, fun j hj => ?_⟩
    rw [getD_rt (by omega)]
    exact List.pairwise_iff_getElem.1 h2 j k (by omega) hk hj
theorem RtP.sub {cs ds : List Rt} (h : RtP cs) (hs : ds.Sublist cs) : RtP ds :=
  ⟨fun c hc => h.ok c (hs.subset hc), h.ne.sublist hs, Nat.le_trans hs.length_le h.le⟩
theorem RtP.inj {cs : List Rt} (h : RtP cs) {c d : Rt} (hc : c ∈ cs) (hd : d ∈ cs) (e : c.b = d.b) : c = d := by
  obtain ⟨i, hi, rfl⟩ := List.mem_iff_getElem.1 hc
  obtain ⟨j, hj, rfl⟩ := List.mem_iff_getElem.1 hd
  rcases Nat.lt_trichotomy i j with hh | hh | hh
  · exact absurd e (List.pairwise_iff_getElem.1 h.ne i j hi hj hh)
  · subst hh; rfl
  · exact absurd e.symm (List.pairwise_iff_getElem.1 h.ne j i hj hi hh)
/-- the answer of a table: the outlet of the longest beginning -/
def Ans (cs : List Rt) (s : List UInt8) (x : Int) : Prop :=
  (x = -1 ∧ ∀ c ∈ cs, ¬ Beg s c.b) ∨ ∃ c ∈ cs, Beg s c.b ∧ x = c.n ∧ ∀ d ∈ cs, Beg s d.b → d.b.length ≤ c.b.length
theorem Ans.uniq {cs : List Rt} (h : RtP cs) {s : List UInt8} {x y : Int} (hx : Ans cs s x) (hy : Ans cs s y) : x = y := by
  rcases hx with ⟨e1, n1⟩ | ⟨c, c1, c2, c3, c4⟩ <;> rcases hy with ⟨e2, n2⟩ | ⟨d, d1, d2, d3, d4⟩
  · omega
  · exact absurd d2 (n1 d d1)
  · exact absurd c2 (n2 c c1)
  · have h1 := c4 d d1 d2
    have h2 := d4 c c1 c2
    have e : c.b = d.b := c2.eq d2 (by omega)
    rw [c3, d3, h.inj c1 d1 e]
theorem rtF_spec (cs : List Rt) (s : List UInt8) : ∀ k, k ≤ cs.length →
    (rtF cs s k = (-1, -1) ∧ ∀ j, j < k → ¬ Beg s (cs.getD j rt0).b) ∨ ∃ i, i < k ∧ Beg s (cs.getD i rt0).b ∧ rtF cs s k = ((cs.getD i rt0).n, ((cs.getD i rt0).b.length : Int)) ∧ ∀ j, j < k → Beg s (cs.getD j rt0).b → (cs.getD j rt0).b.length ≤ (cs.getD i rt0).b.length
  | 0, _ => .inl ⟨rfl, fun j hj => absurd hj (by omega)⟩
  | k + 1, hk => by
    have ih := rtF_spec cs s k (by omega)
    unfold rtF
    by_cases h : Beg s (cs.getD k rt0).b ∧ (rtF cs s k).2 < (cs.getD k rt0).b.length
    · rw [if_pos h]
      refine .inr ⟨k, by omega, h.1, rfl, fun j hj hb => ?_⟩
      by_cases e : j = k
      · subst e; exact Nat.le_refl _
      · rcases ih with ⟨_, i2⟩ | ⟨i, i1, i2, i3, i4⟩
        · exact absurd hb (i2 j (by omega))
        · have h1 := i4 j (by omega) hb
          have h2 := h.2
          rw [i3] at h2
          dsimp only at h2; omega
    · rw [if_neg h]
      rcases ih with ⟨i1, i2⟩ | ⟨i, i1, i2, i3, i4⟩
      · refine .inl ⟨i1, fun j hj hb => ?_⟩
        by_cases e : j = k
        · subst e
          exact h ⟨hb, by rw [i1]; dsimp only; omega⟩
        · exact i2 j (by omega) hb
      · refine .inr ⟨i, by omega, i2, i3, fun j hj hb => ?_⟩
        by_cases e : j = k
        · subst e
          apply Classical.byContradiction
          intro hlt
          exact h ⟨hb, by rw [i3]; dsimp only; omega⟩
        · exact i4 j (by omega) hb
theorem route_ans {cs : List Rt} (h : RtOk cs) {s : List UInt8} (hd : DgT s) : Ans cs s (routeV cs s) := by
  unfold routeV
  rw [if_pos ⟨h, hd⟩]
  rcases rtF_spec cs s cs.length (Nat.le_refl _) with ⟨h1, h2⟩ | ⟨i, h1, h2, h3, h4⟩
  · refine .inl ⟨by rw [h1], fun c hc hb => ?_⟩
    obtain ⟨j, hj, rfl⟩ := List.mem_iff_getElem.1 hc
    exact h2 j hj (by rw [getD_rt hj]; exact hb)
  · refine .inr ⟨cs.getD i rt0, by rw [getD_rt h1]; exact List.getElem_mem h1, h2, by rw [h3], fun d hd' hb => ?_⟩
    obtain ⟨j, hj, rfl⟩ := List.mem_iff_getElem.1 hd'
    rw [← getD_rt hj] at hb ⊢
    exact h4 j hj hb
theorem route_eq {cs : List Rt} (h : RtOk cs) {s : List UInt8} (hd : DgT s) {x : Int} (hx : Ans cs s x) : routeV cs s = x := (route_ans h hd).uniq (rtP_iff.1 h) hx
/-- the table without the routes with a beginning -/
def wo (cs : List Rt) (b : List UInt8) : List Rt := cs.filter fun c => decide (c.b ≠ b)
theorem mem_wo {cs : List Rt} {b : List UInt8} {c : Rt} : c ∈ wo cs b ↔ c ∈ cs ∧ c.b ≠ b := by simp [wo]
theorem wo_ok {cs : List Rt} (h : RtOk cs) (b : List UInt8) : RtOk (wo cs b) := rtP_iff.2 ((rtP_iff.1 h).sub List.filter_sublist)
theorem wo_comm (cs : List Rt) (a b : List UInt8) : wo (wo cs a) b = wo (wo cs b) a := by
  unfold wo
  rw [List.filter_filter, List.filter_filter]
  congr 1
  funext c
  exact Bool.and_comm _ _
theorem rmvR_wo {cs : List Rt} (h : RtOk cs) {k : Nat} (hk : k < cs.length) : rmvR cs k = wo cs (cs.getD k rt0).b := by
  have hp := (rtP_iff.1 h).ne
  have e : cs = cs.take k ++ cs[k] :: cs.drop (k + 1) := by rw [← List.drop_eq_getElem_cons hk, List.take_append_drop]
  rw [getD_rt hk]
  have h1 : ∀ c ∈ cs.take k, c.b ≠ cs[k].b := fun c hc => by
    obtain ⟨i, hi, rfl⟩ := List.mem_iff_getElem.1 hc
    rw [List.length_take] at hi
    rw [List.getElem_take]
    exact List.pairwise_iff_getElem.1 hp i k (by omega) hk (by omega)
  have h2 : ∀ c ∈ cs.drop (k + 1), c.b ≠ cs[k].b := fun c hc => by
    obtain ⟨i, hi, rfl⟩ := List.mem_iff_getElem.1 hc
    rw [List.length_drop] at hi
    rw [List.getElem_drop]
    exact fun e => List.pairwise_iff_getElem.1 hp k (k + 1 + i) hk (by omega) (by omega) e.symm
  have f1 : wo cs cs[k].b = wo (cs.take k ++ cs[k] :: cs.drop (k + 1)) cs[k].b := congrArg (fun l => wo l cs[k].b) e
  rw [f1]
  unfold wo rmvR
  rw [List.filter_append, List.filter_cons_of_neg (by simp), List.filter_eq_self.2 fun c hc => by simpa using h1 c hc, List.filter_eq_self.2 fun c hc => by simpa using h2 c hc]
/-- a route that the rest answers as well -/
def IdleE (cs : List Rt) (c : Rt) : Prop := routeV (wo cs c.b) c.b = c.n
theorem idle_drop {cs : List Rt} (h : RtOk cs) {c0 : Rt} (hc : c0 ∈ cs) (hi : IdleE cs c0) {s : List UInt8} (hd : DgT s) : routeV (wo cs c0.b) s = routeV cs s := by
  have hP := rtP_iff.1 h
  have hw := wo_ok h c0.b
  have h0 := hP.ok c0 hc
  have hA0 := route_ans hw h0.1
  have hi' : routeV (wo cs c0.b) c0.b = c0.n := hi
  rw [hi'] at hA0
  symm
  refine route_eq h hd ?_
  have split : ∀ d ∈ cs, d = c0 ∨ d ∈ wo cs c0.b := fun d hd' => by
    by_cases e : d.b = c0.b
    · exact .inl (hP.inj hd' hc e)
    · exact .inr (mem_wo.2 ⟨hd', e⟩)
  rcases route_ans hw hd with ⟨e1, n1⟩ | ⟨c, c1, c2, c3, c4⟩
  · refine .inl ⟨e1, fun d hd' hb => ?_⟩
    rcases split d hd' with rfl | hd2
    · rcases hA0 with ⟨e2, _⟩ | ⟨c, c1, c2, _, _⟩
      · have := h0.2.2.1; omega
      · exact n1 c c1 (hb.trans c2)
    · exact n1 d hd2 hb
  · by_cases hf : Beg s c0.b ∧ c.b.length < c0.b.length
    · obtain ⟨f1, f2⟩ := hf
      have fc : Beg c0.b c.b := f1.both c2 (by omega)
      rcases hA0 with ⟨e2, _⟩ | ⟨c', a1, a2, a3, a4⟩
      · have := h0.2.2.1; omega
      · have l1 := a4 c c1 fc
        have l2 := c4 c' a1 (f1.trans a2)
        have e : c = c' := (rtP_iff.1 hw).inj c1 a1 (c2.eq (f1.trans a2) (by omega))
        refine .inr ⟨c0, hc, f1, by rw [c3, e, ← a3], fun d hd' hb => ?_⟩
        rcases split d hd' with rfl | hd2
        · exact Nat.le_refl _
        · have := c4 d hd2 hb; omega
    · refine .inr ⟨c, (mem_wo.1 c1).1, c2, c3, fun d hd' hb => ?_⟩
      rcases split d hd' with rfl | hd2
      · apply Classical.byContradiction
        intro hlt
        exact hf ⟨hb, by omega⟩
      · exact c4 d hd2 hb
/-- a route that a text does not begin with does not matter for it -/
theorem wo_not {cs : List Rt} (h : RtOk cs) {b s : List UInt8} (hd : DgT s) (hn : ¬ Beg s b) : routeV (wo cs b) s = routeV cs s := by
  symm
  refine route_eq h hd ?_
  have back : ∀ d ∈ cs, Beg s d.b → d ∈ wo cs b := fun d hd' hb => mem_wo.2 ⟨hd', fun e => hn (e ▸ hb)⟩
  rcases route_ans (wo_ok h b) hd with ⟨e1, n1⟩ | ⟨c, c1, c2, c3, c4⟩
  · exact .inl ⟨e1, fun d hd' hb => n1 d (back d hd' hb) hb⟩
  · exact .inr ⟨c, (mem_wo.1 c1).1, c2, c3, fun d hd' hb => c4 d (back d hd' hb) hb⟩
/-- who matters goes on to matter when a route that is no longer is left out -/
theorem keep_need {cs : List Rt} (h : RtOk cs) {q r : Rt} (hq : q ∈ cs) (hr : r ∈ cs) (hne : q.b ≠ r.b) (hl : q.b.length ≤ r.b.length) (hi : IdleE cs q) (hn : ¬ IdleE cs r) : ¬ IdleE (wo cs q.b) r := by
  have hP := rtP_iff.1 h
  have hq' : q ∈ wo cs r.b := mem_wo.2 ⟨hq, hne⟩
  have nb : ¬ Beg q.b r.b := fun hb => by
    have := hb.1
    have e : q.b.take r.b.length = r.b := hb.2
    rw [List.take_of_length_le (by omega)] at e
    exact hne e
  have hi2 : IdleE (wo cs r.b) q := by
    unfold IdleE at hi ⊢
    rw [wo_comm, wo_not (wo_ok h q.b) (hP.ok q hq).1 nb]; exact hi
  have e := idle_drop (wo_ok h r.b) hq' hi2 (hP.ok r hr).1
  unfold IdleE at hn ⊢
  rw [wo_comm, e]; exact hn
/-- the state of the walk over the routes of one length -/
structure LsI (L k : Nat) (cs0 cs : List Rt) : Prop where
  ok : RtOk cs
  le : cs.length ≤ cs0.length
  same : ∀ s, DgT s → routeV cs s = routeV cs0 s
  long : ∀ c ∈ cs, L < c.b.length → ¬ IdleE cs c
  seen : ∀ i, i < k → (cs.getD i rt0).b.length = L → ¬ IdleE cs (cs.getD i rt0)
theorem lsK_inv {L : Nat} {cs0 : List Rt} : ∀ (m k : Nat) (cs : List Rt), m + k = cs.length → LsI L k cs0 cs → ∃ k', LsI L k' cs0 (lsK L m k cs) ∧ k' = (lsK L m k cs).length
  | 0, k, cs, hm, h => ⟨k, h, by simpa [lsK] using hm⟩
  | m + 1, k, cs, hm, h => by
    have hk : k < cs.length := by omega
    have hmem : cs.getD k rt0 ∈ cs := by rw [getD_rt hk]; exact List.getElem_mem hk
    have hP := rtP_iff.1 h.ok
    have hw := rmvR_wo h.ok hk
    unfold lsK
    by_cases hi : idle L cs k
    · rw [if_pos hi]
      have hiE : IdleE cs (cs.getD k rt0) := by unfold IdleE; rw [← hw]; exact hi.2
      have hll := rmvR_len hk
      refine lsK_inv m k (rmvR cs k) (by omega) ?_
      have need : ∀ r ∈ rmvR cs k, L ≤ r.b.length → ¬ IdleE cs r → ¬ IdleE (rmvR cs k) r := fun r hr hl hn => by
        rw [hw] at hr ⊢
        obtain ⟨r1, r2⟩ := mem_wo.1 hr
        exact keep_need h.ok hmem r1 (fun e => r2 e.symm) (by rw [hi.1]; exact hl) hiE hn
      refine ⟨by rw [hw]; exact wo_ok h.ok _, by have := h.le; omega, fun s hd => ?_, fun c hc hl => ?_, fun i hik hl => ?_⟩
      · rw [hw, idle_drop h.ok hmem hiE hd]; exact h.same s hd
      · have hc' := hc
        rw [hw] at hc'
        exact need c hc (by omega) (h.long c (mem_wo.1 hc').1 hl)
      · have hi1 : i < (rmvR cs k).length := by omega
        have e : (rmvR cs k).getD i rt0 = cs.getD i rt0 := by
          unfold rmvR
          simp only [List.getD]
          rw [List.getElem?_append_left (by rw [List.length_take]; omega), List.getElem?_take, if_pos hik]
        have hmi : (rmvR cs k).getD i rt0 ∈ rmvR cs k := by rw [getD_rt hi1]; exact List.getElem_mem hi1
        rw [e] at hl hmi ⊢
        exact need _ hmi (by omega) (h.seen i hik hl)
    · rw [if_neg hi]
      refine lsK_inv m (k + 1) cs (by omega) ⟨h.ok, h.le, h.same, h.long, fun i hik hl => ?_⟩
      by_cases e : i = k
      · subst e
        intro hiE
        unfold IdleE at hiE
        rw [← hw] at hiE
        exact hi ⟨hl, hiE⟩
      · exact h.seen i (by omega) hl
theorem lsL_inv {cs0 : List Rt} : ∀ (f : Nat) (cs : List Rt), RtOk cs → cs.length ≤ cs0.length → (∀ s, DgT s → routeV cs s = routeV cs0 s) → (∀ c ∈ cs, f ≤ c.b.length → ¬ IdleE cs c) →
    RtOk (lsL f cs) ∧ (lsL f cs).length ≤ cs0.length ∧ (∀ s, DgT s → routeV (lsL f cs) s = routeV cs0 s) ∧ ∀ c ∈ lsL f cs, ¬ IdleE (lsL f cs) c
  | 0, cs, h1, h2, h3, h4 => ⟨h1, h2, h3, fun c hc => h4 c hc (by omega)⟩
  | f + 1, cs, h1, h2, h3, h4 => by
    obtain ⟨k', I, hk'⟩ := lsK_inv (L := f) (cs0 := cs0) cs.length 0 cs rfl ⟨h1, h2, h3, fun c hc hl => h4 c hc hl, fun i hi => absurd hi (by omega)⟩
    unfold lsL
    refine lsL_inv f _ I.ok I.le I.same fun c hc hl => ?_
    by_cases e : c.b.length = f
    · obtain ⟨i, hi, rfl⟩ := List.mem_iff_getElem.1 hc
      have := I.seen i (by omega) (by rw [getD_rt hi]; exact e)
      rwa [getD_rt hi] at this
    · exact I.long c hc (by omega)
/-- the table without the routes that do not matter -/
theorem less_ok {cs : List Rt} (h : RtOk cs) : RtOk (lessV cs) ∧ (lessV cs).length ≤ cs.length ∧ (∀ s, DgT s → routeV (lessV cs) s = routeV cs s) ∧ ∀ k, k < (lessV cs).length → routeV (rmvR (lessV cs) k) ((lessV cs).getD k rt0).b ≠ ((lessV cs).getD k rt0).n := by
  have e : lessV cs = lsL 4 cs := if_pos h
  have hP := rtP_iff.1 h
  obtain ⟨h1, h2, h3, h4⟩ := lsL_inv (cs0 := cs) 4 cs h (Nat.le_refl _) (fun _ _ => rfl) fun c hc hl => by have := (hP.ok c hc).2.1; omega
  rw [← e] at h1 h2 h3 h4
  refine ⟨h1, h2, h3, fun k hk => ?_⟩
  rw [rmvR_wo h1 hk]
  exact h4 _ (by rw [getD_rt hk]; exact List.getElem_mem hk)
/-- digits behind the third one do not matter -/
theorem route_app {cs : List Rt} (h : RtOk cs) {s t : List UInt8} (hs : DgT s) (ht : DgT t) (hl : 3 ≤ s.length) : routeV cs (s ++ t) = routeV cs s := by
  have hP := rtP_iff.1 h
  refine route_eq h (hs.app ht) ?_
  have hb : ∀ c ∈ cs, (Beg (s ++ t) c.b ↔ Beg s c.b) := fun c hc => beg_app (by have := (hP.ok c hc).2.1; omega)
  rcases route_ans h hs with ⟨e1, n1⟩ | ⟨c, c1, c2, c3, c4⟩
  · exact .inl ⟨e1, fun c hc hh => n1 c hc ((hb c hc).1 hh)⟩
  · exact .inr ⟨c, c1, (hb c c1).2 c2, c3, fun d hd hh => c4 d hd ((hb d hd).1 hh)⟩
end Go.Proofs.Ytnenopebfobajaa

namespace Go.Proofs.Ytnenopebfobajaa
open Go Go.Abs Go.RowKit Go.Dial
/-- ascending -/
def Srt : List Int → Prop
  | [] => True
  | x :: xs => (∀ y ∈ xs, x ≤ y) ∧ Srt xs
theorem Srt.app : ∀ {xs ys : List Int}, Srt (xs ++ ys) ↔ Srt xs ∧ Srt ys ∧ ∀ x ∈ xs, ∀ y ∈ ys, x ≤ y
  | [], ys => by simp [Srt]
  | x :: xs, ys => by
    rw [List.cons_append]
    show ((∀ y ∈ xs ++ ys, x ≤ y) ∧ Srt (xs ++ ys)) ↔ ((∀ y ∈ xs, x ≤ y) ∧ Srt xs) ∧ Srt ys ∧ ∀ z ∈ x :: xs, ∀ y ∈ ys, z ≤ y
    rw [Srt.app]
    constructor
    · rintro ⟨h1, h2, h3, h4⟩
      refine ⟨⟨fun y hy => h1 y (by simp [hy]), h2⟩, h3, fun z hz y hy => ?_⟩
      rcases List.mem_cons.1 hz with rfl | hz
      · exact h1 y (by simp [hy])
      · exact h4 z hz y hy
    · rintro ⟨⟨h1, h2⟩, h3, h4⟩
      refine ⟨fun y hy => ?_, h2, h3, fun z hz y hy => h4 z (by simp [hz]) y hy⟩
      rcases List.mem_append.1 hy with hy | hy
      · exact h1 y hy
      · exact h4 x (by simp) y hy
/-- one is put where it belongs -/
theorem Srt.ins {a b : List Int} {x : Int} (h : Srt (a ++ b)) (ha : ∀ y ∈ a, y ≤ x) (hb : ∀ y ∈ b, x ≤ y) : Srt (a ++ x :: b) := by
  rw [Srt.app] at h ⊢
  refine ⟨h.1, ⟨hb, h.2.1⟩, fun z hz y hy => ?_⟩
  rcases List.mem_cons.1 hy with rfl | hy
  · exact ha z hz
  · exact h.2.2 z hz y hy
theorem low_mem {gs : List Int} (h : 0 < gs.length) : low gs ∈ gs := (rmv_perm h).mem_iff.2 (by simp)
theorem low_perm {gs hs : List Int} (h : gs.Perm hs) (hl : 0 < gs.length) : low gs = low hs := by
  have h1 := low_le (h.mem_iff.2 (low_mem (gs := hs) (by rw [← h.length_eq]; exact hl)))
  have h2 := low_le (h.mem_iff.1 (low_mem hl))
  omega
theorem tak_permE {gs hs : List Int} (h : gs.Perm hs) : ∀ k, k ≤ gs.length → (tak gs k).2 = (tak hs k).2 ∧ (tak gs k).1.Perm (tak hs k).1
  | 0, _ => ⟨rfl, h⟩
  | k + 1, hk => by
    obtain ⟨h1, h2⟩ := tak_permE h k (by omega)
    have hl := tak_len gs k (by omega)
    have hp : 0 < (tak gs k).1.length := by omega
    have e := low_perm h2 hp
    refine ⟨by simp only [tak]; rw [h1, e], ?_⟩
    have a := rmv_perm hp
    have b := rmv_perm (gs := (tak hs k).1) (by rw [← h2.length_eq]; exact hp)
    rw [e] at a
    exact (a.symm.trans (h2.trans b)).cons_inv
/-- of an ascending list the rarest are the first ones -/
theorem tak_srt : ∀ {ss : List Int}, Srt ss → ∀ k, k ≤ ss.length → (tak ss k).2 = sumI (ss.take k) ∧ (tak ss k).1.Perm (ss.drop k)
  | ss, h, 0, _ => ⟨by simp [tak, sumI], List.Perm.refl _⟩
  | [], h, k + 1, hk => absurd hk (by simp)
  | s :: ss, h, k + 1, hk => by
    have hl : low (s :: ss) = s := by
      have h1 := low_le (gs := s :: ss) (x := s) (by simp)
      have h2 := low_mem (gs := s :: ss) (by simp)
      rcases List.mem_cons.1 h2 with h2 | h2
      · exact h2
      · have := h.1 _ h2; omega
    have hr : (rmv (s :: ss)).Perm ss := by
      have := rmv_perm (gs := s :: ss) (by simp)
      rw [hl] at this
      exact this.cons_inv.symm
    have hrl : (rmv (s :: ss)).length = ss.length := hr.length_eq
    have hk' : k ≤ ss.length := by simpa using hk
    obtain ⟨p1, p2⟩ := tak_permE hr k (by omega)
    obtain ⟨q1, q2⟩ := tak_srt h.2 k hk'
    rw [tak_front]
    refine ⟨?_, ?_⟩
    · show low (s :: ss) + _ = _
      rw [hl, p1, q1, List.take_succ_cons, sumI]
    · show (tak (rmv (s :: ss)) k).1.Perm _
      rw [List.drop_succ_cons]
      exact p2.trans q2
/-- the padded groups, and how many of them are joined -/
def Pad (P gs : List Int) (many : Nat) : Prop := many ≤ 4 ∧ P.Perm (List.replicate (4 - many) 0 ++ gs)
theorem srt_zeros {ss : List Int} (h : Srt ss) (h0 : ∀ x ∈ ss, 0 ≤ x) (p : Nat) : Srt (List.replicate p 0 ++ ss) := by
  induction p with
  | zero => simpa using h
  | succ p ih =>
    rw [List.replicate_succ, List.cons_append]
    refine ⟨fun y hy => ?_, ih⟩
    rcases List.mem_append.1 hy with hy | hy
    · have := List.eq_of_mem_replicate hy; omega
    · exact h0 y hy
theorem pad_step {P gs ss : List Int} {many : Nat} (hP : Pad P gs many) (hs : gs.Perm ss) (h : Srt ss) (h0 : ∀ x ∈ gs, 0 ≤ x) (hm : many ≤ gs.length) :
    (tak P 4).2 = sumI (ss.take many) ∧ Pad (joinG P) (ss.drop many ++ [sumI (ss.take many)]) 4 := by
  obtain ⟨h4, hp⟩ := hP
  have hz := srt_zeros h (fun x hx => h0 x (hs.mem_iff.2 hx)) (4 - many)
  have hPs : P.Perm (List.replicate (4 - many) 0 ++ ss) := hp.trans (hs.append_left _)
  have hsl := hs.length_eq
  have hPl : P.length = (4 - many) + gs.length := by rw [hp.length_eq]; simp
  obtain ⟨p1, p2⟩ := tak_permE hPs 4 (by omega)
  obtain ⟨q1, q2⟩ := tak_srt hz 4 (by simp; omega)
  have e1 : (List.replicate (4 - many) (0 : Int) ++ ss).take 4 = List.replicate (4 - many) 0 ++ ss.take many := by
    rw [List.take_append, List.length_replicate, List.take_of_length_le (by simp), show 4 - (4 - many) = many by omega]
  have e2 : (List.replicate (4 - many) (0 : Int) ++ ss).drop 4 = ss.drop many := by
    rw [List.drop_append, List.length_replicate, List.drop_of_length_le (by simp), show 4 - (4 - many) = many by omega, List.nil_append]
  rw [e1, sumI_app, sumI_zeros, Int.zero_add] at q1
  rw [e2] at q2
  refine ⟨p1.trans q1, Nat.le_refl _, ?_⟩
  show (joinG P).Perm ([] ++ _)
  rw [List.nil_append]
  unfold joinG
  rw [p1.trans q1]
  exact (p2.trans q2).append_right _
theorem pad_start {xs : List Int} (h2 : 2 ≤ xs.length) (h10 : xs.length ≤ 10) : Pad (padG 2 xs) xs (2 + (xs.length - 2) % 3) := by
  obtain ⟨p, hp, e, hl⟩ := padG_eq h2 h10
  refine ⟨by omega, ?_⟩
  rw [e, show 4 - (2 + (xs.length - 2) % 3) = p by omega]
  exact List.perm_append_comm
theorem sumI_take_le {xs : List Int} (h : ∀ x ∈ xs, 0 ≤ x) (k : Nat) : 0 ≤ sumI (xs.take k) ∧ sumI (xs.take k) ≤ sumI xs := by
  have h1 := sumI_app (xs.take k) (xs.drop k)
  rw [List.take_append_drop] at h1
  have h2 := sumI_nonneg (xs := xs.take k) fun x hx => h x (List.mem_of_mem_take hx)
  have h3 := sumI_nonneg (xs := xs.drop k) fun x hx => h x (List.mem_of_mem_drop hx)
  omega
theorem sumI_snoc {xs : List Int} {k : Nat} (h : k < xs.length) : sumI (xs.take (k + 1)) = sumI (xs.take k) + xs.getD k 0 := by
  rw [List.take_succ_eq_append_getElem h, sumI_app]
  simp [sumI, List.getD, h]
theorem sumI_bound {M : Int} : ∀ {xs : List Int}, (∀ x ∈ xs, x ≤ M) → sumI xs ≤ M * xs.length
  | [], _ => by simp [sumI]
  | x :: xs, h => by
    have h1 := h x (by simp)
    have h2 := sumI_bound (xs := xs) fun y hy => h y (by simp [hy])
    rw [sumI, List.length_cons, Int.natCast_succ, Int.mul_add, Int.mul_one]; omega
end Go.Proofs.Ytnenopebfobajaa

namespace Go.Proofs.Ytnenopebfobajaa
open Go Go.Abs Go.RowKit Go.Dial
/-- left out where it does not matter -/
def lstep (now : List Rt) (r : Rt) : List Rt := if routeV (wo now r.b) r.b = r.n then wo now r.b else now
/-- those of one length -/
def ofL (cs : List Rt) (L : Nat) : List Rt := cs.filter fun c => decide (c.b.length = L)
/-- from the longest on -/
def srtL (cs : List Rt) : Nat → List Rt
  | 0 => []
  | f + 1 => ofL cs f ++ srtL cs f
theorem lstep_ok {cs : List Rt} (h : RtOk cs) (r : Rt) : RtOk (lstep cs r) := by
  unfold lstep; split
  · exact wo_ok h _
  · exact h
theorem lstep_foldl_ok : ∀ (rs : List Rt) {cs : List Rt}, RtOk cs → RtOk (rs.foldl lstep cs)
  | [], _, h => h
  | r :: rs, _, h => lstep_foldl_ok rs (lstep_ok h r)
theorem lsK_fold {L : Nat} : ∀ (m k : Nat) (cs : List Rt), RtOk cs → m + k = cs.length → lsK L m k cs = (ofL (cs.drop k) L).foldl lstep cs
  | 0, k, cs, _, hk => by
    rw [List.drop_of_length_le (by omega)]; rfl
  | m + 1, k, cs, h, hk => by
    have hlt : k < cs.length := by omega
    have hd : cs.drop k = cs.getD k rt0 :: cs.drop (k + 1) := by rw [List.drop_eq_getElem_cons hlt]; simp [List.getD, hlt]
    have hw := rmvR_wo h hlt
    have hwl := rmvR_len hlt
    unfold lsK
    by_cases hL : (cs.getD k rt0).b.length = L
    · have hf : ofL (cs.drop k) L = cs.getD k rt0 :: ofL (cs.drop (k + 1)) L := by
        rw [hd]; unfold ofL; rw [List.filter_cons, if_pos (by simpa using hL)]
      rw [hf, List.foldl_cons]
      by_cases hr : routeV (rmvR cs k) (cs.getD k rt0).b = (cs.getD k rt0).n
      · rw [if_pos ⟨hL, hr⟩]
        have e : lstep cs (cs.getD k rt0) = rmvR cs k := by unfold lstep; rw [← hw, if_pos hr]
        rw [e, lsK_fold m k (rmvR cs k) (by rw [hw]; exact wo_ok h _) (by omega)]
        congr 2
        unfold rmvR
        rw [List.drop_append, List.length_take, Nat.min_eq_left (by omega), Nat.sub_self, List.drop_zero, List.drop_of_length_le (by rw [List.length_take]; omega), List.nil_append]
      · rw [if_neg fun hh => hr hh.2]
        have e : lstep cs (cs.getD k rt0) = cs := by unfold lstep; rw [← hw, if_neg hr]
        rw [e, lsK_fold m (k + 1) cs h (by omega)]
    · have hf : ofL (cs.drop k) L = ofL (cs.drop (k + 1)) L := by
        rw [hd]; unfold ofL; rw [List.filter_cons, if_neg (by simpa using hL)]
      rw [if_neg fun hh => hL hh.1, hf, lsK_fold m (k + 1) cs h (by omega)]
theorem ofL_wo {cs : List Rt} {b : List UInt8} {L : Nat} (h : b.length ≠ L) : ofL (wo cs b) L = ofL cs L := by
  unfold ofL wo
  rw [List.filter_filter]
  apply List.filter_congr
  intro c _
  by_cases e : c.b.length = L
  · have : c.b ≠ b := fun e2 => h (e2 ▸ e)
    simp [e, this]
  · simp [e]
theorem ofL_lstep {cs : List Rt} {r : Rt} {L : Nat} (h : r.b.length ≠ L) : ofL (lstep cs r) L = ofL cs L := by
  unfold lstep; split
  · exact ofL_wo h
  · rfl
theorem ofL_fold {L : Nat} : ∀ (rs : List Rt) (cs : List Rt), (∀ r ∈ rs, r.b.length ≠ L) → ofL (rs.foldl lstep cs) L = ofL cs L
  | [], _, _ => rfl
  | r :: rs, cs, h => by
    rw [List.foldl_cons, ofL_fold rs _ fun x hx => h x (by simp [hx]), ofL_lstep (h r (by simp))]
theorem mem_ofL {cs : List Rt} {L : Nat} {c : Rt} : c ∈ ofL cs L ↔ c ∈ cs ∧ c.b.length = L := by simp [ofL]
theorem srtL_congr {cs ds : List Rt} : ∀ (f : Nat), (∀ L, L < f → ofL cs L = ofL ds L) → srtL cs f = srtL ds f
  | 0, _ => rfl
  | f + 1, h => by unfold srtL; rw [h f (by omega), srtL_congr f fun L hL => h L (by omega)]
theorem lsL_fold : ∀ (f : Nat) (cs : List Rt), RtOk cs → lsL f cs = (srtL cs f).foldl lstep cs
  | 0, _, _ => rfl
  | f + 1, cs, h => by
    have e := lsK_fold (L := f) cs.length 0 cs h (by omega)
    rw [List.drop_zero] at e
    unfold lsL srtL
    rw [e, List.foldl_append, lsL_fold f _ (lstep_foldl_ok _ h)]
    congr 1
    refine srtL_congr f fun L hL => ofL_fold _ _ fun r hr => ?_
    have := (mem_ofL.1 hr).2
    omega
/-- one more is put behind those that are as long -/
theorem srtL_snoc (P : List Rt) (x : Rt) : ∀ f, x.b.length < f → ∃ A B, srtL P f = A ++ B ∧ srtL (P ++ [x]) f = A ++ x :: B ∧ (∀ c ∈ A, x.b.length ≤ c.b.length) ∧ (∀ c ∈ B, c.b.length < x.b.length)
  | 0, h => absurd h (by omega)
  | f + 1, h => by
    have hap : ofL (P ++ [x]) f = ofL P f ++ ofL [x] f := by unfold ofL; rw [List.filter_append]
    by_cases e : x.b.length = f
    · have h1 : ofL [x] f = [x] := by simp [ofL, e]
      have h2 : srtL (P ++ [x]) f = srtL P f := srtL_congr f fun L hL => by
        have : ofL [x] L = [] := by simp [ofL]; omega
        unfold ofL at this ⊢; rw [List.filter_append, this, List.append_nil]
      refine ⟨ofL P f, srtL P f, rfl, ?_, fun c hc => ?_, fun c hc => ?_⟩
      · show ofL (P ++ [x]) f ++ srtL (P ++ [x]) f = _
        rw [hap, h1, h2, List.append_assoc]; rfl
      · have := (mem_ofL.1 hc).2; omega
      · have : ∀ g, c ∈ srtL P g → c.b.length < g := by
          intro g
          induction g with
          | zero => intro hc; cases hc
          | succ g ih =>
            intro hc
            rcases List.mem_append.1 hc with hc | hc
            · have := (mem_ofL.1 hc).2; omega
            · have := ih hc; omega
        have := this f hc; omega
    · obtain ⟨A, B, h1, h2, h3, h4⟩ := srtL_snoc P x f (by omega)
      have h0 : ofL [x] f = [] := by simp [ofL, e]
      refine ⟨ofL P f ++ A, B, ?_, ?_, fun c hc => ?_, h4⟩
      · show ofL P f ++ srtL P f = _
        rw [h1, List.append_assoc]
      · show ofL (P ++ [x]) f ++ srtL (P ++ [x]) f = _
        rw [hap, h0, List.append_nil, h2, List.append_assoc]
      · rcases List.mem_append.1 hc with hc | hc
        · have := (mem_ofL.1 hc).2; omega
        · exact h3 c hc
theorem less_fold {cs : List Rt} (h : RtOk cs) : lessV cs = (srtL cs 4).foldl lstep cs := by
  unfold lessV; rw [if_pos h, lsL_fold 4 cs h]
end Go.Proofs.Ytnenopebfobajaa
