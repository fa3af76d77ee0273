/- The step network: where lines lead, settings, ways, clashes. -/
import Derived.Test.YtgieeafdgdkkcaaFacts
set_option linter.unusedSimpArgs false
set_option linter.unusedVariables false
set_option linter.unusedSectionVars false
namespace Go.Ban

/-- an injection of the numbers below n into themselves reaches each of them -/
theorem onto_of_inj : ∀ (n : Nat) (f : Nat → Nat), (∀ i, i < n → f i < n) → (∀ i j, i < n → j < n → f i = f j → i = j) → ∀ y, y < n → ∃ x, x < n ∧ f x = y
  | 0, _, _, _, y, hy => absurd hy (by omega)
  | n + 1, f, hf, hi, y, hy => by
    by_cases hl : f n = y
    · exact ⟨n, by omega, hl⟩
    -- send n's image out of the way
    have key : ∀ z, z < n → ∃ x, x < n ∧ (if f x = n then f n else f x) = z := by
      refine onto_of_inj n (fun x => if f x = n then f n else f x) (fun i h => ?_) (fun i j h1 h2 e => ?_)
      · have a1 := hf i (by omega)
        have a2 := hf n (by omega)
        split
        · rename_i e
          have : f n ≠ n := fun e2 => absurd (hi i n (by omega) (by omega) (by omega)) (by omega)
          omega
        · omega
      · split at e <;> split at e
        · exact hi i j (by omega) (by omega) (by omega)
        · exact absurd (hi n j (by omega) (by omega) e) (by omega)
        · exact absurd (hi i n (by omega) (by omega) e) (by omega)
        · exact hi i j (by omega) (by omega) e
    by_cases hy2 : y < n
    · obtain ⟨x, hx, e⟩ := key y hy2
      split at e
      · exact absurd e hl
      · exact ⟨x, by omega, e⟩
    · have hyn : y = n := by omega
      subst hyn
      have hfn : f y < y := by have := hf y (by omega); omega
      obtain ⟨x, hx, e⟩ := key (f y) hfn
      split at e
      · rename_i h; exact ⟨x, by omega, h⟩
      · exact absurd (hi x y (by omega) (by omega) e) (by omega)

def Ls (L lg : Nat) : Prop := (L = 2 ∧ lg = 1) ∨ (L = 4 ∧ lg = 2) ∨ (L = 8 ∧ lg = 3)
def sh (L x : Nat) : Nat := 2 * x % L + 2 * x / L
def fl (x : Nat) : Nat := x / 2 * 2 + 1 - x % 2
theorem fl_half (x : Nat) : fl x / 2 = x / 2 := by unfold fl; omega
theorem fl_fl (x : Nat) : fl (fl x) = x := by unfold fl; omega
theorem fl_ne (x : Nat) : fl x ≠ x := by unfold fl; omega
theorem fl_of {x y : Nat} (h : x / 2 = y / 2) (hn : x ≠ y) : x = fl y := by unfold fl; omega
theorem fl_inj {x y : Nat} (h : fl x = fl y) : x = y := by unfold fl at h; omega
def sw (c : Bool) (x : Nat) : Nat := bif c then fl x else x
theorem sw_half (c : Bool) (x : Nat) : sw c x / 2 = x / 2 := by cases c <;> simp [sw, fl_half]
theorem sw_ne (c : Bool) (x : Nat) : decide (sw c x ≠ x) = c := by cases c <;> simp [sw, fl_ne]
section
variable {L lg x y k : Nat} (h : Ls L lg)
include h
theorem sh_lt (hx : x < L) : sh L x < L := by unfold sh; rcases h with ⟨rfl, _⟩ | ⟨rfl, _⟩ | ⟨rfl, _⟩ <;> omega
theorem sh_inj (hx : x < L) (hy : y < L) (e : sh L x = sh L y) : x = y := by
  unfold sh at e; rcases h with ⟨rfl, _⟩ | ⟨rfl, _⟩ | ⟨rfl, _⟩ <;> omega
theorem half_lt (hx : x < L) : x / 2 < L / 2 := by rcases h with ⟨rfl, _⟩ | ⟨rfl, _⟩ | ⟨rfl, _⟩ <;> omega
theorem lt_half (hx : x / 2 < L / 2) : x < L := by rcases h with ⟨rfl, _⟩ | ⟨rfl, _⟩ | ⟨rfl, _⟩ <;> omega
theorem half_pos : 0 < L / 2 := by rcases h with ⟨rfl, _⟩ | ⟨rfl, _⟩ | ⟨rfl, _⟩ <;> omega
theorem fl_lt (hx : x < L) : fl x < L := lt_half h (by rw [fl_half]; exact half_lt h hx)
theorem sw_lt {c : Bool} (hx : x < L) : sw c x < L := lt_half h (by rw [sw_half]; exact half_lt h hx)
omit h in
theorem Ls.le (h : Ls L lg) : L ≤ 8 ∧ lg ≤ 3 ∧ 2 ≤ L ∧ 1 ≤ lg := by rcases h with ⟨rfl, rfl⟩ | ⟨rfl, rfl⟩ | ⟨rfl, rfl⟩ <;> omega
end

/-- where an input is behind so many steps -/
def pos (L : Nat) (c : Nat → Bool) (k : Nat) : Nat → Nat
  | 0 => k
  | s + 1 => sw (c (s * (L / 2) + sh L (pos L c k s) / 2)) (sh L (pos L c k s))
theorem pos_lt {L lg : Nat} (h : Ls L lg) (c : Nat → Bool) {k : Nat} (hk : k < L) : ∀ s, pos L c k s < L
  | 0 => hk
  | s + 1 => sw_lt h (sh_lt h (pos_lt h c hk s))
theorem pos_inj {L lg : Nat} (h : Ls L lg) (c : Nat → Bool) {k k' : Nat} (hk : k < L) (hk' : k' < L) : ∀ s, pos L c k s = pos L c k' s → k = k'
  | 0, e => e
  | s + 1, e => by
    have e2 : sh L (pos L c k s) / 2 = sh L (pos L c k' s) / 2 := by
      have := congrArg (· / 2) e
      simpa [pos, sw_half] using this
    simp only [pos, e2] at e
    have e3 : sh L (pos L c k s) = sh L (pos L c k' s) := by
      generalize c (s * (L / 2) + sh L (pos L c k' s) / 2) = b at e
      cases b
      · exact e
      · exact fl_inj e
    exact pos_inj h c hk hk' s (sh_inj h (pos_lt h c hk s) (pos_lt h c hk' s) e3)
theorem pos_onto {L lg : Nat} (h : Ls L lg) (c : Nat → Bool) (s y : Nat) (hy : y < L) : ∃ k, k < L ∧ pos L c k s = y :=
  onto_of_inj L (fun k => pos L c k s) (fun _ hi => pos_lt h c hi s) (fun _ _ h1 h2 e => pos_inj h c h1 h2 s e) y hy

/-- the way to an output -/
def bt (lg out s : Nat) : Nat := out / 2 ^ (lg - 1 - s) % 2
def wp (L lg out k : Nat) : Nat → Nat
  | 0 => k
  | s + 1 => (2 * wp L lg out k s + bt lg out s) % L
theorem wp_lt {L lg : Nat} (h : Ls L lg) (out : Nat) {k : Nat} (hk : k < L) : ∀ s, wp L lg out k s < L
  | 0 => hk
  | s + 1 => Nat.mod_lt _ (by have := h.le; omega)
theorem wp_half {L lg : Nat} (h : Ls L lg) (out : Nat) {k : Nat} (hk : k < L) (s : Nat) : wp L lg out k (s + 1) / 2 = sh L (wp L lg out k s) / 2 := by
  have h1 := wp_lt h out hk s
  have h2 : bt lg out s < 2 := Nat.mod_lt _ (by omega)
  show (2 * wp L lg out k s + bt lg out s) % L / 2 = _
  generalize wp L lg out k s = x at *
  generalize bt lg out s = b at *
  unfold sh
  rcases h with ⟨rfl, _⟩ | ⟨rfl, _⟩ | ⟨rfl, _⟩ <;> omega
theorem wp_last {L lg : Nat} (h : Ls L lg) {out k : Nat} (hk : k < L) (ho : out < L) : wp L lg out k lg = out := by
  rcases h with ⟨rfl, rfl⟩ | ⟨rfl, rfl⟩ | ⟨rfl, rfl⟩
  · simp [wp, bt]; omega
  · simp [wp, bt]; omega
  · simp [wp, bt]; omega
theorem sh_mod {L lg : Nat} (h : Ls L lg) {x : Nat} (hx : x < L) : sh L x / 2 = x % (L / 2) := by
  unfold sh; rcases h with ⟨rfl, _⟩ | ⟨rfl, _⟩ | ⟨rfl, _⟩
  · have : x = 0 ∨ x = 1 := by omega
    rcases this with rfl | rfl <;> rfl
  · have : x = 0 ∨ x = 1 ∨ x = 2 ∨ x = 3 := by omega
    rcases this with rfl | rfl | rfl | rfl <;> rfl
  · have : x = 0 ∨ x = 1 ∨ x = 2 ∨ x = 3 ∨ x = 4 ∨ x = 5 ∨ x = 6 ∨ x = 7 := by omega
    rcases this with rfl | rfl | rfl | rfl | rfl | rfl | rfl | rfl <;> rfl
theorem wp_run {L lg : Nat} (h : Ls L lg) (c : Nat → Bool) {k : Nat} (hk : k < L) : ∀ s, s ≤ lg → wp L lg (pos L c k lg) k s = pos L c k s := by
  have st : ∀ s, pos L c k (s + 1) / 2 = pos L c k s % (L / 2) ∧ pos L c k s < L := fun s => ⟨by rw [← sh_mod h (pos_lt h c hk s)]; simp [pos, sw_half], pos_lt h c hk s⟩
  have s0 := (st 0).1
  have s1 := st 1
  have s2 := st 2
  have s3 := (st 3).2
  have e0 : pos L c k 0 = k := rfl
  rw [e0] at s0
  rcases h with ⟨rfl, rfl⟩ | ⟨rfl, rfl⟩ | ⟨rfl, rfl⟩
  · intro s hs
    obtain rfl | rfl : s = 0 ∨ s = 1 := by omega
    · rfl
    · simp only [Nat.zero_add] at s0
      generalize pos 2 c k 1 = p1 at *
      simp [wp, bt]; omega
  · intro s hs
    simp only [Nat.zero_add, Nat.reduceAdd, Nat.reduceDiv] at s0 s1
    obtain rfl | rfl | rfl : s = 0 ∨ s = 1 ∨ s = 2 := by omega
    · rfl
    all_goals
      generalize pos 4 c k 1 = p1 at *
      generalize pos 4 c k 2 = p2 at *
      clear s2 s3 st
      simp [wp, bt]; omega
  · intro s hs
    simp only [Nat.zero_add, Nat.reduceAdd, Nat.reduceDiv] at s0 s1 s2
    obtain rfl | rfl | rfl | rfl : s = 0 ∨ s = 1 ∨ s = 2 ∨ s = 3 := by omega
    · rfl
    all_goals
      generalize pos 8 c k 1 = p1 at *
      generalize pos 8 c k 2 = p2 at *
      generalize pos 8 c k 3 = p3 at *
      clear st
      simp [wp, bt]
      have a1 : p3 / 4 % 2 = p1 % 2 := by omega
      have a2 : p3 / 2 % 2 = p2 % 2 := by omega
      have a3 : (2 * k + p1 % 2) % 8 = p1 := by omega
      have a4 : (2 * p1 + p2 % 2) % 8 = p2 := by omega
      have a5 : (2 * p2 + p3 % 2) % 8 = p3 := by omega
      first | omega | (rw [a1]; exact a3) | (rw [a1, a2, a3]; exact a4) | (rw [a1, a2, a3, a4]; exact a5)

/-- clashes -/
def cl (L lg : Nat) (q : Nat → Nat) (a b : Nat) : Bool := (List.range lg).any fun s => wp L lg (q a) a (s + 1) == wp L lg (q b) b (s + 1)
def rowC (L lg : Nat) (q : Nat → Nat) (a : Nat) : Nat → Nat
  | 0 => 0
  | b + 1 => rowC L lg q a b + (bif cl L lg q a b then 1 else 0)
def allC (L lg : Nat) (q : Nat → Nat) : Nat → Nat
  | 0 => 0
  | a + 1 => allC L lg q a + rowC L lg q a a
theorem rowC_le (L lg : Nat) (q : Nat → Nat) (a : Nat) : ∀ b, rowC L lg q a b ≤ b
  | 0 => Nat.le_refl _
  | b + 1 => by have := rowC_le L lg q a b; unfold rowC; cases cl L lg q a b <;> simp <;> omega
theorem allC_le (L lg : Nat) (q : Nat → Nat) : ∀ a, 2 * allC L lg q a ≤ a * (a - 1)
  | 0 => Nat.le_refl _
  | a + 1 => by
    have h1 := allC_le L lg q a
    have h2 := rowC_le L lg q a a
    have h3 : (a + 1) * (a + 1 - 1) = a * (a - 1) + 2 * a := by
      cases a with
      | zero => rfl
      | succ a => simp only [Nat.add_sub_cancel, Nat.add_mul, Nat.mul_add]; omega
    unfold allC
    omega
def NoClash (L lg : Nat) (q : Nat → Nat) : Prop := ∀ a, a < L → ∀ b, b < L → a ≠ b → ∀ s, s < lg → wp L lg (q a) a (s + 1) ≠ wp L lg (q b) b (s + 1)
theorem rowC_zero (L lg : Nat) (q : Nat → Nat) (a : Nat) : ∀ b, rowC L lg q a b = 0 ↔ ∀ j, j < b → cl L lg q a j = false
  | 0 => by simp [rowC]
  | b + 1 => by
    unfold rowC
    have ih := rowC_zero L lg q a b
    constructor
    · intro h j hj
      have h1 : rowC L lg q a b = 0 := by omega
      have h2 : (bif cl L lg q a b then 1 else 0) = 0 := by omega
      rcases Nat.lt_or_ge j b with hh | hh
      · exact ih.1 h1 j hh
      · obtain rfl : j = b := by omega
        cases e : cl L lg q a j
        · rfl
        · rw [e] at h2; cases h2
    · intro h
      rw [ih.2 fun j hj => h j (by omega), h b (by omega)]
      rfl
theorem allC_zero (L lg : Nat) (q : Nat → Nat) : ∀ n, allC L lg q n = 0 ↔ ∀ a, a < n → ∀ b, b < a → cl L lg q a b = false
  | 0 => by simp [allC]
  | n + 1 => by
    unfold allC
    have ih := allC_zero L lg q n
    constructor
    · intro h a ha
      rcases Nat.lt_or_ge a n with hh | hh
      · exact ih.1 (by omega) a hh
      · obtain rfl : a = n := by omega
        exact (rowC_zero L lg q a a).1 (by omega)
    · intro h
      rw [ih.2 fun a ha => h a (by omega), (rowC_zero L lg q n n).2 (h n (by omega))]
theorem cl_false {L lg : Nat} {q : Nat → Nat} {a b : Nat} : cl L lg q a b = false ↔ ∀ s, s < lg → wp L lg (q a) a (s + 1) ≠ wp L lg (q b) b (s + 1) := by
  simp [cl]
theorem noClash_iff (L lg : Nat) (q : Nat → Nat) : allC L lg q L = 0 ↔ NoClash L lg q := by
  rw [allC_zero]
  constructor
  · intro h a ha b hb hne s hs
    rcases Nat.lt_or_gt_of_ne hne with hh | hh
    · exact (cl_false.1 (h b hb a hh) s hs).symm
    · exact cl_false.1 (h a ha b hh) s hs
  · exact fun h a ha b hb => cl_false.2 fun s hs => h a ha b (by omega) (by omega) s hs

/-- settings -/
def dif (L lg : Nat) (q : Nat → Nat) (k s : Nat) : Bool := decide (wp L lg (q k) k (s + 1) ≠ sh L (wp L lg (q k) k s))
def ix (L lg : Nat) (q : Nat → Nat) (k s : Nat) : Nat := s * (L / 2) + wp L lg (q k) k (s + 1) / 2
def anyS (L lg : Nat) (q : Nat → Nat) (k t i : Nat) : Bool := (List.range t).any fun s => ix L lg q k s == i && dif L lg q k s
def setOf (L lg : Nat) (q : Nat → Nat) (n t i : Nat) : Bool := ((List.range n).any fun k => anyS L lg q k lg i) || anyS L lg q n t i
theorem anyS_succ (L lg : Nat) (q : Nat → Nat) (k t i : Nat) : anyS L lg q k (t + 1) i = (anyS L lg q k t i || (ix L lg q k t == i && dif L lg q k t)) := by
  simp [anyS, List.range_succ]
theorem setOf_zero (L lg : Nat) (q : Nat → Nat) (i : Nat) : setOf L lg q 0 0 i = false := by simp [setOf, anyS]
theorem setOf_step (L lg : Nat) (q : Nat → Nat) (n t i : Nat) : setOf L lg q n (t + 1) i = (setOf L lg q n t i || (ix L lg q n t == i && dif L lg q n t)) := by
  simp [setOf, anyS_succ, Bool.or_assoc]
theorem setOf_next (L lg : Nat) (q : Nat → Nat) (n i : Nat) : setOf L lg q n lg i = setOf L lg q (n + 1) 0 i := by
  simp [setOf, List.range_succ, anyS]
theorem setOf_true {L lg : Nat} {q : Nat → Nat} {n t i : Nat} : setOf L lg q n t i = true ↔ ∃ k s, (k < n ∧ s < lg ∨ k = n ∧ s < t) ∧ ix L lg q k s = i ∧ dif L lg q k s = true := by
  simp only [setOf, anyS, Bool.or_eq_true, List.any_eq_true, List.mem_range, Bool.and_eq_true, beq_iff_eq]
  constructor
  · rintro (⟨k, hk, s, hs, h⟩ | ⟨s, hs, h⟩)
    · exact ⟨k, s, .inl ⟨hk, hs⟩, h⟩
    · exact ⟨n, s, .inr ⟨rfl, hs⟩, h⟩
  · rintro ⟨k, s, (⟨hk, hs⟩ | ⟨rfl, hs⟩), h⟩
    · exact .inl ⟨k, hk, s, hs, h⟩
    · exact .inr ⟨s, hs, h⟩
theorem ix_lt {L lg : Nat} (h : Ls L lg) (q : Nat → Nat) {k s : Nat} (hk : k < L) (hs : s < lg) : ix L lg q k s < L / 2 * lg := by
  have h1 := half_lt h (wp_lt h (q k) hk (s + 1))
  unfold ix
  have h2 : (s + 1) * (L / 2) ≤ lg * (L / 2) := Nat.mul_le_mul_right _ hs
  rw [Nat.add_mul] at h2
  rw [Nat.mul_comm (L / 2) lg]
  omega
theorem ix_same {L lg : Nat} (h : Ls L lg) (q : Nat → Nat) {k k' s s' : Nat} (hk : k < L) (hk' : k' < L) (e : ix L lg q k s = ix L lg q k' s') : s = s' ∧ wp L lg (q k) k (s + 1) / 2 = wp L lg (q k') k' (s' + 1) / 2 := by
  have h1 := half_lt h (wp_lt h (q k) hk (s + 1))
  have h2 := half_lt h (wp_lt h (q k') hk' (s' + 1))
  unfold ix at e
  generalize wp L lg (q k) k (s + 1) / 2 = x at *
  generalize wp L lg (q k') k' (s' + 1) / 2 = y at *
  rcases h with ⟨rfl, _⟩ | ⟨rfl, _⟩ | ⟨rfl, _⟩ <;> omega
theorem agree {L lg : Nat} (h : Ls L lg) {q : Nat → Nat} (hn : NoClash L lg q) {a b s s' : Nat} (ha : a < L) (hb : b < L) (hs : s < lg) (e : ix L lg q a s = ix L lg q b s') : dif L lg q a s = dif L lg q b s' := by
  obtain ⟨rfl, e2⟩ := ix_same h q ha hb e
  by_cases hab : a = b
  · subst hab; rfl
  have h1 := hn a ha b hb hab s hs
  have h0 : wp L lg (q a) a s ≠ wp L lg (q b) b s := by
    cases s with
    | zero => exact hab
    | succ s => exact hn a ha b hb hab s (by omega)
  have h2 : sh L (wp L lg (q a) a s) ≠ sh L (wp L lg (q b) b s) := fun e => h0 (sh_inj h (wp_lt h _ ha s) (wp_lt h _ hb s) e)
  have h3 : sh L (wp L lg (q a) a s) / 2 = sh L (wp L lg (q b) b s) / 2 := by rw [← wp_half h _ ha, ← wp_half h _ hb, e2]
  have f1 := fl_of e2 h1
  have f2 := fl_of h3 h2
  unfold dif
  rw [f1, f2]
  congr 1
  exact propext (not_congr ⟨fun e => fl_inj e, fun e => by rw [e]⟩)
theorem setOf_agree {L lg : Nat} (h : Ls L lg) {q : Nat → Nat} (hn : NoClash L lg q) {n t : Nat} (hn2 : n < L) (ht : t < lg) (hd : dif L lg q n t = false) : setOf L lg q n t (ix L lg q n t) = false := by
  cases e : setOf L lg q n t (ix L lg q n t)
  · rfl
  · obtain ⟨k, s, hk, h1, h2⟩ := setOf_true.1 e
    have hkL : k < L := by omega
    have hs : s < lg := by omega
    rw [agree h hn hkL hn2 hs h1, hd] at h2
    exact h2.symm
/-- what the settings come to -/
def finS (L lg : Nat) (q : Nat → Nat) (i : Nat) : Bool := setOf L lg q L 0 i
theorem finS_ix {L lg : Nat} (h : Ls L lg) {q : Nat → Nat} (hn : NoClash L lg q) {k s : Nat} (hk : k < L) (hs : s < lg) : finS L lg q (ix L lg q k s) = dif L lg q k s := by
  cases e : dif L lg q k s
  · cases e2 : finS L lg q (ix L lg q k s)
    · rfl
    · obtain ⟨k', s', hk', h1, h2⟩ := setOf_true.1 e2
      rw [agree h hn (show k' < L by omega) hk (show s' < lg by omega) h1, e] at h2
      exact h2.symm
  · exact setOf_true.2 ⟨k, s, .inl ⟨hk, hs⟩, rfl, e⟩
theorem run_set {L lg : Nat} (h : Ls L lg) {q : Nat → Nat} (hn : NoClash L lg q) {k : Nat} (hk : k < L) : ∀ s, s ≤ lg → pos L (finS L lg q) k s = wp L lg (q k) k s
  | 0, _ => rfl
  | s + 1, hs => by
    have ih := run_set h hn hk s (by omega)
    have e1 := wp_half h (q k) hk s
    show sw (finS L lg q (s * (L / 2) + sh L (pos L (finS L lg q) k s) / 2)) (sh L (pos L (finS L lg q) k s)) = _
    rw [ih, ← e1]
    have e2 := finS_ix h hn hk (show s < lg by omega)
    unfold ix at e2
    rw [e2]
    unfold dif
    by_cases e : wp L lg (q k) k (s + 1) = sh L (wp L lg (q k) k s)
    · simp [e, sw]
    · simp only [ne_eq, e, not_false_eq_true, decide_true, sw, cond_true]
      exact (fl_of e1 e).symm
theorem run_set_last {L lg : Nat} (h : Ls L lg) {q : Nat → Nat} (hn : NoClash L lg q) {k : Nat} (hk : k < L) (hq : q k < L) : pos L (finS L lg q) k lg = q k := by
  rw [run_set h hn hk lg (Nat.le_refl _), wp_last h hk hq]
theorem noClash_run {L lg : Nat} (h : Ls L lg) (c : Nat → Bool) {q : Nat → Nat} (hq : ∀ k, k < L → q k = pos L c k lg) : NoClash L lg q := by
  intro a ha b hb hne s hs e
  rw [hq a ha, hq b hb, wp_run h c ha _ (by omega), wp_run h c hb _ (by omega)] at e
  exact hne (pos_inj h c ha hb _ e)
theorem set_run {L lg : Nat} (h : Ls L lg) (c : Nat → Bool) {q : Nat → Nat} (hq : ∀ k, k < L → q k = pos L c k lg) {i : Nat} (hi : i < L / 2 * lg) : finS L lg q i = c i := by
  have hdif : ∀ k s, k < L → s < lg → dif L lg q k s = c (ix L lg q k s) := by
    intro k s hk hs
    unfold dif ix
    rw [hq k hk, wp_run h c hk _ (by omega), wp_run h c hk _ (by omega)]
    show decide (sw _ _ ≠ _) = _
    rw [sw_ne]
    show _ = c (s * (L / 2) + sw _ _ / 2)
    rw [sw_half]
  have hp := half_pos h
  have hs : i / (L / 2) < lg := Nat.div_lt_of_lt_mul hi
  have hj : i % (L / 2) < L / 2 := Nat.mod_lt _ hp
  obtain ⟨k, hk, hk2⟩ := pos_onto h c (i / (L / 2) + 1) (2 * (i % (L / 2))) (lt_half h (by omega))
  have hik : ix L lg q k (i / (L / 2)) = i := by
    unfold ix
    rw [hq k hk, wp_run h c hk _ (by omega), hk2, Nat.mul_comm, Nat.mul_div_cancel_left _ (by omega : 0 < 2)]
    exact Nat.div_add_mod i (L / 2)
  have hn := noClash_run h c hq
  rw [← hik, finS_ix h hn hk hs, hdif k _ hk hs]
theorem wp_congr {L lg : Nat} {q q' : Nat → Nat} {k : Nat} (e : q k = q' k) (s : Nat) : wp L lg (q k) k s = wp L lg (q' k) k s := by rw [e]
theorem noClash_congr {L lg : Nat} {q q' : Nat → Nat} (e : ∀ k, k < L → q k = q' k) (h : NoClash L lg q) : NoClash L lg q' := fun a ha b hb hne s hs => by
  rw [← e a ha, ← e b hb]; exact h a ha b hb hne s hs
theorem shift_noClash {L lg : Nat} (h : Ls L lg) {c : Nat} (hc : c < L) : NoClash L lg (fun k => (c + k) % L) := by
  rw [← noClash_iff]
  rcases h with ⟨rfl, rfl⟩ | ⟨rfl, rfl⟩ | ⟨rfl, rfl⟩
  · have : ∀ c, c < 2 → allC 2 1 (fun k => (c + k) % 2) 2 = 0 := by decide
    exact this c hc
  · have : ∀ c, c < 4 → allC 4 2 (fun k => (c + k) % 4) 4 = 0 := by decide
    exact this c hc
  · have : ∀ c, c < 8 → allC 8 3 (fun k => (c + k) % 8) 8 = 0 := by decide +kernel
    exact this c hc
end Go.Ban
