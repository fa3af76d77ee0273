/- How the loop network is set, step by step. -/
import Derived.Test.YtgieeafdgdkkcaaBb
set_option linter.unusedSimpArgs false
set_option linter.unusedVariables false
set_option linter.unusedSectionVars false
namespace Go.Ban

/-- nothing beyond H -/
def cutN (H : Nat) (f : Nat → Nat) (k : Nat) : Nat := if k < H then f k else 0
theorem cutN_perm {H : Nat} {f : Nat → Nat} (h : PermF H f) : PermF H (cutN H f) := h.congr fun i hi => if_pos hi
theorem cutN_at {H : Nat} {f : Nat → Nat} {k : Nat} (h : k < H) : cutN H f k = f k := if_pos h
/-- how the switches are set -/
def lsC : Nat → (Nat → Nat) → Nat → Bool
  | 0, _, _ => false
  | 1, q, _ => q 0 == 1
  | l + 2, q, i =>
    if i < 2 ^ (l + 1) then bgn (2 ^ (l + 1)) q i
    else if i < 2 ^ (l + 1) + many (l + 1) then lsC (l + 1) (cutN (2 ^ (l + 1)) (upQ (2 ^ (l + 1)) q)) (i - 2 ^ (l + 1))
    else if i < 2 ^ (l + 1) + 2 * many (l + 1) then lsC (l + 1) (cutN (2 ^ (l + 1)) (lowN (2 ^ (l + 1)) q)) (i - (2 ^ (l + 1) + many (l + 1)))
    else end' (2 ^ (l + 1)) q (i - (2 ^ (l + 1) + 2 * many (l + 1)))
theorem lr_lsC : ∀ (l : Nat) {q : Nat → Nat}, PermF (2 ^ (l + 1)) q → ∀ k, k < 2 ^ (l + 1) → lr (l + 1) (lsC (l + 1) q) k = q k
  | 0, q, h, k, hk => by
    have h0 : q 0 < 2 := h.1 0 (by decide)
    have h1 : q 1 < 2 := h.1 1 (by decide)
    have hne : q 0 ≠ q 1 := fun e => absurd (h.2 0 1 (by decide) (by decide) e) (by decide)
    show (bif q 0 == 1 then 1 - k else k) = q k
    have hk : k = 0 ∨ k = 1 := by have : k < 2 := hk; omega
    by_cases e : q 0 = 1
    · rw [beq_iff_eq.2 e]
      rcases hk with rfl | rfl
      · exact e.symm
      · show 0 = q 1; omega
    · rw [beq_eq_false_iff_ne.2 e]
      rcases hk with rfl | rfl
      · show 0 = q 0; omega
      · show 1 = q 1; omega
  | l + 1, q, h, k, hk => by
    rw [pow_two'] at hk h
    rw [← comb_q h hk]
    have hm : many (l + 1 + 1) = 2 * 2 ^ (l + 1) + 2 * many (l + 1) := by show 2 ^ (l + 2) + _ = _; rw [pow_two']
    have U := upQ_perm h
    have W := lowN_perm h
    refine comb_congr U.1 W.1 (fun i hi => ?_) (fun i hi => ?_) (fun i hi => ?_) (fun i hi => ?_) hk
    · show lsC (l + 2) q i = _
      unfold lsC; rw [if_pos hi]
    · show lsC (l + 2) q _ = _
      unfold lsC; rw [if_neg (by omega), if_neg (by omega), if_neg (by omega)]
      congr 1; omega
    · rw [← cutN_at (f := upQ (2 ^ (l + 1)) q) hi, ← lr_lsC l (cutN_perm U) i hi]
      refine lr_congr l (fun j hj => ?_) i hi
      show lsC (l + 2) q _ = _
      rw [lsC, if_neg (by omega), if_pos (by omega)]
      congr 1; omega
    · rw [← cutN_at (f := lowN (2 ^ (l + 1)) q) hi, ← lr_lsC l (cutN_perm W) i hi]
      refine lr_congr l (fun j hj => ?_) i hi
      show lsC (l + 2) q _ = _
      rw [lsC, if_neg (by omega), if_neg (by omega), if_pos (by omega)]
      congr 1; omega

/-- the way back, as far as it is told -/
def seenQ (q : Nat → Nat) (k o : Nat) : Bool := (List.range k).any fun j => q j == o
theorem seenQ_succ (q : Nat → Nat) (k o : Nat) : seenQ q (k + 1) o = (seenQ q k o || q k == o) := by simp [seenQ, List.range_succ]
def bp (N : Nat) (q : Nat → Nat) (k o : Nat) : Nat := if seenQ q k o = true then bk N q o else 0
theorem bp_zero (N : Nat) (q : Nat → Nat) (o : Nat) : bp N q 0 o = 0 := by simp [bp, seenQ]
theorem bp_step {N : Nat} {q : Nat → Nat} (h : PermF N q) {k : Nat} (hk : k < N) (o : Nat) : (if o = q k then k else bp N q k o) = bp N q (k + 1) o := by
  unfold bp
  rw [seenQ_succ]
  by_cases e : o = q k
  · subst e; simp [bk_q h hk]
  · rw [if_neg e, beq_eq_false_iff_ne.2 (fun h => e h.symm), Bool.or_false]
theorem bp_all {N : Nat} {q : Nat → Nat} (h : PermF N q) {o : Nat} (ho : o < N) : bp N q N o = bk N q o := by
  have : seenQ q N o = true := List.any_eq_true.2 ⟨bk N q o, List.mem_range.2 (q_bk h ho).1, beq_iff_eq.2 (q_bk h ho).2⟩
  unfold bp; rw [if_pos this]

section
variable {H : Nat} {q : Nat → Nat} (h : PermF (2 * H) q)
include h
/-- marks at the end of the colouring -/
theorem call_end {i : Nat} (hi : i < 2 * H) : call fl (gq (2 * H) q) (2 * H) (2 * H) i = some (lowQ H q i) := by
  obtain ⟨_, a2⟩ := call_closed (fl_Inv H) (gq_Inv h) (2 * H) (Nat.le_refl _)
  unfold lowQ low?
  cases e : call fl (gq (2 * H) q) (2 * H) (2 * H) i with
  | none => exact absurd e (a2 i hi)
  | some b => cases b <;> rfl
theorem bgn_at {k : Nat} (hk : k < 2 * H) : (lowQ H q k != decide (k % 2 = 1)) = bgn H q (k / 2) := by
  have h1 := lowQ_in h hk
  unfold side at h1
  rw [← h1]
  cases decide (k % 2 = 1) <;> cases bgn H q (k / 2) <;> rfl
theorem end_at {k : Nat} (hk : k < 2 * H) : (lowQ H q k != decide (q k % 2 = 1)) = end' H q (q k / 2) := by
  rw [lowQ_out h hk]
  cases lowQ H q k <;> cases end' H q (q k / 2) <;> rfl
end
def begK (H : Nat) (q : Nat → Nat) (k j : Nat) : Bool := decide (2 * j < k) && bgn H q j
def endK (H : Nat) (q : Nat → Nat) (k j : Nat) : Bool := ((List.range k).any fun i => q i / 2 == j) && end' H q j
def upK (H : Nat) (q : Nat → Nat) (k j : Nat) : Nat := if 2 * j + (bgn H q j).toNat < k then upQ H q j else 0
def lowK (H : Nat) (q : Nat → Nat) (k j : Nat) : Nat := if 2 * j + (!bgn H q j).toNat < k then lowN H q j else 0
theorem begK_step (H : Nat) (q : Nat → Nat) (k j : Nat) : (if j = k / 2 then bgn H q (k / 2) else begK H q k j) = begK H q (k + 1) j := by
  unfold begK
  by_cases e : j = k / 2
  · subst e; rw [if_pos rfl, decide_eq_true (by omega), Bool.true_and]
  · rw [if_neg e]; congr 1
    rw [Bool.eq_iff_iff, decide_eq_true_eq, decide_eq_true_eq]; omega
theorem begK_or (H : Nat) (q : Nat → Nat) (k : Nat) : (begK H q k (k / 2) || bgn H q (k / 2)) = bgn H q (k / 2) := by
  unfold begK; cases bgn H q (k / 2) <;> simp
theorem endK_step (H : Nat) (q : Nat → Nat) (k j : Nat) : (if j = q k / 2 then end' H q (q k / 2) else endK H q k j) = endK H q (k + 1) j := by
  unfold endK
  rw [List.range_succ, List.any_append]
  by_cases e : j = q k / 2
  · subst e; simp
  · rw [if_neg e]
    have : (q k / 2 == j) = false := beq_eq_false_iff_ne.2 fun h => e h.symm
    simp [this]
theorem endK_or (H : Nat) (q : Nat → Nat) (k : Nat) : (endK H q k (q k / 2) || end' H q (q k / 2)) = end' H q (q k / 2) := by
  unfold endK; cases end' H q (q k / 2) <;> simp
section
variable {H : Nat} {q : Nat → Nat} (h : PermF (2 * H) q)
include h
theorem begK_end {j : Nat} (hj : j < H) : begK H q (2 * H) j = bgn H q j := by unfold begK; rw [decide_eq_true (by omega), Bool.true_and]
theorem endK_end {j : Nat} (hj : j < H) : endK H q (2 * H) j = end' H q j := by
  have : ((List.range (2 * H)).any fun i => q i / 2 == j) = true := List.any_eq_true.2 ⟨bk (2 * H) q (2 * j), List.mem_range.2 (q_bk h (by omega)).1, beq_iff_eq.2 (by rw [(q_bk h (show 2 * j < 2 * H by omega)).2]; omega)⟩
  unfold endK; rw [this, Bool.true_and]
theorem upK_end {j : Nat} (hj : j < H) : upK H q (2 * H) j = upQ H q j := by unfold upK; rw [if_pos (up_at h hj).2]
theorem lowK_end {j : Nat} (hj : j < H) : lowK H q (2 * H) j = lowN H q j := by unfold lowK; rw [if_pos (low_at h hj).2]
/-- an input that goes through the upper network -/
theorem up_step {k : Nat} (hk : k < 2 * H) (hs : lowQ H q k = false) (j : Nat) (hj : j < H) : (if j = k / 2 then q k / 2 else upK H q k j) = upK H q (k + 1) j ∧ lowK H q k j = lowK H q (k + 1) j := by
  have hkk := k_of_side (bgn H q) k
  rw [lowQ_in h hk, hs, show (false != bgn H q (k / 2)) = bgn H q (k / 2) by cases bgn H q (k / 2) <;> rfl] at hkk
  have t1 : (bgn H q j).toNat ≤ 1 := by cases bgn H q j <;> simp
  have t2 : (!bgn H q j).toNat ≤ 1 := by cases bgn H q j <;> simp
  refine ⟨?_, ?_⟩
  · unfold upK
    by_cases e : j = k / 2
    · subst e
      rw [if_pos rfl, if_pos (by omega)]
      unfold upQ; rw [← hkk]
    · rw [if_neg e]
      by_cases h2 : 2 * j + (bgn H q j).toNat < k
      · rw [if_pos h2, if_pos (by omega)]
      · rw [if_neg h2, if_neg (by omega)]
  · unfold lowK
    have hne : 2 * j + (!bgn H q j).toNat ≠ k := fun e => by
      have := (low_at h hj).1
      rw [e, hs] at this; cases this
    by_cases h2 : 2 * j + (!bgn H q j).toNat < k
    · rw [if_pos h2, if_pos (by omega)]
    · rw [if_neg h2, if_neg (by omega)]
theorem low_step {k : Nat} (hk : k < 2 * H) (hs : lowQ H q k = true) (j : Nat) (hj : j < H) : (if j = k / 2 then q k / 2 else lowK H q k j) = lowK H q (k + 1) j ∧ upK H q k j = upK H q (k + 1) j := by
  have hkk := k_of_side (bgn H q) k
  rw [lowQ_in h hk, hs, show (true != bgn H q (k / 2)) = !bgn H q (k / 2) by cases bgn H q (k / 2) <;> rfl] at hkk
  have t1 : (bgn H q j).toNat ≤ 1 := by cases bgn H q j <;> simp
  have t2 : (!bgn H q j).toNat ≤ 1 := by cases bgn H q j <;> simp
  refine ⟨?_, ?_⟩
  · unfold lowK
    by_cases e : j = k / 2
    · subst e
      rw [if_pos rfl, if_pos (by omega)]
      unfold lowN; rw [← hkk]
    · rw [if_neg e]
      by_cases h2 : 2 * j + (!bgn H q j).toNat < k
      · rw [if_pos h2, if_pos (by omega)]
      · rw [if_neg h2, if_neg (by omega)]
  · unfold upK
    have hne : 2 * j + (bgn H q j).toNat ≠ k := fun e => by
      have := (up_at h hj).1
      rw [e, hs] at this; cases this
    by_cases h2 : 2 * j + (bgn H q j).toNat < k
    · rw [if_pos h2, if_pos (by omega)]
    · rw [if_neg h2, if_neg (by omega)]
end
/-- one round of the colouring -/
theorem cgo_none {f g : Nat → Nat} {n : Nat} {s : Marks} {x : Nat} (h : s x = none) : cgo f g (n + 1) s x = cgo f g n (cstep g s x) (f (g x)) := by rw [cgo, if_pos h]
theorem cgo_some {f g : Nat → Nat} {n : Nat} {s : Marks} {x : Nat} (h : s x ≠ none) : cgo f g n s x = s := by
  cases n with
  | zero => rfl
  | succ n => rw [cgo, if_neg h]
end Go.Ban
