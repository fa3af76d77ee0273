/- What the depth of a network is: no more than its comparators, as much as they need, and one more at most for one more. -/
import Derived.Test.YtnkpoflhdfchjaaNt
import Derived.Test.YtnkpoflhdfchjaaNh
set_option linter.unusedSimpArgs false
set_option linter.unusedVariables false
namespace Go.Proofs.Ytnkpoflhdfchjaa
open Go Go.Abs Go.RowKit
variable {w0 : World}

theorem sum_set : ∀ (xs : List Int) (i : Nat) (v : Int), i < xs.length → (xs.set i v).sum = xs.sum - xs.getD i 0 + v
  | [], _, _, h => by simp at h
  | x :: xs, 0, v, _ => by simp [List.getD]; omega
  | x :: xs, i + 1, v, h => by
    have := sum_set xs i v (by simpa using h)
    simp only [List.set_cons_succ, List.sum_cons, List.getD_cons_succ]
    omega
theorem sum_le : ∀ (xs : List Int) (d : Int), (∀ x ∈ xs, x ≤ d) → xs.sum ≤ (xs.length : Int) * d
  | [], d, _ => by simp
  | x :: xs, d, h => by
    have h1 := sum_le xs d fun y hy => h y (by simp [hy])
    have h2 := h x (by simp)
    rw [List.sum_cons, List.length_cons, Int.natCast_add, Int.add_mul]
    omega
/-- none is busy for longer than the depth; all together for twice as many steps as there are comparators -/
def Deep (st : List Int × Int) (k : Int) : Prop := (∀ x ∈ st.1, 0 ≤ x ∧ x ≤ st.2) ∧ 0 ≤ st.2 ∧ 2 * k ≤ st.1.sum
theorem deep_step {st : List Int × Int} {k : Int} {n : Nat} (h : Deep st k) (c : Int × Int) (hl : st.1.length = n) (hc : NVc n c) : Deep (stepD st c) (k + 1) ∧ ((stepD st c).2 = st.2 ∨ (stepD st c).2 = st.2 + 1) := by
  obtain ⟨h1, h2, h3⟩ := h
  unfold NVc at hc
  have g1 := getD_low h1 h2 c.1.toNat
  have g2 := getD_low h1 h2 c.2.toNat
  have hne : c.1.toNat ≠ c.2.toNat := by omega
  unfold stepD Deep
  dsimp only
  generalize hs : max (st.1.getD c.1.toNat 0) (st.1.getD c.2.toNat 0) + 1 = s
  have e1 : (st.1.set c.1.toNat s).getD c.2.toNat 0 = st.1.getD c.2.toNat 0 := by
    simp [List.getD, List.getElem?_set, hne]
  have e2 := sum_set (st.1.set c.1.toNat s) c.2.toNat s (by rw [List.length_set]; omega)
  have e3 := sum_set st.1 c.1.toNat s (by omega)
  rw [e1] at e2
  refine ⟨⟨fun x hx => ?_, by omega, by omega⟩, by omega⟩
  rcases List.mem_or_eq_of_mem_set hx with hx | rfl
  · rcases List.mem_or_eq_of_mem_set hx with hx | rfl
    · have := h1 x hx; omega
    · omega
  · omega
theorem deep_busy (n : Nat) : ∀ (cs : List (Int × Int)) (st : List Int × Int) (k : Int), (∀ c ∈ cs, NVc n c) → st.1.length = n → Deep st k → Deep (cs.foldl stepD st) (k + cs.length)
  | [], st, k, _, _, h => by simpa using h
  | c :: cs, st, k, hc, hl, h => by
    have h1 := (deep_step h c hl (hc c (by simp))).1
    have h2 := deep_busy n cs _ (k + 1) (fun d hd => hc d (by simp [hd])) (by simp [stepD, hl]) h1
    have e : k + ((c :: cs).length : Int) = k + 1 + (cs.length : Int) := by simp; omega
    rw [List.foldl_cons, e]; exact h2
theorem deep_of {lines : Int} {cs : List (Int × Int)} (h : NV lines cs) : Deep (busyD lines.toNat cs) cs.length := by
  have h1 := h.1
  have := deep_busy lines.toNat cs (List.replicate lines.toNat 0, 0) 0 (fun c hc => by have := h.2 c hc; unfold NVc at this ⊢; omega) (by simp) ⟨fun x hx => by have := (List.mem_replicate.1 hx).2; dsimp only; omega, by dsimp only; omega, by
    dsimp only
    have : ∀ n : Nat, (List.replicate n (0 : Int)).sum = 0 := fun n => by induction n with
      | zero => rfl
      | succ n ih => rw [List.replicate_succ, List.sum_cons, ih]; rfl
    rw [this]; omega⟩
  have e : (0 : Int) + cs.length = cs.length := by omega
  rw [e] at this; exact this
theorem NV.take {lines : Int} {cs : List (Int × Int)} (h : NV lines cs) (k : Nat) : NV lines (cs.take k) :=
  ⟨⟨h.1.1, h.1.2.1, by have := h.1.2.2; rw [List.length_take]; omega⟩, fun c hc => h.2 c (List.mem_of_mem_take hc)⟩
theorem dep_facts {lines : Int} {cs : List (Int × Int)} (h : NV lines cs) : 0 ≤ (busyD 6 cs).2 ∧ (busyD 6 cs).2 ≤ cs.length ∧ 2 * (cs.length : Int) ≤ (busyD 6 cs).2 * lines := by
  have hd := deep_of h
  have hs := sum_le (busyD lines.toNat cs).1 (busyD lines.toNat cs).2 fun x hx => (hd.1 x hx).2
  have hl := low_busy 6 cs
  have h1 := h.1
  rw [busyD_length, show ((lines.toNat : Nat) : Int) = lines by omega, Int.mul_comm] at hs
  have h3 := hd.2.2
  rw [dep_eq h] at hs
  exact ⟨hl.2.1, hl.2.2, by omega⟩
theorem dep_less {lines : Int} {cs : List (Int × Int)} (h : NV lines cs) (h0 : cs.length ≠ 0) : (busyD 6 (cs.take (cs.length - 1))).2 = (busyD 6 cs).2 ∨ (busyD 6 (cs.take (cs.length - 1))).2 = (busyD 6 cs).2 - 1 := by
  have hk : cs.length - 1 < cs.length := by omega
  have e := take_one hk
  rw [show cs.length - 1 + 1 = cs.length by omega, List.take_of_length_le (Nat.le_refl _)] at e
  have ht := h.take (cs.length - 1)
  rw [← dep_eq h, ← dep_eq ht]
  have hc := h.2 _ (getD_mem hk)
  have hn : NVc (lines.toNat : Nat) (cs.getD (cs.length - 1) (0, 0)) := by have h1 := h.1; unfold NVc at hc ⊢; omega
  have := (deep_step (deep_of ht) _ (busyD_length _ _) hn).2
  rw [← busyD_snoc, ← e] at this
  omega

theorem implDepth_calls (σ : AHeap) (lines : Int) (v : Value) (cs : List (Int × Int)) (hv : Pairs σ v cs) (hl : cs.length ≤ 1048576) (hf : Fits cs) (hr : InR lines) :
    ACall Try.prog w0 49 [.int .i64 lines, v] σ fun r σ' => r = .int .i64 (depV lines cs) ∧ σ' = σ :=
  ACall.pairs_quiet (pre := [_]) (post := []) (by kernel_rfl) hv fun σ1 h o _ hg => implDepth_at σ1 lines h o cs hg hl hf hr
theorem specDepth_calls (σ : AHeap) (lines : Int) (v : Value) (cs : List (Int × Int)) (hv : Pairs σ v cs) (hl : cs.length ≤ 1048576) (hf : Fits cs) (hr : InR lines) :
    ACall Try.prog w0 50 [.int .i64 lines, v] σ fun r σ' => r = .int .i64 (depV lines cs) ∧ σ' = σ :=
  ACall.pairs_quiet (pre := [_]) (post := []) (by kernel_rfl) hv fun σ1 h o _ hg => specDepth_at σ1 lines h o cs hg hl hf hr
end Go.Proofs.Ytnkpoflhdfchjaa
