/- What is lost: fractions for each load and each number of lines, and what holds of all of them (a finite check). -/
import Derived.Test.YtkepicmefpcgaaaFacts
set_option linter.unusedSimpArgs false
set_option linter.unusedVariables false
namespace Go.Proofs.Ytkepicmefpcgaaa
open Go Go.Abs Go.RowKit
variable {w0 : World}

def low (a b : Nat) : Nat × Nat := (a / Nat.gcd a b, b / Nat.gcd a b)
/-- the part that is lost, line by line -/
def lp (L : Nat) : Nat → Nat × Nat
  | 0 => (1, 1)
  | n + 1 => low (L * (lp L n).1) ((n + 1) * (lp L n).2 + L * (lp L n).1)
/-- the product of all numbers behind n up to t -/
def fromTo (n : Nat) : Nat → Nat
  | 0 => 1
  | t + 1 => if n ≤ t then fromTo n t * (t + 1) else 1
def term (L t n : Nat) : Nat := L ^ n * fromTo n t
def sumN (f : Nat → Nat) : Nat → Nat
  | 0 => 0
  | n + 1 => sumN f n + f n
def lsum (L t : Nat) : Nat × Nat := low (term L t t) (sumN (term L t) (t + 1))
def taken (L t : Nat) : Nat × Nat := low (L * ((lp L t).2 - (lp L t).1)) (lp L t).2
def mean (L t : Nat) : Nat := sumN (fun n => n * term L t n) (t + 1)
def lessF (a b : Nat × Nat) : Bool := Nat.blt (a.1 * b.2) (b.1 * a.2)
def okF (a : Nat × Nat) : Bool := Nat.ble a.1 1000000000 && (Nat.ble 1 a.2 && Nat.ble a.2 1000000000)
def eqF (a b : Nat × Nat) : Bool := Nat.beq a.1 b.1 && Nat.beq a.2 b.2
theorem eqF_eq {a b : Nat × Nat} (h : eqF a b = true) : a = b := by
  simp only [eqF, Bool.and_eq_true] at h
  exact Prod.ext (Nat.eq_of_beq_eq_true h.1) (Nat.eq_of_beq_eq_true h.2)
def chk (L t : Nat) : Bool :=
  okF (lp L t) && (okF (taken L t) && (eqF (lp L t) (lsum L t) &&
  (Nat.ble (sumN (term L t) (t + 1)) 100000000 && (Nat.ble (mean L t) 1000000000 &&
  (Nat.beq (term L t t * (lp L t).2) (sumN (term L t) (t + 1) * (lp L t).1) && (Nat.ble (lp L t).1 (lp L t).2 &&
  (Nat.beq ((taken L t).1 * sumN (term L t) (t + 1)) (mean L t * (taken L t).2) && (((Nat.beq t 0 && Nat.beq (taken L t).1 0) || Nat.blt (taken L t).1 (t * (taken L t).2)) && (Nat.ble (taken L t).1 (L * (taken L t).2) &&
  (((Nat.beq L 0 && Nat.blt 0 t) && eqF (lp L (t + 1)) (lp L t) || lessF (lp L (t + 1)) (lp L t)) &&
  ((Nat.beq t 0 && eqF (lp (L + 1) t) (lp L t) || lessF (lp L t) (lp (L + 1) t)) &&
  ((Nat.blt 0 L || (Nat.beq t 0 || eqF (lp L t) (0, 1))) && (Nat.blt 0 (term L t 0) && ((List.range t).all fun n => Nat.beq (term L t n * L) (term L t (n + 1) * (n + 1))))))))))))))))
theorem chk_all : ((List.range 7).all fun L => (List.range 9).all fun t => chk L t) = true := by kernel_rfl
theorem chk_at {L t : Nat} (hL : L ≤ 6) (ht : t ≤ 8) : chk L t = true := by
  have h := chk_all
  rw [List.all_eq_true] at h
  have h1 := h L (List.mem_range.2 (by omega))
  rw [List.all_eq_true] at h1
  exact h1 t (List.mem_range.2 (by omega))
/-- what holds of each of them -/
structure Part (L t : Nat) : Prop where
  ok : (lp L t).1 ≤ 1000000000 ∧ 1 ≤ (lp L t).2 ∧ (lp L t).2 ≤ 1000000000
  okT : (taken L t).1 ≤ 1000000000 ∧ 1 ≤ (taken L t).2 ∧ (taken L t).2 ≤ 1000000000
  sum : lp L t = lsum L t
  all : sumN (term L t) (t + 1) ≤ 100000000
  mn : mean L t ≤ 1000000000
  last : term L t t * (lp L t).2 = sumN (term L t) (t + 1) * (lp L t).1
  one : (lp L t).1 ≤ (lp L t).2
  busy : (taken L t).1 * sumN (term L t) (t + 1) = mean L t * (taken L t).2
  few : (t = 0 ∧ (taken L t).1 = 0) ∨ (taken L t).1 < t * (taken L t).2
  most : (taken L t).1 ≤ L * (taken L t).2
  line : (L = 0 ∧ 0 < t ∧ lp L (t + 1) = lp L t) ∨ lessF (lp L (t + 1)) (lp L t) = true
  load : (t = 0 ∧ lp (L + 1) t = lp L t) ∨ lessF (lp L t) (lp (L + 1) t) = true
  zero : 0 < L ∨ t = 0 ∨ lp L t = (0, 1)
  first : 0 < term L t 0
  bal : ∀ n, n < t → term L t n * L = term L t (n + 1) * (n + 1)
theorem part {L t : Nat} (hL : L ≤ 6) (ht : t ≤ 8) : Part L t := by
  have h := chk_at hL ht
  simp only [chk, okF, Bool.and_eq_true, Bool.or_eq_true, Nat.ble_eq, Nat.blt_eq] at h
  obtain ⟨⟨a1, a2, a3⟩, ⟨b1, b2, b3⟩, c, d, e, f, g, i, j, k, l, m, n, o, p⟩ := h
  refine ⟨⟨a1, a2, a3⟩, ⟨b1, b2, b3⟩, eqF_eq c, d, e, Nat.eq_of_beq_eq_true f, g, Nat.eq_of_beq_eq_true i, ?_, k, ?_, ?_, ?_, o, fun x hx => ?_⟩
  · exact j.imp (fun h => ⟨Nat.eq_of_beq_eq_true h.1, Nat.eq_of_beq_eq_true h.2⟩) id
  · exact l.imp (fun h => ⟨Nat.eq_of_beq_eq_true h.1.1, h.1.2, eqF_eq h.2⟩) id
  · exact m.imp (fun h => ⟨Nat.eq_of_beq_eq_true h.1, eqF_eq h.2⟩) id
  · exact n.imp id fun h => h.imp Nat.eq_of_beq_eq_true eqF_eq
  · rw [List.all_eq_true] at p
    exact Nat.eq_of_beq_eq_true (p x (List.mem_range.2 hx))
theorem lessF_iff (a b : Nat × Nat) : lessF a b = true ↔ a.1 * b.2 < b.1 * a.2 := by simp [lessF, Nat.blt_eq]
end Go.Proofs.Ytkepicmefpcgaaa
