/- An exchange of two numbers keeps a list valid. -/
import Derived.Test.YtdgbaglhhhbbhaaPg
import Derived.Test.YtdgbaglhhhbbhaaPm
set_option linter.unusedSimpArgs false
set_option linter.unusedVariables false
namespace Go.Proofs.Ytdgbaglhhhbbhaa
open Go Go.Abs Go.RowKit

theorem swp_perm {xs : List Int} {a b : Nat} (ha : a < xs.length) (hb : b < xs.length) : (swp xs a b).Perm xs := by
  have e1 : xs.getD a 0 = xs[a] := by simp [List.getD, ha]
  have e2 : xs.getD b 0 = xs[b] := by simp [List.getD, hb]
  unfold swp
  rw [e1, e2]
  exact List.set_set_perm ha hb
theorem valid_swp {xs : List Int} {a b : Nat} (hV : Valid xs) (ha : a < xs.length) (hb : b < xs.length) : Valid (swp xs a b) := by
  have hp := swp_perm ha hb
  refine ⟨⟨fun x hx => ?_, hp.nodup_iff.2 hV.1.2⟩, by rw [swp_length]; exact hV.2⟩
  rw [swp_length]
  exact hV.1.1 x (hp.mem_iff.1 hx)

def swapF (xs : List Int) : Int := xs.length - ((cyc xs xs.length).2 : Int)
theorem swapV_eq {xs : List Int} (h : Valid xs) : swapV xs = swapF xs := by unfold swapV cycV swapF; rw [if_pos h, if_pos h]
def someB (xs : List Int) (a : Nat) : Nat → Bool → Bool
  | 0, s => s
  | b + 1, s => someB xs a b s || (swapF (swp xs a b) == swapF xs - 1)
def someA (xs : List Int) : Nat → Bool
  | 0 => swapF xs == 0
  | a + 1 => someB xs a a (someA xs a)
def swapsOK (xs : List Int) : Bool :=
  (List.range xs.length).all (fun a => (List.range a).all fun b => decide (swapF xs - 1 ≤ swapF (swp xs a b))) && (someA xs xs.length && ((swapF xs == 0) == (crossI xs xs.length == 0)))
theorem swapsOK_le {xs : List Int} (h : swapsOK xs = true) {a b : Nat} (ha : a < xs.length) (hb : b < a) : swapF xs - 1 ≤ swapF (swp xs a b) := by
  unfold swapsOK at h
  rw [Bool.and_eq_true] at h
  have h1 := List.all_eq_true.1 h.1 a (by simpa using ha)
  have h2 := List.all_eq_true.1 h1 b (by simpa using hb)
  simpa using h2
theorem swapsOK_end {xs : List Int} (h : swapsOK xs = true) : someA xs xs.length = true ∧ ((swapF xs = 0) ↔ (crossI xs xs.length = 0)) := by
  unfold swapsOK at h
  rw [Bool.and_eq_true, Bool.and_eq_true] at h
  refine ⟨h.2.1, ?_⟩
  have := h.2.2
  rw [beq_iff_eq] at this
  constructor
  · intro e; rw [e] at this; simpa using this.symm
  · intro e; rw [e] at this; simpa using this

end Go.Proofs.Ytdgbaglhhhbbhaa
