/- A drawing's state: the reader, what was there, what is new. -/
import Derived.Test.YtkepicmefpcgaaaYa
set_option linter.unusedSimpArgs false
set_option linter.unusedVariables false
namespace Go.Proofs.Ytkepicmefpcgaaa
open Go Go.Abs Go.RowKit
variable {w0 : World}

theorem acodeB_monoY {P : Program} {b : Base} {n : NR} {c : Code} {a : AFrame} {σ : AHeap} {Q Q' : AQ} (h : ACodeB P b n c a σ Q') (hq : ∀ e a σ, Q' e a σ → Q e a σ) : ACodeB P b n c a σ Q := ACode.mono h hq
/-- all but the reader -/
theorem less_keptY {g : Nat} {σ τ : AHeap} (h : Kept g σ τ) : Sub (σ.upd g none) τ := fun k ob e => by
  by_cases hk : k = g
  · subst hk; rw [AHeap.upd_same] at e; cases e
  · rw [AHeap.upd_ne _ _ hk] at e; exact h k ob hk e
/-- a drawing: the reader, and what was there -/
structure DS (β σ0 σ : AHeap) (g h o : Nat) (bs : List Int) (p : Int) : Prop where
  rd : Rd β σ g h o bs p
  kp : Kept g σ0 σ
  s0 : Sub β σ0
section
variable {β σ0 σ τ : AHeap} {g h o c : Nat} {bs : List Int} {p p' : Int}
theorem DS.start (hr : Rd β σ g h o bs p) : DS β σ σ g h o bs p := ⟨hr, Kept.refl _ _, hr.sub⟩
theorem DS.new (d : DS β σ0 σ g h o bs p) (hs : Sub σ τ) : DS β σ0 τ g h o bs p := ⟨d.rd.sub' hs, d.kp.trans hs.kept, d.s0⟩
theorem DS.put (d : DS β σ0 σ g h o bs p) (hk : Kept c σ τ) (hc : c ≠ g) (hn : σ0 c = none) : DS β σ0 τ g h o bs p := ⟨d.rd.put hk hc (free_sub d.s0 hn), d.kp.step hk (.inl hn), d.s0⟩
theorem DS.step (d : DS β σ0 σ g h o bs p) (hR : Rd β τ g h o bs p') (hK : Kept g σ τ) : DS β σ0 τ g h o bs p' := ⟨hR, d.kp.trans hK, d.s0⟩
theorem DS.fresh (d : DS β σ0 σ g h o bs p) (hn : σ c = none) : σ0 c = none ∧ c ≠ g := by
  have hc : c ≠ g := ne_of hn d.rd.at_
  refine ⟨?_, hc⟩
  cases e : σ0 c with
  | none => rfl
  | some ob => rw [d.kp c ob hc e] at hn; cases hn
theorem DS.on (d : DS β σ0 σ g h o bs p) (d2 : DS β σ τ g h o bs p') : DS β σ0 τ g h o bs p' := ⟨d2.rd, d.kp.trans d2.kp, d.s0⟩
end
end Go.Proofs.Ytkepicmefpcgaaa
