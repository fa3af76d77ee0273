/- What the Fn laws of chapter 6 share: helpers of the laws. -/
import Derived.Test.YtnenopebfobajaaIxC
import Derived.Test.YtnenopebfobajaaGdD
set_option linter.unusedSimpArgs false
set_option linter.unusedVariables false
namespace Go.Proofs.Ytnenopebfobajaa
open Go Go.Abs Go.RowKit Go.Dial
variable {w0 : World}

theorem texts_lenV {σ : AHeap} {v : Value} {xs : List (List UInt8)} (h : Texts σ v xs) : ∃ ad z, v = .slice ad xs.length z := by
  rcases h with ⟨rfl, rfl⟩ | ⟨g, o, rfl, -⟩
  · exact ⟨none, 0, rfl⟩
  · exact ⟨_, _, rfl⟩
theorem ruts_lenV {σ : AHeap} {v : Value} {xs : List Rt} (h : Ruts σ v xs) : ∃ ad z, v = .slice ad xs.length z := by
  rcases h with ⟨rfl, rfl⟩ | ⟨g, o, rfl, -⟩
  · exact ⟨none, 0, rfl⟩
  · exact ⟨_, _, rfl⟩
theorem ints_lenV {κ : IntKind} {σ : AHeap} {v : Value} {xs : List Int} (h : Ints κ σ v xs) : ∃ ad z, v = .slice ad xs.length z := by
  rcases h with ⟨rfl, rfl⟩ | ⟨g, o, rfl, -⟩
  · exact ⟨none, 0, rfl⟩
  · exact ⟨_, _, rfl⟩

variable {P : Program} {w0 : Base} {n : NR} {a : AFrame} {σ : AHeap} {K : AK} {Q : AQ} {q : Bool} {all os : List Oper}
variable {d : Nat} {dd : Option Tmp} {ty : TypeId} {pos : String} {af : Array Edge}
/-- append a row of integers that may be nil to a row of one's own -/
theorem r_pushIV {t u : TypeId} {zv : Value} {b : Nat} {x y : Operand} {g len : Nat} {k : IntKind} {xs ys : List Int} (hE : Elems P t 1 zv b) (hb : b ≤ 64) (hu : ∃ e2, P.underlying u = some (.slice e2))
    (hx : ev a x = .slice (some ⟨g, 0, none⟩) len 1) (hg : σ g = some ⟨ints k xs, false⟩) (hn : xs.length = len) (hy : Ints k σ (ev a y) ys) (hl : len + ys.length ≤ 4294967296)
    (hk : ∀ g' τ, σ g' = none → Kept g σ τ → τ g' = some ⟨ints k (xs ++ ys), false⟩ → vcR P w0 false all os (fset a d (.slice (some ⟨g', 0, none⟩) (len + ys.length) 1)) τ K) :
    vcR P w0 false all (⟨some d, .call ⟨.builtin .append, #[x, y], #[t, u]⟩, ty, pos, af, none⟩ :: os) a σ K := by
  rcases hy with ⟨e, rfl⟩ | ⟨h, o, e, hat⟩
  · subst hn
    refine r_push hE hu hx hg (by rw [ints_length]; omega) (D := []) (by rw [e]; rfl) rfl ?_ fun g' τ h1 h2 h3 => ?_
    · have : xs.length * 1 * b ≤ 4294967296 * 64 := Nat.mul_le_mul (by simp at hl; omega) hb
      simp at hl
      refine ⟨?_, ?_⟩
      · show (xs.length * 1 + 0) * b ≤ _
        rw [Nat.add_zero]; omega
      · show xs.length * 1 + 0 ≤ _
        omega
    · exact hk g' τ h1 h2 (by rw [List.append_nil]; rwa [List.append_nil] at h3)
  · exact r_pushI hE hb hu hx hg hn e hat rfl hl hk
/-- the same of routes -/
theorem r_pushRV {t u : TypeId} {zv : Value} {b : Nat} {x y : Operand} {g len : Nat} {xs ys : List Rt} (hE : Elems P t 2 zv b) (hb : b ≤ 64) (hu : ∃ e2, P.underlying u = some (.slice e2))
    (hx : ev a x = .slice (some ⟨g, 0, none⟩) len 2) (hg : σ g = some ⟨ruts xs, false⟩) (hn : xs.length = len) (hy : Ruts σ (ev a y) ys) (hl : len + ys.length ≤ 4294967296)
    (hk : ∀ g' τ, σ g' = none → Kept g σ τ → τ g' = some ⟨ruts (xs ++ ys), false⟩ → vcR P w0 false all os (fset a d (.slice (some ⟨g', 0, none⟩) (len + ys.length) 2)) τ K) :
    vcR P w0 false all (⟨some d, .call ⟨.builtin .append, #[x, y], #[t, u]⟩, ty, pos, af, none⟩ :: os) a σ K := by
  rcases hy with ⟨e, rfl⟩ | ⟨h, o, e, hat⟩
  · subst hn
    refine r_push hE hu hx hg (by rw [ruts_length]) (D := []) (by rw [e]; rfl) rfl ?_ fun g' τ h1 h2 h3 => ?_
    · have : xs.length * 2 * b ≤ 4294967296 * 2 * 64 := Nat.mul_le_mul (by simp at hl; omega) hb
      simp at hl
      refine ⟨?_, ?_⟩
      · show (xs.length * 2 + 0) * b ≤ _
        rw [Nat.add_zero]; omega
      · show xs.length * 2 + 0 ≤ _
        omega
    · exact hk g' τ h1 h2 (by rw [List.append_nil]; rwa [List.append_nil] at h3)
  · exact r_pushR hE hb hu hx hg hn e hat rfl hl hk
end Go.Proofs.Ytnenopebfobajaa
