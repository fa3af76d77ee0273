/- The rank of a list leads back to the list, for all valid ones. -/
import Derived.Test.YtpcbgdgfdfpapaaQa
set_option linter.unusedSimpArgs false
set_option linter.unusedVariables false
namespace Go.Proofs.Ytpcbgdgfdfpapaa
open Go Go.Abs Go.RowKit

/-- the same from the front -/
def ofT : Nat → List Int → Nat → List Int → List Int
  | 0, _, _, out => out
  | m + 1, lf, r, out => ofT m (lf.take (r / fac m) ++ lf.drop (r / fac m + 1)) (r % fac m) (out ++ [lf.getD (r / fac m) 0])
theorem ofT_eq (n r : Nat) : ∀ m k, k + m = n → (ofS n r n).2.2 = ofT m (ofS n r k).1 (ofS n r k).2.1 (ofS n r k).2.2
  | 0, k, h => by obtain rfl : k = n := by omega
                  rfl
  | m + 1, k, h => by
    rw [ofT_eq n r m (k + 1) (by omega)]
    have e : n - 1 - k = m := by omega
    simp only [ofS, ofT, e]
def rankOK (xs : List Int) : Bool := Nat.blt (rankI xs xs.length) (fac xs.length) && (ofT xs.length (idl xs.length) (rankI xs xs.length) [] == xs)
theorem rank_all : allV.all rankOK = true := by kernel_rfl
end Go.Proofs.Ytpcbgdgfdfpapaa
