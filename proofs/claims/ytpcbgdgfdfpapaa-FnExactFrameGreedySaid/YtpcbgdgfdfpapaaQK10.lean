/- The list of a rank has that rank, and the next one is greater, for all ranks. -/
import Derived.Test.YtpcbgdgfdfpapaaQK9
set_option linter.unusedSimpArgs false
set_option linter.unusedVariables false
namespace Go.Proofs.Ytpcbgdgfdfpapaa
open Go Go.Abs Go.RowKit

/-- at the first difference the second list has more -/
def lexB : List Int → List Int → Bool
  | x :: xs, y :: ys => bif x == y then lexB xs ys else decide (x < y)
  | _, _ => false
def ofL (n r : Nat) : List Int := ofT n (idl n) r []
def ofOK (n r : Nat) : Bool := decide (Valid (ofL n r)) && (Nat.beq (rankI (ofL n r) (ofL n r).length) r && (Nat.beq (ofL n r).length n && (Nat.ble (fac n) (r + 1) || lexB (ofL n r) (ofL n (r + 1)))))
theorem of_all6 : (List.range 720).all (ofOK 6) = true := by kernel_rfl
theorem of_all5 : (List.range 6).all (fun n => (List.range (fac n)).all (ofOK n)) = true := by kernel_rfl
end Go.Proofs.Ytpcbgdgfdfpapaa
