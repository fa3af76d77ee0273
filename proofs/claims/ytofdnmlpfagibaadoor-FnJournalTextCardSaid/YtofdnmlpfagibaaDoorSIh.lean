/- Parts. -/
import Derived.Test.YtofdnmlpfagibaaDoorSIg
import Derived.Test.YtofdnmlpfagibaaDoorCards
import Derived.Test.YtofdnmlpfagibaaDoorTie
import Derived.Deep.DeepHandedRow
import Derived.SevenTiedAt
import Derived.LaidMore
import Derived.MakeChecks
import Derived.Stop.LaidErr
import Derived.Stop.Joined
set_option linter.unusedSimpArgs false
set_option linter.unusedVariables false
set_option linter.unusedSectionVars false
namespace Go.Proofs.YtofdnmlpfagibaaDoor
open Go Go.Abs Go.RowKit Go.Dial Go.Clos
theorem glob_m {W : World} (h : W.ShapedOpen Tryd.prog) : GlobM W := ⟨Tryd.laysM145.s1_3 W h⟩
def starT : String := match (Rows.laid_strconv_ErrSyntax : DataW Unit) with
 | .iface t _ => t
 | _ => ""
theorem row_err (u : TypeId) (h : Tryd.prog.typeName? 3 u = some starT) : u = 134 :=
 typeName_ptr_named (nm := "errors.errorString") (by simp only [String.reduceAppend]; kernel_rfl) (by kernel_rfl) (by decide) u (by simp only [String.reduceAppend]; exact h)
theorem cells_err : Tryd.prog.cellsOf 136 = 1 := by kernel_rfl
theorem cells_str : Tryd.prog.cellsOf 9 = 1 := by kernel_rfl
theorem type_errS : (Tryd.prog.globals[Tryd.laysC172_ren.g 15]?).map (·.type) = some 58 := by kernel_rfl
theorem type_errR : (Tryd.prog.globals[Tryd.laysC172_ren.g 16]?).map (·.type) = some 58 := by kernel_rfl
theorem glob_e {W : World} {a b c : String × DataW Unit} (h : laidMet Tryd.prog [a, b, c, ("strconv.ErrRange", Rows.laid_strconv_ErrRange), ("strconv.ErrSyntax", Rows.laid_strconv_ErrSyntax)] W) : GlobE W := by
 have h3 := h.tail.tail.tail
 obtain ⟨a0, s0, hv0, -, -, -⟩ := laid_sentinel h3 Tryd.laysC172.m16 type_errR Tryd.underlying58 row_err Tryd.underlying134 Tryd.underlying136 rfl rfl Tryd.underlying9 cells_err cells_str
 obtain ⟨a1, s1, hv1, -, -, -⟩ := laid_sentinel h3.tail Tryd.laysC172.m15 type_errS Tryd.underlying58 row_err Tryd.underlying134 Tryd.underlying136 rfl rfl Tryd.underlying9 cells_err cells_str
 exact ⟨⟨_, _, hv1⟩, ⟨_, _, hv0⟩⟩
theorem isTrue_looks : true = Tryd.pinned.checked.prog.looks [] := by kernel_rfl
end Go.Proofs.YtofdnmlpfagibaaDoor
