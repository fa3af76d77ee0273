/-
  DERIVED. GIVEN WITH THE SEED: THE CARDS: each row of YtafkndnmhhjdhaaGreatDoorRows.lean that lists a variable, with what it lists TIED to the program's text (the seventh form; the later family's looks); each row that meets fmt, with fmt's text TOLD by the authors' own Lean function (tested against real Go, not proved from fmt's source: count such statements apart). THE CARD IS WHAT COUNTS. Prove the row's statement (the work); the ties are given (YtafkndnmhhjdhaaGreatDoorTie.lean); close each card by the builder's one call (the guide's Derived/Test/ToyasCard.lean, 'card_holds'). Laid BY PROGRAM, IN A SANDBOX (cutbox-door.mjs). By AI agents, Wed Nov 11 2026. No macro, syntax, notation, axiom, sorry.
-/
import Derived.Test.YtafkndnmhhjdhaaGreatDoorRows
import GoSem.ClaimSeven
namespace Go.Proofs.YtafkndnmhhjdhaaGreatDoor
namespace Rows

/-- THE TIED CARD OF 'laws.FnExactExLine'. -/
def fnExactExLineCard : Claim7 := { stood := { row := fnExactExLineRow, standIns := [], harness := (true, "9d3f3d71d64b8c1bfa80a1d95480293ddc13a75f35240ade3a6869a6f1699200"), looks := true }, kinds := [], alts := [], laidByText := true, laidKinds := [.data, .data, .data, .sentinel, .sentinel], laidTests := true, laidLooks := .later }
def FnExactExLineCardSaid : Prop := Claim7.holds Tryz.pinned (.plain (OpenSpec.ofChange fnExactExLineSpec)) fnExactExLineCard

/-- THE TIED CARD OF 'laws.FnExactExLines'. -/
def fnExactExLinesCard : Claim7 := { stood := { row := fnExactExLinesRow, standIns := [], harness := (true, "9d3f3d71d64b8c1bfa80a1d95480293ddc13a75f35240ade3a6869a6f1699200"), looks := true }, kinds := [], alts := [], laidByText := true, laidKinds := [.data, .data, .data, .sentinel, .sentinel], laidTests := true, laidLooks := .later }
def FnExactExLinesCardSaid : Prop := Claim7.holds Tryz.pinned (.plain (OpenSpec.ofChange fnExactExLinesSpec)) fnExactExLinesCard

/-- THE SECOND FORM's CARD OF 'laws.FnExactExLine'. -/
def fnExactExLineUptoCard : Claim7 := { stood := { row := fnExactExLineUptoRow, standIns := [], harness := (true, "9d3f3d71d64b8c1bfa80a1d95480293ddc13a75f35240ade3a6869a6f1699200"), looks := true }, kinds := [], alts := [], laidByText := true, laidKinds := [.data, .data, .data, .sentinel, .sentinel], laidTests := true, laidLooks := .later }
def FnExactExLineUptoCardSaid : Prop := Claim7.holds Tryz.pinned (.plain (OpenSpec.upto fnExactExLineSpec)) fnExactExLineUptoCard

/-- THE SECOND FORM's CARD OF 'laws.FnExactExLines'. -/
def fnExactExLinesUptoCard : Claim7 := { stood := { row := fnExactExLinesUptoRow, standIns := [], harness := (true, "9d3f3d71d64b8c1bfa80a1d95480293ddc13a75f35240ade3a6869a6f1699200"), looks := true }, kinds := [], alts := [], laidByText := true, laidKinds := [.data, .data, .data, .sentinel, .sentinel], laidTests := true, laidLooks := .later }
def FnExactExLinesUptoCardSaid : Prop := Claim7.holds Tryz.pinned (.plain (OpenSpec.upto fnExactExLinesSpec)) fnExactExLinesUptoCard
end Rows
end Go.Proofs.YtafkndnmhhjdhaaGreatDoor
