/-
  DERIVED. GIVEN WITH THE SEED: THE CARDS: each row of YtofdnmlpfagibaaGreatDoorRows.lean that lists a variable, with what it lists TIED to the program's text (the seventh form; the later family's looks); each row that meets fmt, with fmt's text TOLD by the authors' own Lean function (tested against real Go, not proved from fmt's source: count such statements apart). THE CARD IS WHAT COUNTS. Prove the row's statement (the work); the ties are given (YtofdnmlpfagibaaGreatDoorTie.lean); close each card by the builder's one call (the guide's Derived/Test/ToyasCard.lean, 'card_holds'). Laid BY PROGRAM, IN A SANDBOX (cutbox-door.mjs). By AI agents, Wed Nov 11 2026. No macro, syntax, notation, axiom, sorry.
-/
import Derived.Test.YtofdnmlpfagibaaGreatDoorRows
import GoSem.ClaimSeven
namespace Go.Proofs.YtofdnmlpfagibaaGreatDoor
namespace Rows

/-- THE TIED CARD OF 'laws.FnReadJournal'. -/
def fnReadJournalCard : Claim7 := { stood := { row := fnReadJournalRow, standIns := [], harness := (true, "f100464e7c3a812902fab380087987d2c6d90799f9957343ee3a2f0f4f5c6128"), looks := true }, kinds := [], alts := [], laidByText := true, laidKinds := [.data, .data, .data, .sentinel, .sentinel], laidTests := true, laidLooks := .later }
def FnReadJournalCardSaid : Prop := Claim7.holds Tryz.pinned (.plain (OpenSpec.ofChange fnReadJournalSpec)) fnReadJournalCard

/-- THE TIED CARD OF 'laws.FnExLine'. -/
def fnExLineCard : Claim7 := { stood := { row := fnExLineRow, standIns := [], harness := (true, "f100464e7c3a812902fab380087987d2c6d90799f9957343ee3a2f0f4f5c6128"), looks := true }, kinds := [], alts := [], laidByText := true, laidKinds := [.data, .data, .data, .sentinel, .sentinel], laidTests := true, laidLooks := .later }
def FnExLineCardSaid : Prop := Claim7.holds Tryz.pinned (.plain (OpenSpec.ofChange fnExLineSpec)) fnExLineCard

/-- THE TIED CARD OF 'laws.FnExLines'. -/
def fnExLinesCard : Claim7 := { stood := { row := fnExLinesRow, standIns := [], harness := (true, "f100464e7c3a812902fab380087987d2c6d90799f9957343ee3a2f0f4f5c6128"), looks := true }, kinds := [], alts := [], laidByText := true, laidKinds := [.data, .data, .data, .sentinel, .sentinel], laidTests := true, laidLooks := .later }
def FnExLinesCardSaid : Prop := Claim7.holds Tryz.pinned (.plain (OpenSpec.ofChange fnExLinesSpec)) fnExLinesCard

/-- THE SECOND FORM's CARD OF 'laws.FnReadJournal'. -/
def fnReadJournalUptoCard : Claim7 := { stood := { row := fnReadJournalUptoRow, standIns := [], harness := (true, "f100464e7c3a812902fab380087987d2c6d90799f9957343ee3a2f0f4f5c6128"), looks := true }, kinds := [], alts := [], laidByText := true, laidKinds := [.data, .data, .data, .sentinel, .sentinel], laidTests := true, laidLooks := .later }
def FnReadJournalUptoCardSaid : Prop := Claim7.holds Tryz.pinned (.plain (OpenSpec.upto fnReadJournalSpec)) fnReadJournalUptoCard

/-- THE SECOND FORM's CARD OF 'laws.FnExLine'. -/
def fnExLineUptoCard : Claim7 := { stood := { row := fnExLineUptoRow, standIns := [], harness := (true, "f100464e7c3a812902fab380087987d2c6d90799f9957343ee3a2f0f4f5c6128"), looks := true }, kinds := [], alts := [], laidByText := true, laidKinds := [.data, .data, .data, .sentinel, .sentinel], laidTests := true, laidLooks := .later }
def FnExLineUptoCardSaid : Prop := Claim7.holds Tryz.pinned (.plain (OpenSpec.upto fnExLineSpec)) fnExLineUptoCard

/-- THE SECOND FORM's CARD OF 'laws.FnExLines'. -/
def fnExLinesUptoCard : Claim7 := { stood := { row := fnExLinesUptoRow, standIns := [], harness := (true, "f100464e7c3a812902fab380087987d2c6d90799f9957343ee3a2f0f4f5c6128"), looks := true }, kinds := [], alts := [], laidByText := true, laidKinds := [.data, .data, .data, .sentinel, .sentinel], laidTests := true, laidLooks := .later }
def FnExLinesUptoCardSaid : Prop := Claim7.holds Tryz.pinned (.plain (OpenSpec.upto fnExLinesSpec)) fnExLinesUptoCard
end Rows
end Go.Proofs.YtofdnmlpfagibaaGreatDoor
