/-
  No cell of these rows narrows 'for every input' (looked for: loops, veiled, ifaces, maps, wideKeys, modest, calm, conditions, laid).
  DERIVED. THE GIVEN ROWS OF THIS SEAT. 14 by the template 'for every input the law returns true; each argument reads behind the call as it read before'; 0 by the template 'total and deterministic' (their statements: YtkepicmefpcgaaaTotals.lean).
  GIVEN WITH THE SEED: the statements are not yours to turn. If you find one false, say at which input.
  Laid BY PROGRAM, IN A SANDBOX (cutbox-rows.mjs): the forced cells as the released guide's own fill.sh prints them over the translation f587fb220432a441… (all of the seat's roots in one cut). By AI agents, Wed Nov 11 2026. No macro, syntax, notation, axiom, sorry.
-/
import Derived.Test.YtkepicmefpcgaaaChecked
import GoSem.Claim
import GoSem.ClaimJoined
import GoSem.ClaimMapViews
import Derived.JoinedTies
import Derived.KernelRfl
namespace Go.Proofs.Ytkepicmefpcgaaa
/- THE CELL 'sum', in the pinned program and in every row, IS THE sha256 OF THE DUMP (.gsa) THAT YtkepicmefpcgaaaProg.lean LOADS. Nothing in Lean hashes anything: it is a label: what it is worth is what the hold of that sum in a sandbox is worth. -/
noncomputable def Try.pinned : Pinned := { name := "ytkepicmefpcgaaa", sum := "f587fb220432a441c63117d4ebb4cdce10b5fbab83b9e4deff3b2ebff5c08dfc", checked := Try.checked }
namespace Rows
def none {H : Type} : Left H := { results := [], args := [] }

/-- 'laws.FnFracValid': WHATEVER THE INPUT: true; the input reads as it did. -/
def fnFracValidSpec : ChangeSpec := { name := "fnFracValid", fn := fun _ => fun
  | [d] => { results := [.lit (.bool true)], args := [d] }
  | _ => none }
def fnFracValidRow : OpenClaim := { program := "ytkepicmefpcgaaa", sum := "f587fb220432a441c63117d4ebb4cdce10b5fbab83b9e4deff3b2ebff5c08dfc", func := "loop.example/circuitswitching/laws.FnFracValid", spec := "fnFracValid", apart := false }
def FnFracValidSaid : Prop := fnFracValidRow.holds Try.pinned (OpenSpec.ofChange fnFracValidSpec)

/-- ITS FALSE NEIGHBOUR: 'it returns false'. Refute it at one input. -/
def fnFracValidWrong : ChangeSpec := { name := "fnFracValid", fn := fun _ => fun
  | [d] => { results := [.lit (.bool false)], args := [d] }
  | _ => none }
def FnFracValidWrongFalsely : Prop := fnFracValidRow.holds Try.pinned (OpenSpec.ofChange fnFracValidWrong)

/-- 'laws.FnFracLess': WHATEVER THE INPUT: true; the input reads as it did. -/
def fnFracLessSpec : ChangeSpec := { name := "fnFracLess", fn := fun _ => fun
  | [d] => { results := [.lit (.bool true)], args := [d] }
  | _ => none }
def fnFracLessRow : OpenClaim := { program := "ytkepicmefpcgaaa", sum := "f587fb220432a441c63117d4ebb4cdce10b5fbab83b9e4deff3b2ebff5c08dfc", func := "loop.example/circuitswitching/laws.FnFracLess", spec := "fnFracLess", apart := false }
def FnFracLessSaid : Prop := fnFracLessRow.holds Try.pinned (OpenSpec.ofChange fnFracLessSpec)

/-- ITS FALSE NEIGHBOUR: 'it returns false'. Refute it at one input. -/
def fnFracLessWrong : ChangeSpec := { name := "fnFracLess", fn := fun _ => fun
  | [d] => { results := [.lit (.bool false)], args := [d] }
  | _ => none }
def FnFracLessWrongFalsely : Prop := fnFracLessRow.holds Try.pinned (OpenSpec.ofChange fnFracLessWrong)

/-- 'laws.FnLostPart': WHATEVER THE INPUT: true; the input reads as it did. -/
def fnLostPartSpec : ChangeSpec := { name := "fnLostPart", fn := fun _ => fun
  | [d] => { results := [.lit (.bool true)], args := [d] }
  | _ => none }
def fnLostPartRow : OpenClaim := { program := "ytkepicmefpcgaaa", sum := "f587fb220432a441c63117d4ebb4cdce10b5fbab83b9e4deff3b2ebff5c08dfc", func := "loop.example/circuitswitching/laws.FnLostPart", spec := "fnLostPart", apart := false }
def FnLostPartSaid : Prop := fnLostPartRow.holds Try.pinned (OpenSpec.ofChange fnLostPartSpec)

/-- ITS FALSE NEIGHBOUR: 'it returns false'. Refute it at one input. -/
def fnLostPartWrong : ChangeSpec := { name := "fnLostPart", fn := fun _ => fun
  | [d] => { results := [.lit (.bool false)], args := [d] }
  | _ => none }
def FnLostPartWrongFalsely : Prop := fnLostPartRow.holds Try.pinned (OpenSpec.ofChange fnLostPartWrong)

/-- 'laws.FnLostSum': WHATEVER THE INPUT: true; the input reads as it did. -/
def fnLostSumSpec : ChangeSpec := { name := "fnLostSum", fn := fun _ => fun
  | [d] => { results := [.lit (.bool true)], args := [d] }
  | _ => none }
def fnLostSumRow : OpenClaim := { program := "ytkepicmefpcgaaa", sum := "f587fb220432a441c63117d4ebb4cdce10b5fbab83b9e4deff3b2ebff5c08dfc", func := "loop.example/circuitswitching/laws.FnLostSum", spec := "fnLostSum", apart := false }
def FnLostSumSaid : Prop := fnLostSumRow.holds Try.pinned (OpenSpec.ofChange fnLostSumSpec)

/-- ITS FALSE NEIGHBOUR: 'it returns false'. Refute it at one input. -/
def fnLostSumWrong : ChangeSpec := { name := "fnLostSum", fn := fun _ => fun
  | [d] => { results := [.lit (.bool false)], args := [d] }
  | _ => none }
def FnLostSumWrongFalsely : Prop := fnLostSumRow.holds Try.pinned (OpenSpec.ofChange fnLostSumWrong)

/-- 'laws.FnTakenLoad': WHATEVER THE INPUT: true; the input reads as it did. -/
def fnTakenLoadSpec : ChangeSpec := { name := "fnTakenLoad", fn := fun _ => fun
  | [d] => { results := [.lit (.bool true)], args := [d] }
  | _ => none }
def fnTakenLoadRow : OpenClaim := { program := "ytkepicmefpcgaaa", sum := "f587fb220432a441c63117d4ebb4cdce10b5fbab83b9e4deff3b2ebff5c08dfc", func := "loop.example/circuitswitching/laws.FnTakenLoad", spec := "fnTakenLoad", apart := false }
def FnTakenLoadSaid : Prop := fnTakenLoadRow.holds Try.pinned (OpenSpec.ofChange fnTakenLoadSpec)

/-- ITS FALSE NEIGHBOUR: 'it returns false'. Refute it at one input. -/
def fnTakenLoadWrong : ChangeSpec := { name := "fnTakenLoad", fn := fun _ => fun
  | [d] => { results := [.lit (.bool false)], args := [d] }
  | _ => none }
def FnTakenLoadWrongFalsely : Prop := fnTakenLoadRow.holds Try.pinned (OpenSpec.ofChange fnTakenLoadWrong)

/-- 'laws.FnBusyParts': WHATEVER THE INPUT: true; the input reads as it did. -/
def fnBusyPartsSpec : ChangeSpec := { name := "fnBusyParts", fn := fun _ => fun
  | [d] => { results := [.lit (.bool true)], args := [d] }
  | _ => none }
def fnBusyPartsRow : OpenClaim := { program := "ytkepicmefpcgaaa", sum := "f587fb220432a441c63117d4ebb4cdce10b5fbab83b9e4deff3b2ebff5c08dfc", func := "loop.example/circuitswitching/laws.FnBusyParts", spec := "fnBusyParts", apart := false }
def FnBusyPartsSaid : Prop := fnBusyPartsRow.holds Try.pinned (OpenSpec.ofChange fnBusyPartsSpec)

/-- ITS FALSE NEIGHBOUR: 'it returns false'. Refute it at one input. -/
def fnBusyPartsWrong : ChangeSpec := { name := "fnBusyParts", fn := fun _ => fun
  | [d] => { results := [.lit (.bool false)], args := [d] }
  | _ => none }
def FnBusyPartsWrongFalsely : Prop := fnBusyPartsRow.holds Try.pinned (OpenSpec.ofChange fnBusyPartsWrong)

/-- 'laws.FnTrunksFor': WHATEVER THE INPUT: true; the input reads as it did. -/
def fnTrunksForSpec : ChangeSpec := { name := "fnTrunksFor", fn := fun _ => fun
  | [d] => { results := [.lit (.bool true)], args := [d] }
  | _ => none }
def fnTrunksForRow : OpenClaim := { program := "ytkepicmefpcgaaa", sum := "f587fb220432a441c63117d4ebb4cdce10b5fbab83b9e4deff3b2ebff5c08dfc", func := "loop.example/circuitswitching/laws.FnTrunksFor", spec := "fnTrunksFor", apart := false }
def FnTrunksForSaid : Prop := fnTrunksForRow.holds Try.pinned (OpenSpec.ofChange fnTrunksForSpec)

/-- ITS FALSE NEIGHBOUR: 'it returns false'. Refute it at one input. -/
def fnTrunksForWrong : ChangeSpec := { name := "fnTrunksFor", fn := fun _ => fun
  | [d] => { results := [.lit (.bool false)], args := [d] }
  | _ => none }
def FnTrunksForWrongFalsely : Prop := fnTrunksForRow.holds Try.pinned (OpenSpec.ofChange fnTrunksForWrong)

/-- 'laws.FnExactFracValid': WHATEVER THE INPUT: true; the input reads as it did. -/
def fnExactFracValidSpec : ChangeSpec := { name := "fnExactFracValid", fn := fun _ => fun
  | [d] => { results := [.lit (.bool true)], args := [d] }
  | _ => none }
def fnExactFracValidRow : OpenClaim := { program := "ytkepicmefpcgaaa", sum := "f587fb220432a441c63117d4ebb4cdce10b5fbab83b9e4deff3b2ebff5c08dfc", func := "loop.example/circuitswitching/laws.FnExactFracValid", spec := "fnExactFracValid", apart := false }
def FnExactFracValidSaid : Prop := fnExactFracValidRow.holds Try.pinned (OpenSpec.ofChange fnExactFracValidSpec)

/-- ITS FALSE NEIGHBOUR: 'it returns false'. Refute it at one input. -/
def fnExactFracValidWrong : ChangeSpec := { name := "fnExactFracValid", fn := fun _ => fun
  | [d] => { results := [.lit (.bool false)], args := [d] }
  | _ => none }
def FnExactFracValidWrongFalsely : Prop := fnExactFracValidRow.holds Try.pinned (OpenSpec.ofChange fnExactFracValidWrong)

/-- 'laws.FnExactFracLess': WHATEVER THE INPUT: true; the input reads as it did. -/
def fnExactFracLessSpec : ChangeSpec := { name := "fnExactFracLess", fn := fun _ => fun
  | [d1, d2] => { results := [.lit (.bool true)], args := [d1, d2] }
  | _ => none }
def fnExactFracLessRow : OpenClaim := { program := "ytkepicmefpcgaaa", sum := "f587fb220432a441c63117d4ebb4cdce10b5fbab83b9e4deff3b2ebff5c08dfc", func := "loop.example/circuitswitching/laws.FnExactFracLess", spec := "fnExactFracLess", apart := false }
def FnExactFracLessSaid : Prop := fnExactFracLessRow.holds Try.pinned (OpenSpec.ofChange fnExactFracLessSpec)

/-- ITS FALSE NEIGHBOUR: 'it returns false'. Refute it at one input. -/
def fnExactFracLessWrong : ChangeSpec := { name := "fnExactFracLess", fn := fun _ => fun
  | [d1, d2] => { results := [.lit (.bool false)], args := [d1, d2] }
  | _ => none }
def FnExactFracLessWrongFalsely : Prop := fnExactFracLessRow.holds Try.pinned (OpenSpec.ofChange fnExactFracLessWrong)

/-- 'laws.FnExactLostPart': WHATEVER THE INPUT: true; the input reads as it did. -/
def fnExactLostPartSpec : ChangeSpec := { name := "fnExactLostPart", fn := fun _ => fun
  | [d1, d2] => { results := [.lit (.bool true)], args := [d1, d2] }
  | _ => none }
def fnExactLostPartRow : OpenClaim := { program := "ytkepicmefpcgaaa", sum := "f587fb220432a441c63117d4ebb4cdce10b5fbab83b9e4deff3b2ebff5c08dfc", func := "loop.example/circuitswitching/laws.FnExactLostPart", spec := "fnExactLostPart", apart := false }
def FnExactLostPartSaid : Prop := fnExactLostPartRow.holds Try.pinned (OpenSpec.ofChange fnExactLostPartSpec)

/-- ITS FALSE NEIGHBOUR: 'it returns false'. Refute it at one input. -/
def fnExactLostPartWrong : ChangeSpec := { name := "fnExactLostPart", fn := fun _ => fun
  | [d1, d2] => { results := [.lit (.bool false)], args := [d1, d2] }
  | _ => none }
def FnExactLostPartWrongFalsely : Prop := fnExactLostPartRow.holds Try.pinned (OpenSpec.ofChange fnExactLostPartWrong)

/-- 'laws.FnExactLostSum': WHATEVER THE INPUT: true; the input reads as it did. -/
def fnExactLostSumSpec : ChangeSpec := { name := "fnExactLostSum", fn := fun _ => fun
  | [d1, d2] => { results := [.lit (.bool true)], args := [d1, d2] }
  | _ => none }
def fnExactLostSumRow : OpenClaim := { program := "ytkepicmefpcgaaa", sum := "f587fb220432a441c63117d4ebb4cdce10b5fbab83b9e4deff3b2ebff5c08dfc", func := "loop.example/circuitswitching/laws.FnExactLostSum", spec := "fnExactLostSum", apart := false }
def FnExactLostSumSaid : Prop := fnExactLostSumRow.holds Try.pinned (OpenSpec.ofChange fnExactLostSumSpec)

/-- ITS FALSE NEIGHBOUR: 'it returns false'. Refute it at one input. -/
def fnExactLostSumWrong : ChangeSpec := { name := "fnExactLostSum", fn := fun _ => fun
  | [d1, d2] => { results := [.lit (.bool false)], args := [d1, d2] }
  | _ => none }
def FnExactLostSumWrongFalsely : Prop := fnExactLostSumRow.holds Try.pinned (OpenSpec.ofChange fnExactLostSumWrong)

/-- 'laws.FnExactTakenLoad': WHATEVER THE INPUT: true; the input reads as it did. -/
def fnExactTakenLoadSpec : ChangeSpec := { name := "fnExactTakenLoad", fn := fun _ => fun
  | [d1, d2] => { results := [.lit (.bool true)], args := [d1, d2] }
  | _ => none }
def fnExactTakenLoadRow : OpenClaim := { program := "ytkepicmefpcgaaa", sum := "f587fb220432a441c63117d4ebb4cdce10b5fbab83b9e4deff3b2ebff5c08dfc", func := "loop.example/circuitswitching/laws.FnExactTakenLoad", spec := "fnExactTakenLoad", apart := false }
def FnExactTakenLoadSaid : Prop := fnExactTakenLoadRow.holds Try.pinned (OpenSpec.ofChange fnExactTakenLoadSpec)

/-- ITS FALSE NEIGHBOUR: 'it returns false'. Refute it at one input. -/
def fnExactTakenLoadWrong : ChangeSpec := { name := "fnExactTakenLoad", fn := fun _ => fun
  | [d1, d2] => { results := [.lit (.bool false)], args := [d1, d2] }
  | _ => none }
def FnExactTakenLoadWrongFalsely : Prop := fnExactTakenLoadRow.holds Try.pinned (OpenSpec.ofChange fnExactTakenLoadWrong)

/-- 'laws.FnExactBusyParts': WHATEVER THE INPUT: true; the input reads as it did. -/
def fnExactBusyPartsSpec : ChangeSpec := { name := "fnExactBusyParts", fn := fun _ => fun
  | [d1, d2] => { results := [.lit (.bool true)], args := [d1, d2] }
  | _ => none }
def fnExactBusyPartsRow : OpenClaim := { program := "ytkepicmefpcgaaa", sum := "f587fb220432a441c63117d4ebb4cdce10b5fbab83b9e4deff3b2ebff5c08dfc", func := "loop.example/circuitswitching/laws.FnExactBusyParts", spec := "fnExactBusyParts", apart := false }
def FnExactBusyPartsSaid : Prop := fnExactBusyPartsRow.holds Try.pinned (OpenSpec.ofChange fnExactBusyPartsSpec)

/-- ITS FALSE NEIGHBOUR: 'it returns false'. Refute it at one input. -/
def fnExactBusyPartsWrong : ChangeSpec := { name := "fnExactBusyParts", fn := fun _ => fun
  | [d1, d2] => { results := [.lit (.bool false)], args := [d1, d2] }
  | _ => none }
def FnExactBusyPartsWrongFalsely : Prop := fnExactBusyPartsRow.holds Try.pinned (OpenSpec.ofChange fnExactBusyPartsWrong)

/-- 'laws.FnExactTrunksFor': WHATEVER THE INPUT: true; the input reads as it did. -/
def fnExactTrunksForSpec : ChangeSpec := { name := "fnExactTrunksFor", fn := fun _ => fun
  | [d1, d2] => { results := [.lit (.bool true)], args := [d1, d2] }
  | _ => none }
def fnExactTrunksForRow : OpenClaim := { program := "ytkepicmefpcgaaa", sum := "f587fb220432a441c63117d4ebb4cdce10b5fbab83b9e4deff3b2ebff5c08dfc", func := "loop.example/circuitswitching/laws.FnExactTrunksFor", spec := "fnExactTrunksFor", apart := false }
def FnExactTrunksForSaid : Prop := fnExactTrunksForRow.holds Try.pinned (OpenSpec.ofChange fnExactTrunksForSpec)

/-- ITS FALSE NEIGHBOUR: 'it returns false'. Refute it at one input. -/
def fnExactTrunksForWrong : ChangeSpec := { name := "fnExactTrunksFor", fn := fun _ => fun
  | [d1, d2] => { results := [.lit (.bool false)], args := [d1, d2] }
  | _ => none }
def FnExactTrunksForWrongFalsely : Prop := fnExactTrunksForRow.holds Try.pinned (OpenSpec.ofChange fnExactTrunksForWrong)

/- THE SECOND FORM. 'bulk': how many values and letters a reading holds, each counted each time it is reached (what is shared counts as often as it is met; a slice's spare places count too). A statement '..UptoSaid' is the law's where the arguments, and the package variables that the reading takes, are together of bulk at most 1048576: NARROWER than '..Said'. Prove '..Said' where nothing that the law and all that it calls make is longer than what came in: it says more and counts as full. Else prove '..UptoSaid'. A law counts once. -/
mutual
def uptoBulk {H : Type} : DataW H → Nat
  | .lit (.string bytes) => bytes.length + 1
  | .lit _ => 1
  | .nil => 1
  | .ptr d => uptoBulk d + 1
  | .slice elems spare => uptoBulkAll elems + uptoBulkAll spare + 1
  | .agg parts => uptoBulkAll parts + 1
  | .iface _ d => uptoBulk d + 1
  | .map entries => uptoBulkEntries entries + 1
  | .held _ => 1
def uptoBulkAll {H : Type} : List (DataW H) → Nat
  | [] => 0
  | d :: r => uptoBulk d + uptoBulkAll r
def uptoBulkEntries {H : Type} : List (Lit × DataW H) → Nat
  | [] => 0
  | x :: r => uptoBulkEntry x + uptoBulkEntries r
def uptoBulkEntry {H : Type} : Lit × DataW H → Nat
  | (.string bytes, d) => bytes.length + uptoBulk d + 1
  | (_, d) => uptoBulk d + 1
 end
def uptoSmall : (H : Type) → List (DataW H) → Bool := fun _ ds => decide (uptoBulkAll ds ≤ 1048576)
def OpenSpec.upto (s : _root_.Go.ChangeSpec) : _root_.Go.OpenSpec := { _root_.Go.OpenSpec.ofChange s with cond := some uptoSmall }

/-- 'laws.FnFracValid', WHERE WHAT IT READS IS OF BULK AT MOST 1048576: true; the input reads as it did. -/
def fnFracValidUptoRow : OpenClaim := { program := "ytkepicmefpcgaaa", sum := "f587fb220432a441c63117d4ebb4cdce10b5fbab83b9e4deff3b2ebff5c08dfc", func := "loop.example/circuitswitching/laws.FnFracValid", spec := "fnFracValid", apart := false, narrowed := true }
def FnFracValidUptoSaid : Prop := fnFracValidUptoRow.holds Try.pinned (OpenSpec.upto fnFracValidSpec)

/-- 'laws.FnFracLess', WHERE WHAT IT READS IS OF BULK AT MOST 1048576: true; the input reads as it did. -/
def fnFracLessUptoRow : OpenClaim := { program := "ytkepicmefpcgaaa", sum := "f587fb220432a441c63117d4ebb4cdce10b5fbab83b9e4deff3b2ebff5c08dfc", func := "loop.example/circuitswitching/laws.FnFracLess", spec := "fnFracLess", apart := false, narrowed := true }
def FnFracLessUptoSaid : Prop := fnFracLessUptoRow.holds Try.pinned (OpenSpec.upto fnFracLessSpec)

/-- 'laws.FnLostPart', WHERE WHAT IT READS IS OF BULK AT MOST 1048576: true; the input reads as it did. -/
def fnLostPartUptoRow : OpenClaim := { program := "ytkepicmefpcgaaa", sum := "f587fb220432a441c63117d4ebb4cdce10b5fbab83b9e4deff3b2ebff5c08dfc", func := "loop.example/circuitswitching/laws.FnLostPart", spec := "fnLostPart", apart := false, narrowed := true }
def FnLostPartUptoSaid : Prop := fnLostPartUptoRow.holds Try.pinned (OpenSpec.upto fnLostPartSpec)

/-- 'laws.FnLostSum', WHERE WHAT IT READS IS OF BULK AT MOST 1048576: true; the input reads as it did. -/
def fnLostSumUptoRow : OpenClaim := { program := "ytkepicmefpcgaaa", sum := "f587fb220432a441c63117d4ebb4cdce10b5fbab83b9e4deff3b2ebff5c08dfc", func := "loop.example/circuitswitching/laws.FnLostSum", spec := "fnLostSum", apart := false, narrowed := true }
def FnLostSumUptoSaid : Prop := fnLostSumUptoRow.holds Try.pinned (OpenSpec.upto fnLostSumSpec)

/-- 'laws.FnTakenLoad', WHERE WHAT IT READS IS OF BULK AT MOST 1048576: true; the input reads as it did. -/
def fnTakenLoadUptoRow : OpenClaim := { program := "ytkepicmefpcgaaa", sum := "f587fb220432a441c63117d4ebb4cdce10b5fbab83b9e4deff3b2ebff5c08dfc", func := "loop.example/circuitswitching/laws.FnTakenLoad", spec := "fnTakenLoad", apart := false, narrowed := true }
def FnTakenLoadUptoSaid : Prop := fnTakenLoadUptoRow.holds Try.pinned (OpenSpec.upto fnTakenLoadSpec)

/-- 'laws.FnBusyParts', WHERE WHAT IT READS IS OF BULK AT MOST 1048576: true; the input reads as it did. -/
def fnBusyPartsUptoRow : OpenClaim := { program := "ytkepicmefpcgaaa", sum := "f587fb220432a441c63117d4ebb4cdce10b5fbab83b9e4deff3b2ebff5c08dfc", func := "loop.example/circuitswitching/laws.FnBusyParts", spec := "fnBusyParts", apart := false, narrowed := true }
def FnBusyPartsUptoSaid : Prop := fnBusyPartsUptoRow.holds Try.pinned (OpenSpec.upto fnBusyPartsSpec)

/-- 'laws.FnTrunksFor', WHERE WHAT IT READS IS OF BULK AT MOST 1048576: true; the input reads as it did. -/
def fnTrunksForUptoRow : OpenClaim := { program := "ytkepicmefpcgaaa", sum := "f587fb220432a441c63117d4ebb4cdce10b5fbab83b9e4deff3b2ebff5c08dfc", func := "loop.example/circuitswitching/laws.FnTrunksFor", spec := "fnTrunksFor", apart := false, narrowed := true }
def FnTrunksForUptoSaid : Prop := fnTrunksForUptoRow.holds Try.pinned (OpenSpec.upto fnTrunksForSpec)

/-- 'laws.FnExactFracValid', WHERE WHAT IT READS IS OF BULK AT MOST 1048576: true; the input reads as it did. -/
def fnExactFracValidUptoRow : OpenClaim := { program := "ytkepicmefpcgaaa", sum := "f587fb220432a441c63117d4ebb4cdce10b5fbab83b9e4deff3b2ebff5c08dfc", func := "loop.example/circuitswitching/laws.FnExactFracValid", spec := "fnExactFracValid", apart := false, narrowed := true }
def FnExactFracValidUptoSaid : Prop := fnExactFracValidUptoRow.holds Try.pinned (OpenSpec.upto fnExactFracValidSpec)

/-- 'laws.FnExactFracLess', WHERE WHAT IT READS IS OF BULK AT MOST 1048576: true; the input reads as it did. -/
def fnExactFracLessUptoRow : OpenClaim := { program := "ytkepicmefpcgaaa", sum := "f587fb220432a441c63117d4ebb4cdce10b5fbab83b9e4deff3b2ebff5c08dfc", func := "loop.example/circuitswitching/laws.FnExactFracLess", spec := "fnExactFracLess", apart := false, narrowed := true }
def FnExactFracLessUptoSaid : Prop := fnExactFracLessUptoRow.holds Try.pinned (OpenSpec.upto fnExactFracLessSpec)

/-- 'laws.FnExactLostPart', WHERE WHAT IT READS IS OF BULK AT MOST 1048576: true; the input reads as it did. -/
def fnExactLostPartUptoRow : OpenClaim := { program := "ytkepicmefpcgaaa", sum := "f587fb220432a441c63117d4ebb4cdce10b5fbab83b9e4deff3b2ebff5c08dfc", func := "loop.example/circuitswitching/laws.FnExactLostPart", spec := "fnExactLostPart", apart := false, narrowed := true }
def FnExactLostPartUptoSaid : Prop := fnExactLostPartUptoRow.holds Try.pinned (OpenSpec.upto fnExactLostPartSpec)

/-- 'laws.FnExactLostSum', WHERE WHAT IT READS IS OF BULK AT MOST 1048576: true; the input reads as it did. -/
def fnExactLostSumUptoRow : OpenClaim := { program := "ytkepicmefpcgaaa", sum := "f587fb220432a441c63117d4ebb4cdce10b5fbab83b9e4deff3b2ebff5c08dfc", func := "loop.example/circuitswitching/laws.FnExactLostSum", spec := "fnExactLostSum", apart := false, narrowed := true }
def FnExactLostSumUptoSaid : Prop := fnExactLostSumUptoRow.holds Try.pinned (OpenSpec.upto fnExactLostSumSpec)

/-- 'laws.FnExactTakenLoad', WHERE WHAT IT READS IS OF BULK AT MOST 1048576: true; the input reads as it did. -/
def fnExactTakenLoadUptoRow : OpenClaim := { program := "ytkepicmefpcgaaa", sum := "f587fb220432a441c63117d4ebb4cdce10b5fbab83b9e4deff3b2ebff5c08dfc", func := "loop.example/circuitswitching/laws.FnExactTakenLoad", spec := "fnExactTakenLoad", apart := false, narrowed := true }
def FnExactTakenLoadUptoSaid : Prop := fnExactTakenLoadUptoRow.holds Try.pinned (OpenSpec.upto fnExactTakenLoadSpec)

/-- 'laws.FnExactBusyParts', WHERE WHAT IT READS IS OF BULK AT MOST 1048576: true; the input reads as it did. -/
def fnExactBusyPartsUptoRow : OpenClaim := { program := "ytkepicmefpcgaaa", sum := "f587fb220432a441c63117d4ebb4cdce10b5fbab83b9e4deff3b2ebff5c08dfc", func := "loop.example/circuitswitching/laws.FnExactBusyParts", spec := "fnExactBusyParts", apart := false, narrowed := true }
def FnExactBusyPartsUptoSaid : Prop := fnExactBusyPartsUptoRow.holds Try.pinned (OpenSpec.upto fnExactBusyPartsSpec)

/-- 'laws.FnExactTrunksFor', WHERE WHAT IT READS IS OF BULK AT MOST 1048576: true; the input reads as it did. -/
def fnExactTrunksForUptoRow : OpenClaim := { program := "ytkepicmefpcgaaa", sum := "f587fb220432a441c63117d4ebb4cdce10b5fbab83b9e4deff3b2ebff5c08dfc", func := "loop.example/circuitswitching/laws.FnExactTrunksFor", spec := "fnExactTrunksFor", apart := false, narrowed := true }
def FnExactTrunksForUptoSaid : Prop := fnExactTrunksForUptoRow.holds Try.pinned (OpenSpec.upto fnExactTrunksForSpec)

end Rows
end Go.Proofs.Ytkepicmefpcgaaa
