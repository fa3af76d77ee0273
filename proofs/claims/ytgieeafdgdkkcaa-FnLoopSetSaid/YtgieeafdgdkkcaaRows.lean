/-
  No cell of these rows narrows 'for every input' (looked for: loops, veiled, ifaces, maps, wideKeys, modest, calm, conditions, laid).
  DERIVED. THE GIVEN ROWS OF THIS SEAT. 16 by the template 'for every input the law returns true; each argument reads behind the call as it read before'; 0 by the template 'total and deterministic' (their statements: YtgieeafdgdkkcaaTotals.lean).
  GIVEN WITH THE SEED: the statements are not yours to turn. If you find one false, say at which input.
  Laid BY PROGRAM, IN A SANDBOX (cutbox-rows.mjs): the forced cells as the released guide's own fill.sh prints them over the translation 191c728c5d3b1e9f… (all of the seat's roots in one cut). By AI agents, Wed Nov 11 2026. No macro, syntax, notation, axiom, sorry.
-/
import Derived.Test.YtgieeafdgdkkcaaChecked
import GoSem.Claim
import GoSem.ClaimJoined
import GoSem.ClaimMapViews
import Derived.JoinedTies
import Derived.KernelRfl
namespace Go.Proofs.Ytgieeafdgdkkcaa
/- THE CELL 'sum', in the pinned program and in every row, IS THE sha256 OF THE DUMP (.gsa) THAT YtgieeafdgdkkcaaProg.lean LOADS. Nothing in Lean hashes anything: it is a label: what it is worth is what the hold of that sum in a sandbox is worth. -/
noncomputable def Try.pinned : Pinned := { name := "ytgieeafdgdkkcaa", sum := "191c728c5d3b1e9f7a9e1f784f187f851882f930f2dfdeb8106594fbb482284e", checked := Try.checked }
namespace Rows
def none {H : Type} : Left H := { results := [], args := [] }

/-- 'laws.FnLoopMany': WHATEVER THE INPUT: true; the input reads as it did. -/
def fnLoopManySpec : ChangeSpec := { name := "fnLoopMany", fn := fun _ => fun
  | [d] => { results := [.lit (.bool true)], args := [d] }
  | _ => none }
def fnLoopManyRow : OpenClaim := { program := "ytgieeafdgdkkcaa", sum := "191c728c5d3b1e9f7a9e1f784f187f851882f930f2dfdeb8106594fbb482284e", func := "loop.example/circuitswitching/laws.FnLoopMany", spec := "fnLoopMany", recurses := true, apart := false }
def FnLoopManySaid : Prop := fnLoopManyRow.holds Try.pinned (OpenSpec.ofChange fnLoopManySpec)

/-- ITS FALSE NEIGHBOUR: 'it returns false'. Refute it at one input. -/
def fnLoopManyWrong : ChangeSpec := { name := "fnLoopMany", fn := fun _ => fun
  | [d] => { results := [.lit (.bool false)], args := [d] }
  | _ => none }
def FnLoopManyWrongFalsely : Prop := fnLoopManyRow.holds Try.pinned (OpenSpec.ofChange fnLoopManyWrong)

/-- 'laws.FnLoopRun': WHATEVER THE INPUT: true; the input reads as it did. -/
def fnLoopRunSpec : ChangeSpec := { name := "fnLoopRun", fn := fun _ => fun
  | [d] => { results := [.lit (.bool true)], args := [d] }
  | _ => none }
def fnLoopRunRow : OpenClaim := { program := "ytgieeafdgdkkcaa", sum := "191c728c5d3b1e9f7a9e1f784f187f851882f930f2dfdeb8106594fbb482284e", func := "loop.example/circuitswitching/laws.FnLoopRun", spec := "fnLoopRun", recurses := true, apart := false }
def FnLoopRunSaid : Prop := fnLoopRunRow.holds Try.pinned (OpenSpec.ofChange fnLoopRunSpec)

/-- ITS FALSE NEIGHBOUR: 'it returns false'. Refute it at one input. -/
def fnLoopRunWrong : ChangeSpec := { name := "fnLoopRun", fn := fun _ => fun
  | [d] => { results := [.lit (.bool false)], args := [d] }
  | _ => none }
def FnLoopRunWrongFalsely : Prop := fnLoopRunRow.holds Try.pinned (OpenSpec.ofChange fnLoopRunWrong)

/-- 'laws.FnLoopSet': WHATEVER THE INPUT: true; the input reads as it did. -/
def fnLoopSetSpec : ChangeSpec := { name := "fnLoopSet", fn := fun _ => fun
  | [d] => { results := [.lit (.bool true)], args := [d] }
  | _ => none }
def fnLoopSetRow : OpenClaim := { program := "ytgieeafdgdkkcaa", sum := "191c728c5d3b1e9f7a9e1f784f187f851882f930f2dfdeb8106594fbb482284e", func := "loop.example/circuitswitching/laws.FnLoopSet", spec := "fnLoopSet", recurses := true, apart := false }
def FnLoopSetSaid : Prop := fnLoopSetRow.holds Try.pinned (OpenSpec.ofChange fnLoopSetSpec)

/-- ITS FALSE NEIGHBOUR: 'it returns false'. Refute it at one input. -/
def fnLoopSetWrong : ChangeSpec := { name := "fnLoopSet", fn := fun _ => fun
  | [d] => { results := [.lit (.bool false)], args := [d] }
  | _ => none }
def FnLoopSetWrongFalsely : Prop := fnLoopSetRow.holds Try.pinned (OpenSpec.ofChange fnLoopSetWrong)

/-- 'laws.FnStepWay': WHATEVER THE INPUT: true; the input reads as it did. -/
def fnStepWaySpec : ChangeSpec := { name := "fnStepWay", fn := fun _ => fun
  | [d] => { results := [.lit (.bool true)], args := [d] }
  | _ => none }
def fnStepWayRow : OpenClaim := { program := "ytgieeafdgdkkcaa", sum := "191c728c5d3b1e9f7a9e1f784f187f851882f930f2dfdeb8106594fbb482284e", func := "loop.example/circuitswitching/laws.FnStepWay", spec := "fnStepWay", apart := false }
def FnStepWaySaid : Prop := fnStepWayRow.holds Try.pinned (OpenSpec.ofChange fnStepWaySpec)

/-- ITS FALSE NEIGHBOUR: 'it returns false'. Refute it at one input. -/
def fnStepWayWrong : ChangeSpec := { name := "fnStepWay", fn := fun _ => fun
  | [d] => { results := [.lit (.bool false)], args := [d] }
  | _ => none }
def FnStepWayWrongFalsely : Prop := fnStepWayRow.holds Try.pinned (OpenSpec.ofChange fnStepWayWrong)

/-- 'laws.FnStepClashes': WHATEVER THE INPUT: true; the input reads as it did. -/
def fnStepClashesSpec : ChangeSpec := { name := "fnStepClashes", fn := fun _ => fun
  | [d] => { results := [.lit (.bool true)], args := [d] }
  | _ => none }
def fnStepClashesRow : OpenClaim := { program := "ytgieeafdgdkkcaa", sum := "191c728c5d3b1e9f7a9e1f784f187f851882f930f2dfdeb8106594fbb482284e", func := "loop.example/circuitswitching/laws.FnStepClashes", spec := "fnStepClashes", apart := false }
def FnStepClashesSaid : Prop := fnStepClashesRow.holds Try.pinned (OpenSpec.ofChange fnStepClashesSpec)

/-- ITS FALSE NEIGHBOUR: 'it returns false'. Refute it at one input. -/
def fnStepClashesWrong : ChangeSpec := { name := "fnStepClashes", fn := fun _ => fun
  | [d] => { results := [.lit (.bool false)], args := [d] }
  | _ => none }
def FnStepClashesWrongFalsely : Prop := fnStepClashesRow.holds Try.pinned (OpenSpec.ofChange fnStepClashesWrong)

/-- 'laws.FnStepMany': WHATEVER THE INPUT: true; the input reads as it did. -/
def fnStepManySpec : ChangeSpec := { name := "fnStepMany", fn := fun _ => fun
  | [d] => { results := [.lit (.bool true)], args := [d] }
  | _ => none }
def fnStepManyRow : OpenClaim := { program := "ytgieeafdgdkkcaa", sum := "191c728c5d3b1e9f7a9e1f784f187f851882f930f2dfdeb8106594fbb482284e", func := "loop.example/circuitswitching/laws.FnStepMany", spec := "fnStepMany", apart := false }
def FnStepManySaid : Prop := fnStepManyRow.holds Try.pinned (OpenSpec.ofChange fnStepManySpec)

/-- ITS FALSE NEIGHBOUR: 'it returns false'. Refute it at one input. -/
def fnStepManyWrong : ChangeSpec := { name := "fnStepMany", fn := fun _ => fun
  | [d] => { results := [.lit (.bool false)], args := [d] }
  | _ => none }
def FnStepManyWrongFalsely : Prop := fnStepManyRow.holds Try.pinned (OpenSpec.ofChange fnStepManyWrong)

/-- 'laws.FnStepRun': WHATEVER THE INPUT: true; the input reads as it did. -/
def fnStepRunSpec : ChangeSpec := { name := "fnStepRun", fn := fun _ => fun
  | [d] => { results := [.lit (.bool true)], args := [d] }
  | _ => none }
def fnStepRunRow : OpenClaim := { program := "ytgieeafdgdkkcaa", sum := "191c728c5d3b1e9f7a9e1f784f187f851882f930f2dfdeb8106594fbb482284e", func := "loop.example/circuitswitching/laws.FnStepRun", spec := "fnStepRun", unfollowed := true, recurses := true, apart := false }
def FnStepRunSaid : Prop := fnStepRunRow.holds Try.pinned (OpenSpec.ofChange fnStepRunSpec)

/-- ITS FALSE NEIGHBOUR: 'it returns false'. Refute it at one input. -/
def fnStepRunWrong : ChangeSpec := { name := "fnStepRun", fn := fun _ => fun
  | [d] => { results := [.lit (.bool false)], args := [d] }
  | _ => none }
def FnStepRunWrongFalsely : Prop := fnStepRunRow.holds Try.pinned (OpenSpec.ofChange fnStepRunWrong)

/-- 'laws.FnStepSet': WHATEVER THE INPUT: true; the input reads as it did. -/
def fnStepSetSpec : ChangeSpec := { name := "fnStepSet", fn := fun _ => fun
  | [d] => { results := [.lit (.bool true)], args := [d] }
  | _ => none }
def fnStepSetRow : OpenClaim := { program := "ytgieeafdgdkkcaa", sum := "191c728c5d3b1e9f7a9e1f784f187f851882f930f2dfdeb8106594fbb482284e", func := "loop.example/circuitswitching/laws.FnStepSet", spec := "fnStepSet", unfollowed := true, recurses := true, apart := false }
def FnStepSetSaid : Prop := fnStepSetRow.holds Try.pinned (OpenSpec.ofChange fnStepSetSpec)

/-- ITS FALSE NEIGHBOUR: 'it returns false'. Refute it at one input. -/
def fnStepSetWrong : ChangeSpec := { name := "fnStepSet", fn := fun _ => fun
  | [d] => { results := [.lit (.bool false)], args := [d] }
  | _ => none }
def FnStepSetWrongFalsely : Prop := fnStepSetRow.holds Try.pinned (OpenSpec.ofChange fnStepSetWrong)

/-- 'laws.FnExactLoopMany': WHATEVER THE INPUT: true; the input reads as it did. -/
def fnExactLoopManySpec : ChangeSpec := { name := "fnExactLoopMany", fn := fun _ => fun
  | [d] => { results := [.lit (.bool true)], args := [d] }
  | _ => none }
def fnExactLoopManyRow : OpenClaim := { program := "ytgieeafdgdkkcaa", sum := "191c728c5d3b1e9f7a9e1f784f187f851882f930f2dfdeb8106594fbb482284e", func := "loop.example/circuitswitching/laws.FnExactLoopMany", spec := "fnExactLoopMany", recurses := true, apart := false }
def FnExactLoopManySaid : Prop := fnExactLoopManyRow.holds Try.pinned (OpenSpec.ofChange fnExactLoopManySpec)

/-- ITS FALSE NEIGHBOUR: 'it returns false'. Refute it at one input. -/
def fnExactLoopManyWrong : ChangeSpec := { name := "fnExactLoopMany", fn := fun _ => fun
  | [d] => { results := [.lit (.bool false)], args := [d] }
  | _ => none }
def FnExactLoopManyWrongFalsely : Prop := fnExactLoopManyRow.holds Try.pinned (OpenSpec.ofChange fnExactLoopManyWrong)

/-- 'laws.FnExactLoopRun': WHATEVER THE INPUT: true; the input reads as it did. -/
def fnExactLoopRunSpec : ChangeSpec := { name := "fnExactLoopRun", fn := fun _ => fun
  | [d1, d2] => { results := [.lit (.bool true)], args := [d1, d2] }
  | _ => none }
def fnExactLoopRunRow : OpenClaim := { program := "ytgieeafdgdkkcaa", sum := "191c728c5d3b1e9f7a9e1f784f187f851882f930f2dfdeb8106594fbb482284e", func := "loop.example/circuitswitching/laws.FnExactLoopRun", spec := "fnExactLoopRun", recurses := true, apart := false }
def FnExactLoopRunSaid : Prop := fnExactLoopRunRow.holds Try.pinned (OpenSpec.ofChange fnExactLoopRunSpec)

/-- ITS FALSE NEIGHBOUR: 'it returns false'. Refute it at one input. -/
def fnExactLoopRunWrong : ChangeSpec := { name := "fnExactLoopRun", fn := fun _ => fun
  | [d1, d2] => { results := [.lit (.bool false)], args := [d1, d2] }
  | _ => none }
def FnExactLoopRunWrongFalsely : Prop := fnExactLoopRunRow.holds Try.pinned (OpenSpec.ofChange fnExactLoopRunWrong)

/-- 'laws.FnExactLoopSet': WHATEVER THE INPUT: true; the input reads as it did. -/
def fnExactLoopSetSpec : ChangeSpec := { name := "fnExactLoopSet", fn := fun _ => fun
  | [d] => { results := [.lit (.bool true)], args := [d] }
  | _ => none }
def fnExactLoopSetRow : OpenClaim := { program := "ytgieeafdgdkkcaa", sum := "191c728c5d3b1e9f7a9e1f784f187f851882f930f2dfdeb8106594fbb482284e", func := "loop.example/circuitswitching/laws.FnExactLoopSet", spec := "fnExactLoopSet", recurses := true, apart := false }
def FnExactLoopSetSaid : Prop := fnExactLoopSetRow.holds Try.pinned (OpenSpec.ofChange fnExactLoopSetSpec)

/-- ITS FALSE NEIGHBOUR: 'it returns false'. Refute it at one input. -/
def fnExactLoopSetWrong : ChangeSpec := { name := "fnExactLoopSet", fn := fun _ => fun
  | [d] => { results := [.lit (.bool false)], args := [d] }
  | _ => none }
def FnExactLoopSetWrongFalsely : Prop := fnExactLoopSetRow.holds Try.pinned (OpenSpec.ofChange fnExactLoopSetWrong)

/-- 'laws.FnExactStepWay': WHATEVER THE INPUT: true; the input reads as it did. -/
def fnExactStepWaySpec : ChangeSpec := { name := "fnExactStepWay", fn := fun _ => fun
  | [d1, d2, d3] => { results := [.lit (.bool true)], args := [d1, d2, d3] }
  | _ => none }
def fnExactStepWayRow : OpenClaim := { program := "ytgieeafdgdkkcaa", sum := "191c728c5d3b1e9f7a9e1f784f187f851882f930f2dfdeb8106594fbb482284e", func := "loop.example/circuitswitching/laws.FnExactStepWay", spec := "fnExactStepWay", apart := false }
def FnExactStepWaySaid : Prop := fnExactStepWayRow.holds Try.pinned (OpenSpec.ofChange fnExactStepWaySpec)

/-- ITS FALSE NEIGHBOUR: 'it returns false'. Refute it at one input. -/
def fnExactStepWayWrong : ChangeSpec := { name := "fnExactStepWay", fn := fun _ => fun
  | [d1, d2, d3] => { results := [.lit (.bool false)], args := [d1, d2, d3] }
  | _ => none }
def FnExactStepWayWrongFalsely : Prop := fnExactStepWayRow.holds Try.pinned (OpenSpec.ofChange fnExactStepWayWrong)

/-- 'laws.FnExactStepClashes': WHATEVER THE INPUT: true; the input reads as it did. -/
def fnExactStepClashesSpec : ChangeSpec := { name := "fnExactStepClashes", fn := fun _ => fun
  | [d] => { results := [.lit (.bool true)], args := [d] }
  | _ => none }
def fnExactStepClashesRow : OpenClaim := { program := "ytgieeafdgdkkcaa", sum := "191c728c5d3b1e9f7a9e1f784f187f851882f930f2dfdeb8106594fbb482284e", func := "loop.example/circuitswitching/laws.FnExactStepClashes", spec := "fnExactStepClashes", apart := false }
def FnExactStepClashesSaid : Prop := fnExactStepClashesRow.holds Try.pinned (OpenSpec.ofChange fnExactStepClashesSpec)

/-- ITS FALSE NEIGHBOUR: 'it returns false'. Refute it at one input. -/
def fnExactStepClashesWrong : ChangeSpec := { name := "fnExactStepClashes", fn := fun _ => fun
  | [d] => { results := [.lit (.bool false)], args := [d] }
  | _ => none }
def FnExactStepClashesWrongFalsely : Prop := fnExactStepClashesRow.holds Try.pinned (OpenSpec.ofChange fnExactStepClashesWrong)

/-- 'laws.FnExactStepMany': WHATEVER THE INPUT: true; the input reads as it did. -/
def fnExactStepManySpec : ChangeSpec := { name := "fnExactStepMany", fn := fun _ => fun
  | [d] => { results := [.lit (.bool true)], args := [d] }
  | _ => none }
def fnExactStepManyRow : OpenClaim := { program := "ytgieeafdgdkkcaa", sum := "191c728c5d3b1e9f7a9e1f784f187f851882f930f2dfdeb8106594fbb482284e", func := "loop.example/circuitswitching/laws.FnExactStepMany", spec := "fnExactStepMany", apart := false }
def FnExactStepManySaid : Prop := fnExactStepManyRow.holds Try.pinned (OpenSpec.ofChange fnExactStepManySpec)

/-- ITS FALSE NEIGHBOUR: 'it returns false'. Refute it at one input. -/
def fnExactStepManyWrong : ChangeSpec := { name := "fnExactStepMany", fn := fun _ => fun
  | [d] => { results := [.lit (.bool false)], args := [d] }
  | _ => none }
def FnExactStepManyWrongFalsely : Prop := fnExactStepManyRow.holds Try.pinned (OpenSpec.ofChange fnExactStepManyWrong)

/-- 'laws.FnExactStepRun': WHATEVER THE INPUT: true; the input reads as it did. -/
def fnExactStepRunSpec : ChangeSpec := { name := "fnExactStepRun", fn := fun _ => fun
  | [d1, d2] => { results := [.lit (.bool true)], args := [d1, d2] }
  | _ => none }
def fnExactStepRunRow : OpenClaim := { program := "ytgieeafdgdkkcaa", sum := "191c728c5d3b1e9f7a9e1f784f187f851882f930f2dfdeb8106594fbb482284e", func := "loop.example/circuitswitching/laws.FnExactStepRun", spec := "fnExactStepRun", unfollowed := true, recurses := true, apart := false }
def FnExactStepRunSaid : Prop := fnExactStepRunRow.holds Try.pinned (OpenSpec.ofChange fnExactStepRunSpec)

/-- ITS FALSE NEIGHBOUR: 'it returns false'. Refute it at one input. -/
def fnExactStepRunWrong : ChangeSpec := { name := "fnExactStepRun", fn := fun _ => fun
  | [d1, d2] => { results := [.lit (.bool false)], args := [d1, d2] }
  | _ => none }
def FnExactStepRunWrongFalsely : Prop := fnExactStepRunRow.holds Try.pinned (OpenSpec.ofChange fnExactStepRunWrong)

/-- 'laws.FnExactStepSet': WHATEVER THE INPUT: true; the input reads as it did. -/
def fnExactStepSetSpec : ChangeSpec := { name := "fnExactStepSet", fn := fun _ => fun
  | [d] => { results := [.lit (.bool true)], args := [d] }
  | _ => none }
def fnExactStepSetRow : OpenClaim := { program := "ytgieeafdgdkkcaa", sum := "191c728c5d3b1e9f7a9e1f784f187f851882f930f2dfdeb8106594fbb482284e", func := "loop.example/circuitswitching/laws.FnExactStepSet", spec := "fnExactStepSet", apart := false }
def FnExactStepSetSaid : Prop := fnExactStepSetRow.holds Try.pinned (OpenSpec.ofChange fnExactStepSetSpec)

/-- ITS FALSE NEIGHBOUR: 'it returns false'. Refute it at one input. -/
def fnExactStepSetWrong : ChangeSpec := { name := "fnExactStepSet", fn := fun _ => fun
  | [d] => { results := [.lit (.bool false)], args := [d] }
  | _ => none }
def FnExactStepSetWrongFalsely : Prop := fnExactStepSetRow.holds Try.pinned (OpenSpec.ofChange fnExactStepSetWrong)

/- THE SECOND FORM. 'bulk': how many values and letters a reading holds, each counted each time it is reached (what is shared counts as often as it is met; a slice's spare places count too). A statement '..UptoSaid' is the law's where the arguments, and the package variables that the reading takes, are together of bulk at most 1048576: NARROWER than '..Said'. Prove '..Said' where nothing that the law and all that it calls make is longer than what came in: it says more and counts as full. Else prove '..UptoSaid'. A law counts once. -/
mutual
def uptoBulk {H : Type} : DataW H → Nat
  | .lit (.string bytes) => bytes.length + 1
  | .lit _ => 1
  | .nil => 1
  | .ptr d => uptoBulk d + 1
  | .slice elems spare => uptoBulkAll elems + uptoBulkAll spare + 1
  | .agg parts => uptoBulkAll parts + 1
  | .iface _ d => uptoBulk d + 1
  | .map entries => uptoBulkEntries entries + 1
  | .held _ => 1
def uptoBulkAll {H : Type} : List (DataW H) → Nat
  | [] => 0
  | d :: r => uptoBulk d + uptoBulkAll r
def uptoBulkEntries {H : Type} : List (Lit × DataW H) → Nat
  | [] => 0
  | x :: r => uptoBulkEntry x + uptoBulkEntries r
def uptoBulkEntry {H : Type} : Lit × DataW H → Nat
  | (.string bytes, d) => bytes.length + uptoBulk d + 1
  | (_, d) => uptoBulk d + 1
 end
def uptoSmall : (H : Type) → List (DataW H) → Bool := fun _ ds => decide (uptoBulkAll ds ≤ 1048576)
def OpenSpec.upto (s : _root_.Go.ChangeSpec) : _root_.Go.OpenSpec := { _root_.Go.OpenSpec.ofChange s with cond := some uptoSmall }

/-- 'laws.FnLoopMany', WHERE WHAT IT READS IS OF BULK AT MOST 1048576: true; the input reads as it did. -/
def fnLoopManyUptoRow : OpenClaim := { program := "ytgieeafdgdkkcaa", sum := "191c728c5d3b1e9f7a9e1f784f187f851882f930f2dfdeb8106594fbb482284e", func := "loop.example/circuitswitching/laws.FnLoopMany", spec := "fnLoopMany", recurses := true, apart := false, narrowed := true }
def FnLoopManyUptoSaid : Prop := fnLoopManyUptoRow.holds Try.pinned (OpenSpec.upto fnLoopManySpec)

/-- 'laws.FnLoopRun', WHERE WHAT IT READS IS OF BULK AT MOST 1048576: true; the input reads as it did. -/
def fnLoopRunUptoRow : OpenClaim := { program := "ytgieeafdgdkkcaa", sum := "191c728c5d3b1e9f7a9e1f784f187f851882f930f2dfdeb8106594fbb482284e", func := "loop.example/circuitswitching/laws.FnLoopRun", spec := "fnLoopRun", recurses := true, apart := false, narrowed := true }
def FnLoopRunUptoSaid : Prop := fnLoopRunUptoRow.holds Try.pinned (OpenSpec.upto fnLoopRunSpec)

/-- 'laws.FnLoopSet', WHERE WHAT IT READS IS OF BULK AT MOST 1048576: true; the input reads as it did. -/
def fnLoopSetUptoRow : OpenClaim := { program := "ytgieeafdgdkkcaa", sum := "191c728c5d3b1e9f7a9e1f784f187f851882f930f2dfdeb8106594fbb482284e", func := "loop.example/circuitswitching/laws.FnLoopSet", spec := "fnLoopSet", recurses := true, apart := false, narrowed := true }
def FnLoopSetUptoSaid : Prop := fnLoopSetUptoRow.holds Try.pinned (OpenSpec.upto fnLoopSetSpec)

/-- 'laws.FnStepWay', WHERE WHAT IT READS IS OF BULK AT MOST 1048576: true; the input reads as it did. -/
def fnStepWayUptoRow : OpenClaim := { program := "ytgieeafdgdkkcaa", sum := "191c728c5d3b1e9f7a9e1f784f187f851882f930f2dfdeb8106594fbb482284e", func := "loop.example/circuitswitching/laws.FnStepWay", spec := "fnStepWay", apart := false, narrowed := true }
def FnStepWayUptoSaid : Prop := fnStepWayUptoRow.holds Try.pinned (OpenSpec.upto fnStepWaySpec)

/-- 'laws.FnStepClashes', WHERE WHAT IT READS IS OF BULK AT MOST 1048576: true; the input reads as it did. -/
def fnStepClashesUptoRow : OpenClaim := { program := "ytgieeafdgdkkcaa", sum := "191c728c5d3b1e9f7a9e1f784f187f851882f930f2dfdeb8106594fbb482284e", func := "loop.example/circuitswitching/laws.FnStepClashes", spec := "fnStepClashes", apart := false, narrowed := true }
def FnStepClashesUptoSaid : Prop := fnStepClashesUptoRow.holds Try.pinned (OpenSpec.upto fnStepClashesSpec)

/-- 'laws.FnStepMany', WHERE WHAT IT READS IS OF BULK AT MOST 1048576: true; the input reads as it did. -/
def fnStepManyUptoRow : OpenClaim := { program := "ytgieeafdgdkkcaa", sum := "191c728c5d3b1e9f7a9e1f784f187f851882f930f2dfdeb8106594fbb482284e", func := "loop.example/circuitswitching/laws.FnStepMany", spec := "fnStepMany", apart := false, narrowed := true }
def FnStepManyUptoSaid : Prop := fnStepManyUptoRow.holds Try.pinned (OpenSpec.upto fnStepManySpec)

/-- 'laws.FnStepRun', WHERE WHAT IT READS IS OF BULK AT MOST 1048576: true; the input reads as it did. -/
def fnStepRunUptoRow : OpenClaim := { program := "ytgieeafdgdkkcaa", sum := "191c728c5d3b1e9f7a9e1f784f187f851882f930f2dfdeb8106594fbb482284e", func := "loop.example/circuitswitching/laws.FnStepRun", spec := "fnStepRun", unfollowed := true, recurses := true, apart := false, narrowed := true }
def FnStepRunUptoSaid : Prop := fnStepRunUptoRow.holds Try.pinned (OpenSpec.upto fnStepRunSpec)

/-- 'laws.FnStepSet', WHERE WHAT IT READS IS OF BULK AT MOST 1048576: true; the input reads as it did. -/
def fnStepSetUptoRow : OpenClaim := { program := "ytgieeafdgdkkcaa", sum := "191c728c5d3b1e9f7a9e1f784f187f851882f930f2dfdeb8106594fbb482284e", func := "loop.example/circuitswitching/laws.FnStepSet", spec := "fnStepSet", unfollowed := true, recurses := true, apart := false, narrowed := true }
def FnStepSetUptoSaid : Prop := fnStepSetUptoRow.holds Try.pinned (OpenSpec.upto fnStepSetSpec)

/-- 'laws.FnExactLoopMany', WHERE WHAT IT READS IS OF BULK AT MOST 1048576: true; the input reads as it did. -/
def fnExactLoopManyUptoRow : OpenClaim := { program := "ytgieeafdgdkkcaa", sum := "191c728c5d3b1e9f7a9e1f784f187f851882f930f2dfdeb8106594fbb482284e", func := "loop.example/circuitswitching/laws.FnExactLoopMany", spec := "fnExactLoopMany", recurses := true, apart := false, narrowed := true }
def FnExactLoopManyUptoSaid : Prop := fnExactLoopManyUptoRow.holds Try.pinned (OpenSpec.upto fnExactLoopManySpec)

/-- 'laws.FnExactLoopRun', WHERE WHAT IT READS IS OF BULK AT MOST 1048576: true; the input reads as it did. -/
def fnExactLoopRunUptoRow : OpenClaim := { program := "ytgieeafdgdkkcaa", sum := "191c728c5d3b1e9f7a9e1f784f187f851882f930f2dfdeb8106594fbb482284e", func := "loop.example/circuitswitching/laws.FnExactLoopRun", spec := "fnExactLoopRun", recurses := true, apart := false, narrowed := true }
def FnExactLoopRunUptoSaid : Prop := fnExactLoopRunUptoRow.holds Try.pinned (OpenSpec.upto fnExactLoopRunSpec)

/-- 'laws.FnExactLoopSet', WHERE WHAT IT READS IS OF BULK AT MOST 1048576: true; the input reads as it did. -/
def fnExactLoopSetUptoRow : OpenClaim := { program := "ytgieeafdgdkkcaa", sum := "191c728c5d3b1e9f7a9e1f784f187f851882f930f2dfdeb8106594fbb482284e", func := "loop.example/circuitswitching/laws.FnExactLoopSet", spec := "fnExactLoopSet", recurses := true, apart := false, narrowed := true }
def FnExactLoopSetUptoSaid : Prop := fnExactLoopSetUptoRow.holds Try.pinned (OpenSpec.upto fnExactLoopSetSpec)

/-- 'laws.FnExactStepWay', WHERE WHAT IT READS IS OF BULK AT MOST 1048576: true; the input reads as it did. -/
def fnExactStepWayUptoRow : OpenClaim := { program := "ytgieeafdgdkkcaa", sum := "191c728c5d3b1e9f7a9e1f784f187f851882f930f2dfdeb8106594fbb482284e", func := "loop.example/circuitswitching/laws.FnExactStepWay", spec := "fnExactStepWay", apart := false, narrowed := true }
def FnExactStepWayUptoSaid : Prop := fnExactStepWayUptoRow.holds Try.pinned (OpenSpec.upto fnExactStepWaySpec)

/-- 'laws.FnExactStepClashes', WHERE WHAT IT READS IS OF BULK AT MOST 1048576: true; the input reads as it did. -/
def fnExactStepClashesUptoRow : OpenClaim := { program := "ytgieeafdgdkkcaa", sum := "191c728c5d3b1e9f7a9e1f784f187f851882f930f2dfdeb8106594fbb482284e", func := "loop.example/circuitswitching/laws.FnExactStepClashes", spec := "fnExactStepClashes", apart := false, narrowed := true }
def FnExactStepClashesUptoSaid : Prop := fnExactStepClashesUptoRow.holds Try.pinned (OpenSpec.upto fnExactStepClashesSpec)

/-- 'laws.FnExactStepMany', WHERE WHAT IT READS IS OF BULK AT MOST 1048576: true; the input reads as it did. -/
def fnExactStepManyUptoRow : OpenClaim := { program := "ytgieeafdgdkkcaa", sum := "191c728c5d3b1e9f7a9e1f784f187f851882f930f2dfdeb8106594fbb482284e", func := "loop.example/circuitswitching/laws.FnExactStepMany", spec := "fnExactStepMany", apart := false, narrowed := true }
def FnExactStepManyUptoSaid : Prop := fnExactStepManyUptoRow.holds Try.pinned (OpenSpec.upto fnExactStepManySpec)

/-- 'laws.FnExactStepRun', WHERE WHAT IT READS IS OF BULK AT MOST 1048576: true; the input reads as it did. -/
def fnExactStepRunUptoRow : OpenClaim := { program := "ytgieeafdgdkkcaa", sum := "191c728c5d3b1e9f7a9e1f784f187f851882f930f2dfdeb8106594fbb482284e", func := "loop.example/circuitswitching/laws.FnExactStepRun", spec := "fnExactStepRun", unfollowed := true, recurses := true, apart := false, narrowed := true }
def FnExactStepRunUptoSaid : Prop := fnExactStepRunUptoRow.holds Try.pinned (OpenSpec.upto fnExactStepRunSpec)

/-- 'laws.FnExactStepSet', WHERE WHAT IT READS IS OF BULK AT MOST 1048576: true; the input reads as it did. -/
def fnExactStepSetUptoRow : OpenClaim := { program := "ytgieeafdgdkkcaa", sum := "191c728c5d3b1e9f7a9e1f784f187f851882f930f2dfdeb8106594fbb482284e", func := "loop.example/circuitswitching/laws.FnExactStepSet", spec := "fnExactStepSet", apart := false, narrowed := true }
def FnExactStepSetUptoSaid : Prop := fnExactStepSetUptoRow.holds Try.pinned (OpenSpec.upto fnExactStepSetSpec)

end Rows
end Go.Proofs.Ytgieeafdgdkkcaa
