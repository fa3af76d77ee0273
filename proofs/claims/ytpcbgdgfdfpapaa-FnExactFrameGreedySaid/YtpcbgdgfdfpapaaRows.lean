/-
  No cell of these rows narrows 'for every input' (looked for: loops, veiled, ifaces, maps, wideKeys, modest, calm, conditions, laid).
  DERIVED. THE GIVEN ROWS OF THIS SEAT. 14 by the template 'for every input the law returns true; each argument reads behind the call as it read before'; 0 by the template 'total and deterministic' (their statements: YtpcbgdgfdfpapaaTotals.lean).
  GIVEN WITH THE SEED: the statements are not yours to turn. If you find one false, say at which input.
  Laid BY PROGRAM, IN A SANDBOX (cutbox-rows.mjs): the forced cells as the released guide's own fill.sh prints them over the translation 1088c72964fb6272… (all of the seat's roots in one cut). By AI agents, Wed Nov 11 2026. No macro, syntax, notation, axiom, sorry.
-/
import Derived.Test.YtpcbgdgfdfpapaaChecked
import GoSem.Claim
import GoSem.ClaimJoined
import GoSem.ClaimMapViews
import Derived.JoinedTies
import Derived.KernelRfl
namespace Go.Proofs.Ytpcbgdgfdfpapaa
/- THE CELL 'sum', in the pinned program and in every row, IS THE sha256 OF THE DUMP (.gsa) THAT YtpcbgdgfdfpapaaProg.lean LOADS. Nothing in Lean hashes anything: it is a label: what it is worth is what the hold of that sum in a sandbox is worth. -/
noncomputable def Try.pinned : Pinned := { name := "ytpcbgdgfdfpapaa", sum := "1088c72964fb6272de6e1a9e5d541603ce405f10c4800601bd2a163c62a67e7d", checked := Try.checked }
namespace Rows
def none {H : Type} : Left H := { results := [], args := [] }

/-- 'laws.FnFrameOk': WHATEVER THE INPUT: true; the input reads as it did. -/
def fnFrameOkSpec : ChangeSpec := { name := "fnFrameOk", fn := fun _ => fun
  | [d] => { results := [.lit (.bool true)], args := [d] }
  | _ => none }
def fnFrameOkRow : OpenClaim := { program := "ytpcbgdgfdfpapaa", sum := "1088c72964fb6272de6e1a9e5d541603ce405f10c4800601bd2a163c62a67e7d", func := "loop.example/circuitswitching/laws.FnFrameOk", spec := "fnFrameOk", apart := false }
def FnFrameOkSaid : Prop := fnFrameOkRow.holds Try.pinned (OpenSpec.ofChange fnFrameOkSpec)

/-- ITS FALSE NEIGHBOUR: 'it returns false'. Refute it at one input. -/
def fnFrameOkWrong : ChangeSpec := { name := "fnFrameOk", fn := fun _ => fun
  | [d] => { results := [.lit (.bool false)], args := [d] }
  | _ => none }
def FnFrameOkWrongFalsely : Prop := fnFrameOkRow.holds Try.pinned (OpenSpec.ofChange fnFrameOkWrong)

/-- 'laws.FnFrameLeft': WHATEVER THE INPUT: true; the input reads as it did. -/
def fnFrameLeftSpec : ChangeSpec := { name := "fnFrameLeft", fn := fun _ => fun
  | [d] => { results := [.lit (.bool true)], args := [d] }
  | _ => none }
def fnFrameLeftRow : OpenClaim := { program := "ytpcbgdgfdfpapaa", sum := "1088c72964fb6272de6e1a9e5d541603ce405f10c4800601bd2a163c62a67e7d", func := "loop.example/circuitswitching/laws.FnFrameLeft", spec := "fnFrameLeft", apart := false }
def FnFrameLeftSaid : Prop := fnFrameLeftRow.holds Try.pinned (OpenSpec.ofChange fnFrameLeftSpec)

/-- ITS FALSE NEIGHBOUR: 'it returns false'. Refute it at one input. -/
def fnFrameLeftWrong : ChangeSpec := { name := "fnFrameLeft", fn := fun _ => fun
  | [d] => { results := [.lit (.bool false)], args := [d] }
  | _ => none }
def FnFrameLeftWrongFalsely : Prop := fnFrameLeftRow.holds Try.pinned (OpenSpec.ofChange fnFrameLeftWrong)

/-- 'laws.FnFrameSends': WHATEVER THE INPUT: true; the input reads as it did. -/
def fnFrameSendsSpec : ChangeSpec := { name := "fnFrameSends", fn := fun _ => fun
  | [d] => { results := [.lit (.bool true)], args := [d] }
  | _ => none }
def fnFrameSendsRow : OpenClaim := { program := "ytpcbgdgfdfpapaa", sum := "1088c72964fb6272de6e1a9e5d541603ce405f10c4800601bd2a163c62a67e7d", func := "loop.example/circuitswitching/laws.FnFrameSends", spec := "fnFrameSends", apart := false }
def FnFrameSendsSaid : Prop := fnFrameSendsRow.holds Try.pinned (OpenSpec.ofChange fnFrameSendsSpec)

/-- ITS FALSE NEIGHBOUR: 'it returns false'. Refute it at one input. -/
def fnFrameSendsWrong : ChangeSpec := { name := "fnFrameSends", fn := fun _ => fun
  | [d] => { results := [.lit (.bool false)], args := [d] }
  | _ => none }
def FnFrameSendsWrongFalsely : Prop := fnFrameSendsRow.holds Try.pinned (OpenSpec.ofChange fnFrameSendsWrong)

/-- 'laws.FnTrafficAll': WHATEVER THE INPUT: true; the input reads as it did. -/
def fnTrafficAllSpec : ChangeSpec := { name := "fnTrafficAll", fn := fun _ => fun
  | [d] => { results := [.lit (.bool true)], args := [d] }
  | _ => none }
def fnTrafficAllRow : OpenClaim := { program := "ytpcbgdgfdfpapaa", sum := "1088c72964fb6272de6e1a9e5d541603ce405f10c4800601bd2a163c62a67e7d", func := "loop.example/circuitswitching/laws.FnTrafficAll", spec := "fnTrafficAll", apart := false }
def FnTrafficAllSaid : Prop := fnTrafficAllRow.holds Try.pinned (OpenSpec.ofChange fnTrafficAllSpec)

/-- ITS FALSE NEIGHBOUR: 'it returns false'. Refute it at one input. -/
def fnTrafficAllWrong : ChangeSpec := { name := "fnTrafficAll", fn := fun _ => fun
  | [d] => { results := [.lit (.bool false)], args := [d] }
  | _ => none }
def FnTrafficAllWrongFalsely : Prop := fnTrafficAllRow.holds Try.pinned (OpenSpec.ofChange fnTrafficAllWrong)

/-- 'laws.FnFillUp': WHATEVER THE INPUT: true; the input reads as it did. -/
def fnFillUpSpec : ChangeSpec := { name := "fnFillUp", fn := fun _ => fun
  | [d] => { results := [.lit (.bool true)], args := [d] }
  | _ => none }
def fnFillUpRow : OpenClaim := { program := "ytpcbgdgfdfpapaa", sum := "1088c72964fb6272de6e1a9e5d541603ce405f10c4800601bd2a163c62a67e7d", func := "loop.example/circuitswitching/laws.FnFillUp", spec := "fnFillUp", apart := false }
def FnFillUpSaid : Prop := fnFillUpRow.holds Try.pinned (OpenSpec.ofChange fnFillUpSpec)

/-- ITS FALSE NEIGHBOUR: 'it returns false'. Refute it at one input. -/
def fnFillUpWrong : ChangeSpec := { name := "fnFillUp", fn := fun _ => fun
  | [d] => { results := [.lit (.bool false)], args := [d] }
  | _ => none }
def FnFillUpWrongFalsely : Prop := fnFillUpRow.holds Try.pinned (OpenSpec.ofChange fnFillUpWrong)

/-- 'laws.FnFrameBest': WHATEVER THE INPUT: true; the input reads as it did. -/
def fnFrameBestSpec : ChangeSpec := { name := "fnFrameBest", fn := fun _ => fun
  | [d] => { results := [.lit (.bool true)], args := [d] }
  | _ => none }
def fnFrameBestRow : OpenClaim := { program := "ytpcbgdgfdfpapaa", sum := "1088c72964fb6272de6e1a9e5d541603ce405f10c4800601bd2a163c62a67e7d", func := "loop.example/circuitswitching/laws.FnFrameBest", spec := "fnFrameBest", unfollowed := true, recurses := true, apart := false }
def FnFrameBestSaid : Prop := fnFrameBestRow.holds Try.pinned (OpenSpec.ofChange fnFrameBestSpec)

/-- ITS FALSE NEIGHBOUR: 'it returns false'. Refute it at one input. -/
def fnFrameBestWrong : ChangeSpec := { name := "fnFrameBest", fn := fun _ => fun
  | [d] => { results := [.lit (.bool false)], args := [d] }
  | _ => none }
def FnFrameBestWrongFalsely : Prop := fnFrameBestRow.holds Try.pinned (OpenSpec.ofChange fnFrameBestWrong)

/-- 'laws.FnFrameGreedy': WHATEVER THE INPUT: true; the input reads as it did. -/
def fnFrameGreedySpec : ChangeSpec := { name := "fnFrameGreedy", fn := fun _ => fun
  | [d] => { results := [.lit (.bool true)], args := [d] }
  | _ => none }
def fnFrameGreedyRow : OpenClaim := { program := "ytpcbgdgfdfpapaa", sum := "1088c72964fb6272de6e1a9e5d541603ce405f10c4800601bd2a163c62a67e7d", func := "loop.example/circuitswitching/laws.FnFrameGreedy", spec := "fnFrameGreedy", apart := false }
def FnFrameGreedySaid : Prop := fnFrameGreedyRow.holds Try.pinned (OpenSpec.ofChange fnFrameGreedySpec)

/-- ITS FALSE NEIGHBOUR: 'it returns false'. Refute it at one input. -/
def fnFrameGreedyWrong : ChangeSpec := { name := "fnFrameGreedy", fn := fun _ => fun
  | [d] => { results := [.lit (.bool false)], args := [d] }
  | _ => none }
def FnFrameGreedyWrongFalsely : Prop := fnFrameGreedyRow.holds Try.pinned (OpenSpec.ofChange fnFrameGreedyWrong)

/-- 'laws.FnExactFrameOk': WHATEVER THE INPUT: true; the input reads as it did. -/
def fnExactFrameOkSpec : ChangeSpec := { name := "fnExactFrameOk", fn := fun _ => fun
  | [d1, d2] => { results := [.lit (.bool true)], args := [d1, d2] }
  | _ => none }
def fnExactFrameOkRow : OpenClaim := { program := "ytpcbgdgfdfpapaa", sum := "1088c72964fb6272de6e1a9e5d541603ce405f10c4800601bd2a163c62a67e7d", func := "loop.example/circuitswitching/laws.FnExactFrameOk", spec := "fnExactFrameOk", apart := false }
def FnExactFrameOkSaid : Prop := fnExactFrameOkRow.holds Try.pinned (OpenSpec.ofChange fnExactFrameOkSpec)

/-- ITS FALSE NEIGHBOUR: 'it returns false'. Refute it at one input. -/
def fnExactFrameOkWrong : ChangeSpec := { name := "fnExactFrameOk", fn := fun _ => fun
  | [d1, d2] => { results := [.lit (.bool false)], args := [d1, d2] }
  | _ => none }
def FnExactFrameOkWrongFalsely : Prop := fnExactFrameOkRow.holds Try.pinned (OpenSpec.ofChange fnExactFrameOkWrong)

/-- 'laws.FnExactFrameLeft': WHATEVER THE INPUT: true; the input reads as it did. -/
def fnExactFrameLeftSpec : ChangeSpec := { name := "fnExactFrameLeft", fn := fun _ => fun
  | [d1, d2] => { results := [.lit (.bool true)], args := [d1, d2] }
  | _ => none }
def fnExactFrameLeftRow : OpenClaim := { program := "ytpcbgdgfdfpapaa", sum := "1088c72964fb6272de6e1a9e5d541603ce405f10c4800601bd2a163c62a67e7d", func := "loop.example/circuitswitching/laws.FnExactFrameLeft", spec := "fnExactFrameLeft", apart := false }
def FnExactFrameLeftSaid : Prop := fnExactFrameLeftRow.holds Try.pinned (OpenSpec.ofChange fnExactFrameLeftSpec)

/-- ITS FALSE NEIGHBOUR: 'it returns false'. Refute it at one input. -/
def fnExactFrameLeftWrong : ChangeSpec := { name := "fnExactFrameLeft", fn := fun _ => fun
  | [d1, d2] => { results := [.lit (.bool false)], args := [d1, d2] }
  | _ => none }
def FnExactFrameLeftWrongFalsely : Prop := fnExactFrameLeftRow.holds Try.pinned (OpenSpec.ofChange fnExactFrameLeftWrong)

/-- 'laws.FnExactFrameSends': WHATEVER THE INPUT: true; the input reads as it did. -/
def fnExactFrameSendsSpec : ChangeSpec := { name := "fnExactFrameSends", fn := fun _ => fun
  | [d] => { results := [.lit (.bool true)], args := [d] }
  | _ => none }
def fnExactFrameSendsRow : OpenClaim := { program := "ytpcbgdgfdfpapaa", sum := "1088c72964fb6272de6e1a9e5d541603ce405f10c4800601bd2a163c62a67e7d", func := "loop.example/circuitswitching/laws.FnExactFrameSends", spec := "fnExactFrameSends", apart := false }
def FnExactFrameSendsSaid : Prop := fnExactFrameSendsRow.holds Try.pinned (OpenSpec.ofChange fnExactFrameSendsSpec)

/-- ITS FALSE NEIGHBOUR: 'it returns false'. Refute it at one input. -/
def fnExactFrameSendsWrong : ChangeSpec := { name := "fnExactFrameSends", fn := fun _ => fun
  | [d] => { results := [.lit (.bool false)], args := [d] }
  | _ => none }
def FnExactFrameSendsWrongFalsely : Prop := fnExactFrameSendsRow.holds Try.pinned (OpenSpec.ofChange fnExactFrameSendsWrong)

/-- 'laws.FnExactTrafficAll': WHATEVER THE INPUT: true; the input reads as it did. -/
def fnExactTrafficAllSpec : ChangeSpec := { name := "fnExactTrafficAll", fn := fun _ => fun
  | [d] => { results := [.lit (.bool true)], args := [d] }
  | _ => none }
def fnExactTrafficAllRow : OpenClaim := { program := "ytpcbgdgfdfpapaa", sum := "1088c72964fb6272de6e1a9e5d541603ce405f10c4800601bd2a163c62a67e7d", func := "loop.example/circuitswitching/laws.FnExactTrafficAll", spec := "fnExactTrafficAll", apart := false }
def FnExactTrafficAllSaid : Prop := fnExactTrafficAllRow.holds Try.pinned (OpenSpec.ofChange fnExactTrafficAllSpec)

/-- ITS FALSE NEIGHBOUR: 'it returns false'. Refute it at one input. -/
def fnExactTrafficAllWrong : ChangeSpec := { name := "fnExactTrafficAll", fn := fun _ => fun
  | [d] => { results := [.lit (.bool false)], args := [d] }
  | _ => none }
def FnExactTrafficAllWrongFalsely : Prop := fnExactTrafficAllRow.holds Try.pinned (OpenSpec.ofChange fnExactTrafficAllWrong)

/-- 'laws.FnExactFillUp': WHATEVER THE INPUT: true; the input reads as it did. -/
def fnExactFillUpSpec : ChangeSpec := { name := "fnExactFillUp", fn := fun _ => fun
  | [d] => { results := [.lit (.bool true)], args := [d] }
  | _ => none }
def fnExactFillUpRow : OpenClaim := { program := "ytpcbgdgfdfpapaa", sum := "1088c72964fb6272de6e1a9e5d541603ce405f10c4800601bd2a163c62a67e7d", func := "loop.example/circuitswitching/laws.FnExactFillUp", spec := "fnExactFillUp", apart := false }
def FnExactFillUpSaid : Prop := fnExactFillUpRow.holds Try.pinned (OpenSpec.ofChange fnExactFillUpSpec)

/-- ITS FALSE NEIGHBOUR: 'it returns false'. Refute it at one input. -/
def fnExactFillUpWrong : ChangeSpec := { name := "fnExactFillUp", fn := fun _ => fun
  | [d] => { results := [.lit (.bool false)], args := [d] }
  | _ => none }
def FnExactFillUpWrongFalsely : Prop := fnExactFillUpRow.holds Try.pinned (OpenSpec.ofChange fnExactFillUpWrong)

/-- 'laws.FnExactFrameBest': WHATEVER THE INPUT: true; the input reads as it did. -/
def fnExactFrameBestSpec : ChangeSpec := { name := "fnExactFrameBest", fn := fun _ => fun
  | [d] => { results := [.lit (.bool true)], args := [d] }
  | _ => none }
def fnExactFrameBestRow : OpenClaim := { program := "ytpcbgdgfdfpapaa", sum := "1088c72964fb6272de6e1a9e5d541603ce405f10c4800601bd2a163c62a67e7d", func := "loop.example/circuitswitching/laws.FnExactFrameBest", spec := "fnExactFrameBest", unfollowed := true, recurses := true, apart := false }
def FnExactFrameBestSaid : Prop := fnExactFrameBestRow.holds Try.pinned (OpenSpec.ofChange fnExactFrameBestSpec)

/-- ITS FALSE NEIGHBOUR: 'it returns false'. Refute it at one input. -/
def fnExactFrameBestWrong : ChangeSpec := { name := "fnExactFrameBest", fn := fun _ => fun
  | [d] => { results := [.lit (.bool false)], args := [d] }
  | _ => none }
def FnExactFrameBestWrongFalsely : Prop := fnExactFrameBestRow.holds Try.pinned (OpenSpec.ofChange fnExactFrameBestWrong)

/-- 'laws.FnExactFrameGreedy': WHATEVER THE INPUT: true; the input reads as it did. -/
def fnExactFrameGreedySpec : ChangeSpec := { name := "fnExactFrameGreedy", fn := fun _ => fun
  | [d] => { results := [.lit (.bool true)], args := [d] }
  | _ => none }
def fnExactFrameGreedyRow : OpenClaim := { program := "ytpcbgdgfdfpapaa", sum := "1088c72964fb6272de6e1a9e5d541603ce405f10c4800601bd2a163c62a67e7d", func := "loop.example/circuitswitching/laws.FnExactFrameGreedy", spec := "fnExactFrameGreedy", apart := false }
def FnExactFrameGreedySaid : Prop := fnExactFrameGreedyRow.holds Try.pinned (OpenSpec.ofChange fnExactFrameGreedySpec)

/-- ITS FALSE NEIGHBOUR: 'it returns false'. Refute it at one input. -/
def fnExactFrameGreedyWrong : ChangeSpec := { name := "fnExactFrameGreedy", fn := fun _ => fun
  | [d] => { results := [.lit (.bool false)], args := [d] }
  | _ => none }
def FnExactFrameGreedyWrongFalsely : Prop := fnExactFrameGreedyRow.holds Try.pinned (OpenSpec.ofChange fnExactFrameGreedyWrong)

/- THE SECOND FORM. 'bulk': how many values and letters a reading holds, each counted each time it is reached (what is shared counts as often as it is met; a slice's spare places count too). A statement '..UptoSaid' is the law's where the arguments, and the package variables that the reading takes, are together of bulk at most 1048576: NARROWER than '..Said'. Prove '..Said' where nothing that the law and all that it calls make is longer than what came in: it says more and counts as full. Else prove '..UptoSaid'. A law counts once. -/
mutual
def uptoBulk {H : Type} : DataW H → Nat
  | .lit (.string bytes) => bytes.length + 1
  | .lit _ => 1
  | .nil => 1
  | .ptr d => uptoBulk d + 1
  | .slice elems spare => uptoBulkAll elems + uptoBulkAll spare + 1
  | .agg parts => uptoBulkAll parts + 1
  | .iface _ d => uptoBulk d + 1
  | .map entries => uptoBulkEntries entries + 1
  | .held _ => 1
def uptoBulkAll {H : Type} : List (DataW H) → Nat
  | [] => 0
  | d :: r => uptoBulk d + uptoBulkAll r
def uptoBulkEntries {H : Type} : List (Lit × DataW H) → Nat
  | [] => 0
  | x :: r => uptoBulkEntry x + uptoBulkEntries r
def uptoBulkEntry {H : Type} : Lit × DataW H → Nat
  | (.string bytes, d) => bytes.length + uptoBulk d + 1
  | (_, d) => uptoBulk d + 1
 end
def uptoSmall : (H : Type) → List (DataW H) → Bool := fun _ ds => decide (uptoBulkAll ds ≤ 1048576)
def OpenSpec.upto (s : _root_.Go.ChangeSpec) : _root_.Go.OpenSpec := { _root_.Go.OpenSpec.ofChange s with cond := some uptoSmall }

/-- 'laws.FnFrameOk', WHERE WHAT IT READS IS OF BULK AT MOST 1048576: true; the input reads as it did. -/
def fnFrameOkUptoRow : OpenClaim := { program := "ytpcbgdgfdfpapaa", sum := "1088c72964fb6272de6e1a9e5d541603ce405f10c4800601bd2a163c62a67e7d", func := "loop.example/circuitswitching/laws.FnFrameOk", spec := "fnFrameOk", apart := false, narrowed := true }
def FnFrameOkUptoSaid : Prop := fnFrameOkUptoRow.holds Try.pinned (OpenSpec.upto fnFrameOkSpec)

/-- 'laws.FnFrameLeft', WHERE WHAT IT READS IS OF BULK AT MOST 1048576: true; the input reads as it did. -/
def fnFrameLeftUptoRow : OpenClaim := { program := "ytpcbgdgfdfpapaa", sum := "1088c72964fb6272de6e1a9e5d541603ce405f10c4800601bd2a163c62a67e7d", func := "loop.example/circuitswitching/laws.FnFrameLeft", spec := "fnFrameLeft", apart := false, narrowed := true }
def FnFrameLeftUptoSaid : Prop := fnFrameLeftUptoRow.holds Try.pinned (OpenSpec.upto fnFrameLeftSpec)

/-- 'laws.FnFrameSends', WHERE WHAT IT READS IS OF BULK AT MOST 1048576: true; the input reads as it did. -/
def fnFrameSendsUptoRow : OpenClaim := { program := "ytpcbgdgfdfpapaa", sum := "1088c72964fb6272de6e1a9e5d541603ce405f10c4800601bd2a163c62a67e7d", func := "loop.example/circuitswitching/laws.FnFrameSends", spec := "fnFrameSends", apart := false, narrowed := true }
def FnFrameSendsUptoSaid : Prop := fnFrameSendsUptoRow.holds Try.pinned (OpenSpec.upto fnFrameSendsSpec)

/-- 'laws.FnTrafficAll', WHERE WHAT IT READS IS OF BULK AT MOST 1048576: true; the input reads as it did. -/
def fnTrafficAllUptoRow : OpenClaim := { program := "ytpcbgdgfdfpapaa", sum := "1088c72964fb6272de6e1a9e5d541603ce405f10c4800601bd2a163c62a67e7d", func := "loop.example/circuitswitching/laws.FnTrafficAll", spec := "fnTrafficAll", apart := false, narrowed := true }
def FnTrafficAllUptoSaid : Prop := fnTrafficAllUptoRow.holds Try.pinned (OpenSpec.upto fnTrafficAllSpec)

/-- 'laws.FnFillUp', WHERE WHAT IT READS IS OF BULK AT MOST 1048576: true; the input reads as it did. -/
def fnFillUpUptoRow : OpenClaim := { program := "ytpcbgdgfdfpapaa", sum := "1088c72964fb6272de6e1a9e5d541603ce405f10c4800601bd2a163c62a67e7d", func := "loop.example/circuitswitching/laws.FnFillUp", spec := "fnFillUp", apart := false, narrowed := true }
def FnFillUpUptoSaid : Prop := fnFillUpUptoRow.holds Try.pinned (OpenSpec.upto fnFillUpSpec)

/-- 'laws.FnFrameBest', WHERE WHAT IT READS IS OF BULK AT MOST 1048576: true; the input reads as it did. -/
def fnFrameBestUptoRow : OpenClaim := { program := "ytpcbgdgfdfpapaa", sum := "1088c72964fb6272de6e1a9e5d541603ce405f10c4800601bd2a163c62a67e7d", func := "loop.example/circuitswitching/laws.FnFrameBest", spec := "fnFrameBest", unfollowed := true, recurses := true, apart := false, narrowed := true }
def FnFrameBestUptoSaid : Prop := fnFrameBestUptoRow.holds Try.pinned (OpenSpec.upto fnFrameBestSpec)

/-- 'laws.FnFrameGreedy', WHERE WHAT IT READS IS OF BULK AT MOST 1048576: true; the input reads as it did. -/
def fnFrameGreedyUptoRow : OpenClaim := { program := "ytpcbgdgfdfpapaa", sum := "1088c72964fb6272de6e1a9e5d541603ce405f10c4800601bd2a163c62a67e7d", func := "loop.example/circuitswitching/laws.FnFrameGreedy", spec := "fnFrameGreedy", apart := false, narrowed := true }
def FnFrameGreedyUptoSaid : Prop := fnFrameGreedyUptoRow.holds Try.pinned (OpenSpec.upto fnFrameGreedySpec)

/-- 'laws.FnExactFrameOk', WHERE WHAT IT READS IS OF BULK AT MOST 1048576: true; the input reads as it did. -/
def fnExactFrameOkUptoRow : OpenClaim := { program := "ytpcbgdgfdfpapaa", sum := "1088c72964fb6272de6e1a9e5d541603ce405f10c4800601bd2a163c62a67e7d", func := "loop.example/circuitswitching/laws.FnExactFrameOk", spec := "fnExactFrameOk", apart := false, narrowed := true }
def FnExactFrameOkUptoSaid : Prop := fnExactFrameOkUptoRow.holds Try.pinned (OpenSpec.upto fnExactFrameOkSpec)

/-- 'laws.FnExactFrameLeft', WHERE WHAT IT READS IS OF BULK AT MOST 1048576: true; the input reads as it did. -/
def fnExactFrameLeftUptoRow : OpenClaim := { program := "ytpcbgdgfdfpapaa", sum := "1088c72964fb6272de6e1a9e5d541603ce405f10c4800601bd2a163c62a67e7d", func := "loop.example/circuitswitching/laws.FnExactFrameLeft", spec := "fnExactFrameLeft", apart := false, narrowed := true }
def FnExactFrameLeftUptoSaid : Prop := fnExactFrameLeftUptoRow.holds Try.pinned (OpenSpec.upto fnExactFrameLeftSpec)

/-- 'laws.FnExactFrameSends', WHERE WHAT IT READS IS OF BULK AT MOST 1048576: true; the input reads as it did. -/
def fnExactFrameSendsUptoRow : OpenClaim := { program := "ytpcbgdgfdfpapaa", sum := "1088c72964fb6272de6e1a9e5d541603ce405f10c4800601bd2a163c62a67e7d", func := "loop.example/circuitswitching/laws.FnExactFrameSends", spec := "fnExactFrameSends", apart := false, narrowed := true }
def FnExactFrameSendsUptoSaid : Prop := fnExactFrameSendsUptoRow.holds Try.pinned (OpenSpec.upto fnExactFrameSendsSpec)

/-- 'laws.FnExactTrafficAll', WHERE WHAT IT READS IS OF BULK AT MOST 1048576: true; the input reads as it did. -/
def fnExactTrafficAllUptoRow : OpenClaim := { program := "ytpcbgdgfdfpapaa", sum := "1088c72964fb6272de6e1a9e5d541603ce405f10c4800601bd2a163c62a67e7d", func := "loop.example/circuitswitching/laws.FnExactTrafficAll", spec := "fnExactTrafficAll", apart := false, narrowed := true }
def FnExactTrafficAllUptoSaid : Prop := fnExactTrafficAllUptoRow.holds Try.pinned (OpenSpec.upto fnExactTrafficAllSpec)

/-- 'laws.FnExactFillUp', WHERE WHAT IT READS IS OF BULK AT MOST 1048576: true; the input reads as it did. -/
def fnExactFillUpUptoRow : OpenClaim := { program := "ytpcbgdgfdfpapaa", sum := "1088c72964fb6272de6e1a9e5d541603ce405f10c4800601bd2a163c62a67e7d", func := "loop.example/circuitswitching/laws.FnExactFillUp", spec := "fnExactFillUp", apart := false, narrowed := true }
def FnExactFillUpUptoSaid : Prop := fnExactFillUpUptoRow.holds Try.pinned (OpenSpec.upto fnExactFillUpSpec)

/-- 'laws.FnExactFrameBest', WHERE WHAT IT READS IS OF BULK AT MOST 1048576: true; the input reads as it did. -/
def fnExactFrameBestUptoRow : OpenClaim := { program := "ytpcbgdgfdfpapaa", sum := "1088c72964fb6272de6e1a9e5d541603ce405f10c4800601bd2a163c62a67e7d", func := "loop.example/circuitswitching/laws.FnExactFrameBest", spec := "fnExactFrameBest", unfollowed := true, recurses := true, apart := false, narrowed := true }
def FnExactFrameBestUptoSaid : Prop := fnExactFrameBestUptoRow.holds Try.pinned (OpenSpec.upto fnExactFrameBestSpec)

/-- 'laws.FnExactFrameGreedy', WHERE WHAT IT READS IS OF BULK AT MOST 1048576: true; the input reads as it did. -/
def fnExactFrameGreedyUptoRow : OpenClaim := { program := "ytpcbgdgfdfpapaa", sum := "1088c72964fb6272de6e1a9e5d541603ce405f10c4800601bd2a163c62a67e7d", func := "loop.example/circuitswitching/laws.FnExactFrameGreedy", spec := "fnExactFrameGreedy", apart := false, narrowed := true }
def FnExactFrameGreedyUptoSaid : Prop := fnExactFrameGreedyUptoRow.holds Try.pinned (OpenSpec.upto fnExactFrameGreedySpec)

end Rows
end Go.Proofs.Ytpcbgdgfdfpapaa
