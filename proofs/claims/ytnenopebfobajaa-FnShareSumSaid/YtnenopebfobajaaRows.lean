/-
  No cell of these rows narrows 'for every input' (looked for: loops, veiled, ifaces, maps, wideKeys, modest, calm, conditions, laid).
  DERIVED. THE GIVEN ROWS OF THIS SEAT. 14 by the template 'for every input the law returns true; each argument reads behind the call as it read before'; 0 by the template 'total and deterministic' (their statements: YtnenopebfobajaaTotals.lean).
  GIVEN WITH THE SEED: the statements are not yours to turn. If you find one false, say at which input.
  Laid BY PROGRAM, IN A SANDBOX (cutbox-rows.mjs): the forced cells as the released guide's own fill.sh prints them over the translation 09c9f5949f106b8e… (all of the seat's roots in one cut). By AI agents, Wed Nov 11 2026. No macro, syntax, notation, axiom, sorry.
-/
import Derived.Test.YtnenopebfobajaaChecked
import GoSem.Claim
import GoSem.ClaimJoined
import GoSem.ClaimMapViews
import Derived.JoinedTies
import Derived.KernelRfl
namespace Go.Proofs.Ytnenopebfobajaa
/- THE CELL 'sum', in the pinned program and in every row, IS THE sha256 OF THE DUMP (.gsa) THAT YtnenopebfobajaaProg.lean LOADS. Nothing in Lean hashes anything: it is a label: what it is worth is what the hold of that sum in a sandbox is worth. -/
noncomputable def Try.pinned : Pinned := { name := "ytnenopebfobajaa", sum := "09c9f5949f106b8ea31e014ab694e7883bc0cde0b97cd1612025f4076f2596a1", checked := Try.checked }
namespace Rows
def none {H : Type} : Left H := { results := [], args := [] }

/-- 'laws.FnDigitsOk': WHATEVER THE INPUT: true; the input reads as it did. -/
def fnDigitsOkSpec : ChangeSpec := { name := "fnDigitsOk", fn := fun _ => fun
  | [d] => { results := [.lit (.bool true)], args := [d] }
  | _ => none }
def fnDigitsOkRow : OpenClaim := { program := "ytnenopebfobajaa", sum := "09c9f5949f106b8ea31e014ab694e7883bc0cde0b97cd1612025f4076f2596a1", func := "loop.example/circuitswitching/laws.FnDigitsOk", spec := "fnDigitsOk", apart := false }
def FnDigitsOkSaid : Prop := fnDigitsOkRow.holds Try.pinned (OpenSpec.ofChange fnDigitsOkSpec)

/-- ITS FALSE NEIGHBOUR: 'it returns false'. Refute it at one input. -/
def fnDigitsOkWrong : ChangeSpec := { name := "fnDigitsOk", fn := fun _ => fun
  | [d] => { results := [.lit (.bool false)], args := [d] }
  | _ => none }
def FnDigitsOkWrongFalsely : Prop := fnDigitsOkRow.holds Try.pinned (OpenSpec.ofChange fnDigitsOkWrong)

/-- 'laws.FnPlanValid': WHATEVER THE INPUT: true; the input reads as it did. -/
def fnPlanValidSpec : ChangeSpec := { name := "fnPlanValid", fn := fun _ => fun
  | [d] => { results := [.lit (.bool true)], args := [d] }
  | _ => none }
def fnPlanValidRow : OpenClaim := { program := "ytnenopebfobajaa", sum := "09c9f5949f106b8ea31e014ab694e7883bc0cde0b97cd1612025f4076f2596a1", func := "loop.example/circuitswitching/laws.FnPlanValid", spec := "fnPlanValid", apart := false }
def FnPlanValidSaid : Prop := fnPlanValidRow.holds Try.pinned (OpenSpec.ofChange fnPlanValidSpec)

/-- ITS FALSE NEIGHBOUR: 'it returns false'. Refute it at one input. -/
def fnPlanValidWrong : ChangeSpec := { name := "fnPlanValid", fn := fun _ => fun
  | [d] => { results := [.lit (.bool false)], args := [d] }
  | _ => none }
def FnPlanValidWrongFalsely : Prop := fnPlanValidRow.holds Try.pinned (OpenSpec.ofChange fnPlanValidWrong)

/-- 'laws.FnLengthsValid': WHATEVER THE INPUT: true; the input reads as it did. -/
def fnLengthsValidSpec : ChangeSpec := { name := "fnLengthsValid", fn := fun _ => fun
  | [d] => { results := [.lit (.bool true)], args := [d] }
  | _ => none }
def fnLengthsValidRow : OpenClaim := { program := "ytnenopebfobajaa", sum := "09c9f5949f106b8ea31e014ab694e7883bc0cde0b97cd1612025f4076f2596a1", func := "loop.example/circuitswitching/laws.FnLengthsValid", spec := "fnLengthsValid", apart := false }
def FnLengthsValidSaid : Prop := fnLengthsValidRow.holds Try.pinned (OpenSpec.ofChange fnLengthsValidSpec)

/-- ITS FALSE NEIGHBOUR: 'it returns false'. Refute it at one input. -/
def fnLengthsValidWrong : ChangeSpec := { name := "fnLengthsValid", fn := fun _ => fun
  | [d] => { results := [.lit (.bool false)], args := [d] }
  | _ => none }
def FnLengthsValidWrongFalsely : Prop := fnLengthsValidRow.holds Try.pinned (OpenSpec.ofChange fnLengthsValidWrong)

/-- 'laws.FnShareSum': WHATEVER THE INPUT: true; the input reads as it did. -/
def fnShareSumSpec : ChangeSpec := { name := "fnShareSum", fn := fun _ => fun
  | [d] => { results := [.lit (.bool true)], args := [d] }
  | _ => none }
def fnShareSumRow : OpenClaim := { program := "ytnenopebfobajaa", sum := "09c9f5949f106b8ea31e014ab694e7883bc0cde0b97cd1612025f4076f2596a1", func := "loop.example/circuitswitching/laws.FnShareSum", spec := "fnShareSum", apart := false }
def FnShareSumSaid : Prop := fnShareSumRow.holds Try.pinned (OpenSpec.ofChange fnShareSumSpec)

/-- ITS FALSE NEIGHBOUR: 'it returns false'. Refute it at one input. -/
def fnShareSumWrong : ChangeSpec := { name := "fnShareSum", fn := fun _ => fun
  | [d] => { results := [.lit (.bool false)], args := [d] }
  | _ => none }
def FnShareSumWrongFalsely : Prop := fnShareSumRow.holds Try.pinned (OpenSpec.ofChange fnShareSumWrong)

/-- 'laws.FnPlanFor': WHATEVER THE INPUT: true; the input reads as it did. -/
def fnPlanForSpec : ChangeSpec := { name := "fnPlanFor", fn := fun _ => fun
  | [d] => { results := [.lit (.bool true)], args := [d] }
  | _ => none }
def fnPlanForRow : OpenClaim := { program := "ytnenopebfobajaa", sum := "09c9f5949f106b8ea31e014ab694e7883bc0cde0b97cd1612025f4076f2596a1", func := "loop.example/circuitswitching/laws.FnPlanFor", spec := "fnPlanFor", apart := false }
def FnPlanForSaid : Prop := fnPlanForRow.holds Try.pinned (OpenSpec.ofChange fnPlanForSpec)

/-- ITS FALSE NEIGHBOUR: 'it returns false'. Refute it at one input. -/
def fnPlanForWrong : ChangeSpec := { name := "fnPlanFor", fn := fun _ => fun
  | [d] => { results := [.lit (.bool false)], args := [d] }
  | _ => none }
def FnPlanForWrongFalsely : Prop := fnPlanForRow.holds Try.pinned (OpenSpec.ofChange fnPlanForWrong)

/-- 'laws.FnPlanLengths': WHATEVER THE INPUT: true; the input reads as it did. -/
def fnPlanLengthsSpec : ChangeSpec := { name := "fnPlanLengths", fn := fun _ => fun
  | [d] => { results := [.lit (.bool true)], args := [d] }
  | _ => none }
def fnPlanLengthsRow : OpenClaim := { program := "ytnenopebfobajaa", sum := "09c9f5949f106b8ea31e014ab694e7883bc0cde0b97cd1612025f4076f2596a1", func := "loop.example/circuitswitching/laws.FnPlanLengths", spec := "fnPlanLengths", apart := false }
def FnPlanLengthsSaid : Prop := fnPlanLengthsRow.holds Try.pinned (OpenSpec.ofChange fnPlanLengthsSpec)

/-- ITS FALSE NEIGHBOUR: 'it returns false'. Refute it at one input. -/
def fnPlanLengthsWrong : ChangeSpec := { name := "fnPlanLengths", fn := fun _ => fun
  | [d] => { results := [.lit (.bool false)], args := [d] }
  | _ => none }
def FnPlanLengthsWrongFalsely : Prop := fnPlanLengthsRow.holds Try.pinned (OpenSpec.ofChange fnPlanLengthsWrong)

/-- 'laws.FnDialOne': WHATEVER THE INPUT: true; the input reads as it did. -/
def fnDialOneSpec : ChangeSpec := { name := "fnDialOne", fn := fun _ => fun
  | [d] => { results := [.lit (.bool true)], args := [d] }
  | _ => none }
def fnDialOneRow : OpenClaim := { program := "ytnenopebfobajaa", sum := "09c9f5949f106b8ea31e014ab694e7883bc0cde0b97cd1612025f4076f2596a1", func := "loop.example/circuitswitching/laws.FnDialOne", spec := "fnDialOne", unfollowed := true, recurses := true, apart := false }
def FnDialOneSaid : Prop := fnDialOneRow.holds Try.pinned (OpenSpec.ofChange fnDialOneSpec)

/-- ITS FALSE NEIGHBOUR: 'it returns false'. Refute it at one input. -/
def fnDialOneWrong : ChangeSpec := { name := "fnDialOne", fn := fun _ => fun
  | [d] => { results := [.lit (.bool false)], args := [d] }
  | _ => none }
def FnDialOneWrongFalsely : Prop := fnDialOneRow.holds Try.pinned (OpenSpec.ofChange fnDialOneWrong)

/-- 'laws.FnDialAll': WHATEVER THE INPUT: true; the input reads as it did. -/
def fnDialAllSpec : ChangeSpec := { name := "fnDialAll", fn := fun _ => fun
  | [d] => { results := [.lit (.bool true)], args := [d] }
  | _ => none }
def fnDialAllRow : OpenClaim := { program := "ytnenopebfobajaa", sum := "09c9f5949f106b8ea31e014ab694e7883bc0cde0b97cd1612025f4076f2596a1", func := "loop.example/circuitswitching/laws.FnDialAll", spec := "fnDialAll", unfollowed := true, recurses := true, apart := false }
def FnDialAllSaid : Prop := fnDialAllRow.holds Try.pinned (OpenSpec.ofChange fnDialAllSpec)

/-- ITS FALSE NEIGHBOUR: 'it returns false'. Refute it at one input. -/
def fnDialAllWrong : ChangeSpec := { name := "fnDialAll", fn := fun _ => fun
  | [d] => { results := [.lit (.bool false)], args := [d] }
  | _ => none }
def FnDialAllWrongFalsely : Prop := fnDialAllRow.holds Try.pinned (OpenSpec.ofChange fnDialAllWrong)

/-- 'laws.FnOftenValid': WHATEVER THE INPUT: true; the input reads as it did. -/
def fnOftenValidSpec : ChangeSpec := { name := "fnOftenValid", fn := fun _ => fun
  | [d] => { results := [.lit (.bool true)], args := [d] }
  | _ => none }
def fnOftenValidRow : OpenClaim := { program := "ytnenopebfobajaa", sum := "09c9f5949f106b8ea31e014ab694e7883bc0cde0b97cd1612025f4076f2596a1", func := "loop.example/circuitswitching/laws.FnOftenValid", spec := "fnOftenValid", apart := false }
def FnOftenValidSaid : Prop := fnOftenValidRow.holds Try.pinned (OpenSpec.ofChange fnOftenValidSpec)

/-- ITS FALSE NEIGHBOUR: 'it returns false'. Refute it at one input. -/
def fnOftenValidWrong : ChangeSpec := { name := "fnOftenValid", fn := fun _ => fun
  | [d] => { results := [.lit (.bool false)], args := [d] }
  | _ => none }
def FnOftenValidWrongFalsely : Prop := fnOftenValidRow.holds Try.pinned (OpenSpec.ofChange fnOftenValidWrong)

/-- 'laws.FnDialCost': WHATEVER THE INPUT: true; the input reads as it did. -/
def fnDialCostSpec : ChangeSpec := { name := "fnDialCost", fn := fun _ => fun
  | [d] => { results := [.lit (.bool true)], args := [d] }
  | _ => none }
def fnDialCostRow : OpenClaim := { program := "ytnenopebfobajaa", sum := "09c9f5949f106b8ea31e014ab694e7883bc0cde0b97cd1612025f4076f2596a1", func := "loop.example/circuitswitching/laws.FnDialCost", spec := "fnDialCost", recurses := true, apart := false }
def FnDialCostSaid : Prop := fnDialCostRow.holds Try.pinned (OpenSpec.ofChange fnDialCostSpec)

/-- ITS FALSE NEIGHBOUR: 'it returns false'. Refute it at one input. -/
def fnDialCostWrong : ChangeSpec := { name := "fnDialCost", fn := fun _ => fun
  | [d] => { results := [.lit (.bool false)], args := [d] }
  | _ => none }
def FnDialCostWrongFalsely : Prop := fnDialCostRow.holds Try.pinned (OpenSpec.ofChange fnDialCostWrong)

/-- 'laws.FnDialLeast': WHATEVER THE INPUT: true; the input reads as it did. -/
def fnDialLeastSpec : ChangeSpec := { name := "fnDialLeast", fn := fun _ => fun
  | [d] => { results := [.lit (.bool true)], args := [d] }
  | _ => none }
def fnDialLeastRow : OpenClaim := { program := "ytnenopebfobajaa", sum := "09c9f5949f106b8ea31e014ab694e7883bc0cde0b97cd1612025f4076f2596a1", func := "loop.example/circuitswitching/laws.FnDialLeast", spec := "fnDialLeast", recurses := true, apart := false }
def FnDialLeastSaid : Prop := fnDialLeastRow.holds Try.pinned (OpenSpec.ofChange fnDialLeastSpec)

/-- ITS FALSE NEIGHBOUR: 'it returns false'. Refute it at one input. -/
def fnDialLeastWrong : ChangeSpec := { name := "fnDialLeast", fn := fun _ => fun
  | [d] => { results := [.lit (.bool false)], args := [d] }
  | _ => none }
def FnDialLeastWrongFalsely : Prop := fnDialLeastRow.holds Try.pinned (OpenSpec.ofChange fnDialLeastWrong)

/-- 'laws.FnRoutesValid': WHATEVER THE INPUT: true; the input reads as it did. -/
def fnRoutesValidSpec : ChangeSpec := { name := "fnRoutesValid", fn := fun _ => fun
  | [d] => { results := [.lit (.bool true)], args := [d] }
  | _ => none }
def fnRoutesValidRow : OpenClaim := { program := "ytnenopebfobajaa", sum := "09c9f5949f106b8ea31e014ab694e7883bc0cde0b97cd1612025f4076f2596a1", func := "loop.example/circuitswitching/laws.FnRoutesValid", spec := "fnRoutesValid", apart := false }
def FnRoutesValidSaid : Prop := fnRoutesValidRow.holds Try.pinned (OpenSpec.ofChange fnRoutesValidSpec)

/-- ITS FALSE NEIGHBOUR: 'it returns false'. Refute it at one input. -/
def fnRoutesValidWrong : ChangeSpec := { name := "fnRoutesValid", fn := fun _ => fun
  | [d] => { results := [.lit (.bool false)], args := [d] }
  | _ => none }
def FnRoutesValidWrongFalsely : Prop := fnRoutesValidRow.holds Try.pinned (OpenSpec.ofChange fnRoutesValidWrong)

/-- 'laws.FnRouteOf': WHATEVER THE INPUT: true; the input reads as it did. -/
def fnRouteOfSpec : ChangeSpec := { name := "fnRouteOf", fn := fun _ => fun
  | [d] => { results := [.lit (.bool true)], args := [d] }
  | _ => none }
def fnRouteOfRow : OpenClaim := { program := "ytnenopebfobajaa", sum := "09c9f5949f106b8ea31e014ab694e7883bc0cde0b97cd1612025f4076f2596a1", func := "loop.example/circuitswitching/laws.FnRouteOf", spec := "fnRouteOf", apart := false }
def FnRouteOfSaid : Prop := fnRouteOfRow.holds Try.pinned (OpenSpec.ofChange fnRouteOfSpec)

/-- ITS FALSE NEIGHBOUR: 'it returns false'. Refute it at one input. -/
def fnRouteOfWrong : ChangeSpec := { name := "fnRouteOf", fn := fun _ => fun
  | [d] => { results := [.lit (.bool false)], args := [d] }
  | _ => none }
def FnRouteOfWrongFalsely : Prop := fnRouteOfRow.holds Try.pinned (OpenSpec.ofChange fnRouteOfWrong)

/-- 'laws.FnRoutesLess': WHATEVER THE INPUT: true; the input reads as it did. -/
def fnRoutesLessSpec : ChangeSpec := { name := "fnRoutesLess", fn := fun _ => fun
  | [d] => { results := [.lit (.bool true)], args := [d] }
  | _ => none }
def fnRoutesLessRow : OpenClaim := { program := "ytnenopebfobajaa", sum := "09c9f5949f106b8ea31e014ab694e7883bc0cde0b97cd1612025f4076f2596a1", func := "loop.example/circuitswitching/laws.FnRoutesLess", spec := "fnRoutesLess", unfollowed := true, recurses := true, apart := false }
def FnRoutesLessSaid : Prop := fnRoutesLessRow.holds Try.pinned (OpenSpec.ofChange fnRoutesLessSpec)

/-- ITS FALSE NEIGHBOUR: 'it returns false'. Refute it at one input. -/
def fnRoutesLessWrong : ChangeSpec := { name := "fnRoutesLess", fn := fun _ => fun
  | [d] => { results := [.lit (.bool false)], args := [d] }
  | _ => none }
def FnRoutesLessWrongFalsely : Prop := fnRoutesLessRow.holds Try.pinned (OpenSpec.ofChange fnRoutesLessWrong)

/- THE SECOND FORM. 'bulk': how many values and letters a reading holds, each counted each time it is reached (what is shared counts as often as it is met; a slice's spare places count too). A statement '..UptoSaid' is the law's where the arguments, and the package variables that the reading takes, are together of bulk at most 1048576: NARROWER than '..Said'. Prove '..Said' where nothing that the law and all that it calls make is longer than what came in: it says more and counts as full. Else prove '..UptoSaid'. A law counts once. -/
mutual
def uptoBulk {H : Type} : DataW H → Nat
  | .lit (.string bytes) => bytes.length + 1
  | .lit _ => 1
  | .nil => 1
  | .ptr d => uptoBulk d + 1
  | .slice elems spare => uptoBulkAll elems + uptoBulkAll spare + 1
  | .agg parts => uptoBulkAll parts + 1
  | .iface _ d => uptoBulk d + 1
  | .map entries => uptoBulkEntries entries + 1
  | .held _ => 1
def uptoBulkAll {H : Type} : List (DataW H) → Nat
  | [] => 0
  | d :: r => uptoBulk d + uptoBulkAll r
def uptoBulkEntries {H : Type} : List (Lit × DataW H) → Nat
  | [] => 0
  | x :: r => uptoBulkEntry x + uptoBulkEntries r
def uptoBulkEntry {H : Type} : Lit × DataW H → Nat
  | (.string bytes, d) => bytes.length + uptoBulk d + 1
  | (_, d) => uptoBulk d + 1
 end
def uptoSmall : (H : Type) → List (DataW H) → Bool := fun _ ds => decide (uptoBulkAll ds ≤ 1048576)
def OpenSpec.upto (s : _root_.Go.ChangeSpec) : _root_.Go.OpenSpec := { _root_.Go.OpenSpec.ofChange s with cond := some uptoSmall }

/-- 'laws.FnDigitsOk', WHERE WHAT IT READS IS OF BULK AT MOST 1048576: true; the input reads as it did. -/
def fnDigitsOkUptoRow : OpenClaim := { program := "ytnenopebfobajaa", sum := "09c9f5949f106b8ea31e014ab694e7883bc0cde0b97cd1612025f4076f2596a1", func := "loop.example/circuitswitching/laws.FnDigitsOk", spec := "fnDigitsOk", apart := false, narrowed := true }
def FnDigitsOkUptoSaid : Prop := fnDigitsOkUptoRow.holds Try.pinned (OpenSpec.upto fnDigitsOkSpec)

/-- 'laws.FnPlanValid', WHERE WHAT IT READS IS OF BULK AT MOST 1048576: true; the input reads as it did. -/
def fnPlanValidUptoRow : OpenClaim := { program := "ytnenopebfobajaa", sum := "09c9f5949f106b8ea31e014ab694e7883bc0cde0b97cd1612025f4076f2596a1", func := "loop.example/circuitswitching/laws.FnPlanValid", spec := "fnPlanValid", apart := false, narrowed := true }
def FnPlanValidUptoSaid : Prop := fnPlanValidUptoRow.holds Try.pinned (OpenSpec.upto fnPlanValidSpec)

/-- 'laws.FnLengthsValid', WHERE WHAT IT READS IS OF BULK AT MOST 1048576: true; the input reads as it did. -/
def fnLengthsValidUptoRow : OpenClaim := { program := "ytnenopebfobajaa", sum := "09c9f5949f106b8ea31e014ab694e7883bc0cde0b97cd1612025f4076f2596a1", func := "loop.example/circuitswitching/laws.FnLengthsValid", spec := "fnLengthsValid", apart := false, narrowed := true }
def FnLengthsValidUptoSaid : Prop := fnLengthsValidUptoRow.holds Try.pinned (OpenSpec.upto fnLengthsValidSpec)

/-- 'laws.FnShareSum', WHERE WHAT IT READS IS OF BULK AT MOST 1048576: true; the input reads as it did. -/
def fnShareSumUptoRow : OpenClaim := { program := "ytnenopebfobajaa", sum := "09c9f5949f106b8ea31e014ab694e7883bc0cde0b97cd1612025f4076f2596a1", func := "loop.example/circuitswitching/laws.FnShareSum", spec := "fnShareSum", apart := false, narrowed := true }
def FnShareSumUptoSaid : Prop := fnShareSumUptoRow.holds Try.pinned (OpenSpec.upto fnShareSumSpec)

/-- 'laws.FnPlanFor', WHERE WHAT IT READS IS OF BULK AT MOST 1048576: true; the input reads as it did. -/
def fnPlanForUptoRow : OpenClaim := { program := "ytnenopebfobajaa", sum := "09c9f5949f106b8ea31e014ab694e7883bc0cde0b97cd1612025f4076f2596a1", func := "loop.example/circuitswitching/laws.FnPlanFor", spec := "fnPlanFor", apart := false, narrowed := true }
def FnPlanForUptoSaid : Prop := fnPlanForUptoRow.holds Try.pinned (OpenSpec.upto fnPlanForSpec)

/-- 'laws.FnPlanLengths', WHERE WHAT IT READS IS OF BULK AT MOST 1048576: true; the input reads as it did. -/
def fnPlanLengthsUptoRow : OpenClaim := { program := "ytnenopebfobajaa", sum := "09c9f5949f106b8ea31e014ab694e7883bc0cde0b97cd1612025f4076f2596a1", func := "loop.example/circuitswitching/laws.FnPlanLengths", spec := "fnPlanLengths", apart := false, narrowed := true }
def FnPlanLengthsUptoSaid : Prop := fnPlanLengthsUptoRow.holds Try.pinned (OpenSpec.upto fnPlanLengthsSpec)

/-- 'laws.FnDialOne', WHERE WHAT IT READS IS OF BULK AT MOST 1048576: true; the input reads as it did. -/
def fnDialOneUptoRow : OpenClaim := { program := "ytnenopebfobajaa", sum := "09c9f5949f106b8ea31e014ab694e7883bc0cde0b97cd1612025f4076f2596a1", func := "loop.example/circuitswitching/laws.FnDialOne", spec := "fnDialOne", unfollowed := true, recurses := true, apart := false, narrowed := true }
def FnDialOneUptoSaid : Prop := fnDialOneUptoRow.holds Try.pinned (OpenSpec.upto fnDialOneSpec)

/-- 'laws.FnDialAll', WHERE WHAT IT READS IS OF BULK AT MOST 1048576: true; the input reads as it did. -/
def fnDialAllUptoRow : OpenClaim := { program := "ytnenopebfobajaa", sum := "09c9f5949f106b8ea31e014ab694e7883bc0cde0b97cd1612025f4076f2596a1", func := "loop.example/circuitswitching/laws.FnDialAll", spec := "fnDialAll", unfollowed := true, recurses := true, apart := false, narrowed := true }
def FnDialAllUptoSaid : Prop := fnDialAllUptoRow.holds Try.pinned (OpenSpec.upto fnDialAllSpec)

/-- 'laws.FnOftenValid', WHERE WHAT IT READS IS OF BULK AT MOST 1048576: true; the input reads as it did. -/
def fnOftenValidUptoRow : OpenClaim := { program := "ytnenopebfobajaa", sum := "09c9f5949f106b8ea31e014ab694e7883bc0cde0b97cd1612025f4076f2596a1", func := "loop.example/circuitswitching/laws.FnOftenValid", spec := "fnOftenValid", apart := false, narrowed := true }
def FnOftenValidUptoSaid : Prop := fnOftenValidUptoRow.holds Try.pinned (OpenSpec.upto fnOftenValidSpec)

/-- 'laws.FnDialCost', WHERE WHAT IT READS IS OF BULK AT MOST 1048576: true; the input reads as it did. -/
def fnDialCostUptoRow : OpenClaim := { program := "ytnenopebfobajaa", sum := "09c9f5949f106b8ea31e014ab694e7883bc0cde0b97cd1612025f4076f2596a1", func := "loop.example/circuitswitching/laws.FnDialCost", spec := "fnDialCost", recurses := true, apart := false, narrowed := true }
def FnDialCostUptoSaid : Prop := fnDialCostUptoRow.holds Try.pinned (OpenSpec.upto fnDialCostSpec)

/-- 'laws.FnDialLeast', WHERE WHAT IT READS IS OF BULK AT MOST 1048576: true; the input reads as it did. -/
def fnDialLeastUptoRow : OpenClaim := { program := "ytnenopebfobajaa", sum := "09c9f5949f106b8ea31e014ab694e7883bc0cde0b97cd1612025f4076f2596a1", func := "loop.example/circuitswitching/laws.FnDialLeast", spec := "fnDialLeast", recurses := true, apart := false, narrowed := true }
def FnDialLeastUptoSaid : Prop := fnDialLeastUptoRow.holds Try.pinned (OpenSpec.upto fnDialLeastSpec)

/-- 'laws.FnRoutesValid', WHERE WHAT IT READS IS OF BULK AT MOST 1048576: true; the input reads as it did. -/
def fnRoutesValidUptoRow : OpenClaim := { program := "ytnenopebfobajaa", sum := "09c9f5949f106b8ea31e014ab694e7883bc0cde0b97cd1612025f4076f2596a1", func := "loop.example/circuitswitching/laws.FnRoutesValid", spec := "fnRoutesValid", apart := false, narrowed := true }
def FnRoutesValidUptoSaid : Prop := fnRoutesValidUptoRow.holds Try.pinned (OpenSpec.upto fnRoutesValidSpec)

/-- 'laws.FnRouteOf', WHERE WHAT IT READS IS OF BULK AT MOST 1048576: true; the input reads as it did. -/
def fnRouteOfUptoRow : OpenClaim := { program := "ytnenopebfobajaa", sum := "09c9f5949f106b8ea31e014ab694e7883bc0cde0b97cd1612025f4076f2596a1", func := "loop.example/circuitswitching/laws.FnRouteOf", spec := "fnRouteOf", apart := false, narrowed := true }
def FnRouteOfUptoSaid : Prop := fnRouteOfUptoRow.holds Try.pinned (OpenSpec.upto fnRouteOfSpec)

/-- 'laws.FnRoutesLess', WHERE WHAT IT READS IS OF BULK AT MOST 1048576: true; the input reads as it did. -/
def fnRoutesLessUptoRow : OpenClaim := { program := "ytnenopebfobajaa", sum := "09c9f5949f106b8ea31e014ab694e7883bc0cde0b97cd1612025f4076f2596a1", func := "loop.example/circuitswitching/laws.FnRoutesLess", spec := "fnRoutesLess", unfollowed := true, recurses := true, apart := false, narrowed := true }
def FnRoutesLessUptoSaid : Prop := fnRoutesLessUptoRow.holds Try.pinned (OpenSpec.upto fnRoutesLessSpec)

end Rows
end Go.Proofs.Ytnenopebfobajaa
