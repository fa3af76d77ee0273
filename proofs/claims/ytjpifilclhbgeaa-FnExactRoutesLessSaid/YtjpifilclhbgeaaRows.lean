/-
  No cell of these rows narrows 'for every input' (looked for: loops, veiled, ifaces, maps, wideKeys, modest, calm, conditions, laid).
  DERIVED. THE GIVEN ROWS OF THIS SEAT. 14 by the template 'for every input the law returns true; each argument reads behind the call as it read before'; 0 by the template 'total and deterministic' (their statements: YtjpifilclhbgeaaTotals.lean).
  GIVEN WITH THE SEED: the statements are not yours to turn. If you find one false, say at which input.
  Laid BY PROGRAM, IN A SANDBOX (cutbox-rows.mjs): the forced cells as the released guide's own fill.sh prints them over the translation 0dd75b4b9da75ab3… (all of the seat's roots in one cut). By AI agents, Wed Nov 11 2026. No macro, syntax, notation, axiom, sorry.
-/
import Derived.Test.YtjpifilclhbgeaaChecked
import GoSem.Claim
import GoSem.ClaimJoined
import GoSem.ClaimMapViews
import Derived.JoinedTies
import Derived.KernelRfl
namespace Go.Proofs.Ytjpifilclhbgeaa
/- THE CELL 'sum', in the pinned program and in every row, IS THE sha256 OF THE DUMP (.gsa) THAT YtjpifilclhbgeaaProg.lean LOADS. Nothing in Lean hashes anything: it is a label: what it is worth is what the hold of that sum in a sandbox is worth. -/
noncomputable def Try.pinned : Pinned := { name := "ytjpifilclhbgeaa", sum := "0dd75b4b9da75ab37785dabbdcf6aa53ca412574868cddf2d3e691b8baf72050", checked := Try.checked }
namespace Rows
def none {H : Type} : Left H := { results := [], args := [] }

/-- 'laws.FnExactDigitsOk': WHATEVER THE INPUT: true; the input reads as it did. -/
def fnExactDigitsOkSpec : ChangeSpec := { name := "fnExactDigitsOk", fn := fun _ => fun
  | [d] => { results := [.lit (.bool true)], args := [d] }
  | _ => none }
def fnExactDigitsOkRow : OpenClaim := { program := "ytjpifilclhbgeaa", sum := "0dd75b4b9da75ab37785dabbdcf6aa53ca412574868cddf2d3e691b8baf72050", func := "loop.example/circuitswitching/laws.FnExactDigitsOk", spec := "fnExactDigitsOk", apart := false }
def FnExactDigitsOkSaid : Prop := fnExactDigitsOkRow.holds Try.pinned (OpenSpec.ofChange fnExactDigitsOkSpec)

/-- ITS FALSE NEIGHBOUR: 'it returns false'. Refute it at one input. -/
def fnExactDigitsOkWrong : ChangeSpec := { name := "fnExactDigitsOk", fn := fun _ => fun
  | [d] => { results := [.lit (.bool false)], args := [d] }
  | _ => none }
def FnExactDigitsOkWrongFalsely : Prop := fnExactDigitsOkRow.holds Try.pinned (OpenSpec.ofChange fnExactDigitsOkWrong)

/-- 'laws.FnExactPlanValid': WHATEVER THE INPUT: true; the input reads as it did. -/
def fnExactPlanValidSpec : ChangeSpec := { name := "fnExactPlanValid", fn := fun _ => fun
  | [d] => { results := [.lit (.bool true)], args := [d] }
  | _ => none }
def fnExactPlanValidRow : OpenClaim := { program := "ytjpifilclhbgeaa", sum := "0dd75b4b9da75ab37785dabbdcf6aa53ca412574868cddf2d3e691b8baf72050", func := "loop.example/circuitswitching/laws.FnExactPlanValid", spec := "fnExactPlanValid", apart := false }
def FnExactPlanValidSaid : Prop := fnExactPlanValidRow.holds Try.pinned (OpenSpec.ofChange fnExactPlanValidSpec)

/-- ITS FALSE NEIGHBOUR: 'it returns false'. Refute it at one input. -/
def fnExactPlanValidWrong : ChangeSpec := { name := "fnExactPlanValid", fn := fun _ => fun
  | [d] => { results := [.lit (.bool false)], args := [d] }
  | _ => none }
def FnExactPlanValidWrongFalsely : Prop := fnExactPlanValidRow.holds Try.pinned (OpenSpec.ofChange fnExactPlanValidWrong)

/-- 'laws.FnExactLengthsValid': WHATEVER THE INPUT: true; the input reads as it did. -/
def fnExactLengthsValidSpec : ChangeSpec := { name := "fnExactLengthsValid", fn := fun _ => fun
  | [d] => { results := [.lit (.bool true)], args := [d] }
  | _ => none }
def fnExactLengthsValidRow : OpenClaim := { program := "ytjpifilclhbgeaa", sum := "0dd75b4b9da75ab37785dabbdcf6aa53ca412574868cddf2d3e691b8baf72050", func := "loop.example/circuitswitching/laws.FnExactLengthsValid", spec := "fnExactLengthsValid", apart := false }
def FnExactLengthsValidSaid : Prop := fnExactLengthsValidRow.holds Try.pinned (OpenSpec.ofChange fnExactLengthsValidSpec)

/-- ITS FALSE NEIGHBOUR: 'it returns false'. Refute it at one input. -/
def fnExactLengthsValidWrong : ChangeSpec := { name := "fnExactLengthsValid", fn := fun _ => fun
  | [d] => { results := [.lit (.bool false)], args := [d] }
  | _ => none }
def FnExactLengthsValidWrongFalsely : Prop := fnExactLengthsValidRow.holds Try.pinned (OpenSpec.ofChange fnExactLengthsValidWrong)

/-- 'laws.FnExactShareSum': WHATEVER THE INPUT: true; the input reads as it did. -/
def fnExactShareSumSpec : ChangeSpec := { name := "fnExactShareSum", fn := fun _ => fun
  | [d] => { results := [.lit (.bool true)], args := [d] }
  | _ => none }
def fnExactShareSumRow : OpenClaim := { program := "ytjpifilclhbgeaa", sum := "0dd75b4b9da75ab37785dabbdcf6aa53ca412574868cddf2d3e691b8baf72050", func := "loop.example/circuitswitching/laws.FnExactShareSum", spec := "fnExactShareSum", apart := false }
def FnExactShareSumSaid : Prop := fnExactShareSumRow.holds Try.pinned (OpenSpec.ofChange fnExactShareSumSpec)

/-- ITS FALSE NEIGHBOUR: 'it returns false'. Refute it at one input. -/
def fnExactShareSumWrong : ChangeSpec := { name := "fnExactShareSum", fn := fun _ => fun
  | [d] => { results := [.lit (.bool false)], args := [d] }
  | _ => none }
def FnExactShareSumWrongFalsely : Prop := fnExactShareSumRow.holds Try.pinned (OpenSpec.ofChange fnExactShareSumWrong)

/-- 'laws.FnExactPlanFor': WHATEVER THE INPUT: true; the input reads as it did. -/
def fnExactPlanForSpec : ChangeSpec := { name := "fnExactPlanFor", fn := fun _ => fun
  | [d] => { results := [.lit (.bool true)], args := [d] }
  | _ => none }
def fnExactPlanForRow : OpenClaim := { program := "ytjpifilclhbgeaa", sum := "0dd75b4b9da75ab37785dabbdcf6aa53ca412574868cddf2d3e691b8baf72050", func := "loop.example/circuitswitching/laws.FnExactPlanFor", spec := "fnExactPlanFor", apart := false }
def FnExactPlanForSaid : Prop := fnExactPlanForRow.holds Try.pinned (OpenSpec.ofChange fnExactPlanForSpec)

/-- ITS FALSE NEIGHBOUR: 'it returns false'. Refute it at one input. -/
def fnExactPlanForWrong : ChangeSpec := { name := "fnExactPlanFor", fn := fun _ => fun
  | [d] => { results := [.lit (.bool false)], args := [d] }
  | _ => none }
def FnExactPlanForWrongFalsely : Prop := fnExactPlanForRow.holds Try.pinned (OpenSpec.ofChange fnExactPlanForWrong)

/-- 'laws.FnExactPlanLengths': WHATEVER THE INPUT: true; the input reads as it did. -/
def fnExactPlanLengthsSpec : ChangeSpec := { name := "fnExactPlanLengths", fn := fun _ => fun
  | [d] => { results := [.lit (.bool true)], args := [d] }
  | _ => none }
def fnExactPlanLengthsRow : OpenClaim := { program := "ytjpifilclhbgeaa", sum := "0dd75b4b9da75ab37785dabbdcf6aa53ca412574868cddf2d3e691b8baf72050", func := "loop.example/circuitswitching/laws.FnExactPlanLengths", spec := "fnExactPlanLengths", apart := false }
def FnExactPlanLengthsSaid : Prop := fnExactPlanLengthsRow.holds Try.pinned (OpenSpec.ofChange fnExactPlanLengthsSpec)

/-- ITS FALSE NEIGHBOUR: 'it returns false'. Refute it at one input. -/
def fnExactPlanLengthsWrong : ChangeSpec := { name := "fnExactPlanLengths", fn := fun _ => fun
  | [d] => { results := [.lit (.bool false)], args := [d] }
  | _ => none }
def FnExactPlanLengthsWrongFalsely : Prop := fnExactPlanLengthsRow.holds Try.pinned (OpenSpec.ofChange fnExactPlanLengthsWrong)

/-- 'laws.FnExactDialOne': WHATEVER THE INPUT: true; the input reads as it did. -/
def fnExactDialOneSpec : ChangeSpec := { name := "fnExactDialOne", fn := fun _ => fun
  | [d1, d2] => { results := [.lit (.bool true)], args := [d1, d2] }
  | _ => none }
def fnExactDialOneRow : OpenClaim := { program := "ytjpifilclhbgeaa", sum := "0dd75b4b9da75ab37785dabbdcf6aa53ca412574868cddf2d3e691b8baf72050", func := "loop.example/circuitswitching/laws.FnExactDialOne", spec := "fnExactDialOne", unfollowed := true, recurses := true, apart := false }
def FnExactDialOneSaid : Prop := fnExactDialOneRow.holds Try.pinned (OpenSpec.ofChange fnExactDialOneSpec)

/-- ITS FALSE NEIGHBOUR: 'it returns false'. Refute it at one input. -/
def fnExactDialOneWrong : ChangeSpec := { name := "fnExactDialOne", fn := fun _ => fun
  | [d1, d2] => { results := [.lit (.bool false)], args := [d1, d2] }
  | _ => none }
def FnExactDialOneWrongFalsely : Prop := fnExactDialOneRow.holds Try.pinned (OpenSpec.ofChange fnExactDialOneWrong)

/-- 'laws.FnExactDialAll': WHATEVER THE INPUT: true; the input reads as it did. -/
def fnExactDialAllSpec : ChangeSpec := { name := "fnExactDialAll", fn := fun _ => fun
  | [d1, d2] => { results := [.lit (.bool true)], args := [d1, d2] }
  | _ => none }
def fnExactDialAllRow : OpenClaim := { program := "ytjpifilclhbgeaa", sum := "0dd75b4b9da75ab37785dabbdcf6aa53ca412574868cddf2d3e691b8baf72050", func := "loop.example/circuitswitching/laws.FnExactDialAll", spec := "fnExactDialAll", unfollowed := true, recurses := true, apart := false }
def FnExactDialAllSaid : Prop := fnExactDialAllRow.holds Try.pinned (OpenSpec.ofChange fnExactDialAllSpec)

/-- ITS FALSE NEIGHBOUR: 'it returns false'. Refute it at one input. -/
def fnExactDialAllWrong : ChangeSpec := { name := "fnExactDialAll", fn := fun _ => fun
  | [d1, d2] => { results := [.lit (.bool false)], args := [d1, d2] }
  | _ => none }
def FnExactDialAllWrongFalsely : Prop := fnExactDialAllRow.holds Try.pinned (OpenSpec.ofChange fnExactDialAllWrong)

/-- 'laws.FnExactOftenValid': WHATEVER THE INPUT: true; the input reads as it did. -/
def fnExactOftenValidSpec : ChangeSpec := { name := "fnExactOftenValid", fn := fun _ => fun
  | [d] => { results := [.lit (.bool true)], args := [d] }
  | _ => none }
def fnExactOftenValidRow : OpenClaim := { program := "ytjpifilclhbgeaa", sum := "0dd75b4b9da75ab37785dabbdcf6aa53ca412574868cddf2d3e691b8baf72050", func := "loop.example/circuitswitching/laws.FnExactOftenValid", spec := "fnExactOftenValid", apart := false }
def FnExactOftenValidSaid : Prop := fnExactOftenValidRow.holds Try.pinned (OpenSpec.ofChange fnExactOftenValidSpec)

/-- ITS FALSE NEIGHBOUR: 'it returns false'. Refute it at one input. -/
def fnExactOftenValidWrong : ChangeSpec := { name := "fnExactOftenValid", fn := fun _ => fun
  | [d] => { results := [.lit (.bool false)], args := [d] }
  | _ => none }
def FnExactOftenValidWrongFalsely : Prop := fnExactOftenValidRow.holds Try.pinned (OpenSpec.ofChange fnExactOftenValidWrong)

/-- 'laws.FnExactDialCost': WHATEVER THE INPUT: true; the input reads as it did. -/
def fnExactDialCostSpec : ChangeSpec := { name := "fnExactDialCost", fn := fun _ => fun
  | [d1, d2] => { results := [.lit (.bool true)], args := [d1, d2] }
  | _ => none }
def fnExactDialCostRow : OpenClaim := { program := "ytjpifilclhbgeaa", sum := "0dd75b4b9da75ab37785dabbdcf6aa53ca412574868cddf2d3e691b8baf72050", func := "loop.example/circuitswitching/laws.FnExactDialCost", spec := "fnExactDialCost", apart := false }
def FnExactDialCostSaid : Prop := fnExactDialCostRow.holds Try.pinned (OpenSpec.ofChange fnExactDialCostSpec)

/-- ITS FALSE NEIGHBOUR: 'it returns false'. Refute it at one input. -/
def fnExactDialCostWrong : ChangeSpec := { name := "fnExactDialCost", fn := fun _ => fun
  | [d1, d2] => { results := [.lit (.bool false)], args := [d1, d2] }
  | _ => none }
def FnExactDialCostWrongFalsely : Prop := fnExactDialCostRow.holds Try.pinned (OpenSpec.ofChange fnExactDialCostWrong)

/-- 'laws.FnExactDialLeast': WHATEVER THE INPUT: true; the input reads as it did. -/
def fnExactDialLeastSpec : ChangeSpec := { name := "fnExactDialLeast", fn := fun _ => fun
  | [d] => { results := [.lit (.bool true)], args := [d] }
  | _ => none }
def fnExactDialLeastRow : OpenClaim := { program := "ytjpifilclhbgeaa", sum := "0dd75b4b9da75ab37785dabbdcf6aa53ca412574868cddf2d3e691b8baf72050", func := "loop.example/circuitswitching/laws.FnExactDialLeast", spec := "fnExactDialLeast", recurses := true, apart := false }
def FnExactDialLeastSaid : Prop := fnExactDialLeastRow.holds Try.pinned (OpenSpec.ofChange fnExactDialLeastSpec)

/-- ITS FALSE NEIGHBOUR: 'it returns false'. Refute it at one input. -/
def fnExactDialLeastWrong : ChangeSpec := { name := "fnExactDialLeast", fn := fun _ => fun
  | [d] => { results := [.lit (.bool false)], args := [d] }
  | _ => none }
def FnExactDialLeastWrongFalsely : Prop := fnExactDialLeastRow.holds Try.pinned (OpenSpec.ofChange fnExactDialLeastWrong)

/-- 'laws.FnExactRoutesValid': WHATEVER THE INPUT: true; the input reads as it did. -/
def fnExactRoutesValidSpec : ChangeSpec := { name := "fnExactRoutesValid", fn := fun _ => fun
  | [d] => { results := [.lit (.bool true)], args := [d] }
  | _ => none }
def fnExactRoutesValidRow : OpenClaim := { program := "ytjpifilclhbgeaa", sum := "0dd75b4b9da75ab37785dabbdcf6aa53ca412574868cddf2d3e691b8baf72050", func := "loop.example/circuitswitching/laws.FnExactRoutesValid", spec := "fnExactRoutesValid", apart := false }
def FnExactRoutesValidSaid : Prop := fnExactRoutesValidRow.holds Try.pinned (OpenSpec.ofChange fnExactRoutesValidSpec)

/-- ITS FALSE NEIGHBOUR: 'it returns false'. Refute it at one input. -/
def fnExactRoutesValidWrong : ChangeSpec := { name := "fnExactRoutesValid", fn := fun _ => fun
  | [d] => { results := [.lit (.bool false)], args := [d] }
  | _ => none }
def FnExactRoutesValidWrongFalsely : Prop := fnExactRoutesValidRow.holds Try.pinned (OpenSpec.ofChange fnExactRoutesValidWrong)

/-- 'laws.FnExactRouteOf': WHATEVER THE INPUT: true; the input reads as it did. -/
def fnExactRouteOfSpec : ChangeSpec := { name := "fnExactRouteOf", fn := fun _ => fun
  | [d1, d2] => { results := [.lit (.bool true)], args := [d1, d2] }
  | _ => none }
def fnExactRouteOfRow : OpenClaim := { program := "ytjpifilclhbgeaa", sum := "0dd75b4b9da75ab37785dabbdcf6aa53ca412574868cddf2d3e691b8baf72050", func := "loop.example/circuitswitching/laws.FnExactRouteOf", spec := "fnExactRouteOf", apart := false }
def FnExactRouteOfSaid : Prop := fnExactRouteOfRow.holds Try.pinned (OpenSpec.ofChange fnExactRouteOfSpec)

/-- ITS FALSE NEIGHBOUR: 'it returns false'. Refute it at one input. -/
def fnExactRouteOfWrong : ChangeSpec := { name := "fnExactRouteOf", fn := fun _ => fun
  | [d1, d2] => { results := [.lit (.bool false)], args := [d1, d2] }
  | _ => none }
def FnExactRouteOfWrongFalsely : Prop := fnExactRouteOfRow.holds Try.pinned (OpenSpec.ofChange fnExactRouteOfWrong)

/-- 'laws.FnExactRoutesLess': WHATEVER THE INPUT: true; the input reads as it did. -/
def fnExactRoutesLessSpec : ChangeSpec := { name := "fnExactRoutesLess", fn := fun _ => fun
  | [d] => { results := [.lit (.bool true)], args := [d] }
  | _ => none }
def fnExactRoutesLessRow : OpenClaim := { program := "ytjpifilclhbgeaa", sum := "0dd75b4b9da75ab37785dabbdcf6aa53ca412574868cddf2d3e691b8baf72050", func := "loop.example/circuitswitching/laws.FnExactRoutesLess", spec := "fnExactRoutesLess", unfollowed := true, recurses := true, apart := false }
def FnExactRoutesLessSaid : Prop := fnExactRoutesLessRow.holds Try.pinned (OpenSpec.ofChange fnExactRoutesLessSpec)

/-- ITS FALSE NEIGHBOUR: 'it returns false'. Refute it at one input. -/
def fnExactRoutesLessWrong : ChangeSpec := { name := "fnExactRoutesLess", fn := fun _ => fun
  | [d] => { results := [.lit (.bool false)], args := [d] }
  | _ => none }
def FnExactRoutesLessWrongFalsely : Prop := fnExactRoutesLessRow.holds Try.pinned (OpenSpec.ofChange fnExactRoutesLessWrong)

/- THE SECOND FORM. 'bulk': how many values and letters a reading holds, each counted each time it is reached (what is shared counts as often as it is met; a slice's spare places count too). A statement '..UptoSaid' is the law's where the arguments, and the package variables that the reading takes, are together of bulk at most 1048576: NARROWER than '..Said'. Prove '..Said' where nothing that the law and all that it calls make is longer than what came in: it says more and counts as full. Else prove '..UptoSaid'. A law counts once. -/
mutual
def uptoBulk {H : Type} : DataW H → Nat
  | .lit (.string bytes) => bytes.length + 1
  | .lit _ => 1
  | .nil => 1
  | .ptr d => uptoBulk d + 1
  | .slice elems spare => uptoBulkAll elems + uptoBulkAll spare + 1
  | .agg parts => uptoBulkAll parts + 1
  | .iface _ d => uptoBulk d + 1
  | .map entries => uptoBulkEntries entries + 1
  | .held _ => 1
def uptoBulkAll {H : Type} : List (DataW H) → Nat
  | [] => 0
  | d :: r => uptoBulk d + uptoBulkAll r
def uptoBulkEntries {H : Type} : List (Lit × DataW H) → Nat
  | [] => 0
  | x :: r => uptoBulkEntry x + uptoBulkEntries r
def uptoBulkEntry {H : Type} : Lit × DataW H → Nat
  | (.string bytes, d) => bytes.length + uptoBulk d + 1
  | (_, d) => uptoBulk d + 1
 end
def uptoSmall : (H : Type) → List (DataW H) → Bool := fun _ ds => decide (uptoBulkAll ds ≤ 1048576)
def OpenSpec.upto (s : _root_.Go.ChangeSpec) : _root_.Go.OpenSpec := { _root_.Go.OpenSpec.ofChange s with cond := some uptoSmall }

/-- 'laws.FnExactDigitsOk', WHERE WHAT IT READS IS OF BULK AT MOST 1048576: true; the input reads as it did. -/
def fnExactDigitsOkUptoRow : OpenClaim := { program := "ytjpifilclhbgeaa", sum := "0dd75b4b9da75ab37785dabbdcf6aa53ca412574868cddf2d3e691b8baf72050", func := "loop.example/circuitswitching/laws.FnExactDigitsOk", spec := "fnExactDigitsOk", apart := false, narrowed := true }
def FnExactDigitsOkUptoSaid : Prop := fnExactDigitsOkUptoRow.holds Try.pinned (OpenSpec.upto fnExactDigitsOkSpec)

/-- 'laws.FnExactPlanValid', WHERE WHAT IT READS IS OF BULK AT MOST 1048576: true; the input reads as it did. -/
def fnExactPlanValidUptoRow : OpenClaim := { program := "ytjpifilclhbgeaa", sum := "0dd75b4b9da75ab37785dabbdcf6aa53ca412574868cddf2d3e691b8baf72050", func := "loop.example/circuitswitching/laws.FnExactPlanValid", spec := "fnExactPlanValid", apart := false, narrowed := true }
def FnExactPlanValidUptoSaid : Prop := fnExactPlanValidUptoRow.holds Try.pinned (OpenSpec.upto fnExactPlanValidSpec)

/-- 'laws.FnExactLengthsValid', WHERE WHAT IT READS IS OF BULK AT MOST 1048576: true; the input reads as it did. -/
def fnExactLengthsValidUptoRow : OpenClaim := { program := "ytjpifilclhbgeaa", sum := "0dd75b4b9da75ab37785dabbdcf6aa53ca412574868cddf2d3e691b8baf72050", func := "loop.example/circuitswitching/laws.FnExactLengthsValid", spec := "fnExactLengthsValid", apart := false, narrowed := true }
def FnExactLengthsValidUptoSaid : Prop := fnExactLengthsValidUptoRow.holds Try.pinned (OpenSpec.upto fnExactLengthsValidSpec)

/-- 'laws.FnExactShareSum', WHERE WHAT IT READS IS OF BULK AT MOST 1048576: true; the input reads as it did. -/
def fnExactShareSumUptoRow : OpenClaim := { program := "ytjpifilclhbgeaa", sum := "0dd75b4b9da75ab37785dabbdcf6aa53ca412574868cddf2d3e691b8baf72050", func := "loop.example/circuitswitching/laws.FnExactShareSum", spec := "fnExactShareSum", apart := false, narrowed := true }
def FnExactShareSumUptoSaid : Prop := fnExactShareSumUptoRow.holds Try.pinned (OpenSpec.upto fnExactShareSumSpec)

/-- 'laws.FnExactPlanFor', WHERE WHAT IT READS IS OF BULK AT MOST 1048576: true; the input reads as it did. -/
def fnExactPlanForUptoRow : OpenClaim := { program := "ytjpifilclhbgeaa", sum := "0dd75b4b9da75ab37785dabbdcf6aa53ca412574868cddf2d3e691b8baf72050", func := "loop.example/circuitswitching/laws.FnExactPlanFor", spec := "fnExactPlanFor", apart := false, narrowed := true }
def FnExactPlanForUptoSaid : Prop := fnExactPlanForUptoRow.holds Try.pinned (OpenSpec.upto fnExactPlanForSpec)

/-- 'laws.FnExactPlanLengths', WHERE WHAT IT READS IS OF BULK AT MOST 1048576: true; the input reads as it did. -/
def fnExactPlanLengthsUptoRow : OpenClaim := { program := "ytjpifilclhbgeaa", sum := "0dd75b4b9da75ab37785dabbdcf6aa53ca412574868cddf2d3e691b8baf72050", func := "loop.example/circuitswitching/laws.FnExactPlanLengths", spec := "fnExactPlanLengths", apart := false, narrowed := true }
def FnExactPlanLengthsUptoSaid : Prop := fnExactPlanLengthsUptoRow.holds Try.pinned (OpenSpec.upto fnExactPlanLengthsSpec)

/-- 'laws.FnExactDialOne', WHERE WHAT IT READS IS OF BULK AT MOST 1048576: true; the input reads as it did. -/
def fnExactDialOneUptoRow : OpenClaim := { program := "ytjpifilclhbgeaa", sum := "0dd75b4b9da75ab37785dabbdcf6aa53ca412574868cddf2d3e691b8baf72050", func := "loop.example/circuitswitching/laws.FnExactDialOne", spec := "fnExactDialOne", unfollowed := true, recurses := true, apart := false, narrowed := true }
def FnExactDialOneUptoSaid : Prop := fnExactDialOneUptoRow.holds Try.pinned (OpenSpec.upto fnExactDialOneSpec)

/-- 'laws.FnExactDialAll', WHERE WHAT IT READS IS OF BULK AT MOST 1048576: true; the input reads as it did. -/
def fnExactDialAllUptoRow : OpenClaim := { program := "ytjpifilclhbgeaa", sum := "0dd75b4b9da75ab37785dabbdcf6aa53ca412574868cddf2d3e691b8baf72050", func := "loop.example/circuitswitching/laws.FnExactDialAll", spec := "fnExactDialAll", unfollowed := true, recurses := true, apart := false, narrowed := true }
def FnExactDialAllUptoSaid : Prop := fnExactDialAllUptoRow.holds Try.pinned (OpenSpec.upto fnExactDialAllSpec)

/-- 'laws.FnExactOftenValid', WHERE WHAT IT READS IS OF BULK AT MOST 1048576: true; the input reads as it did. -/
def fnExactOftenValidUptoRow : OpenClaim := { program := "ytjpifilclhbgeaa", sum := "0dd75b4b9da75ab37785dabbdcf6aa53ca412574868cddf2d3e691b8baf72050", func := "loop.example/circuitswitching/laws.FnExactOftenValid", spec := "fnExactOftenValid", apart := false, narrowed := true }
def FnExactOftenValidUptoSaid : Prop := fnExactOftenValidUptoRow.holds Try.pinned (OpenSpec.upto fnExactOftenValidSpec)

/-- 'laws.FnExactDialCost', WHERE WHAT IT READS IS OF BULK AT MOST 1048576: true; the input reads as it did. -/
def fnExactDialCostUptoRow : OpenClaim := { program := "ytjpifilclhbgeaa", sum := "0dd75b4b9da75ab37785dabbdcf6aa53ca412574868cddf2d3e691b8baf72050", func := "loop.example/circuitswitching/laws.FnExactDialCost", spec := "fnExactDialCost", apart := false, narrowed := true }
def FnExactDialCostUptoSaid : Prop := fnExactDialCostUptoRow.holds Try.pinned (OpenSpec.upto fnExactDialCostSpec)

/-- 'laws.FnExactDialLeast', WHERE WHAT IT READS IS OF BULK AT MOST 1048576: true; the input reads as it did. -/
def fnExactDialLeastUptoRow : OpenClaim := { program := "ytjpifilclhbgeaa", sum := "0dd75b4b9da75ab37785dabbdcf6aa53ca412574868cddf2d3e691b8baf72050", func := "loop.example/circuitswitching/laws.FnExactDialLeast", spec := "fnExactDialLeast", recurses := true, apart := false, narrowed := true }
def FnExactDialLeastUptoSaid : Prop := fnExactDialLeastUptoRow.holds Try.pinned (OpenSpec.upto fnExactDialLeastSpec)

/-- 'laws.FnExactRoutesValid', WHERE WHAT IT READS IS OF BULK AT MOST 1048576: true; the input reads as it did. -/
def fnExactRoutesValidUptoRow : OpenClaim := { program := "ytjpifilclhbgeaa", sum := "0dd75b4b9da75ab37785dabbdcf6aa53ca412574868cddf2d3e691b8baf72050", func := "loop.example/circuitswitching/laws.FnExactRoutesValid", spec := "fnExactRoutesValid", apart := false, narrowed := true }
def FnExactRoutesValidUptoSaid : Prop := fnExactRoutesValidUptoRow.holds Try.pinned (OpenSpec.upto fnExactRoutesValidSpec)

/-- 'laws.FnExactRouteOf', WHERE WHAT IT READS IS OF BULK AT MOST 1048576: true; the input reads as it did. -/
def fnExactRouteOfUptoRow : OpenClaim := { program := "ytjpifilclhbgeaa", sum := "0dd75b4b9da75ab37785dabbdcf6aa53ca412574868cddf2d3e691b8baf72050", func := "loop.example/circuitswitching/laws.FnExactRouteOf", spec := "fnExactRouteOf", apart := false, narrowed := true }
def FnExactRouteOfUptoSaid : Prop := fnExactRouteOfUptoRow.holds Try.pinned (OpenSpec.upto fnExactRouteOfSpec)

/-- 'laws.FnExactRoutesLess', WHERE WHAT IT READS IS OF BULK AT MOST 1048576: true; the input reads as it did. -/
def fnExactRoutesLessUptoRow : OpenClaim := { program := "ytjpifilclhbgeaa", sum := "0dd75b4b9da75ab37785dabbdcf6aa53ca412574868cddf2d3e691b8baf72050", func := "loop.example/circuitswitching/laws.FnExactRoutesLess", spec := "fnExactRoutesLess", unfollowed := true, recurses := true, apart := false, narrowed := true }
def FnExactRoutesLessUptoSaid : Prop := fnExactRoutesLessUptoRow.holds Try.pinned (OpenSpec.upto fnExactRoutesLessSpec)

end Rows
end Go.Proofs.Ytjpifilclhbgeaa
