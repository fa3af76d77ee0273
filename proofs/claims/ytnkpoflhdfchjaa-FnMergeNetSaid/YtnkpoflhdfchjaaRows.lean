/-
  No cell of these rows narrows 'for every input' (looked for: loops, veiled, ifaces, maps, wideKeys, modest, calm, conditions, laid).
  DERIVED. THE GIVEN ROWS OF THIS SEAT. 22 by the template 'for every input the law returns true; each argument reads behind the call as it read before'; 0 by the template 'total and deterministic' (their statements: YtnkpoflhdfchjaaTotals.lean).
  GIVEN WITH THE SEED: the statements are not yours to turn. If you find one false, say at which input.
  Laid BY PROGRAM, IN A SANDBOX (cutbox-rows.mjs): the forced cells as the released guide's own fill.sh prints them over the translation 3565f04e27c9fd94… (all of the seat's roots in one cut). By AI agents, Wed Nov 11 2026. No macro, syntax, notation, axiom, sorry.
-/
import Derived.Test.YtnkpoflhdfchjaaChecked
import GoSem.Claim
import GoSem.ClaimJoined
import GoSem.ClaimMapViews
import Derived.JoinedTies
import Derived.KernelRfl
namespace Go.Proofs.Ytnkpoflhdfchjaa
/- THE CELL 'sum', in the pinned program and in every row, IS THE sha256 OF THE DUMP (.gsa) THAT YtnkpoflhdfchjaaProg.lean LOADS. Nothing in Lean hashes anything: it is a label: what it is worth is what the hold of that sum in a sandbox is worth. -/
noncomputable def Try.pinned : Pinned := { name := "ytnkpoflhdfchjaa", sum := "3565f04e27c9fd948e612f7a51d9f93fe428f673651fb18f526a72f5fd3a42e7", checked := Try.checked }
namespace Rows
def none {H : Type} : Left H := { results := [], args := [] }

/-- 'laws.FnNetValid': WHATEVER THE INPUT: true; the input reads as it did. -/
def fnNetValidSpec : ChangeSpec := { name := "fnNetValid", fn := fun _ => fun
  | [d] => { results := [.lit (.bool true)], args := [d] }
  | _ => none }
def fnNetValidRow : OpenClaim := { program := "ytnkpoflhdfchjaa", sum := "3565f04e27c9fd948e612f7a51d9f93fe428f673651fb18f526a72f5fd3a42e7", func := "loop.example/circuitswitching/laws.FnNetValid", spec := "fnNetValid", recurses := true, apart := false }
def FnNetValidSaid : Prop := fnNetValidRow.holds Try.pinned (OpenSpec.ofChange fnNetValidSpec)

/-- ITS FALSE NEIGHBOUR: 'it returns false'. Refute it at one input. -/
def fnNetValidWrong : ChangeSpec := { name := "fnNetValid", fn := fun _ => fun
  | [d] => { results := [.lit (.bool false)], args := [d] }
  | _ => none }
def FnNetValidWrongFalsely : Prop := fnNetValidRow.holds Try.pinned (OpenSpec.ofChange fnNetValidWrong)

/-- 'laws.FnNetRun': WHATEVER THE INPUT: true; the input reads as it did. -/
def fnNetRunSpec : ChangeSpec := { name := "fnNetRun", fn := fun _ => fun
  | [d] => { results := [.lit (.bool true)], args := [d] }
  | _ => none }
def fnNetRunRow : OpenClaim := { program := "ytnkpoflhdfchjaa", sum := "3565f04e27c9fd948e612f7a51d9f93fe428f673651fb18f526a72f5fd3a42e7", func := "loop.example/circuitswitching/laws.FnNetRun", spec := "fnNetRun", recurses := true, apart := false }
def FnNetRunSaid : Prop := fnNetRunRow.holds Try.pinned (OpenSpec.ofChange fnNetRunSpec)

/-- ITS FALSE NEIGHBOUR: 'it returns false'. Refute it at one input. -/
def fnNetRunWrong : ChangeSpec := { name := "fnNetRun", fn := fun _ => fun
  | [d] => { results := [.lit (.bool false)], args := [d] }
  | _ => none }
def FnNetRunWrongFalsely : Prop := fnNetRunRow.holds Try.pinned (OpenSpec.ofChange fnNetRunWrong)

/-- 'laws.FnNetSorts': WHATEVER THE INPUT: true; the input reads as it did. -/
def fnNetSortsSpec : ChangeSpec := { name := "fnNetSorts", fn := fun _ => fun
  | [d] => { results := [.lit (.bool true)], args := [d] }
  | _ => none }
def fnNetSortsRow : OpenClaim := { program := "ytnkpoflhdfchjaa", sum := "3565f04e27c9fd948e612f7a51d9f93fe428f673651fb18f526a72f5fd3a42e7", func := "loop.example/circuitswitching/laws.FnNetSorts", spec := "fnNetSorts", unfollowed := true, recurses := true, apart := false }
def FnNetSortsSaid : Prop := fnNetSortsRow.holds Try.pinned (OpenSpec.ofChange fnNetSortsSpec)

/-- ITS FALSE NEIGHBOUR: 'it returns false'. Refute it at one input. -/
def fnNetSortsWrong : ChangeSpec := { name := "fnNetSorts", fn := fun _ => fun
  | [d] => { results := [.lit (.bool false)], args := [d] }
  | _ => none }
def FnNetSortsWrongFalsely : Prop := fnNetSortsRow.holds Try.pinned (OpenSpec.ofChange fnNetSortsWrong)

/-- 'laws.FnBitFault': WHATEVER THE INPUT: true; the input reads as it did. -/
def fnBitFaultSpec : ChangeSpec := { name := "fnBitFault", fn := fun _ => fun
  | [d] => { results := [.lit (.bool true)], args := [d] }
  | _ => none }
def fnBitFaultRow : OpenClaim := { program := "ytnkpoflhdfchjaa", sum := "3565f04e27c9fd948e612f7a51d9f93fe428f673651fb18f526a72f5fd3a42e7", func := "loop.example/circuitswitching/laws.FnBitFault", spec := "fnBitFault", unfollowed := true, recurses := true, apart := false }
def FnBitFaultSaid : Prop := fnBitFaultRow.holds Try.pinned (OpenSpec.ofChange fnBitFaultSpec)

/-- ITS FALSE NEIGHBOUR: 'it returns false'. Refute it at one input. -/
def fnBitFaultWrong : ChangeSpec := { name := "fnBitFault", fn := fun _ => fun
  | [d] => { results := [.lit (.bool false)], args := [d] }
  | _ => none }
def FnBitFaultWrongFalsely : Prop := fnBitFaultRow.holds Try.pinned (OpenSpec.ofChange fnBitFaultWrong)

/-- 'laws.FnNeighbours': WHATEVER THE INPUT: true; the input reads as it did. -/
def fnNeighboursSpec : ChangeSpec := { name := "fnNeighbours", fn := fun _ => fun
  | [d] => { results := [.lit (.bool true)], args := [d] }
  | _ => none }
def fnNeighboursRow : OpenClaim := { program := "ytnkpoflhdfchjaa", sum := "3565f04e27c9fd948e612f7a51d9f93fe428f673651fb18f526a72f5fd3a42e7", func := "loop.example/circuitswitching/laws.FnNeighbours", spec := "fnNeighbours", unfollowed := true, recurses := true, apart := false }
def FnNeighboursSaid : Prop := fnNeighboursRow.holds Try.pinned (OpenSpec.ofChange fnNeighboursSpec)

/-- ITS FALSE NEIGHBOUR: 'it returns false'. Refute it at one input. -/
def fnNeighboursWrong : ChangeSpec := { name := "fnNeighbours", fn := fun _ => fun
  | [d] => { results := [.lit (.bool false)], args := [d] }
  | _ => none }
def FnNeighboursWrongFalsely : Prop := fnNeighboursRow.holds Try.pinned (OpenSpec.ofChange fnNeighboursWrong)

/-- 'laws.FnSortsTurned': WHATEVER THE INPUT: true; the input reads as it did. -/
def fnSortsTurnedSpec : ChangeSpec := { name := "fnSortsTurned", fn := fun _ => fun
  | [d] => { results := [.lit (.bool true)], args := [d] }
  | _ => none }
def fnSortsTurnedRow : OpenClaim := { program := "ytnkpoflhdfchjaa", sum := "3565f04e27c9fd948e612f7a51d9f93fe428f673651fb18f526a72f5fd3a42e7", func := "loop.example/circuitswitching/laws.FnSortsTurned", spec := "fnSortsTurned", unfollowed := true, recurses := true, apart := false }
def FnSortsTurnedSaid : Prop := fnSortsTurnedRow.holds Try.pinned (OpenSpec.ofChange fnSortsTurnedSpec)

/-- ITS FALSE NEIGHBOUR: 'it returns false'. Refute it at one input. -/
def fnSortsTurnedWrong : ChangeSpec := { name := "fnSortsTurned", fn := fun _ => fun
  | [d] => { results := [.lit (.bool false)], args := [d] }
  | _ => none }
def FnSortsTurnedWrongFalsely : Prop := fnSortsTurnedRow.holds Try.pinned (OpenSpec.ofChange fnSortsTurnedWrong)

/-- 'laws.FnNetDepth': WHATEVER THE INPUT: true; the input reads as it did. -/
def fnNetDepthSpec : ChangeSpec := { name := "fnNetDepth", fn := fun _ => fun
  | [d] => { results := [.lit (.bool true)], args := [d] }
  | _ => none }
def fnNetDepthRow : OpenClaim := { program := "ytnkpoflhdfchjaa", sum := "3565f04e27c9fd948e612f7a51d9f93fe428f673651fb18f526a72f5fd3a42e7", func := "loop.example/circuitswitching/laws.FnNetDepth", spec := "fnNetDepth", recurses := true, apart := false }
def FnNetDepthSaid : Prop := fnNetDepthRow.holds Try.pinned (OpenSpec.ofChange fnNetDepthSpec)

/-- ITS FALSE NEIGHBOUR: 'it returns false'. Refute it at one input. -/
def fnNetDepthWrong : ChangeSpec := { name := "fnNetDepth", fn := fun _ => fun
  | [d] => { results := [.lit (.bool false)], args := [d] }
  | _ => none }
def FnNetDepthWrongFalsely : Prop := fnNetDepthRow.holds Try.pinned (OpenSpec.ofChange fnNetDepthWrong)

/-- 'laws.FnBubbleNet': WHATEVER THE INPUT: true; the input reads as it did. -/
def fnBubbleNetSpec : ChangeSpec := { name := "fnBubbleNet", fn := fun _ => fun
  | [d] => { results := [.lit (.bool true)], args := [d] }
  | _ => none }
def fnBubbleNetRow : OpenClaim := { program := "ytnkpoflhdfchjaa", sum := "3565f04e27c9fd948e612f7a51d9f93fe428f673651fb18f526a72f5fd3a42e7", func := "loop.example/circuitswitching/laws.FnBubbleNet", spec := "fnBubbleNet", unfollowed := true, recurses := true, apart := false }
def FnBubbleNetSaid : Prop := fnBubbleNetRow.holds Try.pinned (OpenSpec.ofChange fnBubbleNetSpec)

/-- ITS FALSE NEIGHBOUR: 'it returns false'. Refute it at one input. -/
def fnBubbleNetWrong : ChangeSpec := { name := "fnBubbleNet", fn := fun _ => fun
  | [d] => { results := [.lit (.bool false)], args := [d] }
  | _ => none }
def FnBubbleNetWrongFalsely : Prop := fnBubbleNetRow.holds Try.pinned (OpenSpec.ofChange fnBubbleNetWrong)

/-- 'laws.FnBrickNet': WHATEVER THE INPUT: true; the input reads as it did. -/
def fnBrickNetSpec : ChangeSpec := { name := "fnBrickNet", fn := fun _ => fun
  | [d] => { results := [.lit (.bool true)], args := [d] }
  | _ => none }
def fnBrickNetRow : OpenClaim := { program := "ytnkpoflhdfchjaa", sum := "3565f04e27c9fd948e612f7a51d9f93fe428f673651fb18f526a72f5fd3a42e7", func := "loop.example/circuitswitching/laws.FnBrickNet", spec := "fnBrickNet", unfollowed := true, recurses := true, apart := false }
def FnBrickNetSaid : Prop := fnBrickNetRow.holds Try.pinned (OpenSpec.ofChange fnBrickNetSpec)

/-- ITS FALSE NEIGHBOUR: 'it returns false'. Refute it at one input. -/
def fnBrickNetWrong : ChangeSpec := { name := "fnBrickNet", fn := fun _ => fun
  | [d] => { results := [.lit (.bool false)], args := [d] }
  | _ => none }
def FnBrickNetWrongFalsely : Prop := fnBrickNetRow.holds Try.pinned (OpenSpec.ofChange fnBrickNetWrong)

/-- 'laws.FnMergeNet': WHATEVER THE INPUT: true; the input reads as it did. -/
def fnMergeNetSpec : ChangeSpec := { name := "fnMergeNet", fn := fun _ => fun
  | [d] => { results := [.lit (.bool true)], args := [d] }
  | _ => none }
def fnMergeNetRow : OpenClaim := { program := "ytnkpoflhdfchjaa", sum := "3565f04e27c9fd948e612f7a51d9f93fe428f673651fb18f526a72f5fd3a42e7", func := "loop.example/circuitswitching/laws.FnMergeNet", spec := "fnMergeNet", unfollowed := true, recurses := true, apart := false }
def FnMergeNetSaid : Prop := fnMergeNetRow.holds Try.pinned (OpenSpec.ofChange fnMergeNetSpec)

/-- ITS FALSE NEIGHBOUR: 'it returns false'. Refute it at one input. -/
def fnMergeNetWrong : ChangeSpec := { name := "fnMergeNet", fn := fun _ => fun
  | [d] => { results := [.lit (.bool false)], args := [d] }
  | _ => none }
def FnMergeNetWrongFalsely : Prop := fnMergeNetRow.holds Try.pinned (OpenSpec.ofChange fnMergeNetWrong)

/-- 'laws.FnNetUseless': WHATEVER THE INPUT: true; the input reads as it did. -/
def fnNetUselessSpec : ChangeSpec := { name := "fnNetUseless", fn := fun _ => fun
  | [d] => { results := [.lit (.bool true)], args := [d] }
  | _ => none }
def fnNetUselessRow : OpenClaim := { program := "ytnkpoflhdfchjaa", sum := "3565f04e27c9fd948e612f7a51d9f93fe428f673651fb18f526a72f5fd3a42e7", func := "loop.example/circuitswitching/laws.FnNetUseless", spec := "fnNetUseless", unfollowed := true, recurses := true, apart := false }
def FnNetUselessSaid : Prop := fnNetUselessRow.holds Try.pinned (OpenSpec.ofChange fnNetUselessSpec)

/-- ITS FALSE NEIGHBOUR: 'it returns false'. Refute it at one input. -/
def fnNetUselessWrong : ChangeSpec := { name := "fnNetUseless", fn := fun _ => fun
  | [d] => { results := [.lit (.bool false)], args := [d] }
  | _ => none }
def FnNetUselessWrongFalsely : Prop := fnNetUselessRow.holds Try.pinned (OpenSpec.ofChange fnNetUselessWrong)

/-- 'laws.FnExactNetValid': WHATEVER THE INPUT: true; the input reads as it did. -/
def fnExactNetValidSpec : ChangeSpec := { name := "fnExactNetValid", fn := fun _ => fun
  | [d1, d2] => { results := [.lit (.bool true)], args := [d1, d2] }
  | _ => none }
def fnExactNetValidRow : OpenClaim := { program := "ytnkpoflhdfchjaa", sum := "3565f04e27c9fd948e612f7a51d9f93fe428f673651fb18f526a72f5fd3a42e7", func := "loop.example/circuitswitching/laws.FnExactNetValid", spec := "fnExactNetValid", apart := false }
def FnExactNetValidSaid : Prop := fnExactNetValidRow.holds Try.pinned (OpenSpec.ofChange fnExactNetValidSpec)

/-- ITS FALSE NEIGHBOUR: 'it returns false'. Refute it at one input. -/
def fnExactNetValidWrong : ChangeSpec := { name := "fnExactNetValid", fn := fun _ => fun
  | [d1, d2] => { results := [.lit (.bool false)], args := [d1, d2] }
  | _ => none }
def FnExactNetValidWrongFalsely : Prop := fnExactNetValidRow.holds Try.pinned (OpenSpec.ofChange fnExactNetValidWrong)

/-- 'laws.FnExactNetRun': WHATEVER THE INPUT: true; the input reads as it did. -/
def fnExactNetRunSpec : ChangeSpec := { name := "fnExactNetRun", fn := fun _ => fun
  | [d1, d2, d3] => { results := [.lit (.bool true)], args := [d1, d2, d3] }
  | _ => none }
def fnExactNetRunRow : OpenClaim := { program := "ytnkpoflhdfchjaa", sum := "3565f04e27c9fd948e612f7a51d9f93fe428f673651fb18f526a72f5fd3a42e7", func := "loop.example/circuitswitching/laws.FnExactNetRun", spec := "fnExactNetRun", apart := false }
def FnExactNetRunSaid : Prop := fnExactNetRunRow.holds Try.pinned (OpenSpec.ofChange fnExactNetRunSpec)

/-- ITS FALSE NEIGHBOUR: 'it returns false'. Refute it at one input. -/
def fnExactNetRunWrong : ChangeSpec := { name := "fnExactNetRun", fn := fun _ => fun
  | [d1, d2, d3] => { results := [.lit (.bool false)], args := [d1, d2, d3] }
  | _ => none }
def FnExactNetRunWrongFalsely : Prop := fnExactNetRunRow.holds Try.pinned (OpenSpec.ofChange fnExactNetRunWrong)

/-- 'laws.FnExactNetSorts': WHATEVER THE INPUT: true; the input reads as it did. -/
def fnExactNetSortsSpec : ChangeSpec := { name := "fnExactNetSorts", fn := fun _ => fun
  | [d1, d2] => { results := [.lit (.bool true)], args := [d1, d2] }
  | _ => none }
def fnExactNetSortsRow : OpenClaim := { program := "ytnkpoflhdfchjaa", sum := "3565f04e27c9fd948e612f7a51d9f93fe428f673651fb18f526a72f5fd3a42e7", func := "loop.example/circuitswitching/laws.FnExactNetSorts", spec := "fnExactNetSorts", unfollowed := true, recurses := true, apart := false }
def FnExactNetSortsSaid : Prop := fnExactNetSortsRow.holds Try.pinned (OpenSpec.ofChange fnExactNetSortsSpec)

/-- ITS FALSE NEIGHBOUR: 'it returns false'. Refute it at one input. -/
def fnExactNetSortsWrong : ChangeSpec := { name := "fnExactNetSorts", fn := fun _ => fun
  | [d1, d2] => { results := [.lit (.bool false)], args := [d1, d2] }
  | _ => none }
def FnExactNetSortsWrongFalsely : Prop := fnExactNetSortsRow.holds Try.pinned (OpenSpec.ofChange fnExactNetSortsWrong)

/-- 'laws.FnExactBitFault': WHATEVER THE INPUT: true; the input reads as it did. -/
def fnExactBitFaultSpec : ChangeSpec := { name := "fnExactBitFault", fn := fun _ => fun
  | [d1, d2] => { results := [.lit (.bool true)], args := [d1, d2] }
  | _ => none }
def fnExactBitFaultRow : OpenClaim := { program := "ytnkpoflhdfchjaa", sum := "3565f04e27c9fd948e612f7a51d9f93fe428f673651fb18f526a72f5fd3a42e7", func := "loop.example/circuitswitching/laws.FnExactBitFault", spec := "fnExactBitFault", unfollowed := true, recurses := true, apart := false }
def FnExactBitFaultSaid : Prop := fnExactBitFaultRow.holds Try.pinned (OpenSpec.ofChange fnExactBitFaultSpec)

/-- ITS FALSE NEIGHBOUR: 'it returns false'. Refute it at one input. -/
def fnExactBitFaultWrong : ChangeSpec := { name := "fnExactBitFault", fn := fun _ => fun
  | [d1, d2] => { results := [.lit (.bool false)], args := [d1, d2] }
  | _ => none }
def FnExactBitFaultWrongFalsely : Prop := fnExactBitFaultRow.holds Try.pinned (OpenSpec.ofChange fnExactBitFaultWrong)

/-- 'laws.FnExactNeighbours': WHATEVER THE INPUT: true; the input reads as it did. -/
def fnExactNeighboursSpec : ChangeSpec := { name := "fnExactNeighbours", fn := fun _ => fun
  | [d1, d2] => { results := [.lit (.bool true)], args := [d1, d2] }
  | _ => none }
def fnExactNeighboursRow : OpenClaim := { program := "ytnkpoflhdfchjaa", sum := "3565f04e27c9fd948e612f7a51d9f93fe428f673651fb18f526a72f5fd3a42e7", func := "loop.example/circuitswitching/laws.FnExactNeighbours", spec := "fnExactNeighbours", apart := false }
def FnExactNeighboursSaid : Prop := fnExactNeighboursRow.holds Try.pinned (OpenSpec.ofChange fnExactNeighboursSpec)

/-- ITS FALSE NEIGHBOUR: 'it returns false'. Refute it at one input. -/
def fnExactNeighboursWrong : ChangeSpec := { name := "fnExactNeighbours", fn := fun _ => fun
  | [d1, d2] => { results := [.lit (.bool false)], args := [d1, d2] }
  | _ => none }
def FnExactNeighboursWrongFalsely : Prop := fnExactNeighboursRow.holds Try.pinned (OpenSpec.ofChange fnExactNeighboursWrong)

/-- 'laws.FnExactSortsTurned': WHATEVER THE INPUT: true; the input reads as it did. -/
def fnExactSortsTurnedSpec : ChangeSpec := { name := "fnExactSortsTurned", fn := fun _ => fun
  | [d1, d2] => { results := [.lit (.bool true)], args := [d1, d2] }
  | _ => none }
def fnExactSortsTurnedRow : OpenClaim := { program := "ytnkpoflhdfchjaa", sum := "3565f04e27c9fd948e612f7a51d9f93fe428f673651fb18f526a72f5fd3a42e7", func := "loop.example/circuitswitching/laws.FnExactSortsTurned", spec := "fnExactSortsTurned", apart := false }
def FnExactSortsTurnedSaid : Prop := fnExactSortsTurnedRow.holds Try.pinned (OpenSpec.ofChange fnExactSortsTurnedSpec)

/-- ITS FALSE NEIGHBOUR: 'it returns false'. Refute it at one input. -/
def fnExactSortsTurnedWrong : ChangeSpec := { name := "fnExactSortsTurned", fn := fun _ => fun
  | [d1, d2] => { results := [.lit (.bool false)], args := [d1, d2] }
  | _ => none }
def FnExactSortsTurnedWrongFalsely : Prop := fnExactSortsTurnedRow.holds Try.pinned (OpenSpec.ofChange fnExactSortsTurnedWrong)

/-- 'laws.FnExactNetDepth': WHATEVER THE INPUT: true; the input reads as it did. -/
def fnExactNetDepthSpec : ChangeSpec := { name := "fnExactNetDepth", fn := fun _ => fun
  | [d1, d2] => { results := [.lit (.bool true)], args := [d1, d2] }
  | _ => none }
def fnExactNetDepthRow : OpenClaim := { program := "ytnkpoflhdfchjaa", sum := "3565f04e27c9fd948e612f7a51d9f93fe428f673651fb18f526a72f5fd3a42e7", func := "loop.example/circuitswitching/laws.FnExactNetDepth", spec := "fnExactNetDepth", apart := false }
def FnExactNetDepthSaid : Prop := fnExactNetDepthRow.holds Try.pinned (OpenSpec.ofChange fnExactNetDepthSpec)

/-- ITS FALSE NEIGHBOUR: 'it returns false'. Refute it at one input. -/
def fnExactNetDepthWrong : ChangeSpec := { name := "fnExactNetDepth", fn := fun _ => fun
  | [d1, d2] => { results := [.lit (.bool false)], args := [d1, d2] }
  | _ => none }
def FnExactNetDepthWrongFalsely : Prop := fnExactNetDepthRow.holds Try.pinned (OpenSpec.ofChange fnExactNetDepthWrong)

/-- 'laws.FnExactBubbleNet': WHATEVER THE INPUT: true; the input reads as it did. -/
def fnExactBubbleNetSpec : ChangeSpec := { name := "fnExactBubbleNet", fn := fun _ => fun
  | [d] => { results := [.lit (.bool true)], args := [d] }
  | _ => none }
def fnExactBubbleNetRow : OpenClaim := { program := "ytnkpoflhdfchjaa", sum := "3565f04e27c9fd948e612f7a51d9f93fe428f673651fb18f526a72f5fd3a42e7", func := "loop.example/circuitswitching/laws.FnExactBubbleNet", spec := "fnExactBubbleNet", apart := false }
def FnExactBubbleNetSaid : Prop := fnExactBubbleNetRow.holds Try.pinned (OpenSpec.ofChange fnExactBubbleNetSpec)

/-- ITS FALSE NEIGHBOUR: 'it returns false'. Refute it at one input. -/
def fnExactBubbleNetWrong : ChangeSpec := { name := "fnExactBubbleNet", fn := fun _ => fun
  | [d] => { results := [.lit (.bool false)], args := [d] }
  | _ => none }
def FnExactBubbleNetWrongFalsely : Prop := fnExactBubbleNetRow.holds Try.pinned (OpenSpec.ofChange fnExactBubbleNetWrong)

/-- 'laws.FnExactBrickNet': WHATEVER THE INPUT: true; the input reads as it did. -/
def fnExactBrickNetSpec : ChangeSpec := { name := "fnExactBrickNet", fn := fun _ => fun
  | [d] => { results := [.lit (.bool true)], args := [d] }
  | _ => none }
def fnExactBrickNetRow : OpenClaim := { program := "ytnkpoflhdfchjaa", sum := "3565f04e27c9fd948e612f7a51d9f93fe428f673651fb18f526a72f5fd3a42e7", func := "loop.example/circuitswitching/laws.FnExactBrickNet", spec := "fnExactBrickNet", apart := false }
def FnExactBrickNetSaid : Prop := fnExactBrickNetRow.holds Try.pinned (OpenSpec.ofChange fnExactBrickNetSpec)

/-- ITS FALSE NEIGHBOUR: 'it returns false'. Refute it at one input. -/
def fnExactBrickNetWrong : ChangeSpec := { name := "fnExactBrickNet", fn := fun _ => fun
  | [d] => { results := [.lit (.bool false)], args := [d] }
  | _ => none }
def FnExactBrickNetWrongFalsely : Prop := fnExactBrickNetRow.holds Try.pinned (OpenSpec.ofChange fnExactBrickNetWrong)

/-- 'laws.FnExactMergeNet': WHATEVER THE INPUT: true; the input reads as it did. -/
def fnExactMergeNetSpec : ChangeSpec := { name := "fnExactMergeNet", fn := fun _ => fun
  | [d] => { results := [.lit (.bool true)], args := [d] }
  | _ => none }
def fnExactMergeNetRow : OpenClaim := { program := "ytnkpoflhdfchjaa", sum := "3565f04e27c9fd948e612f7a51d9f93fe428f673651fb18f526a72f5fd3a42e7", func := "loop.example/circuitswitching/laws.FnExactMergeNet", spec := "fnExactMergeNet", unfollowed := true, recurses := true, apart := false }
def FnExactMergeNetSaid : Prop := fnExactMergeNetRow.holds Try.pinned (OpenSpec.ofChange fnExactMergeNetSpec)

/-- ITS FALSE NEIGHBOUR: 'it returns false'. Refute it at one input. -/
def fnExactMergeNetWrong : ChangeSpec := { name := "fnExactMergeNet", fn := fun _ => fun
  | [d] => { results := [.lit (.bool false)], args := [d] }
  | _ => none }
def FnExactMergeNetWrongFalsely : Prop := fnExactMergeNetRow.holds Try.pinned (OpenSpec.ofChange fnExactMergeNetWrong)

/-- 'laws.FnExactNetUseless': WHATEVER THE INPUT: true; the input reads as it did. -/
def fnExactNetUselessSpec : ChangeSpec := { name := "fnExactNetUseless", fn := fun _ => fun
  | [d1, d2] => { results := [.lit (.bool true)], args := [d1, d2] }
  | _ => none }
def fnExactNetUselessRow : OpenClaim := { program := "ytnkpoflhdfchjaa", sum := "3565f04e27c9fd948e612f7a51d9f93fe428f673651fb18f526a72f5fd3a42e7", func := "loop.example/circuitswitching/laws.FnExactNetUseless", spec := "fnExactNetUseless", unfollowed := true, recurses := true, apart := false }
def FnExactNetUselessSaid : Prop := fnExactNetUselessRow.holds Try.pinned (OpenSpec.ofChange fnExactNetUselessSpec)

/-- ITS FALSE NEIGHBOUR: 'it returns false'. Refute it at one input. -/
def fnExactNetUselessWrong : ChangeSpec := { name := "fnExactNetUseless", fn := fun _ => fun
  | [d1, d2] => { results := [.lit (.bool false)], args := [d1, d2] }
  | _ => none }
def FnExactNetUselessWrongFalsely : Prop := fnExactNetUselessRow.holds Try.pinned (OpenSpec.ofChange fnExactNetUselessWrong)

/- THE SECOND FORM. 'bulk': how many values and letters a reading holds, each counted each time it is reached (what is shared counts as often as it is met; a slice's spare places count too). A statement '..UptoSaid' is the law's where the arguments, and the package variables that the reading takes, are together of bulk at most 1048576: NARROWER than '..Said'. Prove '..Said' where nothing that the law and all that it calls make is longer than what came in: it says more and counts as full. Else prove '..UptoSaid'. A law counts once. -/
mutual
def uptoBulk {H : Type} : DataW H → Nat
  | .lit (.string bytes) => bytes.length + 1
  | .lit _ => 1
  | .nil => 1
  | .ptr d => uptoBulk d + 1
  | .slice elems spare => uptoBulkAll elems + uptoBulkAll spare + 1
  | .agg parts => uptoBulkAll parts + 1
  | .iface _ d => uptoBulk d + 1
  | .map entries => uptoBulkEntries entries + 1
  | .held _ => 1
def uptoBulkAll {H : Type} : List (DataW H) → Nat
  | [] => 0
  | d :: r => uptoBulk d + uptoBulkAll r
def uptoBulkEntries {H : Type} : List (Lit × DataW H) → Nat
  | [] => 0
  | x :: r => uptoBulkEntry x + uptoBulkEntries r
def uptoBulkEntry {H : Type} : Lit × DataW H → Nat
  | (.string bytes, d) => bytes.length + uptoBulk d + 1
  | (_, d) => uptoBulk d + 1
 end
def uptoSmall : (H : Type) → List (DataW H) → Bool := fun _ ds => decide (uptoBulkAll ds ≤ 1048576)
def OpenSpec.upto (s : _root_.Go.ChangeSpec) : _root_.Go.OpenSpec := { _root_.Go.OpenSpec.ofChange s with cond := some uptoSmall }

/-- 'laws.FnNetValid', WHERE WHAT IT READS IS OF BULK AT MOST 1048576: true; the input reads as it did. -/
def fnNetValidUptoRow : OpenClaim := { program := "ytnkpoflhdfchjaa", sum := "3565f04e27c9fd948e612f7a51d9f93fe428f673651fb18f526a72f5fd3a42e7", func := "loop.example/circuitswitching/laws.FnNetValid", spec := "fnNetValid", recurses := true, apart := false, narrowed := true }
def FnNetValidUptoSaid : Prop := fnNetValidUptoRow.holds Try.pinned (OpenSpec.upto fnNetValidSpec)

/-- 'laws.FnNetRun', WHERE WHAT IT READS IS OF BULK AT MOST 1048576: true; the input reads as it did. -/
def fnNetRunUptoRow : OpenClaim := { program := "ytnkpoflhdfchjaa", sum := "3565f04e27c9fd948e612f7a51d9f93fe428f673651fb18f526a72f5fd3a42e7", func := "loop.example/circuitswitching/laws.FnNetRun", spec := "fnNetRun", recurses := true, apart := false, narrowed := true }
def FnNetRunUptoSaid : Prop := fnNetRunUptoRow.holds Try.pinned (OpenSpec.upto fnNetRunSpec)

/-- 'laws.FnNetSorts', WHERE WHAT IT READS IS OF BULK AT MOST 1048576: true; the input reads as it did. -/
def fnNetSortsUptoRow : OpenClaim := { program := "ytnkpoflhdfchjaa", sum := "3565f04e27c9fd948e612f7a51d9f93fe428f673651fb18f526a72f5fd3a42e7", func := "loop.example/circuitswitching/laws.FnNetSorts", spec := "fnNetSorts", unfollowed := true, recurses := true, apart := false, narrowed := true }
def FnNetSortsUptoSaid : Prop := fnNetSortsUptoRow.holds Try.pinned (OpenSpec.upto fnNetSortsSpec)

/-- 'laws.FnBitFault', WHERE WHAT IT READS IS OF BULK AT MOST 1048576: true; the input reads as it did. -/
def fnBitFaultUptoRow : OpenClaim := { program := "ytnkpoflhdfchjaa", sum := "3565f04e27c9fd948e612f7a51d9f93fe428f673651fb18f526a72f5fd3a42e7", func := "loop.example/circuitswitching/laws.FnBitFault", spec := "fnBitFault", unfollowed := true, recurses := true, apart := false, narrowed := true }
def FnBitFaultUptoSaid : Prop := fnBitFaultUptoRow.holds Try.pinned (OpenSpec.upto fnBitFaultSpec)

/-- 'laws.FnNeighbours', WHERE WHAT IT READS IS OF BULK AT MOST 1048576: true; the input reads as it did. -/
def fnNeighboursUptoRow : OpenClaim := { program := "ytnkpoflhdfchjaa", sum := "3565f04e27c9fd948e612f7a51d9f93fe428f673651fb18f526a72f5fd3a42e7", func := "loop.example/circuitswitching/laws.FnNeighbours", spec := "fnNeighbours", unfollowed := true, recurses := true, apart := false, narrowed := true }
def FnNeighboursUptoSaid : Prop := fnNeighboursUptoRow.holds Try.pinned (OpenSpec.upto fnNeighboursSpec)

/-- 'laws.FnSortsTurned', WHERE WHAT IT READS IS OF BULK AT MOST 1048576: true; the input reads as it did. -/
def fnSortsTurnedUptoRow : OpenClaim := { program := "ytnkpoflhdfchjaa", sum := "3565f04e27c9fd948e612f7a51d9f93fe428f673651fb18f526a72f5fd3a42e7", func := "loop.example/circuitswitching/laws.FnSortsTurned", spec := "fnSortsTurned", unfollowed := true, recurses := true, apart := false, narrowed := true }
def FnSortsTurnedUptoSaid : Prop := fnSortsTurnedUptoRow.holds Try.pinned (OpenSpec.upto fnSortsTurnedSpec)

/-- 'laws.FnNetDepth', WHERE WHAT IT READS IS OF BULK AT MOST 1048576: true; the input reads as it did. -/
def fnNetDepthUptoRow : OpenClaim := { program := "ytnkpoflhdfchjaa", sum := "3565f04e27c9fd948e612f7a51d9f93fe428f673651fb18f526a72f5fd3a42e7", func := "loop.example/circuitswitching/laws.FnNetDepth", spec := "fnNetDepth", recurses := true, apart := false, narrowed := true }
def FnNetDepthUptoSaid : Prop := fnNetDepthUptoRow.holds Try.pinned (OpenSpec.upto fnNetDepthSpec)

/-- 'laws.FnBubbleNet', WHERE WHAT IT READS IS OF BULK AT MOST 1048576: true; the input reads as it did. -/
def fnBubbleNetUptoRow : OpenClaim := { program := "ytnkpoflhdfchjaa", sum := "3565f04e27c9fd948e612f7a51d9f93fe428f673651fb18f526a72f5fd3a42e7", func := "loop.example/circuitswitching/laws.FnBubbleNet", spec := "fnBubbleNet", unfollowed := true, recurses := true, apart := false, narrowed := true }
def FnBubbleNetUptoSaid : Prop := fnBubbleNetUptoRow.holds Try.pinned (OpenSpec.upto fnBubbleNetSpec)

/-- 'laws.FnBrickNet', WHERE WHAT IT READS IS OF BULK AT MOST 1048576: true; the input reads as it did. -/
def fnBrickNetUptoRow : OpenClaim := { program := "ytnkpoflhdfchjaa", sum := "3565f04e27c9fd948e612f7a51d9f93fe428f673651fb18f526a72f5fd3a42e7", func := "loop.example/circuitswitching/laws.FnBrickNet", spec := "fnBrickNet", unfollowed := true, recurses := true, apart := false, narrowed := true }
def FnBrickNetUptoSaid : Prop := fnBrickNetUptoRow.holds Try.pinned (OpenSpec.upto fnBrickNetSpec)

/-- 'laws.FnMergeNet', WHERE WHAT IT READS IS OF BULK AT MOST 1048576: true; the input reads as it did. -/
def fnMergeNetUptoRow : OpenClaim := { program := "ytnkpoflhdfchjaa", sum := "3565f04e27c9fd948e612f7a51d9f93fe428f673651fb18f526a72f5fd3a42e7", func := "loop.example/circuitswitching/laws.FnMergeNet", spec := "fnMergeNet", unfollowed := true, recurses := true, apart := false, narrowed := true }
def FnMergeNetUptoSaid : Prop := fnMergeNetUptoRow.holds Try.pinned (OpenSpec.upto fnMergeNetSpec)

/-- 'laws.FnNetUseless', WHERE WHAT IT READS IS OF BULK AT MOST 1048576: true; the input reads as it did. -/
def fnNetUselessUptoRow : OpenClaim := { program := "ytnkpoflhdfchjaa", sum := "3565f04e27c9fd948e612f7a51d9f93fe428f673651fb18f526a72f5fd3a42e7", func := "loop.example/circuitswitching/laws.FnNetUseless", spec := "fnNetUseless", unfollowed := true, recurses := true, apart := false, narrowed := true }
def FnNetUselessUptoSaid : Prop := fnNetUselessUptoRow.holds Try.pinned (OpenSpec.upto fnNetUselessSpec)

/-- 'laws.FnExactNetValid', WHERE WHAT IT READS IS OF BULK AT MOST 1048576: true; the input reads as it did. -/
def fnExactNetValidUptoRow : OpenClaim := { program := "ytnkpoflhdfchjaa", sum := "3565f04e27c9fd948e612f7a51d9f93fe428f673651fb18f526a72f5fd3a42e7", func := "loop.example/circuitswitching/laws.FnExactNetValid", spec := "fnExactNetValid", apart := false, narrowed := true }
def FnExactNetValidUptoSaid : Prop := fnExactNetValidUptoRow.holds Try.pinned (OpenSpec.upto fnExactNetValidSpec)

/-- 'laws.FnExactNetRun', WHERE WHAT IT READS IS OF BULK AT MOST 1048576: true; the input reads as it did. -/
def fnExactNetRunUptoRow : OpenClaim := { program := "ytnkpoflhdfchjaa", sum := "3565f04e27c9fd948e612f7a51d9f93fe428f673651fb18f526a72f5fd3a42e7", func := "loop.example/circuitswitching/laws.FnExactNetRun", spec := "fnExactNetRun", apart := false, narrowed := true }
def FnExactNetRunUptoSaid : Prop := fnExactNetRunUptoRow.holds Try.pinned (OpenSpec.upto fnExactNetRunSpec)

/-- 'laws.FnExactNetSorts', WHERE WHAT IT READS IS OF BULK AT MOST 1048576: true; the input reads as it did. -/
def fnExactNetSortsUptoRow : OpenClaim := { program := "ytnkpoflhdfchjaa", sum := "3565f04e27c9fd948e612f7a51d9f93fe428f673651fb18f526a72f5fd3a42e7", func := "loop.example/circuitswitching/laws.FnExactNetSorts", spec := "fnExactNetSorts", unfollowed := true, recurses := true, apart := false, narrowed := true }
def FnExactNetSortsUptoSaid : Prop := fnExactNetSortsUptoRow.holds Try.pinned (OpenSpec.upto fnExactNetSortsSpec)

/-- 'laws.FnExactBitFault', WHERE WHAT IT READS IS OF BULK AT MOST 1048576: true; the input reads as it did. -/
def fnExactBitFaultUptoRow : OpenClaim := { program := "ytnkpoflhdfchjaa", sum := "3565f04e27c9fd948e612f7a51d9f93fe428f673651fb18f526a72f5fd3a42e7", func := "loop.example/circuitswitching/laws.FnExactBitFault", spec := "fnExactBitFault", unfollowed := true, recurses := true, apart := false, narrowed := true }
def FnExactBitFaultUptoSaid : Prop := fnExactBitFaultUptoRow.holds Try.pinned (OpenSpec.upto fnExactBitFaultSpec)

/-- 'laws.FnExactNeighbours', WHERE WHAT IT READS IS OF BULK AT MOST 1048576: true; the input reads as it did. -/
def fnExactNeighboursUptoRow : OpenClaim := { program := "ytnkpoflhdfchjaa", sum := "3565f04e27c9fd948e612f7a51d9f93fe428f673651fb18f526a72f5fd3a42e7", func := "loop.example/circuitswitching/laws.FnExactNeighbours", spec := "fnExactNeighbours", apart := false, narrowed := true }
def FnExactNeighboursUptoSaid : Prop := fnExactNeighboursUptoRow.holds Try.pinned (OpenSpec.upto fnExactNeighboursSpec)

/-- 'laws.FnExactSortsTurned', WHERE WHAT IT READS IS OF BULK AT MOST 1048576: true; the input reads as it did. -/
def fnExactSortsTurnedUptoRow : OpenClaim := { program := "ytnkpoflhdfchjaa", sum := "3565f04e27c9fd948e612f7a51d9f93fe428f673651fb18f526a72f5fd3a42e7", func := "loop.example/circuitswitching/laws.FnExactSortsTurned", spec := "fnExactSortsTurned", apart := false, narrowed := true }
def FnExactSortsTurnedUptoSaid : Prop := fnExactSortsTurnedUptoRow.holds Try.pinned (OpenSpec.upto fnExactSortsTurnedSpec)

/-- 'laws.FnExactNetDepth', WHERE WHAT IT READS IS OF BULK AT MOST 1048576: true; the input reads as it did. -/
def fnExactNetDepthUptoRow : OpenClaim := { program := "ytnkpoflhdfchjaa", sum := "3565f04e27c9fd948e612f7a51d9f93fe428f673651fb18f526a72f5fd3a42e7", func := "loop.example/circuitswitching/laws.FnExactNetDepth", spec := "fnExactNetDepth", apart := false, narrowed := true }
def FnExactNetDepthUptoSaid : Prop := fnExactNetDepthUptoRow.holds Try.pinned (OpenSpec.upto fnExactNetDepthSpec)

/-- 'laws.FnExactBubbleNet', WHERE WHAT IT READS IS OF BULK AT MOST 1048576: true; the input reads as it did. -/
def fnExactBubbleNetUptoRow : OpenClaim := { program := "ytnkpoflhdfchjaa", sum := "3565f04e27c9fd948e612f7a51d9f93fe428f673651fb18f526a72f5fd3a42e7", func := "loop.example/circuitswitching/laws.FnExactBubbleNet", spec := "fnExactBubbleNet", apart := false, narrowed := true }
def FnExactBubbleNetUptoSaid : Prop := fnExactBubbleNetUptoRow.holds Try.pinned (OpenSpec.upto fnExactBubbleNetSpec)

/-- 'laws.FnExactBrickNet', WHERE WHAT IT READS IS OF BULK AT MOST 1048576: true; the input reads as it did. -/
def fnExactBrickNetUptoRow : OpenClaim := { program := "ytnkpoflhdfchjaa", sum := "3565f04e27c9fd948e612f7a51d9f93fe428f673651fb18f526a72f5fd3a42e7", func := "loop.example/circuitswitching/laws.FnExactBrickNet", spec := "fnExactBrickNet", apart := false, narrowed := true }
def FnExactBrickNetUptoSaid : Prop := fnExactBrickNetUptoRow.holds Try.pinned (OpenSpec.upto fnExactBrickNetSpec)

/-- 'laws.FnExactMergeNet', WHERE WHAT IT READS IS OF BULK AT MOST 1048576: true; the input reads as it did. -/
def fnExactMergeNetUptoRow : OpenClaim := { program := "ytnkpoflhdfchjaa", sum := "3565f04e27c9fd948e612f7a51d9f93fe428f673651fb18f526a72f5fd3a42e7", func := "loop.example/circuitswitching/laws.FnExactMergeNet", spec := "fnExactMergeNet", unfollowed := true, recurses := true, apart := false, narrowed := true }
def FnExactMergeNetUptoSaid : Prop := fnExactMergeNetUptoRow.holds Try.pinned (OpenSpec.upto fnExactMergeNetSpec)

/-- 'laws.FnExactNetUseless', WHERE WHAT IT READS IS OF BULK AT MOST 1048576: true; the input reads as it did. -/
def fnExactNetUselessUptoRow : OpenClaim := { program := "ytnkpoflhdfchjaa", sum := "3565f04e27c9fd948e612f7a51d9f93fe428f673651fb18f526a72f5fd3a42e7", func := "loop.example/circuitswitching/laws.FnExactNetUseless", spec := "fnExactNetUseless", unfollowed := true, recurses := true, apart := false, narrowed := true }
def FnExactNetUselessUptoSaid : Prop := fnExactNetUselessUptoRow.holds Try.pinned (OpenSpec.upto fnExactNetUselessSpec)

end Rows
end Go.Proofs.Ytnkpoflhdfchjaa
