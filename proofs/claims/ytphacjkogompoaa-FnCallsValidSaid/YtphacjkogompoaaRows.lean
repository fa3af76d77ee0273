/-
  No cell of these rows narrows 'for every input' (looked for: loops, veiled, ifaces, maps, wideKeys, modest, calm, conditions, laid).
  DERIVED. THE GIVEN ROWS OF THIS SEAT. 20 by the template 'for every input the law returns true; each argument reads behind the call as it read before'; 0 by the template 'total and deterministic' (their statements: YtphacjkogompoaaTotals.lean).
  GIVEN WITH THE SEED: the statements are not yours to turn. If you find one false, say at which input.
  Laid BY PROGRAM, IN A SANDBOX (cutbox-rows.mjs): the forced cells as the released guide's own fill.sh prints them over the translation 87f4756e86723754… (all of the seat's roots in one cut). By AI agents, Wed Nov 11 2026. No macro, syntax, notation, axiom, sorry.
-/
import Derived.Test.YtphacjkogompoaaChecked
import GoSem.Claim
import GoSem.ClaimJoined
import GoSem.ClaimMapViews
import Derived.JoinedTies
import Derived.KernelRfl
namespace Go.Proofs.Ytphacjkogompoaa
/- THE CELL 'sum', in the pinned program and in every row, IS THE sha256 OF THE DUMP (.gsa) THAT YtphacjkogompoaaProg.lean LOADS. Nothing in Lean hashes anything: it is a label: what it is worth is what the hold of that sum in a sandbox is worth. -/
noncomputable def Try.pinned : Pinned := { name := "ytphacjkogompoaa", sum := "87f4756e8672375460bbe089b20d7bcffc50715b9027214c634560aaf5c72adb", checked := Try.checked }
namespace Rows
def none {H : Type} : Left H := { results := [], args := [] }

/-- 'laws.FnShapeValid': WHATEVER THE INPUT: true; the input reads as it did. -/
def fnShapeValidSpec : ChangeSpec := { name := "fnShapeValid", fn := fun _ => fun
  | [d] => { results := [.lit (.bool true)], args := [d] }
  | _ => none }
def fnShapeValidRow : OpenClaim := { program := "ytphacjkogompoaa", sum := "87f4756e8672375460bbe089b20d7bcffc50715b9027214c634560aaf5c72adb", func := "loop.example/circuitswitching/laws.FnShapeValid", spec := "fnShapeValid", apart := false }
def FnShapeValidSaid : Prop := fnShapeValidRow.holds Try.pinned (OpenSpec.ofChange fnShapeValidSpec)

/-- ITS FALSE NEIGHBOUR: 'it returns false'. Refute it at one input. -/
def fnShapeValidWrong : ChangeSpec := { name := "fnShapeValid", fn := fun _ => fun
  | [d] => { results := [.lit (.bool false)], args := [d] }
  | _ => none }
def FnShapeValidWrongFalsely : Prop := fnShapeValidRow.holds Try.pinned (OpenSpec.ofChange fnShapeValidWrong)

/-- 'laws.FnCallsValid': WHATEVER THE INPUT: true; the input reads as it did. -/
def fnCallsValidSpec : ChangeSpec := { name := "fnCallsValid", fn := fun _ => fun
  | [d] => { results := [.lit (.bool true)], args := [d] }
  | _ => none }
def fnCallsValidRow : OpenClaim := { program := "ytphacjkogompoaa", sum := "87f4756e8672375460bbe089b20d7bcffc50715b9027214c634560aaf5c72adb", func := "loop.example/circuitswitching/laws.FnCallsValid", spec := "fnCallsValid", unfollowed := true, recurses := true, apart := false }
def FnCallsValidSaid : Prop := fnCallsValidRow.holds Try.pinned (OpenSpec.ofChange fnCallsValidSpec)

/-- ITS FALSE NEIGHBOUR: 'it returns false'. Refute it at one input. -/
def fnCallsValidWrong : ChangeSpec := { name := "fnCallsValid", fn := fun _ => fun
  | [d] => { results := [.lit (.bool false)], args := [d] }
  | _ => none }
def FnCallsValidWrongFalsely : Prop := fnCallsValidRow.holds Try.pinned (OpenSpec.ofChange fnCallsValidWrong)

/-- 'laws.FnMiddleFree': WHATEVER THE INPUT: true; the input reads as it did. -/
def fnMiddleFreeSpec : ChangeSpec := { name := "fnMiddleFree", fn := fun _ => fun
  | [d] => { results := [.lit (.bool true)], args := [d] }
  | _ => none }
def fnMiddleFreeRow : OpenClaim := { program := "ytphacjkogompoaa", sum := "87f4756e8672375460bbe089b20d7bcffc50715b9027214c634560aaf5c72adb", func := "loop.example/circuitswitching/laws.FnMiddleFree", spec := "fnMiddleFree", unfollowed := true, recurses := true, apart := false }
def FnMiddleFreeSaid : Prop := fnMiddleFreeRow.holds Try.pinned (OpenSpec.ofChange fnMiddleFreeSpec)

/-- ITS FALSE NEIGHBOUR: 'it returns false'. Refute it at one input. -/
def fnMiddleFreeWrong : ChangeSpec := { name := "fnMiddleFree", fn := fun _ => fun
  | [d] => { results := [.lit (.bool false)], args := [d] }
  | _ => none }
def FnMiddleFreeWrongFalsely : Prop := fnMiddleFreeRow.holds Try.pinned (OpenSpec.ofChange fnMiddleFreeWrong)

/-- 'laws.FnCallPut': WHATEVER THE INPUT: true; the input reads as it did. -/
def fnCallPutSpec : ChangeSpec := { name := "fnCallPut", fn := fun _ => fun
  | [d] => { results := [.lit (.bool true)], args := [d] }
  | _ => none }
def fnCallPutRow : OpenClaim := { program := "ytphacjkogompoaa", sum := "87f4756e8672375460bbe089b20d7bcffc50715b9027214c634560aaf5c72adb", func := "loop.example/circuitswitching/laws.FnCallPut", spec := "fnCallPut", unfollowed := true, recurses := true, apart := false }
def FnCallPutSaid : Prop := fnCallPutRow.holds Try.pinned (OpenSpec.ofChange fnCallPutSpec)

/-- ITS FALSE NEIGHBOUR: 'it returns false'. Refute it at one input. -/
def fnCallPutWrong : ChangeSpec := { name := "fnCallPut", fn := fun _ => fun
  | [d] => { results := [.lit (.bool false)], args := [d] }
  | _ => none }
def FnCallPutWrongFalsely : Prop := fnCallPutRow.holds Try.pinned (OpenSpec.ofChange fnCallPutWrong)

/-- 'laws.FnCallDrop': WHATEVER THE INPUT: true; the input reads as it did. -/
def fnCallDropSpec : ChangeSpec := { name := "fnCallDrop", fn := fun _ => fun
  | [d] => { results := [.lit (.bool true)], args := [d] }
  | _ => none }
def fnCallDropRow : OpenClaim := { program := "ytphacjkogompoaa", sum := "87f4756e8672375460bbe089b20d7bcffc50715b9027214c634560aaf5c72adb", func := "loop.example/circuitswitching/laws.FnCallDrop", spec := "fnCallDrop", unfollowed := true, recurses := true, apart := false }
def FnCallDropSaid : Prop := fnCallDropRow.holds Try.pinned (OpenSpec.ofChange fnCallDropSpec)

/-- ITS FALSE NEIGHBOUR: 'it returns false'. Refute it at one input. -/
def fnCallDropWrong : ChangeSpec := { name := "fnCallDrop", fn := fun _ => fun
  | [d] => { results := [.lit (.bool false)], args := [d] }
  | _ => none }
def FnCallDropWrongFalsely : Prop := fnCallDropRow.holds Try.pinned (OpenSpec.ofChange fnCallDropWrong)

/-- 'laws.FnStrict': WHATEVER THE INPUT: true; the input reads as it did. -/
def fnStrictSpec : ChangeSpec := { name := "fnStrict", fn := fun _ => fun
  | [d] => { results := [.lit (.bool true)], args := [d] }
  | _ => none }
def fnStrictRow : OpenClaim := { program := "ytphacjkogompoaa", sum := "87f4756e8672375460bbe089b20d7bcffc50715b9027214c634560aaf5c72adb", func := "loop.example/circuitswitching/laws.FnStrict", spec := "fnStrict", apart := false }
def FnStrictSaid : Prop := fnStrictRow.holds Try.pinned (OpenSpec.ofChange fnStrictSpec)

/-- ITS FALSE NEIGHBOUR: 'it returns false'. Refute it at one input. -/
def fnStrictWrong : ChangeSpec := { name := "fnStrict", fn := fun _ => fun
  | [d] => { results := [.lit (.bool false)], args := [d] }
  | _ => none }
def FnStrictWrongFalsely : Prop := fnStrictRow.holds Try.pinned (OpenSpec.ofChange fnStrictWrong)

/-- 'laws.FnEnough': WHATEVER THE INPUT: true; the input reads as it did. -/
def fnEnoughSpec : ChangeSpec := { name := "fnEnough", fn := fun _ => fun
  | [d] => { results := [.lit (.bool true)], args := [d] }
  | _ => none }
def fnEnoughRow : OpenClaim := { program := "ytphacjkogompoaa", sum := "87f4756e8672375460bbe089b20d7bcffc50715b9027214c634560aaf5c72adb", func := "loop.example/circuitswitching/laws.FnEnough", spec := "fnEnough", unfollowed := true, recurses := true, apart := false }
def FnEnoughSaid : Prop := fnEnoughRow.holds Try.pinned (OpenSpec.ofChange fnEnoughSpec)

/-- ITS FALSE NEIGHBOUR: 'it returns false'. Refute it at one input. -/
def fnEnoughWrong : ChangeSpec := { name := "fnEnough", fn := fun _ => fun
  | [d] => { results := [.lit (.bool false)], args := [d] }
  | _ => none }
def FnEnoughWrongFalsely : Prop := fnEnoughRow.holds Try.pinned (OpenSpec.ofChange fnEnoughWrong)

/-- 'laws.FnCallMove': WHATEVER THE INPUT: true; the input reads as it did. -/
def fnCallMoveSpec : ChangeSpec := { name := "fnCallMove", fn := fun _ => fun
  | [d] => { results := [.lit (.bool true)], args := [d] }
  | _ => none }
def fnCallMoveRow : OpenClaim := { program := "ytphacjkogompoaa", sum := "87f4756e8672375460bbe089b20d7bcffc50715b9027214c634560aaf5c72adb", func := "loop.example/circuitswitching/laws.FnCallMove", spec := "fnCallMove", unfollowed := true, recurses := true, apart := false }
def FnCallMoveSaid : Prop := fnCallMoveRow.holds Try.pinned (OpenSpec.ofChange fnCallMoveSpec)

/-- ITS FALSE NEIGHBOUR: 'it returns false'. Refute it at one input. -/
def fnCallMoveWrong : ChangeSpec := { name := "fnCallMove", fn := fun _ => fun
  | [d] => { results := [.lit (.bool false)], args := [d] }
  | _ => none }
def FnCallMoveWrongFalsely : Prop := fnCallMoveRow.holds Try.pinned (OpenSpec.ofChange fnCallMoveWrong)

/-- 'laws.FnCallsMoved': WHATEVER THE INPUT: true; the input reads as it did. -/
def fnCallsMovedSpec : ChangeSpec := { name := "fnCallsMoved", fn := fun _ => fun
  | [d] => { results := [.lit (.bool true)], args := [d] }
  | _ => none }
def fnCallsMovedRow : OpenClaim := { program := "ytphacjkogompoaa", sum := "87f4756e8672375460bbe089b20d7bcffc50715b9027214c634560aaf5c72adb", func := "loop.example/circuitswitching/laws.FnCallsMoved", spec := "fnCallsMoved", apart := false }
def FnCallsMovedSaid : Prop := fnCallsMovedRow.holds Try.pinned (OpenSpec.ofChange fnCallsMovedSpec)

/-- ITS FALSE NEIGHBOUR: 'it returns false'. Refute it at one input. -/
def fnCallsMovedWrong : ChangeSpec := { name := "fnCallsMoved", fn := fun _ => fun
  | [d] => { results := [.lit (.bool false)], args := [d] }
  | _ => none }
def FnCallsMovedWrongFalsely : Prop := fnCallsMovedRow.holds Try.pinned (OpenSpec.ofChange fnCallsMovedWrong)

/-- 'laws.FnRouteAll': WHATEVER THE INPUT: true; the input reads as it did. -/
def fnRouteAllSpec : ChangeSpec := { name := "fnRouteAll", fn := fun _ => fun
  | [d] => { results := [.lit (.bool true)], args := [d] }
  | _ => none }
def fnRouteAllRow : OpenClaim := { program := "ytphacjkogompoaa", sum := "87f4756e8672375460bbe089b20d7bcffc50715b9027214c634560aaf5c72adb", func := "loop.example/circuitswitching/laws.FnRouteAll", spec := "fnRouteAll", unfollowed := true, recurses := true, apart := false }
def FnRouteAllSaid : Prop := fnRouteAllRow.holds Try.pinned (OpenSpec.ofChange fnRouteAllSpec)

/-- ITS FALSE NEIGHBOUR: 'it returns false'. Refute it at one input. -/
def fnRouteAllWrong : ChangeSpec := { name := "fnRouteAll", fn := fun _ => fun
  | [d] => { results := [.lit (.bool false)], args := [d] }
  | _ => none }
def FnRouteAllWrongFalsely : Prop := fnRouteAllRow.holds Try.pinned (OpenSpec.ofChange fnRouteAllWrong)

/-- 'laws.FnExactShapeValid': WHATEVER THE INPUT: true; the input reads as it did. -/
def fnExactShapeValidSpec : ChangeSpec := { name := "fnExactShapeValid", fn := fun _ => fun
  | [d] => { results := [.lit (.bool true)], args := [d] }
  | _ => none }
def fnExactShapeValidRow : OpenClaim := { program := "ytphacjkogompoaa", sum := "87f4756e8672375460bbe089b20d7bcffc50715b9027214c634560aaf5c72adb", func := "loop.example/circuitswitching/laws.FnExactShapeValid", spec := "fnExactShapeValid", apart := false }
def FnExactShapeValidSaid : Prop := fnExactShapeValidRow.holds Try.pinned (OpenSpec.ofChange fnExactShapeValidSpec)

/-- ITS FALSE NEIGHBOUR: 'it returns false'. Refute it at one input. -/
def fnExactShapeValidWrong : ChangeSpec := { name := "fnExactShapeValid", fn := fun _ => fun
  | [d] => { results := [.lit (.bool false)], args := [d] }
  | _ => none }
def FnExactShapeValidWrongFalsely : Prop := fnExactShapeValidRow.holds Try.pinned (OpenSpec.ofChange fnExactShapeValidWrong)

/-- 'laws.FnExactCallsValid': WHATEVER THE INPUT: true; the input reads as it did. -/
def fnExactCallsValidSpec : ChangeSpec := { name := "fnExactCallsValid", fn := fun _ => fun
  | [d1, d2] => { results := [.lit (.bool true)], args := [d1, d2] }
  | _ => none }
def fnExactCallsValidRow : OpenClaim := { program := "ytphacjkogompoaa", sum := "87f4756e8672375460bbe089b20d7bcffc50715b9027214c634560aaf5c72adb", func := "loop.example/circuitswitching/laws.FnExactCallsValid", spec := "fnExactCallsValid", unfollowed := true, recurses := true, apart := false }
def FnExactCallsValidSaid : Prop := fnExactCallsValidRow.holds Try.pinned (OpenSpec.ofChange fnExactCallsValidSpec)

/-- ITS FALSE NEIGHBOUR: 'it returns false'. Refute it at one input. -/
def fnExactCallsValidWrong : ChangeSpec := { name := "fnExactCallsValid", fn := fun _ => fun
  | [d1, d2] => { results := [.lit (.bool false)], args := [d1, d2] }
  | _ => none }
def FnExactCallsValidWrongFalsely : Prop := fnExactCallsValidRow.holds Try.pinned (OpenSpec.ofChange fnExactCallsValidWrong)

/-- 'laws.FnExactMiddleFree': WHATEVER THE INPUT: true; the input reads as it did. -/
def fnExactMiddleFreeSpec : ChangeSpec := { name := "fnExactMiddleFree", fn := fun _ => fun
  | [d1, d2, d3, d4] => { results := [.lit (.bool true)], args := [d1, d2, d3, d4] }
  | _ => none }
def fnExactMiddleFreeRow : OpenClaim := { program := "ytphacjkogompoaa", sum := "87f4756e8672375460bbe089b20d7bcffc50715b9027214c634560aaf5c72adb", func := "loop.example/circuitswitching/laws.FnExactMiddleFree", spec := "fnExactMiddleFree", unfollowed := true, recurses := true, apart := false }
def FnExactMiddleFreeSaid : Prop := fnExactMiddleFreeRow.holds Try.pinned (OpenSpec.ofChange fnExactMiddleFreeSpec)

/-- ITS FALSE NEIGHBOUR: 'it returns false'. Refute it at one input. -/
def fnExactMiddleFreeWrong : ChangeSpec := { name := "fnExactMiddleFree", fn := fun _ => fun
  | [d1, d2, d3, d4] => { results := [.lit (.bool false)], args := [d1, d2, d3, d4] }
  | _ => none }
def FnExactMiddleFreeWrongFalsely : Prop := fnExactMiddleFreeRow.holds Try.pinned (OpenSpec.ofChange fnExactMiddleFreeWrong)

/-- 'laws.FnExactCallPut': WHATEVER THE INPUT: true; the input reads as it did. -/
def fnExactCallPutSpec : ChangeSpec := { name := "fnExactCallPut", fn := fun _ => fun
  | [d1, d2, d3, d4] => { results := [.lit (.bool true)], args := [d1, d2, d3, d4] }
  | _ => none }
def fnExactCallPutRow : OpenClaim := { program := "ytphacjkogompoaa", sum := "87f4756e8672375460bbe089b20d7bcffc50715b9027214c634560aaf5c72adb", func := "loop.example/circuitswitching/laws.FnExactCallPut", spec := "fnExactCallPut", unfollowed := true, recurses := true, apart := false }
def FnExactCallPutSaid : Prop := fnExactCallPutRow.holds Try.pinned (OpenSpec.ofChange fnExactCallPutSpec)

/-- ITS FALSE NEIGHBOUR: 'it returns false'. Refute it at one input. -/
def fnExactCallPutWrong : ChangeSpec := { name := "fnExactCallPut", fn := fun _ => fun
  | [d1, d2, d3, d4] => { results := [.lit (.bool false)], args := [d1, d2, d3, d4] }
  | _ => none }
def FnExactCallPutWrongFalsely : Prop := fnExactCallPutRow.holds Try.pinned (OpenSpec.ofChange fnExactCallPutWrong)

/-- 'laws.FnExactCallDrop': WHATEVER THE INPUT: true; the input reads as it did. -/
def fnExactCallDropSpec : ChangeSpec := { name := "fnExactCallDrop", fn := fun _ => fun
  | [d1, d2, d3] => { results := [.lit (.bool true)], args := [d1, d2, d3] }
  | _ => none }
def fnExactCallDropRow : OpenClaim := { program := "ytphacjkogompoaa", sum := "87f4756e8672375460bbe089b20d7bcffc50715b9027214c634560aaf5c72adb", func := "loop.example/circuitswitching/laws.FnExactCallDrop", spec := "fnExactCallDrop", unfollowed := true, recurses := true, apart := false }
def FnExactCallDropSaid : Prop := fnExactCallDropRow.holds Try.pinned (OpenSpec.ofChange fnExactCallDropSpec)

/-- ITS FALSE NEIGHBOUR: 'it returns false'. Refute it at one input. -/
def fnExactCallDropWrong : ChangeSpec := { name := "fnExactCallDrop", fn := fun _ => fun
  | [d1, d2, d3] => { results := [.lit (.bool false)], args := [d1, d2, d3] }
  | _ => none }
def FnExactCallDropWrongFalsely : Prop := fnExactCallDropRow.holds Try.pinned (OpenSpec.ofChange fnExactCallDropWrong)

/-- 'laws.FnExactStrict': WHATEVER THE INPUT: true; the input reads as it did. -/
def fnExactStrictSpec : ChangeSpec := { name := "fnExactStrict", fn := fun _ => fun
  | [d] => { results := [.lit (.bool true)], args := [d] }
  | _ => none }
def fnExactStrictRow : OpenClaim := { program := "ytphacjkogompoaa", sum := "87f4756e8672375460bbe089b20d7bcffc50715b9027214c634560aaf5c72adb", func := "loop.example/circuitswitching/laws.FnExactStrict", spec := "fnExactStrict", apart := false }
def FnExactStrictSaid : Prop := fnExactStrictRow.holds Try.pinned (OpenSpec.ofChange fnExactStrictSpec)

/-- ITS FALSE NEIGHBOUR: 'it returns false'. Refute it at one input. -/
def fnExactStrictWrong : ChangeSpec := { name := "fnExactStrict", fn := fun _ => fun
  | [d] => { results := [.lit (.bool false)], args := [d] }
  | _ => none }
def FnExactStrictWrongFalsely : Prop := fnExactStrictRow.holds Try.pinned (OpenSpec.ofChange fnExactStrictWrong)

/-- 'laws.FnExactEnough': WHATEVER THE INPUT: true; the input reads as it did. -/
def fnExactEnoughSpec : ChangeSpec := { name := "fnExactEnough", fn := fun _ => fun
  | [d] => { results := [.lit (.bool true)], args := [d] }
  | _ => none }
def fnExactEnoughRow : OpenClaim := { program := "ytphacjkogompoaa", sum := "87f4756e8672375460bbe089b20d7bcffc50715b9027214c634560aaf5c72adb", func := "loop.example/circuitswitching/laws.FnExactEnough", spec := "fnExactEnough", apart := false }
def FnExactEnoughSaid : Prop := fnExactEnoughRow.holds Try.pinned (OpenSpec.ofChange fnExactEnoughSpec)

/-- ITS FALSE NEIGHBOUR: 'it returns false'. Refute it at one input. -/
def fnExactEnoughWrong : ChangeSpec := { name := "fnExactEnough", fn := fun _ => fun
  | [d] => { results := [.lit (.bool false)], args := [d] }
  | _ => none }
def FnExactEnoughWrongFalsely : Prop := fnExactEnoughRow.holds Try.pinned (OpenSpec.ofChange fnExactEnoughWrong)

/-- 'laws.FnExactCallMove': WHATEVER THE INPUT: true; the input reads as it did. -/
def fnExactCallMoveSpec : ChangeSpec := { name := "fnExactCallMove", fn := fun _ => fun
  | [d1, d2, d3, d4] => { results := [.lit (.bool true)], args := [d1, d2, d3, d4] }
  | _ => none }
def fnExactCallMoveRow : OpenClaim := { program := "ytphacjkogompoaa", sum := "87f4756e8672375460bbe089b20d7bcffc50715b9027214c634560aaf5c72adb", func := "loop.example/circuitswitching/laws.FnExactCallMove", spec := "fnExactCallMove", unfollowed := true, recurses := true, apart := false }
def FnExactCallMoveSaid : Prop := fnExactCallMoveRow.holds Try.pinned (OpenSpec.ofChange fnExactCallMoveSpec)

/-- ITS FALSE NEIGHBOUR: 'it returns false'. Refute it at one input. -/
def fnExactCallMoveWrong : ChangeSpec := { name := "fnExactCallMove", fn := fun _ => fun
  | [d1, d2, d3, d4] => { results := [.lit (.bool false)], args := [d1, d2, d3, d4] }
  | _ => none }
def FnExactCallMoveWrongFalsely : Prop := fnExactCallMoveRow.holds Try.pinned (OpenSpec.ofChange fnExactCallMoveWrong)

/-- 'laws.FnExactCallsMoved': WHATEVER THE INPUT: true; the input reads as it did. -/
def fnExactCallsMovedSpec : ChangeSpec := { name := "fnExactCallsMoved", fn := fun _ => fun
  | [d1, d2] => { results := [.lit (.bool true)], args := [d1, d2] }
  | _ => none }
def fnExactCallsMovedRow : OpenClaim := { program := "ytphacjkogompoaa", sum := "87f4756e8672375460bbe089b20d7bcffc50715b9027214c634560aaf5c72adb", func := "loop.example/circuitswitching/laws.FnExactCallsMoved", spec := "fnExactCallsMoved", apart := false }
def FnExactCallsMovedSaid : Prop := fnExactCallsMovedRow.holds Try.pinned (OpenSpec.ofChange fnExactCallsMovedSpec)

/-- ITS FALSE NEIGHBOUR: 'it returns false'. Refute it at one input. -/
def fnExactCallsMovedWrong : ChangeSpec := { name := "fnExactCallsMoved", fn := fun _ => fun
  | [d1, d2] => { results := [.lit (.bool false)], args := [d1, d2] }
  | _ => none }
def FnExactCallsMovedWrongFalsely : Prop := fnExactCallsMovedRow.holds Try.pinned (OpenSpec.ofChange fnExactCallsMovedWrong)

/-- 'laws.FnExactRouteAll': WHATEVER THE INPUT: true; the input reads as it did. -/
def fnExactRouteAllSpec : ChangeSpec := { name := "fnExactRouteAll", fn := fun _ => fun
  | [d1, d2] => { results := [.lit (.bool true)], args := [d1, d2] }
  | _ => none }
def fnExactRouteAllRow : OpenClaim := { program := "ytphacjkogompoaa", sum := "87f4756e8672375460bbe089b20d7bcffc50715b9027214c634560aaf5c72adb", func := "loop.example/circuitswitching/laws.FnExactRouteAll", spec := "fnExactRouteAll", unfollowed := true, recurses := true, apart := false }
def FnExactRouteAllSaid : Prop := fnExactRouteAllRow.holds Try.pinned (OpenSpec.ofChange fnExactRouteAllSpec)

/-- ITS FALSE NEIGHBOUR: 'it returns false'. Refute it at one input. -/
def fnExactRouteAllWrong : ChangeSpec := { name := "fnExactRouteAll", fn := fun _ => fun
  | [d1, d2] => { results := [.lit (.bool false)], args := [d1, d2] }
  | _ => none }
def FnExactRouteAllWrongFalsely : Prop := fnExactRouteAllRow.holds Try.pinned (OpenSpec.ofChange fnExactRouteAllWrong)

/- THE SECOND FORM. 'bulk': how many values and letters a reading holds, each counted each time it is reached (what is shared counts as often as it is met; a slice's spare places count too). A statement '..UptoSaid' is the law's where the arguments, and the package variables that the reading takes, are together of bulk at most 1048576: NARROWER than '..Said'. Prove '..Said' where nothing that the law and all that it calls make is longer than what came in: it says more and counts as full. Else prove '..UptoSaid'. A law counts once. -/
mutual
def uptoBulk {H : Type} : DataW H → Nat
  | .lit (.string bytes) => bytes.length + 1
  | .lit _ => 1
  | .nil => 1
  | .ptr d => uptoBulk d + 1
  | .slice elems spare => uptoBulkAll elems + uptoBulkAll spare + 1
  | .agg parts => uptoBulkAll parts + 1
  | .iface _ d => uptoBulk d + 1
  | .map entries => uptoBulkEntries entries + 1
  | .held _ => 1
def uptoBulkAll {H : Type} : List (DataW H) → Nat
  | [] => 0
  | d :: r => uptoBulk d + uptoBulkAll r
def uptoBulkEntries {H : Type} : List (Lit × DataW H) → Nat
  | [] => 0
  | x :: r => uptoBulkEntry x + uptoBulkEntries r
def uptoBulkEntry {H : Type} : Lit × DataW H → Nat
  | (.string bytes, d) => bytes.length + uptoBulk d + 1
  | (_, d) => uptoBulk d + 1
 end
def uptoSmall : (H : Type) → List (DataW H) → Bool := fun _ ds => decide (uptoBulkAll ds ≤ 1048576)
def OpenSpec.upto (s : _root_.Go.ChangeSpec) : _root_.Go.OpenSpec := { _root_.Go.OpenSpec.ofChange s with cond := some uptoSmall }

/-- 'laws.FnShapeValid', WHERE WHAT IT READS IS OF BULK AT MOST 1048576: true; the input reads as it did. -/
def fnShapeValidUptoRow : OpenClaim := { program := "ytphacjkogompoaa", sum := "87f4756e8672375460bbe089b20d7bcffc50715b9027214c634560aaf5c72adb", func := "loop.example/circuitswitching/laws.FnShapeValid", spec := "fnShapeValid", apart := false, narrowed := true }
def FnShapeValidUptoSaid : Prop := fnShapeValidUptoRow.holds Try.pinned (OpenSpec.upto fnShapeValidSpec)

/-- 'laws.FnCallsValid', WHERE WHAT IT READS IS OF BULK AT MOST 1048576: true; the input reads as it did. -/
def fnCallsValidUptoRow : OpenClaim := { program := "ytphacjkogompoaa", sum := "87f4756e8672375460bbe089b20d7bcffc50715b9027214c634560aaf5c72adb", func := "loop.example/circuitswitching/laws.FnCallsValid", spec := "fnCallsValid", unfollowed := true, recurses := true, apart := false, narrowed := true }
def FnCallsValidUptoSaid : Prop := fnCallsValidUptoRow.holds Try.pinned (OpenSpec.upto fnCallsValidSpec)

/-- 'laws.FnMiddleFree', WHERE WHAT IT READS IS OF BULK AT MOST 1048576: true; the input reads as it did. -/
def fnMiddleFreeUptoRow : OpenClaim := { program := "ytphacjkogompoaa", sum := "87f4756e8672375460bbe089b20d7bcffc50715b9027214c634560aaf5c72adb", func := "loop.example/circuitswitching/laws.FnMiddleFree", spec := "fnMiddleFree", unfollowed := true, recurses := true, apart := false, narrowed := true }
def FnMiddleFreeUptoSaid : Prop := fnMiddleFreeUptoRow.holds Try.pinned (OpenSpec.upto fnMiddleFreeSpec)

/-- 'laws.FnCallPut', WHERE WHAT IT READS IS OF BULK AT MOST 1048576: true; the input reads as it did. -/
def fnCallPutUptoRow : OpenClaim := { program := "ytphacjkogompoaa", sum := "87f4756e8672375460bbe089b20d7bcffc50715b9027214c634560aaf5c72adb", func := "loop.example/circuitswitching/laws.FnCallPut", spec := "fnCallPut", unfollowed := true, recurses := true, apart := false, narrowed := true }
def FnCallPutUptoSaid : Prop := fnCallPutUptoRow.holds Try.pinned (OpenSpec.upto fnCallPutSpec)

/-- 'laws.FnCallDrop', WHERE WHAT IT READS IS OF BULK AT MOST 1048576: true; the input reads as it did. -/
def fnCallDropUptoRow : OpenClaim := { program := "ytphacjkogompoaa", sum := "87f4756e8672375460bbe089b20d7bcffc50715b9027214c634560aaf5c72adb", func := "loop.example/circuitswitching/laws.FnCallDrop", spec := "fnCallDrop", unfollowed := true, recurses := true, apart := false, narrowed := true }
def FnCallDropUptoSaid : Prop := fnCallDropUptoRow.holds Try.pinned (OpenSpec.upto fnCallDropSpec)

/-- 'laws.FnStrict', WHERE WHAT IT READS IS OF BULK AT MOST 1048576: true; the input reads as it did. -/
def fnStrictUptoRow : OpenClaim := { program := "ytphacjkogompoaa", sum := "87f4756e8672375460bbe089b20d7bcffc50715b9027214c634560aaf5c72adb", func := "loop.example/circuitswitching/laws.FnStrict", spec := "fnStrict", apart := false, narrowed := true }
def FnStrictUptoSaid : Prop := fnStrictUptoRow.holds Try.pinned (OpenSpec.upto fnStrictSpec)

/-- 'laws.FnEnough', WHERE WHAT IT READS IS OF BULK AT MOST 1048576: true; the input reads as it did. -/
def fnEnoughUptoRow : OpenClaim := { program := "ytphacjkogompoaa", sum := "87f4756e8672375460bbe089b20d7bcffc50715b9027214c634560aaf5c72adb", func := "loop.example/circuitswitching/laws.FnEnough", spec := "fnEnough", unfollowed := true, recurses := true, apart := false, narrowed := true }
def FnEnoughUptoSaid : Prop := fnEnoughUptoRow.holds Try.pinned (OpenSpec.upto fnEnoughSpec)

/-- 'laws.FnCallMove', WHERE WHAT IT READS IS OF BULK AT MOST 1048576: true; the input reads as it did. -/
def fnCallMoveUptoRow : OpenClaim := { program := "ytphacjkogompoaa", sum := "87f4756e8672375460bbe089b20d7bcffc50715b9027214c634560aaf5c72adb", func := "loop.example/circuitswitching/laws.FnCallMove", spec := "fnCallMove", unfollowed := true, recurses := true, apart := false, narrowed := true }
def FnCallMoveUptoSaid : Prop := fnCallMoveUptoRow.holds Try.pinned (OpenSpec.upto fnCallMoveSpec)

/-- 'laws.FnCallsMoved', WHERE WHAT IT READS IS OF BULK AT MOST 1048576: true; the input reads as it did. -/
def fnCallsMovedUptoRow : OpenClaim := { program := "ytphacjkogompoaa", sum := "87f4756e8672375460bbe089b20d7bcffc50715b9027214c634560aaf5c72adb", func := "loop.example/circuitswitching/laws.FnCallsMoved", spec := "fnCallsMoved", apart := false, narrowed := true }
def FnCallsMovedUptoSaid : Prop := fnCallsMovedUptoRow.holds Try.pinned (OpenSpec.upto fnCallsMovedSpec)

/-- 'laws.FnRouteAll', WHERE WHAT IT READS IS OF BULK AT MOST 1048576: true; the input reads as it did. -/
def fnRouteAllUptoRow : OpenClaim := { program := "ytphacjkogompoaa", sum := "87f4756e8672375460bbe089b20d7bcffc50715b9027214c634560aaf5c72adb", func := "loop.example/circuitswitching/laws.FnRouteAll", spec := "fnRouteAll", unfollowed := true, recurses := true, apart := false, narrowed := true }
def FnRouteAllUptoSaid : Prop := fnRouteAllUptoRow.holds Try.pinned (OpenSpec.upto fnRouteAllSpec)

/-- 'laws.FnExactShapeValid', WHERE WHAT IT READS IS OF BULK AT MOST 1048576: true; the input reads as it did. -/
def fnExactShapeValidUptoRow : OpenClaim := { program := "ytphacjkogompoaa", sum := "87f4756e8672375460bbe089b20d7bcffc50715b9027214c634560aaf5c72adb", func := "loop.example/circuitswitching/laws.FnExactShapeValid", spec := "fnExactShapeValid", apart := false, narrowed := true }
def FnExactShapeValidUptoSaid : Prop := fnExactShapeValidUptoRow.holds Try.pinned (OpenSpec.upto fnExactShapeValidSpec)

/-- 'laws.FnExactCallsValid', WHERE WHAT IT READS IS OF BULK AT MOST 1048576: true; the input reads as it did. -/
def fnExactCallsValidUptoRow : OpenClaim := { program := "ytphacjkogompoaa", sum := "87f4756e8672375460bbe089b20d7bcffc50715b9027214c634560aaf5c72adb", func := "loop.example/circuitswitching/laws.FnExactCallsValid", spec := "fnExactCallsValid", unfollowed := true, recurses := true, apart := false, narrowed := true }
def FnExactCallsValidUptoSaid : Prop := fnExactCallsValidUptoRow.holds Try.pinned (OpenSpec.upto fnExactCallsValidSpec)

/-- 'laws.FnExactMiddleFree', WHERE WHAT IT READS IS OF BULK AT MOST 1048576: true; the input reads as it did. -/
def fnExactMiddleFreeUptoRow : OpenClaim := { program := "ytphacjkogompoaa", sum := "87f4756e8672375460bbe089b20d7bcffc50715b9027214c634560aaf5c72adb", func := "loop.example/circuitswitching/laws.FnExactMiddleFree", spec := "fnExactMiddleFree", unfollowed := true, recurses := true, apart := false, narrowed := true }
def FnExactMiddleFreeUptoSaid : Prop := fnExactMiddleFreeUptoRow.holds Try.pinned (OpenSpec.upto fnExactMiddleFreeSpec)

/-- 'laws.FnExactCallPut', WHERE WHAT IT READS IS OF BULK AT MOST 1048576: true; the input reads as it did. -/
def fnExactCallPutUptoRow : OpenClaim := { program := "ytphacjkogompoaa", sum := "87f4756e8672375460bbe089b20d7bcffc50715b9027214c634560aaf5c72adb", func := "loop.example/circuitswitching/laws.FnExactCallPut", spec := "fnExactCallPut", unfollowed := true, recurses := true, apart := false, narrowed := true }
def FnExactCallPutUptoSaid : Prop := fnExactCallPutUptoRow.holds Try.pinned (OpenSpec.upto fnExactCallPutSpec)

/-- 'laws.FnExactCallDrop', WHERE WHAT IT READS IS OF BULK AT MOST 1048576: true; the input reads as it did. -/
def fnExactCallDropUptoRow : OpenClaim := { program := "ytphacjkogompoaa", sum := "87f4756e8672375460bbe089b20d7bcffc50715b9027214c634560aaf5c72adb", func := "loop.example/circuitswitching/laws.FnExactCallDrop", spec := "fnExactCallDrop", unfollowed := true, recurses := true, apart := false, narrowed := true }
def FnExactCallDropUptoSaid : Prop := fnExactCallDropUptoRow.holds Try.pinned (OpenSpec.upto fnExactCallDropSpec)

/-- 'laws.FnExactStrict', WHERE WHAT IT READS IS OF BULK AT MOST 1048576: true; the input reads as it did. -/
def fnExactStrictUptoRow : OpenClaim := { program := "ytphacjkogompoaa", sum := "87f4756e8672375460bbe089b20d7bcffc50715b9027214c634560aaf5c72adb", func := "loop.example/circuitswitching/laws.FnExactStrict", spec := "fnExactStrict", apart := false, narrowed := true }
def FnExactStrictUptoSaid : Prop := fnExactStrictUptoRow.holds Try.pinned (OpenSpec.upto fnExactStrictSpec)

/-- 'laws.FnExactEnough', WHERE WHAT IT READS IS OF BULK AT MOST 1048576: true; the input reads as it did. -/
def fnExactEnoughUptoRow : OpenClaim := { program := "ytphacjkogompoaa", sum := "87f4756e8672375460bbe089b20d7bcffc50715b9027214c634560aaf5c72adb", func := "loop.example/circuitswitching/laws.FnExactEnough", spec := "fnExactEnough", apart := false, narrowed := true }
def FnExactEnoughUptoSaid : Prop := fnExactEnoughUptoRow.holds Try.pinned (OpenSpec.upto fnExactEnoughSpec)

/-- 'laws.FnExactCallMove', WHERE WHAT IT READS IS OF BULK AT MOST 1048576: true; the input reads as it did. -/
def fnExactCallMoveUptoRow : OpenClaim := { program := "ytphacjkogompoaa", sum := "87f4756e8672375460bbe089b20d7bcffc50715b9027214c634560aaf5c72adb", func := "loop.example/circuitswitching/laws.FnExactCallMove", spec := "fnExactCallMove", unfollowed := true, recurses := true, apart := false, narrowed := true }
def FnExactCallMoveUptoSaid : Prop := fnExactCallMoveUptoRow.holds Try.pinned (OpenSpec.upto fnExactCallMoveSpec)

/-- 'laws.FnExactCallsMoved', WHERE WHAT IT READS IS OF BULK AT MOST 1048576: true; the input reads as it did. -/
def fnExactCallsMovedUptoRow : OpenClaim := { program := "ytphacjkogompoaa", sum := "87f4756e8672375460bbe089b20d7bcffc50715b9027214c634560aaf5c72adb", func := "loop.example/circuitswitching/laws.FnExactCallsMoved", spec := "fnExactCallsMoved", apart := false, narrowed := true }
def FnExactCallsMovedUptoSaid : Prop := fnExactCallsMovedUptoRow.holds Try.pinned (OpenSpec.upto fnExactCallsMovedSpec)

/-- 'laws.FnExactRouteAll', WHERE WHAT IT READS IS OF BULK AT MOST 1048576: true; the input reads as it did. -/
def fnExactRouteAllUptoRow : OpenClaim := { program := "ytphacjkogompoaa", sum := "87f4756e8672375460bbe089b20d7bcffc50715b9027214c634560aaf5c72adb", func := "loop.example/circuitswitching/laws.FnExactRouteAll", spec := "fnExactRouteAll", unfollowed := true, recurses := true, apart := false, narrowed := true }
def FnExactRouteAllUptoSaid : Prop := fnExactRouteAllUptoRow.holds Try.pinned (OpenSpec.upto fnExactRouteAllSpec)

end Rows
end Go.Proofs.Ytphacjkogompoaa
