/-
  No cell of these rows narrows 'for every input' (looked for: loops, veiled, ifaces, maps, wideKeys, modest, calm, conditions, laid).
  DERIVED. THE GIVEN ROWS OF THIS SEAT. 7 by the template 'for every input the law returns true; each argument reads behind the call as it read before'; 0 by the template 'total and deterministic' (their statements: YtofdnmlpfagibaaTotals.lean).
  GIVEN WITH THE SEED: the statements are not yours to turn. If you find one false, say at which input.
  Laid BY PROGRAM, IN A SANDBOX (cutbox-rows.mjs): the forced cells as the released guide's own fill.sh prints them over the translation 1c53237a73c1f907… (all of the seat's roots in one cut). By AI agents, Wed Nov 11 2026. No macro, syntax, notation, axiom, sorry.
-/
import Derived.Test.YtofdnmlpfagibaaChecked
import GoSem.Claim
import GoSem.ClaimJoined
import GoSem.ClaimMapViews
import Derived.JoinedTies
import Derived.KernelRfl
namespace Go.Proofs.Ytofdnmlpfagibaa
/- THE CELL 'sum', in the pinned program and in every row, IS THE sha256 OF THE DUMP (.gsa) THAT YtofdnmlpfagibaaProg.lean LOADS. Nothing in Lean hashes anything: it is a label: what it is worth is what the hold of that sum in a sandbox is worth. -/
noncomputable def Try.pinned : Pinned := { name := "ytofdnmlpfagibaa", sum := "1c53237a73c1f9076094b5d9761729ae42ceaa49a6bf7490e781f452d326df80", checked := Try.checked }
namespace Rows
def none {H : Type} : Left H := { results := [], args := [] }

/-- 'laws.FnExchangeValid': WHATEVER THE INPUT: true; the input reads as it did. -/
def fnExchangeValidSpec : ChangeSpec := { name := "fnExchangeValid", fn := fun _ => fun
  | [d] => { results := [.lit (.bool true)], args := [d] }
  | _ => none }
def fnExchangeValidRow : OpenClaim := { program := "ytofdnmlpfagibaa", sum := "1c53237a73c1f9076094b5d9761729ae42ceaa49a6bf7490e781f452d326df80", func := "loop.example/circuitswitching/laws.FnExchangeValid", spec := "fnExchangeValid", unfollowed := true, recurses := true, apart := false }
def FnExchangeValidSaid : Prop := fnExchangeValidRow.holds Try.pinned (OpenSpec.ofChange fnExchangeValidSpec)

/-- ITS FALSE NEIGHBOUR: 'it returns false'. Refute it at one input. -/
def fnExchangeValidWrong : ChangeSpec := { name := "fnExchangeValid", fn := fun _ => fun
  | [d] => { results := [.lit (.bool false)], args := [d] }
  | _ => none }
def FnExchangeValidWrongFalsely : Prop := fnExchangeValidRow.holds Try.pinned (OpenSpec.ofChange fnExchangeValidWrong)

/-- 'laws.FnExchangeNew': WHATEVER THE INPUT: true; the input reads as it did. -/
def fnExchangeNewSpec : ChangeSpec := { name := "fnExchangeNew", fn := fun _ => fun
  | [d] => { results := [.lit (.bool true)], args := [d] }
  | _ => none }
def fnExchangeNewRow : OpenClaim := { program := "ytofdnmlpfagibaa", sum := "1c53237a73c1f9076094b5d9761729ae42ceaa49a6bf7490e781f452d326df80", func := "loop.example/circuitswitching/laws.FnExchangeNew", spec := "fnExchangeNew", unfollowed := true, recurses := true, apart := false }
def FnExchangeNewSaid : Prop := fnExchangeNewRow.holds Try.pinned (OpenSpec.ofChange fnExchangeNewSpec)

/-- ITS FALSE NEIGHBOUR: 'it returns false'. Refute it at one input. -/
def fnExchangeNewWrong : ChangeSpec := { name := "fnExchangeNew", fn := fun _ => fun
  | [d] => { results := [.lit (.bool false)], args := [d] }
  | _ => none }
def FnExchangeNewWrongFalsely : Prop := fnExchangeNewRow.holds Try.pinned (OpenSpec.ofChange fnExchangeNewWrong)

/-- 'laws.FnPeerOf': WHATEVER THE INPUT: true; the input reads as it did. -/
def fnPeerOfSpec : ChangeSpec := { name := "fnPeerOf", fn := fun _ => fun
  | [d] => { results := [.lit (.bool true)], args := [d] }
  | _ => none }
def fnPeerOfRow : OpenClaim := { program := "ytofdnmlpfagibaa", sum := "1c53237a73c1f9076094b5d9761729ae42ceaa49a6bf7490e781f452d326df80", func := "loop.example/circuitswitching/laws.FnPeerOf", spec := "fnPeerOf", unfollowed := true, recurses := true, apart := false }
def FnPeerOfSaid : Prop := fnPeerOfRow.holds Try.pinned (OpenSpec.ofChange fnPeerOfSpec)

/-- ITS FALSE NEIGHBOUR: 'it returns false'. Refute it at one input. -/
def fnPeerOfWrong : ChangeSpec := { name := "fnPeerOf", fn := fun _ => fun
  | [d] => { results := [.lit (.bool false)], args := [d] }
  | _ => none }
def FnPeerOfWrongFalsely : Prop := fnPeerOfRow.holds Try.pinned (OpenSpec.ofChange fnPeerOfWrong)

/-- 'laws.FnLineOf': WHATEVER THE INPUT: true; the input reads as it did. -/
def fnLineOfSpec : ChangeSpec := { name := "fnLineOf", fn := fun _ => fun
  | [d] => { results := [.lit (.bool true)], args := [d] }
  | _ => none }
def fnLineOfRow : OpenClaim := { program := "ytofdnmlpfagibaa", sum := "1c53237a73c1f9076094b5d9761729ae42ceaa49a6bf7490e781f452d326df80", func := "loop.example/circuitswitching/laws.FnLineOf", spec := "fnLineOf", unfollowed := true, recurses := true, apart := false }
def FnLineOfSaid : Prop := fnLineOfRow.holds Try.pinned (OpenSpec.ofChange fnLineOfSpec)

/-- ITS FALSE NEIGHBOUR: 'it returns false'. Refute it at one input. -/
def fnLineOfWrong : ChangeSpec := { name := "fnLineOf", fn := fun _ => fun
  | [d] => { results := [.lit (.bool false)], args := [d] }
  | _ => none }
def FnLineOfWrongFalsely : Prop := fnLineOfRow.holds Try.pinned (OpenSpec.ofChange fnLineOfWrong)

/-- 'laws.FnExDo': WHATEVER THE INPUT: true; the input reads as it did. -/
def fnExDoSpec : ChangeSpec := { name := "fnExDo", fn := fun _ => fun
  | [d] => { results := [.lit (.bool true)], args := [d] }
  | _ => none }
def fnExDoRow : OpenClaim := { program := "ytofdnmlpfagibaa", sum := "1c53237a73c1f9076094b5d9761729ae42ceaa49a6bf7490e781f452d326df80", func := "loop.example/circuitswitching/laws.FnExDo", spec := "fnExDo", unfollowed := true, recurses := true, apart := false }
def FnExDoSaid : Prop := fnExDoRow.holds Try.pinned (OpenSpec.ofChange fnExDoSpec)

/-- ITS FALSE NEIGHBOUR: 'it returns false'. Refute it at one input. -/
def fnExDoWrong : ChangeSpec := { name := "fnExDo", fn := fun _ => fun
  | [d] => { results := [.lit (.bool false)], args := [d] }
  | _ => none }
def FnExDoWrongFalsely : Prop := fnExDoRow.holds Try.pinned (OpenSpec.ofChange fnExDoWrong)

/-- 'laws.FnExRun': WHATEVER THE INPUT: true; the input reads as it did. -/
def fnExRunSpec : ChangeSpec := { name := "fnExRun", fn := fun _ => fun
  | [d] => { results := [.lit (.bool true)], args := [d] }
  | _ => none }
def fnExRunRow : OpenClaim := { program := "ytofdnmlpfagibaa", sum := "1c53237a73c1f9076094b5d9761729ae42ceaa49a6bf7490e781f452d326df80", func := "loop.example/circuitswitching/laws.FnExRun", spec := "fnExRun", unfollowed := true, recurses := true, apart := false }
def FnExRunSaid : Prop := fnExRunRow.holds Try.pinned (OpenSpec.ofChange fnExRunSpec)

/-- ITS FALSE NEIGHBOUR: 'it returns false'. Refute it at one input. -/
def fnExRunWrong : ChangeSpec := { name := "fnExRun", fn := fun _ => fun
  | [d] => { results := [.lit (.bool false)], args := [d] }
  | _ => none }
def FnExRunWrongFalsely : Prop := fnExRunRow.holds Try.pinned (OpenSpec.ofChange fnExRunWrong)

/-- 'laws.FnNightDeeds': WHATEVER THE INPUT: true; the input reads as it did. -/
def fnNightDeedsSpec : ChangeSpec := { name := "fnNightDeeds", fn := fun _ => fun
  | [d] => { results := [.lit (.bool true)], args := [d] }
  | _ => none }
def fnNightDeedsRow : OpenClaim := { program := "ytofdnmlpfagibaa", sum := "1c53237a73c1f9076094b5d9761729ae42ceaa49a6bf7490e781f452d326df80", func := "loop.example/circuitswitching/laws.FnNightDeeds", spec := "fnNightDeeds", unfollowed := true, recurses := true, apart := false }
def FnNightDeedsSaid : Prop := fnNightDeedsRow.holds Try.pinned (OpenSpec.ofChange fnNightDeedsSpec)

/-- ITS FALSE NEIGHBOUR: 'it returns false'. Refute it at one input. -/
def fnNightDeedsWrong : ChangeSpec := { name := "fnNightDeeds", fn := fun _ => fun
  | [d] => { results := [.lit (.bool false)], args := [d] }
  | _ => none }
def FnNightDeedsWrongFalsely : Prop := fnNightDeedsRow.holds Try.pinned (OpenSpec.ofChange fnNightDeedsWrong)

/- THE SECOND FORM. 'bulk': how many values and letters a reading holds, each counted each time it is reached (what is shared counts as often as it is met; a slice's spare places count too). A statement '..UptoSaid' is the law's where the arguments, and the package variables that the reading takes, are together of bulk at most 1048576: NARROWER than '..Said'. Prove '..Said' where nothing that the law and all that it calls make is longer than what came in: it says more and counts as full. Else prove '..UptoSaid'. A law counts once. -/
mutual
def uptoBulk {H : Type} : DataW H → Nat
  | .lit (.string bytes) => bytes.length + 1
  | .lit _ => 1
  | .nil => 1
  | .ptr d => uptoBulk d + 1
  | .slice elems spare => uptoBulkAll elems + uptoBulkAll spare + 1
  | .agg parts => uptoBulkAll parts + 1
  | .iface _ d => uptoBulk d + 1
  | .map entries => uptoBulkEntries entries + 1
  | .held _ => 1
def uptoBulkAll {H : Type} : List (DataW H) → Nat
  | [] => 0
  | d :: r => uptoBulk d + uptoBulkAll r
def uptoBulkEntries {H : Type} : List (Lit × DataW H) → Nat
  | [] => 0
  | x :: r => uptoBulkEntry x + uptoBulkEntries r
def uptoBulkEntry {H : Type} : Lit × DataW H → Nat
  | (.string bytes, d) => bytes.length + uptoBulk d + 1
  | (_, d) => uptoBulk d + 1
 end
def uptoSmall : (H : Type) → List (DataW H) → Bool := fun _ ds => decide (uptoBulkAll ds ≤ 1048576)
def OpenSpec.upto (s : _root_.Go.ChangeSpec) : _root_.Go.OpenSpec := { _root_.Go.OpenSpec.ofChange s with cond := some uptoSmall }

/-- 'laws.FnExchangeValid', WHERE WHAT IT READS IS OF BULK AT MOST 1048576: true; the input reads as it did. -/
def fnExchangeValidUptoRow : OpenClaim := { program := "ytofdnmlpfagibaa", sum := "1c53237a73c1f9076094b5d9761729ae42ceaa49a6bf7490e781f452d326df80", func := "loop.example/circuitswitching/laws.FnExchangeValid", spec := "fnExchangeValid", unfollowed := true, recurses := true, apart := false, narrowed := true }
def FnExchangeValidUptoSaid : Prop := fnExchangeValidUptoRow.holds Try.pinned (OpenSpec.upto fnExchangeValidSpec)

/-- 'laws.FnExchangeNew', WHERE WHAT IT READS IS OF BULK AT MOST 1048576: true; the input reads as it did. -/
def fnExchangeNewUptoRow : OpenClaim := { program := "ytofdnmlpfagibaa", sum := "1c53237a73c1f9076094b5d9761729ae42ceaa49a6bf7490e781f452d326df80", func := "loop.example/circuitswitching/laws.FnExchangeNew", spec := "fnExchangeNew", unfollowed := true, recurses := true, apart := false, narrowed := true }
def FnExchangeNewUptoSaid : Prop := fnExchangeNewUptoRow.holds Try.pinned (OpenSpec.upto fnExchangeNewSpec)

/-- 'laws.FnPeerOf', WHERE WHAT IT READS IS OF BULK AT MOST 1048576: true; the input reads as it did. -/
def fnPeerOfUptoRow : OpenClaim := { program := "ytofdnmlpfagibaa", sum := "1c53237a73c1f9076094b5d9761729ae42ceaa49a6bf7490e781f452d326df80", func := "loop.example/circuitswitching/laws.FnPeerOf", spec := "fnPeerOf", unfollowed := true, recurses := true, apart := false, narrowed := true }
def FnPeerOfUptoSaid : Prop := fnPeerOfUptoRow.holds Try.pinned (OpenSpec.upto fnPeerOfSpec)

/-- 'laws.FnLineOf', WHERE WHAT IT READS IS OF BULK AT MOST 1048576: true; the input reads as it did. -/
def fnLineOfUptoRow : OpenClaim := { program := "ytofdnmlpfagibaa", sum := "1c53237a73c1f9076094b5d9761729ae42ceaa49a6bf7490e781f452d326df80", func := "loop.example/circuitswitching/laws.FnLineOf", spec := "fnLineOf", unfollowed := true, recurses := true, apart := false, narrowed := true }
def FnLineOfUptoSaid : Prop := fnLineOfUptoRow.holds Try.pinned (OpenSpec.upto fnLineOfSpec)

/-- 'laws.FnExDo', WHERE WHAT IT READS IS OF BULK AT MOST 1048576: true; the input reads as it did. -/
def fnExDoUptoRow : OpenClaim := { program := "ytofdnmlpfagibaa", sum := "1c53237a73c1f9076094b5d9761729ae42ceaa49a6bf7490e781f452d326df80", func := "loop.example/circuitswitching/laws.FnExDo", spec := "fnExDo", unfollowed := true, recurses := true, apart := false, narrowed := true }
def FnExDoUptoSaid : Prop := fnExDoUptoRow.holds Try.pinned (OpenSpec.upto fnExDoSpec)

/-- 'laws.FnExRun', WHERE WHAT IT READS IS OF BULK AT MOST 1048576: true; the input reads as it did. -/
def fnExRunUptoRow : OpenClaim := { program := "ytofdnmlpfagibaa", sum := "1c53237a73c1f9076094b5d9761729ae42ceaa49a6bf7490e781f452d326df80", func := "loop.example/circuitswitching/laws.FnExRun", spec := "fnExRun", unfollowed := true, recurses := true, apart := false, narrowed := true }
def FnExRunUptoSaid : Prop := fnExRunUptoRow.holds Try.pinned (OpenSpec.upto fnExRunSpec)

/-- 'laws.FnNightDeeds', WHERE WHAT IT READS IS OF BULK AT MOST 1048576: true; the input reads as it did. -/
def fnNightDeedsUptoRow : OpenClaim := { program := "ytofdnmlpfagibaa", sum := "1c53237a73c1f9076094b5d9761729ae42ceaa49a6bf7490e781f452d326df80", func := "loop.example/circuitswitching/laws.FnNightDeeds", spec := "fnNightDeeds", unfollowed := true, recurses := true, apart := false, narrowed := true }
def FnNightDeedsUptoSaid : Prop := fnNightDeedsUptoRow.holds Try.pinned (OpenSpec.upto fnNightDeedsSpec)

end Rows
end Go.Proofs.Ytofdnmlpfagibaa
