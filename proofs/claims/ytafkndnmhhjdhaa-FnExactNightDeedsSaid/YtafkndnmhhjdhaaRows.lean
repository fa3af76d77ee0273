/-
  No cell of these rows narrows 'for every input' (looked for: loops, veiled, ifaces, maps, wideKeys, modest, calm, conditions, laid).
  DERIVED. THE GIVEN ROWS OF THIS SEAT. 7 by the template 'for every input the law returns true; each argument reads behind the call as it read before'; 0 by the template 'total and deterministic' (their statements: YtafkndnmhhjdhaaTotals.lean).
  GIVEN WITH THE SEED: the statements are not yours to turn. If you find one false, say at which input.
  Laid BY PROGRAM, IN A SANDBOX (cutbox-rows.mjs): the forced cells as the released guide's own fill.sh prints them over the translation fcbceace4392c4e8… (all of the seat's roots in one cut). By AI agents, Wed Nov 11 2026. No macro, syntax, notation, axiom, sorry.
-/
import Derived.Test.YtafkndnmhhjdhaaChecked
import GoSem.Claim
import GoSem.ClaimJoined
import GoSem.ClaimMapViews
import Derived.JoinedTies
import Derived.KernelRfl
namespace Go.Proofs.Ytafkndnmhhjdhaa
/- THE CELL 'sum', in the pinned program and in every row, IS THE sha256 OF THE DUMP (.gsa) THAT YtafkndnmhhjdhaaProg.lean LOADS. Nothing in Lean hashes anything: it is a label: what it is worth is what the hold of that sum in a sandbox is worth. -/
noncomputable def Try.pinned : Pinned := { name := "ytafkndnmhhjdhaa", sum := "fcbceace4392c4e86ff9219979259398ea9dc9643dc061142405c0423383f52d", checked := Try.checked }
namespace Rows
def none {H : Type} : Left H := { results := [], args := [] }

/-- 'laws.FnExactExchangeValid': WHATEVER THE INPUT: true; the input reads as it did. -/
def fnExactExchangeValidSpec : ChangeSpec := { name := "fnExactExchangeValid", fn := fun _ => fun
  | [d] => { results := [.lit (.bool true)], args := [d] }
  | _ => none }
def fnExactExchangeValidRow : OpenClaim := { program := "ytafkndnmhhjdhaa", sum := "fcbceace4392c4e86ff9219979259398ea9dc9643dc061142405c0423383f52d", func := "loop.example/circuitswitching/laws.FnExactExchangeValid", spec := "fnExactExchangeValid", unfollowed := true, recurses := true, apart := false }
def FnExactExchangeValidSaid : Prop := fnExactExchangeValidRow.holds Try.pinned (OpenSpec.ofChange fnExactExchangeValidSpec)

/-- ITS FALSE NEIGHBOUR: 'it returns false'. Refute it at one input. -/
def fnExactExchangeValidWrong : ChangeSpec := { name := "fnExactExchangeValid", fn := fun _ => fun
  | [d] => { results := [.lit (.bool false)], args := [d] }
  | _ => none }
def FnExactExchangeValidWrongFalsely : Prop := fnExactExchangeValidRow.holds Try.pinned (OpenSpec.ofChange fnExactExchangeValidWrong)

/-- 'laws.FnExactExchangeNew': WHATEVER THE INPUT: true; the input reads as it did. -/
def fnExactExchangeNewSpec : ChangeSpec := { name := "fnExactExchangeNew", fn := fun _ => fun
  | [d1, d2] => { results := [.lit (.bool true)], args := [d1, d2] }
  | _ => none }
def fnExactExchangeNewRow : OpenClaim := { program := "ytafkndnmhhjdhaa", sum := "fcbceace4392c4e86ff9219979259398ea9dc9643dc061142405c0423383f52d", func := "loop.example/circuitswitching/laws.FnExactExchangeNew", spec := "fnExactExchangeNew", unfollowed := true, recurses := true, apart := false }
def FnExactExchangeNewSaid : Prop := fnExactExchangeNewRow.holds Try.pinned (OpenSpec.ofChange fnExactExchangeNewSpec)

/-- ITS FALSE NEIGHBOUR: 'it returns false'. Refute it at one input. -/
def fnExactExchangeNewWrong : ChangeSpec := { name := "fnExactExchangeNew", fn := fun _ => fun
  | [d1, d2] => { results := [.lit (.bool false)], args := [d1, d2] }
  | _ => none }
def FnExactExchangeNewWrongFalsely : Prop := fnExactExchangeNewRow.holds Try.pinned (OpenSpec.ofChange fnExactExchangeNewWrong)

/-- 'laws.FnExactPeerOf': WHATEVER THE INPUT: true; the input reads as it did. -/
def fnExactPeerOfSpec : ChangeSpec := { name := "fnExactPeerOf", fn := fun _ => fun
  | [d1, d2] => { results := [.lit (.bool true)], args := [d1, d2] }
  | _ => none }
def fnExactPeerOfRow : OpenClaim := { program := "ytafkndnmhhjdhaa", sum := "fcbceace4392c4e86ff9219979259398ea9dc9643dc061142405c0423383f52d", func := "loop.example/circuitswitching/laws.FnExactPeerOf", spec := "fnExactPeerOf", unfollowed := true, recurses := true, apart := false }
def FnExactPeerOfSaid : Prop := fnExactPeerOfRow.holds Try.pinned (OpenSpec.ofChange fnExactPeerOfSpec)

/-- ITS FALSE NEIGHBOUR: 'it returns false'. Refute it at one input. -/
def fnExactPeerOfWrong : ChangeSpec := { name := "fnExactPeerOf", fn := fun _ => fun
  | [d1, d2] => { results := [.lit (.bool false)], args := [d1, d2] }
  | _ => none }
def FnExactPeerOfWrongFalsely : Prop := fnExactPeerOfRow.holds Try.pinned (OpenSpec.ofChange fnExactPeerOfWrong)

/-- 'laws.FnExactLineOf': WHATEVER THE INPUT: true; the input reads as it did. -/
def fnExactLineOfSpec : ChangeSpec := { name := "fnExactLineOf", fn := fun _ => fun
  | [d1, d2] => { results := [.lit (.bool true)], args := [d1, d2] }
  | _ => none }
def fnExactLineOfRow : OpenClaim := { program := "ytafkndnmhhjdhaa", sum := "fcbceace4392c4e86ff9219979259398ea9dc9643dc061142405c0423383f52d", func := "loop.example/circuitswitching/laws.FnExactLineOf", spec := "fnExactLineOf", unfollowed := true, recurses := true, apart := false }
def FnExactLineOfSaid : Prop := fnExactLineOfRow.holds Try.pinned (OpenSpec.ofChange fnExactLineOfSpec)

/-- ITS FALSE NEIGHBOUR: 'it returns false'. Refute it at one input. -/
def fnExactLineOfWrong : ChangeSpec := { name := "fnExactLineOf", fn := fun _ => fun
  | [d1, d2] => { results := [.lit (.bool false)], args := [d1, d2] }
  | _ => none }
def FnExactLineOfWrongFalsely : Prop := fnExactLineOfRow.holds Try.pinned (OpenSpec.ofChange fnExactLineOfWrong)

/-- 'laws.FnExactExDo': WHATEVER THE INPUT: true; the input reads as it did. -/
def fnExactExDoSpec : ChangeSpec := { name := "fnExactExDo", fn := fun _ => fun
  | [d1, d2] => { results := [.lit (.bool true)], args := [d1, d2] }
  | _ => none }
def fnExactExDoRow : OpenClaim := { program := "ytafkndnmhhjdhaa", sum := "fcbceace4392c4e86ff9219979259398ea9dc9643dc061142405c0423383f52d", func := "loop.example/circuitswitching/laws.FnExactExDo", spec := "fnExactExDo", unfollowed := true, recurses := true, apart := false }
def FnExactExDoSaid : Prop := fnExactExDoRow.holds Try.pinned (OpenSpec.ofChange fnExactExDoSpec)

/-- ITS FALSE NEIGHBOUR: 'it returns false'. Refute it at one input. -/
def fnExactExDoWrong : ChangeSpec := { name := "fnExactExDo", fn := fun _ => fun
  | [d1, d2] => { results := [.lit (.bool false)], args := [d1, d2] }
  | _ => none }
def FnExactExDoWrongFalsely : Prop := fnExactExDoRow.holds Try.pinned (OpenSpec.ofChange fnExactExDoWrong)

/-- 'laws.FnExactExRun': WHATEVER THE INPUT: true; the input reads as it did. -/
def fnExactExRunSpec : ChangeSpec := { name := "fnExactExRun", fn := fun _ => fun
  | [d1, d2] => { results := [.lit (.bool true)], args := [d1, d2] }
  | _ => none }
def fnExactExRunRow : OpenClaim := { program := "ytafkndnmhhjdhaa", sum := "fcbceace4392c4e86ff9219979259398ea9dc9643dc061142405c0423383f52d", func := "loop.example/circuitswitching/laws.FnExactExRun", spec := "fnExactExRun", unfollowed := true, recurses := true, apart := false }
def FnExactExRunSaid : Prop := fnExactExRunRow.holds Try.pinned (OpenSpec.ofChange fnExactExRunSpec)

/-- ITS FALSE NEIGHBOUR: 'it returns false'. Refute it at one input. -/
def fnExactExRunWrong : ChangeSpec := { name := "fnExactExRun", fn := fun _ => fun
  | [d1, d2] => { results := [.lit (.bool false)], args := [d1, d2] }
  | _ => none }
def FnExactExRunWrongFalsely : Prop := fnExactExRunRow.holds Try.pinned (OpenSpec.ofChange fnExactExRunWrong)

/-- 'laws.FnExactNightDeeds': WHATEVER THE INPUT: true; the input reads as it did. -/
def fnExactNightDeedsSpec : ChangeSpec := { name := "fnExactNightDeeds", fn := fun _ => fun
  | [d] => { results := [.lit (.bool true)], args := [d] }
  | _ => none }
def fnExactNightDeedsRow : OpenClaim := { program := "ytafkndnmhhjdhaa", sum := "fcbceace4392c4e86ff9219979259398ea9dc9643dc061142405c0423383f52d", func := "loop.example/circuitswitching/laws.FnExactNightDeeds", spec := "fnExactNightDeeds", unfollowed := true, recurses := true, apart := false }
def FnExactNightDeedsSaid : Prop := fnExactNightDeedsRow.holds Try.pinned (OpenSpec.ofChange fnExactNightDeedsSpec)

/-- ITS FALSE NEIGHBOUR: 'it returns false'. Refute it at one input. -/
def fnExactNightDeedsWrong : ChangeSpec := { name := "fnExactNightDeeds", fn := fun _ => fun
  | [d] => { results := [.lit (.bool false)], args := [d] }
  | _ => none }
def FnExactNightDeedsWrongFalsely : Prop := fnExactNightDeedsRow.holds Try.pinned (OpenSpec.ofChange fnExactNightDeedsWrong)

/- THE SECOND FORM. 'bulk': how many values and letters a reading holds, each counted each time it is reached (what is shared counts as often as it is met; a slice's spare places count too). A statement '..UptoSaid' is the law's where the arguments, and the package variables that the reading takes, are together of bulk at most 1048576: NARROWER than '..Said'. Prove '..Said' where nothing that the law and all that it calls make is longer than what came in: it says more and counts as full. Else prove '..UptoSaid'. A law counts once. -/
mutual
def uptoBulk {H : Type} : DataW H → Nat
  | .lit (.string bytes) => bytes.length + 1
  | .lit _ => 1
  | .nil => 1
  | .ptr d => uptoBulk d + 1
  | .slice elems spare => uptoBulkAll elems + uptoBulkAll spare + 1
  | .agg parts => uptoBulkAll parts + 1
  | .iface _ d => uptoBulk d + 1
  | .map entries => uptoBulkEntries entries + 1
  | .held _ => 1
def uptoBulkAll {H : Type} : List (DataW H) → Nat
  | [] => 0
  | d :: r => uptoBulk d + uptoBulkAll r
def uptoBulkEntries {H : Type} : List (Lit × DataW H) → Nat
  | [] => 0
  | x :: r => uptoBulkEntry x + uptoBulkEntries r
def uptoBulkEntry {H : Type} : Lit × DataW H → Nat
  | (.string bytes, d) => bytes.length + uptoBulk d + 1
  | (_, d) => uptoBulk d + 1
 end
def uptoSmall : (H : Type) → List (DataW H) → Bool := fun _ ds => decide (uptoBulkAll ds ≤ 1048576)
def OpenSpec.upto (s : _root_.Go.ChangeSpec) : _root_.Go.OpenSpec := { _root_.Go.OpenSpec.ofChange s with cond := some uptoSmall }

/-- 'laws.FnExactExchangeValid', WHERE WHAT IT READS IS OF BULK AT MOST 1048576: true; the input reads as it did. -/
def fnExactExchangeValidUptoRow : OpenClaim := { program := "ytafkndnmhhjdhaa", sum := "fcbceace4392c4e86ff9219979259398ea9dc9643dc061142405c0423383f52d", func := "loop.example/circuitswitching/laws.FnExactExchangeValid", spec := "fnExactExchangeValid", unfollowed := true, recurses := true, apart := false, narrowed := true }
def FnExactExchangeValidUptoSaid : Prop := fnExactExchangeValidUptoRow.holds Try.pinned (OpenSpec.upto fnExactExchangeValidSpec)

/-- 'laws.FnExactExchangeNew', WHERE WHAT IT READS IS OF BULK AT MOST 1048576: true; the input reads as it did. -/
def fnExactExchangeNewUptoRow : OpenClaim := { program := "ytafkndnmhhjdhaa", sum := "fcbceace4392c4e86ff9219979259398ea9dc9643dc061142405c0423383f52d", func := "loop.example/circuitswitching/laws.FnExactExchangeNew", spec := "fnExactExchangeNew", unfollowed := true, recurses := true, apart := false, narrowed := true }
def FnExactExchangeNewUptoSaid : Prop := fnExactExchangeNewUptoRow.holds Try.pinned (OpenSpec.upto fnExactExchangeNewSpec)

/-- 'laws.FnExactPeerOf', WHERE WHAT IT READS IS OF BULK AT MOST 1048576: true; the input reads as it did. -/
def fnExactPeerOfUptoRow : OpenClaim := { program := "ytafkndnmhhjdhaa", sum := "fcbceace4392c4e86ff9219979259398ea9dc9643dc061142405c0423383f52d", func := "loop.example/circuitswitching/laws.FnExactPeerOf", spec := "fnExactPeerOf", unfollowed := true, recurses := true, apart := false, narrowed := true }
def FnExactPeerOfUptoSaid : Prop := fnExactPeerOfUptoRow.holds Try.pinned (OpenSpec.upto fnExactPeerOfSpec)

/-- 'laws.FnExactLineOf', WHERE WHAT IT READS IS OF BULK AT MOST 1048576: true; the input reads as it did. -/
def fnExactLineOfUptoRow : OpenClaim := { program := "ytafkndnmhhjdhaa", sum := "fcbceace4392c4e86ff9219979259398ea9dc9643dc061142405c0423383f52d", func := "loop.example/circuitswitching/laws.FnExactLineOf", spec := "fnExactLineOf", unfollowed := true, recurses := true, apart := false, narrowed := true }
def FnExactLineOfUptoSaid : Prop := fnExactLineOfUptoRow.holds Try.pinned (OpenSpec.upto fnExactLineOfSpec)

/-- 'laws.FnExactExDo', WHERE WHAT IT READS IS OF BULK AT MOST 1048576: true; the input reads as it did. -/
def fnExactExDoUptoRow : OpenClaim := { program := "ytafkndnmhhjdhaa", sum := "fcbceace4392c4e86ff9219979259398ea9dc9643dc061142405c0423383f52d", func := "loop.example/circuitswitching/laws.FnExactExDo", spec := "fnExactExDo", unfollowed := true, recurses := true, apart := false, narrowed := true }
def FnExactExDoUptoSaid : Prop := fnExactExDoUptoRow.holds Try.pinned (OpenSpec.upto fnExactExDoSpec)

/-- 'laws.FnExactExRun', WHERE WHAT IT READS IS OF BULK AT MOST 1048576: true; the input reads as it did. -/
def fnExactExRunUptoRow : OpenClaim := { program := "ytafkndnmhhjdhaa", sum := "fcbceace4392c4e86ff9219979259398ea9dc9643dc061142405c0423383f52d", func := "loop.example/circuitswitching/laws.FnExactExRun", spec := "fnExactExRun", unfollowed := true, recurses := true, apart := false, narrowed := true }
def FnExactExRunUptoSaid : Prop := fnExactExRunUptoRow.holds Try.pinned (OpenSpec.upto fnExactExRunSpec)

/-- 'laws.FnExactNightDeeds', WHERE WHAT IT READS IS OF BULK AT MOST 1048576: true; the input reads as it did. -/
def fnExactNightDeedsUptoRow : OpenClaim := { program := "ytafkndnmhhjdhaa", sum := "fcbceace4392c4e86ff9219979259398ea9dc9643dc061142405c0423383f52d", func := "loop.example/circuitswitching/laws.FnExactNightDeeds", spec := "fnExactNightDeeds", unfollowed := true, recurses := true, apart := false, narrowed := true }
def FnExactNightDeedsUptoSaid : Prop := fnExactNightDeedsUptoRow.holds Try.pinned (OpenSpec.upto fnExactNightDeedsSpec)

end Rows
end Go.Proofs.Ytafkndnmhhjdhaa
