/-
  No cell of these rows narrows 'for every input' (looked for: loops, veiled, ifaces, maps, wideKeys, modest, calm, conditions, laid).
  DERIVED. THE GIVEN ROWS OF THIS SEAT. 16 by the template 'for every input the law returns true; each argument reads behind the call as it read before'; 0 by the template 'total and deterministic' (their statements: YtdgbaglhhhbbhaaTotals.lean).
  GIVEN WITH THE SEED: the statements are not yours to turn. If you find one false, say at which input.
  Laid BY PROGRAM, IN A SANDBOX (cutbox-rows.mjs): the forced cells as the released guide's own fill.sh prints them over the translation 3aeca300437cf0d9… (all of the seat's roots in one cut). By AI agents, Wed Nov 11 2026. No macro, syntax, notation, axiom, sorry.
-/
import Derived.Test.YtdgbaglhhhbbhaaChecked
import GoSem.Claim
import GoSem.ClaimJoined
import GoSem.ClaimMapViews
import Derived.JoinedTies
import Derived.KernelRfl
namespace Go.Proofs.Ytdgbaglhhhbbhaa
/- THE CELL 'sum', in the pinned program and in every row, IS THE sha256 OF THE DUMP (.gsa) THAT YtdgbaglhhhbbhaaProg.lean LOADS. Nothing in Lean hashes anything: it is a label: what it is worth is what the hold of that sum in a sandbox is worth. -/
noncomputable def Try.pinned : Pinned := { name := "ytdgbaglhhhbbhaa", sum := "3aeca300437cf0d9955b73f27f3ca94a0c42160398eb9e20896306ff38f2d4f0", checked := Try.checked }
namespace Rows
def none {H : Type} : Left H := { results := [], args := [] }

/-- 'laws.FnPermValid': WHATEVER THE INPUT: true; the input reads as it did. -/
def fnPermValidSpec : ChangeSpec := { name := "fnPermValid", fn := fun _ => fun
  | [d] => { results := [.lit (.bool true)], args := [d] }
  | _ => none }
def fnPermValidRow : OpenClaim := { program := "ytdgbaglhhhbbhaa", sum := "3aeca300437cf0d9955b73f27f3ca94a0c42160398eb9e20896306ff38f2d4f0", func := "loop.example/circuitswitching/laws.FnPermValid", spec := "fnPermValid", apart := false }
def FnPermValidSaid : Prop := fnPermValidRow.holds Try.pinned (OpenSpec.ofChange fnPermValidSpec)

/-- ITS FALSE NEIGHBOUR: 'it returns false'. Refute it at one input. -/
def fnPermValidWrong : ChangeSpec := { name := "fnPermValid", fn := fun _ => fun
  | [d] => { results := [.lit (.bool false)], args := [d] }
  | _ => none }
def FnPermValidWrongFalsely : Prop := fnPermValidRow.holds Try.pinned (OpenSpec.ofChange fnPermValidWrong)

/-- 'laws.FnPermBack': WHATEVER THE INPUT: true; the input reads as it did. -/
def fnPermBackSpec : ChangeSpec := { name := "fnPermBack", fn := fun _ => fun
  | [d] => { results := [.lit (.bool true)], args := [d] }
  | _ => none }
def fnPermBackRow : OpenClaim := { program := "ytdgbaglhhhbbhaa", sum := "3aeca300437cf0d9955b73f27f3ca94a0c42160398eb9e20896306ff38f2d4f0", func := "loop.example/circuitswitching/laws.FnPermBack", spec := "fnPermBack", apart := false }
def FnPermBackSaid : Prop := fnPermBackRow.holds Try.pinned (OpenSpec.ofChange fnPermBackSpec)

/-- ITS FALSE NEIGHBOUR: 'it returns false'. Refute it at one input. -/
def fnPermBackWrong : ChangeSpec := { name := "fnPermBack", fn := fun _ => fun
  | [d] => { results := [.lit (.bool false)], args := [d] }
  | _ => none }
def FnPermBackWrongFalsely : Prop := fnPermBackRow.holds Try.pinned (OpenSpec.ofChange fnPermBackWrong)

/-- 'laws.FnPermThen': WHATEVER THE INPUT: true; the input reads as it did. -/
def fnPermThenSpec : ChangeSpec := { name := "fnPermThen", fn := fun _ => fun
  | [d1, d2] => { results := [.lit (.bool true)], args := [d1, d2] }
  | _ => none }
def fnPermThenRow : OpenClaim := { program := "ytdgbaglhhhbbhaa", sum := "3aeca300437cf0d9955b73f27f3ca94a0c42160398eb9e20896306ff38f2d4f0", func := "loop.example/circuitswitching/laws.FnPermThen", spec := "fnPermThen", apart := false }
def FnPermThenSaid : Prop := fnPermThenRow.holds Try.pinned (OpenSpec.ofChange fnPermThenSpec)

/-- ITS FALSE NEIGHBOUR: 'it returns false'. Refute it at one input. -/
def fnPermThenWrong : ChangeSpec := { name := "fnPermThen", fn := fun _ => fun
  | [d1, d2] => { results := [.lit (.bool false)], args := [d1, d2] }
  | _ => none }
def FnPermThenWrongFalsely : Prop := fnPermThenRow.holds Try.pinned (OpenSpec.ofChange fnPermThenWrong)

/-- 'laws.FnPermCycles': WHATEVER THE INPUT: true; the input reads as it did. -/
def fnPermCyclesSpec : ChangeSpec := { name := "fnPermCycles", fn := fun _ => fun
  | [d] => { results := [.lit (.bool true)], args := [d] }
  | _ => none }
def fnPermCyclesRow : OpenClaim := { program := "ytdgbaglhhhbbhaa", sum := "3aeca300437cf0d9955b73f27f3ca94a0c42160398eb9e20896306ff38f2d4f0", func := "loop.example/circuitswitching/laws.FnPermCycles", spec := "fnPermCycles", apart := false }
def FnPermCyclesSaid : Prop := fnPermCyclesRow.holds Try.pinned (OpenSpec.ofChange fnPermCyclesSpec)

/-- ITS FALSE NEIGHBOUR: 'it returns false'. Refute it at one input. -/
def fnPermCyclesWrong : ChangeSpec := { name := "fnPermCycles", fn := fun _ => fun
  | [d] => { results := [.lit (.bool false)], args := [d] }
  | _ => none }
def FnPermCyclesWrongFalsely : Prop := fnPermCyclesRow.holds Try.pinned (OpenSpec.ofChange fnPermCyclesWrong)

/-- 'laws.FnPermSwaps': WHATEVER THE INPUT: true; the input reads as it did. -/
def fnPermSwapsSpec : ChangeSpec := { name := "fnPermSwaps", fn := fun _ => fun
  | [d] => { results := [.lit (.bool true)], args := [d] }
  | _ => none }
def fnPermSwapsRow : OpenClaim := { program := "ytdgbaglhhhbbhaa", sum := "3aeca300437cf0d9955b73f27f3ca94a0c42160398eb9e20896306ff38f2d4f0", func := "loop.example/circuitswitching/laws.FnPermSwaps", spec := "fnPermSwaps", apart := false }
def FnPermSwapsSaid : Prop := fnPermSwapsRow.holds Try.pinned (OpenSpec.ofChange fnPermSwapsSpec)

/-- ITS FALSE NEIGHBOUR: 'it returns false'. Refute it at one input. -/
def fnPermSwapsWrong : ChangeSpec := { name := "fnPermSwaps", fn := fun _ => fun
  | [d] => { results := [.lit (.bool false)], args := [d] }
  | _ => none }
def FnPermSwapsWrongFalsely : Prop := fnPermSwapsRow.holds Try.pinned (OpenSpec.ofChange fnPermSwapsWrong)

/-- 'laws.FnPermCrosses': WHATEVER THE INPUT: true; the input reads as it did. -/
def fnPermCrossesSpec : ChangeSpec := { name := "fnPermCrosses", fn := fun _ => fun
  | [d] => { results := [.lit (.bool true)], args := [d] }
  | _ => none }
def fnPermCrossesRow : OpenClaim := { program := "ytdgbaglhhhbbhaa", sum := "3aeca300437cf0d9955b73f27f3ca94a0c42160398eb9e20896306ff38f2d4f0", func := "loop.example/circuitswitching/laws.FnPermCrosses", spec := "fnPermCrosses", apart := false }
def FnPermCrossesSaid : Prop := fnPermCrossesRow.holds Try.pinned (OpenSpec.ofChange fnPermCrossesSpec)

/-- ITS FALSE NEIGHBOUR: 'it returns false'. Refute it at one input. -/
def fnPermCrossesWrong : ChangeSpec := { name := "fnPermCrosses", fn := fun _ => fun
  | [d] => { results := [.lit (.bool false)], args := [d] }
  | _ => none }
def FnPermCrossesWrongFalsely : Prop := fnPermCrossesRow.holds Try.pinned (OpenSpec.ofChange fnPermCrossesWrong)

/-- 'laws.FnPermRank': WHATEVER THE INPUT: true; the input reads as it did. -/
def fnPermRankSpec : ChangeSpec := { name := "fnPermRank", fn := fun _ => fun
  | [d] => { results := [.lit (.bool true)], args := [d] }
  | _ => none }
def fnPermRankRow : OpenClaim := { program := "ytdgbaglhhhbbhaa", sum := "3aeca300437cf0d9955b73f27f3ca94a0c42160398eb9e20896306ff38f2d4f0", func := "loop.example/circuitswitching/laws.FnPermRank", spec := "fnPermRank", apart := false }
def FnPermRankSaid : Prop := fnPermRankRow.holds Try.pinned (OpenSpec.ofChange fnPermRankSpec)

/-- ITS FALSE NEIGHBOUR: 'it returns false'. Refute it at one input. -/
def fnPermRankWrong : ChangeSpec := { name := "fnPermRank", fn := fun _ => fun
  | [d] => { results := [.lit (.bool false)], args := [d] }
  | _ => none }
def FnPermRankWrongFalsely : Prop := fnPermRankRow.holds Try.pinned (OpenSpec.ofChange fnPermRankWrong)

/-- 'laws.FnPermOf': WHATEVER THE INPUT: true; the input reads as it did. -/
def fnPermOfSpec : ChangeSpec := { name := "fnPermOf", fn := fun _ => fun
  | [d] => { results := [.lit (.bool true)], args := [d] }
  | _ => none }
def fnPermOfRow : OpenClaim := { program := "ytdgbaglhhhbbhaa", sum := "3aeca300437cf0d9955b73f27f3ca94a0c42160398eb9e20896306ff38f2d4f0", func := "loop.example/circuitswitching/laws.FnPermOf", spec := "fnPermOf", apart := false }
def FnPermOfSaid : Prop := fnPermOfRow.holds Try.pinned (OpenSpec.ofChange fnPermOfSpec)

/-- ITS FALSE NEIGHBOUR: 'it returns false'. Refute it at one input. -/
def fnPermOfWrong : ChangeSpec := { name := "fnPermOf", fn := fun _ => fun
  | [d] => { results := [.lit (.bool false)], args := [d] }
  | _ => none }
def FnPermOfWrongFalsely : Prop := fnPermOfRow.holds Try.pinned (OpenSpec.ofChange fnPermOfWrong)

/-- 'laws.FnExactPermValid': WHATEVER THE INPUT: true; the input reads as it did. -/
def fnExactPermValidSpec : ChangeSpec := { name := "fnExactPermValid", fn := fun _ => fun
  | [d] => { results := [.lit (.bool true)], args := [d] }
  | _ => none }
def fnExactPermValidRow : OpenClaim := { program := "ytdgbaglhhhbbhaa", sum := "3aeca300437cf0d9955b73f27f3ca94a0c42160398eb9e20896306ff38f2d4f0", func := "loop.example/circuitswitching/laws.FnExactPermValid", spec := "fnExactPermValid", apart := false }
def FnExactPermValidSaid : Prop := fnExactPermValidRow.holds Try.pinned (OpenSpec.ofChange fnExactPermValidSpec)

/-- ITS FALSE NEIGHBOUR: 'it returns false'. Refute it at one input. -/
def fnExactPermValidWrong : ChangeSpec := { name := "fnExactPermValid", fn := fun _ => fun
  | [d] => { results := [.lit (.bool false)], args := [d] }
  | _ => none }
def FnExactPermValidWrongFalsely : Prop := fnExactPermValidRow.holds Try.pinned (OpenSpec.ofChange fnExactPermValidWrong)

/-- 'laws.FnExactPermBack': WHATEVER THE INPUT: true; the input reads as it did. -/
def fnExactPermBackSpec : ChangeSpec := { name := "fnExactPermBack", fn := fun _ => fun
  | [d] => { results := [.lit (.bool true)], args := [d] }
  | _ => none }
def fnExactPermBackRow : OpenClaim := { program := "ytdgbaglhhhbbhaa", sum := "3aeca300437cf0d9955b73f27f3ca94a0c42160398eb9e20896306ff38f2d4f0", func := "loop.example/circuitswitching/laws.FnExactPermBack", spec := "fnExactPermBack", apart := false }
def FnExactPermBackSaid : Prop := fnExactPermBackRow.holds Try.pinned (OpenSpec.ofChange fnExactPermBackSpec)

/-- ITS FALSE NEIGHBOUR: 'it returns false'. Refute it at one input. -/
def fnExactPermBackWrong : ChangeSpec := { name := "fnExactPermBack", fn := fun _ => fun
  | [d] => { results := [.lit (.bool false)], args := [d] }
  | _ => none }
def FnExactPermBackWrongFalsely : Prop := fnExactPermBackRow.holds Try.pinned (OpenSpec.ofChange fnExactPermBackWrong)

/-- 'laws.FnExactPermThen': WHATEVER THE INPUT: true; the input reads as it did. -/
def fnExactPermThenSpec : ChangeSpec := { name := "fnExactPermThen", fn := fun _ => fun
  | [d1, d2] => { results := [.lit (.bool true)], args := [d1, d2] }
  | _ => none }
def fnExactPermThenRow : OpenClaim := { program := "ytdgbaglhhhbbhaa", sum := "3aeca300437cf0d9955b73f27f3ca94a0c42160398eb9e20896306ff38f2d4f0", func := "loop.example/circuitswitching/laws.FnExactPermThen", spec := "fnExactPermThen", apart := false }
def FnExactPermThenSaid : Prop := fnExactPermThenRow.holds Try.pinned (OpenSpec.ofChange fnExactPermThenSpec)

/-- ITS FALSE NEIGHBOUR: 'it returns false'. Refute it at one input. -/
def fnExactPermThenWrong : ChangeSpec := { name := "fnExactPermThen", fn := fun _ => fun
  | [d1, d2] => { results := [.lit (.bool false)], args := [d1, d2] }
  | _ => none }
def FnExactPermThenWrongFalsely : Prop := fnExactPermThenRow.holds Try.pinned (OpenSpec.ofChange fnExactPermThenWrong)

/-- 'laws.FnExactPermCycles': WHATEVER THE INPUT: true; the input reads as it did. -/
def fnExactPermCyclesSpec : ChangeSpec := { name := "fnExactPermCycles", fn := fun _ => fun
  | [d] => { results := [.lit (.bool true)], args := [d] }
  | _ => none }
def fnExactPermCyclesRow : OpenClaim := { program := "ytdgbaglhhhbbhaa", sum := "3aeca300437cf0d9955b73f27f3ca94a0c42160398eb9e20896306ff38f2d4f0", func := "loop.example/circuitswitching/laws.FnExactPermCycles", spec := "fnExactPermCycles", apart := false }
def FnExactPermCyclesSaid : Prop := fnExactPermCyclesRow.holds Try.pinned (OpenSpec.ofChange fnExactPermCyclesSpec)

/-- ITS FALSE NEIGHBOUR: 'it returns false'. Refute it at one input. -/
def fnExactPermCyclesWrong : ChangeSpec := { name := "fnExactPermCycles", fn := fun _ => fun
  | [d] => { results := [.lit (.bool false)], args := [d] }
  | _ => none }
def FnExactPermCyclesWrongFalsely : Prop := fnExactPermCyclesRow.holds Try.pinned (OpenSpec.ofChange fnExactPermCyclesWrong)

/-- 'laws.FnExactPermSwaps': WHATEVER THE INPUT: true; the input reads as it did. -/
def fnExactPermSwapsSpec : ChangeSpec := { name := "fnExactPermSwaps", fn := fun _ => fun
  | [d] => { results := [.lit (.bool true)], args := [d] }
  | _ => none }
def fnExactPermSwapsRow : OpenClaim := { program := "ytdgbaglhhhbbhaa", sum := "3aeca300437cf0d9955b73f27f3ca94a0c42160398eb9e20896306ff38f2d4f0", func := "loop.example/circuitswitching/laws.FnExactPermSwaps", spec := "fnExactPermSwaps", apart := false }
def FnExactPermSwapsSaid : Prop := fnExactPermSwapsRow.holds Try.pinned (OpenSpec.ofChange fnExactPermSwapsSpec)

/-- ITS FALSE NEIGHBOUR: 'it returns false'. Refute it at one input. -/
def fnExactPermSwapsWrong : ChangeSpec := { name := "fnExactPermSwaps", fn := fun _ => fun
  | [d] => { results := [.lit (.bool false)], args := [d] }
  | _ => none }
def FnExactPermSwapsWrongFalsely : Prop := fnExactPermSwapsRow.holds Try.pinned (OpenSpec.ofChange fnExactPermSwapsWrong)

/-- 'laws.FnExactPermCrosses': WHATEVER THE INPUT: true; the input reads as it did. -/
def fnExactPermCrossesSpec : ChangeSpec := { name := "fnExactPermCrosses", fn := fun _ => fun
  | [d] => { results := [.lit (.bool true)], args := [d] }
  | _ => none }
def fnExactPermCrossesRow : OpenClaim := { program := "ytdgbaglhhhbbhaa", sum := "3aeca300437cf0d9955b73f27f3ca94a0c42160398eb9e20896306ff38f2d4f0", func := "loop.example/circuitswitching/laws.FnExactPermCrosses", spec := "fnExactPermCrosses", apart := false }
def FnExactPermCrossesSaid : Prop := fnExactPermCrossesRow.holds Try.pinned (OpenSpec.ofChange fnExactPermCrossesSpec)

/-- ITS FALSE NEIGHBOUR: 'it returns false'. Refute it at one input. -/
def fnExactPermCrossesWrong : ChangeSpec := { name := "fnExactPermCrosses", fn := fun _ => fun
  | [d] => { results := [.lit (.bool false)], args := [d] }
  | _ => none }
def FnExactPermCrossesWrongFalsely : Prop := fnExactPermCrossesRow.holds Try.pinned (OpenSpec.ofChange fnExactPermCrossesWrong)

/-- 'laws.FnExactPermRank': WHATEVER THE INPUT: true; the input reads as it did. -/
def fnExactPermRankSpec : ChangeSpec := { name := "fnExactPermRank", fn := fun _ => fun
  | [d] => { results := [.lit (.bool true)], args := [d] }
  | _ => none }
def fnExactPermRankRow : OpenClaim := { program := "ytdgbaglhhhbbhaa", sum := "3aeca300437cf0d9955b73f27f3ca94a0c42160398eb9e20896306ff38f2d4f0", func := "loop.example/circuitswitching/laws.FnExactPermRank", spec := "fnExactPermRank", apart := false }
def FnExactPermRankSaid : Prop := fnExactPermRankRow.holds Try.pinned (OpenSpec.ofChange fnExactPermRankSpec)

/-- ITS FALSE NEIGHBOUR: 'it returns false'. Refute it at one input. -/
def fnExactPermRankWrong : ChangeSpec := { name := "fnExactPermRank", fn := fun _ => fun
  | [d] => { results := [.lit (.bool false)], args := [d] }
  | _ => none }
def FnExactPermRankWrongFalsely : Prop := fnExactPermRankRow.holds Try.pinned (OpenSpec.ofChange fnExactPermRankWrong)

/-- 'laws.FnExactPermOf': WHATEVER THE INPUT: true; the input reads as it did. -/
def fnExactPermOfSpec : ChangeSpec := { name := "fnExactPermOf", fn := fun _ => fun
  | [d1, d2] => { results := [.lit (.bool true)], args := [d1, d2] }
  | _ => none }
def fnExactPermOfRow : OpenClaim := { program := "ytdgbaglhhhbbhaa", sum := "3aeca300437cf0d9955b73f27f3ca94a0c42160398eb9e20896306ff38f2d4f0", func := "loop.example/circuitswitching/laws.FnExactPermOf", spec := "fnExactPermOf", apart := false }
def FnExactPermOfSaid : Prop := fnExactPermOfRow.holds Try.pinned (OpenSpec.ofChange fnExactPermOfSpec)

/-- ITS FALSE NEIGHBOUR: 'it returns false'. Refute it at one input. -/
def fnExactPermOfWrong : ChangeSpec := { name := "fnExactPermOf", fn := fun _ => fun
  | [d1, d2] => { results := [.lit (.bool false)], args := [d1, d2] }
  | _ => none }
def FnExactPermOfWrongFalsely : Prop := fnExactPermOfRow.holds Try.pinned (OpenSpec.ofChange fnExactPermOfWrong)

/- THE SECOND FORM. 'bulk': how many values and letters a reading holds, each counted each time it is reached (what is shared counts as often as it is met; a slice's spare places count too). A statement '..UptoSaid' is the law's where the arguments, and the package variables that the reading takes, are together of bulk at most 1048576: NARROWER than '..Said'. Prove '..Said' where nothing that the law and all that it calls make is longer than what came in: it says more and counts as full. Else prove '..UptoSaid'. A law counts once. -/
mutual
def uptoBulk {H : Type} : DataW H → Nat
  | .lit (.string bytes) => bytes.length + 1
  | .lit _ => 1
  | .nil => 1
  | .ptr d => uptoBulk d + 1
  | .slice elems spare => uptoBulkAll elems + uptoBulkAll spare + 1
  | .agg parts => uptoBulkAll parts + 1
  | .iface _ d => uptoBulk d + 1
  | .map entries => uptoBulkEntries entries + 1
  | .held _ => 1
def uptoBulkAll {H : Type} : List (DataW H) → Nat
  | [] => 0
  | d :: r => uptoBulk d + uptoBulkAll r
def uptoBulkEntries {H : Type} : List (Lit × DataW H) → Nat
  | [] => 0
  | x :: r => uptoBulkEntry x + uptoBulkEntries r
def uptoBulkEntry {H : Type} : Lit × DataW H → Nat
  | (.string bytes, d) => bytes.length + uptoBulk d + 1
  | (_, d) => uptoBulk d + 1
 end
def uptoSmall : (H : Type) → List (DataW H) → Bool := fun _ ds => decide (uptoBulkAll ds ≤ 1048576)
def OpenSpec.upto (s : _root_.Go.ChangeSpec) : _root_.Go.OpenSpec := { _root_.Go.OpenSpec.ofChange s with cond := some uptoSmall }

/-- 'laws.FnPermValid', WHERE WHAT IT READS IS OF BULK AT MOST 1048576: true; the input reads as it did. -/
def fnPermValidUptoRow : OpenClaim := { program := "ytdgbaglhhhbbhaa", sum := "3aeca300437cf0d9955b73f27f3ca94a0c42160398eb9e20896306ff38f2d4f0", func := "loop.example/circuitswitching/laws.FnPermValid", spec := "fnPermValid", apart := false, narrowed := true }
def FnPermValidUptoSaid : Prop := fnPermValidUptoRow.holds Try.pinned (OpenSpec.upto fnPermValidSpec)

/-- 'laws.FnPermBack', WHERE WHAT IT READS IS OF BULK AT MOST 1048576: true; the input reads as it did. -/
def fnPermBackUptoRow : OpenClaim := { program := "ytdgbaglhhhbbhaa", sum := "3aeca300437cf0d9955b73f27f3ca94a0c42160398eb9e20896306ff38f2d4f0", func := "loop.example/circuitswitching/laws.FnPermBack", spec := "fnPermBack", apart := false, narrowed := true }
def FnPermBackUptoSaid : Prop := fnPermBackUptoRow.holds Try.pinned (OpenSpec.upto fnPermBackSpec)

/-- 'laws.FnPermThen', WHERE WHAT IT READS IS OF BULK AT MOST 1048576: true; the input reads as it did. -/
def fnPermThenUptoRow : OpenClaim := { program := "ytdgbaglhhhbbhaa", sum := "3aeca300437cf0d9955b73f27f3ca94a0c42160398eb9e20896306ff38f2d4f0", func := "loop.example/circuitswitching/laws.FnPermThen", spec := "fnPermThen", apart := false, narrowed := true }
def FnPermThenUptoSaid : Prop := fnPermThenUptoRow.holds Try.pinned (OpenSpec.upto fnPermThenSpec)

/-- 'laws.FnPermCycles', WHERE WHAT IT READS IS OF BULK AT MOST 1048576: true; the input reads as it did. -/
def fnPermCyclesUptoRow : OpenClaim := { program := "ytdgbaglhhhbbhaa", sum := "3aeca300437cf0d9955b73f27f3ca94a0c42160398eb9e20896306ff38f2d4f0", func := "loop.example/circuitswitching/laws.FnPermCycles", spec := "fnPermCycles", apart := false, narrowed := true }
def FnPermCyclesUptoSaid : Prop := fnPermCyclesUptoRow.holds Try.pinned (OpenSpec.upto fnPermCyclesSpec)

/-- 'laws.FnPermSwaps', WHERE WHAT IT READS IS OF BULK AT MOST 1048576: true; the input reads as it did. -/
def fnPermSwapsUptoRow : OpenClaim := { program := "ytdgbaglhhhbbhaa", sum := "3aeca300437cf0d9955b73f27f3ca94a0c42160398eb9e20896306ff38f2d4f0", func := "loop.example/circuitswitching/laws.FnPermSwaps", spec := "fnPermSwaps", apart := false, narrowed := true }
def FnPermSwapsUptoSaid : Prop := fnPermSwapsUptoRow.holds Try.pinned (OpenSpec.upto fnPermSwapsSpec)

/-- 'laws.FnPermCrosses', WHERE WHAT IT READS IS OF BULK AT MOST 1048576: true; the input reads as it did. -/
def fnPermCrossesUptoRow : OpenClaim := { program := "ytdgbaglhhhbbhaa", sum := "3aeca300437cf0d9955b73f27f3ca94a0c42160398eb9e20896306ff38f2d4f0", func := "loop.example/circuitswitching/laws.FnPermCrosses", spec := "fnPermCrosses", apart := false, narrowed := true }
def FnPermCrossesUptoSaid : Prop := fnPermCrossesUptoRow.holds Try.pinned (OpenSpec.upto fnPermCrossesSpec)

/-- 'laws.FnPermRank', WHERE WHAT IT READS IS OF BULK AT MOST 1048576: true; the input reads as it did. -/
def fnPermRankUptoRow : OpenClaim := { program := "ytdgbaglhhhbbhaa", sum := "3aeca300437cf0d9955b73f27f3ca94a0c42160398eb9e20896306ff38f2d4f0", func := "loop.example/circuitswitching/laws.FnPermRank", spec := "fnPermRank", apart := false, narrowed := true }
def FnPermRankUptoSaid : Prop := fnPermRankUptoRow.holds Try.pinned (OpenSpec.upto fnPermRankSpec)

/-- 'laws.FnPermOf', WHERE WHAT IT READS IS OF BULK AT MOST 1048576: true; the input reads as it did. -/
def fnPermOfUptoRow : OpenClaim := { program := "ytdgbaglhhhbbhaa", sum := "3aeca300437cf0d9955b73f27f3ca94a0c42160398eb9e20896306ff38f2d4f0", func := "loop.example/circuitswitching/laws.FnPermOf", spec := "fnPermOf", apart := false, narrowed := true }
def FnPermOfUptoSaid : Prop := fnPermOfUptoRow.holds Try.pinned (OpenSpec.upto fnPermOfSpec)

/-- 'laws.FnExactPermValid', WHERE WHAT IT READS IS OF BULK AT MOST 1048576: true; the input reads as it did. -/
def fnExactPermValidUptoRow : OpenClaim := { program := "ytdgbaglhhhbbhaa", sum := "3aeca300437cf0d9955b73f27f3ca94a0c42160398eb9e20896306ff38f2d4f0", func := "loop.example/circuitswitching/laws.FnExactPermValid", spec := "fnExactPermValid", apart := false, narrowed := true }
def FnExactPermValidUptoSaid : Prop := fnExactPermValidUptoRow.holds Try.pinned (OpenSpec.upto fnExactPermValidSpec)

/-- 'laws.FnExactPermBack', WHERE WHAT IT READS IS OF BULK AT MOST 1048576: true; the input reads as it did. -/
def fnExactPermBackUptoRow : OpenClaim := { program := "ytdgbaglhhhbbhaa", sum := "3aeca300437cf0d9955b73f27f3ca94a0c42160398eb9e20896306ff38f2d4f0", func := "loop.example/circuitswitching/laws.FnExactPermBack", spec := "fnExactPermBack", apart := false, narrowed := true }
def FnExactPermBackUptoSaid : Prop := fnExactPermBackUptoRow.holds Try.pinned (OpenSpec.upto fnExactPermBackSpec)

/-- 'laws.FnExactPermThen', WHERE WHAT IT READS IS OF BULK AT MOST 1048576: true; the input reads as it did. -/
def fnExactPermThenUptoRow : OpenClaim := { program := "ytdgbaglhhhbbhaa", sum := "3aeca300437cf0d9955b73f27f3ca94a0c42160398eb9e20896306ff38f2d4f0", func := "loop.example/circuitswitching/laws.FnExactPermThen", spec := "fnExactPermThen", apart := false, narrowed := true }
def FnExactPermThenUptoSaid : Prop := fnExactPermThenUptoRow.holds Try.pinned (OpenSpec.upto fnExactPermThenSpec)

/-- 'laws.FnExactPermCycles', WHERE WHAT IT READS IS OF BULK AT MOST 1048576: true; the input reads as it did. -/
def fnExactPermCyclesUptoRow : OpenClaim := { program := "ytdgbaglhhhbbhaa", sum := "3aeca300437cf0d9955b73f27f3ca94a0c42160398eb9e20896306ff38f2d4f0", func := "loop.example/circuitswitching/laws.FnExactPermCycles", spec := "fnExactPermCycles", apart := false, narrowed := true }
def FnExactPermCyclesUptoSaid : Prop := fnExactPermCyclesUptoRow.holds Try.pinned (OpenSpec.upto fnExactPermCyclesSpec)

/-- 'laws.FnExactPermSwaps', WHERE WHAT IT READS IS OF BULK AT MOST 1048576: true; the input reads as it did. -/
def fnExactPermSwapsUptoRow : OpenClaim := { program := "ytdgbaglhhhbbhaa", sum := "3aeca300437cf0d9955b73f27f3ca94a0c42160398eb9e20896306ff38f2d4f0", func := "loop.example/circuitswitching/laws.FnExactPermSwaps", spec := "fnExactPermSwaps", apart := false, narrowed := true }
def FnExactPermSwapsUptoSaid : Prop := fnExactPermSwapsUptoRow.holds Try.pinned (OpenSpec.upto fnExactPermSwapsSpec)

/-- 'laws.FnExactPermCrosses', WHERE WHAT IT READS IS OF BULK AT MOST 1048576: true; the input reads as it did. -/
def fnExactPermCrossesUptoRow : OpenClaim := { program := "ytdgbaglhhhbbhaa", sum := "3aeca300437cf0d9955b73f27f3ca94a0c42160398eb9e20896306ff38f2d4f0", func := "loop.example/circuitswitching/laws.FnExactPermCrosses", spec := "fnExactPermCrosses", apart := false, narrowed := true }
def FnExactPermCrossesUptoSaid : Prop := fnExactPermCrossesUptoRow.holds Try.pinned (OpenSpec.upto fnExactPermCrossesSpec)

/-- 'laws.FnExactPermRank', WHERE WHAT IT READS IS OF BULK AT MOST 1048576: true; the input reads as it did. -/
def fnExactPermRankUptoRow : OpenClaim := { program := "ytdgbaglhhhbbhaa", sum := "3aeca300437cf0d9955b73f27f3ca94a0c42160398eb9e20896306ff38f2d4f0", func := "loop.example/circuitswitching/laws.FnExactPermRank", spec := "fnExactPermRank", apart := false, narrowed := true }
def FnExactPermRankUptoSaid : Prop := fnExactPermRankUptoRow.holds Try.pinned (OpenSpec.upto fnExactPermRankSpec)

/-- 'laws.FnExactPermOf', WHERE WHAT IT READS IS OF BULK AT MOST 1048576: true; the input reads as it did. -/
def fnExactPermOfUptoRow : OpenClaim := { program := "ytdgbaglhhhbbhaa", sum := "3aeca300437cf0d9955b73f27f3ca94a0c42160398eb9e20896306ff38f2d4f0", func := "loop.example/circuitswitching/laws.FnExactPermOf", spec := "fnExactPermOf", apart := false, narrowed := true }
def FnExactPermOfUptoSaid : Prop := fnExactPermOfUptoRow.holds Try.pinned (OpenSpec.upto fnExactPermOfSpec)

end Rows
end Go.Proofs.Ytdgbaglhhhbbhaa
