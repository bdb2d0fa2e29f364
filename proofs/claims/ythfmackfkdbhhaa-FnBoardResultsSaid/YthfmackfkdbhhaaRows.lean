/-
  No cell of these rows narrows 'for every input' (looked for: loops, veiled, ifaces, maps, wideKeys, modest, calm, conditions, laid).
  DERIVED. THE GIVEN ROWS OF THIS SEAT. 7 by the template 'for every input the law returns true; each argument reads behind the call as it read before'; 0 by the template 'total and deterministic' (their statements: YthfmackfkdbhhaaTotals.lean).
  GIVEN WITH THE SEED: the statements are not yours to turn. If you find one false, say at which input.
  Laid BY PROGRAM, IN A SANDBOX (cutbox-rows.mjs): the forced cells as the released guide's own fill.sh prints them over the translation 243573115eab4d38… (all of the seat's roots in one cut). By AI agents, Wed Nov 11 2026. No macro, syntax, notation, axiom, sorry.
-/
import Derived.Test.YthfmackfkdbhhaaChecked
import GoSem.Claim
import GoSem.ClaimJoined
import GoSem.ClaimMapViews
import Derived.JoinedTies
import Derived.KernelRfl
namespace Go.Proofs.Ythfmackfkdbhhaa
/- THE CELL 'sum', in the pinned program and in every row, IS THE sha256 OF THE DUMP (.gsa) THAT YthfmackfkdbhhaaProg.lean LOADS. Nothing in Lean hashes anything: it is a label: what it is worth is what the hold of that sum in a sandbox is worth. -/
noncomputable def Try.pinned : Pinned := { name := "ythfmackfkdbhhaa", sum := "243573115eab4d387992b3cf1cd840cde16386f7de10589a9b83abd55da9ade2", checked := Try.checked }
namespace Rows
def none {H : Type} : Left H := { results := [], args := [] }

/-- 'laws.FnExactIsGame': WHATEVER THE INPUT: true; the input reads as it did. -/
def fnExactIsGameSpec : ChangeSpec := { name := "fnExactIsGame", fn := fun _ => fun
  | [d1, d2] => { results := [.lit (.bool true)], args := [d1, d2] }
  | _ => none }
def fnExactIsGameRow : OpenClaim := { program := "ythfmackfkdbhhaa", sum := "243573115eab4d387992b3cf1cd840cde16386f7de10589a9b83abd55da9ade2", func := "loop.example/g00885/laws.FnExactIsGame", spec := "fnExactIsGame", unfollowed := true, recurses := true, apart := false }
def FnExactIsGameSaid : Prop := fnExactIsGameRow.holds Try.pinned (OpenSpec.ofChange fnExactIsGameSpec)

/-- ITS FALSE NEIGHBOUR: 'it returns false'. Refute it at one input. -/
def fnExactIsGameWrong : ChangeSpec := { name := "fnExactIsGame", fn := fun _ => fun
  | [d1, d2] => { results := [.lit (.bool false)], args := [d1, d2] }
  | _ => none }
def FnExactIsGameWrongFalsely : Prop := fnExactIsGameRow.holds Try.pinned (OpenSpec.ofChange fnExactIsGameWrong)

/-- 'laws.FnExactNewGame': WHATEVER THE INPUT: true; the input reads as it did. -/
def fnExactNewGameSpec : ChangeSpec := { name := "fnExactNewGame", fn := fun _ => fun
  | [d] => { results := [.lit (.bool true)], args := [d] }
  | _ => none }
def fnExactNewGameRow : OpenClaim := { program := "ythfmackfkdbhhaa", sum := "243573115eab4d387992b3cf1cd840cde16386f7de10589a9b83abd55da9ade2", func := "loop.example/g00885/laws.FnExactNewGame", spec := "fnExactNewGame", apart := false }
def FnExactNewGameSaid : Prop := fnExactNewGameRow.holds Try.pinned (OpenSpec.ofChange fnExactNewGameSpec)

/-- ITS FALSE NEIGHBOUR: 'it returns false'. Refute it at one input. -/
def fnExactNewGameWrong : ChangeSpec := { name := "fnExactNewGame", fn := fun _ => fun
  | [d] => { results := [.lit (.bool false)], args := [d] }
  | _ => none }
def FnExactNewGameWrongFalsely : Prop := fnExactNewGameRow.holds Try.pinned (OpenSpec.ofChange fnExactNewGameWrong)

/-- 'laws.FnExactOpeningRoll': WHATEVER THE INPUT: true; the input reads as it did. -/
def fnExactOpeningRollSpec : ChangeSpec := { name := "fnExactOpeningRoll", fn := fun _ => fun
  | [d1, d2, d3, d4] => { results := [.lit (.bool true)], args := [d1, d2, d3, d4] }
  | _ => none }
def fnExactOpeningRollRow : OpenClaim := { program := "ythfmackfkdbhhaa", sum := "243573115eab4d387992b3cf1cd840cde16386f7de10589a9b83abd55da9ade2", func := "loop.example/g00885/laws.FnExactOpeningRoll", spec := "fnExactOpeningRoll", unfollowed := true, recurses := true, apart := false }
def FnExactOpeningRollSaid : Prop := fnExactOpeningRollRow.holds Try.pinned (OpenSpec.ofChange fnExactOpeningRollSpec)

/-- ITS FALSE NEIGHBOUR: 'it returns false'. Refute it at one input. -/
def fnExactOpeningRollWrong : ChangeSpec := { name := "fnExactOpeningRoll", fn := fun _ => fun
  | [d1, d2, d3, d4] => { results := [.lit (.bool false)], args := [d1, d2, d3, d4] }
  | _ => none }
def FnExactOpeningRollWrongFalsely : Prop := fnExactOpeningRollRow.holds Try.pinned (OpenSpec.ofChange fnExactOpeningRollWrong)

/-- 'laws.FnExactRollDice': WHATEVER THE INPUT: true; the input reads as it did. -/
def fnExactRollDiceSpec : ChangeSpec := { name := "fnExactRollDice", fn := fun _ => fun
  | [d1, d2, d3] => { results := [.lit (.bool true)], args := [d1, d2, d3] }
  | _ => none }
def fnExactRollDiceRow : OpenClaim := { program := "ythfmackfkdbhhaa", sum := "243573115eab4d387992b3cf1cd840cde16386f7de10589a9b83abd55da9ade2", func := "loop.example/g00885/laws.FnExactRollDice", spec := "fnExactRollDice", unfollowed := true, recurses := true, apart := false }
def FnExactRollDiceSaid : Prop := fnExactRollDiceRow.holds Try.pinned (OpenSpec.ofChange fnExactRollDiceSpec)

/-- ITS FALSE NEIGHBOUR: 'it returns false'. Refute it at one input. -/
def fnExactRollDiceWrong : ChangeSpec := { name := "fnExactRollDice", fn := fun _ => fun
  | [d1, d2, d3] => { results := [.lit (.bool false)], args := [d1, d2, d3] }
  | _ => none }
def FnExactRollDiceWrongFalsely : Prop := fnExactRollDiceRow.holds Try.pinned (OpenSpec.ofChange fnExactRollDiceWrong)

/-- 'laws.FnExactResultOf': WHATEVER THE INPUT: true; the input reads as it did. -/
def fnExactResultOfSpec : ChangeSpec := { name := "fnExactResultOf", fn := fun _ => fun
  | [d1, d2] => { results := [.lit (.bool true)], args := [d1, d2] }
  | _ => none }
def fnExactResultOfRow : OpenClaim := { program := "ythfmackfkdbhhaa", sum := "243573115eab4d387992b3cf1cd840cde16386f7de10589a9b83abd55da9ade2", func := "loop.example/g00885/laws.FnExactResultOf", spec := "fnExactResultOf", unfollowed := true, recurses := true, apart := false }
def FnExactResultOfSaid : Prop := fnExactResultOfRow.holds Try.pinned (OpenSpec.ofChange fnExactResultOfSpec)

/-- ITS FALSE NEIGHBOUR: 'it returns false'. Refute it at one input. -/
def fnExactResultOfWrong : ChangeSpec := { name := "fnExactResultOf", fn := fun _ => fun
  | [d1, d2] => { results := [.lit (.bool false)], args := [d1, d2] }
  | _ => none }
def FnExactResultOfWrongFalsely : Prop := fnExactResultOfRow.holds Try.pinned (OpenSpec.ofChange fnExactResultOfWrong)

/-- 'laws.FnExactResignGame': WHATEVER THE INPUT: true; the input reads as it did. -/
def fnExactResignGameSpec : ChangeSpec := { name := "fnExactResignGame", fn := fun _ => fun
  | [d1, d2, d3] => { results := [.lit (.bool true)], args := [d1, d2, d3] }
  | _ => none }
def fnExactResignGameRow : OpenClaim := { program := "ythfmackfkdbhhaa", sum := "243573115eab4d387992b3cf1cd840cde16386f7de10589a9b83abd55da9ade2", func := "loop.example/g00885/laws.FnExactResignGame", spec := "fnExactResignGame", unfollowed := true, recurses := true, apart := false }
def FnExactResignGameSaid : Prop := fnExactResignGameRow.holds Try.pinned (OpenSpec.ofChange fnExactResignGameSpec)

/-- ITS FALSE NEIGHBOUR: 'it returns false'. Refute it at one input. -/
def fnExactResignGameWrong : ChangeSpec := { name := "fnExactResignGame", fn := fun _ => fun
  | [d1, d2, d3] => { results := [.lit (.bool false)], args := [d1, d2, d3] }
  | _ => none }
def FnExactResignGameWrongFalsely : Prop := fnExactResignGameRow.holds Try.pinned (OpenSpec.ofChange fnExactResignGameWrong)

/-- 'laws.FnBoardResults': WHATEVER THE INPUT: true; the input reads as it did. -/
def fnBoardResultsSpec : ChangeSpec := { name := "fnBoardResults", fn := fun _ => fun
  | [d] => { results := [.lit (.bool true)], args := [d] }
  | _ => none }
def fnBoardResultsRow : OpenClaim := { program := "ythfmackfkdbhhaa", sum := "243573115eab4d387992b3cf1cd840cde16386f7de10589a9b83abd55da9ade2", func := "loop.example/g00885/laws.FnBoardResults", spec := "fnBoardResults", unfollowed := true, recurses := true, apart := false }
def FnBoardResultsSaid : Prop := fnBoardResultsRow.holds Try.pinned (OpenSpec.ofChange fnBoardResultsSpec)

/-- ITS FALSE NEIGHBOUR: 'it returns false'. Refute it at one input. -/
def fnBoardResultsWrong : ChangeSpec := { name := "fnBoardResults", fn := fun _ => fun
  | [d] => { results := [.lit (.bool false)], args := [d] }
  | _ => none }
def FnBoardResultsWrongFalsely : Prop := fnBoardResultsRow.holds Try.pinned (OpenSpec.ofChange fnBoardResultsWrong)

/- THE SECOND FORM. 'bulk': how many values and letters a reading holds, each counted each time it is reached (what is shared counts as often as it is met; a slice's spare places count too). A statement '..UptoSaid' is the law's where the arguments, and the package variables that the reading takes, are together of bulk at most 1048576: NARROWER than '..Said'. Prove '..Said' where nothing that the law and all that it calls make is longer than what came in: it says more and counts as full. Else prove '..UptoSaid'. A law counts once. -/
mutual
def uptoBulk {H : Type} : DataW H → Nat
  | .lit (.string bytes) => bytes.length + 1
  | .lit _ => 1
  | .nil => 1
  | .ptr d => uptoBulk d + 1
  | .slice elems spare => uptoBulkAll elems + uptoBulkAll spare + 1
  | .agg parts => uptoBulkAll parts + 1
  | .iface _ d => uptoBulk d + 1
  | .map entries => uptoBulkEntries entries + 1
  | .held _ => 1
def uptoBulkAll {H : Type} : List (DataW H) → Nat
  | [] => 0
  | d :: r => uptoBulk d + uptoBulkAll r
def uptoBulkEntries {H : Type} : List (Lit × DataW H) → Nat
  | [] => 0
  | x :: r => uptoBulkEntry x + uptoBulkEntries r
def uptoBulkEntry {H : Type} : Lit × DataW H → Nat
  | (.string bytes, d) => bytes.length + uptoBulk d + 1
  | (_, d) => uptoBulk d + 1
 end
def uptoSmall : (H : Type) → List (DataW H) → Bool := fun _ ds => decide (uptoBulkAll ds ≤ 1048576)
def OpenSpec.upto (s : _root_.Go.ChangeSpec) : _root_.Go.OpenSpec := { _root_.Go.OpenSpec.ofChange s with cond := some uptoSmall }

/-- 'laws.FnExactIsGame', WHERE WHAT IT READS IS OF BULK AT MOST 1048576: true; the input reads as it did. -/
def fnExactIsGameUptoRow : OpenClaim := { program := "ythfmackfkdbhhaa", sum := "243573115eab4d387992b3cf1cd840cde16386f7de10589a9b83abd55da9ade2", func := "loop.example/g00885/laws.FnExactIsGame", spec := "fnExactIsGame", unfollowed := true, recurses := true, apart := false, narrowed := true }
def FnExactIsGameUptoSaid : Prop := fnExactIsGameUptoRow.holds Try.pinned (OpenSpec.upto fnExactIsGameSpec)

/-- 'laws.FnExactNewGame', WHERE WHAT IT READS IS OF BULK AT MOST 1048576: true; the input reads as it did. -/
def fnExactNewGameUptoRow : OpenClaim := { program := "ythfmackfkdbhhaa", sum := "243573115eab4d387992b3cf1cd840cde16386f7de10589a9b83abd55da9ade2", func := "loop.example/g00885/laws.FnExactNewGame", spec := "fnExactNewGame", apart := false, narrowed := true }
def FnExactNewGameUptoSaid : Prop := fnExactNewGameUptoRow.holds Try.pinned (OpenSpec.upto fnExactNewGameSpec)

/-- 'laws.FnExactOpeningRoll', WHERE WHAT IT READS IS OF BULK AT MOST 1048576: true; the input reads as it did. -/
def fnExactOpeningRollUptoRow : OpenClaim := { program := "ythfmackfkdbhhaa", sum := "243573115eab4d387992b3cf1cd840cde16386f7de10589a9b83abd55da9ade2", func := "loop.example/g00885/laws.FnExactOpeningRoll", spec := "fnExactOpeningRoll", unfollowed := true, recurses := true, apart := false, narrowed := true }
def FnExactOpeningRollUptoSaid : Prop := fnExactOpeningRollUptoRow.holds Try.pinned (OpenSpec.upto fnExactOpeningRollSpec)

/-- 'laws.FnExactRollDice', WHERE WHAT IT READS IS OF BULK AT MOST 1048576: true; the input reads as it did. -/
def fnExactRollDiceUptoRow : OpenClaim := { program := "ythfmackfkdbhhaa", sum := "243573115eab4d387992b3cf1cd840cde16386f7de10589a9b83abd55da9ade2", func := "loop.example/g00885/laws.FnExactRollDice", spec := "fnExactRollDice", unfollowed := true, recurses := true, apart := false, narrowed := true }
def FnExactRollDiceUptoSaid : Prop := fnExactRollDiceUptoRow.holds Try.pinned (OpenSpec.upto fnExactRollDiceSpec)

/-- 'laws.FnExactResultOf', WHERE WHAT IT READS IS OF BULK AT MOST 1048576: true; the input reads as it did. -/
def fnExactResultOfUptoRow : OpenClaim := { program := "ythfmackfkdbhhaa", sum := "243573115eab4d387992b3cf1cd840cde16386f7de10589a9b83abd55da9ade2", func := "loop.example/g00885/laws.FnExactResultOf", spec := "fnExactResultOf", unfollowed := true, recurses := true, apart := false, narrowed := true }
def FnExactResultOfUptoSaid : Prop := fnExactResultOfUptoRow.holds Try.pinned (OpenSpec.upto fnExactResultOfSpec)

/-- 'laws.FnExactResignGame', WHERE WHAT IT READS IS OF BULK AT MOST 1048576: true; the input reads as it did. -/
def fnExactResignGameUptoRow : OpenClaim := { program := "ythfmackfkdbhhaa", sum := "243573115eab4d387992b3cf1cd840cde16386f7de10589a9b83abd55da9ade2", func := "loop.example/g00885/laws.FnExactResignGame", spec := "fnExactResignGame", unfollowed := true, recurses := true, apart := false, narrowed := true }
def FnExactResignGameUptoSaid : Prop := fnExactResignGameUptoRow.holds Try.pinned (OpenSpec.upto fnExactResignGameSpec)

/-- 'laws.FnBoardResults', WHERE WHAT IT READS IS OF BULK AT MOST 1048576: true; the input reads as it did. -/
def fnBoardResultsUptoRow : OpenClaim := { program := "ythfmackfkdbhhaa", sum := "243573115eab4d387992b3cf1cd840cde16386f7de10589a9b83abd55da9ade2", func := "loop.example/g00885/laws.FnBoardResults", spec := "fnBoardResults", unfollowed := true, recurses := true, apart := false, narrowed := true }
def FnBoardResultsUptoSaid : Prop := fnBoardResultsUptoRow.holds Try.pinned (OpenSpec.upto fnBoardResultsSpec)

end Rows
end Go.Proofs.Ythfmackfkdbhhaa
