/-
  No cell of these rows narrows 'for every input' (looked for: loops, veiled, ifaces, maps, wideKeys, modest, calm, conditions, laid).
  DERIVED. THE GIVEN ROWS OF THIS SEAT. 6 by the template 'for every input the law returns true; each argument reads behind the call as it read before'; 0 by the template 'total and deterministic' (their statements: YtaedcmmomenilaaTotals.lean).
  GIVEN WITH THE SEED: the statements are not yours to turn. If you find one false, say at which input.
  Laid BY PROGRAM, IN A SANDBOX (cutbox-rows.mjs): the forced cells as the released guide's own fill.sh prints them over the translation de0415b6aa4dcfcc… (all of the seat's roots in one cut). By AI agents, Wed Nov 11 2026. No macro, syntax, notation, axiom, sorry.
-/
import Derived.Test.YtaedcmmomenilaaChecked
import GoSem.Claim
import GoSem.ClaimJoined
import GoSem.ClaimMapViews
import Derived.JoinedTies
import Derived.KernelRfl
namespace Go.Proofs.Ytaedcmmomenilaa
/- THE CELL 'sum', in the pinned program and in every row, IS THE sha256 OF THE DUMP (.gsa) THAT YtaedcmmomenilaaProg.lean LOADS. Nothing in Lean hashes anything: it is a label: what it is worth is what the hold of that sum in a sandbox is worth. -/
noncomputable def Try.pinned : Pinned := { name := "ytaedcmmomenilaa", sum := "de0415b6aa4dcfcc7e8e5792fc9b921649c94c063b95c2b5fd638b658d1c53b1", checked := Try.checked }
namespace Rows
def none {H : Type} : Left H := { results := [], args := [] }

/-- 'laws.FnExactDiceUsed': WHATEVER THE INPUT: true; the input reads as it did. -/
def fnExactDiceUsedSpec : ChangeSpec := { name := "fnExactDiceUsed", fn := fun _ => fun
  | [d1, d2, d3] => { results := [.lit (.bool true)], args := [d1, d2, d3] }
  | _ => none }
def fnExactDiceUsedRow : OpenClaim := { program := "ytaedcmmomenilaa", sum := "de0415b6aa4dcfcc7e8e5792fc9b921649c94c063b95c2b5fd638b658d1c53b1", func := "loop.example/g00885/laws.FnExactDiceUsed", spec := "fnExactDiceUsed", unfollowed := true, recurses := true, plainKeys := false, apart := false }
def FnExactDiceUsedSaid : Prop := fnExactDiceUsedRow.holds Try.pinned (OpenSpec.ofChange fnExactDiceUsedSpec)

/-- ITS FALSE NEIGHBOUR: 'it returns false'. Refute it at one input. -/
def fnExactDiceUsedWrong : ChangeSpec := { name := "fnExactDiceUsed", fn := fun _ => fun
  | [d1, d2, d3] => { results := [.lit (.bool false)], args := [d1, d2, d3] }
  | _ => none }
def FnExactDiceUsedWrongFalsely : Prop := fnExactDiceUsedRow.holds Try.pinned (OpenSpec.ofChange fnExactDiceUsedWrong)

/-- 'laws.FnExactIsForced': WHATEVER THE INPUT: true; the input reads as it did. -/
def fnExactIsForcedSpec : ChangeSpec := { name := "fnExactIsForced", fn := fun _ => fun
  | [d1, d2, d3] => { results := [.lit (.bool true)], args := [d1, d2, d3] }
  | _ => none }
def fnExactIsForcedRow : OpenClaim := { program := "ytaedcmmomenilaa", sum := "de0415b6aa4dcfcc7e8e5792fc9b921649c94c063b95c2b5fd638b658d1c53b1", func := "loop.example/g00885/laws.FnExactIsForced", spec := "fnExactIsForced", unfollowed := true, recurses := true, plainKeys := false, apart := false }
def FnExactIsForcedSaid : Prop := fnExactIsForcedRow.holds Try.pinned (OpenSpec.ofChange fnExactIsForcedSpec)

/-- ITS FALSE NEIGHBOUR: 'it returns false'. Refute it at one input. -/
def fnExactIsForcedWrong : ChangeSpec := { name := "fnExactIsForced", fn := fun _ => fun
  | [d1, d2, d3] => { results := [.lit (.bool false)], args := [d1, d2, d3] }
  | _ => none }
def FnExactIsForcedWrongFalsely : Prop := fnExactIsForcedRow.holds Try.pinned (OpenSpec.ofChange fnExactIsForcedWrong)

/-- 'laws.FnExactPlayCounts': WHATEVER THE INPUT: true; the input reads as it did. -/
def fnExactPlayCountsSpec : ChangeSpec := { name := "fnExactPlayCounts", fn := fun _ => fun
  | [d1, d2] => { results := [.lit (.bool true)], args := [d1, d2] }
  | _ => none }
def fnExactPlayCountsRow : OpenClaim := { program := "ytaedcmmomenilaa", sum := "de0415b6aa4dcfcc7e8e5792fc9b921649c94c063b95c2b5fd638b658d1c53b1", func := "loop.example/g00885/laws.FnExactPlayCounts", spec := "fnExactPlayCounts", unfollowed := true, recurses := true, plainKeys := false, apart := false }
def FnExactPlayCountsSaid : Prop := fnExactPlayCountsRow.holds Try.pinned (OpenSpec.ofChange fnExactPlayCountsSpec)

/-- ITS FALSE NEIGHBOUR: 'it returns false'. Refute it at one input. -/
def fnExactPlayCountsWrong : ChangeSpec := { name := "fnExactPlayCounts", fn := fun _ => fun
  | [d1, d2] => { results := [.lit (.bool false)], args := [d1, d2] }
  | _ => none }
def FnExactPlayCountsWrongFalsely : Prop := fnExactPlayCountsRow.holds Try.pinned (OpenSpec.ofChange fnExactPlayCountsWrong)

/-- 'laws.FnExactFindPlay': WHATEVER THE INPUT: true; the input reads as it did. -/
def fnExactFindPlaySpec : ChangeSpec := { name := "fnExactFindPlay", fn := fun _ => fun
  | [d1, d2, d3, d4] => { results := [.lit (.bool true)], args := [d1, d2, d3, d4] }
  | _ => none }
def fnExactFindPlayRow : OpenClaim := { program := "ytaedcmmomenilaa", sum := "de0415b6aa4dcfcc7e8e5792fc9b921649c94c063b95c2b5fd638b658d1c53b1", func := "loop.example/g00885/laws.FnExactFindPlay", spec := "fnExactFindPlay", unfollowed := true, recurses := true, plainKeys := false, apart := false }
def FnExactFindPlaySaid : Prop := fnExactFindPlayRow.holds Try.pinned (OpenSpec.ofChange fnExactFindPlaySpec)

/-- ITS FALSE NEIGHBOUR: 'it returns false'. Refute it at one input. -/
def fnExactFindPlayWrong : ChangeSpec := { name := "fnExactFindPlay", fn := fun _ => fun
  | [d1, d2, d3, d4] => { results := [.lit (.bool false)], args := [d1, d2, d3, d4] }
  | _ => none }
def FnExactFindPlayWrongFalsely : Prop := fnExactFindPlayRow.holds Try.pinned (OpenSpec.ofChange fnExactFindPlayWrong)

/-- 'laws.FnExactPlaySteps': WHATEVER THE INPUT: true; the input reads as it did. -/
def fnExactPlayStepsSpec : ChangeSpec := { name := "fnExactPlaySteps", fn := fun _ => fun
  | [d1, d2, d3, d4] => { results := [.lit (.bool true)], args := [d1, d2, d3, d4] }
  | _ => none }
def fnExactPlayStepsRow : OpenClaim := { program := "ytaedcmmomenilaa", sum := "de0415b6aa4dcfcc7e8e5792fc9b921649c94c063b95c2b5fd638b658d1c53b1", func := "loop.example/g00885/laws.FnExactPlaySteps", spec := "fnExactPlaySteps", unfollowed := true, recurses := true, plainKeys := false, apart := false }
def FnExactPlayStepsSaid : Prop := fnExactPlayStepsRow.holds Try.pinned (OpenSpec.ofChange fnExactPlayStepsSpec)

/-- ITS FALSE NEIGHBOUR: 'it returns false'. Refute it at one input. -/
def fnExactPlayStepsWrong : ChangeSpec := { name := "fnExactPlaySteps", fn := fun _ => fun
  | [d1, d2, d3, d4] => { results := [.lit (.bool false)], args := [d1, d2, d3, d4] }
  | _ => none }
def FnExactPlayStepsWrongFalsely : Prop := fnExactPlayStepsRow.holds Try.pinned (OpenSpec.ofChange fnExactPlayStepsWrong)

/-- 'laws.FnExactAllPlays': WHATEVER THE INPUT: true; the input reads as it did. -/
def fnExactAllPlaysSpec : ChangeSpec := { name := "fnExactAllPlays", fn := fun _ => fun
  | [d1, d2, d3] => { results := [.lit (.bool true)], args := [d1, d2, d3] }
  | _ => none }
def fnExactAllPlaysRow : OpenClaim := { program := "ytaedcmmomenilaa", sum := "de0415b6aa4dcfcc7e8e5792fc9b921649c94c063b95c2b5fd638b658d1c53b1", func := "loop.example/g00885/laws.FnExactAllPlays", spec := "fnExactAllPlays", unfollowed := true, recurses := true, plainKeys := false, apart := false }
def FnExactAllPlaysSaid : Prop := fnExactAllPlaysRow.holds Try.pinned (OpenSpec.ofChange fnExactAllPlaysSpec)

/-- ITS FALSE NEIGHBOUR: 'it returns false'. Refute it at one input. -/
def fnExactAllPlaysWrong : ChangeSpec := { name := "fnExactAllPlays", fn := fun _ => fun
  | [d1, d2, d3] => { results := [.lit (.bool false)], args := [d1, d2, d3] }
  | _ => none }
def FnExactAllPlaysWrongFalsely : Prop := fnExactAllPlaysRow.holds Try.pinned (OpenSpec.ofChange fnExactAllPlaysWrong)

/- THE SECOND FORM. 'bulk': how many values and letters a reading holds, each counted each time it is reached (what is shared counts as often as it is met; a slice's spare places count too). A statement '..UptoSaid' is the law's where the arguments, and the package variables that the reading takes, are together of bulk at most 1048576: NARROWER than '..Said'. Prove '..Said' where nothing that the law and all that it calls make is longer than what came in: it says more and counts as full. Else prove '..UptoSaid'. A law counts once. -/
mutual
def uptoBulk {H : Type} : DataW H → Nat
  | .lit (.string bytes) => bytes.length + 1
  | .lit _ => 1
  | .nil => 1
  | .ptr d => uptoBulk d + 1
  | .slice elems spare => uptoBulkAll elems + uptoBulkAll spare + 1
  | .agg parts => uptoBulkAll parts + 1
  | .iface _ d => uptoBulk d + 1
  | .map entries => uptoBulkEntries entries + 1
  | .held _ => 1
def uptoBulkAll {H : Type} : List (DataW H) → Nat
  | [] => 0
  | d :: r => uptoBulk d + uptoBulkAll r
def uptoBulkEntries {H : Type} : List (Lit × DataW H) → Nat
  | [] => 0
  | x :: r => uptoBulkEntry x + uptoBulkEntries r
def uptoBulkEntry {H : Type} : Lit × DataW H → Nat
  | (.string bytes, d) => bytes.length + uptoBulk d + 1
  | (_, d) => uptoBulk d + 1
 end
def uptoSmall : (H : Type) → List (DataW H) → Bool := fun _ ds => decide (uptoBulkAll ds ≤ 1048576)
def OpenSpec.upto (s : _root_.Go.ChangeSpec) : _root_.Go.OpenSpec := { _root_.Go.OpenSpec.ofChange s with cond := some uptoSmall }

/-- 'laws.FnExactDiceUsed', WHERE WHAT IT READS IS OF BULK AT MOST 1048576: true; the input reads as it did. -/
def fnExactDiceUsedUptoRow : OpenClaim := { program := "ytaedcmmomenilaa", sum := "de0415b6aa4dcfcc7e8e5792fc9b921649c94c063b95c2b5fd638b658d1c53b1", func := "loop.example/g00885/laws.FnExactDiceUsed", spec := "fnExactDiceUsed", unfollowed := true, recurses := true, plainKeys := false, apart := false, narrowed := true }
def FnExactDiceUsedUptoSaid : Prop := fnExactDiceUsedUptoRow.holds Try.pinned (OpenSpec.upto fnExactDiceUsedSpec)

/-- 'laws.FnExactIsForced', WHERE WHAT IT READS IS OF BULK AT MOST 1048576: true; the input reads as it did. -/
def fnExactIsForcedUptoRow : OpenClaim := { program := "ytaedcmmomenilaa", sum := "de0415b6aa4dcfcc7e8e5792fc9b921649c94c063b95c2b5fd638b658d1c53b1", func := "loop.example/g00885/laws.FnExactIsForced", spec := "fnExactIsForced", unfollowed := true, recurses := true, plainKeys := false, apart := false, narrowed := true }
def FnExactIsForcedUptoSaid : Prop := fnExactIsForcedUptoRow.holds Try.pinned (OpenSpec.upto fnExactIsForcedSpec)

/-- 'laws.FnExactPlayCounts', WHERE WHAT IT READS IS OF BULK AT MOST 1048576: true; the input reads as it did. -/
def fnExactPlayCountsUptoRow : OpenClaim := { program := "ytaedcmmomenilaa", sum := "de0415b6aa4dcfcc7e8e5792fc9b921649c94c063b95c2b5fd638b658d1c53b1", func := "loop.example/g00885/laws.FnExactPlayCounts", spec := "fnExactPlayCounts", unfollowed := true, recurses := true, plainKeys := false, apart := false, narrowed := true }
def FnExactPlayCountsUptoSaid : Prop := fnExactPlayCountsUptoRow.holds Try.pinned (OpenSpec.upto fnExactPlayCountsSpec)

/-- 'laws.FnExactFindPlay', WHERE WHAT IT READS IS OF BULK AT MOST 1048576: true; the input reads as it did. -/
def fnExactFindPlayUptoRow : OpenClaim := { program := "ytaedcmmomenilaa", sum := "de0415b6aa4dcfcc7e8e5792fc9b921649c94c063b95c2b5fd638b658d1c53b1", func := "loop.example/g00885/laws.FnExactFindPlay", spec := "fnExactFindPlay", unfollowed := true, recurses := true, plainKeys := false, apart := false, narrowed := true }
def FnExactFindPlayUptoSaid : Prop := fnExactFindPlayUptoRow.holds Try.pinned (OpenSpec.upto fnExactFindPlaySpec)

/-- 'laws.FnExactPlaySteps', WHERE WHAT IT READS IS OF BULK AT MOST 1048576: true; the input reads as it did. -/
def fnExactPlayStepsUptoRow : OpenClaim := { program := "ytaedcmmomenilaa", sum := "de0415b6aa4dcfcc7e8e5792fc9b921649c94c063b95c2b5fd638b658d1c53b1", func := "loop.example/g00885/laws.FnExactPlaySteps", spec := "fnExactPlaySteps", unfollowed := true, recurses := true, plainKeys := false, apart := false, narrowed := true }
def FnExactPlayStepsUptoSaid : Prop := fnExactPlayStepsUptoRow.holds Try.pinned (OpenSpec.upto fnExactPlayStepsSpec)

/-- 'laws.FnExactAllPlays', WHERE WHAT IT READS IS OF BULK AT MOST 1048576: true; the input reads as it did. -/
def fnExactAllPlaysUptoRow : OpenClaim := { program := "ytaedcmmomenilaa", sum := "de0415b6aa4dcfcc7e8e5792fc9b921649c94c063b95c2b5fd638b658d1c53b1", func := "loop.example/g00885/laws.FnExactAllPlays", spec := "fnExactAllPlays", unfollowed := true, recurses := true, plainKeys := false, apart := false, narrowed := true }
def FnExactAllPlaysUptoSaid : Prop := fnExactAllPlaysUptoRow.holds Try.pinned (OpenSpec.upto fnExactAllPlaysSpec)

end Rows
end Go.Proofs.Ytaedcmmomenilaa
