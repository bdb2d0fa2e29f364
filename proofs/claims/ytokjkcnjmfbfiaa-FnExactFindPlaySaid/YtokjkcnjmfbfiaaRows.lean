/-
  No cell of these rows narrows 'for every input' (looked for: loops, veiled, ifaces, maps, wideKeys, modest, calm, conditions, laid).
  DERIVED. THE GIVEN ROWS OF THIS SEAT. 12 by the template 'for every input the law returns true; each argument reads behind the call as it read before'; 0 by the template 'total and deterministic' (their statements: YtokjkcnjmfbfiaaTotals.lean).
  GIVEN WITH THE SEED: the statements are not yours to turn. If you find one false, say at which input.
  Laid BY PROGRAM, IN A SANDBOX (cutbox-rows.mjs): the forced cells as the released guide's own fill.sh prints them over the translation 35d4ca697e015667… (all of the seat's roots in one cut). By AI agents, Wed Nov 11 2026. No macro, syntax, notation, axiom, sorry.
-/
import Derived.Test.YtokjkcnjmfbfiaaChecked
import GoSem.Claim
import GoSem.ClaimJoined
import GoSem.ClaimMapViews
import Derived.JoinedTies
import Derived.KernelRfl
namespace Go.Proofs.Ytokjkcnjmfbfiaa
/- THE CELL 'sum', in the pinned program and in every row, IS THE sha256 OF THE DUMP (.gsa) THAT YtokjkcnjmfbfiaaProg.lean LOADS. Nothing in Lean hashes anything: it is a label: what it is worth is what the hold of that sum in a sandbox is worth. -/
noncomputable def Try.pinned : Pinned := { name := "ytokjkcnjmfbfiaa", sum := "35d4ca697e01566726f99356f87721c0ef66b8bb6245092268992058e7902a9f", checked := Try.checked }
namespace Rows
def none {H : Type} : Left H := { results := [], args := [] }

/-- 'laws.FnExactDiceUsed': WHATEVER THE INPUT: true; the input reads as it did. -/
def fnExactDiceUsedSpec : ChangeSpec := { name := "fnExactDiceUsed", fn := fun _ => fun
  | [d1, d2, d3] => { results := [.lit (.bool true)], args := [d1, d2, d3] }
  | _ => none }
def fnExactDiceUsedRow : OpenClaim := { program := "ytokjkcnjmfbfiaa", sum := "35d4ca697e01566726f99356f87721c0ef66b8bb6245092268992058e7902a9f", func := "loop.example/g00885/laws.FnExactDiceUsed", spec := "fnExactDiceUsed", unfollowed := true, recurses := true, plainKeys := false, apart := false }
def FnExactDiceUsedSaid : Prop := fnExactDiceUsedRow.holds Try.pinned (OpenSpec.ofChange fnExactDiceUsedSpec)

/-- ITS FALSE NEIGHBOUR: 'it returns false'. Refute it at one input. -/
def fnExactDiceUsedWrong : ChangeSpec := { name := "fnExactDiceUsed", fn := fun _ => fun
  | [d1, d2, d3] => { results := [.lit (.bool false)], args := [d1, d2, d3] }
  | _ => none }
def FnExactDiceUsedWrongFalsely : Prop := fnExactDiceUsedRow.holds Try.pinned (OpenSpec.ofChange fnExactDiceUsedWrong)

/-- 'laws.FnExactAllPlays': WHATEVER THE INPUT: true; the input reads as it did. -/
def fnExactAllPlaysSpec : ChangeSpec := { name := "fnExactAllPlays", fn := fun _ => fun
  | [d1, d2, d3] => { results := [.lit (.bool true)], args := [d1, d2, d3] }
  | _ => none }
def fnExactAllPlaysRow : OpenClaim := { program := "ytokjkcnjmfbfiaa", sum := "35d4ca697e01566726f99356f87721c0ef66b8bb6245092268992058e7902a9f", func := "loop.example/g00885/laws.FnExactAllPlays", spec := "fnExactAllPlays", unfollowed := true, recurses := true, plainKeys := false, apart := false }
def FnExactAllPlaysSaid : Prop := fnExactAllPlaysRow.holds Try.pinned (OpenSpec.ofChange fnExactAllPlaysSpec)

/-- ITS FALSE NEIGHBOUR: 'it returns false'. Refute it at one input. -/
def fnExactAllPlaysWrong : ChangeSpec := { name := "fnExactAllPlays", fn := fun _ => fun
  | [d1, d2, d3] => { results := [.lit (.bool false)], args := [d1, d2, d3] }
  | _ => none }
def FnExactAllPlaysWrongFalsely : Prop := fnExactAllPlaysRow.holds Try.pinned (OpenSpec.ofChange fnExactAllPlaysWrong)

/-- 'laws.FnExactFindPlay': WHATEVER THE INPUT: true; the input reads as it did. -/
def fnExactFindPlaySpec : ChangeSpec := { name := "fnExactFindPlay", fn := fun _ => fun
  | [d1, d2, d3, d4] => { results := [.lit (.bool true)], args := [d1, d2, d3, d4] }
  | _ => none }
def fnExactFindPlayRow : OpenClaim := { program := "ytokjkcnjmfbfiaa", sum := "35d4ca697e01566726f99356f87721c0ef66b8bb6245092268992058e7902a9f", func := "loop.example/g00885/laws.FnExactFindPlay", spec := "fnExactFindPlay", unfollowed := true, recurses := true, plainKeys := false, apart := false }
def FnExactFindPlaySaid : Prop := fnExactFindPlayRow.holds Try.pinned (OpenSpec.ofChange fnExactFindPlaySpec)

/-- ITS FALSE NEIGHBOUR: 'it returns false'. Refute it at one input. -/
def fnExactFindPlayWrong : ChangeSpec := { name := "fnExactFindPlay", fn := fun _ => fun
  | [d1, d2, d3, d4] => { results := [.lit (.bool false)], args := [d1, d2, d3, d4] }
  | _ => none }
def FnExactFindPlayWrongFalsely : Prop := fnExactFindPlayRow.holds Try.pinned (OpenSpec.ofChange fnExactFindPlayWrong)

/-- 'laws.FnExactIsForced': WHATEVER THE INPUT: true; the input reads as it did. -/
def fnExactIsForcedSpec : ChangeSpec := { name := "fnExactIsForced", fn := fun _ => fun
  | [d1, d2, d3] => { results := [.lit (.bool true)], args := [d1, d2, d3] }
  | _ => none }
def fnExactIsForcedRow : OpenClaim := { program := "ytokjkcnjmfbfiaa", sum := "35d4ca697e01566726f99356f87721c0ef66b8bb6245092268992058e7902a9f", func := "loop.example/g00885/laws.FnExactIsForced", spec := "fnExactIsForced", unfollowed := true, recurses := true, plainKeys := false, apart := false }
def FnExactIsForcedSaid : Prop := fnExactIsForcedRow.holds Try.pinned (OpenSpec.ofChange fnExactIsForcedSpec)

/-- ITS FALSE NEIGHBOUR: 'it returns false'. Refute it at one input. -/
def fnExactIsForcedWrong : ChangeSpec := { name := "fnExactIsForced", fn := fun _ => fun
  | [d1, d2, d3] => { results := [.lit (.bool false)], args := [d1, d2, d3] }
  | _ => none }
def FnExactIsForcedWrongFalsely : Prop := fnExactIsForcedRow.holds Try.pinned (OpenSpec.ofChange fnExactIsForcedWrong)

/-- 'laws.FnExactPlayCounts': WHATEVER THE INPUT: true; the input reads as it did. -/
def fnExactPlayCountsSpec : ChangeSpec := { name := "fnExactPlayCounts", fn := fun _ => fun
  | [d1, d2] => { results := [.lit (.bool true)], args := [d1, d2] }
  | _ => none }
def fnExactPlayCountsRow : OpenClaim := { program := "ytokjkcnjmfbfiaa", sum := "35d4ca697e01566726f99356f87721c0ef66b8bb6245092268992058e7902a9f", func := "loop.example/g00885/laws.FnExactPlayCounts", spec := "fnExactPlayCounts", unfollowed := true, recurses := true, plainKeys := false, apart := false }
def FnExactPlayCountsSaid : Prop := fnExactPlayCountsRow.holds Try.pinned (OpenSpec.ofChange fnExactPlayCountsSpec)

/-- ITS FALSE NEIGHBOUR: 'it returns false'. Refute it at one input. -/
def fnExactPlayCountsWrong : ChangeSpec := { name := "fnExactPlayCounts", fn := fun _ => fun
  | [d1, d2] => { results := [.lit (.bool false)], args := [d1, d2] }
  | _ => none }
def FnExactPlayCountsWrongFalsely : Prop := fnExactPlayCountsRow.holds Try.pinned (OpenSpec.ofChange fnExactPlayCountsWrong)

/-- 'laws.FnExactDancingWeight': WHATEVER THE INPUT: true; the input reads as it did. -/
def fnExactDancingWeightSpec : ChangeSpec := { name := "fnExactDancingWeight", fn := fun _ => fun
  | [d1, d2] => { results := [.lit (.bool true)], args := [d1, d2] }
  | _ => none }
def fnExactDancingWeightRow : OpenClaim := { program := "ytokjkcnjmfbfiaa", sum := "35d4ca697e01566726f99356f87721c0ef66b8bb6245092268992058e7902a9f", func := "loop.example/g00885/laws.FnExactDancingWeight", spec := "fnExactDancingWeight", unfollowed := true, recurses := true, plainKeys := false, apart := false }
def FnExactDancingWeightSaid : Prop := fnExactDancingWeightRow.holds Try.pinned (OpenSpec.ofChange fnExactDancingWeightSpec)

/-- ITS FALSE NEIGHBOUR: 'it returns false'. Refute it at one input. -/
def fnExactDancingWeightWrong : ChangeSpec := { name := "fnExactDancingWeight", fn := fun _ => fun
  | [d1, d2] => { results := [.lit (.bool false)], args := [d1, d2] }
  | _ => none }
def FnExactDancingWeightWrongFalsely : Prop := fnExactDancingWeightRow.holds Try.pinned (OpenSpec.ofChange fnExactDancingWeightWrong)

/-- 'laws.FnExactPlaySteps': WHATEVER THE INPUT: true; the input reads as it did. -/
def fnExactPlayStepsSpec : ChangeSpec := { name := "fnExactPlaySteps", fn := fun _ => fun
  | [d1, d2, d3, d4] => { results := [.lit (.bool true)], args := [d1, d2, d3, d4] }
  | _ => none }
def fnExactPlayStepsRow : OpenClaim := { program := "ytokjkcnjmfbfiaa", sum := "35d4ca697e01566726f99356f87721c0ef66b8bb6245092268992058e7902a9f", func := "loop.example/g00885/laws.FnExactPlaySteps", spec := "fnExactPlaySteps", unfollowed := true, recurses := true, plainKeys := false, apart := false }
def FnExactPlayStepsSaid : Prop := fnExactPlayStepsRow.holds Try.pinned (OpenSpec.ofChange fnExactPlayStepsSpec)

/-- ITS FALSE NEIGHBOUR: 'it returns false'. Refute it at one input. -/
def fnExactPlayStepsWrong : ChangeSpec := { name := "fnExactPlaySteps", fn := fun _ => fun
  | [d1, d2, d3, d4] => { results := [.lit (.bool false)], args := [d1, d2, d3, d4] }
  | _ => none }
def FnExactPlayStepsWrongFalsely : Prop := fnExactPlayStepsRow.holds Try.pinned (OpenSpec.ofChange fnExactPlayStepsWrong)

/-- 'laws.FnExactIsGame': WHATEVER THE INPUT: true; the input reads as it did. -/
def fnExactIsGameSpec : ChangeSpec := { name := "fnExactIsGame", fn := fun _ => fun
  | [d1, d2] => { results := [.lit (.bool true)], args := [d1, d2] }
  | _ => none }
def fnExactIsGameRow : OpenClaim := { program := "ytokjkcnjmfbfiaa", sum := "35d4ca697e01566726f99356f87721c0ef66b8bb6245092268992058e7902a9f", func := "loop.example/g00885/laws.FnExactIsGame", spec := "fnExactIsGame", unfollowed := true, recurses := true, plainKeys := false, apart := false }
def FnExactIsGameSaid : Prop := fnExactIsGameRow.holds Try.pinned (OpenSpec.ofChange fnExactIsGameSpec)

/-- ITS FALSE NEIGHBOUR: 'it returns false'. Refute it at one input. -/
def fnExactIsGameWrong : ChangeSpec := { name := "fnExactIsGame", fn := fun _ => fun
  | [d1, d2] => { results := [.lit (.bool false)], args := [d1, d2] }
  | _ => none }
def FnExactIsGameWrongFalsely : Prop := fnExactIsGameRow.holds Try.pinned (OpenSpec.ofChange fnExactIsGameWrong)

/-- 'laws.FnExactOpeningRoll': WHATEVER THE INPUT: true; the input reads as it did. -/
def fnExactOpeningRollSpec : ChangeSpec := { name := "fnExactOpeningRoll", fn := fun _ => fun
  | [d1, d2, d3, d4] => { results := [.lit (.bool true)], args := [d1, d2, d3, d4] }
  | _ => none }
def fnExactOpeningRollRow : OpenClaim := { program := "ytokjkcnjmfbfiaa", sum := "35d4ca697e01566726f99356f87721c0ef66b8bb6245092268992058e7902a9f", func := "loop.example/g00885/laws.FnExactOpeningRoll", spec := "fnExactOpeningRoll", unfollowed := true, recurses := true, plainKeys := false, apart := false }
def FnExactOpeningRollSaid : Prop := fnExactOpeningRollRow.holds Try.pinned (OpenSpec.ofChange fnExactOpeningRollSpec)

/-- ITS FALSE NEIGHBOUR: 'it returns false'. Refute it at one input. -/
def fnExactOpeningRollWrong : ChangeSpec := { name := "fnExactOpeningRoll", fn := fun _ => fun
  | [d1, d2, d3, d4] => { results := [.lit (.bool false)], args := [d1, d2, d3, d4] }
  | _ => none }
def FnExactOpeningRollWrongFalsely : Prop := fnExactOpeningRollRow.holds Try.pinned (OpenSpec.ofChange fnExactOpeningRollWrong)

/-- 'laws.FnExactRollDice': WHATEVER THE INPUT: true; the input reads as it did. -/
def fnExactRollDiceSpec : ChangeSpec := { name := "fnExactRollDice", fn := fun _ => fun
  | [d1, d2, d3] => { results := [.lit (.bool true)], args := [d1, d2, d3] }
  | _ => none }
def fnExactRollDiceRow : OpenClaim := { program := "ytokjkcnjmfbfiaa", sum := "35d4ca697e01566726f99356f87721c0ef66b8bb6245092268992058e7902a9f", func := "loop.example/g00885/laws.FnExactRollDice", spec := "fnExactRollDice", unfollowed := true, recurses := true, plainKeys := false, apart := false }
def FnExactRollDiceSaid : Prop := fnExactRollDiceRow.holds Try.pinned (OpenSpec.ofChange fnExactRollDiceSpec)

/-- ITS FALSE NEIGHBOUR: 'it returns false'. Refute it at one input. -/
def fnExactRollDiceWrong : ChangeSpec := { name := "fnExactRollDice", fn := fun _ => fun
  | [d1, d2, d3] => { results := [.lit (.bool false)], args := [d1, d2, d3] }
  | _ => none }
def FnExactRollDiceWrongFalsely : Prop := fnExactRollDiceRow.holds Try.pinned (OpenSpec.ofChange fnExactRollDiceWrong)

/-- 'laws.FnExactResultOf': WHATEVER THE INPUT: true; the input reads as it did. -/
def fnExactResultOfSpec : ChangeSpec := { name := "fnExactResultOf", fn := fun _ => fun
  | [d1, d2] => { results := [.lit (.bool true)], args := [d1, d2] }
  | _ => none }
def fnExactResultOfRow : OpenClaim := { program := "ytokjkcnjmfbfiaa", sum := "35d4ca697e01566726f99356f87721c0ef66b8bb6245092268992058e7902a9f", func := "loop.example/g00885/laws.FnExactResultOf", spec := "fnExactResultOf", unfollowed := true, recurses := true, plainKeys := false, apart := false }
def FnExactResultOfSaid : Prop := fnExactResultOfRow.holds Try.pinned (OpenSpec.ofChange fnExactResultOfSpec)

/-- ITS FALSE NEIGHBOUR: 'it returns false'. Refute it at one input. -/
def fnExactResultOfWrong : ChangeSpec := { name := "fnExactResultOf", fn := fun _ => fun
  | [d1, d2] => { results := [.lit (.bool false)], args := [d1, d2] }
  | _ => none }
def FnExactResultOfWrongFalsely : Prop := fnExactResultOfRow.holds Try.pinned (OpenSpec.ofChange fnExactResultOfWrong)

/-- 'laws.FnExactResignGame': WHATEVER THE INPUT: true; the input reads as it did. -/
def fnExactResignGameSpec : ChangeSpec := { name := "fnExactResignGame", fn := fun _ => fun
  | [d1, d2, d3] => { results := [.lit (.bool true)], args := [d1, d2, d3] }
  | _ => none }
def fnExactResignGameRow : OpenClaim := { program := "ytokjkcnjmfbfiaa", sum := "35d4ca697e01566726f99356f87721c0ef66b8bb6245092268992058e7902a9f", func := "loop.example/g00885/laws.FnExactResignGame", spec := "fnExactResignGame", unfollowed := true, recurses := true, plainKeys := false, apart := false }
def FnExactResignGameSaid : Prop := fnExactResignGameRow.holds Try.pinned (OpenSpec.ofChange fnExactResignGameSpec)

/-- ITS FALSE NEIGHBOUR: 'it returns false'. Refute it at one input. -/
def fnExactResignGameWrong : ChangeSpec := { name := "fnExactResignGame", fn := fun _ => fun
  | [d1, d2, d3] => { results := [.lit (.bool false)], args := [d1, d2, d3] }
  | _ => none }
def FnExactResignGameWrongFalsely : Prop := fnExactResignGameRow.holds Try.pinned (OpenSpec.ofChange fnExactResignGameWrong)

/- THE SECOND FORM. 'bulk': how many values and letters a reading holds, each counted each time it is reached (what is shared counts as often as it is met; a slice's spare places count too). A statement '..UptoSaid' is the law's where the arguments, and the package variables that the reading takes, are together of bulk at most 1048576: NARROWER than '..Said'. Prove '..Said' where nothing that the law and all that it calls make is longer than what came in: it says more and counts as full. Else prove '..UptoSaid'. A law counts once. -/
mutual
def uptoBulk {H : Type} : DataW H → Nat
  | .lit (.string bytes) => bytes.length + 1
  | .lit _ => 1
  | .nil => 1
  | .ptr d => uptoBulk d + 1
  | .slice elems spare => uptoBulkAll elems + uptoBulkAll spare + 1
  | .agg parts => uptoBulkAll parts + 1
  | .iface _ d => uptoBulk d + 1
  | .map entries => uptoBulkEntries entries + 1
  | .held _ => 1
def uptoBulkAll {H : Type} : List (DataW H) → Nat
  | [] => 0
  | d :: r => uptoBulk d + uptoBulkAll r
def uptoBulkEntries {H : Type} : List (Lit × DataW H) → Nat
  | [] => 0
  | x :: r => uptoBulkEntry x + uptoBulkEntries r
def uptoBulkEntry {H : Type} : Lit × DataW H → Nat
  | (.string bytes, d) => bytes.length + uptoBulk d + 1
  | (_, d) => uptoBulk d + 1
 end
def uptoSmall : (H : Type) → List (DataW H) → Bool := fun _ ds => decide (uptoBulkAll ds ≤ 1048576)
def OpenSpec.upto (s : _root_.Go.ChangeSpec) : _root_.Go.OpenSpec := { _root_.Go.OpenSpec.ofChange s with cond := some uptoSmall }

/-- 'laws.FnExactDiceUsed', WHERE WHAT IT READS IS OF BULK AT MOST 1048576: true; the input reads as it did. -/
def fnExactDiceUsedUptoRow : OpenClaim := { program := "ytokjkcnjmfbfiaa", sum := "35d4ca697e01566726f99356f87721c0ef66b8bb6245092268992058e7902a9f", func := "loop.example/g00885/laws.FnExactDiceUsed", spec := "fnExactDiceUsed", unfollowed := true, recurses := true, plainKeys := false, apart := false, narrowed := true }
def FnExactDiceUsedUptoSaid : Prop := fnExactDiceUsedUptoRow.holds Try.pinned (OpenSpec.upto fnExactDiceUsedSpec)

/-- 'laws.FnExactAllPlays', WHERE WHAT IT READS IS OF BULK AT MOST 1048576: true; the input reads as it did. -/
def fnExactAllPlaysUptoRow : OpenClaim := { program := "ytokjkcnjmfbfiaa", sum := "35d4ca697e01566726f99356f87721c0ef66b8bb6245092268992058e7902a9f", func := "loop.example/g00885/laws.FnExactAllPlays", spec := "fnExactAllPlays", unfollowed := true, recurses := true, plainKeys := false, apart := false, narrowed := true }
def FnExactAllPlaysUptoSaid : Prop := fnExactAllPlaysUptoRow.holds Try.pinned (OpenSpec.upto fnExactAllPlaysSpec)

/-- 'laws.FnExactFindPlay', WHERE WHAT IT READS IS OF BULK AT MOST 1048576: true; the input reads as it did. -/
def fnExactFindPlayUptoRow : OpenClaim := { program := "ytokjkcnjmfbfiaa", sum := "35d4ca697e01566726f99356f87721c0ef66b8bb6245092268992058e7902a9f", func := "loop.example/g00885/laws.FnExactFindPlay", spec := "fnExactFindPlay", unfollowed := true, recurses := true, plainKeys := false, apart := false, narrowed := true }
def FnExactFindPlayUptoSaid : Prop := fnExactFindPlayUptoRow.holds Try.pinned (OpenSpec.upto fnExactFindPlaySpec)

/-- 'laws.FnExactIsForced', WHERE WHAT IT READS IS OF BULK AT MOST 1048576: true; the input reads as it did. -/
def fnExactIsForcedUptoRow : OpenClaim := { program := "ytokjkcnjmfbfiaa", sum := "35d4ca697e01566726f99356f87721c0ef66b8bb6245092268992058e7902a9f", func := "loop.example/g00885/laws.FnExactIsForced", spec := "fnExactIsForced", unfollowed := true, recurses := true, plainKeys := false, apart := false, narrowed := true }
def FnExactIsForcedUptoSaid : Prop := fnExactIsForcedUptoRow.holds Try.pinned (OpenSpec.upto fnExactIsForcedSpec)

/-- 'laws.FnExactPlayCounts', WHERE WHAT IT READS IS OF BULK AT MOST 1048576: true; the input reads as it did. -/
def fnExactPlayCountsUptoRow : OpenClaim := { program := "ytokjkcnjmfbfiaa", sum := "35d4ca697e01566726f99356f87721c0ef66b8bb6245092268992058e7902a9f", func := "loop.example/g00885/laws.FnExactPlayCounts", spec := "fnExactPlayCounts", unfollowed := true, recurses := true, plainKeys := false, apart := false, narrowed := true }
def FnExactPlayCountsUptoSaid : Prop := fnExactPlayCountsUptoRow.holds Try.pinned (OpenSpec.upto fnExactPlayCountsSpec)

/-- 'laws.FnExactDancingWeight', WHERE WHAT IT READS IS OF BULK AT MOST 1048576: true; the input reads as it did. -/
def fnExactDancingWeightUptoRow : OpenClaim := { program := "ytokjkcnjmfbfiaa", sum := "35d4ca697e01566726f99356f87721c0ef66b8bb6245092268992058e7902a9f", func := "loop.example/g00885/laws.FnExactDancingWeight", spec := "fnExactDancingWeight", unfollowed := true, recurses := true, plainKeys := false, apart := false, narrowed := true }
def FnExactDancingWeightUptoSaid : Prop := fnExactDancingWeightUptoRow.holds Try.pinned (OpenSpec.upto fnExactDancingWeightSpec)

/-- 'laws.FnExactPlaySteps', WHERE WHAT IT READS IS OF BULK AT MOST 1048576: true; the input reads as it did. -/
def fnExactPlayStepsUptoRow : OpenClaim := { program := "ytokjkcnjmfbfiaa", sum := "35d4ca697e01566726f99356f87721c0ef66b8bb6245092268992058e7902a9f", func := "loop.example/g00885/laws.FnExactPlaySteps", spec := "fnExactPlaySteps", unfollowed := true, recurses := true, plainKeys := false, apart := false, narrowed := true }
def FnExactPlayStepsUptoSaid : Prop := fnExactPlayStepsUptoRow.holds Try.pinned (OpenSpec.upto fnExactPlayStepsSpec)

/-- 'laws.FnExactIsGame', WHERE WHAT IT READS IS OF BULK AT MOST 1048576: true; the input reads as it did. -/
def fnExactIsGameUptoRow : OpenClaim := { program := "ytokjkcnjmfbfiaa", sum := "35d4ca697e01566726f99356f87721c0ef66b8bb6245092268992058e7902a9f", func := "loop.example/g00885/laws.FnExactIsGame", spec := "fnExactIsGame", unfollowed := true, recurses := true, plainKeys := false, apart := false, narrowed := true }
def FnExactIsGameUptoSaid : Prop := fnExactIsGameUptoRow.holds Try.pinned (OpenSpec.upto fnExactIsGameSpec)

/-- 'laws.FnExactOpeningRoll', WHERE WHAT IT READS IS OF BULK AT MOST 1048576: true; the input reads as it did. -/
def fnExactOpeningRollUptoRow : OpenClaim := { program := "ytokjkcnjmfbfiaa", sum := "35d4ca697e01566726f99356f87721c0ef66b8bb6245092268992058e7902a9f", func := "loop.example/g00885/laws.FnExactOpeningRoll", spec := "fnExactOpeningRoll", unfollowed := true, recurses := true, plainKeys := false, apart := false, narrowed := true }
def FnExactOpeningRollUptoSaid : Prop := fnExactOpeningRollUptoRow.holds Try.pinned (OpenSpec.upto fnExactOpeningRollSpec)

/-- 'laws.FnExactRollDice', WHERE WHAT IT READS IS OF BULK AT MOST 1048576: true; the input reads as it did. -/
def fnExactRollDiceUptoRow : OpenClaim := { program := "ytokjkcnjmfbfiaa", sum := "35d4ca697e01566726f99356f87721c0ef66b8bb6245092268992058e7902a9f", func := "loop.example/g00885/laws.FnExactRollDice", spec := "fnExactRollDice", unfollowed := true, recurses := true, plainKeys := false, apart := false, narrowed := true }
def FnExactRollDiceUptoSaid : Prop := fnExactRollDiceUptoRow.holds Try.pinned (OpenSpec.upto fnExactRollDiceSpec)

/-- 'laws.FnExactResultOf', WHERE WHAT IT READS IS OF BULK AT MOST 1048576: true; the input reads as it did. -/
def fnExactResultOfUptoRow : OpenClaim := { program := "ytokjkcnjmfbfiaa", sum := "35d4ca697e01566726f99356f87721c0ef66b8bb6245092268992058e7902a9f", func := "loop.example/g00885/laws.FnExactResultOf", spec := "fnExactResultOf", unfollowed := true, recurses := true, plainKeys := false, apart := false, narrowed := true }
def FnExactResultOfUptoSaid : Prop := fnExactResultOfUptoRow.holds Try.pinned (OpenSpec.upto fnExactResultOfSpec)

/-- 'laws.FnExactResignGame', WHERE WHAT IT READS IS OF BULK AT MOST 1048576: true; the input reads as it did. -/
def fnExactResignGameUptoRow : OpenClaim := { program := "ytokjkcnjmfbfiaa", sum := "35d4ca697e01566726f99356f87721c0ef66b8bb6245092268992058e7902a9f", func := "loop.example/g00885/laws.FnExactResignGame", spec := "fnExactResignGame", unfollowed := true, recurses := true, plainKeys := false, apart := false, narrowed := true }
def FnExactResignGameUptoSaid : Prop := fnExactResignGameUptoRow.holds Try.pinned (OpenSpec.upto fnExactResignGameSpec)

end Rows
end Go.Proofs.Ytokjkcnjmfbfiaa
