/-
  No cell of these rows narrows 'for every input' (looked for: loops, veiled, ifaces, maps, wideKeys, modest, calm, conditions, laid).
  DERIVED. THE GIVEN ROWS OF THIS SEAT. 13 by the template 'for every input the law returns true; each argument reads behind the call as it read before'; 0 by the template 'total and deterministic' (their statements: YthnkckflajkaiaaTotals.lean).
  GIVEN WITH THE SEED: the statements are not yours to turn. If you find one false, say at which input.
  Laid BY PROGRAM, IN A SANDBOX (cutbox-rows.mjs): the forced cells as the released guide's own fill.sh prints them over the translation 46015b2e493ee469… (all of the seat's roots in one cut). By AI agents, Wed Nov 11 2026. No macro, syntax, notation, axiom, sorry.
-/
import Derived.Test.YthnkckflajkaiaaChecked
import GoSem.Claim
import GoSem.ClaimJoined
import GoSem.ClaimMapViews
import Derived.JoinedTies
import Derived.KernelRfl
namespace Go.Proofs.Ythnkckflajkaiaa
/- THE CELL 'sum', in the pinned program and in every row, IS THE sha256 OF THE DUMP (.gsa) THAT YthnkckflajkaiaaProg.lean LOADS. Nothing in Lean hashes anything: it is a label: what it is worth is what the hold of that sum in a sandbox is worth. -/
noncomputable def Try.pinned : Pinned := { name := "ythnkckflajkaiaa", sum := "46015b2e493ee46939b7368ddeb38e63056694bb9d253a245089799f96869621", checked := Try.checked }
namespace Rows
def none {H : Type} : Left H := { results := [], args := [] }

/-- 'laws.FnExactIsBearoff': WHATEVER THE INPUT: true; the input reads as it did. -/
def fnExactIsBearoffSpec : ChangeSpec := { name := "fnExactIsBearoff", fn := fun _ => fun
  | [d1, d2] => { results := [.lit (.bool true)], args := [d1, d2] }
  | _ => none }
def fnExactIsBearoffRow : OpenClaim := { program := "ythnkckflajkaiaa", sum := "46015b2e493ee46939b7368ddeb38e63056694bb9d253a245089799f96869621", func := "loop.example/g00885/laws.FnExactIsBearoff", spec := "fnExactIsBearoff", apart := false }
def FnExactIsBearoffSaid : Prop := fnExactIsBearoffRow.holds Try.pinned (OpenSpec.ofChange fnExactIsBearoffSpec)

/-- ITS FALSE NEIGHBOUR: 'it returns false'. Refute it at one input. -/
def fnExactIsBearoffWrong : ChangeSpec := { name := "fnExactIsBearoff", fn := fun _ => fun
  | [d1, d2] => { results := [.lit (.bool false)], args := [d1, d2] }
  | _ => none }
def FnExactIsBearoffWrongFalsely : Prop := fnExactIsBearoffRow.holds Try.pinned (OpenSpec.ofChange fnExactIsBearoffWrong)

/-- 'laws.FnExactBearoffCount': WHATEVER THE INPUT: true; the input reads as it did. -/
def fnExactBearoffCountSpec : ChangeSpec := { name := "fnExactBearoffCount", fn := fun _ => fun
  | [d] => { results := [.lit (.bool true)], args := [d] }
  | _ => none }
def fnExactBearoffCountRow : OpenClaim := { program := "ythnkckflajkaiaa", sum := "46015b2e493ee46939b7368ddeb38e63056694bb9d253a245089799f96869621", func := "loop.example/g00885/laws.FnExactBearoffCount", spec := "fnExactBearoffCount", apart := false }
def FnExactBearoffCountSaid : Prop := fnExactBearoffCountRow.holds Try.pinned (OpenSpec.ofChange fnExactBearoffCountSpec)

/-- ITS FALSE NEIGHBOUR: 'it returns false'. Refute it at one input. -/
def fnExactBearoffCountWrong : ChangeSpec := { name := "fnExactBearoffCount", fn := fun _ => fun
  | [d] => { results := [.lit (.bool false)], args := [d] }
  | _ => none }
def FnExactBearoffCountWrongFalsely : Prop := fnExactBearoffCountRow.holds Try.pinned (OpenSpec.ofChange fnExactBearoffCountWrong)

/-- 'laws.FnExactBearoffPips': WHATEVER THE INPUT: true; the input reads as it did. -/
def fnExactBearoffPipsSpec : ChangeSpec := { name := "fnExactBearoffPips", fn := fun _ => fun
  | [d1, d2] => { results := [.lit (.bool true)], args := [d1, d2] }
  | _ => none }
def fnExactBearoffPipsRow : OpenClaim := { program := "ythnkckflajkaiaa", sum := "46015b2e493ee46939b7368ddeb38e63056694bb9d253a245089799f96869621", func := "loop.example/g00885/laws.FnExactBearoffPips", spec := "fnExactBearoffPips", apart := false }
def FnExactBearoffPipsSaid : Prop := fnExactBearoffPipsRow.holds Try.pinned (OpenSpec.ofChange fnExactBearoffPipsSpec)

/-- ITS FALSE NEIGHBOUR: 'it returns false'. Refute it at one input. -/
def fnExactBearoffPipsWrong : ChangeSpec := { name := "fnExactBearoffPips", fn := fun _ => fun
  | [d1, d2] => { results := [.lit (.bool false)], args := [d1, d2] }
  | _ => none }
def FnExactBearoffPipsWrongFalsely : Prop := fnExactBearoffPipsRow.holds Try.pinned (OpenSpec.ofChange fnExactBearoffPipsWrong)

/-- 'laws.FnExactNextBearoff': WHATEVER THE INPUT: true; the input reads as it did. -/
def fnExactNextBearoffSpec : ChangeSpec := { name := "fnExactNextBearoff", fn := fun _ => fun
  | [d1, d2] => { results := [.lit (.bool true)], args := [d1, d2] }
  | _ => none }
def fnExactNextBearoffRow : OpenClaim := { program := "ythnkckflajkaiaa", sum := "46015b2e493ee46939b7368ddeb38e63056694bb9d253a245089799f96869621", func := "loop.example/g00885/laws.FnExactNextBearoff", spec := "fnExactNextBearoff", unfollowed := true, recurses := true, apart := false }
def FnExactNextBearoffSaid : Prop := fnExactNextBearoffRow.holds Try.pinned (OpenSpec.ofChange fnExactNextBearoffSpec)

/-- ITS FALSE NEIGHBOUR: 'it returns false'. Refute it at one input. -/
def fnExactNextBearoffWrong : ChangeSpec := { name := "fnExactNextBearoff", fn := fun _ => fun
  | [d1, d2] => { results := [.lit (.bool false)], args := [d1, d2] }
  | _ => none }
def FnExactNextBearoffWrongFalsely : Prop := fnExactNextBearoffRow.holds Try.pinned (OpenSpec.ofChange fnExactNextBearoffWrong)

/-- 'laws.FnExactBearoffNumber': WHATEVER THE INPUT: true; the input reads as it did. -/
def fnExactBearoffNumberSpec : ChangeSpec := { name := "fnExactBearoffNumber", fn := fun _ => fun
  | [d1, d2] => { results := [.lit (.bool true)], args := [d1, d2] }
  | _ => none }
def fnExactBearoffNumberRow : OpenClaim := { program := "ythnkckflajkaiaa", sum := "46015b2e493ee46939b7368ddeb38e63056694bb9d253a245089799f96869621", func := "loop.example/g00885/laws.FnExactBearoffNumber", spec := "fnExactBearoffNumber", apart := false }
def FnExactBearoffNumberSaid : Prop := fnExactBearoffNumberRow.holds Try.pinned (OpenSpec.ofChange fnExactBearoffNumberSpec)

/-- ITS FALSE NEIGHBOUR: 'it returns false'. Refute it at one input. -/
def fnExactBearoffNumberWrong : ChangeSpec := { name := "fnExactBearoffNumber", fn := fun _ => fun
  | [d1, d2] => { results := [.lit (.bool false)], args := [d1, d2] }
  | _ => none }
def FnExactBearoffNumberWrongFalsely : Prop := fnExactBearoffNumberRow.holds Try.pinned (OpenSpec.ofChange fnExactBearoffNumberWrong)

/-- 'laws.FnExactBearoffAt': WHATEVER THE INPUT: true; the input reads as it did. -/
def fnExactBearoffAtSpec : ChangeSpec := { name := "fnExactBearoffAt", fn := fun _ => fun
  | [d1, d2] => { results := [.lit (.bool true)], args := [d1, d2] }
  | _ => none }
def fnExactBearoffAtRow : OpenClaim := { program := "ythnkckflajkaiaa", sum := "46015b2e493ee46939b7368ddeb38e63056694bb9d253a245089799f96869621", func := "loop.example/g00885/laws.FnExactBearoffAt", spec := "fnExactBearoffAt", apart := false }
def FnExactBearoffAtSaid : Prop := fnExactBearoffAtRow.holds Try.pinned (OpenSpec.ofChange fnExactBearoffAtSpec)

/-- ITS FALSE NEIGHBOUR: 'it returns false'. Refute it at one input. -/
def fnExactBearoffAtWrong : ChangeSpec := { name := "fnExactBearoffAt", fn := fun _ => fun
  | [d1, d2] => { results := [.lit (.bool false)], args := [d1, d2] }
  | _ => none }
def FnExactBearoffAtWrongFalsely : Prop := fnExactBearoffAtRow.holds Try.pinned (OpenSpec.ofChange fnExactBearoffAtWrong)

/-- 'laws.FnExactBearoffResults': WHATEVER THE INPUT: true; the input reads as it did. -/
def fnExactBearoffResultsSpec : ChangeSpec := { name := "fnExactBearoffResults", fn := fun _ => fun
  | [d1, d2, d3] => { results := [.lit (.bool true)], args := [d1, d2, d3] }
  | _ => none }
def fnExactBearoffResultsRow : OpenClaim := { program := "ythnkckflajkaiaa", sum := "46015b2e493ee46939b7368ddeb38e63056694bb9d253a245089799f96869621", func := "loop.example/g00885/laws.FnExactBearoffResults", spec := "fnExactBearoffResults", unfollowed := true, recurses := true, apart := false }
def FnExactBearoffResultsSaid : Prop := fnExactBearoffResultsRow.holds Try.pinned (OpenSpec.ofChange fnExactBearoffResultsSpec)

/-- ITS FALSE NEIGHBOUR: 'it returns false'. Refute it at one input. -/
def fnExactBearoffResultsWrong : ChangeSpec := { name := "fnExactBearoffResults", fn := fun _ => fun
  | [d1, d2, d3] => { results := [.lit (.bool false)], args := [d1, d2, d3] }
  | _ => none }
def FnExactBearoffResultsWrongFalsely : Prop := fnExactBearoffResultsRow.holds Try.pinned (OpenSpec.ofChange fnExactBearoffResultsWrong)

/-- 'laws.FnNumbers': WHATEVER THE INPUT: true; the input reads as it did. -/
def fnNumbersSpec : ChangeSpec := { name := "fnNumbers", fn := fun _ => fun
  | [d] => { results := [.lit (.bool true)], args := [d] }
  | _ => none }
def fnNumbersRow : OpenClaim := { program := "ythnkckflajkaiaa", sum := "46015b2e493ee46939b7368ddeb38e63056694bb9d253a245089799f96869621", func := "loop.example/g00885/laws.FnNumbers", spec := "fnNumbers", unfollowed := true, recurses := true, apart := false }
def FnNumbersSaid : Prop := fnNumbersRow.holds Try.pinned (OpenSpec.ofChange fnNumbersSpec)

/-- ITS FALSE NEIGHBOUR: 'it returns false'. Refute it at one input. -/
def fnNumbersWrong : ChangeSpec := { name := "fnNumbers", fn := fun _ => fun
  | [d] => { results := [.lit (.bool false)], args := [d] }
  | _ => none }
def FnNumbersWrongFalsely : Prop := fnNumbersRow.holds Try.pinned (OpenSpec.ofChange fnNumbersWrong)

/-- 'laws.FnResults': WHATEVER THE INPUT: true; the input reads as it did. -/
def fnResultsSpec : ChangeSpec := { name := "fnResults", fn := fun _ => fun
  | [d] => { results := [.lit (.bool true)], args := [d] }
  | _ => none }
def fnResultsRow : OpenClaim := { program := "ythnkckflajkaiaa", sum := "46015b2e493ee46939b7368ddeb38e63056694bb9d253a245089799f96869621", func := "loop.example/g00885/laws.FnResults", spec := "fnResults", unfollowed := true, recurses := true, apart := false }
def FnResultsSaid : Prop := fnResultsRow.holds Try.pinned (OpenSpec.ofChange fnResultsSpec)

/-- ITS FALSE NEIGHBOUR: 'it returns false'. Refute it at one input. -/
def fnResultsWrong : ChangeSpec := { name := "fnResults", fn := fun _ => fun
  | [d] => { results := [.lit (.bool false)], args := [d] }
  | _ => none }
def FnResultsWrongFalsely : Prop := fnResultsRow.holds Try.pinned (OpenSpec.ofChange fnResultsWrong)

/-- 'laws.FnExactSideCount': WHATEVER THE INPUT: true; the input reads as it did. -/
def fnExactSideCountSpec : ChangeSpec := { name := "fnExactSideCount", fn := fun _ => fun
  | [d] => { results := [.lit (.bool true)], args := [d] }
  | _ => none }
def fnExactSideCountRow : OpenClaim := { program := "ythnkckflajkaiaa", sum := "46015b2e493ee46939b7368ddeb38e63056694bb9d253a245089799f96869621", func := "loop.example/g00885/laws.FnExactSideCount", spec := "fnExactSideCount", apart := false }
def FnExactSideCountSaid : Prop := fnExactSideCountRow.holds Try.pinned (OpenSpec.ofChange fnExactSideCountSpec)

/-- ITS FALSE NEIGHBOUR: 'it returns false'. Refute it at one input. -/
def fnExactSideCountWrong : ChangeSpec := { name := "fnExactSideCount", fn := fun _ => fun
  | [d] => { results := [.lit (.bool false)], args := [d] }
  | _ => none }
def FnExactSideCountWrongFalsely : Prop := fnExactSideCountRow.holds Try.pinned (OpenSpec.ofChange fnExactSideCountWrong)

/-- 'laws.FnExactSideNumber': WHATEVER THE INPUT: true; the input reads as it did. -/
def fnExactSideNumberSpec : ChangeSpec := { name := "fnExactSideNumber", fn := fun _ => fun
  | [d1, d2] => { results := [.lit (.bool true)], args := [d1, d2] }
  | _ => none }
def fnExactSideNumberRow : OpenClaim := { program := "ythnkckflajkaiaa", sum := "46015b2e493ee46939b7368ddeb38e63056694bb9d253a245089799f96869621", func := "loop.example/g00885/laws.FnExactSideNumber", spec := "fnExactSideNumber", apart := false }
def FnExactSideNumberSaid : Prop := fnExactSideNumberRow.holds Try.pinned (OpenSpec.ofChange fnExactSideNumberSpec)

/-- ITS FALSE NEIGHBOUR: 'it returns false'. Refute it at one input. -/
def fnExactSideNumberWrong : ChangeSpec := { name := "fnExactSideNumber", fn := fun _ => fun
  | [d1, d2] => { results := [.lit (.bool false)], args := [d1, d2] }
  | _ => none }
def FnExactSideNumberWrongFalsely : Prop := fnExactSideNumberRow.holds Try.pinned (OpenSpec.ofChange fnExactSideNumberWrong)

/-- 'laws.FnExactSideOfNumber': WHATEVER THE INPUT: true; the input reads as it did. -/
def fnExactSideOfNumberSpec : ChangeSpec := { name := "fnExactSideOfNumber", fn := fun _ => fun
  | [d1, d2] => { results := [.lit (.bool true)], args := [d1, d2] }
  | _ => none }
def fnExactSideOfNumberRow : OpenClaim := { program := "ythnkckflajkaiaa", sum := "46015b2e493ee46939b7368ddeb38e63056694bb9d253a245089799f96869621", func := "loop.example/g00885/laws.FnExactSideOfNumber", spec := "fnExactSideOfNumber", apart := false }
def FnExactSideOfNumberSaid : Prop := fnExactSideOfNumberRow.holds Try.pinned (OpenSpec.ofChange fnExactSideOfNumberSpec)

/-- ITS FALSE NEIGHBOUR: 'it returns false'. Refute it at one input. -/
def fnExactSideOfNumberWrong : ChangeSpec := { name := "fnExactSideOfNumber", fn := fun _ => fun
  | [d1, d2] => { results := [.lit (.bool false)], args := [d1, d2] }
  | _ => none }
def FnExactSideOfNumberWrongFalsely : Prop := fnExactSideOfNumberRow.holds Try.pinned (OpenSpec.ofChange fnExactSideOfNumberWrong)

/-- 'laws.FnSideNumbers': WHATEVER THE INPUT: true; the input reads as it did. -/
def fnSideNumbersSpec : ChangeSpec := { name := "fnSideNumbers", fn := fun _ => fun
  | [d] => { results := [.lit (.bool true)], args := [d] }
  | _ => none }
def fnSideNumbersRow : OpenClaim := { program := "ythnkckflajkaiaa", sum := "46015b2e493ee46939b7368ddeb38e63056694bb9d253a245089799f96869621", func := "loop.example/g00885/laws.FnSideNumbers", spec := "fnSideNumbers", apart := false }
def FnSideNumbersSaid : Prop := fnSideNumbersRow.holds Try.pinned (OpenSpec.ofChange fnSideNumbersSpec)

/-- ITS FALSE NEIGHBOUR: 'it returns false'. Refute it at one input. -/
def fnSideNumbersWrong : ChangeSpec := { name := "fnSideNumbers", fn := fun _ => fun
  | [d] => { results := [.lit (.bool false)], args := [d] }
  | _ => none }
def FnSideNumbersWrongFalsely : Prop := fnSideNumbersRow.holds Try.pinned (OpenSpec.ofChange fnSideNumbersWrong)

/- THE SECOND FORM. 'bulk': how many values and letters a reading holds, each counted each time it is reached (what is shared counts as often as it is met; a slice's spare places count too). A statement '..UptoSaid' is the law's where the arguments, and the package variables that the reading takes, are together of bulk at most 1048576: NARROWER than '..Said'. Prove '..Said' where nothing that the law and all that it calls make is longer than what came in: it says more and counts as full. Else prove '..UptoSaid'. A law counts once. -/
mutual
def uptoBulk {H : Type} : DataW H → Nat
  | .lit (.string bytes) => bytes.length + 1
  | .lit _ => 1
  | .nil => 1
  | .ptr d => uptoBulk d + 1
  | .slice elems spare => uptoBulkAll elems + uptoBulkAll spare + 1
  | .agg parts => uptoBulkAll parts + 1
  | .iface _ d => uptoBulk d + 1
  | .map entries => uptoBulkEntries entries + 1
  | .held _ => 1
def uptoBulkAll {H : Type} : List (DataW H) → Nat
  | [] => 0
  | d :: r => uptoBulk d + uptoBulkAll r
def uptoBulkEntries {H : Type} : List (Lit × DataW H) → Nat
  | [] => 0
  | x :: r => uptoBulkEntry x + uptoBulkEntries r
def uptoBulkEntry {H : Type} : Lit × DataW H → Nat
  | (.string bytes, d) => bytes.length + uptoBulk d + 1
  | (_, d) => uptoBulk d + 1
 end
def uptoSmall : (H : Type) → List (DataW H) → Bool := fun _ ds => decide (uptoBulkAll ds ≤ 1048576)
def OpenSpec.upto (s : _root_.Go.ChangeSpec) : _root_.Go.OpenSpec := { _root_.Go.OpenSpec.ofChange s with cond := some uptoSmall }

/-- 'laws.FnExactIsBearoff', WHERE WHAT IT READS IS OF BULK AT MOST 1048576: true; the input reads as it did. -/
def fnExactIsBearoffUptoRow : OpenClaim := { program := "ythnkckflajkaiaa", sum := "46015b2e493ee46939b7368ddeb38e63056694bb9d253a245089799f96869621", func := "loop.example/g00885/laws.FnExactIsBearoff", spec := "fnExactIsBearoff", apart := false, narrowed := true }
def FnExactIsBearoffUptoSaid : Prop := fnExactIsBearoffUptoRow.holds Try.pinned (OpenSpec.upto fnExactIsBearoffSpec)

/-- 'laws.FnExactBearoffCount', WHERE WHAT IT READS IS OF BULK AT MOST 1048576: true; the input reads as it did. -/
def fnExactBearoffCountUptoRow : OpenClaim := { program := "ythnkckflajkaiaa", sum := "46015b2e493ee46939b7368ddeb38e63056694bb9d253a245089799f96869621", func := "loop.example/g00885/laws.FnExactBearoffCount", spec := "fnExactBearoffCount", apart := false, narrowed := true }
def FnExactBearoffCountUptoSaid : Prop := fnExactBearoffCountUptoRow.holds Try.pinned (OpenSpec.upto fnExactBearoffCountSpec)

/-- 'laws.FnExactBearoffPips', WHERE WHAT IT READS IS OF BULK AT MOST 1048576: true; the input reads as it did. -/
def fnExactBearoffPipsUptoRow : OpenClaim := { program := "ythnkckflajkaiaa", sum := "46015b2e493ee46939b7368ddeb38e63056694bb9d253a245089799f96869621", func := "loop.example/g00885/laws.FnExactBearoffPips", spec := "fnExactBearoffPips", apart := false, narrowed := true }
def FnExactBearoffPipsUptoSaid : Prop := fnExactBearoffPipsUptoRow.holds Try.pinned (OpenSpec.upto fnExactBearoffPipsSpec)

/-- 'laws.FnExactNextBearoff', WHERE WHAT IT READS IS OF BULK AT MOST 1048576: true; the input reads as it did. -/
def fnExactNextBearoffUptoRow : OpenClaim := { program := "ythnkckflajkaiaa", sum := "46015b2e493ee46939b7368ddeb38e63056694bb9d253a245089799f96869621", func := "loop.example/g00885/laws.FnExactNextBearoff", spec := "fnExactNextBearoff", unfollowed := true, recurses := true, apart := false, narrowed := true }
def FnExactNextBearoffUptoSaid : Prop := fnExactNextBearoffUptoRow.holds Try.pinned (OpenSpec.upto fnExactNextBearoffSpec)

/-- 'laws.FnExactBearoffNumber', WHERE WHAT IT READS IS OF BULK AT MOST 1048576: true; the input reads as it did. -/
def fnExactBearoffNumberUptoRow : OpenClaim := { program := "ythnkckflajkaiaa", sum := "46015b2e493ee46939b7368ddeb38e63056694bb9d253a245089799f96869621", func := "loop.example/g00885/laws.FnExactBearoffNumber", spec := "fnExactBearoffNumber", apart := false, narrowed := true }
def FnExactBearoffNumberUptoSaid : Prop := fnExactBearoffNumberUptoRow.holds Try.pinned (OpenSpec.upto fnExactBearoffNumberSpec)

/-- 'laws.FnExactBearoffAt', WHERE WHAT IT READS IS OF BULK AT MOST 1048576: true; the input reads as it did. -/
def fnExactBearoffAtUptoRow : OpenClaim := { program := "ythnkckflajkaiaa", sum := "46015b2e493ee46939b7368ddeb38e63056694bb9d253a245089799f96869621", func := "loop.example/g00885/laws.FnExactBearoffAt", spec := "fnExactBearoffAt", apart := false, narrowed := true }
def FnExactBearoffAtUptoSaid : Prop := fnExactBearoffAtUptoRow.holds Try.pinned (OpenSpec.upto fnExactBearoffAtSpec)

/-- 'laws.FnExactBearoffResults', WHERE WHAT IT READS IS OF BULK AT MOST 1048576: true; the input reads as it did. -/
def fnExactBearoffResultsUptoRow : OpenClaim := { program := "ythnkckflajkaiaa", sum := "46015b2e493ee46939b7368ddeb38e63056694bb9d253a245089799f96869621", func := "loop.example/g00885/laws.FnExactBearoffResults", spec := "fnExactBearoffResults", unfollowed := true, recurses := true, apart := false, narrowed := true }
def FnExactBearoffResultsUptoSaid : Prop := fnExactBearoffResultsUptoRow.holds Try.pinned (OpenSpec.upto fnExactBearoffResultsSpec)

/-- 'laws.FnNumbers', WHERE WHAT IT READS IS OF BULK AT MOST 1048576: true; the input reads as it did. -/
def fnNumbersUptoRow : OpenClaim := { program := "ythnkckflajkaiaa", sum := "46015b2e493ee46939b7368ddeb38e63056694bb9d253a245089799f96869621", func := "loop.example/g00885/laws.FnNumbers", spec := "fnNumbers", unfollowed := true, recurses := true, apart := false, narrowed := true }
def FnNumbersUptoSaid : Prop := fnNumbersUptoRow.holds Try.pinned (OpenSpec.upto fnNumbersSpec)

/-- 'laws.FnResults', WHERE WHAT IT READS IS OF BULK AT MOST 1048576: true; the input reads as it did. -/
def fnResultsUptoRow : OpenClaim := { program := "ythnkckflajkaiaa", sum := "46015b2e493ee46939b7368ddeb38e63056694bb9d253a245089799f96869621", func := "loop.example/g00885/laws.FnResults", spec := "fnResults", unfollowed := true, recurses := true, apart := false, narrowed := true }
def FnResultsUptoSaid : Prop := fnResultsUptoRow.holds Try.pinned (OpenSpec.upto fnResultsSpec)

/-- 'laws.FnExactSideCount', WHERE WHAT IT READS IS OF BULK AT MOST 1048576: true; the input reads as it did. -/
def fnExactSideCountUptoRow : OpenClaim := { program := "ythnkckflajkaiaa", sum := "46015b2e493ee46939b7368ddeb38e63056694bb9d253a245089799f96869621", func := "loop.example/g00885/laws.FnExactSideCount", spec := "fnExactSideCount", apart := false, narrowed := true }
def FnExactSideCountUptoSaid : Prop := fnExactSideCountUptoRow.holds Try.pinned (OpenSpec.upto fnExactSideCountSpec)

/-- 'laws.FnExactSideNumber', WHERE WHAT IT READS IS OF BULK AT MOST 1048576: true; the input reads as it did. -/
def fnExactSideNumberUptoRow : OpenClaim := { program := "ythnkckflajkaiaa", sum := "46015b2e493ee46939b7368ddeb38e63056694bb9d253a245089799f96869621", func := "loop.example/g00885/laws.FnExactSideNumber", spec := "fnExactSideNumber", apart := false, narrowed := true }
def FnExactSideNumberUptoSaid : Prop := fnExactSideNumberUptoRow.holds Try.pinned (OpenSpec.upto fnExactSideNumberSpec)

/-- 'laws.FnExactSideOfNumber', WHERE WHAT IT READS IS OF BULK AT MOST 1048576: true; the input reads as it did. -/
def fnExactSideOfNumberUptoRow : OpenClaim := { program := "ythnkckflajkaiaa", sum := "46015b2e493ee46939b7368ddeb38e63056694bb9d253a245089799f96869621", func := "loop.example/g00885/laws.FnExactSideOfNumber", spec := "fnExactSideOfNumber", apart := false, narrowed := true }
def FnExactSideOfNumberUptoSaid : Prop := fnExactSideOfNumberUptoRow.holds Try.pinned (OpenSpec.upto fnExactSideOfNumberSpec)

/-- 'laws.FnSideNumbers', WHERE WHAT IT READS IS OF BULK AT MOST 1048576: true; the input reads as it did. -/
def fnSideNumbersUptoRow : OpenClaim := { program := "ythnkckflajkaiaa", sum := "46015b2e493ee46939b7368ddeb38e63056694bb9d253a245089799f96869621", func := "loop.example/g00885/laws.FnSideNumbers", spec := "fnSideNumbers", apart := false, narrowed := true }
def FnSideNumbersUptoSaid : Prop := fnSideNumbersUptoRow.holds Try.pinned (OpenSpec.upto fnSideNumbersSpec)

end Rows
end Go.Proofs.Ythnkckflajkaiaa
