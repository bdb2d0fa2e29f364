/-
  No cell of these rows narrows 'for every input' (looked for: loops, veiled, ifaces, maps, wideKeys, modest, calm, conditions, laid).
  DERIVED. THE GIVEN ROWS OF THIS SEAT. 7 by the template 'for every input the law returns true; each argument reads behind the call as it read before'; 0 by the template 'total and deterministic' (their statements: YtcjcebfoohbfhaaTotals.lean).
  GIVEN WITH THE SEED: the statements are not yours to turn. If you find one false, say at which input.
  Laid BY PROGRAM, IN A SANDBOX (cutbox-rows.mjs): the forced cells as the released guide's own fill.sh prints them over the translation ab6f31347901f14b… (all of the seat's roots in one cut). By AI agents, Wed Nov 11 2026. No macro, syntax, notation, axiom, sorry.
-/
import Derived.Test.YtcjcebfoohbfhaaChecked
import GoSem.Claim
import GoSem.ClaimJoined
import GoSem.ClaimMapViews
import Derived.JoinedTies
import Derived.KernelRfl
namespace Go.Proofs.Ytcjcebfoohbfhaa
/- THE CELL 'sum', in the pinned program and in every row, IS THE sha256 OF THE DUMP (.gsa) THAT YtcjcebfoohbfhaaProg.lean LOADS. Nothing in Lean hashes anything: it is a label: what it is worth is what the hold of that sum in a sandbox is worth. -/
noncomputable def Try.pinned : Pinned := { name := "ytcjcebfoohbfhaa", sum := "ab6f31347901f14b23b11399ca8c37aaf318e6625728c7b4da1a20f62de59d2f", checked := Try.checked }
namespace Rows
def none {H : Type} : Left H := { results := [], args := [] }

/-- 'laws.FnExactIsBoard': WHATEVER THE INPUT: true; the input reads as it did. -/
def fnExactIsBoardSpec : ChangeSpec := { name := "fnExactIsBoard", fn := fun _ => fun
  | [d1, d2] => { results := [.lit (.bool true)], args := [d1, d2] }
  | _ => none }
def fnExactIsBoardRow : OpenClaim := { program := "ytcjcebfoohbfhaa", sum := "ab6f31347901f14b23b11399ca8c37aaf318e6625728c7b4da1a20f62de59d2f", func := "loop.example/g00885/laws.FnExactIsBoard", spec := "fnExactIsBoard", unfollowed := true, recurses := true, apart := false }
def FnExactIsBoardSaid : Prop := fnExactIsBoardRow.holds Try.pinned (OpenSpec.ofChange fnExactIsBoardSpec)

/-- ITS FALSE NEIGHBOUR: 'it returns false'. Refute it at one input. -/
def fnExactIsBoardWrong : ChangeSpec := { name := "fnExactIsBoard", fn := fun _ => fun
  | [d1, d2] => { results := [.lit (.bool false)], args := [d1, d2] }
  | _ => none }
def FnExactIsBoardWrongFalsely : Prop := fnExactIsBoardRow.holds Try.pinned (OpenSpec.ofChange fnExactIsBoardWrong)

/-- 'laws.FnExactBorneOff': WHATEVER THE INPUT: true; the input reads as it did. -/
def fnExactBorneOffSpec : ChangeSpec := { name := "fnExactBorneOff", fn := fun _ => fun
  | [d1, d2] => { results := [.lit (.bool true)], args := [d1, d2] }
  | _ => none }
def fnExactBorneOffRow : OpenClaim := { program := "ytcjcebfoohbfhaa", sum := "ab6f31347901f14b23b11399ca8c37aaf318e6625728c7b4da1a20f62de59d2f", func := "loop.example/g00885/laws.FnExactBorneOff", spec := "fnExactBorneOff", unfollowed := true, recurses := true, apart := false }
def FnExactBorneOffSaid : Prop := fnExactBorneOffRow.holds Try.pinned (OpenSpec.ofChange fnExactBorneOffSpec)

/-- ITS FALSE NEIGHBOUR: 'it returns false'. Refute it at one input. -/
def fnExactBorneOffWrong : ChangeSpec := { name := "fnExactBorneOff", fn := fun _ => fun
  | [d1, d2] => { results := [.lit (.bool false)], args := [d1, d2] }
  | _ => none }
def FnExactBorneOffWrongFalsely : Prop := fnExactBorneOffRow.holds Try.pinned (OpenSpec.ofChange fnExactBorneOffWrong)

/-- 'laws.FnExactPipCounts': WHATEVER THE INPUT: true; the input reads as it did. -/
def fnExactPipCountsSpec : ChangeSpec := { name := "fnExactPipCounts", fn := fun _ => fun
  | [d1, d2] => { results := [.lit (.bool true)], args := [d1, d2] }
  | _ => none }
def fnExactPipCountsRow : OpenClaim := { program := "ytcjcebfoohbfhaa", sum := "ab6f31347901f14b23b11399ca8c37aaf318e6625728c7b4da1a20f62de59d2f", func := "loop.example/g00885/laws.FnExactPipCounts", spec := "fnExactPipCounts", unfollowed := true, recurses := true, apart := false }
def FnExactPipCountsSaid : Prop := fnExactPipCountsRow.holds Try.pinned (OpenSpec.ofChange fnExactPipCountsSpec)

/-- ITS FALSE NEIGHBOUR: 'it returns false'. Refute it at one input. -/
def fnExactPipCountsWrong : ChangeSpec := { name := "fnExactPipCounts", fn := fun _ => fun
  | [d1, d2] => { results := [.lit (.bool false)], args := [d1, d2] }
  | _ => none }
def FnExactPipCountsWrongFalsely : Prop := fnExactPipCountsRow.holds Try.pinned (OpenSpec.ofChange fnExactPipCountsWrong)

/-- 'laws.FnExactIsContact': WHATEVER THE INPUT: true; the input reads as it did. -/
def fnExactIsContactSpec : ChangeSpec := { name := "fnExactIsContact", fn := fun _ => fun
  | [d1, d2] => { results := [.lit (.bool true)], args := [d1, d2] }
  | _ => none }
def fnExactIsContactRow : OpenClaim := { program := "ytcjcebfoohbfhaa", sum := "ab6f31347901f14b23b11399ca8c37aaf318e6625728c7b4da1a20f62de59d2f", func := "loop.example/g00885/laws.FnExactIsContact", spec := "fnExactIsContact", unfollowed := true, recurses := true, apart := false }
def FnExactIsContactSaid : Prop := fnExactIsContactRow.holds Try.pinned (OpenSpec.ofChange fnExactIsContactSpec)

/-- ITS FALSE NEIGHBOUR: 'it returns false'. Refute it at one input. -/
def fnExactIsContactWrong : ChangeSpec := { name := "fnExactIsContact", fn := fun _ => fun
  | [d1, d2] => { results := [.lit (.bool false)], args := [d1, d2] }
  | _ => none }
def FnExactIsContactWrongFalsely : Prop := fnExactIsContactRow.holds Try.pinned (OpenSpec.ofChange fnExactIsContactWrong)

/-- 'laws.FnExactAllHome': WHATEVER THE INPUT: true; the input reads as it did. -/
def fnExactAllHomeSpec : ChangeSpec := { name := "fnExactAllHome", fn := fun _ => fun
  | [d1, d2] => { results := [.lit (.bool true)], args := [d1, d2] }
  | _ => none }
def fnExactAllHomeRow : OpenClaim := { program := "ytcjcebfoohbfhaa", sum := "ab6f31347901f14b23b11399ca8c37aaf318e6625728c7b4da1a20f62de59d2f", func := "loop.example/g00885/laws.FnExactAllHome", spec := "fnExactAllHome", unfollowed := true, recurses := true, apart := false }
def FnExactAllHomeSaid : Prop := fnExactAllHomeRow.holds Try.pinned (OpenSpec.ofChange fnExactAllHomeSpec)

/-- ITS FALSE NEIGHBOUR: 'it returns false'. Refute it at one input. -/
def fnExactAllHomeWrong : ChangeSpec := { name := "fnExactAllHome", fn := fun _ => fun
  | [d1, d2] => { results := [.lit (.bool false)], args := [d1, d2] }
  | _ => none }
def FnExactAllHomeWrongFalsely : Prop := fnExactAllHomeRow.holds Try.pinned (OpenSpec.ofChange fnExactAllHomeWrong)

/-- 'laws.FnExactIsOver': WHATEVER THE INPUT: true; the input reads as it did. -/
def fnExactIsOverSpec : ChangeSpec := { name := "fnExactIsOver", fn := fun _ => fun
  | [d1, d2] => { results := [.lit (.bool true)], args := [d1, d2] }
  | _ => none }
def fnExactIsOverRow : OpenClaim := { program := "ytcjcebfoohbfhaa", sum := "ab6f31347901f14b23b11399ca8c37aaf318e6625728c7b4da1a20f62de59d2f", func := "loop.example/g00885/laws.FnExactIsOver", spec := "fnExactIsOver", unfollowed := true, recurses := true, apart := false }
def FnExactIsOverSaid : Prop := fnExactIsOverRow.holds Try.pinned (OpenSpec.ofChange fnExactIsOverSpec)

/-- ITS FALSE NEIGHBOUR: 'it returns false'. Refute it at one input. -/
def fnExactIsOverWrong : ChangeSpec := { name := "fnExactIsOver", fn := fun _ => fun
  | [d1, d2] => { results := [.lit (.bool false)], args := [d1, d2] }
  | _ => none }
def FnExactIsOverWrongFalsely : Prop := fnExactIsOverRow.holds Try.pinned (OpenSpec.ofChange fnExactIsOverWrong)

/-- 'laws.FnExactPointCount': WHATEVER THE INPUT: true; the input reads as it did. -/
def fnExactPointCountSpec : ChangeSpec := { name := "fnExactPointCount", fn := fun _ => fun
  | [d1, d2, d3] => { results := [.lit (.bool true)], args := [d1, d2, d3] }
  | _ => none }
def fnExactPointCountRow : OpenClaim := { program := "ytcjcebfoohbfhaa", sum := "ab6f31347901f14b23b11399ca8c37aaf318e6625728c7b4da1a20f62de59d2f", func := "loop.example/g00885/laws.FnExactPointCount", spec := "fnExactPointCount", unfollowed := true, recurses := true, apart := false }
def FnExactPointCountSaid : Prop := fnExactPointCountRow.holds Try.pinned (OpenSpec.ofChange fnExactPointCountSpec)

/-- ITS FALSE NEIGHBOUR: 'it returns false'. Refute it at one input. -/
def fnExactPointCountWrong : ChangeSpec := { name := "fnExactPointCount", fn := fun _ => fun
  | [d1, d2, d3] => { results := [.lit (.bool false)], args := [d1, d2, d3] }
  | _ => none }
def FnExactPointCountWrongFalsely : Prop := fnExactPointCountRow.holds Try.pinned (OpenSpec.ofChange fnExactPointCountWrong)

/- THE SECOND FORM. 'bulk': how many values and letters a reading holds, each counted each time it is reached (what is shared counts as often as it is met; a slice's spare places count too). A statement '..UptoSaid' is the law's where the arguments, and the package variables that the reading takes, are together of bulk at most 1048576: NARROWER than '..Said'. Prove '..Said' where nothing that the law and all that it calls make is longer than what came in: it says more and counts as full. Else prove '..UptoSaid'. A law counts once. -/
mutual
def uptoBulk {H : Type} : DataW H → Nat
  | .lit (.string bytes) => bytes.length + 1
  | .lit _ => 1
  | .nil => 1
  | .ptr d => uptoBulk d + 1
  | .slice elems spare => uptoBulkAll elems + uptoBulkAll spare + 1
  | .agg parts => uptoBulkAll parts + 1
  | .iface _ d => uptoBulk d + 1
  | .map entries => uptoBulkEntries entries + 1
  | .held _ => 1
def uptoBulkAll {H : Type} : List (DataW H) → Nat
  | [] => 0
  | d :: r => uptoBulk d + uptoBulkAll r
def uptoBulkEntries {H : Type} : List (Lit × DataW H) → Nat
  | [] => 0
  | x :: r => uptoBulkEntry x + uptoBulkEntries r
def uptoBulkEntry {H : Type} : Lit × DataW H → Nat
  | (.string bytes, d) => bytes.length + uptoBulk d + 1
  | (_, d) => uptoBulk d + 1
 end
def uptoSmall : (H : Type) → List (DataW H) → Bool := fun _ ds => decide (uptoBulkAll ds ≤ 1048576)
def OpenSpec.upto (s : _root_.Go.ChangeSpec) : _root_.Go.OpenSpec := { _root_.Go.OpenSpec.ofChange s with cond := some uptoSmall }

/-- 'laws.FnExactIsBoard', WHERE WHAT IT READS IS OF BULK AT MOST 1048576: true; the input reads as it did. -/
def fnExactIsBoardUptoRow : OpenClaim := { program := "ytcjcebfoohbfhaa", sum := "ab6f31347901f14b23b11399ca8c37aaf318e6625728c7b4da1a20f62de59d2f", func := "loop.example/g00885/laws.FnExactIsBoard", spec := "fnExactIsBoard", unfollowed := true, recurses := true, apart := false, narrowed := true }
def FnExactIsBoardUptoSaid : Prop := fnExactIsBoardUptoRow.holds Try.pinned (OpenSpec.upto fnExactIsBoardSpec)

/-- 'laws.FnExactBorneOff', WHERE WHAT IT READS IS OF BULK AT MOST 1048576: true; the input reads as it did. -/
def fnExactBorneOffUptoRow : OpenClaim := { program := "ytcjcebfoohbfhaa", sum := "ab6f31347901f14b23b11399ca8c37aaf318e6625728c7b4da1a20f62de59d2f", func := "loop.example/g00885/laws.FnExactBorneOff", spec := "fnExactBorneOff", unfollowed := true, recurses := true, apart := false, narrowed := true }
def FnExactBorneOffUptoSaid : Prop := fnExactBorneOffUptoRow.holds Try.pinned (OpenSpec.upto fnExactBorneOffSpec)

/-- 'laws.FnExactPipCounts', WHERE WHAT IT READS IS OF BULK AT MOST 1048576: true; the input reads as it did. -/
def fnExactPipCountsUptoRow : OpenClaim := { program := "ytcjcebfoohbfhaa", sum := "ab6f31347901f14b23b11399ca8c37aaf318e6625728c7b4da1a20f62de59d2f", func := "loop.example/g00885/laws.FnExactPipCounts", spec := "fnExactPipCounts", unfollowed := true, recurses := true, apart := false, narrowed := true }
def FnExactPipCountsUptoSaid : Prop := fnExactPipCountsUptoRow.holds Try.pinned (OpenSpec.upto fnExactPipCountsSpec)

/-- 'laws.FnExactIsContact', WHERE WHAT IT READS IS OF BULK AT MOST 1048576: true; the input reads as it did. -/
def fnExactIsContactUptoRow : OpenClaim := { program := "ytcjcebfoohbfhaa", sum := "ab6f31347901f14b23b11399ca8c37aaf318e6625728c7b4da1a20f62de59d2f", func := "loop.example/g00885/laws.FnExactIsContact", spec := "fnExactIsContact", unfollowed := true, recurses := true, apart := false, narrowed := true }
def FnExactIsContactUptoSaid : Prop := fnExactIsContactUptoRow.holds Try.pinned (OpenSpec.upto fnExactIsContactSpec)

/-- 'laws.FnExactAllHome', WHERE WHAT IT READS IS OF BULK AT MOST 1048576: true; the input reads as it did. -/
def fnExactAllHomeUptoRow : OpenClaim := { program := "ytcjcebfoohbfhaa", sum := "ab6f31347901f14b23b11399ca8c37aaf318e6625728c7b4da1a20f62de59d2f", func := "loop.example/g00885/laws.FnExactAllHome", spec := "fnExactAllHome", unfollowed := true, recurses := true, apart := false, narrowed := true }
def FnExactAllHomeUptoSaid : Prop := fnExactAllHomeUptoRow.holds Try.pinned (OpenSpec.upto fnExactAllHomeSpec)

/-- 'laws.FnExactIsOver', WHERE WHAT IT READS IS OF BULK AT MOST 1048576: true; the input reads as it did. -/
def fnExactIsOverUptoRow : OpenClaim := { program := "ytcjcebfoohbfhaa", sum := "ab6f31347901f14b23b11399ca8c37aaf318e6625728c7b4da1a20f62de59d2f", func := "loop.example/g00885/laws.FnExactIsOver", spec := "fnExactIsOver", unfollowed := true, recurses := true, apart := false, narrowed := true }
def FnExactIsOverUptoSaid : Prop := fnExactIsOverUptoRow.holds Try.pinned (OpenSpec.upto fnExactIsOverSpec)

/-- 'laws.FnExactPointCount', WHERE WHAT IT READS IS OF BULK AT MOST 1048576: true; the input reads as it did. -/
def fnExactPointCountUptoRow : OpenClaim := { program := "ytcjcebfoohbfhaa", sum := "ab6f31347901f14b23b11399ca8c37aaf318e6625728c7b4da1a20f62de59d2f", func := "loop.example/g00885/laws.FnExactPointCount", spec := "fnExactPointCount", unfollowed := true, recurses := true, apart := false, narrowed := true }
def FnExactPointCountUptoSaid : Prop := fnExactPointCountUptoRow.holds Try.pinned (OpenSpec.upto fnExactPointCountSpec)

end Rows
end Go.Proofs.Ytcjcebfoohbfhaa
