/-
  No cell of these rows narrows 'for every input' (looked for: loops, veiled, ifaces, maps, wideKeys, modest, calm, conditions, laid).
  DERIVED. THE GIVEN ROWS OF THIS SEAT. 4 by the template 'for every input the law returns true; each argument reads behind the call as it read before'; 0 by the template 'total and deterministic' (their statements: YtpalokkcmpjcmaaTotals.lean).
  GIVEN WITH THE SEED: the statements are not yours to turn. If you find one false, say at which input.
  Laid BY PROGRAM, IN A SANDBOX (cutbox-rows.mjs): the forced cells as the released guide's own fill.sh prints them over the translation 1e77a604e865a156… (all of the seat's roots in one cut). By AI agents, Wed Nov 11 2026. No macro, syntax, notation, axiom, sorry.
-/
import Derived.Test.YtpalokkcmpjcmaaChecked
import GoSem.Claim
import GoSem.ClaimJoined
import GoSem.ClaimMapViews
import Derived.JoinedTies
import Derived.KernelRfl
namespace Go.Proofs.Ytpalokkcmpjcmaa
/- THE CELL 'sum', in the pinned program and in every row, IS THE sha256 OF THE DUMP (.gsa) THAT YtpalokkcmpjcmaaProg.lean LOADS. Nothing in Lean hashes anything: it is a label: what it is worth is what the hold of that sum in a sandbox is worth. -/
noncomputable def Try.pinned : Pinned := { name := "ytpalokkcmpjcmaa", sum := "1e77a604e865a1569b41b84a69a435f53ba38b000cab1071694b3d4ce7c2516b", checked := Try.checked }
namespace Rows
def none {H : Type} : Left H := { results := [], args := [] }

/-- 'laws.FnResults': WHATEVER THE INPUT: true; the input reads as it did. -/
def fnResultsSpec : ChangeSpec := { name := "fnResults", fn := fun _ => fun
  | [d] => { results := [.lit (.bool true)], args := [d] }
  | _ => none }
def fnResultsRow : OpenClaim := { program := "ytpalokkcmpjcmaa", sum := "1e77a604e865a1569b41b84a69a435f53ba38b000cab1071694b3d4ce7c2516b", func := "loop.example/g00885/laws.FnResults", spec := "fnResults", unfollowed := true, recurses := true, apart := false }
def FnResultsSaid : Prop := fnResultsRow.holds Try.pinned (OpenSpec.ofChange fnResultsSpec)

/-- ITS FALSE NEIGHBOUR: 'it returns false'. Refute it at one input. -/
def fnResultsWrong : ChangeSpec := { name := "fnResults", fn := fun _ => fun
  | [d] => { results := [.lit (.bool false)], args := [d] }
  | _ => none }
def FnResultsWrongFalsely : Prop := fnResultsRow.holds Try.pinned (OpenSpec.ofChange fnResultsWrong)

/-- 'laws.FnGreedy': WHATEVER THE INPUT: true; the input reads as it did. -/
def fnGreedySpec : ChangeSpec := { name := "fnGreedy", fn := fun _ => fun
  | [d] => { results := [.lit (.bool true)], args := [d] }
  | _ => none }
def fnGreedyRow : OpenClaim := { program := "ytpalokkcmpjcmaa", sum := "1e77a604e865a1569b41b84a69a435f53ba38b000cab1071694b3d4ce7c2516b", func := "loop.example/g00885/laws.FnGreedy", spec := "fnGreedy", unfollowed := true, recurses := true, apart := false }
def FnGreedySaid : Prop := fnGreedyRow.holds Try.pinned (OpenSpec.ofChange fnGreedySpec)

/-- ITS FALSE NEIGHBOUR: 'it returns false'. Refute it at one input. -/
def fnGreedyWrong : ChangeSpec := { name := "fnGreedy", fn := fun _ => fun
  | [d] => { results := [.lit (.bool false)], args := [d] }
  | _ => none }
def FnGreedyWrongFalsely : Prop := fnGreedyRow.holds Try.pinned (OpenSpec.ofChange fnGreedyWrong)

/-- 'laws.FnExactBearoffResults': WHATEVER THE INPUT: true; the input reads as it did. -/
def fnExactBearoffResultsSpec : ChangeSpec := { name := "fnExactBearoffResults", fn := fun _ => fun
  | [d1, d2, d3] => { results := [.lit (.bool true)], args := [d1, d2, d3] }
  | _ => none }
def fnExactBearoffResultsRow : OpenClaim := { program := "ytpalokkcmpjcmaa", sum := "1e77a604e865a1569b41b84a69a435f53ba38b000cab1071694b3d4ce7c2516b", func := "loop.example/g00885/laws.FnExactBearoffResults", spec := "fnExactBearoffResults", unfollowed := true, recurses := true, apart := false }
def FnExactBearoffResultsSaid : Prop := fnExactBearoffResultsRow.holds Try.pinned (OpenSpec.ofChange fnExactBearoffResultsSpec)

/-- ITS FALSE NEIGHBOUR: 'it returns false'. Refute it at one input. -/
def fnExactBearoffResultsWrong : ChangeSpec := { name := "fnExactBearoffResults", fn := fun _ => fun
  | [d1, d2, d3] => { results := [.lit (.bool false)], args := [d1, d2, d3] }
  | _ => none }
def FnExactBearoffResultsWrongFalsely : Prop := fnExactBearoffResultsRow.holds Try.pinned (OpenSpec.ofChange fnExactBearoffResultsWrong)

/-- 'laws.FnExactGreedyResult': WHATEVER THE INPUT: true; the input reads as it did. -/
def fnExactGreedyResultSpec : ChangeSpec := { name := "fnExactGreedyResult", fn := fun _ => fun
  | [d1, d2, d3] => { results := [.lit (.bool true)], args := [d1, d2, d3] }
  | _ => none }
def fnExactGreedyResultRow : OpenClaim := { program := "ytpalokkcmpjcmaa", sum := "1e77a604e865a1569b41b84a69a435f53ba38b000cab1071694b3d4ce7c2516b", func := "loop.example/g00885/laws.FnExactGreedyResult", spec := "fnExactGreedyResult", unfollowed := true, recurses := true, apart := false }
def FnExactGreedyResultSaid : Prop := fnExactGreedyResultRow.holds Try.pinned (OpenSpec.ofChange fnExactGreedyResultSpec)

/-- ITS FALSE NEIGHBOUR: 'it returns false'. Refute it at one input. -/
def fnExactGreedyResultWrong : ChangeSpec := { name := "fnExactGreedyResult", fn := fun _ => fun
  | [d1, d2, d3] => { results := [.lit (.bool false)], args := [d1, d2, d3] }
  | _ => none }
def FnExactGreedyResultWrongFalsely : Prop := fnExactGreedyResultRow.holds Try.pinned (OpenSpec.ofChange fnExactGreedyResultWrong)

/- THE SECOND FORM. 'bulk': how many values and letters a reading holds, each counted each time it is reached (what is shared counts as often as it is met; a slice's spare places count too). A statement '..UptoSaid' is the law's where the arguments, and the package variables that the reading takes, are together of bulk at most 1048576: NARROWER than '..Said'. Prove '..Said' where nothing that the law and all that it calls make is longer than what came in: it says more and counts as full. Else prove '..UptoSaid'. A law counts once. -/
mutual
def uptoBulk {H : Type} : DataW H → Nat
  | .lit (.string bytes) => bytes.length + 1
  | .lit _ => 1
  | .nil => 1
  | .ptr d => uptoBulk d + 1
  | .slice elems spare => uptoBulkAll elems + uptoBulkAll spare + 1
  | .agg parts => uptoBulkAll parts + 1
  | .iface _ d => uptoBulk d + 1
  | .map entries => uptoBulkEntries entries + 1
  | .held _ => 1
def uptoBulkAll {H : Type} : List (DataW H) → Nat
  | [] => 0
  | d :: r => uptoBulk d + uptoBulkAll r
def uptoBulkEntries {H : Type} : List (Lit × DataW H) → Nat
  | [] => 0
  | x :: r => uptoBulkEntry x + uptoBulkEntries r
def uptoBulkEntry {H : Type} : Lit × DataW H → Nat
  | (.string bytes, d) => bytes.length + uptoBulk d + 1
  | (_, d) => uptoBulk d + 1
 end
def uptoSmall : (H : Type) → List (DataW H) → Bool := fun _ ds => decide (uptoBulkAll ds ≤ 1048576)
def OpenSpec.upto (s : _root_.Go.ChangeSpec) : _root_.Go.OpenSpec := { _root_.Go.OpenSpec.ofChange s with cond := some uptoSmall }

/-- 'laws.FnResults', WHERE WHAT IT READS IS OF BULK AT MOST 1048576: true; the input reads as it did. -/
def fnResultsUptoRow : OpenClaim := { program := "ytpalokkcmpjcmaa", sum := "1e77a604e865a1569b41b84a69a435f53ba38b000cab1071694b3d4ce7c2516b", func := "loop.example/g00885/laws.FnResults", spec := "fnResults", unfollowed := true, recurses := true, apart := false, narrowed := true }
def FnResultsUptoSaid : Prop := fnResultsUptoRow.holds Try.pinned (OpenSpec.upto fnResultsSpec)

/-- 'laws.FnGreedy', WHERE WHAT IT READS IS OF BULK AT MOST 1048576: true; the input reads as it did. -/
def fnGreedyUptoRow : OpenClaim := { program := "ytpalokkcmpjcmaa", sum := "1e77a604e865a1569b41b84a69a435f53ba38b000cab1071694b3d4ce7c2516b", func := "loop.example/g00885/laws.FnGreedy", spec := "fnGreedy", unfollowed := true, recurses := true, apart := false, narrowed := true }
def FnGreedyUptoSaid : Prop := fnGreedyUptoRow.holds Try.pinned (OpenSpec.upto fnGreedySpec)

/-- 'laws.FnExactBearoffResults', WHERE WHAT IT READS IS OF BULK AT MOST 1048576: true; the input reads as it did. -/
def fnExactBearoffResultsUptoRow : OpenClaim := { program := "ytpalokkcmpjcmaa", sum := "1e77a604e865a1569b41b84a69a435f53ba38b000cab1071694b3d4ce7c2516b", func := "loop.example/g00885/laws.FnExactBearoffResults", spec := "fnExactBearoffResults", unfollowed := true, recurses := true, apart := false, narrowed := true }
def FnExactBearoffResultsUptoSaid : Prop := fnExactBearoffResultsUptoRow.holds Try.pinned (OpenSpec.upto fnExactBearoffResultsSpec)

/-- 'laws.FnExactGreedyResult', WHERE WHAT IT READS IS OF BULK AT MOST 1048576: true; the input reads as it did. -/
def fnExactGreedyResultUptoRow : OpenClaim := { program := "ytpalokkcmpjcmaa", sum := "1e77a604e865a1569b41b84a69a435f53ba38b000cab1071694b3d4ce7c2516b", func := "loop.example/g00885/laws.FnExactGreedyResult", spec := "fnExactGreedyResult", unfollowed := true, recurses := true, apart := false, narrowed := true }
def FnExactGreedyResultUptoSaid : Prop := fnExactGreedyResultUptoRow.holds Try.pinned (OpenSpec.upto fnExactGreedyResultSpec)

end Rows
end Go.Proofs.Ytpalokkcmpjcmaa
