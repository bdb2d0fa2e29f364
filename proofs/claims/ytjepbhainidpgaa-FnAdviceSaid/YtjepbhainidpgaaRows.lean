/-
  No cell of these rows narrows 'for every input' (looked for: loops, veiled, ifaces, maps, wideKeys, modest, calm, conditions, laid).
  DERIVED. THE GIVEN ROWS OF THIS SEAT. 7 by the template 'for every input the law returns true; each argument reads behind the call as it read before'; 0 by the template 'total and deterministic' (their statements: YtjepbhainidpgaaTotals.lean).
  GIVEN WITH THE SEED: the statements are not yours to turn. If you find one false, say at which input.
  Laid BY PROGRAM, IN A SANDBOX (cutbox-rows.mjs): the forced cells as the released guide's own fill.sh prints them over the translation 60c9ad136bfddcb9… (all of the seat's roots in one cut). By AI agents, Wed Nov 11 2026. No macro, syntax, notation, axiom, sorry.
-/
import Derived.Test.YtjepbhainidpgaaChecked
import GoSem.Claim
import GoSem.ClaimJoined
import GoSem.ClaimMapViews
import Derived.JoinedTies
import Derived.KernelRfl
namespace Go.Proofs.Ytjepbhainidpgaa
/- THE CELL 'sum', in the pinned program and in every row, IS THE sha256 OF THE DUMP (.gsa) THAT YtjepbhainidpgaaProg.lean LOADS. Nothing in Lean hashes anything: it is a label: what it is worth is what the hold of that sum in a sandbox is worth. -/
noncomputable def Try.pinned : Pinned := { name := "ytjepbhainidpgaa", sum := "60c9ad136bfddcb953f5ab6151ac29000f790742465463fe262444e3fa2555e7", checked := Try.checked }
namespace Rows
def none {H : Type} : Left H := { results := [], args := [] }

/-- 'laws.FnExactMeanPips': WHATEVER THE INPUT: true; the input reads as it did. -/
def fnExactMeanPipsSpec : ChangeSpec := { name := "fnExactMeanPips", fn := fun _ => fun
  | [d] => { results := [.lit (.bool true)], args := [d] }
  | _ => none }
def fnExactMeanPipsRow : OpenClaim := { program := "ytjepbhainidpgaa", sum := "60c9ad136bfddcb953f5ab6151ac29000f790742465463fe262444e3fa2555e7", func := "loop.example/g00885/laws.FnExactMeanPips", spec := "fnExactMeanPips", apart := false }
def FnExactMeanPipsSaid : Prop := fnExactMeanPipsRow.holds Try.pinned (OpenSpec.ofChange fnExactMeanPipsSpec)

/-- ITS FALSE NEIGHBOUR: 'it returns false'. Refute it at one input. -/
def fnExactMeanPipsWrong : ChangeSpec := { name := "fnExactMeanPips", fn := fun _ => fun
  | [d] => { results := [.lit (.bool false)], args := [d] }
  | _ => none }
def FnExactMeanPipsWrongFalsely : Prop := fnExactMeanPipsRow.holds Try.pinned (OpenSpec.ofChange fnExactMeanPipsWrong)

/-- 'laws.FnExactPipLead': WHATEVER THE INPUT: true; the input reads as it did. -/
def fnExactPipLeadSpec : ChangeSpec := { name := "fnExactPipLead", fn := fun _ => fun
  | [d1, d2] => { results := [.lit (.bool true)], args := [d1, d2] }
  | _ => none }
def fnExactPipLeadRow : OpenClaim := { program := "ytjepbhainidpgaa", sum := "60c9ad136bfddcb953f5ab6151ac29000f790742465463fe262444e3fa2555e7", func := "loop.example/g00885/laws.FnExactPipLead", spec := "fnExactPipLead", unfollowed := true, recurses := true, apart := false }
def FnExactPipLeadSaid : Prop := fnExactPipLeadRow.holds Try.pinned (OpenSpec.ofChange fnExactPipLeadSpec)

/-- ITS FALSE NEIGHBOUR: 'it returns false'. Refute it at one input. -/
def fnExactPipLeadWrong : ChangeSpec := { name := "fnExactPipLead", fn := fun _ => fun
  | [d1, d2] => { results := [.lit (.bool false)], args := [d1, d2] }
  | _ => none }
def FnExactPipLeadWrongFalsely : Prop := fnExactPipLeadRow.holds Try.pinned (OpenSpec.ofChange fnExactPipLeadWrong)

/-- 'laws.FnExactCrossovers': WHATEVER THE INPUT: true; the input reads as it did. -/
def fnExactCrossoversSpec : ChangeSpec := { name := "fnExactCrossovers", fn := fun _ => fun
  | [d1, d2] => { results := [.lit (.bool true)], args := [d1, d2] }
  | _ => none }
def fnExactCrossoversRow : OpenClaim := { program := "ytjepbhainidpgaa", sum := "60c9ad136bfddcb953f5ab6151ac29000f790742465463fe262444e3fa2555e7", func := "loop.example/g00885/laws.FnExactCrossovers", spec := "fnExactCrossovers", unfollowed := true, recurses := true, apart := false }
def FnExactCrossoversSaid : Prop := fnExactCrossoversRow.holds Try.pinned (OpenSpec.ofChange fnExactCrossoversSpec)

/-- ITS FALSE NEIGHBOUR: 'it returns false'. Refute it at one input. -/
def fnExactCrossoversWrong : ChangeSpec := { name := "fnExactCrossovers", fn := fun _ => fun
  | [d1, d2] => { results := [.lit (.bool false)], args := [d1, d2] }
  | _ => none }
def FnExactCrossoversWrongFalsely : Prop := fnExactCrossoversRow.holds Try.pinned (OpenSpec.ofChange fnExactCrossoversWrong)

/-- 'laws.FnExactGreatestRolls': WHATEVER THE INPUT: true; the input reads as it did. -/
def fnExactGreatestRollsSpec : ChangeSpec := { name := "fnExactGreatestRolls", fn := fun _ => fun
  | [d1, d2] => { results := [.lit (.bool true)], args := [d1, d2] }
  | _ => none }
def fnExactGreatestRollsRow : OpenClaim := { program := "ytjepbhainidpgaa", sum := "60c9ad136bfddcb953f5ab6151ac29000f790742465463fe262444e3fa2555e7", func := "loop.example/g00885/laws.FnExactGreatestRolls", spec := "fnExactGreatestRolls", unfollowed := true, recurses := true, apart := false }
def FnExactGreatestRollsSaid : Prop := fnExactGreatestRollsRow.holds Try.pinned (OpenSpec.ofChange fnExactGreatestRollsSpec)

/-- ITS FALSE NEIGHBOUR: 'it returns false'. Refute it at one input. -/
def fnExactGreatestRollsWrong : ChangeSpec := { name := "fnExactGreatestRolls", fn := fun _ => fun
  | [d1, d2] => { results := [.lit (.bool false)], args := [d1, d2] }
  | _ => none }
def FnExactGreatestRollsWrongFalsely : Prop := fnExactGreatestRollsRow.holds Try.pinned (OpenSpec.ofChange fnExactGreatestRollsWrong)

/-- 'laws.FnExactAdjustedCounts': WHATEVER THE INPUT: true; the input reads as it did. -/
def fnExactAdjustedCountsSpec : ChangeSpec := { name := "fnExactAdjustedCounts", fn := fun _ => fun
  | [d1, d2] => { results := [.lit (.bool true)], args := [d1, d2] }
  | _ => none }
def fnExactAdjustedCountsRow : OpenClaim := { program := "ytjepbhainidpgaa", sum := "60c9ad136bfddcb953f5ab6151ac29000f790742465463fe262444e3fa2555e7", func := "loop.example/g00885/laws.FnExactAdjustedCounts", spec := "fnExactAdjustedCounts", unfollowed := true, recurses := true, apart := false }
def FnExactAdjustedCountsSaid : Prop := fnExactAdjustedCountsRow.holds Try.pinned (OpenSpec.ofChange fnExactAdjustedCountsSpec)

/-- ITS FALSE NEIGHBOUR: 'it returns false'. Refute it at one input. -/
def fnExactAdjustedCountsWrong : ChangeSpec := { name := "fnExactAdjustedCounts", fn := fun _ => fun
  | [d1, d2] => { results := [.lit (.bool false)], args := [d1, d2] }
  | _ => none }
def FnExactAdjustedCountsWrongFalsely : Prop := fnExactAdjustedCountsRow.holds Try.pinned (OpenSpec.ofChange fnExactAdjustedCountsWrong)

/-- 'laws.FnExactRaceAdvice': WHATEVER THE INPUT: true; the input reads as it did. -/
def fnExactRaceAdviceSpec : ChangeSpec := { name := "fnExactRaceAdvice", fn := fun _ => fun
  | [d1, d2] => { results := [.lit (.bool true)], args := [d1, d2] }
  | _ => none }
def fnExactRaceAdviceRow : OpenClaim := { program := "ytjepbhainidpgaa", sum := "60c9ad136bfddcb953f5ab6151ac29000f790742465463fe262444e3fa2555e7", func := "loop.example/g00885/laws.FnExactRaceAdvice", spec := "fnExactRaceAdvice", unfollowed := true, recurses := true, apart := false }
def FnExactRaceAdviceSaid : Prop := fnExactRaceAdviceRow.holds Try.pinned (OpenSpec.ofChange fnExactRaceAdviceSpec)

/-- ITS FALSE NEIGHBOUR: 'it returns false'. Refute it at one input. -/
def fnExactRaceAdviceWrong : ChangeSpec := { name := "fnExactRaceAdvice", fn := fun _ => fun
  | [d1, d2] => { results := [.lit (.bool false)], args := [d1, d2] }
  | _ => none }
def FnExactRaceAdviceWrongFalsely : Prop := fnExactRaceAdviceRow.holds Try.pinned (OpenSpec.ofChange fnExactRaceAdviceWrong)

/-- 'laws.FnAdvice': WHATEVER THE INPUT: true; the input reads as it did. -/
def fnAdviceSpec : ChangeSpec := { name := "fnAdvice", fn := fun _ => fun
  | [d] => { results := [.lit (.bool true)], args := [d] }
  | _ => none }
def fnAdviceRow : OpenClaim := { program := "ytjepbhainidpgaa", sum := "60c9ad136bfddcb953f5ab6151ac29000f790742465463fe262444e3fa2555e7", func := "loop.example/g00885/laws.FnAdvice", spec := "fnAdvice", unfollowed := true, recurses := true, apart := false }
def FnAdviceSaid : Prop := fnAdviceRow.holds Try.pinned (OpenSpec.ofChange fnAdviceSpec)

/-- ITS FALSE NEIGHBOUR: 'it returns false'. Refute it at one input. -/
def fnAdviceWrong : ChangeSpec := { name := "fnAdvice", fn := fun _ => fun
  | [d] => { results := [.lit (.bool false)], args := [d] }
  | _ => none }
def FnAdviceWrongFalsely : Prop := fnAdviceRow.holds Try.pinned (OpenSpec.ofChange fnAdviceWrong)

/- THE SECOND FORM. 'bulk': how many values and letters a reading holds, each counted each time it is reached (what is shared counts as often as it is met; a slice's spare places count too). A statement '..UptoSaid' is the law's where the arguments, and the package variables that the reading takes, are together of bulk at most 1048576: NARROWER than '..Said'. Prove '..Said' where nothing that the law and all that it calls make is longer than what came in: it says more and counts as full. Else prove '..UptoSaid'. A law counts once. -/
mutual
def uptoBulk {H : Type} : DataW H → Nat
  | .lit (.string bytes) => bytes.length + 1
  | .lit _ => 1
  | .nil => 1
  | .ptr d => uptoBulk d + 1
  | .slice elems spare => uptoBulkAll elems + uptoBulkAll spare + 1
  | .agg parts => uptoBulkAll parts + 1
  | .iface _ d => uptoBulk d + 1
  | .map entries => uptoBulkEntries entries + 1
  | .held _ => 1
def uptoBulkAll {H : Type} : List (DataW H) → Nat
  | [] => 0
  | d :: r => uptoBulk d + uptoBulkAll r
def uptoBulkEntries {H : Type} : List (Lit × DataW H) → Nat
  | [] => 0
  | x :: r => uptoBulkEntry x + uptoBulkEntries r
def uptoBulkEntry {H : Type} : Lit × DataW H → Nat
  | (.string bytes, d) => bytes.length + uptoBulk d + 1
  | (_, d) => uptoBulk d + 1
 end
def uptoSmall : (H : Type) → List (DataW H) → Bool := fun _ ds => decide (uptoBulkAll ds ≤ 1048576)
def OpenSpec.upto (s : _root_.Go.ChangeSpec) : _root_.Go.OpenSpec := { _root_.Go.OpenSpec.ofChange s with cond := some uptoSmall }

/-- 'laws.FnExactMeanPips', WHERE WHAT IT READS IS OF BULK AT MOST 1048576: true; the input reads as it did. -/
def fnExactMeanPipsUptoRow : OpenClaim := { program := "ytjepbhainidpgaa", sum := "60c9ad136bfddcb953f5ab6151ac29000f790742465463fe262444e3fa2555e7", func := "loop.example/g00885/laws.FnExactMeanPips", spec := "fnExactMeanPips", apart := false, narrowed := true }
def FnExactMeanPipsUptoSaid : Prop := fnExactMeanPipsUptoRow.holds Try.pinned (OpenSpec.upto fnExactMeanPipsSpec)

/-- 'laws.FnExactPipLead', WHERE WHAT IT READS IS OF BULK AT MOST 1048576: true; the input reads as it did. -/
def fnExactPipLeadUptoRow : OpenClaim := { program := "ytjepbhainidpgaa", sum := "60c9ad136bfddcb953f5ab6151ac29000f790742465463fe262444e3fa2555e7", func := "loop.example/g00885/laws.FnExactPipLead", spec := "fnExactPipLead", unfollowed := true, recurses := true, apart := false, narrowed := true }
def FnExactPipLeadUptoSaid : Prop := fnExactPipLeadUptoRow.holds Try.pinned (OpenSpec.upto fnExactPipLeadSpec)

/-- 'laws.FnExactCrossovers', WHERE WHAT IT READS IS OF BULK AT MOST 1048576: true; the input reads as it did. -/
def fnExactCrossoversUptoRow : OpenClaim := { program := "ytjepbhainidpgaa", sum := "60c9ad136bfddcb953f5ab6151ac29000f790742465463fe262444e3fa2555e7", func := "loop.example/g00885/laws.FnExactCrossovers", spec := "fnExactCrossovers", unfollowed := true, recurses := true, apart := false, narrowed := true }
def FnExactCrossoversUptoSaid : Prop := fnExactCrossoversUptoRow.holds Try.pinned (OpenSpec.upto fnExactCrossoversSpec)

/-- 'laws.FnExactGreatestRolls', WHERE WHAT IT READS IS OF BULK AT MOST 1048576: true; the input reads as it did. -/
def fnExactGreatestRollsUptoRow : OpenClaim := { program := "ytjepbhainidpgaa", sum := "60c9ad136bfddcb953f5ab6151ac29000f790742465463fe262444e3fa2555e7", func := "loop.example/g00885/laws.FnExactGreatestRolls", spec := "fnExactGreatestRolls", unfollowed := true, recurses := true, apart := false, narrowed := true }
def FnExactGreatestRollsUptoSaid : Prop := fnExactGreatestRollsUptoRow.holds Try.pinned (OpenSpec.upto fnExactGreatestRollsSpec)

/-- 'laws.FnExactAdjustedCounts', WHERE WHAT IT READS IS OF BULK AT MOST 1048576: true; the input reads as it did. -/
def fnExactAdjustedCountsUptoRow : OpenClaim := { program := "ytjepbhainidpgaa", sum := "60c9ad136bfddcb953f5ab6151ac29000f790742465463fe262444e3fa2555e7", func := "loop.example/g00885/laws.FnExactAdjustedCounts", spec := "fnExactAdjustedCounts", unfollowed := true, recurses := true, apart := false, narrowed := true }
def FnExactAdjustedCountsUptoSaid : Prop := fnExactAdjustedCountsUptoRow.holds Try.pinned (OpenSpec.upto fnExactAdjustedCountsSpec)

/-- 'laws.FnExactRaceAdvice', WHERE WHAT IT READS IS OF BULK AT MOST 1048576: true; the input reads as it did. -/
def fnExactRaceAdviceUptoRow : OpenClaim := { program := "ytjepbhainidpgaa", sum := "60c9ad136bfddcb953f5ab6151ac29000f790742465463fe262444e3fa2555e7", func := "loop.example/g00885/laws.FnExactRaceAdvice", spec := "fnExactRaceAdvice", unfollowed := true, recurses := true, apart := false, narrowed := true }
def FnExactRaceAdviceUptoSaid : Prop := fnExactRaceAdviceUptoRow.holds Try.pinned (OpenSpec.upto fnExactRaceAdviceSpec)

/-- 'laws.FnAdvice', WHERE WHAT IT READS IS OF BULK AT MOST 1048576: true; the input reads as it did. -/
def fnAdviceUptoRow : OpenClaim := { program := "ytjepbhainidpgaa", sum := "60c9ad136bfddcb953f5ab6151ac29000f790742465463fe262444e3fa2555e7", func := "loop.example/g00885/laws.FnAdvice", spec := "fnAdvice", unfollowed := true, recurses := true, apart := false, narrowed := true }
def FnAdviceUptoSaid : Prop := fnAdviceUptoRow.holds Try.pinned (OpenSpec.upto fnAdviceSpec)

end Rows
end Go.Proofs.Ytjepbhainidpgaa
