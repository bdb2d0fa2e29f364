/-
  No cell of these rows narrows 'for every input' (looked for: loops, veiled, ifaces, maps, wideKeys, modest, calm, conditions, laid).
  DERIVED. THE GIVEN ROWS OF THIS SEAT. 9 by the template 'for every input the law returns true; each argument reads behind the call as it read before'; 0 by the template 'total and deterministic' (their statements: YtkcjbjkccafekaaTotals.lean).
  GIVEN WITH THE SEED: the statements are not yours to turn. If you find one false, say at which input.
  Laid BY PROGRAM, IN A SANDBOX (cutbox-rows.mjs): the forced cells as the released guide's own fill.sh prints them over the translation e86d4eb0a713f27f… (all of the seat's roots in one cut). By AI agents, Wed Nov 11 2026. No macro, syntax, notation, axiom, sorry.
-/
import Derived.Test.YtkcjbjkccafekaaChecked
import GoSem.Claim
import GoSem.ClaimJoined
import GoSem.ClaimMapViews
import Derived.JoinedTies
import Derived.KernelRfl
namespace Go.Proofs.Ytkcjbjkccafekaa
/- THE CELL 'sum', in the pinned program and in every row, IS THE sha256 OF THE DUMP (.gsa) THAT YtkcjbjkccafekaaProg.lean LOADS. Nothing in Lean hashes anything: it is a label: what it is worth is what the hold of that sum in a sandbox is worth. -/
noncomputable def Try.pinned : Pinned := { name := "ytkcjbjkccafekaa", sum := "e86d4eb0a713f27fc303679e498c0e12e2977c33d1ead78e24d5f3549c6bba93", checked := Try.checked }
namespace Rows
def none {H : Type} : Left H := { results := [], args := [] }

/-- 'laws.FnCubeActions': WHATEVER THE INPUT: true; the input reads as it did. -/
def fnCubeActionsSpec : ChangeSpec := { name := "fnCubeActions", fn := fun _ => fun
  | [d] => { results := [.lit (.bool true)], args := [d] }
  | _ => none }
def fnCubeActionsRow : OpenClaim := { program := "ytkcjbjkccafekaa", sum := "e86d4eb0a713f27fc303679e498c0e12e2977c33d1ead78e24d5f3549c6bba93", func := "loop.example/g00885/laws.FnCubeActions", spec := "fnCubeActions", unfollowed := true, recurses := true, apart := false }
def FnCubeActionsSaid : Prop := fnCubeActionsRow.holds Try.pinned (OpenSpec.ofChange fnCubeActionsSpec)

/-- ITS FALSE NEIGHBOUR: 'it returns false'. Refute it at one input. -/
def fnCubeActionsWrong : ChangeSpec := { name := "fnCubeActions", fn := fun _ => fun
  | [d] => { results := [.lit (.bool false)], args := [d] }
  | _ => none }
def FnCubeActionsWrongFalsely : Prop := fnCubeActionsRow.holds Try.pinned (OpenSpec.ofChange fnCubeActionsWrong)

/-- 'laws.FnGamePoints': WHATEVER THE INPUT: true; the input reads as it did. -/
def fnGamePointsSpec : ChangeSpec := { name := "fnGamePoints", fn := fun _ => fun
  | [d] => { results := [.lit (.bool true)], args := [d] }
  | _ => none }
def fnGamePointsRow : OpenClaim := { program := "ytkcjbjkccafekaa", sum := "e86d4eb0a713f27fc303679e498c0e12e2977c33d1ead78e24d5f3549c6bba93", func := "loop.example/g00885/laws.FnGamePoints", spec := "fnGamePoints", apart := false }
def FnGamePointsSaid : Prop := fnGamePointsRow.holds Try.pinned (OpenSpec.ofChange fnGamePointsSpec)

/-- ITS FALSE NEIGHBOUR: 'it returns false'. Refute it at one input. -/
def fnGamePointsWrong : ChangeSpec := { name := "fnGamePoints", fn := fun _ => fun
  | [d] => { results := [.lit (.bool false)], args := [d] }
  | _ => none }
def FnGamePointsWrongFalsely : Prop := fnGamePointsRow.holds Try.pinned (OpenSpec.ofChange fnGamePointsWrong)

/-- 'laws.FnExactIsCubeRules': WHATEVER THE INPUT: true; the input reads as it did. -/
def fnExactIsCubeRulesSpec : ChangeSpec := { name := "fnExactIsCubeRules", fn := fun _ => fun
  | [d] => { results := [.lit (.bool true)], args := [d] }
  | _ => none }
def fnExactIsCubeRulesRow : OpenClaim := { program := "ytkcjbjkccafekaa", sum := "e86d4eb0a713f27fc303679e498c0e12e2977c33d1ead78e24d5f3549c6bba93", func := "loop.example/g00885/laws.FnExactIsCubeRules", spec := "fnExactIsCubeRules", apart := false }
def FnExactIsCubeRulesSaid : Prop := fnExactIsCubeRulesRow.holds Try.pinned (OpenSpec.ofChange fnExactIsCubeRulesSpec)

/-- ITS FALSE NEIGHBOUR: 'it returns false'. Refute it at one input. -/
def fnExactIsCubeRulesWrong : ChangeSpec := { name := "fnExactIsCubeRules", fn := fun _ => fun
  | [d] => { results := [.lit (.bool false)], args := [d] }
  | _ => none }
def FnExactIsCubeRulesWrongFalsely : Prop := fnExactIsCubeRulesRow.holds Try.pinned (OpenSpec.ofChange fnExactIsCubeRulesWrong)

/-- 'laws.FnExactIsCube': WHATEVER THE INPUT: true; the input reads as it did. -/
def fnExactIsCubeSpec : ChangeSpec := { name := "fnExactIsCube", fn := fun _ => fun
  | [d1, d2] => { results := [.lit (.bool true)], args := [d1, d2] }
  | _ => none }
def fnExactIsCubeRow : OpenClaim := { program := "ytkcjbjkccafekaa", sum := "e86d4eb0a713f27fc303679e498c0e12e2977c33d1ead78e24d5f3549c6bba93", func := "loop.example/g00885/laws.FnExactIsCube", spec := "fnExactIsCube", apart := false }
def FnExactIsCubeSaid : Prop := fnExactIsCubeRow.holds Try.pinned (OpenSpec.ofChange fnExactIsCubeSpec)

/-- ITS FALSE NEIGHBOUR: 'it returns false'. Refute it at one input. -/
def fnExactIsCubeWrong : ChangeSpec := { name := "fnExactIsCube", fn := fun _ => fun
  | [d1, d2] => { results := [.lit (.bool false)], args := [d1, d2] }
  | _ => none }
def FnExactIsCubeWrongFalsely : Prop := fnExactIsCubeRow.holds Try.pinned (OpenSpec.ofChange fnExactIsCubeWrong)

/-- 'laws.FnExactSwapCube': WHATEVER THE INPUT: true; the input reads as it did. -/
def fnExactSwapCubeSpec : ChangeSpec := { name := "fnExactSwapCube", fn := fun _ => fun
  | [d] => { results := [.lit (.bool true)], args := [d] }
  | _ => none }
def fnExactSwapCubeRow : OpenClaim := { program := "ytkcjbjkccafekaa", sum := "e86d4eb0a713f27fc303679e498c0e12e2977c33d1ead78e24d5f3549c6bba93", func := "loop.example/g00885/laws.FnExactSwapCube", spec := "fnExactSwapCube", apart := false }
def FnExactSwapCubeSaid : Prop := fnExactSwapCubeRow.holds Try.pinned (OpenSpec.ofChange fnExactSwapCubeSpec)

/-- ITS FALSE NEIGHBOUR: 'it returns false'. Refute it at one input. -/
def fnExactSwapCubeWrong : ChangeSpec := { name := "fnExactSwapCube", fn := fun _ => fun
  | [d] => { results := [.lit (.bool false)], args := [d] }
  | _ => none }
def FnExactSwapCubeWrongFalsely : Prop := fnExactSwapCubeRow.holds Try.pinned (OpenSpec.ofChange fnExactSwapCubeWrong)

/-- 'laws.FnExactCanDouble': WHATEVER THE INPUT: true; the input reads as it did. -/
def fnExactCanDoubleSpec : ChangeSpec := { name := "fnExactCanDouble", fn := fun _ => fun
  | [d1, d2] => { results := [.lit (.bool true)], args := [d1, d2] }
  | _ => none }
def fnExactCanDoubleRow : OpenClaim := { program := "ytkcjbjkccafekaa", sum := "e86d4eb0a713f27fc303679e498c0e12e2977c33d1ead78e24d5f3549c6bba93", func := "loop.example/g00885/laws.FnExactCanDouble", spec := "fnExactCanDouble", apart := false }
def FnExactCanDoubleSaid : Prop := fnExactCanDoubleRow.holds Try.pinned (OpenSpec.ofChange fnExactCanDoubleSpec)

/-- ITS FALSE NEIGHBOUR: 'it returns false'. Refute it at one input. -/
def fnExactCanDoubleWrong : ChangeSpec := { name := "fnExactCanDouble", fn := fun _ => fun
  | [d1, d2] => { results := [.lit (.bool false)], args := [d1, d2] }
  | _ => none }
def FnExactCanDoubleWrongFalsely : Prop := fnExactCanDoubleRow.holds Try.pinned (OpenSpec.ofChange fnExactCanDoubleWrong)

/-- 'laws.FnExactCubeActions': WHATEVER THE INPUT: true; the input reads as it did. -/
def fnExactCubeActionsSpec : ChangeSpec := { name := "fnExactCubeActions", fn := fun _ => fun
  | [d1, d2] => { results := [.lit (.bool true)], args := [d1, d2] }
  | _ => none }
def fnExactCubeActionsRow : OpenClaim := { program := "ytkcjbjkccafekaa", sum := "e86d4eb0a713f27fc303679e498c0e12e2977c33d1ead78e24d5f3549c6bba93", func := "loop.example/g00885/laws.FnExactCubeActions", spec := "fnExactCubeActions", unfollowed := true, recurses := true, apart := false }
def FnExactCubeActionsSaid : Prop := fnExactCubeActionsRow.holds Try.pinned (OpenSpec.ofChange fnExactCubeActionsSpec)

/-- ITS FALSE NEIGHBOUR: 'it returns false'. Refute it at one input. -/
def fnExactCubeActionsWrong : ChangeSpec := { name := "fnExactCubeActions", fn := fun _ => fun
  | [d1, d2] => { results := [.lit (.bool false)], args := [d1, d2] }
  | _ => none }
def FnExactCubeActionsWrongFalsely : Prop := fnExactCubeActionsRow.holds Try.pinned (OpenSpec.ofChange fnExactCubeActionsWrong)

/-- 'laws.FnExactAfterAction': WHATEVER THE INPUT: true; the input reads as it did. -/
def fnExactAfterActionSpec : ChangeSpec := { name := "fnExactAfterAction", fn := fun _ => fun
  | [d1, d2, d3] => { results := [.lit (.bool true)], args := [d1, d2, d3] }
  | _ => none }
def fnExactAfterActionRow : OpenClaim := { program := "ytkcjbjkccafekaa", sum := "e86d4eb0a713f27fc303679e498c0e12e2977c33d1ead78e24d5f3549c6bba93", func := "loop.example/g00885/laws.FnExactAfterAction", spec := "fnExactAfterAction", unfollowed := true, recurses := true, apart := false }
def FnExactAfterActionSaid : Prop := fnExactAfterActionRow.holds Try.pinned (OpenSpec.ofChange fnExactAfterActionSpec)

/-- ITS FALSE NEIGHBOUR: 'it returns false'. Refute it at one input. -/
def fnExactAfterActionWrong : ChangeSpec := { name := "fnExactAfterAction", fn := fun _ => fun
  | [d1, d2, d3] => { results := [.lit (.bool false)], args := [d1, d2, d3] }
  | _ => none }
def FnExactAfterActionWrongFalsely : Prop := fnExactAfterActionRow.holds Try.pinned (OpenSpec.ofChange fnExactAfterActionWrong)

/-- 'laws.FnExactGamePoints': WHATEVER THE INPUT: true; the input reads as it did. -/
def fnExactGamePointsSpec : ChangeSpec := { name := "fnExactGamePoints", fn := fun _ => fun
  | [d1, d2, d3] => { results := [.lit (.bool true)], args := [d1, d2, d3] }
  | _ => none }
def fnExactGamePointsRow : OpenClaim := { program := "ytkcjbjkccafekaa", sum := "e86d4eb0a713f27fc303679e498c0e12e2977c33d1ead78e24d5f3549c6bba93", func := "loop.example/g00885/laws.FnExactGamePoints", spec := "fnExactGamePoints", apart := false }
def FnExactGamePointsSaid : Prop := fnExactGamePointsRow.holds Try.pinned (OpenSpec.ofChange fnExactGamePointsSpec)

/-- ITS FALSE NEIGHBOUR: 'it returns false'. Refute it at one input. -/
def fnExactGamePointsWrong : ChangeSpec := { name := "fnExactGamePoints", fn := fun _ => fun
  | [d1, d2, d3] => { results := [.lit (.bool false)], args := [d1, d2, d3] }
  | _ => none }
def FnExactGamePointsWrongFalsely : Prop := fnExactGamePointsRow.holds Try.pinned (OpenSpec.ofChange fnExactGamePointsWrong)

/- THE SECOND FORM. 'bulk': how many values and letters a reading holds, each counted each time it is reached (what is shared counts as often as it is met; a slice's spare places count too). A statement '..UptoSaid' is the law's where the arguments, and the package variables that the reading takes, are together of bulk at most 1048576: NARROWER than '..Said'. Prove '..Said' where nothing that the law and all that it calls make is longer than what came in: it says more and counts as full. Else prove '..UptoSaid'. A law counts once. -/
mutual
def uptoBulk {H : Type} : DataW H → Nat
  | .lit (.string bytes) => bytes.length + 1
  | .lit _ => 1
  | .nil => 1
  | .ptr d => uptoBulk d + 1
  | .slice elems spare => uptoBulkAll elems + uptoBulkAll spare + 1
  | .agg parts => uptoBulkAll parts + 1
  | .iface _ d => uptoBulk d + 1
  | .map entries => uptoBulkEntries entries + 1
  | .held _ => 1
def uptoBulkAll {H : Type} : List (DataW H) → Nat
  | [] => 0
  | d :: r => uptoBulk d + uptoBulkAll r
def uptoBulkEntries {H : Type} : List (Lit × DataW H) → Nat
  | [] => 0
  | x :: r => uptoBulkEntry x + uptoBulkEntries r
def uptoBulkEntry {H : Type} : Lit × DataW H → Nat
  | (.string bytes, d) => bytes.length + uptoBulk d + 1
  | (_, d) => uptoBulk d + 1
 end
def uptoSmall : (H : Type) → List (DataW H) → Bool := fun _ ds => decide (uptoBulkAll ds ≤ 1048576)
def OpenSpec.upto (s : _root_.Go.ChangeSpec) : _root_.Go.OpenSpec := { _root_.Go.OpenSpec.ofChange s with cond := some uptoSmall }

/-- 'laws.FnCubeActions', WHERE WHAT IT READS IS OF BULK AT MOST 1048576: true; the input reads as it did. -/
def fnCubeActionsUptoRow : OpenClaim := { program := "ytkcjbjkccafekaa", sum := "e86d4eb0a713f27fc303679e498c0e12e2977c33d1ead78e24d5f3549c6bba93", func := "loop.example/g00885/laws.FnCubeActions", spec := "fnCubeActions", unfollowed := true, recurses := true, apart := false, narrowed := true }
def FnCubeActionsUptoSaid : Prop := fnCubeActionsUptoRow.holds Try.pinned (OpenSpec.upto fnCubeActionsSpec)

/-- 'laws.FnGamePoints', WHERE WHAT IT READS IS OF BULK AT MOST 1048576: true; the input reads as it did. -/
def fnGamePointsUptoRow : OpenClaim := { program := "ytkcjbjkccafekaa", sum := "e86d4eb0a713f27fc303679e498c0e12e2977c33d1ead78e24d5f3549c6bba93", func := "loop.example/g00885/laws.FnGamePoints", spec := "fnGamePoints", apart := false, narrowed := true }
def FnGamePointsUptoSaid : Prop := fnGamePointsUptoRow.holds Try.pinned (OpenSpec.upto fnGamePointsSpec)

/-- 'laws.FnExactIsCubeRules', WHERE WHAT IT READS IS OF BULK AT MOST 1048576: true; the input reads as it did. -/
def fnExactIsCubeRulesUptoRow : OpenClaim := { program := "ytkcjbjkccafekaa", sum := "e86d4eb0a713f27fc303679e498c0e12e2977c33d1ead78e24d5f3549c6bba93", func := "loop.example/g00885/laws.FnExactIsCubeRules", spec := "fnExactIsCubeRules", apart := false, narrowed := true }
def FnExactIsCubeRulesUptoSaid : Prop := fnExactIsCubeRulesUptoRow.holds Try.pinned (OpenSpec.upto fnExactIsCubeRulesSpec)

/-- 'laws.FnExactIsCube', WHERE WHAT IT READS IS OF BULK AT MOST 1048576: true; the input reads as it did. -/
def fnExactIsCubeUptoRow : OpenClaim := { program := "ytkcjbjkccafekaa", sum := "e86d4eb0a713f27fc303679e498c0e12e2977c33d1ead78e24d5f3549c6bba93", func := "loop.example/g00885/laws.FnExactIsCube", spec := "fnExactIsCube", apart := false, narrowed := true }
def FnExactIsCubeUptoSaid : Prop := fnExactIsCubeUptoRow.holds Try.pinned (OpenSpec.upto fnExactIsCubeSpec)

/-- 'laws.FnExactSwapCube', WHERE WHAT IT READS IS OF BULK AT MOST 1048576: true; the input reads as it did. -/
def fnExactSwapCubeUptoRow : OpenClaim := { program := "ytkcjbjkccafekaa", sum := "e86d4eb0a713f27fc303679e498c0e12e2977c33d1ead78e24d5f3549c6bba93", func := "loop.example/g00885/laws.FnExactSwapCube", spec := "fnExactSwapCube", apart := false, narrowed := true }
def FnExactSwapCubeUptoSaid : Prop := fnExactSwapCubeUptoRow.holds Try.pinned (OpenSpec.upto fnExactSwapCubeSpec)

/-- 'laws.FnExactCanDouble', WHERE WHAT IT READS IS OF BULK AT MOST 1048576: true; the input reads as it did. -/
def fnExactCanDoubleUptoRow : OpenClaim := { program := "ytkcjbjkccafekaa", sum := "e86d4eb0a713f27fc303679e498c0e12e2977c33d1ead78e24d5f3549c6bba93", func := "loop.example/g00885/laws.FnExactCanDouble", spec := "fnExactCanDouble", apart := false, narrowed := true }
def FnExactCanDoubleUptoSaid : Prop := fnExactCanDoubleUptoRow.holds Try.pinned (OpenSpec.upto fnExactCanDoubleSpec)

/-- 'laws.FnExactCubeActions', WHERE WHAT IT READS IS OF BULK AT MOST 1048576: true; the input reads as it did. -/
def fnExactCubeActionsUptoRow : OpenClaim := { program := "ytkcjbjkccafekaa", sum := "e86d4eb0a713f27fc303679e498c0e12e2977c33d1ead78e24d5f3549c6bba93", func := "loop.example/g00885/laws.FnExactCubeActions", spec := "fnExactCubeActions", unfollowed := true, recurses := true, apart := false, narrowed := true }
def FnExactCubeActionsUptoSaid : Prop := fnExactCubeActionsUptoRow.holds Try.pinned (OpenSpec.upto fnExactCubeActionsSpec)

/-- 'laws.FnExactAfterAction', WHERE WHAT IT READS IS OF BULK AT MOST 1048576: true; the input reads as it did. -/
def fnExactAfterActionUptoRow : OpenClaim := { program := "ytkcjbjkccafekaa", sum := "e86d4eb0a713f27fc303679e498c0e12e2977c33d1ead78e24d5f3549c6bba93", func := "loop.example/g00885/laws.FnExactAfterAction", spec := "fnExactAfterAction", unfollowed := true, recurses := true, apart := false, narrowed := true }
def FnExactAfterActionUptoSaid : Prop := fnExactAfterActionUptoRow.holds Try.pinned (OpenSpec.upto fnExactAfterActionSpec)

/-- 'laws.FnExactGamePoints', WHERE WHAT IT READS IS OF BULK AT MOST 1048576: true; the input reads as it did. -/
def fnExactGamePointsUptoRow : OpenClaim := { program := "ytkcjbjkccafekaa", sum := "e86d4eb0a713f27fc303679e498c0e12e2977c33d1ead78e24d5f3549c6bba93", func := "loop.example/g00885/laws.FnExactGamePoints", spec := "fnExactGamePoints", apart := false, narrowed := true }
def FnExactGamePointsUptoSaid : Prop := fnExactGamePointsUptoRow.holds Try.pinned (OpenSpec.upto fnExactGamePointsSpec)

end Rows
end Go.Proofs.Ytkcjbjkccafekaa
