/-
  No cell of these rows narrows 'for every input' (looked for: loops, veiled, ifaces, maps, wideKeys, modest, calm, conditions, laid).
  DERIVED. THE GIVEN ROWS OF THIS SEAT. 11 by the template 'for every input the law returns true; each argument reads behind the call as it read before'; 0 by the template 'total and deterministic' (their statements: YtjglempkmenacaaTotals.lean).
  GIVEN WITH THE SEED: the statements are not yours to turn. If you find one false, say at which input.
  Laid BY PROGRAM, IN A SANDBOX (cutbox-rows.mjs): the forced cells as the released guide's own fill.sh prints them over the translation 542c48f4a3d11dd9… (all of the seat's roots in one cut). By AI agents, Wed Nov 11 2026. No macro, syntax, notation, axiom, sorry.
-/
import Derived.Test.YtjglempkmenacaaChecked
import GoSem.Claim
import GoSem.ClaimJoined
import GoSem.ClaimMapViews
import Derived.JoinedTies
import Derived.KernelRfl
namespace Go.Proofs.Ytjglempkmenacaa
/- THE CELL 'sum', in the pinned program and in every row, IS THE sha256 OF THE DUMP (.gsa) THAT YtjglempkmenacaaProg.lean LOADS. Nothing in Lean hashes anything: it is a label: what it is worth is what the hold of that sum in a sandbox is worth. -/
noncomputable def Try.pinned : Pinned := { name := "ytjglempkmenacaa", sum := "542c48f4a3d11dd97e696b55aa791d6801fbe349695b254751eeced2f1fc537e", checked := Try.checked }
namespace Rows
def none {H : Type} : Left H := { results := [], args := [] }

/-- 'laws.FnStepBack': WHATEVER THE INPUT: true; the input reads as it did. -/
def fnStepBackSpec : ChangeSpec := { name := "fnStepBack", fn := fun _ => fun
  | [d] => { results := [.lit (.bool true)], args := [d] }
  | _ => none }
def fnStepBackRow : OpenClaim := { program := "ytjglempkmenacaa", sum := "542c48f4a3d11dd97e696b55aa791d6801fbe349695b254751eeced2f1fc537e", func := "loop.example/g00885/laws.FnStepBack", spec := "fnStepBack", unfollowed := true, recurses := true, apart := false }
def FnStepBackSaid : Prop := fnStepBackRow.holds Try.pinned (OpenSpec.ofChange fnStepBackSpec)

/-- ITS FALSE NEIGHBOUR: 'it returns false'. Refute it at one input. -/
def fnStepBackWrong : ChangeSpec := { name := "fnStepBack", fn := fun _ => fun
  | [d] => { results := [.lit (.bool false)], args := [d] }
  | _ => none }
def FnStepBackWrongFalsely : Prop := fnStepBackRow.holds Try.pinned (OpenSpec.ofChange fnStepBackWrong)

/-- 'laws.FnLegalSteps': WHATEVER THE INPUT: true; the input reads as it did. -/
def fnLegalStepsSpec : ChangeSpec := { name := "fnLegalSteps", fn := fun _ => fun
  | [d] => { results := [.lit (.bool true)], args := [d] }
  | _ => none }
def fnLegalStepsRow : OpenClaim := { program := "ytjglempkmenacaa", sum := "542c48f4a3d11dd97e696b55aa791d6801fbe349695b254751eeced2f1fc537e", func := "loop.example/g00885/laws.FnLegalSteps", spec := "fnLegalSteps", unfollowed := true, recurses := true, apart := false }
def FnLegalStepsSaid : Prop := fnLegalStepsRow.holds Try.pinned (OpenSpec.ofChange fnLegalStepsSpec)

/-- ITS FALSE NEIGHBOUR: 'it returns false'. Refute it at one input. -/
def fnLegalStepsWrong : ChangeSpec := { name := "fnLegalSteps", fn := fun _ => fun
  | [d] => { results := [.lit (.bool false)], args := [d] }
  | _ => none }
def FnLegalStepsWrongFalsely : Prop := fnLegalStepsRow.holds Try.pinned (OpenSpec.ofChange fnLegalStepsWrong)

/-- 'laws.FnShots': WHATEVER THE INPUT: true; the input reads as it did. -/
def fnShotsSpec : ChangeSpec := { name := "fnShots", fn := fun _ => fun
  | [d] => { results := [.lit (.bool true)], args := [d] }
  | _ => none }
def fnShotsRow : OpenClaim := { program := "ytjglempkmenacaa", sum := "542c48f4a3d11dd97e696b55aa791d6801fbe349695b254751eeced2f1fc537e", func := "loop.example/g00885/laws.FnShots", spec := "fnShots", unfollowed := true, recurses := true, apart := false }
def FnShotsSaid : Prop := fnShotsRow.holds Try.pinned (OpenSpec.ofChange fnShotsSpec)

/-- ITS FALSE NEIGHBOUR: 'it returns false'. Refute it at one input. -/
def fnShotsWrong : ChangeSpec := { name := "fnShots", fn := fun _ => fun
  | [d] => { results := [.lit (.bool false)], args := [d] }
  | _ => none }
def FnShotsWrongFalsely : Prop := fnShotsRow.holds Try.pinned (OpenSpec.ofChange fnShotsWrong)

/-- 'laws.FnExactIsOpenPoint': WHATEVER THE INPUT: true; the input reads as it did. -/
def fnExactIsOpenPointSpec : ChangeSpec := { name := "fnExactIsOpenPoint", fn := fun _ => fun
  | [d1, d2, d3] => { results := [.lit (.bool true)], args := [d1, d2, d3] }
  | _ => none }
def fnExactIsOpenPointRow : OpenClaim := { program := "ytjglempkmenacaa", sum := "542c48f4a3d11dd97e696b55aa791d6801fbe349695b254751eeced2f1fc537e", func := "loop.example/g00885/laws.FnExactIsOpenPoint", spec := "fnExactIsOpenPoint", unfollowed := true, recurses := true, apart := false }
def FnExactIsOpenPointSaid : Prop := fnExactIsOpenPointRow.holds Try.pinned (OpenSpec.ofChange fnExactIsOpenPointSpec)

/-- ITS FALSE NEIGHBOUR: 'it returns false'. Refute it at one input. -/
def fnExactIsOpenPointWrong : ChangeSpec := { name := "fnExactIsOpenPoint", fn := fun _ => fun
  | [d1, d2, d3] => { results := [.lit (.bool false)], args := [d1, d2, d3] }
  | _ => none }
def FnExactIsOpenPointWrongFalsely : Prop := fnExactIsOpenPointRow.holds Try.pinned (OpenSpec.ofChange fnExactIsOpenPointWrong)

/-- 'laws.FnExactLegalSteps': WHATEVER THE INPUT: true; the input reads as it did. -/
def fnExactLegalStepsSpec : ChangeSpec := { name := "fnExactLegalSteps", fn := fun _ => fun
  | [d1, d2, d3] => { results := [.lit (.bool true)], args := [d1, d2, d3] }
  | _ => none }
def fnExactLegalStepsRow : OpenClaim := { program := "ytjglempkmenacaa", sum := "542c48f4a3d11dd97e696b55aa791d6801fbe349695b254751eeced2f1fc537e", func := "loop.example/g00885/laws.FnExactLegalSteps", spec := "fnExactLegalSteps", unfollowed := true, recurses := true, apart := false }
def FnExactLegalStepsSaid : Prop := fnExactLegalStepsRow.holds Try.pinned (OpenSpec.ofChange fnExactLegalStepsSpec)

/-- ITS FALSE NEIGHBOUR: 'it returns false'. Refute it at one input. -/
def fnExactLegalStepsWrong : ChangeSpec := { name := "fnExactLegalSteps", fn := fun _ => fun
  | [d1, d2, d3] => { results := [.lit (.bool false)], args := [d1, d2, d3] }
  | _ => none }
def FnExactLegalStepsWrongFalsely : Prop := fnExactLegalStepsRow.holds Try.pinned (OpenSpec.ofChange fnExactLegalStepsWrong)

/-- 'laws.FnExactIsLegalStep': WHATEVER THE INPUT: true; the input reads as it did. -/
def fnExactIsLegalStepSpec : ChangeSpec := { name := "fnExactIsLegalStep", fn := fun _ => fun
  | [d1, d2, d3] => { results := [.lit (.bool true)], args := [d1, d2, d3] }
  | _ => none }
def fnExactIsLegalStepRow : OpenClaim := { program := "ytjglempkmenacaa", sum := "542c48f4a3d11dd97e696b55aa791d6801fbe349695b254751eeced2f1fc537e", func := "loop.example/g00885/laws.FnExactIsLegalStep", spec := "fnExactIsLegalStep", unfollowed := true, recurses := true, apart := false }
def FnExactIsLegalStepSaid : Prop := fnExactIsLegalStepRow.holds Try.pinned (OpenSpec.ofChange fnExactIsLegalStepSpec)

/-- ITS FALSE NEIGHBOUR: 'it returns false'. Refute it at one input. -/
def fnExactIsLegalStepWrong : ChangeSpec := { name := "fnExactIsLegalStep", fn := fun _ => fun
  | [d1, d2, d3] => { results := [.lit (.bool false)], args := [d1, d2, d3] }
  | _ => none }
def FnExactIsLegalStepWrongFalsely : Prop := fnExactIsLegalStepRow.holds Try.pinned (OpenSpec.ofChange fnExactIsLegalStepWrong)

/-- 'laws.FnExactApplyStep': WHATEVER THE INPUT: true; the input reads as it did. -/
def fnExactApplyStepSpec : ChangeSpec := { name := "fnExactApplyStep", fn := fun _ => fun
  | [d1, d2, d3] => { results := [.lit (.bool true)], args := [d1, d2, d3] }
  | _ => none }
def fnExactApplyStepRow : OpenClaim := { program := "ytjglempkmenacaa", sum := "542c48f4a3d11dd97e696b55aa791d6801fbe349695b254751eeced2f1fc537e", func := "loop.example/g00885/laws.FnExactApplyStep", spec := "fnExactApplyStep", unfollowed := true, recurses := true, apart := false }
def FnExactApplyStepSaid : Prop := fnExactApplyStepRow.holds Try.pinned (OpenSpec.ofChange fnExactApplyStepSpec)

/-- ITS FALSE NEIGHBOUR: 'it returns false'. Refute it at one input. -/
def fnExactApplyStepWrong : ChangeSpec := { name := "fnExactApplyStep", fn := fun _ => fun
  | [d1, d2, d3] => { results := [.lit (.bool false)], args := [d1, d2, d3] }
  | _ => none }
def FnExactApplyStepWrongFalsely : Prop := fnExactApplyStepRow.holds Try.pinned (OpenSpec.ofChange fnExactApplyStepWrong)

/-- 'laws.FnExactUndoStep': WHATEVER THE INPUT: true; the input reads as it did. -/
def fnExactUndoStepSpec : ChangeSpec := { name := "fnExactUndoStep", fn := fun _ => fun
  | [d1, d2, d3] => { results := [.lit (.bool true)], args := [d1, d2, d3] }
  | _ => none }
def fnExactUndoStepRow : OpenClaim := { program := "ytjglempkmenacaa", sum := "542c48f4a3d11dd97e696b55aa791d6801fbe349695b254751eeced2f1fc537e", func := "loop.example/g00885/laws.FnExactUndoStep", spec := "fnExactUndoStep", unfollowed := true, recurses := true, apart := false }
def FnExactUndoStepSaid : Prop := fnExactUndoStepRow.holds Try.pinned (OpenSpec.ofChange fnExactUndoStepSpec)

/-- ITS FALSE NEIGHBOUR: 'it returns false'. Refute it at one input. -/
def fnExactUndoStepWrong : ChangeSpec := { name := "fnExactUndoStep", fn := fun _ => fun
  | [d1, d2, d3] => { results := [.lit (.bool false)], args := [d1, d2, d3] }
  | _ => none }
def FnExactUndoStepWrongFalsely : Prop := fnExactUndoStepRow.holds Try.pinned (OpenSpec.ofChange fnExactUndoStepWrong)

/-- 'laws.FnExactHitSteps': WHATEVER THE INPUT: true; the input reads as it did. -/
def fnExactHitStepsSpec : ChangeSpec := { name := "fnExactHitSteps", fn := fun _ => fun
  | [d1, d2, d3] => { results := [.lit (.bool true)], args := [d1, d2, d3] }
  | _ => none }
def fnExactHitStepsRow : OpenClaim := { program := "ytjglempkmenacaa", sum := "542c48f4a3d11dd97e696b55aa791d6801fbe349695b254751eeced2f1fc537e", func := "loop.example/g00885/laws.FnExactHitSteps", spec := "fnExactHitSteps", unfollowed := true, recurses := true, apart := false }
def FnExactHitStepsSaid : Prop := fnExactHitStepsRow.holds Try.pinned (OpenSpec.ofChange fnExactHitStepsSpec)

/-- ITS FALSE NEIGHBOUR: 'it returns false'. Refute it at one input. -/
def fnExactHitStepsWrong : ChangeSpec := { name := "fnExactHitSteps", fn := fun _ => fun
  | [d1, d2, d3] => { results := [.lit (.bool false)], args := [d1, d2, d3] }
  | _ => none }
def FnExactHitStepsWrongFalsely : Prop := fnExactHitStepsRow.holds Try.pinned (OpenSpec.ofChange fnExactHitStepsWrong)

/-- 'laws.FnExactBlotsOf': WHATEVER THE INPUT: true; the input reads as it did. -/
def fnExactBlotsOfSpec : ChangeSpec := { name := "fnExactBlotsOf", fn := fun _ => fun
  | [d1, d2] => { results := [.lit (.bool true)], args := [d1, d2] }
  | _ => none }
def fnExactBlotsOfRow : OpenClaim := { program := "ytjglempkmenacaa", sum := "542c48f4a3d11dd97e696b55aa791d6801fbe349695b254751eeced2f1fc537e", func := "loop.example/g00885/laws.FnExactBlotsOf", spec := "fnExactBlotsOf", unfollowed := true, recurses := true, apart := false }
def FnExactBlotsOfSaid : Prop := fnExactBlotsOfRow.holds Try.pinned (OpenSpec.ofChange fnExactBlotsOfSpec)

/-- ITS FALSE NEIGHBOUR: 'it returns false'. Refute it at one input. -/
def fnExactBlotsOfWrong : ChangeSpec := { name := "fnExactBlotsOf", fn := fun _ => fun
  | [d1, d2] => { results := [.lit (.bool false)], args := [d1, d2] }
  | _ => none }
def FnExactBlotsOfWrongFalsely : Prop := fnExactBlotsOfRow.holds Try.pinned (OpenSpec.ofChange fnExactBlotsOfWrong)

/-- 'laws.FnExactDirectShots': WHATEVER THE INPUT: true; the input reads as it did. -/
def fnExactDirectShotsSpec : ChangeSpec := { name := "fnExactDirectShots", fn := fun _ => fun
  | [d1, d2, d3] => { results := [.lit (.bool true)], args := [d1, d2, d3] }
  | _ => none }
def fnExactDirectShotsRow : OpenClaim := { program := "ytjglempkmenacaa", sum := "542c48f4a3d11dd97e696b55aa791d6801fbe349695b254751eeced2f1fc537e", func := "loop.example/g00885/laws.FnExactDirectShots", spec := "fnExactDirectShots", unfollowed := true, recurses := true, apart := false }
def FnExactDirectShotsSaid : Prop := fnExactDirectShotsRow.holds Try.pinned (OpenSpec.ofChange fnExactDirectShotsSpec)

/-- ITS FALSE NEIGHBOUR: 'it returns false'. Refute it at one input. -/
def fnExactDirectShotsWrong : ChangeSpec := { name := "fnExactDirectShots", fn := fun _ => fun
  | [d1, d2, d3] => { results := [.lit (.bool false)], args := [d1, d2, d3] }
  | _ => none }
def FnExactDirectShotsWrongFalsely : Prop := fnExactDirectShotsRow.holds Try.pinned (OpenSpec.ofChange fnExactDirectShotsWrong)

/- THE SECOND FORM. 'bulk': how many values and letters a reading holds, each counted each time it is reached (what is shared counts as often as it is met; a slice's spare places count too). A statement '..UptoSaid' is the law's where the arguments, and the package variables that the reading takes, are together of bulk at most 1048576: NARROWER than '..Said'. Prove '..Said' where nothing that the law and all that it calls make is longer than what came in: it says more and counts as full. Else prove '..UptoSaid'. A law counts once. -/
mutual
def uptoBulk {H : Type} : DataW H → Nat
  | .lit (.string bytes) => bytes.length + 1
  | .lit _ => 1
  | .nil => 1
  | .ptr d => uptoBulk d + 1
  | .slice elems spare => uptoBulkAll elems + uptoBulkAll spare + 1
  | .agg parts => uptoBulkAll parts + 1
  | .iface _ d => uptoBulk d + 1
  | .map entries => uptoBulkEntries entries + 1
  | .held _ => 1
def uptoBulkAll {H : Type} : List (DataW H) → Nat
  | [] => 0
  | d :: r => uptoBulk d + uptoBulkAll r
def uptoBulkEntries {H : Type} : List (Lit × DataW H) → Nat
  | [] => 0
  | x :: r => uptoBulkEntry x + uptoBulkEntries r
def uptoBulkEntry {H : Type} : Lit × DataW H → Nat
  | (.string bytes, d) => bytes.length + uptoBulk d + 1
  | (_, d) => uptoBulk d + 1
 end
def uptoSmall : (H : Type) → List (DataW H) → Bool := fun _ ds => decide (uptoBulkAll ds ≤ 1048576)
def OpenSpec.upto (s : _root_.Go.ChangeSpec) : _root_.Go.OpenSpec := { _root_.Go.OpenSpec.ofChange s with cond := some uptoSmall }

/-- 'laws.FnStepBack', WHERE WHAT IT READS IS OF BULK AT MOST 1048576: true; the input reads as it did. -/
def fnStepBackUptoRow : OpenClaim := { program := "ytjglempkmenacaa", sum := "542c48f4a3d11dd97e696b55aa791d6801fbe349695b254751eeced2f1fc537e", func := "loop.example/g00885/laws.FnStepBack", spec := "fnStepBack", unfollowed := true, recurses := true, apart := false, narrowed := true }
def FnStepBackUptoSaid : Prop := fnStepBackUptoRow.holds Try.pinned (OpenSpec.upto fnStepBackSpec)

/-- 'laws.FnLegalSteps', WHERE WHAT IT READS IS OF BULK AT MOST 1048576: true; the input reads as it did. -/
def fnLegalStepsUptoRow : OpenClaim := { program := "ytjglempkmenacaa", sum := "542c48f4a3d11dd97e696b55aa791d6801fbe349695b254751eeced2f1fc537e", func := "loop.example/g00885/laws.FnLegalSteps", spec := "fnLegalSteps", unfollowed := true, recurses := true, apart := false, narrowed := true }
def FnLegalStepsUptoSaid : Prop := fnLegalStepsUptoRow.holds Try.pinned (OpenSpec.upto fnLegalStepsSpec)

/-- 'laws.FnShots', WHERE WHAT IT READS IS OF BULK AT MOST 1048576: true; the input reads as it did. -/
def fnShotsUptoRow : OpenClaim := { program := "ytjglempkmenacaa", sum := "542c48f4a3d11dd97e696b55aa791d6801fbe349695b254751eeced2f1fc537e", func := "loop.example/g00885/laws.FnShots", spec := "fnShots", unfollowed := true, recurses := true, apart := false, narrowed := true }
def FnShotsUptoSaid : Prop := fnShotsUptoRow.holds Try.pinned (OpenSpec.upto fnShotsSpec)

/-- 'laws.FnExactIsOpenPoint', WHERE WHAT IT READS IS OF BULK AT MOST 1048576: true; the input reads as it did. -/
def fnExactIsOpenPointUptoRow : OpenClaim := { program := "ytjglempkmenacaa", sum := "542c48f4a3d11dd97e696b55aa791d6801fbe349695b254751eeced2f1fc537e", func := "loop.example/g00885/laws.FnExactIsOpenPoint", spec := "fnExactIsOpenPoint", unfollowed := true, recurses := true, apart := false, narrowed := true }
def FnExactIsOpenPointUptoSaid : Prop := fnExactIsOpenPointUptoRow.holds Try.pinned (OpenSpec.upto fnExactIsOpenPointSpec)

/-- 'laws.FnExactLegalSteps', WHERE WHAT IT READS IS OF BULK AT MOST 1048576: true; the input reads as it did. -/
def fnExactLegalStepsUptoRow : OpenClaim := { program := "ytjglempkmenacaa", sum := "542c48f4a3d11dd97e696b55aa791d6801fbe349695b254751eeced2f1fc537e", func := "loop.example/g00885/laws.FnExactLegalSteps", spec := "fnExactLegalSteps", unfollowed := true, recurses := true, apart := false, narrowed := true }
def FnExactLegalStepsUptoSaid : Prop := fnExactLegalStepsUptoRow.holds Try.pinned (OpenSpec.upto fnExactLegalStepsSpec)

/-- 'laws.FnExactIsLegalStep', WHERE WHAT IT READS IS OF BULK AT MOST 1048576: true; the input reads as it did. -/
def fnExactIsLegalStepUptoRow : OpenClaim := { program := "ytjglempkmenacaa", sum := "542c48f4a3d11dd97e696b55aa791d6801fbe349695b254751eeced2f1fc537e", func := "loop.example/g00885/laws.FnExactIsLegalStep", spec := "fnExactIsLegalStep", unfollowed := true, recurses := true, apart := false, narrowed := true }
def FnExactIsLegalStepUptoSaid : Prop := fnExactIsLegalStepUptoRow.holds Try.pinned (OpenSpec.upto fnExactIsLegalStepSpec)

/-- 'laws.FnExactApplyStep', WHERE WHAT IT READS IS OF BULK AT MOST 1048576: true; the input reads as it did. -/
def fnExactApplyStepUptoRow : OpenClaim := { program := "ytjglempkmenacaa", sum := "542c48f4a3d11dd97e696b55aa791d6801fbe349695b254751eeced2f1fc537e", func := "loop.example/g00885/laws.FnExactApplyStep", spec := "fnExactApplyStep", unfollowed := true, recurses := true, apart := false, narrowed := true }
def FnExactApplyStepUptoSaid : Prop := fnExactApplyStepUptoRow.holds Try.pinned (OpenSpec.upto fnExactApplyStepSpec)

/-- 'laws.FnExactUndoStep', WHERE WHAT IT READS IS OF BULK AT MOST 1048576: true; the input reads as it did. -/
def fnExactUndoStepUptoRow : OpenClaim := { program := "ytjglempkmenacaa", sum := "542c48f4a3d11dd97e696b55aa791d6801fbe349695b254751eeced2f1fc537e", func := "loop.example/g00885/laws.FnExactUndoStep", spec := "fnExactUndoStep", unfollowed := true, recurses := true, apart := false, narrowed := true }
def FnExactUndoStepUptoSaid : Prop := fnExactUndoStepUptoRow.holds Try.pinned (OpenSpec.upto fnExactUndoStepSpec)

/-- 'laws.FnExactHitSteps', WHERE WHAT IT READS IS OF BULK AT MOST 1048576: true; the input reads as it did. -/
def fnExactHitStepsUptoRow : OpenClaim := { program := "ytjglempkmenacaa", sum := "542c48f4a3d11dd97e696b55aa791d6801fbe349695b254751eeced2f1fc537e", func := "loop.example/g00885/laws.FnExactHitSteps", spec := "fnExactHitSteps", unfollowed := true, recurses := true, apart := false, narrowed := true }
def FnExactHitStepsUptoSaid : Prop := fnExactHitStepsUptoRow.holds Try.pinned (OpenSpec.upto fnExactHitStepsSpec)

/-- 'laws.FnExactBlotsOf', WHERE WHAT IT READS IS OF BULK AT MOST 1048576: true; the input reads as it did. -/
def fnExactBlotsOfUptoRow : OpenClaim := { program := "ytjglempkmenacaa", sum := "542c48f4a3d11dd97e696b55aa791d6801fbe349695b254751eeced2f1fc537e", func := "loop.example/g00885/laws.FnExactBlotsOf", spec := "fnExactBlotsOf", unfollowed := true, recurses := true, apart := false, narrowed := true }
def FnExactBlotsOfUptoSaid : Prop := fnExactBlotsOfUptoRow.holds Try.pinned (OpenSpec.upto fnExactBlotsOfSpec)

/-- 'laws.FnExactDirectShots', WHERE WHAT IT READS IS OF BULK AT MOST 1048576: true; the input reads as it did. -/
def fnExactDirectShotsUptoRow : OpenClaim := { program := "ytjglempkmenacaa", sum := "542c48f4a3d11dd97e696b55aa791d6801fbe349695b254751eeced2f1fc537e", func := "loop.example/g00885/laws.FnExactDirectShots", spec := "fnExactDirectShots", unfollowed := true, recurses := true, apart := false, narrowed := true }
def FnExactDirectShotsUptoSaid : Prop := fnExactDirectShotsUptoRow.holds Try.pinned (OpenSpec.upto fnExactDirectShotsSpec)

end Rows
end Go.Proofs.Ytjglempkmenacaa
