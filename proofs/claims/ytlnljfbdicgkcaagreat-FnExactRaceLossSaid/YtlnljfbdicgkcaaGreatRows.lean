/-
  No cell of these rows narrows 'for every input' (looked for: loops, veiled, ifaces, maps, wideKeys, modest, calm, conditions, laid).
  DERIVED. THE GIVEN ROWS OF THIS SEAT. 8 by the template 'for every input the law returns true; each argument reads behind the call as it read before'; 0 by the template 'total and deterministic' (their statements: YtlnljfbdicgkcaaGreatTotals.lean).
  GIVEN WITH THE SEED: the statements are not yours to turn. If you find one false, say at which input.
  Laid BY PROGRAM, IN A SANDBOX (cutbox-rows.mjs): the forced cells as the released guide's own fill.sh prints them over the translation c830bb5b525d17a2… (all of the seat's roots in one cut). By AI agents, Wed Nov 11 2026. No macro, syntax, notation, axiom, sorry.
-/
import Derived.Test.YtlnljfbdicgkcaaGreatChecked
import GoSem.Claim
import GoSem.ClaimJoined
import GoSem.ClaimMapViews
import Derived.JoinedTies
import Derived.KernelRfl
namespace Go.Proofs.YtlnljfbdicgkcaaGreat
/- THE CELL 'sum', in the pinned program and in every row, IS THE sha256 OF THE DUMP (.gsa) THAT YtlnljfbdicgkcaaGreatProg.lean LOADS. Nothing in Lean hashes anything: it is a label: what it is worth is what the hold of that sum in a sandbox is worth. -/
noncomputable def Tryz.pinned : Pinned := { name := "ytlnljfbdicgkcaagreat", sum := "c830bb5b525d17a2c8ca73a1671f7d2c8f3990ec1abcde266d4a3942fe61032f", checked := Tryz.checked }
namespace Rows
def none {H : Type} : Left H := { results := [], args := [] }

/-- 'laws.FnLuck': WHATEVER THE INPUT: true; the input reads as it did. -/
def fnLuckSpec : ChangeSpec := { name := "fnLuck", fn := fun _ => fun
  | [d] => { results := [.lit (.bool true)], args := [d] }
  | _ => none }
def fnLuckRow : OpenClaim := { program := "ytlnljfbdicgkcaagreat", sum := "c830bb5b525d17a2c8ca73a1671f7d2c8f3990ec1abcde266d4a3942fe61032f", func := "loop.example/g00885/laws.FnLuck", spec := "fnLuck", unfollowed := true, recurses := true, named := ["math/bits.divideError", "math/bits.overflowError"], apart := false }
def FnLuckSaid : Prop := fnLuckRow.holds Tryz.pinned (OpenSpec.ofChange fnLuckSpec)

/-- ITS FALSE NEIGHBOUR: 'it returns false'. Refute it at one input. -/
def fnLuckWrong : ChangeSpec := { name := "fnLuck", fn := fun _ => fun
  | [d] => { results := [.lit (.bool false)], args := [d] }
  | _ => none }
def FnLuckWrongFalsely : Prop := fnLuckRow.holds Tryz.pinned (OpenSpec.ofChange fnLuckWrong)

/-- 'laws.FnLosses': WHATEVER THE INPUT: true; the input reads as it did. -/
def fnLossesSpec : ChangeSpec := { name := "fnLosses", fn := fun _ => fun
  | [d] => { results := [.lit (.bool true)], args := [d] }
  | _ => none }
def fnLossesRow : OpenClaim := { program := "ytlnljfbdicgkcaagreat", sum := "c830bb5b525d17a2c8ca73a1671f7d2c8f3990ec1abcde266d4a3942fe61032f", func := "loop.example/g00885/laws.FnLosses", spec := "fnLosses", unfollowed := true, recurses := true, named := ["math/bits.divideError", "math/bits.overflowError"], apart := false }
def FnLossesSaid : Prop := fnLossesRow.holds Tryz.pinned (OpenSpec.ofChange fnLossesSpec)

/-- ITS FALSE NEIGHBOUR: 'it returns false'. Refute it at one input. -/
def fnLossesWrong : ChangeSpec := { name := "fnLosses", fn := fun _ => fun
  | [d] => { results := [.lit (.bool false)], args := [d] }
  | _ => none }
def FnLossesWrongFalsely : Prop := fnLossesRow.holds Tryz.pinned (OpenSpec.ofChange fnLossesWrong)

/-- 'laws.FnExactBestRaceResult': WHATEVER THE INPUT: true; the input reads as it did. -/
def fnExactBestRaceResultSpec : ChangeSpec := { name := "fnExactBestRaceResult", fn := fun _ => fun
  | [d1, d2, d3, d4] => { results := [.lit (.bool true)], args := [d1, d2, d3, d4] }
  | _ => none }
def fnExactBestRaceResultRow : OpenClaim := { program := "ytlnljfbdicgkcaagreat", sum := "c830bb5b525d17a2c8ca73a1671f7d2c8f3990ec1abcde266d4a3942fe61032f", func := "loop.example/g00885/laws.FnExactBestRaceResult", spec := "fnExactBestRaceResult", unfollowed := true, recurses := true, apart := false }
def FnExactBestRaceResultSaid : Prop := fnExactBestRaceResultRow.holds Tryz.pinned (OpenSpec.ofChange fnExactBestRaceResultSpec)

/-- ITS FALSE NEIGHBOUR: 'it returns false'. Refute it at one input. -/
def fnExactBestRaceResultWrong : ChangeSpec := { name := "fnExactBestRaceResult", fn := fun _ => fun
  | [d1, d2, d3, d4] => { results := [.lit (.bool false)], args := [d1, d2, d3, d4] }
  | _ => none }
def FnExactBestRaceResultWrongFalsely : Prop := fnExactBestRaceResultRow.holds Tryz.pinned (OpenSpec.ofChange fnExactBestRaceResultWrong)

/-- 'laws.FnExactRollChances': WHATEVER THE INPUT: true; the input reads as it did. -/
def fnExactRollChancesSpec : ChangeSpec := { name := "fnExactRollChances", fn := fun _ => fun
  | [d1, d2, d3] => { results := [.lit (.bool true)], args := [d1, d2, d3] }
  | _ => none }
def fnExactRollChancesRow : OpenClaim := { program := "ytlnljfbdicgkcaagreat", sum := "c830bb5b525d17a2c8ca73a1671f7d2c8f3990ec1abcde266d4a3942fe61032f", func := "loop.example/g00885/laws.FnExactRollChances", spec := "fnExactRollChances", unfollowed := true, recurses := true, named := ["math/bits.divideError", "math/bits.overflowError"], apart := false }
def FnExactRollChancesSaid : Prop := fnExactRollChancesRow.holds Tryz.pinned (OpenSpec.ofChange fnExactRollChancesSpec)

/-- ITS FALSE NEIGHBOUR: 'it returns false'. Refute it at one input. -/
def fnExactRollChancesWrong : ChangeSpec := { name := "fnExactRollChances", fn := fun _ => fun
  | [d1, d2, d3] => { results := [.lit (.bool false)], args := [d1, d2, d3] }
  | _ => none }
def FnExactRollChancesWrongFalsely : Prop := fnExactRollChancesRow.holds Tryz.pinned (OpenSpec.ofChange fnExactRollChancesWrong)

/-- 'laws.FnExactRaceLuck': WHATEVER THE INPUT: true; the input reads as it did. -/
def fnExactRaceLuckSpec : ChangeSpec := { name := "fnExactRaceLuck", fn := fun _ => fun
  | [d1, d2, d3, d4] => { results := [.lit (.bool true)], args := [d1, d2, d3, d4] }
  | _ => none }
def fnExactRaceLuckRow : OpenClaim := { program := "ytlnljfbdicgkcaagreat", sum := "c830bb5b525d17a2c8ca73a1671f7d2c8f3990ec1abcde266d4a3942fe61032f", func := "loop.example/g00885/laws.FnExactRaceLuck", spec := "fnExactRaceLuck", unfollowed := true, recurses := true, named := ["math/bits.divideError", "math/bits.overflowError"], apart := false }
def FnExactRaceLuckSaid : Prop := fnExactRaceLuckRow.holds Tryz.pinned (OpenSpec.ofChange fnExactRaceLuckSpec)

/-- ITS FALSE NEIGHBOUR: 'it returns false'. Refute it at one input. -/
def fnExactRaceLuckWrong : ChangeSpec := { name := "fnExactRaceLuck", fn := fun _ => fun
  | [d1, d2, d3, d4] => { results := [.lit (.bool false)], args := [d1, d2, d3, d4] }
  | _ => none }
def FnExactRaceLuckWrongFalsely : Prop := fnExactRaceLuckRow.holds Tryz.pinned (OpenSpec.ofChange fnExactRaceLuckWrong)

/-- 'laws.FnExactResultChances': WHATEVER THE INPUT: true; the input reads as it did. -/
def fnExactResultChancesSpec : ChangeSpec := { name := "fnExactResultChances", fn := fun _ => fun
  | [d1, d2, d3, d4] => { results := [.lit (.bool true)], args := [d1, d2, d3, d4] }
  | _ => none }
def fnExactResultChancesRow : OpenClaim := { program := "ytlnljfbdicgkcaagreat", sum := "c830bb5b525d17a2c8ca73a1671f7d2c8f3990ec1abcde266d4a3942fe61032f", func := "loop.example/g00885/laws.FnExactResultChances", spec := "fnExactResultChances", unfollowed := true, recurses := true, named := ["math/bits.divideError", "math/bits.overflowError"], apart := false }
def FnExactResultChancesSaid : Prop := fnExactResultChancesRow.holds Tryz.pinned (OpenSpec.ofChange fnExactResultChancesSpec)

/-- ITS FALSE NEIGHBOUR: 'it returns false'. Refute it at one input. -/
def fnExactResultChancesWrong : ChangeSpec := { name := "fnExactResultChances", fn := fun _ => fun
  | [d1, d2, d3, d4] => { results := [.lit (.bool false)], args := [d1, d2, d3, d4] }
  | _ => none }
def FnExactResultChancesWrongFalsely : Prop := fnExactResultChancesRow.holds Tryz.pinned (OpenSpec.ofChange fnExactResultChancesWrong)

/-- 'laws.FnExactRaceLoss': WHATEVER THE INPUT: true; the input reads as it did. -/
def fnExactRaceLossSpec : ChangeSpec := { name := "fnExactRaceLoss", fn := fun _ => fun
  | [d1, d2, d3, d4, d5] => { results := [.lit (.bool true)], args := [d1, d2, d3, d4, d5] }
  | _ => none }
def fnExactRaceLossRow : OpenClaim := { program := "ytlnljfbdicgkcaagreat", sum := "c830bb5b525d17a2c8ca73a1671f7d2c8f3990ec1abcde266d4a3942fe61032f", func := "loop.example/g00885/laws.FnExactRaceLoss", spec := "fnExactRaceLoss", unfollowed := true, recurses := true, named := ["math/bits.divideError", "math/bits.overflowError"], apart := false }
def FnExactRaceLossSaid : Prop := fnExactRaceLossRow.holds Tryz.pinned (OpenSpec.ofChange fnExactRaceLossSpec)

/-- ITS FALSE NEIGHBOUR: 'it returns false'. Refute it at one input. -/
def fnExactRaceLossWrong : ChangeSpec := { name := "fnExactRaceLoss", fn := fun _ => fun
  | [d1, d2, d3, d4, d5] => { results := [.lit (.bool false)], args := [d1, d2, d3, d4, d5] }
  | _ => none }
def FnExactRaceLossWrongFalsely : Prop := fnExactRaceLossRow.holds Tryz.pinned (OpenSpec.ofChange fnExactRaceLossWrong)

/-- 'laws.FnExactSolvedChance': WHATEVER THE INPUT: true; the input reads as it did. -/
def fnExactSolvedChanceSpec : ChangeSpec := { name := "fnExactSolvedChance", fn := fun _ => fun
  | [d1, d2] => { results := [.lit (.bool true)], args := [d1, d2] }
  | _ => none }
def fnExactSolvedChanceRow : OpenClaim := { program := "ytlnljfbdicgkcaagreat", sum := "c830bb5b525d17a2c8ca73a1671f7d2c8f3990ec1abcde266d4a3942fe61032f", func := "loop.example/g00885/laws.FnExactSolvedChance", spec := "fnExactSolvedChance", unfollowed := true, recurses := true, named := ["math/bits.divideError", "math/bits.overflowError"], apart := false }
def FnExactSolvedChanceSaid : Prop := fnExactSolvedChanceRow.holds Tryz.pinned (OpenSpec.ofChange fnExactSolvedChanceSpec)

/-- ITS FALSE NEIGHBOUR: 'it returns false'. Refute it at one input. -/
def fnExactSolvedChanceWrong : ChangeSpec := { name := "fnExactSolvedChance", fn := fun _ => fun
  | [d1, d2] => { results := [.lit (.bool false)], args := [d1, d2] }
  | _ => none }
def FnExactSolvedChanceWrongFalsely : Prop := fnExactSolvedChanceRow.holds Tryz.pinned (OpenSpec.ofChange fnExactSolvedChanceWrong)

/- THE SECOND FORM. 'bulk': how many values and letters a reading holds, each counted each time it is reached (what is shared counts as often as it is met; a slice's spare places count too). A statement '..UptoSaid' is the law's where the arguments, and the package variables that the reading takes, are together of bulk at most 1048576: NARROWER than '..Said'. Prove '..Said' where nothing that the law and all that it calls make is longer than what came in: it says more and counts as full. Else prove '..UptoSaid'. A law counts once. -/
mutual
def uptoBulk {H : Type} : DataW H → Nat
  | .lit (.string bytes) => bytes.length + 1
  | .lit _ => 1
  | .nil => 1
  | .ptr d => uptoBulk d + 1
  | .slice elems spare => uptoBulkAll elems + uptoBulkAll spare + 1
  | .agg parts => uptoBulkAll parts + 1
  | .iface _ d => uptoBulk d + 1
  | .map entries => uptoBulkEntries entries + 1
  | .held _ => 1
def uptoBulkAll {H : Type} : List (DataW H) → Nat
  | [] => 0
  | d :: r => uptoBulk d + uptoBulkAll r
def uptoBulkEntries {H : Type} : List (Lit × DataW H) → Nat
  | [] => 0
  | x :: r => uptoBulkEntry x + uptoBulkEntries r
def uptoBulkEntry {H : Type} : Lit × DataW H → Nat
  | (.string bytes, d) => bytes.length + uptoBulk d + 1
  | (_, d) => uptoBulk d + 1
 end
def uptoSmall : (H : Type) → List (DataW H) → Bool := fun _ ds => decide (uptoBulkAll ds ≤ 1048576)
def OpenSpec.upto (s : _root_.Go.ChangeSpec) : _root_.Go.OpenSpec := { _root_.Go.OpenSpec.ofChange s with cond := some uptoSmall }

/-- 'laws.FnLuck', WHERE WHAT IT READS IS OF BULK AT MOST 1048576: true; the input reads as it did. -/
def fnLuckUptoRow : OpenClaim := { program := "ytlnljfbdicgkcaagreat", sum := "c830bb5b525d17a2c8ca73a1671f7d2c8f3990ec1abcde266d4a3942fe61032f", func := "loop.example/g00885/laws.FnLuck", spec := "fnLuck", unfollowed := true, recurses := true, named := ["math/bits.divideError", "math/bits.overflowError"], apart := false, narrowed := true }
def FnLuckUptoSaid : Prop := fnLuckUptoRow.holds Tryz.pinned (OpenSpec.upto fnLuckSpec)

/-- 'laws.FnLosses', WHERE WHAT IT READS IS OF BULK AT MOST 1048576: true; the input reads as it did. -/
def fnLossesUptoRow : OpenClaim := { program := "ytlnljfbdicgkcaagreat", sum := "c830bb5b525d17a2c8ca73a1671f7d2c8f3990ec1abcde266d4a3942fe61032f", func := "loop.example/g00885/laws.FnLosses", spec := "fnLosses", unfollowed := true, recurses := true, named := ["math/bits.divideError", "math/bits.overflowError"], apart := false, narrowed := true }
def FnLossesUptoSaid : Prop := fnLossesUptoRow.holds Tryz.pinned (OpenSpec.upto fnLossesSpec)

/-- 'laws.FnExactBestRaceResult', WHERE WHAT IT READS IS OF BULK AT MOST 1048576: true; the input reads as it did. -/
def fnExactBestRaceResultUptoRow : OpenClaim := { program := "ytlnljfbdicgkcaagreat", sum := "c830bb5b525d17a2c8ca73a1671f7d2c8f3990ec1abcde266d4a3942fe61032f", func := "loop.example/g00885/laws.FnExactBestRaceResult", spec := "fnExactBestRaceResult", unfollowed := true, recurses := true, apart := false, narrowed := true }
def FnExactBestRaceResultUptoSaid : Prop := fnExactBestRaceResultUptoRow.holds Tryz.pinned (OpenSpec.upto fnExactBestRaceResultSpec)

/-- 'laws.FnExactRollChances', WHERE WHAT IT READS IS OF BULK AT MOST 1048576: true; the input reads as it did. -/
def fnExactRollChancesUptoRow : OpenClaim := { program := "ytlnljfbdicgkcaagreat", sum := "c830bb5b525d17a2c8ca73a1671f7d2c8f3990ec1abcde266d4a3942fe61032f", func := "loop.example/g00885/laws.FnExactRollChances", spec := "fnExactRollChances", unfollowed := true, recurses := true, named := ["math/bits.divideError", "math/bits.overflowError"], apart := false, narrowed := true }
def FnExactRollChancesUptoSaid : Prop := fnExactRollChancesUptoRow.holds Tryz.pinned (OpenSpec.upto fnExactRollChancesSpec)

/-- 'laws.FnExactRaceLuck', WHERE WHAT IT READS IS OF BULK AT MOST 1048576: true; the input reads as it did. -/
def fnExactRaceLuckUptoRow : OpenClaim := { program := "ytlnljfbdicgkcaagreat", sum := "c830bb5b525d17a2c8ca73a1671f7d2c8f3990ec1abcde266d4a3942fe61032f", func := "loop.example/g00885/laws.FnExactRaceLuck", spec := "fnExactRaceLuck", unfollowed := true, recurses := true, named := ["math/bits.divideError", "math/bits.overflowError"], apart := false, narrowed := true }
def FnExactRaceLuckUptoSaid : Prop := fnExactRaceLuckUptoRow.holds Tryz.pinned (OpenSpec.upto fnExactRaceLuckSpec)

/-- 'laws.FnExactResultChances', WHERE WHAT IT READS IS OF BULK AT MOST 1048576: true; the input reads as it did. -/
def fnExactResultChancesUptoRow : OpenClaim := { program := "ytlnljfbdicgkcaagreat", sum := "c830bb5b525d17a2c8ca73a1671f7d2c8f3990ec1abcde266d4a3942fe61032f", func := "loop.example/g00885/laws.FnExactResultChances", spec := "fnExactResultChances", unfollowed := true, recurses := true, named := ["math/bits.divideError", "math/bits.overflowError"], apart := false, narrowed := true }
def FnExactResultChancesUptoSaid : Prop := fnExactResultChancesUptoRow.holds Tryz.pinned (OpenSpec.upto fnExactResultChancesSpec)

/-- 'laws.FnExactRaceLoss', WHERE WHAT IT READS IS OF BULK AT MOST 1048576: true; the input reads as it did. -/
def fnExactRaceLossUptoRow : OpenClaim := { program := "ytlnljfbdicgkcaagreat", sum := "c830bb5b525d17a2c8ca73a1671f7d2c8f3990ec1abcde266d4a3942fe61032f", func := "loop.example/g00885/laws.FnExactRaceLoss", spec := "fnExactRaceLoss", unfollowed := true, recurses := true, named := ["math/bits.divideError", "math/bits.overflowError"], apart := false, narrowed := true }
def FnExactRaceLossUptoSaid : Prop := fnExactRaceLossUptoRow.holds Tryz.pinned (OpenSpec.upto fnExactRaceLossSpec)

/-- 'laws.FnExactSolvedChance', WHERE WHAT IT READS IS OF BULK AT MOST 1048576: true; the input reads as it did. -/
def fnExactSolvedChanceUptoRow : OpenClaim := { program := "ytlnljfbdicgkcaagreat", sum := "c830bb5b525d17a2c8ca73a1671f7d2c8f3990ec1abcde266d4a3942fe61032f", func := "loop.example/g00885/laws.FnExactSolvedChance", spec := "fnExactSolvedChance", unfollowed := true, recurses := true, named := ["math/bits.divideError", "math/bits.overflowError"], apart := false, narrowed := true }
def FnExactSolvedChanceUptoSaid : Prop := fnExactSolvedChanceUptoRow.holds Tryz.pinned (OpenSpec.upto fnExactSolvedChanceSpec)

end Rows
end Go.Proofs.YtlnljfbdicgkcaaGreat
