/-
  No cell of these rows narrows 'for every input' (looked for: loops, veiled, ifaces, maps, wideKeys, modest, calm, conditions, laid).
  DERIVED. THE GIVEN ROWS OF THIS SEAT. 10 by the template 'for every input the law returns true; each argument reads behind the call as it read before'; 0 by the template 'total and deterministic' (their statements: YtgifkopgnpdkiaaTotals.lean).
  GIVEN WITH THE SEED: the statements are not yours to turn. If you find one false, say at which input.
  Laid BY PROGRAM, IN A SANDBOX (cutbox-rows.mjs): the forced cells as the released guide's own fill.sh prints them over the translation 25843f828d11768e… (all of the seat's roots in one cut). By AI agents, Wed Nov 11 2026. No macro, syntax, notation, axiom, sorry.
-/
import Derived.Test.YtgifkopgnpdkiaaChecked
import GoSem.Claim
import GoSem.ClaimJoined
import GoSem.ClaimMapViews
import Derived.JoinedTies
import Derived.KernelRfl
namespace Go.Proofs.Ytgifkopgnpdkiaa
/- THE CELL 'sum', in the pinned program and in every row, IS THE sha256 OF THE DUMP (.gsa) THAT YtgifkopgnpdkiaaProg.lean LOADS. Nothing in Lean hashes anything: it is a label: what it is worth is what the hold of that sum in a sandbox is worth. -/
noncomputable def Try.pinned : Pinned := { name := "ytgifkopgnpdkiaa", sum := "25843f828d11768e365d2c1bd993779ef7400aff72c391829b3665a6722eaf7c", checked := Try.checked }
namespace Rows
def none {H : Type} : Left H := { results := [], args := [] }

/-- 'laws.FnExactIsExact': WHATEVER THE INPUT: true; the input reads as it did. -/
def fnExactIsExactSpec : ChangeSpec := { name := "fnExactIsExact", fn := fun _ => fun
  | [d1, d2] => { results := [.lit (.bool true)], args := [d1, d2] }
  | _ => none }
def fnExactIsExactRow : OpenClaim := { program := "ytgifkopgnpdkiaa", sum := "25843f828d11768e365d2c1bd993779ef7400aff72c391829b3665a6722eaf7c", func := "loop.example/g00885/laws.FnExactIsExact", spec := "fnExactIsExact", apart := false }
def FnExactIsExactSaid : Prop := fnExactIsExactRow.holds Try.pinned (OpenSpec.ofChange fnExactIsExactSpec)

/-- ITS FALSE NEIGHBOUR: 'it returns false'. Refute it at one input. -/
def fnExactIsExactWrong : ChangeSpec := { name := "fnExactIsExact", fn := fun _ => fun
  | [d1, d2] => { results := [.lit (.bool false)], args := [d1, d2] }
  | _ => none }
def FnExactIsExactWrongFalsely : Prop := fnExactIsExactRow.holds Try.pinned (OpenSpec.ofChange fnExactIsExactWrong)

/-- 'laws.FnExactMakeExact': WHATEVER THE INPUT: true; the input reads as it did. -/
def fnExactMakeExactSpec : ChangeSpec := { name := "fnExactMakeExact", fn := fun _ => fun
  | [d1, d2, d3] => { results := [.lit (.bool true)], args := [d1, d2, d3] }
  | _ => none }
def fnExactMakeExactRow : OpenClaim := { program := "ytgifkopgnpdkiaa", sum := "25843f828d11768e365d2c1bd993779ef7400aff72c391829b3665a6722eaf7c", func := "loop.example/g00885/laws.FnExactMakeExact", spec := "fnExactMakeExact", named := ["math/bits.divideError", "math/bits.overflowError"], apart := false }
def FnExactMakeExactSaid : Prop := fnExactMakeExactRow.holds Try.pinned (OpenSpec.ofChange fnExactMakeExactSpec)

/-- ITS FALSE NEIGHBOUR: 'it returns false'. Refute it at one input. -/
def fnExactMakeExactWrong : ChangeSpec := { name := "fnExactMakeExact", fn := fun _ => fun
  | [d1, d2, d3] => { results := [.lit (.bool false)], args := [d1, d2, d3] }
  | _ => none }
def FnExactMakeExactWrongFalsely : Prop := fnExactMakeExactRow.holds Try.pinned (OpenSpec.ofChange fnExactMakeExactWrong)

/-- 'laws.FnExactAddExact': WHATEVER THE INPUT: true; the input reads as it did. -/
def fnExactAddExactSpec : ChangeSpec := { name := "fnExactAddExact", fn := fun _ => fun
  | [d1, d2, d3] => { results := [.lit (.bool true)], args := [d1, d2, d3] }
  | _ => none }
def fnExactAddExactRow : OpenClaim := { program := "ytgifkopgnpdkiaa", sum := "25843f828d11768e365d2c1bd993779ef7400aff72c391829b3665a6722eaf7c", func := "loop.example/g00885/laws.FnExactAddExact", spec := "fnExactAddExact", named := ["math/bits.divideError", "math/bits.overflowError"], apart := false }
def FnExactAddExactSaid : Prop := fnExactAddExactRow.holds Try.pinned (OpenSpec.ofChange fnExactAddExactSpec)

/-- ITS FALSE NEIGHBOUR: 'it returns false'. Refute it at one input. -/
def fnExactAddExactWrong : ChangeSpec := { name := "fnExactAddExact", fn := fun _ => fun
  | [d1, d2, d3] => { results := [.lit (.bool false)], args := [d1, d2, d3] }
  | _ => none }
def FnExactAddExactWrongFalsely : Prop := fnExactAddExactRow.holds Try.pinned (OpenSpec.ofChange fnExactAddExactWrong)

/-- 'laws.FnExactScaleExact': WHATEVER THE INPUT: true; the input reads as it did. -/
def fnExactScaleExactSpec : ChangeSpec := { name := "fnExactScaleExact", fn := fun _ => fun
  | [d1, d2, d3] => { results := [.lit (.bool true)], args := [d1, d2, d3] }
  | _ => none }
def fnExactScaleExactRow : OpenClaim := { program := "ytgifkopgnpdkiaa", sum := "25843f828d11768e365d2c1bd993779ef7400aff72c391829b3665a6722eaf7c", func := "loop.example/g00885/laws.FnExactScaleExact", spec := "fnExactScaleExact", named := ["math/bits.divideError", "math/bits.overflowError"], apart := false }
def FnExactScaleExactSaid : Prop := fnExactScaleExactRow.holds Try.pinned (OpenSpec.ofChange fnExactScaleExactSpec)

/-- ITS FALSE NEIGHBOUR: 'it returns false'. Refute it at one input. -/
def fnExactScaleExactWrong : ChangeSpec := { name := "fnExactScaleExact", fn := fun _ => fun
  | [d1, d2, d3] => { results := [.lit (.bool false)], args := [d1, d2, d3] }
  | _ => none }
def FnExactScaleExactWrongFalsely : Prop := fnExactScaleExactRow.holds Try.pinned (OpenSpec.ofChange fnExactScaleExactWrong)

/-- 'laws.FnExactCompareExact': WHATEVER THE INPUT: true; the input reads as it did. -/
def fnExactCompareExactSpec : ChangeSpec := { name := "fnExactCompareExact", fn := fun _ => fun
  | [d1, d2, d3] => { results := [.lit (.bool true)], args := [d1, d2, d3] }
  | _ => none }
def fnExactCompareExactRow : OpenClaim := { program := "ytgifkopgnpdkiaa", sum := "25843f828d11768e365d2c1bd993779ef7400aff72c391829b3665a6722eaf7c", func := "loop.example/g00885/laws.FnExactCompareExact", spec := "fnExactCompareExact", apart := false }
def FnExactCompareExactSaid : Prop := fnExactCompareExactRow.holds Try.pinned (OpenSpec.ofChange fnExactCompareExactSpec)

/-- ITS FALSE NEIGHBOUR: 'it returns false'. Refute it at one input. -/
def fnExactCompareExactWrong : ChangeSpec := { name := "fnExactCompareExact", fn := fun _ => fun
  | [d1, d2, d3] => { results := [.lit (.bool false)], args := [d1, d2, d3] }
  | _ => none }
def FnExactCompareExactWrongFalsely : Prop := fnExactCompareExactRow.holds Try.pinned (OpenSpec.ofChange fnExactCompareExactWrong)

/-- 'laws.FnExactMillionthsOf': WHATEVER THE INPUT: true; the input reads as it did. -/
def fnExactMillionthsOfSpec : ChangeSpec := { name := "fnExactMillionthsOf", fn := fun _ => fun
  | [d1, d2] => { results := [.lit (.bool true)], args := [d1, d2] }
  | _ => none }
def fnExactMillionthsOfRow : OpenClaim := { program := "ytgifkopgnpdkiaa", sum := "25843f828d11768e365d2c1bd993779ef7400aff72c391829b3665a6722eaf7c", func := "loop.example/g00885/laws.FnExactMillionthsOf", spec := "fnExactMillionthsOf", named := ["math/bits.divideError", "math/bits.overflowError"], apart := false }
def FnExactMillionthsOfSaid : Prop := fnExactMillionthsOfRow.holds Try.pinned (OpenSpec.ofChange fnExactMillionthsOfSpec)

/-- ITS FALSE NEIGHBOUR: 'it returns false'. Refute it at one input. -/
def fnExactMillionthsOfWrong : ChangeSpec := { name := "fnExactMillionthsOf", fn := fun _ => fun
  | [d1, d2] => { results := [.lit (.bool false)], args := [d1, d2] }
  | _ => none }
def FnExactMillionthsOfWrongFalsely : Prop := fnExactMillionthsOfRow.holds Try.pinned (OpenSpec.ofChange fnExactMillionthsOfWrong)

/-- 'laws.FnExactMeanExact': WHATEVER THE INPUT: true; the input reads as it did. -/
def fnExactMeanExactSpec : ChangeSpec := { name := "fnExactMeanExact", fn := fun _ => fun
  | [d1, d2] => { results := [.lit (.bool true)], args := [d1, d2] }
  | _ => none }
def fnExactMeanExactRow : OpenClaim := { program := "ytgifkopgnpdkiaa", sum := "25843f828d11768e365d2c1bd993779ef7400aff72c391829b3665a6722eaf7c", func := "loop.example/g00885/laws.FnExactMeanExact", spec := "fnExactMeanExact", named := ["math/bits.divideError", "math/bits.overflowError"], apart := false }
def FnExactMeanExactSaid : Prop := fnExactMeanExactRow.holds Try.pinned (OpenSpec.ofChange fnExactMeanExactSpec)

/-- ITS FALSE NEIGHBOUR: 'it returns false'. Refute it at one input. -/
def fnExactMeanExactWrong : ChangeSpec := { name := "fnExactMeanExact", fn := fun _ => fun
  | [d1, d2] => { results := [.lit (.bool false)], args := [d1, d2] }
  | _ => none }
def FnExactMeanExactWrongFalsely : Prop := fnExactMeanExactRow.holds Try.pinned (OpenSpec.ofChange fnExactMeanExactWrong)

/-- 'laws.FnExactSums': WHATEVER THE INPUT: true; the input reads as it did. -/
def fnExactSumsSpec : ChangeSpec := { name := "fnExactSums", fn := fun _ => fun
  | [d] => { results := [.lit (.bool true)], args := [d] }
  | _ => none }
def fnExactSumsRow : OpenClaim := { program := "ytgifkopgnpdkiaa", sum := "25843f828d11768e365d2c1bd993779ef7400aff72c391829b3665a6722eaf7c", func := "loop.example/g00885/laws.FnExactSums", spec := "fnExactSums", named := ["math/bits.divideError", "math/bits.overflowError"], apart := false }
def FnExactSumsSaid : Prop := fnExactSumsRow.holds Try.pinned (OpenSpec.ofChange fnExactSumsSpec)

/-- ITS FALSE NEIGHBOUR: 'it returns false'. Refute it at one input. -/
def fnExactSumsWrong : ChangeSpec := { name := "fnExactSums", fn := fun _ => fun
  | [d] => { results := [.lit (.bool false)], args := [d] }
  | _ => none }
def FnExactSumsWrongFalsely : Prop := fnExactSumsRow.holds Try.pinned (OpenSpec.ofChange fnExactSumsWrong)

/-- 'laws.FnExactScale': WHATEVER THE INPUT: true; the input reads as it did. -/
def fnExactScaleSpec : ChangeSpec := { name := "fnExactScale", fn := fun _ => fun
  | [d] => { results := [.lit (.bool true)], args := [d] }
  | _ => none }
def fnExactScaleRow : OpenClaim := { program := "ytgifkopgnpdkiaa", sum := "25843f828d11768e365d2c1bd993779ef7400aff72c391829b3665a6722eaf7c", func := "loop.example/g00885/laws.FnExactScale", spec := "fnExactScale", named := ["math/bits.divideError", "math/bits.overflowError"], apart := false }
def FnExactScaleSaid : Prop := fnExactScaleRow.holds Try.pinned (OpenSpec.ofChange fnExactScaleSpec)

/-- ITS FALSE NEIGHBOUR: 'it returns false'. Refute it at one input. -/
def fnExactScaleWrong : ChangeSpec := { name := "fnExactScale", fn := fun _ => fun
  | [d] => { results := [.lit (.bool false)], args := [d] }
  | _ => none }
def FnExactScaleWrongFalsely : Prop := fnExactScaleRow.holds Try.pinned (OpenSpec.ofChange fnExactScaleWrong)

/-- 'laws.FnExactMean': WHATEVER THE INPUT: true; the input reads as it did. -/
def fnExactMeanSpec : ChangeSpec := { name := "fnExactMean", fn := fun _ => fun
  | [d] => { results := [.lit (.bool true)], args := [d] }
  | _ => none }
def fnExactMeanRow : OpenClaim := { program := "ytgifkopgnpdkiaa", sum := "25843f828d11768e365d2c1bd993779ef7400aff72c391829b3665a6722eaf7c", func := "loop.example/g00885/laws.FnExactMean", spec := "fnExactMean", named := ["math/bits.divideError", "math/bits.overflowError"], apart := false }
def FnExactMeanSaid : Prop := fnExactMeanRow.holds Try.pinned (OpenSpec.ofChange fnExactMeanSpec)

/-- ITS FALSE NEIGHBOUR: 'it returns false'. Refute it at one input. -/
def fnExactMeanWrong : ChangeSpec := { name := "fnExactMean", fn := fun _ => fun
  | [d] => { results := [.lit (.bool false)], args := [d] }
  | _ => none }
def FnExactMeanWrongFalsely : Prop := fnExactMeanRow.holds Try.pinned (OpenSpec.ofChange fnExactMeanWrong)

/- THE SECOND FORM. 'bulk': how many values and letters a reading holds, each counted each time it is reached (what is shared counts as often as it is met; a slice's spare places count too). A statement '..UptoSaid' is the law's where the arguments, and the package variables that the reading takes, are together of bulk at most 1048576: NARROWER than '..Said'. Prove '..Said' where nothing that the law and all that it calls make is longer than what came in: it says more and counts as full. Else prove '..UptoSaid'. A law counts once. -/
mutual
def uptoBulk {H : Type} : DataW H → Nat
  | .lit (.string bytes) => bytes.length + 1
  | .lit _ => 1
  | .nil => 1
  | .ptr d => uptoBulk d + 1
  | .slice elems spare => uptoBulkAll elems + uptoBulkAll spare + 1
  | .agg parts => uptoBulkAll parts + 1
  | .iface _ d => uptoBulk d + 1
  | .map entries => uptoBulkEntries entries + 1
  | .held _ => 1
def uptoBulkAll {H : Type} : List (DataW H) → Nat
  | [] => 0
  | d :: r => uptoBulk d + uptoBulkAll r
def uptoBulkEntries {H : Type} : List (Lit × DataW H) → Nat
  | [] => 0
  | x :: r => uptoBulkEntry x + uptoBulkEntries r
def uptoBulkEntry {H : Type} : Lit × DataW H → Nat
  | (.string bytes, d) => bytes.length + uptoBulk d + 1
  | (_, d) => uptoBulk d + 1
 end
def uptoSmall : (H : Type) → List (DataW H) → Bool := fun _ ds => decide (uptoBulkAll ds ≤ 1048576)
def OpenSpec.upto (s : _root_.Go.ChangeSpec) : _root_.Go.OpenSpec := { _root_.Go.OpenSpec.ofChange s with cond := some uptoSmall }

/-- 'laws.FnExactIsExact', WHERE WHAT IT READS IS OF BULK AT MOST 1048576: true; the input reads as it did. -/
def fnExactIsExactUptoRow : OpenClaim := { program := "ytgifkopgnpdkiaa", sum := "25843f828d11768e365d2c1bd993779ef7400aff72c391829b3665a6722eaf7c", func := "loop.example/g00885/laws.FnExactIsExact", spec := "fnExactIsExact", apart := false, narrowed := true }
def FnExactIsExactUptoSaid : Prop := fnExactIsExactUptoRow.holds Try.pinned (OpenSpec.upto fnExactIsExactSpec)

/-- 'laws.FnExactMakeExact', WHERE WHAT IT READS IS OF BULK AT MOST 1048576: true; the input reads as it did. -/
def fnExactMakeExactUptoRow : OpenClaim := { program := "ytgifkopgnpdkiaa", sum := "25843f828d11768e365d2c1bd993779ef7400aff72c391829b3665a6722eaf7c", func := "loop.example/g00885/laws.FnExactMakeExact", spec := "fnExactMakeExact", named := ["math/bits.divideError", "math/bits.overflowError"], apart := false, narrowed := true }
def FnExactMakeExactUptoSaid : Prop := fnExactMakeExactUptoRow.holds Try.pinned (OpenSpec.upto fnExactMakeExactSpec)

/-- 'laws.FnExactAddExact', WHERE WHAT IT READS IS OF BULK AT MOST 1048576: true; the input reads as it did. -/
def fnExactAddExactUptoRow : OpenClaim := { program := "ytgifkopgnpdkiaa", sum := "25843f828d11768e365d2c1bd993779ef7400aff72c391829b3665a6722eaf7c", func := "loop.example/g00885/laws.FnExactAddExact", spec := "fnExactAddExact", named := ["math/bits.divideError", "math/bits.overflowError"], apart := false, narrowed := true }
def FnExactAddExactUptoSaid : Prop := fnExactAddExactUptoRow.holds Try.pinned (OpenSpec.upto fnExactAddExactSpec)

/-- 'laws.FnExactScaleExact', WHERE WHAT IT READS IS OF BULK AT MOST 1048576: true; the input reads as it did. -/
def fnExactScaleExactUptoRow : OpenClaim := { program := "ytgifkopgnpdkiaa", sum := "25843f828d11768e365d2c1bd993779ef7400aff72c391829b3665a6722eaf7c", func := "loop.example/g00885/laws.FnExactScaleExact", spec := "fnExactScaleExact", named := ["math/bits.divideError", "math/bits.overflowError"], apart := false, narrowed := true }
def FnExactScaleExactUptoSaid : Prop := fnExactScaleExactUptoRow.holds Try.pinned (OpenSpec.upto fnExactScaleExactSpec)

/-- 'laws.FnExactCompareExact', WHERE WHAT IT READS IS OF BULK AT MOST 1048576: true; the input reads as it did. -/
def fnExactCompareExactUptoRow : OpenClaim := { program := "ytgifkopgnpdkiaa", sum := "25843f828d11768e365d2c1bd993779ef7400aff72c391829b3665a6722eaf7c", func := "loop.example/g00885/laws.FnExactCompareExact", spec := "fnExactCompareExact", apart := false, narrowed := true }
def FnExactCompareExactUptoSaid : Prop := fnExactCompareExactUptoRow.holds Try.pinned (OpenSpec.upto fnExactCompareExactSpec)

/-- 'laws.FnExactMillionthsOf', WHERE WHAT IT READS IS OF BULK AT MOST 1048576: true; the input reads as it did. -/
def fnExactMillionthsOfUptoRow : OpenClaim := { program := "ytgifkopgnpdkiaa", sum := "25843f828d11768e365d2c1bd993779ef7400aff72c391829b3665a6722eaf7c", func := "loop.example/g00885/laws.FnExactMillionthsOf", spec := "fnExactMillionthsOf", named := ["math/bits.divideError", "math/bits.overflowError"], apart := false, narrowed := true }
def FnExactMillionthsOfUptoSaid : Prop := fnExactMillionthsOfUptoRow.holds Try.pinned (OpenSpec.upto fnExactMillionthsOfSpec)

/-- 'laws.FnExactMeanExact', WHERE WHAT IT READS IS OF BULK AT MOST 1048576: true; the input reads as it did. -/
def fnExactMeanExactUptoRow : OpenClaim := { program := "ytgifkopgnpdkiaa", sum := "25843f828d11768e365d2c1bd993779ef7400aff72c391829b3665a6722eaf7c", func := "loop.example/g00885/laws.FnExactMeanExact", spec := "fnExactMeanExact", named := ["math/bits.divideError", "math/bits.overflowError"], apart := false, narrowed := true }
def FnExactMeanExactUptoSaid : Prop := fnExactMeanExactUptoRow.holds Try.pinned (OpenSpec.upto fnExactMeanExactSpec)

/-- 'laws.FnExactSums', WHERE WHAT IT READS IS OF BULK AT MOST 1048576: true; the input reads as it did. -/
def fnExactSumsUptoRow : OpenClaim := { program := "ytgifkopgnpdkiaa", sum := "25843f828d11768e365d2c1bd993779ef7400aff72c391829b3665a6722eaf7c", func := "loop.example/g00885/laws.FnExactSums", spec := "fnExactSums", named := ["math/bits.divideError", "math/bits.overflowError"], apart := false, narrowed := true }
def FnExactSumsUptoSaid : Prop := fnExactSumsUptoRow.holds Try.pinned (OpenSpec.upto fnExactSumsSpec)

/-- 'laws.FnExactScale', WHERE WHAT IT READS IS OF BULK AT MOST 1048576: true; the input reads as it did. -/
def fnExactScaleUptoRow : OpenClaim := { program := "ytgifkopgnpdkiaa", sum := "25843f828d11768e365d2c1bd993779ef7400aff72c391829b3665a6722eaf7c", func := "loop.example/g00885/laws.FnExactScale", spec := "fnExactScale", named := ["math/bits.divideError", "math/bits.overflowError"], apart := false, narrowed := true }
def FnExactScaleUptoSaid : Prop := fnExactScaleUptoRow.holds Try.pinned (OpenSpec.upto fnExactScaleSpec)

/-- 'laws.FnExactMean', WHERE WHAT IT READS IS OF BULK AT MOST 1048576: true; the input reads as it did. -/
def fnExactMeanUptoRow : OpenClaim := { program := "ytgifkopgnpdkiaa", sum := "25843f828d11768e365d2c1bd993779ef7400aff72c391829b3665a6722eaf7c", func := "loop.example/g00885/laws.FnExactMean", spec := "fnExactMean", named := ["math/bits.divideError", "math/bits.overflowError"], apart := false, narrowed := true }
def FnExactMeanUptoSaid : Prop := fnExactMeanUptoRow.holds Try.pinned (OpenSpec.upto fnExactMeanSpec)

end Rows
end Go.Proofs.Ytgifkopgnpdkiaa
