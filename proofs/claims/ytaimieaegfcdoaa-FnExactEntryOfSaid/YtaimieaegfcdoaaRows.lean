/-
  No cell of these rows narrows 'for every input' (looked for: loops, veiled, ifaces, maps, wideKeys, modest, calm, conditions, laid).
  DERIVED. THE GIVEN ROWS OF THIS SEAT. 6 by the template 'for every input the law returns true; each argument reads behind the call as it read before'; 0 by the template 'total and deterministic' (their statements: YtaimieaegfcdoaaTotals.lean).
  GIVEN WITH THE SEED: the statements are not yours to turn. If you find one false, say at which input.
  Laid BY PROGRAM, IN A SANDBOX (cutbox-rows.mjs): the forced cells as the released guide's own fill.sh prints them over the translation 7ab50a4d2340adff… (all of the seat's roots in one cut). By AI agents, Wed Nov 11 2026. No macro, syntax, notation, axiom, sorry.
-/
import Derived.Test.YtaimieaegfcdoaaChecked
import GoSem.Claim
import GoSem.ClaimJoined
import GoSem.ClaimMapViews
import Derived.JoinedTies
import Derived.KernelRfl
namespace Go.Proofs.Ytaimieaegfcdoaa
/- THE CELL 'sum', in the pinned program and in every row, IS THE sha256 OF THE DUMP (.gsa) THAT YtaimieaegfcdoaaProg.lean LOADS. Nothing in Lean hashes anything: it is a label: what it is worth is what the hold of that sum in a sandbox is worth. -/
noncomputable def Try.pinned : Pinned := { name := "ytaimieaegfcdoaa", sum := "7ab50a4d2340adff769006d509ab41fff661f15375b1522bf028e9f8eba2c45d", checked := Try.checked }
namespace Rows
def none {H : Type} : Left H := { results := [], args := [] }

/-- 'laws.FnExactCheckSum': WHATEVER THE INPUT: true; the input reads as it did. -/
def fnExactCheckSumSpec : ChangeSpec := { name := "fnExactCheckSum", fn := fun _ => fun
  | [d] => { results := [.lit (.bool true)], args := [d] }
  | _ => none }
def fnExactCheckSumRow : OpenClaim := { program := "ytaimieaegfcdoaa", sum := "7ab50a4d2340adff769006d509ab41fff661f15375b1522bf028e9f8eba2c45d", func := "loop.example/g00885/laws.FnExactCheckSum", spec := "fnExactCheckSum", apart := false }
def FnExactCheckSumSaid : Prop := fnExactCheckSumRow.holds Try.pinned (OpenSpec.ofChange fnExactCheckSumSpec)

/-- ITS FALSE NEIGHBOUR: 'it returns false'. Refute it at one input. -/
def fnExactCheckSumWrong : ChangeSpec := { name := "fnExactCheckSum", fn := fun _ => fun
  | [d] => { results := [.lit (.bool false)], args := [d] }
  | _ => none }
def FnExactCheckSumWrongFalsely : Prop := fnExactCheckSumRow.holds Try.pinned (OpenSpec.ofChange fnExactCheckSumWrong)

/-- 'laws.FnExactCompressBytes': WHATEVER THE INPUT: true; the input reads as it did. -/
def fnExactCompressBytesSpec : ChangeSpec := { name := "fnExactCompressBytes", fn := fun _ => fun
  | [d] => { results := [.lit (.bool true)], args := [d] }
  | _ => none }
def fnExactCompressBytesRow : OpenClaim := { program := "ytaimieaegfcdoaa", sum := "7ab50a4d2340adff769006d509ab41fff661f15375b1522bf028e9f8eba2c45d", func := "loop.example/g00885/laws.FnExactCompressBytes", spec := "fnExactCompressBytes", unfollowed := true, recurses := true, apart := false }
def FnExactCompressBytesSaid : Prop := fnExactCompressBytesRow.holds Try.pinned (OpenSpec.ofChange fnExactCompressBytesSpec)

/-- ITS FALSE NEIGHBOUR: 'it returns false'. Refute it at one input. -/
def fnExactCompressBytesWrong : ChangeSpec := { name := "fnExactCompressBytes", fn := fun _ => fun
  | [d] => { results := [.lit (.bool false)], args := [d] }
  | _ => none }
def FnExactCompressBytesWrongFalsely : Prop := fnExactCompressBytesRow.holds Try.pinned (OpenSpec.ofChange fnExactCompressBytesWrong)

/-- 'laws.FnExactExpandBytes': WHATEVER THE INPUT: true; the input reads as it did. -/
def fnExactExpandBytesSpec : ChangeSpec := { name := "fnExactExpandBytes", fn := fun _ => fun
  | [d] => { results := [.lit (.bool true)], args := [d] }
  | _ => none }
def fnExactExpandBytesRow : OpenClaim := { program := "ytaimieaegfcdoaa", sum := "7ab50a4d2340adff769006d509ab41fff661f15375b1522bf028e9f8eba2c45d", func := "loop.example/g00885/laws.FnExactExpandBytes", spec := "fnExactExpandBytes", inPlace := ["internal/bytealg.MakeNoZero"], unfollowed := true, recurses := true, apart := false }
def FnExactExpandBytesSaid : Prop := fnExactExpandBytesRow.holds Try.pinned (OpenSpec.ofChange fnExactExpandBytesSpec)

/-- ITS FALSE NEIGHBOUR: 'it returns false'. Refute it at one input. -/
def fnExactExpandBytesWrong : ChangeSpec := { name := "fnExactExpandBytes", fn := fun _ => fun
  | [d] => { results := [.lit (.bool false)], args := [d] }
  | _ => none }
def FnExactExpandBytesWrongFalsely : Prop := fnExactExpandBytesRow.holds Try.pinned (OpenSpec.ofChange fnExactExpandBytesWrong)

/-- 'laws.FnBytes': WHATEVER THE INPUT: true; the input reads as it did. -/
def fnBytesSpec : ChangeSpec := { name := "fnBytes", fn := fun _ => fun
  | [d] => { results := [.lit (.bool true)], args := [d] }
  | _ => none }
def fnBytesRow : OpenClaim := { program := "ytaimieaegfcdoaa", sum := "7ab50a4d2340adff769006d509ab41fff661f15375b1522bf028e9f8eba2c45d", func := "loop.example/g00885/laws.FnBytes", spec := "fnBytes", inPlace := ["internal/bytealg.MakeNoZero"], unfollowed := true, recurses := true, apart := false }
def FnBytesSaid : Prop := fnBytesRow.holds Try.pinned (OpenSpec.ofChange fnBytesSpec)

/-- ITS FALSE NEIGHBOUR: 'it returns false'. Refute it at one input. -/
def fnBytesWrong : ChangeSpec := { name := "fnBytes", fn := fun _ => fun
  | [d] => { results := [.lit (.bool false)], args := [d] }
  | _ => none }
def FnBytesWrongFalsely : Prop := fnBytesRow.holds Try.pinned (OpenSpec.ofChange fnBytesWrong)

/-- 'laws.FnExactIsDatabase': WHATEVER THE INPUT: true; the input reads as it did. -/
def fnExactIsDatabaseSpec : ChangeSpec := { name := "fnExactIsDatabase", fn := fun _ => fun
  | [d] => { results := [.lit (.bool true)], args := [d] }
  | _ => none }
def fnExactIsDatabaseRow : OpenClaim := { program := "ytaimieaegfcdoaa", sum := "7ab50a4d2340adff769006d509ab41fff661f15375b1522bf028e9f8eba2c45d", func := "loop.example/g00885/laws.FnExactIsDatabase", spec := "fnExactIsDatabase", apart := false }
def FnExactIsDatabaseSaid : Prop := fnExactIsDatabaseRow.holds Try.pinned (OpenSpec.ofChange fnExactIsDatabaseSpec)

/-- ITS FALSE NEIGHBOUR: 'it returns false'. Refute it at one input. -/
def fnExactIsDatabaseWrong : ChangeSpec := { name := "fnExactIsDatabase", fn := fun _ => fun
  | [d] => { results := [.lit (.bool false)], args := [d] }
  | _ => none }
def FnExactIsDatabaseWrongFalsely : Prop := fnExactIsDatabaseRow.holds Try.pinned (OpenSpec.ofChange fnExactIsDatabaseWrong)

/-- 'laws.FnExactEntryOf': WHATEVER THE INPUT: true; the input reads as it did. -/
def fnExactEntryOfSpec : ChangeSpec := { name := "fnExactEntryOf", fn := fun _ => fun
  | [d1, d2, d3] => { results := [.lit (.bool true)], args := [d1, d2, d3] }
  | _ => none }
def fnExactEntryOfRow : OpenClaim := { program := "ytaimieaegfcdoaa", sum := "7ab50a4d2340adff769006d509ab41fff661f15375b1522bf028e9f8eba2c45d", func := "loop.example/g00885/laws.FnExactEntryOf", spec := "fnExactEntryOf", apart := false }
def FnExactEntryOfSaid : Prop := fnExactEntryOfRow.holds Try.pinned (OpenSpec.ofChange fnExactEntryOfSpec)

/-- ITS FALSE NEIGHBOUR: 'it returns false'. Refute it at one input. -/
def fnExactEntryOfWrong : ChangeSpec := { name := "fnExactEntryOf", fn := fun _ => fun
  | [d1, d2, d3] => { results := [.lit (.bool false)], args := [d1, d2, d3] }
  | _ => none }
def FnExactEntryOfWrongFalsely : Prop := fnExactEntryOfRow.holds Try.pinned (OpenSpec.ofChange fnExactEntryOfWrong)

/- THE SECOND FORM. 'bulk': how many values and letters a reading holds, each counted each time it is reached (what is shared counts as often as it is met; a slice's spare places count too). A statement '..UptoSaid' is the law's where the arguments, and the package variables that the reading takes, are together of bulk at most 1048576: NARROWER than '..Said'. Prove '..Said' where nothing that the law and all that it calls make is longer than what came in: it says more and counts as full. Else prove '..UptoSaid'. A law counts once. -/
mutual
def uptoBulk {H : Type} : DataW H → Nat
  | .lit (.string bytes) => bytes.length + 1
  | .lit _ => 1
  | .nil => 1
  | .ptr d => uptoBulk d + 1
  | .slice elems spare => uptoBulkAll elems + uptoBulkAll spare + 1
  | .agg parts => uptoBulkAll parts + 1
  | .iface _ d => uptoBulk d + 1
  | .map entries => uptoBulkEntries entries + 1
  | .held _ => 1
def uptoBulkAll {H : Type} : List (DataW H) → Nat
  | [] => 0
  | d :: r => uptoBulk d + uptoBulkAll r
def uptoBulkEntries {H : Type} : List (Lit × DataW H) → Nat
  | [] => 0
  | x :: r => uptoBulkEntry x + uptoBulkEntries r
def uptoBulkEntry {H : Type} : Lit × DataW H → Nat
  | (.string bytes, d) => bytes.length + uptoBulk d + 1
  | (_, d) => uptoBulk d + 1
 end
def uptoSmall : (H : Type) → List (DataW H) → Bool := fun _ ds => decide (uptoBulkAll ds ≤ 1048576)
def OpenSpec.upto (s : _root_.Go.ChangeSpec) : _root_.Go.OpenSpec := { _root_.Go.OpenSpec.ofChange s with cond := some uptoSmall }

/-- 'laws.FnExactCheckSum', WHERE WHAT IT READS IS OF BULK AT MOST 1048576: true; the input reads as it did. -/
def fnExactCheckSumUptoRow : OpenClaim := { program := "ytaimieaegfcdoaa", sum := "7ab50a4d2340adff769006d509ab41fff661f15375b1522bf028e9f8eba2c45d", func := "loop.example/g00885/laws.FnExactCheckSum", spec := "fnExactCheckSum", apart := false, narrowed := true }
def FnExactCheckSumUptoSaid : Prop := fnExactCheckSumUptoRow.holds Try.pinned (OpenSpec.upto fnExactCheckSumSpec)

/-- 'laws.FnExactCompressBytes', WHERE WHAT IT READS IS OF BULK AT MOST 1048576: true; the input reads as it did. -/
def fnExactCompressBytesUptoRow : OpenClaim := { program := "ytaimieaegfcdoaa", sum := "7ab50a4d2340adff769006d509ab41fff661f15375b1522bf028e9f8eba2c45d", func := "loop.example/g00885/laws.FnExactCompressBytes", spec := "fnExactCompressBytes", unfollowed := true, recurses := true, apart := false, narrowed := true }
def FnExactCompressBytesUptoSaid : Prop := fnExactCompressBytesUptoRow.holds Try.pinned (OpenSpec.upto fnExactCompressBytesSpec)

/-- 'laws.FnExactExpandBytes', WHERE WHAT IT READS IS OF BULK AT MOST 1048576: true; the input reads as it did. -/
def fnExactExpandBytesUptoRow : OpenClaim := { program := "ytaimieaegfcdoaa", sum := "7ab50a4d2340adff769006d509ab41fff661f15375b1522bf028e9f8eba2c45d", func := "loop.example/g00885/laws.FnExactExpandBytes", spec := "fnExactExpandBytes", inPlace := ["internal/bytealg.MakeNoZero"], unfollowed := true, recurses := true, apart := false, narrowed := true }
def FnExactExpandBytesUptoSaid : Prop := fnExactExpandBytesUptoRow.holds Try.pinned (OpenSpec.upto fnExactExpandBytesSpec)

/-- 'laws.FnBytes', WHERE WHAT IT READS IS OF BULK AT MOST 1048576: true; the input reads as it did. -/
def fnBytesUptoRow : OpenClaim := { program := "ytaimieaegfcdoaa", sum := "7ab50a4d2340adff769006d509ab41fff661f15375b1522bf028e9f8eba2c45d", func := "loop.example/g00885/laws.FnBytes", spec := "fnBytes", inPlace := ["internal/bytealg.MakeNoZero"], unfollowed := true, recurses := true, apart := false, narrowed := true }
def FnBytesUptoSaid : Prop := fnBytesUptoRow.holds Try.pinned (OpenSpec.upto fnBytesSpec)

/-- 'laws.FnExactIsDatabase', WHERE WHAT IT READS IS OF BULK AT MOST 1048576: true; the input reads as it did. -/
def fnExactIsDatabaseUptoRow : OpenClaim := { program := "ytaimieaegfcdoaa", sum := "7ab50a4d2340adff769006d509ab41fff661f15375b1522bf028e9f8eba2c45d", func := "loop.example/g00885/laws.FnExactIsDatabase", spec := "fnExactIsDatabase", apart := false, narrowed := true }
def FnExactIsDatabaseUptoSaid : Prop := fnExactIsDatabaseUptoRow.holds Try.pinned (OpenSpec.upto fnExactIsDatabaseSpec)

/-- 'laws.FnExactEntryOf', WHERE WHAT IT READS IS OF BULK AT MOST 1048576: true; the input reads as it did. -/
def fnExactEntryOfUptoRow : OpenClaim := { program := "ytaimieaegfcdoaa", sum := "7ab50a4d2340adff769006d509ab41fff661f15375b1522bf028e9f8eba2c45d", func := "loop.example/g00885/laws.FnExactEntryOf", spec := "fnExactEntryOf", apart := false, narrowed := true }
def FnExactEntryOfUptoSaid : Prop := fnExactEntryOfUptoRow.holds Try.pinned (OpenSpec.upto fnExactEntryOfSpec)

end Rows
end Go.Proofs.Ytaimieaegfcdoaa
