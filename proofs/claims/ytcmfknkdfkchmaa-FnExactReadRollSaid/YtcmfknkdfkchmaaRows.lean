/-
  No cell of these rows narrows 'for every input' (looked for: loops, veiled, ifaces, maps, wideKeys, modest, calm, conditions, laid).
  DERIVED. THE GIVEN ROWS OF THIS SEAT. 12 by the template 'for every input the law returns true; each argument reads behind the call as it read before'; 0 by the template 'total and deterministic' (their statements: YtcmfknkdfkchmaaTotals.lean).
  GIVEN WITH THE SEED: the statements are not yours to turn. If you find one false, say at which input.
  Laid BY PROGRAM, IN A SANDBOX (cutbox-rows.mjs): the forced cells as the released guide's own fill.sh prints them over the translation 2647beaabaecba2f… (all of the seat's roots in one cut). By AI agents, Wed Nov 11 2026. No macro, syntax, notation, axiom, sorry.
-/
import Derived.Test.YtcmfknkdfkchmaaChecked
import GoSem.Claim
import GoSem.ClaimJoined
import GoSem.ClaimMapViews
import Derived.JoinedTies
import Derived.KernelRfl
namespace Go.Proofs.Ytcmfknkdfkchmaa
/- THE CELL 'sum', in the pinned program and in every row, IS THE sha256 OF THE DUMP (.gsa) THAT YtcmfknkdfkchmaaProg.lean LOADS. Nothing in Lean hashes anything: it is a label: what it is worth is what the hold of that sum in a sandbox is worth. -/
noncomputable def Try.pinned : Pinned := { name := "ytcmfknkdfkchmaa", sum := "2647beaabaecba2fe79eee522b0be644db0549f44a3a111308732bc69f18b646", checked := Try.checked }
namespace Rows
def none {H : Type} : Left H := { results := [], args := [] }

/-- 'laws.FnRolls': WHATEVER THE INPUT: true; the input reads as it did. -/
def fnRollsSpec : ChangeSpec := { name := "fnRolls", fn := fun _ => fun
  | [d] => { results := [.lit (.bool true)], args := [d] }
  | _ => none }
def fnRollsRow : OpenClaim := { program := "ytcmfknkdfkchmaa", sum := "2647beaabaecba2fe79eee522b0be644db0549f44a3a111308732bc69f18b646", func := "loop.example/g00885/laws.FnRolls", spec := "fnRolls", apart := false }
def FnRollsSaid : Prop := fnRollsRow.holds Try.pinned (OpenSpec.ofChange fnRollsSpec)

/-- ITS FALSE NEIGHBOUR: 'it returns false'. Refute it at one input. -/
def fnRollsWrong : ChangeSpec := { name := "fnRolls", fn := fun _ => fun
  | [d] => { results := [.lit (.bool false)], args := [d] }
  | _ => none }
def FnRollsWrongFalsely : Prop := fnRollsRow.holds Try.pinned (OpenSpec.ofChange fnRollsWrong)

/-- 'laws.FnSeeds': WHATEVER THE INPUT: true; the input reads as it did. -/
def fnSeedsSpec : ChangeSpec := { name := "fnSeeds", fn := fun _ => fun
  | [d] => { results := [.lit (.bool true)], args := [d] }
  | _ => none }
def fnSeedsRow : OpenClaim := { program := "ytcmfknkdfkchmaa", sum := "2647beaabaecba2fe79eee522b0be644db0549f44a3a111308732bc69f18b646", func := "loop.example/g00885/laws.FnSeeds", spec := "fnSeeds", apart := false }
def FnSeedsSaid : Prop := fnSeedsRow.holds Try.pinned (OpenSpec.ofChange fnSeedsSpec)

/-- ITS FALSE NEIGHBOUR: 'it returns false'. Refute it at one input. -/
def fnSeedsWrong : ChangeSpec := { name := "fnSeeds", fn := fun _ => fun
  | [d] => { results := [.lit (.bool false)], args := [d] }
  | _ => none }
def FnSeedsWrongFalsely : Prop := fnSeedsRow.holds Try.pinned (OpenSpec.ofChange fnSeedsWrong)

/-- 'laws.FnStratified': WHATEVER THE INPUT: true; the input reads as it did. -/
def fnStratifiedSpec : ChangeSpec := { name := "fnStratified", fn := fun _ => fun
  | [d] => { results := [.lit (.bool true)], args := [d] }
  | _ => none }
def fnStratifiedRow : OpenClaim := { program := "ytcmfknkdfkchmaa", sum := "2647beaabaecba2fe79eee522b0be644db0549f44a3a111308732bc69f18b646", func := "loop.example/g00885/laws.FnStratified", spec := "fnStratified", apart := false }
def FnStratifiedSaid : Prop := fnStratifiedRow.holds Try.pinned (OpenSpec.ofChange fnStratifiedSpec)

/-- ITS FALSE NEIGHBOUR: 'it returns false'. Refute it at one input. -/
def fnStratifiedWrong : ChangeSpec := { name := "fnStratified", fn := fun _ => fun
  | [d] => { results := [.lit (.bool false)], args := [d] }
  | _ => none }
def FnStratifiedWrongFalsely : Prop := fnStratifiedRow.holds Try.pinned (OpenSpec.ofChange fnStratifiedWrong)

/-- 'laws.FnExactIsRoll': WHATEVER THE INPUT: true; the input reads as it did. -/
def fnExactIsRollSpec : ChangeSpec := { name := "fnExactIsRoll", fn := fun _ => fun
  | [d1, d2] => { results := [.lit (.bool true)], args := [d1, d2] }
  | _ => none }
def fnExactIsRollRow : OpenClaim := { program := "ytcmfknkdfkchmaa", sum := "2647beaabaecba2fe79eee522b0be644db0549f44a3a111308732bc69f18b646", func := "loop.example/g00885/laws.FnExactIsRoll", spec := "fnExactIsRoll", apart := false }
def FnExactIsRollSaid : Prop := fnExactIsRollRow.holds Try.pinned (OpenSpec.ofChange fnExactIsRollSpec)

/-- ITS FALSE NEIGHBOUR: 'it returns false'. Refute it at one input. -/
def fnExactIsRollWrong : ChangeSpec := { name := "fnExactIsRoll", fn := fun _ => fun
  | [d1, d2] => { results := [.lit (.bool false)], args := [d1, d2] }
  | _ => none }
def FnExactIsRollWrongFalsely : Prop := fnExactIsRollRow.holds Try.pinned (OpenSpec.ofChange fnExactIsRollWrong)

/-- 'laws.FnExactAllRolls': WHATEVER THE INPUT: true; the input reads as it did. -/
def fnExactAllRollsSpec : ChangeSpec := { name := "fnExactAllRolls", fn := fun _ => fun
  | [d] => { results := [.lit (.bool true)], args := [d] }
  | _ => none }
def fnExactAllRollsRow : OpenClaim := { program := "ytcmfknkdfkchmaa", sum := "2647beaabaecba2fe79eee522b0be644db0549f44a3a111308732bc69f18b646", func := "loop.example/g00885/laws.FnExactAllRolls", spec := "fnExactAllRolls", apart := false }
def FnExactAllRollsSaid : Prop := fnExactAllRollsRow.holds Try.pinned (OpenSpec.ofChange fnExactAllRollsSpec)

/-- ITS FALSE NEIGHBOUR: 'it returns false'. Refute it at one input. -/
def fnExactAllRollsWrong : ChangeSpec := { name := "fnExactAllRolls", fn := fun _ => fun
  | [d] => { results := [.lit (.bool false)], args := [d] }
  | _ => none }
def FnExactAllRollsWrongFalsely : Prop := fnExactAllRollsRow.holds Try.pinned (OpenSpec.ofChange fnExactAllRollsWrong)

/-- 'laws.FnExactRollWeight': WHATEVER THE INPUT: true; the input reads as it did. -/
def fnExactRollWeightSpec : ChangeSpec := { name := "fnExactRollWeight", fn := fun _ => fun
  | [d1, d2] => { results := [.lit (.bool true)], args := [d1, d2] }
  | _ => none }
def fnExactRollWeightRow : OpenClaim := { program := "ytcmfknkdfkchmaa", sum := "2647beaabaecba2fe79eee522b0be644db0549f44a3a111308732bc69f18b646", func := "loop.example/g00885/laws.FnExactRollWeight", spec := "fnExactRollWeight", apart := false }
def FnExactRollWeightSaid : Prop := fnExactRollWeightRow.holds Try.pinned (OpenSpec.ofChange fnExactRollWeightSpec)

/-- ITS FALSE NEIGHBOUR: 'it returns false'. Refute it at one input. -/
def fnExactRollWeightWrong : ChangeSpec := { name := "fnExactRollWeight", fn := fun _ => fun
  | [d1, d2] => { results := [.lit (.bool false)], args := [d1, d2] }
  | _ => none }
def FnExactRollWeightWrongFalsely : Prop := fnExactRollWeightRow.holds Try.pinned (OpenSpec.ofChange fnExactRollWeightWrong)

/-- 'laws.FnExactRollNumber': WHATEVER THE INPUT: true; the input reads as it did. -/
def fnExactRollNumberSpec : ChangeSpec := { name := "fnExactRollNumber", fn := fun _ => fun
  | [d1, d2] => { results := [.lit (.bool true)], args := [d1, d2] }
  | _ => none }
def fnExactRollNumberRow : OpenClaim := { program := "ytcmfknkdfkchmaa", sum := "2647beaabaecba2fe79eee522b0be644db0549f44a3a111308732bc69f18b646", func := "loop.example/g00885/laws.FnExactRollNumber", spec := "fnExactRollNumber", apart := false }
def FnExactRollNumberSaid : Prop := fnExactRollNumberRow.holds Try.pinned (OpenSpec.ofChange fnExactRollNumberSpec)

/-- ITS FALSE NEIGHBOUR: 'it returns false'. Refute it at one input. -/
def fnExactRollNumberWrong : ChangeSpec := { name := "fnExactRollNumber", fn := fun _ => fun
  | [d1, d2] => { results := [.lit (.bool false)], args := [d1, d2] }
  | _ => none }
def FnExactRollNumberWrongFalsely : Prop := fnExactRollNumberRow.holds Try.pinned (OpenSpec.ofChange fnExactRollNumberWrong)

/-- 'laws.FnExactNextSeed': WHATEVER THE INPUT: true; the input reads as it did. -/
def fnExactNextSeedSpec : ChangeSpec := { name := "fnExactNextSeed", fn := fun _ => fun
  | [d] => { results := [.lit (.bool true)], args := [d] }
  | _ => none }
def fnExactNextSeedRow : OpenClaim := { program := "ytcmfknkdfkchmaa", sum := "2647beaabaecba2fe79eee522b0be644db0549f44a3a111308732bc69f18b646", func := "loop.example/g00885/laws.FnExactNextSeed", spec := "fnExactNextSeed", apart := false }
def FnExactNextSeedSaid : Prop := fnExactNextSeedRow.holds Try.pinned (OpenSpec.ofChange fnExactNextSeedSpec)

/-- ITS FALSE NEIGHBOUR: 'it returns false'. Refute it at one input. -/
def fnExactNextSeedWrong : ChangeSpec := { name := "fnExactNextSeed", fn := fun _ => fun
  | [d] => { results := [.lit (.bool false)], args := [d] }
  | _ => none }
def FnExactNextSeedWrongFalsely : Prop := fnExactNextSeedRow.holds Try.pinned (OpenSpec.ofChange fnExactNextSeedWrong)

/-- 'laws.FnExactRollFrom': WHATEVER THE INPUT: true; the input reads as it did. -/
def fnExactRollFromSpec : ChangeSpec := { name := "fnExactRollFrom", fn := fun _ => fun
  | [d1, d2] => { results := [.lit (.bool true)], args := [d1, d2] }
  | _ => none }
def fnExactRollFromRow : OpenClaim := { program := "ytcmfknkdfkchmaa", sum := "2647beaabaecba2fe79eee522b0be644db0549f44a3a111308732bc69f18b646", func := "loop.example/g00885/laws.FnExactRollFrom", spec := "fnExactRollFrom", apart := false }
def FnExactRollFromSaid : Prop := fnExactRollFromRow.holds Try.pinned (OpenSpec.ofChange fnExactRollFromSpec)

/-- ITS FALSE NEIGHBOUR: 'it returns false'. Refute it at one input. -/
def fnExactRollFromWrong : ChangeSpec := { name := "fnExactRollFrom", fn := fun _ => fun
  | [d1, d2] => { results := [.lit (.bool false)], args := [d1, d2] }
  | _ => none }
def FnExactRollFromWrongFalsely : Prop := fnExactRollFromRow.holds Try.pinned (OpenSpec.ofChange fnExactRollFromWrong)

/-- 'laws.FnExactRollsFrom': WHATEVER THE INPUT: true; the input reads as it did. -/
def fnExactRollsFromSpec : ChangeSpec := { name := "fnExactRollsFrom", fn := fun _ => fun
  | [d1, d2, d3] => { results := [.lit (.bool true)], args := [d1, d2, d3] }
  | _ => none }
def fnExactRollsFromRow : OpenClaim := { program := "ytcmfknkdfkchmaa", sum := "2647beaabaecba2fe79eee522b0be644db0549f44a3a111308732bc69f18b646", func := "loop.example/g00885/laws.FnExactRollsFrom", spec := "fnExactRollsFrom", apart := false }
def FnExactRollsFromSaid : Prop := fnExactRollsFromRow.holds Try.pinned (OpenSpec.ofChange fnExactRollsFromSpec)

/-- ITS FALSE NEIGHBOUR: 'it returns false'. Refute it at one input. -/
def fnExactRollsFromWrong : ChangeSpec := { name := "fnExactRollsFrom", fn := fun _ => fun
  | [d1, d2, d3] => { results := [.lit (.bool false)], args := [d1, d2, d3] }
  | _ => none }
def FnExactRollsFromWrongFalsely : Prop := fnExactRollsFromRow.holds Try.pinned (OpenSpec.ofChange fnExactRollsFromWrong)

/-- 'laws.FnExactStratifiedRolls': WHATEVER THE INPUT: true; the input reads as it did. -/
def fnExactStratifiedRollsSpec : ChangeSpec := { name := "fnExactStratifiedRolls", fn := fun _ => fun
  | [d1, d2, d3] => { results := [.lit (.bool true)], args := [d1, d2, d3] }
  | _ => none }
def fnExactStratifiedRollsRow : OpenClaim := { program := "ytcmfknkdfkchmaa", sum := "2647beaabaecba2fe79eee522b0be644db0549f44a3a111308732bc69f18b646", func := "loop.example/g00885/laws.FnExactStratifiedRolls", spec := "fnExactStratifiedRolls", apart := false }
def FnExactStratifiedRollsSaid : Prop := fnExactStratifiedRollsRow.holds Try.pinned (OpenSpec.ofChange fnExactStratifiedRollsSpec)

/-- ITS FALSE NEIGHBOUR: 'it returns false'. Refute it at one input. -/
def fnExactStratifiedRollsWrong : ChangeSpec := { name := "fnExactStratifiedRolls", fn := fun _ => fun
  | [d1, d2, d3] => { results := [.lit (.bool false)], args := [d1, d2, d3] }
  | _ => none }
def FnExactStratifiedRollsWrongFalsely : Prop := fnExactStratifiedRollsRow.holds Try.pinned (OpenSpec.ofChange fnExactStratifiedRollsWrong)

/-- 'laws.FnExactReadRoll': WHATEVER THE INPUT: true; the input reads as it did. -/
def fnExactReadRollSpec : ChangeSpec := { name := "fnExactReadRoll", fn := fun _ => fun
  | [d1, d2] => { results := [.lit (.bool true)], args := [d1, d2] }
  | _ => none }
def fnExactReadRollRow : OpenClaim := { program := "ytcmfknkdfkchmaa", sum := "2647beaabaecba2fe79eee522b0be644db0549f44a3a111308732bc69f18b646", func := "loop.example/g00885/laws.FnExactReadRoll", spec := "fnExactReadRoll", apart := false }
def FnExactReadRollSaid : Prop := fnExactReadRollRow.holds Try.pinned (OpenSpec.ofChange fnExactReadRollSpec)

/-- ITS FALSE NEIGHBOUR: 'it returns false'. Refute it at one input. -/
def fnExactReadRollWrong : ChangeSpec := { name := "fnExactReadRoll", fn := fun _ => fun
  | [d1, d2] => { results := [.lit (.bool false)], args := [d1, d2] }
  | _ => none }
def FnExactReadRollWrongFalsely : Prop := fnExactReadRollRow.holds Try.pinned (OpenSpec.ofChange fnExactReadRollWrong)

/- THE SECOND FORM. 'bulk': how many values and letters a reading holds, each counted each time it is reached (what is shared counts as often as it is met; a slice's spare places count too). A statement '..UptoSaid' is the law's where the arguments, and the package variables that the reading takes, are together of bulk at most 1048576: NARROWER than '..Said'. Prove '..Said' where nothing that the law and all that it calls make is longer than what came in: it says more and counts as full. Else prove '..UptoSaid'. A law counts once. -/
mutual
def uptoBulk {H : Type} : DataW H → Nat
  | .lit (.string bytes) => bytes.length + 1
  | .lit _ => 1
  | .nil => 1
  | .ptr d => uptoBulk d + 1
  | .slice elems spare => uptoBulkAll elems + uptoBulkAll spare + 1
  | .agg parts => uptoBulkAll parts + 1
  | .iface _ d => uptoBulk d + 1
  | .map entries => uptoBulkEntries entries + 1
  | .held _ => 1
def uptoBulkAll {H : Type} : List (DataW H) → Nat
  | [] => 0
  | d :: r => uptoBulk d + uptoBulkAll r
def uptoBulkEntries {H : Type} : List (Lit × DataW H) → Nat
  | [] => 0
  | x :: r => uptoBulkEntry x + uptoBulkEntries r
def uptoBulkEntry {H : Type} : Lit × DataW H → Nat
  | (.string bytes, d) => bytes.length + uptoBulk d + 1
  | (_, d) => uptoBulk d + 1
 end
def uptoSmall : (H : Type) → List (DataW H) → Bool := fun _ ds => decide (uptoBulkAll ds ≤ 1048576)
def OpenSpec.upto (s : _root_.Go.ChangeSpec) : _root_.Go.OpenSpec := { _root_.Go.OpenSpec.ofChange s with cond := some uptoSmall }

/-- 'laws.FnRolls', WHERE WHAT IT READS IS OF BULK AT MOST 1048576: true; the input reads as it did. -/
def fnRollsUptoRow : OpenClaim := { program := "ytcmfknkdfkchmaa", sum := "2647beaabaecba2fe79eee522b0be644db0549f44a3a111308732bc69f18b646", func := "loop.example/g00885/laws.FnRolls", spec := "fnRolls", apart := false, narrowed := true }
def FnRollsUptoSaid : Prop := fnRollsUptoRow.holds Try.pinned (OpenSpec.upto fnRollsSpec)

/-- 'laws.FnSeeds', WHERE WHAT IT READS IS OF BULK AT MOST 1048576: true; the input reads as it did. -/
def fnSeedsUptoRow : OpenClaim := { program := "ytcmfknkdfkchmaa", sum := "2647beaabaecba2fe79eee522b0be644db0549f44a3a111308732bc69f18b646", func := "loop.example/g00885/laws.FnSeeds", spec := "fnSeeds", apart := false, narrowed := true }
def FnSeedsUptoSaid : Prop := fnSeedsUptoRow.holds Try.pinned (OpenSpec.upto fnSeedsSpec)

/-- 'laws.FnStratified', WHERE WHAT IT READS IS OF BULK AT MOST 1048576: true; the input reads as it did. -/
def fnStratifiedUptoRow : OpenClaim := { program := "ytcmfknkdfkchmaa", sum := "2647beaabaecba2fe79eee522b0be644db0549f44a3a111308732bc69f18b646", func := "loop.example/g00885/laws.FnStratified", spec := "fnStratified", apart := false, narrowed := true }
def FnStratifiedUptoSaid : Prop := fnStratifiedUptoRow.holds Try.pinned (OpenSpec.upto fnStratifiedSpec)

/-- 'laws.FnExactIsRoll', WHERE WHAT IT READS IS OF BULK AT MOST 1048576: true; the input reads as it did. -/
def fnExactIsRollUptoRow : OpenClaim := { program := "ytcmfknkdfkchmaa", sum := "2647beaabaecba2fe79eee522b0be644db0549f44a3a111308732bc69f18b646", func := "loop.example/g00885/laws.FnExactIsRoll", spec := "fnExactIsRoll", apart := false, narrowed := true }
def FnExactIsRollUptoSaid : Prop := fnExactIsRollUptoRow.holds Try.pinned (OpenSpec.upto fnExactIsRollSpec)

/-- 'laws.FnExactAllRolls', WHERE WHAT IT READS IS OF BULK AT MOST 1048576: true; the input reads as it did. -/
def fnExactAllRollsUptoRow : OpenClaim := { program := "ytcmfknkdfkchmaa", sum := "2647beaabaecba2fe79eee522b0be644db0549f44a3a111308732bc69f18b646", func := "loop.example/g00885/laws.FnExactAllRolls", spec := "fnExactAllRolls", apart := false, narrowed := true }
def FnExactAllRollsUptoSaid : Prop := fnExactAllRollsUptoRow.holds Try.pinned (OpenSpec.upto fnExactAllRollsSpec)

/-- 'laws.FnExactRollWeight', WHERE WHAT IT READS IS OF BULK AT MOST 1048576: true; the input reads as it did. -/
def fnExactRollWeightUptoRow : OpenClaim := { program := "ytcmfknkdfkchmaa", sum := "2647beaabaecba2fe79eee522b0be644db0549f44a3a111308732bc69f18b646", func := "loop.example/g00885/laws.FnExactRollWeight", spec := "fnExactRollWeight", apart := false, narrowed := true }
def FnExactRollWeightUptoSaid : Prop := fnExactRollWeightUptoRow.holds Try.pinned (OpenSpec.upto fnExactRollWeightSpec)

/-- 'laws.FnExactRollNumber', WHERE WHAT IT READS IS OF BULK AT MOST 1048576: true; the input reads as it did. -/
def fnExactRollNumberUptoRow : OpenClaim := { program := "ytcmfknkdfkchmaa", sum := "2647beaabaecba2fe79eee522b0be644db0549f44a3a111308732bc69f18b646", func := "loop.example/g00885/laws.FnExactRollNumber", spec := "fnExactRollNumber", apart := false, narrowed := true }
def FnExactRollNumberUptoSaid : Prop := fnExactRollNumberUptoRow.holds Try.pinned (OpenSpec.upto fnExactRollNumberSpec)

/-- 'laws.FnExactNextSeed', WHERE WHAT IT READS IS OF BULK AT MOST 1048576: true; the input reads as it did. -/
def fnExactNextSeedUptoRow : OpenClaim := { program := "ytcmfknkdfkchmaa", sum := "2647beaabaecba2fe79eee522b0be644db0549f44a3a111308732bc69f18b646", func := "loop.example/g00885/laws.FnExactNextSeed", spec := "fnExactNextSeed", apart := false, narrowed := true }
def FnExactNextSeedUptoSaid : Prop := fnExactNextSeedUptoRow.holds Try.pinned (OpenSpec.upto fnExactNextSeedSpec)

/-- 'laws.FnExactRollFrom', WHERE WHAT IT READS IS OF BULK AT MOST 1048576: true; the input reads as it did. -/
def fnExactRollFromUptoRow : OpenClaim := { program := "ytcmfknkdfkchmaa", sum := "2647beaabaecba2fe79eee522b0be644db0549f44a3a111308732bc69f18b646", func := "loop.example/g00885/laws.FnExactRollFrom", spec := "fnExactRollFrom", apart := false, narrowed := true }
def FnExactRollFromUptoSaid : Prop := fnExactRollFromUptoRow.holds Try.pinned (OpenSpec.upto fnExactRollFromSpec)

/-- 'laws.FnExactRollsFrom', WHERE WHAT IT READS IS OF BULK AT MOST 1048576: true; the input reads as it did. -/
def fnExactRollsFromUptoRow : OpenClaim := { program := "ytcmfknkdfkchmaa", sum := "2647beaabaecba2fe79eee522b0be644db0549f44a3a111308732bc69f18b646", func := "loop.example/g00885/laws.FnExactRollsFrom", spec := "fnExactRollsFrom", apart := false, narrowed := true }
def FnExactRollsFromUptoSaid : Prop := fnExactRollsFromUptoRow.holds Try.pinned (OpenSpec.upto fnExactRollsFromSpec)

/-- 'laws.FnExactStratifiedRolls', WHERE WHAT IT READS IS OF BULK AT MOST 1048576: true; the input reads as it did. -/
def fnExactStratifiedRollsUptoRow : OpenClaim := { program := "ytcmfknkdfkchmaa", sum := "2647beaabaecba2fe79eee522b0be644db0549f44a3a111308732bc69f18b646", func := "loop.example/g00885/laws.FnExactStratifiedRolls", spec := "fnExactStratifiedRolls", apart := false, narrowed := true }
def FnExactStratifiedRollsUptoSaid : Prop := fnExactStratifiedRollsUptoRow.holds Try.pinned (OpenSpec.upto fnExactStratifiedRollsSpec)

/-- 'laws.FnExactReadRoll', WHERE WHAT IT READS IS OF BULK AT MOST 1048576: true; the input reads as it did. -/
def fnExactReadRollUptoRow : OpenClaim := { program := "ytcmfknkdfkchmaa", sum := "2647beaabaecba2fe79eee522b0be644db0549f44a3a111308732bc69f18b646", func := "loop.example/g00885/laws.FnExactReadRoll", spec := "fnExactReadRoll", apart := false, narrowed := true }
def FnExactReadRollUptoSaid : Prop := fnExactReadRollUptoRow.holds Try.pinned (OpenSpec.upto fnExactReadRollSpec)

end Rows
end Go.Proofs.Ytcmfknkdfkchmaa
