/-
  No cell of these rows narrows 'for every input' (looked for: loops, veiled, ifaces, maps, wideKeys, modest, calm, conditions, laid).
  DERIVED. THE GIVEN ROWS OF THIS SEAT. 6 by the template 'for every input the law returns true; each argument reads behind the call as it read before'; 0 by the template 'total and deterministic' (their statements: YtlbmknmihofloaaTotals.lean).
  GIVEN WITH THE SEED: the statements are not yours to turn. If you find one false, say at which input.
  Laid BY PROGRAM, IN A SANDBOX (cutbox-rows.mjs): the forced cells as the released guide's own fill.sh prints them over the translation 495110d79b53baaf… (all of the seat's roots in one cut). By AI agents, Wed Nov 11 2026. No macro, syntax, notation, axiom, sorry.
-/
import Derived.Test.YtlbmknmihofloaaChecked
import GoSem.Claim
import GoSem.ClaimJoined
import GoSem.ClaimMapViews
import Derived.JoinedTies
import Derived.KernelRfl
namespace Go.Proofs.Ytlbmknmihofloaa
/- THE CELL 'sum', in the pinned program and in every row, IS THE sha256 OF THE DUMP (.gsa) THAT YtlbmknmihofloaaProg.lean LOADS. Nothing in Lean hashes anything: it is a label: what it is worth is what the hold of that sum in a sandbox is worth. -/
noncomputable def Try.pinned : Pinned := { name := "ytlbmknmihofloaa", sum := "495110d79b53baafede24d177023f2b132f9c60fe7f3189a7593991e6f5542d8", checked := Try.checked }
namespace Rows
def none {H : Type} : Left H := { results := [], args := [] }

/-- 'laws.FnExactIsVariant': WHATEVER THE INPUT: true; the input reads as it did. -/
def fnExactIsVariantSpec : ChangeSpec := { name := "fnExactIsVariant", fn := fun _ => fun
  | [d] => { results := [.lit (.bool true)], args := [d] }
  | _ => none }
def fnExactIsVariantRow : OpenClaim := { program := "ytlbmknmihofloaa", sum := "495110d79b53baafede24d177023f2b132f9c60fe7f3189a7593991e6f5542d8", func := "loop.example/g00885/laws.FnExactIsVariant", spec := "fnExactIsVariant", apart := false }
def FnExactIsVariantSaid : Prop := fnExactIsVariantRow.holds Try.pinned (OpenSpec.ofChange fnExactIsVariantSpec)

/-- ITS FALSE NEIGHBOUR: 'it returns false'. Refute it at one input. -/
def fnExactIsVariantWrong : ChangeSpec := { name := "fnExactIsVariant", fn := fun _ => fun
  | [d] => { results := [.lit (.bool false)], args := [d] }
  | _ => none }
def FnExactIsVariantWrongFalsely : Prop := fnExactIsVariantRow.holds Try.pinned (OpenSpec.ofChange fnExactIsVariantWrong)

/-- 'laws.FnExactIsSmallVariant': WHATEVER THE INPUT: true; the input reads as it did. -/
def fnExactIsSmallVariantSpec : ChangeSpec := { name := "fnExactIsSmallVariant", fn := fun _ => fun
  | [d] => { results := [.lit (.bool true)], args := [d] }
  | _ => none }
def fnExactIsSmallVariantRow : OpenClaim := { program := "ytlbmknmihofloaa", sum := "495110d79b53baafede24d177023f2b132f9c60fe7f3189a7593991e6f5542d8", func := "loop.example/g00885/laws.FnExactIsSmallVariant", spec := "fnExactIsSmallVariant", apart := false }
def FnExactIsSmallVariantSaid : Prop := fnExactIsSmallVariantRow.holds Try.pinned (OpenSpec.ofChange fnExactIsSmallVariantSpec)

/-- ITS FALSE NEIGHBOUR: 'it returns false'. Refute it at one input. -/
def fnExactIsSmallVariantWrong : ChangeSpec := { name := "fnExactIsSmallVariant", fn := fun _ => fun
  | [d] => { results := [.lit (.bool false)], args := [d] }
  | _ => none }
def FnExactIsSmallVariantWrongFalsely : Prop := fnExactIsSmallVariantRow.holds Try.pinned (OpenSpec.ofChange fnExactIsSmallVariantWrong)

/-- 'laws.FnExactFullVariant': WHATEVER THE INPUT: true; the input reads as it did. -/
def fnExactFullVariantSpec : ChangeSpec := { name := "fnExactFullVariant", fn := fun _ => fun
  | [] => { results := [.lit (.bool true)], args := [] }
  | _ => none }
def fnExactFullVariantRow : OpenClaim := { program := "ytlbmknmihofloaa", sum := "495110d79b53baafede24d177023f2b132f9c60fe7f3189a7593991e6f5542d8", func := "loop.example/g00885/laws.FnExactFullVariant", spec := "fnExactFullVariant", apart := false }
def FnExactFullVariantSaid : Prop := fnExactFullVariantRow.holds Try.pinned (OpenSpec.ofChange fnExactFullVariantSpec)

/-- ITS FALSE NEIGHBOUR: 'it returns false'. Refute it at one input. -/
def fnExactFullVariantWrong : ChangeSpec := { name := "fnExactFullVariant", fn := fun _ => fun
  | [] => { results := [.lit (.bool false)], args := [] }
  | _ => none }
def FnExactFullVariantWrongFalsely : Prop := fnExactFullVariantRow.holds Try.pinned (OpenSpec.ofChange fnExactFullVariantWrong)

/-- 'laws.FnExactHomesApart': WHATEVER THE INPUT: true; the input reads as it did. -/
def fnExactHomesApartSpec : ChangeSpec := { name := "fnExactHomesApart", fn := fun _ => fun
  | [d] => { results := [.lit (.bool true)], args := [d] }
  | _ => none }
def fnExactHomesApartRow : OpenClaim := { program := "ytlbmknmihofloaa", sum := "495110d79b53baafede24d177023f2b132f9c60fe7f3189a7593991e6f5542d8", func := "loop.example/g00885/laws.FnExactHomesApart", spec := "fnExactHomesApart", apart := false }
def FnExactHomesApartSaid : Prop := fnExactHomesApartRow.holds Try.pinned (OpenSpec.ofChange fnExactHomesApartSpec)

/-- ITS FALSE NEIGHBOUR: 'it returns false'. Refute it at one input. -/
def fnExactHomesApartWrong : ChangeSpec := { name := "fnExactHomesApart", fn := fun _ => fun
  | [d] => { results := [.lit (.bool false)], args := [d] }
  | _ => none }
def FnExactHomesApartWrongFalsely : Prop := fnExactHomesApartRow.holds Try.pinned (OpenSpec.ofChange fnExactHomesApartWrong)

/-- 'laws.FnExactRollKinds': WHATEVER THE INPUT: true; the input reads as it did. -/
def fnExactRollKindsSpec : ChangeSpec := { name := "fnExactRollKinds", fn := fun _ => fun
  | [d] => { results := [.lit (.bool true)], args := [d] }
  | _ => none }
def fnExactRollKindsRow : OpenClaim := { program := "ytlbmknmihofloaa", sum := "495110d79b53baafede24d177023f2b132f9c60fe7f3189a7593991e6f5542d8", func := "loop.example/g00885/laws.FnExactRollKinds", spec := "fnExactRollKinds", apart := false }
def FnExactRollKindsSaid : Prop := fnExactRollKindsRow.holds Try.pinned (OpenSpec.ofChange fnExactRollKindsSpec)

/-- ITS FALSE NEIGHBOUR: 'it returns false'. Refute it at one input. -/
def fnExactRollKindsWrong : ChangeSpec := { name := "fnExactRollKinds", fn := fun _ => fun
  | [d] => { results := [.lit (.bool false)], args := [d] }
  | _ => none }
def FnExactRollKindsWrongFalsely : Prop := fnExactRollKindsRow.holds Try.pinned (OpenSpec.ofChange fnExactRollKindsWrong)

/-- 'laws.FnExactRollTotal': WHATEVER THE INPUT: true; the input reads as it did. -/
def fnExactRollTotalSpec : ChangeSpec := { name := "fnExactRollTotal", fn := fun _ => fun
  | [d] => { results := [.lit (.bool true)], args := [d] }
  | _ => none }
def fnExactRollTotalRow : OpenClaim := { program := "ytlbmknmihofloaa", sum := "495110d79b53baafede24d177023f2b132f9c60fe7f3189a7593991e6f5542d8", func := "loop.example/g00885/laws.FnExactRollTotal", spec := "fnExactRollTotal", apart := false }
def FnExactRollTotalSaid : Prop := fnExactRollTotalRow.holds Try.pinned (OpenSpec.ofChange fnExactRollTotalSpec)

/-- ITS FALSE NEIGHBOUR: 'it returns false'. Refute it at one input. -/
def fnExactRollTotalWrong : ChangeSpec := { name := "fnExactRollTotal", fn := fun _ => fun
  | [d] => { results := [.lit (.bool false)], args := [d] }
  | _ => none }
def FnExactRollTotalWrongFalsely : Prop := fnExactRollTotalRow.holds Try.pinned (OpenSpec.ofChange fnExactRollTotalWrong)

/- THE SECOND FORM. 'bulk': how many values and letters a reading holds, each counted each time it is reached (what is shared counts as often as it is met; a slice's spare places count too). A statement '..UptoSaid' is the law's where the arguments, and the package variables that the reading takes, are together of bulk at most 1048576: NARROWER than '..Said'. Prove '..Said' where nothing that the law and all that it calls make is longer than what came in: it says more and counts as full. Else prove '..UptoSaid'. A law counts once. -/
mutual
def uptoBulk {H : Type} : DataW H → Nat
  | .lit (.string bytes) => bytes.length + 1
  | .lit _ => 1
  | .nil => 1
  | .ptr d => uptoBulk d + 1
  | .slice elems spare => uptoBulkAll elems + uptoBulkAll spare + 1
  | .agg parts => uptoBulkAll parts + 1
  | .iface _ d => uptoBulk d + 1
  | .map entries => uptoBulkEntries entries + 1
  | .held _ => 1
def uptoBulkAll {H : Type} : List (DataW H) → Nat
  | [] => 0
  | d :: r => uptoBulk d + uptoBulkAll r
def uptoBulkEntries {H : Type} : List (Lit × DataW H) → Nat
  | [] => 0
  | x :: r => uptoBulkEntry x + uptoBulkEntries r
def uptoBulkEntry {H : Type} : Lit × DataW H → Nat
  | (.string bytes, d) => bytes.length + uptoBulk d + 1
  | (_, d) => uptoBulk d + 1
 end
def uptoSmall : (H : Type) → List (DataW H) → Bool := fun _ ds => decide (uptoBulkAll ds ≤ 1048576)
def OpenSpec.upto (s : _root_.Go.ChangeSpec) : _root_.Go.OpenSpec := { _root_.Go.OpenSpec.ofChange s with cond := some uptoSmall }

/-- 'laws.FnExactIsVariant', WHERE WHAT IT READS IS OF BULK AT MOST 1048576: true; the input reads as it did. -/
def fnExactIsVariantUptoRow : OpenClaim := { program := "ytlbmknmihofloaa", sum := "495110d79b53baafede24d177023f2b132f9c60fe7f3189a7593991e6f5542d8", func := "loop.example/g00885/laws.FnExactIsVariant", spec := "fnExactIsVariant", apart := false, narrowed := true }
def FnExactIsVariantUptoSaid : Prop := fnExactIsVariantUptoRow.holds Try.pinned (OpenSpec.upto fnExactIsVariantSpec)

/-- 'laws.FnExactIsSmallVariant', WHERE WHAT IT READS IS OF BULK AT MOST 1048576: true; the input reads as it did. -/
def fnExactIsSmallVariantUptoRow : OpenClaim := { program := "ytlbmknmihofloaa", sum := "495110d79b53baafede24d177023f2b132f9c60fe7f3189a7593991e6f5542d8", func := "loop.example/g00885/laws.FnExactIsSmallVariant", spec := "fnExactIsSmallVariant", apart := false, narrowed := true }
def FnExactIsSmallVariantUptoSaid : Prop := fnExactIsSmallVariantUptoRow.holds Try.pinned (OpenSpec.upto fnExactIsSmallVariantSpec)

/-- 'laws.FnExactFullVariant', WHERE WHAT IT READS IS OF BULK AT MOST 1048576: true; the input reads as it did. -/
def fnExactFullVariantUptoRow : OpenClaim := { program := "ytlbmknmihofloaa", sum := "495110d79b53baafede24d177023f2b132f9c60fe7f3189a7593991e6f5542d8", func := "loop.example/g00885/laws.FnExactFullVariant", spec := "fnExactFullVariant", apart := false, narrowed := true }
def FnExactFullVariantUptoSaid : Prop := fnExactFullVariantUptoRow.holds Try.pinned (OpenSpec.upto fnExactFullVariantSpec)

/-- 'laws.FnExactHomesApart', WHERE WHAT IT READS IS OF BULK AT MOST 1048576: true; the input reads as it did. -/
def fnExactHomesApartUptoRow : OpenClaim := { program := "ytlbmknmihofloaa", sum := "495110d79b53baafede24d177023f2b132f9c60fe7f3189a7593991e6f5542d8", func := "loop.example/g00885/laws.FnExactHomesApart", spec := "fnExactHomesApart", apart := false, narrowed := true }
def FnExactHomesApartUptoSaid : Prop := fnExactHomesApartUptoRow.holds Try.pinned (OpenSpec.upto fnExactHomesApartSpec)

/-- 'laws.FnExactRollKinds', WHERE WHAT IT READS IS OF BULK AT MOST 1048576: true; the input reads as it did. -/
def fnExactRollKindsUptoRow : OpenClaim := { program := "ytlbmknmihofloaa", sum := "495110d79b53baafede24d177023f2b132f9c60fe7f3189a7593991e6f5542d8", func := "loop.example/g00885/laws.FnExactRollKinds", spec := "fnExactRollKinds", apart := false, narrowed := true }
def FnExactRollKindsUptoSaid : Prop := fnExactRollKindsUptoRow.holds Try.pinned (OpenSpec.upto fnExactRollKindsSpec)

/-- 'laws.FnExactRollTotal', WHERE WHAT IT READS IS OF BULK AT MOST 1048576: true; the input reads as it did. -/
def fnExactRollTotalUptoRow : OpenClaim := { program := "ytlbmknmihofloaa", sum := "495110d79b53baafede24d177023f2b132f9c60fe7f3189a7593991e6f5542d8", func := "loop.example/g00885/laws.FnExactRollTotal", spec := "fnExactRollTotal", apart := false, narrowed := true }
def FnExactRollTotalUptoSaid : Prop := fnExactRollTotalUptoRow.holds Try.pinned (OpenSpec.upto fnExactRollTotalSpec)

end Rows
end Go.Proofs.Ytlbmknmihofloaa
