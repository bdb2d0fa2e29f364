/-
  No cell of these rows narrows 'for every input' (looked for: loops, veiled, ifaces, maps, wideKeys, modest, calm, conditions, laid).
  DERIVED. THE GIVEN ROWS OF THIS SEAT. 9 by the template 'for every input the law returns true; each argument reads behind the call as it read before'; 0 by the template 'total and deterministic' (their statements: YtgabhnhkoklgiaaTotals.lean).
  GIVEN WITH THE SEED: the statements are not yours to turn. If you find one false, say at which input.
  Laid BY PROGRAM, IN A SANDBOX (cutbox-rows.mjs): the forced cells as the released guide's own fill.sh prints them over the translation ca2c3f172c8c99c1… (all of the seat's roots in one cut). By AI agents, Wed Nov 11 2026. No macro, syntax, notation, axiom, sorry.
-/
import Derived.Test.YtgabhnhkoklgiaaChecked
import GoSem.Claim
import GoSem.ClaimJoined
import GoSem.ClaimMapViews
import Derived.JoinedTies
import Derived.KernelRfl
namespace Go.Proofs.Ytgabhnhkoklgiaa
/- THE CELL 'sum', in the pinned program and in every row, IS THE sha256 OF THE DUMP (.gsa) THAT YtgabhnhkoklgiaaProg.lean LOADS. Nothing in Lean hashes anything: it is a label: what it is worth is what the hold of that sum in a sandbox is worth. -/
noncomputable def Try.pinned : Pinned := { name := "ytgabhnhkoklgiaa", sum := "ca2c3f172c8c99c1c560414f617f191f6aa74e1f19d46061f547cd22a4e5c652", checked := Try.checked }
namespace Rows
def none {H : Type} : Left H := { results := [], args := [] }

/-- 'laws.FnSideNumbers': WHATEVER THE INPUT: true; the input reads as it did. -/
def fnSideNumbersSpec : ChangeSpec := { name := "fnSideNumbers", fn := fun _ => fun
  | [d] => { results := [.lit (.bool true)], args := [d] }
  | _ => none }
def fnSideNumbersRow : OpenClaim := { program := "ytgabhnhkoklgiaa", sum := "ca2c3f172c8c99c1c560414f617f191f6aa74e1f19d46061f547cd22a4e5c652", func := "loop.example/g00885/laws.FnSideNumbers", spec := "fnSideNumbers", apart := false }
def FnSideNumbersSaid : Prop := fnSideNumbersRow.holds Try.pinned (OpenSpec.ofChange fnSideNumbersSpec)

/-- ITS FALSE NEIGHBOUR: 'it returns false'. Refute it at one input. -/
def fnSideNumbersWrong : ChangeSpec := { name := "fnSideNumbers", fn := fun _ => fun
  | [d] => { results := [.lit (.bool false)], args := [d] }
  | _ => none }
def FnSideNumbersWrongFalsely : Prop := fnSideNumbersRow.holds Try.pinned (OpenSpec.ofChange fnSideNumbersWrong)

/-- 'laws.FnIdentifiers': WHATEVER THE INPUT: true; the input reads as it did. -/
def fnIdentifiersSpec : ChangeSpec := { name := "fnIdentifiers", fn := fun _ => fun
  | [d] => { results := [.lit (.bool true)], args := [d] }
  | _ => none }
def fnIdentifiersRow : OpenClaim := { program := "ytgabhnhkoklgiaa", sum := "ca2c3f172c8c99c1c560414f617f191f6aa74e1f19d46061f547cd22a4e5c652", func := "loop.example/g00885/laws.FnIdentifiers", spec := "fnIdentifiers", inPlace := ["internal/bytealg.IndexByteString"], unfollowed := true, recurses := true, apart := false }
def FnIdentifiersSaid : Prop := fnIdentifiersRow.holds Try.pinned (OpenSpec.ofChange fnIdentifiersSpec)

/-- ITS FALSE NEIGHBOUR: 'it returns false'. Refute it at one input. -/
def fnIdentifiersWrong : ChangeSpec := { name := "fnIdentifiers", fn := fun _ => fun
  | [d] => { results := [.lit (.bool false)], args := [d] }
  | _ => none }
def FnIdentifiersWrongFalsely : Prop := fnIdentifiersRow.holds Try.pinned (OpenSpec.ofChange fnIdentifiersWrong)

/-- 'laws.FnExactSideCount': WHATEVER THE INPUT: true; the input reads as it did. -/
def fnExactSideCountSpec : ChangeSpec := { name := "fnExactSideCount", fn := fun _ => fun
  | [d] => { results := [.lit (.bool true)], args := [d] }
  | _ => none }
def fnExactSideCountRow : OpenClaim := { program := "ytgabhnhkoklgiaa", sum := "ca2c3f172c8c99c1c560414f617f191f6aa74e1f19d46061f547cd22a4e5c652", func := "loop.example/g00885/laws.FnExactSideCount", spec := "fnExactSideCount", apart := false }
def FnExactSideCountSaid : Prop := fnExactSideCountRow.holds Try.pinned (OpenSpec.ofChange fnExactSideCountSpec)

/-- ITS FALSE NEIGHBOUR: 'it returns false'. Refute it at one input. -/
def fnExactSideCountWrong : ChangeSpec := { name := "fnExactSideCount", fn := fun _ => fun
  | [d] => { results := [.lit (.bool false)], args := [d] }
  | _ => none }
def FnExactSideCountWrongFalsely : Prop := fnExactSideCountRow.holds Try.pinned (OpenSpec.ofChange fnExactSideCountWrong)

/-- 'laws.FnExactSideNumber': WHATEVER THE INPUT: true; the input reads as it did. -/
def fnExactSideNumberSpec : ChangeSpec := { name := "fnExactSideNumber", fn := fun _ => fun
  | [d1, d2] => { results := [.lit (.bool true)], args := [d1, d2] }
  | _ => none }
def fnExactSideNumberRow : OpenClaim := { program := "ytgabhnhkoklgiaa", sum := "ca2c3f172c8c99c1c560414f617f191f6aa74e1f19d46061f547cd22a4e5c652", func := "loop.example/g00885/laws.FnExactSideNumber", spec := "fnExactSideNumber", apart := false }
def FnExactSideNumberSaid : Prop := fnExactSideNumberRow.holds Try.pinned (OpenSpec.ofChange fnExactSideNumberSpec)

/-- ITS FALSE NEIGHBOUR: 'it returns false'. Refute it at one input. -/
def fnExactSideNumberWrong : ChangeSpec := { name := "fnExactSideNumber", fn := fun _ => fun
  | [d1, d2] => { results := [.lit (.bool false)], args := [d1, d2] }
  | _ => none }
def FnExactSideNumberWrongFalsely : Prop := fnExactSideNumberRow.holds Try.pinned (OpenSpec.ofChange fnExactSideNumberWrong)

/-- 'laws.FnExactSideOfNumber': WHATEVER THE INPUT: true; the input reads as it did. -/
def fnExactSideOfNumberSpec : ChangeSpec := { name := "fnExactSideOfNumber", fn := fun _ => fun
  | [d1, d2] => { results := [.lit (.bool true)], args := [d1, d2] }
  | _ => none }
def fnExactSideOfNumberRow : OpenClaim := { program := "ytgabhnhkoklgiaa", sum := "ca2c3f172c8c99c1c560414f617f191f6aa74e1f19d46061f547cd22a4e5c652", func := "loop.example/g00885/laws.FnExactSideOfNumber", spec := "fnExactSideOfNumber", apart := false }
def FnExactSideOfNumberSaid : Prop := fnExactSideOfNumberRow.holds Try.pinned (OpenSpec.ofChange fnExactSideOfNumberSpec)

/-- ITS FALSE NEIGHBOUR: 'it returns false'. Refute it at one input. -/
def fnExactSideOfNumberWrong : ChangeSpec := { name := "fnExactSideOfNumber", fn := fun _ => fun
  | [d1, d2] => { results := [.lit (.bool false)], args := [d1, d2] }
  | _ => none }
def FnExactSideOfNumberWrongFalsely : Prop := fnExactSideOfNumberRow.holds Try.pinned (OpenSpec.ofChange fnExactSideOfNumberWrong)

/-- 'laws.FnExactBoardBits': WHATEVER THE INPUT: true; the input reads as it did. -/
def fnExactBoardBitsSpec : ChangeSpec := { name := "fnExactBoardBits", fn := fun _ => fun
  | [d1, d2] => { results := [.lit (.bool true)], args := [d1, d2] }
  | _ => none }
def fnExactBoardBitsRow : OpenClaim := { program := "ytgabhnhkoklgiaa", sum := "ca2c3f172c8c99c1c560414f617f191f6aa74e1f19d46061f547cd22a4e5c652", func := "loop.example/g00885/laws.FnExactBoardBits", spec := "fnExactBoardBits", unfollowed := true, recurses := true, apart := false }
def FnExactBoardBitsSaid : Prop := fnExactBoardBitsRow.holds Try.pinned (OpenSpec.ofChange fnExactBoardBitsSpec)

/-- ITS FALSE NEIGHBOUR: 'it returns false'. Refute it at one input. -/
def fnExactBoardBitsWrong : ChangeSpec := { name := "fnExactBoardBits", fn := fun _ => fun
  | [d1, d2] => { results := [.lit (.bool false)], args := [d1, d2] }
  | _ => none }
def FnExactBoardBitsWrongFalsely : Prop := fnExactBoardBitsRow.holds Try.pinned (OpenSpec.ofChange fnExactBoardBitsWrong)

/-- 'laws.FnExactBoardOfBits': WHATEVER THE INPUT: true; the input reads as it did. -/
def fnExactBoardOfBitsSpec : ChangeSpec := { name := "fnExactBoardOfBits", fn := fun _ => fun
  | [d1, d2] => { results := [.lit (.bool true)], args := [d1, d2] }
  | _ => none }
def fnExactBoardOfBitsRow : OpenClaim := { program := "ytgabhnhkoklgiaa", sum := "ca2c3f172c8c99c1c560414f617f191f6aa74e1f19d46061f547cd22a4e5c652", func := "loop.example/g00885/laws.FnExactBoardOfBits", spec := "fnExactBoardOfBits", unfollowed := true, recurses := true, apart := false }
def FnExactBoardOfBitsSaid : Prop := fnExactBoardOfBitsRow.holds Try.pinned (OpenSpec.ofChange fnExactBoardOfBitsSpec)

/-- ITS FALSE NEIGHBOUR: 'it returns false'. Refute it at one input. -/
def fnExactBoardOfBitsWrong : ChangeSpec := { name := "fnExactBoardOfBits", fn := fun _ => fun
  | [d1, d2] => { results := [.lit (.bool false)], args := [d1, d2] }
  | _ => none }
def FnExactBoardOfBitsWrongFalsely : Prop := fnExactBoardOfBitsRow.holds Try.pinned (OpenSpec.ofChange fnExactBoardOfBitsWrong)

/-- 'laws.FnExactBoardId': WHATEVER THE INPUT: true; the input reads as it did. -/
def fnExactBoardIdSpec : ChangeSpec := { name := "fnExactBoardId", fn := fun _ => fun
  | [d1, d2] => { results := [.lit (.bool true)], args := [d1, d2] }
  | _ => none }
def fnExactBoardIdRow : OpenClaim := { program := "ytgabhnhkoklgiaa", sum := "ca2c3f172c8c99c1c560414f617f191f6aa74e1f19d46061f547cd22a4e5c652", func := "loop.example/g00885/laws.FnExactBoardId", spec := "fnExactBoardId", unfollowed := true, recurses := true, apart := false }
def FnExactBoardIdSaid : Prop := fnExactBoardIdRow.holds Try.pinned (OpenSpec.ofChange fnExactBoardIdSpec)

/-- ITS FALSE NEIGHBOUR: 'it returns false'. Refute it at one input. -/
def fnExactBoardIdWrong : ChangeSpec := { name := "fnExactBoardId", fn := fun _ => fun
  | [d1, d2] => { results := [.lit (.bool false)], args := [d1, d2] }
  | _ => none }
def FnExactBoardIdWrongFalsely : Prop := fnExactBoardIdRow.holds Try.pinned (OpenSpec.ofChange fnExactBoardIdWrong)

/-- 'laws.FnExactReadBoardId': WHATEVER THE INPUT: true; the input reads as it did. -/
def fnExactReadBoardIdSpec : ChangeSpec := { name := "fnExactReadBoardId", fn := fun _ => fun
  | [d1, d2] => { results := [.lit (.bool true)], args := [d1, d2] }
  | _ => none }
def fnExactReadBoardIdRow : OpenClaim := { program := "ytgabhnhkoklgiaa", sum := "ca2c3f172c8c99c1c560414f617f191f6aa74e1f19d46061f547cd22a4e5c652", func := "loop.example/g00885/laws.FnExactReadBoardId", spec := "fnExactReadBoardId", inPlace := ["internal/bytealg.IndexByteString"], unfollowed := true, recurses := true, apart := false }
def FnExactReadBoardIdSaid : Prop := fnExactReadBoardIdRow.holds Try.pinned (OpenSpec.ofChange fnExactReadBoardIdSpec)

/-- ITS FALSE NEIGHBOUR: 'it returns false'. Refute it at one input. -/
def fnExactReadBoardIdWrong : ChangeSpec := { name := "fnExactReadBoardId", fn := fun _ => fun
  | [d1, d2] => { results := [.lit (.bool false)], args := [d1, d2] }
  | _ => none }
def FnExactReadBoardIdWrongFalsely : Prop := fnExactReadBoardIdRow.holds Try.pinned (OpenSpec.ofChange fnExactReadBoardIdWrong)

/- THE SECOND FORM. 'bulk': how many values and letters a reading holds, each counted each time it is reached (what is shared counts as often as it is met; a slice's spare places count too). A statement '..UptoSaid' is the law's where the arguments, and the package variables that the reading takes, are together of bulk at most 1048576: NARROWER than '..Said'. Prove '..Said' where nothing that the law and all that it calls make is longer than what came in: it says more and counts as full. Else prove '..UptoSaid'. A law counts once. -/
mutual
def uptoBulk {H : Type} : DataW H → Nat
  | .lit (.string bytes) => bytes.length + 1
  | .lit _ => 1
  | .nil => 1
  | .ptr d => uptoBulk d + 1
  | .slice elems spare => uptoBulkAll elems + uptoBulkAll spare + 1
  | .agg parts => uptoBulkAll parts + 1
  | .iface _ d => uptoBulk d + 1
  | .map entries => uptoBulkEntries entries + 1
  | .held _ => 1
def uptoBulkAll {H : Type} : List (DataW H) → Nat
  | [] => 0
  | d :: r => uptoBulk d + uptoBulkAll r
def uptoBulkEntries {H : Type} : List (Lit × DataW H) → Nat
  | [] => 0
  | x :: r => uptoBulkEntry x + uptoBulkEntries r
def uptoBulkEntry {H : Type} : Lit × DataW H → Nat
  | (.string bytes, d) => bytes.length + uptoBulk d + 1
  | (_, d) => uptoBulk d + 1
 end
def uptoSmall : (H : Type) → List (DataW H) → Bool := fun _ ds => decide (uptoBulkAll ds ≤ 1048576)
def OpenSpec.upto (s : _root_.Go.ChangeSpec) : _root_.Go.OpenSpec := { _root_.Go.OpenSpec.ofChange s with cond := some uptoSmall }

/-- 'laws.FnSideNumbers', WHERE WHAT IT READS IS OF BULK AT MOST 1048576: true; the input reads as it did. -/
def fnSideNumbersUptoRow : OpenClaim := { program := "ytgabhnhkoklgiaa", sum := "ca2c3f172c8c99c1c560414f617f191f6aa74e1f19d46061f547cd22a4e5c652", func := "loop.example/g00885/laws.FnSideNumbers", spec := "fnSideNumbers", apart := false, narrowed := true }
def FnSideNumbersUptoSaid : Prop := fnSideNumbersUptoRow.holds Try.pinned (OpenSpec.upto fnSideNumbersSpec)

/-- 'laws.FnIdentifiers', WHERE WHAT IT READS IS OF BULK AT MOST 1048576: true; the input reads as it did. -/
def fnIdentifiersUptoRow : OpenClaim := { program := "ytgabhnhkoklgiaa", sum := "ca2c3f172c8c99c1c560414f617f191f6aa74e1f19d46061f547cd22a4e5c652", func := "loop.example/g00885/laws.FnIdentifiers", spec := "fnIdentifiers", inPlace := ["internal/bytealg.IndexByteString"], unfollowed := true, recurses := true, apart := false, narrowed := true }
def FnIdentifiersUptoSaid : Prop := fnIdentifiersUptoRow.holds Try.pinned (OpenSpec.upto fnIdentifiersSpec)

/-- 'laws.FnExactSideCount', WHERE WHAT IT READS IS OF BULK AT MOST 1048576: true; the input reads as it did. -/
def fnExactSideCountUptoRow : OpenClaim := { program := "ytgabhnhkoklgiaa", sum := "ca2c3f172c8c99c1c560414f617f191f6aa74e1f19d46061f547cd22a4e5c652", func := "loop.example/g00885/laws.FnExactSideCount", spec := "fnExactSideCount", apart := false, narrowed := true }
def FnExactSideCountUptoSaid : Prop := fnExactSideCountUptoRow.holds Try.pinned (OpenSpec.upto fnExactSideCountSpec)

/-- 'laws.FnExactSideNumber', WHERE WHAT IT READS IS OF BULK AT MOST 1048576: true; the input reads as it did. -/
def fnExactSideNumberUptoRow : OpenClaim := { program := "ytgabhnhkoklgiaa", sum := "ca2c3f172c8c99c1c560414f617f191f6aa74e1f19d46061f547cd22a4e5c652", func := "loop.example/g00885/laws.FnExactSideNumber", spec := "fnExactSideNumber", apart := false, narrowed := true }
def FnExactSideNumberUptoSaid : Prop := fnExactSideNumberUptoRow.holds Try.pinned (OpenSpec.upto fnExactSideNumberSpec)

/-- 'laws.FnExactSideOfNumber', WHERE WHAT IT READS IS OF BULK AT MOST 1048576: true; the input reads as it did. -/
def fnExactSideOfNumberUptoRow : OpenClaim := { program := "ytgabhnhkoklgiaa", sum := "ca2c3f172c8c99c1c560414f617f191f6aa74e1f19d46061f547cd22a4e5c652", func := "loop.example/g00885/laws.FnExactSideOfNumber", spec := "fnExactSideOfNumber", apart := false, narrowed := true }
def FnExactSideOfNumberUptoSaid : Prop := fnExactSideOfNumberUptoRow.holds Try.pinned (OpenSpec.upto fnExactSideOfNumberSpec)

/-- 'laws.FnExactBoardBits', WHERE WHAT IT READS IS OF BULK AT MOST 1048576: true; the input reads as it did. -/
def fnExactBoardBitsUptoRow : OpenClaim := { program := "ytgabhnhkoklgiaa", sum := "ca2c3f172c8c99c1c560414f617f191f6aa74e1f19d46061f547cd22a4e5c652", func := "loop.example/g00885/laws.FnExactBoardBits", spec := "fnExactBoardBits", unfollowed := true, recurses := true, apart := false, narrowed := true }
def FnExactBoardBitsUptoSaid : Prop := fnExactBoardBitsUptoRow.holds Try.pinned (OpenSpec.upto fnExactBoardBitsSpec)

/-- 'laws.FnExactBoardOfBits', WHERE WHAT IT READS IS OF BULK AT MOST 1048576: true; the input reads as it did. -/
def fnExactBoardOfBitsUptoRow : OpenClaim := { program := "ytgabhnhkoklgiaa", sum := "ca2c3f172c8c99c1c560414f617f191f6aa74e1f19d46061f547cd22a4e5c652", func := "loop.example/g00885/laws.FnExactBoardOfBits", spec := "fnExactBoardOfBits", unfollowed := true, recurses := true, apart := false, narrowed := true }
def FnExactBoardOfBitsUptoSaid : Prop := fnExactBoardOfBitsUptoRow.holds Try.pinned (OpenSpec.upto fnExactBoardOfBitsSpec)

/-- 'laws.FnExactBoardId', WHERE WHAT IT READS IS OF BULK AT MOST 1048576: true; the input reads as it did. -/
def fnExactBoardIdUptoRow : OpenClaim := { program := "ytgabhnhkoklgiaa", sum := "ca2c3f172c8c99c1c560414f617f191f6aa74e1f19d46061f547cd22a4e5c652", func := "loop.example/g00885/laws.FnExactBoardId", spec := "fnExactBoardId", unfollowed := true, recurses := true, apart := false, narrowed := true }
def FnExactBoardIdUptoSaid : Prop := fnExactBoardIdUptoRow.holds Try.pinned (OpenSpec.upto fnExactBoardIdSpec)

/-- 'laws.FnExactReadBoardId', WHERE WHAT IT READS IS OF BULK AT MOST 1048576: true; the input reads as it did. -/
def fnExactReadBoardIdUptoRow : OpenClaim := { program := "ytgabhnhkoklgiaa", sum := "ca2c3f172c8c99c1c560414f617f191f6aa74e1f19d46061f547cd22a4e5c652", func := "loop.example/g00885/laws.FnExactReadBoardId", spec := "fnExactReadBoardId", inPlace := ["internal/bytealg.IndexByteString"], unfollowed := true, recurses := true, apart := false, narrowed := true }
def FnExactReadBoardIdUptoSaid : Prop := fnExactReadBoardIdUptoRow.holds Try.pinned (OpenSpec.upto fnExactReadBoardIdSpec)

end Rows
end Go.Proofs.Ytgabhnhkoklgiaa
