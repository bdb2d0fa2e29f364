/-
  No cell of these rows narrows 'for every input' (looked for: loops, veiled, ifaces, maps, wideKeys, modest, calm, conditions, laid).
  DERIVED. THE GIVEN ROWS OF THIS SEAT. 9 by the template 'for every input the law returns true; each argument reads behind the call as it read before'; 0 by the template 'total and deterministic' (their statements: YtkddeoifdecniaaTotals.lean).
  GIVEN WITH THE SEED: the statements are not yours to turn. If you find one false, say at which input.
  Laid BY PROGRAM, IN A SANDBOX (cutbox-rows.mjs): the forced cells as the released guide's own fill.sh prints them over the translation 45a9e727fd0a6308… (all of the seat's roots in one cut). By AI agents, Wed Nov 11 2026. No macro, syntax, notation, axiom, sorry.
-/
import Derived.Test.YtkddeoifdecniaaChecked
import GoSem.Claim
import GoSem.ClaimJoined
import GoSem.ClaimMapViews
import Derived.JoinedTies
import Derived.KernelRfl
namespace Go.Proofs.Ytkddeoifdecniaa
/- THE CELL 'sum', in the pinned program and in every row, IS THE sha256 OF THE DUMP (.gsa) THAT YtkddeoifdecniaaProg.lean LOADS. Nothing in Lean hashes anything: it is a label: what it is worth is what the hold of that sum in a sandbox is worth. -/
noncomputable def Try.pinned : Pinned := { name := "ytkddeoifdecniaa", sum := "45a9e727fd0a630873762c86ad779cb43936a34eb0abc772f17ec0c3335b4c15", checked := Try.checked }
namespace Rows
def none {H : Type} : Left H := { results := [], args := [] }

/-- 'laws.FnSwap': WHATEVER THE INPUT: true; the input reads as it did. -/
def fnSwapSpec : ChangeSpec := { name := "fnSwap", fn := fun _ => fun
  | [d] => { results := [.lit (.bool true)], args := [d] }
  | _ => none }
def fnSwapRow : OpenClaim := { program := "ytkddeoifdecniaa", sum := "45a9e727fd0a630873762c86ad779cb43936a34eb0abc772f17ec0c3335b4c15", func := "loop.example/g00885/laws.FnSwap", spec := "fnSwap", unfollowed := true, recurses := true, apart := false }
def FnSwapSaid : Prop := fnSwapRow.holds Try.pinned (OpenSpec.ofChange fnSwapSpec)

/-- ITS FALSE NEIGHBOUR: 'it returns false'. Refute it at one input. -/
def fnSwapWrong : ChangeSpec := { name := "fnSwap", fn := fun _ => fun
  | [d] => { results := [.lit (.bool false)], args := [d] }
  | _ => none }
def FnSwapWrongFalsely : Prop := fnSwapRow.holds Try.pinned (OpenSpec.ofChange fnSwapWrong)

/-- 'laws.FnPoints': WHATEVER THE INPUT: true; the input reads as it did. -/
def fnPointsSpec : ChangeSpec := { name := "fnPoints", fn := fun _ => fun
  | [d] => { results := [.lit (.bool true)], args := [d] }
  | _ => none }
def fnPointsRow : OpenClaim := { program := "ytkddeoifdecniaa", sum := "45a9e727fd0a630873762c86ad779cb43936a34eb0abc772f17ec0c3335b4c15", func := "loop.example/g00885/laws.FnPoints", spec := "fnPoints", unfollowed := true, recurses := true, apart := false }
def FnPointsSaid : Prop := fnPointsRow.holds Try.pinned (OpenSpec.ofChange fnPointsSpec)

/-- ITS FALSE NEIGHBOUR: 'it returns false'. Refute it at one input. -/
def fnPointsWrong : ChangeSpec := { name := "fnPoints", fn := fun _ => fun
  | [d] => { results := [.lit (.bool false)], args := [d] }
  | _ => none }
def FnPointsWrongFalsely : Prop := fnPointsRow.holds Try.pinned (OpenSpec.ofChange fnPointsWrong)

/-- 'laws.FnExactSwapBoard': WHATEVER THE INPUT: true; the input reads as it did. -/
def fnExactSwapBoardSpec : ChangeSpec := { name := "fnExactSwapBoard", fn := fun _ => fun
  | [d1, d2] => { results := [.lit (.bool true)], args := [d1, d2] }
  | _ => none }
def fnExactSwapBoardRow : OpenClaim := { program := "ytkddeoifdecniaa", sum := "45a9e727fd0a630873762c86ad779cb43936a34eb0abc772f17ec0c3335b4c15", func := "loop.example/g00885/laws.FnExactSwapBoard", spec := "fnExactSwapBoard", unfollowed := true, recurses := true, apart := false }
def FnExactSwapBoardSaid : Prop := fnExactSwapBoardRow.holds Try.pinned (OpenSpec.ofChange fnExactSwapBoardSpec)

/-- ITS FALSE NEIGHBOUR: 'it returns false'. Refute it at one input. -/
def fnExactSwapBoardWrong : ChangeSpec := { name := "fnExactSwapBoard", fn := fun _ => fun
  | [d1, d2] => { results := [.lit (.bool false)], args := [d1, d2] }
  | _ => none }
def FnExactSwapBoardWrongFalsely : Prop := fnExactSwapBoardRow.holds Try.pinned (OpenSpec.ofChange fnExactSwapBoardWrong)

/-- 'laws.FnIdentifiers': WHATEVER THE INPUT: true; the input reads as it did. -/
def fnIdentifiersSpec : ChangeSpec := { name := "fnIdentifiers", fn := fun _ => fun
  | [d] => { results := [.lit (.bool true)], args := [d] }
  | _ => none }
def fnIdentifiersRow : OpenClaim := { program := "ytkddeoifdecniaa", sum := "45a9e727fd0a630873762c86ad779cb43936a34eb0abc772f17ec0c3335b4c15", func := "loop.example/g00885/laws.FnIdentifiers", spec := "fnIdentifiers", inPlace := ["internal/bytealg.IndexByteString"], unfollowed := true, recurses := true, apart := false }
def FnIdentifiersSaid : Prop := fnIdentifiersRow.holds Try.pinned (OpenSpec.ofChange fnIdentifiersSpec)

/-- ITS FALSE NEIGHBOUR: 'it returns false'. Refute it at one input. -/
def fnIdentifiersWrong : ChangeSpec := { name := "fnIdentifiers", fn := fun _ => fun
  | [d] => { results := [.lit (.bool false)], args := [d] }
  | _ => none }
def FnIdentifiersWrongFalsely : Prop := fnIdentifiersRow.holds Try.pinned (OpenSpec.ofChange fnIdentifiersWrong)

/-- 'laws.FnExactBoardBits': WHATEVER THE INPUT: true; the input reads as it did. -/
def fnExactBoardBitsSpec : ChangeSpec := { name := "fnExactBoardBits", fn := fun _ => fun
  | [d1, d2] => { results := [.lit (.bool true)], args := [d1, d2] }
  | _ => none }
def fnExactBoardBitsRow : OpenClaim := { program := "ytkddeoifdecniaa", sum := "45a9e727fd0a630873762c86ad779cb43936a34eb0abc772f17ec0c3335b4c15", func := "loop.example/g00885/laws.FnExactBoardBits", spec := "fnExactBoardBits", unfollowed := true, recurses := true, apart := false }
def FnExactBoardBitsSaid : Prop := fnExactBoardBitsRow.holds Try.pinned (OpenSpec.ofChange fnExactBoardBitsSpec)

/-- ITS FALSE NEIGHBOUR: 'it returns false'. Refute it at one input. -/
def fnExactBoardBitsWrong : ChangeSpec := { name := "fnExactBoardBits", fn := fun _ => fun
  | [d1, d2] => { results := [.lit (.bool false)], args := [d1, d2] }
  | _ => none }
def FnExactBoardBitsWrongFalsely : Prop := fnExactBoardBitsRow.holds Try.pinned (OpenSpec.ofChange fnExactBoardBitsWrong)

/-- 'laws.FnExactBoardOfBits': WHATEVER THE INPUT: true; the input reads as it did. -/
def fnExactBoardOfBitsSpec : ChangeSpec := { name := "fnExactBoardOfBits", fn := fun _ => fun
  | [d1, d2] => { results := [.lit (.bool true)], args := [d1, d2] }
  | _ => none }
def fnExactBoardOfBitsRow : OpenClaim := { program := "ytkddeoifdecniaa", sum := "45a9e727fd0a630873762c86ad779cb43936a34eb0abc772f17ec0c3335b4c15", func := "loop.example/g00885/laws.FnExactBoardOfBits", spec := "fnExactBoardOfBits", unfollowed := true, recurses := true, apart := false }
def FnExactBoardOfBitsSaid : Prop := fnExactBoardOfBitsRow.holds Try.pinned (OpenSpec.ofChange fnExactBoardOfBitsSpec)

/-- ITS FALSE NEIGHBOUR: 'it returns false'. Refute it at one input. -/
def fnExactBoardOfBitsWrong : ChangeSpec := { name := "fnExactBoardOfBits", fn := fun _ => fun
  | [d1, d2] => { results := [.lit (.bool false)], args := [d1, d2] }
  | _ => none }
def FnExactBoardOfBitsWrongFalsely : Prop := fnExactBoardOfBitsRow.holds Try.pinned (OpenSpec.ofChange fnExactBoardOfBitsWrong)

/-- 'laws.FnExactBoardId': WHATEVER THE INPUT: true; the input reads as it did. -/
def fnExactBoardIdSpec : ChangeSpec := { name := "fnExactBoardId", fn := fun _ => fun
  | [d1, d2] => { results := [.lit (.bool true)], args := [d1, d2] }
  | _ => none }
def fnExactBoardIdRow : OpenClaim := { program := "ytkddeoifdecniaa", sum := "45a9e727fd0a630873762c86ad779cb43936a34eb0abc772f17ec0c3335b4c15", func := "loop.example/g00885/laws.FnExactBoardId", spec := "fnExactBoardId", unfollowed := true, recurses := true, apart := false }
def FnExactBoardIdSaid : Prop := fnExactBoardIdRow.holds Try.pinned (OpenSpec.ofChange fnExactBoardIdSpec)

/-- ITS FALSE NEIGHBOUR: 'it returns false'. Refute it at one input. -/
def fnExactBoardIdWrong : ChangeSpec := { name := "fnExactBoardId", fn := fun _ => fun
  | [d1, d2] => { results := [.lit (.bool false)], args := [d1, d2] }
  | _ => none }
def FnExactBoardIdWrongFalsely : Prop := fnExactBoardIdRow.holds Try.pinned (OpenSpec.ofChange fnExactBoardIdWrong)

/-- 'laws.FnExactReadBoardId': WHATEVER THE INPUT: true; the input reads as it did. -/
def fnExactReadBoardIdSpec : ChangeSpec := { name := "fnExactReadBoardId", fn := fun _ => fun
  | [d1, d2] => { results := [.lit (.bool true)], args := [d1, d2] }
  | _ => none }
def fnExactReadBoardIdRow : OpenClaim := { program := "ytkddeoifdecniaa", sum := "45a9e727fd0a630873762c86ad779cb43936a34eb0abc772f17ec0c3335b4c15", func := "loop.example/g00885/laws.FnExactReadBoardId", spec := "fnExactReadBoardId", inPlace := ["internal/bytealg.IndexByteString"], unfollowed := true, recurses := true, apart := false }
def FnExactReadBoardIdSaid : Prop := fnExactReadBoardIdRow.holds Try.pinned (OpenSpec.ofChange fnExactReadBoardIdSpec)

/-- ITS FALSE NEIGHBOUR: 'it returns false'. Refute it at one input. -/
def fnExactReadBoardIdWrong : ChangeSpec := { name := "fnExactReadBoardId", fn := fun _ => fun
  | [d1, d2] => { results := [.lit (.bool false)], args := [d1, d2] }
  | _ => none }
def FnExactReadBoardIdWrongFalsely : Prop := fnExactReadBoardIdRow.holds Try.pinned (OpenSpec.ofChange fnExactReadBoardIdWrong)

/-- 'laws.FnBoardResults': WHATEVER THE INPUT: true; the input reads as it did. -/
def fnBoardResultsSpec : ChangeSpec := { name := "fnBoardResults", fn := fun _ => fun
  | [d] => { results := [.lit (.bool true)], args := [d] }
  | _ => none }
def fnBoardResultsRow : OpenClaim := { program := "ytkddeoifdecniaa", sum := "45a9e727fd0a630873762c86ad779cb43936a34eb0abc772f17ec0c3335b4c15", func := "loop.example/g00885/laws.FnBoardResults", spec := "fnBoardResults", unfollowed := true, recurses := true, apart := false }
def FnBoardResultsSaid : Prop := fnBoardResultsRow.holds Try.pinned (OpenSpec.ofChange fnBoardResultsSpec)

/-- ITS FALSE NEIGHBOUR: 'it returns false'. Refute it at one input. -/
def fnBoardResultsWrong : ChangeSpec := { name := "fnBoardResults", fn := fun _ => fun
  | [d] => { results := [.lit (.bool false)], args := [d] }
  | _ => none }
def FnBoardResultsWrongFalsely : Prop := fnBoardResultsRow.holds Try.pinned (OpenSpec.ofChange fnBoardResultsWrong)

/- THE SECOND FORM. 'bulk': how many values and letters a reading holds, each counted each time it is reached (what is shared counts as often as it is met; a slice's spare places count too). A statement '..UptoSaid' is the law's where the arguments, and the package variables that the reading takes, are together of bulk at most 1048576: NARROWER than '..Said'. Prove '..Said' where nothing that the law and all that it calls make is longer than what came in: it says more and counts as full. Else prove '..UptoSaid'. A law counts once. -/
mutual
def uptoBulk {H : Type} : DataW H → Nat
  | .lit (.string bytes) => bytes.length + 1
  | .lit _ => 1
  | .nil => 1
  | .ptr d => uptoBulk d + 1
  | .slice elems spare => uptoBulkAll elems + uptoBulkAll spare + 1
  | .agg parts => uptoBulkAll parts + 1
  | .iface _ d => uptoBulk d + 1
  | .map entries => uptoBulkEntries entries + 1
  | .held _ => 1
def uptoBulkAll {H : Type} : List (DataW H) → Nat
  | [] => 0
  | d :: r => uptoBulk d + uptoBulkAll r
def uptoBulkEntries {H : Type} : List (Lit × DataW H) → Nat
  | [] => 0
  | x :: r => uptoBulkEntry x + uptoBulkEntries r
def uptoBulkEntry {H : Type} : Lit × DataW H → Nat
  | (.string bytes, d) => bytes.length + uptoBulk d + 1
  | (_, d) => uptoBulk d + 1
 end
def uptoSmall : (H : Type) → List (DataW H) → Bool := fun _ ds => decide (uptoBulkAll ds ≤ 1048576)
def OpenSpec.upto (s : _root_.Go.ChangeSpec) : _root_.Go.OpenSpec := { _root_.Go.OpenSpec.ofChange s with cond := some uptoSmall }

/-- 'laws.FnSwap', WHERE WHAT IT READS IS OF BULK AT MOST 1048576: true; the input reads as it did. -/
def fnSwapUptoRow : OpenClaim := { program := "ytkddeoifdecniaa", sum := "45a9e727fd0a630873762c86ad779cb43936a34eb0abc772f17ec0c3335b4c15", func := "loop.example/g00885/laws.FnSwap", spec := "fnSwap", unfollowed := true, recurses := true, apart := false, narrowed := true }
def FnSwapUptoSaid : Prop := fnSwapUptoRow.holds Try.pinned (OpenSpec.upto fnSwapSpec)

/-- 'laws.FnPoints', WHERE WHAT IT READS IS OF BULK AT MOST 1048576: true; the input reads as it did. -/
def fnPointsUptoRow : OpenClaim := { program := "ytkddeoifdecniaa", sum := "45a9e727fd0a630873762c86ad779cb43936a34eb0abc772f17ec0c3335b4c15", func := "loop.example/g00885/laws.FnPoints", spec := "fnPoints", unfollowed := true, recurses := true, apart := false, narrowed := true }
def FnPointsUptoSaid : Prop := fnPointsUptoRow.holds Try.pinned (OpenSpec.upto fnPointsSpec)

/-- 'laws.FnExactSwapBoard', WHERE WHAT IT READS IS OF BULK AT MOST 1048576: true; the input reads as it did. -/
def fnExactSwapBoardUptoRow : OpenClaim := { program := "ytkddeoifdecniaa", sum := "45a9e727fd0a630873762c86ad779cb43936a34eb0abc772f17ec0c3335b4c15", func := "loop.example/g00885/laws.FnExactSwapBoard", spec := "fnExactSwapBoard", unfollowed := true, recurses := true, apart := false, narrowed := true }
def FnExactSwapBoardUptoSaid : Prop := fnExactSwapBoardUptoRow.holds Try.pinned (OpenSpec.upto fnExactSwapBoardSpec)

/-- 'laws.FnIdentifiers', WHERE WHAT IT READS IS OF BULK AT MOST 1048576: true; the input reads as it did. -/
def fnIdentifiersUptoRow : OpenClaim := { program := "ytkddeoifdecniaa", sum := "45a9e727fd0a630873762c86ad779cb43936a34eb0abc772f17ec0c3335b4c15", func := "loop.example/g00885/laws.FnIdentifiers", spec := "fnIdentifiers", inPlace := ["internal/bytealg.IndexByteString"], unfollowed := true, recurses := true, apart := false, narrowed := true }
def FnIdentifiersUptoSaid : Prop := fnIdentifiersUptoRow.holds Try.pinned (OpenSpec.upto fnIdentifiersSpec)

/-- 'laws.FnExactBoardBits', WHERE WHAT IT READS IS OF BULK AT MOST 1048576: true; the input reads as it did. -/
def fnExactBoardBitsUptoRow : OpenClaim := { program := "ytkddeoifdecniaa", sum := "45a9e727fd0a630873762c86ad779cb43936a34eb0abc772f17ec0c3335b4c15", func := "loop.example/g00885/laws.FnExactBoardBits", spec := "fnExactBoardBits", unfollowed := true, recurses := true, apart := false, narrowed := true }
def FnExactBoardBitsUptoSaid : Prop := fnExactBoardBitsUptoRow.holds Try.pinned (OpenSpec.upto fnExactBoardBitsSpec)

/-- 'laws.FnExactBoardOfBits', WHERE WHAT IT READS IS OF BULK AT MOST 1048576: true; the input reads as it did. -/
def fnExactBoardOfBitsUptoRow : OpenClaim := { program := "ytkddeoifdecniaa", sum := "45a9e727fd0a630873762c86ad779cb43936a34eb0abc772f17ec0c3335b4c15", func := "loop.example/g00885/laws.FnExactBoardOfBits", spec := "fnExactBoardOfBits", unfollowed := true, recurses := true, apart := false, narrowed := true }
def FnExactBoardOfBitsUptoSaid : Prop := fnExactBoardOfBitsUptoRow.holds Try.pinned (OpenSpec.upto fnExactBoardOfBitsSpec)

/-- 'laws.FnExactBoardId', WHERE WHAT IT READS IS OF BULK AT MOST 1048576: true; the input reads as it did. -/
def fnExactBoardIdUptoRow : OpenClaim := { program := "ytkddeoifdecniaa", sum := "45a9e727fd0a630873762c86ad779cb43936a34eb0abc772f17ec0c3335b4c15", func := "loop.example/g00885/laws.FnExactBoardId", spec := "fnExactBoardId", unfollowed := true, recurses := true, apart := false, narrowed := true }
def FnExactBoardIdUptoSaid : Prop := fnExactBoardIdUptoRow.holds Try.pinned (OpenSpec.upto fnExactBoardIdSpec)

/-- 'laws.FnExactReadBoardId', WHERE WHAT IT READS IS OF BULK AT MOST 1048576: true; the input reads as it did. -/
def fnExactReadBoardIdUptoRow : OpenClaim := { program := "ytkddeoifdecniaa", sum := "45a9e727fd0a630873762c86ad779cb43936a34eb0abc772f17ec0c3335b4c15", func := "loop.example/g00885/laws.FnExactReadBoardId", spec := "fnExactReadBoardId", inPlace := ["internal/bytealg.IndexByteString"], unfollowed := true, recurses := true, apart := false, narrowed := true }
def FnExactReadBoardIdUptoSaid : Prop := fnExactReadBoardIdUptoRow.holds Try.pinned (OpenSpec.upto fnExactReadBoardIdSpec)

/-- 'laws.FnBoardResults', WHERE WHAT IT READS IS OF BULK AT MOST 1048576: true; the input reads as it did. -/
def fnBoardResultsUptoRow : OpenClaim := { program := "ytkddeoifdecniaa", sum := "45a9e727fd0a630873762c86ad779cb43936a34eb0abc772f17ec0c3335b4c15", func := "loop.example/g00885/laws.FnBoardResults", spec := "fnBoardResults", unfollowed := true, recurses := true, apart := false, narrowed := true }
def FnBoardResultsUptoSaid : Prop := fnBoardResultsUptoRow.holds Try.pinned (OpenSpec.upto fnBoardResultsSpec)

end Rows
end Go.Proofs.Ytkddeoifdecniaa
