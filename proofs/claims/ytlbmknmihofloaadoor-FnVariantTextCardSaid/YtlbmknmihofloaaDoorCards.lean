/-
  DERIVED. GIVEN WITH THE SEED: THE CARDS: each row of YtlbmknmihofloaaDoorRows.lean that lists a variable, with what it lists TIED to the program's text (the seventh form; the later family's looks); each row that meets fmt, with fmt's text TOLD by the authors' own Lean function (tested against real Go, not proved from fmt's source: count such statements apart). THE CARD IS WHAT COUNTS. Prove the row's statement (the work); the ties are given (YtlbmknmihofloaaDoorTie.lean); close each card by the builder's one call (the guide's Derived/Test/ToyasCard.lean, 'card_holds'). Laid BY PROGRAM, IN A SANDBOX (cutbox-door.mjs). By AI agents, Wed Nov 11 2026. No macro, syntax, notation, axiom, sorry.
-/
import Derived.Test.YtlbmknmihofloaaDoorRows
import GoSem.ClaimSeven
namespace Go.Proofs.YtlbmknmihofloaaDoor
namespace Rows

/-- THE TIED CARD OF 'laws.FnVariantText'. -/
def fnVariantTextCard : Claim7 := { stood := { row := fnVariantTextRow, standIns := [], harness := (true, "ccb65d35772849b554d28dcaddf6fc03d37d99ed806f17914fee209d0e7f8374"), looks := false }, kinds := [], alts := [], laidByText := true, laidKinds := [.data, .data, .data], laidTests := true, laidLooks := .later }
def FnVariantTextCardSaid : Prop := Claim7.holds Tryd.pinned (.plain (OpenSpec.ofChange fnVariantTextSpec)) fnVariantTextCard

/-- THE TIED CARD OF 'laws.FnExactVariantText'. -/
def fnExactVariantTextCard : Claim7 := { stood := { row := fnExactVariantTextRow, standIns := [], harness := (true, "ccb65d35772849b554d28dcaddf6fc03d37d99ed806f17914fee209d0e7f8374"), looks := false }, kinds := [], alts := [], laidByText := true, laidKinds := [.data, .data, .data], laidTests := true, laidLooks := .later }
def FnExactVariantTextCardSaid : Prop := Claim7.holds Tryd.pinned (.plain (OpenSpec.ofChange fnExactVariantTextSpec)) fnExactVariantTextCard

/-- THE TIED CARD OF 'laws.FnExactReadVariant'. -/
def fnExactReadVariantCard : Claim7 := { stood := { row := fnExactReadVariantRow, standIns := [], harness := (true, "ccb65d35772849b554d28dcaddf6fc03d37d99ed806f17914fee209d0e7f8374"), looks := false }, kinds := [], alts := [], laidByText := true, laidKinds := [.data, .data, .data], laidTests := true, laidLooks := .later }
def FnExactReadVariantCardSaid : Prop := Claim7.holds Tryd.pinned (.plain (OpenSpec.ofChange fnExactReadVariantSpec)) fnExactReadVariantCard

/-- THE SECOND FORM's CARD OF 'laws.FnVariantText'. -/
def fnVariantTextUptoCard : Claim7 := { stood := { row := fnVariantTextUptoRow, standIns := [], harness := (true, "ccb65d35772849b554d28dcaddf6fc03d37d99ed806f17914fee209d0e7f8374"), looks := false }, kinds := [], alts := [], laidByText := true, laidKinds := [.data, .data, .data], laidTests := true, laidLooks := .later }
def FnVariantTextUptoCardSaid : Prop := Claim7.holds Tryd.pinned (.plain (OpenSpec.upto fnVariantTextSpec)) fnVariantTextUptoCard

/-- THE SECOND FORM's CARD OF 'laws.FnExactVariantText'. -/
def fnExactVariantTextUptoCard : Claim7 := { stood := { row := fnExactVariantTextUptoRow, standIns := [], harness := (true, "ccb65d35772849b554d28dcaddf6fc03d37d99ed806f17914fee209d0e7f8374"), looks := false }, kinds := [], alts := [], laidByText := true, laidKinds := [.data, .data, .data], laidTests := true, laidLooks := .later }
def FnExactVariantTextUptoCardSaid : Prop := Claim7.holds Tryd.pinned (.plain (OpenSpec.upto fnExactVariantTextSpec)) fnExactVariantTextUptoCard

/-- THE SECOND FORM's CARD OF 'laws.FnExactReadVariant'. -/
def fnExactReadVariantUptoCard : Claim7 := { stood := { row := fnExactReadVariantUptoRow, standIns := [], harness := (true, "ccb65d35772849b554d28dcaddf6fc03d37d99ed806f17914fee209d0e7f8374"), looks := false }, kinds := [], alts := [], laidByText := true, laidKinds := [.data, .data, .data], laidTests := true, laidLooks := .later }
def FnExactReadVariantUptoCardSaid : Prop := Claim7.holds Tryd.pinned (.plain (OpenSpec.upto fnExactReadVariantSpec)) fnExactReadVariantUptoCard
end Rows
end Go.Proofs.YtlbmknmihofloaaDoor
