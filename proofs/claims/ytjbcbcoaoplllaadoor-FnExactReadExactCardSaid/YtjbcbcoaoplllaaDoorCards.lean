/-
  DERIVED. GIVEN WITH THE SEED: THE CARDS: each row of YtjbcbcoaoplllaaDoorRows.lean that lists a variable, with what it lists TIED to the program's text (the seventh form; the later family's looks); each row that meets fmt, with fmt's text TOLD by the authors' own Lean function (tested against real Go, not proved from fmt's source: count such statements apart). THE CARD IS WHAT COUNTS. Prove the row's statement (the work); the ties are given (YtjbcbcoaoplllaaDoorTie.lean); close each card by the builder's one call (the guide's Derived/Test/ToyasCard.lean, 'card_holds'). Laid BY PROGRAM, IN A SANDBOX (cutbox-door.mjs). By AI agents, Wed Nov 11 2026. No macro, syntax, notation, axiom, sorry.
-/
import Derived.Test.YtjbcbcoaoplllaaDoorRows
import GoSem.ClaimSeven
namespace Go.Proofs.YtjbcbcoaoplllaaDoor
namespace Rows

/-- THE TIED CARD OF 'laws.FnExactBearoffText'. -/
def fnExactBearoffTextCard : Claim7 := { stood := { row := fnExactBearoffTextRow, standIns := [], harness := (true, "a8176d7a2045261b145e3493c2c40dbfc2becc5f9703e5a8e6d5fae89eb9f101"), looks := true }, kinds := [], alts := [], laidByText := true, laidKinds := [.data, .data, .data], laidTests := true, laidLooks := .later }
def FnExactBearoffTextCardSaid : Prop := Claim7.holds Tryd.pinned (.plain (OpenSpec.ofChange fnExactBearoffTextSpec)) fnExactBearoffTextCard

/-- THE TIED CARD OF 'laws.FnExactReadBearoff'. -/
def fnExactReadBearoffCard : Claim7 := { stood := { row := fnExactReadBearoffRow, standIns := [], harness := (true, "a8176d7a2045261b145e3493c2c40dbfc2becc5f9703e5a8e6d5fae89eb9f101"), looks := true }, kinds := [], alts := [], laidByText := true, laidKinds := [.data, .data, .data, .data, .sentinel, .sentinel, .pinned], laidTests := true, laidLooks := .later }
def FnExactReadBearoffCardSaid : Prop := Claim7.holds Tryd.pinned (.plain (OpenSpec.ofChange fnExactReadBearoffSpec)) fnExactReadBearoffCard

/-- THE TIED CARD OF 'laws.FnBearoffText'. -/
def fnBearoffTextCard : Claim7 := { stood := { row := fnBearoffTextRow, standIns := [], harness := (true, "a8176d7a2045261b145e3493c2c40dbfc2becc5f9703e5a8e6d5fae89eb9f101"), looks := true }, kinds := [], alts := [], laidByText := true, laidKinds := [.data, .data, .data, .data, .sentinel, .sentinel, .pinned], laidTests := true, laidLooks := .later }
def FnBearoffTextCardSaid : Prop := Claim7.holds Tryd.pinned (.plain (OpenSpec.ofChange fnBearoffTextSpec)) fnBearoffTextCard

/-- THE TIED CARD OF 'laws.FnExactExactText'. -/
def fnExactExactTextCard : Claim7 := { stood := { row := fnExactExactTextRow, standIns := [], harness := (true, "a8176d7a2045261b145e3493c2c40dbfc2becc5f9703e5a8e6d5fae89eb9f101"), looks := true }, kinds := [], alts := [], laidByText := true, laidKinds := [.data, .data, .data], laidTests := true, laidLooks := .later }
def FnExactExactTextCardSaid : Prop := Claim7.holds Tryd.pinned (.plain (OpenSpec.ofChange fnExactExactTextSpec)) fnExactExactTextCard

/-- THE TIED CARD OF 'laws.FnExactReadExact'. -/
def fnExactReadExactCard : Claim7 := { stood := { row := fnExactReadExactRow, standIns := [], harness := (true, "a8176d7a2045261b145e3493c2c40dbfc2becc5f9703e5a8e6d5fae89eb9f101"), looks := true }, kinds := [], alts := [], laidByText := true, laidKinds := [.data, .data, .data, .sentinel, .sentinel], laidTests := true, laidLooks := .later }
def FnExactReadExactCardSaid : Prop := Claim7.holds Tryd.pinned (.plain (OpenSpec.ofChange fnExactReadExactSpec)) fnExactReadExactCard

/-- THE TIED CARD OF 'laws.FnExactText'. -/
def fnExactTextCard : Claim7 := { stood := { row := fnExactTextRow, standIns := [], harness := (true, "a8176d7a2045261b145e3493c2c40dbfc2becc5f9703e5a8e6d5fae89eb9f101"), looks := true }, kinds := [], alts := [], laidByText := true, laidKinds := [.data, .data, .data, .sentinel, .sentinel], laidTests := true, laidLooks := .later }
def FnExactTextCardSaid : Prop := Claim7.holds Tryd.pinned (.plain (OpenSpec.ofChange fnExactTextSpec)) fnExactTextCard

/-- THE SECOND FORM's CARD OF 'laws.FnExactBearoffText'. -/
def fnExactBearoffTextUptoCard : Claim7 := { stood := { row := fnExactBearoffTextUptoRow, standIns := [], harness := (true, "a8176d7a2045261b145e3493c2c40dbfc2becc5f9703e5a8e6d5fae89eb9f101"), looks := true }, kinds := [], alts := [], laidByText := true, laidKinds := [.data, .data, .data], laidTests := true, laidLooks := .later }
def FnExactBearoffTextUptoCardSaid : Prop := Claim7.holds Tryd.pinned (.plain (OpenSpec.upto fnExactBearoffTextSpec)) fnExactBearoffTextUptoCard

/-- THE SECOND FORM's CARD OF 'laws.FnExactReadBearoff'. -/
def fnExactReadBearoffUptoCard : Claim7 := { stood := { row := fnExactReadBearoffUptoRow, standIns := [], harness := (true, "a8176d7a2045261b145e3493c2c40dbfc2becc5f9703e5a8e6d5fae89eb9f101"), looks := true }, kinds := [], alts := [], laidByText := true, laidKinds := [.data, .data, .data, .data, .sentinel, .sentinel, .pinned], laidTests := true, laidLooks := .later }
def FnExactReadBearoffUptoCardSaid : Prop := Claim7.holds Tryd.pinned (.plain (OpenSpec.upto fnExactReadBearoffSpec)) fnExactReadBearoffUptoCard

/-- THE SECOND FORM's CARD OF 'laws.FnBearoffText'. -/
def fnBearoffTextUptoCard : Claim7 := { stood := { row := fnBearoffTextUptoRow, standIns := [], harness := (true, "a8176d7a2045261b145e3493c2c40dbfc2becc5f9703e5a8e6d5fae89eb9f101"), looks := true }, kinds := [], alts := [], laidByText := true, laidKinds := [.data, .data, .data, .data, .sentinel, .sentinel, .pinned], laidTests := true, laidLooks := .later }
def FnBearoffTextUptoCardSaid : Prop := Claim7.holds Tryd.pinned (.plain (OpenSpec.upto fnBearoffTextSpec)) fnBearoffTextUptoCard

/-- THE SECOND FORM's CARD OF 'laws.FnExactExactText'. -/
def fnExactExactTextUptoCard : Claim7 := { stood := { row := fnExactExactTextUptoRow, standIns := [], harness := (true, "a8176d7a2045261b145e3493c2c40dbfc2becc5f9703e5a8e6d5fae89eb9f101"), looks := true }, kinds := [], alts := [], laidByText := true, laidKinds := [.data, .data, .data], laidTests := true, laidLooks := .later }
def FnExactExactTextUptoCardSaid : Prop := Claim7.holds Tryd.pinned (.plain (OpenSpec.upto fnExactExactTextSpec)) fnExactExactTextUptoCard

/-- THE SECOND FORM's CARD OF 'laws.FnExactReadExact'. -/
def fnExactReadExactUptoCard : Claim7 := { stood := { row := fnExactReadExactUptoRow, standIns := [], harness := (true, "a8176d7a2045261b145e3493c2c40dbfc2becc5f9703e5a8e6d5fae89eb9f101"), looks := true }, kinds := [], alts := [], laidByText := true, laidKinds := [.data, .data, .data, .sentinel, .sentinel], laidTests := true, laidLooks := .later }
def FnExactReadExactUptoCardSaid : Prop := Claim7.holds Tryd.pinned (.plain (OpenSpec.upto fnExactReadExactSpec)) fnExactReadExactUptoCard

/-- THE SECOND FORM's CARD OF 'laws.FnExactText'. -/
def fnExactTextUptoCard : Claim7 := { stood := { row := fnExactTextUptoRow, standIns := [], harness := (true, "a8176d7a2045261b145e3493c2c40dbfc2becc5f9703e5a8e6d5fae89eb9f101"), looks := true }, kinds := [], alts := [], laidByText := true, laidKinds := [.data, .data, .data, .sentinel, .sentinel], laidTests := true, laidLooks := .later }
def FnExactTextUptoCardSaid : Prop := Claim7.holds Tryd.pinned (.plain (OpenSpec.upto fnExactTextSpec)) fnExactTextUptoCard
end Rows
end Go.Proofs.YtjbcbcoaoplllaaDoor
