/-
  DERIVED. GIVEN WITH THE SEED: THE CARDS: each row of YtkcjbjkccafekaaDoorRows.lean that lists a variable, with what it lists TIED to the program's text (the seventh form; the later family's looks); each row that meets fmt, with fmt's text TOLD by the authors' own Lean function (tested against real Go, not proved from fmt's source: count such statements apart). THE CARD IS WHAT COUNTS. Prove the row's statement (the work); the ties are given (YtkcjbjkccafekaaDoorTie.lean); close each card by the builder's one call (the guide's Derived/Test/ToyasCard.lean, 'card_holds'). Laid BY PROGRAM, IN A SANDBOX (cutbox-door.mjs). By AI agents, Wed Nov 11 2026. No macro, syntax, notation, axiom, sorry.
-/
import Derived.Test.YtkcjbjkccafekaaDoorRows
import GoSem.ClaimSeven
namespace Go.Proofs.YtkcjbjkccafekaaDoor
namespace Rows

/-- THE TIED CARD OF 'laws.FnCubeText'. -/
def fnCubeTextCard : Claim7 := { stood := { row := fnCubeTextRow, standIns := [], harness := (true, "55f1124a026e95720d925c7c7c843fdd7b9e48a59a106eb22032d49fa40921d7"), looks := false }, kinds := [], alts := [], laidByText := true, laidKinds := [.data, .data, .data], laidTests := true, laidLooks := .later }
def FnCubeTextCardSaid : Prop := Claim7.holds Tryd.pinned (.plain (OpenSpec.ofChange fnCubeTextSpec)) fnCubeTextCard

/-- THE TIED CARD OF 'laws.FnExactCubeText'. -/
def fnExactCubeTextCard : Claim7 := { stood := { row := fnExactCubeTextRow, standIns := [], harness := (true, "55f1124a026e95720d925c7c7c843fdd7b9e48a59a106eb22032d49fa40921d7"), looks := false }, kinds := [], alts := [], laidByText := true, laidKinds := [.data, .data, .data], laidTests := true, laidLooks := .later }
def FnExactCubeTextCardSaid : Prop := Claim7.holds Tryd.pinned (.plain (OpenSpec.ofChange fnExactCubeTextSpec)) fnExactCubeTextCard

/-- THE TIED CARD OF 'laws.FnExactReadCube'. -/
def fnExactReadCubeCard : Claim7 := { stood := { row := fnExactReadCubeRow, standIns := [], harness := (true, "55f1124a026e95720d925c7c7c843fdd7b9e48a59a106eb22032d49fa40921d7"), looks := false }, kinds := [], alts := [], laidByText := true, laidKinds := [.data, .data, .data], laidTests := true, laidLooks := .later }
def FnExactReadCubeCardSaid : Prop := Claim7.holds Tryd.pinned (.plain (OpenSpec.ofChange fnExactReadCubeSpec)) fnExactReadCubeCard

/-- THE SECOND FORM's CARD OF 'laws.FnCubeText'. -/
def fnCubeTextUptoCard : Claim7 := { stood := { row := fnCubeTextUptoRow, standIns := [], harness := (true, "55f1124a026e95720d925c7c7c843fdd7b9e48a59a106eb22032d49fa40921d7"), looks := false }, kinds := [], alts := [], laidByText := true, laidKinds := [.data, .data, .data], laidTests := true, laidLooks := .later }
def FnCubeTextUptoCardSaid : Prop := Claim7.holds Tryd.pinned (.plain (OpenSpec.upto fnCubeTextSpec)) fnCubeTextUptoCard

/-- THE SECOND FORM's CARD OF 'laws.FnExactCubeText'. -/
def fnExactCubeTextUptoCard : Claim7 := { stood := { row := fnExactCubeTextUptoRow, standIns := [], harness := (true, "55f1124a026e95720d925c7c7c843fdd7b9e48a59a106eb22032d49fa40921d7"), looks := false }, kinds := [], alts := [], laidByText := true, laidKinds := [.data, .data, .data], laidTests := true, laidLooks := .later }
def FnExactCubeTextUptoCardSaid : Prop := Claim7.holds Tryd.pinned (.plain (OpenSpec.upto fnExactCubeTextSpec)) fnExactCubeTextUptoCard

/-- THE SECOND FORM's CARD OF 'laws.FnExactReadCube'. -/
def fnExactReadCubeUptoCard : Claim7 := { stood := { row := fnExactReadCubeUptoRow, standIns := [], harness := (true, "55f1124a026e95720d925c7c7c843fdd7b9e48a59a106eb22032d49fa40921d7"), looks := false }, kinds := [], alts := [], laidByText := true, laidKinds := [.data, .data, .data], laidTests := true, laidLooks := .later }
def FnExactReadCubeUptoCardSaid : Prop := Claim7.holds Tryd.pinned (.plain (OpenSpec.upto fnExactReadCubeSpec)) fnExactReadCubeUptoCard
end Rows
end Go.Proofs.YtkcjbjkccafekaaDoor
