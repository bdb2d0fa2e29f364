/- Contracts of the program's functions on products of two words. -/
import Derived.Test.YtgohipfaojiilaaM09
import Derived.Test.YtgohipfaojiilaaShelf
import Derived.Test.YtgohipfaojiilaaSrcLaws
import Derived.Test.YtgohipfaojiilaaBoardLaws
import Derived.Test.YtgohipfaojiilaaStp
import Derived.Lib.MinMax
import Derived.IntWalk
import Derived.Deep.QuietTactic
namespace Go.Proofs.Ytgohipfaojiilaa
open Go.ChangeShapes Go.WideShapes Go.ChangeAt Go.RowKit
set_option linter.unusedVariables false
set_option linter.unusedSimpArgs false
set_option maxRecDepth 4000

/-- Two words are a magnitude. -/
def WD (hh ll : Int) (m : Nat) : Prop := ∃ h l : Nat, hh = (h : Int) ∧ ll = (l : Int) ∧ h < 18446744073709551616 ∧ l < 18446744073709551616 ∧ h * 18446744073709551616 + l = m
/-- A product is negative. -/
def ngB (a b : Int) : Bool := decide (a < 0) != decide (b < 0)
end Go.Proofs.Ytgohipfaojiilaa
