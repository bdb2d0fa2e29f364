/- Contract of the program's test whether a step is legal. -/
import Derived.Test.Ythoaeaahaflpiaa04d
namespace Go.Proofs.Ythoaeaahaflpiaa
open Go.ChangeShapes Go.WideShapes Go.ChangeAt Go.RowKit
set_option linter.unusedVariables false
set_option linter.unusedSimpArgs false

/-- A step is legal on a board. -/
def legB (P : Nat) (h s : Int) (xs ys : List Int) (t : Stp) : Bool :=
  inB t.2.2.1 1 s && (placesB (P : Int) t && (!overB xs ys && decide (stepI P h xs ys t.1.toNat t.2.2.1 = some t)))
end Go.Proofs.Ythoaeaahaflpiaa
