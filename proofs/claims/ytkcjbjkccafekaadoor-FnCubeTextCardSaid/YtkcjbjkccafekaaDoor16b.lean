/- Contracts of the program on the cube that is turned. -/
import Derived.Test.YtkcjbjkccafekaaDoor16a
namespace Go.Proofs.YtkcjbjkccafekaaDoor
open Go.ChangeShapes Go.WideShapes Go.ChangeAt Go.RowKit
set_option linter.unusedVariables false
set_option linter.unusedSimpArgs false
set_option maxRecDepth 4000

end Go.Proofs.YtkcjbjkccafekaaDoor
