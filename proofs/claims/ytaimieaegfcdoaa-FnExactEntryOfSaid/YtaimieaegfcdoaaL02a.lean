/- Contracts of the model's functions of chapter 2: sums and sides. -/
import Derived.Test.YtaimieaegfcdoaaM02
import Derived.Test.YtaimieaegfcdoaaBoardLaws
import Derived.Deep.RegionHeld3
namespace Go.Proofs.Ytaimieaegfcdoaa
open Go.ChangeShapes Go.WideShapes Go.ChangeAt Go.RowKit
set_option linter.unusedVariables false
set_option linter.unusedSimpArgs false

end Go.Proofs.Ytaimieaegfcdoaa
