/- Contracts of the model's functions of chapter 2: sums and sides. -/
import Derived.Test.YtpalokkcmpjcmaaM02
import Derived.Test.YtpalokkcmpjcmaaBoardLaws
import Derived.Deep.RegionHeld3
namespace Go.Proofs.Ytpalokkcmpjcmaa
open Go.ChangeShapes Go.WideShapes Go.ChangeAt Go.RowKit
set_option linter.unusedVariables false
set_option linter.unusedSimpArgs false

end Go.Proofs.Ytpalokkcmpjcmaa
