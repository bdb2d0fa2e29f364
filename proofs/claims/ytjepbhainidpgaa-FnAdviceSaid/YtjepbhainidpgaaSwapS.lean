/- Contracts of the model's exchange of sides. -/
import Derived.Test.YtjepbhainidpgaaSwapI
import Derived.Test.YtjepbhainidpgaaL02d
import Derived.ArgAppend
namespace Go.Proofs.Ytjepbhainidpgaa
open Go.ChangeShapes Go.WideShapes Go.ChangeAt Go.RowKit
set_option linter.unusedVariables false
set_option linter.unusedSimpArgs false
set_option maxRecDepth 4000

end Go.Proofs.Ytjepbhainidpgaa
