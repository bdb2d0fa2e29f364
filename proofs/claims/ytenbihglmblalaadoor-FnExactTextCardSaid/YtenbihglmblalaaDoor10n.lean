/- Contract of chapter 9: the number that the model reads. -/
import Derived.Test.YtenbihglmblalaaDoorSpl
import Derived.Test.YtenbihglmblalaaDoorM02
import Derived.Deep.LoopGhost
namespace Go.Proofs.YtenbihglmblalaaDoor
open Go.ChangeShapes Go.WideShapes Go.ChangeAt Go.RowKit
set_option linter.unusedVariables false
set_option linter.unusedSimpArgs false
set_option maxRecDepth 4000

theorem drop_get0 (t : ByteArray) (k : Nat) (h : k < t.size) : t.data.toList.drop k = t[k] :: t.data.toList.drop (k + 1) := by
  rw [List.drop_eq_getElem_cons (by simpa using h)]; rfl
end Go.Proofs.YtenbihglmblalaaDoor
