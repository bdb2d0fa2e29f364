/- Contract of the model on the board behind a play's steps. -/
import Derived.Test.YtciljbnailobgaaGreatV19
import Derived.Test.YtciljbnailobgaaGreatV14
import Derived.Test.YtciljbnailobgaaGreatV16
import Derived.Test.YtciljbnailobgaaGreatV05
import Derived.Deep.CutRange
namespace Go.Proofs.YtciljbnailobgaaGreat
open Go.ChangeShapes Go.WideShapes Go.ChangeAt Go.RowKit
set_option linter.unusedVariables false
set_option linter.unusedSimpArgs false
set_option maxRecDepth 4000
def ORw (w : World) (g : Nat) (os : List (List Int)) : Prop := ∀ j o, os[j]? = some o → ∃ gj, CellIs w g j (.slice (some ⟨gj, 0, none⟩) o.length o.length) ∧ Row w gj o
theorem ORw.below {w w' : World} {g : Nat} {os : List (List Int)} (h : ORw w g os) (hb : Below w.heap.size w w') : ORw w' g os := fun j o hj => by
  obtain ⟨gj, h1, h2⟩ := h j o hj
  exact ⟨gj, CellIs.below h1 hb, h2.below hb⟩
theorem ORw.take {w : World} {g : Nat} {os : List (List Int)} (h : ORw w g os) (n : Nat) : ORw w g (os.take n) := fun j o hj => by
  rw [List.getElem?_take] at hj
  split at hj
  · exact h j o hj
  · cases hj
end Go.Proofs.YtciljbnailobgaaGreat
