/- Contracts of the program and of its model on open points and legal steps. -/
import Derived.Test.Ythoaeaahaflpiaa04j
namespace Go.Proofs.Ythoaeaahaflpiaa
open Go.ChangeShapes Go.WideShapes Go.ChangeAt Go.RowKit
set_option linter.unusedVariables false
set_option linter.unusedSimpArgs false

theorem isB_sides {p c h s : Int} {xs ys : List Int} (g : isB p c h s xs ys = true) : 1 ≤ s ∧ s ≤ 6 := by
  have hv : vB p c h s = true := by
    unfold isB at g
    rw [Bool.and_eq_true] at g
    exact g.1
  have := vB_iff.1 hv
  omega
/-- The board is valid and a point of it is open. -/
def opB (p c h s : Int) (xs ys : List Int) (i : Int) : Bool := isB p c h s xs ys && openB p.toNat ys i
/-- The board is valid and a step is legal on it. -/
def lgB (p c h s : Int) (xs ys : List Int) (t : Stp) : Bool := isB p c h s xs ys && legB p.toNat h s xs ys t
end Go.Proofs.Ythoaeaahaflpiaa
