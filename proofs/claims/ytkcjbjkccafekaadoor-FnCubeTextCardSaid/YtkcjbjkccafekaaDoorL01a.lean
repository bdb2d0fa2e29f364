/- Contracts of the functions of chapter 1 on validity and numbers of rolls, of the program and of its model. -/
import Derived.Test.YtkcjbjkccafekaaDoorBase
namespace Go.Proofs.YtkcjbjkccafekaaDoor
open Go.ChangeShapes Go.WideShapes Go.ChangeAt Go.RowKit
set_option linter.unusedVariables false
set_option linter.unusedSimpArgs false

def vB (p c h s : Int) : Bool := decide (2 ≤ p ∧ p ≤ 24 ∧ 1 ≤ c ∧ c ≤ 15 ∧ 1 ≤ h ∧ h ≤ p ∧ 1 ≤ s ∧ s ≤ 6)
def smB (p c h s : Int) : Bool := vB p c h s && decide (p ≤ 6 ∧ c ≤ 3 ∧ s ≤ 3)
def apB (p c h s : Int) : Bool := vB p c h s && decide (2 * h ≤ p)
def inB (n lo hi : Int) : Bool := decide (lo ≤ n ∧ n ≤ hi)
theorem vB_iff {p c h s : Int} : vB p c h s = true ↔ (2 ≤ p ∧ p ≤ 24 ∧ 1 ≤ c ∧ c ≤ 15 ∧ 1 ≤ h ∧ h ≤ p ∧ 1 ≤ s ∧ s ≤ 6) := by simp [vB]
end Go.Proofs.YtkcjbjkccafekaaDoor
