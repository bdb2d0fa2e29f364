/- Contracts of the functions of chapter 1 that reckon with a variant (home points apart, numbers of rolls, the full game), of the program and of its model. -/
import Derived.Test.YtdciiocmddlhfaaL01a
namespace Go.Proofs.Ytdciiocmddlhfaa
open Go.ChangeShapes Go.WideShapes Go.ChangeAt Go.RowKit
set_option linter.unusedVariables false
set_option linter.unusedSimpArgs false

def rkI (p c h s : Int) : Int := if vB p c h s = true then s * (s + 1) / 2 else -1
def rtI (p c h s : Int) : Int := if vB p c h s = true then s * s else -1
theorem six {p c h s : Int} (g : vB p c h s = true) : s = 1 ∨ s = 2 ∨ s = 3 ∨ s = 4 ∨ s = 5 ∨ s = 6 := by
  have := vB_iff.1 g; omega
theorem ret_int {k : IntKind} {a b : Int} (h : a = b) : Ending.returned (.int k a) = .returned (.int k b) := by rw [h]
end Go.Proofs.Ytdciiocmddlhfaa
