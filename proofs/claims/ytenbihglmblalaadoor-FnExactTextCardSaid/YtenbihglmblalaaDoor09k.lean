/- Contract of the program's sums of exact numbers. -/
import Derived.Test.YtenbihglmblalaaDoor09j
import Derived.Deep.Cut
namespace Go.Proofs.YtenbihglmblalaaDoor
open Go.ChangeShapes Go.WideShapes Go.ChangeAt Go.RowKit
set_option linter.unusedVariables false
set_option linter.unusedSimpArgs false
set_option maxRecDepth 4000

/-- A sum of two numbers, the depth of the first at most that of the second. -/
def adO (S : Nat) (a : Int) (i : Nat) (b : Int) (j : Nat) : Option (Int × Int) :=
  if 2000000000000000000 < (a * (scN S (j - i) : Int)).natAbs then none else rdX S (a * (scN S (j - i) : Int) + b) j
theorem adX_le {S : Nat} {a b : Int} {i j : Nat} (h : i ≤ j) : adX S a i b j = adO S a i b j := by unfold adX; rw [if_pos h]; rfl
theorem adX_gt {S : Nat} {a b : Int} {i j : Nat} (h : ¬ i ≤ j) : adX S a i b j = adO S b j a i := by unfold adX; rw [if_neg h]; rfl
end Go.Proofs.YtenbihglmblalaaDoor
