/- Contracts of the lists of legal steps, of the program and of its model. -/
import Derived.Test.Ytokjkcnjmfbfiaa04k
namespace Go.Proofs.Ytokjkcnjmfbfiaa
open Go.ChangeShapes Go.WideShapes Go.ChangeAt Go.RowKit
set_option linter.unusedVariables false
set_option linter.unusedSimpArgs false
set_option maxRecDepth 4000

def lsL (p c h s : Int) (xs ys : List Int) (d : Int) : List Stp := if isB p c h s xs ys = true then (if inB d 1 s = true then legL p.toNat h xs ys d else []) else []
def lsR (p c h s : Int) (xs ys : List Int) (d : Int) : Int := if isB p c h s xs ys = true then (if inB d 1 s = true then 0 else 2) else 1
theorem lsL_length (p c h s : Int) (xs ys : List Int) (d : Int) : (lsL p c h s xs ys d).length ≤ 1048576 := by
  unfold lsL
  split
  · rename_i g
    split
    · obtain ⟨p0, p1, k0, k1, k2, k3, N1, N2, hx, hy, s0, s1, s2, s3⟩ := isB_parts g
      have := legL_length p.toNat h xs ys d
      omega
    · simp
  · simp
end Go.Proofs.Ytokjkcnjmfbfiaa
