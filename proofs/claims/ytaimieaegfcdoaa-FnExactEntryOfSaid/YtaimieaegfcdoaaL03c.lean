/- Contracts of chapter 3: the side with a number, of the program and of its model. -/
import Derived.Test.YtaimieaegfcdoaaL03b
import Derived.Test.YtaimieaegfcdoaaOwnS
import Derived.Deep.RegionHeld3
namespace Go.Proofs.Ytaimieaegfcdoaa
open Go.ChangeShapes Go.WideShapes Go.ChangeAt Go.RowKit
set_option linter.unusedVariables false
set_option linter.unusedSimpArgs false
set_option maxRecDepth 4000

/-- The side with a number, as a list of integers. -/
def unrI (n k l : Nat) : List Int := (unr n k l).map fun (x : Nat) => (x : Int)
theorem unrI_cons (n k l : Nat) (hk : k < cnt (n + 1) l) : ∃ j, j ≤ l ∧ blk n l j ≤ k ∧ k < blk n l j + cnt n (l - j) ∧ unrI (n + 1) k l = (j : Int) :: unrI n (k - blk n l j) (l - j) := by
  obtain ⟨j, h1, h2, h3, h4⟩ := unr_cons n k l hk
  exact ⟨j, h1, h2, h3, by rw [unrI, h4]; rfl⟩
theorem unrI_length (n k l : Nat) (hk : k < cnt n l) : (unrI n k l).length = n := by rw [unrI, List.length_map, (unr_ok n k l hk).1]
theorem put_at (D : List Int) (k b : Nat) (x : Int) (h : D.length = k) : (D ++ List.replicate (b + 1) 0).set k x = (D ++ [x]) ++ List.replicate b 0 := by
  subst h
  simp [List.replicate_succ, List.set_append]
/-- A number is that of a side. -/
def okN (p c k : Int) : Bool := decide (0 ≤ k ∧ k < (cnt (p + 1).toNat c.toNat : Int))
def sonL (p c h s k : Int) : List Int := if vB p c h s = true ∧ okN p c k = true then unrI (p + 1).toNat k.toNat c.toNat else []
def sonE (p c h s k : Int) : Int := if vB p c h s = true then (if okN p c k = true then 0 else 4) else 1
end Go.Proofs.Ytaimieaegfcdoaa
