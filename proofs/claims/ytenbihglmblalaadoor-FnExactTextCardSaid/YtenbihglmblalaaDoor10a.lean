/- Contracts of chapter 10 on positions: validity, codes, sums and pips, of the program and of its model. -/
import Derived.Test.YtenbihglmblalaaDoorImpl02c
import Derived.Test.YtenbihglmblalaaDoorL02a
import Derived.BigQuiet
import Derived.Deep.QuietTactic
import Derived.Deep.RegionHeld3
namespace Go.Proofs.YtenbihglmblalaaDoor
open Go.ChangeShapes Go.WideShapes Go.ChangeAt Go.RowKit
set_option linter.unusedVariables false
set_option linter.unusedSimpArgs false
set_option maxRecDepth 4000

/-- A bear-off position of a valid variant: as many places as home points. -/
def okP (p c h s : Int) (xs : List Int) : Bool := vB p c h s && sideB (h - 1) c xs
/-- The code of a variant and a position. -/
def bcE (p c h s : Int) (xs : List Int) : Int := if vB p c h s = true then (if sideB (h - 1) c xs = true then 0 else 2) else 1
def bpI (p c h s : Int) (xs : List Int) : Int := if okP p c h s xs = true then pipsL xs xs.length else 0
theorem okP_of {p c h s : Int} {xs : List Int} (e : bcE p c h s xs = 0) : okP p c h s xs = true := by
  unfold bcE at e
  split at e
  · rename_i g
    split at e
    · rename_i q; simp [okP, g, q]
    · simp at e
  · simp at e
theorem bcE_of {p c h s : Int} {xs : List Int} (e : okP p c h s xs = true) : bcE p c h s xs = 0 := by
  simp only [okP, Bool.and_eq_true] at e
  simp [bcE, e.1, e.2]
theorem okP_parts {p c h s : Int} {xs : List Int} (g : okP p c h s xs = true) : (xs.length : Int) = h ∧ h ≤ 24 ∧ (∀ x ∈ xs, 0 ≤ x ∧ x ≤ 15) ∧ xs.sum ≤ c ∧ 1 ≤ h ∧ 1 ≤ c ∧ c ≤ 15 ∧ 0 ≤ xs.sum := by
  simp only [okP, Bool.and_eq_true] at g
  have hv := vB_iff.1 g.1
  obtain ⟨m1, m2, m3⟩ := sideB_iff.1 g.2
  exact ⟨by omega, by omega, fun x hx => by have := m2 x hx; omega, m3, by omega, by omega, by omega, (sum_bound xs m2).1⟩
end Go.Proofs.YtenbihglmblalaaDoor
