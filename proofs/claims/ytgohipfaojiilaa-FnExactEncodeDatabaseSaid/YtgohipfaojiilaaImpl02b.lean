/- Contracts of the program's functions of chapter 2: points of both players, the end, contact, sides. -/
import Derived.Test.YtgohipfaojiilaaImpl02a
import Derived.IntWalk
import Derived.BigGuard
import Derived.BigGuardPart
namespace Go.Proofs.Ytgohipfaojiilaa
open Go.ChangeShapes Go.WideShapes Go.ChangeAt Go.RowKit
set_option linter.unusedVariables false
set_option linter.unusedSimpArgs false

theorem held3t {w W w2 : World} {g : Nat} {v0 v1 v2 : Value} (hS : W.cell? ⟨g, 0, none⟩ = some v0 ∧ W.cell? ⟨g, 1, none⟩ = some v1 ∧ W.cell? ⟨g, 2, none⟩ = some v2 ∧ Below w.heap.size w W ∧ g < W.heap.size) (hb : Below W.heap.size W w2) :
    w2.cell? ⟨g, 0, none⟩ = some v0 ∧ w2.cell? ⟨g, 1, none⟩ = some v1 ∧ w2.cell? ⟨g, 2, none⟩ = some v2 ∧ Below w.heap.size w w2 ∧ g < w2.heap.size := by
  obtain ⟨h0, h1, h2, h3, h4⟩ := hS
  obtain ⟨hc, _⟩ := bcell hb
  exact ⟨by rw [hc _ _ h4]; exact h0, by rw [hc _ _ h4]; exact h1, by rw [hc _ _ h4]; exact h2, chain h3 hb, Nat.lt_of_lt_of_le h4 hb.size⟩
end Go.Proofs.Ytgohipfaojiilaa
