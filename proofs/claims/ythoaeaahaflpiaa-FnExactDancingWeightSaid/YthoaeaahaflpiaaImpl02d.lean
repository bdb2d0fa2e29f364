/- Contracts of the program's functions on whole boards. -/
import Derived.Test.YthoaeaahaflpiaaImpl02c
namespace Go.Proofs.Ythoaeaahaflpiaa
open Go.ChangeShapes Go.WideShapes Go.ChangeAt Go.RowKit
set_option linter.unusedVariables false
set_option linter.unusedSimpArgs false

theorem isB_parts {p c h s : Int} {xs ys : List Int} (g : isB p c h s xs ys = true) : 2 ≤ p ∧ p ≤ 24 ∧ 1 ≤ c ∧ c ≤ 15 ∧ 1 ≤ h ∧ h ≤ p ∧ (xs.length : Int) = p + 1 ∧ (ys.length : Int) = p + 1 ∧
    (∀ x ∈ xs, 0 ≤ x ∧ x ≤ 1000) ∧ (∀ x ∈ ys, 0 ≤ x ∧ x ≤ 1000) ∧ 0 ≤ xs.sum ∧ xs.sum ≤ c ∧ 0 ≤ ys.sum ∧ ys.sum ≤ c := by
  simp only [isB, Bool.and_eq_true] at g
  obtain ⟨g0, g1, g2, -, -⟩ := g
  obtain ⟨v0, v1, v2, v3, v4, v5, v6, v7⟩ := vB_iff.1 g0
  obtain ⟨m1, m2, m3⟩ := sideB_iff.1 g1
  obtain ⟨m4, m5, m6⟩ := sideB_iff.1 g2
  exact ⟨v0, v1, v2, v3, v4, v5, m1, m4, fun x hx => by have := m2 x hx; omega, fun x hx => by have := m5 x hx; omega, (sum_bound xs m2).1, m3, (sum_bound ys m5).1, m6⟩
theorem heldVT {w w2 W w3 : World} {p c h s : Int} {f1 f2 B : Nat} (hS : W.cell? ⟨w.heap.size, 0, none⟩ = some (.int .i64 p) ∧ W.cell? ⟨w.heap.size, 1, none⟩ = some (.int .i64 c) ∧ W.cell? ⟨w.heap.size, 2, none⟩ = some (.int .i64 h) ∧ W.cell? ⟨w.heap.size, 3, none⟩ = some (.int .i64 s) ∧ W.cell? ⟨w2.heap.size, 0, none⟩ = some (.int .i64 p) ∧ W.cell? ⟨w2.heap.size, 1, none⟩ = some (fv f1 B) ∧ W.cell? ⟨w2.heap.size, 2, none⟩ = some (fv f2 B) ∧ Below w2.heap.size w2 W ∧ w2.heap.size < W.heap.size ∧ w.heap.size < w2.heap.size) (hb : Below W.heap.size W w3) : w3.cell? ⟨w.heap.size, 0, none⟩ = some (.int .i64 p) ∧ w3.cell? ⟨w.heap.size, 1, none⟩ = some (.int .i64 c) ∧ w3.cell? ⟨w.heap.size, 2, none⟩ = some (.int .i64 h) ∧ w3.cell? ⟨w.heap.size, 3, none⟩ = some (.int .i64 s) ∧ w3.cell? ⟨w2.heap.size, 0, none⟩ = some (.int .i64 p) ∧ w3.cell? ⟨w2.heap.size, 1, none⟩ = some (fv f1 B) ∧ w3.cell? ⟨w2.heap.size, 2, none⟩ = some (fv f2 B) ∧ Below w2.heap.size w2 w3 ∧ w2.heap.size < w3.heap.size ∧ w.heap.size < w2.heap.size := by
  obtain ⟨h0, h1, h2, h3, h4, h5, h6, h7, h8, h9⟩ := hS
  obtain ⟨hc, _⟩ := bcell hb
  have hl : w.heap.size < W.heap.size := by omega
  exact ⟨by rw [hc _ _ hl]; exact h0, by rw [hc _ _ hl]; exact h1, by rw [hc _ _ hl]; exact h2, by rw [hc _ _ hl]; exact h3, by rw [hc _ _ h8]; exact h4, by rw [hc _ _ h8]; exact h5, by rw [hc _ _ h8]; exact h6, chain h7 hb, Nat.lt_of_lt_of_le h8 hb.size, h9⟩
/-- The checkers on a point, those of the other player below 0. -/
def pointV (p c h s : Int) (xs ys : List Int) (i : Int) : Int := if isB p c h s xs ys = true ∧ 0 ≤ i ∧ i < p then xs.getD i.toNat 0 - ys.getD (p - 1 - i).toNat 0 else 0
end Go.Proofs.Ythoaeaahaflpiaa
