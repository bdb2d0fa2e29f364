/- Contracts of the first board, of the program and of its model. -/
import Derived.Test.YtokjkcnjmfbfiaaStart
namespace Go.Proofs.Ytokjkcnjmfbfiaa
open Go.ChangeShapes Go.WideShapes Go.ChangeAt Go.RowKit
set_option linter.unusedVariables false
set_option linter.unusedSimpArgs false
set_option maxRecDepth 4000

/-- Whether there is a first board, and its side. -/
def stB (p c h s : Int) : Bool := vB p c h s && decide (4 ≤ p)
def stL (p c h s : Int) : List Int := if stB p c h s = true then startL p c h s else []
theorem stL_length (p c h s : Int) : (stL p c h s).length ≤ 1048576 := by
  unfold stL
  split
  · rename_i g
    simp only [stB, Bool.and_eq_true] at g
    have := (vB_iff.1 g.1).2.1
    rw [startL_length]
    omega
  · simp
def StartGot (b : Bool) (xs ys : List Int) (w : World) (e : Ending) (w' : World) : Prop :=
  ∃ a1 a2 k1 k2, e = .returned (.tuple #[.agg #[.slice a1 xs.length k1, .slice a2 ys.length k2], .bool b]) ∧ OBd w.heap.size w'.heap.size w' a1 a2 xs ys ∧ Below w.heap.size w w'
theorem heldVR {w W w2 : World} {p c h s : Int} (hS : W.cell? ⟨w.heap.size, 0, none⟩ = some (.int .i64 p) ∧ W.cell? ⟨w.heap.size, 1, none⟩ = some (.int .i64 c) ∧ W.cell? ⟨w.heap.size, 2, none⟩ = some (.int .i64 h) ∧ W.cell? ⟨w.heap.size, 3, none⟩ = some (.int .i64 s) ∧ Below w.heap.size w W ∧ ∃ u0 u1, Blk W (w.heap.size + 1) #[u0, u1] 34) (hb : Below W.heap.size W w2) : w2.cell? ⟨w.heap.size, 0, none⟩ = some (.int .i64 p) ∧ w2.cell? ⟨w.heap.size, 1, none⟩ = some (.int .i64 c) ∧ w2.cell? ⟨w.heap.size, 2, none⟩ = some (.int .i64 h) ∧ w2.cell? ⟨w.heap.size, 3, none⟩ = some (.int .i64 s) ∧ Below w.heap.size w w2 ∧ ∃ u0 u1, Blk w2 (w.heap.size + 1) #[u0, u1] 34 := by
  obtain ⟨h0, h1, h2, h3, h4, u0, u1, h6⟩ := hS
  obtain ⟨hc, _⟩ := bcell hb
  have h5 : w.heap.size < W.heap.size := by have := h6.lt; omega
  exact ⟨by rw [hc _ _ h5]; exact h0, by rw [hc _ _ h5]; exact h1, by rw [hc _ _ h5]; exact h2, by rw [hc _ _ h5]; exact h3, chain h4 hb, u0, u1, h6.below hb⟩
theorem storeVR {w W : World} {p c h s : Int} (hS : W.cell? ⟨w.heap.size, 0, none⟩ = some (.int .i64 p) ∧ W.cell? ⟨w.heap.size, 1, none⟩ = some (.int .i64 c) ∧ W.cell? ⟨w.heap.size, 2, none⟩ = some (.int .i64 h) ∧ W.cell? ⟨w.heap.size, 3, none⟩ = some (.int .i64 s) ∧ Below w.heap.size w W ∧ ∃ u0 u1, Blk W (w.heap.size + 1) #[u0, u1] 34) (q0 q1 : Value) : ((W.setCell ⟨w.heap.size + 1, 0, none⟩ q0).setCell ⟨w.heap.size + 1, 1, none⟩ q1).cell? ⟨w.heap.size, 0, none⟩ = some (.int .i64 p) ∧ ((W.setCell ⟨w.heap.size + 1, 0, none⟩ q0).setCell ⟨w.heap.size + 1, 1, none⟩ q1).cell? ⟨w.heap.size, 1, none⟩ = some (.int .i64 c) ∧ ((W.setCell ⟨w.heap.size + 1, 0, none⟩ q0).setCell ⟨w.heap.size + 1, 1, none⟩ q1).cell? ⟨w.heap.size, 2, none⟩ = some (.int .i64 h) ∧ ((W.setCell ⟨w.heap.size + 1, 0, none⟩ q0).setCell ⟨w.heap.size + 1, 1, none⟩ q1).cell? ⟨w.heap.size, 3, none⟩ = some (.int .i64 s) ∧ Below w.heap.size w ((W.setCell ⟨w.heap.size + 1, 0, none⟩ q0).setCell ⟨w.heap.size + 1, 1, none⟩ q1) ∧ ∃ u0 u1, Blk ((W.setCell ⟨w.heap.size + 1, 0, none⟩ q0).setCell ⟨w.heap.size + 1, 1, none⟩ q1) (w.heap.size + 1) #[u0, u1] 34 := by
  obtain ⟨h0, h1, h2, h3, h4, u0, u1, h6⟩ := hS
  refine ⟨?_, ?_, ?_, ?_, (h4.setCell (by simp) _).setCell (by simp) _, q0, q1, (h6.set q0).set q1⟩ <;> (rw [World.cell?_setCell_far _ _ _ _ (by simp), World.cell?_setCell_far _ _ _ _ (by simp)]; assumption)
end Go.Proofs.Ytokjkcnjmfbfiaa
