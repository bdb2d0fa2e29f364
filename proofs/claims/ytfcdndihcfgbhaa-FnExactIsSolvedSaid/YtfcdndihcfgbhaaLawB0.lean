/- What the laws of chapter 2 share. -/
import Derived.Test.YtfcdndihcfgbhaaL02d
import Derived.Test.YtfcdndihcfgbhaaOpen
import Derived.ChangeOld
namespace Go.Proofs.Ytfcdndihcfgbhaa
open Go.ChangeShapes Go.WideShapes Go.ChangeAt Go.RowKit
set_option linter.unusedVariables false
set_option linter.unusedSimpArgs false
set_option maxRecDepth 4000

theorem heldVBX {w W w2 : World} {p c h s : Int} {a1 a2 : Option Addr} {n1 n2 c1 c2 gx : Nat} {u0 u1 : Value} (hS : W.cell? ⟨w.heap.size, 0, none⟩ = some (.int .i64 p) ∧ W.cell? ⟨w.heap.size, 1, none⟩ = some (.int .i64 c) ∧ W.cell? ⟨w.heap.size, 2, none⟩ = some (.int .i64 h) ∧ W.cell? ⟨w.heap.size, 3, none⟩ = some (.int .i64 s) ∧ W.cell? ⟨w.heap.size + 1, 0, none⟩ = some (.slice a1 n1 c1) ∧ W.cell? ⟨w.heap.size + 1, 1, none⟩ = some (.slice a2 n2 c2) ∧ Below w.heap.size w W ∧ w.heap.size + 1 < W.heap.size ∧ W.cell? ⟨gx, 0, none⟩ = some u0 ∧ W.cell? ⟨gx, 1, none⟩ = some u1) (hx : gx < W.heap.size) (hb : Below W.heap.size W w2) :
    w2.cell? ⟨w.heap.size, 0, none⟩ = some (.int .i64 p) ∧ w2.cell? ⟨w.heap.size, 1, none⟩ = some (.int .i64 c) ∧ w2.cell? ⟨w.heap.size, 2, none⟩ = some (.int .i64 h) ∧ w2.cell? ⟨w.heap.size, 3, none⟩ = some (.int .i64 s) ∧ w2.cell? ⟨w.heap.size + 1, 0, none⟩ = some (.slice a1 n1 c1) ∧ w2.cell? ⟨w.heap.size + 1, 1, none⟩ = some (.slice a2 n2 c2) ∧ Below w.heap.size w w2 ∧ w.heap.size + 1 < w2.heap.size ∧ w2.cell? ⟨gx, 0, none⟩ = some u0 ∧ w2.cell? ⟨gx, 1, none⟩ = some u1 := by
  obtain ⟨h0, h1, h2, h3, h4, h5, h6, h7, h8, h9⟩ := hS
  obtain ⟨k0, k1, k2, k3, k4, k5, k6, k7⟩ := heldVB ⟨h0, h1, h2, h3, h4, h5, h6, h7⟩ hb
  obtain ⟨hc, _⟩ := bcell hb
  exact ⟨k0, k1, k2, k3, k4, k5, k6, k7, by rw [hc _ _ hx]; exact h8, by rw [hc _ _ hx]; exact h9⟩
end Go.Proofs.Ytfcdndihcfgbhaa
