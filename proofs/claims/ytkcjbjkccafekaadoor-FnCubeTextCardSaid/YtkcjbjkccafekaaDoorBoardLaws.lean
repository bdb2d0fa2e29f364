/- Boards in memory, and the law's own helpers on them: sizes, a copy, comparing, marking. -/
import Derived.Test.YtkcjbjkccafekaaDoorI64
import Derived.Outline
namespace Go.Proofs.YtkcjbjkccafekaaDoor
open Go.ChangeShapes Go.WideShapes Go.ChangeAt Go.RowKit
set_option linter.unusedVariables false
set_option linter.unusedSimpArgs false

theorem irow_set {w : World} {a : Option Addr} {xs : List Int} {g o : Nat} {v : Value} (h : IRow w a xs) (hne : ∀ b o, a = some ⟨b, o, none⟩ → 0 < xs.length → b ≠ g) : IRow (w.setCell ⟨g, o, none⟩ v) a xs := fun i hi => by
  obtain ⟨b, o', e, hc⟩ := h i hi
  refine ⟨b, o', e, ?_⟩
  rw [World.cell?_of_block (w := w) (Below.heap_setCell w ⟨g, o, none⟩ v b (hne b o' e (by omega)))]
  exact hc
theorem irow_lt {w : World} {a : Option Addr} {xs : List Int} (h : IRow w a xs) : ∀ b o, a = some ⟨b, o, none⟩ → 0 < xs.length → b < w.heap.size := fun b o e hl => by
  obtain ⟨b', o', e', hc⟩ := h 0 hl
  rw [e] at e'
  cases e'
  exact World.block_lt_of_cell? w _ hc
theorem two_new (w : World) (v1 v2 : Array Value) (t1 t2 : TypeId) : Blk ((w.alloc (.cells v1 t1)).alloc (.cells v2 t2)) w.heap.size v1 t1 ∧ Blk ((w.alloc (.cells v1 t1)).alloc (.cells v2 t2)) (w.heap.size + 1) v2 t2 ∧
    Below w.heap.size w ((w.alloc (.cells v1 t1)).alloc (.cells v2 t2)) ∧ ((w.alloc (.cells v1 t1)).alloc (.cells v2 t2)).heap.size = w.heap.size + 1 + 1 := by
  refine ⟨(Blk.new w _ _).alloc _, ?_, ((Below.refl _ _).alloc (Nat.le_refl _) _).alloc (by simp) _, by simp⟩
  have := Blk.new (w.alloc (.cells v1 t1)) v2 t2
  simpa using this
theorem three_new (w : World) (v1 v2 v3 : Array Value) (t1 t2 t3 : TypeId) : Blk (((w.alloc (.cells v1 t1)).alloc (.cells v2 t2)).alloc (.cells v3 t3)) w.heap.size v1 t1 ∧ Blk (((w.alloc (.cells v1 t1)).alloc (.cells v2 t2)).alloc (.cells v3 t3)) (w.heap.size + 1) v2 t2 ∧
    Blk (((w.alloc (.cells v1 t1)).alloc (.cells v2 t2)).alloc (.cells v3 t3)) (w.heap.size + 1 + 1) v3 t3 ∧ Below w.heap.size w (((w.alloc (.cells v1 t1)).alloc (.cells v2 t2)).alloc (.cells v3 t3)) ∧ (((w.alloc (.cells v1 t1)).alloc (.cells v2 t2)).alloc (.cells v3 t3)).heap.size = w.heap.size + 1 + 1 + 1 := by
  obtain ⟨h1, h2, h3, h4⟩ := two_new w v1 v2 t1 t2
  refine ⟨h1.alloc _, h2.alloc _, ?_, h3.alloc h3.size _, by simp⟩
  have := Blk.new ((w.alloc (.cells v1 t1)).alloc (.cells v2 t2)) v3 t3
  rw [h4] at this
  exact this
theorem IRow.wf {w : World} {a : Option Addr} {xs ys : List Int} (h : IRow w a xs) (e : xs = ys) : IRow w a ys := e ▸ h
/-- A board of the call's own has been made. -/
def BoardMade (xs ys : List Int) (w : World) (e : Ending) (w' : World) : Prop :=
  ∃ g1 g2, e = .returned (.agg #[.slice (some ⟨g1, 0, none⟩) xs.length xs.length, .slice (some ⟨g2, 0, none⟩) ys.length ys.length]) ∧ w.heap.size ≤ g1 ∧ g1 < g2 ∧ Row w' g1 xs ∧ Row w' g2 ys ∧ Below w.heap.size w w'
end Go.Proofs.YtkcjbjkccafekaaDoor
