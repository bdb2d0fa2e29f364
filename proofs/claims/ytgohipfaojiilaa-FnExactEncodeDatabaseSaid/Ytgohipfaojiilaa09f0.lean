/- Towers of stores into a variable of two or three cells, beside a map of scales. -/
import Derived.Test.Ytgohipfaojiilaa09a
import Derived.Test.YtgohipfaojiilaaSrc
import Derived.Test.YtgohipfaojiilaaBoardLaws
import Derived.Test.YtgohipfaojiilaaOwn
import Derived.Test.YtgohipfaojiilaaOwnB
namespace Go.Proofs.Ytgohipfaojiilaa
open Go.ChangeShapes Go.WideShapes Go.ChangeAt Go.RowKit
set_option linter.unusedVariables false
set_option linter.unusedSimpArgs false
set_option maxRecDepth 4000

theorem Blk.set2 {w : World} {B : Nat} {a b : Value} {t : TypeId} (h : Blk w B #[a, b] t) (x y : Value) : Blk ((w.setCell ⟨B, 0, none⟩ x).setCell ⟨B, 1, none⟩ y) B #[x, y] t := by
  have := (h.set (i := 0) x).set (i := 1) y
  simp only [List.setIfInBounds_toArray, List.set_cons_zero, List.set_cons_succ] at this
  exact this
theorem Blk.set3 {w : World} {B : Nat} {a b c : Value} {t : TypeId} (h : Blk w B #[a, b, c] t) (x y z : Value) : Blk (((w.setCell ⟨B, 0, none⟩ x).setCell ⟨B, 1, none⟩ y).setCell ⟨B, 2, none⟩ z) B #[x, y, z] t := by
  have := ((h.set (i := 0) x).set (i := 1) y).set (i := 2) z
  simp only [List.setIfInBounds_toArray, List.set_cons_zero, List.set_cons_succ] at this
  exact this
theorem Blk.far2 {w : World} {g B : Nat} {vs : Array Value} {t : TypeId} (h : Blk w g vs t) (hne : g ≠ B) (x y : Value) : Blk ((w.setCell ⟨B, 0, none⟩ x).setCell ⟨B, 1, none⟩ y) g vs t :=
  (h.other (g := B) (o := 0) (v := x) (by omega)).other (g := B) (o := 1) (v := y) (by omega)
theorem Blk.far3 {w : World} {g B : Nat} {vs : Array Value} {t : TypeId} (h : Blk w g vs t) (hne : g ≠ B) (x y z : Value) : Blk (((w.setCell ⟨B, 0, none⟩ x).setCell ⟨B, 1, none⟩ y).setCell ⟨B, 2, none⟩ z) g vs t :=
  (h.far2 hne x y).other (g := B) (o := 2) (v := z) (by omega)
theorem ScM.far2 {w : World} {b S n B : Nat} (h : ScM w b S n) (hne : b ≠ B) (x y : Value) : ScM ((w.setCell ⟨B, 0, none⟩ x).setCell ⟨B, 1, none⟩ y) b S n :=
  World.ownsMap.setCell (World.ownsMap.setCell h (a := ⟨B, 0, none⟩) hne x) (a := ⟨B, 1, none⟩) hne y
theorem ScM.far3 {w : World} {b S n B : Nat} (h : ScM w b S n) (hne : b ≠ B) (x y z : Value) : ScM (((w.setCell ⟨B, 0, none⟩ x).setCell ⟨B, 1, none⟩ y).setCell ⟨B, 2, none⟩ z) b S n :=
  World.ownsMap.setCell (h.far2 hne x y) (a := ⟨B, 2, none⟩) hne z
theorem belowFar2 {w w' : World} {m B : Nat} (h : Below m w w') (hB : m ≤ B) (x y : Value) : Below m w ((w'.setCell ⟨B, 0, none⟩ x).setCell ⟨B, 1, none⟩ y) :=
  (h.setCell (p := ⟨B, 0, none⟩) hB x).setCell (p := ⟨B, 1, none⟩) hB y
theorem belowFar3 {w w' : World} {m B : Nat} (h : Below m w w') (hB : m ≤ B) (x y z : Value) : Below m w (((w'.setCell ⟨B, 0, none⟩ x).setCell ⟨B, 1, none⟩ y).setCell ⟨B, 2, none⟩ z) :=
  (belowFar2 h hB x y).setCell (p := ⟨B, 2, none⟩) hB z
end Go.Proofs.Ytgohipfaojiilaa
