/- Contracts of the program's functions of chapter 2: the table of a board and its views. -/
import Derived.Test.YtgohipfaojiilaaM02
import Derived.Test.YtgohipfaojiilaaBoardLaws
import Derived.Deep.RegionHeld3
import Derived.Shelf.Abstract
import Derived.Laws.EntriesVeiled
namespace Go.Proofs.Ytgohipfaojiilaa
open Go.ChangeShapes Go.WideShapes Go.ChangeAt Go.RowKit
set_option linter.unusedVariables false
set_option linter.unusedSimpArgs false

/-- A view: a function value of one capture that answers for each place of a row, however memory has grown since. -/
def Pays (fn B : Nat) (xs : List Int) (w : World) : Prop :=
  (∀ (args : Array Value) (w' : World), (callFunc fn args).run Try.prog w' = .ok (.enter fn args) w') ∧
  ∀ w' : World, Below w.heap.size w w' → ∀ i : Nat, i < xs.length → Calls Try.prog fn #[.int .i64 i, .pointer (some ⟨B, 0, none⟩)] w' fun e w'' => e = .returned (.int .i64 (xs.getD i 0)) ∧ Below w'.heap.size w' w''
theorem Pays.below {fn B : Nat} {xs : List Int} {w w1 : World} (h : Pays fn B xs w) (hb : Below w.heap.size w w1) : Pays fn B xs w1 :=
  ⟨h.1, fun w' hw => h.2 w' (chain hb hw)⟩
theorem Pays.drew {fn B : Nat} {xs : List Int} {w : World} (h : Pays fn B xs w) : Pays fn B xs w.drew := h.below (Below.refl _ _).drew
/-- A block of three cells: each cell by itself, and the marks. -/
theorem Blk.tri {w : World} {g : Nat} {v0 v1 v2 : Value} {t : TypeId} (h : Blk w g #[v0, v1, v2] t) :
    w.cell? ⟨g, 0, none⟩ = some v0 ∧ w.cell? ⟨g, 1, none⟩ = some v1 ∧ w.cell? ⟨g, 2, none⟩ = some v2 ∧ (∀ i, w.frozen? ⟨g, i, none⟩ = false) ∧ g < w.heap.size :=
  ⟨by simpa using h.cell 0, by simpa using h.cell 1, by simpa using h.cell 2, fun i => h.free i, h.lt⟩
/-- A view's value. -/
abbrev fv (fn B : Nat) : Value := .func (.func fn) #[] #[.pointer (some ⟨B, 0, none⟩)]

end Go.Proofs.Ytgohipfaojiilaa
