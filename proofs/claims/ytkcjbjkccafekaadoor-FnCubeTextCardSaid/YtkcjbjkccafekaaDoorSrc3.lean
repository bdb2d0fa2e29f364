/- The model's draws of variants: each hands out some variant, and the source goes on. -/
import Derived.Test.YtkcjbjkccafekaaDoorSrc2
import Derived.Test.YtkcjbjkccafekaaDoorL01b
import Derived.Deep.RegionWith
namespace Go.Proofs.YtkcjbjkccafekaaDoor
open Go.ChangeShapes Go.WideShapes Go.ChangeAt Go.RowKit
set_option linter.unusedVariables false
set_option linter.unusedSimpArgs false

/-- A variant has been drawn. -/
def VarPost (B g : Nat) (a : Option Addr) (len cap : Nat) (w : World) (e : Ending) (w' : World) : Prop :=
  ∃ p c h s : Int, e = .returned (.agg #[.int .i64 p, .int .i64 c, .int .i64 h, .int .i64 s]) ∧ (-1000 ≤ p ∧ p ≤ 1000) ∧ (-1000 ≤ c ∧ c ≤ 1000) ∧ (-1000 ≤ h ∧ h ≤ 1001) ∧ (-1000 ≤ s ∧ s ≤ 1000) ∧ Src B w' g a len cap ∧ w.grownBy w' (some g)
/-- A valid variant has been drawn. -/
def ValPost (B g : Nat) (a : Option Addr) (len cap : Nat) (w : World) (e : Ending) (w' : World) : Prop :=
  ∃ p c h s : Int, e = .returned (.agg #[.int .i64 p, .int .i64 c, .int .i64 h, .int .i64 s]) ∧ (2 ≤ p ∧ p ≤ 24) ∧ (1 ≤ c ∧ c ≤ 15) ∧ (1 ≤ h ∧ h ≤ p) ∧ (1 ≤ s ∧ s ≤ 6) ∧ Src B w' g a len cap ∧ w.grownBy w' (some g)
theorem Src.lt {B g : Nat} {a : Option Addr} {len cap : Nat} {w : World} (h : Src B w g a len cap) : g < w.heap.size := by
  obtain ⟨k, s, hB, _⟩ := h; exact hB.lt
theorem Src.base {B g : Nat} {a : Option Addr} {len cap : Nat} {w : World} (h : Src B w g a len cap) : B ≤ g := by
  obtain ⟨k, s, _, _, _, _, hB, _⟩ := h; exact hB
theorem Src.alloc {B g : Nat} {a : Option Addr} {len cap : Nat} {w : World} (h : Src B w g a len cap) (o : Obj) : Src B (w.alloc o) g a len cap := by
  have hl := h.lt
  obtain ⟨k, s, hB, h1, h2, h3, h4, h5, h6⟩ := h
  exact ⟨k, s, hB.alloc o, h1, h2, h3, h4, h5, h6.below ((Below.refl B w).alloc (by omega) o)⟩
theorem Src.drew {B g : Nat} {a : Option Addr} {len cap : Nat} {w : World} (h : Src B w g a len cap) : Src B w.drew g a len cap := by
  obtain ⟨k, s, hB, h1, h2, h3, h4, h5, h6⟩ := h
  exact ⟨k, s, hB.drew, h1, h2, h3, h4, h5, h6.below (Below.refl B w).drew⟩
theorem Src.below {B g : Nat} {a : Option Addr} {len cap : Nat} {w w' : World} (h : Src B w g a len cap) (hb : Below w.heap.size w w') : Src B w' g a len cap := by
  have hl := h.lt
  obtain ⟨k, s, hB, h1, h2, h3, h4, h5, h6⟩ := h
  exact ⟨k, s, hB.below hb, h1, h2, h3, h4, h5, h6.below (hb.mono (by omega))⟩
theorem grown_new {w w1 : World} {g g' o : Nat} {v : Value} (h : w.grownBy w1 (some g)) (hn : w.heap.size ≤ g') : w.grownBy (w1.setCell ⟨g', o, none⟩ v) (some g) := by
  have hb := Below.setCell (Below.refl g' w1) (p := ⟨g', o, none⟩) (Nat.le_refl _) v
  refine ⟨hb.os.trans h.os, hb.tape.trans h.tape, hb.output.trans h.output, Nat.le_trans h.size hb.size, fun i hi hr => ?_⟩
  rw [Below.heap_setCell w1 ⟨g', o, none⟩ v i (fun e => by simp only at e; omega)]
  exact h.block i hi hr
theorem Src.set {B g g' o : Nat} {a : Option Addr} {len cap : Nat} {w : World} {v : Value} (h : Src B w g a len cap) (hn : g' ≠ g) (hB : B ≤ g') : Src B (w.setCell ⟨g', o, none⟩ v) g a len cap := by
  obtain ⟨k, s, hBk, h1, h2, h3, h4, h5, h6⟩ := h
  refine ⟨k, s, ?_, h1, h2, h3, h4, h5, h6.below ((Below.refl B w).setCell hB v)⟩
  exact (Below.heap_setCell w ⟨g', o, none⟩ v g (fun e => hn e.symm)).trans hBk


end Go.Proofs.YtkcjbjkccafekaaDoor
