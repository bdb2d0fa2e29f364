/- Laws on memory that grows beside one block that is written. Of no program. -/
import Derived.Test.YtdciiocmddlhfaaBase
namespace Go.Proofs.Ytdciiocmddlhfaa
open Go.ChangeShapes Go.WideShapes Go.ChangeAt Go.RowKit
set_option linter.unusedVariables false

theorem below_of_grown {B g : Nat} {w w' : World} (h : w.grownBy w' (some g)) (hB : B ≤ w.heap.size) (hg : B ≤ g) : Below B w w' :=
  (Below.refl B w).grown h hB (fun k hk => by cases hk; exact hg)
theorem grown_refl (w : World) (r : Option Nat) : w.grownBy w r := ⟨rfl, rfl, rfl, Nat.le_refl _, fun _ _ _ => rfl⟩
theorem grown_trans {w w1 w2 : World} {r : Option Nat} (h : w.grownBy w1 r) (k : w1.grownBy w2 r) : w.grownBy w2 r :=
  ⟨k.os.trans h.os, k.tape.trans h.tape, k.output.trans h.output, Nat.le_trans h.size k.size, fun i hi hr => (k.block i (Nat.lt_of_lt_of_le hi h.size) hr).trans (h.block i hi hr)⟩
theorem grown_set {w w1 : World} {g o : Nat} {v : Value} (h : w.grownBy w1 (some g)) : w.grownBy (w1.setCell ⟨g, o, none⟩ v) (some g) := by
  have hb := Below.setCell (Below.refl g w1) (p := ⟨g, o, none⟩) (Nat.le_refl _) v
  refine ⟨hb.os.trans h.os, hb.tape.trans h.tape, hb.output.trans h.output, Nat.le_trans h.size hb.size, fun i hi hr => ?_⟩
  rw [Below.heap_setCell w1 ⟨g, o, none⟩ v i (fun e => hr (by rw [e]))]
  exact h.block i hi hr
theorem grown_drew {w w1 : World} {r : Option Nat} (h : w.grownBy w1 r) : w.grownBy w1.drew r := ⟨h.os, h.tape, h.output, h.size, h.block⟩
theorem grown_drewN {w w1 : World} {r : Option Nat} (h : w.grownBy w1 r) (n : Nat) : w.grownBy (w1.drewN n) r := by
  induction n with
  | zero => exact h
  | succ n ih => exact grown_drew ih
theorem below_drewN {B : Nat} {w w1 : World} (h : Below B w w1) (n : Nat) : Below B w (w1.drewN n) := by
  induction n with
  | zero => exact h
  | succ n ih => exact ih.drew
theorem grown_alloc {w w1 : World} {r : Option Nat} (h : w.grownBy w1 r) (o : Obj) : w.grownBy (w1.alloc o) r := grown_trans h (World.grownBy_alloc w1 o r)
theorem grown_of_below {w w' : World} (h : Below w.heap.size w w') (r : Option Nat) : w.grownBy w' r := ⟨h.os, h.tape, h.output, h.size, fun i hi _ => h.block i hi⟩
theorem chain_grown {w w1 w2 : World} {g : Nat} (h : Below w.heap.size w w1) (k : w1.grownBy w2 (some g)) (hg : w.heap.size ≤ g) : Below w.heap.size w w2 :=
  h.grown k h.size (fun i hi => by cases hi; exact hg)
theorem Blk.set {w : World} {g i : Nat} {vs : Array Value} {t : TypeId} (h : Blk w g vs t) (v : Value) : Blk (w.setCell ⟨g, i, none⟩ v) g (vs.setIfInBounds i v) t := Joins.block_setCell h v
theorem Blk.other {w : World} {g g' o : Nat} {vs : Array Value} {t : TypeId} {v : Value} (h : Blk w g' vs t) (hne : g' ≠ g) : Blk (w.setCell ⟨g, o, none⟩ v) g' vs t :=
  (Below.heap_setCell w ⟨g, o, none⟩ v g' hne).trans h
theorem Blk.drewN {w : World} {g : Nat} {vs : Array Value} {t : TypeId} (h : Blk w g vs t) (n : Nat) : Blk (w.drewN n) g vs t := by
  induction n with
  | zero => exact h
  | succ n ih => exact ih
theorem Blk.grown {w w' : World} {g g' : Nat} {vs : Array Value} {t : TypeId} (h : Blk w g' vs t) (hg : w.grownBy w' (some g)) (hne : g' ≠ g) : Blk w' g' vs t :=
  (hg.block g' h.lt (fun e => hne (by cases e; rfl))).trans h
theorem Blk.two {w : World} {g : Nat} {v0 v1 : Value} {t : TypeId} (h : Blk w g #[v0, v1] t) :
    w.cell? ⟨g, 0, none⟩ = some v0 ∧ w.cell? ⟨g, 1, none⟩ = some v1 ∧ (∀ i, w.frozen? ⟨g, i, none⟩ = false) ∧ g < w.heap.size :=
  ⟨by simpa using h.cell 0, by simpa using h.cell 1, fun i => h.free i, h.lt⟩
end Go.Proofs.Ytdciiocmddlhfaa
