/- Texts of a proof, laid together. -/
import Derived.Test.YtciljbnailobgaaGreatRows
import Derived.WalkKit
import Derived.Deep.RegionHeld
import Derived.ProofKit
import Derived.OpenShut
import Derived.Below
import Derived.Lib.SmallJoins
import Derived.Lib.Hide
import Derived.BigQuiet
import Derived.Deep.LoopGhost
import Derived.Deep.OwnRows
import Derived.Deep.QuietTactic
import Derived.Laws.OwnMore
import Derived.OwnWalk
import Derived.Outline
import Derived.Deep.AppendLies
import Derived.ArgAppend
import Derived.Deep.RegionHeld3
namespace Go.Proofs.YtciljbnailobgaaGreat

section
variable {P : Program} {ops : Array Oper} {Q : Exit → Act → World → Prop} {md : Region.Mode} {S : World → Prop} {fuel : Nat} {listed l' : Array Bool} {a a' : Act} {w : World} {v : Value} {op : Op} {ty : TypeId} {ps : String} {af : Array Edge} {gd : Option (Nat × Bool)}
theorem tk (i d : Nat) (h : wpAnyH P md ops Q S fuel l' a' w)
    (hi : ops[i]? = some ⟨some d, op, ty, ps, af, gd⟩ := by rfl) (hs : Region.noSelect ops = true := by kernel_rfl) (hf : Region.free md ops listed i = true := by kernel_rfl) (hr : (Region.ready md ops listed).contains i = true := by kernel_rfl)
    (hw : Region.wanted ⟨some d, op, ty, ps, af, gd⟩ (yielded ops a.tmps) = true := by rfl)
    (hy : ∀ w, S w → (execOp a.eval ⟨some d, op, ty, ps, af, gd⟩).run P w = .ok (.value v) w := by intro w hSw; (try dsimp only at hSw); go_simp; (try (with_reducible rfl)))
    (ha : a.put (some d) v = a' := by first | (simp only [Act.put, List.setIfInBounds_toArray, List.set_cons_zero, List.set_cons_succ]; done) | (simp only [Act.put, List.setIfInBounds_toArray, List.set_cons_zero, List.set_cons_succ]; rfl) | rfl)
    (hl : listed.setIfInBounds i true = l' := by first | (simp only [List.setIfInBounds_toArray, List.set_cons_zero, List.set_cons_succ]; done) | (simp only [List.setIfInBounds_toArray, List.set_cons_zero, List.set_cons_succ]; rfl) | rfl)
    (hQ : ∀ c a w, Q (.panic c) (a.put (some d) v) w → Q (.panic c) a w := by first | exact fun _ _ _ h => h | exact fun _ _ _ h => absurd h.1 (by simp)) (hS : S w := by assumption) : wpAnyH P md ops Q S (fuel + 1) listed a w :=
  wpAnyH_take hi hs hf hr hQ (Or.inl ⟨hw, hy⟩) hS (by rw [hl]; exact ha ▸ h)
theorem tkv (i d : Nat) (h : wpAnyH P md ops Q S fuel l' a' w)
    (hi : ops[i]? = some ⟨some d, op, ty, ps, af, gd⟩ := by rfl) (hs : Region.noSelect ops = true := by kernel_rfl) (hf : Region.free md ops listed i = true := by kernel_rfl) (hr : (Region.ready md ops listed).contains i = true := by kernel_rfl)
    (hw : Region.wanted ⟨some d, op, ty, ps, af, gd⟩ (yielded ops a.tmps) = false := by rfl)
    (ha : a.put (some d) undef = a' := by first | (simp only [Act.put, List.setIfInBounds_toArray, List.set_cons_zero, List.set_cons_succ]; done) | (simp only [Act.put, List.setIfInBounds_toArray, List.set_cons_zero, List.set_cons_succ]; rfl) | rfl)
    (hl : listed.setIfInBounds i true = l' := by first | (simp only [List.setIfInBounds_toArray, List.set_cons_zero, List.set_cons_succ]; done) | (simp only [List.setIfInBounds_toArray, List.set_cons_zero, List.set_cons_succ]; rfl) | rfl)
    (hQ : ∀ c a w, Q (.panic c) (a.put (some d) undef) w → Q (.panic c) a w := by first | exact fun _ _ _ h => h | exact fun _ _ _ h => absurd h.1 (by simp)) (hS : S w := by assumption) : wpAnyH P md ops Q S (fuel + 1) listed a w :=
  wpAnyH_take hi hs hf hr hQ (Or.inr ⟨hw, rfl⟩) hS (by rw [hl]; exact ha ▸ h)
theorem rdk (i d : Nat) (h : ∀ K' : Act → World → Prop, Shut (∀ a w, S w → (S w → wpAnyH P md ops Q S fuel l' a w) → K' a w) → if Region.wanted ⟨some d, op, ty, ps, af, gd⟩ (yielded ops a.tmps) = true then Oper.wp P ⟨some d, op, ty, ps, af, gd⟩ a w K' Q else K' (a.put (some d) undef) w)
    (hi : ops[i]? = some ⟨some d, op, ty, ps, af, gd⟩ := by rfl) (hr : Region.ready md ops listed = [i] := by kernel_rfl) (hl : listed.setIfInBounds i true = l' := by first | (simp only [List.setIfInBounds_toArray, List.set_cons_zero, List.set_cons_succ]; done) | (simp only [List.setIfInBounds_toArray, List.set_cons_zero, List.set_cons_succ]; rfl) | rfl) : wpAnyH P md ops Q S (fuel + 1) listed a w := by
  subst hl
  exact wpAnyH_ready hr (by simp) (AllReadyH.cons hi h AllReadyH.nil)
theorem rdn (i : Nat) (h : ∀ K' : Act → World → Prop, Shut (∀ a w, S w → (S w → wpAnyH P md ops Q S fuel l' a w) → K' a w) → if Region.wanted ⟨none, op, ty, ps, af, gd⟩ (yielded ops a.tmps) = true then Oper.wp P ⟨none, op, ty, ps, af, gd⟩ a w K' Q else K' (a.put none undef) w)
    (hi : ops[i]? = some ⟨none, op, ty, ps, af, gd⟩ := by rfl) (hr : Region.ready md ops listed = [i] := by kernel_rfl) (hl : listed.setIfInBounds i true = l' := by first | (simp only [List.setIfInBounds_toArray, List.set_cons_zero, List.set_cons_succ]; done) | (simp only [List.setIfInBounds_toArray, List.set_cons_zero, List.set_cons_succ]; rfl) | rfl) : wpAnyH P md ops Q S (fuel + 1) listed a w := by
  subst hl
  exact wpAnyH_ready hr (by simp) (AllReadyH.cons hi h AllReadyH.nil)
theorem hko {K : Act → World → Prop} (hK : Shut (∀ a w, S w → (S w → wpAnyH P md ops Q S fuel listed a w) → K a w)) (hS : S w) (h : S w → wpAnyH P md ops Q S fuel listed a' w)
    (ha : a = a' := by first | (simp only [Act.put, List.setIfInBounds_toArray, List.set_cons_zero, List.set_cons_succ]; done) | (simp only [Act.put, List.setIfInBounds_toArray, List.set_cons_zero, List.set_cons_succ]; rfl) | rfl) : K a w := hK.out a w hS (ha ▸ h)
end
end Go.Proofs.YtciljbnailobgaaGreat
namespace Go.Proofs.YtciljbnailobgaaGreat
open Go.ChangeShapes Go.WideShapes Go.ChangeAt Go.RowKit
theorem own : ownKnob Tryz.prog.godebug = none := by kernel_rfl
theorem laidOut : laidOutB Tryz.prog = true := by kernel_rfl
theorem bcell {W w1 : World} (hb : Below W.heap.size W w1) : (∀ b o, b < W.heap.size → w1.cell? ⟨b, o, none⟩ = W.cell? ⟨b, o, none⟩) ∧ (∀ b o, b < W.heap.size → w1.frozen? ⟨b, o, none⟩ = W.frozen? ⟨b, o, none⟩) :=
  ⟨fun b o h => hb.cell (p := ⟨b, o, none⟩) h, fun b o h => hb.frozen (p := ⟨b, o, none⟩) h⟩
theorem chain {W w1 w2 : World} (h1 : Below W.heap.size W w1) (h2 : Below w1.heap.size w1 w2) : Below W.heap.size W w2 :=
  h1.trans (h2.mono h1.size)
theorem chain_alloc {W w1 : World} (h1 : Below W.heap.size W w1) (o : Obj) : Below W.heap.size W (w1.alloc o) :=
  h1.alloc h1.size o
theorem from_alloc {w w1 : World} {o : Obj} (h : Below (w.alloc o).heap.size (w.alloc o) w1) : Below w.heap.size w w1 :=
  ((Below.refl _ _).alloc (Nat.le_refl _) _).trans (h.mono (by simp))
def Blk (w : World) (g : Nat) (vs : Array Value) (t : TypeId) : Prop := w.heap[g]? = some (.cells vs t (0, 0))
theorem Blk.lt {w : World} {g : Nat} {vs : Array Value} {t : TypeId} (h : Blk w g vs t) : g < w.heap.size := (Array.getElem?_eq_some_iff.1 h).1
theorem Blk.new (w : World) (vs : Array Value) (t : TypeId) : Blk (w.alloc (.cells vs t)) w.heap.size vs t := by
  show (w.heap.push (.cells vs t (0, 0)))[w.heap.size]? = _
  simp
theorem Blk.below {w w' : World} {g : Nat} {vs : Array Value} {t : TypeId} (h : Blk w g vs t) (hb : Below w.heap.size w w') : Blk w' g vs t := (hb.block g h.lt).trans h
theorem Blk.alloc {w : World} {g : Nat} {vs : Array Value} {t : TypeId} (h : Blk w g vs t) (o : Obj) : Blk (w.alloc o) g vs t := (Below.heap_alloc w o g h.lt).trans h
theorem Blk.drew {w : World} {g : Nat} {vs : Array Value} {t : TypeId} (h : Blk w g vs t) : Blk w.drew g vs t := h
theorem Blk.cell {w : World} {g : Nat} {vs : Array Value} {t : TypeId} (h : Blk w g vs t) (i : Nat) : w.cell? ⟨g, i, none⟩ = vs[i]? := Joins.cell_of_block h i
theorem Blk.free {w : World} {g : Nat} {vs : Array Value} {t : TypeId} (h : Blk w g vs t) (i : Nat) : w.frozen? ⟨g, i, none⟩ = false := Joins.unfrozen_of_block h i
theorem Blk.f1 {w : World} {g : Nat} {v0 : Value} {t : TypeId} {R : Prop} (h : Blk w g #[v0] t) (r : R) : w.cell? ⟨g, 0, none⟩ = some v0 ∧ R := ⟨h.cell 0, r⟩
theorem Blk.l1 {w : World} {g : Nat} {v0 : Value} {t : TypeId} (h : Blk w g #[v0] t) : w.cell? ⟨g, 0, none⟩ = some v0 := h.cell 0
theorem Blk.f2 {w : World} {g : Nat} {v0 v1 : Value} {t : TypeId} {R : Prop} (h : Blk w g #[v0, v1] t) (r : R) : w.cell? ⟨g, 0, none⟩ = some v0 ∧ w.cell? ⟨g, 1, none⟩ = some v1 ∧ R := ⟨h.cell 0, h.cell 1, r⟩
theorem Blk.l2 {w : World} {g : Nat} {v0 v1 : Value} {t : TypeId} (h : Blk w g #[v0, v1] t) : w.cell? ⟨g, 0, none⟩ = some v0 ∧ w.cell? ⟨g, 1, none⟩ = some v1 := ⟨h.cell 0, h.cell 1⟩
theorem Blk.f3 {w : World} {g : Nat} {v0 v1 v2 : Value} {t : TypeId} {R : Prop} (h : Blk w g #[v0, v1, v2] t) (r : R) : w.cell? ⟨g, 0, none⟩ = some v0 ∧ w.cell? ⟨g, 1, none⟩ = some v1 ∧ w.cell? ⟨g, 2, none⟩ = some v2 ∧ R := ⟨h.cell 0, h.cell 1, h.cell 2, r⟩
theorem Blk.l3 {w : World} {g : Nat} {v0 v1 v2 : Value} {t : TypeId} (h : Blk w g #[v0, v1, v2] t) : w.cell? ⟨g, 0, none⟩ = some v0 ∧ w.cell? ⟨g, 1, none⟩ = some v1 ∧ w.cell? ⟨g, 2, none⟩ = some v2 := ⟨h.cell 0, h.cell 1, h.cell 2⟩
theorem Blk.f4 {w : World} {g : Nat} {v0 v1 v2 v3 : Value} {t : TypeId} {R : Prop} (h : Blk w g #[v0, v1, v2, v3] t) (r : R) : w.cell? ⟨g, 0, none⟩ = some v0 ∧ w.cell? ⟨g, 1, none⟩ = some v1 ∧ w.cell? ⟨g, 2, none⟩ = some v2 ∧ w.cell? ⟨g, 3, none⟩ = some v3 ∧ R := ⟨h.cell 0, h.cell 1, h.cell 2, h.cell 3, r⟩
theorem Blk.l4 {w : World} {g : Nat} {v0 v1 v2 v3 : Value} {t : TypeId} (h : Blk w g #[v0, v1, v2, v3] t) : w.cell? ⟨g, 0, none⟩ = some v0 ∧ w.cell? ⟨g, 1, none⟩ = some v1 ∧ w.cell? ⟨g, 2, none⟩ = some v2 ∧ w.cell? ⟨g, 3, none⟩ = some v3 := ⟨h.cell 0, h.cell 1, h.cell 2, h.cell 3⟩
theorem Blk.four {w : World} {g : Nat} {v0 v1 v2 v3 : Value} {t : TypeId} (h : Blk w g #[v0, v1, v2, v3] t) :
    w.cell? ⟨g, 0, none⟩ = some v0 ∧ w.cell? ⟨g, 1, none⟩ = some v1 ∧ w.cell? ⟨g, 2, none⟩ = some v2 ∧ w.cell? ⟨g, 3, none⟩ = some v3 ∧ (∀ i, w.frozen? ⟨g, i, none⟩ = false) ∧ g < w.heap.size :=
  ⟨by simpa using h.cell 0, by simpa using h.cell 1, by simpa using h.cell 2, by simpa using h.cell 3, fun i => h.free i, h.lt⟩
theorem Blk.one {w : World} {g : Nat} {v0 : Value} {t : TypeId} (h : Blk w g #[v0] t) : w.cell? ⟨g, 0, none⟩ = some v0 ∧ (∀ i, w.frozen? ⟨g, i, none⟩ = false) ∧ g < w.heap.size :=
  ⟨by simpa using h.cell 0, fun i => h.free i, h.lt⟩
theorem Blk.low {w w' : World} {g base : Nat} {vs : Array Value} {t : TypeId} (h : Blk w g vs t) (hb : Below base w w') (hg : g < base) : Blk w' g vs t := (hb.block g hg).trans h
theorem below_of_grown {B g : Nat} {w w' : World} (h : w.grownBy w' (some g)) (hB : B ≤ w.heap.size) (hg : B ≤ g) : Below B w w' :=
  (Below.refl B w).grown h hB (fun k hk => by cases hk; exact hg)
theorem grown_refl (w : World) (r : Option Nat) : w.grownBy w r := ⟨rfl, rfl, rfl, Nat.le_refl _, fun _ _ _ => rfl⟩
theorem grown_trans {w w1 w2 : World} {r : Option Nat} (h : w.grownBy w1 r) (k : w1.grownBy w2 r) : w.grownBy w2 r :=
  ⟨k.os.trans h.os, k.tape.trans h.tape, k.output.trans h.output, Nat.le_trans h.size k.size, fun i hi hr => (k.block i (Nat.lt_of_lt_of_le hi h.size) hr).trans (h.block i hi hr)⟩
theorem grown_set {w w1 : World} {g o : Nat} {v : Value} (h : w.grownBy w1 (some g)) : w.grownBy (w1.setCell ⟨g, o, none⟩ v) (some g) := by
  have hb := Below.setCell (Below.refl g w1) (p := ⟨g, o, none⟩) (Nat.le_refl _) v
  refine ⟨hb.os.trans h.os, hb.tape.trans h.tape, hb.output.trans h.output, Nat.le_trans h.size hb.size, fun i hi hr => ?_⟩
  rw [Below.heap_setCell w1 ⟨g, o, none⟩ v i (fun e => hr (by rw [e]))]
  exact h.block i hi hr
theorem grown_drew {w w1 : World} {r : Option Nat} (h : w.grownBy w1 r) : w.grownBy w1.drew r := ⟨h.os, h.tape, h.output, h.size, h.block⟩
theorem grown_drewN {w w1 : World} {r : Option Nat} (h : w.grownBy w1 r) (n : Nat) : w.grownBy (w1.drewN n) r := by
  induction n with
  | zero => exact h
  | succ n ih => exact grown_drew ih
theorem below_drewN {B : Nat} {w w1 : World} (h : Below B w w1) (n : Nat) : Below B w (w1.drewN n) := by
  induction n with
  | zero => exact h
  | succ n ih => exact ih.drew
theorem grown_alloc {w w1 : World} {r : Option Nat} (h : w.grownBy w1 r) (o : Obj) : w.grownBy (w1.alloc o) r := grown_trans h (World.grownBy_alloc w1 o r)
theorem grown_of_below {w w' : World} (h : Below w.heap.size w w') (r : Option Nat) : w.grownBy w' r := ⟨h.os, h.tape, h.output, h.size, fun i hi _ => h.block i hi⟩
theorem chain_grown {w w1 w2 : World} {g : Nat} (h : Below w.heap.size w w1) (k : w1.grownBy w2 (some g)) (hg : w.heap.size ≤ g) : Below w.heap.size w w2 :=
  h.grown k h.size (fun i hi => by cases hi; exact hg)
theorem Blk.set {w : World} {g i : Nat} {vs : Array Value} {t : TypeId} (h : Blk w g vs t) (v : Value) : Blk (w.setCell ⟨g, i, none⟩ v) g (vs.setIfInBounds i v) t := Joins.block_setCell h v
theorem Blk.other {w : World} {g g' o : Nat} {vs : Array Value} {t : TypeId} {v : Value} (h : Blk w g' vs t) (hne : g' ≠ g) : Blk (w.setCell ⟨g, o, none⟩ v) g' vs t :=
  (Below.heap_setCell w ⟨g, o, none⟩ v g' hne).trans h
theorem Blk.drewN {w : World} {g : Nat} {vs : Array Value} {t : TypeId} (h : Blk w g vs t) (n : Nat) : Blk (w.drewN n) g vs t := by
  induction n with
  | zero => exact h
  | succ n ih => exact ih
theorem Blk.grown {w w' : World} {g g' : Nat} {vs : Array Value} {t : TypeId} (h : Blk w g' vs t) (hg : w.grownBy w' (some g)) (hne : g' ≠ g) : Blk w' g' vs t :=
  (hg.block g' h.lt (fun e => hne (by cases e; rfl))).trans h
theorem Blk.two {w : World} {g : Nat} {v0 v1 : Value} {t : TypeId} (h : Blk w g #[v0, v1] t) :
    w.cell? ⟨g, 0, none⟩ = some v0 ∧ w.cell? ⟨g, 1, none⟩ = some v1 ∧ (∀ i, w.frozen? ⟨g, i, none⟩ = false) ∧ g < w.heap.size :=
  ⟨by simpa using h.cell 0, by simpa using h.cell 1, fun i => h.free i, h.lt⟩
def ints (xs : List Int) : List Value := xs.map (Value.int .i64)
theorem ints_length (xs : List Int) : (ints xs).length = xs.length := by simp [ints]
theorem ints_set (xs : List Int) (i : Nat) (v : Int) : ints (xs.set i v) = (ints xs).set i (.int .i64 v) := by simp [ints, List.map_set]
def IRow (w : World) (a : Option Addr) (xs : List Int) : Prop :=
  ∀ i, i < xs.length → ∃ b o, a = some ⟨b, o, none⟩ ∧ w.cell? ⟨b, o + i, none⟩ = some (.int .i64 (xs.getD i 0))
theorem IRow.below {w w' : World} {a : Option Addr} {xs : List Int} (h : IRow w a xs) (hb : Below w.heap.size w w') : IRow w' a xs := fun i hi => by
  obtain ⟨b, o, e, hc⟩ := h i hi
  exact ⟨b, o, e, by rw [hb.cell (p := ⟨b, o + i, none⟩) (World.block_lt_of_cell? w _ hc)]; exact hc⟩
theorem IRow.drew {w : World} {a : Option Addr} {xs : List Int} (h : IRow w a xs) : IRow w.drew a xs := h
theorem IRow.alloc {w : World} {a : Option Addr} {xs : List Int} (h : IRow w a xs) (o : Obj) : IRow (w.alloc o) a xs := h.below ((Below.refl _ _).alloc (Nat.le_refl _) o)
theorem IRow.nil (w : World) (a : Option Addr) : IRow w a [] := fun i hi => by simp at hi
def Row (w : World) (g : Nat) (xs : List Int) : Prop := ∃ cur : Array Value, Blk w g cur 2 ∧ xs.length ≤ cur.size ∧ cur.toList.take xs.length = ints xs
theorem Row.lt {w : World} {g : Nat} {xs : List Int} (h : Row w g xs) : g < w.heap.size := by obtain ⟨c, hB, _⟩ := h; exact hB.lt
theorem Row.below {w w' : World} {g : Nat} {xs : List Int} (h : Row w g xs) (hb : Below w.heap.size w w') : Row w' g xs := by
  obtain ⟨c, hB, h1, h2⟩ := h; exact ⟨c, hB.below hb, h1, h2⟩
theorem Row.alloc {w : World} {g : Nat} {xs : List Int} (h : Row w g xs) (o : Obj) : Row (w.alloc o) g xs := by
  obtain ⟨c, hB, h1, h2⟩ := h; exact ⟨c, hB.alloc o, h1, h2⟩
theorem Row.drew {w : World} {g : Nat} {xs : List Int} (h : Row w g xs) : Row w.drew g xs := h
theorem Row.drewN {w : World} {g : Nat} {xs : List Int} (h : Row w g xs) (n : Nat) : Row (w.drewN n) g xs := by
  obtain ⟨c, hB, h1, h2⟩ := h; exact ⟨c, hB.drewN n, h1, h2⟩
theorem Row.grown {w w' : World} {g g' : Nat} {xs : List Int} (h : Row w g' xs) (hg : w.grownBy w' (some g)) (hne : g' ≠ g) : Row w' g' xs := by
  obtain ⟨c, hB, h1, h2⟩ := h; exact ⟨c, hB.grown hg hne, h1, h2⟩
theorem Row.other {w : World} {g g' o : Nat} {xs : List Int} {v : Value} (h : Row w g' xs) (hne : g' ≠ g) : Row (w.setCell ⟨g, o, none⟩ v) g' xs := by
  obtain ⟨c, hB, h1, h2⟩ := h
  exact ⟨c, (Below.heap_setCell w ⟨g, o, none⟩ v g' hne).trans hB, h1, h2⟩
theorem Row.cell {w : World} {g : Nat} {xs : List Int} (h : Row w g xs) (i : Nat) (hi : i < xs.length) : w.cell? ⟨g, i, none⟩ = some (.int .i64 (xs.getD i 0)) := by
  obtain ⟨c, hB, h1, h2⟩ := h
  rw [hB.cell i]
  have : (cur_take : List Value) → True := fun _ => trivial
  have h3 : (c.toList.take xs.length)[i]? = c[i]? := by rw [List.getElem?_take_of_lt hi]; simp
  rw [← h3, h2]
  simp [ints, hi]
theorem Row.free {w : World} {g : Nat} {xs : List Int} (h : Row w g xs) (i : Nat) : w.frozen? ⟨g, i, none⟩ = false := by
  obtain ⟨c, hB, _, _⟩ := h; exact hB.free i
theorem Row.irow {w : World} {g : Nat} {xs : List Int} (h : Row w g xs) : IRow w (some ⟨g, 0, none⟩) xs := fun i hi => ⟨g, 0, rfl, by rw [Nat.zero_add]; exact h.cell i hi⟩
theorem Row.set {w : World} {g : Nat} {xs : List Int} (h : Row w g xs) (i : Nat) (v : Int) : Row (w.setCell ⟨g, i, none⟩ (.int .i64 v)) g (xs.set i v) := by
  obtain ⟨c, hB, h1, h2⟩ := h
  refine ⟨_, hB.set (i := i) (.int .i64 v), by simpa using h1, ?_⟩
  rw [List.length_set, ints_set, ← h2, Array.toList_setIfInBounds, List.take_set]
theorem Row.new (w : World) (xs : List Int) : Row (w.alloc (.cells (ints xs).toArray 2)) w.heap.size xs :=
  ⟨_, Blk.new w _ _, by simp [ints_length], by simp [List.take_of_length_le, ints_length]⟩
theorem Row.wf {w : World} {g : Nat} {xs ys : List Int} (h : Row w g xs) (e : xs = ys) : Row w g ys := e ▸ h
theorem infoI64 : (Tryz.prog.info? 2).map (fun i => (i.zero, i.size, i.bytes)) = some (some (.int .i64 0), 1, 8) := by kernel_rfl
theorem made_row (w : World) (n : Nat) : Row (w.alloc (.cells (madeCells #[.int .i64 0] n) 2)) w.heap.size (List.replicate n 0) :=
  ⟨_, Blk.new w _ _, by
    have := congrArg List.length (toList_madeCells_one (.int .i64 0) n)
    simp at this ⊢
    omega, by
    rw [toList_madeCells_one]
    simp [ints]⟩
def Copied (xs : List Int) (w : World) (e : Ending) (w' : World) : Prop :=
  ∃ g, e = .returned (.slice (some ⟨g, 0, none⟩) xs.length xs.length) ∧ w.heap.size ≤ g ∧ Row w' g xs ∧ Below w.heap.size w w'
theorem copy_step (xs : List Int) (k : Nat) (h : k < xs.length) : (xs.take k ++ List.replicate (xs.length - k) 0).set k (xs.getD k 0) = xs.take (k + 1) ++ List.replicate (xs.length - (k + 1)) 0 := by
  apply List.ext_getElem?
  intro i
  have hk : (xs.take k).length = k := by simp; omega
  rcases Nat.lt_trichotomy i k with hi | hi | hi
  · rw [List.getElem?_set_ne (by omega), List.getElem?_append_left (by omega), List.getElem?_append_left (by simp; omega), List.getElem?_take_of_lt hi, List.getElem?_take_of_lt (by omega)]
  · subst hi
    rw [List.getElem?_set_self (by simp; omega), List.getElem?_append_left (by simp; omega), List.getElem?_take_of_lt (by omega)]
    simp [h]
  · rw [List.getElem?_set_ne (by omega), List.getElem?_append_right (by omega), List.getElem?_append_right (by simp; omega), List.getElem?_replicate, List.getElem?_replicate]
    simp only [List.length_take]
    have e1 : min k xs.length = k := by omega
    have e2 : min (k + 1) xs.length = k + 1 := by omega
    rw [e1, e2]
    by_cases h2 : i < xs.length
    · rw [if_pos (by omega), if_pos (by omega)]
    · rw [if_neg (by omega), if_neg (by omega)]
theorem two_new (w : World) (v1 v2 : Array Value) (t1 t2 : TypeId) : Blk ((w.alloc (.cells v1 t1)).alloc (.cells v2 t2)) w.heap.size v1 t1 ∧ Blk ((w.alloc (.cells v1 t1)).alloc (.cells v2 t2)) (w.heap.size + 1) v2 t2 ∧
    Below w.heap.size w ((w.alloc (.cells v1 t1)).alloc (.cells v2 t2)) ∧ ((w.alloc (.cells v1 t1)).alloc (.cells v2 t2)).heap.size = w.heap.size + 1 + 1 := by
  refine ⟨(Blk.new w _ _).alloc _, ?_, ((Below.refl _ _).alloc (Nat.le_refl _) _).alloc (by simp) _, by simp⟩
  have := Blk.new (w.alloc (.cells v1 t1)) v2 t2
  simpa using this
theorem three_new (w : World) (v1 v2 v3 : Array Value) (t1 t2 t3 : TypeId) : Blk (((w.alloc (.cells v1 t1)).alloc (.cells v2 t2)).alloc (.cells v3 t3)) w.heap.size v1 t1 ∧ Blk (((w.alloc (.cells v1 t1)).alloc (.cells v2 t2)).alloc (.cells v3 t3)) (w.heap.size + 1) v2 t2 ∧
    Blk (((w.alloc (.cells v1 t1)).alloc (.cells v2 t2)).alloc (.cells v3 t3)) (w.heap.size + 1 + 1) v3 t3 ∧ Below w.heap.size w (((w.alloc (.cells v1 t1)).alloc (.cells v2 t2)).alloc (.cells v3 t3)) ∧ (((w.alloc (.cells v1 t1)).alloc (.cells v2 t2)).alloc (.cells v3 t3)).heap.size = w.heap.size + 1 + 1 + 1 := by
  obtain ⟨h1, h2, h3, h4⟩ := two_new w v1 v2 t1 t2
  refine ⟨h1.alloc _, h2.alloc _, ?_, h3.alloc h3.size _, by simp⟩
  have := Blk.new ((w.alloc (.cells v1 t1)).alloc (.cells v2 t2)) v3 t3
  rw [h4] at this
  exact this
theorem IRow.wf {w : World} {a : Option Addr} {xs ys : List Int} (h : IRow w a xs) (e : xs = ys) : IRow w a ys := e ▸ h
def BoardMade (xs ys : List Int) (w : World) (e : Ending) (w' : World) : Prop :=
  ∃ g1 g2, e = .returned (.agg #[.slice (some ⟨g1, 0, none⟩) xs.length xs.length, .slice (some ⟨g2, 0, none⟩) ys.length ys.length]) ∧ w.heap.size ≤ g1 ∧ g1 < g2 ∧ Row w' g1 xs ∧ Row w' g2 ys ∧ Below w.heap.size w w'
def OBd (lo hi : Nat) (w : World) (a1 a2 : Option Addr) (xs ys : List Int) : Prop :=
  (a1 = none ∧ a2 = none ∧ xs = [] ∧ ys = []) ∨
  ∃ g1 g2, a1 = some ⟨g1, 0, none⟩ ∧ a2 = some ⟨g2, 0, none⟩ ∧ g1 ≠ g2 ∧ lo ≤ g1 ∧ g1 < hi ∧ lo ≤ g2 ∧ g2 < hi ∧ Row w g1 xs ∧ Row w g2 ys
structure Same (lo hi : Nat) (w w' : World) : Prop where
  os : w'.os = w.os
  tape : w'.tape = w.tape
  output : w'.output = w.output
  size : w.heap.size ≤ w'.heap.size
  block : ∀ i, i < w.heap.size → (i < lo ∨ hi ≤ i) → w'.heap[i]? = w.heap[i]?
theorem Blk.same {lo hi g : Nat} {w w' : World} {vs : Array Value} {t : TypeId} (h : Blk w g vs t) (hs : Same lo hi w w') (hg : g < lo ∨ hi ≤ g) : Blk w' g vs t := (hs.block g h.lt hg).trans h
theorem Row.same {lo hi g : Nat} {w w' : World} {xs : List Int} (h : Row w g xs) (hs : Same lo hi w w') (hg : g < lo ∨ hi ≤ g) : Row w' g xs := by
  obtain ⟨cur, hB, h1, h2⟩ := h
  exact ⟨cur, hB.same hs hg, h1, h2⟩
theorem OBd.below {lo hi : Nat} {w w' : World} {a1 a2 : Option Addr} {xs ys : List Int} (h : OBd lo hi w a1 a2 xs ys) (hb : Below w.heap.size w w') : OBd lo hi w' a1 a2 xs ys := by
  rcases h with h | ⟨g1, g2, e1, e2, hne, b1, b2, b3, b4, r1, r2⟩
  · exact .inl h
  · exact .inr ⟨g1, g2, e1, e2, hne, b1, b2, b3, b4, r1.below hb, r2.below hb⟩
theorem OBd.same {lo hi lo2 hi2 : Nat} {w w' : World} {a1 a2 : Option Addr} {xs ys : List Int} (h : OBd lo2 hi2 w a1 a2 xs ys) (hs : Same lo hi w w') (hd : hi2 ≤ lo ∨ hi ≤ lo2) : OBd lo2 hi2 w' a1 a2 xs ys := by
  rcases h with h | ⟨g1, g2, e1, e2, hne, b1, b2, b3, b4, r1, r2⟩
  · exact .inl h
  · exact .inr ⟨g1, g2, e1, e2, hne, b1, b2, b3, b4, r1.same hs (by omega), r2.same hs (by omega)⟩
theorem OBd.irow1 {lo hi : Nat} {w : World} {a1 a2 : Option Addr} {xs ys : List Int} (h : OBd lo hi w a1 a2 xs ys) : IRow w a1 xs := by
  rcases h with ⟨_, _, rfl, _⟩ | ⟨g1, g2, rfl, _, _, _, _, _, _, r1, _⟩
  · exact IRow.nil _ _
  · exact r1.irow
theorem OBd.irow2 {lo hi : Nat} {w : World} {a1 a2 : Option Addr} {xs ys : List Int} (h : OBd lo hi w a1 a2 xs ys) : IRow w a2 ys := by
  rcases h with ⟨_, _, _, rfl⟩ | ⟨g1, g2, _, rfl, _, _, _, _, _, _, r2⟩
  · exact IRow.nil _ _
  · exact r2.irow
def BoardGot (xs ys : List Int) (w : World) (e : Ending) (w' : World) : Prop :=
  ∃ a1 a2 k1 k2, e = .returned (.agg #[.slice a1 xs.length k1, .slice a2 ys.length k2]) ∧ OBd w.heap.size w'.heap.size w' a1 a2 xs ys ∧ Below w.heap.size w w'
def OSl (lo hi : Nat) (w : World) (a : Option Addr) (xs : List Int) : Prop :=
  (a = none ∧ xs = []) ∨ ∃ g, a = some ⟨g, 0, none⟩ ∧ lo ≤ g ∧ g < hi ∧ Row w g xs
theorem OSl.irow {lo hi : Nat} {w : World} {a : Option Addr} {xs : List Int} (h : OSl lo hi w a xs) : IRow w a xs := by
  rcases h with ⟨rfl, rfl⟩ | ⟨g, rfl, _, _, r⟩
  · exact IRow.nil _ _
  · exact r.irow
theorem OSl.below {lo hi : Nat} {w w' : World} {a : Option Addr} {xs : List Int} (h : OSl lo hi w a xs) (hb : Below w.heap.size w w') : OSl lo hi w' a xs := by
  rcases h with h | ⟨g, e, h1, h2, r⟩
  · exact .inl h
  · exact .inr ⟨g, e, h1, h2, r.below hb⟩
theorem OSl.drew {lo hi : Nat} {w : World} {a : Option Addr} {xs : List Int} (h : OSl lo hi w a xs) : OSl lo hi w.drew a xs := h
theorem OSl.alloc {lo hi : Nat} {w : World} {a : Option Addr} {xs : List Int} (h : OSl lo hi w a xs) (o : Obj) : OSl lo hi (w.alloc o) a xs := h.below ((Below.refl _ _).alloc (Nat.le_refl _) o)
theorem OBd.drew {lo hi : Nat} {w : World} {a1 a2 : Option Addr} {xs ys : List Int} (h : OBd lo hi w a1 a2 xs ys) : OBd lo hi w.drew a1 a2 xs ys := h
theorem OSl.mono {lo hi lo' hi' : Nat} {w : World} {a : Option Addr} {xs : List Int} (h : OSl lo hi w a xs) (h1 : lo' ≤ lo) (h2 : hi ≤ hi') : OSl lo' hi' w a xs := by
  rcases h with h | ⟨g, e, q1, q2, r⟩
  · exact .inl h
  · exact .inr ⟨g, e, by omega, by omega, r⟩
theorem OSl.same {lo hi lo2 hi2 : Nat} {w w' : World} {a : Option Addr} {xs : List Int} (h : OSl lo2 hi2 w a xs) (hs : Same lo hi w w') (hd : hi2 ≤ lo ∨ hi ≤ lo2) : OSl lo2 hi2 w' a xs := by
  rcases h with h | ⟨g, e, q1, q2, r⟩
  · exact .inl h
  · exact .inr ⟨g, e, q1, q2, r.same hs (by omega)⟩
def Own (w : World) (base : Nat) (v : Value) (xs : List Int) : Prop := w.ownsRow base 2 1 v xs.length (ints xs)
theorem Own.form {w : World} {base : Nat} {v : Value} {xs : List Int} (h : Own w base v xs) : ∃ a k, v = .slice a xs.length k := by
  rcases h.2 with ⟨h1, h2⟩ | ⟨g, cap, cur, h1, _⟩
  · exact ⟨none, 0, by rw [h1, h2]⟩
  · exact ⟨some ⟨g, 0, none⟩, cap, h1⟩
theorem Own.alloc {w : World} {base : Nat} {v : Value} {xs : List Int} (h : Own w base v xs) (o : Obj) : Own (w.alloc o) base v xs := World.ownsRow.alloc h o
theorem Own.drew {w : World} {base : Nat} {v : Value} {xs : List Int} (h : Own w base v xs) : Own w.drew base v xs := h
theorem Own.kept {w w' : World} {base : Nat} {v : Value} {xs : List Int} (h : Own w base v xs) (hb : Below w.heap.size w w') : Own w' base v xs :=
  World.ownsRow.kept (row := none) h ⟨hb.os, hb.tape, hb.output, hb.size, fun k hk _ => hb.block k hk⟩ (by
    cases hv : v.ownBlock with
    | none => exact .inl rfl
    | some g => exact .inr (by simp))
theorem Own.start (w : World) : Own (w.alloc (.cells #[] 2)) w.heap.size (.slice (some ⟨w.heap.size, 0, none⟩) 0 0) [] :=
  ⟨rfl, .inr ⟨w.heap.size, 0, #[], rfl, Nat.le_refl _, Blk.new w #[] _, Nat.le_refl _, by unfold maxLen; omega, rfl, rfl⟩⟩
theorem Own.nil (w : World) (base : Nat) : Own w base (.slice none 0 0) [] := World.ownsRow_nil w base _ _
theorem Own.mono {w : World} {base base' : Nat} {v : Value} {xs : List Int} (h : Own w base v xs) (hb : base' ≤ base) : Own w base' v xs := by
  obtain ⟨h1, h2 | ⟨g, cap, cur, q1, q2, q3⟩⟩ := h
  · exact ⟨h1, .inl h2⟩
  · exact ⟨h1, .inr ⟨g, cap, cur, q1, by omega, q3⟩⟩
def vB (p c h s : Int) : Bool := decide (2 ≤ p ∧ p ≤ 24 ∧ 1 ≤ c ∧ c ≤ 15 ∧ 1 ≤ h ∧ h ≤ p ∧ 1 ≤ s ∧ s ≤ 6)
def inB (n lo hi : Int) : Bool := decide (lo ≤ n ∧ n ≤ hi)
theorem vB_iff {p c h s : Int} : vB p c h s = true ↔ (2 ≤ p ∧ p ≤ 24 ∧ 1 ≤ c ∧ c ≤ 15 ∧ 1 ≤ h ∧ h ≤ p ∧ 1 ≤ s ∧ s ≤ 6) := by simp [vB]
theorem l01In_any (n lo hi : Int) (w : World) :
    Calls Tryz.prog 37 #[.int .i64 n, .int .i64 lo, .int .i64 hi] w fun e w' => e = .returned (.bool (inB n lo hi)) ∧ w = w' := by
  by_cases g0 : lo ≤ n
  rotate_left
  · go_enter Tryz.func37, Tryz.ntmps37
    go_wp2
    go_ret
    exact ⟨by simp [inB, *] <;> omega, rfl⟩
  by_cases g1 : n ≤ hi
  rotate_left
  · go_enter Tryz.func37, Tryz.ntmps37
    go_wp2
    go_ret
    exact ⟨by simp [inB, *] <;> omega, rfl⟩
  go_enter Tryz.func37, Tryz.ntmps37
  go_wp2
  go_ret
  exact ⟨by simp [inB, *] <;> omega, rfl⟩
theorem valid_any (p c h s : Int) (w : World) :
    Calls Tryz.prog 74 #[.agg #[.int .i64 p, .int .i64 c, .int .i64 h, .int .i64 s]] w fun e w' => e = .returned (.bool (vB p c h s)) ∧ Below w.heap.size w w' := by
  by_cases g0 : 2 ≤ p
  rotate_left
  · go_enter Tryz.func74, Tryz.ntmps74
    go_wp2
    go_ret
    exact ⟨by simp [vB] <;> omega, by first | exact (Below.refl _ _).alloc (Nat.le_refl _) _ | exact from_alloc hb1 | exact hb1⟩
  by_cases g1 : p ≤ 24
  rotate_left
  · go_enter Tryz.func74, Tryz.ntmps74
    go_wp2
    go_ret
    exact ⟨by simp [vB] <;> omega, by first | exact (Below.refl _ _).alloc (Nat.le_refl _) _ | exact from_alloc hb1 | exact hb1⟩
  by_cases g2 : 1 ≤ c
  rotate_left
  · go_enter Tryz.func74, Tryz.ntmps74
    go_wp2
    go_ret
    exact ⟨by simp [vB] <;> omega, by first | exact (Below.refl _ _).alloc (Nat.le_refl _) _ | exact from_alloc hb1 | exact hb1⟩
  by_cases g3 : c ≤ 15
  rotate_left
  · go_enter Tryz.func74, Tryz.ntmps74
    go_wp2
    go_ret
    exact ⟨by simp [vB] <;> omega, by first | exact (Below.refl _ _).alloc (Nat.le_refl _) _ | exact from_alloc hb1 | exact hb1⟩
  by_cases g4 : 1 ≤ h
  rotate_left
  · go_enter Tryz.func74, Tryz.ntmps74
    go_wp2
    go_ret
    exact ⟨by simp [vB] <;> omega, by first | exact (Below.refl _ _).alloc (Nat.le_refl _) _ | exact from_alloc hb1 | exact hb1⟩
  by_cases g5 : h ≤ p
  rotate_left
  · go_enter Tryz.func74, Tryz.ntmps74
    go_wp2
    go_ret
    exact ⟨by simp [vB] <;> omega, by first | exact (Below.refl _ _).alloc (Nat.le_refl _) _ | exact from_alloc hb1 | exact hb1⟩
  by_cases g6 : 1 ≤ s
  rotate_left
  · go_enter Tryz.func74, Tryz.ntmps74
    go_wp2
    go_ret
    exact ⟨by simp [vB] <;> omega, by first | exact (Below.refl _ _).alloc (Nat.le_refl _) _ | exact from_alloc hb1 | exact hb1⟩
  by_cases g7 : s ≤ 6
  rotate_left
  · go_enter Tryz.func74, Tryz.ntmps74
    go_wp2
    go_ret
    exact ⟨by simp [vB] <;> omega, by first | exact (Below.refl _ _).alloc (Nat.le_refl _) _ | exact from_alloc hb1 | exact hb1⟩
  go_enter Tryz.func74, Tryz.ntmps74
  go_wp2
  go_ret
  exact ⟨by simp [vB] <;> omega, by first | exact (Below.refl _ _).alloc (Nat.le_refl _) _ | exact from_alloc hb1 | exact hb1⟩
theorem specIsVariant_any (p c h s : Int) (w : World) :
    Calls Tryz.prog 62 #[.agg #[.int .i64 p, .int .i64 c, .int .i64 h, .int .i64 s]] w fun e w' => e = .returned (.bool (vB p c h s)) ∧ Below w.heap.size w w' := by
  by_cases g0 : 2 ≤ p
  rotate_left
  · go_enter Tryz.func62, Tryz.ntmps62
    go_wp2
    go_ret
    exact ⟨by simp [vB] <;> omega, by first | exact (Below.refl _ _).alloc (Nat.le_refl _) _ | exact from_alloc hb1 | exact hb1⟩
  by_cases g1 : p ≤ 24
  rotate_left
  · go_enter Tryz.func62, Tryz.ntmps62
    go_wp2
    go_ret
    exact ⟨by simp [vB] <;> omega, by first | exact (Below.refl _ _).alloc (Nat.le_refl _) _ | exact from_alloc hb1 | exact hb1⟩
  by_cases g2 : 1 ≤ c
  rotate_left
  · go_enter Tryz.func62, Tryz.ntmps62
    go_wp2
    go_ret
    exact ⟨by simp [vB] <;> omega, by first | exact (Below.refl _ _).alloc (Nat.le_refl _) _ | exact from_alloc hb1 | exact hb1⟩
  by_cases g3 : c ≤ 15
  rotate_left
  · go_enter Tryz.func62, Tryz.ntmps62
    go_wp2
    go_ret
    exact ⟨by simp [vB] <;> omega, by first | exact (Below.refl _ _).alloc (Nat.le_refl _) _ | exact from_alloc hb1 | exact hb1⟩
  by_cases g4 : 1 ≤ h
  rotate_left
  · go_enter Tryz.func62, Tryz.ntmps62
    go_wp2
    go_ret
    exact ⟨by simp [vB] <;> omega, by first | exact (Below.refl _ _).alloc (Nat.le_refl _) _ | exact from_alloc hb1 | exact hb1⟩
  by_cases g5 : h ≤ p
  rotate_left
  · go_enter Tryz.func62, Tryz.ntmps62
    go_wp2
    go_ret
    exact ⟨by simp [vB] <;> omega, by first | exact (Below.refl _ _).alloc (Nat.le_refl _) _ | exact from_alloc hb1 | exact hb1⟩
  by_cases g6 : 1 ≤ s
  rotate_left
  · go_enter Tryz.func62, Tryz.ntmps62
    go_wp2
    go_ret
    exact ⟨by simp [vB] <;> omega, by first | exact (Below.refl _ _).alloc (Nat.le_refl _) _ | exact from_alloc hb1 | exact hb1⟩
  by_cases g7 : s ≤ 6
  rotate_left
  · go_enter Tryz.func62, Tryz.ntmps62
    go_wp2
    go_ret
    exact ⟨by simp [vB] <;> omega, by first | exact (Below.refl _ _).alloc (Nat.le_refl _) _ | exact from_alloc hb1 | exact hb1⟩
  go_enter Tryz.func62, Tryz.ntmps62
  go_wp2
  go_ret
  exact ⟨by simp [vB] <;> omega, by first | exact (Below.refl _ _).alloc (Nat.le_refl _) _ | exact from_alloc hb1 | exact hb1⟩
end Go.Proofs.YtciljbnailobgaaGreat
namespace Go.Proofs.YtciljbnailobgaaGreat
set_option linter.unusedVariables false
set_option linter.unusedSimpArgs false
theorem getD_mem {xs : List Int} {k : Nat} (h : k < xs.length) : xs.getD k 0 ∈ xs := by simp [List.getD, h]
theorem getD_out {l : List Int} {j : Nat} (h : l.length ≤ j) : l.getD j 0 = 0 := by
  rw [List.getD_eq_getElem?_getD, List.getElem?_eq_none h]
  rfl
theorem ext_getD : ∀ {l m : List Int}, l.length = m.length → (∀ j, l.getD j 0 = m.getD j 0) → l = m := by
  intro l m h e
  apply List.ext_getElem h
  intro i h1 h2
  have := e i
  rw [List.getD_eq_getElem?_getD, List.getD_eq_getElem?_getD, List.getElem?_eq_getElem h1, List.getElem?_eq_getElem h2] at this
  simpa using this
theorem take_snoc_int (xs : List Int) (k : Nat) (h : k < xs.length) : xs.take (k + 1) = xs.take k ++ [xs.getD k 0] := by
  rw [List.take_succ_eq_append_getElem h]; simp [h]
theorem sum_take (xs : List Int) (k : Nat) (h : k < xs.length) : (xs.take (k + 1)).sum = (xs.take k).sum + xs.getD k 0 := by
  rw [take_snoc_int xs k h]; simp
theorem sum_bound {c : Int} : ∀ (xs : List Int), (∀ x ∈ xs, 0 ≤ x ∧ x ≤ c) → 0 ≤ xs.sum ∧ xs.sum ≤ c * xs.length
  | [], _ => by simp
  | x :: xs, h => by
    have h1 := h x (by simp)
    have h2 := sum_bound xs (fun y hy => h y (by simp [hy]))
    simp only [List.sum_cons, List.length_cons, Int.natCast_add, Int.natCast_one, Int.mul_add, Int.mul_one]
    omega
def sideB (p c : Int) (xs : List Int) : Bool := decide ((xs.length : Int) = p + 1) && xs.all (fun x => inB x 0 c) && decide (xs.sum ≤ c)
def apartB (p : Nat) (xs ys : List Int) : Bool := (List.range p).all fun i => !(decide (0 < xs.getD i 0) && decide (0 < ys.getD (p - 1 - i) 0))
def isB (p c h s : Int) (xs ys : List Int) : Bool := vB p c h s && (sideB p c xs && (sideB p c ys && (!(decide (xs.sum + ys.sum = 0)) && apartB p.toNat xs ys)))
theorem inB_iff {n a b : Int} : inB n a b = true ↔ a ≤ n ∧ n ≤ b := by simp [inB]
theorem sideB_iff {p c : Int} {xs : List Int} : sideB p c xs = true ↔ (xs.length : Int) = p + 1 ∧ (∀ x ∈ xs, 0 ≤ x ∧ x ≤ c) ∧ xs.sum ≤ c := by
  simp [sideB, inB, and_assoc]
def pipsL (xs : List Int) : Nat → Int
  | 0 => 0
  | k + 1 => pipsL xs k + ((k : Int) + 1) * xs.getD k 0
def lastL (xs : List Int) : Nat → Int
  | 0 => -1
  | k + 1 => if 0 < xs.getD k 0 then (k : Int) else lastL xs k
theorem lastL_bound (xs : List Int) : ∀ k : Nat, -1 ≤ lastL xs k ∧ lastL xs k < k
  | 0 => by simp [lastL]
  | k + 1 => by
    have := lastL_bound xs k
    unfold lastL
    split <;> omega
end Go.Proofs.YtciljbnailobgaaGreat
namespace Go.Proofs.YtciljbnailobgaaGreat
open Go.ChangeShapes Go.WideShapes Go.ChangeAt Go.RowKit
set_option linter.unusedVariables false
set_option linter.unusedSimpArgs false
set_option maxHeartbeats 1000000 in
theorem l02Sum_any (a : Option Addr) (n cap : Nat) (xs : List Int) (w : World) (hn : xs.length = n) (hle : n ≤ 1000) (hx : ∀ x ∈ xs, 0 ≤ x ∧ x ≤ 1000) (hr : IRow w a xs) :
    Calls Tryz.prog 64 #[.slice a n cap] w fun e w' => e = .returned (.int .i64 xs.sum) ∧ w = w' := by
  subst hn
  go_enter Tryz.func64, Tryz.ntmps64
  go_wp2
  go_loopg [3, 4] xs.length (fun m q i wr => w = wr ∧ ∃ k : Nat, k ≤ xs.length ∧ m = xs.length - k ∧ i = .int .i64 k ∧ q = .int .i64 (xs.take k).sum)
  case atStart => exact ⟨rfl, 0, by omega, by omega, rfl, rfl⟩
  case round =>
    obtain ⟨rfl, k, hk, hm, rfl, rfl⟩ := hrel
    by_cases hlt : k < xs.length
    · have hlt' : (k : Int) < (xs.length : Int) := by omega
      obtain ⟨b, o, rfl, hc⟩ := hr k hlt
      have hb := sum_bound (c := 1000) (xs.take k) (fun x h => hx x (List.mem_of_mem_take h))
      have hl : (xs.take k).length ≤ 1000 := by simp; omega
      have hb0 : 0 ≤ (xs.take k).sum := hb.1
      have hb1 : (xs.take k).sum ≤ 1000000 := by have := hb.2; omega
      have hg := hx _ (getD_mem hlt)
      obtain ⟨v, hv⟩ : ∃ v, xs.getD k 0 = v := ⟨_, rfl⟩
      have hst := sum_take xs k hlt
      rw [hv] at hc hg hst
      have g0 : 0 ≤ v := hg.1
      have g1 : v ≤ 1000 := hg.2
      have HS := Lib.hid hst
      clear hst hv hb hl hg
      go_wp2
      go_roundg (xs.length - (k + 1))
      case measure => omega
      case rel => exact ⟨rfl, k + 1, by omega, rfl, by go_num, by rw [HS.out]⟩
    · obtain rfl : k = xs.length := by omega
      go_wp2
      go_ret
      exact ⟨by simp, rfl⟩
set_option maxHeartbeats 2000000 in
theorem l02Side_any (p c h s : Int) (a : Option Addr) (n cap : Nat) (xs : List Int) (w : World) (g : vB p c h s = true) (hn : xs.length = n) (hle : n ≤ 1048576) (hr : IRow w a xs) :
    Calls Tryz.prog 63 #[.agg #[.int .i64 p, .int .i64 c, .int .i64 h, .int .i64 s], .slice a n cap] w fun e w' => e = .returned (.bool (sideB p c xs)) ∧ Below w.heap.size w w' := by
  have hv := vB_iff.1 g
  have p0 : 2 ≤ p := hv.1
  have p1 : p ≤ 24 := hv.2.1
  have c0 : 1 ≤ c := hv.2.2.1
  have c1 : c ≤ 15 := hv.2.2.2.1
  clear hv g
  have B0 := Blk.new w #[.int .i64 p, .int .i64 c, .int .i64 h, .int .i64 s] 25
  have hb : Below w.heap.size w (w.alloc (.cells #[.int .i64 p, .int .i64 c, .int .i64 h, .int .i64 s] 25)) := (Below.refl _ _).alloc (Nat.le_refl _) _
  obtain ⟨R, hR⟩ : ∃ R, sideB p c xs = R := ⟨_, rfl⟩
  rw [hR]
  by_cases hlen : (n : Int) = p + 1
  · have e0 : ((n : Int) != p + 1) = false := by rw [bne_eq_false_iff_eq]; exact hlen
    have hr0 := hr.below hb
    subst hn
    have HR := Lib.hid hR
    have HL := Lib.hid hlen
    clear hR hlen
    go_enter Tryz.func63, Tryz.ntmps63
    go_wp2
    generalize (w.alloc (.cells #[.int .i64 p, .int .i64 c, .int .i64 h, .int .i64 s] 25)) = v0 at *
    go_loopg [5] xs.length (fun m i wr => ∃ k : Nat, k ≤ xs.length ∧ m = xs.length - k ∧ i = .int .i64 k ∧ (∀ j, j < k → inB (xs.getD j 0) 0 c = true) ∧ Blk wr w.heap.size #[.int .i64 p, .int .i64 c, .int .i64 h, .int .i64 s] 25 ∧ Below w.heap.size w wr)
    case atStart => exact ⟨0, by omega, by omega, rfl, fun j hj => by omega, B0, hb⟩
    case round =>
      obtain ⟨k, hk, hm, rfl, hall, BV, hbel⟩ := hrel
      have HA := Lib.hid hall
      clear hall
      obtain ⟨x0, x1, x2, x3, xf, xl⟩ := BV.four
      by_cases hlt : k < xs.length
      · have hlt' : (k : Int) < (xs.length : Int) := by omega
        have hk0 : (0 : Int) ≤ (k : Int) := by omega
        obtain ⟨b, o, rfl, hc⟩ := hr.below hbel k hlt
        obtain ⟨v, hv⟩ : ∃ v, xs.getD k 0 = v := ⟨_, rfl⟩
        rw [hv] at hc
        have HV := Lib.hid hv
        clear hv
        by_cases hin : inB v 0 c = true
        · go_wp2_with fail
          go_region_held3 (fun w' => w'.cell? ⟨b, o + k, none⟩ = some (.int .i64 v) ∧ w'.cell? ⟨w.heap.size, 1, none⟩ = some (.int .i64 c)) (first | exact ⟨hc, x1⟩ | assumption | go_keep) (first | (go_at_call 37; refine (l01In_any v 0 c _).mono ?_; rintro e w5 ⟨rfl, rfl⟩))
          go_wp2
          go_roundg (xs.length - (k + 1))
          case measure => omega
          case rel =>
            refine ⟨k + 1, by omega, rfl, by go_num, fun j hj => ?_, BV.drew, hbel.drew⟩
            by_cases hjk : j = k
            · subst hjk
              rw [HV.out]
              exact hin
            · exact HA.out j (by omega)
        · have hR2 : R = false := by
            rw [← HR.out]
            have : xs.all (fun x => inB x 0 c) = false := by
              rw [List.all_eq_false]
              exact ⟨v, HV.out ▸ getD_mem hlt, by simpa using hin⟩
            simp [sideB, this]
          subst hR2
          go_wp2_with fail
          go_region_held3 (fun w' => w'.cell? ⟨b, o + k, none⟩ = some (.int .i64 v) ∧ w'.cell? ⟨w.heap.size, 1, none⟩ = some (.int .i64 c)) (first | exact ⟨hc, x1⟩ | assumption | go_keep) (first | (go_at_call 37; refine (l01In_any v 0 c _).mono ?_; rintro e w5 ⟨rfl, rfl⟩))
          go_wp2
          go_ret
          exact ⟨rfl, hbel.drew⟩
      · obtain rfl : k = xs.length := by omega
        have hxs : ∀ x ∈ xs, 0 ≤ x ∧ x ≤ c := fun x hx => by
          obtain ⟨j, hj, rfl⟩ := List.mem_iff_getElem.1 hx
          have := HA.out j hj
          rw [show xs.getD j 0 = xs[j] by simp [hj]] at this
          exact inB_iff.1 this
        have hR2 : R = decide (xs.sum ≤ c) := by
          rw [← HR.out]
          have h1 : xs.all (fun x => inB x 0 c) = true := List.all_eq_true.2 fun x hx => inB_iff.2 (hxs x hx)
          have h2 := HL.out
          simp [sideB, h1, h2]
        have hlen2 : xs.length ≤ 1000 := by have := HL.out; omega
        subst hR2
        have hsum := fun w (hr : IRow w a xs) => l02Sum_any a xs.length cap xs w rfl hlen2 (fun x hx => by have := hxs x hx; omega) hr
        have HS := Lib.hid hsum
        have hrw := hr.below hbel
        have HRW := Lib.hid hrw
        clear hsum hxs hrw
        go_wp2_with fail
        go_region_held3 (fun w' => w'.cell? ⟨w.heap.size, 1, none⟩ = some (.int .i64 c)) (first | exact x1 | assumption | go_keep) (first | (go_at_call 64; refine (HS.out _ HRW.out.drew).mono ?_; rintro e w5 ⟨rfl, rfl⟩))
        go_wp2
        go_ret
        exact ⟨rfl, hbel.drew⟩
  · have e0 : ((n : Int) != p + 1) = true := by rw [bne_iff_ne]; exact hlen
    have hR2 : R = false := by
      rw [← hR]
      simp [sideB, hn, hlen]
    subst hR2
    clear hR
    go_enter Tryz.func63, Tryz.ntmps63
    go_wp2
    go_ret
    exact ⟨rfl, hb⟩
set_option maxHeartbeats 1000000 in
theorem l02Last_any (a : Option Addr) (n cap : Nat) (xs : List Int) (w : World) (hn : xs.length = n) (hle : n ≤ 1048576) (hr : IRow w a xs) :
    Calls Tryz.prog 96 #[.slice a n cap] w fun e w' => e = .returned (.int .i64 (lastL xs n)) ∧ w = w' := by
  subst hn
  go_enter Tryz.func96, Tryz.ntmps96
  go_wp2
  go_loopg [3, 4] xs.length (fun m q i wr => w = wr ∧ ∃ k : Nat, k ≤ xs.length ∧ m = xs.length - k ∧ i = .int .i64 k ∧ q = .int .i64 (lastL xs k))
  case atStart => exact ⟨rfl, 0, by omega, by omega, rfl, rfl⟩
  case round =>
    obtain ⟨rfl, k, hk, hm, rfl, rfl⟩ := hrel
    by_cases hlt : k < xs.length
    · have hlt' : (k : Int) < (xs.length : Int) := by omega
      obtain ⟨b, o, rfl, hc⟩ := hr k hlt
      obtain ⟨v, hv⟩ : ∃ v, xs.getD k 0 = v := ⟨_, rfl⟩
      have hst : lastL xs (k + 1) = if 0 < xs.getD k 0 then (k : Int) else lastL xs k := rfl
      rw [hv] at hc hst
      by_cases hp : 0 < v
      · rw [if_pos hp] at hst
        have HS := Lib.hid hst
        clear hst hv
        go_wp2
        go_roundg (xs.length - (k + 1))
        case measure => omega
        case rel => exact ⟨rfl, k + 1, by omega, rfl, by go_num, by rw [HS.out]⟩
      · rw [if_neg hp] at hst
        have HS := Lib.hid hst
        clear hst hv
        go_wp2
        go_roundg (xs.length - (k + 1))
        case measure => omega
        case rel => exact ⟨rfl, k + 1, by omega, rfl, by go_num, by rw [HS.out]⟩
    · obtain rfl : k = xs.length := by omega
      go_wp2
      go_ret
      exact ⟨rfl, rfl⟩
end Go.Proofs.YtciljbnailobgaaGreat
