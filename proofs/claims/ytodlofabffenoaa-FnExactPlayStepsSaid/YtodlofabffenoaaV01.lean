/- Texts of a proof, laid together. -/
import Derived.Test.YtodlofabffenoaaRows
import Derived.WalkKit
import Derived.ProofKit
import Derived.OpenShut
import Derived.Below
import Derived.Lib.SmallJoins
import Derived.Lib.Hide
import Derived.BigQuiet
import Derived.Deep.LoopGhost
import Derived.Deep.OwnRows
import Derived.Deep.QuietTactic
import Derived.Laws.OwnMore
import Derived.OwnWalk
import Derived.Outline
import Derived.Deep.AppendLies
import Derived.ArgAppend
namespace Go.Proofs.Ytodlofabffenoaa
open Go.ChangeShapes Go.WideShapes Go.ChangeAt Go.RowKit
theorem own : ownKnob Try.prog.godebug = none := by kernel_rfl
theorem laidOut : laidOutB Try.prog = true := by kernel_rfl
theorem bcell {W w1 : World} (hb : Below W.heap.size W w1) : (∀ b o, b < W.heap.size → w1.cell? ⟨b, o, none⟩ = W.cell? ⟨b, o, none⟩) ∧ (∀ b o, b < W.heap.size → w1.frozen? ⟨b, o, none⟩ = W.frozen? ⟨b, o, none⟩) :=
  ⟨fun b o h => hb.cell (p := ⟨b, o, none⟩) h, fun b o h => hb.frozen (p := ⟨b, o, none⟩) h⟩
theorem chain {W w1 w2 : World} (h1 : Below W.heap.size W w1) (h2 : Below w1.heap.size w1 w2) : Below W.heap.size W w2 :=
  h1.trans (h2.mono h1.size)
theorem from_alloc {w w1 : World} {o : Obj} (h : Below (w.alloc o).heap.size (w.alloc o) w1) : Below w.heap.size w w1 :=
  ((Below.refl _ _).alloc (Nat.le_refl _) _).trans (h.mono (by simp))
def Blk (w : World) (g : Nat) (vs : Array Value) (t : TypeId) : Prop := w.heap[g]? = some (.cells vs t (0, 0))
theorem Blk.lt {w : World} {g : Nat} {vs : Array Value} {t : TypeId} (h : Blk w g vs t) : g < w.heap.size := (Array.getElem?_eq_some_iff.1 h).1
theorem Blk.new (w : World) (vs : Array Value) (t : TypeId) : Blk (w.alloc (.cells vs t)) w.heap.size vs t := by
  show (w.heap.push (.cells vs t (0, 0)))[w.heap.size]? = _
  simp
theorem Blk.below {w w' : World} {g : Nat} {vs : Array Value} {t : TypeId} (h : Blk w g vs t) (hb : Below w.heap.size w w') : Blk w' g vs t := (hb.block g h.lt).trans h
theorem Blk.alloc {w : World} {g : Nat} {vs : Array Value} {t : TypeId} (h : Blk w g vs t) (o : Obj) : Blk (w.alloc o) g vs t := (Below.heap_alloc w o g h.lt).trans h
theorem Blk.drew {w : World} {g : Nat} {vs : Array Value} {t : TypeId} (h : Blk w g vs t) : Blk w.drew g vs t := h
theorem Blk.cell {w : World} {g : Nat} {vs : Array Value} {t : TypeId} (h : Blk w g vs t) (i : Nat) : w.cell? ⟨g, i, none⟩ = vs[i]? := Joins.cell_of_block h i
theorem Blk.free {w : World} {g : Nat} {vs : Array Value} {t : TypeId} (h : Blk w g vs t) (i : Nat) : w.frozen? ⟨g, i, none⟩ = false := Joins.unfrozen_of_block h i
theorem Blk.four {w : World} {g : Nat} {v0 v1 v2 v3 : Value} {t : TypeId} (h : Blk w g #[v0, v1, v2, v3] t) :
    w.cell? ⟨g, 0, none⟩ = some v0 ∧ w.cell? ⟨g, 1, none⟩ = some v1 ∧ w.cell? ⟨g, 2, none⟩ = some v2 ∧ w.cell? ⟨g, 3, none⟩ = some v3 ∧ (∀ i, w.frozen? ⟨g, i, none⟩ = false) ∧ g < w.heap.size :=
  ⟨by simpa using h.cell 0, by simpa using h.cell 1, by simpa using h.cell 2, by simpa using h.cell 3, fun i => h.free i, h.lt⟩
theorem Blk.one {w : World} {g : Nat} {v0 : Value} {t : TypeId} (h : Blk w g #[v0] t) : w.cell? ⟨g, 0, none⟩ = some v0 ∧ (∀ i, w.frozen? ⟨g, i, none⟩ = false) ∧ g < w.heap.size :=
  ⟨by simpa using h.cell 0, fun i => h.free i, h.lt⟩
theorem Blk.low {w w' : World} {g base : Nat} {vs : Array Value} {t : TypeId} (h : Blk w g vs t) (hb : Below base w w') (hg : g < base) : Blk w' g vs t := (hb.block g hg).trans h
theorem grown_refl (w : World) (r : Option Nat) : w.grownBy w r := ⟨rfl, rfl, rfl, Nat.le_refl _, fun _ _ _ => rfl⟩
theorem grown_set {w w1 : World} {g o : Nat} {v : Value} (h : w.grownBy w1 (some g)) : w.grownBy (w1.setCell ⟨g, o, none⟩ v) (some g) := by
  have hb := Below.setCell (Below.refl g w1) (p := ⟨g, o, none⟩) (Nat.le_refl _) v
  refine ⟨hb.os.trans h.os, hb.tape.trans h.tape, hb.output.trans h.output, Nat.le_trans h.size hb.size, fun i hi hr => ?_⟩
  rw [Below.heap_setCell w1 ⟨g, o, none⟩ v i (fun e => hr (by rw [e]))]
  exact h.block i hi hr
theorem below_drewN {B : Nat} {w w1 : World} (h : Below B w w1) (n : Nat) : Below B w (w1.drewN n) := by
  induction n with
  | zero => exact h
  | succ n ih => exact ih.drew
theorem grown_of_below {w w' : World} (h : Below w.heap.size w w') (r : Option Nat) : w.grownBy w' r := ⟨h.os, h.tape, h.output, h.size, fun i hi _ => h.block i hi⟩
theorem Blk.set {w : World} {g i : Nat} {vs : Array Value} {t : TypeId} (h : Blk w g vs t) (v : Value) : Blk (w.setCell ⟨g, i, none⟩ v) g (vs.setIfInBounds i v) t := Joins.block_setCell h v
theorem Blk.other {w : World} {g g' o : Nat} {vs : Array Value} {t : TypeId} {v : Value} (h : Blk w g' vs t) (hne : g' ≠ g) : Blk (w.setCell ⟨g, o, none⟩ v) g' vs t :=
  (Below.heap_setCell w ⟨g, o, none⟩ v g' hne).trans h
theorem Blk.drewN {w : World} {g : Nat} {vs : Array Value} {t : TypeId} (h : Blk w g vs t) (n : Nat) : Blk (w.drewN n) g vs t := by
  induction n with
  | zero => exact h
  | succ n ih => exact ih
theorem Blk.grown {w w' : World} {g g' : Nat} {vs : Array Value} {t : TypeId} (h : Blk w g' vs t) (hg : w.grownBy w' (some g)) (hne : g' ≠ g) : Blk w' g' vs t :=
  (hg.block g' h.lt (fun e => hne (by cases e; rfl))).trans h
theorem Blk.two {w : World} {g : Nat} {v0 v1 : Value} {t : TypeId} (h : Blk w g #[v0, v1] t) :
    w.cell? ⟨g, 0, none⟩ = some v0 ∧ w.cell? ⟨g, 1, none⟩ = some v1 ∧ (∀ i, w.frozen? ⟨g, i, none⟩ = false) ∧ g < w.heap.size :=
  ⟨by simpa using h.cell 0, by simpa using h.cell 1, fun i => h.free i, h.lt⟩
def ints (xs : List Int) : List Value := xs.map (Value.int .i64)
theorem ints_length (xs : List Int) : (ints xs).length = xs.length := by simp [ints]
theorem ints_set (xs : List Int) (i : Nat) (v : Int) : ints (xs.set i v) = (ints xs).set i (.int .i64 v) := by simp [ints, List.map_set]
def IRow (w : World) (a : Option Addr) (xs : List Int) : Prop :=
  ∀ i, i < xs.length → ∃ b o, a = some ⟨b, o, none⟩ ∧ w.cell? ⟨b, o + i, none⟩ = some (.int .i64 (xs.getD i 0))
theorem IRow.below {w w' : World} {a : Option Addr} {xs : List Int} (h : IRow w a xs) (hb : Below w.heap.size w w') : IRow w' a xs := fun i hi => by
  obtain ⟨b, o, e, hc⟩ := h i hi
  exact ⟨b, o, e, by rw [hb.cell (p := ⟨b, o + i, none⟩) (World.block_lt_of_cell? w _ hc)]; exact hc⟩
theorem IRow.drew {w : World} {a : Option Addr} {xs : List Int} (h : IRow w a xs) : IRow w.drew a xs := h
theorem IRow.alloc {w : World} {a : Option Addr} {xs : List Int} (h : IRow w a xs) (o : Obj) : IRow (w.alloc o) a xs := h.below ((Below.refl _ _).alloc (Nat.le_refl _) o)
theorem IRow.nil (w : World) (a : Option Addr) : IRow w a [] := fun i hi => by simp at hi
def Row (w : World) (g : Nat) (xs : List Int) : Prop := ∃ cur : Array Value, Blk w g cur 2 ∧ xs.length ≤ cur.size ∧ cur.toList.take xs.length = ints xs
theorem Row.lt {w : World} {g : Nat} {xs : List Int} (h : Row w g xs) : g < w.heap.size := by obtain ⟨c, hB, _⟩ := h; exact hB.lt
theorem Row.below {w w' : World} {g : Nat} {xs : List Int} (h : Row w g xs) (hb : Below w.heap.size w w') : Row w' g xs := by
  obtain ⟨c, hB, h1, h2⟩ := h; exact ⟨c, hB.below hb, h1, h2⟩
theorem Row.alloc {w : World} {g : Nat} {xs : List Int} (h : Row w g xs) (o : Obj) : Row (w.alloc o) g xs := by
  obtain ⟨c, hB, h1, h2⟩ := h; exact ⟨c, hB.alloc o, h1, h2⟩
theorem Row.drew {w : World} {g : Nat} {xs : List Int} (h : Row w g xs) : Row w.drew g xs := h
theorem Row.drewN {w : World} {g : Nat} {xs : List Int} (h : Row w g xs) (n : Nat) : Row (w.drewN n) g xs := by
  obtain ⟨c, hB, h1, h2⟩ := h; exact ⟨c, hB.drewN n, h1, h2⟩
theorem Row.grown {w w' : World} {g g' : Nat} {xs : List Int} (h : Row w g' xs) (hg : w.grownBy w' (some g)) (hne : g' ≠ g) : Row w' g' xs := by
  obtain ⟨c, hB, h1, h2⟩ := h; exact ⟨c, hB.grown hg hne, h1, h2⟩
theorem Row.other {w : World} {g g' o : Nat} {xs : List Int} {v : Value} (h : Row w g' xs) (hne : g' ≠ g) : Row (w.setCell ⟨g, o, none⟩ v) g' xs := by
  obtain ⟨c, hB, h1, h2⟩ := h
  exact ⟨c, (Below.heap_setCell w ⟨g, o, none⟩ v g' hne).trans hB, h1, h2⟩
theorem Row.cell {w : World} {g : Nat} {xs : List Int} (h : Row w g xs) (i : Nat) (hi : i < xs.length) : w.cell? ⟨g, i, none⟩ = some (.int .i64 (xs.getD i 0)) := by
  obtain ⟨c, hB, h1, h2⟩ := h
  rw [hB.cell i]
  have : (cur_take : List Value) → True := fun _ => trivial
  have h3 : (c.toList.take xs.length)[i]? = c[i]? := by rw [List.getElem?_take_of_lt hi]; simp
  rw [← h3, h2]
  simp [ints, hi]
theorem Row.free {w : World} {g : Nat} {xs : List Int} (h : Row w g xs) (i : Nat) : w.frozen? ⟨g, i, none⟩ = false := by
  obtain ⟨c, hB, _, _⟩ := h; exact hB.free i
theorem Row.irow {w : World} {g : Nat} {xs : List Int} (h : Row w g xs) : IRow w (some ⟨g, 0, none⟩) xs := fun i hi => ⟨g, 0, rfl, by rw [Nat.zero_add]; exact h.cell i hi⟩
theorem Row.set {w : World} {g : Nat} {xs : List Int} (h : Row w g xs) (i : Nat) (v : Int) : Row (w.setCell ⟨g, i, none⟩ (.int .i64 v)) g (xs.set i v) := by
  obtain ⟨c, hB, h1, h2⟩ := h
  refine ⟨_, hB.set (i := i) (.int .i64 v), by simpa using h1, ?_⟩
  rw [List.length_set, ints_set, ← h2, Array.toList_setIfInBounds, List.take_set]
theorem Row.new (w : World) (xs : List Int) : Row (w.alloc (.cells (ints xs).toArray 2)) w.heap.size xs :=
  ⟨_, Blk.new w _ _, by simp [ints_length], by simp [List.take_of_length_le, ints_length]⟩
theorem Row.wf {w : World} {g : Nat} {xs ys : List Int} (h : Row w g xs) (e : xs = ys) : Row w g ys := e ▸ h
theorem infoI64 : (Try.prog.info? 2).map (fun i => (i.zero, i.size, i.bytes)) = some (some (.int .i64 0), 1, 8) := by kernel_rfl
theorem made_row (w : World) (n : Nat) : Row (w.alloc (.cells (madeCells #[.int .i64 0] n) 2)) w.heap.size (List.replicate n 0) :=
  ⟨_, Blk.new w _ _, by
    have := congrArg List.length (toList_madeCells_one (.int .i64 0) n)
    simp at this ⊢
    omega, by
    rw [toList_madeCells_one]
    simp [ints]⟩
theorem szInt64S_any (a : Option Addr) (n cap : Nat) (left : Int) (w : World) (h0 : 0 ≤ left) (h1 : left ≤ 1000000000) (hn : n ≤ 9223372036854775807) :
    Calls Try.prog 17 #[.slice a n cap, .int .i64 left] w fun e w' => e = .returned (.int .i64 (if left - n < 0 then -1 else left - n)) ∧ w = w' := by
  by_cases h : left - n < 0
  · rw [if_pos h]
    go_enter Try.func17, Try.ntmps17
    go_wp2
    go_ret
    exact ⟨rfl, rfl⟩
  · rw [if_neg h]
    go_enter Try.func17, Try.ntmps17
    go_wp2
    go_ret
    exact ⟨rfl, rfl⟩
def Copied (xs : List Int) (w : World) (e : Ending) (w' : World) : Prop :=
  ∃ g, e = .returned (.slice (some ⟨g, 0, none⟩) xs.length xs.length) ∧ w.heap.size ≤ g ∧ Row w' g xs ∧ Below w.heap.size w w'
def copyAt (xs : List Int) (w : World) (m : Nat) (i : Value) (wr : World) : Prop :=
  ∃ k : Nat, k ≤ xs.length ∧ m = xs.length - k ∧ i = .int .i64 k ∧ Row wr w.heap.size (xs.take k ++ List.replicate (xs.length - k) 0) ∧ Below w.heap.size w wr
theorem copy_step (xs : List Int) (k : Nat) (h : k < xs.length) : (xs.take k ++ List.replicate (xs.length - k) 0).set k (xs.getD k 0) = xs.take (k + 1) ++ List.replicate (xs.length - (k + 1)) 0 := by
  apply List.ext_getElem?
  intro i
  have hk : (xs.take k).length = k := by simp; omega
  rcases Nat.lt_trichotomy i k with hi | hi | hi
  · rw [List.getElem?_set_ne (by omega), List.getElem?_append_left (by omega), List.getElem?_append_left (by simp; omega), List.getElem?_take_of_lt hi, List.getElem?_take_of_lt (by omega)]
  · subst hi
    rw [List.getElem?_set_self (by simp; omega), List.getElem?_append_left (by simp; omega), List.getElem?_take_of_lt (by omega)]
    simp [h]
  · rw [List.getElem?_set_ne (by omega), List.getElem?_append_right (by omega), List.getElem?_append_right (by simp; omega), List.getElem?_replicate, List.getElem?_replicate]
    simp only [List.length_take]
    have e1 : min k xs.length = k := by omega
    have e2 : min (k + 1) xs.length = k + 1 := by omega
    rw [e1, e2]
    by_cases h2 : i < xs.length
    · rw [if_pos (by omega), if_pos (by omega)]
    · rw [if_neg (by omega), if_neg (by omega)]
set_option maxHeartbeats 1000000 in
theorem toInt64S_any (a : Option Addr) (n cap : Nat) (xs : List Int) (w : World) (hn : xs.length = n) (hle : n ≤ 1048576) (hr : IRow w a xs) :
    Calls Try.prog 23 #[.slice a n cap] w (Copied xs w) := by
  obtain ⟨i0, hi, hz0, hz1, hz2⟩ := info_parts infoI64
  subst hn
  go_enter Try.func23, Try.ntmps23
  go_wp2_with (at_make; refine wpList_make_row _ rfl _ _ 24 rfl 2 i0 (.int .i64 0) Try.underlying24 hi hz0 hz1 rfl .i64 .i64 xs.length rfl rfl (by rw [hz2]; omega) (by omega) ?_)
  go_loopg [4] xs.length (fun m i wr => copyAt xs w m i wr)
  case atStart => exact ⟨0, by omega, by omega, rfl, by simpa using made_row w xs.length, (Below.refl _ _).alloc (Nat.le_refl _) _⟩
  case round =>
    obtain ⟨k, hk, hm, rfl, hR, hb⟩ := hrel
    by_cases hlt : k < xs.length
    · have hlt' : (k : Int) < (xs.length : Int) := by omega
      obtain ⟨b, o, rfl, hc⟩ := hr.below hb k hlt
      have f0 := hR.free k
      have c0 := hR.cell k (by simp; omega)
      go_wp2
      go_roundg (xs.length - (k + 1))
      case measure => omega
      case rel =>
        have hR2 := (hR.set k (xs.getD k 0)).wf (copy_step xs k hlt)
        rw [show xs.getD k 0 = xs[k] by simp [hlt]] at hR2
        exact ⟨k + 1, by omega, rfl, by go_num, hR2, hb.setCell (Nat.le_refl _) _⟩
    · obtain rfl : k = xs.length := by omega
      go_wp2
      go_ret
      exact ⟨w.heap.size, rfl, Nat.le_refl _, hR.wf (by simp), hb⟩
set_option maxHeartbeats 1000000 in
theorem eqInt64S_same (a b : Option Addr) (n c1 c2 : Nat) (xs : List Int) (w : World) (hn : xs.length = n) (hle : n ≤ 1048576) (ha : IRow w a xs) (hb : IRow w b xs) :
    Calls Try.prog 30 #[.slice a n c1, .slice b n c2] w fun e w' => e = .returned (.bool true) ∧ Below w.heap.size w w' := by
  subst hn
  go_enter Try.func30, Try.ntmps30
  go_wp2
  go_loopg [5] xs.length (fun m i wr => ∃ k : Nat, k ≤ xs.length ∧ m = xs.length - k ∧ i = .int .i64 k ∧ Below w.heap.size w wr)
  case atStart => exact ⟨0, by omega, by omega, rfl, Below.refl _ _⟩
  case round =>
    obtain ⟨k, hk, hm, rfl, hbel⟩ := hrel
    by_cases hlt : k < xs.length
    · have hlt' : (k : Int) < (xs.length : Int) := by omega
      have hk0 : (0 : Int) ≤ (k : Int) := by omega
      obtain ⟨b1, o1, rfl, hc1⟩ := ha.below hbel k hlt
      obtain ⟨b2, o2, rfl, hc2⟩ := hb.below hbel k hlt
      go_wp2_with fail
      go_quiet (fail)
      go_wp2
      go_roundg (xs.length - (k + 1))
      case measure => omega
      case rel => exact ⟨k + 1, by omega, rfl, by go_num, below_drewN hbel _⟩
    · obtain rfl : k = xs.length := by omega
      go_wp2
      go_ret
      exact ⟨rfl, hbel⟩
def marks (k : Int) (n : Nat) : List Int := (List.range n).map fun (i : Nat) => k + (i : Int)
theorem marks_length (k : Int) (n : Nat) : (marks k n).length = n := by simp [marks]
theorem mark_step (k : Int) (xs : List Int) (j : Nat) (h : j < xs.length) : (marks k j ++ xs.drop j).set j (k + j) = marks k (j + 1) ++ xs.drop (j + 1) := by
  apply List.ext_getElem?
  intro i
  have hj := marks_length k j
  have hj1 := marks_length k (j + 1)
  rcases Nat.lt_trichotomy i j with hi | hi | hi
  · rw [List.getElem?_set_ne (by omega), List.getElem?_append_left (by omega), List.getElem?_append_left (by omega)]
    simp [marks, hi, show i < j + 1 by omega]
  · subst hi
    rw [List.getElem?_set_self (by simp [hj]; omega), List.getElem?_append_left (by omega)]
    simp [marks]
  · rw [List.getElem?_set_ne (by omega), List.getElem?_append_right (by omega), List.getElem?_append_right (by omega), hj, hj1, List.getElem?_drop, List.getElem?_drop]
    congr 1
    omega
def markAt (k : Int) (g : Nat) (xs : List Int) (w : World) (m : Nat) (q i : Value) (wr : World) : Prop :=
  ∃ j : Nat, j ≤ xs.length ∧ m = xs.length - j ∧ i = .int .i64 j ∧ q = .int .i64 (k + j) ∧ Row wr g (marks k j ++ xs.drop j) ∧ w.grownBy wr (some g)
set_option maxHeartbeats 1000000 in
theorem markInt64S_any (g : Nat) (n cap : Nat) (xs : List Int) (k : Int) (w : World) (hn : xs.length = n) (hle : n ≤ 1048576) (hk0 : 0 ≤ k) (hk1 : k ≤ 1000000000) (hR : Row w g xs) :
    Calls Try.prog 32 #[.slice (some ⟨g, 0, none⟩) n cap, .int .i64 k] w fun e w' => e = .returned (.int .i64 (k + n)) ∧ Row w' g (marks k n) ∧ w.grownBy w' (some g) := by
  subst hn
  go_enter Try.func32, Try.ntmps32
  go_wp2
  go_loopg [1, 5] xs.length (fun m q i wr => markAt k g xs w m q i wr)
  case atStart => exact ⟨0, by omega, by omega, rfl, by simp, by simpa [marks] using hR, grown_refl _ _⟩
  case round =>
    obtain ⟨j, hj, hm, rfl, rfl, hr, hG⟩ := hrel
    by_cases hlt : j < xs.length
    · have hlt' : (j : Int) < (xs.length : Int) := by omega
      have f0 := hr.free j
      have c0 := hr.cell j (by simp [marks_length]; omega)
      go_wp2
      go_roundg (xs.length - (j + 1))
      case measure => omega
      case rel =>
        have hR2 := (hr.set j (k + j)).wf (mark_step k xs j hlt)
        exact ⟨j + 1, by omega, rfl, by go_num, by go_num, hR2, grown_set hG⟩
    · obtain rfl : j = xs.length := by omega
      go_wp2
      go_ret
      exact ⟨rfl, hr.wf (by simp), hG⟩
set_option maxHeartbeats 1000000 in
theorem heldInt64S_any (a : Option Addr) (n cap : Nat) (k : Int) (w : World) (hle : n ≤ 1048576) (hk0 : 0 ≤ k) (hk1 : k ≤ 1000000000) (hr : IRow w a (marks k n)) :
    Calls Try.prog 33 #[.slice a n cap, .int .i64 k] w fun e w' => e = .returned (.int .i64 (k + n)) ∧ w = w' := by
  go_enter Try.func33, Try.ntmps33
  go_wp2
  go_loopg [1, 5] n (fun m q i wr => w = wr ∧ ∃ j : Nat, j ≤ n ∧ m = n - j ∧ i = .int .i64 j ∧ q = .int .i64 (k + j))
  case atStart => exact ⟨rfl, 0, by omega, by omega, rfl, by simp⟩
  case round =>
    obtain ⟨rfl, j, hj, hm, rfl, rfl⟩ := hrel
    by_cases hlt : j < n
    · have hlt' : (j : Int) < (n : Int) := by omega
      obtain ⟨b, o, rfl, hc⟩ := hr j (by rw [marks_length]; exact hlt)
      have hv : (marks k n).getD j 0 = k + j := by simp [marks, hlt]
      rw [hv] at hc
      clear hv hr
      go_wp2
      go_roundg (n - (j + 1))
      case measure => omega
      case rel => exact ⟨rfl, j + 1, by omega, rfl, by go_num, by go_num⟩
    · obtain rfl : j = n := by omega
      go_wp2
      go_ret
      exact ⟨rfl, rfl⟩
theorem irow_set {w : World} {a : Option Addr} {xs : List Int} {g o : Nat} {v : Value} (h : IRow w a xs) (hne : ∀ b o, a = some ⟨b, o, none⟩ → 0 < xs.length → b ≠ g) : IRow (w.setCell ⟨g, o, none⟩ v) a xs := fun i hi => by
  obtain ⟨b, o', e, hc⟩ := h i hi
  refine ⟨b, o', e, ?_⟩
  rw [World.cell?_of_block (w := w) (Below.heap_setCell w ⟨g, o, none⟩ v b (hne b o' e (by omega)))]
  exact hc
theorem irow_lt {w : World} {a : Option Addr} {xs : List Int} (h : IRow w a xs) : ∀ b o, a = some ⟨b, o, none⟩ → 0 < xs.length → b < w.heap.size := fun b o e hl => by
  obtain ⟨b', o', e', hc⟩ := h 0 hl
  rw [e] at e'
  cases e'
  exact World.block_lt_of_cell? w _ hc
theorem two_new (w : World) (v1 v2 : Array Value) (t1 t2 : TypeId) : Blk ((w.alloc (.cells v1 t1)).alloc (.cells v2 t2)) w.heap.size v1 t1 ∧ Blk ((w.alloc (.cells v1 t1)).alloc (.cells v2 t2)) (w.heap.size + 1) v2 t2 ∧
    Below w.heap.size w ((w.alloc (.cells v1 t1)).alloc (.cells v2 t2)) ∧ ((w.alloc (.cells v1 t1)).alloc (.cells v2 t2)).heap.size = w.heap.size + 1 + 1 := by
  refine ⟨(Blk.new w _ _).alloc _, ?_, ((Below.refl _ _).alloc (Nat.le_refl _) _).alloc (by simp) _, by simp⟩
  have := Blk.new (w.alloc (.cells v1 t1)) v2 t2
  simpa using this
theorem three_new (w : World) (v1 v2 v3 : Array Value) (t1 t2 t3 : TypeId) : Blk (((w.alloc (.cells v1 t1)).alloc (.cells v2 t2)).alloc (.cells v3 t3)) w.heap.size v1 t1 ∧ Blk (((w.alloc (.cells v1 t1)).alloc (.cells v2 t2)).alloc (.cells v3 t3)) (w.heap.size + 1) v2 t2 ∧
    Blk (((w.alloc (.cells v1 t1)).alloc (.cells v2 t2)).alloc (.cells v3 t3)) (w.heap.size + 1 + 1) v3 t3 ∧ Below w.heap.size w (((w.alloc (.cells v1 t1)).alloc (.cells v2 t2)).alloc (.cells v3 t3)) ∧ (((w.alloc (.cells v1 t1)).alloc (.cells v2 t2)).alloc (.cells v3 t3)).heap.size = w.heap.size + 1 + 1 + 1 := by
  obtain ⟨h1, h2, h3, h4⟩ := two_new w v1 v2 t1 t2
  refine ⟨h1.alloc _, h2.alloc _, ?_, h3.alloc h3.size _, by simp⟩
  have := Blk.new ((w.alloc (.cells v1 t1)).alloc (.cells v2 t2)) v3 t3
  rw [h4] at this
  exact this
theorem IRow.wf {w : World} {a : Option Addr} {xs ys : List Int} (h : IRow w a xs) (e : xs = ys) : IRow w a ys := e ▸ h
def szAfter (left : Int) (n1 n2 : Nat) : Int := if left - n1 < 0 then -1 else if left - n1 - n2 < 0 then -1 else left - n1 - n2
set_option maxHeartbeats 1000000 in
theorem szBoard_any (a1 a2 : Option Addr) (n1 n2 c1 c2 : Nat) (left : Int) (w : World) (h0 : 0 ≤ left) (h1 : left ≤ 1000000000) (b1 : n1 ≤ 9223372036854775807) (b2 : n2 ≤ 9223372036854775807) :
    Calls Try.prog 4 #[.agg #[.slice a1 n1 c1, .slice a2 n2 c2], .int .i64 left] w fun e w' => e = .returned (.int .i64 (szAfter left n1 n2)) ∧ Below w.heap.size w w' := by
  by_cases g1 : left - n1 < 0
  · have k1 := fun w => szInt64S_any a1 n1 c1 left w h0 h1 b1
    simp only [if_pos g1] at k1
    have K1 := Lib.hid k1
    clear k1
    have e0 : szAfter left n1 n2 = -1 := by simp [szAfter, g1]
    rw [e0]
    clear e0
    go_enter Try.func4, Try.ntmps4
    go_wp2_with fail
    refine (K1.out _).mono ?_
    rintro e w1 ⟨rfl, rfl⟩
    go_wp2
    go_ret
    exact ⟨rfl, (Below.refl _ _).alloc (Nat.le_refl _) _⟩
  · have k1 := fun w => szInt64S_any a1 n1 c1 left w h0 h1 b1
    simp only [if_neg g1] at k1
    have K1 := Lib.hid k1
    clear k1
    obtain ⟨l2, hl2⟩ : ∃ l2 : Int, left - n1 = l2 := ⟨_, rfl⟩
    have p0 : 0 ≤ l2 := by omega
    have p1 : l2 ≤ 1000000000 := by omega
    by_cases g2 : l2 - n2 < 0
    · have k2 := fun w => szInt64S_any a2 n2 c2 l2 w p0 p1 b2
      simp only [if_pos g2] at k2
      have K2 := Lib.hid k2
      clear k2
      have e0 : szAfter left n1 n2 = -1 := by
        unfold szAfter
        rw [if_neg g1, hl2, if_pos g2]
      rw [e0]
      rw [hl2] at K1
      clear e0 hl2
      go_enter Try.func4, Try.ntmps4
      go_wp2_with fail
      refine (K1.out _).mono ?_
      rintro e w1 ⟨rfl, rfl⟩
      go_wp2_with fail
      refine (K2.out _).mono ?_
      rintro e w1 ⟨rfl, rfl⟩
      go_wp2
      go_ret
      exact ⟨rfl, (Below.refl _ _).alloc (Nat.le_refl _) _⟩
    · have k2 := fun w => szInt64S_any a2 n2 c2 l2 w p0 p1 b2
      simp only [if_neg g2] at k2
      have K2 := Lib.hid k2
      clear k2
      obtain ⟨l3, hl3⟩ : ∃ l3 : Int, l2 - n2 = l3 := ⟨_, rfl⟩
      have e0 : szAfter left n1 n2 = l3 := by
        unfold szAfter
        rw [if_neg g1, hl2, if_neg g2, hl3]
      have p3 : 0 ≤ l3 := by omega
      rw [e0]
      rw [hl2] at K1
      rw [hl3] at K2
      clear e0 hl2 hl3 g1 g2
      go_enter Try.func4, Try.ntmps4
      go_wp2_with fail
      refine (K1.out _).mono ?_
      rintro e w1 ⟨rfl, rfl⟩
      go_wp2_with fail
      refine (K2.out _).mono ?_
      rintro e w1 ⟨rfl, rfl⟩
      go_wp2
      go_ret
      exact ⟨rfl, (Below.refl _ _).alloc (Nat.le_refl _) _⟩
def BoardMade (xs ys : List Int) (w : World) (e : Ending) (w' : World) : Prop :=
  ∃ g1 g2, e = .returned (.agg #[.slice (some ⟨g1, 0, none⟩) xs.length xs.length, .slice (some ⟨g2, 0, none⟩) ys.length ys.length]) ∧ w.heap.size ≤ g1 ∧ g1 < g2 ∧ Row w' g1 xs ∧ Row w' g2 ys ∧ Below w.heap.size w w'
set_option maxHeartbeats 1000000 in
theorem toBoard_any (a1 a2 : Option Addr) (n1 n2 c1 c2 : Nat) (xs ys : List Int) (w : World) (h1 : xs.length = n1) (h2 : ys.length = n2) (l1 : n1 ≤ 1048576) (l2 : n2 ≤ 1048576) (r1 : IRow w a1 xs) (r2 : IRow w a2 ys) :
    Calls Try.prog 8 #[.agg #[.slice a1 n1 c1, .slice a2 n2 c2]] w (BoardMade xs ys w) := by
  subst h1 h2
  go_enter Try.func8, Try.ntmps8
  go_wp2_with fail
  obtain ⟨BA, BR, BV, hb, hz⟩ := three_new w #[.slice a1 xs.length c1, .slice a2 ys.length c2] #[.slice none 0 0, .slice none 0 0] #[.slice none 0 0, .slice none 0 0] 26 32 32
  have hlt2 := irow_lt r2
  replace r1 := r1.below hb
  replace r2 := r2.below hb
  generalize (((w.alloc (.cells #[.slice a1 xs.length c1, .slice a2 ys.length c2] 26)).alloc (.cells #[.slice none 0 0, .slice none 0 0] 32)).alloc (.cells #[.slice none 0 0, .slice none 0 0] 32)) = v0 at *
  refine (toInt64S_any a1 _ c1 xs v0 rfl l1 r1).mono ?_
  rintro e w1 ⟨g1, rfl, hg1, R1, hb1⟩
  replace BA := BA.below hb1
  replace BR := BR.below hb1
  replace BV := BV.below hb1
  replace r2 := r2.below hb1
  have hg1' := R1.lt
  obtain ⟨x0, x1, xf, xl⟩ := BV.two
  obtain ⟨y0, y1, yf, yl⟩ := BA.two
  go_wp2_with fail
  clear x0 x1 xf xl y0 y1 yf yl
  have hbs : Below w.heap.size w (w1.setCell ⟨w.heap.size + 1 + 1, 0, none⟩ (.slice (some ⟨g1, 0, none⟩) xs.length xs.length)) := (hb.trans (hb1.mono (by omega))).setCell (by simp; omega) _
  replace BR : Blk (w1.setCell ⟨w.heap.size + 1 + 1, 0, none⟩ (.slice (some ⟨g1, 0, none⟩) xs.length xs.length)) (w.heap.size + 1) #[.slice none 0 0, .slice none 0 0] 32 := BR.other (by omega)
  replace BV : Blk (w1.setCell ⟨w.heap.size + 1 + 1, 0, none⟩ (.slice (some ⟨g1, 0, none⟩) xs.length xs.length)) (w.heap.size + 1 + 1) #[.slice (some ⟨g1, 0, none⟩) xs.length xs.length, .slice none 0 0] 32 := BV.set _
  replace R1 : Row (w1.setCell ⟨w.heap.size + 1 + 1, 0, none⟩ (.slice (some ⟨g1, 0, none⟩) xs.length xs.length)) g1 xs := R1.other (by omega)
  have hr2 : IRow (w1.setCell ⟨w.heap.size + 1 + 1, 0, none⟩ (.slice (some ⟨g1, 0, none⟩) xs.length xs.length)) a2 ys := irow_set r2 (fun b o e hp => by have := hlt2 b o e hp; omega)
  have hz2 : w.heap.size + 1 + 1 + 1 ≤ (w1.setCell ⟨w.heap.size + 1 + 1, 0, none⟩ (.slice (some ⟨g1, 0, none⟩) xs.length xs.length)).heap.size := by have := hb1.size; simp; omega
  generalize (w1.setCell ⟨w.heap.size + 1 + 1, 0, none⟩ (.slice (some ⟨g1, 0, none⟩) xs.length xs.length)) = w2 at *
  refine (toInt64S_any a2 _ c2 ys w2 rfl l2 hr2).mono ?_
  rintro e w3 ⟨g2, rfl, hg2, R2, hb3⟩
  have hg1'' := R1.lt
  replace BR := BR.below hb3
  replace BV := BV.below hb3
  replace R1 := R1.below hb3
  have hg2' := R2.lt
  obtain ⟨x0, x1, xf, xl⟩ := BV.two
  obtain ⟨y0, y1, yf, yl⟩ := BR.two
  go_wp2_with fail
  refine bodyPost_ret (v := .agg #[.slice (some ⟨g1, 0, none⟩) xs.length xs.length, .slice (some ⟨g2, 0, none⟩) ys.length ys.length]) (by simp [results, Try.results8, go_sem, y0, y1]) rfl ?_
  refine ⟨g1, g2, rfl, by omega, by omega, ((R1.other (by omega)).other (by omega)).other (by omega), ((R2.other (by omega)).other (by omega)).other (by omega), ?_⟩
  exact (((hbs.trans (hb3.mono (by omega))).setCell (by simp; omega) _).setCell (by simp) _).setCell (by simp) _
set_option maxHeartbeats 1000000 in
theorem eqBoard_same (a1 a2 b1 b2 : Option Addr) (n1 n2 c1 c2 d1 d2 : Nat) (xs ys : List Int) (w : World) (h1 : xs.length = n1) (h2 : ys.length = n2) (l1 : n1 ≤ 1048576) (l2 : n2 ≤ 1048576)
    (r1 : IRow w a1 xs) (r2 : IRow w a2 ys) (s1 : IRow w b1 xs) (s2 : IRow w b2 ys) :
    Calls Try.prog 12 #[.agg #[.slice a1 n1 c1, .slice a2 n2 c2], .agg #[.slice b1 n1 d1, .slice b2 n2 d2]] w fun e w' => e = .returned (.bool true) ∧ Below w.heap.size w w' := by
  obtain ⟨BA, BR, hb, hz⟩ := two_new w #[.slice a1 n1 c1, .slice a2 n2 c2] #[.slice b1 n1 d1, .slice b2 n2 d2] 32 32
  replace r1 := r1.below hb
  replace r2 := r2.below hb
  replace s1 := s1.below hb
  replace s2 := s2.below hb
  have HZ := Lib.hid hz
  clear hz
  go_enter Try.func12, Try.ntmps12
  go_wp2_with fail
  generalize ((w.alloc (.cells #[.slice a1 n1 c1, .slice a2 n2 c2] 32)).alloc (.cells #[.slice b1 n1 d1, .slice b2 n2 d2] 32)) = v0 at *
  refine (eqInt64S_same a1 b1 n1 c1 d1 xs v0 h1 l1 r1 s1).mono ?_
  rintro e w1 ⟨rfl, hb1⟩
  replace BA := BA.below hb1
  replace BR := BR.below hb1
  have hz1 := HZ.out
  obtain ⟨x0, x1, xf, xl⟩ := BA.two
  obtain ⟨y0, y1, yf, yl⟩ := BR.two
  clear hz1
  go_wp2_with fail
  refine (eqInt64S_same a2 b2 n2 c2 d2 ys w1 h2 l2 (r2.below hb1) (s2.below hb1)).mono ?_
  rintro e w2 ⟨rfl, hb2⟩
  go_wp2_with fail
  go_ret
  have hz1 := HZ.out
  exact ⟨rfl, (hb.trans (hb1.mono (by omega))).trans (hb2.mono (by have := hb1.size; omega))⟩
def Marked (g1 g2 n1 n2 : Nat) (k : Int) (w : World) (e : Ending) (w' : World) : Prop :=
  e = .returned (.int .i64 (k + n1 + n2)) ∧ Row w' g1 (marks k n1) ∧ Row w' g2 (marks (k + n1) n2) ∧ w.heap.size ≤ w'.heap.size ∧ (∀ i, i < w.heap.size → i ≠ g1 → i ≠ g2 → w'.heap[i]? = w.heap[i]?) ∧ w'.os = w.os ∧ w'.tape = w.tape ∧ w'.output = w.output
set_option maxHeartbeats 1000000 in
theorem markBoard_any (g1 g2 n1 n2 c1 c2 : Nat) (xs ys : List Int) (k : Int) (w : World) (h1 : xs.length = n1) (h2 : ys.length = n2) (l1 : n1 ≤ 1048576) (l2 : n2 ≤ 1048576) (k0 : 0 ≤ k) (k1 : k ≤ 100000000) (hne : g1 ≠ g2) (r1 : Row w g1 xs) (r2 : Row w g2 ys) :
    Calls Try.prog 14 #[.agg #[.slice (some ⟨g1, 0, none⟩) n1 c1, .slice (some ⟨g2, 0, none⟩) n2 c2], .int .i64 k] w (Marked g1 g2 n1 n2 k w) := by
  have B0 := Blk.new w #[.slice (some ⟨g1, 0, none⟩) n1 c1, .slice (some ⟨g2, 0, none⟩) n2 c2] 32
  have hb : Below w.heap.size w (w.alloc (.cells #[.slice (some ⟨g1, 0, none⟩) n1 c1, .slice (some ⟨g2, 0, none⟩) n2 c2] 32)) := (Below.refl _ _).alloc (Nat.le_refl _) _
  have hl1 := r1.lt
  have hl2 := r2.lt
  replace r1 := r1.below hb
  replace r2 := r2.below hb
  go_enter Try.func14, Try.ntmps14
  go_wp2_with fail
  generalize (w.alloc (.cells #[.slice (some ⟨g1, 0, none⟩) n1 c1, .slice (some ⟨g2, 0, none⟩) n2 c2] 32)) = v0 at *
  refine (markInt64S_any g1 n1 c1 xs k v0 h1 l1 k0 (by omega) r1).mono ?_
  rintro e w1 ⟨rfl, R1, hG1⟩
  replace B0 := B0.grown hG1 (by omega)
  replace r2 := r2.grown hG1 (fun e => hne e.symm)
  obtain ⟨x0, x1, xf, xl⟩ := B0.two
  go_wp2_with fail
  refine (markInt64S_any g2 n2 c2 ys (k + n1) w1 h2 l2 (by omega) (by omega) r2).mono ?_
  rintro e w2 ⟨rfl, R2, hG2⟩
  go_wp2_with fail
  go_ret
  exact ⟨rfl, R1.grown hG2 hne, R2, Nat.le_trans hb.size (Nat.le_trans hG1.size hG2.size), fun i hi n1 n2 => ((hG2.block i (Nat.lt_of_lt_of_le hi (Nat.le_trans hb.size hG1.size)) (fun e => n2 (by cases e; rfl))).trans (hG1.block i (Nat.lt_of_lt_of_le hi hb.size) (fun e => n1 (by cases e; rfl)))).trans (hb.block i hi),
    (hG2.os.trans hG1.os).trans hb.os, (hG2.tape.trans hG1.tape).trans hb.tape, (hG2.output.trans hG1.output).trans hb.output⟩
set_option maxHeartbeats 1000000 in
theorem heldBoard_any (a1 a2 : Option Addr) (n1 n2 c1 c2 : Nat) (k : Int) (w : World) (l1 : n1 ≤ 1048576) (l2 : n2 ≤ 1048576) (k0 : 0 ≤ k) (k1 : k ≤ 100000000) (r1 : IRow w a1 (marks k n1)) (r2 : IRow w a2 (marks (k + n1) n2)) :
    Calls Try.prog 16 #[.agg #[.slice a1 n1 c1, .slice a2 n2 c2], .int .i64 k] w fun e w' => e = .returned (.int .i64 (k + n1 + n2)) ∧ Below w.heap.size w w' := by
  have hb : Below w.heap.size w (w.alloc (.cells #[.slice a1 n1 c1, .slice a2 n2 c2] 32)) := (Below.refl _ _).alloc (Nat.le_refl _) _
  replace r1 := r1.below hb
  replace r2 := r2.below hb
  have q0 : 0 ≤ k + (n1 : Int) := by omega
  have q1 : 0 ≤ k + (n1 : Int) + (n2 : Int) := by omega
  have q2 : k + (n1 : Int) ≤ 1000000000 := by omega
  have hk1 := fun w r => heldInt64S_any a1 n1 c1 k w l1 k0 (by omega) r
  have hk2 := fun w r => heldInt64S_any a2 n2 c2 (k + n1) w l2 q0 (by omega) r
  have K1 := Lib.hid hk1
  have K2 := Lib.hid hk2
  clear hk1 hk2
  go_enter Try.func16, Try.ntmps16
  go_wp2_with fail
  refine (K1.out _ r1).mono ?_
  rintro e w1 ⟨rfl, rfl⟩
  go_wp2_with fail
  refine (K2.out _ r2).mono ?_
  rintro e w2 ⟨rfl, rfl⟩
  go_wp2_with fail
  go_ret
  exact ⟨rfl, hb⟩
def OBd (lo hi : Nat) (w : World) (a1 a2 : Option Addr) (xs ys : List Int) : Prop :=
  (a1 = none ∧ a2 = none ∧ xs = [] ∧ ys = []) ∨
  ∃ g1 g2, a1 = some ⟨g1, 0, none⟩ ∧ a2 = some ⟨g2, 0, none⟩ ∧ g1 ≠ g2 ∧ lo ≤ g1 ∧ g1 < hi ∧ lo ≤ g2 ∧ g2 < hi ∧ Row w g1 xs ∧ Row w g2 ys
structure Same (lo hi : Nat) (w w' : World) : Prop where
  os : w'.os = w.os
  tape : w'.tape = w.tape
  output : w'.output = w.output
  size : w.heap.size ≤ w'.heap.size
  block : ∀ i, i < w.heap.size → (i < lo ∨ hi ≤ i) → w'.heap[i]? = w.heap[i]?
theorem Blk.same {lo hi g : Nat} {w w' : World} {vs : Array Value} {t : TypeId} (h : Blk w g vs t) (hs : Same lo hi w w') (hg : g < lo ∨ hi ≤ g) : Blk w' g vs t := (hs.block g h.lt hg).trans h
theorem Row.same {lo hi g : Nat} {w w' : World} {xs : List Int} (h : Row w g xs) (hs : Same lo hi w w') (hg : g < lo ∨ hi ≤ g) : Row w' g xs := by
  obtain ⟨cur, hB, h1, h2⟩ := h
  exact ⟨cur, hB.same hs hg, h1, h2⟩
theorem below_same {lo hi B : Nat} {w0 w w' : World} (h : Below B w0 w) (hs : Same lo hi w w') (hB : B ≤ lo) (hw : B ≤ w.heap.size) : Below B w0 w' :=
  ⟨hs.os.trans h.os, hs.tape.trans h.tape, hs.output.trans h.output, Nat.le_trans h.size hs.size, fun k hk => (hs.block k (by omega) (.inl (by omega))).trans (h.block k hk)⟩
theorem OBd.below {lo hi : Nat} {w w' : World} {a1 a2 : Option Addr} {xs ys : List Int} (h : OBd lo hi w a1 a2 xs ys) (hb : Below w.heap.size w w') : OBd lo hi w' a1 a2 xs ys := by
  rcases h with h | ⟨g1, g2, e1, e2, hne, b1, b2, b3, b4, r1, r2⟩
  · exact .inl h
  · exact .inr ⟨g1, g2, e1, e2, hne, b1, b2, b3, b4, r1.below hb, r2.below hb⟩
theorem OBd.same {lo hi lo2 hi2 : Nat} {w w' : World} {a1 a2 : Option Addr} {xs ys : List Int} (h : OBd lo2 hi2 w a1 a2 xs ys) (hs : Same lo hi w w') (hd : hi2 ≤ lo ∨ hi ≤ lo2) : OBd lo2 hi2 w' a1 a2 xs ys := by
  rcases h with h | ⟨g1, g2, e1, e2, hne, b1, b2, b3, b4, r1, r2⟩
  · exact .inl h
  · exact .inr ⟨g1, g2, e1, e2, hne, b1, b2, b3, b4, r1.same hs (by omega), r2.same hs (by omega)⟩
theorem OBd.irow1 {lo hi : Nat} {w : World} {a1 a2 : Option Addr} {xs ys : List Int} (h : OBd lo hi w a1 a2 xs ys) : IRow w a1 xs := by
  rcases h with ⟨_, _, rfl, _⟩ | ⟨g1, g2, rfl, _, _, _, _, _, _, r1, _⟩
  · exact IRow.nil _ _
  · exact r1.irow
theorem OBd.irow2 {lo hi : Nat} {w : World} {a1 a2 : Option Addr} {xs ys : List Int} (h : OBd lo hi w a1 a2 xs ys) : IRow w a2 ys := by
  rcases h with ⟨_, _, _, rfl⟩ | ⟨g1, g2, _, rfl, _, _, _, _, _, _, r2⟩
  · exact IRow.nil _ _
  · exact r2.irow
def BoardGot (xs ys : List Int) (w : World) (e : Ending) (w' : World) : Prop :=
  ∃ a1 a2 k1 k2, e = .returned (.agg #[.slice a1 xs.length k1, .slice a2 ys.length k2]) ∧ OBd w.heap.size w'.heap.size w' a1 a2 xs ys ∧ Below w.heap.size w w'
theorem markInt64S_nil (cap : Nat) (k : Int) (w : World) :
    Calls Try.prog 32 #[.slice none 0 cap, .int .i64 k] w fun e w' => e = .returned (.int .i64 k) ∧ w = w' := by
  go_enter Try.func32, Try.ntmps32
  go_wp2
  refine wp_loop_rounds 1 ?_
  rw [rounds_succ]
  go_wp2
  go_ret
  exact ⟨rfl, rfl⟩
set_option maxHeartbeats 1000000 in
theorem markBoard_nil (c1 c2 : Nat) (k : Int) (w : World) :
    Calls Try.prog 14 #[.agg #[.slice none 0 c1, .slice none 0 c2], .int .i64 k] w fun e w' => e = .returned (.int .i64 k) ∧ Below w.heap.size w w' := by
  have hb : Below w.heap.size w (w.alloc (.cells #[.slice none 0 c1, .slice none 0 c2] 32)) := (Below.refl _ _).alloc (Nat.le_refl _) _
  go_enter Try.func14, Try.ntmps14
  go_wp2_with (go_at_call 32; refine (markInt64S_nil _ k _).mono ?_; rintro e w1 ⟨rfl, rfl⟩)
  go_ret
  exact ⟨rfl, hb⟩
theorem markBoard_own (lo hi : Nat) (a1 a2 : Option Addr) (n1 n2 c1 c2 : Nat) (xs ys : List Int) (k : Int) (w : World) (h1 : xs.length = n1) (h2 : ys.length = n2) (l1 : n1 ≤ 1048576) (l2 : n2 ≤ 1048576) (k0 : 0 ≤ k) (k1 : k ≤ 100000000)
    (h : OBd lo hi w a1 a2 xs ys) :
    Calls Try.prog 14 #[.agg #[.slice a1 n1 c1, .slice a2 n2 c2], .int .i64 k] w fun e w' => e = .returned (.int .i64 (k + n1 + n2)) ∧ OBd lo hi w' a1 a2 (marks k n1) (marks (k + n1) n2) ∧ Same lo hi w w' := by
  rcases h with ⟨rfl, rfl, rfl, rfl⟩ | ⟨g1, g2, rfl, rfl, hne, b1, b2, b3, b4, r1, r2⟩
  · obtain rfl : 0 = n1 := h1
    obtain rfl : 0 = n2 := h2
    refine (markBoard_nil c1 c2 k w).mono ?_
    rintro e w' ⟨rfl, hb⟩
    exact ⟨by simp, .inl ⟨rfl, rfl, rfl, rfl⟩, hb.os, hb.tape, hb.output, hb.size, fun i hi _ => hb.block i hi⟩
  · refine (markBoard_any g1 g2 n1 n2 c1 c2 xs ys k w h1 h2 l1 l2 k0 k1 hne r1 r2).mono ?_
    rintro e w' ⟨rfl, q1, q2, hsz, hbl, hos, htp, hou⟩
    exact ⟨rfl, .inr ⟨g1, g2, rfl, rfl, hne, b1, b2, b3, b4, q1, q2⟩, hos, htp, hou, hsz, fun i hi ho => hbl i hi (by omega) (by omega)⟩
def OSl (lo hi : Nat) (w : World) (a : Option Addr) (xs : List Int) : Prop :=
  (a = none ∧ xs = []) ∨ ∃ g, a = some ⟨g, 0, none⟩ ∧ lo ≤ g ∧ g < hi ∧ Row w g xs
theorem OSl.irow {lo hi : Nat} {w : World} {a : Option Addr} {xs : List Int} (h : OSl lo hi w a xs) : IRow w a xs := by
  rcases h with ⟨rfl, rfl⟩ | ⟨g, rfl, _, _, r⟩
  · exact IRow.nil _ _
  · exact r.irow
theorem OSl.below {lo hi : Nat} {w w' : World} {a : Option Addr} {xs : List Int} (h : OSl lo hi w a xs) (hb : Below w.heap.size w w') : OSl lo hi w' a xs := by
  rcases h with h | ⟨g, e, h1, h2, r⟩
  · exact .inl h
  · exact .inr ⟨g, e, h1, h2, r.below hb⟩
theorem OSl.drew {lo hi : Nat} {w : World} {a : Option Addr} {xs : List Int} (h : OSl lo hi w a xs) : OSl lo hi w.drew a xs := h
theorem OSl.alloc {lo hi : Nat} {w : World} {a : Option Addr} {xs : List Int} (h : OSl lo hi w a xs) (o : Obj) : OSl lo hi (w.alloc o) a xs := h.below ((Below.refl _ _).alloc (Nat.le_refl _) o)
theorem OBd.drew {lo hi : Nat} {w : World} {a1 a2 : Option Addr} {xs ys : List Int} (h : OBd lo hi w a1 a2 xs ys) : OBd lo hi w.drew a1 a2 xs ys := h
theorem OSl.mono {lo hi lo' hi' : Nat} {w : World} {a : Option Addr} {xs : List Int} (h : OSl lo hi w a xs) (h1 : lo' ≤ lo) (h2 : hi ≤ hi') : OSl lo' hi' w a xs := by
  rcases h with h | ⟨g, e, q1, q2, r⟩
  · exact .inl h
  · exact .inr ⟨g, e, by omega, by omega, r⟩
theorem OSl.same {lo hi lo2 hi2 : Nat} {w w' : World} {a : Option Addr} {xs : List Int} (h : OSl lo2 hi2 w a xs) (hs : Same lo hi w w') (hd : hi2 ≤ lo ∨ hi ≤ lo2) : OSl lo2 hi2 w' a xs := by
  rcases h with h | ⟨g, e, q1, q2, r⟩
  · exact .inl h
  · exact .inr ⟨g, e, q1, q2, r.same hs (by omega)⟩
def Own (w : World) (base : Nat) (v : Value) (xs : List Int) : Prop := w.ownsRow base 2 1 v xs.length (ints xs)
theorem Own.form {w : World} {base : Nat} {v : Value} {xs : List Int} (h : Own w base v xs) : ∃ a k, v = .slice a xs.length k := by
  rcases h.2 with ⟨h1, h2⟩ | ⟨g, cap, cur, h1, _⟩
  · exact ⟨none, 0, by rw [h1, h2]⟩
  · exact ⟨some ⟨g, 0, none⟩, cap, h1⟩
theorem Own.alloc {w : World} {base : Nat} {v : Value} {xs : List Int} (h : Own w base v xs) (o : Obj) : Own (w.alloc o) base v xs := World.ownsRow.alloc h o
theorem Own.drew {w : World} {base : Nat} {v : Value} {xs : List Int} (h : Own w base v xs) : Own w.drew base v xs := h
theorem Own.kept {w w' : World} {base : Nat} {v : Value} {xs : List Int} (h : Own w base v xs) (hb : Below w.heap.size w w') : Own w' base v xs :=
  World.ownsRow.kept (row := none) h ⟨hb.os, hb.tape, hb.output, hb.size, fun k hk _ => hb.block k hk⟩ (by
    cases hv : v.ownBlock with
    | none => exact .inl rfl
    | some g => exact .inr (by simp))
theorem Own.start (w : World) : Own (w.alloc (.cells #[] 2)) w.heap.size (.slice (some ⟨w.heap.size, 0, none⟩) 0 0) [] :=
  ⟨rfl, .inr ⟨w.heap.size, 0, #[], rfl, Nat.le_refl _, Blk.new w #[] _, Nat.le_refl _, by unfold maxLen; omega, rfl, rfl⟩⟩
theorem Own.nil (w : World) (base : Nat) : Own w base (.slice none 0 0) [] := World.ownsRow_nil w base _ _
theorem Own.mono {w : World} {base base' : Nat} {v : Value} {xs : List Int} (h : Own w base v xs) (hb : base' ≤ base) : Own w base' v xs := by
  obtain ⟨h1, h2 | ⟨g, cap, cur, q1, q2, q3⟩⟩ := h
  · exact ⟨h1, .inl h2⟩
  · exact ⟨h1, .inr ⟨g, cap, cur, q1, by omega, q3⟩⟩
def vB (p c h s : Int) : Bool := decide (2 ≤ p ∧ p ≤ 24 ∧ 1 ≤ c ∧ c ≤ 15 ∧ 1 ≤ h ∧ h ≤ p ∧ 1 ≤ s ∧ s ≤ 6)
def inB (n lo hi : Int) : Bool := decide (lo ≤ n ∧ n ≤ hi)
theorem vB_iff {p c h s : Int} : vB p c h s = true ↔ (2 ≤ p ∧ p ≤ 24 ∧ 1 ≤ c ∧ c ≤ 15 ∧ 1 ≤ h ∧ h ≤ p ∧ 1 ≤ s ∧ s ≤ 6) := by simp [vB]
theorem l01In_any (n lo hi : Int) (w : World) :
    Calls Try.prog 53 #[.int .i64 n, .int .i64 lo, .int .i64 hi] w fun e w' => e = .returned (.bool (inB n lo hi)) ∧ w = w' := by
  by_cases g0 : lo ≤ n
  rotate_left
  · go_enter Try.func53, Try.ntmps53
    go_wp2
    go_ret
    exact ⟨by simp [inB, *] <;> omega, rfl⟩
  by_cases g1 : n ≤ hi
  rotate_left
  · go_enter Try.func53, Try.ntmps53
    go_wp2
    go_ret
    exact ⟨by simp [inB, *] <;> omega, rfl⟩
  go_enter Try.func53, Try.ntmps53
  go_wp2
  go_ret
  exact ⟨by simp [inB, *] <;> omega, rfl⟩
theorem valid_any (p c h s : Int) (w : World) :
    Calls Try.prog 58 #[.agg #[.int .i64 p, .int .i64 c, .int .i64 h, .int .i64 s]] w fun e w' => e = .returned (.bool (vB p c h s)) ∧ Below w.heap.size w w' := by
  by_cases g0 : 2 ≤ p
  rotate_left
  · go_enter Try.func58, Try.ntmps58
    go_wp2
    go_ret
    exact ⟨by simp [vB] <;> omega, by first | exact (Below.refl _ _).alloc (Nat.le_refl _) _ | exact from_alloc hb1 | exact hb1⟩
  by_cases g1 : p ≤ 24
  rotate_left
  · go_enter Try.func58, Try.ntmps58
    go_wp2
    go_ret
    exact ⟨by simp [vB] <;> omega, by first | exact (Below.refl _ _).alloc (Nat.le_refl _) _ | exact from_alloc hb1 | exact hb1⟩
  by_cases g2 : 1 ≤ c
  rotate_left
  · go_enter Try.func58, Try.ntmps58
    go_wp2
    go_ret
    exact ⟨by simp [vB] <;> omega, by first | exact (Below.refl _ _).alloc (Nat.le_refl _) _ | exact from_alloc hb1 | exact hb1⟩
  by_cases g3 : c ≤ 15
  rotate_left
  · go_enter Try.func58, Try.ntmps58
    go_wp2
    go_ret
    exact ⟨by simp [vB] <;> omega, by first | exact (Below.refl _ _).alloc (Nat.le_refl _) _ | exact from_alloc hb1 | exact hb1⟩
  by_cases g4 : 1 ≤ h
  rotate_left
  · go_enter Try.func58, Try.ntmps58
    go_wp2
    go_ret
    exact ⟨by simp [vB] <;> omega, by first | exact (Below.refl _ _).alloc (Nat.le_refl _) _ | exact from_alloc hb1 | exact hb1⟩
  by_cases g5 : h ≤ p
  rotate_left
  · go_enter Try.func58, Try.ntmps58
    go_wp2
    go_ret
    exact ⟨by simp [vB] <;> omega, by first | exact (Below.refl _ _).alloc (Nat.le_refl _) _ | exact from_alloc hb1 | exact hb1⟩
  by_cases g6 : 1 ≤ s
  rotate_left
  · go_enter Try.func58, Try.ntmps58
    go_wp2
    go_ret
    exact ⟨by simp [vB] <;> omega, by first | exact (Below.refl _ _).alloc (Nat.le_refl _) _ | exact from_alloc hb1 | exact hb1⟩
  by_cases g7 : s ≤ 6
  rotate_left
  · go_enter Try.func58, Try.ntmps58
    go_wp2
    go_ret
    exact ⟨by simp [vB] <;> omega, by first | exact (Below.refl _ _).alloc (Nat.le_refl _) _ | exact from_alloc hb1 | exact hb1⟩
  go_enter Try.func58, Try.ntmps58
  go_wp2
  go_ret
  exact ⟨by simp [vB] <;> omega, by first | exact (Below.refl _ _).alloc (Nat.le_refl _) _ | exact from_alloc hb1 | exact hb1⟩
theorem specIsVariant_any (p c h s : Int) (w : World) :
    Calls Try.prog 50 #[.agg #[.int .i64 p, .int .i64 c, .int .i64 h, .int .i64 s]] w fun e w' => e = .returned (.bool (vB p c h s)) ∧ Below w.heap.size w w' := by
  by_cases g0 : 2 ≤ p
  rotate_left
  · go_enter Try.func50, Try.ntmps50
    go_wp2
    go_ret
    exact ⟨by simp [vB] <;> omega, by first | exact (Below.refl _ _).alloc (Nat.le_refl _) _ | exact from_alloc hb1 | exact hb1⟩
  by_cases g1 : p ≤ 24
  rotate_left
  · go_enter Try.func50, Try.ntmps50
    go_wp2
    go_ret
    exact ⟨by simp [vB] <;> omega, by first | exact (Below.refl _ _).alloc (Nat.le_refl _) _ | exact from_alloc hb1 | exact hb1⟩
  by_cases g2 : 1 ≤ c
  rotate_left
  · go_enter Try.func50, Try.ntmps50
    go_wp2
    go_ret
    exact ⟨by simp [vB] <;> omega, by first | exact (Below.refl _ _).alloc (Nat.le_refl _) _ | exact from_alloc hb1 | exact hb1⟩
  by_cases g3 : c ≤ 15
  rotate_left
  · go_enter Try.func50, Try.ntmps50
    go_wp2
    go_ret
    exact ⟨by simp [vB] <;> omega, by first | exact (Below.refl _ _).alloc (Nat.le_refl _) _ | exact from_alloc hb1 | exact hb1⟩
  by_cases g4 : 1 ≤ h
  rotate_left
  · go_enter Try.func50, Try.ntmps50
    go_wp2
    go_ret
    exact ⟨by simp [vB] <;> omega, by first | exact (Below.refl _ _).alloc (Nat.le_refl _) _ | exact from_alloc hb1 | exact hb1⟩
  by_cases g5 : h ≤ p
  rotate_left
  · go_enter Try.func50, Try.ntmps50
    go_wp2
    go_ret
    exact ⟨by simp [vB] <;> omega, by first | exact (Below.refl _ _).alloc (Nat.le_refl _) _ | exact from_alloc hb1 | exact hb1⟩
  by_cases g6 : 1 ≤ s
  rotate_left
  · go_enter Try.func50, Try.ntmps50
    go_wp2
    go_ret
    exact ⟨by simp [vB] <;> omega, by first | exact (Below.refl _ _).alloc (Nat.le_refl _) _ | exact from_alloc hb1 | exact hb1⟩
  by_cases g7 : s ≤ 6
  rotate_left
  · go_enter Try.func50, Try.ntmps50
    go_wp2
    go_ret
    exact ⟨by simp [vB] <;> omega, by first | exact (Below.refl _ _).alloc (Nat.le_refl _) _ | exact from_alloc hb1 | exact hb1⟩
  go_enter Try.func50, Try.ntmps50
  go_wp2
  go_ret
  exact ⟨by simp [vB] <;> omega, by first | exact (Below.refl _ _).alloc (Nat.le_refl _) _ | exact from_alloc hb1 | exact hb1⟩
theorem toVariant_any (p c h s : Int) (w : World) :
    Calls Try.prog 7 #[.agg #[.int .i64 p, .int .i64 c, .int .i64 h, .int .i64 s]] w fun e w' => e = .returned (.agg #[.int .i64 p, .int .i64 c, .int .i64 h, .int .i64 s]) ∧ Below w.heap.size w w' := by
  go_enter Try.func7, Try.ntmps7
  go_wp2
  refine bodyPost_ret (v := .agg #[.int .i64 p, .int .i64 c, .int .i64 h, .int .i64 s]) (by simp [results, Try.results7, go_sem]) rfl ⟨rfl, ?_⟩
  exact (((Below.refl _ _).alloc (Nat.le_refl _) _).alloc (by simp) _).alloc (by simp <;> omega) _
end Go.Proofs.Ytodlofabffenoaa
namespace Go.Proofs.Ytodlofabffenoaa
set_option linter.unusedVariables false
set_option linter.unusedSimpArgs false
theorem getD_mem {xs : List Int} {k : Nat} (h : k < xs.length) : xs.getD k 0 ∈ xs := by simp [List.getD, h]
theorem getD_out {l : List Int} {j : Nat} (h : l.length ≤ j) : l.getD j 0 = 0 := by
  rw [List.getD_eq_getElem?_getD, List.getElem?_eq_none h]
  rfl
theorem ext_getD : ∀ {l m : List Int}, l.length = m.length → (∀ j, l.getD j 0 = m.getD j 0) → l = m := by
  intro l m h e
  apply List.ext_getElem h
  intro i h1 h2
  have := e i
  rw [List.getD_eq_getElem?_getD, List.getD_eq_getElem?_getD, List.getElem?_eq_getElem h1, List.getElem?_eq_getElem h2] at this
  simpa using this
theorem take_snoc_int (xs : List Int) (k : Nat) (h : k < xs.length) : xs.take (k + 1) = xs.take k ++ [xs.getD k 0] := by
  rw [List.take_succ_eq_append_getElem h]; simp [h]
theorem sum_take (xs : List Int) (k : Nat) (h : k < xs.length) : (xs.take (k + 1)).sum = (xs.take k).sum + xs.getD k 0 := by
  rw [take_snoc_int xs k h]; simp
theorem sum_bound {c : Int} : ∀ (xs : List Int), (∀ x ∈ xs, 0 ≤ x ∧ x ≤ c) → 0 ≤ xs.sum ∧ xs.sum ≤ c * xs.length
  | [], _ => by simp
  | x :: xs, h => by
    have h1 := h x (by simp)
    have h2 := sum_bound xs (fun y hy => h y (by simp [hy]))
    simp only [List.sum_cons, List.length_cons, Int.natCast_add, Int.natCast_one, Int.mul_add, Int.mul_one]
    omega
def sideB (p c : Int) (xs : List Int) : Bool := decide ((xs.length : Int) = p + 1) && xs.all (fun x => inB x 0 c) && decide (xs.sum ≤ c)
def apartB (p : Nat) (xs ys : List Int) : Bool := (List.range p).all fun i => !(decide (0 < xs.getD i 0) && decide (0 < ys.getD (p - 1 - i) 0))
def isB (p c h s : Int) (xs ys : List Int) : Bool := vB p c h s && (sideB p c xs && (sideB p c ys && (!(decide (xs.sum + ys.sum = 0)) && apartB p.toNat xs ys)))
theorem inB_iff {n a b : Int} : inB n a b = true ↔ a ≤ n ∧ n ≤ b := by simp [inB]
theorem sideB_iff {p c : Int} {xs : List Int} : sideB p c xs = true ↔ (xs.length : Int) = p + 1 ∧ (∀ x ∈ xs, 0 ≤ x ∧ x ≤ c) ∧ xs.sum ≤ c := by
  simp [sideB, inB, and_assoc]
def pipsL (xs : List Int) : Nat → Int
  | 0 => 0
  | k + 1 => pipsL xs k + ((k : Int) + 1) * xs.getD k 0
def lastL (xs : List Int) : Nat → Int
  | 0 => -1
  | k + 1 => if 0 < xs.getD k 0 then (k : Int) else lastL xs k
theorem lastL_bound (xs : List Int) : ∀ k : Nat, -1 ≤ lastL xs k ∧ lastL xs k < k
  | 0 => by simp [lastL]
  | k + 1 => by
    have := lastL_bound xs k
    unfold lastL
    split <;> omega
end Go.Proofs.Ytodlofabffenoaa
