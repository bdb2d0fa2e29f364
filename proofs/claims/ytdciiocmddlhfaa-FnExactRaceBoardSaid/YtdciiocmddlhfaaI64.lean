/- Slices of int64 in memory: rows that are read, rows of the call's own; the law's own helpers on them (copy, compare, mark). -/
import Derived.Test.YtdciiocmddlhfaaBase
import Derived.Test.YtdciiocmddlhfaaSrcLaws
import Derived.Deep.LoopGhost
import Derived.Deep.OwnRows
import Derived.Deep.QuietTactic
import Derived.Laws.OwnMore
import Derived.OwnWalk
import Derived.Outline
namespace Go.Proofs.Ytdciiocmddlhfaa
open Go.ChangeShapes Go.WideShapes Go.ChangeAt Go.RowKit
set_option linter.unusedVariables false
set_option linter.unusedSimpArgs false

def ints (xs : List Int) : List Value := xs.map (Value.int .i64)
theorem ints_length (xs : List Int) : (ints xs).length = xs.length := by simp [ints]
theorem ints_set (xs : List Int) (i : Nat) (v : Int) : ints (xs.set i v) = (ints xs).set i (.int .i64 v) := by simp [ints, List.map_set]
/-- What a slice value that leads to a reads. -/
def IRow (w : World) (a : Option Addr) (xs : List Int) : Prop :=
  ∀ i, i < xs.length → ∃ b o, a = some ⟨b, o, none⟩ ∧ w.cell? ⟨b, o + i, none⟩ = some (.int .i64 (xs.getD i 0))
theorem IRow.below {w w' : World} {a : Option Addr} {xs : List Int} (h : IRow w a xs) (hb : Below w.heap.size w w') : IRow w' a xs := fun i hi => by
  obtain ⟨b, o, e, hc⟩ := h i hi
  exact ⟨b, o, e, by rw [hb.cell (p := ⟨b, o + i, none⟩) (World.block_lt_of_cell? w _ hc)]; exact hc⟩
theorem IRow.drew {w : World} {a : Option Addr} {xs : List Int} (h : IRow w a xs) : IRow w.drew a xs := h
theorem IRow.alloc {w : World} {a : Option Addr} {xs : List Int} (h : IRow w a xs) (o : Obj) : IRow (w.alloc o) a xs := h.below ((Below.refl _ _).alloc (Nat.le_refl _) o)
theorem IRow.nil (w : World) (a : Option Addr) : IRow w a [] := fun i hi => by simp at hi
/-- A row of the call's own in block g, which begins with xs. -/
def Row (w : World) (g : Nat) (xs : List Int) : Prop := ∃ cur : Array Value, Blk w g cur 2 ∧ xs.length ≤ cur.size ∧ cur.toList.take xs.length = ints xs
theorem Row.lt {w : World} {g : Nat} {xs : List Int} (h : Row w g xs) : g < w.heap.size := by obtain ⟨c, hB, _⟩ := h; exact hB.lt
theorem Row.below {w w' : World} {g : Nat} {xs : List Int} (h : Row w g xs) (hb : Below w.heap.size w w') : Row w' g xs := by
  obtain ⟨c, hB, h1, h2⟩ := h; exact ⟨c, hB.below hb, h1, h2⟩
theorem Row.alloc {w : World} {g : Nat} {xs : List Int} (h : Row w g xs) (o : Obj) : Row (w.alloc o) g xs := by
  obtain ⟨c, hB, h1, h2⟩ := h; exact ⟨c, hB.alloc o, h1, h2⟩
theorem Row.drew {w : World} {g : Nat} {xs : List Int} (h : Row w g xs) : Row w.drew g xs := h
theorem Row.drewN {w : World} {g : Nat} {xs : List Int} (h : Row w g xs) (n : Nat) : Row (w.drewN n) g xs := by
  obtain ⟨c, hB, h1, h2⟩ := h; exact ⟨c, hB.drewN n, h1, h2⟩
theorem Row.grown {w w' : World} {g g' : Nat} {xs : List Int} (h : Row w g' xs) (hg : w.grownBy w' (some g)) (hne : g' ≠ g) : Row w' g' xs := by
  obtain ⟨c, hB, h1, h2⟩ := h; exact ⟨c, hB.grown hg hne, h1, h2⟩
theorem Row.other {w : World} {g g' o : Nat} {xs : List Int} {v : Value} (h : Row w g' xs) (hne : g' ≠ g) : Row (w.setCell ⟨g, o, none⟩ v) g' xs := by
  obtain ⟨c, hB, h1, h2⟩ := h
  exact ⟨c, (Below.heap_setCell w ⟨g, o, none⟩ v g' hne).trans hB, h1, h2⟩
theorem Row.cell {w : World} {g : Nat} {xs : List Int} (h : Row w g xs) (i : Nat) (hi : i < xs.length) : w.cell? ⟨g, i, none⟩ = some (.int .i64 (xs.getD i 0)) := by
  obtain ⟨c, hB, h1, h2⟩ := h
  rw [hB.cell i]
  have : (cur_take : List Value) → True := fun _ => trivial
  have h3 : (c.toList.take xs.length)[i]? = c[i]? := by rw [List.getElem?_take_of_lt hi]; simp
  rw [← h3, h2]
  simp [ints, hi]
theorem Row.free {w : World} {g : Nat} {xs : List Int} (h : Row w g xs) (i : Nat) : w.frozen? ⟨g, i, none⟩ = false := by
  obtain ⟨c, hB, _, _⟩ := h; exact hB.free i
theorem Row.irow {w : World} {g : Nat} {xs : List Int} (h : Row w g xs) : IRow w (some ⟨g, 0, none⟩) xs := fun i hi => ⟨g, 0, rfl, by rw [Nat.zero_add]; exact h.cell i hi⟩
theorem Row.set {w : World} {g : Nat} {xs : List Int} (h : Row w g xs) (i : Nat) (v : Int) : Row (w.setCell ⟨g, i, none⟩ (.int .i64 v)) g (xs.set i v) := by
  obtain ⟨c, hB, h1, h2⟩ := h
  refine ⟨_, hB.set (i := i) (.int .i64 v), by simpa using h1, ?_⟩
  rw [List.length_set, ints_set, ← h2, Array.toList_setIfInBounds, List.take_set]
theorem Row.new (w : World) (xs : List Int) : Row (w.alloc (.cells (ints xs).toArray 2)) w.heap.size xs :=
  ⟨_, Blk.new w _ _, by simp [ints_length], by simp [List.take_of_length_le, ints_length]⟩
theorem Row.wf {w : World} {g : Nat} {xs ys : List Int} (h : Row w g xs) (e : xs = ys) : Row w g ys := e ▸ h

theorem infoI64 : (Try.prog.info? 2).map (fun i => (i.zero, i.size, i.bytes)) = some (some (.int .i64 0), 1, 8) := by kernel_rfl
theorem made_row (w : World) (n : Nat) : Row (w.alloc (.cells (madeCells #[.int .i64 0] n) 2)) w.heap.size (List.replicate n 0) :=
  ⟨_, Blk.new w _ _, by
    have := congrArg List.length (toList_madeCells_one (.int .i64 0) n)
    simp at this ⊢
    omega, by
    rw [toList_madeCells_one]
    simp [ints]⟩

/-- A copy of the call's own has been made. -/
def Copied (xs : List Int) (w : World) (e : Ending) (w' : World) : Prop :=
  ∃ g, e = .returned (.slice (some ⟨g, 0, none⟩) xs.length xs.length) ∧ w.heap.size ≤ g ∧ Row w' g xs ∧ Below w.heap.size w w'
def copyAt (xs : List Int) (w : World) (m : Nat) (i : Value) (wr : World) : Prop :=
  ∃ k : Nat, k ≤ xs.length ∧ m = xs.length - k ∧ i = .int .i64 k ∧ Row wr w.heap.size (xs.take k ++ List.replicate (xs.length - k) 0) ∧ Below w.heap.size w wr
theorem copy_step (xs : List Int) (k : Nat) (h : k < xs.length) : (xs.take k ++ List.replicate (xs.length - k) 0).set k (xs.getD k 0) = xs.take (k + 1) ++ List.replicate (xs.length - (k + 1)) 0 := by
  apply List.ext_getElem?
  intro i
  have hk : (xs.take k).length = k := by simp; omega
  rcases Nat.lt_trichotomy i k with hi | hi | hi
  · rw [List.getElem?_set_ne (by omega), List.getElem?_append_left (by omega), List.getElem?_append_left (by simp; omega), List.getElem?_take_of_lt hi, List.getElem?_take_of_lt (by omega)]
  · subst hi
    rw [List.getElem?_set_self (by simp; omega), List.getElem?_append_left (by simp; omega), List.getElem?_take_of_lt (by omega)]
    simp [h]
  · rw [List.getElem?_set_ne (by omega), List.getElem?_append_right (by omega), List.getElem?_append_right (by simp; omega), List.getElem?_replicate, List.getElem?_replicate]
    simp only [List.length_take]
    have e1 : min k xs.length = k := by omega
    have e2 : min (k + 1) xs.length = k + 1 := by omega
    rw [e1, e2]
    by_cases h2 : i < xs.length
    · rw [if_pos (by omega), if_pos (by omega)]
    · rw [if_neg (by omega), if_neg (by omega)]
set_option maxHeartbeats 1000000 in
theorem toInt64S_any (a : Option Addr) (n cap : Nat) (xs : List Int) (w : World) (hn : xs.length = n) (hle : n ≤ 1048576) (hr : IRow w a xs) :
    Calls Try.prog 6 #[.slice a n cap] w (Copied xs w) := by
  obtain ⟨i0, hi, hz0, hz1, hz2⟩ := info_parts infoI64
  subst hn
  go_enter Try.func6, Try.ntmps6
  go_wp2_with (at_make; refine wpList_make_row _ rfl _ _ 24 rfl 2 i0 (.int .i64 0) Try.underlying24 hi hz0 hz1 rfl .i64 .i64 xs.length rfl rfl (by rw [hz2]; omega) (by omega) ?_)
  go_loopg [4] xs.length (fun m i wr => copyAt xs w m i wr)
  case atStart => exact ⟨0, by omega, by omega, rfl, by simpa using made_row w xs.length, (Below.refl _ _).alloc (Nat.le_refl _) _⟩
  case round =>
    obtain ⟨k, hk, hm, rfl, hR, hb⟩ := hrel
    by_cases hlt : k < xs.length
    · have hlt' : (k : Int) < (xs.length : Int) := by omega
      obtain ⟨b, o, rfl, hc⟩ := hr.below hb k hlt
      have f0 := hR.free k
      have c0 := hR.cell k (by simp; omega)
      go_wp2
      go_roundg (xs.length - (k + 1))
      case measure => omega
      case rel =>
        have hR2 := (hR.set k (xs.getD k 0)).wf (copy_step xs k hlt)
        rw [show xs.getD k 0 = xs[k] by simp [hlt]] at hR2
        exact ⟨k + 1, by omega, rfl, by go_num, hR2, hb.setCell (Nat.le_refl _) _⟩
    · obtain rfl : k = xs.length := by omega
      go_wp2
      go_ret
      exact ⟨w.heap.size, rfl, Nat.le_refl _, hR.wf (by simp), hb⟩
set_option maxHeartbeats 1000000 in
theorem eqInt64S_same (a b : Option Addr) (n c1 c2 : Nat) (xs : List Int) (w : World) (hn : xs.length = n) (hle : n ≤ 1048576) (ha : IRow w a xs) (hb : IRow w b xs) :
    Calls Try.prog 9 #[.slice a n c1, .slice b n c2] w fun e w' => e = .returned (.bool true) ∧ Below w.heap.size w w' := by
  subst hn
  go_enter Try.func9, Try.ntmps9
  go_wp2
  go_loopg [5] xs.length (fun m i wr => ∃ k : Nat, k ≤ xs.length ∧ m = xs.length - k ∧ i = .int .i64 k ∧ Below w.heap.size w wr)
  case atStart => exact ⟨0, by omega, by omega, rfl, Below.refl _ _⟩
  case round =>
    obtain ⟨k, hk, hm, rfl, hbel⟩ := hrel
    by_cases hlt : k < xs.length
    · have hlt' : (k : Int) < (xs.length : Int) := by omega
      have hk0 : (0 : Int) ≤ (k : Int) := by omega
      obtain ⟨b1, o1, rfl, hc1⟩ := ha.below hbel k hlt
      obtain ⟨b2, o2, rfl, hc2⟩ := hb.below hbel k hlt
      go_wp2_with fail
      go_quiet (fail)
      go_wp2
      go_roundg (xs.length - (k + 1))
      case measure => omega
      case rel => exact ⟨k + 1, by omega, rfl, by go_num, below_drewN hbel _⟩
    · obtain rfl : k = xs.length := by omega
      go_wp2
      go_ret
      exact ⟨rfl, hbel⟩
def marks (k : Int) (n : Nat) : List Int := (List.range n).map fun (i : Nat) => k + (i : Int)
theorem marks_length (k : Int) (n : Nat) : (marks k n).length = n := by simp [marks]
theorem mark_step (k : Int) (xs : List Int) (j : Nat) (h : j < xs.length) : (marks k j ++ xs.drop j).set j (k + j) = marks k (j + 1) ++ xs.drop (j + 1) := by
  apply List.ext_getElem?
  intro i
  have hj := marks_length k j
  have hj1 := marks_length k (j + 1)
  rcases Nat.lt_trichotomy i j with hi | hi | hi
  · rw [List.getElem?_set_ne (by omega), List.getElem?_append_left (by omega), List.getElem?_append_left (by omega)]
    simp [marks, hi, show i < j + 1 by omega]
  · subst hi
    rw [List.getElem?_set_self (by simp [hj]; omega), List.getElem?_append_left (by omega)]
    simp [marks]
  · rw [List.getElem?_set_ne (by omega), List.getElem?_append_right (by omega), List.getElem?_append_right (by omega), hj, hj1, List.getElem?_drop, List.getElem?_drop]
    congr 1
    omega
def markAt (k : Int) (g : Nat) (xs : List Int) (w : World) (m : Nat) (q i : Value) (wr : World) : Prop :=
  ∃ j : Nat, j ≤ xs.length ∧ m = xs.length - j ∧ i = .int .i64 j ∧ q = .int .i64 (k + j) ∧ Row wr g (marks k j ++ xs.drop j) ∧ w.grownBy wr (some g)
set_option maxHeartbeats 1000000 in
theorem markInt64S_any (g : Nat) (n cap : Nat) (xs : List Int) (k : Int) (w : World) (hn : xs.length = n) (hle : n ≤ 1048576) (hk0 : 0 ≤ k) (hk1 : k ≤ 1000000000) (hR : Row w g xs) :
    Calls Try.prog 10 #[.slice (some ⟨g, 0, none⟩) n cap, .int .i64 k] w fun e w' => e = .returned (.int .i64 (k + n)) ∧ Row w' g (marks k n) ∧ w.grownBy w' (some g) := by
  subst hn
  go_enter Try.func10, Try.ntmps10
  go_wp2
  go_loopg [1, 5] xs.length (fun m q i wr => markAt k g xs w m q i wr)
  case atStart => exact ⟨0, by omega, by omega, rfl, by simp, by simpa [marks] using hR, grown_refl _ _⟩
  case round =>
    obtain ⟨j, hj, hm, rfl, rfl, hr, hG⟩ := hrel
    by_cases hlt : j < xs.length
    · have hlt' : (j : Int) < (xs.length : Int) := by omega
      have f0 := hr.free j
      have c0 := hr.cell j (by simp [marks_length]; omega)
      go_wp2
      go_roundg (xs.length - (j + 1))
      case measure => omega
      case rel =>
        have hR2 := (hr.set j (k + j)).wf (mark_step k xs j hlt)
        exact ⟨j + 1, by omega, rfl, by go_num, by go_num, hR2, grown_set hG⟩
    · obtain rfl : j = xs.length := by omega
      go_wp2
      go_ret
      exact ⟨rfl, hr.wf (by simp), hG⟩
set_option maxHeartbeats 1000000 in
theorem heldInt64S_any (a : Option Addr) (n cap : Nat) (k : Int) (w : World) (hle : n ≤ 1048576) (hk0 : 0 ≤ k) (hk1 : k ≤ 1000000000) (hr : IRow w a (marks k n)) :
    Calls Try.prog 23 #[.slice a n cap, .int .i64 k] w fun e w' => e = .returned (.int .i64 (k + n)) ∧ w = w' := by
  go_enter Try.func23, Try.ntmps23
  go_wp2
  go_loopg [1, 5] n (fun m q i wr => w = wr ∧ ∃ j : Nat, j ≤ n ∧ m = n - j ∧ i = .int .i64 j ∧ q = .int .i64 (k + j))
  case atStart => exact ⟨rfl, 0, by omega, by omega, rfl, by simp⟩
  case round =>
    obtain ⟨rfl, j, hj, hm, rfl, rfl⟩ := hrel
    by_cases hlt : j < n
    · have hlt' : (j : Int) < (n : Int) := by omega
      obtain ⟨b, o, rfl, hc⟩ := hr j (by rw [marks_length]; exact hlt)
      have hv : (marks k n).getD j 0 = k + j := by simp [marks, hlt]
      rw [hv] at hc
      clear hv hr
      go_wp2
      go_roundg (n - (j + 1))
      case measure => omega
      case rel => exact ⟨rfl, j + 1, by omega, rfl, by go_num, by go_num⟩
    · obtain rfl : j = n := by omega
      go_wp2
      go_ret
      exact ⟨rfl, rfl⟩
end Go.Proofs.Ytdciiocmddlhfaa
