/- Slices of bytes in memory: rows that are read, rows of the call's own, how they grow; the law's own helpers on them (copy, compare, mark). -/
import Derived.Test.YtgohipfaojiilaaI64
import Derived.Test.YtgohipfaojiilaaOwnB
import Derived.Test.YtgohipfaojiilaaOwn
import Derived.ArgAppend
namespace Go.Proofs.Ytgohipfaojiilaa.B8
open Go.ChangeShapes Go.WideShapes Go.ChangeAt Go.RowKit
set_option linter.unusedVariables false
set_option linter.unusedSimpArgs false

def ints (xs : List Int) : List Value := xs.map (Value.int .u8)
theorem ints_length (xs : List Int) : (ints xs).length = xs.length := by simp [ints]
theorem ints_set (xs : List Int) (i : Nat) (v : Int) : ints (xs.set i v) = (ints xs).set i (.int .u8 v) := by simp [ints, List.map_set]
/-- What a slice value that leads to a reads. -/
def IRow (w : World) (a : Option Addr) (xs : List Int) : Prop :=
  ∀ i, i < xs.length → ∃ b o, a = some ⟨b, o, none⟩ ∧ w.cell? ⟨b, o + i, none⟩ = some (.int .u8 (xs.getD i 0))
theorem IRow.below {w w' : World} {a : Option Addr} {xs : List Int} (h : IRow w a xs) (hb : Below w.heap.size w w') : IRow w' a xs := fun i hi => by
  obtain ⟨b, o, e, hc⟩ := h i hi
  exact ⟨b, o, e, by rw [hb.cell (p := ⟨b, o + i, none⟩) (World.block_lt_of_cell? w _ hc)]; exact hc⟩
theorem IRow.drew {w : World} {a : Option Addr} {xs : List Int} (h : IRow w a xs) : IRow w.drew a xs := h
theorem IRow.alloc {w : World} {a : Option Addr} {xs : List Int} (h : IRow w a xs) (o : Obj) : IRow (w.alloc o) a xs := h.below ((Below.refl _ _).alloc (Nat.le_refl _) o)
theorem IRow.nil (w : World) (a : Option Addr) : IRow w a [] := fun i hi => by simp at hi
/-- A row of the call's own in block g, which begins with xs. -/
def Row (w : World) (g : Nat) (xs : List Int) : Prop := ∃ cur : Array Value, Blk w g cur 5 ∧ xs.length ≤ cur.size ∧ cur.toList.take xs.length = ints xs
theorem Row.lt {w : World} {g : Nat} {xs : List Int} (h : Row w g xs) : g < w.heap.size := by obtain ⟨c, hB, _⟩ := h; exact hB.lt
theorem Row.below {w w' : World} {g : Nat} {xs : List Int} (h : Row w g xs) (hb : Below w.heap.size w w') : Row w' g xs := by
  obtain ⟨c, hB, h1, h2⟩ := h; exact ⟨c, hB.below hb, h1, h2⟩
theorem Row.alloc {w : World} {g : Nat} {xs : List Int} (h : Row w g xs) (o : Obj) : Row (w.alloc o) g xs := by
  obtain ⟨c, hB, h1, h2⟩ := h; exact ⟨c, hB.alloc o, h1, h2⟩
theorem Row.drew {w : World} {g : Nat} {xs : List Int} (h : Row w g xs) : Row w.drew g xs := h
theorem Row.drewN {w : World} {g : Nat} {xs : List Int} (h : Row w g xs) (n : Nat) : Row (w.drewN n) g xs := by
  obtain ⟨c, hB, h1, h2⟩ := h; exact ⟨c, hB.drewN n, h1, h2⟩
theorem Row.grown {w w' : World} {g g' : Nat} {xs : List Int} (h : Row w g' xs) (hg : w.grownBy w' (some g)) (hne : g' ≠ g) : Row w' g' xs := by
  obtain ⟨c, hB, h1, h2⟩ := h; exact ⟨c, hB.grown hg hne, h1, h2⟩
theorem Row.other {w : World} {g g' o : Nat} {xs : List Int} {v : Value} (h : Row w g' xs) (hne : g' ≠ g) : Row (w.setCell ⟨g, o, none⟩ v) g' xs := by
  obtain ⟨c, hB, h1, h2⟩ := h
  exact ⟨c, (Below.heap_setCell w ⟨g, o, none⟩ v g' hne).trans hB, h1, h2⟩
theorem Row.cell {w : World} {g : Nat} {xs : List Int} (h : Row w g xs) (i : Nat) (hi : i < xs.length) : w.cell? ⟨g, i, none⟩ = some (.int .u8 (xs.getD i 0)) := by
  obtain ⟨c, hB, h1, h2⟩ := h
  rw [hB.cell i]
  have : (cur_take : List Value) → True := fun _ => trivial
  have h3 : (c.toList.take xs.length)[i]? = c[i]? := by rw [List.getElem?_take_of_lt hi]; simp
  rw [← h3, h2]
  simp [ints, hi]
theorem Row.free {w : World} {g : Nat} {xs : List Int} (h : Row w g xs) (i : Nat) : w.frozen? ⟨g, i, none⟩ = false := by
  obtain ⟨c, hB, _, _⟩ := h; exact hB.free i
theorem Row.irow {w : World} {g : Nat} {xs : List Int} (h : Row w g xs) : IRow w (some ⟨g, 0, none⟩) xs := fun i hi => ⟨g, 0, rfl, by rw [Nat.zero_add]; exact h.cell i hi⟩
theorem Row.set {w : World} {g : Nat} {xs : List Int} (h : Row w g xs) (i : Nat) (v : Int) : Row (w.setCell ⟨g, i, none⟩ (.int .u8 v)) g (xs.set i v) := by
  obtain ⟨c, hB, h1, h2⟩ := h
  refine ⟨_, hB.set (i := i) (.int .u8 v), by simpa using h1, ?_⟩
  rw [List.length_set, ints_set, ← h2, Array.toList_setIfInBounds, List.take_set]
theorem Row.new (w : World) (xs : List Int) : Row (w.alloc (.cells (ints xs).toArray 5)) w.heap.size xs :=
  ⟨_, Blk.new w _ _, by simp [ints_length], by simp [List.take_of_length_le, ints_length]⟩
theorem Row.wf {w : World} {g : Nat} {xs ys : List Int} (h : Row w g xs) (e : xs = ys) : Row w g ys := e ▸ h

theorem infoU8 : (Try.prog.info? 5).map (fun i => (i.zero, i.size, i.bytes)) = some (some (.int .u8 0), 1, 1) := by kernel_rfl
theorem made_row (w : World) (n : Nat) : Row (w.alloc (.cells (madeCells #[.int .u8 0] n) 5)) w.heap.size (List.replicate n 0) :=
  ⟨_, Blk.new w _ _, by
    have := congrArg List.length (toList_madeCells_one (.int .u8 0) n)
    simp at this ⊢
    omega, by
    rw [toList_madeCells_one]
    simp [ints]⟩

/-- A copy of the call's own has been made. -/
def Copied (xs : List Int) (w : World) (e : Ending) (w' : World) : Prop :=
  ∃ g, e = .returned (.slice (some ⟨g, 0, none⟩) xs.length xs.length) ∧ w.heap.size ≤ g ∧ Row w' g xs ∧ Below w.heap.size w w'
def copyAt (xs : List Int) (w : World) (m : Nat) (i : Value) (wr : World) : Prop :=
  ∃ k : Nat, k ≤ xs.length ∧ m = xs.length - k ∧ i = .int .i64 k ∧ Row wr w.heap.size (xs.take k ++ List.replicate (xs.length - k) 0) ∧ Below w.heap.size w wr
theorem copy_step (xs : List Int) (k : Nat) (h : k < xs.length) : (xs.take k ++ List.replicate (xs.length - k) 0).set k (xs.getD k 0) = xs.take (k + 1) ++ List.replicate (xs.length - (k + 1)) 0 := by
  apply List.ext_getElem?
  intro i
  have hk : (xs.take k).length = k := by simp; omega
  rcases Nat.lt_trichotomy i k with hi | hi | hi
  · rw [List.getElem?_set_ne (by omega), List.getElem?_append_left (by omega), List.getElem?_append_left (by simp; omega), List.getElem?_take_of_lt hi, List.getElem?_take_of_lt (by omega)]
  · subst hi
    rw [List.getElem?_set_self (by simp; omega), List.getElem?_append_left (by simp; omega), List.getElem?_take_of_lt (by omega)]
    simp [h]
  · rw [List.getElem?_set_ne (by omega), List.getElem?_append_right (by omega), List.getElem?_append_right (by simp; omega), List.getElem?_replicate, List.getElem?_replicate]
    simp only [List.length_take]
    have e1 : min k xs.length = k := by omega
    have e2 : min (k + 1) xs.length = k + 1 := by omega
    rw [e1, e2]
    by_cases h2 : i < xs.length
    · rw [if_pos (by omega), if_pos (by omega)]
    · rw [if_neg (by omega), if_neg (by omega)]
set_option maxHeartbeats 1000000 in
theorem toByteS_any (a : Option Addr) (n cap : Nat) (xs : List Int) (w : World) (hn : xs.length = n) (hle : n ≤ 1048576) (hr : IRow w a xs) :
    Calls Try.prog 15 #[.slice a n cap] w (Copied xs w) := by
  obtain ⟨i0, hi, hz0, hz1, hz2⟩ := info_parts infoU8
  subst hn
  go_enter Try.func15, Try.ntmps15
  go_wp2_with (at_make; refine wpList_make_row _ rfl _ _ 28 rfl 5 i0 (.int .u8 0) Try.underlying28 hi hz0 hz1 rfl .i64 .i64 xs.length rfl rfl (by rw [hz2]; omega) (by omega) ?_)
  go_loopg [4] xs.length (fun m i wr => copyAt xs w m i wr)
  case atStart => exact ⟨0, by omega, by omega, rfl, by simpa using made_row w xs.length, (Below.refl _ _).alloc (Nat.le_refl _) _⟩
  case round =>
    obtain ⟨k, hk, hm, rfl, hR, hb⟩ := hrel
    by_cases hlt : k < xs.length
    · have hlt' : (k : Int) < (xs.length : Int) := by omega
      obtain ⟨b, o, rfl, hc⟩ := hr.below hb k hlt
      have f0 := hR.free k
      have c0 := hR.cell k (by simp; omega)
      go_wp2
      go_roundg (xs.length - (k + 1))
      case measure => omega
      case rel =>
        have hR2 := (hR.set k (xs.getD k 0)).wf (copy_step xs k hlt)
        rw [show xs.getD k 0 = xs[k] by simp [hlt]] at hR2
        exact ⟨k + 1, by omega, rfl, by go_num, hR2, hb.setCell (Nat.le_refl _) _⟩
    · obtain rfl : k = xs.length := by omega
      go_wp2
      go_ret
      exact ⟨w.heap.size, rfl, Nat.le_refl _, hR.wf (by simp), hb⟩
set_option maxHeartbeats 1000000 in
theorem eqByteS_same (a b : Option Addr) (n c1 c2 : Nat) (xs : List Int) (w : World) (hn : xs.length = n) (hle : n ≤ 1048576) (ha : IRow w a xs) (hb : IRow w b xs) :
    Calls Try.prog 9 #[.slice a n c1, .slice b n c2] w fun e w' => e = .returned (.bool true) ∧ Below w.heap.size w w' := by
  subst hn
  go_enter Try.func9, Try.ntmps9
  go_wp2
  go_loopg [5] xs.length (fun m i wr => ∃ k : Nat, k ≤ xs.length ∧ m = xs.length - k ∧ i = .int .i64 k ∧ Below w.heap.size w wr)
  case atStart => exact ⟨0, by omega, by omega, rfl, Below.refl _ _⟩
  case round =>
    obtain ⟨k, hk, hm, rfl, hbel⟩ := hrel
    by_cases hlt : k < xs.length
    · have hlt' : (k : Int) < (xs.length : Int) := by omega
      have hk0 : (0 : Int) ≤ (k : Int) := by omega
      obtain ⟨b1, o1, rfl, hc1⟩ := ha.below hbel k hlt
      obtain ⟨b2, o2, rfl, hc2⟩ := hb.below hbel k hlt
      go_wp2_with fail
      go_quiet (fail)
      go_wp2
      go_roundg (xs.length - (k + 1))
      case measure => omega
      case rel => exact ⟨k + 1, by omega, rfl, by go_num, below_drewN hbel _⟩
    · obtain rfl : k = xs.length := by omega
      go_wp2
      go_ret
      exact ⟨rfl, hbel⟩
def marks (k : Int) (n : Nat) : List Int := (List.range n).map fun (i : Nat) => IntKind.u8.wrap (k + (i : Int))
theorem marks_length (k : Int) (n : Nat) : (marks k n).length = n := by simp [marks]
theorem mark_step (k : Int) (xs : List Int) (j : Nat) (h : j < xs.length) : (marks k j ++ xs.drop j).set j (IntKind.u8.wrap (k + j)) = marks k (j + 1) ++ xs.drop (j + 1) := by
  apply List.ext_getElem?
  intro i
  have hj := marks_length k j
  have hj1 := marks_length k (j + 1)
  rcases Nat.lt_trichotomy i j with hi | hi | hi
  · rw [List.getElem?_set_ne (by omega), List.getElem?_append_left (by omega), List.getElem?_append_left (by omega)]
    simp [marks, hi, show i < j + 1 by omega]
  · subst hi
    rw [List.getElem?_set_self (by simp [hj]; omega), List.getElem?_append_left (by omega)]
    simp [marks]
  · rw [List.getElem?_set_ne (by omega), List.getElem?_append_right (by omega), List.getElem?_append_right (by omega), hj, hj1, List.getElem?_drop, List.getElem?_drop]
    congr 1
    omega
def markAt (k : Int) (g : Nat) (xs : List Int) (w : World) (m : Nat) (q i : Value) (wr : World) : Prop :=
  ∃ j : Nat, j ≤ xs.length ∧ m = xs.length - j ∧ i = .int .i64 j ∧ q = .int .i64 (k + j) ∧ Row wr g (marks k j ++ xs.drop j) ∧ w.grownBy wr (some g)
set_option maxHeartbeats 1000000 in
theorem markByteS_any (g : Nat) (n cap : Nat) (xs : List Int) (k : Int) (w : World) (hn : xs.length = n) (hle : n ≤ 1048576) (hk0 : 0 ≤ k) (hk1 : k ≤ 1000000000) (hR : Row w g xs) :
    Calls Try.prog 12 #[.slice (some ⟨g, 0, none⟩) n cap, .int .i64 k] w fun e w' => e = .returned (.int .i64 (k + n)) ∧ Row w' g (marks k n) ∧ w.grownBy w' (some g) := by
  subst hn
  go_enter Try.func12, Try.ntmps12
  go_wp2
  go_loopg [1, 5] xs.length (fun m q i wr => markAt k g xs w m q i wr)
  case atStart => exact ⟨0, by omega, by omega, rfl, by simp, by simpa [marks] using hR, grown_refl _ _⟩
  case round =>
    obtain ⟨j, hj, hm, rfl, rfl, hr, hG⟩ := hrel
    by_cases hlt : j < xs.length
    · have hlt' : (j : Int) < (xs.length : Int) := by omega
      have f0 := hr.free j
      have c0 := hr.cell j (by simp [marks_length]; omega)
      go_wp2
      go_roundg (xs.length - (j + 1))
      case measure => omega
      case rel =>
        have hR2 := (hr.set j (IntKind.u8.wrap (k + j))).wf (mark_step k xs j hlt)
        exact ⟨j + 1, by omega, rfl, by go_num, by go_num, hR2, grown_set hG⟩
    · obtain rfl : j = xs.length := by omega
      go_wp2
      go_ret
      exact ⟨rfl, hr.wf (by simp), hG⟩
set_option maxHeartbeats 1000000 in
theorem heldByteS_any (a : Option Addr) (n cap : Nat) (k : Int) (w : World) (hle : n ≤ 1048576) (hk0 : 0 ≤ k) (hk1 : k ≤ 1000000000) (hr : IRow w a (marks k n)) :
    Calls Try.prog 13 #[.slice a n cap, .int .i64 k] w fun e w' => e = .returned (.int .i64 (k + n)) ∧ w = w' := by
  go_enter Try.func13, Try.ntmps13
  go_wp2
  go_loopg [1, 5] n (fun m q i wr => w = wr ∧ ∃ j : Nat, j ≤ n ∧ m = n - j ∧ i = .int .i64 j ∧ q = .int .i64 (k + j))
  case atStart => exact ⟨rfl, 0, by omega, by omega, rfl, by simp⟩
  case round =>
    obtain ⟨rfl, j, hj, hm, rfl, rfl⟩ := hrel
    by_cases hlt : j < n
    · have hlt' : (j : Int) < (n : Int) := by omega
      obtain ⟨b, o, rfl, hc⟩ := hr j (by rw [marks_length]; exact hlt)
      have hv : (marks k n).getD j 0 = IntKind.u8.wrap (k + j) := by simp [marks, hlt]
      rw [hv] at hc
      clear hv hr
      go_wp2
      go_roundg (n - (j + 1))
      case measure => omega
      case rel => exact ⟨rfl, j + 1, by omega, rfl, by go_num, by go_num⟩
    · obtain rfl : j = n := by omega
      go_wp2
      go_ret
      exact ⟨rfl, rfl⟩
theorem Row.same {lo hi g : Nat} {w w' : World} {xs : List Int} (h : Row w g xs) (hs : Same lo hi w w') (hg : g < lo ∨ hi ≤ g) : Row w' g xs := by
  obtain ⟨cur, hB, h1, h2⟩ := h
  exact ⟨cur, hB.same hs hg, h1, h2⟩
/-- A slice made between two marks of the heap's size: a row of its own, or nil. -/
def OSl (lo hi : Nat) (w : World) (a : Option Addr) (xs : List Int) : Prop :=
  (a = none ∧ xs = []) ∨ ∃ g, a = some ⟨g, 0, none⟩ ∧ lo ≤ g ∧ g < hi ∧ Row w g xs
theorem OSl.irow {lo hi : Nat} {w : World} {a : Option Addr} {xs : List Int} (h : OSl lo hi w a xs) : IRow w a xs := by
  rcases h with ⟨rfl, rfl⟩ | ⟨g, rfl, _, _, r⟩
  · exact IRow.nil _ _
  · exact r.irow
theorem OSl.below {lo hi : Nat} {w w' : World} {a : Option Addr} {xs : List Int} (h : OSl lo hi w a xs) (hb : Below w.heap.size w w') : OSl lo hi w' a xs := by
  rcases h with h | ⟨g, e, h1, h2, r⟩
  · exact .inl h
  · exact .inr ⟨g, e, h1, h2, r.below hb⟩
theorem OSl.drew {lo hi : Nat} {w : World} {a : Option Addr} {xs : List Int} (h : OSl lo hi w a xs) : OSl lo hi w.drew a xs := h
theorem OSl.alloc {lo hi : Nat} {w : World} {a : Option Addr} {xs : List Int} (h : OSl lo hi w a xs) (o : Obj) : OSl lo hi (w.alloc o) a xs := h.below ((Below.refl _ _).alloc (Nat.le_refl _) o)
theorem OSl.mono {lo hi lo' hi' : Nat} {w : World} {a : Option Addr} {xs : List Int} (h : OSl lo hi w a xs) (h1 : lo' ≤ lo) (h2 : hi ≤ hi') : OSl lo' hi' w a xs := by
  rcases h with h | ⟨g, e, q1, q2, r⟩
  · exact .inl h
  · exact .inr ⟨g, e, by omega, by omega, r⟩
theorem OSl.same {lo hi lo2 hi2 : Nat} {w w' : World} {a : Option Addr} {xs : List Int} (h : OSl lo2 hi2 w a xs) (hs : Same lo hi w w') (hd : hi2 ≤ lo ∨ hi ≤ lo2) : OSl lo2 hi2 w' a xs := by
  rcases h with h | ⟨g, e, q1, q2, r⟩
  · exact .inl h
  · exact .inr ⟨g, e, q1, q2, r.same hs (by omega)⟩
/-- A slice has been made and is handed back. -/
def SliceGot (xs : List Int) (w : World) (e : Ending) (w' : World) : Prop :=
  ∃ a k, e = .returned (.slice a xs.length k) ∧ OSl w.heap.size w'.heap.size w' a xs ∧ Below w.heap.size w w'
/-- A slice has been made and is handed back, beside a number. -/
def SliceGot2 (xs : List Int) (r : Int) (w : World) (e : Ending) (w' : World) : Prop :=
  ∃ a k, e = .returned (.tuple #[.slice a xs.length k, .int .i64 r]) ∧ OSl w.heap.size w'.heap.size w' a xs ∧ Below w.heap.size w w'

/-- A slice of the call's own that grows. -/
def Own (w : World) (base : Nat) (v : Value) (xs : List Int) : Prop := w.ownsRow base 5 1 v xs.length (ints xs)
theorem Own.form {w : World} {base : Nat} {v : Value} {xs : List Int} (h : Own w base v xs) : ∃ a k, v = .slice a xs.length k := by
  rcases h.2 with ⟨h1, h2⟩ | ⟨g, cap, cur, h1, _⟩
  · exact ⟨none, 0, by rw [h1, h2]⟩
  · exact ⟨some ⟨g, 0, none⟩, cap, h1⟩
theorem Own.osl {w : World} {base : Nat} {a : Option Addr} {n k : Nat} {xs : List Int} (h : Own w base (.slice a n k) xs) : OSl base w.heap.size w a xs := by
  obtain ⟨hl, h1 | ⟨g, cap, cur, hv, hb, hh, hc, hm, hs, ht⟩⟩ := h
  · obtain ⟨h1, h2⟩ := h1
    simp at h1
    exact .inl ⟨h1.1, List.eq_nil_of_length_eq_zero h2⟩
  · simp at hv
    obtain ⟨rfl, _, rfl⟩ := hv
    exact .inr ⟨g, rfl, hb, (Array.getElem?_eq_some_iff.1 hh).1, cur, hh, by omega, by simpa using ht⟩
theorem Own.alloc {w : World} {base : Nat} {v : Value} {xs : List Int} (h : Own w base v xs) (o : Obj) : Own (w.alloc o) base v xs := World.ownsRow.alloc h o
theorem Own.drew {w : World} {base : Nat} {v : Value} {xs : List Int} (h : Own w base v xs) : Own w.drew base v xs := h
theorem Own.kept {w w' : World} {base : Nat} {v : Value} {xs : List Int} (h : Own w base v xs) (hb : Below w.heap.size w w') : Own w' base v xs :=
  World.ownsRow.kept (row := none) h ⟨hb.os, hb.tape, hb.output, hb.size, fun k hk _ => hb.block k hk⟩ (by
    cases hv : v.ownBlock with
    | none => exact .inl rfl
    | some g => exact .inr (by simp))
theorem Own.start (w : World) : Own (w.alloc (.cells #[] 5)) w.heap.size (.slice (some ⟨w.heap.size, 0, none⟩) 0 0) [] :=
  ⟨rfl, .inr ⟨w.heap.size, 0, #[], rfl, Nat.le_refl _, Blk.new w #[] _, Nat.le_refl _, by unfold maxLen; omega, rfl, rfl⟩⟩
theorem Own.nil (w : World) (base : Nat) : Own w base (.slice none 0 0) [] := World.ownsRow_nil w base _ _
theorem Own.mono {w : World} {base base' : Nat} {v : Value} {xs : List Int} (h : Own w base v xs) (hb : base' ≤ base) : Own w base' v xs := by
  obtain ⟨h1, h2 | ⟨g, cap, cur, q1, q2, q3⟩⟩ := h
  · exact ⟨h1, .inl h2⟩
  · exact ⟨h1, .inr ⟨g, cap, cur, q1, by omega, q3⟩⟩
/-- One number appended: 'out = append(out, x)'. -/
theorem wp_push {ops : Array Oper} {rest : List Oper} {o : Oper} {a : Act} {Q : Exit → Act → World → Prop} (hgd : o.guard = none) (s x : Operand)
    (ho : o.op = .call { callee := .builtin .append, args := #[s, x], argTypes := #[28, 28] })
    (base : Nat) (v : Value) (xs : List Int) (hs : a.eval s = v) {w0 : World} (hown : Own w0 base v xs) (u : Int)
    (hx : a.eval x = .slice (some ⟨w0.heap.size, 0, none⟩) 1 1) (hl : xs.length ≤ 1048576) (hbase : base ≤ w0.heap.size)
    (h : ∀ v' w', Own w' base v' (xs ++ [u]) → Below base w0 w' → wpList Try.prog ops Q rest (a.put o.dst v') w') : wpList Try.prog ops Q (o :: rest) a (w0.alloc (.cells #[.int .u8 u] 5)) := by
  obtain ⟨i0, hi, hz0, hz1, hz2⟩ := info_parts infoU8
  refine wpList_append1 hgd s x 28 ho base 5 i0 (.int .u8 0) 1 Try.underlying28 hi hz0 hz1 hz2 rfl v xs.length (ints xs) hs hown (.int .u8 u) hx rfl (by unfold maxLen; omega) (by omega) hbase ?_
  intro g cap w' ho' hb' _
  refine h _ w' ?_ hb'
  show w'.ownsRow base 5 1 _ (xs ++ [u]).length (ints (xs ++ [u]))
  rw [show (xs ++ [u]).length = xs.length + 1 by simp, show ints (xs ++ [u]) = ints xs ++ [.int .u8 u] by simp [ints]]
  exact ho'
theorem markByteS_nil (cap : Nat) (k : Int) (w : World) :
    Calls Try.prog 12 #[.slice none 0 cap, .int .i64 k] w fun e w' => e = .returned (.int .i64 k) ∧ w = w' := by
  go_enter Try.func12, Try.ntmps12
  go_wp2
  refine wp_loop_rounds 1 ?_
  rw [rounds_succ]
  go_wp2
  go_ret
  exact ⟨rfl, rfl⟩
/-- Marking such a slice: it alone changes. -/
theorem markS_own (lo hi : Nat) (a : Option Addr) (n cap : Nat) (xs : List Int) (k : Int) (w : World) (hn : xs.length = n) (hle : n ≤ 1048576) (k0 : 0 ≤ k) (k1 : k ≤ 1000000000) (h : OSl lo hi w a xs) :
    Calls Try.prog 12 #[.slice a n cap, .int .i64 k] w fun e w' => e = .returned (.int .i64 (k + n)) ∧ OSl lo hi w' a (marks k n) ∧ Same lo hi w w' := by
  rcases h with ⟨rfl, rfl⟩ | ⟨g, rfl, h1, h2, r⟩
  · obtain rfl : 0 = n := hn
    refine (markByteS_nil cap k w).mono ?_
    rintro e w' ⟨rfl, rfl⟩
    exact ⟨by simp, .inl ⟨rfl, rfl⟩, rfl, rfl, rfl, Nat.le_refl _, fun i hi _ => rfl⟩
  · refine (markByteS_any g n cap xs k w hn hle k0 k1 r).mono ?_
    rintro e w' ⟨rfl, q, hg⟩
    exact ⟨rfl, .inr ⟨g, rfl, h1, h2, q⟩, hg.os, hg.tape, hg.output, hg.size, fun i hi ho => hg.block i hi (fun e => by cases e; omega)⟩
theorem open_brow {H : Type} {enc : TypeId × Value → H} {w : World} {base : Nat} {spare : Nat → Bool} {held : Bool} {fuel : Nat} {v : Value} {x : DataW H × List MemPlace}
    (h : DataW.trod enc Try.prog w base spare held fuel 28 [v] = some x) :
    ∃ (a : Option Addr) (n cap : Nat) (xs : List Int), v = .slice a n cap ∧ xs.length = n ∧ n ≤ 9223372036854775807 ∧ IRow w a xs ∧ ∀ y ∈ xs, (Lit.int .u8 y).wf = true := by
  rcases open_ints Try.underlying28 Try.underlying5 (by kernel_rfl) h with ⟨hcs, _⟩ | ⟨x, l, c, zs, hcs, _, hl, hm, hz, _, hcell, hwz⟩
  · simp at hcs
    exact ⟨none, 0, 0, [], hcs, rfl, by omega, IRow.nil _ _, by simp⟩
  · simp at hcs
    have hlz : l ≤ zs.length := by rw [hz]; split <;> omega
    refine ⟨some x, l, c, zs.take l, hcs, by simp; omega, by unfold maxLen at hm; omega, ?_, fun y hy => hwz y (List.mem_of_mem_take hy)⟩
    intro i hi
    have hi2 : i < l := by simp at hi; omega
    have hc := hcell i (by omega)
    obtain ⟨b, o, spot⟩ := x
    have hspot : spot = none := by
      have hc0 := hcell 0 (by omega)
      simpa [Addr.add] using World.cell?_spot hc0
    subst hspot
    refine ⟨b, o, rfl, ?_⟩
    rw [show (⟨b, o, none⟩ : Addr).add i = ⟨b, o + i, none⟩ from by unfold Addr.add; split <;> simp_all] at hc
    rw [hc]
    simp [List.getD, hi2]
end Go.Proofs.Ytgohipfaojiilaa.B8
