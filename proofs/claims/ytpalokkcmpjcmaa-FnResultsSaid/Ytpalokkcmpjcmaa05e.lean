/- Rolls in memory; contracts of the lists of all rolls. -/
import Derived.Test.YtpalokkcmpjcmaaStp
import Derived.Test.YtpalokkcmpjcmaaL01a
import Derived.Test.YtpalokkcmpjcmaaOwnB
import Derived.Test.YtpalokkcmpjcmaaBoardLaws
namespace Go.Proofs.Ytpalokkcmpjcmaa
open Go.ChangeShapes Go.WideShapes Go.ChangeAt Go.RowKit
set_option linter.unusedVariables false
set_option linter.unusedSimpArgs false
set_option maxRecDepth 4000

/-- A roll. -/
abbrev Rl := Int × Int
def rlC (r : Rl) : List Value := [.int .i64 r.1, .int .i64 r.2]
def rlsC : List Rl → List Value
  | [] => []
  | s :: l => rlC s ++ rlsC l
theorem rlsC_length : ∀ l : List Rl, (rlsC l).length = l.length * 2
  | [] => rfl
  | s :: l => by simp [rlsC, rlC, rlsC_length l]; omega
theorem rlsC_append : ∀ l m : List Rl, rlsC (l ++ m) = rlsC l ++ rlsC m
  | [], m => rfl
  | s :: l, m => by simp [rlsC, rlsC_append l m]
theorem rlsC_at : ∀ (l : List Rl) (k : Nat) (s : Rl), l[k]? = some s → ∀ j, j < 2 → (rlsC l)[k * 2 + j]? = (rlC s)[j]?
  | [], k, s, h, j, hj => by simp at h
  | x :: l, 0, s, h, j, hj => by
    simp at h
    subst h
    rw [rlsC, List.getElem?_append_left (by simp [rlC]; omega), Nat.zero_mul, Nat.zero_add]
  | x :: l, k + 1, s, h, j, hj => by
    rw [rlsC, List.getElem?_append_right (by simp [rlC]; omega)]
    have := rlsC_at l k s (by simpa using h) j hj
    rw [← this]
    congr 1
    simp [rlC]
    omega
abbrev RRow (w : World) (g : Nat) (l : List Rl) : Prop := VRow w g (rlsC l) 28
theorem RRow.two {w : World} {g : Nat} {l : List Rl} (h : RRow w g l) (k : Nat) (s : Rl) (hk : l[k]? = some s) : w.cell? ⟨g, k * 2, none⟩ = some (.int .i64 s.1) ∧ w.cell? ⟨g, k * 2 + 1, none⟩ = some (.int .i64 s.2) :=
  ⟨h.cell _ _ (by have := rlsC_at l k s hk 0 (by omega); simpa [rlC] using this), h.cell _ _ (by have := rlsC_at l k s hk 1 (by omega); simpa [rlC] using this)⟩
/-- A slice of rolls made between two marks of the heap's size: a row of its own, or nil. -/
def ORl (lo hi : Nat) (w : World) (a : Option Addr) (l : List Rl) : Prop := (a = none ∧ l = []) ∨ ∃ g, a = some ⟨g, 0, none⟩ ∧ lo ≤ g ∧ g < hi ∧ RRow w g l
theorem ORl.below {lo hi : Nat} {w w' : World} {a : Option Addr} {l : List Rl} (h : ORl lo hi w a l) (hb : Below w.heap.size w w') : ORl lo hi w' a l := by
  rcases h with h | ⟨g, e, h1, h2, r⟩
  · exact .inl h
  · exact .inr ⟨g, e, h1, h2, r.below hb⟩
theorem ORl.drew {lo hi : Nat} {w : World} {a : Option Addr} {l : List Rl} (h : ORl lo hi w a l) : ORl lo hi w.drew a l := h
theorem ORl.alloc {lo hi : Nat} {w : World} {a : Option Addr} {l : List Rl} (h : ORl lo hi w a l) (o : Obj) : ORl lo hi (w.alloc o) a l := h.below ((Below.refl _ _).alloc (Nat.le_refl _) o)
theorem ORl.mono {lo hi lo' hi' : Nat} {w : World} {a : Option Addr} {l : List Rl} (h : ORl lo hi w a l) (h1 : lo' ≤ lo) (h2 : hi ≤ hi') : ORl lo' hi' w a l := by
  rcases h with h | ⟨g, e, q1, q2, r⟩
  · exact .inl h
  · exact .inr ⟨g, e, by omega, by omega, r⟩
theorem ORl.same {lo hi lo2 hi2 : Nat} {w w' : World} {a : Option Addr} {l : List Rl} (h : ORl lo2 hi2 w a l) (hs : Same lo hi w w') (hd : hi2 ≤ lo ∨ hi ≤ lo2) : ORl lo2 hi2 w' a l := by
  rcases h with h | ⟨g, e, q1, q2, r⟩
  · exact .inl h
  · exact .inr ⟨g, e, q1, q2, r.same hs (by omega)⟩
theorem ORl.row {lo hi : Nat} {w : World} {a : Option Addr} {l : List Rl} (h : ORl lo hi w a l) {k : Nat} (hk : k < l.length) : ∃ g, a = some ⟨g, 0, none⟩ ∧ RRow w g l := by
  rcases h with ⟨_, rfl⟩ | ⟨g, e, q1, q2, r⟩
  · simp at hk
  · exact ⟨g, e, r⟩
def OwnR (w : World) (base : Nat) (v : Value) (l : List Rl) : Prop := w.ownsRow base 28 2 v l.length (rlsC l)
theorem OwnR.form {w : World} {base : Nat} {v : Value} {l : List Rl} (h : OwnR w base v l) : ∃ a k, v = .slice a l.length k := by
  rcases h.2 with ⟨h1, h2⟩ | ⟨g, cap, cur, h1, _⟩
  · exact ⟨none, 0, by rw [h1, h2]⟩
  · exact ⟨some ⟨g, 0, none⟩, cap, h1⟩
theorem OwnR.orl {w : World} {base : Nat} {a : Option Addr} {n k : Nat} {l : List Rl} (h : OwnR w base (.slice a n k) l) : ORl base w.heap.size w a l := by
  obtain ⟨hl, h1 | ⟨g, cap, cur, hv, hb, hh, hc, hm, hs, ht⟩⟩ := h
  · obtain ⟨h1, h2⟩ := h1
    simp at h1
    exact .inl ⟨h1.1, List.eq_nil_of_length_eq_zero h2⟩
  · simp at hv
    obtain ⟨rfl, _, rfl⟩ := hv
    exact .inr ⟨g, rfl, hb, (Array.getElem?_eq_some_iff.1 hh).1, cur, hh, by rw [hl, hs]; exact Nat.mul_le_mul_right _ hc, by rw [hl]; exact ht⟩
theorem OwnR.alloc {w : World} {base : Nat} {v : Value} {l : List Rl} (h : OwnR w base v l) (o : Obj) : OwnR (w.alloc o) base v l := World.ownsRow.alloc h o
theorem OwnR.start (w : World) : OwnR (w.alloc (.cells #[] 28)) w.heap.size (.slice (some ⟨w.heap.size, 0, none⟩) 0 0) [] :=
  ⟨rfl, .inr ⟨w.heap.size, 0, #[], rfl, Nat.le_refl _, Blk.new w #[] _, Nat.le_refl _, by unfold maxLen; omega, rfl, rfl⟩⟩
theorem OwnR.nil (w : World) (base : Nat) : OwnR w base (.slice none 0 0) [] := World.ownsRow_nil w base _ _
theorem infoRl : (Try.prog.info? 28).map (fun i => (i.zero, i.size, i.bytes)) = some (some (.agg #[.int .i64 0, .int .i64 0]), 2, 16) := by kernel_rfl
/-- All rolls, ordered by the greater face. -/
def rollsTo : Nat → List Rl
  | 0 => []
  | a + 1 => rollsTo a ++ (List.range (a + 1)).map fun (j : Nat) => ((a : Int) + 1, (j : Int) + 1)
def rowTo (a j : Nat) : List Rl := rollsTo a ++ (List.range j).map fun (j : Nat) => ((a : Int) + 1, (j : Int) + 1)
theorem rowTo_succ (a j : Nat) : rowTo a (j + 1) = rowTo a j ++ [((a : Int) + 1, (j : Int) + 1)] := by simp [rowTo, List.range_succ]
theorem rowTo_zero (a : Nat) : rowTo a 0 = rollsTo a := by simp [rowTo]
theorem rowTo_full (a : Nat) : rowTo a (a + 1) = rollsTo (a + 1) := rfl
theorem rollsTo_length : ∀ a, (rollsTo a).length ≤ a * a
  | 0 => by simp [rollsTo]
  | a + 1 => by
    have := rollsTo_length a
    rw [rollsTo, List.length_append, List.length_map, List.length_range, Nat.add_mul, Nat.mul_add]
    omega
theorem rowTo_length (a j : Nat) : (rowTo a j).length ≤ a * a + j := by
  have := rollsTo_length a
  rw [rowTo, List.length_append, List.length_map, List.length_range]
  omega
theorem rollsTo_mem : ∀ (a : Nat) (r : Rl), r ∈ rollsTo a → 1 ≤ r.2 ∧ r.2 ≤ r.1 ∧ r.1 ≤ (a : Int)
  | 0, r, h => by simp [rollsTo] at h
  | a + 1, r, h => by
    rw [rollsTo, List.mem_append] at h
    rcases h with h | h
    · have := rollsTo_mem a r h
      omega
    · obtain ⟨j, hj, rfl⟩ := List.mem_map.1 h
      have := List.mem_range.1 hj
      dsimp only
      omega
def RollsGot (l : List Rl) (w : World) (e : Ending) (w' : World) : Prop := ∃ a k, e = .returned (.slice a l.length k) ∧ ORl w.heap.size w'.heap.size w' a l ∧ Below w.heap.size w w'
end Go.Proofs.Ytpalokkcmpjcmaa
