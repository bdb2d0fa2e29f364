/- Boards that a call has made itself (or empty ones): how they lie, and how they are kept while others are written. -/
import Derived.Test.YtdciiocmddlhfaaBoardLaws
namespace Go.Proofs.Ytdciiocmddlhfaa
open Go.ChangeShapes Go.WideShapes Go.ChangeAt Go.RowKit
set_option linter.unusedVariables false
set_option linter.unusedSimpArgs false

/-- A board made between two marks of the heap's size: two rows of its own, or two nil ones. -/
def OBd (lo hi : Nat) (w : World) (a1 a2 : Option Addr) (xs ys : List Int) : Prop :=
  (a1 = none ∧ a2 = none ∧ xs = [] ∧ ys = []) ∨
  ∃ g1 g2, a1 = some ⟨g1, 0, none⟩ ∧ a2 = some ⟨g2, 0, none⟩ ∧ g1 ≠ g2 ∧ lo ≤ g1 ∧ g1 < hi ∧ lo ≤ g2 ∧ g2 < hi ∧ Row w g1 xs ∧ Row w g2 ys
/-- Outside two marks the memory is as it was. -/
structure Same (lo hi : Nat) (w w' : World) : Prop where
  os : w'.os = w.os
  tape : w'.tape = w.tape
  output : w'.output = w.output
  size : w.heap.size ≤ w'.heap.size
  block : ∀ i, i < w.heap.size → (i < lo ∨ hi ≤ i) → w'.heap[i]? = w.heap[i]?
theorem Blk.same {lo hi g : Nat} {w w' : World} {vs : Array Value} {t : TypeId} (h : Blk w g vs t) (hs : Same lo hi w w') (hg : g < lo ∨ hi ≤ g) : Blk w' g vs t := (hs.block g h.lt hg).trans h
theorem Row.same {lo hi g : Nat} {w w' : World} {xs : List Int} (h : Row w g xs) (hs : Same lo hi w w') (hg : g < lo ∨ hi ≤ g) : Row w' g xs := by
  obtain ⟨cur, hB, h1, h2⟩ := h
  exact ⟨cur, hB.same hs hg, h1, h2⟩
theorem below_same {lo hi B : Nat} {w0 w w' : World} (h : Below B w0 w) (hs : Same lo hi w w') (hB : B ≤ lo) (hw : B ≤ w.heap.size) : Below B w0 w' :=
  ⟨hs.os.trans h.os, hs.tape.trans h.tape, hs.output.trans h.output, Nat.le_trans h.size hs.size, fun k hk => (hs.block k (by omega) (.inl (by omega))).trans (h.block k hk)⟩
theorem OBd.below {lo hi : Nat} {w w' : World} {a1 a2 : Option Addr} {xs ys : List Int} (h : OBd lo hi w a1 a2 xs ys) (hb : Below w.heap.size w w') : OBd lo hi w' a1 a2 xs ys := by
  rcases h with h | ⟨g1, g2, e1, e2, hne, b1, b2, b3, b4, r1, r2⟩
  · exact .inl h
  · exact .inr ⟨g1, g2, e1, e2, hne, b1, b2, b3, b4, r1.below hb, r2.below hb⟩
theorem OBd.same {lo hi lo2 hi2 : Nat} {w w' : World} {a1 a2 : Option Addr} {xs ys : List Int} (h : OBd lo2 hi2 w a1 a2 xs ys) (hs : Same lo hi w w') (hd : hi2 ≤ lo ∨ hi ≤ lo2) : OBd lo2 hi2 w' a1 a2 xs ys := by
  rcases h with h | ⟨g1, g2, e1, e2, hne, b1, b2, b3, b4, r1, r2⟩
  · exact .inl h
  · exact .inr ⟨g1, g2, e1, e2, hne, b1, b2, b3, b4, r1.same hs (by omega), r2.same hs (by omega)⟩
theorem OBd.irow1 {lo hi : Nat} {w : World} {a1 a2 : Option Addr} {xs ys : List Int} (h : OBd lo hi w a1 a2 xs ys) : IRow w a1 xs := by
  rcases h with ⟨_, _, rfl, _⟩ | ⟨g1, g2, rfl, _, _, _, _, _, _, r1, _⟩
  · exact IRow.nil _ _
  · exact r1.irow
theorem OBd.irow2 {lo hi : Nat} {w : World} {a1 a2 : Option Addr} {xs ys : List Int} (h : OBd lo hi w a1 a2 xs ys) : IRow w a2 ys := by
  rcases h with ⟨_, _, _, rfl⟩ | ⟨g1, g2, _, rfl, _, _, _, _, _, _, r2⟩
  · exact IRow.nil _ _
  · exact r2.irow
/-- A board has been made and is handed back. -/
def BoardGot (xs ys : List Int) (w : World) (e : Ending) (w' : World) : Prop :=
  ∃ a1 a2 k1 k2, e = .returned (.agg #[.slice a1 xs.length k1, .slice a2 ys.length k2]) ∧ OBd w.heap.size w'.heap.size w' a1 a2 xs ys ∧ Below w.heap.size w w'
theorem BoardGot.of_made {xs ys : List Int} {w : World} {e : Ending} {w' : World} (h : BoardMade xs ys w e w') : BoardGot xs ys w e w' := by
  obtain ⟨g1, g2, rfl, h1, h2, r1, r2, hb⟩ := h
  exact ⟨_, _, _, _, rfl, .inr ⟨g1, g2, rfl, rfl, by omega, h1, r1.lt, by omega, r2.lt, r1, r2⟩, hb⟩
theorem markInt64S_nil (cap : Nat) (k : Int) (w : World) :
    Calls Try.prog 10 #[.slice none 0 cap, .int .i64 k] w fun e w' => e = .returned (.int .i64 k) ∧ w = w' := by
  go_enter Try.func10, Try.ntmps10
  go_wp2
  refine wp_loop_rounds 1 ?_
  rw [rounds_succ]
  go_wp2
  go_ret
  exact ⟨rfl, rfl⟩
set_option maxHeartbeats 1000000 in
theorem markBoard_nil (c1 c2 : Nat) (k : Int) (w : World) :
    Calls Try.prog 11 #[.agg #[.slice none 0 c1, .slice none 0 c2], .int .i64 k] w fun e w' => e = .returned (.int .i64 k) ∧ Below w.heap.size w w' := by
  have hb : Below w.heap.size w (w.alloc (.cells #[.slice none 0 c1, .slice none 0 c2] 26)) := (Below.refl _ _).alloc (Nat.le_refl _) _
  go_enter Try.func11, Try.ntmps11
  go_wp2_with (go_at_call 10; refine (markInt64S_nil _ k _).mono ?_; rintro e w1 ⟨rfl, rfl⟩)
  go_ret
  exact ⟨rfl, hb⟩
theorem markBoard_own (lo hi : Nat) (a1 a2 : Option Addr) (n1 n2 c1 c2 : Nat) (xs ys : List Int) (k : Int) (w : World) (h1 : xs.length = n1) (h2 : ys.length = n2) (l1 : n1 ≤ 1048576) (l2 : n2 ≤ 1048576) (k0 : 0 ≤ k) (k1 : k ≤ 100000000)
    (h : OBd lo hi w a1 a2 xs ys) :
    Calls Try.prog 11 #[.agg #[.slice a1 n1 c1, .slice a2 n2 c2], .int .i64 k] w fun e w' => e = .returned (.int .i64 (k + n1 + n2)) ∧ OBd lo hi w' a1 a2 (marks k n1) (marks (k + n1) n2) ∧ Same lo hi w w' := by
  rcases h with ⟨rfl, rfl, rfl, rfl⟩ | ⟨g1, g2, rfl, rfl, hne, b1, b2, b3, b4, r1, r2⟩
  · obtain rfl : 0 = n1 := h1
    obtain rfl : 0 = n2 := h2
    refine (markBoard_nil c1 c2 k w).mono ?_
    rintro e w' ⟨rfl, hb⟩
    exact ⟨by simp, .inl ⟨rfl, rfl, rfl, rfl⟩, hb.os, hb.tape, hb.output, hb.size, fun i hi _ => hb.block i hi⟩
  · refine (markBoard_any g1 g2 n1 n2 c1 c2 xs ys k w h1 h2 l1 l2 k0 k1 hne r1 r2).mono ?_
    rintro e w' ⟨rfl, q1, q2, hsz, hbl, hos, htp, hou⟩
    exact ⟨rfl, .inr ⟨g1, g2, rfl, rfl, hne, b1, b2, b3, b4, q1, q2⟩, hos, htp, hou, hsz, fun i hi ho => hbl i hi (by omega) (by omega)⟩
end Go.Proofs.Ytdciiocmddlhfaa
