/- Contracts of the program's small functions on steps: dice, places, open points, blots, motions. -/
import Derived.Test.YthoaeaahaflpiaaStp
import Derived.Test.YthoaeaahaflpiaaImpl02d
import Derived.Test.Ythoaeaahaflpiaa04a0
namespace Go.Proofs.Ythoaeaahaflpiaa
open Go.ChangeShapes Go.WideShapes Go.ChangeAt Go.RowKit
set_option linter.unusedVariables false
set_option linter.unusedSimpArgs false

/-- A checker can be at the places of a step at all. -/
def placesB (p : Int) (t : Stp) : Bool := decide (0 ≤ t.1) && (decide (t.1 ≤ p) && (decide (-1 ≤ t.2.1) && decide (t.2.1 < p)))
theorem enterTo_any (b d : Int) (w : World) (b0 : 0 ≤ b) (b1 : b ≤ 1000) (d0 : 0 ≤ d) (d1 : d ≤ 1000) :
    Calls Try.prog 94 #[.agg #[.int .i64 b, .int .i64 d]] w fun e w' => e = .returned (.int .i64 (b - d)) ∧ Below w.heap.size w w' := by
  go_enter Try.func94, Try.ntmps94
  go_wp2
  go_ret
  exact ⟨rfl, (Below.refl _ _).alloc (Nat.le_refl _) _⟩
theorem moveTo_any (b d : Int) (w : World) (b0 : 0 ≤ b) (b1 : b ≤ 1000) (d0 : 0 ≤ d) (d1 : d ≤ 1000) :
    Calls Try.prog 95 #[.agg #[.int .i64 b, .int .i64 d]] w fun e w' => e = .returned (.int .i64 (b - d)) ∧ Below w.heap.size w w' := by
  go_enter Try.func95, Try.ntmps95
  go_wp2
  go_ret
  exact ⟨rfl, (Below.refl _ _).alloc (Nat.le_refl _) _⟩
theorem offTo_any (b d : Int) (w : World) :
    Calls Try.prog 124 #[.agg #[.int .i64 b, .int .i64 d]] w fun e w' => e = .returned (.int .i64 (-1)) ∧ Below w.heap.size w w' := by
  go_enter Try.func124, Try.ntmps124
  go_wp2
  go_ret
  exact ⟨rfl, (Below.refl _ _).alloc (Nat.le_refl _) _⟩
theorem enterFrom_any (b d : Int) (w : World) :
    Calls Try.prog 121 #[.agg #[.int .i64 b, .int .i64 d]] w fun e w' => e = .returned (.int .i64 b) ∧ Below w.heap.size w w' := by
  go_enter Try.func121, Try.ntmps121
  go_wp2
  go_ret
  exact ⟨rfl, (Below.refl _ _).alloc (Nat.le_refl _) _⟩
theorem moveFrom_any (b d : Int) (w : World) :
    Calls Try.prog 122 #[.agg #[.int .i64 b, .int .i64 d]] w fun e w' => e = .returned (.int .i64 b) ∧ Below w.heap.size w w' := by
  go_enter Try.func122, Try.ntmps122
  go_wp2
  go_ret
  exact ⟨rfl, (Below.refl _ _).alloc (Nat.le_refl _) _⟩
theorem offFrom_any (b d : Int) (w : World) :
    Calls Try.prog 123 #[.agg #[.int .i64 b, .int .i64 d]] w fun e w' => e = .returned (.int .i64 b) ∧ Below w.heap.size w w' := by
  go_enter Try.func123, Try.ntmps123
  go_wp2
  go_ret
  exact ⟨rfl, (Below.refl _ _).alloc (Nat.le_refl _) _⟩
/-- A point of the owner is open. -/
def openB (P : Nat) (ys : List Int) (i : Int) : Bool := decide (0 ≤ i) && (decide (i < (P : Int)) && decide (ys.getD (P - 1 - i.toNat) 0 ≤ 1))
theorem isOpen_any (P : Nat) (f1 f2 B : Nat) (ys : List Int) (i : Int) (w : World) (p1 : P ≤ 24) (n2 : ys.length = P + 1) (hy : ∀ y ∈ ys, 0 ≤ y ∧ y ≤ 1000) (q2 : Pays f2 B ys w) :
    Calls Try.prog 93 #[tv (P : Int) f1 f2 B, .int .i64 i] w fun e w' => e = .returned (.bool (openB P ys i)) ∧ Below w.heap.size w w' := by
  have hb : Below w.heap.size w (w.alloc (.cells #[.int .i64 (P : Int), fv f1 B, fv f2 B] 80)) := (Below.refl _ _).alloc (Nat.le_refl _) _
  unfold openB
  by_cases g1 : 0 ≤ i
  · rw [decide_eq_true g1, Bool.true_and]
    by_cases g2 : i < (P : Int)
    · rw [decide_eq_true g2, Bool.true_and]
      obtain ⟨k, rfl⟩ := Int.eq_ofNat_of_zero_le g1
      have hfk := facing_any P k f1 f2 B ys _ p1 (by omega) n2 (q2.below hb)
      obtain ⟨z0, z1, z2, zf, zl⟩ := (Blk.new w #[.int .i64 (P : Int), fv f1 B, fv f2 B] 80).tri
      have hgd := hy _ (getD_mem (xs := ys) (k := P - 1 - k) (by omega))
      have hk : (k : Int).toNat = k := by simp
      rw [hk]
      obtain ⟨u, hu⟩ : ∃ u, ys.getD (P - 1 - k) 0 = u := ⟨_, rfl⟩
      rw [hu] at hfk hgd ⊢
      have HF := Lib.hid hfk
      clear hu hfk hk
      go_enter Try.func93, Try.ntmps93
      go_wp2_with (go_at_call 68; refine HF.out.mono ?_; rintro e w5 ⟨rfl, hb5⟩)
      go_ret
      exact ⟨by first | rfl | (simp; done), from_alloc hb5⟩
    · rw [decide_eq_false g2, Bool.false_and]
      go_enter Try.func93, Try.ntmps93
      go_wp2
      go_ret
      exact ⟨by first | rfl | (simp; done), hb⟩
  · rw [decide_eq_false g1, Bool.false_and]
    go_enter Try.func93, Try.ntmps93
    go_wp2
    go_ret
    exact ⟨by first | rfl | (simp; done), hb⟩
/-- The motion that a die makes of a checker. -/
def motV (P : Nat) (k d : Int) : Value := if k = (P : Int) then .iface 133 (.agg #[.int .i64 k, .int .i64 d]) else if d ≤ k then .iface 135 (.agg #[.int .i64 k, .int .i64 d]) else .iface 136 (.agg #[.int .i64 k, .int .i64 d])
theorem motionOf_any (P : Nat) (f1 f2 B : Nat) (k d : Int) (w : World) :
    Calls Try.prog 85 #[tv (P : Int) f1 f2 B, .int .i64 k, .int .i64 d] w fun e w' => e = .returned (motV P k d) ∧ Below w.heap.size w w' := by
  have hb : Below w.heap.size w (w.alloc (.cells #[.int .i64 (P : Int), fv f1 B, fv f2 B] 80)) := (Below.refl _ _).alloc (Nat.le_refl _) _
  unfold motV
  by_cases g1 : k = (P : Int)
  · rw [if_pos g1]
    subst g1
    go_enter Try.func85, Try.ntmps85
    go_wp2
    go_ret
    exact ⟨rfl, hb⟩
  · rw [if_neg g1]
    by_cases g2 : d ≤ k
    · rw [if_pos g2]
      go_enter Try.func85, Try.ntmps85
      go_wp2
      go_ret
      exact ⟨rfl, hb⟩
    · rw [if_neg g2]
      go_enter Try.func85, Try.ntmps85
      go_wp2
      go_ret
      exact ⟨rfl, hb⟩
end Go.Proofs.Ythoaeaahaflpiaa
