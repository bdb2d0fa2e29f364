/- Contracts of the program's small functions on steps: dice, places, open points, blots, motions. -/
import Derived.Test.YtokjkcnjmfbfiaaStp
import Derived.Test.YtokjkcnjmfbfiaaImpl02d
import Derived.Test.Ytokjkcnjmfbfiaa04a0
namespace Go.Proofs.Ytokjkcnjmfbfiaa
open Go.ChangeShapes Go.WideShapes Go.ChangeAt Go.RowKit
set_option linter.unusedVariables false
set_option linter.unusedSimpArgs false
set_option maxRecDepth 4000

/-- A checker can be at the places of a step at all. -/
def placesB (p : Int) (t : Stp) : Bool := decide (0 ≤ t.1) && (decide (t.1 ≤ p) && (decide (-1 ≤ t.2.1) && decide (t.2.1 < p)))
theorem hasPlaces_any (p c h s : Int) (t : Stp) (w : World) :
    Calls Try.prog 162 #[.agg #[.int .i64 p, .int .i64 c, .int .i64 h, .int .i64 s], stV t] w fun e w' => e = .returned (.bool (placesB p t)) ∧ Below w.heap.size w w' := by
  obtain ⟨a, b, c', d⟩ := t
  have hb : Below w.heap.size w ((w.alloc (.cells #[.int .i64 p, .int .i64 c, .int .i64 h, .int .i64 s] 32)).alloc (.cells #[.int .i64 a, .int .i64 b, .int .i64 c', .bool d] 112)) := ((Below.refl _ _).alloc (Nat.le_refl _) _).alloc (by simp) _
  unfold placesB stV
  dsimp only
  by_cases g1 : 0 ≤ a
  · rw [decide_eq_true g1, Bool.true_and]
    by_cases g2 : a ≤ p
    · rw [decide_eq_true g2, Bool.true_and]
      by_cases g3 : -1 ≤ b
      · rw [decide_eq_true g3, Bool.true_and]
        go_enter Try.func162, Try.ntmps162
        go_wp2
        go_ret
        exact ⟨by first | rfl | (simp; done), hb⟩
      · rw [decide_eq_false g3, Bool.false_and]
        go_enter Try.func162, Try.ntmps162
        go_wp2
        go_ret
        exact ⟨by first | rfl | (simp; done), hb⟩
    · rw [decide_eq_false g2, Bool.false_and]
      go_enter Try.func162, Try.ntmps162
      go_wp2
      go_ret
      exact ⟨by first | rfl | (simp; done), hb⟩
  · rw [decide_eq_false g1, Bool.false_and]
    go_enter Try.func162, Try.ntmps162
    go_wp2
    go_ret
    exact ⟨by first | rfl | (simp; done), hb⟩
theorem enterTo_any (b d : Int) (w : World) (b0 : 0 ≤ b) (b1 : b ≤ 1000) (d0 : 0 ≤ d) (d1 : d ≤ 1000) :
    Calls Try.prog 180 #[.agg #[.int .i64 b, .int .i64 d]] w fun e w' => e = .returned (.int .i64 (b - d)) ∧ Below w.heap.size w w' := by
  go_enter Try.func180, Try.ntmps180
  go_wp2
  go_ret
  exact ⟨rfl, (Below.refl _ _).alloc (Nat.le_refl _) _⟩
theorem moveTo_any (b d : Int) (w : World) (b0 : 0 ≤ b) (b1 : b ≤ 1000) (d0 : 0 ≤ d) (d1 : d ≤ 1000) :
    Calls Try.prog 181 #[.agg #[.int .i64 b, .int .i64 d]] w fun e w' => e = .returned (.int .i64 (b - d)) ∧ Below w.heap.size w w' := by
  go_enter Try.func181, Try.ntmps181
  go_wp2
  go_ret
  exact ⟨rfl, (Below.refl _ _).alloc (Nat.le_refl _) _⟩
theorem offTo_any (b d : Int) (w : World) :
    Calls Try.prog 204 #[.agg #[.int .i64 b, .int .i64 d]] w fun e w' => e = .returned (.int .i64 (-1)) ∧ Below w.heap.size w w' := by
  go_enter Try.func204, Try.ntmps204
  go_wp2
  go_ret
  exact ⟨rfl, (Below.refl _ _).alloc (Nat.le_refl _) _⟩
theorem enterFrom_any (b d : Int) (w : World) :
    Calls Try.prog 201 #[.agg #[.int .i64 b, .int .i64 d]] w fun e w' => e = .returned (.int .i64 b) ∧ Below w.heap.size w w' := by
  go_enter Try.func201, Try.ntmps201
  go_wp2
  go_ret
  exact ⟨rfl, (Below.refl _ _).alloc (Nat.le_refl _) _⟩
theorem moveFrom_any (b d : Int) (w : World) :
    Calls Try.prog 202 #[.agg #[.int .i64 b, .int .i64 d]] w fun e w' => e = .returned (.int .i64 b) ∧ Below w.heap.size w w' := by
  go_enter Try.func202, Try.ntmps202
  go_wp2
  go_ret
  exact ⟨rfl, (Below.refl _ _).alloc (Nat.le_refl _) _⟩
theorem offFrom_any (b d : Int) (w : World) :
    Calls Try.prog 203 #[.agg #[.int .i64 b, .int .i64 d]] w fun e w' => e = .returned (.int .i64 b) ∧ Below w.heap.size w w' := by
  go_enter Try.func203, Try.ntmps203
  go_wp2
  go_ret
  exact ⟨rfl, (Below.refl _ _).alloc (Nat.le_refl _) _⟩
/-- A point of the owner is open. -/
def openB (P : Nat) (ys : List Int) (i : Int) : Bool := decide (0 ≤ i) && (decide (i < (P : Int)) && decide (ys.getD (P - 1 - i.toNat) 0 ≤ 1))
theorem isOpen_any (P : Nat) (f1 f2 B : Nat) (ys : List Int) (i : Int) (w : World) (p1 : P ≤ 24) (n2 : ys.length = P + 1) (hy : ∀ y ∈ ys, 0 ≤ y ∧ y ≤ 1000) (q2 : Pays f2 B ys w) :
    Calls Try.prog 179 #[tv (P : Int) f1 f2 B, .int .i64 i] w fun e w' => e = .returned (.bool (openB P ys i)) ∧ Below w.heap.size w w' := by
  have hb : Below w.heap.size w (w.alloc (.cells #[.int .i64 (P : Int), fv f1 B, fv f2 B] 151)) := (Below.refl _ _).alloc (Nat.le_refl _) _
  unfold openB
  by_cases g1 : 0 ≤ i
  · rw [decide_eq_true g1, Bool.true_and]
    by_cases g2 : i < (P : Int)
    · rw [decide_eq_true g2, Bool.true_and]
      obtain ⟨k, rfl⟩ := Int.eq_ofNat_of_zero_le g1
      have hfk := facing_any P k f1 f2 B ys _ p1 (by omega) n2 (q2.below hb)
      obtain ⟨z0, z1, z2, zf, zl⟩ := (Blk.new w #[.int .i64 (P : Int), fv f1 B, fv f2 B] 151).tri
      have hgd := hy _ (getD_mem (xs := ys) (k := P - 1 - k) (by omega))
      have hk : (k : Int).toNat = k := by simp
      rw [hk]
      obtain ⟨u, hu⟩ : ∃ u, ys.getD (P - 1 - k) 0 = u := ⟨_, rfl⟩
      rw [hu] at hfk hgd ⊢
      have HF := Lib.hid hfk
      clear hu hfk hk
      go_enter Try.func179, Try.ntmps179
      go_wp2_with (go_at_call 159; refine HF.out.mono ?_; rintro e w5 ⟨rfl, hb5⟩)
      go_ret
      exact ⟨by first | rfl | (simp; done), from_alloc hb5⟩
    · rw [decide_eq_false g2, Bool.false_and]
      go_enter Try.func179, Try.ntmps179
      go_wp2
      go_ret
      exact ⟨by first | rfl | (simp; done), hb⟩
  · rw [decide_eq_false g1, Bool.false_and]
    go_enter Try.func179, Try.ntmps179
    go_wp2
    go_ret
    exact ⟨by first | rfl | (simp; done), hb⟩
/-- The motion that a die makes of a checker. -/
def motV (P : Nat) (k d : Int) : Value := if k = (P : Int) then .iface 195 (.agg #[.int .i64 k, .int .i64 d]) else if d ≤ k then .iface 197 (.agg #[.int .i64 k, .int .i64 d]) else .iface 198 (.agg #[.int .i64 k, .int .i64 d])
theorem motionOf_any (P : Nat) (f1 f2 B : Nat) (k d : Int) (w : World) :
    Calls Try.prog 174 #[tv (P : Int) f1 f2 B, .int .i64 k, .int .i64 d] w fun e w' => e = .returned (motV P k d) ∧ Below w.heap.size w w' := by
  have hb : Below w.heap.size w (w.alloc (.cells #[.int .i64 (P : Int), fv f1 B, fv f2 B] 151)) := (Below.refl _ _).alloc (Nat.le_refl _) _
  unfold motV
  by_cases g1 : k = (P : Int)
  · rw [if_pos g1]
    subst g1
    go_enter Try.func174, Try.ntmps174
    go_wp2
    go_ret
    exact ⟨rfl, hb⟩
  · rw [if_neg g1]
    by_cases g2 : d ≤ k
    · rw [if_pos g2]
      go_enter Try.func174, Try.ntmps174
      go_wp2
      go_ret
      exact ⟨rfl, hb⟩
    · rw [if_neg g2]
      go_enter Try.func174, Try.ntmps174
      go_wp2
      go_ret
      exact ⟨rfl, hb⟩
end Go.Proofs.Ytokjkcnjmfbfiaa
