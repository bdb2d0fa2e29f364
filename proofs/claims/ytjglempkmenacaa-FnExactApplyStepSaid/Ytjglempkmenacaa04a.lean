/- Contracts of the program's small functions on steps: dice, places, open points, blots, motions. -/
import Derived.Test.YtjglempkmenacaaStp
import Derived.Test.YtjglempkmenacaaImpl02d
import Derived.Test.Ytjglempkmenacaa04a0
namespace Go.Proofs.Ytjglempkmenacaa
open Go.ChangeShapes Go.WideShapes Go.ChangeAt Go.RowKit
set_option linter.unusedVariables false
set_option linter.unusedSimpArgs false
set_option maxRecDepth 4000

/-- A checker can be at the places of a step at all. -/
def placesB (p : Int) (t : Stp) : Bool := decide (0 ≤ t.1) && (decide (t.1 ≤ p) && (decide (-1 ≤ t.2.1) && decide (t.2.1 < p)))
theorem hasPlaces_any (p c h s : Int) (t : Stp) (w : World) :
    Calls Try.prog 63 #[.agg #[.int .i64 p, .int .i64 c, .int .i64 h, .int .i64 s], stV t] w fun e w' => e = .returned (.bool (placesB p t)) ∧ Below w.heap.size w w' := by
  obtain ⟨a, b, c', d⟩ := t
  have hb : Below w.heap.size w ((w.alloc (.cells #[.int .i64 p, .int .i64 c, .int .i64 h, .int .i64 s] 25)).alloc (.cells #[.int .i64 a, .int .i64 b, .int .i64 c', .bool d] 30)) := ((Below.refl _ _).alloc (Nat.le_refl _) _).alloc (by simp) _
  unfold placesB stV
  dsimp only
  by_cases g1 : 0 ≤ a
  · rw [decide_eq_true g1, Bool.true_and]
    by_cases g2 : a ≤ p
    · rw [decide_eq_true g2, Bool.true_and]
      by_cases g3 : -1 ≤ b
      · rw [decide_eq_true g3, Bool.true_and]
        go_enter Try.func63, Try.ntmps63
        go_wp2
        go_ret
        exact ⟨by first | rfl | (simp; done), hb⟩
      · rw [decide_eq_false g3, Bool.false_and]
        go_enter Try.func63, Try.ntmps63
        go_wp2
        go_ret
        exact ⟨by first | rfl | (simp; done), hb⟩
    · rw [decide_eq_false g2, Bool.false_and]
      go_enter Try.func63, Try.ntmps63
      go_wp2
      go_ret
      exact ⟨by first | rfl | (simp; done), hb⟩
  · rw [decide_eq_false g1, Bool.false_and]
    go_enter Try.func63, Try.ntmps63
    go_wp2
    go_ret
    exact ⟨by first | rfl | (simp; done), hb⟩
theorem enterTo_any (b d : Int) (w : World) (b0 : 0 ≤ b) (b1 : b ≤ 1000) (d0 : 0 ≤ d) (d1 : d ≤ 1000) :
    Calls Try.prog 116 #[.agg #[.int .i64 b, .int .i64 d]] w fun e w' => e = .returned (.int .i64 (b - d)) ∧ Below w.heap.size w w' := by
  go_enter Try.func116, Try.ntmps116
  go_wp2
  go_ret
  exact ⟨rfl, (Below.refl _ _).alloc (Nat.le_refl _) _⟩
theorem moveTo_any (b d : Int) (w : World) (b0 : 0 ≤ b) (b1 : b ≤ 1000) (d0 : 0 ≤ d) (d1 : d ≤ 1000) :
    Calls Try.prog 117 #[.agg #[.int .i64 b, .int .i64 d]] w fun e w' => e = .returned (.int .i64 (b - d)) ∧ Below w.heap.size w w' := by
  go_enter Try.func117, Try.ntmps117
  go_wp2
  go_ret
  exact ⟨rfl, (Below.refl _ _).alloc (Nat.le_refl _) _⟩
theorem offTo_any (b d : Int) (w : World) :
    Calls Try.prog 140 #[.agg #[.int .i64 b, .int .i64 d]] w fun e w' => e = .returned (.int .i64 (-1)) ∧ Below w.heap.size w w' := by
  go_enter Try.func140, Try.ntmps140
  go_wp2
  go_ret
  exact ⟨rfl, (Below.refl _ _).alloc (Nat.le_refl _) _⟩
theorem enterFrom_any (b d : Int) (w : World) :
    Calls Try.prog 137 #[.agg #[.int .i64 b, .int .i64 d]] w fun e w' => e = .returned (.int .i64 b) ∧ Below w.heap.size w w' := by
  go_enter Try.func137, Try.ntmps137
  go_wp2
  go_ret
  exact ⟨rfl, (Below.refl _ _).alloc (Nat.le_refl _) _⟩
theorem moveFrom_any (b d : Int) (w : World) :
    Calls Try.prog 138 #[.agg #[.int .i64 b, .int .i64 d]] w fun e w' => e = .returned (.int .i64 b) ∧ Below w.heap.size w w' := by
  go_enter Try.func138, Try.ntmps138
  go_wp2
  go_ret
  exact ⟨rfl, (Below.refl _ _).alloc (Nat.le_refl _) _⟩
theorem offFrom_any (b d : Int) (w : World) :
    Calls Try.prog 139 #[.agg #[.int .i64 b, .int .i64 d]] w fun e w' => e = .returned (.int .i64 b) ∧ Below w.heap.size w w' := by
  go_enter Try.func139, Try.ntmps139
  go_wp2
  go_ret
  exact ⟨rfl, (Below.refl _ _).alloc (Nat.le_refl _) _⟩
/-- A point of the owner is open. -/
def openB (P : Nat) (ys : List Int) (i : Int) : Bool := decide (0 ≤ i) && (decide (i < (P : Int)) && decide (ys.getD (P - 1 - i.toNat) 0 ≤ 1))
theorem isOpen_any (P : Nat) (f1 f2 B : Nat) (ys : List Int) (i : Int) (w : World) (p1 : P ≤ 24) (n2 : ys.length = P + 1) (hy : ∀ y ∈ ys, 0 ≤ y ∧ y ≤ 1000) (q2 : Pays f2 B ys w) :
    Calls Try.prog 86 #[tv (P : Int) f1 f2 B, .int .i64 i] w fun e w' => e = .returned (.bool (openB P ys i)) ∧ Below w.heap.size w w' := by
  have hb : Below w.heap.size w (w.alloc (.cells #[.int .i64 (P : Int), fv f1 B, fv f2 B] 74)) := (Below.refl _ _).alloc (Nat.le_refl _) _
  unfold openB
  by_cases g1 : 0 ≤ i
  · rw [decide_eq_true g1, Bool.true_and]
    by_cases g2 : i < (P : Int)
    · rw [decide_eq_true g2, Bool.true_and]
      obtain ⟨k, rfl⟩ := Int.eq_ofNat_of_zero_le g1
      have hfk := facing_any P k f1 f2 B ys _ p1 (by omega) n2 (q2.below hb)
      obtain ⟨z0, z1, z2, zf, zl⟩ := (Blk.new w #[.int .i64 (P : Int), fv f1 B, fv f2 B] 74).tri
      have hgd := hy _ (getD_mem (xs := ys) (k := P - 1 - k) (by omega))
      have hk : (k : Int).toNat = k := by simp
      rw [hk]
      obtain ⟨u, hu⟩ : ∃ u, ys.getD (P - 1 - k) 0 = u := ⟨_, rfl⟩
      rw [hu] at hfk hgd ⊢
      have HF := Lib.hid hfk
      clear hu hfk hk
      go_enter Try.func86, Try.ntmps86
      go_wp2_with (go_at_call 105; refine HF.out.mono ?_; rintro e w5 ⟨rfl, hb5⟩)
      go_ret
      exact ⟨by first | rfl | (simp; done), from_alloc hb5⟩
    · rw [decide_eq_false g2, Bool.false_and]
      go_enter Try.func86, Try.ntmps86
      go_wp2
      go_ret
      exact ⟨by first | rfl | (simp; done), hb⟩
  · rw [decide_eq_false g1, Bool.false_and]
    go_enter Try.func86, Try.ntmps86
    go_wp2
    go_ret
    exact ⟨by first | rfl | (simp; done), hb⟩
/-- The owner has one checker at a point. -/
def blotB (P : Nat) (xs : List Int) (i : Int) : Bool := decide (0 ≤ i) && (decide (i < (P : Int)) && decide (xs.getD i.toNat 0 = 1))
theorem isBlot_any (P : Nat) (f1 f2 B : Nat) (xs : List Int) (i : Int) (w : World) (p1 : P ≤ 24) (n1 : xs.length = P + 1) (q1 : Pays f1 B xs w) :
    Calls Try.prog 76 #[tv (P : Int) f1 f2 B, .int .i64 i] w fun e w' => e = .returned (.bool (blotB P xs i)) ∧ Below w.heap.size w w' := by
  have hb : Below w.heap.size w (w.alloc (.cells #[.int .i64 (P : Int), fv f1 B, fv f2 B] 74)) := (Below.refl _ _).alloc (Nat.le_refl _) _
  unfold blotB
  by_cases g1 : 0 ≤ i
  · rw [decide_eq_true g1, Bool.true_and]
    by_cases g2 : i < (P : Int)
    · rw [decide_eq_true g2, Bool.true_and]
      obtain ⟨k, rfl⟩ := Int.eq_ofNat_of_zero_le g1
      have e199 := q1.1
      have hpk := (q1.below hb).2 _ (Below.refl _ _) k (by omega)
      obtain ⟨z0, z1, z2, zf, zl⟩ := (Blk.new w #[.int .i64 (P : Int), fv f1 B, fv f2 B] 74).tri
      have hk : (k : Int).toNat = k := by simp
      rw [hk]
      obtain ⟨u, hu⟩ : ∃ u, xs.getD k 0 = u := ⟨_, rfl⟩
      rw [hu] at hpk ⊢
      have HP := Lib.hid hpk
      clear hu hpk hk
      go_enter Try.func76, Try.ntmps76
      go_wp2_with (go_at_fn f1; refine HP.out.mono ?_; rintro e w5 ⟨rfl, hb5⟩)
      go_ret
      exact ⟨by first | rfl | (simp; done), from_alloc hb5⟩
    · rw [decide_eq_false g2, Bool.false_and]
      go_enter Try.func76, Try.ntmps76
      go_wp2
      go_ret
      exact ⟨by first | rfl | (simp; done), hb⟩
  · rw [decide_eq_false g1, Bool.false_and]
    go_enter Try.func76, Try.ntmps76
    go_wp2
    go_ret
    exact ⟨by first | rfl | (simp; done), hb⟩
/-- The motion that a die makes of a checker. -/
def motV (P : Nat) (k d : Int) : Value := if k = (P : Int) then .iface 120 (.agg #[.int .i64 k, .int .i64 d]) else if d ≤ k then .iface 122 (.agg #[.int .i64 k, .int .i64 d]) else .iface 123 (.agg #[.int .i64 k, .int .i64 d])
theorem motionOf_any (P : Nat) (f1 f2 B : Nat) (k d : Int) (w : World) :
    Calls Try.prog 111 #[tv (P : Int) f1 f2 B, .int .i64 k, .int .i64 d] w fun e w' => e = .returned (motV P k d) ∧ Below w.heap.size w w' := by
  have hb : Below w.heap.size w (w.alloc (.cells #[.int .i64 (P : Int), fv f1 B, fv f2 B] 74)) := (Below.refl _ _).alloc (Nat.le_refl _) _
  unfold motV
  by_cases g1 : k = (P : Int)
  · rw [if_pos g1]
    subst g1
    go_enter Try.func111, Try.ntmps111
    go_wp2
    go_ret
    exact ⟨rfl, hb⟩
  · rw [if_neg g1]
    by_cases g2 : d ≤ k
    · rw [if_pos g2]
      go_enter Try.func111, Try.ntmps111
      go_wp2
      go_ret
      exact ⟨rfl, hb⟩
    · rw [if_neg g2]
      go_enter Try.func111, Try.ntmps111
      go_wp2
      go_ret
      exact ⟨rfl, hb⟩
end Go.Proofs.Ytjglempkmenacaa
