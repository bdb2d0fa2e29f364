/- Contracts of the program's functions on products of two words. -/
import Derived.Test.YtenbihglmblalaaDoorM09
import Derived.Test.YtenbihglmblalaaDoorShelf
import Derived.Test.YtenbihglmblalaaDoorSrcLaws
import Derived.Test.YtenbihglmblalaaDoorBoardLaws
import Derived.Test.YtenbihglmblalaaDoorStp
import Derived.Lib.MinMax
import Derived.IntWalk
import Derived.Deep.QuietTactic
namespace Go.Proofs.YtenbihglmblalaaDoor
open Go.ChangeShapes Go.WideShapes Go.ChangeAt Go.RowKit
set_option linter.unusedVariables false
set_option linter.unusedSimpArgs false
set_option maxRecDepth 4000

/-- Two words are a magnitude. -/
def WD (hh ll : Int) (m : Nat) : Prop := ∃ h l : Nat, hh = (h : Int) ∧ ll = (l : Int) ∧ h < 18446744073709551616 ∧ l < 18446744073709551616 ∧ h * 18446744073709551616 + l = m
/-- A product is negative. -/
def ngB (a b : Int) : Bool := decide (a < 0) != decide (b < 0)
theorem magnitude_any (n : Int) (h : -9223372036854775807 ≤ n ∧ n ≤ 9223372036854775807) (w : World) :
    Calls Tryd.prog 45 #[.int .i64 n] w fun e w' => e = .returned (.int .u64 ((n.natAbs : Nat) : Int)) ∧ w' = w := by
  obtain ⟨h1, h2⟩ := h
  have e : ((n.natAbs : Nat) : Int) = max n (-n) := by omega
  rw [e]
  go_enter Tryd.func45, Tryd.ntmps45
  go_wp2
  go_ret
  exact ⟨rfl, rfl⟩
set_option maxRecDepth 8000 in
set_option maxHeartbeats 1000000 in
theorem product_any (a b : Int) (ha : -9223372036854775807 ≤ a ∧ a ≤ 9223372036854775807) (hb : -9223372036854775807 ≤ b ∧ b ≤ 9223372036854775807) (w : World) :
    Calls Tryd.prog 23 #[.int .i64 a, .int .i64 b] w fun e w' => ∃ hh ll, e = .returned (.agg #[.bool (ngB a b), .int .u64 hh, .int .u64 ll]) ∧ WD hh ll (a.natAbs * b.natAbs) ∧ Below w.heap.size w w' := by
  have hma := fun W => magnitude_any a ha W
  have hmb := fun W => magnitude_any b hb W
  have hml := fun W => Tryd.bits_Mul64 a.natAbs b.natAbs (by omega) (by omega) W
  have hM : a.natAbs * b.natAbs ≤ 9223372036854775807 * 9223372036854775807 := Nat.mul_le_mul (by omega) (by omega)
  have hW : WD (((a.natAbs * b.natAbs) / 18446744073709551616 : Nat) : Int) (((a.natAbs * b.natAbs) % 18446744073709551616 : Nat) : Int) (a.natAbs * b.natAbs) := by
    refine ⟨_, _, rfl, rfl, ?_, Nat.mod_lt _ (by omega), ?_⟩
    · rw [Nat.div_lt_iff_lt_mul (by omega)]
      omega
    · have := Nat.mod_add_div (a.natAbs * b.natAbs) 18446744073709551616
      omega
  obtain ⟨hh, hhe⟩ : ∃ x : Int, (((a.natAbs * b.natAbs) / 18446744073709551616 : Nat) : Int) = x := ⟨_, rfl⟩
  obtain ⟨ll, lle⟩ : ∃ x : Int, (((a.natAbs * b.natAbs) % 18446744073709551616 : Nat) : Int) = x := ⟨_, rfl⟩
  rw [hhe, lle] at hml hW
  obtain ⟨na, hna⟩ : ∃ x : Int, ((a.natAbs : Nat) : Int) = x := ⟨_, rfl⟩
  obtain ⟨nb, hnb⟩ : ∃ x : Int, ((b.natAbs : Nat) : Int) = x := ⟨_, rfl⟩
  rw [hna] at hma
  rw [hnb] at hmb
  rw [hna, hnb] at hml
  have HA := Lib.hid hma
  have HB := Lib.hid hmb
  have HM := Lib.hid hml
  have HW := Lib.hid hW
  have hbel : Below w.heap.size w (w.alloc (.cells #[.bool (ngB a b), .int .u64 hh, .int .u64 ll] 49)) := (Below.refl _ _).alloc (Nat.le_refl _) _
  clear hma hmb hml hM hW hhe lle hna hnb ha hb
  unfold ngB at *
  go_enter Tryd.func23, Tryd.ntmps23
  go_wp2_with (first | (go_at_call 45; first | refine (HA.out _).mono ?_ | refine (HB.out _).mono ?_); rintro e w1 ⟨rfl, rfl⟩ | (go_at_call 44; refine (HM.out _).mono ?_; rintro e w1 ⟨rfl, rfl⟩))
  refine bodyPost_ret (v := .agg #[.bool (decide (a < 0) != decide (b < 0)), .int .u64 hh, .int .u64 ll]) (by simp [results, Tryd.results23, go_sem] <;> cases decide (a < 0) <;> cases decide (b < 0) <;> rfl) rfl ⟨hh, ll, rfl, HW.out, ?_⟩
  exact hbel
theorem within_any (g : Bool) (hh ll : Int) (m : Nat) (lim : Int) (h : WD hh ll m) (hl : 0 ≤ lim ∧ lim < 18446744073709551616) (w : World) :
    Calls Tryd.prog 42 #[.agg #[.bool g, .int .u64 hh, .int .u64 ll], .int .u64 lim] w fun e w' => e = .returned (.bool (decide ((m : Int) ≤ lim))) ∧ Below w.heap.size w w' := by
  obtain ⟨h, l, rfl, rfl, h1, h2, h3⟩ := h
  have hb : Below w.heap.size w (w.alloc (.cells #[.bool g, .int .u64 (h : Int), .int .u64 (l : Int)] 49)) := (Below.refl _ _).alloc (Nat.le_refl _) _
  obtain ⟨H, hH⟩ : ∃ x : Int, (h : Int) = x := ⟨_, rfl⟩
  obtain ⟨L, hL⟩ : ∃ x : Int, (l : Int) = x := ⟨_, rfl⟩
  obtain ⟨M, hM⟩ : ∃ x : Int, (m : Int) = x := ⟨_, rfl⟩
  rw [hH, hL] at hb ⊢
  rw [hM]
  by_cases c : H = 0
  · have e : decide (M ≤ lim) = decide (L ≤ lim) := by rw [Bool.eq_iff_iff]; simp only [decide_eq_true_eq]; omega
    rw [e]
    subst c
    clear e hH hL hM h1 h2 h3 hl
    go_enter Tryd.func42, Tryd.ntmps42
    go_wp2
    go_ret
    exact ⟨rfl, hb⟩
  · rw [decide_eq_false (by omega)]
    have e : (H == 0) = false := by rw [beq_eq_false_iff_ne]; exact c
    clear hH hL hM h1 h2 h3 hl
    go_enter Tryd.func42, Tryd.ntmps42
    go_wp2
    go_ret
    exact ⟨rfl, hb⟩
/-- A magnitude with its sign. -/
def sgM (g : Bool) (m : Nat) : Int := if g then -(m : Int) else m
theorem narrow_any (g : Bool) (hh ll : Int) (m : Nat) (h : WD hh ll m) (hl : m < 9223372036854775808) (w : World) :
    Calls Tryd.prog 43 #[.agg #[.bool g, .int .u64 hh, .int .u64 ll]] w fun e w' => e = .returned (.int .i64 (sgM g m)) ∧ Below w.heap.size w w' := by
  obtain ⟨h, l, rfl, rfl, h1, h2, h3⟩ := h
  have hb : Below w.heap.size w (w.alloc (.cells #[.bool g, .int .u64 (h : Int), .int .u64 (l : Int)] 49)) := (Below.refl _ _).alloc (Nat.le_refl _) _
  obtain ⟨H, hH⟩ : ∃ x : Int, (h : Int) = x := ⟨_, rfl⟩
  obtain ⟨L, hL⟩ : ∃ x : Int, (l : Int) = x := ⟨_, rfl⟩
  rw [hH, hL] at hb ⊢
  have hLr : 0 ≤ L ∧ L < 9223372036854775808 := by omega
  obtain ⟨l0, l1⟩ := hLr
  have wL : IntKind.i64.wrap L = L := IntWalk.i64_in _ (by omega)
  unfold sgM
  rw [show (m : Int) = L by omega]
  clear hH hL h1 h2 h3 hl
  cases g
  · go_enter Tryd.func43, Tryd.ntmps43
    go_wp2
    go_ret
    exact ⟨rfl, hb⟩
  · go_enter Tryd.func43, Tryd.ntmps43
    go_wp2
    go_ret
    exact ⟨rfl, hb⟩
end Go.Proofs.YtenbihglmblalaaDoor
