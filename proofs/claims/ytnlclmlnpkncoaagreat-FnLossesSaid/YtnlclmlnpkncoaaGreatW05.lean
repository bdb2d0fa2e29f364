/- Texts of a proof, laid together. -/
import Derived.Test.YtnlclmlnpkncoaaGreatW01
import Derived.Test.YtnlclmlnpkncoaaGreatW03
import Derived.Test.YtnlclmlnpkncoaaGreatW02
import Derived.Lib.MinMax
import Derived.IntWalk
import Derived.Deep.QuietTactic
import Derived.Deep.RegionHeld3
import Derived.Outline
import Derived.Test.YtnlclmlnpkncoaaGreatW04
import Derived.BigQuiet
namespace Go.Proofs.YtnlclmlnpkncoaaGreat
open Go.ChangeShapes Go.WideShapes Go.ChangeAt Go.RowKit
set_option linter.unusedVariables false
set_option linter.unusedSimpArgs false
set_option maxRecDepth 4000
def WD (hh ll : Int) (m : Nat) : Prop := ∃ h l : Nat, hh = (h : Int) ∧ ll = (l : Int) ∧ h < 18446744073709551616 ∧ l < 18446744073709551616 ∧ h * 18446744073709551616 + l = m
def ngB (a b : Int) : Bool := decide (a < 0) != decide (b < 0)
theorem magnitude_any (n : Int) (h : -9223372036854775807 ≤ n ∧ n ≤ 9223372036854775807) (w : World) :
    Calls Tryz.prog 105 #[.int .i64 n] w fun e w' => e = .returned (.int .u64 ((n.natAbs : Nat) : Int)) ∧ w' = w := by
  obtain ⟨h1, h2⟩ := h
  have e : ((n.natAbs : Nat) : Int) = max n (-n) := by omega
  rw [e]
  go_enter Tryz.func105, Tryz.ntmps105
  go_wp2
  go_ret
  exact ⟨rfl, rfl⟩
set_option maxRecDepth 8000 in
set_option maxHeartbeats 1000000 in
theorem product_any (a b : Int) (ha : -9223372036854775807 ≤ a ∧ a ≤ 9223372036854775807) (hb : -9223372036854775807 ≤ b ∧ b ≤ 9223372036854775807) (w : World) :
    Calls Tryz.prog 73 #[.int .i64 a, .int .i64 b] w fun e w' => ∃ hh ll, e = .returned (.agg #[.bool (ngB a b), .int .u64 hh, .int .u64 ll]) ∧ WD hh ll (a.natAbs * b.natAbs) ∧ Below w.heap.size w w' := by
  have hma := fun W => magnitude_any a ha W
  have hmb := fun W => magnitude_any b hb W
  have hml := fun W => Tryz.bits_Mul64 a.natAbs b.natAbs (by omega) (by omega) W
  have hM : a.natAbs * b.natAbs ≤ 9223372036854775807 * 9223372036854775807 := Nat.mul_le_mul (by omega) (by omega)
  have hW : WD (((a.natAbs * b.natAbs) / 18446744073709551616 : Nat) : Int) (((a.natAbs * b.natAbs) % 18446744073709551616 : Nat) : Int) (a.natAbs * b.natAbs) := by
    refine ⟨_, _, rfl, rfl, ?_, Nat.mod_lt _ (by omega), ?_⟩
    · rw [Nat.div_lt_iff_lt_mul (by omega)]
      omega
    · have := Nat.mod_add_div (a.natAbs * b.natAbs) 18446744073709551616
      omega
  obtain ⟨hh, hhe⟩ : ∃ x : Int, (((a.natAbs * b.natAbs) / 18446744073709551616 : Nat) : Int) = x := ⟨_, rfl⟩
  obtain ⟨ll, lle⟩ : ∃ x : Int, (((a.natAbs * b.natAbs) % 18446744073709551616 : Nat) : Int) = x := ⟨_, rfl⟩
  rw [hhe, lle] at hml hW
  obtain ⟨na, hna⟩ : ∃ x : Int, ((a.natAbs : Nat) : Int) = x := ⟨_, rfl⟩
  obtain ⟨nb, hnb⟩ : ∃ x : Int, ((b.natAbs : Nat) : Int) = x := ⟨_, rfl⟩
  rw [hna] at hma
  rw [hnb] at hmb
  rw [hna, hnb] at hml
  have HA := Lib.hid hma
  have HB := Lib.hid hmb
  have HM := Lib.hid hml
  have HW := Lib.hid hW
  have hbel : Below w.heap.size w (w.alloc (.cells #[.bool (ngB a b), .int .u64 hh, .int .u64 ll] 123)) := (Below.refl _ _).alloc (Nat.le_refl _) _
  clear hma hmb hml hM hW hhe lle hna hnb ha hb
  unfold ngB at *
  go_enter Tryz.func73, Tryz.ntmps73
  go_wp2_with (first | (go_at_call 105; first | refine (HA.out _).mono ?_ | refine (HB.out _).mono ?_); rintro e w1 ⟨rfl, rfl⟩ | (go_at_call 104; refine (HM.out _).mono ?_; rintro e w1 ⟨rfl, rfl⟩))
  refine bodyPost_ret (v := .agg #[.bool (decide (a < 0) != decide (b < 0)), .int .u64 hh, .int .u64 ll]) (by simp [results, Tryz.results73, go_sem] <;> cases decide (a < 0) <;> cases decide (b < 0) <;> rfl) rfl ⟨hh, ll, rfl, HW.out, ?_⟩
  exact hbel
theorem within_any (g : Bool) (hh ll : Int) (m : Nat) (lim : Int) (h : WD hh ll m) (hl : 0 ≤ lim ∧ lim < 18446744073709551616) (w : World) :
    Calls Tryz.prog 102 #[.agg #[.bool g, .int .u64 hh, .int .u64 ll], .int .u64 lim] w fun e w' => e = .returned (.bool (decide ((m : Int) ≤ lim))) ∧ Below w.heap.size w w' := by
  obtain ⟨h, l, rfl, rfl, h1, h2, h3⟩ := h
  have hb : Below w.heap.size w (w.alloc (.cells #[.bool g, .int .u64 (h : Int), .int .u64 (l : Int)] 123)) := (Below.refl _ _).alloc (Nat.le_refl _) _
  obtain ⟨H, hH⟩ : ∃ x : Int, (h : Int) = x := ⟨_, rfl⟩
  obtain ⟨L, hL⟩ : ∃ x : Int, (l : Int) = x := ⟨_, rfl⟩
  obtain ⟨M, hM⟩ : ∃ x : Int, (m : Int) = x := ⟨_, rfl⟩
  rw [hH, hL] at hb ⊢
  rw [hM]
  by_cases c : H = 0
  · have e : decide (M ≤ lim) = decide (L ≤ lim) := by rw [Bool.eq_iff_iff]; simp only [decide_eq_true_eq]; omega
    rw [e]
    subst c
    clear e hH hL hM h1 h2 h3 hl
    go_enter Tryz.func102, Tryz.ntmps102
    go_wp2
    go_ret
    exact ⟨rfl, hb⟩
  · rw [decide_eq_false (by omega)]
    have e : (H == 0) = false := by rw [beq_eq_false_iff_ne]; exact c
    clear hH hL hM h1 h2 h3 hl
    go_enter Tryz.func102, Tryz.ntmps102
    go_wp2
    go_ret
    exact ⟨rfl, hb⟩
def sgM (g : Bool) (m : Nat) : Int := if g then -(m : Int) else m
theorem narrow_any (g : Bool) (hh ll : Int) (m : Nat) (h : WD hh ll m) (hl : m < 9223372036854775808) (w : World) :
    Calls Tryz.prog 103 #[.agg #[.bool g, .int .u64 hh, .int .u64 ll]] w fun e w' => e = .returned (.int .i64 (sgM g m)) ∧ Below w.heap.size w w' := by
  obtain ⟨h, l, rfl, rfl, h1, h2, h3⟩ := h
  have hb : Below w.heap.size w (w.alloc (.cells #[.bool g, .int .u64 (h : Int), .int .u64 (l : Int)] 123)) := (Below.refl _ _).alloc (Nat.le_refl _) _
  obtain ⟨H, hH⟩ : ∃ x : Int, (h : Int) = x := ⟨_, rfl⟩
  obtain ⟨L, hL⟩ : ∃ x : Int, (l : Int) = x := ⟨_, rfl⟩
  rw [hH, hL] at hb ⊢
  have hLr : 0 ≤ L ∧ L < 9223372036854775808 := by omega
  obtain ⟨l0, l1⟩ := hLr
  have wL : IntKind.i64.wrap L = L := IntWalk.i64_in _ (by omega)
  unfold sgM
  rw [show (m : Int) = L by omega]
  clear hH hL h1 h2 h3 hl
  cases g
  · go_enter Tryz.func103, Tryz.ntmps103
    go_wp2
    go_ret
    exact ⟨rfl, hb⟩
  · go_enter Tryz.func103, Tryz.ntmps103
    go_wp2
    go_ret
    exact ⟨rfl, hb⟩
end Go.Proofs.YtnlclmlnpkncoaaGreat
namespace Go.Proofs.YtnlclmlnpkncoaaGreat
open Go.ChangeShapes Go.WideShapes Go.ChangeAt Go.RowKit
set_option linter.unusedVariables false
set_option linter.unusedSimpArgs false
def vB (p c h s : Int) : Bool := decide (2 ≤ p ∧ p ≤ 24 ∧ 1 ≤ c ∧ c ≤ 15 ∧ 1 ≤ h ∧ h ≤ p ∧ 1 ≤ s ∧ s ≤ 6)
def inB (n lo hi : Int) : Bool := decide (lo ≤ n ∧ n ≤ hi)
theorem vB_iff {p c h s : Int} : vB p c h s = true ↔ (2 ≤ p ∧ p ≤ 24 ∧ 1 ≤ c ∧ c ≤ 15 ∧ 1 ≤ h ∧ h ≤ p ∧ 1 ≤ s ∧ s ≤ 6) := by simp [vB]
theorem l01In_any (n lo hi : Int) (w : World) :
    Calls Tryz.prog 64 #[.int .i64 n, .int .i64 lo, .int .i64 hi] w fun e w' => e = .returned (.bool (inB n lo hi)) ∧ w = w' := by
  by_cases g0 : lo ≤ n
  rotate_left
  · go_enter Tryz.func64, Tryz.ntmps64
    go_wp2
    go_ret
    exact ⟨by simp [inB, *] <;> omega, rfl⟩
  by_cases g1 : n ≤ hi
  rotate_left
  · go_enter Tryz.func64, Tryz.ntmps64
    go_wp2
    go_ret
    exact ⟨by simp [inB, *] <;> omega, rfl⟩
  go_enter Tryz.func64, Tryz.ntmps64
  go_wp2
  go_ret
  exact ⟨by simp [inB, *] <;> omega, rfl⟩
theorem valid_any (p c h s : Int) (w : World) :
    Calls Tryz.prog 67 #[.agg #[.int .i64 p, .int .i64 c, .int .i64 h, .int .i64 s]] w fun e w' => e = .returned (.bool (vB p c h s)) ∧ Below w.heap.size w w' := by
  by_cases g0 : 2 ≤ p
  rotate_left
  · go_enter Tryz.func67, Tryz.ntmps67
    go_wp2
    go_ret
    exact ⟨by simp [vB] <;> omega, by first | exact (Below.refl _ _).alloc (Nat.le_refl _) _ | exact from_alloc hb1 | exact hb1⟩
  by_cases g1 : p ≤ 24
  rotate_left
  · go_enter Tryz.func67, Tryz.ntmps67
    go_wp2
    go_ret
    exact ⟨by simp [vB] <;> omega, by first | exact (Below.refl _ _).alloc (Nat.le_refl _) _ | exact from_alloc hb1 | exact hb1⟩
  by_cases g2 : 1 ≤ c
  rotate_left
  · go_enter Tryz.func67, Tryz.ntmps67
    go_wp2
    go_ret
    exact ⟨by simp [vB] <;> omega, by first | exact (Below.refl _ _).alloc (Nat.le_refl _) _ | exact from_alloc hb1 | exact hb1⟩
  by_cases g3 : c ≤ 15
  rotate_left
  · go_enter Tryz.func67, Tryz.ntmps67
    go_wp2
    go_ret
    exact ⟨by simp [vB] <;> omega, by first | exact (Below.refl _ _).alloc (Nat.le_refl _) _ | exact from_alloc hb1 | exact hb1⟩
  by_cases g4 : 1 ≤ h
  rotate_left
  · go_enter Tryz.func67, Tryz.ntmps67
    go_wp2
    go_ret
    exact ⟨by simp [vB] <;> omega, by first | exact (Below.refl _ _).alloc (Nat.le_refl _) _ | exact from_alloc hb1 | exact hb1⟩
  by_cases g5 : h ≤ p
  rotate_left
  · go_enter Tryz.func67, Tryz.ntmps67
    go_wp2
    go_ret
    exact ⟨by simp [vB] <;> omega, by first | exact (Below.refl _ _).alloc (Nat.le_refl _) _ | exact from_alloc hb1 | exact hb1⟩
  by_cases g6 : 1 ≤ s
  rotate_left
  · go_enter Tryz.func67, Tryz.ntmps67
    go_wp2
    go_ret
    exact ⟨by simp [vB] <;> omega, by first | exact (Below.refl _ _).alloc (Nat.le_refl _) _ | exact from_alloc hb1 | exact hb1⟩
  by_cases g7 : s ≤ 6
  rotate_left
  · go_enter Tryz.func67, Tryz.ntmps67
    go_wp2
    go_ret
    exact ⟨by simp [vB] <;> omega, by first | exact (Below.refl _ _).alloc (Nat.le_refl _) _ | exact from_alloc hb1 | exact hb1⟩
  go_enter Tryz.func67, Tryz.ntmps67
  go_wp2
  go_ret
  exact ⟨by simp [vB] <;> omega, by first | exact (Below.refl _ _).alloc (Nat.le_refl _) _ | exact from_alloc hb1 | exact hb1⟩
theorem specIsVariant_any (p c h s : Int) (w : World) :
    Calls Tryz.prog 31 #[.agg #[.int .i64 p, .int .i64 c, .int .i64 h, .int .i64 s]] w fun e w' => e = .returned (.bool (vB p c h s)) ∧ Below w.heap.size w w' := by
  by_cases g0 : 2 ≤ p
  rotate_left
  · go_enter Tryz.func31, Tryz.ntmps31
    go_wp2
    go_ret
    exact ⟨by simp [vB] <;> omega, by first | exact (Below.refl _ _).alloc (Nat.le_refl _) _ | exact from_alloc hb1 | exact hb1⟩
  by_cases g1 : p ≤ 24
  rotate_left
  · go_enter Tryz.func31, Tryz.ntmps31
    go_wp2
    go_ret
    exact ⟨by simp [vB] <;> omega, by first | exact (Below.refl _ _).alloc (Nat.le_refl _) _ | exact from_alloc hb1 | exact hb1⟩
  by_cases g2 : 1 ≤ c
  rotate_left
  · go_enter Tryz.func31, Tryz.ntmps31
    go_wp2
    go_ret
    exact ⟨by simp [vB] <;> omega, by first | exact (Below.refl _ _).alloc (Nat.le_refl _) _ | exact from_alloc hb1 | exact hb1⟩
  by_cases g3 : c ≤ 15
  rotate_left
  · go_enter Tryz.func31, Tryz.ntmps31
    go_wp2
    go_ret
    exact ⟨by simp [vB] <;> omega, by first | exact (Below.refl _ _).alloc (Nat.le_refl _) _ | exact from_alloc hb1 | exact hb1⟩
  by_cases g4 : 1 ≤ h
  rotate_left
  · go_enter Tryz.func31, Tryz.ntmps31
    go_wp2
    go_ret
    exact ⟨by simp [vB] <;> omega, by first | exact (Below.refl _ _).alloc (Nat.le_refl _) _ | exact from_alloc hb1 | exact hb1⟩
  by_cases g5 : h ≤ p
  rotate_left
  · go_enter Tryz.func31, Tryz.ntmps31
    go_wp2
    go_ret
    exact ⟨by simp [vB] <;> omega, by first | exact (Below.refl _ _).alloc (Nat.le_refl _) _ | exact from_alloc hb1 | exact hb1⟩
  by_cases g6 : 1 ≤ s
  rotate_left
  · go_enter Tryz.func31, Tryz.ntmps31
    go_wp2
    go_ret
    exact ⟨by simp [vB] <;> omega, by first | exact (Below.refl _ _).alloc (Nat.le_refl _) _ | exact from_alloc hb1 | exact hb1⟩
  by_cases g7 : s ≤ 6
  rotate_left
  · go_enter Tryz.func31, Tryz.ntmps31
    go_wp2
    go_ret
    exact ⟨by simp [vB] <;> omega, by first | exact (Below.refl _ _).alloc (Nat.le_refl _) _ | exact from_alloc hb1 | exact hb1⟩
  go_enter Tryz.func31, Tryz.ntmps31
  go_wp2
  go_ret
  exact ⟨by simp [vB] <;> omega, by first | exact (Below.refl _ _).alloc (Nat.le_refl _) _ | exact from_alloc hb1 | exact hb1⟩
def CodeIn (B : Nat) (w : World) (a : Option Addr) (len : Nat) : Prop :=
  ∀ i, i < len → ∃ b o n, a = some ⟨b, o, none⟩ ∧ b < B ∧ w.cell? ⟨b, o + i, none⟩ = some (.int .u8 n) ∧ 0 ≤ n ∧ n ≤ 255
def Src (B : Nat) (w : World) (g : Nat) (a : Option Addr) (len cap : Nat) : Prop :=
  ∃ (k : Nat) (s : Int), Blk w g #[.slice a len cap, .int .i64 k, .int .i64 s] 103 ∧ k ≤ len ∧ 0 ≤ s ∧ s ≤ 2147483646 ∧ B ≤ g ∧ len ≤ 1048576 ∧ CodeIn B w a len
theorem CodeIn.below {B : Nat} {w w' : World} {a : Option Addr} {len : Nat} (h : CodeIn B w a len) (hb : Below B w w') : CodeIn B w' a len := fun i hi => by
  obtain ⟨b, o, n, e, hl, hc, h1, h2⟩ := h i hi
  exact ⟨b, o, n, e, hl, by rw [hb.cell (p := ⟨b, o + i, none⟩) hl]; exact hc, h1, h2⟩
theorem Blk.three {w : World} {g : Nat} {v0 v1 v2 : Value} {t : TypeId} (h : Blk w g #[v0, v1, v2] t) :
    w.cell? ⟨g, 0, none⟩ = some v0 ∧ w.cell? ⟨g, 1, none⟩ = some v1 ∧ w.cell? ⟨g, 2, none⟩ = some v2 ∧ (∀ i, w.frozen? ⟨g, i, none⟩ = false) ∧ g < w.heap.size :=
  ⟨by simpa using h.cell 0, by simpa using h.cell 1, by simpa using h.cell 2, fun i => h.free i, h.lt⟩
theorem blk_step {g : Nat} {a : Option Addr} {len cap : Nat} {w : World} {k : Nat} {s s' : Int} (hB : Blk w g #[.slice a len cap, .int .i64 k, .int .i64 s] 103) (m : Nat) :
    Blk (((w.setCell ⟨g, 2, none⟩ (.int .i64 s')).drewN m).setCell ⟨g, 1, none⟩ (.int .i64 ((k : Int) + 1))) g #[.slice a len cap, .int .i64 ((k + 1 : Nat) : Int), .int .i64 s'] 103 := by
  have := ((hB.set (i := 2) (.int .i64 s')).drewN m).set (i := 1) (.int .i64 ((k : Int) + 1))
  simpa using this
end Go.Proofs.YtnlclmlnpkncoaaGreat
namespace Go.Proofs.YtnlclmlnpkncoaaGreat
open Go.ChangeShapes Go.WideShapes Go.ChangeAt Go.RowKit
set_option linter.unusedVariables false
set_option linter.unusedSimpArgs false
set_option maxRecDepth 4000
theorem div64_both (hi lo y : Nat) (hh : hi < y) (hl : lo < 18446744073709551616) (hy : y < 18446744073709551616) (w : World) :
    Calls Tryz.prog 124 #[.int .u64 (hi : Int), .int .u64 (lo : Int), .int .u64 (y : Int)] w fun e w' => e = .returned (.tuple #[.int .u64 (((hi * 18446744073709551616 + lo) / y : Nat) : Int), .int .u64 (((hi * 18446744073709551616 + lo) % y : Nat) : Int)]) ∧ Below w.heap.size w w' := by
  rcases Nat.eq_zero_or_pos hi with rfl | h0
  · have := div64_zero lo y hl (by omega) hy w
    rw [Nat.zero_mul, Nat.zero_add]
    exact this
  · exact div64_any hi lo y h0 hh hl hy w
theorem two_words (h l d : Nat) (hd : 0 < d) (hl : l < 18446744073709551616) : h / d * 18446744073709551616 + (h % d * 18446744073709551616 + l) / d = (h * 18446744073709551616 + l) / d ∧ (h % d * 18446744073709551616 + l) % d = (h * 18446744073709551616 + l) % d ∧ (h % d * 18446744073709551616 + l) / d < 18446744073709551616 := by
  have e : h * 18446744073709551616 + l = h % d * 18446744073709551616 + l + d * (h / d * 18446744073709551616) := by
    have := Nat.mod_add_div h d
    have h2 : d * (h / d * 18446744073709551616) = d * (h / d) * 18446744073709551616 := by rw [Nat.mul_assoc]
    rw [h2]
    omega
  rw [e]
  refine ⟨?_, ?_, ?_⟩
  · rw [Nat.add_mul_div_left _ _ hd, Nat.add_comm]
  · rw [Nat.add_mul_mod_self_left]
  · have := Nat.mod_lt h hd
    rw [Nat.div_lt_iff_lt_mul hd]
    have h3 := Nat.mul_le_mul_right 18446744073709551616 (show h % d + 1 ≤ d by omega)
    rw [Nat.add_mul] at h3
    rw [Nat.mul_comm 18446744073709551616]
    omega
set_option maxRecDepth 8000 in
set_option maxHeartbeats 2000000 in
theorem divided_any (g : Bool) (hh ll : Int) (m d : Nat) (h : WD hh ll m) (hd : 0 < d ∧ d < 9223372036854775808) (w : World) :
    Calls Tryz.prog 99 #[.agg #[.bool g, .int .u64 hh, .int .u64 ll], .int .i64 (d : Int)] w fun e w' => ∃ h2 l2, e = .returned (.tuple #[.agg #[.bool g, .int .u64 h2, .int .u64 l2], .int .u64 ((m % d : Nat) : Int)]) ∧ WD h2 l2 (m / d) ∧ Below w.heap.size w w' := by
  obtain ⟨h, l, rfl, rfl, h1, h2, rfl⟩ := h
  obtain ⟨q1, q2, q3⟩ := two_words h l d hd.1 h2
  have hA := fun W => div64_both 0 h d hd.1 h1 (by omega) W
  have hB := fun W => div64_both (h % d) l d (Nat.mod_lt _ hd.1) h2 (by omega) W
  rw [Nat.zero_mul, Nat.zero_add] at hA
  have hW : WD ((h / d : Nat) : Int) (((h % d * 18446744073709551616 + l) / d : Nat) : Int) ((h * 18446744073709551616 + l) / d) := ⟨_, _, rfl, rfl, by have := Nat.div_le_self h d; omega, q3, q1⟩
  rw [← q2]
  obtain ⟨Q1, e1⟩ : ∃ x : Int, ((h / d : Nat) : Int) = x := ⟨_, rfl⟩
  obtain ⟨R1, e2⟩ : ∃ x : Int, ((h % d : Nat) : Int) = x := ⟨_, rfl⟩
  obtain ⟨Q2, e3⟩ : ∃ x : Int, (((h % d * 18446744073709551616 + l) / d : Nat) : Int) = x := ⟨_, rfl⟩
  obtain ⟨R2, e4⟩ : ∃ x : Int, (((h % d * 18446744073709551616 + l) % d : Nat) : Int) = x := ⟨_, rfl⟩
  obtain ⟨H, e5⟩ : ∃ x : Int, (h : Int) = x := ⟨_, rfl⟩
  obtain ⟨L, e6⟩ : ∃ x : Int, (l : Int) = x := ⟨_, rfl⟩
  obtain ⟨D, e7⟩ : ∃ x : Int, (d : Int) = x := ⟨_, rfl⟩
  rw [e1, e2, e5, e7] at hA
  rw [e2, e3, e4, e6, e7] at hB
  rw [e1, e3] at hW
  rw [e4, e5, e6, e7]
  have D0 : 0 < D := by omega
  have D1 : D < 9223372036854775808 := by omega
  have HA := Lib.hid hA
  have HB := Lib.hid hB
  have HW := Lib.hid hW
  clear hA hB hW e1 e2 e3 e4 e5 e6 e7 q1 q2 q3 hd h1 h2
  obtain ⟨BW, BO, hb, hz⟩ := two_new w #[.bool g, .int .u64 H, .int .u64 L] #[.bool false, .int .u64 0, .int .u64 0] 123 123
  obtain ⟨x0, x1, x2, xf, xl⟩ := BW.three
  obtain ⟨z0, z1, z2, zf, zl⟩ := BO.three
  go_enter Tryz.func99, Tryz.ntmps99
  go_wp2_with (go_at_call 124; first | (refine (HA.out _).mono ?_; clear HA; rintro e w1 ⟨rfl, hb1⟩; replace BW := BW.below hb1; replace BO := BO.below hb1; replace hb := chain hb hb1; obtain ⟨x0, x1, x2, xf, xl⟩ := BW.three; obtain ⟨z0, z1, z2, zf, zl⟩ := BO.three) | (refine (HB.out _).mono ?_; clear HB; rintro e w2 ⟨rfl, hb2⟩; replace BW := BW.below hb2; replace BO := BO.below hb2; replace hb := chain hb hb2; obtain ⟨x0, x1, x2, xf, xl⟩ := BW.three; obtain ⟨z0, z1, z2, zf, zl⟩ := BO.three))
  have BRn := ((BO.set (i := 0) (.bool g)).set (i := 1) (.int .u64 Q1)).set (i := 2) (.int .u64 Q2)
  obtain ⟨u0, u1, u2, uf, ul⟩ := BRn.three
  refine bodyPost_ret (v := .tuple #[.agg #[.bool g, .int .u64 Q1, .int .u64 Q2], .int .u64 R2]) (by simp [results, Tryz.results99, go_sem, u0, u1, u2]) rfl ?_
  exact ⟨Q1, Q2, rfl, HW.out, ((hb.setCell (by show _ ≤ w.heap.size + 1; omega) _).setCell (by show _ ≤ w.heap.size + 1; omega) _).setCell (by show _ ≤ w.heap.size + 1; omega) _⟩
theorem base_any (b S : Nat) (hS : 1 ≤ S ∧ S ≤ 6) (w : World) (HS : ScM w b S (nn S)) :
    Calls Tryz.prog 100 #[.map (some b)] w fun e w' => e = .returned (.int .i64 ((S * S : Nat) : Int)) ∧ w = w' := by
  have hn := nn_range hS
  have e : scA S (nn S) 1 = ((S * S : Nat) : Int) := by
    unfold scA
    rw [if_pos (by omega)]
    show ((scN S 1 : Nat) : Int) = _
    unfold scN
    rw [Nat.pow_one]
  obtain ⟨B, hB⟩ : ∃ B : Int, ((S * S : Nat) : Int) = B := ⟨_, rfl⟩
  rw [hB] at e ⊢
  have r : (-9223372036854775808 : Int) ≤ 1 ∧ (1 : Int) ≤ 9223372036854775807 := by omega
  go_enter Tryz.func100, Tryz.ntmps100
  go_wp2_with (at_lookup; refine wp_scale _ rfl _ _ rfl b S (nn S) rfl HS _ rfl (r) ?_)
  go_ret
  exact ⟨by rw [← e]; rfl, rfl⟩
theorem hasDepth_any (b S : Nat) (w : World) (HS : ScM w b S (nn S)) (d : Int) (hd : -9223372036854775808 ≤ d ∧ d ≤ 9223372036854775807) :
    Calls Tryz.prog 101 #[.map (some b), .int .i64 d] w fun e w' => e = .returned (.bool (decide (0 ≤ d ∧ d < nn S))) ∧ w = w' := by
  go_enter Tryz.func101, Tryz.ntmps101
  go_wp2_with (at_lookup; refine wp_depth _ rfl _ _ rfl b S (nn S) rfl HS _ rfl (hd) ?_)
  go_ret
  exact ⟨by rw [Bool.decide_and]; rfl, rfl⟩
theorem xvB_depth {S : Nat} {n d : Int} (h : ¬ (0 ≤ d ∧ d < nn S)) : xvB S n d = false := by unfold xvB; rw [decide_eq_false (by omega)]
theorem xvB_num {S : Nat} {n d : Int} (h : inB n (-1000000000000000000) 1000000000000000000 = false) : xvB S n d = false := by
  unfold inB at h
  unfold xvB
  simp only [decide_eq_false_iff_not] at h
  rw [decide_eq_false (by omega)]
theorem xvB_zero {S : Nat} {n : Int} (hS : 1 ≤ S ∧ S ≤ 6) (h : inB n (-1000000000000000000) 1000000000000000000 = true) : xvB S n 0 = true := by
  unfold inB at h
  unfold xvB
  have := nn_range hS
  simp only [decide_eq_true_eq] at h
  rw [decide_eq_true (by omega)]
theorem xvB_rest {S : Nat} {n d : Int} (h0 : d ≠ 0) (h1 : 0 ≤ d ∧ d < nn S) (h : inB n (-1000000000000000000) 1000000000000000000 = true) : xvB S n d = decide (n.tmod ((S * S : Nat) : Int) ≠ 0) := by
  unfold inB at h
  simp only [decide_eq_true_eq] at h
  unfold xvB
  have e : n.tmod ((S * S : Nat) : Int) = 0 ↔ n % ((S * S : Nat) : Int) = 0 := by rw [← Int.dvd_iff_tmod_eq_zero, Int.dvd_iff_emod_eq_zero]
  rw [Bool.eq_iff_iff]
  simp only [decide_eq_true_eq, ne_eq, e]
  constructor
  · intro g; rcases g.2.2.2.2 with g | g
    · exact absurd g h0
    · exact g
  · intro g; exact ⟨h1.1, h1.2, h.1, h.2, .inr g⟩
theorem Blk.set2 {w : World} {B : Nat} {a b : Value} {t : TypeId} (h : Blk w B #[a, b] t) (x y : Value) : Blk ((w.setCell ⟨B, 0, none⟩ x).setCell ⟨B, 1, none⟩ y) B #[x, y] t := by
  have := (h.set (i := 0) x).set (i := 1) y
  simp only [List.setIfInBounds_toArray, List.set_cons_zero, List.set_cons_succ] at this
  exact this
theorem Blk.set3 {w : World} {B : Nat} {a b c : Value} {t : TypeId} (h : Blk w B #[a, b, c] t) (x y z : Value) : Blk (((w.setCell ⟨B, 0, none⟩ x).setCell ⟨B, 1, none⟩ y).setCell ⟨B, 2, none⟩ z) B #[x, y, z] t := by
  have := ((h.set (i := 0) x).set (i := 1) y).set (i := 2) z
  simp only [List.setIfInBounds_toArray, List.set_cons_zero, List.set_cons_succ] at this
  exact this
theorem Blk.far2 {w : World} {g B : Nat} {vs : Array Value} {t : TypeId} (h : Blk w g vs t) (hne : g ≠ B) (x y : Value) : Blk ((w.setCell ⟨B, 0, none⟩ x).setCell ⟨B, 1, none⟩ y) g vs t :=
  (h.other (g := B) (o := 0) (v := x) (by omega)).other (g := B) (o := 1) (v := y) (by omega)
theorem Blk.far3 {w : World} {g B : Nat} {vs : Array Value} {t : TypeId} (h : Blk w g vs t) (hne : g ≠ B) (x y z : Value) : Blk (((w.setCell ⟨B, 0, none⟩ x).setCell ⟨B, 1, none⟩ y).setCell ⟨B, 2, none⟩ z) g vs t :=
  (h.far2 hne x y).other (g := B) (o := 2) (v := z) (by omega)
theorem ScM.far2 {w : World} {b S n B : Nat} (h : ScM w b S n) (hne : b ≠ B) (x y : Value) : ScM ((w.setCell ⟨B, 0, none⟩ x).setCell ⟨B, 1, none⟩ y) b S n :=
  World.ownsMap.setCell (World.ownsMap.setCell h (a := ⟨B, 0, none⟩) hne x) (a := ⟨B, 1, none⟩) hne y
theorem ScM.far3 {w : World} {b S n B : Nat} (h : ScM w b S n) (hne : b ≠ B) (x y z : Value) : ScM (((w.setCell ⟨B, 0, none⟩ x).setCell ⟨B, 1, none⟩ y).setCell ⟨B, 2, none⟩ z) b S n :=
  World.ownsMap.setCell (h.far2 hne x y) (a := ⟨B, 2, none⟩) hne z
theorem belowFar2 {w w' : World} {m B : Nat} (h : Below m w w') (hB : m ≤ B) (x y : Value) : Below m w ((w'.setCell ⟨B, 0, none⟩ x).setCell ⟨B, 1, none⟩ y) :=
  (h.setCell (p := ⟨B, 0, none⟩) hB x).setCell (p := ⟨B, 1, none⟩) hB y
theorem belowFar3 {w w' : World} {m B : Nat} (h : Below m w w') (hB : m ≤ B) (x y z : Value) : Below m w (((w'.setCell ⟨B, 0, none⟩ x).setCell ⟨B, 1, none⟩ y).setCell ⟨B, 2, none⟩ z) :=
  (belowFar2 h hB x y).setCell (p := ⟨B, 2, none⟩) hB z
end Go.Proofs.YtnlclmlnpkncoaaGreat
