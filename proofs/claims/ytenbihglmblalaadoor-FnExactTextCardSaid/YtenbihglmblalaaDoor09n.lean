/- Contracts of the model's greatest common divisor and of its products. -/
import Derived.Test.YtenbihglmblalaaDoor09a
import Derived.Test.YtenbihglmblalaaDoorM09
import Derived.Test.YtenbihglmblalaaDoorL01a
import Derived.Lib.MinMax
import Derived.IntWalk
import Derived.Deep.LoopGhost
namespace Go.Proofs.YtenbihglmblalaaDoor
open Go.ChangeShapes Go.WideShapes Go.ChangeAt Go.RowKit
set_option linter.unusedVariables false
set_option linter.unusedSimpArgs false
set_option maxRecDepth 4000

set_option maxRecDepth 8000 in
set_option maxHeartbeats 1000000 in
theorem l09Gcd_any (a b : Int) (ha : -9223372036854775807 ≤ a ∧ a ≤ 9223372036854775807) (hb : -9223372036854775807 ≤ b ∧ b ≤ 9223372036854775807) (w : World) :
    Calls Tryd.prog 65 #[.int .i64 a, .int .i64 b] w fun e w' => e = .returned (.int .i64 ((Int.gcd a b : Nat) : Int)) ∧ w = w' := by
  obtain ⟨g, hg⟩ : ∃ g, Int.gcd a b = g := ⟨_, rfl⟩
  have hg2 : Nat.gcd a.natAbs b.natAbs = g := hg
  rw [hg]
  have hx : a.natAbs < 9223372036854775808 := by omega
  have hy : b.natAbs < 9223372036854775808 := by omega
  have e1 : ((a.natAbs : Nat) : Int) = max a (-a) := by omega
  have e2 : ((b.natAbs : Nat) : Int) = max b (-b) := by omega
  obtain ⟨a1, a2⟩ := ha
  obtain ⟨b1, b2⟩ := hb
  have wa : IntKind.i64.wrap (-a) = -a := IntWalk.i64_in _ (by omega)
  have wb : IntKind.i64.wrap (-b) = -b := IntWalk.i64_in _ (by omega)
  have E1 := Lib.hid e1
  have E2 := Lib.hid e2
  have X := Lib.hid hx
  have Y := Lib.hid hy
  clear e1 e2 hx hy hg
  go_enter Tryd.func65, Tryd.ntmps65
  go_wp2_with fail
  go_loopg [0, 1] b.natAbs (fun m q0 q1 wr => ∃ (x y : Nat) (A B : Int), m = y ∧ q0 = .int .i64 A ∧ q1 = .int .i64 B ∧ Hid (A = (x : Int)) ∧ Hid (B = (y : Int)) ∧ Nat.gcd x y = g ∧ Hid (x < 9223372036854775808) ∧ Hid (y < 9223372036854775808) ∧ wr = w)
  case atStart => exact ⟨a.natAbs, b.natAbs, max a (-a), max b (-b), rfl, rfl, rfl, Lib.hid E1.out.symm, Lib.hid E2.out.symm, hg2, X, Y, rfl⟩
  case round =>
    clear X Y E1 E2 hg2
    obtain ⟨x, y, A, B, hm, rfl, rfl, HA, HB, hgg, HX, HY, rfl⟩ := hrel
    have A0 : 0 ≤ A ∧ A < 9223372036854775808 := by have := HA.out; have := HX.out; omega
    have B0 : 0 ≤ B ∧ B < 9223372036854775808 := by have := HB.out; have := HY.out; omega
    obtain ⟨A1, A2⟩ := A0
    obtain ⟨B1, B2⟩ := B0
    by_cases hy : y = 0
    · have hB0 : B = 0 := by have := HB.out; omega
      subst hB0
      have eg : A = (g : Int) := by rw [HA.out, ← hgg, hy, Nat.gcd_zero_right]
      subst eg
      clear hgg hy hm
      go_wp2
      go_ret
      exact ⟨rfl, rfl⟩
    · have hB0 : B ≠ 0 := by have := HB.out; omega
      have f0 : (B == 0) = false := by rw [beq_eq_false_iff_ne]; exact hB0
      have HR : Hid (A % B = ((x % y : Nat) : Int)) := Lib.hid (by rw [HA.out, HB.out]; rfl)
      have hgg2 : Nat.gcd y (x % y) = g := by rw [← hgg, Nat.gcd_comm x y, Nat.gcd_rec y x, Nat.gcd_comm]
      have hlt := Nat.mod_lt x (show 0 < y by omega)
      have G2 := Lib.hid hgg2
      clear hgg hgg2
      go_wp2
      go_roundg (x % y)
      case measure => omega
      case rel => exact ⟨y, x % y, B, A % B, rfl, rfl, rfl, HB, HR, G2.out, HY, Lib.hid (by have := HY.out; omega), rfl⟩
/-- A product that is not too large. -/
def tmV (a b : Int) : Int := if (a * b).natAbs ≤ 1000000000000000000 then a * b else 0
def tmB (a b : Int) : Bool := decide ((a * b).natAbs ≤ 1000000000000000000)
set_option maxRecDepth 8000 in
set_option maxHeartbeats 1000000 in
theorem l09Times_any (a b : Int) (ha : -9223372036854775807 ≤ a ∧ a ≤ 9223372036854775807) (hb : -9223372036854775807 ≤ b ∧ b ≤ 9223372036854775807) (w : World) :
    Calls Tryd.prog 66 #[.int .i64 a, .int .i64 b] w fun e w' => e = .returned (.tuple #[.int .i64 (tmV a b), .bool (tmB a b)]) ∧ w = w' := by
  obtain ⟨rV, hrV⟩ : ∃ x, tmV a b = x := ⟨_, rfl⟩
  obtain ⟨rB, hrB⟩ : ∃ x, tmB a b = x := ⟨_, rfl⟩
  rw [hrV, hrB]
  unfold tmV at hrV
  unfold tmB at hrB
  by_cases a0 : a = 0
  · have hz : a * b = 0 := by rw [a0, Int.zero_mul]
    rw [hz] at hrV hrB
    obtain rfl : rV = 0 := by rw [← hrV]; rfl
    obtain rfl : rB = true := by rw [← hrB]; rfl
    subst a0
    clear hrV hrB hz
    go_enter Tryd.func66, Tryd.ntmps66
    go_wp2
    go_ret2
    exact ⟨rfl, rfl⟩
  · have fa : (a == 0) = false := by rw [beq_eq_false_iff_ne]; exact a0
    by_cases b0 : b = 0
    · have hz : a * b = 0 := by rw [b0, Int.mul_zero]
      rw [hz] at hrV hrB
      obtain rfl : rV = 0 := by rw [← hrV]; rfl
      obtain rfl : rB = true := by rw [← hrB]; rfl
      subst b0
      clear hrV hrB hz
      go_enter Tryd.func66, Tryd.ntmps66
      go_wp2
      go_ret2
      exact ⟨rfl, rfl⟩
    · have fb : (b == 0) = false := by rw [beq_eq_false_iff_ne]; exact b0
      have fa2 : (a != 0) = true := by rw [bne, fa]; rfl
      have fb2 : (b != 0) = true := by rw [bne, fb]; rfl
      obtain ⟨a1, a2⟩ := ha
      obtain ⟨b1, b2⟩ := hb
      have wa : IntKind.i64.wrap (-a) = -a := IntWalk.i64_in _ (by omega)
      have wb : IntKind.i64.wrap (-b) = -b := IntWalk.i64_in _ (by omega)
      obtain ⟨MA, hMA, HMA⟩ : ∃ x, max a (-a) = x ∧ Hid (x = ((a.natAbs : Nat) : Int)) := ⟨_, rfl, Lib.hid (by omega)⟩
      obtain ⟨MB, hMB, HMB⟩ : ∃ x, max b (-b) = x ∧ Hid (x = ((b.natAbs : Nat) : Int)) := ⟨_, rfl, Lib.hid (by omega)⟩
      have MB0 : MB ≠ 0 := by have := HMB.out; omega
      have MB1 : 0 < MB := by have := HMB.out; omega
      obtain ⟨Q, hQ, HQ, Q0, Q1⟩ : ∃ x, (1000000000000000000 : Int) / MB = x ∧ Hid (x = ((1000000000000000000 / b.natAbs : Nat) : Int)) ∧ 0 ≤ x ∧ x ≤ 1000000000000000000 := by
        have h1 := HMB.out
        refine ⟨_, rfl, Lib.hid (by rw [h1]; rfl), ?_, ?_⟩
        · exact Int.ediv_nonneg (by omega) (by omega)
        · exact Int.ediv_le_self _ (by omega)
      have hQt : (1000000000000000000 : Int).tdiv MB = Q := by rw [← hQ]; exact Int.tdiv_eq_ediv_of_nonneg (by omega)
      have wQ : IntKind.i64.wrap Q = Q := IntWalk.i64_in _ (by omega)
      have hiff : (a * b).natAbs ≤ 1000000000000000000 ↔ ¬ Q < MA := by
        rw [HMA.out, HQ.out, Int.natAbs_mul, ← Nat.le_div_iff_mul_le (by omega)]
        omega
      by_cases c : Q < MA
      · rw [if_neg (fun q => (hiff.1 q) c)] at hrV
        rw [decide_eq_false (fun q => (hiff.1 q) c)] at hrB
        subst hrV hrB
        clear hiff
        go_enter Tryd.func66, Tryd.ntmps66
        go_wp2
        go_ret2
        exact ⟨rfl, rfl⟩
      · have hle := hiff.2 c
        rw [if_pos hle] at hrV
        rw [decide_eq_true hle] at hrB
        have wp : IntKind.i64.wrap (a * b) = rV := by rw [← hrV]; exact IntWalk.i64_in _ (by omega)
        have wp2 : wrap64 (a * b) = rV := (IntWalk.i64_left (a * b)).symm.trans wp
        subst hrB
        clear hiff hle hrV
        go_enter Tryd.func66, Tryd.ntmps66
        go_wp2
        go_ret2
        exact ⟨rfl, rfl⟩
end Go.Proofs.YtenbihglmblalaaDoor
