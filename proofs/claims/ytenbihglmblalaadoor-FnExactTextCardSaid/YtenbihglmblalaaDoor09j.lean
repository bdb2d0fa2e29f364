/- Contracts of the program's products and sums of exact numbers. -/
import Derived.Test.YtenbihglmblalaaDoor09f
import Derived.Test.YtenbihglmblalaaDoor09g
namespace Go.Proofs.YtenbihglmblalaaDoor
open Go.ChangeShapes Go.WideShapes Go.ChangeAt Go.RowKit
set_option linter.unusedVariables false
set_option linter.unusedSimpArgs false
set_option maxRecDepth 4000

theorem ngB_mul {a b : Int} (h : a * b ≠ 0) : ngB a b = decide (a * b < 0) := by
  have ha : a ≠ 0 := fun e => h (by rw [e, Int.zero_mul])
  have hb : b ≠ 0 := fun e => h (by rw [e, Int.mul_zero])
  unfold ngB
  by_cases ga : a < 0
  · by_cases gb : b < 0
    · have := Int.mul_pos_of_neg_of_neg ga gb
      rw [decide_eq_true ga, decide_eq_true gb, decide_eq_false (by omega)]
      rfl
    · have := Int.mul_neg_of_neg_of_pos ga (show 0 < b by omega)
      rw [decide_eq_true ga, decide_eq_false gb, decide_eq_true this]
      rfl
  · by_cases gb : b < 0
    · have := Int.mul_neg_of_pos_of_neg (show 0 < a by omega) gb
      rw [decide_eq_false ga, decide_eq_true gb, decide_eq_true this]
      rfl
    · have := Int.mul_pos (show 0 < a by omega) (show 0 < b by omega)
      rw [decide_eq_false ga, decide_eq_false gb, decide_eq_false (by omega)]
      rfl
theorem rdN_zero (B : Nat) : ∀ D, (rdN B 0 D).1 = 0
  | 0 => rfl
  | D + 1 => by rw [rdN_go (Nat.zero_mod _), Nat.zero_div, rdN_zero B D]
theorem rdG_sign {S : Nat} {g : Bool} {N : Int} {D : Nat} (h : N ≠ 0 → g = decide (N < 0)) : rdG S g N.natAbs D = rdX S N D := by
  unfold rdG rdX
  have e : sgM g (rdN (S * S) N.natAbs D).1 = sgI N (rdN (S * S) N.natAbs D).1 := by
    by_cases h0 : N = 0
    · subst h0
      rw [Int.natAbs_zero, rdN_zero]
      unfold sgM sgI
      cases g <;> rfl
    · rw [h h0]
      unfold sgM sgI
      by_cases q : N < 0
      · rw [decide_eq_true q, if_pos rfl, if_pos q]
      · rw [decide_eq_false q, if_neg q]; rfl
  rw [e]
theorem rdG_mul (S : Nat) (a b : Int) (D : Nat) : rdG S (ngB a b) (a.natAbs * b.natAbs) D = rdX S (a * b) D := by
  rw [← Int.natAbs_mul]
  exact rdG_sign ngB_mul
theorem sgM_mul (a b : Int) : sgM (ngB a b) (a.natAbs * b.natAbs) = a * b := by
  rw [← Int.natAbs_mul]
  unfold sgM
  by_cases h : a * b = 0
  · rw [h]; cases ngB a b <;> rfl
  · rw [ngB_mul h]
    by_cases q : a * b < 0
    · rw [decide_eq_true q, if_pos rfl]; omega
    · rw [decide_eq_false q, if_neg (by simp)]; omega
/-- A number that a function hands back, with its code. -/
def xo3 (o : Option (Int × Int)) (c : Int) : Int × Int × Int := match o with | some r => (r.1, r.2, 0) | none => (0, 0, c)
theorem xo3_1 (o : Option (Int × Int)) (c : Int) : xoN o = (xo3 o c).1 := by cases o <;> rfl
theorem xo3_2 (o : Option (Int × Int)) (c : Int) : xoD o = (xo3 o c).2.1 := by cases o <;> rfl
theorem xo3_3 (o : Option (Int × Int)) (c : Int) : xoE o c = (xo3 o c).2.2 := by cases o <;> rfl
abbrev xoV (r : Int × Int × Int) : Value := .tuple #[.agg #[.int .i64 r.1, .int .i64 r.2.1], .int .i64 r.2.2]
theorem product_reduced (b S : Nat) (hS : 1 ≤ S ∧ S ≤ 6) (x k : Int) (D : Nat) (hD : D ≤ nn S) (W : World) (hh ll : Int) (HS : ScM W b S (nn S)) (HWD : WD hh ll (x.natAbs * k.natAbs)) :
    Calls Tryd.prog 22 #[.map (some b), .agg #[.bool (ngB x k), .int .u64 hh, .int .u64 ll], .int .i64 (D : Int)] W fun e w' => e = .returned (xoV (xo3 (rdX S (x * k) D) 3)) ∧ Below W.heap.size W w' := by
  have h := reduced_any b S hS (ngB x k) hh ll (x.natAbs * k.natAbs) D W HS HWD hD
  rw [rdG_mul, xo3_1 _ 3, xo3_2 _ 3, xo3_3] at h
  exact h
end Go.Proofs.YtenbihglmblalaaDoor
