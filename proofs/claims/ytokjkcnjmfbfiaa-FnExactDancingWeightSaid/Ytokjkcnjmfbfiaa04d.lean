/- Contract of the program's legal step from a place. -/
import Derived.Test.Ytokjkcnjmfbfiaa04c
namespace Go.Proofs.Ytokjkcnjmfbfiaa
open Go.ChangeShapes Go.WideShapes Go.ChangeAt Go.RowKit
set_option linter.unusedVariables false
set_option linter.unusedSimpArgs false
set_option maxRecDepth 4000

theorem stepFrom_any (P : Nat) (c h s : Int) (f1 f2 B : Nat) (xs ys : List Int) (w : World) (p0 : 2 ≤ P) (p1 : P ≤ 24) (n1 : xs.length = P + 1) (n2 : ys.length = P + 1) (hx : ∀ x ∈ xs, 0 ≤ x ∧ x ≤ 1000) (hy : ∀ y ∈ ys, 0 ≤ y ∧ y ≤ 1000) (q1 : Pays f1 B xs w) (q2 : Pays f2 B ys w) (k : Nat) (d : Int) (k1 : k ≤ P) (d0 : 1 ≤ d) (d1 : d ≤ 1000) :
    Calls Try.prog 160 #[.agg #[.int .i64 (P : Int), .int .i64 c, .int .i64 h, .int .i64 s], tv (P : Int) f1 f2 B, .int .i64 (k : Int), .int .i64 d] w (StepGot (stepI P h xs ys k d) w) := by
  unfold stepI
  by_cases g0 : xs.getD k 0 = 0
  · rw [if_pos g0]
    exact stepFrom_none P c h s f1 f2 B xs ys w p0 p1 n1 n2 hx hy q1 q2 k d k1 g0
  rw [if_neg g0]
  have A1 : ∀ i : Int, openB P ys i = true → 0 ≤ i ∧ i < (P : Int) := fun i hi => by simp [openB] at hi; exact ⟨hi.1, hi.2.1⟩
  have D1 : ∀ t : Nat, decide ((t : Int) ≠ -1) = true := fun t => by simp
  unfold alB toI
  by_cases hk : k = P
  · subst hk
    simp only [if_true, true_or]
    cases hal : openB k ys ((k : Int) - d) with
    | false => exact stepFrom_enter_false k c h s f1 f2 B xs ys w p0 p1 n1 n2 hx hy q1 q2 d d0 d1 g0 hal
    | true =>
      obtain ⟨t0, t1⟩ := A1 _ hal
      obtain ⟨t, ht⟩ := Int.eq_ofNat_of_zero_le t0
      have q := stepFrom_enter_true k c h s f1 f2 B xs ys w p0 p1 n1 n2 hx hy q1 q2 d d0 d1 g0 hal t _ ht (by omega) rfl
      rw [if_pos rfl, ht, D1, Bool.true_and]
      exact q
  · rw [if_neg hk]
    by_cases hd : d ≤ (k : Int)
    · rw [if_pos hd, if_pos (Or.inr hd)]
      cases hal : (decide (lastL xs xs.length < (P : Int)) && openB P ys ((k : Int) - d)) with
      | false => exact stepFrom_move_false P c h s f1 f2 B xs ys w p0 p1 n1 n2 hx hy q1 q2 k d k1 d0 d1 g0 hk hd hal
      | true =>
        obtain ⟨t0, t1⟩ := A1 _ ((Bool.and_eq_true _ _).mp hal).2
        obtain ⟨t, ht⟩ := Int.eq_ofNat_of_zero_le t0
        have q := stepFrom_move_true P c h s f1 f2 B xs ys w p0 p1 n1 n2 hx hy q1 q2 k d k1 d0 d1 g0 hk hd hal t _ ht (by omega) rfl
        rw [if_pos rfl, ht, D1, Bool.true_and]
        exact q
    · rw [if_neg hd, if_neg (show ¬(k = P ∨ d ≤ (k : Int)) by simp [hk, hd])]
      cases hal : (decide (lastL xs xs.length < h) && (decide ((k : Int) = d - 1) || decide ((k : Int) = lastL xs xs.length))) with
      | false => exact stepFrom_off_false P c h s f1 f2 B xs ys w p0 p1 n1 n2 hx hy q1 q2 k d k1 d0 d1 g0 hk (by omega) hal
      | true => exact stepFrom_off_true P c h s f1 f2 B xs ys w p0 p1 n1 n2 hx hy q1 q2 k d k1 d0 d1 g0 hk (by omega) hal
end Go.Proofs.Ytokjkcnjmfbfiaa
