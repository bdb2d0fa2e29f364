/- Contracts of the model's functions on whole boards. -/
import Derived.Test.YtjglempkmenacaaL02b
import Derived.Test.YtjglempkmenacaaImpl02d
namespace Go.Proofs.Ytjglempkmenacaa
open Go.ChangeShapes Go.WideShapes Go.ChangeAt Go.RowKit
set_option linter.unusedVariables false
set_option linter.unusedSimpArgs false
set_option maxRecDepth 4000

theorem lastL_sum (xs : List Int) (hx : ∀ x ∈ xs, 0 ≤ x) : ∀ k : Nat, k ≤ xs.length → (lastL xs k < 0 ↔ (xs.take k).sum = 0)
  | 0, _ => by simp [lastL]
  | k + 1, h => by
    have ih := lastL_sum xs hx k (by omega)
    have h1 := sum_take xs k (by omega)
    have h2 := hx _ (getD_mem (show k < xs.length by omega))
    have h3 := sum_nonneg (xs.take k) (fun x hm => hx x (List.mem_of_mem_take hm))
    have h4 := (lastL_bound xs k).1
    rw [h1, lastL]
    split <;> omega
theorem overB_sum {xs ys : List Int} (hx : ∀ x ∈ xs, 0 ≤ x ∧ x ≤ 1000) (hy : ∀ x ∈ ys, 0 ≤ x ∧ x ≤ 1000) : overB xs ys = (decide (xs.sum = 0) || decide (ys.sum = 0)) := by
  have h1 := lastL_sum xs (fun x h => (hx x h).1) xs.length (Nat.le_refl _)
  have h2 := lastL_sum ys (fun x h => (hy x h).1) ys.length (Nat.le_refl _)
  rw [List.take_length] at h1 h2
  rw [overB, decide_eq_decide.2 h1, decide_eq_decide.2 h2]
set_option maxHeartbeats 1000000 in
theorem l02Over_any (a1 a2 : Option Addr) (n1 n2 c1 c2 : Nat) (xs ys : List Int) (w : World) (h1 : xs.length = n1) (h2 : ys.length = n2) (l1 : n1 ≤ 1000) (l2 : n2 ≤ 1000) (hx : ∀ x ∈ xs, 0 ≤ x ∧ x ≤ 1000) (hy : ∀ x ∈ ys, 0 ≤ x ∧ x ≤ 1000) (r1 : IRow w a1 xs) (r2 : IRow w a2 ys) :
    Calls Try.prog 113 #[.agg #[.slice a1 n1 c1, .slice a2 n2 c2]] w fun e w' => e = .returned (.bool (overB xs ys)) ∧ Below w.heap.size w w' := by
  rw [overB_sum hx hy]
  have hb : Below w.heap.size w (w.alloc (.cells #[.slice a1 n1 c1, .slice a2 n2 c2] 28)) := (Below.refl _ _).alloc (Nat.le_refl _) _
  obtain ⟨y0, y1, yf, yl⟩ := (Blk.new w #[.slice a1 n1 c1, .slice a2 n2 c2] 28).two
  have hs1 := l02Sum_any a1 n1 c1 xs _ h1 l1 hx (r1.below hb)
  have hs2 := l02Sum_any a2 n2 c2 ys _ h2 l2 hy (r2.below hb)
  have HS1 := Lib.hid hs1
  have HS2 := Lib.hid hs2
  clear hs1 hs2
  by_cases d1 : xs.sum = 0
  · have f1 : (xs.sum == 0) = true := by rw [beq_iff_eq]; exact d1
    have f2 : (decide (xs.sum = 0) || decide (ys.sum = 0)) = true := by simp [d1]
    rw [f2]
    clear f2 d1
    go_enter Try.func113, Try.ntmps113
    go_wp2_with (go_at_call 66; refine HS1.out.mono ?_; rintro e w1 ⟨rfl, rfl⟩)
    go_ret
    exact ⟨rfl, hb⟩
  · have f1 : (xs.sum == 0) = false := by rw [beq_eq_false_iff_ne]; exact d1
    have f2 : (decide (xs.sum = 0) || decide (ys.sum = 0)) = decide (ys.sum = 0) := by simp [d1]
    rw [f2]
    clear f2 d1
    go_enter Try.func113, Try.ntmps113
    go_wp2_with (go_at_call 66; with_reducible first | (refine HS1.out.mono ?_; rintro e w1 ⟨rfl, rfl⟩) | (refine HS2.out.mono ?_; rintro e w2 ⟨rfl, rfl⟩))
    go_ret
    exact ⟨by simp <;> rfl, hb⟩
end Go.Proofs.Ytjglempkmenacaa
