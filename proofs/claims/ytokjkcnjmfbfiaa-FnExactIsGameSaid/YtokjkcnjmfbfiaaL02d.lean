/- Contracts of the model's functions on whole boards. -/
import Derived.Test.YtokjkcnjmfbfiaaL02b
import Derived.Test.YtokjkcnjmfbfiaaImpl02d
namespace Go.Proofs.Ytokjkcnjmfbfiaa
open Go.ChangeShapes Go.WideShapes Go.ChangeAt Go.RowKit
set_option linter.unusedVariables false
set_option linter.unusedSimpArgs false
set_option maxRecDepth 4000

theorem lastL_sum (xs : List Int) (hx : ∀ x ∈ xs, 0 ≤ x) : ∀ k : Nat, k ≤ xs.length → (lastL xs k < 0 ↔ (xs.take k).sum = 0)
  | 0, _ => by simp [lastL]
  | k + 1, h => by
    have ih := lastL_sum xs hx k (by omega)
    have h1 := sum_take xs k (by omega)
    have h2 := hx _ (getD_mem (show k < xs.length by omega))
    have h3 := sum_nonneg (xs.take k) (fun x hm => hx x (List.mem_of_mem_take hm))
    have h4 := (lastL_bound xs k).1
    rw [h1, lastL]
    split <;> omega
theorem overB_sum {xs ys : List Int} (hx : ∀ x ∈ xs, 0 ≤ x ∧ x ≤ 1000) (hy : ∀ x ∈ ys, 0 ≤ x ∧ x ≤ 1000) : overB xs ys = (decide (xs.sum = 0) || decide (ys.sum = 0)) := by
  have h1 := lastL_sum xs (fun x h => (hx x h).1) xs.length (Nat.le_refl _)
  have h2 := lastL_sum ys (fun x h => (hy x h).1) ys.length (Nat.le_refl _)
  rw [List.take_length] at h1 h2
  rw [overB, decide_eq_decide.2 h1, decide_eq_decide.2 h2]
set_option maxHeartbeats 1000000 in
theorem l02Over_any (a1 a2 : Option Addr) (n1 n2 c1 c2 : Nat) (xs ys : List Int) (w : World) (h1 : xs.length = n1) (h2 : ys.length = n2) (l1 : n1 ≤ 1000) (l2 : n2 ≤ 1000) (hx : ∀ x ∈ xs, 0 ≤ x ∧ x ≤ 1000) (hy : ∀ x ∈ ys, 0 ≤ x ∧ x ≤ 1000) (r1 : IRow w a1 xs) (r2 : IRow w a2 ys) :
    Calls Try.prog 135 #[.agg #[.slice a1 n1 c1, .slice a2 n2 c2]] w fun e w' => e = .returned (.bool (overB xs ys)) ∧ Below w.heap.size w w' := by
  rw [overB_sum hx hy]
  have hb : Below w.heap.size w (w.alloc (.cells #[.slice a1 n1 c1, .slice a2 n2 c2] 34)) := (Below.refl _ _).alloc (Nat.le_refl _) _
  obtain ⟨y0, y1, yf, yl⟩ := (Blk.new w #[.slice a1 n1 c1, .slice a2 n2 c2] 34).two
  have hs1 := l02Sum_any a1 n1 c1 xs _ h1 l1 hx (r1.below hb)
  have hs2 := l02Sum_any a2 n2 c2 ys _ h2 l2 hy (r2.below hb)
  have HS1 := Lib.hid hs1
  have HS2 := Lib.hid hs2
  clear hs1 hs2
  by_cases d1 : xs.sum = 0
  · have f1 : (xs.sum == 0) = true := by rw [beq_iff_eq]; exact d1
    have f2 : (decide (xs.sum = 0) || decide (ys.sum = 0)) = true := by simp [d1]
    rw [f2]
    clear f2 d1
    go_enter Try.func135, Try.ntmps135
    go_wp2_with (go_at_call 120; refine HS1.out.mono ?_; rintro e w1 ⟨rfl, rfl⟩)
    go_ret
    exact ⟨rfl, hb⟩
  · have f1 : (xs.sum == 0) = false := by rw [beq_eq_false_iff_ne]; exact d1
    have f2 : (decide (xs.sum = 0) || decide (ys.sum = 0)) = decide (ys.sum = 0) := by simp [d1]
    rw [f2]
    clear f2 d1
    go_enter Try.func135, Try.ntmps135
    go_wp2_with (go_at_call 120; with_reducible first | (refine HS1.out.mono ?_; rintro e w1 ⟨rfl, rfl⟩) | (refine HS2.out.mono ?_; rintro e w2 ⟨rfl, rfl⟩))
    go_ret
    exact ⟨by simp <;> rfl, hb⟩
set_option maxHeartbeats 2000000 in
theorem specIsOver_any  (p c h s : Int) (a1 a2 : Option Addr) (n1 n2 c1 c2 : Nat) (xs ys : List Int) (w : World) (h1 : xs.length = n1) (h2 : ys.length = n2) (l1 : n1 ≤ 1048576) (l2 : n2 ≤ 1048576) (r1 : IRow w a1 xs) (r2 : IRow w a2 ys) :
    Calls Try.prog 104 #[.agg #[.int .i64 p, .int .i64 c, .int .i64 h, .int .i64 s], .agg #[.slice a1 n1 c1, .slice a2 n2 c2]] w fun e w' => e = .returned (.bool (isB p c h s xs ys && overB xs ys)) ∧ Below w.heap.size w w' := by
  obtain ⟨BV, BB, hb, hz⟩ := two_new w #[.int .i64 p, .int .i64 c, .int .i64 h, .int .i64 s] #[.slice a1 n1 c1, .slice a2 n2 c2] 32 34
  have hz1 : w.heap.size + 1 < ((w.alloc (.cells #[.int .i64 p, .int .i64 c, .int .i64 h, .int .i64 s] 32)).alloc (.cells #[.slice a1 n1 c1, .slice a2 n2 c2] 34)).heap.size := by rw [hz]; omega
  clear hz
  obtain ⟨x0, x1, x2, x3, xf, xl⟩ := BV.four
  obtain ⟨y0, y1, yf, yl⟩ := BB.two
  by_cases g : isB p c h s xs ys = true
  · rw [g, Bool.true_and]
    obtain ⟨p0, p1, k0, k1, k2, k3, N1, N2, hx, hy, s0, s1, s2, s3⟩ := isB_parts g
    have hB := fun W (q1 : IRow W a1 xs) (q2 : IRow W a2 ys) => specIsBoard_any p c h s a1 a2 n1 n2 c1 c2 xs ys W h1 h2 l1 l2 q1 q2
    simp only [g] at hB
    have HB := Lib.hid hB
    clear hB
    go_enter Try.func104, Try.ntmps104
    go_wp2_with (first | (go_at_call 76; refine (HB.out _ (r1.below hb) (r2.below hb)).mono ?_; rintro e w1 ⟨rfl, hb1⟩; obtain ⟨x0, x1, x2, x3, xf, xl⟩ := (BV.below hb1).four; obtain ⟨y0, y1, yf, yl⟩ := (BB.below hb1).two) | (go_at_call 135; refine (l02Over_any a1 a2 n1 n2 c1 c2 xs ys _ h1 h2 (by omega) (by omega) hx hy (r1.below (chain hb hb1)) (r2.below (chain hb hb1))).mono ?_; rintro e w2 ⟨rfl, hb2⟩))
    go_ret
    exact ⟨rfl, chain (chain hb hb1) hb2⟩
  · rw [show isB p c h s xs ys = false by simpa using g, Bool.false_and]
    replace g : isB p c h s xs ys = false := by simpa using g
    have hB := fun W (q1 : IRow W a1 xs) (q2 : IRow W a2 ys) => specIsBoard_any p c h s a1 a2 n1 n2 c1 c2 xs ys W h1 h2 l1 l2 q1 q2
    simp only [g] at hB
    have HB := Lib.hid hB
    clear hB
    go_enter Try.func104, Try.ntmps104
    go_wp2_with (go_at_call 76; refine (HB.out _ (r1.below hb) (r2.below hb)).mono ?_; rintro e w1 ⟨rfl, hb1⟩; obtain ⟨x0, x1, x2, x3, xf, xl⟩ := (BV.below hb1).four; obtain ⟨y0, y1, yf, yl⟩ := (BB.below hb1).two)
    go_ret
    exact ⟨rfl, chain hb hb1⟩
end Go.Proofs.Ytokjkcnjmfbfiaa
