/- Contracts of the model's functions on whole boards. -/
import Derived.Test.YtdciiocmddlhfaaL02b
import Derived.Test.YtdciiocmddlhfaaImpl02d
namespace Go.Proofs.Ytdciiocmddlhfaa
open Go.ChangeShapes Go.WideShapes Go.ChangeAt Go.RowKit
set_option linter.unusedVariables false
set_option linter.unusedSimpArgs false
set_option maxRecDepth 4000

set_option maxHeartbeats 2000000 in
theorem l02Contact_any (p c h s : Int) (a1 a2 : Option Addr) (n1 n2 c1 c2 : Nat) (xs ys : List Int) (w : World) (h1 : xs.length = n1) (h2 : ys.length = n2) (l1 : n1 ≤ 1048576) (l2 : n2 ≤ 1048576) (r1 : IRow w a1 xs) (r2 : IRow w a2 ys) (p0 : 2 ≤ p) (p1 : p ≤ 24) (N1 : (xs.length : Int) = p + 1) (N2 : (ys.length : Int) = p + 1) :
    Calls Try.prog 17 #[.agg #[.int .i64 p, .int .i64 c, .int .i64 h, .int .i64 s], .agg #[.slice a1 n1 c1, .slice a2 n2 c2]] w fun e w' => e = .returned (.bool (contB p xs ys)) ∧ Below w.heap.size w w' := by
  obtain ⟨BV, BB, hb, hz⟩ := two_new w #[.int .i64 p, .int .i64 c, .int .i64 h, .int .i64 s] #[.slice a1 n1 c1, .slice a2 n2 c2] 29 26
  have hz1 : w.heap.size + 1 < ((w.alloc (.cells #[.int .i64 p, .int .i64 c, .int .i64 h, .int .i64 s] 29)).alloc (.cells #[.slice a1 n1 c1, .slice a2 n2 c2] 26)).heap.size := by rw [hz]; omega
  clear hz
  obtain ⟨x0, x1, x2, x3, xf, xl⟩ := BV.four
  obtain ⟨y0, y1, yf, yl⟩ := BB.two
  have e0 : contB p xs ys = (!(decide (lastL xs n1 < 0) || decide (lastL ys n2 < 0)) && decide (p ≤ lastL xs n1 + lastL ys n2)) := by rw [contB, overB, h1, h2]
  rw [e0]
  clear e0
  have hL1 := fun W (hr : IRow W a1 xs) => l02Last_any a1 n1 c1 xs W h1 l1 hr
  have HL1 := Lib.hid hL1
  clear hL1
  have hL2 := fun W (hr : IRow W a2 ys) => l02Last_any a2 n2 c2 ys W h2 l2 hr
  have HL2 := Lib.hid hL2
  clear hL2
  have lb1 := lastL_bound xs n1
  have lb2 := lastL_bound ys n2
  obtain ⟨u1, hu1⟩ : ∃ u, lastL xs n1 = u := ⟨_, rfl⟩
  obtain ⟨u2, hu2⟩ : ∃ u, lastL ys n2 = u := ⟨_, rfl⟩
  have ha1 := fun W hr => HL1.out W hr
  have ha2 := fun W hr => HL2.out W hr
  rw [hu1] at ha1 lb1 ⊢
  rw [hu2] at ha2 lb2 ⊢
  have ub1 : u1 ≤ 24 := by omega
  have ub2 : u2 ≤ 24 := by omega
  have uc1 : -1 ≤ u1 := lb1.1
  have uc2 : -1 ≤ u2 := lb2.1
  clear HL1 HL2 hu1 hu2 lb1 lb2
  have HL1 := Lib.hid ha1
  have HL2 := Lib.hid ha2
  have wz : IntKind.i64.wrap (u1 + u2) = u1 + u2 := IntWalk.i64_in _ (by omega)
  clear ha1 ha2
  by_cases d1 : u1 < 0
  · rw [show decide (u1 < 0) = true by simpa using d1, Bool.true_or, Bool.not_true, Bool.false_and]
    go_enter Try.func17, Try.ntmps17
    go_wp2_with fail
    refine wp_region_held_drew (S := fun w' => w'.cell? ⟨w.heap.size, 0, none⟩ = some (.int .i64 p) ∧ w'.cell? ⟨w.heap.size, 1, none⟩ = some (.int .i64 c) ∧ w'.cell? ⟨w.heap.size, 2, none⟩ = some (.int .i64 h) ∧ w'.cell? ⟨w.heap.size, 3, none⟩ = some (.int .i64 s) ∧ w'.cell? ⟨w.heap.size + 1, 0, none⟩ = some (.slice a1 n1 c1) ∧ w'.cell? ⟨w.heap.size + 1, 1, none⟩ = some (.slice a2 n2 c2) ∧ Below w.heap.size w w' ∧ w.heap.size + 1 < w'.heap.size) (by kernel_rfl) ⟨x0, x1, x2, x3, y0, y1, hb.drew, hz1⟩ (fun hHeld => ?_)
    refine tk 0 7 ?_
    refine tk 1 8 ?_
    refine tk 3 10 ?_
    refine tk 4 11 ?_
    refine rdk 2 9 fun K hK => ?_
    go_simp
    refine (HL1.out _ (r1.below hHeld.2.2.2.2.2.2.1)).mono ?_
    rintro e w7 ⟨rfl, rfl⟩
    (try go_wp2_with fail)
    refine hko hK hHeld fun hHeld => ?_
    clear hK K
    refine rdk 5 12 fun K hK => ?_
    go_simp
    refine (HL2.out _ (r2.below hHeld.2.2.2.2.2.2.1)).mono ?_
    rintro e w7 ⟨rfl, rfl⟩
    (try go_wp2_with fail)
    refine hko hK hHeld fun hHeld => ?_
    clear hK K
    refine tk 6 5 ?_
    refine tk 7 6 ?_
    refine wpAnyH_done (by kernel_rfl) ?_ _
    go_wp2
    go_ret
    exact ⟨rfl, hHeld.2.2.2.2.2.2.1⟩
  by_cases d2 : u2 < 0
  · rw [show decide (u2 < 0) = true by simpa using d2, Bool.or_true, Bool.not_true, Bool.false_and]
    go_enter Try.func17, Try.ntmps17
    go_wp2_with fail
    refine wp_region_held_drew (S := fun w' => w'.cell? ⟨w.heap.size, 0, none⟩ = some (.int .i64 p) ∧ w'.cell? ⟨w.heap.size, 1, none⟩ = some (.int .i64 c) ∧ w'.cell? ⟨w.heap.size, 2, none⟩ = some (.int .i64 h) ∧ w'.cell? ⟨w.heap.size, 3, none⟩ = some (.int .i64 s) ∧ w'.cell? ⟨w.heap.size + 1, 0, none⟩ = some (.slice a1 n1 c1) ∧ w'.cell? ⟨w.heap.size + 1, 1, none⟩ = some (.slice a2 n2 c2) ∧ Below w.heap.size w w' ∧ w.heap.size + 1 < w'.heap.size) (by kernel_rfl) ⟨x0, x1, x2, x3, y0, y1, hb.drew, hz1⟩ (fun hHeld => ?_)
    refine tk 0 7 ?_
    refine tk 1 8 ?_
    refine tk 3 10 ?_
    refine tk 4 11 ?_
    refine rdk 2 9 fun K hK => ?_
    go_simp
    refine (HL1.out _ (r1.below hHeld.2.2.2.2.2.2.1)).mono ?_
    rintro e w7 ⟨rfl, rfl⟩
    (try go_wp2_with fail)
    refine hko hK hHeld fun hHeld => ?_
    clear hK K
    refine rdk 5 12 fun K hK => ?_
    go_simp
    refine (HL2.out _ (r2.below hHeld.2.2.2.2.2.2.1)).mono ?_
    rintro e w7 ⟨rfl, rfl⟩
    (try go_wp2_with fail)
    refine hko hK hHeld fun hHeld => ?_
    clear hK K
    refine tk 6 5 ?_
    refine tk 7 6 ?_
    refine wpAnyH_done (by kernel_rfl) ?_ _
    go_wp2
    go_ret
    exact ⟨rfl, hHeld.2.2.2.2.2.2.1⟩
  · rw [show decide (u1 < 0) = false by simpa using d1, show decide (u2 < 0) = false by simpa using d2, Bool.or_false, Bool.not_false, Bool.true_and]
    go_enter Try.func17, Try.ntmps17
    go_wp2_with fail
    refine wp_region_held_drew (S := fun w' => w'.cell? ⟨w.heap.size, 0, none⟩ = some (.int .i64 p) ∧ w'.cell? ⟨w.heap.size, 1, none⟩ = some (.int .i64 c) ∧ w'.cell? ⟨w.heap.size, 2, none⟩ = some (.int .i64 h) ∧ w'.cell? ⟨w.heap.size, 3, none⟩ = some (.int .i64 s) ∧ w'.cell? ⟨w.heap.size + 1, 0, none⟩ = some (.slice a1 n1 c1) ∧ w'.cell? ⟨w.heap.size + 1, 1, none⟩ = some (.slice a2 n2 c2) ∧ Below w.heap.size w w' ∧ w.heap.size + 1 < w'.heap.size) (by kernel_rfl) ⟨x0, x1, x2, x3, y0, y1, hb.drew, hz1⟩ (fun hHeld => ?_)
    refine tk 0 7 ?_
    refine tk 1 8 ?_
    refine tk 3 10 ?_
    refine tk 4 11 ?_
    refine rdk 2 9 fun K hK => ?_
    go_simp
    refine (HL1.out _ (r1.below hHeld.2.2.2.2.2.2.1)).mono ?_
    rintro e w7 ⟨rfl, rfl⟩
    (try go_wp2_with fail)
    refine hko hK hHeld fun hHeld => ?_
    clear hK K
    refine rdk 5 12 fun K hK => ?_
    go_simp
    refine (HL2.out _ (r2.below hHeld.2.2.2.2.2.2.1)).mono ?_
    rintro e w7 ⟨rfl, rfl⟩
    (try go_wp2_with fail)
    refine hko hK hHeld fun hHeld => ?_
    clear hK K
    refine tk 6 5 ?_
    refine tk 7 6 ?_
    refine wpAnyH_done (by kernel_rfl) ?_ _
    go_wp2
    go_ret
    exact ⟨by simp, hHeld.2.2.2.2.2.2.1⟩
theorem lastL_sum (xs : List Int) (hx : ∀ x ∈ xs, 0 ≤ x) : ∀ k : Nat, k ≤ xs.length → (lastL xs k < 0 ↔ (xs.take k).sum = 0)
  | 0, _ => by simp [lastL]
  | k + 1, h => by
    have ih := lastL_sum xs hx k (by omega)
    have h1 := sum_take xs k (by omega)
    have h2 := hx _ (getD_mem (show k < xs.length by omega))
    have h3 := sum_nonneg (xs.take k) (fun x hm => hx x (List.mem_of_mem_take hm))
    have h4 := (lastL_bound xs k).1
    rw [h1, lastL]
    split <;> omega
theorem overB_sum {xs ys : List Int} (hx : ∀ x ∈ xs, 0 ≤ x ∧ x ≤ 1000) (hy : ∀ x ∈ ys, 0 ≤ x ∧ x ≤ 1000) : overB xs ys = (decide (xs.sum = 0) || decide (ys.sum = 0)) := by
  have h1 := lastL_sum xs (fun x h => (hx x h).1) xs.length (Nat.le_refl _)
  have h2 := lastL_sum ys (fun x h => (hy x h).1) ys.length (Nat.le_refl _)
  rw [List.take_length] at h1 h2
  rw [overB, decide_eq_decide.2 h1, decide_eq_decide.2 h2]
end Go.Proofs.Ytdciiocmddlhfaa
