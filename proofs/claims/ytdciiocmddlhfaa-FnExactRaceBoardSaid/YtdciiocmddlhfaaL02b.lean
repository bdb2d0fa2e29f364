/- Contract of the model's test of boards. -/
import Derived.Test.YtdciiocmddlhfaaL02a
import Derived.IntWalk
import Derived.BigGuard
import Derived.BigGuardPart
namespace Go.Proofs.Ytdciiocmddlhfaa
open Go.ChangeShapes Go.WideShapes Go.ChangeAt Go.RowKit
set_option linter.unusedVariables false
set_option linter.unusedSimpArgs false

/-- What is held of the two boxed arguments through calls that make memory. -/
theorem heldVB {w W w2 : World} {p c h s : Int} {a1 a2 : Option Addr} {n1 n2 c1 c2 : Nat} (hS : W.cell? ⟨w.heap.size, 0, none⟩ = some (.int .i64 p) ∧ W.cell? ⟨w.heap.size, 1, none⟩ = some (.int .i64 c) ∧ W.cell? ⟨w.heap.size, 2, none⟩ = some (.int .i64 h) ∧ W.cell? ⟨w.heap.size, 3, none⟩ = some (.int .i64 s) ∧ W.cell? ⟨w.heap.size + 1, 0, none⟩ = some (.slice a1 n1 c1) ∧ W.cell? ⟨w.heap.size + 1, 1, none⟩ = some (.slice a2 n2 c2) ∧ Below w.heap.size w W ∧ w.heap.size + 1 < W.heap.size) (hb : Below W.heap.size W w2) : w2.cell? ⟨w.heap.size, 0, none⟩ = some (.int .i64 p) ∧ w2.cell? ⟨w.heap.size, 1, none⟩ = some (.int .i64 c) ∧ w2.cell? ⟨w.heap.size, 2, none⟩ = some (.int .i64 h) ∧ w2.cell? ⟨w.heap.size, 3, none⟩ = some (.int .i64 s) ∧ w2.cell? ⟨w.heap.size + 1, 0, none⟩ = some (.slice a1 n1 c1) ∧ w2.cell? ⟨w.heap.size + 1, 1, none⟩ = some (.slice a2 n2 c2) ∧ Below w.heap.size w w2 ∧ w.heap.size + 1 < w2.heap.size := by
  obtain ⟨h0, h1, h2, h3, h4, h5, h6, h7⟩ := hS
  obtain ⟨hc, _⟩ := bcell hb
  have hl : w.heap.size < W.heap.size := by omega
  exact ⟨by rw [hc _ _ hl]; exact h0, by rw [hc _ _ hl]; exact h1, by rw [hc _ _ hl]; exact h2, by rw [hc _ _ hl]; exact h3, by rw [hc _ _ h7]; exact h4, by rw [hc _ _ h7]; exact h5, chain h6 hb, Nat.lt_of_lt_of_le h7 hb.size⟩
set_option maxHeartbeats 4000000 in
theorem specIsBoard_any (p c h s : Int) (a1 a2 : Option Addr) (n1 n2 c1 c2 : Nat) (xs ys : List Int) (w : World) (h1 : xs.length = n1) (h2 : ys.length = n2) (l1 : n1 ≤ 1048576) (l2 : n2 ≤ 1048576) (r1 : IRow w a1 xs) (r2 : IRow w a2 ys) :
    Calls Try.prog 16 #[.agg #[.int .i64 p, .int .i64 c, .int .i64 h, .int .i64 s], .agg #[.slice a1 n1 c1, .slice a2 n2 c2]] w fun e w' => e = .returned (.bool (isB p c h s xs ys)) ∧ Below w.heap.size w w' := by
  obtain ⟨BV, BB, hb, hz⟩ := two_new w #[.int .i64 p, .int .i64 c, .int .i64 h, .int .i64 s] #[.slice a1 n1 c1, .slice a2 n2 c2] 29 26
  have hz1 : w.heap.size + 1 < ((w.alloc (.cells #[.int .i64 p, .int .i64 c, .int .i64 h, .int .i64 s] 29)).alloc (.cells #[.slice a1 n1 c1, .slice a2 n2 c2] 26)).heap.size := by rw [hz]; omega
  clear hz
  obtain ⟨x0, x1, x2, x3, xf, xl⟩ := BV.four
  obtain ⟨y0, y1, yf, yl⟩ := BB.two
  by_cases g : vB p c h s = true
  rotate_left
  · replace g : vB p c h s = false := by simpa using g
    have e0 : isB p c h s xs ys = false := by simp [isB, g]
    rw [e0]
    clear e0
    go_enter Try.func16, Try.ntmps16
    go_wp2_with fail
    generalize ((w.alloc (.cells #[.int .i64 p, .int .i64 c, .int .i64 h, .int .i64 s] 29)).alloc (.cells #[.slice a1 n1 c1, .slice a2 n2 c2] 26)) = v0 at *
    refine wp_region_held_drew (S := fun w' => w'.cell? ⟨w.heap.size, 0, none⟩ = some (.int .i64 p) ∧ w'.cell? ⟨w.heap.size, 1, none⟩ = some (.int .i64 c) ∧ w'.cell? ⟨w.heap.size, 2, none⟩ = some (.int .i64 h) ∧ w'.cell? ⟨w.heap.size, 3, none⟩ = some (.int .i64 s) ∧ w'.cell? ⟨w.heap.size + 1, 0, none⟩ = some (.slice a1 n1 c1) ∧ w'.cell? ⟨w.heap.size + 1, 1, none⟩ = some (.slice a2 n2 c2) ∧ Below w.heap.size w w' ∧ w.heap.size + 1 < w'.heap.size) (by kernel_rfl) ⟨x0, x1, x2, x3, y0, y1, hb.drew, hz1⟩ (fun hHeld => ?_)
    refine tk 0 6 ?_
    refine rdk 1 7 fun K hK => ?_
    go_simp
    refine (specIsVariant_any _ _ _ _ _).mono ?_
    rintro e w2 ⟨rfl, hb2⟩
    have hS := heldVB hHeld hb2
    (try go_wp2_with fail)
    refine hko hK hS fun hHeld => ?_
    clear hK K
    refine tk 2 8 ?_
    refine tk 3 9 ?_
    refine tkv 4 10 ?_
    refine tkv 5 11 ?_
    refine tkv 6 12 ?_
    refine tkv 7 13 ?_
    refine tkv 8 14 ?_
    refine tk 9 15 ?_
    refine tk 10 16 ?_
    refine tkv 11 17 ?_
    refine tkv 12 18 ?_
    refine tkv 13 19 ?_
    refine tkv 14 20 ?_
    refine tkv 15 21 ?_
    refine tk 16 22 ?_
    refine tk 17 23 ?_
    refine tkv 18 24 ?_
    refine tkv 19 25 ?_
    refine tkv 20 26 ?_
    refine tkv 21 27 ?_
    refine tkv 22 28 ?_
    refine tkv 23 29 ?_
    refine tkv 24 30 ?_
    refine tkv 25 31 ?_
    refine tk 26 32 ?_
    refine wpAnyH_done (by kernel_rfl) ?_ _
    go_wp2
    go_ret
    exact ⟨rfl, hHeld.2.2.2.2.2.2.1⟩
  by_cases sx : sideB p c xs = true
  rotate_left
  · replace sx : sideB p c xs = false := by simpa using sx
    have e0 : isB p c h s xs ys = false := by simp [isB, g, sx]
    rw [e0]
    clear e0
    go_enter Try.func16, Try.ntmps16
    go_wp2_with fail
    generalize ((w.alloc (.cells #[.int .i64 p, .int .i64 c, .int .i64 h, .int .i64 s] 29)).alloc (.cells #[.slice a1 n1 c1, .slice a2 n2 c2] 26)) = v0 at *
    refine wp_region_held_drew (S := fun w' => w'.cell? ⟨w.heap.size, 0, none⟩ = some (.int .i64 p) ∧ w'.cell? ⟨w.heap.size, 1, none⟩ = some (.int .i64 c) ∧ w'.cell? ⟨w.heap.size, 2, none⟩ = some (.int .i64 h) ∧ w'.cell? ⟨w.heap.size, 3, none⟩ = some (.int .i64 s) ∧ w'.cell? ⟨w.heap.size + 1, 0, none⟩ = some (.slice a1 n1 c1) ∧ w'.cell? ⟨w.heap.size + 1, 1, none⟩ = some (.slice a2 n2 c2) ∧ Below w.heap.size w w' ∧ w.heap.size + 1 < w'.heap.size) (by kernel_rfl) ⟨x0, x1, x2, x3, y0, y1, hb.drew, hz1⟩ (fun hHeld => ?_)
    refine tk 0 6 ?_
    refine rdk 1 7 fun K hK => ?_
    go_simp
    refine (specIsVariant_any _ _ _ _ _).mono ?_
    rintro e w2 ⟨rfl, hb2⟩
    have hS := heldVB hHeld hb2
    (try go_wp2_with fail)
    refine hko hK hS fun hHeld => ?_
    clear hK K
    refine tk 2 8 ?_
    refine tk 3 9 ?_
    refine tk 4 10 ?_
    refine tk 5 11 ?_
    refine tk 6 12 ?_
    refine rdk 7 13 fun K hK => ?_
    go_simp
    refine (l02Side_any p c h s a1 n1 c1 xs _ g h1 l1 (r1.below hHeld.2.2.2.2.2.2.1)).mono ?_
    rintro e w2 ⟨rfl, hb2⟩
    have hS := heldVB hHeld hb2
    (try go_wp2_with fail)
    refine hko hK hS fun hHeld => ?_
    clear hK K
    refine tk 8 14 ?_
    refine tk 9 15 ?_
    refine tk 10 16 ?_
    refine tkv 11 17 ?_
    refine tkv 12 18 ?_
    refine tkv 13 19 ?_
    refine tkv 14 20 ?_
    refine tkv 15 21 ?_
    refine tk 16 22 ?_
    refine tk 17 23 ?_
    refine tkv 18 24 ?_
    refine tkv 19 25 ?_
    refine tkv 20 26 ?_
    refine tkv 21 27 ?_
    refine tkv 22 28 ?_
    refine tkv 23 29 ?_
    refine tkv 24 30 ?_
    refine tkv 25 31 ?_
    refine tk 26 32 ?_
    refine wpAnyH_done (by kernel_rfl) ?_ _
    go_wp2
    go_ret
    exact ⟨rfl, hHeld.2.2.2.2.2.2.1⟩
  by_cases sy : sideB p c ys = true
  rotate_left
  · replace sy : sideB p c ys = false := by simpa using sy
    have e0 : isB p c h s xs ys = false := by simp [isB, g, sx, sy]
    rw [e0]
    clear e0
    go_enter Try.func16, Try.ntmps16
    go_wp2_with fail
    generalize ((w.alloc (.cells #[.int .i64 p, .int .i64 c, .int .i64 h, .int .i64 s] 29)).alloc (.cells #[.slice a1 n1 c1, .slice a2 n2 c2] 26)) = v0 at *
    refine wp_region_held_drew (S := fun w' => w'.cell? ⟨w.heap.size, 0, none⟩ = some (.int .i64 p) ∧ w'.cell? ⟨w.heap.size, 1, none⟩ = some (.int .i64 c) ∧ w'.cell? ⟨w.heap.size, 2, none⟩ = some (.int .i64 h) ∧ w'.cell? ⟨w.heap.size, 3, none⟩ = some (.int .i64 s) ∧ w'.cell? ⟨w.heap.size + 1, 0, none⟩ = some (.slice a1 n1 c1) ∧ w'.cell? ⟨w.heap.size + 1, 1, none⟩ = some (.slice a2 n2 c2) ∧ Below w.heap.size w w' ∧ w.heap.size + 1 < w'.heap.size) (by kernel_rfl) ⟨x0, x1, x2, x3, y0, y1, hb.drew, hz1⟩ (fun hHeld => ?_)
    refine tk 0 6 ?_
    refine rdk 1 7 fun K hK => ?_
    go_simp
    refine (specIsVariant_any _ _ _ _ _).mono ?_
    rintro e w2 ⟨rfl, hb2⟩
    have hS := heldVB hHeld hb2
    (try go_wp2_with fail)
    refine hko hK hS fun hHeld => ?_
    clear hK K
    refine tk 2 8 ?_
    refine tk 3 9 ?_
    refine tk 4 10 ?_
    refine tk 5 11 ?_
    refine tk 6 12 ?_
    refine rdk 7 13 fun K hK => ?_
    go_simp
    refine (l02Side_any p c h s a1 n1 c1 xs _ g h1 l1 (r1.below hHeld.2.2.2.2.2.2.1)).mono ?_
    rintro e w2 ⟨rfl, hb2⟩
    have hS := heldVB hHeld hb2
    (try go_wp2_with fail)
    refine hko hK hS fun hHeld => ?_
    clear hK K
    refine tk 8 14 ?_
    refine tk 9 15 ?_
    refine tk 10 16 ?_
    refine tk 11 17 ?_
    refine tk 12 18 ?_
    refine tk 13 19 ?_
    refine rdk 14 20 fun K hK => ?_
    go_simp
    refine (l02Side_any p c h s a2 n2 c2 ys _ g h2 l2 (r2.below hHeld.2.2.2.2.2.2.1)).mono ?_
    rintro e w2 ⟨rfl, hb2⟩
    have hS := heldVB hHeld hb2
    (try go_wp2_with fail)
    refine hko hK hS fun hHeld => ?_
    clear hK K
    refine tk 15 21 ?_
    refine tk 16 22 ?_
    refine tk 17 23 ?_
    refine tkv 18 24 ?_
    refine tkv 19 25 ?_
    refine tkv 20 26 ?_
    refine tkv 21 27 ?_
    refine tkv 22 28 ?_
    refine tkv 23 29 ?_
    refine tkv 24 30 ?_
    refine tkv 25 31 ?_
    refine tk 26 32 ?_
    refine wpAnyH_done (by kernel_rfl) ?_ _
    go_wp2
    go_ret
    exact ⟨rfl, hHeld.2.2.2.2.2.2.1⟩
  have hv := vB_iff.1 g
  obtain ⟨m1, m2, m3⟩ := sideB_iff.1 sx
  obtain ⟨m4, m5, m6⟩ := sideB_iff.1 sy
  have sb1 := (sum_bound xs m2).1
  have sb2 := (sum_bound ys m5).1
  have hs1 := fun w (hr : IRow w a1 xs) => l02Sum_any a1 n1 c1 xs w h1 (by omega) (fun x hx => by have := m2 x hx; omega) hr
  have hs2 := fun w (hr : IRow w a2 ys) => l02Sum_any a2 n2 c2 ys w h2 (by omega) (fun x hx => by have := m5 x hx; omega) hr
  have HS1 := Lib.hid hs1
  have HS2 := Lib.hid hs2
  have q1 : xs.sum ≤ 15 := by omega
  have q2 : ys.sum ≤ 15 := by omega
  have wz : IntKind.i64.wrap (xs.sum + ys.sum) = xs.sum + ys.sum := IntWalk.i64_in _ (by omega)
  by_cases z : xs.sum + ys.sum = 0
  · have zz : (xs.sum + ys.sum == 0) = true := by rw [beq_iff_eq]; exact z
    clear hs1 hs2 m1 m2 m3 m4 m5 m6 hv
    have e0 : isB p c h s xs ys = false := by simp [isB, g, sx, sy, z]
    rw [e0]
    clear z
    clear e0
    go_enter Try.func16, Try.ntmps16
    go_wp2_with fail
    generalize ((w.alloc (.cells #[.int .i64 p, .int .i64 c, .int .i64 h, .int .i64 s] 29)).alloc (.cells #[.slice a1 n1 c1, .slice a2 n2 c2] 26)) = v0 at *
    refine wp_region_held_drew (S := fun w' => w'.cell? ⟨w.heap.size, 0, none⟩ = some (.int .i64 p) ∧ w'.cell? ⟨w.heap.size, 1, none⟩ = some (.int .i64 c) ∧ w'.cell? ⟨w.heap.size, 2, none⟩ = some (.int .i64 h) ∧ w'.cell? ⟨w.heap.size, 3, none⟩ = some (.int .i64 s) ∧ w'.cell? ⟨w.heap.size + 1, 0, none⟩ = some (.slice a1 n1 c1) ∧ w'.cell? ⟨w.heap.size + 1, 1, none⟩ = some (.slice a2 n2 c2) ∧ Below w.heap.size w w' ∧ w.heap.size + 1 < w'.heap.size) (by kernel_rfl) ⟨x0, x1, x2, x3, y0, y1, hb.drew, hz1⟩ (fun hHeld => ?_)
    refine tk 0 6 ?_
    refine rdk 1 7 fun K hK => ?_
    go_simp
    refine (specIsVariant_any _ _ _ _ _).mono ?_
    rintro e w2 ⟨rfl, hb2⟩
    have hS := heldVB hHeld hb2
    (try go_wp2_with fail)
    refine hko hK hS fun hHeld => ?_
    clear hK K
    refine tk 2 8 ?_
    refine tk 3 9 ?_
    refine tk 4 10 ?_
    refine tk 5 11 ?_
    refine tk 6 12 ?_
    refine rdk 7 13 fun K hK => ?_
    go_simp
    refine (l02Side_any p c h s a1 n1 c1 xs _ g h1 l1 (r1.below hHeld.2.2.2.2.2.2.1)).mono ?_
    rintro e w2 ⟨rfl, hb2⟩
    have hS := heldVB hHeld hb2
    (try go_wp2_with fail)
    refine hko hK hS fun hHeld => ?_
    clear hK K
    refine tk 8 14 ?_
    refine tk 9 15 ?_
    refine tk 10 16 ?_
    refine tk 11 17 ?_
    refine tk 12 18 ?_
    refine tk 13 19 ?_
    refine rdk 14 20 fun K hK => ?_
    go_simp
    refine (l02Side_any p c h s a2 n2 c2 ys _ g h2 l2 (r2.below hHeld.2.2.2.2.2.2.1)).mono ?_
    rintro e w2 ⟨rfl, hb2⟩
    have hS := heldVB hHeld hb2
    (try go_wp2_with fail)
    refine hko hK hS fun hHeld => ?_
    clear hK K
    refine tk 15 21 ?_
    refine tk 16 22 ?_
    refine tk 17 23 ?_
    refine tk 18 24 ?_
    refine tk 19 25 ?_
    refine tk 21 27 ?_
    refine tk 22 28 ?_
    refine rdk 20 26 fun K hK => ?_
    go_simp
    refine (HS1.out _ (r1.below hHeld.2.2.2.2.2.2.1)).mono ?_
    rintro e w2 ⟨rfl, rfl⟩
    (try go_wp2_with fail)
    refine hko hK hHeld fun hHeld => ?_
    clear hK K
    refine rdk 23 29 fun K hK => ?_
    go_simp
    refine (HS2.out _ (r2.below hHeld.2.2.2.2.2.2.1)).mono ?_
    rintro e w2 ⟨rfl, rfl⟩
    (try go_wp2_with fail)
    refine hko hK hHeld fun hHeld => ?_
    clear hK K
    refine tk 24 30 ?_
    refine tk 25 31 ?_
    refine tk 26 32 ?_
    refine wpAnyH_done (by kernel_rfl) ?_ _
    go_wp2
    go_ret
    exact ⟨rfl, hHeld.2.2.2.2.2.2.1⟩
  · have zz : (xs.sum + ys.sum == 0) = false := by rw [beq_eq_false_iff_ne]; exact z
    obtain ⟨R, hR⟩ : ∃ R, isB p c h s xs ys = R := ⟨_, rfl⟩
    rw [hR]
    have HR := Lib.hid hR
    have p0 : 2 ≤ p := hv.1
    have p1 : p ≤ 24 := hv.2.1
    obtain ⟨P, rfl⟩ := Int.eq_ofNat_of_zero_le (by omega : 0 ≤ p)
    have M1 : P + 1 ≤ n1 ∧ n1 ≤ P + 1 := by omega
    have M4 : P + 1 ≤ n2 ∧ n2 ≤ P + 1 := by omega
    have hRR : R = apartB P xs ys := by rw [← hR]; simp [isB, g, sx, sy, z]
    have HRR := Lib.hid hRR
    clear hRR
    clear hs1 hs2 m1 m2 m3 m4 m5 m6 hv hR
    go_enter Try.func16, Try.ntmps16
    go_wp2_with fail
    generalize ((w.alloc (.cells #[.int .i64 (P : Int), .int .i64 c, .int .i64 h, .int .i64 s] 29)).alloc (.cells #[.slice a1 n1 c1, .slice a2 n2 c2] 26)) = v0 at *
    refine wp_region_held_drew (S := fun w' => w'.cell? ⟨w.heap.size, 0, none⟩ = some (.int .i64 (P : Int)) ∧ w'.cell? ⟨w.heap.size, 1, none⟩ = some (.int .i64 c) ∧ w'.cell? ⟨w.heap.size, 2, none⟩ = some (.int .i64 h) ∧ w'.cell? ⟨w.heap.size, 3, none⟩ = some (.int .i64 s) ∧ w'.cell? ⟨w.heap.size + 1, 0, none⟩ = some (.slice a1 n1 c1) ∧ w'.cell? ⟨w.heap.size + 1, 1, none⟩ = some (.slice a2 n2 c2) ∧ Below w.heap.size w w' ∧ w.heap.size + 1 < w'.heap.size) (by kernel_rfl) ⟨x0, x1, x2, x3, y0, y1, hb.drew, hz1⟩ (fun hHeld => ?_)
    refine tk 0 6 ?_
    refine rdk 1 7 fun K hK => ?_
    go_simp
    refine (specIsVariant_any _ _ _ _ _).mono ?_
    rintro e w2 ⟨rfl, hb2⟩
    have hS := heldVB hHeld hb2
    (try go_wp2_with fail)
    refine hko hK hS fun hHeld => ?_
    clear hK K
    refine tk 2 8 ?_
    refine tk 3 9 ?_
    refine tk 4 10 ?_
    refine tk 5 11 ?_
    refine tk 6 12 ?_
    refine rdk 7 13 fun K hK => ?_
    go_simp
    refine (l02Side_any (P : Int) c h s a1 n1 c1 xs _ g h1 l1 (r1.below hHeld.2.2.2.2.2.2.1)).mono ?_
    rintro e w2 ⟨rfl, hb2⟩
    have hS := heldVB hHeld hb2
    (try go_wp2_with fail)
    refine hko hK hS fun hHeld => ?_
    clear hK K
    refine tk 8 14 ?_
    refine tk 9 15 ?_
    refine tk 10 16 ?_
    refine tk 11 17 ?_
    refine tk 12 18 ?_
    refine tk 13 19 ?_
    refine rdk 14 20 fun K hK => ?_
    go_simp
    refine (l02Side_any (P : Int) c h s a2 n2 c2 ys _ g h2 l2 (r2.below hHeld.2.2.2.2.2.2.1)).mono ?_
    rintro e w2 ⟨rfl, hb2⟩
    have hS := heldVB hHeld hb2
    (try go_wp2_with fail)
    refine hko hK hS fun hHeld => ?_
    clear hK K
    refine tk 15 21 ?_
    refine tk 16 22 ?_
    refine tk 17 23 ?_
    refine tk 18 24 ?_
    refine tk 19 25 ?_
    refine tk 21 27 ?_
    refine tk 22 28 ?_
    refine rdk 20 26 fun K hK => ?_
    go_simp
    refine (HS1.out _ (r1.below hHeld.2.2.2.2.2.2.1)).mono ?_
    rintro e w2 ⟨rfl, rfl⟩
    (try go_wp2_with fail)
    refine hko hK hHeld fun hHeld => ?_
    clear hK K
    refine rdk 23 29 fun K hK => ?_
    go_simp
    refine (HS2.out _ (r2.below hHeld.2.2.2.2.2.2.1)).mono ?_
    rintro e w2 ⟨rfl, rfl⟩
    (try go_wp2_with fail)
    refine hko hK hHeld fun hHeld => ?_
    clear hK K
    refine tk 24 30 ?_
    refine tk 25 31 ?_
    refine tk 26 32 ?_
    refine wpAnyH_done (by kernel_rfl) ?_ _
    go_wp2
    clear HS1 HS2 wz zz z q1 q2 sb1 sb2 hS
    go_loopg [5] P (fun m i wr => (wr.cell? ⟨w.heap.size, 0, none⟩ = some (.int .i64 (P : Int)) ∧ wr.cell? ⟨w.heap.size, 1, none⟩ = some (.int .i64 c) ∧ wr.cell? ⟨w.heap.size, 2, none⟩ = some (.int .i64 h) ∧ wr.cell? ⟨w.heap.size, 3, none⟩ = some (.int .i64 s) ∧ wr.cell? ⟨w.heap.size + 1, 0, none⟩ = some (.slice a1 n1 c1) ∧ wr.cell? ⟨w.heap.size + 1, 1, none⟩ = some (.slice a2 n2 c2) ∧ Below w.heap.size w wr ∧ w.heap.size + 1 < wr.heap.size) ∧ ∃ k : Nat, k ≤ P ∧ m = P - k ∧ i = .int .i64 k ∧ ∀ j, j < k → (!(decide (0 < xs.getD j 0) && decide (0 < ys.getD (P - 1 - j) 0))) = true)
    case atStart => exact ⟨hHeld, 0, by omega, by omega, rfl, fun j hj => by omega⟩
    case round =>
      clear hHeld
      obtain ⟨hSr, k, hk, hm, rfl, hall⟩ := hrel
      have HA := Lib.hid hall
      clear hall
      have hSr2 := hSr
      obtain ⟨z0, z1, z2, z3, z4, z5, z6, z7⟩ := hSr
      by_cases hlt : k < P
      · have hlt' : (k : Int) < (P : Int) := by omega
        have hk0 : (0 : Int) ≤ (k : Int) := by omega
        have hin1 : (k : Int) < (n1 : Int) := by omega
        have hin2 : (0 : Int) ≤ (P : Int) - 1 - (k : Int) := by omega
        have hin3 : (P : Int) - 1 - (k : Int) < (n2 : Int) := by omega
        obtain ⟨b1, o1, rfl, hc1⟩ := r1.below z6 k (by omega)
        obtain ⟨b2, o2, rfl, hc2⟩ := r2.below z6 (P - 1 - k) (by omega)
        obtain ⟨u1, hu1⟩ : ∃ u, xs.getD k 0 = u := ⟨_, rfl⟩
        obtain ⟨u2, hu2⟩ : ∃ u, ys.getD (P - 1 - k) 0 = u := ⟨_, rfl⟩
        rw [hu1] at hc1
        rw [hu2] at hc2
        have U1 := Lib.hid hu1
        have U2 := Lib.hid hu2
        have S2 := Lib.hid hSr2
        clear hu1 hu2 hSr2
        by_cases d1 : 0 < u1
        · have f1 : decide (0 < u1) = true := by simpa using d1
          by_cases d2 : 0 < u2
          · have f2 : decide (0 < u2) = true := by simpa using d2
            have hno : R = false := by
              rw [HRR.out, apartB, List.all_eq_false]
              exact ⟨k, by simpa using hlt, by rw [U1.out, U2.out, f1, f2]; simp⟩
            subst hno
            go_wp2
            go_ret
            exact ⟨rfl, z6⟩
          · have f2 : decide (0 < u2) = false := by simpa using d2
            go_wp2
            go_roundg (P - (k + 1))
            case measure => omega
            case rel =>
              refine ⟨S2.out, k + 1, by omega, rfl, by go_num, fun j hj => ?_⟩
              by_cases hjk : j = k
              · subst hjk
                rw [U1.out, U2.out, f1, f2]
                rfl
              · exact HA.out j (by omega)
        · have f1 : decide (0 < u1) = false := by simpa using d1
          go_wp2
          go_roundg (P - (k + 1))
          case measure => omega
          case rel =>
            refine ⟨S2.out, k + 1, by omega, rfl, by go_num, fun j hj => ?_⟩
            by_cases hjk : j = k
            · subst hjk
              rw [U1.out, f1]
              rfl
            · exact HA.out j (by omega)
      · obtain rfl : k = P := by omega
        have hyes : R = true := by
          rw [HRR.out, apartB, List.all_eq_true]
          intro j hj
          exact HA.out j (by simpa using hj)
        subst hyes
        go_wp2
        go_ret
        exact ⟨rfl, z6⟩
end Go.Proofs.Ytdciiocmddlhfaa
