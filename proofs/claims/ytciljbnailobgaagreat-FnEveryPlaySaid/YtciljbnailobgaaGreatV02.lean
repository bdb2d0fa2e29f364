/- Texts of a proof, laid together. -/
import Derived.Test.YtciljbnailobgaaGreatV01
import Derived.IntWalk
import Derived.BigGuard
import Derived.BigGuardPart
import Derived.Deep.RegionHeld3
import Derived.Laws.StructEq
import Derived.Shelf.Abstract
import Derived.Laws.EntriesVeiled
namespace Go.Proofs.YtciljbnailobgaaGreat
open Go.ChangeShapes Go.WideShapes Go.ChangeAt Go.RowKit
set_option linter.unusedVariables false
set_option linter.unusedSimpArgs false
theorem heldVB {w W w2 : World} {p c h s : Int} {a1 a2 : Option Addr} {n1 n2 c1 c2 : Nat} (hS : W.cell? ⟨w.heap.size, 0, none⟩ = some (.int .i64 p) ∧ W.cell? ⟨w.heap.size, 1, none⟩ = some (.int .i64 c) ∧ W.cell? ⟨w.heap.size, 2, none⟩ = some (.int .i64 h) ∧ W.cell? ⟨w.heap.size, 3, none⟩ = some (.int .i64 s) ∧ W.cell? ⟨w.heap.size + 1, 0, none⟩ = some (.slice a1 n1 c1) ∧ W.cell? ⟨w.heap.size + 1, 1, none⟩ = some (.slice a2 n2 c2) ∧ Below w.heap.size w W ∧ w.heap.size + 1 < W.heap.size) (hb : Below W.heap.size W w2) : w2.cell? ⟨w.heap.size, 0, none⟩ = some (.int .i64 p) ∧ w2.cell? ⟨w.heap.size, 1, none⟩ = some (.int .i64 c) ∧ w2.cell? ⟨w.heap.size, 2, none⟩ = some (.int .i64 h) ∧ w2.cell? ⟨w.heap.size, 3, none⟩ = some (.int .i64 s) ∧ w2.cell? ⟨w.heap.size + 1, 0, none⟩ = some (.slice a1 n1 c1) ∧ w2.cell? ⟨w.heap.size + 1, 1, none⟩ = some (.slice a2 n2 c2) ∧ Below w.heap.size w w2 ∧ w.heap.size + 1 < w2.heap.size := by
  obtain ⟨h0, h1, h2, h3, h4, h5, h6, h7⟩ := hS
  obtain ⟨hc, _⟩ := bcell hb
  have hl : w.heap.size < W.heap.size := by omega
  exact ⟨by rw [hc _ _ hl]; exact h0, by rw [hc _ _ hl]; exact h1, by rw [hc _ _ hl]; exact h2, by rw [hc _ _ hl]; exact h3, by rw [hc _ _ h7]; exact h4, by rw [hc _ _ h7]; exact h5, chain h6 hb, Nat.lt_of_lt_of_le h7 hb.size⟩
set_option maxHeartbeats 4000000 in
theorem specIsBoard_any (p c h s : Int) (a1 a2 : Option Addr) (n1 n2 c1 c2 : Nat) (xs ys : List Int) (w : World) (h1 : xs.length = n1) (h2 : ys.length = n2) (l1 : n1 ≤ 1048576) (l2 : n2 ≤ 1048576) (r1 : IRow w a1 xs) (r2 : IRow w a2 ys) :
    Calls Tryz.prog 36 #[.agg #[.int .i64 p, .int .i64 c, .int .i64 h, .int .i64 s], .agg #[.slice a1 n1 c1, .slice a2 n2 c2]] w fun e w' => e = .returned (.bool (isB p c h s xs ys)) ∧ Below w.heap.size w w' := by
  obtain ⟨BV, BB, hb, hz⟩ := two_new w #[.int .i64 p, .int .i64 c, .int .i64 h, .int .i64 s] #[.slice a1 n1 c1, .slice a2 n2 c2] 25 28
  have hz1 : w.heap.size + 1 < ((w.alloc (.cells #[.int .i64 p, .int .i64 c, .int .i64 h, .int .i64 s] 25)).alloc (.cells #[.slice a1 n1 c1, .slice a2 n2 c2] 28)).heap.size := by rw [hz]; omega
  clear hz
  obtain ⟨x0, x1, x2, x3, xf, xl⟩ := BV.four
  obtain ⟨y0, y1, yf, yl⟩ := BB.two
  by_cases g : vB p c h s = true
  rotate_left
  · replace g : vB p c h s = false := by simpa using g
    have e0 : isB p c h s xs ys = false := by simp [isB, g]
    rw [e0]
    clear e0
    go_enter Tryz.func36, Tryz.ntmps36
    go_wp2_with fail
    generalize ((w.alloc (.cells #[.int .i64 p, .int .i64 c, .int .i64 h, .int .i64 s] 25)).alloc (.cells #[.slice a1 n1 c1, .slice a2 n2 c2] 28)) = v0 at *
    refine wp_region_held_drew (S := fun w' => w'.cell? ⟨w.heap.size, 0, none⟩ = some (.int .i64 p) ∧ w'.cell? ⟨w.heap.size, 1, none⟩ = some (.int .i64 c) ∧ w'.cell? ⟨w.heap.size, 2, none⟩ = some (.int .i64 h) ∧ w'.cell? ⟨w.heap.size, 3, none⟩ = some (.int .i64 s) ∧ w'.cell? ⟨w.heap.size + 1, 0, none⟩ = some (.slice a1 n1 c1) ∧ w'.cell? ⟨w.heap.size + 1, 1, none⟩ = some (.slice a2 n2 c2) ∧ Below w.heap.size w w' ∧ w.heap.size + 1 < w'.heap.size) (by kernel_rfl) ⟨x0, x1, x2, x3, y0, y1, hb.drew, hz1⟩ (fun hHeld => ?_)
    refine tk 0 6 ?_
    refine rdk 1 7 fun K hK => ?_
    go_simp
    refine (specIsVariant_any _ _ _ _ _).mono ?_
    rintro e w2 ⟨rfl, hb2⟩
    have hS := heldVB hHeld hb2
    (try go_wp2_with fail)
    refine hko hK hS fun hHeld => ?_
    clear hK K
    refine tk 2 8 ?_
    refine tk 3 9 ?_
    refine tkv 4 10 ?_
    refine tkv 5 11 ?_
    refine tkv 6 12 ?_
    refine tkv 7 13 ?_
    refine tkv 8 14 ?_
    refine tk 9 15 ?_
    refine tk 10 16 ?_
    refine tkv 11 17 ?_
    refine tkv 12 18 ?_
    refine tkv 13 19 ?_
    refine tkv 14 20 ?_
    refine tkv 15 21 ?_
    refine tk 16 22 ?_
    refine tk 17 23 ?_
    refine tkv 18 24 ?_
    refine tkv 19 25 ?_
    refine tkv 20 26 ?_
    refine tkv 21 27 ?_
    refine tkv 22 28 ?_
    refine tkv 23 29 ?_
    refine tkv 24 30 ?_
    refine tkv 25 31 ?_
    refine tk 26 32 ?_
    refine wpAnyH_done (by kernel_rfl) ?_ _
    go_wp2
    go_ret
    exact ⟨rfl, hHeld.2.2.2.2.2.2.1⟩
  by_cases sx : sideB p c xs = true
  rotate_left
  · replace sx : sideB p c xs = false := by simpa using sx
    have e0 : isB p c h s xs ys = false := by simp [isB, g, sx]
    rw [e0]
    clear e0
    go_enter Tryz.func36, Tryz.ntmps36
    go_wp2_with fail
    generalize ((w.alloc (.cells #[.int .i64 p, .int .i64 c, .int .i64 h, .int .i64 s] 25)).alloc (.cells #[.slice a1 n1 c1, .slice a2 n2 c2] 28)) = v0 at *
    refine wp_region_held_drew (S := fun w' => w'.cell? ⟨w.heap.size, 0, none⟩ = some (.int .i64 p) ∧ w'.cell? ⟨w.heap.size, 1, none⟩ = some (.int .i64 c) ∧ w'.cell? ⟨w.heap.size, 2, none⟩ = some (.int .i64 h) ∧ w'.cell? ⟨w.heap.size, 3, none⟩ = some (.int .i64 s) ∧ w'.cell? ⟨w.heap.size + 1, 0, none⟩ = some (.slice a1 n1 c1) ∧ w'.cell? ⟨w.heap.size + 1, 1, none⟩ = some (.slice a2 n2 c2) ∧ Below w.heap.size w w' ∧ w.heap.size + 1 < w'.heap.size) (by kernel_rfl) ⟨x0, x1, x2, x3, y0, y1, hb.drew, hz1⟩ (fun hHeld => ?_)
    refine tk 0 6 ?_
    refine rdk 1 7 fun K hK => ?_
    go_simp
    refine (specIsVariant_any _ _ _ _ _).mono ?_
    rintro e w2 ⟨rfl, hb2⟩
    have hS := heldVB hHeld hb2
    (try go_wp2_with fail)
    refine hko hK hS fun hHeld => ?_
    clear hK K
    refine tk 2 8 ?_
    refine tk 3 9 ?_
    refine tk 4 10 ?_
    refine tk 5 11 ?_
    refine tk 6 12 ?_
    refine rdk 7 13 fun K hK => ?_
    go_simp
    refine (l02Side_any p c h s a1 n1 c1 xs _ g h1 l1 (r1.below hHeld.2.2.2.2.2.2.1)).mono ?_
    rintro e w2 ⟨rfl, hb2⟩
    have hS := heldVB hHeld hb2
    (try go_wp2_with fail)
    refine hko hK hS fun hHeld => ?_
    clear hK K
    refine tk 8 14 ?_
    refine tk 9 15 ?_
    refine tk 10 16 ?_
    refine tkv 11 17 ?_
    refine tkv 12 18 ?_
    refine tkv 13 19 ?_
    refine tkv 14 20 ?_
    refine tkv 15 21 ?_
    refine tk 16 22 ?_
    refine tk 17 23 ?_
    refine tkv 18 24 ?_
    refine tkv 19 25 ?_
    refine tkv 20 26 ?_
    refine tkv 21 27 ?_
    refine tkv 22 28 ?_
    refine tkv 23 29 ?_
    refine tkv 24 30 ?_
    refine tkv 25 31 ?_
    refine tk 26 32 ?_
    refine wpAnyH_done (by kernel_rfl) ?_ _
    go_wp2
    go_ret
    exact ⟨rfl, hHeld.2.2.2.2.2.2.1⟩
  by_cases sy : sideB p c ys = true
  rotate_left
  · replace sy : sideB p c ys = false := by simpa using sy
    have e0 : isB p c h s xs ys = false := by simp [isB, g, sx, sy]
    rw [e0]
    clear e0
    go_enter Tryz.func36, Tryz.ntmps36
    go_wp2_with fail
    generalize ((w.alloc (.cells #[.int .i64 p, .int .i64 c, .int .i64 h, .int .i64 s] 25)).alloc (.cells #[.slice a1 n1 c1, .slice a2 n2 c2] 28)) = v0 at *
    refine wp_region_held_drew (S := fun w' => w'.cell? ⟨w.heap.size, 0, none⟩ = some (.int .i64 p) ∧ w'.cell? ⟨w.heap.size, 1, none⟩ = some (.int .i64 c) ∧ w'.cell? ⟨w.heap.size, 2, none⟩ = some (.int .i64 h) ∧ w'.cell? ⟨w.heap.size, 3, none⟩ = some (.int .i64 s) ∧ w'.cell? ⟨w.heap.size + 1, 0, none⟩ = some (.slice a1 n1 c1) ∧ w'.cell? ⟨w.heap.size + 1, 1, none⟩ = some (.slice a2 n2 c2) ∧ Below w.heap.size w w' ∧ w.heap.size + 1 < w'.heap.size) (by kernel_rfl) ⟨x0, x1, x2, x3, y0, y1, hb.drew, hz1⟩ (fun hHeld => ?_)
    refine tk 0 6 ?_
    refine rdk 1 7 fun K hK => ?_
    go_simp
    refine (specIsVariant_any _ _ _ _ _).mono ?_
    rintro e w2 ⟨rfl, hb2⟩
    have hS := heldVB hHeld hb2
    (try go_wp2_with fail)
    refine hko hK hS fun hHeld => ?_
    clear hK K
    refine tk 2 8 ?_
    refine tk 3 9 ?_
    refine tk 4 10 ?_
    refine tk 5 11 ?_
    refine tk 6 12 ?_
    refine rdk 7 13 fun K hK => ?_
    go_simp
    refine (l02Side_any p c h s a1 n1 c1 xs _ g h1 l1 (r1.below hHeld.2.2.2.2.2.2.1)).mono ?_
    rintro e w2 ⟨rfl, hb2⟩
    have hS := heldVB hHeld hb2
    (try go_wp2_with fail)
    refine hko hK hS fun hHeld => ?_
    clear hK K
    refine tk 8 14 ?_
    refine tk 9 15 ?_
    refine tk 10 16 ?_
    refine tk 11 17 ?_
    refine tk 12 18 ?_
    refine tk 13 19 ?_
    refine rdk 14 20 fun K hK => ?_
    go_simp
    refine (l02Side_any p c h s a2 n2 c2 ys _ g h2 l2 (r2.below hHeld.2.2.2.2.2.2.1)).mono ?_
    rintro e w2 ⟨rfl, hb2⟩
    have hS := heldVB hHeld hb2
    (try go_wp2_with fail)
    refine hko hK hS fun hHeld => ?_
    clear hK K
    refine tk 15 21 ?_
    refine tk 16 22 ?_
    refine tk 17 23 ?_
    refine tkv 18 24 ?_
    refine tkv 19 25 ?_
    refine tkv 20 26 ?_
    refine tkv 21 27 ?_
    refine tkv 22 28 ?_
    refine tkv 23 29 ?_
    refine tkv 24 30 ?_
    refine tkv 25 31 ?_
    refine tk 26 32 ?_
    refine wpAnyH_done (by kernel_rfl) ?_ _
    go_wp2
    go_ret
    exact ⟨rfl, hHeld.2.2.2.2.2.2.1⟩
  have hv := vB_iff.1 g
  obtain ⟨m1, m2, m3⟩ := sideB_iff.1 sx
  obtain ⟨m4, m5, m6⟩ := sideB_iff.1 sy
  have sb1 := (sum_bound xs m2).1
  have sb2 := (sum_bound ys m5).1
  have hs1 := fun w (hr : IRow w a1 xs) => l02Sum_any a1 n1 c1 xs w h1 (by omega) (fun x hx => by have := m2 x hx; omega) hr
  have hs2 := fun w (hr : IRow w a2 ys) => l02Sum_any a2 n2 c2 ys w h2 (by omega) (fun x hx => by have := m5 x hx; omega) hr
  have HS1 := Lib.hid hs1
  have HS2 := Lib.hid hs2
  have q1 : xs.sum ≤ 15 := by omega
  have q2 : ys.sum ≤ 15 := by omega
  have wz : IntKind.i64.wrap (xs.sum + ys.sum) = xs.sum + ys.sum := IntWalk.i64_in _ (by omega)
  by_cases z : xs.sum + ys.sum = 0
  · have zz : (xs.sum + ys.sum == 0) = true := by rw [beq_iff_eq]; exact z
    clear hs1 hs2 m1 m2 m3 m4 m5 m6 hv
    have e0 : isB p c h s xs ys = false := by simp [isB, g, sx, sy, z]
    rw [e0]
    clear z
    clear e0
    go_enter Tryz.func36, Tryz.ntmps36
    go_wp2_with fail
    generalize ((w.alloc (.cells #[.int .i64 p, .int .i64 c, .int .i64 h, .int .i64 s] 25)).alloc (.cells #[.slice a1 n1 c1, .slice a2 n2 c2] 28)) = v0 at *
    refine wp_region_held_drew (S := fun w' => w'.cell? ⟨w.heap.size, 0, none⟩ = some (.int .i64 p) ∧ w'.cell? ⟨w.heap.size, 1, none⟩ = some (.int .i64 c) ∧ w'.cell? ⟨w.heap.size, 2, none⟩ = some (.int .i64 h) ∧ w'.cell? ⟨w.heap.size, 3, none⟩ = some (.int .i64 s) ∧ w'.cell? ⟨w.heap.size + 1, 0, none⟩ = some (.slice a1 n1 c1) ∧ w'.cell? ⟨w.heap.size + 1, 1, none⟩ = some (.slice a2 n2 c2) ∧ Below w.heap.size w w' ∧ w.heap.size + 1 < w'.heap.size) (by kernel_rfl) ⟨x0, x1, x2, x3, y0, y1, hb.drew, hz1⟩ (fun hHeld => ?_)
    refine tk 0 6 ?_
    refine rdk 1 7 fun K hK => ?_
    go_simp
    refine (specIsVariant_any _ _ _ _ _).mono ?_
    rintro e w2 ⟨rfl, hb2⟩
    have hS := heldVB hHeld hb2
    (try go_wp2_with fail)
    refine hko hK hS fun hHeld => ?_
    clear hK K
    refine tk 2 8 ?_
    refine tk 3 9 ?_
    refine tk 4 10 ?_
    refine tk 5 11 ?_
    refine tk 6 12 ?_
    refine rdk 7 13 fun K hK => ?_
    go_simp
    refine (l02Side_any p c h s a1 n1 c1 xs _ g h1 l1 (r1.below hHeld.2.2.2.2.2.2.1)).mono ?_
    rintro e w2 ⟨rfl, hb2⟩
    have hS := heldVB hHeld hb2
    (try go_wp2_with fail)
    refine hko hK hS fun hHeld => ?_
    clear hK K
    refine tk 8 14 ?_
    refine tk 9 15 ?_
    refine tk 10 16 ?_
    refine tk 11 17 ?_
    refine tk 12 18 ?_
    refine tk 13 19 ?_
    refine rdk 14 20 fun K hK => ?_
    go_simp
    refine (l02Side_any p c h s a2 n2 c2 ys _ g h2 l2 (r2.below hHeld.2.2.2.2.2.2.1)).mono ?_
    rintro e w2 ⟨rfl, hb2⟩
    have hS := heldVB hHeld hb2
    (try go_wp2_with fail)
    refine hko hK hS fun hHeld => ?_
    clear hK K
    refine tk 15 21 ?_
    refine tk 16 22 ?_
    refine tk 17 23 ?_
    refine tk 18 24 ?_
    refine tk 19 25 ?_
    refine tk 21 27 ?_
    refine tk 22 28 ?_
    refine rdk 20 26 fun K hK => ?_
    go_simp
    refine (HS1.out _ (r1.below hHeld.2.2.2.2.2.2.1)).mono ?_
    rintro e w2 ⟨rfl, rfl⟩
    (try go_wp2_with fail)
    refine hko hK hHeld fun hHeld => ?_
    clear hK K
    refine rdk 23 29 fun K hK => ?_
    go_simp
    refine (HS2.out _ (r2.below hHeld.2.2.2.2.2.2.1)).mono ?_
    rintro e w2 ⟨rfl, rfl⟩
    (try go_wp2_with fail)
    refine hko hK hHeld fun hHeld => ?_
    clear hK K
    refine tk 24 30 ?_
    refine tk 25 31 ?_
    refine tk 26 32 ?_
    refine wpAnyH_done (by kernel_rfl) ?_ _
    go_wp2
    go_ret
    exact ⟨rfl, hHeld.2.2.2.2.2.2.1⟩
  · have zz : (xs.sum + ys.sum == 0) = false := by rw [beq_eq_false_iff_ne]; exact z
    obtain ⟨R, hR⟩ : ∃ R, isB p c h s xs ys = R := ⟨_, rfl⟩
    rw [hR]
    have HR := Lib.hid hR
    have p0 : 2 ≤ p := hv.1
    have p1 : p ≤ 24 := hv.2.1
    obtain ⟨P, rfl⟩ := Int.eq_ofNat_of_zero_le (by omega : 0 ≤ p)
    have M1 : P + 1 ≤ n1 ∧ n1 ≤ P + 1 := by omega
    have M4 : P + 1 ≤ n2 ∧ n2 ≤ P + 1 := by omega
    have hRR : R = apartB P xs ys := by rw [← hR]; simp [isB, g, sx, sy, z]
    have HRR := Lib.hid hRR
    clear hRR
    clear hs1 hs2 m1 m2 m3 m4 m5 m6 hv hR
    go_enter Tryz.func36, Tryz.ntmps36
    go_wp2_with fail
    generalize ((w.alloc (.cells #[.int .i64 (P : Int), .int .i64 c, .int .i64 h, .int .i64 s] 25)).alloc (.cells #[.slice a1 n1 c1, .slice a2 n2 c2] 28)) = v0 at *
    refine wp_region_held_drew (S := fun w' => w'.cell? ⟨w.heap.size, 0, none⟩ = some (.int .i64 (P : Int)) ∧ w'.cell? ⟨w.heap.size, 1, none⟩ = some (.int .i64 c) ∧ w'.cell? ⟨w.heap.size, 2, none⟩ = some (.int .i64 h) ∧ w'.cell? ⟨w.heap.size, 3, none⟩ = some (.int .i64 s) ∧ w'.cell? ⟨w.heap.size + 1, 0, none⟩ = some (.slice a1 n1 c1) ∧ w'.cell? ⟨w.heap.size + 1, 1, none⟩ = some (.slice a2 n2 c2) ∧ Below w.heap.size w w' ∧ w.heap.size + 1 < w'.heap.size) (by kernel_rfl) ⟨x0, x1, x2, x3, y0, y1, hb.drew, hz1⟩ (fun hHeld => ?_)
    refine tk 0 6 ?_
    refine rdk 1 7 fun K hK => ?_
    go_simp
    refine (specIsVariant_any _ _ _ _ _).mono ?_
    rintro e w2 ⟨rfl, hb2⟩
    have hS := heldVB hHeld hb2
    (try go_wp2_with fail)
    refine hko hK hS fun hHeld => ?_
    clear hK K
    refine tk 2 8 ?_
    refine tk 3 9 ?_
    refine tk 4 10 ?_
    refine tk 5 11 ?_
    refine tk 6 12 ?_
    refine rdk 7 13 fun K hK => ?_
    go_simp
    refine (l02Side_any (P : Int) c h s a1 n1 c1 xs _ g h1 l1 (r1.below hHeld.2.2.2.2.2.2.1)).mono ?_
    rintro e w2 ⟨rfl, hb2⟩
    have hS := heldVB hHeld hb2
    (try go_wp2_with fail)
    refine hko hK hS fun hHeld => ?_
    clear hK K
    refine tk 8 14 ?_
    refine tk 9 15 ?_
    refine tk 10 16 ?_
    refine tk 11 17 ?_
    refine tk 12 18 ?_
    refine tk 13 19 ?_
    refine rdk 14 20 fun K hK => ?_
    go_simp
    refine (l02Side_any (P : Int) c h s a2 n2 c2 ys _ g h2 l2 (r2.below hHeld.2.2.2.2.2.2.1)).mono ?_
    rintro e w2 ⟨rfl, hb2⟩
    have hS := heldVB hHeld hb2
    (try go_wp2_with fail)
    refine hko hK hS fun hHeld => ?_
    clear hK K
    refine tk 15 21 ?_
    refine tk 16 22 ?_
    refine tk 17 23 ?_
    refine tk 18 24 ?_
    refine tk 19 25 ?_
    refine tk 21 27 ?_
    refine tk 22 28 ?_
    refine rdk 20 26 fun K hK => ?_
    go_simp
    refine (HS1.out _ (r1.below hHeld.2.2.2.2.2.2.1)).mono ?_
    rintro e w2 ⟨rfl, rfl⟩
    (try go_wp2_with fail)
    refine hko hK hHeld fun hHeld => ?_
    clear hK K
    refine rdk 23 29 fun K hK => ?_
    go_simp
    refine (HS2.out _ (r2.below hHeld.2.2.2.2.2.2.1)).mono ?_
    rintro e w2 ⟨rfl, rfl⟩
    (try go_wp2_with fail)
    refine hko hK hHeld fun hHeld => ?_
    clear hK K
    refine tk 24 30 ?_
    refine tk 25 31 ?_
    refine tk 26 32 ?_
    refine wpAnyH_done (by kernel_rfl) ?_ _
    go_wp2
    clear HS1 HS2 wz zz z q1 q2 sb1 sb2 hS
    go_loopg [5] P (fun m i wr => (wr.cell? ⟨w.heap.size, 0, none⟩ = some (.int .i64 (P : Int)) ∧ wr.cell? ⟨w.heap.size, 1, none⟩ = some (.int .i64 c) ∧ wr.cell? ⟨w.heap.size, 2, none⟩ = some (.int .i64 h) ∧ wr.cell? ⟨w.heap.size, 3, none⟩ = some (.int .i64 s) ∧ wr.cell? ⟨w.heap.size + 1, 0, none⟩ = some (.slice a1 n1 c1) ∧ wr.cell? ⟨w.heap.size + 1, 1, none⟩ = some (.slice a2 n2 c2) ∧ Below w.heap.size w wr ∧ w.heap.size + 1 < wr.heap.size) ∧ ∃ k : Nat, k ≤ P ∧ m = P - k ∧ i = .int .i64 k ∧ ∀ j, j < k → (!(decide (0 < xs.getD j 0) && decide (0 < ys.getD (P - 1 - j) 0))) = true)
    case atStart => exact ⟨hHeld, 0, by omega, by omega, rfl, fun j hj => by omega⟩
    case round =>
      clear hHeld
      obtain ⟨hSr, k, hk, hm, rfl, hall⟩ := hrel
      have HA := Lib.hid hall
      clear hall
      have hSr2 := hSr
      obtain ⟨z0, z1, z2, z3, z4, z5, z6, z7⟩ := hSr
      by_cases hlt : k < P
      · have hlt' : (k : Int) < (P : Int) := by omega
        have hk0 : (0 : Int) ≤ (k : Int) := by omega
        have hin1 : (k : Int) < (n1 : Int) := by omega
        have hin2 : (0 : Int) ≤ (P : Int) - 1 - (k : Int) := by omega
        have hin3 : (P : Int) - 1 - (k : Int) < (n2 : Int) := by omega
        obtain ⟨b1, o1, rfl, hc1⟩ := r1.below z6 k (by omega)
        obtain ⟨b2, o2, rfl, hc2⟩ := r2.below z6 (P - 1 - k) (by omega)
        obtain ⟨u1, hu1⟩ : ∃ u, xs.getD k 0 = u := ⟨_, rfl⟩
        obtain ⟨u2, hu2⟩ : ∃ u, ys.getD (P - 1 - k) 0 = u := ⟨_, rfl⟩
        rw [hu1] at hc1
        rw [hu2] at hc2
        have U1 := Lib.hid hu1
        have U2 := Lib.hid hu2
        have S2 := Lib.hid hSr2
        clear hu1 hu2 hSr2
        by_cases d1 : 0 < u1
        · have f1 : decide (0 < u1) = true := by simpa using d1
          by_cases d2 : 0 < u2
          · have f2 : decide (0 < u2) = true := by simpa using d2
            have hno : R = false := by
              rw [HRR.out, apartB, List.all_eq_false]
              exact ⟨k, by simpa using hlt, by rw [U1.out, U2.out, f1, f2]; simp⟩
            subst hno
            go_wp2
            go_ret
            exact ⟨rfl, z6⟩
          · have f2 : decide (0 < u2) = false := by simpa using d2
            go_wp2
            go_roundg (P - (k + 1))
            case measure => omega
            case rel =>
              refine ⟨S2.out, k + 1, by omega, rfl, by go_num, fun j hj => ?_⟩
              by_cases hjk : j = k
              · subst hjk
                rw [U1.out, U2.out, f1, f2]
                rfl
              · exact HA.out j (by omega)
        · have f1 : decide (0 < u1) = false := by simpa using d1
          go_wp2
          go_roundg (P - (k + 1))
          case measure => omega
          case rel =>
            refine ⟨S2.out, k + 1, by omega, rfl, by go_num, fun j hj => ?_⟩
            by_cases hjk : j = k
            · subst hjk
              rw [U1.out, f1]
              rfl
            · exact HA.out j (by omega)
      · obtain rfl : k = P := by omega
        have hyes : R = true := by
          rw [HRR.out, apartB, List.all_eq_true]
          intro j hj
          exact HA.out j (by simpa using hj)
        subst hyes
        go_wp2
        go_ret
        exact ⟨rfl, z6⟩
end Go.Proofs.YtciljbnailobgaaGreat
namespace Go.Proofs.YtciljbnailobgaaGreat
open Go.ChangeShapes Go.WideShapes Go.ChangeAt Go.RowKit
set_option linter.unusedVariables false
set_option linter.unusedSimpArgs false
set_option maxRecDepth 4000
theorem below2n {wS W : World} {B : Nat} {u0 u1 : Value} {t : TypeId} (_ : Blk W B #[u0, u1] t) (h : Below wS.heap.size wS W) (hB : wS.heap.size ≤ B) (v0 v1 : Value) : Below wS.heap.size wS ((W.setCell ⟨B, 0, none⟩ v0).setCell ⟨B, 1, none⟩ v1) :=
  (h.setCell (p := ⟨B, 0, none⟩) hB _).setCell (p := ⟨B, 1, none⟩) hB _
theorem OBd.other {lo hi B o : Nat} {w : World} {v : Value} {a1 a2 : Option Addr} {xs ys : List Int} (h : OBd lo hi w a1 a2 xs ys) (hB : B < lo ∨ hi ≤ B) : OBd lo hi (w.setCell ⟨B, o, none⟩ v) a1 a2 xs ys := by
  rcases h with h | ⟨g1, g2, e1, e2, hne, b1, b2, b3, b4, r1, r2⟩
  · exact .inl h
  · exact .inr ⟨g1, g2, e1, e2, hne, b1, b2, b3, b4, r1.other (by omega), r2.other (by omega)⟩
theorem OBd.alloc {lo hi : Nat} {w : World} {a1 a2 : Option Addr} {xs ys : List Int} (h : OBd lo hi w a1 a2 xs ys) (o : Obj) : OBd lo hi (w.alloc o) a1 a2 xs ys := h.below ((Below.refl _ _).alloc (Nat.le_refl _) o)
def VarB (base : Nat) (w' : World) (B : Nat) (d1 d2 : Option Addr) (m1 m2 k1 k2 lo hi : Nat) (sx sy : List Int) : Prop :=
  Blk w' B #[.slice d1 m1 k1, .slice d2 m2 k2] 28 ∧ OBd lo hi w' d1 d2 sx sy ∧ (B < lo ∨ hi ≤ B) ∧ base ≤ lo ∧ hi ≤ w'.heap.size ∧ base ≤ B
theorem VarB.below {base B m1 m2 k1 k2 lo hi : Nat} {w w' : World} {d1 d2 : Option Addr} {sx sy : List Int} (h : VarB base w B d1 d2 m1 m2 k1 k2 lo hi sx sy) (hb : Below w.heap.size w w') : VarB base w' B d1 d2 m1 m2 k1 k2 lo hi sx sy := by
  obtain ⟨h1, h2, h3, h4, h5, h6⟩ := h
  exact ⟨h1.below hb, h2.below hb, h3, h4, Nat.le_trans h5 hb.size, h6⟩
theorem VarB.same {base B m1 m2 k1 k2 lo hi lo2 hi2 : Nat} {w w' : World} {d1 d2 : Option Addr} {sx sy : List Int} (h : VarB base w B d1 d2 m1 m2 k1 k2 lo hi sx sy) (hs : Same lo2 hi2 w w') (hd : hi ≤ lo2 ∨ hi2 ≤ lo) (hB : B < lo2 ∨ hi2 ≤ B) : VarB base w' B d1 d2 m1 m2 k1 k2 lo hi sx sy := by
  obtain ⟨h1, h2, h3, h4, h5, h6⟩ := h
  exact ⟨h1.same hs hB, h2.same hs hd, h3, h4, Nat.le_trans h5 hs.size, h6⟩
theorem VarB.marked {base B m1 m2 k1 k2 lo hi : Nat} {w w' : World} {d1 d2 : Option Addr} {sx sy tx ty : List Int} (h : VarB base w B d1 d2 m1 m2 k1 k2 lo hi sx sy) (hs : Same lo hi w w') (ho : OBd lo hi w' d1 d2 tx ty) : VarB base w' B d1 d2 m1 m2 k1 k2 lo hi tx ty := by
  obtain ⟨h1, h2, h3, h4, h5, h6⟩ := h
  exact ⟨h1.same hs h3, ho, h3, h4, Nat.le_trans h5 hs.size, h6⟩
theorem VarB.other {base B B2 m1 m2 k1 k2 lo hi : Nat} {W : World} {d1 d2 : Option Addr} {sx sy : List Int} (h : VarB base W B d1 d2 m1 m2 k1 k2 lo hi sx sy) (hne : B2 ≠ B) (ho : B2 < lo ∨ hi ≤ B2) (v0 v1 : Value) :
    VarB base ((W.setCell ⟨B2, 0, none⟩ v0).setCell ⟨B2, 1, none⟩ v1) B d1 d2 m1 m2 k1 k2 lo hi sx sy := by
  obtain ⟨h1, h2, h3, h4, h5, h6⟩ := h
  exact ⟨(h1.other (fun e => hne e.symm)).other (fun e => hne e.symm), (h2.other ho).other ho, h3, h4, by simpa using h5, h6⟩
theorem VarB.drew {base B m1 m2 k1 k2 lo hi : Nat} {w : World} {d1 d2 : Option Addr} {sx sy : List Int} (h : VarB base w B d1 d2 m1 m2 k1 k2 lo hi sx sy) : VarB base w.drew B d1 d2 m1 m2 k1 k2 lo hi sx sy := h
end Go.Proofs.YtciljbnailobgaaGreat
namespace Go.Proofs.YtciljbnailobgaaGreat
open Go.ChangeShapes Go.WideShapes Go.ChangeAt Go.RowKit
set_option linter.unusedVariables false
set_option linter.unusedSimpArgs false
abbrev Stp := Int × Int × Int × Bool
def stC (s : Stp) : List Value := [.int .i64 s.1, .int .i64 s.2.1, .int .i64 s.2.2.1, .bool s.2.2.2]
abbrev stV (s : Stp) : Value := .agg #[.int .i64 s.1, .int .i64 s.2.1, .int .i64 s.2.2.1, .bool s.2.2.2]
def stepsC : List Stp → List Value
  | [] => []
  | s :: l => stC s ++ stepsC l
theorem stepsC_length : ∀ l : List Stp, (stepsC l).length = l.length * 4
  | [] => rfl
  | s :: l => by simp [stepsC, stC, stepsC_length l]; omega
theorem stepsC_append : ∀ l m : List Stp, stepsC (l ++ m) = stepsC l ++ stepsC m
  | [], m => rfl
  | s :: l, m => by simp [stepsC, stepsC_append l m]
theorem stepsC_at : ∀ (l : List Stp) (k : Nat) (s : Stp), l[k]? = some s → ∀ j, j < 4 → (stepsC l)[k * 4 + j]? = (stC s)[j]?
  | [], k, s, h, j, hj => by simp at h
  | x :: l, 0, s, h, j, hj => by
    simp at h
    subst h
    rw [stepsC, List.getElem?_append_left (by simp [stC]; omega), Nat.zero_mul, Nat.zero_add]
  | x :: l, k + 1, s, h, j, hj => by
    rw [stepsC, List.getElem?_append_right (by simp [stC]; omega)]
    have := stepsC_at l k s (by simpa using h) j hj
    rw [← this]
    congr 1
    simp [stC]
    omega
def VRow (w : World) (g : Nat) (vs : List Value) (t : TypeId) : Prop := ∃ cur : Array Value, Blk w g cur t ∧ vs.length ≤ cur.size ∧ cur.toList.take vs.length = vs
theorem VRow.lt {w : World} {g : Nat} {vs : List Value} {t : TypeId} (h : VRow w g vs t) : g < w.heap.size := by obtain ⟨c, hB, _⟩ := h; exact hB.lt
theorem VRow.below {w w' : World} {g : Nat} {vs : List Value} {t : TypeId} (h : VRow w g vs t) (hb : Below w.heap.size w w') : VRow w' g vs t := by
  obtain ⟨c, hB, h1, h2⟩ := h; exact ⟨c, hB.below hb, h1, h2⟩
theorem VRow.drew {w : World} {g : Nat} {vs : List Value} {t : TypeId} (h : VRow w g vs t) : VRow w.drew g vs t := h
theorem VRow.grown {w w' : World} {g g' : Nat} {vs : List Value} {t : TypeId} (h : VRow w g' vs t) (hg : w.grownBy w' (some g)) (hne : g' ≠ g) : VRow w' g' vs t := by
  obtain ⟨c, hB, h1, h2⟩ := h
  exact ⟨c, hB.grown hg hne, h1, h2⟩
theorem VRow.other {w : World} {g g' o : Nat} {vs : List Value} {t : TypeId} {v : Value} (h : VRow w g' vs t) (hne : g' ≠ g) : VRow (w.setCell ⟨g, o, none⟩ v) g' vs t := by
  obtain ⟨c, hB, h1, h2⟩ := h
  exact ⟨c, (Below.heap_setCell w ⟨g, o, none⟩ v g' hne).trans hB, h1, h2⟩
theorem VRow.same {lo hi g : Nat} {w w' : World} {vs : List Value} {t : TypeId} (h : VRow w g vs t) (hs : Same lo hi w w') (hg : g < lo ∨ hi ≤ g) : VRow w' g vs t := by
  obtain ⟨cur, hB, h1, h2⟩ := h
  exact ⟨cur, hB.same hs hg, h1, h2⟩
theorem VRow.cell {w : World} {g : Nat} {vs : List Value} {t : TypeId} (h : VRow w g vs t) (i : Nat) (v : Value) (hi : vs[i]? = some v) : w.cell? ⟨g, i, none⟩ = some v := by
  obtain ⟨c, hB, h1, h2⟩ := h
  rw [hB.cell i, ← hi]
  have hlt := (List.getElem?_eq_some_iff.1 hi).1
  have h3 : (c.toList.take vs.length)[i]? = c[i]? := by rw [List.getElem?_take_of_lt hlt]; simp
  rw [← h3, h2]
theorem VRow.free {w : World} {g : Nat} {vs : List Value} {t : TypeId} (h : VRow w g vs t) (i : Nat) : w.frozen? ⟨g, i, none⟩ = false := by
  obtain ⟨c, hB, _, _⟩ := h; exact hB.free i
theorem VRow.set {w : World} {g : Nat} {vs : List Value} {t : TypeId} (h : VRow w g vs t) (i : Nat) (v : Value) : VRow (w.setCell ⟨g, i, none⟩ v) g (vs.set i v) t := by
  obtain ⟨c, hB, h1, h2⟩ := h
  refine ⟨_, hB.set (i := i) v, by simpa using h1, ?_⟩
  rw [List.length_set, Array.toList_setIfInBounds, List.take_set, h2]
theorem VRow.wf {w : World} {g : Nat} {vs us : List Value} {t : TypeId} (h : VRow w g vs t) (e : vs = us) : VRow w g us t := e ▸ h
theorem VRow.take {w : World} {g : Nat} {vs : List Value} {t : TypeId} (h : VRow w g vs t) (n : Nat) : VRow w g (vs.take n) t := by
  obtain ⟨c, hB, h1, h2⟩ := h
  refine ⟨c, hB, by rw [List.length_take]; omega, ?_⟩
  rw [List.length_take]
  have : c.toList.take (min n vs.length) = (c.toList.take vs.length).take n := by rw [List.take_take]
  rw [this, h2]
abbrev SRow (w : World) (g : Nat) (l : List Stp) : Prop := VRow w g (stepsC l) 55
theorem SRow.four {w : World} {g : Nat} {l : List Stp} (h : SRow w g l) (k : Nat) (s : Stp) (hk : l[k]? = some s) :
    w.cell? ⟨g, k * 4, none⟩ = some (.int .i64 s.1) ∧ w.cell? ⟨g, k * 4 + 1, none⟩ = some (.int .i64 s.2.1) ∧ w.cell? ⟨g, k * 4 + 2, none⟩ = some (.int .i64 s.2.2.1) ∧ w.cell? ⟨g, k * 4 + 3, none⟩ = some (.bool s.2.2.2) :=
  ⟨h.cell _ _ (by have := stepsC_at l k s hk 0 (by omega); simpa [stC] using this), h.cell _ _ (by have := stepsC_at l k s hk 1 (by omega); simpa [stC] using this),
   h.cell _ _ (by have := stepsC_at l k s hk 2 (by omega); simpa [stC] using this), h.cell _ _ (by have := stepsC_at l k s hk 3 (by omega); simpa [stC] using this)⟩
def OSt (lo hi : Nat) (w : World) (a : Option Addr) (l : List Stp) : Prop :=
  (a = none ∧ l = []) ∨ ∃ g, a = some ⟨g, 0, none⟩ ∧ lo ≤ g ∧ g < hi ∧ SRow w g l
theorem OSt.below {lo hi : Nat} {w w' : World} {a : Option Addr} {l : List Stp} (h : OSt lo hi w a l) (hb : Below w.heap.size w w') : OSt lo hi w' a l := by
  rcases h with h | ⟨g, e, h1, h2, r⟩
  · exact .inl h
  · exact .inr ⟨g, e, h1, h2, r.below hb⟩
theorem OSt.drew {lo hi : Nat} {w : World} {a : Option Addr} {l : List Stp} (h : OSt lo hi w a l) : OSt lo hi w.drew a l := h
theorem OSt.alloc {lo hi : Nat} {w : World} {a : Option Addr} {l : List Stp} (h : OSt lo hi w a l) (o : Obj) : OSt lo hi (w.alloc o) a l := h.below ((Below.refl _ _).alloc (Nat.le_refl _) o)
theorem OSt.mono {lo hi lo' hi' : Nat} {w : World} {a : Option Addr} {l : List Stp} (h : OSt lo hi w a l) (h1 : lo' ≤ lo) (h2 : hi ≤ hi') : OSt lo' hi' w a l := by
  rcases h with h | ⟨g, e, q1, q2, r⟩
  · exact .inl h
  · exact .inr ⟨g, e, by omega, by omega, r⟩
theorem OSt.same {lo hi lo2 hi2 : Nat} {w w' : World} {a : Option Addr} {l : List Stp} (h : OSt lo2 hi2 w a l) (hs : Same lo hi w w') (hd : hi2 ≤ lo ∨ hi ≤ lo2) : OSt lo2 hi2 w' a l := by
  rcases h with h | ⟨g, e, q1, q2, r⟩
  · exact .inl h
  · exact .inr ⟨g, e, q1, q2, r.same hs (by omega)⟩
theorem OSt.row {lo hi : Nat} {w : World} {a : Option Addr} {l : List Stp} (h : OSt lo hi w a l) {k : Nat} (hk : k < l.length) : ∃ g, a = some ⟨g, 0, none⟩ ∧ SRow w g l := by
  rcases h with ⟨_, rfl⟩ | ⟨g, e, q1, q2, r⟩
  · simp at hk
  · exact ⟨g, e, r⟩
def StepsGot (l : List Stp) (w : World) (e : Ending) (w' : World) : Prop :=
  ∃ a k, e = .returned (.slice a l.length k) ∧ OSt w.heap.size w'.heap.size w' a l ∧ Below w.heap.size w w'
def OwnT (w : World) (base : Nat) (v : Value) (l : List Stp) : Prop := w.ownsRow base 55 4 v l.length (stepsC l)
theorem OwnT.form {w : World} {base : Nat} {v : Value} {l : List Stp} (h : OwnT w base v l) : ∃ a k, v = .slice a l.length k := by
  rcases h.2 with ⟨h1, h2⟩ | ⟨g, cap, cur, h1, _⟩
  · exact ⟨none, 0, by rw [h1, h2]⟩
  · exact ⟨some ⟨g, 0, none⟩, cap, h1⟩
theorem OwnT.ost {w : World} {base : Nat} {a : Option Addr} {n k : Nat} {l : List Stp} (h : OwnT w base (.slice a n k) l) : OSt base w.heap.size w a l := by
  obtain ⟨hl, h1 | ⟨g, cap, cur, hv, hb, hh, hc, hm, hs, ht⟩⟩ := h
  · obtain ⟨h1, h2⟩ := h1
    simp at h1
    exact .inl ⟨h1.1, List.eq_nil_of_length_eq_zero h2⟩
  · simp at hv
    obtain ⟨rfl, _, rfl⟩ := hv
    exact .inr ⟨g, rfl, hb, (Array.getElem?_eq_some_iff.1 hh).1, cur, hh, by rw [hl, hs]; exact Nat.mul_le_mul_right _ hc, by rw [hl]; exact ht⟩
theorem OwnT.alloc {w : World} {base : Nat} {v : Value} {l : List Stp} (h : OwnT w base v l) (o : Obj) : OwnT (w.alloc o) base v l := World.ownsRow.alloc h o
theorem OwnT.drew {w : World} {base : Nat} {v : Value} {l : List Stp} (h : OwnT w base v l) : OwnT w.drew base v l := h
theorem OwnT.kept {w w' : World} {base : Nat} {v : Value} {l : List Stp} (h : OwnT w base v l) (hb : Below w.heap.size w w') : OwnT w' base v l :=
  World.ownsRow.kept (row := none) h ⟨hb.os, hb.tape, hb.output, hb.size, fun k hk _ => hb.block k hk⟩ (by
    cases hv : v.ownBlock with
    | none => exact .inl rfl
    | some g => exact .inr (by simp))
theorem OwnT.start (w : World) : OwnT (w.alloc (.cells #[] 55)) w.heap.size (.slice (some ⟨w.heap.size, 0, none⟩) 0 0) [] :=
  ⟨rfl, .inr ⟨w.heap.size, 0, #[], rfl, Nat.le_refl _, Blk.new w #[] _, Nat.le_refl _, by unfold maxLen; omega, rfl, rfl⟩⟩
theorem OwnT.nil (w : World) (base : Nat) : OwnT w base (.slice none 0 0) [] := World.ownsRow_nil w base _ _
theorem OwnT.mono {w : World} {base base' : Nat} {v : Value} {l : List Stp} (h : OwnT w base v l) (hb : base' ≤ base) : OwnT w base' v l := by
  obtain ⟨h1, h2 | ⟨g, cap, cur, q1, q2, q3⟩⟩ := h
  · exact ⟨h1, .inl h2⟩
  · exact ⟨h1, .inr ⟨g, cap, cur, q1, by omega, q3⟩⟩
theorem infoStp : (Tryz.prog.info? 55).map (fun i => (i.zero, i.size, i.bytes)) = some (some (.agg #[.int .i64 0, .int .i64 0, .int .i64 0, .bool false]), 4, 32) := by kernel_rfl
theorem wp_pushT {ops : Array Oper} {rest : List Oper} {o : Oper} {a : Act} {Q : Exit → Act → World → Prop} (hgd : o.guard = none) (s x : Operand)
    (ho : o.op = .call { callee := .builtin .append, args := #[s, x], argTypes := #[42, 42] })
    (base : Nat) (v : Value) (l : List Stp) (hs : a.eval s = v) {w0 : World} (hown : OwnT w0 base v l) (u : Stp)
    {zz : Nat} (hx : a.eval x = .slice (some ⟨zz, 0, none⟩) 1 1) (hzz : w0.heap.size = zz) (hl : l.length ≤ 1048576) (hbase : base ≤ w0.heap.size)
    (h : ∀ v' w', OwnT w' base v' (l ++ [u]) → Below base w0 w' → wpList Tryz.prog ops Q rest (a.put o.dst v') w') : wpList Tryz.prog ops Q (o :: rest) a (w0.alloc (.cells #[.int .i64 u.1, .int .i64 u.2.1, .int .i64 u.2.2.1, .bool u.2.2.2] 55)) := by
  subst hzz
  obtain ⟨i0, hi, hz0, hz1, hz2⟩ := info_parts infoStp
  have hown0 : w0.ownsRow base 55 4 v l.length (stepsC l) := hown
  refine wpList_append_own _ hgd s x 42 ho base 55 i0 _ 4 32 Tryz.underlying42 hi hz0 hz1 hz2 rfl (by decide) v l.length (stepsC l) hs (hown0.alloc _) ⟨w0.heap.size, 0, none⟩ 1 1 (stC u) hx (by simp [stC])
    (World.news_of_block (cs := #[.int .i64 u.1, .int .i64 u.2.1, .int .i64 u.2.2.1, .bool u.2.2.2]) (Blk.new w0 _ 55)) (fun y hy => by simp [stC] at hy; rcases hy with rfl | rfl | rfl | rfl <;> rfl) (by unfold maxLen; omega) (by omega) (by simp; omega) ?_
  intro v' w' hown' hgrow _
  refine h v' w' ?_ (((Below.refl base w0).alloc hbase _).grown hgrow (by simp; omega) (fun k hk => (hown0.lt k hk).1))
  show w'.ownsRow base 55 4 _ (l ++ [u]).length (stepsC (l ++ [u]))
  rw [List.length_append, stepsC_append]
  simpa [stepsC] using hown'
def Res4 (w : World) (g : Nat) (t : TypeId) : Prop := ∃ q0 q1 q2 q3, Blk w g #[q0, q1, q2, q3] t
theorem Res4.below {W w2 : World} {g : Nat} {t : TypeId} (h : Res4 W g t) (hb : Below W.heap.size W w2) : Res4 w2 g t := by
  obtain ⟨q0, q1, q2, q3, h⟩ := h
  exact ⟨q0, q1, q2, q3, h.below hb⟩
theorem Res4.drew {W : World} {g : Nat} {t : TypeId} (h : Res4 W g t) : Res4 W.drew g t := h
def CellIs (w : World) (b o : Nat) (v : Value) : Prop := w.cell? ⟨b, o, none⟩ = some v
theorem CellIs.below {W w2 : World} {b o : Nat} {v : Value} (h : CellIs W b o v) (hb : Below W.heap.size W w2) : CellIs w2 b o v :=
  (hb.cell (p := ⟨b, o, none⟩) (World.block_lt_of_cell? W _ h)).trans h
theorem CellIs.drew {W : World} {b o : Nat} {v : Value} (h : CellIs W b o v) : CellIs W.drew b o v := h
abbrev set4 (W : World) (g : Nat) (a b c d : Value) : World := ((((W.setCell ⟨g, 0, none⟩ a).setCell ⟨g, 1, none⟩ b).setCell ⟨g, 2, none⟩ c).setCell ⟨g, 3, none⟩ d)
theorem Blk.set4 {W : World} {g g' : Nat} {vs : Array Value} {t : TypeId} (h : Blk W g' vs t) (hne : g' ≠ g) (a b c d : Value) : Blk (set4 W g a b c d) g' vs t :=
  (((h.other hne).other hne).other hne).other hne
theorem Res4.set4 {W : World} {g : Nat} {t : TypeId} (h : Res4 W g t) (a b c d : Value) : Res4 (set4 W g a b c d) g t := by
  obtain ⟨q0, q1, q2, q3, h⟩ := h
  exact ⟨_, _, _, _, (((h.set _).set _).set _).set _⟩
theorem CellIs.set4 {W : World} {g b' o : Nat} {v : Value} (h : CellIs W b' o v) (hne : b' ≠ g) (a b c d : Value) : CellIs (set4 W g a b c d) b' o v := by
  unfold CellIs at *
  rw [World.cell?_setCell_far _ _ _ _ (by simpa using fun e => hne e.symm), World.cell?_setCell_far _ _ _ _ (by simpa using fun e => hne e.symm), World.cell?_setCell_far _ _ _ _ (by simpa using fun e => hne e.symm), World.cell?_setCell_far _ _ _ _ (by simpa using fun e => hne e.symm)]
  exact h
def Pays (fn B : Nat) (xs : List Int) (w : World) : Prop :=
  (∀ (args : Array Value) (w' : World), (callFunc fn args).run Tryz.prog w' = .ok (.enter fn args) w') ∧
  ∀ w' : World, Below w.heap.size w w' → ∀ i : Nat, i < xs.length → Calls Tryz.prog fn #[.int .i64 i, .pointer (some ⟨B, 0, none⟩)] w' fun e w'' => e = .returned (.int .i64 (xs.getD i 0)) ∧ Below w'.heap.size w' w''
theorem Pays.below {fn B : Nat} {xs : List Int} {w w1 : World} (h : Pays fn B xs w) (hb : Below w.heap.size w w1) : Pays fn B xs w1 :=
  ⟨h.1, fun w' hw => h.2 w' (chain hb hw)⟩
theorem Pays.drew {fn B : Nat} {xs : List Int} {w : World} (h : Pays fn B xs w) : Pays fn B xs w.drew := h.below (Below.refl _ _).drew
theorem Blk.tri {w : World} {g : Nat} {v0 v1 v2 : Value} {t : TypeId} (h : Blk w g #[v0, v1, v2] t) :
    w.cell? ⟨g, 0, none⟩ = some v0 ∧ w.cell? ⟨g, 1, none⟩ = some v1 ∧ w.cell? ⟨g, 2, none⟩ = some v2 ∧ (∀ i, w.frozen? ⟨g, i, none⟩ = false) ∧ g < w.heap.size :=
  ⟨by simpa using h.cell 0, by simpa using h.cell 1, by simpa using h.cell 2, fun i => h.free i, h.lt⟩
abbrev fv (fn B : Nat) : Value := .func (.func fn) #[] #[.pointer (some ⟨B, 0, none⟩)]
set_option maxHeartbeats 1000000 in
theorem own_pays (B : Nat) (a1 a2 : Option Addr) (n1 c1 n2 c2 : Nat) (xs : List Int) (w : World) (hB : Blk w B #[.slice a1 n1 c1, .slice a2 n2 c2] 28) (hn : xs.length = n1) (hr : IRow w a1 xs) :
    Pays 88 B xs w := by
  refine ⟨enters_of (fn := Tryz.f88) (by kernel_rfl) (by kernel_rfl) rfl, fun w' hw i hi => ?_⟩
  obtain ⟨b, o, rfl, hc⟩ := hr.below hw i hi
  obtain ⟨x0, x1, xf, xl⟩ := (hB.below hw).two
  obtain ⟨v, hv⟩ : ∃ v, xs.getD i 0 = v := ⟨_, rfl⟩
  rw [hv] at hc ⊢
  have hi2 : i < n1 := by omega
  clear hv hB hr
  go_enter Tryz.func88, Tryz.ntmps88
  go_wp2
  go_ret
  exact ⟨rfl, Below.refl _ _⟩
set_option maxHeartbeats 1000000 in
theorem other_pays (B : Nat) (a1 a2 : Option Addr) (n1 c1 n2 c2 : Nat) (xs : List Int) (w : World) (hB : Blk w B #[.slice a1 n1 c1, .slice a2 n2 c2] 28) (hn : xs.length = n2) (hr : IRow w a2 xs) :
    Pays 89 B xs w := by
  refine ⟨enters_of (fn := Tryz.f89) (by kernel_rfl) (by kernel_rfl) rfl, fun w' hw i hi => ?_⟩
  obtain ⟨b, o, rfl, hc⟩ := hr.below hw i hi
  obtain ⟨x0, x1, xf, xl⟩ := (hB.below hw).two
  obtain ⟨v, hv⟩ : ∃ v, xs.getD i 0 = v := ⟨_, rfl⟩
  rw [hv] at hc ⊢
  have hi2 : i < n2 := by omega
  clear hv hB hr
  go_enter Tryz.func89, Tryz.ntmps89
  go_wp2
  go_ret
  exact ⟨rfl, Below.refl _ _⟩
abbrev tv (p : Int) (f1 f2 B : Nat) : Value := .agg #[.int .i64 p, fv f1 B, fv f2 B]
set_option maxHeartbeats 1000000 in
theorem countsOf_any (p c h s : Int) (a1 a2 : Option Addr) (n1 c1 n2 c2 : Nat) (xs ys : List Int) (w : World) (h1 : xs.length = n1) (h2 : ys.length = n2) (r1 : IRow w a1 xs) (r2 : IRow w a2 ys) :
    Calls Tryz.prog 58 #[.agg #[.int .i64 p, .int .i64 c, .int .i64 h, .int .i64 s], .agg #[.slice a1 n1 c1, .slice a2 n2 c2]] w fun e w' => ∃ B, e = .returned (tv p 88 89 B) ∧ Pays 88 B xs w' ∧ Pays 89 B ys w' ∧ Below w.heap.size w w' := by
  go_enter Tryz.func58, Tryz.ntmps58
  go_wp2
  have hb : Below w.heap.size w (((w.alloc (.cells #[.int .i64 p, .int .i64 c, .int .i64 h, .int .i64 s] 25)).alloc (.cells #[.slice a1 n1 c1, .slice a2 n2 c2] 28)).alloc (.cells #[.int .i64 p, fv 88 (w.heap.size + 1), fv 89 (w.heap.size + 1)] 109)) :=
    (((Below.refl _ _).alloc (Nat.le_refl _) _).alloc (by simp) _).alloc (by simp <;> omega) _
  have B1 : Blk ((w.alloc (.cells #[.int .i64 p, .int .i64 c, .int .i64 h, .int .i64 s] 25)).alloc (.cells #[.slice a1 n1 c1, .slice a2 n2 c2] 28)) (w.heap.size + 1) #[.slice a1 n1 c1, .slice a2 n2 c2] 28 := by
    have := Blk.new (w.alloc (.cells #[.int .i64 p, .int .i64 c, .int .i64 h, .int .i64 s] 25)) #[.slice a1 n1 c1, .slice a2 n2 c2] 28
    simpa using this
  have B2 := B1.alloc (.cells #[.int .i64 p, fv 88 (w.heap.size + 1), fv 89 (w.heap.size + 1)] 109)
  refine bodyPost_ret (v := tv p 88 89 (w.heap.size + 1)) (by simp [results, Tryz.results58, go_sem]) rfl ⟨w.heap.size + 1, rfl, own_pays _ _ _ _ _ _ _ _ _ B2 h1 (r1.below hb), other_pays _ _ _ _ _ _ _ _ _ B2 h2 (r2.below hb), hb⟩
set_option maxHeartbeats 2000000 in
theorem checkers_any (p : Int) (f1 f2 B0 fn B : Nat) (xs : List Int) (w : World) (p0 : 0 ≤ p) (p1 : p ≤ 24) (hn : (xs.length : Int) = p + 1) (hx : ∀ x ∈ xs, 0 ≤ x ∧ x ≤ 1000) (hp : Pays fn B xs w) :
    Calls Tryz.prog 76 #[tv p f1 f2 B0, fv fn B] w fun e w' => e = .returned (.int .i64 xs.sum) ∧ Below w.heap.size w w' := by
  go_enter Tryz.func76, Tryz.ntmps76
  have hb : Below w.heap.size w (w.alloc (.cells #[.int .i64 p, fv f1 B0, fv f2 B0] 109)) := (Below.refl _ _).alloc (Nat.le_refl _) _
  have hp0 := hp.below hb
  have e199 := hp.1
  go_wp2
  generalize (w.alloc (.cells #[.int .i64 p, fv f1 B0, fv f2 B0] 109)) = v0 at *
  go_loopg [5, 10] xs.length (fun m q i wr => ∃ k : Nat, k ≤ xs.length ∧ m = xs.length - k ∧ i = .int .i64 k ∧ q = .int .i64 (xs.take k).sum ∧ Pays fn B xs wr ∧ Below w.heap.size w wr)
  case atStart => exact ⟨0, by omega, by omega, rfl, rfl, hp0, hb⟩
  case round =>
    obtain ⟨k, hk, hm, rfl, rfl, hpw, hbel⟩ := hrel
    by_cases hlt : k < xs.length
    · have hlt' : (k : Int) < p + 1 := by omega
      have hb := sum_bound (c := 1000) (xs.take k) (fun x h => hx x (List.mem_of_mem_take h))
      have hl : (xs.take k).length ≤ 1000 := by simp; omega
      have hb0 : 0 ≤ (xs.take k).sum := hb.1
      have hb1 : (xs.take k).sum ≤ 1000000 := by have := hb.2; omega
      have hg := hx _ (getD_mem hlt)
      have hpk := hpw.2 wr (Below.refl _ _) k hlt
      obtain ⟨v, hv⟩ : ∃ v, xs.getD k 0 = v := ⟨_, rfl⟩
      have hst := sum_take xs k hlt
      rw [hv] at hpk hg hst
      have g0 : 0 ≤ v := hg.1
      have g1 : v ≤ 1000 := hg.2
      have HS := Lib.hid hst
      have HP := Lib.hid hpk
      clear hst hv hb hl hg hpk
      go_wp2_with (go_at_fn fn; refine HP.out.mono ?_; rintro e w5 ⟨rfl, hb5⟩)
      go_roundg (xs.length - (k + 1))
      case measure => omega
      case rel => exact ⟨k + 1, by omega, rfl, by go_num, by rw [HS.out], hpw.below hb5, chain hbel hb5⟩
    · obtain rfl : k = xs.length := by omega
      have hlt' : ¬ ((xs.length : Nat) : Int) < p + 1 := by omega
      go_wp2
      go_ret
      exact ⟨by simp, hbel⟩
theorem lastL_pos {xs : List Int} {k : Nat} (h : 0 < xs.getD k 0) : lastL xs (k + 1) = (k : Int) := by rw [lastL, if_pos h]
theorem lastL_not {xs : List Int} {k : Nat} (h : xs.getD k 0 = 0) : lastL xs (k + 1) = lastL xs k := by rw [lastL, if_neg (by omega)]
set_option maxHeartbeats 2000000 in
theorem farthest_any (p : Int) (f1 f2 B0 fn B : Nat) (xs : List Int) (w : World) (p0 : 0 ≤ p) (p1 : p ≤ 24) (hn : (xs.length : Int) = p + 1) (hx : ∀ x ∈ xs, 0 ≤ x ∧ x ≤ 1000) (hp : Pays fn B xs w) :
    Calls Tryz.prog 107 #[tv p f1 f2 B0, fv fn B] w fun e w' => e = .returned (.int .i64 (lastL xs xs.length)) ∧ Below w.heap.size w w' := by
  obtain ⟨L, hL⟩ : ∃ L, lastL xs xs.length = L := ⟨_, rfl⟩
  rw [hL]
  have HL0 := Lib.hid hL
  clear hL
  go_enter Tryz.func107, Tryz.ntmps107
  have hb : Below w.heap.size w (w.alloc (.cells #[.int .i64 p, fv f1 B0, fv f2 B0] 109)) := (Below.refl _ _).alloc (Nat.le_refl _) _
  have hp0 := hp.below hb
  have e199 := hp.1
  have hlen : 1 ≤ xs.length := by omega
  go_wp2
  generalize (w.alloc (.cells #[.int .i64 p, fv f1 B0, fv f2 B0] 109)) = v0 at *
  go_loopg [5] xs.length (fun m q wr => ∃ k : Nat, k ≤ xs.length ∧ m = k ∧ q = .int .i64 ((k : Int) - 1) ∧ lastL xs k = L ∧ Pays fn B xs wr ∧ Below w.heap.size w wr)
  case atStart => exact ⟨xs.length, by omega, rfl, by congr 1; omega, HL0.out, hp0, hb⟩
  case round =>
    obtain ⟨k, hk, hm, rfl, hl, hpw, hbel⟩ := hrel
    cases k with
    | zero =>
      have : L = -1 := by rw [← hl]; rfl
      subst this
      go_wp2
      go_ret
      exact ⟨rfl, hbel⟩
    | succ k =>
      have hlt : k < xs.length := by omega
      have hg := hx _ (getD_mem hlt)
      have hpk := hpw.2 wr (Below.refl _ _) k hlt
      obtain ⟨v, hv⟩ : ∃ v, xs.getD k 0 = v := ⟨_, rfl⟩
      rw [hv] at hpk hg
      have g0 : 0 ≤ v := hg.1
      have g1 : v ≤ 1000 := hg.2
      have HP := Lib.hid hpk
      have HV := Lib.hid hv
      have HL := Lib.hid hl
      have e1 : (((k + 1 : Nat) : Int) - 1) = (k : Int) := by omega
      rw [e1]
      clear hv hg hpk hl e1
      by_cases hz : v = 0
      · subst hz
        go_wp2_with (go_at_fn fn; refine HP.out.mono ?_; rintro e w5 ⟨rfl, hb5⟩)
        go_roundg k
        case measure => omega
        case rel => exact ⟨k, by omega, rfl, by go_num, by rw [← HL.out, lastL_not HV.out], hpw.below hb5, chain hbel hb5⟩
      · have : L = k := by rw [← HL.out]; exact lastL_pos (by rw [HV.out]; omega)
        subst this
        go_wp2_with (go_at_fn fn; refine HP.out.mono ?_; rintro e w5 ⟨rfl, hb5⟩)
        go_ret
        exact ⟨rfl, chain hbel hb5⟩
end Go.Proofs.YtciljbnailobgaaGreat
