/- Contracts of chapter 15: solved boards, of the program and of its model. -/
import Derived.Test.YtfcdndihcfgbhaaL02d
import Derived.Test.YtfcdndihcfgbhaaImpl02d
import Derived.Test.Ytfcdndihcfgbhaa12n0
namespace Go.Proofs.Ytfcdndihcfgbhaa
open Go.ChangeShapes Go.WideShapes Go.ChangeAt Go.RowKit
set_option linter.unusedVariables false
set_option linter.unusedSimpArgs false
set_option maxRecDepth 4000

/-- One of the sides has no checker, or both have passed each other and are on their home points. -/
def bofB (p h : Int) (xs ys : List Int) : Bool := overB xs ys || (!contB p xs ys && decide (lastL xs xs.length < h) && decide (lastL ys ys.length < h))
set_option maxHeartbeats 600000 in
theorem bearsOff_any (p c h s : Int) (a1 a2 : Option Addr) (n1 n2 c1 c2 : Nat) (xs ys : List Int) (w : World) (h1 : xs.length = n1) (h2 : ys.length = n2) (l1 : n1 ≤ 1048576) (l2 : n2 ≤ 1048576) (r1 : IRow w a1 xs) (r2 : IRow w a2 ys) (g : isB p c h s xs ys = true) :
    Calls Try.prog 22 #[.agg #[.int .i64 p, .int .i64 c, .int .i64 h, .int .i64 s], .agg #[.slice a1 n1 c1, .slice a2 n2 c2]] w fun e w' => e = .returned (.bool (bofB p h xs ys)) ∧ Below w.heap.size w w' := by
  obtain ⟨BV, BB, hb, hz⟩ := two_new w #[.int .i64 p, .int .i64 c, .int .i64 h, .int .i64 s] #[.slice a1 n1 c1, .slice a2 n2 c2] 29 31
  have hz1 : w.heap.size + 1 < ((w.alloc (.cells #[.int .i64 p, .int .i64 c, .int .i64 h, .int .i64 s] 29)).alloc (.cells #[.slice a1 n1 c1, .slice a2 n2 c2] 31)).heap.size := by rw [hz]; omega
  clear hz
  obtain ⟨x0, x1, x2, x3, xf, xl⟩ := BV.four
  obtain ⟨y0, y1, yf, yl⟩ := BB.two
  obtain ⟨p0, p1, k0, k1, k2, k3, N1, N2, hx, hy, s0, s1, s2, s3⟩ := isB_parts g
  rw [bofB]
  obtain ⟨u1, hu1⟩ : ∃ u, lastL xs xs.length = u := ⟨_, rfl⟩
  obtain ⟨u2, hu2⟩ : ∃ u, lastL ys ys.length = u := ⟨_, rfl⟩
  obtain ⟨O, hO⟩ : ∃ O, overB xs ys = O := ⟨_, rfl⟩
  obtain ⟨K, hC⟩ : ∃ K, contB p xs ys = K := ⟨_, rfl⟩
  rw [hu1, hu2, hO, hC]
  have HU1 := Lib.hid hu1
  have HU2 := Lib.hid hu2
  have HO := Lib.hid hO
  have HC := Lib.hid hC
  clear hu1 hu2 hO hC g
  cases O with
  | true =>
    rw [Bool.true_or]
    go_enter Try.func22, Try.ntmps22
    go_wp2_with (go_at_call 43; refine (countsOf_any _ c h s a1 a2 n1 c1 n2 c2 xs ys _ h1 h2 (r1.below hb) (r2.below hb)).mono ?_; rintro e w2 ⟨B, rfl, q1, q2, hb2⟩)
    have hK1 := fun W (hW : Below w2.heap.size w2 W) => over_any p 55 56 B xs ys W p0 p1 N1 N2 hx hy (q1.below hW) (q2.below hW)
    have hK2 := fun W (hW : Below w2.heap.size w2 W) => contact_any p 55 56 B xs ys W p0 p1 N1 N2 hx hy (q1.below hW) (q2.below hW)
    have hK3 := fun W (hW : Below w2.heap.size w2 W) => farthest_any p 55 56 B 55 B xs W (by omega) p1 N1 hx (q1.below hW)
    have hK4 := fun W (hW : Below w2.heap.size w2 W) => farthest_any p 55 56 B 56 B ys W (by omega) p1 N2 hy (q2.below hW)
    rw [HO.out] at hK1
    rw [HC.out] at hK2
    rw [HU1.out] at hK3
    rw [HU2.out] at hK4
    have HK1 := Lib.hid hK1
    have HK2 := Lib.hid hK2
    have HK3 := Lib.hid hK3
    have HK4 := Lib.hid hK4
    clear hK1 hK2 hK3 hK4
    have BVt := (BV.below hb2).alloc (.cells #[.int .i64 p, fv 55 B, fv 56 B] 57)
    have hbc : Below w2.heap.size w2 (w2.alloc (.cells #[.int .i64 p, fv 55 B, fv 56 B] 57)) := (Below.refl _ _).alloc (Nat.le_refl _) _
    obtain ⟨z0, z1, z2, zf, zl⟩ := (Blk.new w2 #[.int .i64 p, fv 55 B, fv 56 B] 57).tri
    have hlw : w.heap.size < w2.heap.size := (BV.below hb2).lt
    clear x0 x1 x2 x3 xf xl y0 y1 yf yl
    obtain ⟨x0, x1, x2, x3, xf, xl⟩ := BVt.four
    refine wp_region_held_drew (S := fun w' => w'.cell? ⟨w.heap.size, 0, none⟩ = some (.int .i64 p) ∧ w'.cell? ⟨w.heap.size, 1, none⟩ = some (.int .i64 c) ∧ w'.cell? ⟨w.heap.size, 2, none⟩ = some (.int .i64 h) ∧ w'.cell? ⟨w.heap.size, 3, none⟩ = some (.int .i64 s) ∧ w'.cell? ⟨w2.heap.size, 0, none⟩ = some (.int .i64 p) ∧ w'.cell? ⟨w2.heap.size, 1, none⟩ = some (fv 55 B) ∧ w'.cell? ⟨w2.heap.size, 2, none⟩ = some (fv 56 B) ∧ Below w2.heap.size w2 w' ∧ w2.heap.size < w'.heap.size ∧ w.heap.size < w2.heap.size) (by kernel_rfl) ⟨x0, x1, x2, x3, z0, z1, z2, hbc.drew, zl, hlw⟩ (fun hHeld => ?_)
    refine tk 0 9 ?_
    refine rdk 1 10 fun K hK => ?_
    go_simp
    refine (HK1.out _ hHeld.2.2.2.2.2.2.2.1).mono ?_
    rintro e w7 ⟨rfl, hb7⟩
    have hS := heldVT hHeld hb7
    (try go_wp2_with fail)
    refine hko hK hS fun hHeld => ?_
    clear hK K
    refine tk 2 11 ?_
    refine tkv 3 12 ?_
    refine tkv 4 13 ?_
    refine tkv 5 14 ?_
    refine tkv 6 15 ?_
    refine tkv 7 16 ?_
    refine tkv 8 17 ?_
    refine tkv 9 18 ?_
    refine tkv 10 19 ?_
    refine tkv 11 20 ?_
    refine tkv 12 21 ?_
    refine tkv 13 22 ?_
    refine tkv 14 23 ?_
    refine tkv 15 24 ?_
    refine tkv 16 25 ?_
    refine tkv 17 26 ?_
    refine tkv 18 27 ?_
    refine tkv 19 28 ?_
    refine tkv 20 29 ?_
    refine tkv 21 30 ?_
    refine tkv 22 31 ?_
    refine tkv 23 32 ?_
    refine tk 24 33 ?_
    refine tk 25 4 ?_
    refine wpAnyH_done (by kernel_rfl) ?_ _
    go_wp2
    go_ret
    exact ⟨rfl, chain (chain hb hb2) hHeld.2.2.2.2.2.2.2.1⟩
  | false =>
    rw [Bool.false_or]
    cases K with
    | true =>
      rw [Bool.not_true, Bool.false_and, Bool.false_and]
      go_enter Try.func22, Try.ntmps22
      go_wp2_with (go_at_call 43; refine (countsOf_any _ c h s a1 a2 n1 c1 n2 c2 xs ys _ h1 h2 (r1.below hb) (r2.below hb)).mono ?_; rintro e w2 ⟨B, rfl, q1, q2, hb2⟩)
      have hK1 := fun W (hW : Below w2.heap.size w2 W) => over_any p 55 56 B xs ys W p0 p1 N1 N2 hx hy (q1.below hW) (q2.below hW)
      have hK2 := fun W (hW : Below w2.heap.size w2 W) => contact_any p 55 56 B xs ys W p0 p1 N1 N2 hx hy (q1.below hW) (q2.below hW)
      have hK3 := fun W (hW : Below w2.heap.size w2 W) => farthest_any p 55 56 B 55 B xs W (by omega) p1 N1 hx (q1.below hW)
      have hK4 := fun W (hW : Below w2.heap.size w2 W) => farthest_any p 55 56 B 56 B ys W (by omega) p1 N2 hy (q2.below hW)
      rw [HO.out] at hK1
      rw [HC.out] at hK2
      rw [HU1.out] at hK3
      rw [HU2.out] at hK4
      have HK1 := Lib.hid hK1
      have HK2 := Lib.hid hK2
      have HK3 := Lib.hid hK3
      have HK4 := Lib.hid hK4
      clear hK1 hK2 hK3 hK4
      have BVt := (BV.below hb2).alloc (.cells #[.int .i64 p, fv 55 B, fv 56 B] 57)
      have hbc : Below w2.heap.size w2 (w2.alloc (.cells #[.int .i64 p, fv 55 B, fv 56 B] 57)) := (Below.refl _ _).alloc (Nat.le_refl _) _
      obtain ⟨z0, z1, z2, zf, zl⟩ := (Blk.new w2 #[.int .i64 p, fv 55 B, fv 56 B] 57).tri
      have hlw : w.heap.size < w2.heap.size := (BV.below hb2).lt
      clear x0 x1 x2 x3 xf xl y0 y1 yf yl
      obtain ⟨x0, x1, x2, x3, xf, xl⟩ := BVt.four
      refine wp_region_held_drew (S := fun w' => w'.cell? ⟨w.heap.size, 0, none⟩ = some (.int .i64 p) ∧ w'.cell? ⟨w.heap.size, 1, none⟩ = some (.int .i64 c) ∧ w'.cell? ⟨w.heap.size, 2, none⟩ = some (.int .i64 h) ∧ w'.cell? ⟨w.heap.size, 3, none⟩ = some (.int .i64 s) ∧ w'.cell? ⟨w2.heap.size, 0, none⟩ = some (.int .i64 p) ∧ w'.cell? ⟨w2.heap.size, 1, none⟩ = some (fv 55 B) ∧ w'.cell? ⟨w2.heap.size, 2, none⟩ = some (fv 56 B) ∧ Below w2.heap.size w2 w' ∧ w2.heap.size < w'.heap.size ∧ w.heap.size < w2.heap.size) (by kernel_rfl) ⟨x0, x1, x2, x3, z0, z1, z2, hbc.drew, zl, hlw⟩ (fun hHeld => ?_)
      refine tk 0 9 ?_
      refine rdk 1 10 fun K hK => ?_
      go_simp
      refine (HK1.out _ hHeld.2.2.2.2.2.2.2.1).mono ?_
      rintro e w7 ⟨rfl, hb7⟩
      have hS := heldVT hHeld hb7
      (try go_wp2_with fail)
      refine hko hK hS fun hHeld => ?_
      clear hK K
      refine tk 2 11 ?_
      refine tk 3 12 ?_
      refine rdk 4 13 fun K hK => ?_
      go_simp
      refine (HK2.out _ hHeld.2.2.2.2.2.2.2.1).mono ?_
      rintro e w7 ⟨rfl, hb7⟩
      have hS := heldVT hHeld hb7
      (try go_wp2_with fail)
      refine hko hK hS fun hHeld => ?_
      clear hK K
      refine tk 5 14 ?_
      refine tk 6 15 ?_
      refine tkv 7 16 ?_
      refine tkv 8 17 ?_
      refine tkv 9 18 ?_
      refine tkv 10 19 ?_
      refine tkv 11 20 ?_
      refine tkv 12 21 ?_
      refine tkv 13 22 ?_
      refine tk 14 23 ?_
      refine tk 15 24 ?_
      refine tkv 16 25 ?_
      refine tkv 17 26 ?_
      refine tkv 18 27 ?_
      refine tkv 19 28 ?_
      refine tkv 20 29 ?_
      refine tkv 21 30 ?_
      refine tkv 22 31 ?_
      refine tk 23 32 ?_
      refine tk 24 33 ?_
      refine tk 25 4 ?_
      refine wpAnyH_done (by kernel_rfl) ?_ _
      go_wp2
      go_ret
      exact ⟨rfl, chain (chain hb hb2) hHeld.2.2.2.2.2.2.2.1⟩
    | false =>
      rw [Bool.not_false, Bool.true_and]
      by_cases d1 : u1 < h
      · have f1 : decide (u1 < h) = true := by simpa using d1
        rw [f1, Bool.true_and]
        go_enter Try.func22, Try.ntmps22
        go_wp2_with (go_at_call 43; refine (countsOf_any _ c h s a1 a2 n1 c1 n2 c2 xs ys _ h1 h2 (r1.below hb) (r2.below hb)).mono ?_; rintro e w2 ⟨B, rfl, q1, q2, hb2⟩)
        have hK1 := fun W (hW : Below w2.heap.size w2 W) => over_any p 55 56 B xs ys W p0 p1 N1 N2 hx hy (q1.below hW) (q2.below hW)
        have hK2 := fun W (hW : Below w2.heap.size w2 W) => contact_any p 55 56 B xs ys W p0 p1 N1 N2 hx hy (q1.below hW) (q2.below hW)
        have hK3 := fun W (hW : Below w2.heap.size w2 W) => farthest_any p 55 56 B 55 B xs W (by omega) p1 N1 hx (q1.below hW)
        have hK4 := fun W (hW : Below w2.heap.size w2 W) => farthest_any p 55 56 B 56 B ys W (by omega) p1 N2 hy (q2.below hW)
        rw [HO.out] at hK1
        rw [HC.out] at hK2
        rw [HU1.out] at hK3
        rw [HU2.out] at hK4
        have HK1 := Lib.hid hK1
        have HK2 := Lib.hid hK2
        have HK3 := Lib.hid hK3
        have HK4 := Lib.hid hK4
        clear hK1 hK2 hK3 hK4
        have BVt := (BV.below hb2).alloc (.cells #[.int .i64 p, fv 55 B, fv 56 B] 57)
        have hbc : Below w2.heap.size w2 (w2.alloc (.cells #[.int .i64 p, fv 55 B, fv 56 B] 57)) := (Below.refl _ _).alloc (Nat.le_refl _) _
        obtain ⟨z0, z1, z2, zf, zl⟩ := (Blk.new w2 #[.int .i64 p, fv 55 B, fv 56 B] 57).tri
        have hlw : w.heap.size < w2.heap.size := (BV.below hb2).lt
        clear x0 x1 x2 x3 xf xl y0 y1 yf yl
        obtain ⟨x0, x1, x2, x3, xf, xl⟩ := BVt.four
        refine wp_region_held_drew (S := fun w' => w'.cell? ⟨w.heap.size, 0, none⟩ = some (.int .i64 p) ∧ w'.cell? ⟨w.heap.size, 1, none⟩ = some (.int .i64 c) ∧ w'.cell? ⟨w.heap.size, 2, none⟩ = some (.int .i64 h) ∧ w'.cell? ⟨w.heap.size, 3, none⟩ = some (.int .i64 s) ∧ w'.cell? ⟨w2.heap.size, 0, none⟩ = some (.int .i64 p) ∧ w'.cell? ⟨w2.heap.size, 1, none⟩ = some (fv 55 B) ∧ w'.cell? ⟨w2.heap.size, 2, none⟩ = some (fv 56 B) ∧ Below w2.heap.size w2 w' ∧ w2.heap.size < w'.heap.size ∧ w.heap.size < w2.heap.size) (by kernel_rfl) ⟨x0, x1, x2, x3, z0, z1, z2, hbc.drew, zl, hlw⟩ (fun hHeld => ?_)
        refine tk 0 9 ?_
        refine rdk 1 10 fun K hK => ?_
        go_simp
        refine (HK1.out _ hHeld.2.2.2.2.2.2.2.1).mono ?_
        rintro e w7 ⟨rfl, hb7⟩
        have hS := heldVT hHeld hb7
        (try go_wp2_with fail)
        refine hko hK hS fun hHeld => ?_
        clear hK K
        refine tk 2 11 ?_
        refine tk 3 12 ?_
        refine rdk 4 13 fun K hK => ?_
        go_simp
        refine (HK2.out _ hHeld.2.2.2.2.2.2.2.1).mono ?_
        rintro e w7 ⟨rfl, hb7⟩
        have hS := heldVT hHeld hb7
        (try go_wp2_with fail)
        refine hko hK hS fun hHeld => ?_
        clear hK K
        refine tk 5 14 ?_
        refine tk 6 15 ?_
        refine tk 7 16 ?_
        refine tk 8 17 ?_
        refine tk 9 18 ?_
        refine tk 11 20 ?_
        refine tk 12 21 ?_
        refine rdk 10 19 fun K hK => ?_
        go_simp
        refine (HK3.out _ hHeld.2.2.2.2.2.2.2.1).mono ?_
        rintro e w7 ⟨rfl, hb7⟩
        have hS := heldVT hHeld hb7
        (try go_wp2_with fail)
        refine hko hK hS fun hHeld => ?_
        clear hK K
        refine tk 13 22 ?_
        refine tk 14 23 ?_
        refine tk 15 24 ?_
        refine tk 16 25 ?_
        refine tk 17 26 ?_
        refine tk 18 27 ?_
        refine tk 20 29 ?_
        refine tk 21 30 ?_
        refine rdk 19 28 fun K hK => ?_
        go_simp
        refine (HK4.out _ hHeld.2.2.2.2.2.2.2.1).mono ?_
        rintro e w7 ⟨rfl, hb7⟩
        have hS := heldVT hHeld hb7
        (try go_wp2_with fail)
        refine hko hK hS fun hHeld => ?_
        clear hK K
        refine tk 22 31 ?_
        refine tk 23 32 ?_
        refine tk 24 33 ?_
        refine tk 25 4 ?_
        refine wpAnyH_done (by kernel_rfl) ?_ _
        go_wp2
        go_ret
        exact ⟨by simp, chain (chain hb hb2) hHeld.2.2.2.2.2.2.2.1⟩
      · have f1 : decide (u1 < h) = false := by simpa using d1
        rw [f1, Bool.false_and]
        go_enter Try.func22, Try.ntmps22
        go_wp2_with (go_at_call 43; refine (countsOf_any _ c h s a1 a2 n1 c1 n2 c2 xs ys _ h1 h2 (r1.below hb) (r2.below hb)).mono ?_; rintro e w2 ⟨B, rfl, q1, q2, hb2⟩)
        have hK1 := fun W (hW : Below w2.heap.size w2 W) => over_any p 55 56 B xs ys W p0 p1 N1 N2 hx hy (q1.below hW) (q2.below hW)
        have hK2 := fun W (hW : Below w2.heap.size w2 W) => contact_any p 55 56 B xs ys W p0 p1 N1 N2 hx hy (q1.below hW) (q2.below hW)
        have hK3 := fun W (hW : Below w2.heap.size w2 W) => farthest_any p 55 56 B 55 B xs W (by omega) p1 N1 hx (q1.below hW)
        have hK4 := fun W (hW : Below w2.heap.size w2 W) => farthest_any p 55 56 B 56 B ys W (by omega) p1 N2 hy (q2.below hW)
        rw [HO.out] at hK1
        rw [HC.out] at hK2
        rw [HU1.out] at hK3
        rw [HU2.out] at hK4
        have HK1 := Lib.hid hK1
        have HK2 := Lib.hid hK2
        have HK3 := Lib.hid hK3
        have HK4 := Lib.hid hK4
        clear hK1 hK2 hK3 hK4
        have BVt := (BV.below hb2).alloc (.cells #[.int .i64 p, fv 55 B, fv 56 B] 57)
        have hbc : Below w2.heap.size w2 (w2.alloc (.cells #[.int .i64 p, fv 55 B, fv 56 B] 57)) := (Below.refl _ _).alloc (Nat.le_refl _) _
        obtain ⟨z0, z1, z2, zf, zl⟩ := (Blk.new w2 #[.int .i64 p, fv 55 B, fv 56 B] 57).tri
        have hlw : w.heap.size < w2.heap.size := (BV.below hb2).lt
        clear x0 x1 x2 x3 xf xl y0 y1 yf yl
        obtain ⟨x0, x1, x2, x3, xf, xl⟩ := BVt.four
        refine wp_region_held_drew (S := fun w' => w'.cell? ⟨w.heap.size, 0, none⟩ = some (.int .i64 p) ∧ w'.cell? ⟨w.heap.size, 1, none⟩ = some (.int .i64 c) ∧ w'.cell? ⟨w.heap.size, 2, none⟩ = some (.int .i64 h) ∧ w'.cell? ⟨w.heap.size, 3, none⟩ = some (.int .i64 s) ∧ w'.cell? ⟨w2.heap.size, 0, none⟩ = some (.int .i64 p) ∧ w'.cell? ⟨w2.heap.size, 1, none⟩ = some (fv 55 B) ∧ w'.cell? ⟨w2.heap.size, 2, none⟩ = some (fv 56 B) ∧ Below w2.heap.size w2 w' ∧ w2.heap.size < w'.heap.size ∧ w.heap.size < w2.heap.size) (by kernel_rfl) ⟨x0, x1, x2, x3, z0, z1, z2, hbc.drew, zl, hlw⟩ (fun hHeld => ?_)
        refine tk 0 9 ?_
        refine rdk 1 10 fun K hK => ?_
        go_simp
        refine (HK1.out _ hHeld.2.2.2.2.2.2.2.1).mono ?_
        rintro e w7 ⟨rfl, hb7⟩
        have hS := heldVT hHeld hb7
        (try go_wp2_with fail)
        refine hko hK hS fun hHeld => ?_
        clear hK K
        refine tk 2 11 ?_
        refine tk 3 12 ?_
        refine rdk 4 13 fun K hK => ?_
        go_simp
        refine (HK2.out _ hHeld.2.2.2.2.2.2.2.1).mono ?_
        rintro e w7 ⟨rfl, hb7⟩
        have hS := heldVT hHeld hb7
        (try go_wp2_with fail)
        refine hko hK hS fun hHeld => ?_
        clear hK K
        refine tk 5 14 ?_
        refine tk 6 15 ?_
        refine tk 7 16 ?_
        refine tk 8 17 ?_
        refine tk 9 18 ?_
        refine tk 11 20 ?_
        refine tk 12 21 ?_
        refine rdk 10 19 fun K hK => ?_
        go_simp
        refine (HK3.out _ hHeld.2.2.2.2.2.2.2.1).mono ?_
        rintro e w7 ⟨rfl, hb7⟩
        have hS := heldVT hHeld hb7
        (try go_wp2_with fail)
        refine hko hK hS fun hHeld => ?_
        clear hK K
        refine tk 13 22 ?_
        refine tk 14 23 ?_
        refine tk 15 24 ?_
        refine tkv 16 25 ?_
        refine tkv 17 26 ?_
        refine tkv 18 27 ?_
        refine tkv 19 28 ?_
        refine tkv 20 29 ?_
        refine tkv 21 30 ?_
        refine tkv 22 31 ?_
        refine tk 23 32 ?_
        refine tk 24 33 ?_
        refine tk 25 4 ?_
        refine wpAnyH_done (by kernel_rfl) ?_ _
        go_wp2
        go_ret
        exact ⟨rfl, chain (chain hb hb2) hHeld.2.2.2.2.2.2.2.1⟩
set_option maxHeartbeats 1000000 in
theorem homeSide_any (p c s : Int) (H : Nat) (a : Option Addr) (n cap : Nat) (w : World) (hH : H ≤ cap) (hm : H ≤ 24) :
    Calls Try.prog 25 #[.agg #[.int .i64 p, .int .i64 c, .int .i64 (H : Int), .int .i64 s], .slice a n cap] w fun e w' => e = .returned (.slice a H cap) ∧ Below w.heap.size w w' := by
  have BV := Blk.new w #[.int .i64 p, .int .i64 c, .int .i64 (H : Int), .int .i64 s] 29
  have hb : Below w.heap.size w (w.alloc (.cells #[.int .i64 p, .int .i64 c, .int .i64 (H : Int), .int .i64 s] 29)) := (Below.refl _ _).alloc (Nat.le_refl _) _
  obtain ⟨x0, x1, x2, x3, xf, xl⟩ := BV.four
  have k0 : (0 : Int) ≤ (H : Int) := by omega
  have k1 : ((H : Nat) : Int) ≤ (cap : Int) := by omega
  go_enter Try.func25, Try.ntmps25
  go_wp2
  go_ret
  exact ⟨rfl, hb⟩
/-- A valid board's home points are a position, if it has checkers of the right number. -/
theorem take_sum (xs : List Int) (hx : ∀ x ∈ xs, 0 ≤ x) : ∀ k, 0 ≤ (xs.take k).sum ∧ (xs.take k).sum ≤ xs.sum := by
  induction xs with
  | nil => intro k; simp
  | cons x l ih =>
    intro k
    have h0 := hx x (by simp)
    have hl := ih (fun y hy => hx y (by simp [hy]))
    cases k with
    | zero => have := hl l.length; rw [List.take_length] at this; simp; omega
    | succ k => have := hl k; simp; omega
theorem IRow.take {w : World} {a : Option Addr} {xs : List Int} (h : IRow w a xs) (k : Nat) : IRow w a (xs.take k) := fun i hi => by
  rw [List.length_take] at hi
  obtain ⟨b, o, e, hc⟩ := h i (by omega)
  refine ⟨b, o, e, ?_⟩
  rw [hc, List.getD_eq_getElem?_getD, List.getD_eq_getElem?_getD, List.getElem?_take, if_pos (by omega)]
theorem side_home {p c h s : Int} {xs : List Int} (gv : vB p c h s = true) (g : sideB p c xs = true) : okP p c h s (xs.take h.toNat) = true := by
  obtain ⟨v0, v1, v2, v3, v4, v5, v6, v7⟩ := vB_iff.1 gv
  obtain ⟨m1, m2, m3⟩ := sideB_iff.1 g
  have hs := (take_sum xs (fun x hx => (m2 x hx).1) h.toNat).2
  rw [okP, gv, Bool.true_and]
  refine sideB_iff.2 ⟨?_, fun x hx => m2 x (List.mem_of_mem_take hx), by omega⟩
  rw [List.length_take, Nat.min_eq_left (by omega)]
  omega
theorem isB_sides {p c h s : Int} {xs ys : List Int} (g : isB p c h s xs ys = true) : vB p c h s = true ∧ sideB p c xs = true ∧ sideB p c ys = true := by
  simp only [isB, Bool.and_eq_true] at g
  exact ⟨g.1, g.2.1, g.2.2.1⟩
/-- A board is solved. -/
def solB (p c h s : Int) (xs ys : List Int) : Bool := overB xs ys || (!contB p xs ys && decide (lastL xs xs.length < h) && decide (lastL ys ys.length < h) && decide (cnt h.toNat c.toNat ≤ 500))
theorem tcE_home {p c h s : Int} {xs ys : List Int} (g : isB p c h s xs ys = true) : tcE p c h s (xs.take h.toNat) = if cnt h.toNat c.toNat ≤ 500 then 0 else 3 := by
  obtain ⟨gv, g1, g2⟩ := isB_sides g
  rw [tcE, if_pos (bcE_of (side_home gv g1))]
theorem solB_prog {p c h s : Int} {xs ys : List Int} (g : isB p c h s xs ys = true) : (bofB p h xs ys && (overB xs ys || (tcE p c h s (xs.take h.toNat) == 0))) = solB p c h s xs ys := by
  rw [tcE_home g, bofB, solB]
  cases overB xs ys
  · by_cases k : cnt h.toNat c.toNat ≤ 500
    · simp [k]
    · simp [k]
  · simp
theorem solB_model {p c h s : Int} {xs ys : List Int} (g : isB p c h s xs ys = true) : (overB xs ys || (!contB p xs ys && decide (lastL xs xs.length < h) && decide (lastL ys ys.length < h) && inB (bcI p c h s) 0 500)) = solB p c h s xs ys := by
  have hn : inB (bcI p c h s) 0 500 = decide (cnt h.toNat c.toNat ≤ 500) := by
    rw [Bool.eq_iff_iff, inB_iff, decide_eq_true_iff, bcI, if_pos (isB_sides g).1, wyI]
    split <;> omega
  rw [hn, solB]
set_option maxHeartbeats 600000 in
theorem isSolved_any (p c h s : Int) (a1 a2 : Option Addr) (n1 n2 c1 c2 : Nat) (xs ys : List Int) (w : World) (h1 : xs.length = n1) (h2 : ys.length = n2) (l1 : n1 ≤ 1048576) (l2 : n2 ≤ 1048576) (k1 : n1 ≤ c1) (k2 : n2 ≤ c2) (r1 : IRow w a1 xs) (r2 : IRow w a2 ys) :
    Calls Try.prog 9 #[.agg #[.int .i64 p, .int .i64 c, .int .i64 h, .int .i64 s], .agg #[.slice a1 n1 c1, .slice a2 n2 c2]] w fun e w' => e = .returned (.bool (isB p c h s xs ys && solB p c h s xs ys)) ∧ Below w.heap.size w w' := by
  obtain ⟨BV, BB, hb, hz⟩ := two_new w #[.int .i64 p, .int .i64 c, .int .i64 h, .int .i64 s] #[.slice a1 n1 c1, .slice a2 n2 c2] 29 31
  have hz1 : w.heap.size + 1 < ((w.alloc (.cells #[.int .i64 p, .int .i64 c, .int .i64 h, .int .i64 s] 29)).alloc (.cells #[.slice a1 n1 c1, .slice a2 n2 c2] 31)).heap.size := by rw [hz]; omega
  clear hz
  obtain ⟨x0, x1, x2, x3, xf, xl⟩ := BV.four
  obtain ⟨y0, y1, yf, yl⟩ := BB.two
  by_cases g : isB p c h s xs ys = true
  · rw [g, Bool.true_and, ← solB_prog g]
    obtain ⟨p0, p1, k0, k1, k2, k3, N1, N2, hx, hy, s0, s1, s2, s3⟩ := isB_parts g
    have hB := fun W (q1 : IRow W a1 xs) (q2 : IRow W a2 ys) => isBoard_any p c h s a1 a2 n1 n2 c1 c2 xs ys W h1 h2 l1 l2 q1 q2
    simp only [g] at hB
    have HB := Lib.hid hB
    clear hB
    obtain ⟨H, rfl⟩ := Int.eq_ofNat_of_zero_le (by omega : 0 ≤ h)
    have hOV := fun W (q1 : IRow W a1 xs) (q2 : IRow W a2 ys) => isOver_any p c H s a1 a2 n1 n2 c1 c2 xs ys W h1 h2 l1 l2 q1 q2
    have hBO := fun W (q1 : IRow W a1 xs) (q2 : IRow W a2 ys) => bearsOff_any p c H s a1 a2 n1 n2 c1 c2 xs ys W h1 h2 l1 l2 q1 q2 g
    have hHS := fun W => homeSide_any p c s H a1 n1 c1 W (by omega) (by omega)
    have hTC := fun W (q : IRow W a1 xs) => tableCode_any p c H s a1 H c1 (xs.take H) W (by rw [List.length_take, Nat.min_eq_left (by omega)]) (by omega) (q.take H)
    rw [show ((H : Nat) : Int).toNat = H by omega] at *
    obtain ⟨K, hK⟩ : ∃ K, tcE p c H s (xs.take H) = K := ⟨_, rfl⟩
    obtain ⟨O, hO⟩ : ∃ O, overB xs ys = O := ⟨_, rfl⟩
    obtain ⟨F, hF⟩ : ∃ F, bofB p H xs ys = F := ⟨_, rfl⟩
    rw [g, Bool.true_and, hO] at hOV
    rw [hF] at hBO
    rw [hK] at hTC
    rw [hK, hO, hF]
    have HOV := Lib.hid hOV
    have HBO := Lib.hid hBO
    have HHS := Lib.hid hHS
    have HTC := Lib.hid hTC
    clear hOV hBO hHS hTC hK hO hF
    cases F with
    | false =>
      rw [Bool.false_and]
      go_enter Try.func9, Try.ntmps9
      go_wp2_with (first | (go_at_call 21; refine (HB.out _ (r1.below hb) (r2.below hb)).mono ?_; rintro e w1 ⟨rfl, hb1⟩; obtain ⟨x0, x1, x2, x3, xf, xl⟩ := (BV.below hb1).four; obtain ⟨y0, y1, yf, yl⟩ := (BB.below hb1).two) | (go_at_call 22; refine (HBO.out _ (r1.below (chain hb hb1)) (r2.below (chain hb hb1))).mono ?_; rintro e w2 ⟨rfl, hb2⟩))
      go_ret
      exact ⟨rfl, chain (chain hb hb1) hb2⟩
    | true =>
      rw [Bool.true_and]
      cases O with
      | true =>
        rw [Bool.true_or]
        go_enter Try.func9, Try.ntmps9
        go_wp2_with (first | (go_at_call 21; refine (HB.out _ (r1.below hb) (r2.below hb)).mono ?_; rintro e w1 ⟨rfl, hb1⟩; obtain ⟨x0, x1, x2, x3, xf, xl⟩ := (BV.below hb1).four; obtain ⟨y0, y1, yf, yl⟩ := (BB.below hb1).two) | (go_at_call 22; refine (HBO.out _ (r1.below (chain hb hb1)) (r2.below (chain hb hb1))).mono ?_; rintro e w2 ⟨rfl, hb2⟩))
        have hbx := chain (chain hb hb1) hb2
        replace BV := BV.below (chain hb1 hb2)
        replace BB := BB.below (chain hb1 hb2)
        clear x0 x1 x2 x3 xf xl y0 y1 yf yl
        obtain ⟨x0, x1, x2, x3, xf, xl⟩ := BV.four
        obtain ⟨y0, y1, yf, yl⟩ := BB.two
        have hlx := yl
        refine wp_region_held_drew (S := fun w' => w'.cell? ⟨w.heap.size, 0, none⟩ = some (.int .i64 p) ∧ w'.cell? ⟨w.heap.size, 1, none⟩ = some (.int .i64 c) ∧ w'.cell? ⟨w.heap.size, 2, none⟩ = some (.int .i64 (H : Int)) ∧ w'.cell? ⟨w.heap.size, 3, none⟩ = some (.int .i64 s) ∧ w'.cell? ⟨w.heap.size + 1, 0, none⟩ = some (.slice a1 n1 c1) ∧ w'.cell? ⟨w.heap.size + 1, 1, none⟩ = some (.slice a2 n2 c2) ∧ Below w.heap.size w w' ∧ w.heap.size + 1 < w'.heap.size) (by kernel_rfl) ⟨x0, x1, x2, x3, y0, y1, hbx.drew, hlx⟩ (fun hHeld => ?_)
        refine tk 0 15 ?_
        refine tk 1 16 ?_
        refine rdk 2 17 fun K hK => ?_
        go_simp
        refine (HOV.out _ (r1.below hHeld.2.2.2.2.2.2.1) (r2.below hHeld.2.2.2.2.2.2.1)).mono ?_
        rintro e w7 ⟨rfl, hb7⟩
        have hS := heldVB hHeld hb7
        (try go_wp2_with fail)
        refine hko hK hS fun hHeld => ?_
        clear hK K
        refine tk 3 18 ?_
        refine tkv 4 19 ?_
        refine tkv 5 20 ?_
        refine tkv 6 21 ?_
        refine tkv 7 22 ?_
        refine tkv 8 23 ?_
        refine tkv 9 24 ?_
        refine tkv 10 25 ?_
        refine tk 11 26 ?_
        refine tk 12 4 ?_
        refine wpAnyH_done (by kernel_rfl) ?_ _
        go_wp2
        go_ret
        exact ⟨rfl, hHeld.2.2.2.2.2.2.1⟩
      | false =>
        rw [Bool.false_or]
        go_enter Try.func9, Try.ntmps9
        go_wp2_with (first | (go_at_call 21; refine (HB.out _ (r1.below hb) (r2.below hb)).mono ?_; rintro e w1 ⟨rfl, hb1⟩; obtain ⟨x0, x1, x2, x3, xf, xl⟩ := (BV.below hb1).four; obtain ⟨y0, y1, yf, yl⟩ := (BB.below hb1).two) | (go_at_call 22; refine (HBO.out _ (r1.below (chain hb hb1)) (r2.below (chain hb hb1))).mono ?_; rintro e w2 ⟨rfl, hb2⟩))
        have hbx := chain (chain hb hb1) hb2
        replace BV := BV.below (chain hb1 hb2)
        replace BB := BB.below (chain hb1 hb2)
        clear x0 x1 x2 x3 xf xl y0 y1 yf yl
        obtain ⟨x0, x1, x2, x3, xf, xl⟩ := BV.four
        obtain ⟨y0, y1, yf, yl⟩ := BB.two
        have hlx := yl
        refine wp_region_held_drew (S := fun w' => w'.cell? ⟨w.heap.size, 0, none⟩ = some (.int .i64 p) ∧ w'.cell? ⟨w.heap.size, 1, none⟩ = some (.int .i64 c) ∧ w'.cell? ⟨w.heap.size, 2, none⟩ = some (.int .i64 (H : Int)) ∧ w'.cell? ⟨w.heap.size, 3, none⟩ = some (.int .i64 s) ∧ w'.cell? ⟨w.heap.size + 1, 0, none⟩ = some (.slice a1 n1 c1) ∧ w'.cell? ⟨w.heap.size + 1, 1, none⟩ = some (.slice a2 n2 c2) ∧ Below w.heap.size w w' ∧ w.heap.size + 1 < w'.heap.size) (by kernel_rfl) ⟨x0, x1, x2, x3, y0, y1, hbx.drew, hlx⟩ (fun hHeld => ?_)
        refine tk 0 15 ?_
        refine tk 1 16 ?_
        refine rdk 2 17 fun K hK => ?_
        go_simp
        refine (HOV.out _ (r1.below hHeld.2.2.2.2.2.2.1) (r2.below hHeld.2.2.2.2.2.2.1)).mono ?_
        rintro e w7 ⟨rfl, hb7⟩
        have hS := heldVB hHeld hb7
        (try go_wp2_with fail)
        refine hko hK hS fun hHeld => ?_
        clear hK K
        refine tk 3 18 ?_
        refine tk 4 19 ?_
        refine tk 5 20 ?_
        refine tk 6 21 ?_
        refine tk 7 22 ?_
        refine rdk 8 23 fun K hK => ?_
        go_simp
        refine (HHS.out _).mono ?_
        rintro e w7 ⟨rfl, hb7⟩
        have hS := heldVB hHeld hb7
        (try go_wp2_with fail)
        refine hko hK hS fun hHeld => ?_
        clear hK K
        refine rdk 9 24 fun K hK => ?_
        go_simp
        refine (HTC.out _ (r1.below hHeld.2.2.2.2.2.2.1)).mono ?_
        rintro e w7 ⟨rfl, hb7⟩
        have hS := heldVB hHeld hb7
        (try go_wp2_with fail)
        refine hko hK hS fun hHeld => ?_
        clear hK K
        refine tk 10 25 ?_
        refine tk 11 26 ?_
        refine tk 12 4 ?_
        refine wpAnyH_done (by kernel_rfl) ?_ _
        go_wp2
        go_ret
        exact ⟨rfl, hHeld.2.2.2.2.2.2.1⟩
  · replace g : isB p c h s xs ys = false := by simpa using g
    rw [g, Bool.false_and]
    have hB := fun W (q1 : IRow W a1 xs) (q2 : IRow W a2 ys) => isBoard_any p c h s a1 a2 n1 n2 c1 c2 xs ys W h1 h2 l1 l2 q1 q2
    simp only [g] at hB
    have HB := Lib.hid hB
    clear hB
    go_enter Try.func9, Try.ntmps9
    go_wp2_with (go_at_call 21; refine (HB.out _ (r1.below hb) (r2.below hb)).mono ?_; rintro e w1 ⟨rfl, hb1⟩; obtain ⟨x0, x1, x2, x3, xf, xl⟩ := (BV.below hb1).four; obtain ⟨y0, y1, yf, yl⟩ := (BB.below hb1).two)
    go_ret
    exact ⟨rfl, chain hb hb1⟩
set_option maxHeartbeats 600000 in
theorem l15Solved_any (p c h s : Int) (a1 a2 : Option Addr) (n1 n2 c1 c2 : Nat) (xs ys : List Int) (w : World) (h1 : xs.length = n1) (h2 : ys.length = n2) (l1 : n1 ≤ 1048576) (l2 : n2 ≤ 1048576) (r1 : IRow w a1 xs) (r2 : IRow w a2 ys) (g : isB p c h s xs ys = true) :
    Calls Try.prog 20 #[.agg #[.int .i64 p, .int .i64 c, .int .i64 h, .int .i64 s], .agg #[.slice a1 n1 c1, .slice a2 n2 c2]] w fun e w' => e = .returned (.bool (solB p c h s xs ys)) ∧ Below w.heap.size w w' := by
  obtain ⟨BV, BB, hb, hz⟩ := two_new w #[.int .i64 p, .int .i64 c, .int .i64 h, .int .i64 s] #[.slice a1 n1 c1, .slice a2 n2 c2] 29 31
  have hz1 : w.heap.size + 1 < ((w.alloc (.cells #[.int .i64 p, .int .i64 c, .int .i64 h, .int .i64 s] 29)).alloc (.cells #[.slice a1 n1 c1, .slice a2 n2 c2] 31)).heap.size := by rw [hz]; omega
  clear hz
  obtain ⟨x0, x1, x2, x3, xf, xl⟩ := BV.four
  obtain ⟨y0, y1, yf, yl⟩ := BB.two
  rw [← solB_model g]
  obtain ⟨p0, p1, k0, k1, k2, k3, N1, N2, hx, hy, s0, s1, s2, s3⟩ := isB_parts g
  have hOV := fun W (q1 : IRow W a1 xs) (q2 : IRow W a2 ys) => l02Over_any a1 a2 n1 n2 c1 c2 xs ys W h1 h2 (by omega) (by omega) hx hy q1 q2
  have hCN := fun W (q1 : IRow W a1 xs) (q2 : IRow W a2 ys) => l02Contact_any p c h s a1 a2 n1 n2 c1 c2 xs ys W h1 h2 l1 l2 q1 q2 p0 p1 N1 N2
  have hL1 := fun W (q : IRow W a1 xs) => l02Last_any a1 n1 c1 xs W h1 l1 q
  have hL2 := fun W (q : IRow W a2 ys) => l02Last_any a2 n2 c2 ys W h2 l2 q
  have hBN := fun W => specBearoffCount_any p c h s W
  obtain ⟨M, hM⟩ : ∃ M, bcI p c h s = M := ⟨_, rfl⟩
  rw [hM] at hBN ⊢
  have hIN := fun W => l01In_any M 0 500 W
  subst h1 h2
  obtain ⟨u1, hu1⟩ : ∃ u, lastL xs xs.length = u := ⟨_, rfl⟩
  obtain ⟨u2, hu2⟩ : ∃ u, lastL ys ys.length = u := ⟨_, rfl⟩
  obtain ⟨O, hO⟩ : ∃ O, overB xs ys = O := ⟨_, rfl⟩
  obtain ⟨K, hC⟩ : ∃ K, contB p xs ys = K := ⟨_, rfl⟩
  obtain ⟨I, hI⟩ : ∃ I, inB M 0 500 = I := ⟨_, rfl⟩
  rw [hO] at hOV
  rw [hC] at hCN
  rw [hu1] at hL1
  rw [hu2] at hL2
  rw [hI] at hIN
  rw [hu1, hu2, hO, hC, hI]
  have HOV := Lib.hid hOV
  have HCN := Lib.hid hCN
  have HL1 := Lib.hid hL1
  have HL2 := Lib.hid hL2
  have HBN := Lib.hid hBN
  have HIN := Lib.hid hIN
  clear hOV hCN hL1 hL2 hBN hIN hu1 hu2 hO hC hI hM g
  cases O with
  | true =>
    rw [Bool.true_or]
    go_enter Try.func20, Try.ntmps20
    go_wp2_with (go_at_call 37; refine (HOV.out _ (r1.below hb) (r2.below hb)).mono ?_; rintro e w1 ⟨rfl, hb1⟩)
    go_ret
    exact ⟨rfl, chain hb hb1⟩
  | false =>
    rw [Bool.false_or]
    cases K with
    | true =>
      rw [Bool.not_true, Bool.false_and, Bool.false_and, Bool.false_and]
      go_enter Try.func20, Try.ntmps20
      go_wp2_with (go_at_call 37; refine (HOV.out _ (r1.below hb) (r2.below hb)).mono ?_; rintro e w1 ⟨rfl, hb1⟩)
      have hbx := chain hb hb1
      replace BV := BV.below hb1
      replace BB := BB.below hb1
      clear x0 x1 x2 x3 xf xl y0 y1 yf yl
      obtain ⟨x0, x1, x2, x3, xf, xl⟩ := BV.four
      obtain ⟨y0, y1, yf, yl⟩ := BB.two
      have hlx := yl
      refine wp_region_held_drew (S := fun w' => w'.cell? ⟨w.heap.size, 0, none⟩ = some (.int .i64 p) ∧ w'.cell? ⟨w.heap.size, 1, none⟩ = some (.int .i64 c) ∧ w'.cell? ⟨w.heap.size, 2, none⟩ = some (.int .i64 h) ∧ w'.cell? ⟨w.heap.size, 3, none⟩ = some (.int .i64 s) ∧ w'.cell? ⟨w.heap.size + 1, 0, none⟩ = some (.slice a1 xs.length c1) ∧ w'.cell? ⟨w.heap.size + 1, 1, none⟩ = some (.slice a2 ys.length c2) ∧ Below w.heap.size w w' ∧ w.heap.size + 1 < w'.heap.size) (by kernel_rfl) ⟨x0, x1, x2, x3, y0, y1, hbx.drew, hlx⟩ (fun hHeld => ?_)
      refine tk 0 7 ?_
      refine tk 1 8 ?_
      refine rdk 2 9 fun K hK => ?_
      go_simp
      refine (HCN.out _ (r1.below hHeld.2.2.2.2.2.2.1) (r2.below hHeld.2.2.2.2.2.2.1)).mono ?_
      rintro e w7 ⟨rfl, hb7⟩
      have hS := heldVB hHeld hb7
      (try go_wp2_with fail)
      refine hko hK hS fun hHeld => ?_
      clear hK K
      refine tk 3 10 ?_
      refine tk 4 11 ?_
      refine tkv 5 12 ?_
      refine tkv 6 13 ?_
      refine tkv 7 14 ?_
      refine tkv 8 15 ?_
      refine tkv 9 16 ?_
      refine tkv 10 17 ?_
      refine tk 11 18 ?_
      refine tk 12 19 ?_
      refine tkv 13 20 ?_
      refine tkv 14 21 ?_
      refine tkv 15 22 ?_
      refine tkv 16 23 ?_
      refine tkv 17 24 ?_
      refine tkv 18 25 ?_
      refine tk 19 26 ?_
      refine tk 20 27 ?_
      refine tkv 21 28 ?_
      refine tkv 22 29 ?_
      refine tkv 23 30 ?_
      refine tk 24 31 ?_
      refine tk 25 4 ?_
      refine wpAnyH_done (by kernel_rfl) ?_ _
      go_wp2
      go_ret
      exact ⟨rfl, hHeld.2.2.2.2.2.2.1⟩
    | false =>
      rw [Bool.not_false, Bool.true_and]
      by_cases d1 : u1 < h
      · have f1 : decide (u1 < h) = true := by simpa using d1
        rw [f1, Bool.true_and]
        by_cases d2 : u2 < h
        · have f2 : decide (u2 < h) = true := by simpa using d2
          rw [f2, Bool.true_and]
          go_enter Try.func20, Try.ntmps20
          go_wp2_with (go_at_call 37; refine (HOV.out _ (r1.below hb) (r2.below hb)).mono ?_; rintro e w1 ⟨rfl, hb1⟩)
          have hbx := chain hb hb1
          replace BV := BV.below hb1
          replace BB := BB.below hb1
          clear x0 x1 x2 x3 xf xl y0 y1 yf yl
          obtain ⟨x0, x1, x2, x3, xf, xl⟩ := BV.four
          obtain ⟨y0, y1, yf, yl⟩ := BB.two
          have hlx := yl
          refine wp_region_held_drew (S := fun w' => w'.cell? ⟨w.heap.size, 0, none⟩ = some (.int .i64 p) ∧ w'.cell? ⟨w.heap.size, 1, none⟩ = some (.int .i64 c) ∧ w'.cell? ⟨w.heap.size, 2, none⟩ = some (.int .i64 h) ∧ w'.cell? ⟨w.heap.size, 3, none⟩ = some (.int .i64 s) ∧ w'.cell? ⟨w.heap.size + 1, 0, none⟩ = some (.slice a1 xs.length c1) ∧ w'.cell? ⟨w.heap.size + 1, 1, none⟩ = some (.slice a2 ys.length c2) ∧ Below w.heap.size w w' ∧ w.heap.size + 1 < w'.heap.size) (by kernel_rfl) ⟨x0, x1, x2, x3, y0, y1, hbx.drew, hlx⟩ (fun hHeld => ?_)
          refine tk 0 7 ?_
          refine tk 1 8 ?_
          refine rdk 2 9 fun K hK => ?_
          go_simp
          refine (HCN.out _ (r1.below hHeld.2.2.2.2.2.2.1) (r2.below hHeld.2.2.2.2.2.2.1)).mono ?_
          rintro e w7 ⟨rfl, hb7⟩
          have hS := heldVB hHeld hb7
          (try go_wp2_with fail)
          refine hko hK hS fun hHeld => ?_
          clear hK K
          refine tk 3 10 ?_
          refine tk 4 11 ?_
          refine tk 5 12 ?_
          refine tk 6 13 ?_
          refine tk 8 15 ?_
          refine tk 9 16 ?_
          refine rdk 7 14 fun K hK => ?_
          go_simp
          refine (HL1.out _ (r1.below hHeld.2.2.2.2.2.2.1)).mono ?_
          rintro e w7 ⟨rfl, rfl⟩
          (try go_wp2_with fail)
          refine hko hK hHeld fun hHeld => ?_
          clear hK K
          refine tk 10 17 ?_
          refine tk 11 18 ?_
          refine tk 12 19 ?_
          refine tk 13 20 ?_
          refine tk 14 21 ?_
          refine tk 16 23 ?_
          refine tk 17 24 ?_
          refine rdk 15 22 fun K hK => ?_
          go_simp
          refine (HL2.out _ (r2.below hHeld.2.2.2.2.2.2.1)).mono ?_
          rintro e w7 ⟨rfl, rfl⟩
          (try go_wp2_with fail)
          refine hko hK hHeld fun hHeld => ?_
          clear hK K
          refine tk 18 25 ?_
          refine tk 19 26 ?_
          refine tk 20 27 ?_
          refine tk 21 28 ?_
          refine rdk 22 29 fun K hK => ?_
          go_simp
          refine (HBN.out _).mono ?_
          rintro e w7 ⟨rfl, hb7⟩
          have hS := heldVB hHeld hb7
          (try go_wp2_with fail)
          refine hko hK hS fun hHeld => ?_
          clear hK K
          refine rdk 23 30 fun K hK => ?_
          go_simp
          refine (HIN.out _).mono ?_
          rintro e w7 ⟨rfl, rfl⟩
          (try go_wp2_with fail)
          refine hko hK hHeld fun hHeld => ?_
          clear hK K
          refine tk 24 31 ?_
          refine tk 25 4 ?_
          refine wpAnyH_done (by kernel_rfl) ?_ _
          go_wp2
          go_ret
          exact ⟨rfl, hHeld.2.2.2.2.2.2.1⟩
        · have f2 : decide (u2 < h) = false := by simpa using d2
          rw [f2, Bool.false_and]
          go_enter Try.func20, Try.ntmps20
          go_wp2_with (go_at_call 37; refine (HOV.out _ (r1.below hb) (r2.below hb)).mono ?_; rintro e w1 ⟨rfl, hb1⟩)
          have hbx := chain hb hb1
          replace BV := BV.below hb1
          replace BB := BB.below hb1
          clear x0 x1 x2 x3 xf xl y0 y1 yf yl
          obtain ⟨x0, x1, x2, x3, xf, xl⟩ := BV.four
          obtain ⟨y0, y1, yf, yl⟩ := BB.two
          have hlx := yl
          refine wp_region_held_drew (S := fun w' => w'.cell? ⟨w.heap.size, 0, none⟩ = some (.int .i64 p) ∧ w'.cell? ⟨w.heap.size, 1, none⟩ = some (.int .i64 c) ∧ w'.cell? ⟨w.heap.size, 2, none⟩ = some (.int .i64 h) ∧ w'.cell? ⟨w.heap.size, 3, none⟩ = some (.int .i64 s) ∧ w'.cell? ⟨w.heap.size + 1, 0, none⟩ = some (.slice a1 xs.length c1) ∧ w'.cell? ⟨w.heap.size + 1, 1, none⟩ = some (.slice a2 ys.length c2) ∧ Below w.heap.size w w' ∧ w.heap.size + 1 < w'.heap.size) (by kernel_rfl) ⟨x0, x1, x2, x3, y0, y1, hbx.drew, hlx⟩ (fun hHeld => ?_)
          refine tk 0 7 ?_
          refine tk 1 8 ?_
          refine rdk 2 9 fun K hK => ?_
          go_simp
          refine (HCN.out _ (r1.below hHeld.2.2.2.2.2.2.1) (r2.below hHeld.2.2.2.2.2.2.1)).mono ?_
          rintro e w7 ⟨rfl, hb7⟩
          have hS := heldVB hHeld hb7
          (try go_wp2_with fail)
          refine hko hK hS fun hHeld => ?_
          clear hK K
          refine tk 3 10 ?_
          refine tk 4 11 ?_
          refine tk 5 12 ?_
          refine tk 6 13 ?_
          refine tk 8 15 ?_
          refine tk 9 16 ?_
          refine rdk 7 14 fun K hK => ?_
          go_simp
          refine (HL1.out _ (r1.below hHeld.2.2.2.2.2.2.1)).mono ?_
          rintro e w7 ⟨rfl, rfl⟩
          (try go_wp2_with fail)
          refine hko hK hHeld fun hHeld => ?_
          clear hK K
          refine tk 10 17 ?_
          refine tk 11 18 ?_
          refine tk 12 19 ?_
          refine tk 13 20 ?_
          refine tk 14 21 ?_
          refine tk 16 23 ?_
          refine tk 17 24 ?_
          refine rdk 15 22 fun K hK => ?_
          go_simp
          refine (HL2.out _ (r2.below hHeld.2.2.2.2.2.2.1)).mono ?_
          rintro e w7 ⟨rfl, rfl⟩
          (try go_wp2_with fail)
          refine hko hK hHeld fun hHeld => ?_
          clear hK K
          refine tk 18 25 ?_
          refine tk 19 26 ?_
          refine tk 20 27 ?_
          refine tkv 21 28 ?_
          refine tkv 22 29 ?_
          refine tkv 23 30 ?_
          refine tk 24 31 ?_
          refine tk 25 4 ?_
          refine wpAnyH_done (by kernel_rfl) ?_ _
          go_wp2
          go_ret
          exact ⟨rfl, hHeld.2.2.2.2.2.2.1⟩
      · have f1 : decide (u1 < h) = false := by simpa using d1
        rw [f1, Bool.false_and, Bool.false_and]
        go_enter Try.func20, Try.ntmps20
        go_wp2_with (go_at_call 37; refine (HOV.out _ (r1.below hb) (r2.below hb)).mono ?_; rintro e w1 ⟨rfl, hb1⟩)
        have hbx := chain hb hb1
        replace BV := BV.below hb1
        replace BB := BB.below hb1
        clear x0 x1 x2 x3 xf xl y0 y1 yf yl
        obtain ⟨x0, x1, x2, x3, xf, xl⟩ := BV.four
        obtain ⟨y0, y1, yf, yl⟩ := BB.two
        have hlx := yl
        refine wp_region_held_drew (S := fun w' => w'.cell? ⟨w.heap.size, 0, none⟩ = some (.int .i64 p) ∧ w'.cell? ⟨w.heap.size, 1, none⟩ = some (.int .i64 c) ∧ w'.cell? ⟨w.heap.size, 2, none⟩ = some (.int .i64 h) ∧ w'.cell? ⟨w.heap.size, 3, none⟩ = some (.int .i64 s) ∧ w'.cell? ⟨w.heap.size + 1, 0, none⟩ = some (.slice a1 xs.length c1) ∧ w'.cell? ⟨w.heap.size + 1, 1, none⟩ = some (.slice a2 ys.length c2) ∧ Below w.heap.size w w' ∧ w.heap.size + 1 < w'.heap.size) (by kernel_rfl) ⟨x0, x1, x2, x3, y0, y1, hbx.drew, hlx⟩ (fun hHeld => ?_)
        refine tk 0 7 ?_
        refine tk 1 8 ?_
        refine rdk 2 9 fun K hK => ?_
        go_simp
        refine (HCN.out _ (r1.below hHeld.2.2.2.2.2.2.1) (r2.below hHeld.2.2.2.2.2.2.1)).mono ?_
        rintro e w7 ⟨rfl, hb7⟩
        have hS := heldVB hHeld hb7
        (try go_wp2_with fail)
        refine hko hK hS fun hHeld => ?_
        clear hK K
        refine tk 3 10 ?_
        refine tk 4 11 ?_
        refine tk 5 12 ?_
        refine tk 6 13 ?_
        refine tk 8 15 ?_
        refine tk 9 16 ?_
        refine rdk 7 14 fun K hK => ?_
        go_simp
        refine (HL1.out _ (r1.below hHeld.2.2.2.2.2.2.1)).mono ?_
        rintro e w7 ⟨rfl, rfl⟩
        (try go_wp2_with fail)
        refine hko hK hHeld fun hHeld => ?_
        clear hK K
        refine tk 10 17 ?_
        refine tk 11 18 ?_
        refine tk 12 19 ?_
        refine tkv 13 20 ?_
        refine tkv 14 21 ?_
        refine tkv 15 22 ?_
        refine tkv 16 23 ?_
        refine tkv 17 24 ?_
        refine tkv 18 25 ?_
        refine tk 19 26 ?_
        refine tk 20 27 ?_
        refine tkv 21 28 ?_
        refine tkv 22 29 ?_
        refine tkv 23 30 ?_
        refine tk 24 31 ?_
        refine tk 25 4 ?_
        refine wpAnyH_done (by kernel_rfl) ?_ _
        go_wp2
        go_ret
        exact ⟨rfl, hHeld.2.2.2.2.2.2.1⟩
set_option maxHeartbeats 1000000 in
theorem specIsSolved_any (p c h s : Int) (a1 a2 : Option Addr) (n1 n2 c1 c2 : Nat) (xs ys : List Int) (w : World) (h1 : xs.length = n1) (h2 : ys.length = n2) (l1 : n1 ≤ 1048576) (l2 : n2 ≤ 1048576) (r1 : IRow w a1 xs) (r2 : IRow w a2 ys) :
    Calls Try.prog 6 #[.agg #[.int .i64 p, .int .i64 c, .int .i64 h, .int .i64 s], .agg #[.slice a1 n1 c1, .slice a2 n2 c2]] w fun e w' => e = .returned (.bool (isB p c h s xs ys && solB p c h s xs ys)) ∧ Below w.heap.size w w' := by
  obtain ⟨BV, BB, hb, hz⟩ := two_new w #[.int .i64 p, .int .i64 c, .int .i64 h, .int .i64 s] #[.slice a1 n1 c1, .slice a2 n2 c2] 29 31
  have hz1 : w.heap.size + 1 < ((w.alloc (.cells #[.int .i64 p, .int .i64 c, .int .i64 h, .int .i64 s] 29)).alloc (.cells #[.slice a1 n1 c1, .slice a2 n2 c2] 31)).heap.size := by rw [hz]; omega
  clear hz
  obtain ⟨x0, x1, x2, x3, xf, xl⟩ := BV.four
  obtain ⟨y0, y1, yf, yl⟩ := BB.two
  by_cases g : isB p c h s xs ys = true
  · rw [g, Bool.true_and]
    have hLS := fun W (q1 : IRow W a1 xs) (q2 : IRow W a2 ys) => l15Solved_any p c h s a1 a2 n1 n2 c1 c2 xs ys W h1 h2 l1 l2 q1 q2 g
    have HLS := Lib.hid hLS
    clear hLS
    have hB := fun W (q1 : IRow W a1 xs) (q2 : IRow W a2 ys) => specIsBoard_any p c h s a1 a2 n1 n2 c1 c2 xs ys W h1 h2 l1 l2 q1 q2
    simp only [g] at hB
    have HB := Lib.hid hB
    clear hB
    go_enter Try.func6, Try.ntmps6
    go_wp2_with (first | (go_at_call 19; refine (HB.out _ (r1.below hb) (r2.below hb)).mono ?_; rintro e w1 ⟨rfl, hb1⟩; obtain ⟨x0, x1, x2, x3, xf, xl⟩ := (BV.below hb1).four; obtain ⟨y0, y1, yf, yl⟩ := (BB.below hb1).two) | (go_at_call 20; refine (HLS.out _ (r1.below (chain hb hb1)) (r2.below (chain hb hb1))).mono ?_; rintro e w2 ⟨rfl, hb2⟩))
    go_ret
    exact ⟨rfl, chain (chain hb hb1) hb2⟩
  · replace g : isB p c h s xs ys = false := by simpa using g
    rw [g, Bool.false_and]
    have hB := fun W (q1 : IRow W a1 xs) (q2 : IRow W a2 ys) => specIsBoard_any p c h s a1 a2 n1 n2 c1 c2 xs ys W h1 h2 l1 l2 q1 q2
    simp only [g] at hB
    have HB := Lib.hid hB
    clear hB
    go_enter Try.func6, Try.ntmps6
    go_wp2_with (go_at_call 19; refine (HB.out _ (r1.below hb) (r2.below hb)).mono ?_; rintro e w1 ⟨rfl, hb1⟩; obtain ⟨x0, x1, x2, x3, xf, xl⟩ := (BV.below hb1).four; obtain ⟨y0, y1, yf, yl⟩ := (BB.below hb1).two)
    go_ret
    exact ⟨rfl, chain hb hb1⟩
end Go.Proofs.Ytfcdndihcfgbhaa
