/- Texts of a proof, laid together. -/
import Derived.Test.YtnlclmlnpkncoaaGreatW01
import Derived.Test.YtnlclmlnpkncoaaGreatW03
import Derived.Lib.ItoaNum
import Derived.IntWalk
import Derived.Deep.LoopGhost
namespace Go.Proofs.YtnlclmlnpkncoaaGreat
open Go.ChangeShapes Go.WideShapes Go.ChangeAt Go.RowKit
set_option linter.unusedVariables false
set_option linter.unusedSimpArgs false
set_option maxRecDepth 4000
theorem lz_any (y : Nat) (h0 : 0 < y) (h1 : y < 18446744073709551616) :
    ∃ s : Nat, s ≤ 63 ∧ 9223372036854775808 ≤ y * 2 ^ s ∧ y * 2 ^ s < 18446744073709551616 ∧ ∀ w : World, Calls Tryz.prog 137 #[.int .u64 (y : Int)] w fun e w' => e = .returned (.int .i64 (s : Int)) ∧ w' = w := by
  obtain ⟨b1, b2, b3⟩ := Lib.bitLenAux_bounds 64 y (by omega) (by omega)
  have b4 : Lib.bitLenAux 64 y ≤ 64 := Lib.bitLen_le y 64 (by omega) (by omega)
  obtain ⟨L, hL⟩ : ∃ L, Lib.bitLenAux 64 y = L := ⟨_, rfl⟩
  rw [hL] at b1 b2 b3 b4
  refine ⟨64 - L, by omega, ?_, ?_, fun w => ?_⟩
  · have h2 : 2 ^ (L - 1) * 2 ^ (64 - L) = 9223372036854775808 := by rw [← Nat.pow_add, show L - 1 + (64 - L) = 63 by omega]
    rw [← h2]
    exact Nat.mul_le_mul_right _ b2
  · have h2 : 2 ^ L * 2 ^ (64 - L) = 18446744073709551616 := by rw [← Nat.pow_add, show L + (64 - L) = 64 by omega]
    rw [← h2]
    exact Nat.mul_lt_mul_of_pos_right b3 (Nat.pow_pos (by omega))
  · have h3 := Tryz.bits_LeadingZeros64 (y : Int) w (by omega) (by omega)
    rw [Int.toNat_natCast, show Lib.bitLen y = L from hL] at h3
    rw [show ((64 - L : Nat) : Int) = 64 - (L : Int) by omega]
    exact h3
theorem div64_zero (lo y : Nat) (hl : lo < 18446744073709551616) (hy0 : 0 < y) (hy : y < 18446744073709551616) (w : World) :
    Calls Tryz.prog 124 #[.int .u64 0, .int .u64 (lo : Int), .int .u64 (y : Int)] w fun e w' => e = .returned (.tuple #[.int .u64 ((lo / y : Nat) : Int), .int .u64 ((lo % y : Nat) : Int)]) ∧ Below w.heap.size w w' := by
  have q1 := Nat.div_le_self lo y
  have q2 := Nat.mod_le lo y
  obtain ⟨d, hd⟩ : ∃ d, lo / y = d := ⟨_, rfl⟩
  obtain ⟨m, hm⟩ : ∃ d, lo % y = d := ⟨_, rfl⟩
  have w1 : IntKind.u64.wrap ((lo : Int) / (y : Int)) = (d : Int) := by
    rw [← hd, ← Int.natCast_ediv, IntKind.wrap_u64]
    omega
  have w2 : (lo : Int).tmod (y : Int) = (m : Int) := by
    rw [← hm, ← Int.ofNat_tmod]
  have y0 : (y : Int) ≠ 0 := by omega
  rw [hd, hm]
  clear hd hm q1 q2
  go_enter Tryz.func124, Tryz.ntmps124
  go_wp2
  go_region
  go_wp2
  go_ret2
  exact ⟨rfl, (Below.refl _ _).drew⟩
theorem div64_words (hi lo y s : Nat) (hh : hi < y) (hl : lo < 18446744073709551616) (s1 : s ≤ 63) (s2 : 9223372036854775808 ≤ y * 2 ^ s) (s3 : y * 2 ^ s < 18446744073709551616) :
    ∃ Y ya yb U H L1 Z z1 z0 : Nat, IntKind.u64.wrap ((y : Int) * 2 ^ s) = (Y : Int) ∧ (Y : Int) / 4294967296 = (ya : Int) ∧ bits .and .u64 (Y : Int) 4294967295 = (yb : Int) ∧
      IntKind.u64.wrap ((hi : Int) * 2 ^ s) = (H : Int) ∧ (lo : Int) / 2 ^ (64 - s) = (L1 : Int) ∧ bits .or .u64 (H : Int) (L1 : Int) = (U : Int) ∧
      IntKind.u64.wrap ((lo : Int) * 2 ^ s) = (Z : Int) ∧ (Z : Int) / 4294967296 = (z1 : Int) ∧ bits .and .u64 (Z : Int) 4294967295 = (z0 : Int) ∧
      Y = ya * 4294967296 + yb ∧ 0 < ya ∧ ya < 4294967296 ∧ yb < 4294967296 ∧ z1 < 4294967296 ∧ z0 < 4294967296 ∧ U < Y ∧ Y < 18446744073709551616 ∧
      ((U * 4294967296 + z1) * 4294967296 + z0) / Y = (hi * 18446744073709551616 + lo) / y ∧ ((U * 4294967296 + z1) * 4294967296 + z0) % Y / 2 ^ s = (hi * 18446744073709551616 + lo) % y := by
  have hp : 0 < 2 ^ s := Nat.pow_pos (by omega)
  have hq : 0 < 2 ^ (64 - s) := Nat.pow_pos (by omega)
  have hpq : 2 ^ (64 - s) * 2 ^ s = 18446744073709551616 := by rw [← Nat.pow_add, show 64 - s + s = 64 by omega]
  have hH : hi * 2 ^ s + 2 ^ s ≤ y * 2 ^ s := by
    have := Nat.mul_le_mul_right (2 ^ s) (show hi + 1 ≤ y by omega)
    rw [Nat.add_mul, Nat.one_mul] at this
    exact this
  have hL1 : lo / 2 ^ (64 - s) < 2 ^ s := by
    rw [Nat.div_lt_iff_lt_mul hq, Nat.mul_comm, hpq]
    exact hl
  have hZ : lo * 2 ^ s % 18446744073709551616 = lo % 2 ^ (64 - s) * 2 ^ s := by
    rw [← hpq, Nat.mul_mod_mul_right]
  have hsplit : lo * 2 ^ s = lo / 2 ^ (64 - s) * 18446744073709551616 + lo * 2 ^ s % 18446744073709551616 := by
    rw [hZ, ← hpq]
    have := Nat.mod_add_div lo (2 ^ (64 - s))
    calc lo * 2 ^ s = (lo % 2 ^ (64 - s) + 2 ^ (64 - s) * (lo / 2 ^ (64 - s))) * 2 ^ s := by rw [this]
      _ = _ := by rw [Nat.add_mul, Nat.add_comm, Nat.mul_comm (2 ^ (64 - s)) (lo / 2 ^ (64 - s)), Nat.mul_assoc]
  have hor : hi * 2 ^ s ||| lo / 2 ^ (64 - s) = hi * 2 ^ s + lo / 2 ^ (64 - s) := by
    have := Nat.two_pow_add_eq_or_of_lt (i := s) (b := lo / 2 ^ (64 - s)) hL1 hi
    rw [Nat.mul_comm, this]
  have hc : ∀ x : Nat, ((x * 2 ^ s : Nat) : Int) = (x : Int) * 2 ^ s := fun x => by rw [Int.natCast_mul, Int.natCast_pow]; rfl
  have hall : ((hi * 2 ^ s + lo / 2 ^ (64 - s)) * 4294967296 + lo * 2 ^ s % 18446744073709551616 / 4294967296) * 4294967296 + lo * 2 ^ s % 18446744073709551616 % 4294967296 = (hi * 18446744073709551616 + lo) * 2 ^ s := by
    rw [Nat.add_mul (hi * 18446744073709551616), hsplit, Nat.mul_right_comm hi 18446744073709551616]
    have h2 := Nat.mod_add_div (lo * 2 ^ s % 18446744073709551616) 4294967296
    have h3 : (lo / 2 ^ (64 - s) * 18446744073709551616 + lo * 2 ^ s % 18446744073709551616) % 18446744073709551616 = lo * 2 ^ s % 18446744073709551616 := by omega
    rw [h3]
    omega
  refine ⟨y * 2 ^ s, y * 2 ^ s / 4294967296, y * 2 ^ s % 4294967296, hi * 2 ^ s + lo / 2 ^ (64 - s), hi * 2 ^ s, lo / 2 ^ (64 - s), lo * 2 ^ s % 18446744073709551616, lo * 2 ^ s % 18446744073709551616 / 4294967296, lo * 2 ^ s % 18446744073709551616 % 4294967296, ?_, ?_, ?_, ?_, ?_, ?_, ?_, ?_, ?_, ?_, ?_, ?_, ?_, ?_, ?_, ?_, ?_, ?_⟩
  · rw [← hc y, IntKind.wrap_u64]; omega
  · omega
  · exact Mul64.maskN _ s3
  · rw [← hc hi, IntKind.wrap_u64]; omega
  · rw [Int.natCast_ediv, Int.natCast_pow]; rfl
  · have hb := bits_or_u64_nat (hi * 2 ^ s) (lo / 2 ^ (64 - s)) (by omega) (by omega)
    rw [hor] at hb
    exact hb
  · rw [← hc lo, IntKind.wrap_u64]; omega
  · omega
  · exact Mul64.maskN _ (by omega)
  · omega
  · omega
  · omega
  · omega
  · omega
  · omega
  · omega
  · exact s3
  · rw [hall]; exact kd_all _ y (2 ^ s) hp
set_option maxRecDepth 40000 in
set_option maxHeartbeats 4000000 in
theorem div64_any (hi lo y : Nat) (h0 : 0 < hi) (hh : hi < y) (hl : lo < 18446744073709551616) (hy : y < 18446744073709551616) (w : World) :
    Calls Tryz.prog 124 #[.int .u64 (hi : Int), .int .u64 (lo : Int), .int .u64 (y : Int)] w fun e w' => e = .returned (.tuple #[.int .u64 (((hi * 18446744073709551616 + lo) / y : Nat) : Int), .int .u64 (((hi * 18446744073709551616 + lo) % y : Nat) : Int)]) ∧ Below w.heap.size w w' := by
  obtain ⟨s, s1, s2, s3, hlz⟩ := lz_any y (by omega) hy
  obtain ⟨Y, ya, yb, U, H, L1, Z, z1, z0, e1, e2, e3, e4, e5, e6, e7, e8, e9, hY, ya0, ya1, yb1, z11, z01, hU, hY1, hD, hM⟩ := div64_words hi lo y s hh hl s1 s2 s3
  rw [← hD, ← hM]
  have HL := Lib.hid hlz
  have u0 := Nat.div_le_self U ya
  have u1 := Nat.mod_lt U ya0
  have u2 := Nat.mod_add_div U ya
  have t0 := kd_init U ya yb z1 ya0 z11
  have tS := kd_small ya yb z1 U z11 (by omega)
  obtain ⟨q, hq⟩ : ∃ q, U / ya = q := ⟨_, rfl⟩
  obtain ⟨r, hr⟩ : ∃ q, U % ya = q := ⟨_, rfl⟩
  rw [hq] at u0 u2 t0
  rw [hr] at u1 u2
  have e10 : IntKind.u64.wrap ((U : Int) / (ya : Int)) = (q : Int) := by
    rw [← hq, ← Int.natCast_ediv, IntKind.wrap_u64]
    omega
  have e11 : IntKind.u64.wrap ((U : Int) - IntKind.u64.wrap ((q : Int) * (ya : Int))) = (r : Int) := by
    rw [← Int.natCast_mul, IntKind.wrap_u64, IntKind.wrap_u64]
    rw [Nat.mul_comm] at u2
    omega
  have yan : (ya : Int) ≠ 0 := by omega
  have HY := Lib.hid hY
  have hUV : U < ya * 4294967296 + yb := by omega
  rw [← hY] at t0 tS
  obtain ⟨t1, ht1⟩ : ∃ t, (U * 4294967296 + z1) / Y = t := ⟨_, rfl⟩
  have hR := Nat.mod_lt (U * 4294967296 + z1) (show 0 < Y by omega)
  have hRT := kd_rest (U * 4294967296 + z1) Y
  have hTle := Nat.div_mul_le_self (U * 4294967296 + z1) Y
  obtain ⟨R, hRe⟩ : ∃ R, (U * 4294967296 + z1) % Y = R := ⟨_, rfl⟩
  rw [ht1] at t0 tS hRT hTle
  rw [hRe] at hR hRT
  have e11 : ∀ T : Nat, T = t1 → IntKind.u64.wrap (IntKind.u64.wrap (IntKind.u64.wrap ((U : Int) * 4294967296) + (z1 : Int)) - IntKind.u64.wrap ((T : Int) * (Y : Int))) = (R : Int) := by
    rintro T rfl
    rw [← Int.natCast_mul T Y, IntKind.wrap_u64, IntKind.wrap_u64, IntKind.wrap_u64, IntKind.wrap_u64]
    omega
  have e12 := e11 t1 rfl
  have v1 := Nat.mod_lt R ya0
  have v2 := Nat.mod_add_div R ya
  have b0 := kd_init R ya yb z0 ya0 z01
  have bS := kd_small ya yb z0 R z01 (by omega)
  obtain ⟨q2, hq2⟩ : ∃ q, R / ya = q := ⟨_, rfl⟩
  obtain ⟨r2, hr2⟩ : ∃ q, R % ya = q := ⟨_, rfl⟩
  rw [← hY, hq2] at b0
  rw [← hY] at bS
  rw [hr2] at v1 v2
  rw [hq2] at v2
  have e13 : IntKind.u64.wrap ((R : Int) / (ya : Int)) = (q2 : Int) := by
    rw [← hq2, ← Int.natCast_ediv, IntKind.wrap_u64]
    have := Nat.div_le_self R ya
    omega
  have e14 : IntKind.u64.wrap ((R : Int) - IntKind.u64.wrap ((q2 : Int) * (ya : Int))) = (r2 : Int) := by
    rw [← Int.natCast_mul, IntKind.wrap_u64, IntKind.wrap_u64]
    rw [Nat.mul_comm] at v2
    omega
  obtain ⟨t2, ht2⟩ : ∃ t, (R * 4294967296 + z0) / Y = t := ⟨_, rfl⟩
  have hR2 := Nat.mod_lt (R * 4294967296 + z0) (show 0 < Y by omega)
  have hRT2 := kd_rest (R * 4294967296 + z0) Y
  have hTle2 := Nat.div_mul_le_self (R * 4294967296 + z0) Y
  obtain ⟨R2, hRe2⟩ : ∃ R2, (R * 4294967296 + z0) % Y = R2 := ⟨_, rfl⟩
  rw [ht2] at b0 bS hRT2 hTle2
  rw [hRe2] at hR2 hRT2
  have e15 : IntKind.u64.wrap (IntKind.u64.wrap (IntKind.u64.wrap ((R : Int) * 4294967296) + (z0 : Int)) - IntKind.u64.wrap ((t2 : Int) * (Y : Int))) = (R2 : Int) := by
    rw [← Int.natCast_mul t2 Y, IntKind.wrap_u64, IntKind.wrap_u64, IntKind.wrap_u64, IntKind.wrap_u64]
    omega
  obtain ⟨k1, k2⟩ := kd_two (U * 4294967296 + z1) z0 Y (by omega)
  rw [ht1, hRe, ht2] at k1
  rw [hRe, hRe2] at k2
  rw [← k1, ← k2]
  obtain ⟨M1, hM1⟩ : ∃ x, t1 * 4294967296 + t2 = x := ⟨_, rfl⟩
  obtain ⟨M2, hM2⟩ : ∃ x, R2 / 2 ^ s = x := ⟨_, rfl⟩
  have e16 : (R2 : Int) / 2 ^ s = (M2 : Int) := by rw [← hM2, Int.natCast_ediv, Int.natCast_pow]; rfl
  have e17 : IntKind.u64.wrap (IntKind.u64.wrap ((t1 : Int) * 4294967296) + (t2 : Int)) = (M1 : Int) ∧ IntKind.u64.wrap ((t1 : Int) * 4294967296 + (t2 : Int)) = (M1 : Int) ∧ (t1 : Int) * 4294967296 + (t2 : Int) = (M1 : Int) := by
    rw [← hM1]
    simp only [IntKind.wrap_u64]
    omega
  rw [hM1, hM2]
  have hqB : q < 18446744073709551616 := by omega
  have hq2B : q2 < 18446744073709551616 := by
    have := Nat.div_le_self R ya
    omega
  have E12 := Lib.hid e12
  have E15 := Lib.hid e15
  have E17 := Lib.hid e17
  have X1 := Lib.hid ht1
  have X2 := Lib.hid ht2
  have X3 := Lib.hid u2
  have X4 := Lib.hid v2
  clear hlz hD hM hq hr hY ht1 ht2 hRe hRe2 hq2 hr2 u2 v2 hRT hRT2 hTle hTle2 k1 k2 e11 e12 e15 e17 hM1 hM2
  go_enter Tryz.func124, Tryz.ntmps124
  go_wp2_with (go_at_call 137; refine (HL.out _).mono ?_; rintro e w1 ⟨rfl, rfl⟩)
  clear HL s2 s3 h0 hh hl hy
  replace ya0 := Lib.hid ya0
  go_loopg [15, 16] q (fun m x y wq => ∃ (k j : Nat) (K J : Int), m = k ∧ x = .int .u64 K ∧ y = .int .u64 J ∧ Hid (K = k) ∧ Hid (J = j) ∧ Hid (k * ya + j = U) ∧ Hid (t1 ≤ k ∧ k < 18446744073709551616 ∧ j < 4294967296) ∧ wq = w1)
  case atStart => exact ⟨q, r, _, _, rfl, rfl, rfl, rfl, rfl, Lib.hid (by have := X3.out; rw [Nat.mul_comm] at this; omega), Lib.hid ⟨t0, by omega, by omega⟩, rfl⟩
  case round =>
    obtain ⟨k, j, K1, J, hm, rfl, rfl, HK, HJ, HE, HB, rfl⟩ := hrel
    have kI : 0 ≤ K1 ∧ K1 < 18446744073709551616 ∧ 0 ≤ J ∧ J < 4294967296 := by
      have h1 := HK.out; have h2 := HJ.out; have h3 := HB.out
      omega
    obtain ⟨k0, k1, j0, j1⟩ := kI
    by_cases c1 : K1 < 4294967296
    · obtain ⟨P, wP, HP, hP0, hP1⟩ : ∃ P : Int, IntKind.u64.wrap (K1 * (yb : Int)) = P ∧ Hid (P = ((k * yb : Nat) : Int)) ∧ 0 ≤ P ∧ P < 18446744073709551616 := by
        have h1 := HK.out
        have hP : k * yb ≤ 4294967295 * 4294967295 := Nat.mul_le_mul (by omega) (by omega)
        refine ⟨((k * yb : Nat) : Int), ?_, Lib.hid rfl, by omega, by omega⟩
        rw [h1, ← Int.natCast_mul, IntKind.wrap_u64]
        omega
      obtain ⟨G, wG, HG, hG0, hG1⟩ : ∃ G : Int, IntKind.u64.wrap (4294967296 * J + (z1 : Int)) = G ∧ Hid (G = 4294967296 * J + (z1 : Int)) ∧ 0 ≤ G ∧ G < 18446744073709551616 := by
        refine ⟨4294967296 * J + (z1 : Int), ?_, Lib.hid rfl, by omega, by omega⟩
        rw [IntKind.wrap_u64]
        omega
      obtain ⟨N, wN, HN, hN0, hN1⟩ : ∃ N : Int, IntKind.u64.wrap (J + (ya : Int)) = N ∧ Hid (N = J + (ya : Int)) ∧ 0 ≤ N ∧ N < 18446744073709551616 := by
        refine ⟨J + (ya : Int), ?_, Lib.hid rfl, by omega, by omega⟩
        rw [IntKind.wrap_u64]
        omega
      by_cases c2 : G < P
      · obtain ⟨k2, HD⟩ : 1 ≤ K1 ∧ Hid (t1 + 1 ≤ k) := by
          have h1 := HJ.out; have h2 := HP.out; have h3 := HB.out; have h4 := HG.out; have h5 := HK.out
          have := kd_dec k ya yb z1 j U ya0.out HE.out (by rw [← HY.out, X1.out]; exact h3.1) (by omega)
          rw [← HY.out, X1.out] at this
          exact ⟨by omega, Lib.hid (by omega)⟩
        have HE2 : Hid ((k - 1) * ya + (j + ya) = U) := by
          have h1 := HD.out; have h2 := HE.out
          obtain ⟨k', rfl⟩ : ∃ k', k = k' + 1 := ⟨k - 1, by omega⟩
          rw [Nat.add_mul, Nat.one_mul] at h2
          exact Lib.hid (by rw [Nat.add_sub_cancel]; omega)
        by_cases c3 : N < 4294967296
        · go_wp2
          go_roundg (k - 1)
          case measure => have := HD.out; omega
          case rel => exact ⟨k - 1, j + ya, K1 - 1, N, rfl, by go_num, rfl, Lib.hid (by have := HK.out; have := HD.out; omega), Lib.hid (by have := HN.out; have := HJ.out; omega), HE2, Lib.hid (by have := HD.out; have := HB.out; have := HN.out; have := HJ.out; omega), rfl⟩
        · have hT : K1 - 1 = (t1 : Int) := by
            have h1 := HK.out; have h2 := HD.out; have h3 := HN.out; have h4 := HJ.out
            have := kd_break (k - 1) ya yb z1 (j + ya) U ya0.out (by omega) HE2.out (by rw [← HY.out, X1.out]; omega) (by omega) (by omega)
            rw [← HY.out, X1.out] at this
            omega
          obtain ⟨A1, wT, hA1⟩ : ∃ A : Int, IntKind.u64.wrap (K1 - 1) = A ∧ Hid (A = (t1 : Int)) := ⟨(t1 : Int), by rw [hT, IntKind.wrap_u64]; omega, Lib.hid rfl⟩
          clear hT
          have f12 : IntKind.u64.wrap (IntKind.u64.wrap (IntKind.u64.wrap ((U : Int) * 4294967296) + (z1 : Int)) - IntKind.u64.wrap (A1 * (Y : Int))) = (R : Int) := by rw [hA1.out]; exact E12.out
          go_wp2
          go_loopg [16, 18] q2 (fun m y x wq => ∃ (k j : Nat) (K J : Int), m = k ∧ x = .int .u64 K ∧ y = .int .u64 J ∧ Hid (K = k) ∧ Hid (J = j) ∧ Hid (k * ya + j = R) ∧ Hid (t2 ≤ k ∧ k < 18446744073709551616 ∧ j < 4294967296) ∧ wq = wr)
          case atStart => exact ⟨q2, r2, _, _, rfl, rfl, rfl, rfl, rfl, Lib.hid (by have := X4.out; rw [Nat.mul_comm] at this; omega), Lib.hid ⟨b0, by omega, by omega⟩, rfl⟩
          case round =>
            obtain ⟨k, j, K2, J, hm, rfl, rfl, HK, HJ, HE, HB, rfl⟩ := hrel
            have kI : 0 ≤ K2 ∧ K2 < 18446744073709551616 ∧ 0 ≤ J ∧ J < 4294967296 := by
              have h1 := HK.out; have h2 := HJ.out; have h3 := HB.out
              omega
            obtain ⟨k0, k1, j0, j1⟩ := kI
            by_cases c1 : K2 < 4294967296
            · obtain ⟨P, wP, HP, hP0, hP1⟩ : ∃ P : Int, IntKind.u64.wrap (K2 * (yb : Int)) = P ∧ Hid (P = ((k * yb : Nat) : Int)) ∧ 0 ≤ P ∧ P < 18446744073709551616 := by
                have h1 := HK.out
                have hP : k * yb ≤ 4294967295 * 4294967295 := Nat.mul_le_mul (by omega) (by omega)
                refine ⟨((k * yb : Nat) : Int), ?_, Lib.hid rfl, by omega, by omega⟩
                rw [h1, ← Int.natCast_mul, IntKind.wrap_u64]
                omega
              obtain ⟨G, wG, HG, hG0, hG1⟩ : ∃ G : Int, IntKind.u64.wrap (4294967296 * J + (z0 : Int)) = G ∧ Hid (G = 4294967296 * J + (z0 : Int)) ∧ 0 ≤ G ∧ G < 18446744073709551616 := by
                refine ⟨4294967296 * J + (z0 : Int), ?_, Lib.hid rfl, by omega, by omega⟩
                rw [IntKind.wrap_u64]
                omega
              obtain ⟨N, wN, HN, hN0, hN1⟩ : ∃ N : Int, IntKind.u64.wrap (J + (ya : Int)) = N ∧ Hid (N = J + (ya : Int)) ∧ 0 ≤ N ∧ N < 18446744073709551616 := by
                refine ⟨J + (ya : Int), ?_, Lib.hid rfl, by omega, by omega⟩
                rw [IntKind.wrap_u64]
                omega
              by_cases c2 : G < P
              · obtain ⟨k2, HD⟩ : 1 ≤ K2 ∧ Hid (t2 + 1 ≤ k) := by
                  have h1 := HJ.out; have h2 := HP.out; have h3 := HB.out; have h4 := HG.out; have h5 := HK.out
                  have := kd_dec k ya yb z0 j R ya0.out HE.out (by rw [← HY.out, X2.out]; exact h3.1) (by omega)
                  rw [← HY.out, X2.out] at this
                  exact ⟨by omega, Lib.hid (by omega)⟩
                have HE2 : Hid ((k - 1) * ya + (j + ya) = R) := by
                  have h1 := HD.out; have h2 := HE.out
                  obtain ⟨k', rfl⟩ : ∃ k', k = k' + 1 := ⟨k - 1, by omega⟩
                  rw [Nat.add_mul, Nat.one_mul] at h2
                  exact Lib.hid (by rw [Nat.add_sub_cancel]; omega)
                by_cases c3 : N < 4294967296
                · go_wp2
                  go_roundg (k - 1)
                  case measure => have := HD.out; omega
                  case rel => exact ⟨k - 1, j + ya, K2 - 1, N, rfl, by go_num, rfl, Lib.hid (by have := HK.out; have := HD.out; omega), Lib.hid (by have := HN.out; have := HJ.out; omega), HE2, Lib.hid (by have := HD.out; have := HB.out; have := HN.out; have := HJ.out; omega), rfl⟩
                · have hT : K2 - 1 = (t2 : Int) := by
                    have h1 := HK.out; have h2 := HD.out; have h3 := HN.out; have h4 := HJ.out
                    have := kd_break (k - 1) ya yb z0 (j + ya) R ya0.out (by omega) HE2.out (by rw [← HY.out, X2.out]; omega) (by have := HY.out; omega) (by omega)
                    rw [← HY.out, X2.out] at this
                    omega
                  obtain ⟨A2, wT, hA2⟩ : ∃ A : Int, IntKind.u64.wrap (K2 - 1) = A ∧ Hid (A = (t2 : Int)) := ⟨(t2 : Int), by rw [hT, IntKind.wrap_u64]; omega, Lib.hid rfl⟩
                  clear hT
                  have f15 : IntKind.u64.wrap (IntKind.u64.wrap (IntKind.u64.wrap ((R : Int) * 4294967296) + (z0 : Int)) - IntKind.u64.wrap (A2 * (Y : Int))) = (R2 : Int) := by rw [hA2.out]; exact E15.out
                  have f17 : IntKind.u64.wrap (IntKind.u64.wrap (A1 * 4294967296) + A2) = (M1 : Int) := by rw [hA1.out, hA2.out]; exact E17.out.1
                  have f18 : IntKind.u64.wrap (A1 * 4294967296 + A2) = (M1 : Int) := by rw [hA1.out, hA2.out]; exact E17.out.2.1
                  have f20 : IntKind.u64.wrap (M1 : Int) = (M1 : Int) := by rw [← E17.out.2.2]; exact E17.out.2.1.trans E17.out.2.2.symm
                  have f19 : A1 * 4294967296 + A2 = (M1 : Int) := by rw [hA1.out, hA2.out]; exact E17.out.2.2
                  go_wp2
                  go_ret2
                  exact ⟨rfl, Below.refl _ _⟩
              · have hA2 : Hid (K2 = (t2 : Int)) := by
                  refine Lib.hid ?_
                  have h1 := HJ.out; have h2 := HP.out; have h3 := HB.out; have h4 := HG.out; have h5 := HK.out
                  have := kd_exit k ya yb z0 j R ya0.out HE.out (by rw [← HY.out, X2.out]; exact h3.1) (by omega)
                  rw [← HY.out, X2.out] at this
                  omega
                have f15 : IntKind.u64.wrap (IntKind.u64.wrap (IntKind.u64.wrap ((R : Int) * 4294967296) + (z0 : Int)) - IntKind.u64.wrap (K2 * (Y : Int))) = (R2 : Int) := by rw [hA2.out]; exact E15.out
                have f17 : IntKind.u64.wrap (IntKind.u64.wrap (A1 * 4294967296) + K2) = (M1 : Int) := by rw [hA1.out, hA2.out]; exact E17.out.1
                have f18 : IntKind.u64.wrap (A1 * 4294967296 + K2) = (M1 : Int) := by rw [hA1.out, hA2.out]; exact E17.out.2.1
                have f20 : IntKind.u64.wrap (M1 : Int) = (M1 : Int) := by rw [← E17.out.2.2]; exact E17.out.2.1.trans E17.out.2.2.symm
                have f19 : A1 * 4294967296 + K2 = (M1 : Int) := by rw [hA1.out, hA2.out]; exact E17.out.2.2
                go_wp2
                go_ret2
                exact ⟨rfl, Below.refl _ _⟩
            · obtain ⟨k2, HD⟩ : 1 ≤ K2 ∧ Hid (t2 + 1 ≤ k) := by
                have h5 := HK.out
                exact ⟨by omega, Lib.hid (by omega)⟩
              obtain ⟨N, wN, HN, hN0, hN1⟩ : ∃ N : Int, IntKind.u64.wrap (J + (ya : Int)) = N ∧ Hid (N = J + (ya : Int)) ∧ 0 ≤ N ∧ N < 18446744073709551616 := by
                refine ⟨J + (ya : Int), ?_, Lib.hid rfl, by omega, by omega⟩
                rw [IntKind.wrap_u64]
                omega
              have HE2 : Hid ((k - 1) * ya + (j + ya) = R) := by
                have h1 := HD.out; have h2 := HE.out
                obtain ⟨k', rfl⟩ : ∃ k', k = k' + 1 := ⟨k - 1, by omega⟩
                rw [Nat.add_mul, Nat.one_mul] at h2
                exact Lib.hid (by rw [Nat.add_sub_cancel]; omega)
              by_cases c3 : N < 4294967296
              · go_wp2
                go_roundg (k - 1)
                case measure => have := HD.out; omega
                case rel => exact ⟨k - 1, j + ya, K2 - 1, N, rfl, by go_num, rfl, Lib.hid (by have := HK.out; have := HD.out; omega), Lib.hid (by have := HN.out; have := HJ.out; omega), HE2, Lib.hid (by have := HD.out; have := HB.out; have := HN.out; have := HJ.out; omega), rfl⟩
              · have hT : K2 - 1 = (t2 : Int) := by
                  have h1 := HK.out; have h2 := HD.out; have h3 := HN.out; have h4 := HJ.out
                  have := kd_break (k - 1) ya yb z0 (j + ya) R ya0.out (by omega) HE2.out (by rw [← HY.out, X2.out]; omega) (by have := HY.out; omega) (by omega)
                  rw [← HY.out, X2.out] at this
                  omega
                obtain ⟨A2, wT, hA2⟩ : ∃ A : Int, IntKind.u64.wrap (K2 - 1) = A ∧ Hid (A = (t2 : Int)) := ⟨(t2 : Int), by rw [hT, IntKind.wrap_u64]; omega, Lib.hid rfl⟩
                clear hT
                have f15 : IntKind.u64.wrap (IntKind.u64.wrap (IntKind.u64.wrap ((R : Int) * 4294967296) + (z0 : Int)) - IntKind.u64.wrap (A2 * (Y : Int))) = (R2 : Int) := by rw [hA2.out]; exact E15.out
                have f17 : IntKind.u64.wrap (IntKind.u64.wrap (A1 * 4294967296) + A2) = (M1 : Int) := by rw [hA1.out, hA2.out]; exact E17.out.1
                have f18 : IntKind.u64.wrap (A1 * 4294967296 + A2) = (M1 : Int) := by rw [hA1.out, hA2.out]; exact E17.out.2.1
                have f20 : IntKind.u64.wrap (M1 : Int) = (M1 : Int) := by rw [← E17.out.2.2]; exact E17.out.2.1.trans E17.out.2.2.symm
                have f19 : A1 * 4294967296 + A2 = (M1 : Int) := by rw [hA1.out, hA2.out]; exact E17.out.2.2
                go_wp2
                go_ret2
                exact ⟨rfl, Below.refl _ _⟩
      · have hA1 : Hid (K1 = (t1 : Int)) := by
          refine Lib.hid ?_
          have h1 := HJ.out; have h2 := HP.out; have h3 := HB.out; have h4 := HG.out; have h5 := HK.out
          have := kd_exit k ya yb z1 j U ya0.out HE.out (by rw [← HY.out, X1.out]; exact h3.1) (by omega)
          rw [← HY.out, X1.out] at this
          omega
        have f12 : IntKind.u64.wrap (IntKind.u64.wrap (IntKind.u64.wrap ((U : Int) * 4294967296) + (z1 : Int)) - IntKind.u64.wrap (K1 * (Y : Int))) = (R : Int) := by rw [hA1.out]; exact E12.out
        go_wp2
        go_loopg [16, 18] q2 (fun m y x wq => ∃ (k j : Nat) (K J : Int), m = k ∧ x = .int .u64 K ∧ y = .int .u64 J ∧ Hid (K = k) ∧ Hid (J = j) ∧ Hid (k * ya + j = R) ∧ Hid (t2 ≤ k ∧ k < 18446744073709551616 ∧ j < 4294967296) ∧ wq = wr)
        case atStart => exact ⟨q2, r2, _, _, rfl, rfl, rfl, rfl, rfl, Lib.hid (by have := X4.out; rw [Nat.mul_comm] at this; omega), Lib.hid ⟨b0, by omega, by omega⟩, rfl⟩
        case round =>
          obtain ⟨k, j, K2, J, hm, rfl, rfl, HK, HJ, HE, HB, rfl⟩ := hrel
          have kI : 0 ≤ K2 ∧ K2 < 18446744073709551616 ∧ 0 ≤ J ∧ J < 4294967296 := by
            have h1 := HK.out; have h2 := HJ.out; have h3 := HB.out
            omega
          obtain ⟨k0, k1, j0, j1⟩ := kI
          by_cases c1 : K2 < 4294967296
          · obtain ⟨P, wP, HP, hP0, hP1⟩ : ∃ P : Int, IntKind.u64.wrap (K2 * (yb : Int)) = P ∧ Hid (P = ((k * yb : Nat) : Int)) ∧ 0 ≤ P ∧ P < 18446744073709551616 := by
              have h1 := HK.out
              have hP : k * yb ≤ 4294967295 * 4294967295 := Nat.mul_le_mul (by omega) (by omega)
              refine ⟨((k * yb : Nat) : Int), ?_, Lib.hid rfl, by omega, by omega⟩
              rw [h1, ← Int.natCast_mul, IntKind.wrap_u64]
              omega
            obtain ⟨G, wG, HG, hG0, hG1⟩ : ∃ G : Int, IntKind.u64.wrap (4294967296 * J + (z0 : Int)) = G ∧ Hid (G = 4294967296 * J + (z0 : Int)) ∧ 0 ≤ G ∧ G < 18446744073709551616 := by
              refine ⟨4294967296 * J + (z0 : Int), ?_, Lib.hid rfl, by omega, by omega⟩
              rw [IntKind.wrap_u64]
              omega
            obtain ⟨N, wN, HN, hN0, hN1⟩ : ∃ N : Int, IntKind.u64.wrap (J + (ya : Int)) = N ∧ Hid (N = J + (ya : Int)) ∧ 0 ≤ N ∧ N < 18446744073709551616 := by
              refine ⟨J + (ya : Int), ?_, Lib.hid rfl, by omega, by omega⟩
              rw [IntKind.wrap_u64]
              omega
            by_cases c2 : G < P
            · obtain ⟨k2, HD⟩ : 1 ≤ K2 ∧ Hid (t2 + 1 ≤ k) := by
                have h1 := HJ.out; have h2 := HP.out; have h3 := HB.out; have h4 := HG.out; have h5 := HK.out
                have := kd_dec k ya yb z0 j R ya0.out HE.out (by rw [← HY.out, X2.out]; exact h3.1) (by omega)
                rw [← HY.out, X2.out] at this
                exact ⟨by omega, Lib.hid (by omega)⟩
              have HE2 : Hid ((k - 1) * ya + (j + ya) = R) := by
                have h1 := HD.out; have h2 := HE.out
                obtain ⟨k', rfl⟩ : ∃ k', k = k' + 1 := ⟨k - 1, by omega⟩
                rw [Nat.add_mul, Nat.one_mul] at h2
                exact Lib.hid (by rw [Nat.add_sub_cancel]; omega)
              by_cases c3 : N < 4294967296
              · go_wp2
                go_roundg (k - 1)
                case measure => have := HD.out; omega
                case rel => exact ⟨k - 1, j + ya, K2 - 1, N, rfl, by go_num, rfl, Lib.hid (by have := HK.out; have := HD.out; omega), Lib.hid (by have := HN.out; have := HJ.out; omega), HE2, Lib.hid (by have := HD.out; have := HB.out; have := HN.out; have := HJ.out; omega), rfl⟩
              · have hT : K2 - 1 = (t2 : Int) := by
                  have h1 := HK.out; have h2 := HD.out; have h3 := HN.out; have h4 := HJ.out
                  have := kd_break (k - 1) ya yb z0 (j + ya) R ya0.out (by omega) HE2.out (by rw [← HY.out, X2.out]; omega) (by have := HY.out; omega) (by omega)
                  rw [← HY.out, X2.out] at this
                  omega
                obtain ⟨A2, wT, hA2⟩ : ∃ A : Int, IntKind.u64.wrap (K2 - 1) = A ∧ Hid (A = (t2 : Int)) := ⟨(t2 : Int), by rw [hT, IntKind.wrap_u64]; omega, Lib.hid rfl⟩
                clear hT
                have f15 : IntKind.u64.wrap (IntKind.u64.wrap (IntKind.u64.wrap ((R : Int) * 4294967296) + (z0 : Int)) - IntKind.u64.wrap (A2 * (Y : Int))) = (R2 : Int) := by rw [hA2.out]; exact E15.out
                have f17 : IntKind.u64.wrap (IntKind.u64.wrap (K1 * 4294967296) + A2) = (M1 : Int) := by rw [hA1.out, hA2.out]; exact E17.out.1
                have f18 : IntKind.u64.wrap (K1 * 4294967296 + A2) = (M1 : Int) := by rw [hA1.out, hA2.out]; exact E17.out.2.1
                have f20 : IntKind.u64.wrap (M1 : Int) = (M1 : Int) := by rw [← E17.out.2.2]; exact E17.out.2.1.trans E17.out.2.2.symm
                have f19 : K1 * 4294967296 + A2 = (M1 : Int) := by rw [hA1.out, hA2.out]; exact E17.out.2.2
                go_wp2
                go_ret2
                exact ⟨rfl, Below.refl _ _⟩
            · have hA2 : Hid (K2 = (t2 : Int)) := by
                refine Lib.hid ?_
                have h1 := HJ.out; have h2 := HP.out; have h3 := HB.out; have h4 := HG.out; have h5 := HK.out
                have := kd_exit k ya yb z0 j R ya0.out HE.out (by rw [← HY.out, X2.out]; exact h3.1) (by omega)
                rw [← HY.out, X2.out] at this
                omega
              have f15 : IntKind.u64.wrap (IntKind.u64.wrap (IntKind.u64.wrap ((R : Int) * 4294967296) + (z0 : Int)) - IntKind.u64.wrap (K2 * (Y : Int))) = (R2 : Int) := by rw [hA2.out]; exact E15.out
              have f17 : IntKind.u64.wrap (IntKind.u64.wrap (K1 * 4294967296) + K2) = (M1 : Int) := by rw [hA1.out, hA2.out]; exact E17.out.1
              have f18 : IntKind.u64.wrap (K1 * 4294967296 + K2) = (M1 : Int) := by rw [hA1.out, hA2.out]; exact E17.out.2.1
              have f20 : IntKind.u64.wrap (M1 : Int) = (M1 : Int) := by rw [← E17.out.2.2]; exact E17.out.2.1.trans E17.out.2.2.symm
              have f19 : K1 * 4294967296 + K2 = (M1 : Int) := by rw [hA1.out, hA2.out]; exact E17.out.2.2
              go_wp2
              go_ret2
              exact ⟨rfl, Below.refl _ _⟩
          · obtain ⟨k2, HD⟩ : 1 ≤ K2 ∧ Hid (t2 + 1 ≤ k) := by
              have h5 := HK.out
              exact ⟨by omega, Lib.hid (by omega)⟩
            obtain ⟨N, wN, HN, hN0, hN1⟩ : ∃ N : Int, IntKind.u64.wrap (J + (ya : Int)) = N ∧ Hid (N = J + (ya : Int)) ∧ 0 ≤ N ∧ N < 18446744073709551616 := by
              refine ⟨J + (ya : Int), ?_, Lib.hid rfl, by omega, by omega⟩
              rw [IntKind.wrap_u64]
              omega
            have HE2 : Hid ((k - 1) * ya + (j + ya) = R) := by
              have h1 := HD.out; have h2 := HE.out
              obtain ⟨k', rfl⟩ : ∃ k', k = k' + 1 := ⟨k - 1, by omega⟩
              rw [Nat.add_mul, Nat.one_mul] at h2
              exact Lib.hid (by rw [Nat.add_sub_cancel]; omega)
            by_cases c3 : N < 4294967296
            · go_wp2
              go_roundg (k - 1)
              case measure => have := HD.out; omega
              case rel => exact ⟨k - 1, j + ya, K2 - 1, N, rfl, by go_num, rfl, Lib.hid (by have := HK.out; have := HD.out; omega), Lib.hid (by have := HN.out; have := HJ.out; omega), HE2, Lib.hid (by have := HD.out; have := HB.out; have := HN.out; have := HJ.out; omega), rfl⟩
            · have hT : K2 - 1 = (t2 : Int) := by
                have h1 := HK.out; have h2 := HD.out; have h3 := HN.out; have h4 := HJ.out
                have := kd_break (k - 1) ya yb z0 (j + ya) R ya0.out (by omega) HE2.out (by rw [← HY.out, X2.out]; omega) (by have := HY.out; omega) (by omega)
                rw [← HY.out, X2.out] at this
                omega
              obtain ⟨A2, wT, hA2⟩ : ∃ A : Int, IntKind.u64.wrap (K2 - 1) = A ∧ Hid (A = (t2 : Int)) := ⟨(t2 : Int), by rw [hT, IntKind.wrap_u64]; omega, Lib.hid rfl⟩
              clear hT
              have f15 : IntKind.u64.wrap (IntKind.u64.wrap (IntKind.u64.wrap ((R : Int) * 4294967296) + (z0 : Int)) - IntKind.u64.wrap (A2 * (Y : Int))) = (R2 : Int) := by rw [hA2.out]; exact E15.out
              have f17 : IntKind.u64.wrap (IntKind.u64.wrap (K1 * 4294967296) + A2) = (M1 : Int) := by rw [hA1.out, hA2.out]; exact E17.out.1
              have f18 : IntKind.u64.wrap (K1 * 4294967296 + A2) = (M1 : Int) := by rw [hA1.out, hA2.out]; exact E17.out.2.1
              have f20 : IntKind.u64.wrap (M1 : Int) = (M1 : Int) := by rw [← E17.out.2.2]; exact E17.out.2.1.trans E17.out.2.2.symm
              have f19 : K1 * 4294967296 + A2 = (M1 : Int) := by rw [hA1.out, hA2.out]; exact E17.out.2.2
              go_wp2
              go_ret2
              exact ⟨rfl, Below.refl _ _⟩
    · obtain ⟨k2, HD⟩ : 1 ≤ K1 ∧ Hid (t1 + 1 ≤ k) := by
        have h5 := HK.out
        exact ⟨by omega, Lib.hid (by omega)⟩
      obtain ⟨N, wN, HN, hN0, hN1⟩ : ∃ N : Int, IntKind.u64.wrap (J + (ya : Int)) = N ∧ Hid (N = J + (ya : Int)) ∧ 0 ≤ N ∧ N < 18446744073709551616 := by
        refine ⟨J + (ya : Int), ?_, Lib.hid rfl, by omega, by omega⟩
        rw [IntKind.wrap_u64]
        omega
      have HE2 : Hid ((k - 1) * ya + (j + ya) = U) := by
        have h1 := HD.out; have h2 := HE.out
        obtain ⟨k', rfl⟩ : ∃ k', k = k' + 1 := ⟨k - 1, by omega⟩
        rw [Nat.add_mul, Nat.one_mul] at h2
        exact Lib.hid (by rw [Nat.add_sub_cancel]; omega)
      by_cases c3 : N < 4294967296
      · go_wp2
        go_roundg (k - 1)
        case measure => have := HD.out; omega
        case rel => exact ⟨k - 1, j + ya, K1 - 1, N, rfl, by go_num, rfl, Lib.hid (by have := HK.out; have := HD.out; omega), Lib.hid (by have := HN.out; have := HJ.out; omega), HE2, Lib.hid (by have := HD.out; have := HB.out; have := HN.out; have := HJ.out; omega), rfl⟩
      · have hT : K1 - 1 = (t1 : Int) := by
          have h1 := HK.out; have h2 := HD.out; have h3 := HN.out; have h4 := HJ.out
          have := kd_break (k - 1) ya yb z1 (j + ya) U ya0.out (by omega) HE2.out (by rw [← HY.out, X1.out]; omega) (by omega) (by omega)
          rw [← HY.out, X1.out] at this
          omega
        obtain ⟨A1, wT, hA1⟩ : ∃ A : Int, IntKind.u64.wrap (K1 - 1) = A ∧ Hid (A = (t1 : Int)) := ⟨(t1 : Int), by rw [hT, IntKind.wrap_u64]; omega, Lib.hid rfl⟩
        clear hT
        have f12 : IntKind.u64.wrap (IntKind.u64.wrap (IntKind.u64.wrap ((U : Int) * 4294967296) + (z1 : Int)) - IntKind.u64.wrap (A1 * (Y : Int))) = (R : Int) := by rw [hA1.out]; exact E12.out
        go_wp2
        go_loopg [16, 18] q2 (fun m y x wq => ∃ (k j : Nat) (K J : Int), m = k ∧ x = .int .u64 K ∧ y = .int .u64 J ∧ Hid (K = k) ∧ Hid (J = j) ∧ Hid (k * ya + j = R) ∧ Hid (t2 ≤ k ∧ k < 18446744073709551616 ∧ j < 4294967296) ∧ wq = wr)
        case atStart => exact ⟨q2, r2, _, _, rfl, rfl, rfl, rfl, rfl, Lib.hid (by have := X4.out; rw [Nat.mul_comm] at this; omega), Lib.hid ⟨b0, by omega, by omega⟩, rfl⟩
        case round =>
          obtain ⟨k, j, K2, J, hm, rfl, rfl, HK, HJ, HE, HB, rfl⟩ := hrel
          have kI : 0 ≤ K2 ∧ K2 < 18446744073709551616 ∧ 0 ≤ J ∧ J < 4294967296 := by
            have h1 := HK.out; have h2 := HJ.out; have h3 := HB.out
            omega
          obtain ⟨k0, k1, j0, j1⟩ := kI
          by_cases c1 : K2 < 4294967296
          · obtain ⟨P, wP, HP, hP0, hP1⟩ : ∃ P : Int, IntKind.u64.wrap (K2 * (yb : Int)) = P ∧ Hid (P = ((k * yb : Nat) : Int)) ∧ 0 ≤ P ∧ P < 18446744073709551616 := by
              have h1 := HK.out
              have hP : k * yb ≤ 4294967295 * 4294967295 := Nat.mul_le_mul (by omega) (by omega)
              refine ⟨((k * yb : Nat) : Int), ?_, Lib.hid rfl, by omega, by omega⟩
              rw [h1, ← Int.natCast_mul, IntKind.wrap_u64]
              omega
            obtain ⟨G, wG, HG, hG0, hG1⟩ : ∃ G : Int, IntKind.u64.wrap (4294967296 * J + (z0 : Int)) = G ∧ Hid (G = 4294967296 * J + (z0 : Int)) ∧ 0 ≤ G ∧ G < 18446744073709551616 := by
              refine ⟨4294967296 * J + (z0 : Int), ?_, Lib.hid rfl, by omega, by omega⟩
              rw [IntKind.wrap_u64]
              omega
            obtain ⟨N, wN, HN, hN0, hN1⟩ : ∃ N : Int, IntKind.u64.wrap (J + (ya : Int)) = N ∧ Hid (N = J + (ya : Int)) ∧ 0 ≤ N ∧ N < 18446744073709551616 := by
              refine ⟨J + (ya : Int), ?_, Lib.hid rfl, by omega, by omega⟩
              rw [IntKind.wrap_u64]
              omega
            by_cases c2 : G < P
            · obtain ⟨k2, HD⟩ : 1 ≤ K2 ∧ Hid (t2 + 1 ≤ k) := by
                have h1 := HJ.out; have h2 := HP.out; have h3 := HB.out; have h4 := HG.out; have h5 := HK.out
                have := kd_dec k ya yb z0 j R ya0.out HE.out (by rw [← HY.out, X2.out]; exact h3.1) (by omega)
                rw [← HY.out, X2.out] at this
                exact ⟨by omega, Lib.hid (by omega)⟩
              have HE2 : Hid ((k - 1) * ya + (j + ya) = R) := by
                have h1 := HD.out; have h2 := HE.out
                obtain ⟨k', rfl⟩ : ∃ k', k = k' + 1 := ⟨k - 1, by omega⟩
                rw [Nat.add_mul, Nat.one_mul] at h2
                exact Lib.hid (by rw [Nat.add_sub_cancel]; omega)
              by_cases c3 : N < 4294967296
              · go_wp2
                go_roundg (k - 1)
                case measure => have := HD.out; omega
                case rel => exact ⟨k - 1, j + ya, K2 - 1, N, rfl, by go_num, rfl, Lib.hid (by have := HK.out; have := HD.out; omega), Lib.hid (by have := HN.out; have := HJ.out; omega), HE2, Lib.hid (by have := HD.out; have := HB.out; have := HN.out; have := HJ.out; omega), rfl⟩
              · have hT : K2 - 1 = (t2 : Int) := by
                  have h1 := HK.out; have h2 := HD.out; have h3 := HN.out; have h4 := HJ.out
                  have := kd_break (k - 1) ya yb z0 (j + ya) R ya0.out (by omega) HE2.out (by rw [← HY.out, X2.out]; omega) (by have := HY.out; omega) (by omega)
                  rw [← HY.out, X2.out] at this
                  omega
                obtain ⟨A2, wT, hA2⟩ : ∃ A : Int, IntKind.u64.wrap (K2 - 1) = A ∧ Hid (A = (t2 : Int)) := ⟨(t2 : Int), by rw [hT, IntKind.wrap_u64]; omega, Lib.hid rfl⟩
                clear hT
                have f15 : IntKind.u64.wrap (IntKind.u64.wrap (IntKind.u64.wrap ((R : Int) * 4294967296) + (z0 : Int)) - IntKind.u64.wrap (A2 * (Y : Int))) = (R2 : Int) := by rw [hA2.out]; exact E15.out
                have f17 : IntKind.u64.wrap (IntKind.u64.wrap (A1 * 4294967296) + A2) = (M1 : Int) := by rw [hA1.out, hA2.out]; exact E17.out.1
                have f18 : IntKind.u64.wrap (A1 * 4294967296 + A2) = (M1 : Int) := by rw [hA1.out, hA2.out]; exact E17.out.2.1
                have f20 : IntKind.u64.wrap (M1 : Int) = (M1 : Int) := by rw [← E17.out.2.2]; exact E17.out.2.1.trans E17.out.2.2.symm
                have f19 : A1 * 4294967296 + A2 = (M1 : Int) := by rw [hA1.out, hA2.out]; exact E17.out.2.2
                go_wp2
                go_ret2
                exact ⟨rfl, Below.refl _ _⟩
            · have hA2 : Hid (K2 = (t2 : Int)) := by
                refine Lib.hid ?_
                have h1 := HJ.out; have h2 := HP.out; have h3 := HB.out; have h4 := HG.out; have h5 := HK.out
                have := kd_exit k ya yb z0 j R ya0.out HE.out (by rw [← HY.out, X2.out]; exact h3.1) (by omega)
                rw [← HY.out, X2.out] at this
                omega
              have f15 : IntKind.u64.wrap (IntKind.u64.wrap (IntKind.u64.wrap ((R : Int) * 4294967296) + (z0 : Int)) - IntKind.u64.wrap (K2 * (Y : Int))) = (R2 : Int) := by rw [hA2.out]; exact E15.out
              have f17 : IntKind.u64.wrap (IntKind.u64.wrap (A1 * 4294967296) + K2) = (M1 : Int) := by rw [hA1.out, hA2.out]; exact E17.out.1
              have f18 : IntKind.u64.wrap (A1 * 4294967296 + K2) = (M1 : Int) := by rw [hA1.out, hA2.out]; exact E17.out.2.1
              have f20 : IntKind.u64.wrap (M1 : Int) = (M1 : Int) := by rw [← E17.out.2.2]; exact E17.out.2.1.trans E17.out.2.2.symm
              have f19 : A1 * 4294967296 + K2 = (M1 : Int) := by rw [hA1.out, hA2.out]; exact E17.out.2.2
              go_wp2
              go_ret2
              exact ⟨rfl, Below.refl _ _⟩
          · obtain ⟨k2, HD⟩ : 1 ≤ K2 ∧ Hid (t2 + 1 ≤ k) := by
              have h5 := HK.out
              exact ⟨by omega, Lib.hid (by omega)⟩
            obtain ⟨N, wN, HN, hN0, hN1⟩ : ∃ N : Int, IntKind.u64.wrap (J + (ya : Int)) = N ∧ Hid (N = J + (ya : Int)) ∧ 0 ≤ N ∧ N < 18446744073709551616 := by
              refine ⟨J + (ya : Int), ?_, Lib.hid rfl, by omega, by omega⟩
              rw [IntKind.wrap_u64]
              omega
            have HE2 : Hid ((k - 1) * ya + (j + ya) = R) := by
              have h1 := HD.out; have h2 := HE.out
              obtain ⟨k', rfl⟩ : ∃ k', k = k' + 1 := ⟨k - 1, by omega⟩
              rw [Nat.add_mul, Nat.one_mul] at h2
              exact Lib.hid (by rw [Nat.add_sub_cancel]; omega)
            by_cases c3 : N < 4294967296
            · go_wp2
              go_roundg (k - 1)
              case measure => have := HD.out; omega
              case rel => exact ⟨k - 1, j + ya, K2 - 1, N, rfl, by go_num, rfl, Lib.hid (by have := HK.out; have := HD.out; omega), Lib.hid (by have := HN.out; have := HJ.out; omega), HE2, Lib.hid (by have := HD.out; have := HB.out; have := HN.out; have := HJ.out; omega), rfl⟩
            · have hT : K2 - 1 = (t2 : Int) := by
                have h1 := HK.out; have h2 := HD.out; have h3 := HN.out; have h4 := HJ.out
                have := kd_break (k - 1) ya yb z0 (j + ya) R ya0.out (by omega) HE2.out (by rw [← HY.out, X2.out]; omega) (by have := HY.out; omega) (by omega)
                rw [← HY.out, X2.out] at this
                omega
              obtain ⟨A2, wT, hA2⟩ : ∃ A : Int, IntKind.u64.wrap (K2 - 1) = A ∧ Hid (A = (t2 : Int)) := ⟨(t2 : Int), by rw [hT, IntKind.wrap_u64]; omega, Lib.hid rfl⟩
              clear hT
              have f15 : IntKind.u64.wrap (IntKind.u64.wrap (IntKind.u64.wrap ((R : Int) * 4294967296) + (z0 : Int)) - IntKind.u64.wrap (A2 * (Y : Int))) = (R2 : Int) := by rw [hA2.out]; exact E15.out
              have f17 : IntKind.u64.wrap (IntKind.u64.wrap (A1 * 4294967296) + A2) = (M1 : Int) := by rw [hA1.out, hA2.out]; exact E17.out.1
              have f18 : IntKind.u64.wrap (A1 * 4294967296 + A2) = (M1 : Int) := by rw [hA1.out, hA2.out]; exact E17.out.2.1
              have f20 : IntKind.u64.wrap (M1 : Int) = (M1 : Int) := by rw [← E17.out.2.2]; exact E17.out.2.1.trans E17.out.2.2.symm
              have f19 : A1 * 4294967296 + A2 = (M1 : Int) := by rw [hA1.out, hA2.out]; exact E17.out.2.2
              go_wp2
              go_ret2
              exact ⟨rfl, Below.refl _ _⟩
end Go.Proofs.YtnlclmlnpkncoaaGreat
