/- Contracts of MillionthsOf, of the program and of its model. -/
import Derived.Test.YtenbihglmblalaaDoor09u
import Derived.Test.YtenbihglmblalaaDoor09q
import Derived.Deep.LoopGhost
namespace Go.Proofs.YtenbihglmblalaaDoor
open Go.ChangeShapes Go.WideShapes Go.ChangeAt Go.RowKit
set_option linter.unusedVariables false
set_option linter.unusedSimpArgs false
set_option maxRecDepth 4000

/-- What MillionthsOf says. -/
def moV (p c h s xn xd : Int) : Int × Int := if sfC p c h s [(xn, xd)] = 0 then mlV s.toNat xn xd else (0, sfC p c h s [(xn, xd)])
abbrev moE (r : Int × Int) : Value := .tuple #[.int .i64 r.1, .int .i64 r.2]
set_option maxRecDepth 8000 in
set_option maxHeartbeats 1000000 in
theorem implMillionthsOf_any (p c h s xn xd : Int) (hxd : -9223372036854775808 ≤ xd ∧ xd ≤ 9223372036854775807) (w : World) :
    Calls Tryd.prog 11 #[.agg #[.int .i64 p, .int .i64 c, .int .i64 h, .int .i64 s], .agg #[.int .i64 xn, .int .i64 xd]] w fun e w' => e = .returned (moE (moV p c h s xn xd)) ∧ Below w.heap.size w w' := by
  have hsf : ∀ (g : Nat) (W : World), Blk W g #[.int .i64 xn, .int .i64 xd] 27 → Calls Tryd.prog 15 #[.agg #[.int .i64 p, .int .i64 c, .int .i64 h, .int .i64 s], .slice (some ⟨g, 0, none⟩) 1 1] W (ScGot s (sfC p c h s [(xn, xd)]) W) := fun g W B => scalesFor_any p c h s (some ⟨g, 0, none⟩) [(xn, xd)] 1 W (by simp) (OX.one B) (by simpa using hxd)
  by_cases h0 : sfC p c h s [(xn, xd)] = 0
  · obtain ⟨g, hall⟩ := sfC_zero h0
    obtain ⟨S, rfl, hS⟩ := vB_side g
    have q1 := hall (xn, xd) (by simp)
    rw [Int.toNat_natCast] at q1
    obtain ⟨q11, q12, q13, q14⟩ := xvB_parts q1
    dsimp only at q11 q12 q13 q14
    have ev : moV p c h (S : Int) xn xd = mlV S xn xd := by unfold moV; rw [if_pos h0, Int.toNat_natCast]
    rw [ev]
    rw [h0] at hsf
    have HSF := Lib.hid hsf
    obtain ⟨⟨r1, r2⟩, hv⟩ : ∃ r, mlV S xn xd = r := ⟨_, rfl⟩
    have hmi := fun b W (H : ScM W b S (nn S)) => millionths_any b S hS xn xd ⟨q13, q14⟩ ⟨q11, q12⟩ W H
    rw [hv] at hmi ⊢
    dsimp only [moE]
    have HMI := Lib.hid hmi
    clear hsf ev h0 g hall q1 hv hmi hS
    obtain ⟨BV, BX, hb, hz⟩ := two_new w #[.int .i64 p, .int .i64 c, .int .i64 h, .int .i64 (S : Int)] #[.int .i64 xn, .int .i64 xd] 25 27
    obtain ⟨x0, x1, x2, x3, xf, xl⟩ := BV.four
    obtain ⟨a0, a1, af, al⟩ := BX.two
    go_enter Tryd.func11, Tryd.ntmps11
    go_wp2_with fail
    clear x0 x1 x2 x3 xf xl a0 a1 af al
    generalize ((w.alloc (.cells #[.int .i64 p, .int .i64 c, .int .i64 h, .int .i64 (S : Int)] 25)).alloc (.cells #[.int .i64 xn, .int .i64 xd] 27)) = v0 at *
    have BL := Blk.new v0 #[.int .i64 xn, .int .i64 xd] 27
    rw [hz] at BL
    replace BV := BV.alloc (.cells #[.int .i64 xn, .int .i64 xd] 27)
    replace BX := BX.alloc (.cells #[.int .i64 xn, .int .i64 xd] 27)
    replace hb := chain_alloc hb (.cells #[.int .i64 xn, .int .i64 xd] 27)
    refine (HSF.out _ _ BL).mono ?_
    rintro e w1 ⟨mv, rfl, hm, -, hb1⟩
    obtain ⟨b, rfl, HS⟩ := hm rfl
    rw [Int.toNat_natCast] at HS
    replace BV := BV.below hb1
    replace BX := BX.below hb1
    replace hb := chain hb hb1
    clear hb1 hm HSF
    obtain ⟨x0, x1, x2, x3, xf, xl⟩ := BV.four
    obtain ⟨a0, a1, af, al⟩ := BX.two
    go_wp2_with (go_at_call 24; refine (HMI.out _ _ HS).mono ?_; rintro e w2 ⟨rfl, hb2⟩)
    go_ret2
    exact ⟨rfl, chain hb hb2⟩
  · have ev : moV p c h s xn xd = (0, sfC p c h s [(xn, xd)]) := by unfold moV; rw [if_neg h0]
    rw [ev]
    dsimp only [moE]
    obtain ⟨r, hr⟩ : ∃ r, sfC p c h s [(xn, xd)] = r := ⟨_, rfl⟩
    rw [hr] at hsf h0 ⊢
    have f0 : (r == 0) = false := by rw [beq_eq_false_iff_ne]; exact h0
    have HSF := Lib.hid hsf
    have HR0 := Lib.hid h0
    clear hsf ev hr h0
    obtain ⟨BV, BX, hb, hz⟩ := two_new w #[.int .i64 p, .int .i64 c, .int .i64 h, .int .i64 s] #[.int .i64 xn, .int .i64 xd] 25 27
    obtain ⟨x0, x1, x2, x3, xf, xl⟩ := BV.four
    obtain ⟨a0, a1, af, al⟩ := BX.two
    go_enter Tryd.func11, Tryd.ntmps11
    go_wp2_with fail
    clear x0 x1 x2 x3 xf xl a0 a1 af al
    generalize ((w.alloc (.cells #[.int .i64 p, .int .i64 c, .int .i64 h, .int .i64 s] 25)).alloc (.cells #[.int .i64 xn, .int .i64 xd] 27)) = v0 at *
    have BL := Blk.new v0 #[.int .i64 xn, .int .i64 xd] 27
    rw [hz] at BL
    replace BV := BV.alloc (.cells #[.int .i64 xn, .int .i64 xd] 27)
    replace BX := BX.alloc (.cells #[.int .i64 xn, .int .i64 xd] 27)
    replace hb := chain_alloc hb (.cells #[.int .i64 xn, .int .i64 xd] 27)
    refine (HSF.out _ _ BL).mono ?_
    rintro e w1 ⟨mv, rfl, -, hm, hb1⟩
    have hm2 := hm HR0.out
    subst hm2
    replace hb := chain hb hb1
    clear hb1 hm HSF HR0
    go_wp2_with fail
    go_ret2
    exact ⟨rfl, hb⟩
theorem digit_step (x C : Int) (k : Nat) (hC : 0 < C) : x * 10 ^ (k + 1) / C = 10 * (x * 10 ^ k / C) + 10 * (x * 10 ^ k % C) / C ∧ x * 10 ^ (k + 1) % C = 10 * (x * 10 ^ k % C) % C := by
  obtain ⟨y, hy⟩ : ∃ y, x * 10 ^ k = y := ⟨_, rfl⟩
  have e : x * 10 ^ (k + 1) = 10 * (y % C) + C * (10 * (y / C)) := by
    rw [Int.pow_succ, ← Int.mul_assoc, hy]
    have h1 := Int.mul_ediv_add_emod y C
    conv => lhs; rw [← h1, Int.add_mul]
    rw [Int.add_comm]
    congr 1
    · exact Int.mul_comm _ _
    · simp only [Int.mul_assoc, Int.mul_comm, Int.mul_left_comm]
  rw [hy, e, Int.add_mul_ediv_left _ _ (by omega), Int.add_mul_emod_self_left]
  exact ⟨by omega, rfl⟩
theorem digit_bound (x C : Int) (hC : 0 < C) (h0 : -(1000 * C) ≤ x) (h1 : x ≤ 1000 * C) : ∀ k : Nat, k ≤ 6 → -1000000000 ≤ x * 10 ^ k / C ∧ x * 10 ^ k / C ≤ 1000000000 := by
  intro k hk
  have hp : (1 : Int) ≤ 10 ^ k ∧ (10 : Int) ^ k ≤ 1000000 := by
    have : k = 0 ∨ k = 1 ∨ k = 2 ∨ k = 3 ∨ k = 4 ∨ k = 5 ∨ k = 6 := by omega
    rcases this with rfl | rfl | rfl | rfl | rfl | rfl | rfl <;> decide
  obtain ⟨P, hP⟩ : ∃ P : Int, (10 : Int) ^ k = P := ⟨_, rfl⟩
  rw [hP] at hp ⊢
  have m1 : 1000 * C * P ≤ 1000000000 * C := by
    have := Int.mul_le_mul_of_nonneg_left hp.2 (show 0 ≤ 1000 * C by omega)
    omega
  have a1 : x * P ≤ 1000 * C * P := Int.mul_le_mul_of_nonneg_right h1 (by omega)
  have a2 : -(1000 * C) * P ≤ x * P := Int.mul_le_mul_of_nonneg_right h0 (by omega)
  rw [Int.neg_mul] at a2
  exact ⟨Int.le_ediv_of_mul_le hC (by omega), Int.ediv_le_of_le_mul hC (by omega)⟩
set_option maxRecDepth 8000 in
set_option maxHeartbeats 1000000 in
theorem specMillionthsOf_any (p c h s xn xd : Int) (hxd : -9223372036854775808 ≤ xd ∧ xd ≤ 9223372036854775807) (w : World) :
    Calls Tryd.prog 12 #[.agg #[.int .i64 p, .int .i64 c, .int .i64 h, .int .i64 s], .agg #[.int .i64 xn, .int .i64 xd]] w fun e w' => e = .returned (moE (moV p c h s xn xd)) ∧ Below w.heap.size w w' := by
  have hcd := fun W => l09Code_any p c h s xn xd xn xd hxd hxd W
  rw [sfC_same] at hcd
  by_cases h0 : sfC p c h s [(xn, xd)] = 0
  · obtain ⟨g, hall⟩ := sfC_zero h0
    obtain ⟨S, rfl, hS⟩ := vB_side g
    have q1 := hall (xn, xd) (by simp)
    rw [Int.toNat_natCast] at q1
    obtain ⟨q11, q12, q13, q14⟩ := xvB_parts q1
    dsimp only at q11 q12 q13 q14
    have ev : moV p c h (S : Int) xn xd = mlV S xn xd := by unfold moV; rw [if_pos h0, Int.toNat_natCast]
    rw [ev]
    unfold mlV
    rw [h0] at hcd
    have HCD := Lib.hid hcd
    have hle := scN_in hS (show xd.toNat < nn S by omega)
    have hpos := scN_pos hS.1 xd.toNat
    have hsc := fun W => l09Scale_any p c h S hS xd (by omega) W
    have hsb : slB S xd = true := by unfold slB; rw [decide_eq_true (.inr (by omega))]
    rw [hsb, slV_is (k := xd.toNat) hsb (.inl rfl)] at hsc
    obtain ⟨C, hC⟩ : ∃ C : Int, ((scN S xd.toNat : Nat) : Int) = C := ⟨_, rfl⟩
    rw [hC] at hsc ⊢
    obtain ⟨C1, C2⟩ : 1 ≤ C ∧ C ≤ 1000000000000000 := by omega
    have HSC := Lib.hid hsc
    have hin := fun W => l01In_any xn (-1000 * C) (1000 * C) W
    have hcc : inB xn (-1000 * C) (1000 * C) = decide (-(1000 * C) ≤ xn ∧ xn ≤ 1000 * C) := by
      unfold inB
      rw [Bool.eq_iff_iff]
      simp only [decide_eq_true_eq]
      omega
    rw [hcc] at hin
    obtain ⟨BV, BX, hb, hz⟩ := two_new w #[.int .i64 p, .int .i64 c, .int .i64 h, .int .i64 (S : Int)] #[.int .i64 xn, .int .i64 xd] 25 27
    obtain ⟨x0, x1, x2, x3, xf, xl⟩ := BV.four
    obtain ⟨a0, a1, af, al⟩ := BX.two
    by_cases cc : -(1000 * C) ≤ xn ∧ xn ≤ 1000 * C
    · rw [if_pos cc]
      obtain ⟨RES, hRES⟩ : ∃ x, xn * 1000000 / C = x := ⟨_, rfl⟩
      rw [hRES]
      dsimp only [moE]
      have HRES := Lib.hid hRES
      clear hRES
      rw [decide_eq_true cc] at hin
      have HI := Lib.hid hin
      have hb10 := digit_bound xn C (by omega) cc.1 cc.2
      have hz10 := hb10 0 (by omega)
      rw [Int.pow_zero, Int.mul_one] at hz10
      have HB10 := Lib.hid hb10
      have hspn := fun h => split_neg (x := xn) (show 0 < C by omega) h
      have hspp := fun h => split_pos (x := xn) (show 0 < C by omega) h
      have b1 : -C < xn.tmod C := Int.lt_tmod_of_pos xn (by omega)
      have b2 : xn.tmod C < C := Int.tmod_lt_of_pos xn (by omega)
      have b3 : (xn.tdiv C).natAbs ≤ xn.natAbs := Int.natAbs_tdiv_le_natAbs xn C
      have b4 := Int.emod_nonneg xn (show C ≠ 0 by omega)
      have b5 := Int.emod_lt_of_pos xn (show 0 < C by omega)
      obtain ⟨W, hW⟩ : ∃ W, xn.tdiv C = W := ⟨_, rfl⟩
      obtain ⟨T, hT⟩ : ∃ T, xn.tmod C = T := ⟨_, rfl⟩
      rw [hT] at b1 b2
      rw [hW] at b3
      simp only [hW, hT] at hspn hspp
      have wW : IntKind.i64.wrap W = W := IntWalk.i64_in _ (by omega)
      have wT : IntKind.i64.wrap T = T := IntWalk.i64_in _ (by omega)
      have wW1 : IntKind.i64.wrap (W - 1) = W - 1 := IntWalk.i64_in _ (by omega)
      have wT1 : IntKind.i64.wrap (T + C) = T + C := IntWalk.i64_in _ (by omega)
      have nC : C ≠ 0 := by omega
      by_cases ct : T < 0
      · obtain ⟨e1, e2⟩ := hspn ct
        rw [e1] at hz10
        rw [e2] at b4 b5
        have E1 := Lib.hid e1.symm
        have E2 := Lib.hid e2.symm
        clear hspn hspp e1 e2 hb10 hcd hsc hin hcc cc ev hall h0 g hC hsb hle hpos q1
        go_enter Tryd.func12, Tryd.ntmps12
        go_wp2_with (first | (go_at_call 25; refine (HCD.out _).mono ?_; clear HCD; rintro e w1 ⟨rfl, hb1⟩; replace BV := BV.below hb1; replace BX := BX.below hb1; replace hb := chain hb hb1; clear hb1; obtain ⟨x0, x1, x2, x3, xf, xl⟩ := BV.four; obtain ⟨a0, a1, af, al⟩ := BX.two) | (go_at_call 26; refine (HSC.out _).mono ?_; clear HSC; rintro e w2 ⟨rfl, hb2⟩; replace BV := BV.below hb2; replace BX := BX.below hb2; replace hb := chain hb hb2; clear hb2; obtain ⟨x0, x1, x2, x3, xf, xl⟩ := BV.four; obtain ⟨a0, a1, af, al⟩ := BX.two) | (go_at_call 27; refine (HI.out _).mono ?_; clear HI; rintro e w3 ⟨rfl, rfl⟩))
        go_loopg [9, 10, 11] 6 (fun n q9 q10 q11 wr => ∃ (k : Nat) (O R : Int), k ≤ 6 ∧ n = 6 - k ∧ q9 = .int .i64 O ∧ q10 = .int .i64 R ∧ q11 = .int .i64 (k : Int) ∧ Hid (O = xn * 10 ^ k / C ∧ R = xn * 10 ^ k % C) ∧ -1000000000 ≤ O ∧ O ≤ 1000000000 ∧ 0 ≤ R ∧ R < C ∧ wr = w2)
        case atStart => exact ⟨0, _, _, by omega, by omega, rfl, rfl, rfl, Lib.hid ⟨by rw [Int.pow_zero, Int.mul_one]; exact E1.out, by rw [Int.pow_zero, Int.mul_one]; exact E2.out⟩, by omega, by omega, by omega, by omega, rfl⟩
        case round =>
          obtain ⟨k, O, R, hk, hm, rfl, rfl, rfl, HOR, O0, O1, R0, R1, rfl⟩ := hrel
          by_cases hlt : k < 6
          · have hb10 := HB10.out (k + 1) (by omega)
            obtain ⟨e1, e2⟩ := digit_step xn C k (by omega)
            rw [← HOR.out.1, ← HOR.out.2] at e1
            rw [← HOR.out.2] at e2
            have r0' := Int.emod_nonneg (10 * R) (show C ≠ 0 by omega)
            have r1' := Int.emod_lt_of_pos (10 * R) (show 0 < C by omega)
            have d0' : 0 ≤ 10 * R / C := Int.ediv_nonneg (by omega) (by omega)
            have d1' : 10 * R / C ≤ 10 := Int.ediv_le_of_le_mul (by omega) (by omega)
            rw [e1] at hb10
            have kI : (k : Int) < 6 := by omega
            obtain ⟨D, hD⟩ : ∃ D, 10 * R / C = D := ⟨_, rfl⟩
            obtain ⟨T, hT⟩ : ∃ T, 10 * R % C = T := ⟨_, rfl⟩
            have hDt : (10 * R).tdiv C = D := by rw [← hD]; exact Int.tdiv_eq_ediv_of_nonneg (by omega)
            have hTt : (10 * R).tmod C = T := by rw [← hT]; exact Int.tmod_eq_emod_of_nonneg (by omega)
            rw [hD] at e1 hb10 d0' d1'
            rw [hT] at e2 r0' r1'
            have wD : IntKind.i64.wrap D = D := IntWalk.i64_in _ (by omega)
            have wO : IntKind.i64.wrap (10 * O + D) = 10 * O + D := IntWalk.i64_in _ (by omega)
            have E1' := Lib.hid e1
            have E2' := Lib.hid e2
            clear e1 e2
            go_wp2
            go_roundg (6 - (k + 1))
            case measure => omega
            case rel => exact ⟨k + 1, 10 * O + D, T, by omega, rfl, rfl, rfl, by go_num, Lib.hid ⟨E1'.out.symm, E2'.out.symm⟩, by omega, by omega, by omega, by omega, rfl⟩
          · obtain rfl : k = 6 := by omega
            obtain rfl : RES = O := by rw [← HRES.out]; exact HOR.out.1.symm
            have k6 : ((6 : Nat) : Int) = 6 := rfl
            rw [k6]
            go_wp2
            go_ret2
            exact ⟨rfl, hb⟩
      · obtain ⟨e1, e2⟩ := hspp ct
        rw [e1] at hz10
        rw [e2] at b4 b5
        have E1 := Lib.hid e1.symm
        have E2 := Lib.hid e2.symm
        clear hspn hspp e1 e2 hb10 hcd hsc hin hcc cc ev hall h0 g hC hsb hle hpos q1
        go_enter Tryd.func12, Tryd.ntmps12
        go_wp2_with (first | (go_at_call 25; refine (HCD.out _).mono ?_; clear HCD; rintro e w1 ⟨rfl, hb1⟩; replace BV := BV.below hb1; replace BX := BX.below hb1; replace hb := chain hb hb1; clear hb1; obtain ⟨x0, x1, x2, x3, xf, xl⟩ := BV.four; obtain ⟨a0, a1, af, al⟩ := BX.two) | (go_at_call 26; refine (HSC.out _).mono ?_; clear HSC; rintro e w2 ⟨rfl, hb2⟩; replace BV := BV.below hb2; replace BX := BX.below hb2; replace hb := chain hb hb2; clear hb2; obtain ⟨x0, x1, x2, x3, xf, xl⟩ := BV.four; obtain ⟨a0, a1, af, al⟩ := BX.two) | (go_at_call 27; refine (HI.out _).mono ?_; clear HI; rintro e w3 ⟨rfl, rfl⟩))
        go_loopg [9, 10, 11] 6 (fun n q9 q10 q11 wr => ∃ (k : Nat) (O R : Int), k ≤ 6 ∧ n = 6 - k ∧ q9 = .int .i64 O ∧ q10 = .int .i64 R ∧ q11 = .int .i64 (k : Int) ∧ Hid (O = xn * 10 ^ k / C ∧ R = xn * 10 ^ k % C) ∧ -1000000000 ≤ O ∧ O ≤ 1000000000 ∧ 0 ≤ R ∧ R < C ∧ wr = w2)
        case atStart => exact ⟨0, _, _, by omega, by omega, rfl, rfl, rfl, Lib.hid ⟨by rw [Int.pow_zero, Int.mul_one]; exact E1.out, by rw [Int.pow_zero, Int.mul_one]; exact E2.out⟩, by omega, by omega, by omega, by omega, rfl⟩
        case round =>
          obtain ⟨k, O, R, hk, hm, rfl, rfl, rfl, HOR, O0, O1, R0, R1, rfl⟩ := hrel
          by_cases hlt : k < 6
          · have hb10 := HB10.out (k + 1) (by omega)
            obtain ⟨e1, e2⟩ := digit_step xn C k (by omega)
            rw [← HOR.out.1, ← HOR.out.2] at e1
            rw [← HOR.out.2] at e2
            have r0' := Int.emod_nonneg (10 * R) (show C ≠ 0 by omega)
            have r1' := Int.emod_lt_of_pos (10 * R) (show 0 < C by omega)
            have d0' : 0 ≤ 10 * R / C := Int.ediv_nonneg (by omega) (by omega)
            have d1' : 10 * R / C ≤ 10 := Int.ediv_le_of_le_mul (by omega) (by omega)
            rw [e1] at hb10
            have kI : (k : Int) < 6 := by omega
            obtain ⟨D, hD⟩ : ∃ D, 10 * R / C = D := ⟨_, rfl⟩
            obtain ⟨T, hT⟩ : ∃ T, 10 * R % C = T := ⟨_, rfl⟩
            have hDt : (10 * R).tdiv C = D := by rw [← hD]; exact Int.tdiv_eq_ediv_of_nonneg (by omega)
            have hTt : (10 * R).tmod C = T := by rw [← hT]; exact Int.tmod_eq_emod_of_nonneg (by omega)
            rw [hD] at e1 hb10 d0' d1'
            rw [hT] at e2 r0' r1'
            have wD : IntKind.i64.wrap D = D := IntWalk.i64_in _ (by omega)
            have wO : IntKind.i64.wrap (10 * O + D) = 10 * O + D := IntWalk.i64_in _ (by omega)
            have E1' := Lib.hid e1
            have E2' := Lib.hid e2
            clear e1 e2
            go_wp2
            go_roundg (6 - (k + 1))
            case measure => omega
            case rel => exact ⟨k + 1, 10 * O + D, T, by omega, rfl, rfl, rfl, by go_num, Lib.hid ⟨E1'.out.symm, E2'.out.symm⟩, by omega, by omega, by omega, by omega, rfl⟩
          · obtain rfl : k = 6 := by omega
            obtain rfl : RES = O := by rw [← HRES.out]; exact HOR.out.1.symm
            have k6 : ((6 : Nat) : Int) = 6 := rfl
            rw [k6]
            go_wp2
            go_ret2
            exact ⟨rfl, hb⟩
    · rw [if_neg cc]
      dsimp only [moE]
      rw [decide_eq_false cc] at hin
      have HI := Lib.hid hin
      clear hcd hsc hin hcc cc ev hall h0 g hC hsb hle hpos q1
      go_enter Tryd.func12, Tryd.ntmps12
      go_wp2_with (first | (go_at_call 25; refine (HCD.out _).mono ?_; clear HCD; rintro e w1 ⟨rfl, hb1⟩; replace BV := BV.below hb1; replace BX := BX.below hb1; replace hb := chain hb hb1; clear hb1; obtain ⟨x0, x1, x2, x3, xf, xl⟩ := BV.four; obtain ⟨a0, a1, af, al⟩ := BX.two) | (go_at_call 26; refine (HSC.out _).mono ?_; clear HSC; rintro e w2 ⟨rfl, hb2⟩; replace BV := BV.below hb2; replace BX := BX.below hb2; replace hb := chain hb hb2; clear hb2; obtain ⟨x0, x1, x2, x3, xf, xl⟩ := BV.four; obtain ⟨a0, a1, af, al⟩ := BX.two) | (go_at_call 27; refine (HI.out _).mono ?_; clear HI; rintro e w3 ⟨rfl, rfl⟩))
      go_ret2
      exact ⟨rfl, hb⟩
  · have ev : moV p c h s xn xd = (0, sfC p c h s [(xn, xd)]) := by unfold moV; rw [if_neg h0]
    rw [ev]
    dsimp only [moE]
    obtain ⟨r, hr⟩ : ∃ r, sfC p c h s [(xn, xd)] = r := ⟨_, rfl⟩
    rw [hr] at hcd h0 ⊢
    have f0 : (r == 0) = false := by rw [beq_eq_false_iff_ne]; exact h0
    have HCD := Lib.hid hcd
    clear hcd ev h0 hr
    obtain ⟨BV, BX, hb, hz⟩ := two_new w #[.int .i64 p, .int .i64 c, .int .i64 h, .int .i64 s] #[.int .i64 xn, .int .i64 xd] 25 27
    obtain ⟨x0, x1, x2, x3, xf, xl⟩ := BV.four
    obtain ⟨a0, a1, af, al⟩ := BX.two
    go_enter Tryd.func12, Tryd.ntmps12
    go_wp2_with (go_at_call 25; refine (HCD.out _).mono ?_; clear HCD; rintro e w1 ⟨rfl, hb1⟩; replace BV := BV.below hb1; replace BX := BX.below hb1; replace hb := chain hb hb1; clear hb1; obtain ⟨x0, x1, x2, x3, xf, xl⟩ := BV.four; obtain ⟨a0, a1, af, al⟩ := BX.two)
    go_ret2
    exact ⟨rfl, hb⟩
end Go.Proofs.YtenbihglmblalaaDoor
