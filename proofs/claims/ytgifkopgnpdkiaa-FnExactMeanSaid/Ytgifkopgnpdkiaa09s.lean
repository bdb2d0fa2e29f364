/- Contract of the model's ScaleExact. -/
import Derived.Test.Ytgifkopgnpdkiaa09r
import Derived.Test.Ytgifkopgnpdkiaa09m
namespace Go.Proofs.Ytgifkopgnpdkiaa
open Go.ChangeShapes Go.WideShapes Go.ChangeAt Go.RowKit
set_option linter.unusedVariables false
set_option linter.unusedSimpArgs false

set_option maxRecDepth 8000 in
set_option maxHeartbeats 1000000 in
theorem specScaleExact_any (p c h s xn xd k : Int) (hxd : -9223372036854775808 ≤ xd ∧ xd ≤ 9223372036854775807) (w : World) :
    Calls Try.prog 22 #[.agg #[.int .i64 p, .int .i64 c, .int .i64 h, .int .i64 s], .agg #[.int .i64 xn, .int .i64 xd], .int .i64 k] w fun e w' => e = .returned (xoV (slcV p c h s xn xd k)) ∧ Below w.heap.size w w' := by
  have hcd := fun W => l09Code_any p c h s xn xd xn xd hxd hxd W
  rw [sfC_same] at hcd
  have hin := fun W => l01In_any k (-1000) 1000 W
  by_cases h0 : sfC p c h s [(xn, xd)] = 0
  · obtain ⟨g, hall⟩ := sfC_zero h0
    obtain ⟨S, rfl, hS⟩ := vB_side g
    have q1 := hall (xn, xd) (by simp)
    rw [Int.toNat_natCast] at q1
    obtain ⟨q11, q12, q13, q14⟩ := xvB_parts q1
    dsimp only at q11 q12 q13 q14
    have ev : slcV p c h (S : Int) xn xd k = if inB k (-1000) 1000 = true then xo3 (rdX S (xn * k) xd.toNat) 3 else (0, 0, 2) := by unfold slcV; rw [if_pos h0, Int.toNat_natCast]
    rw [ev]
    rw [h0] at hcd
    have HCD := Lib.hid hcd
    obtain ⟨BV, BX, BO, hb, hz⟩ := three_new w #[.int .i64 p, .int .i64 c, .int .i64 h, .int .i64 (S : Int)] #[.int .i64 xn, .int .i64 xd] #[.int .i64 0, .int .i64 0] 27 29 29
    cases hk : inB k (-1000) 1000 with
    | false =>
      rw [if_neg (by simp)]
      rw [hk] at hin
      have HI := Lib.hid hin
      clear hcd hin ev h0 g hall q1 hk
      obtain ⟨x0, x1, x2, x3, xf, xl⟩ := BV.four
      obtain ⟨a0, a1, af, al⟩ := BX.two
      obtain ⟨z0, z1, zf, zl⟩ := BO.two
      go_enter Try.func22, Try.ntmps22
      go_wp2_with (first | (go_at_call 47; refine (HCD.out _).mono ?_; clear HCD; rintro e w1 ⟨rfl, hb1⟩; replace BV := BV.below hb1; replace BX := BX.below hb1; replace BO := BO.below hb1; replace hb := chain hb hb1; clear hb1; obtain ⟨x0, x1, x2, x3, xf, xl⟩ := BV.four; obtain ⟨a0, a1, af, al⟩ := BX.two; obtain ⟨z0, z1, zf, zl⟩ := BO.two) | (go_at_call 41; refine (HI.out _).mono ?_; clear HI; rintro e w3 ⟨rfl, rfl⟩))
      have BRn := BO.set2 (.int .i64 0) (.int .i64 0)
      obtain ⟨u0, u1, uf, ul⟩ := BRn.two
      refine bodyPost_ret (v := .tuple #[.agg #[.int .i64 0, .int .i64 0], .int .i64 2]) (by simp [results, Try.results22, go_sem, u0, u1]) rfl ?_
      exact ⟨rfl, belowFar2 hb (by omega) _ _⟩
    | true =>
      rw [if_pos rfl]
      rw [hk] at hin
      have HI := Lib.hid hin
      have hk2 : -1000 ≤ k ∧ k ≤ 1000 := by unfold inB at hk; simpa using hk
      have hA := fun W => l09Mul_any p c h S hS xn xd k ⟨q13, q14⟩ ⟨q11, q12⟩ hk2 W
      cases ho : rdX S (xn * k) xd.toNat with
      | none =>
        rw [ho] at hA
        dsimp only [xoN, xoD, Option.isSome] at hA
        dsimp only [xo3, xoV]
        obtain ⟨r1, hr1⟩ : ∃ r : Int, (0 : Int) = r := ⟨_, rfl⟩
        obtain ⟨r2, hr2⟩ : ∃ r : Int, (0 : Int) = r := ⟨_, rfl⟩
        have hA2 : ∀ W : World, Calls Try.prog 50 #[.agg #[.int .i64 p, .int .i64 c, .int .i64 h, .int .i64 (S : Int)], .agg #[.int .i64 xn, .int .i64 xd], .int .i64 k] W fun e w' => e = .returned (.tuple #[.agg #[.int .i64 r1, .int .i64 r2], .bool false]) ∧ Below W.heap.size W w' := fun W => by rw [← hr1, ← hr2]; exact hA W
        have HA := Lib.hid hA2
        clear hA hA2 hcd hin ev h0 ho g hall q1 hr1 hr2 hk hk2
        obtain ⟨x0, x1, x2, x3, xf, xl⟩ := BV.four
        obtain ⟨a0, a1, af, al⟩ := BX.two
        obtain ⟨z0, z1, zf, zl⟩ := BO.two
        go_enter Try.func22, Try.ntmps22
        go_wp2_with (first | (go_at_call 47; refine (HCD.out _).mono ?_; clear HCD; rintro e w1 ⟨rfl, hb1⟩; replace BV := BV.below hb1; replace BX := BX.below hb1; replace BO := BO.below hb1; replace hb := chain hb hb1; clear hb1; obtain ⟨x0, x1, x2, x3, xf, xl⟩ := BV.four; obtain ⟨a0, a1, af, al⟩ := BX.two; obtain ⟨z0, z1, zf, zl⟩ := BO.two) | (go_at_call 41; refine (HI.out _).mono ?_; clear HI; rintro e w3 ⟨rfl, rfl⟩) | (go_at_call 50; refine (HA.out _).mono ?_; clear HA; rintro e w2 ⟨rfl, hb2⟩; replace BO := (BO.below hb2).alloc (.cells #[.int .i64 r1, .int .i64 r2] 29); replace hb := chain_alloc (chain hb hb2) (.cells #[.int .i64 r1, .int .i64 r2] 29); obtain ⟨z0, z1, zf, zl⟩ := BO.two))
        have BRn := BO.set2 (.int .i64 0) (.int .i64 0)
        obtain ⟨u0, u1, uf, ul⟩ := BRn.two
        refine bodyPost_ret (v := .tuple #[.agg #[.int .i64 0, .int .i64 0], .int .i64 3]) (by simp [results, Try.results22, go_sem, u0, u1]) rfl ?_
        exact ⟨rfl, belowFar2 hb (by omega) _ _⟩
      | some r =>
        obtain ⟨r1, r2⟩ := r
        rw [ho] at hA
        dsimp only [xoN, xoD, Option.isSome] at hA
        dsimp only [xo3, xoV]
        have HA := Lib.hid hA
        clear hA hcd hin ev h0 ho g hall q1 hk hk2
        obtain ⟨x0, x1, x2, x3, xf, xl⟩ := BV.four
        obtain ⟨a0, a1, af, al⟩ := BX.two
        obtain ⟨z0, z1, zf, zl⟩ := BO.two
        go_enter Try.func22, Try.ntmps22
        go_wp2_with (first | (go_at_call 47; refine (HCD.out _).mono ?_; clear HCD; rintro e w1 ⟨rfl, hb1⟩; replace BV := BV.below hb1; replace BX := BX.below hb1; replace BO := BO.below hb1; replace hb := chain hb hb1; clear hb1; obtain ⟨x0, x1, x2, x3, xf, xl⟩ := BV.four; obtain ⟨a0, a1, af, al⟩ := BX.two; obtain ⟨z0, z1, zf, zl⟩ := BO.two) | (go_at_call 41; refine (HI.out _).mono ?_; clear HI; rintro e w3 ⟨rfl, rfl⟩) | (go_at_call 50; refine (HA.out _).mono ?_; clear HA; rintro e w2 ⟨rfl, hb2⟩; replace BO := (BO.below hb2).alloc (.cells #[.int .i64 r1, .int .i64 r2] 29); replace hb := chain_alloc (chain hb hb2) (.cells #[.int .i64 r1, .int .i64 r2] 29); obtain ⟨z0, z1, zf, zl⟩ := BO.two))
        have BRn := BO.set2 (.int .i64 r1) (.int .i64 r2)
        obtain ⟨u0, u1, uf, ul⟩ := BRn.two
        refine bodyPost_ret (v := .tuple #[.agg #[.int .i64 r1, .int .i64 r2], .int .i64 0]) (by simp [results, Try.results22, go_sem, u0, u1]) rfl ?_
        exact ⟨rfl, belowFar2 hb (by omega) _ _⟩
  · have ev : slcV p c h s xn xd k = (0, 0, sfC p c h s [(xn, xd)]) := by unfold slcV; rw [if_neg h0]
    rw [ev]
    dsimp only [xoV]
    obtain ⟨r, hr⟩ : ∃ r, sfC p c h s [(xn, xd)] = r := ⟨_, rfl⟩
    rw [hr] at hcd h0 ⊢
    have f0 : (r == 0) = false := by rw [beq_eq_false_iff_ne]; exact h0
    have HCD := Lib.hid hcd
    clear hcd hin ev h0 hr
    obtain ⟨BV, BX, BO, hb, hz⟩ := three_new w #[.int .i64 p, .int .i64 c, .int .i64 h, .int .i64 s] #[.int .i64 xn, .int .i64 xd] #[.int .i64 0, .int .i64 0] 27 29 29
    obtain ⟨x0, x1, x2, x3, xf, xl⟩ := BV.four
    obtain ⟨a0, a1, af, al⟩ := BX.two
    obtain ⟨z0, z1, zf, zl⟩ := BO.two
    go_enter Try.func22, Try.ntmps22
    go_wp2_with (go_at_call 47; refine (HCD.out _).mono ?_; clear HCD; rintro e w1 ⟨rfl, hb1⟩; replace BV := BV.below hb1; replace BX := BX.below hb1; replace BO := BO.below hb1; replace hb := chain hb hb1; clear hb1; obtain ⟨x0, x1, x2, x3, xf, xl⟩ := BV.four; obtain ⟨a0, a1, af, al⟩ := BX.two; obtain ⟨z0, z1, zf, zl⟩ := BO.two)
    have BRn := BO.set2 (.int .i64 0) (.int .i64 0)
    obtain ⟨u0, u1, uf, ul⟩ := BRn.two
    refine bodyPost_ret (v := .tuple #[.agg #[.int .i64 0, .int .i64 0], .int .i64 r]) (by simp [results, Try.results22, go_sem, u0, u1]) rfl ?_
    exact ⟨rfl, belowFar2 hb (by omega) _ _⟩
end Go.Proofs.Ytgifkopgnpdkiaa
