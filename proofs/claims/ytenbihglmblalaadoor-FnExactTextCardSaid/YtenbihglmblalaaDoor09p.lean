/- Contract of the model's MakeExact. -/
import Derived.Test.YtenbihglmblalaaDoor09o
import Derived.Test.YtenbihglmblalaaDoor09m
namespace Go.Proofs.YtenbihglmblalaaDoor
open Go.ChangeShapes Go.WideShapes Go.ChangeAt Go.RowKit
set_option linter.unusedVariables false
set_option linter.unusedSimpArgs false
set_option maxRecDepth 4000

theorem rdX_some {S : Nat} {n : Int} {D : Nat} (hn : -1000000000000000000 ≤ n ∧ n ≤ 1000000000000000000) (hD : D < nn S) : ∃ u v, rdX S n D = some (u, v) := by
  have h := rdN_le (S * S) D n.natAbs
  unfold rdX
  rw [if_pos ⟨by omega, by omega⟩]
  exact ⟨_, _, rfl⟩
set_option maxRecDepth 8000 in
set_option maxHeartbeats 2000000 in
theorem specMakeExact_any (p c h s n d : Int) (hd : -9223372036854775808 ≤ d ∧ d ≤ 9223372036854775807) (w : World) :
    Calls Tryd.prog 47 #[.agg #[.int .i64 p, .int .i64 c, .int .i64 h, .int .i64 s], .int .i64 n, .int .i64 d] w fun e w' => e = .returned (xoV (mkV p c h s n d)) ∧ Below w.heap.size w w' := by
  have hv := fun W => specIsVariant_any p c h s W
  cases g : vB p c h s with
  | false =>
    rw [g] at hv
    have ev : mkV p c h s n d = (0, 0, 1) := by unfold mkV sfC; rw [g]; rfl
    rw [ev]
    obtain ⟨BV, BO, hb, hz⟩ := two_new w #[.int .i64 p, .int .i64 c, .int .i64 h, .int .i64 s] #[.int .i64 0, .int .i64 0] 25 27
    have HV := Lib.hid hv
    clear hv ev g
    obtain ⟨x0, x1, x2, x3, xf, xl⟩ := BV.four
    obtain ⟨z0, z1, zf, zl⟩ := BO.two
    go_enter Tryd.func47, Tryd.ntmps47
    go_wp2_with (go_at_call 17; refine (HV.out _).mono ?_; clear HV; rintro e w1 ⟨rfl, hb1⟩; replace BV := BV.below hb1; replace BO := BO.below hb1; replace hb := chain hb hb1; clear hb1; obtain ⟨x0, x1, x2, x3, xf, xl⟩ := BV.four; obtain ⟨z0, z1, zf, zl⟩ := BO.two)
    have BRn := BO.set2 (.int .i64 0) (.int .i64 0)
    obtain ⟨u0, u1, uf, ul⟩ := BRn.two
    refine bodyPost_ret (v := .tuple #[.agg #[.int .i64 0, .int .i64 0], .int .i64 1]) (by simp [results, Tryd.results47, go_sem, u0, u1]) rfl ?_
    exact ⟨rfl, belowFar2 hb (by omega) _ _⟩
  | true =>
    rw [g] at hv
    obtain ⟨S, rfl, hS⟩ := vB_side g
    have hnn := nn_range hS
    have ev : mkV p c h (S : Int) n d = if (inB n (-1000000000000000000) 1000000000000000000 && decide (0 ≤ d ∧ d < ((nn S : Nat) : Int))) = true then xo3 (rdX S n d.toNat) 3 else (0, 0, 2) := by
      unfold mkV sfC
      rw [g]
      simp only [Int.toNat_natCast, List.all_nil, if_true]
    rw [ev]
    clear ev g
    have hi1 := fun W => l01In_any n (-1000000000000000000) 1000000000000000000 W
    have hi2 := fun W => l01In_any d 0 60 W
    obtain ⟨M, hM⟩ : ∃ M, max 0 (min d 61) = M := ⟨_, rfl⟩
    have hM2 : M ≤ 61 ∧ 0 ≤ M := by omega
    have hsc := fun W => l09Scale_any p c h S hS M (by omega) W
    obtain ⟨BV, BO, hb, hz⟩ := two_new w #[.int .i64 p, .int .i64 c, .int .i64 h, .int .i64 (S : Int)] #[.int .i64 0, .int .i64 0] 25 27
    have HV := Lib.hid hv
    clear hv
    obtain ⟨C, hC⟩ : ∃ C, slV S M = C := ⟨_, rfl⟩
    rw [hC] at hsc
    cases hk : inB n (-1000000000000000000) 1000000000000000000 with
    | false =>
      rw [Bool.false_and, if_neg (by simp)]
      rw [hk] at hi1
      have HSC := Lib.hid hsc
      have HI1 := Lib.hid hi1
      clear hi1 hi2 hsc hk hC
      obtain ⟨x0, x1, x2, x3, xf, xl⟩ := BV.four
      obtain ⟨z0, z1, zf, zl⟩ := BO.two
      go_enter Tryd.func47, Tryd.ntmps47
      go_wp2_with (first | (go_at_call 17; refine (HV.out _).mono ?_; clear HV; rintro e w1 ⟨rfl, hb1⟩; replace BV := BV.below hb1; replace BO := BO.below hb1; replace hb := chain hb hb1; clear hb1; obtain ⟨x0, x1, x2, x3, xf, xl⟩ := BV.four; obtain ⟨z0, z1, zf, zl⟩ := BO.two) | (go_at_call 26; refine (HSC.out _).mono ?_; clear HSC; rintro e w2 ⟨rfl, hb2⟩; replace BV := BV.below hb2; replace BO := BO.below hb2; replace hb := chain hb hb2; clear hb2; obtain ⟨x0, x1, x2, x3, xf, xl⟩ := BV.four; obtain ⟨z0, z1, zf, zl⟩ := BO.two) | (go_at_call 27; (refine (HI1.out _).mono ?_; clear HI1; rintro e w3 ⟨rfl, rfl⟩)))
      have BRn := BO.set2 (.int .i64 0) (.int .i64 0)
      obtain ⟨u0, u1, uf, ul⟩ := BRn.two
      refine bodyPost_ret (v := .tuple #[.agg #[.int .i64 0, .int .i64 0], .int .i64 2]) (by simp [results, Tryd.results47, go_sem, u0, u1]) rfl ?_
      exact ⟨rfl, belowFar2 hb (by omega) _ _⟩
    | true =>
      rw [Bool.true_and]
      rw [hk] at hi1
      have HI1 := Lib.hid hi1
      cases hk2 : inB d 0 60 with
      | false =>
        have hdn : ¬ (0 ≤ d ∧ d < ((nn S : Nat) : Int)) := by unfold inB at hk2; simp only [decide_eq_false_iff_not] at hk2; omega
        rw [decide_eq_false hdn, if_neg (by simp)]
        rw [hk2] at hi2
        have HSC := Lib.hid hsc
        have HI2 := Lib.hid hi2
        clear hi1 hi2 hsc hk hC hk2 hdn
        obtain ⟨x0, x1, x2, x3, xf, xl⟩ := BV.four
        obtain ⟨z0, z1, zf, zl⟩ := BO.two
        go_enter Tryd.func47, Tryd.ntmps47
        go_wp2_with (first | (go_at_call 17; refine (HV.out _).mono ?_; clear HV; rintro e w1 ⟨rfl, hb1⟩; replace BV := BV.below hb1; replace BO := BO.below hb1; replace hb := chain hb hb1; clear hb1; obtain ⟨x0, x1, x2, x3, xf, xl⟩ := BV.four; obtain ⟨z0, z1, zf, zl⟩ := BO.two) | (go_at_call 26; refine (HSC.out _).mono ?_; clear HSC; rintro e w2 ⟨rfl, hb2⟩; replace BV := BV.below hb2; replace BO := BO.below hb2; replace hb := chain hb hb2; clear hb2; obtain ⟨x0, x1, x2, x3, xf, xl⟩ := BV.four; obtain ⟨z0, z1, zf, zl⟩ := BO.two) | (go_at_call 27; first | (refine (HI1.out _).mono ?_; clear HI1; rintro e w3 ⟨rfl, rfl⟩) | (refine (HI2.out _).mono ?_; clear HI2; rintro e w4 ⟨rfl, rfl⟩)))
        have BRn := BO.set2 (.int .i64 0) (.int .i64 0)
        obtain ⟨u0, u1, uf, ul⟩ := BRn.two
        refine bodyPost_ret (v := .tuple #[.agg #[.int .i64 0, .int .i64 0], .int .i64 2]) (by simp [results, Tryd.results47, go_sem, u0, u1]) rfl ?_
        exact ⟨rfl, belowFar2 hb (by omega) _ _⟩
      | true =>
        rw [hk2] at hi2
        have HI2 := Lib.hid hi2
        have hd2 : 0 ≤ d ∧ d ≤ 60 := by unfold inB at hk2; simpa using hk2
        have hn2 : -1000000000000000000 ≤ n ∧ n ≤ 1000000000000000000 := by unfold inB at hk; simpa using hk
        have hMd : M = d := by omega
        have hMH := Lib.hid hMd
        by_cases hD : d < ((nn S : Nat) : Int)
        · rw [decide_eq_true ⟨hd2.1, hD⟩, if_pos rfl]
          have hsb : slB S M = true := by unfold slB; rw [decide_eq_true (.inr (by omega))]
          rw [hsb] at hsc
          have hD3 : d.toNat < nn S := by omega
          have hCe : C = ((scN S d.toNat : Nat) : Int) := by rw [← hC]; exact slV_is hsb (.inl (by omega))
          have hle := scN_in hS hD3
          have hpos := scN_pos hS.1 d.toNat
          obtain ⟨r1, r2, hrd⟩ := rdX_some hn2 hD3
          have hf : ∀ W : World, Calls Tryd.prog 53 #[.agg #[.int .i64 p, .int .i64 c, .int .i64 h, .int .i64 (S : Int)], .int .i64 n, .int .i64 C] W fun e w' => e = .returned (.tuple #[.agg #[.int .i64 r1, .int .i64 r2], .bool true]) ∧ Below W.heap.size W w' := fun W =>
            (l09Fit_any p c h S hS n n C d.toNat hD3 (by omega) (by omega) (by rw [hCe]) W).mono (by
              rintro e w' ⟨u, v, rfl, huv, hb⟩
              rw [hrd] at huv ⊢
              obtain ⟨rfl, rfl⟩ := huv _ rfl
              exact ⟨rfl, hb⟩)
          rw [hrd]
          dsimp only [xo3, xoV]
          have HSC := Lib.hid hsc
          have HF := Lib.hid hf
          clear hi1 hi2 hsc hk hk2 hC hCe hle hpos hrd hf hsb hD3 hMd hMH hD hd2 hn2 hM2
          obtain ⟨x0, x1, x2, x3, xf, xl⟩ := BV.four
          obtain ⟨z0, z1, zf, zl⟩ := BO.two
          go_enter Tryd.func47, Tryd.ntmps47
          go_wp2_with (first | (go_at_call 17; refine (HV.out _).mono ?_; clear HV; rintro e w1 ⟨rfl, hb1⟩; replace BV := BV.below hb1; replace BO := BO.below hb1; replace hb := chain hb hb1; clear hb1; obtain ⟨x0, x1, x2, x3, xf, xl⟩ := BV.four; obtain ⟨z0, z1, zf, zl⟩ := BO.two) | (go_at_call 26; refine (HSC.out _).mono ?_; clear HSC; rintro e w2 ⟨rfl, hb2⟩; replace BV := BV.below hb2; replace BO := BO.below hb2; replace hb := chain hb hb2; clear hb2; obtain ⟨x0, x1, x2, x3, xf, xl⟩ := BV.four; obtain ⟨z0, z1, zf, zl⟩ := BO.two) | (go_at_call 27; first | (refine (HI1.out _).mono ?_; clear HI1; rintro e w3 ⟨rfl, rfl⟩) | (refine (HI2.out _).mono ?_; clear HI2; rintro e w4 ⟨rfl, rfl⟩)) | (go_at_call 53; refine (HF.out _).mono ?_; clear HF; rintro e w5 ⟨rfl, hb5⟩; replace BO := (BO.below hb5).alloc (.cells #[.int .i64 r1, .int .i64 r2] 27); replace hb := chain_alloc (chain hb hb5) (.cells #[.int .i64 r1, .int .i64 r2] 27); obtain ⟨z0, z1, zf, zl⟩ := BO.two))
          have BRn := BO.set2 (.int .i64 r1) (.int .i64 r2)
          obtain ⟨u0, u1, uf, ul⟩ := BRn.two
          refine bodyPost_ret (v := .tuple #[.agg #[.int .i64 r1, .int .i64 r2], .int .i64 0]) (by simp [results, Tryd.results47, go_sem, u0, u1]) rfl ?_
          exact ⟨rfl, belowFar2 hb (by omega) _ _⟩
        · rw [decide_eq_false (fun q => hD q.2), if_neg (by simp)]
          have hsb : slB S M = false := by
            unfold slB
            rw [decide_eq_false]
            intro q
            rcases q with rfl | q
            · exact hD (by rw [show ((nn 1 : Nat) : Int) = 61 from rfl]; omega)
            · omega
          rw [hsb] at hsc
          have HSC := Lib.hid hsc
          clear hi1 hi2 hsc hk hk2 hC hsb hMd hMH hD hd2 hn2 hM2
          obtain ⟨x0, x1, x2, x3, xf, xl⟩ := BV.four
          obtain ⟨z0, z1, zf, zl⟩ := BO.two
          go_enter Tryd.func47, Tryd.ntmps47
          go_wp2_with (first | (go_at_call 17; refine (HV.out _).mono ?_; clear HV; rintro e w1 ⟨rfl, hb1⟩; replace BV := BV.below hb1; replace BO := BO.below hb1; replace hb := chain hb hb1; clear hb1; obtain ⟨x0, x1, x2, x3, xf, xl⟩ := BV.four; obtain ⟨z0, z1, zf, zl⟩ := BO.two) | (go_at_call 26; refine (HSC.out _).mono ?_; clear HSC; rintro e w2 ⟨rfl, hb2⟩; replace BV := BV.below hb2; replace BO := BO.below hb2; replace hb := chain hb hb2; clear hb2; obtain ⟨x0, x1, x2, x3, xf, xl⟩ := BV.four; obtain ⟨z0, z1, zf, zl⟩ := BO.two) | (go_at_call 27; first | (refine (HI1.out _).mono ?_; clear HI1; rintro e w3 ⟨rfl, rfl⟩) | (refine (HI2.out _).mono ?_; clear HI2; rintro e w4 ⟨rfl, rfl⟩)))
          have BRn := BO.set2 (.int .i64 0) (.int .i64 0)
          obtain ⟨u0, u1, uf, ul⟩ := BRn.two
          refine bodyPost_ret (v := .tuple #[.agg #[.int .i64 0, .int .i64 0], .int .i64 2]) (by simp [results, Tryd.results47, go_sem, u0, u1]) rfl ?_
          exact ⟨rfl, belowFar2 hb (by omega) _ _⟩
end Go.Proofs.YtenbihglmblalaaDoor
