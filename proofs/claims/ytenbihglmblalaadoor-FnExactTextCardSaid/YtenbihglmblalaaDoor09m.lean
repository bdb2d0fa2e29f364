/- Contracts of the program's MakeExact, AddExact and ScaleExact. -/
import Derived.Test.YtenbihglmblalaaDoor09k
import Derived.Test.YtenbihglmblalaaDoorOwn4
namespace Go.Proofs.YtenbihglmblalaaDoor
open Go.ChangeShapes Go.WideShapes Go.ChangeAt Go.RowKit
set_option linter.unusedVariables false
set_option linter.unusedSimpArgs false
set_option maxRecDepth 4000

/-- What MakeExact, AddExact and ScaleExact say. -/
def mkV (p c h s n d : Int) : Int × Int × Int :=
  if sfC p c h s [] = 0 then (if (inB n (-1000000000000000000) 1000000000000000000 && decide (0 ≤ d ∧ d < nn s.toNat)) = true then xo3 (rdX s.toNat n d.toNat) 3 else (0, 0, 2)) else (0, 0, sfC p c h s [])
def adV (p c h s xn xd yn yd : Int) : Int × Int × Int :=
  if sfC p c h s [(xn, xd), (yn, yd)] = 0 then xo3 (adX s.toNat xn xd.toNat yn yd.toNat) 3 else (0, 0, sfC p c h s [(xn, xd), (yn, yd)])
def slcV (p c h s xn xd k : Int) : Int × Int × Int :=
  if sfC p c h s [(xn, xd)] = 0 then (if inB k (-1000) 1000 = true then xo3 (rdX s.toNat (xn * k) xd.toNat) 3 else (0, 0, 2)) else (0, 0, sfC p c h s [(xn, xd)])
theorem xvB_parts {S : Nat} {n d : Int} (h : xvB S n d = true) : 0 ≤ d ∧ d < nn S ∧ -1000000000000000000 ≤ n ∧ n ≤ 1000000000000000000 := by
  unfold xvB at h
  simp only [decide_eq_true_eq] at h
  exact ⟨h.1, h.2.1, h.2.2.1, h.2.2.2.1⟩
theorem vB_side {p c h s : Int} (g : vB p c h s = true) : ∃ S : Nat, s = (S : Int) ∧ 1 ≤ S ∧ S ≤ 6 := by
  have := vB_iff.1 g
  exact ⟨s.toNat, by omega, by omega, by omega⟩
set_option maxRecDepth 8000 in
set_option maxHeartbeats 2000000 in
theorem implMakeExact_any (p c h s n d : Int) (hd : -9223372036854775808 ≤ d ∧ d ≤ 9223372036854775807) (w : World) :
    Calls Tryd.prog 10 #[.agg #[.int .i64 p, .int .i64 c, .int .i64 h, .int .i64 s], .int .i64 n, .int .i64 d] w fun e w' => e = .returned (xoV (mkV p c h s n d)) ∧ Below w.heap.size w w' := by
  by_cases h0 : sfC p c h s [] = 0
  · obtain ⟨g, hall⟩ := sfC_zero h0
    obtain ⟨S, rfl, hS⟩ := vB_side g
    have hn := nn_range hS
    have hsf : ∀ (W : World), Calls Tryd.prog 15 #[.agg #[.int .i64 p, .int .i64 c, .int .i64 h, .int .i64 (S : Int)], .slice none 0 0] W (ScGot (S : Int) (sfC p c h (S : Int) []) W) := fun W => scalesFor_any p c h (S : Int) none [] 0 W (by simp) (OX.nil W) (by simp)
    obtain ⟨⟨r1, r2, r3⟩, hv⟩ : ∃ r, (mkV p c h (S : Int) n d) = r := ⟨_, rfl⟩
    rw [hv]
    dsimp only [xoV]
    unfold mkV at hv
    rw [if_pos h0] at hv
    simp only [Int.toNat_natCast] at hv
    rw [h0] at hsf
    have HSF := Lib.hid hsf
    clear hsf h0 g hall
    obtain ⟨BV, BO, hb, hz⟩ := two_new w #[.int .i64 p, .int .i64 c, .int .i64 h, .int .i64 (S : Int)] #[.int .i64 0, .int .i64 0] 25 27
    obtain ⟨x0, x1, x2, x3, xf, xl⟩ := BV.four
    obtain ⟨aBO0, aBO1, aBOf, aBOl⟩ := BO.two
    go_enter Tryd.func10, Tryd.ntmps10
    go_wp2_with fail
    clear x0 x1 x2 x3 xf xl aBO0 aBO1 aBOf aBOl
    generalize ((w.alloc (.cells #[.int .i64 p, .int .i64 c, .int .i64 h, .int .i64 (S : Int)] 25)).alloc (.cells #[.int .i64 0, .int .i64 0] 27)) = v0 at *
    refine (HSF.out _).mono ?_
    rintro e w1 ⟨mv, rfl, hm, -, hb1⟩
    obtain ⟨b, rfl, HS⟩ := hm rfl
    rw [Int.toNat_natCast] at HS
    replace BV := BV.below hb1
    replace BO := BO.below hb1
    replace hb := chain hb hb1
    clear hb1
    clear HSF hm
    have hnu := fun W => isNum_any n W
    have hdp := fun W (H : ScM W b S (nn S)) => hasDepth_any b S W H d hd
    cases hk : inB n (-1000000000000000000) 1000000000000000000 with
    | false =>
      rw [hk, Bool.false_and, if_neg (by simp)] at hv
      rw [hk] at hnu
      simp only [Prod.mk.injEq] at hv
      obtain ⟨rfl, rfl, rfl⟩ := hv
      have HN := Lib.hid hnu
      clear hnu hdp hk
      obtain ⟨x0, x1, x2, x3, xf, xl⟩ := BV.four
      obtain ⟨aBO0, aBO1, aBOf, aBOl⟩ := BO.two
      go_wp2_with (go_at_call 20; refine (HN.out _).mono ?_; clear HN; rintro e w2 ⟨rfl, rfl⟩)
      have BRn := BO.set2 (.int .i64 0) (.int .i64 0)
      obtain ⟨u0, u1, uf, ul⟩ := BRn.two
      refine bodyPost_ret (v := .tuple #[.agg #[.int .i64 0, .int .i64 0], .int .i64 2]) (by simp [results, Tryd.results10, go_sem, u0, u1]) rfl ?_
      exact ⟨rfl, belowFar2 hb (by omega) _ _⟩
    | true =>
      rw [hk, Bool.true_and] at hv
      rw [hk] at hnu
      have HN := Lib.hid hnu
      by_cases hd2 : 0 ≤ d ∧ d < ((nn S : Nat) : Int)
      · rw [decide_eq_true hd2] at hdp hv
        rw [if_pos rfl] at hv
        have HD := Lib.hid hdp
        have hk2 : -1000000000000000000 ≤ n ∧ n ≤ 1000000000000000000 := by unfold inB at hk; simpa using hk
        obtain ⟨D, rfl⟩ := Int.eq_ofNat_of_zero_le hd2.1
        rw [Int.toNat_natCast] at hv
        have hp := fun W => product_any n 1 (by omega) (by omega) W
        have hr := fun W hh ll (H : ScM W b S (nn S)) (HW : WD hh ll (n.natAbs * (1 : Int).natAbs)) => product_reduced b S hS n 1 D (by omega) W hh ll H HW
        rw [Int.mul_one, hv] at hr
        dsimp only [xoV] at hr
        have HP := Lib.hid hp
        have HR := Lib.hid hr
        clear hnu hdp hk hv hd2 hp hr hk2 hd hS
        obtain ⟨x0, x1, x2, x3, xf, xl⟩ := BV.four
        obtain ⟨aBO0, aBO1, aBOf, aBOl⟩ := BO.two
        go_wp2_with (first | (go_at_call 20; refine (HN.out _).mono ?_; clear HN; rintro e w2 ⟨rfl, rfl⟩) | (go_at_call 21; refine (HD.out _ HS).mono ?_; clear HD; rintro e w3 ⟨rfl, rfl⟩) | (go_at_call 23; refine (HP.out _).mono ?_; clear HP; rintro e w4 ⟨hh, ll, rfl, HWD, hb4⟩; replace HS := HS.below hb4; replace BV := BV.below hb4; replace BO := BO.below hb4; replace hb := chain hb hb4; obtain ⟨x0, x1, x2, x3, xf, xl⟩ := BV.four; obtain ⟨aBO0, aBO1, aBOf, aBOl⟩ := BO.two) | (go_at_call 22; refine (HR.out _ _ _ HS HWD).mono ?_; clear HR; rintro e w5 ⟨rfl, hb5⟩; replace BV := BV.below hb5; replace BO := BO.below hb5; replace hb := chain hb hb5; obtain ⟨x0, x1, x2, x3, xf, xl⟩ := BV.four; obtain ⟨aBO0, aBO1, aBOf, aBOl⟩ := BO.two))
        have BRn := BO.set2 (.int .i64 r1) (.int .i64 r2)
        obtain ⟨u0, u1, uf, ul⟩ := BRn.two
        refine bodyPost_ret (v := .tuple #[.agg #[.int .i64 r1, .int .i64 r2], .int .i64 r3]) (by simp [results, Tryd.results10, go_sem, u0, u1]) rfl ?_
        exact ⟨rfl, belowFar2 hb (by omega) _ _⟩
      · rw [decide_eq_false hd2] at hdp hv
        rw [if_neg (by simp)] at hv
        simp only [Prod.mk.injEq] at hv
        obtain ⟨rfl, rfl, rfl⟩ := hv
        have HD := Lib.hid hdp
        clear hnu hdp hk hd2
        obtain ⟨x0, x1, x2, x3, xf, xl⟩ := BV.four
        obtain ⟨aBO0, aBO1, aBOf, aBOl⟩ := BO.two
        go_wp2_with (first | (go_at_call 20; refine (HN.out _).mono ?_; clear HN; rintro e w2 ⟨rfl, rfl⟩) | (go_at_call 21; refine (HD.out _ HS).mono ?_; clear HD; rintro e w3 ⟨rfl, rfl⟩))
        have BRn := BO.set2 (.int .i64 0) (.int .i64 0)
        obtain ⟨u0, u1, uf, ul⟩ := BRn.two
        refine bodyPost_ret (v := .tuple #[.agg #[.int .i64 0, .int .i64 0], .int .i64 2]) (by simp [results, Tryd.results10, go_sem, u0, u1]) rfl ?_
        exact ⟨rfl, belowFar2 hb (by omega) _ _⟩
  · have ev : (mkV p c h s n d) = (0, 0, sfC p c h s []) := by unfold mkV; rw [if_neg h0]
    rw [ev]
    have hsf : ∀ (W : World), Calls Tryd.prog 15 #[.agg #[.int .i64 p, .int .i64 c, .int .i64 h, .int .i64 s], .slice none 0 0] W (ScGot s (sfC p c h s []) W) := fun W => scalesFor_any p c h s none [] 0 W (by simp) (OX.nil W) (by simp)
    obtain ⟨r, hr⟩ : ∃ r, sfC p c h s [] = r := ⟨_, rfl⟩
    rw [hr] at hsf h0 ⊢
    have f0 : (r == 0) = false := by rw [beq_eq_false_iff_ne]; exact h0
    have HSF := Lib.hid hsf
    have HR0 := Lib.hid h0
    clear hsf ev hr h0
    obtain ⟨BV, BO, hb, hz⟩ := two_new w #[.int .i64 p, .int .i64 c, .int .i64 h, .int .i64 s] #[.int .i64 0, .int .i64 0] 25 27
    obtain ⟨x0, x1, x2, x3, xf, xl⟩ := BV.four
    obtain ⟨aBO0, aBO1, aBOf, aBOl⟩ := BO.two
    go_enter Tryd.func10, Tryd.ntmps10
    go_wp2_with fail
    clear x0 x1 x2 x3 xf xl aBO0 aBO1 aBOf aBOl
    generalize ((w.alloc (.cells #[.int .i64 p, .int .i64 c, .int .i64 h, .int .i64 s] 25)).alloc (.cells #[.int .i64 0, .int .i64 0] 27)) = v0 at *
    refine (HSF.out _).mono ?_
    rintro e w1 ⟨mv, rfl, -, hm, hb1⟩
    have hm2 := hm HR0.out
    subst hm2
    replace BV := BV.below hb1
    replace BO := BO.below hb1
    replace hb := chain hb hb1
    clear hb1
    clear HSF hm HR0
    obtain ⟨x0, x1, x2, x3, xf, xl⟩ := BV.four
    obtain ⟨aBO0, aBO1, aBOf, aBOl⟩ := BO.two
    go_wp2_with fail
    have BRn := BO.set2 (.int .i64 0) (.int .i64 0)
    obtain ⟨u0, u1, uf, ul⟩ := BRn.two
    refine bodyPost_ret (v := .tuple #[.agg #[.int .i64 0, .int .i64 0], .int .i64 r]) (by simp [results, Tryd.results10, go_sem, u0, u1]) rfl ?_
    exact ⟨rfl, belowFar2 hb (by omega) _ _⟩
end Go.Proofs.YtenbihglmblalaaDoor
