/- Contracts of the program's MakeExact, AddExact and ScaleExact. -/
import Derived.Test.Ytgifkopgnpdkiaa09k
import Derived.Test.YtgifkopgnpdkiaaOwn4
namespace Go.Proofs.Ytgifkopgnpdkiaa
open Go.ChangeShapes Go.WideShapes Go.ChangeAt Go.RowKit
set_option linter.unusedVariables false
set_option linter.unusedSimpArgs false

/-- What MakeExact, AddExact and ScaleExact say. -/
def mkV (p c h s n d : Int) : Int × Int × Int :=
  if sfC p c h s [] = 0 then (if (inB n (-1000000000000000000) 1000000000000000000 && decide (0 ≤ d ∧ d < nn s.toNat)) = true then xo3 (rdX s.toNat n d.toNat) 3 else (0, 0, 2)) else (0, 0, sfC p c h s [])
def adV (p c h s xn xd yn yd : Int) : Int × Int × Int :=
  if sfC p c h s [(xn, xd), (yn, yd)] = 0 then xo3 (adX s.toNat xn xd.toNat yn yd.toNat) 3 else (0, 0, sfC p c h s [(xn, xd), (yn, yd)])
def slcV (p c h s xn xd k : Int) : Int × Int × Int :=
  if sfC p c h s [(xn, xd)] = 0 then (if inB k (-1000) 1000 = true then xo3 (rdX s.toNat (xn * k) xd.toNat) 3 else (0, 0, 2)) else (0, 0, sfC p c h s [(xn, xd)])
theorem xvB_parts {S : Nat} {n d : Int} (h : xvB S n d = true) : 0 ≤ d ∧ d < nn S ∧ -1000000000000000000 ≤ n ∧ n ≤ 1000000000000000000 := by
  unfold xvB at h
  simp only [decide_eq_true_eq] at h
  exact ⟨h.1, h.2.1, h.2.2.1, h.2.2.2.1⟩
theorem vB_side {p c h s : Int} (g : vB p c h s = true) : ∃ S : Nat, s = (S : Int) ∧ 1 ≤ S ∧ S ≤ 6 := by
  have := vB_iff.1 g
  exact ⟨s.toNat, by omega, by omega, by omega⟩
set_option maxRecDepth 8000 in
set_option maxHeartbeats 2000000 in
theorem implMakeExact_any (p c h s n d : Int) (hd : -9223372036854775808 ≤ d ∧ d ≤ 9223372036854775807) (w : World) :
    Calls Try.prog 18 #[.agg #[.int .i64 p, .int .i64 c, .int .i64 h, .int .i64 s], .int .i64 n, .int .i64 d] w fun e w' => e = .returned (xoV (mkV p c h s n d)) ∧ Below w.heap.size w w' := by
  by_cases h0 : sfC p c h s [] = 0
  · obtain ⟨g, hall⟩ := sfC_zero h0
    obtain ⟨S, rfl, hS⟩ := vB_side g
    have hn := nn_range hS
    have hsf : ∀ (W : World), Calls Try.prog 39 #[.agg #[.int .i64 p, .int .i64 c, .int .i64 h, .int .i64 (S : Int)], .slice none 0 0] W (ScGot (S : Int) (sfC p c h (S : Int) []) W) := fun W => scalesFor_any p c h (S : Int) none [] 0 W (by simp) (OX.nil W) (by simp)
    obtain ⟨⟨r1, r2, r3⟩, hv⟩ : ∃ r, (mkV p c h (S : Int) n d) = r := ⟨_, rfl⟩
    rw [hv]
    dsimp only [xoV]
    unfold mkV at hv
    rw [if_pos h0] at hv
    simp only [Int.toNat_natCast] at hv
    rw [h0] at hsf
    have HSF := Lib.hid hsf
    clear hsf h0 g hall
    obtain ⟨BV, BO, hb, hz⟩ := two_new w #[.int .i64 p, .int .i64 c, .int .i64 h, .int .i64 (S : Int)] #[.int .i64 0, .int .i64 0] 27 29
    obtain ⟨x0, x1, x2, x3, xf, xl⟩ := BV.four
    obtain ⟨aBO0, aBO1, aBOf, aBOl⟩ := BO.two
    go_enter Try.func18, Try.ntmps18
    go_wp2_with fail
    clear x0 x1 x2 x3 xf xl aBO0 aBO1 aBOf aBOl
    generalize ((w.alloc (.cells #[.int .i64 p, .int .i64 c, .int .i64 h, .int .i64 (S : Int)] 27)).alloc (.cells #[.int .i64 0, .int .i64 0] 29)) = v0 at *
    refine (HSF.out _).mono ?_
    rintro e w1 ⟨mv, rfl, hm, -, hb1⟩
    obtain ⟨b, rfl, HS⟩ := hm rfl
    rw [Int.toNat_natCast] at HS
    replace BV := BV.below hb1
    replace BO := BO.below hb1
    replace hb := chain hb hb1
    clear hb1
    clear HSF hm
    have hnu := fun W => isNum_any n W
    have hdp := fun W (H : ScM W b S (nn S)) => hasDepth_any b S W H d hd
    cases hk : inB n (-1000000000000000000) 1000000000000000000 with
    | false =>
      rw [hk, Bool.false_and, if_neg (by simp)] at hv
      rw [hk] at hnu
      simp only [Prod.mk.injEq] at hv
      obtain ⟨rfl, rfl, rfl⟩ := hv
      have HN := Lib.hid hnu
      clear hnu hdp hk
      obtain ⟨x0, x1, x2, x3, xf, xl⟩ := BV.four
      obtain ⟨aBO0, aBO1, aBOf, aBOl⟩ := BO.two
      go_wp2_with (go_at_call 43; refine (HN.out _).mono ?_; clear HN; rintro e w2 ⟨rfl, rfl⟩)
      have BRn := BO.set2 (.int .i64 0) (.int .i64 0)
      obtain ⟨u0, u1, uf, ul⟩ := BRn.two
      refine bodyPost_ret (v := .tuple #[.agg #[.int .i64 0, .int .i64 0], .int .i64 2]) (by simp [results, Try.results18, go_sem, u0, u1]) rfl ?_
      exact ⟨rfl, belowFar2 hb (by omega) _ _⟩
    | true =>
      rw [hk, Bool.true_and] at hv
      rw [hk] at hnu
      have HN := Lib.hid hnu
      by_cases hd2 : 0 ≤ d ∧ d < ((nn S : Nat) : Int)
      · rw [decide_eq_true hd2] at hdp hv
        rw [if_pos rfl] at hv
        have HD := Lib.hid hdp
        have hk2 : -1000000000000000000 ≤ n ∧ n ≤ 1000000000000000000 := by unfold inB at hk; simpa using hk
        obtain ⟨D, rfl⟩ := Int.eq_ofNat_of_zero_le hd2.1
        rw [Int.toNat_natCast] at hv
        have hp := fun W => product_any n 1 (by omega) (by omega) W
        have hr := fun W hh ll (H : ScM W b S (nn S)) (HW : WD hh ll (n.natAbs * (1 : Int).natAbs)) => product_reduced b S hS n 1 D (by omega) W hh ll H HW
        rw [Int.mul_one, hv] at hr
        dsimp only [xoV] at hr
        have HP := Lib.hid hp
        have HR := Lib.hid hr
        clear hnu hdp hk hv hd2 hp hr hk2 hd hS
        obtain ⟨x0, x1, x2, x3, xf, xl⟩ := BV.four
        obtain ⟨aBO0, aBO1, aBOf, aBOl⟩ := BO.two
        go_wp2_with (first | (go_at_call 43; refine (HN.out _).mono ?_; clear HN; rintro e w2 ⟨rfl, rfl⟩) | (go_at_call 44; refine (HD.out _ HS).mono ?_; clear HD; rintro e w3 ⟨rfl, rfl⟩) | (go_at_call 46; refine (HP.out _).mono ?_; clear HP; rintro e w4 ⟨hh, ll, rfl, HWD, hb4⟩; replace HS := HS.below hb4; replace BV := BV.below hb4; replace BO := BO.below hb4; replace hb := chain hb hb4; obtain ⟨x0, x1, x2, x3, xf, xl⟩ := BV.four; obtain ⟨aBO0, aBO1, aBOf, aBOl⟩ := BO.two) | (go_at_call 45; refine (HR.out _ _ _ HS HWD).mono ?_; clear HR; rintro e w5 ⟨rfl, hb5⟩; replace BV := BV.below hb5; replace BO := BO.below hb5; replace hb := chain hb hb5; obtain ⟨x0, x1, x2, x3, xf, xl⟩ := BV.four; obtain ⟨aBO0, aBO1, aBOf, aBOl⟩ := BO.two))
        have BRn := BO.set2 (.int .i64 r1) (.int .i64 r2)
        obtain ⟨u0, u1, uf, ul⟩ := BRn.two
        refine bodyPost_ret (v := .tuple #[.agg #[.int .i64 r1, .int .i64 r2], .int .i64 r3]) (by simp [results, Try.results18, go_sem, u0, u1]) rfl ?_
        exact ⟨rfl, belowFar2 hb (by omega) _ _⟩
      · rw [decide_eq_false hd2] at hdp hv
        rw [if_neg (by simp)] at hv
        simp only [Prod.mk.injEq] at hv
        obtain ⟨rfl, rfl, rfl⟩ := hv
        have HD := Lib.hid hdp
        clear hnu hdp hk hd2
        obtain ⟨x0, x1, x2, x3, xf, xl⟩ := BV.four
        obtain ⟨aBO0, aBO1, aBOf, aBOl⟩ := BO.two
        go_wp2_with (first | (go_at_call 43; refine (HN.out _).mono ?_; clear HN; rintro e w2 ⟨rfl, rfl⟩) | (go_at_call 44; refine (HD.out _ HS).mono ?_; clear HD; rintro e w3 ⟨rfl, rfl⟩))
        have BRn := BO.set2 (.int .i64 0) (.int .i64 0)
        obtain ⟨u0, u1, uf, ul⟩ := BRn.two
        refine bodyPost_ret (v := .tuple #[.agg #[.int .i64 0, .int .i64 0], .int .i64 2]) (by simp [results, Try.results18, go_sem, u0, u1]) rfl ?_
        exact ⟨rfl, belowFar2 hb (by omega) _ _⟩
  · have ev : (mkV p c h s n d) = (0, 0, sfC p c h s []) := by unfold mkV; rw [if_neg h0]
    rw [ev]
    have hsf : ∀ (W : World), Calls Try.prog 39 #[.agg #[.int .i64 p, .int .i64 c, .int .i64 h, .int .i64 s], .slice none 0 0] W (ScGot s (sfC p c h s []) W) := fun W => scalesFor_any p c h s none [] 0 W (by simp) (OX.nil W) (by simp)
    obtain ⟨r, hr⟩ : ∃ r, sfC p c h s [] = r := ⟨_, rfl⟩
    rw [hr] at hsf h0 ⊢
    have f0 : (r == 0) = false := by rw [beq_eq_false_iff_ne]; exact h0
    have HSF := Lib.hid hsf
    have HR0 := Lib.hid h0
    clear hsf ev hr h0
    obtain ⟨BV, BO, hb, hz⟩ := two_new w #[.int .i64 p, .int .i64 c, .int .i64 h, .int .i64 s] #[.int .i64 0, .int .i64 0] 27 29
    obtain ⟨x0, x1, x2, x3, xf, xl⟩ := BV.four
    obtain ⟨aBO0, aBO1, aBOf, aBOl⟩ := BO.two
    go_enter Try.func18, Try.ntmps18
    go_wp2_with fail
    clear x0 x1 x2 x3 xf xl aBO0 aBO1 aBOf aBOl
    generalize ((w.alloc (.cells #[.int .i64 p, .int .i64 c, .int .i64 h, .int .i64 s] 27)).alloc (.cells #[.int .i64 0, .int .i64 0] 29)) = v0 at *
    refine (HSF.out _).mono ?_
    rintro e w1 ⟨mv, rfl, -, hm, hb1⟩
    have hm2 := hm HR0.out
    subst hm2
    replace BV := BV.below hb1
    replace BO := BO.below hb1
    replace hb := chain hb hb1
    clear hb1
    clear HSF hm HR0
    obtain ⟨x0, x1, x2, x3, xf, xl⟩ := BV.four
    obtain ⟨aBO0, aBO1, aBOf, aBOl⟩ := BO.two
    go_wp2_with fail
    have BRn := BO.set2 (.int .i64 0) (.int .i64 0)
    obtain ⟨u0, u1, uf, ul⟩ := BRn.two
    refine bodyPost_ret (v := .tuple #[.agg #[.int .i64 0, .int .i64 0], .int .i64 r]) (by simp [results, Try.results18, go_sem, u0, u1]) rfl ?_
    exact ⟨rfl, belowFar2 hb (by omega) _ _⟩
set_option maxRecDepth 8000 in
set_option maxHeartbeats 2000000 in
theorem implAddExact_any (p c h s xn xd yn yd : Int) (hxd : -9223372036854775808 ≤ xd ∧ xd ≤ 9223372036854775807) (hyd : -9223372036854775808 ≤ yd ∧ yd ≤ 9223372036854775807) (w : World) :
    Calls Try.prog 21 #[.agg #[.int .i64 p, .int .i64 c, .int .i64 h, .int .i64 s], .agg #[.int .i64 xn, .int .i64 xd], .agg #[.int .i64 yn, .int .i64 yd]] w fun e w' => e = .returned (xoV (adV p c h s xn xd yn yd)) ∧ Below w.heap.size w w' := by
  by_cases h0 : sfC p c h s [(xn, xd), (yn, yd)] = 0
  · obtain ⟨g, hall⟩ := sfC_zero h0
    obtain ⟨S, rfl, hS⟩ := vB_side g
    have hqxd := hall (xn, xd) (by simp)
    rw [Int.toNat_natCast] at hqxd
    dsimp only at hqxd
    obtain ⟨qxd1, qxd2, qxd3, qxd4⟩ := xvB_parts hqxd
    obtain ⟨xdD, rfl⟩ := Int.eq_ofNat_of_zero_le qxd1
    replace qxd2 : xdD < nn S := by omega
    have hqyd := hall (yn, yd) (by simp)
    rw [Int.toNat_natCast] at hqyd
    dsimp only at hqyd
    obtain ⟨qyd1, qyd2, qyd3, qyd4⟩ := xvB_parts hqyd
    obtain ⟨ydD, rfl⟩ := Int.eq_ofNat_of_zero_le qyd1
    replace qyd2 : ydD < nn S := by omega
    have hn := nn_range hS
    have hsf : ∀ (g : Nat) (W : World), Blk W g #[.int .i64 xn, .int .i64 (xdD : Int), .int .i64 yn, .int .i64 (ydD : Int)] 29 → Calls Try.prog 39 #[.agg #[.int .i64 p, .int .i64 c, .int .i64 h, .int .i64 (S : Int)], .slice (some ⟨g, 0, none⟩) 2 2] W (ScGot (S : Int) (sfC p c h (S : Int) [(xn, (xdD : Int)), (yn, (ydD : Int))]) W) := fun g W B => scalesFor_any p c h (S : Int) (some ⟨g, 0, none⟩) [(xn, (xdD : Int)), (yn, (ydD : Int))] 2 W (by simp) (OX.two B) (by simp only [List.mem_cons, List.not_mem_nil, or_false]; intro r hr; rcases hr with rfl | rfl <;> (dsimp only; omega))
    obtain ⟨⟨r1, r2, r3⟩, hv⟩ : ∃ r, (adV p c h (S : Int) xn (xdD : Int) yn (ydD : Int)) = r := ⟨_, rfl⟩
    rw [hv]
    dsimp only [xoV]
    unfold adV at hv
    rw [if_pos h0] at hv
    simp only [Int.toNat_natCast] at hv
    rw [h0] at hsf
    have HSF := Lib.hid hsf
    clear hsf h0 g hall hqxd qxd1 hqyd qyd1
    obtain ⟨BV, BX, BY, BO, hb, hz⟩ := fourNew w #[.int .i64 p, .int .i64 c, .int .i64 h, .int .i64 (S : Int)] #[.int .i64 xn, .int .i64 (xdD : Int)] #[.int .i64 yn, .int .i64 (ydD : Int)] #[.int .i64 0, .int .i64 0] 27 29 29 29
    obtain ⟨x0, x1, x2, x3, xf, xl⟩ := BV.four
    obtain ⟨aBX0, aBX1, aBXf, aBXl⟩ := BX.two
    obtain ⟨aBY0, aBY1, aBYf, aBYl⟩ := BY.two
    obtain ⟨aBO0, aBO1, aBOf, aBOl⟩ := BO.two
    go_enter Try.func21, Try.ntmps21
    go_wp2_with fail
    clear x0 x1 x2 x3 xf xl aBX0 aBX1 aBXf aBXl aBY0 aBY1 aBYf aBYl aBO0 aBO1 aBOf aBOl
    generalize ((((w.alloc (.cells #[.int .i64 p, .int .i64 c, .int .i64 h, .int .i64 (S : Int)] 27)).alloc (.cells #[.int .i64 xn, .int .i64 (xdD : Int)] 29)).alloc (.cells #[.int .i64 yn, .int .i64 (ydD : Int)] 29)).alloc (.cells #[.int .i64 0, .int .i64 0] 29)) = v0 at *
    have BL := Blk.new v0 #[.int .i64 xn, .int .i64 (xdD : Int), .int .i64 yn, .int .i64 (ydD : Int)] 29
    rw [hz] at BL
    replace BV := BV.alloc (.cells #[.int .i64 xn, .int .i64 (xdD : Int), .int .i64 yn, .int .i64 (ydD : Int)] 29)
    replace BX := BX.alloc (.cells #[.int .i64 xn, .int .i64 (xdD : Int), .int .i64 yn, .int .i64 (ydD : Int)] 29)
    replace BY := BY.alloc (.cells #[.int .i64 xn, .int .i64 (xdD : Int), .int .i64 yn, .int .i64 (ydD : Int)] 29)
    replace BO := BO.alloc (.cells #[.int .i64 xn, .int .i64 (xdD : Int), .int .i64 yn, .int .i64 (ydD : Int)] 29)
    replace hb := chain_alloc hb (.cells #[.int .i64 xn, .int .i64 (xdD : Int), .int .i64 yn, .int .i64 (ydD : Int)] 29)
    refine (HSF.out _ _ BL).mono ?_
    rintro e w1 ⟨mv, rfl, hm, -, hb1⟩
    obtain ⟨b, rfl, HS⟩ := hm rfl
    rw [Int.toNat_natCast] at HS
    replace BV := BV.below hb1
    replace BX := BX.below hb1
    replace BY := BY.below hb1
    replace BO := BO.below hb1
    replace hb := chain hb hb1
    clear hb1
    clear HSF hm
    have hsu := fun W (H : ScM W b S (nn S)) => sum_any b S hS xn yn xdD ydD ⟨qxd3, qxd4⟩ ⟨qyd3, qyd4⟩ qxd2 qyd2 W H
    rw [hv] at hsu
    dsimp only [xoV] at hsu
    have HSU := Lib.hid hsu
    clear hsu hv hS
    obtain ⟨x0, x1, x2, x3, xf, xl⟩ := BV.four
    obtain ⟨aBX0, aBX1, aBXf, aBXl⟩ := BX.two
    obtain ⟨aBY0, aBY1, aBYf, aBYl⟩ := BY.two
    obtain ⟨aBO0, aBO1, aBOf, aBOl⟩ := BO.two
    go_wp2_with (go_at_call 49; refine (HSU.out _ HS).mono ?_; clear HSU; rintro e w2 ⟨rfl, hb2⟩; replace BV := BV.below hb2; replace BX := BX.below hb2; replace BY := BY.below hb2; replace BO := BO.below hb2; replace hb := chain hb hb2; obtain ⟨x0, x1, x2, x3, xf, xl⟩ := BV.four; obtain ⟨aBX0, aBX1, aBXf, aBXl⟩ := BX.two; obtain ⟨aBY0, aBY1, aBYf, aBYl⟩ := BY.two; obtain ⟨aBO0, aBO1, aBOf, aBOl⟩ := BO.two)
    have BRn := BO.set2 (.int .i64 r1) (.int .i64 r2)
    obtain ⟨u0, u1, uf, ul⟩ := BRn.two
    refine bodyPost_ret (v := .tuple #[.agg #[.int .i64 r1, .int .i64 r2], .int .i64 r3]) (by simp [results, Try.results21, go_sem, u0, u1]) rfl ?_
    exact ⟨rfl, belowFar2 hb (by omega) _ _⟩
  · have ev : (adV p c h s xn xd yn yd) = (0, 0, sfC p c h s [(xn, xd), (yn, yd)]) := by unfold adV; rw [if_neg h0]
    rw [ev]
    have hsf : ∀ (g : Nat) (W : World), Blk W g #[.int .i64 xn, .int .i64 xd, .int .i64 yn, .int .i64 yd] 29 → Calls Try.prog 39 #[.agg #[.int .i64 p, .int .i64 c, .int .i64 h, .int .i64 s], .slice (some ⟨g, 0, none⟩) 2 2] W (ScGot s (sfC p c h s [(xn, xd), (yn, yd)]) W) := fun g W B => scalesFor_any p c h s (some ⟨g, 0, none⟩) [(xn, xd), (yn, yd)] 2 W (by simp) (OX.two B) (by simp only [List.mem_cons, List.not_mem_nil, or_false]; intro r hr; rcases hr with rfl | rfl <;> (dsimp only; omega))
    obtain ⟨r, hr⟩ : ∃ r, sfC p c h s [(xn, xd), (yn, yd)] = r := ⟨_, rfl⟩
    rw [hr] at hsf h0 ⊢
    have f0 : (r == 0) = false := by rw [beq_eq_false_iff_ne]; exact h0
    have HSF := Lib.hid hsf
    have HR0 := Lib.hid h0
    clear hsf ev hr h0
    obtain ⟨BV, BX, BY, BO, hb, hz⟩ := fourNew w #[.int .i64 p, .int .i64 c, .int .i64 h, .int .i64 s] #[.int .i64 xn, .int .i64 xd] #[.int .i64 yn, .int .i64 yd] #[.int .i64 0, .int .i64 0] 27 29 29 29
    obtain ⟨x0, x1, x2, x3, xf, xl⟩ := BV.four
    obtain ⟨aBX0, aBX1, aBXf, aBXl⟩ := BX.two
    obtain ⟨aBY0, aBY1, aBYf, aBYl⟩ := BY.two
    obtain ⟨aBO0, aBO1, aBOf, aBOl⟩ := BO.two
    go_enter Try.func21, Try.ntmps21
    go_wp2_with fail
    clear x0 x1 x2 x3 xf xl aBX0 aBX1 aBXf aBXl aBY0 aBY1 aBYf aBYl aBO0 aBO1 aBOf aBOl
    generalize ((((w.alloc (.cells #[.int .i64 p, .int .i64 c, .int .i64 h, .int .i64 s] 27)).alloc (.cells #[.int .i64 xn, .int .i64 xd] 29)).alloc (.cells #[.int .i64 yn, .int .i64 yd] 29)).alloc (.cells #[.int .i64 0, .int .i64 0] 29)) = v0 at *
    have BL := Blk.new v0 #[.int .i64 xn, .int .i64 xd, .int .i64 yn, .int .i64 yd] 29
    rw [hz] at BL
    replace BV := BV.alloc (.cells #[.int .i64 xn, .int .i64 xd, .int .i64 yn, .int .i64 yd] 29)
    replace BX := BX.alloc (.cells #[.int .i64 xn, .int .i64 xd, .int .i64 yn, .int .i64 yd] 29)
    replace BY := BY.alloc (.cells #[.int .i64 xn, .int .i64 xd, .int .i64 yn, .int .i64 yd] 29)
    replace BO := BO.alloc (.cells #[.int .i64 xn, .int .i64 xd, .int .i64 yn, .int .i64 yd] 29)
    replace hb := chain_alloc hb (.cells #[.int .i64 xn, .int .i64 xd, .int .i64 yn, .int .i64 yd] 29)
    refine (HSF.out _ _ BL).mono ?_
    rintro e w1 ⟨mv, rfl, -, hm, hb1⟩
    have hm2 := hm HR0.out
    subst hm2
    replace BV := BV.below hb1
    replace BX := BX.below hb1
    replace BY := BY.below hb1
    replace BO := BO.below hb1
    replace hb := chain hb hb1
    clear hb1
    clear HSF hm HR0
    obtain ⟨x0, x1, x2, x3, xf, xl⟩ := BV.four
    obtain ⟨aBX0, aBX1, aBXf, aBXl⟩ := BX.two
    obtain ⟨aBY0, aBY1, aBYf, aBYl⟩ := BY.two
    obtain ⟨aBO0, aBO1, aBOf, aBOl⟩ := BO.two
    go_wp2_with fail
    have BRn := BO.set2 (.int .i64 0) (.int .i64 0)
    obtain ⟨u0, u1, uf, ul⟩ := BRn.two
    refine bodyPost_ret (v := .tuple #[.agg #[.int .i64 0, .int .i64 0], .int .i64 r]) (by simp [results, Try.results21, go_sem, u0, u1]) rfl ?_
    exact ⟨rfl, belowFar2 hb (by omega) _ _⟩
set_option maxRecDepth 8000 in
set_option maxHeartbeats 2000000 in
theorem implScaleExact_any (p c h s xn xd k : Int) (hxd : -9223372036854775808 ≤ xd ∧ xd ≤ 9223372036854775807) (w : World) :
    Calls Try.prog 23 #[.agg #[.int .i64 p, .int .i64 c, .int .i64 h, .int .i64 s], .agg #[.int .i64 xn, .int .i64 xd], .int .i64 k] w fun e w' => e = .returned (xoV (slcV p c h s xn xd k)) ∧ Below w.heap.size w w' := by
  by_cases h0 : sfC p c h s [(xn, xd)] = 0
  · obtain ⟨g, hall⟩ := sfC_zero h0
    obtain ⟨S, rfl, hS⟩ := vB_side g
    have hqxd := hall (xn, xd) (by simp)
    rw [Int.toNat_natCast] at hqxd
    dsimp only at hqxd
    obtain ⟨qxd1, qxd2, qxd3, qxd4⟩ := xvB_parts hqxd
    obtain ⟨xdD, rfl⟩ := Int.eq_ofNat_of_zero_le qxd1
    replace qxd2 : xdD < nn S := by omega
    have hn := nn_range hS
    have hsf : ∀ (g : Nat) (W : World), Blk W g #[.int .i64 xn, .int .i64 (xdD : Int)] 29 → Calls Try.prog 39 #[.agg #[.int .i64 p, .int .i64 c, .int .i64 h, .int .i64 (S : Int)], .slice (some ⟨g, 0, none⟩) 1 1] W (ScGot (S : Int) (sfC p c h (S : Int) [(xn, (xdD : Int))]) W) := fun g W B => scalesFor_any p c h (S : Int) (some ⟨g, 0, none⟩) [(xn, (xdD : Int))] 1 W (by simp) (OX.one B) (by simp only [List.mem_cons, List.not_mem_nil, or_false]; intro r hr; subst hr; dsimp only; omega)
    obtain ⟨⟨r1, r2, r3⟩, hv⟩ : ∃ r, (slcV p c h (S : Int) xn (xdD : Int) k) = r := ⟨_, rfl⟩
    rw [hv]
    dsimp only [xoV]
    unfold slcV at hv
    rw [if_pos h0] at hv
    simp only [Int.toNat_natCast] at hv
    rw [h0] at hsf
    have HSF := Lib.hid hsf
    clear hsf h0 g hall hqxd qxd1
    obtain ⟨BV, BX, BO, hb, hz⟩ := three_new w #[.int .i64 p, .int .i64 c, .int .i64 h, .int .i64 (S : Int)] #[.int .i64 xn, .int .i64 (xdD : Int)] #[.int .i64 0, .int .i64 0] 27 29 29
    obtain ⟨x0, x1, x2, x3, xf, xl⟩ := BV.four
    obtain ⟨aBX0, aBX1, aBXf, aBXl⟩ := BX.two
    obtain ⟨aBO0, aBO1, aBOf, aBOl⟩ := BO.two
    go_enter Try.func23, Try.ntmps23
    go_wp2_with fail
    clear x0 x1 x2 x3 xf xl aBX0 aBX1 aBXf aBXl aBO0 aBO1 aBOf aBOl
    generalize (((w.alloc (.cells #[.int .i64 p, .int .i64 c, .int .i64 h, .int .i64 (S : Int)] 27)).alloc (.cells #[.int .i64 xn, .int .i64 (xdD : Int)] 29)).alloc (.cells #[.int .i64 0, .int .i64 0] 29)) = v0 at *
    have BL := Blk.new v0 #[.int .i64 xn, .int .i64 (xdD : Int)] 29
    rw [hz] at BL
    replace BV := BV.alloc (.cells #[.int .i64 xn, .int .i64 (xdD : Int)] 29)
    replace BX := BX.alloc (.cells #[.int .i64 xn, .int .i64 (xdD : Int)] 29)
    replace BO := BO.alloc (.cells #[.int .i64 xn, .int .i64 (xdD : Int)] 29)
    replace hb := chain_alloc hb (.cells #[.int .i64 xn, .int .i64 (xdD : Int)] 29)
    refine (HSF.out _ _ BL).mono ?_
    rintro e w1 ⟨mv, rfl, hm, -, hb1⟩
    obtain ⟨b, rfl, HS⟩ := hm rfl
    rw [Int.toNat_natCast] at HS
    replace BV := BV.below hb1
    replace BX := BX.below hb1
    replace BO := BO.below hb1
    replace hb := chain hb hb1
    clear hb1
    clear HSF hm
    cases hk : inB k (-1000) 1000 with
    | false =>
      rw [hk, if_neg (by simp)] at hv
      simp only [Prod.mk.injEq] at hv
      obtain ⟨rfl, rfl, rfl⟩ := hv
      have hk2 : k < -1000 ∨ 1000 < k := by unfold inB at hk; simp only [decide_eq_false_iff_not] at hk; omega
      rcases hk2 with hk2 | hk2
      · clear hk
        obtain ⟨x0, x1, x2, x3, xf, xl⟩ := BV.four
        obtain ⟨aBX0, aBX1, aBXf, aBXl⟩ := BX.two
        obtain ⟨aBO0, aBO1, aBOf, aBOl⟩ := BO.two
        go_wp2_with fail
        have BRn := BO.set2 (.int .i64 0) (.int .i64 0)
        obtain ⟨u0, u1, uf, ul⟩ := BRn.two
        refine bodyPost_ret (v := .tuple #[.agg #[.int .i64 0, .int .i64 0], .int .i64 2]) (by simp [results, Try.results23, go_sem, u0, u1]) rfl ?_
        exact ⟨rfl, belowFar2 hb (by omega) _ _⟩
      · have hk3 : ¬ k < -1000 := by omega
        clear hk
        obtain ⟨x0, x1, x2, x3, xf, xl⟩ := BV.four
        obtain ⟨aBX0, aBX1, aBXf, aBXl⟩ := BX.two
        obtain ⟨aBO0, aBO1, aBOf, aBOl⟩ := BO.two
        go_wp2_with fail
        have BRn := BO.set2 (.int .i64 0) (.int .i64 0)
        obtain ⟨u0, u1, uf, ul⟩ := BRn.two
        refine bodyPost_ret (v := .tuple #[.agg #[.int .i64 0, .int .i64 0], .int .i64 2]) (by simp [results, Try.results23, go_sem, u0, u1]) rfl ?_
        exact ⟨rfl, belowFar2 hb (by omega) _ _⟩
    | true =>
      rw [hk, if_pos rfl] at hv
      have hk2 : -1000 ≤ k ∧ k ≤ 1000 := by unfold inB at hk; simpa using hk
      have hsu := fun W (H : ScM W b S (nn S)) => scaled_any b S hS xn k xdD ⟨qxd3, qxd4⟩ hk2 (by omega) W H
      rw [hv] at hsu
      dsimp only [xoV] at hsu
      have HSU := Lib.hid hsu
      obtain ⟨k0, k1⟩ := hk2
      have k2 : ¬ k < -1000 := by omega
      have k3 : ¬ 1000 < k := by omega
      clear hsu hv hS hk
      obtain ⟨x0, x1, x2, x3, xf, xl⟩ := BV.four
      obtain ⟨aBX0, aBX1, aBXf, aBXl⟩ := BX.two
      obtain ⟨aBO0, aBO1, aBOf, aBOl⟩ := BO.two
      go_wp2_with (go_at_call 51; refine (HSU.out _ HS).mono ?_; clear HSU; rintro e w2 ⟨rfl, hb2⟩; replace BV := BV.below hb2; replace BX := BX.below hb2; replace BO := BO.below hb2; replace hb := chain hb hb2; obtain ⟨x0, x1, x2, x3, xf, xl⟩ := BV.four; obtain ⟨aBX0, aBX1, aBXf, aBXl⟩ := BX.two; obtain ⟨aBO0, aBO1, aBOf, aBOl⟩ := BO.two)
      have BRn := BO.set2 (.int .i64 r1) (.int .i64 r2)
      obtain ⟨u0, u1, uf, ul⟩ := BRn.two
      refine bodyPost_ret (v := .tuple #[.agg #[.int .i64 r1, .int .i64 r2], .int .i64 r3]) (by simp [results, Try.results23, go_sem, u0, u1]) rfl ?_
      exact ⟨rfl, belowFar2 hb (by omega) _ _⟩
  · have ev : (slcV p c h s xn xd k) = (0, 0, sfC p c h s [(xn, xd)]) := by unfold slcV; rw [if_neg h0]
    rw [ev]
    have hsf : ∀ (g : Nat) (W : World), Blk W g #[.int .i64 xn, .int .i64 xd] 29 → Calls Try.prog 39 #[.agg #[.int .i64 p, .int .i64 c, .int .i64 h, .int .i64 s], .slice (some ⟨g, 0, none⟩) 1 1] W (ScGot s (sfC p c h s [(xn, xd)]) W) := fun g W B => scalesFor_any p c h s (some ⟨g, 0, none⟩) [(xn, xd)] 1 W (by simp) (OX.one B) (by simp only [List.mem_cons, List.not_mem_nil, or_false]; intro r hr; subst hr; dsimp only; omega)
    obtain ⟨r, hr⟩ : ∃ r, sfC p c h s [(xn, xd)] = r := ⟨_, rfl⟩
    rw [hr] at hsf h0 ⊢
    have f0 : (r == 0) = false := by rw [beq_eq_false_iff_ne]; exact h0
    have HSF := Lib.hid hsf
    have HR0 := Lib.hid h0
    clear hsf ev hr h0
    obtain ⟨BV, BX, BO, hb, hz⟩ := three_new w #[.int .i64 p, .int .i64 c, .int .i64 h, .int .i64 s] #[.int .i64 xn, .int .i64 xd] #[.int .i64 0, .int .i64 0] 27 29 29
    obtain ⟨x0, x1, x2, x3, xf, xl⟩ := BV.four
    obtain ⟨aBX0, aBX1, aBXf, aBXl⟩ := BX.two
    obtain ⟨aBO0, aBO1, aBOf, aBOl⟩ := BO.two
    go_enter Try.func23, Try.ntmps23
    go_wp2_with fail
    clear x0 x1 x2 x3 xf xl aBX0 aBX1 aBXf aBXl aBO0 aBO1 aBOf aBOl
    generalize (((w.alloc (.cells #[.int .i64 p, .int .i64 c, .int .i64 h, .int .i64 s] 27)).alloc (.cells #[.int .i64 xn, .int .i64 xd] 29)).alloc (.cells #[.int .i64 0, .int .i64 0] 29)) = v0 at *
    have BL := Blk.new v0 #[.int .i64 xn, .int .i64 xd] 29
    rw [hz] at BL
    replace BV := BV.alloc (.cells #[.int .i64 xn, .int .i64 xd] 29)
    replace BX := BX.alloc (.cells #[.int .i64 xn, .int .i64 xd] 29)
    replace BO := BO.alloc (.cells #[.int .i64 xn, .int .i64 xd] 29)
    replace hb := chain_alloc hb (.cells #[.int .i64 xn, .int .i64 xd] 29)
    refine (HSF.out _ _ BL).mono ?_
    rintro e w1 ⟨mv, rfl, -, hm, hb1⟩
    have hm2 := hm HR0.out
    subst hm2
    replace BV := BV.below hb1
    replace BX := BX.below hb1
    replace BO := BO.below hb1
    replace hb := chain hb hb1
    clear hb1
    clear HSF hm HR0
    obtain ⟨x0, x1, x2, x3, xf, xl⟩ := BV.four
    obtain ⟨aBX0, aBX1, aBXf, aBXl⟩ := BX.two
    obtain ⟨aBO0, aBO1, aBOf, aBOl⟩ := BO.two
    go_wp2_with fail
    have BRn := BO.set2 (.int .i64 0) (.int .i64 0)
    obtain ⟨u0, u1, uf, ul⟩ := BRn.two
    refine bodyPost_ret (v := .tuple #[.agg #[.int .i64 0, .int .i64 0], .int .i64 r]) (by simp [results, Try.results23, go_sem, u0, u1]) rfl ?_
    exact ⟨rfl, belowFar2 hb (by omega) _ _⟩
end Go.Proofs.Ytgifkopgnpdkiaa
