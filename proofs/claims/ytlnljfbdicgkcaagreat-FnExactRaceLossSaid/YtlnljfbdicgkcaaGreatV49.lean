/- The exact law of chapter 12 on RaceLoss holds: for every input the law returns true and its arguments read behind the call as they read before. No conditions. -/
import Derived.Test.YtlnljfbdicgkcaaGreatV47
import Derived.Test.YtlnljfbdicgkcaaGreatV48
import Derived.Test.YtlnljfbdicgkcaaGreatV27
import Derived.Test.YtlnljfbdicgkcaaGreatV28
import Derived.ChangeOld
import Derived.Deep.Cut
namespace Go.Proofs.YtlnljfbdicgkcaaGreat
open Go.ChangeShapes Go.WideShapes Go.ChangeAt Go.RowKit
set_option linter.unusedVariables false
set_option linter.unusedSimpArgs false
set_option maxRecDepth 4000
set_option maxRecDepth 8000 in
set_option maxHeartbeats 4000000 in
theorem fnExactRaceLoss_walk (p c h s : Int) (a_xs : Option Addr) (n_xs c_xs : Nat) (xs : List Int) (a_ys : Option Addr) (n_ys c_ys : Nat) (ys : List Int) (ra rb : Int) (a_zs : Option Addr) (n_zs c_zs : Nat) (zs : List Int) (w : World) (h_xs : xs.length = n_xs) (m_xs : n_xs ≤ 9223372036854775807) (r_xs : IRow w a_xs xs) (h_ys : ys.length = n_ys) (m_ys : n_ys ≤ 9223372036854775807) (r_ys : IRow w a_ys ys) (h_zs : zs.length = n_zs) (m_zs : n_zs ≤ 9223372036854775807) (r_zs : IRow w a_zs zs) :
    Calls Tryz.prog 9 #[.agg #[.int .i64 p, .int .i64 c, .int .i64 h, .int .i64 s], .slice a_xs n_xs c_xs, .slice a_ys n_ys c_ys, .agg #[.int .i64 ra, .int .i64 rb], .slice a_zs n_zs c_zs] w fun e w' => e = .returned (.bool true) ∧ Below w.heap.size w w' := by
  subst h_xs h_ys h_zs
  obtain ⟨BV, BQ, hb, hz⟩ := two_new w #[.int .i64 p, .int .i64 c, .int .i64 h, .int .i64 s] #[.int .i64 ra, .int .i64 rb] 52 53
  have hz0 : w.heap.size + 1 < ((w.alloc (.cells #[.int .i64 p, .int .i64 c, .int .i64 h, .int .i64 s] 52)).alloc (.cells #[.int .i64 ra, .int .i64 rb] 53)).heap.size := by rw [hz]; omega
  clear hz
  by_cases hl_xs : xs.length ≤ 1048576
  · have hl_xs' : (xs.length : Int) ≤ 1048576 := by omega
    by_cases hl_ys : ys.length ≤ 1048576
    · have hl_ys' : (ys.length : Int) ≤ 1048576 := by omega
      by_cases hl_zs : zs.length ≤ 1048576
      · have hl_zs' : (zs.length : Int) ≤ 1048576 := by omega
        obtain ⟨⟨en1, en2, en3⟩, hV⟩ : ∃ D, raceLossV p c h s xs ys zs ra rb = D := ⟨_, rfl⟩
        have hsp := fun W g_xs g_ys g_zs (q_xs : Row W g_xs xs) (q_ys : Row W g_ys ys) (q_zs : Row W g_zs zs) => specRaceLoss_any p c h s (some ⟨g_xs, 0, none⟩) (some ⟨g_ys, 0, none⟩) (some ⟨g_zs, 0, none⟩) xs.length ys.length zs.length xs.length ys.length zs.length xs ys zs ra rb W rfl rfl rfl hl_xs hl_ys hl_zs (Nat.le_refl _) (Nat.le_refl _) (Nat.le_refl _) q_xs.irow q_ys.irow q_zs.irow
        have him := fun W g_xs g_ys g_zs (q_xs : Row W g_xs xs) (q_ys : Row W g_ys ys) (q_zs : Row W g_zs zs) => raceLoss_any p c h s (some ⟨g_xs, 0, none⟩) (some ⟨g_ys, 0, none⟩) (some ⟨g_zs, 0, none⟩) xs.length ys.length zs.length xs.length ys.length zs.length xs ys zs ra rb W rfl rfl rfl hl_xs hl_ys hl_zs q_xs.irow q_ys.irow q_zs.irow
        rw [hV] at hsp him
        dsimp only [xoV] at hsp him
        have HSP := Lib.hid hsp
        have HIM := Lib.hid him
        clear hsp him hV
        have HT_xs := Lib.hid (fun W (q : IRow W a_xs xs) => toInt64S_any a_xs xs.length c_xs xs W rfl hl_xs q)
        have HT_ys := Lib.hid (fun W (q : IRow W a_ys ys) => toInt64S_any a_ys ys.length c_ys ys W rfl hl_ys q)
        have HT_zs := Lib.hid (fun W (q : IRow W a_zs zs) => toInt64S_any a_zs zs.length c_zs zs W rfl hl_zs q)
        obtain ⟨x0, x1, x2, x3, xf, xl⟩ := BV.four
        obtain ⟨y0, y1, yf, yl⟩ := BQ.two
        go_enter Tryz.func9, Tryz.ntmps9
        go_upto_region 7 with (fail)
        clear x0 x1 x2 x3 xf xl y0 y1 yf yl
        generalize ((w.alloc (.cells #[.int .i64 p, .int .i64 c, .int .i64 h, .int .i64 s] 52)).alloc (.cells #[.int .i64 ra, .int .i64 rb] 53)) = v0 at *
        go_cut [11, 12] from 18 (fun q11 q12 wr => ∃ g, q11 = .pointer (some ⟨g, 0, none⟩) ∧ q12 = .int .i64 en3 ∧ Blk wr g #[.int .i64 en1, .int .i64 en2] 35 ∧ Blk wr w.heap.size #[.int .i64 p, .int .i64 c, .int .i64 h, .int .i64 s] 52 ∧ Blk wr (w.heap.size + 1) #[.int .i64 ra, .int .i64 rb] 53 ∧ Below w.heap.size w wr)
        case first =>
          refine wp_region_held_drew (S := fun w' => w'.cell? ⟨w.heap.size, 0, none⟩ = some (.int .i64 p) ∧ w'.cell? ⟨w.heap.size, 1, none⟩ = some (.int .i64 c) ∧ w'.cell? ⟨w.heap.size, 2, none⟩ = some (.int .i64 h) ∧ w'.cell? ⟨w.heap.size, 3, none⟩ = some (.int .i64 s) ∧ w'.cell? ⟨(w.heap.size + 1), 0, none⟩ = some (.int .i64 ra) ∧ w'.cell? ⟨(w.heap.size + 1), 1, none⟩ = some (.int .i64 rb)) (by kernel_rfl) ⟨BV.drew.four.1, BV.drew.four.2.1, BV.drew.four.2.2.1, BV.drew.four.2.2.2.1, BQ.drew.two.1, BQ.drew.two.2.1⟩ (fun hHeld => ?_)
          clear hHeld
          replace BV := BV.drew
          replace BQ := BQ.drew
          replace hb := hb.drew
          generalize v0.drew = vd at *
          have hHeld : vd.cell? ⟨w.heap.size, 0, none⟩ = some (.int .i64 p) ∧ vd.cell? ⟨w.heap.size, 1, none⟩ = some (.int .i64 c) ∧ vd.cell? ⟨w.heap.size, 2, none⟩ = some (.int .i64 h) ∧ vd.cell? ⟨w.heap.size, 3, none⟩ = some (.int .i64 s) ∧ vd.cell? ⟨(w.heap.size + 1), 0, none⟩ = some (.int .i64 ra) ∧ vd.cell? ⟨(w.heap.size + 1), 1, none⟩ = some (.int .i64 rb) := ⟨BV.four.1, BV.four.2.1, BV.four.2.2.1, BV.four.2.2.2.1, BQ.two.1, BQ.two.2.1⟩
          refine tk 0 28 ?_
          refine tk 2 30 ?_
          refine tk 4 32 ?_
          refine tk 6 34 ?_
          refine tk 8 36 ?_
          refine wpAnyH_ready (rs := [1, 14]) (by kernel_rfl) (by simp) ?_
          refine AllReadyH.cons (o := ⟨some 29, _, _, _, _, _⟩) rfl (fun K hK => ?_) (AllReadyH.cons (o := ⟨some 11, _, _, _, _, _⟩) rfl (fun K hK => ?_) AllReadyH.nil)
          · go_simp
            refine (toVariant_any _ _ _ _ _).mono ?_
            rintro e w1 ⟨rfl, hb1⟩
            replace BV := BV.below hb1
            replace BQ := BQ.below hb1
            replace hb := chain hb hb1
            clear hb1
            (try go_wp2_with fail)
            refine hko hK (Blk.f4 BV (Blk.l2 BQ)) fun hHeld => ?_
            clear hK K
            refine wpAnyH_ready (rs := [3, 14]) (by kernel_rfl) (by simp) ?_
            refine AllReadyH.cons (o := ⟨some 31, _, _, _, _, _⟩) rfl (fun K hK => ?_) (AllReadyH.cons (o := ⟨some 11, _, _, _, _, _⟩) rfl (fun K hK => ?_) AllReadyH.nil)
            · go_simp
              refine (HT_xs.out _ (r_xs.below hb)).mono ?_
              rintro e w3 ⟨g_xs, rfl, hg_xs, R_xs, hb3⟩
              replace BV := BV.below hb3
              replace BQ := BQ.below hb3
              replace hb := chain hb hb3
              clear hb3
              (try go_wp2_with fail)
              refine hko hK (Blk.f4 BV (Blk.l2 BQ)) fun hHeld => ?_
              clear hK K
              refine wpAnyH_ready (rs := [5, 14]) (by kernel_rfl) (by simp) ?_
              refine AllReadyH.cons (o := ⟨some 33, _, _, _, _, _⟩) rfl (fun K hK => ?_) (AllReadyH.cons (o := ⟨some 11, _, _, _, _, _⟩) rfl (fun K hK => ?_) AllReadyH.nil)
              · go_simp
                refine (HT_ys.out _ (r_ys.below hb)).mono ?_
                rintro e w5 ⟨g_ys, rfl, hg_ys, R_ys, hb5⟩
                replace BV := BV.below hb5
                replace BQ := BQ.below hb5
                replace R_xs := R_xs.below hb5
                replace hb := chain hb hb5
                clear hb5
                (try go_wp2_with fail)
                refine hko hK (Blk.f4 BV (Blk.l2 BQ)) fun hHeld => ?_
                clear hK K
                refine wpAnyH_ready (rs := [7, 14]) (by kernel_rfl) (by simp) ?_
                refine AllReadyH.cons (o := ⟨some 35, _, _, _, _, _⟩) rfl (fun K hK => ?_) (AllReadyH.cons (o := ⟨some 11, _, _, _, _, _⟩) rfl (fun K hK => ?_) AllReadyH.nil)
                · go_simp
                  refine (toRoll_same _ _ _).mono ?_
                  rintro e w7 ⟨rfl, hb7⟩
                  replace BV := BV.below hb7
                  replace BQ := BQ.below hb7
                  replace R_xs := R_xs.below hb7
                  replace R_ys := R_ys.below hb7
                  replace hb := chain hb hb7
                  clear hb7
                  (try go_wp2_with fail)
                  refine hko hK (Blk.f4 BV (Blk.l2 BQ)) fun hHeld => ?_
                  clear hK K
                  refine wpAnyH_ready (rs := [9, 14]) (by kernel_rfl) (by simp) ?_
                  refine AllReadyH.cons (o := ⟨some 37, _, _, _, _, _⟩) rfl (fun K hK => ?_) (AllReadyH.cons (o := ⟨some 11, _, _, _, _, _⟩) rfl (fun K hK => ?_) AllReadyH.nil)
                  · go_simp
                    refine (HT_zs.out _ (r_zs.below hb)).mono ?_
                    rintro e w9 ⟨g_zs, rfl, hg_zs, R_zs, hb9⟩
                    replace BV := BV.below hb9
                    replace BQ := BQ.below hb9
                    replace R_xs := R_xs.below hb9
                    replace R_ys := R_ys.below hb9
                    replace hb := chain hb hb9
                    clear hb9
                    (try go_wp2_with fail)
                    refine hko hK (Blk.f4 BV (Blk.l2 BQ)) fun hHeld => ?_
                    clear hK K
                    refine wpAnyH_ready (rs := [10, 14]) (by kernel_rfl) (by simp) ?_
                    refine AllReadyH.cons (o := ⟨some 38, _, _, _, _, _⟩) rfl (fun K hK => ?_) (AllReadyH.cons (o := ⟨some 11, _, _, _, _, _⟩) rfl (fun K hK => ?_) AllReadyH.nil)
                    · go_simp
                      refine (HSP.out _ _ _ _ R_xs R_ys R_zs).mono ?_
                      rintro e w10 ⟨rfl, hb10⟩
                      replace BV := BV.below hb10
                      replace BQ := BQ.below hb10
                      replace R_xs := R_xs.below hb10
                      replace R_ys := R_ys.below hb10
                      replace R_zs := R_zs.below hb10
                      replace hb := chain hb hb10
                      clear hb10
                      (try go_wp2_with fail)
                      refine hko hK (Blk.f4 BV (Blk.l2 BQ)) fun hHeld => ?_
                      clear hK K
                      refine tk 11 27 ?_
                      refine tk 12 39 ?_
                      refine tk 13 40 ?_
                      refine rdk 14 11 fun K hK => ?_
                      go_simp
                      (try go_wp2_with fail)
                      refine hko hK (Blk.f4 (BV.alloc (.cells #[.int .i64 0, .int .i64 0] 35)) (Blk.l2 (BQ.alloc (.cells #[.int .i64 0, .int .i64 0] 35)))) fun hHeld => ?_
                      clear hK K
                      have B8 := Blk.new w10 #[.int .i64 0, .int .i64 0] 35
                      have h8 : w.heap.size ≤ w10.heap.size := hb.size
                      have l_BV := BV.lt
                      have l_BQ := BQ.lt
                      replace BV := BV.alloc (.cells #[.int .i64 0, .int .i64 0] 35)
                      replace BQ := BQ.alloc (.cells #[.int .i64 0, .int .i64 0] 35)
                      replace R_xs := R_xs.alloc (.cells #[.int .i64 0, .int .i64 0] 35)
                      replace R_ys := R_ys.alloc (.cells #[.int .i64 0, .int .i64 0] 35)
                      replace R_zs := R_zs.alloc (.cells #[.int .i64 0, .int .i64 0] 35)
                      replace hb := chain_alloc hb (.cells #[.int .i64 0, .int .i64 0] 35)
                      generalize w10.alloc (.cells #[.int .i64 0, .int .i64 0] 35) = wA at *
                      generalize w10.heap.size = g8 at *
                      refine rdn 15 fun K hK => ?_
                      clear hHeld
                      obtain ⟨z0, z1, zf, zl⟩ := B8.two
                      have SBV := BV.far2 (B := g8) (by omega) (.int .i64 en1) (.int .i64 en2)
                      have SBQ := BQ.far2 (B := g8) (by omega) (.int .i64 en1) (.int .i64 en2)
                      have Shb := belowFar2 hb (B := g8) (by omega) (.int .i64 en1) (.int .i64 en2)
                      have SB8 := B8.set2 (.int .i64 en1) (.int .i64 en2)
                      go_simp
                      (try go_wp2_with fail)
                      refine hko hK (Blk.f4 SBV (Blk.l2 SBQ)) fun hHeld => ?_
                      clear hK K
                      clear z0 z1 zf zl hb BV BQ R_xs R_ys R_zs B8
                      generalize ((wA.setCell ⟨g8, 0, none⟩ (.int .i64 en1)).setCell ⟨g8, 1, none⟩ (.int .i64 en2)) = wS at *
                      have BV := SBV
                      have BQ := SBQ
                      have hb := Shb
                      have B8 := SB8
                      clear SBV SBQ Shb SB8
                      refine tk 16 12 ?_
                      refine wpAnyH_done (by kernel_rfl) ?_ _
                      clear hHeld
                      (try go_wp2_with fail)
                      go_meet
                      case rel => exact ⟨g8, rfl, rfl, B8, BV, BQ, hb⟩
                    · go_simp
                      (try go_wp2_with fail)
                      refine hko hK (Blk.f4 (BV.alloc (.cells #[.int .i64 0, .int .i64 0] 35)) (Blk.l2 (BQ.alloc (.cells #[.int .i64 0, .int .i64 0] 35)))) fun hHeld => ?_
                      clear hK K
                      have B8 := Blk.new w9 #[.int .i64 0, .int .i64 0] 35
                      have h8 : w.heap.size ≤ w9.heap.size := hb.size
                      have l_BV := BV.lt
                      have l_BQ := BQ.lt
                      replace BV := BV.alloc (.cells #[.int .i64 0, .int .i64 0] 35)
                      replace BQ := BQ.alloc (.cells #[.int .i64 0, .int .i64 0] 35)
                      replace R_xs := R_xs.alloc (.cells #[.int .i64 0, .int .i64 0] 35)
                      replace R_ys := R_ys.alloc (.cells #[.int .i64 0, .int .i64 0] 35)
                      replace R_zs := R_zs.alloc (.cells #[.int .i64 0, .int .i64 0] 35)
                      replace hb := chain_alloc hb (.cells #[.int .i64 0, .int .i64 0] 35)
                      generalize w9.alloc (.cells #[.int .i64 0, .int .i64 0] 35) = wA at *
                      generalize w9.heap.size = g8 at *
                      refine rdk 10 38 fun K hK => ?_
                      go_simp
                      refine (HSP.out _ _ _ _ R_xs R_ys R_zs).mono ?_
                      rintro e w10 ⟨rfl, hb10⟩
                      replace BV := BV.below hb10
                      replace BQ := BQ.below hb10
                      replace R_xs := R_xs.below hb10
                      replace R_ys := R_ys.below hb10
                      replace R_zs := R_zs.below hb10
                      replace B8 := B8.below hb10
                      replace hb := chain hb hb10
                      clear hb10
                      (try go_wp2_with fail)
                      refine hko hK (Blk.f4 BV (Blk.l2 BQ)) fun hHeld => ?_
                      clear hK K
                      refine tk 11 27 ?_
                      refine tk 12 39 ?_
                      refine tk 13 40 ?_
                      refine rdn 15 fun K hK => ?_
                      clear hHeld
                      obtain ⟨z0, z1, zf, zl⟩ := B8.two
                      have SBV := BV.far2 (B := g8) (by omega) (.int .i64 en1) (.int .i64 en2)
                      have SBQ := BQ.far2 (B := g8) (by omega) (.int .i64 en1) (.int .i64 en2)
                      have Shb := belowFar2 hb (B := g8) (by omega) (.int .i64 en1) (.int .i64 en2)
                      have SB8 := B8.set2 (.int .i64 en1) (.int .i64 en2)
                      go_simp
                      (try go_wp2_with fail)
                      refine hko hK (Blk.f4 SBV (Blk.l2 SBQ)) fun hHeld => ?_
                      clear hK K
                      clear z0 z1 zf zl hb BV BQ R_xs R_ys R_zs B8
                      generalize ((w10.setCell ⟨g8, 0, none⟩ (.int .i64 en1)).setCell ⟨g8, 1, none⟩ (.int .i64 en2)) = wS at *
                      have BV := SBV
                      have BQ := SBQ
                      have hb := Shb
                      have B8 := SB8
                      clear SBV SBQ Shb SB8
                      refine tk 16 12 ?_
                      refine wpAnyH_done (by kernel_rfl) ?_ _
                      clear hHeld
                      (try go_wp2_with fail)
                      go_meet
                      case rel => exact ⟨g8, rfl, rfl, B8, BV, BQ, hb⟩
                  · go_simp
                    (try go_wp2_with fail)
                    refine hko hK (Blk.f4 (BV.alloc (.cells #[.int .i64 0, .int .i64 0] 35)) (Blk.l2 (BQ.alloc (.cells #[.int .i64 0, .int .i64 0] 35)))) fun hHeld => ?_
                    clear hK K
                    have B8 := Blk.new w7 #[.int .i64 0, .int .i64 0] 35
                    have h8 : w.heap.size ≤ w7.heap.size := hb.size
                    have l_BV := BV.lt
                    have l_BQ := BQ.lt
                    replace BV := BV.alloc (.cells #[.int .i64 0, .int .i64 0] 35)
                    replace BQ := BQ.alloc (.cells #[.int .i64 0, .int .i64 0] 35)
                    replace R_xs := R_xs.alloc (.cells #[.int .i64 0, .int .i64 0] 35)
                    replace R_ys := R_ys.alloc (.cells #[.int .i64 0, .int .i64 0] 35)
                    replace hb := chain_alloc hb (.cells #[.int .i64 0, .int .i64 0] 35)
                    generalize w7.alloc (.cells #[.int .i64 0, .int .i64 0] 35) = wA at *
                    generalize w7.heap.size = g8 at *
                    refine rdk 9 37 fun K hK => ?_
                    go_simp
                    refine (HT_zs.out _ (r_zs.below hb)).mono ?_
                    rintro e w9 ⟨g_zs, rfl, hg_zs, R_zs, hb9⟩
                    replace BV := BV.below hb9
                    replace BQ := BQ.below hb9
                    replace R_xs := R_xs.below hb9
                    replace R_ys := R_ys.below hb9
                    replace B8 := B8.below hb9
                    replace hb := chain hb hb9
                    clear hb9
                    (try go_wp2_with fail)
                    refine hko hK (Blk.f4 BV (Blk.l2 BQ)) fun hHeld => ?_
                    clear hK K
                    refine rdk 10 38 fun K hK => ?_
                    go_simp
                    refine (HSP.out _ _ _ _ R_xs R_ys R_zs).mono ?_
                    rintro e w10 ⟨rfl, hb10⟩
                    replace BV := BV.below hb10
                    replace BQ := BQ.below hb10
                    replace R_xs := R_xs.below hb10
                    replace R_ys := R_ys.below hb10
                    replace B8 := B8.below hb10
                    replace R_zs := R_zs.below hb10
                    replace hb := chain hb hb10
                    clear hb10
                    (try go_wp2_with fail)
                    refine hko hK (Blk.f4 BV (Blk.l2 BQ)) fun hHeld => ?_
                    clear hK K
                    refine tk 11 27 ?_
                    refine tk 12 39 ?_
                    refine tk 13 40 ?_
                    refine rdn 15 fun K hK => ?_
                    clear hHeld
                    obtain ⟨z0, z1, zf, zl⟩ := B8.two
                    have SBV := BV.far2 (B := g8) (by omega) (.int .i64 en1) (.int .i64 en2)
                    have SBQ := BQ.far2 (B := g8) (by omega) (.int .i64 en1) (.int .i64 en2)
                    have Shb := belowFar2 hb (B := g8) (by omega) (.int .i64 en1) (.int .i64 en2)
                    have SB8 := B8.set2 (.int .i64 en1) (.int .i64 en2)
                    go_simp
                    (try go_wp2_with fail)
                    refine hko hK (Blk.f4 SBV (Blk.l2 SBQ)) fun hHeld => ?_
                    clear hK K
                    clear z0 z1 zf zl hb BV BQ R_xs R_ys B8 R_zs
                    generalize ((w10.setCell ⟨g8, 0, none⟩ (.int .i64 en1)).setCell ⟨g8, 1, none⟩ (.int .i64 en2)) = wS at *
                    have BV := SBV
                    have BQ := SBQ
                    have hb := Shb
                    have B8 := SB8
                    clear SBV SBQ Shb SB8
                    refine tk 16 12 ?_
                    refine wpAnyH_done (by kernel_rfl) ?_ _
                    clear hHeld
                    (try go_wp2_with fail)
                    go_meet
                    case rel => exact ⟨g8, rfl, rfl, B8, BV, BQ, hb⟩
                · go_simp
                  (try go_wp2_with fail)
                  refine hko hK (Blk.f4 (BV.alloc (.cells #[.int .i64 0, .int .i64 0] 35)) (Blk.l2 (BQ.alloc (.cells #[.int .i64 0, .int .i64 0] 35)))) fun hHeld => ?_
                  clear hK K
                  have B8 := Blk.new w5 #[.int .i64 0, .int .i64 0] 35
                  have h8 : w.heap.size ≤ w5.heap.size := hb.size
                  have l_BV := BV.lt
                  have l_BQ := BQ.lt
                  replace BV := BV.alloc (.cells #[.int .i64 0, .int .i64 0] 35)
                  replace BQ := BQ.alloc (.cells #[.int .i64 0, .int .i64 0] 35)
                  replace R_xs := R_xs.alloc (.cells #[.int .i64 0, .int .i64 0] 35)
                  replace R_ys := R_ys.alloc (.cells #[.int .i64 0, .int .i64 0] 35)
                  replace hb := chain_alloc hb (.cells #[.int .i64 0, .int .i64 0] 35)
                  generalize w5.alloc (.cells #[.int .i64 0, .int .i64 0] 35) = wA at *
                  generalize w5.heap.size = g8 at *
                  refine rdk 7 35 fun K hK => ?_
                  go_simp
                  refine (toRoll_same _ _ _).mono ?_
                  rintro e w7 ⟨rfl, hb7⟩
                  replace BV := BV.below hb7
                  replace BQ := BQ.below hb7
                  replace R_xs := R_xs.below hb7
                  replace R_ys := R_ys.below hb7
                  replace B8 := B8.below hb7
                  replace hb := chain hb hb7
                  clear hb7
                  (try go_wp2_with fail)
                  refine hko hK (Blk.f4 BV (Blk.l2 BQ)) fun hHeld => ?_
                  clear hK K
                  refine rdk 9 37 fun K hK => ?_
                  go_simp
                  refine (HT_zs.out _ (r_zs.below hb)).mono ?_
                  rintro e w9 ⟨g_zs, rfl, hg_zs, R_zs, hb9⟩
                  replace BV := BV.below hb9
                  replace BQ := BQ.below hb9
                  replace R_xs := R_xs.below hb9
                  replace R_ys := R_ys.below hb9
                  replace B8 := B8.below hb9
                  replace hb := chain hb hb9
                  clear hb9
                  (try go_wp2_with fail)
                  refine hko hK (Blk.f4 BV (Blk.l2 BQ)) fun hHeld => ?_
                  clear hK K
                  refine rdk 10 38 fun K hK => ?_
                  go_simp
                  refine (HSP.out _ _ _ _ R_xs R_ys R_zs).mono ?_
                  rintro e w10 ⟨rfl, hb10⟩
                  replace BV := BV.below hb10
                  replace BQ := BQ.below hb10
                  replace R_xs := R_xs.below hb10
                  replace R_ys := R_ys.below hb10
                  replace B8 := B8.below hb10
                  replace R_zs := R_zs.below hb10
                  replace hb := chain hb hb10
                  clear hb10
                  (try go_wp2_with fail)
                  refine hko hK (Blk.f4 BV (Blk.l2 BQ)) fun hHeld => ?_
                  clear hK K
                  refine tk 11 27 ?_
                  refine tk 12 39 ?_
                  refine tk 13 40 ?_
                  refine rdn 15 fun K hK => ?_
                  clear hHeld
                  obtain ⟨z0, z1, zf, zl⟩ := B8.two
                  have SBV := BV.far2 (B := g8) (by omega) (.int .i64 en1) (.int .i64 en2)
                  have SBQ := BQ.far2 (B := g8) (by omega) (.int .i64 en1) (.int .i64 en2)
                  have Shb := belowFar2 hb (B := g8) (by omega) (.int .i64 en1) (.int .i64 en2)
                  have SB8 := B8.set2 (.int .i64 en1) (.int .i64 en2)
                  go_simp
                  (try go_wp2_with fail)
                  refine hko hK (Blk.f4 SBV (Blk.l2 SBQ)) fun hHeld => ?_
                  clear hK K
                  clear z0 z1 zf zl hb BV BQ R_xs R_ys B8 R_zs
                  generalize ((w10.setCell ⟨g8, 0, none⟩ (.int .i64 en1)).setCell ⟨g8, 1, none⟩ (.int .i64 en2)) = wS at *
                  have BV := SBV
                  have BQ := SBQ
                  have hb := Shb
                  have B8 := SB8
                  clear SBV SBQ Shb SB8
                  refine tk 16 12 ?_
                  refine wpAnyH_done (by kernel_rfl) ?_ _
                  clear hHeld
                  (try go_wp2_with fail)
                  go_meet
                  case rel => exact ⟨g8, rfl, rfl, B8, BV, BQ, hb⟩
              · go_simp
                (try go_wp2_with fail)
                refine hko hK (Blk.f4 (BV.alloc (.cells #[.int .i64 0, .int .i64 0] 35)) (Blk.l2 (BQ.alloc (.cells #[.int .i64 0, .int .i64 0] 35)))) fun hHeld => ?_
                clear hK K
                have B8 := Blk.new w3 #[.int .i64 0, .int .i64 0] 35
                have h8 : w.heap.size ≤ w3.heap.size := hb.size
                have l_BV := BV.lt
                have l_BQ := BQ.lt
                replace BV := BV.alloc (.cells #[.int .i64 0, .int .i64 0] 35)
                replace BQ := BQ.alloc (.cells #[.int .i64 0, .int .i64 0] 35)
                replace R_xs := R_xs.alloc (.cells #[.int .i64 0, .int .i64 0] 35)
                replace hb := chain_alloc hb (.cells #[.int .i64 0, .int .i64 0] 35)
                generalize w3.alloc (.cells #[.int .i64 0, .int .i64 0] 35) = wA at *
                generalize w3.heap.size = g8 at *
                refine rdk 5 33 fun K hK => ?_
                go_simp
                refine (HT_ys.out _ (r_ys.below hb)).mono ?_
                rintro e w5 ⟨g_ys, rfl, hg_ys, R_ys, hb5⟩
                replace BV := BV.below hb5
                replace BQ := BQ.below hb5
                replace R_xs := R_xs.below hb5
                replace B8 := B8.below hb5
                replace hb := chain hb hb5
                clear hb5
                (try go_wp2_with fail)
                refine hko hK (Blk.f4 BV (Blk.l2 BQ)) fun hHeld => ?_
                clear hK K
                refine rdk 7 35 fun K hK => ?_
                go_simp
                refine (toRoll_same _ _ _).mono ?_
                rintro e w7 ⟨rfl, hb7⟩
                replace BV := BV.below hb7
                replace BQ := BQ.below hb7
                replace R_xs := R_xs.below hb7
                replace B8 := B8.below hb7
                replace R_ys := R_ys.below hb7
                replace hb := chain hb hb7
                clear hb7
                (try go_wp2_with fail)
                refine hko hK (Blk.f4 BV (Blk.l2 BQ)) fun hHeld => ?_
                clear hK K
                refine rdk 9 37 fun K hK => ?_
                go_simp
                refine (HT_zs.out _ (r_zs.below hb)).mono ?_
                rintro e w9 ⟨g_zs, rfl, hg_zs, R_zs, hb9⟩
                replace BV := BV.below hb9
                replace BQ := BQ.below hb9
                replace R_xs := R_xs.below hb9
                replace B8 := B8.below hb9
                replace R_ys := R_ys.below hb9
                replace hb := chain hb hb9
                clear hb9
                (try go_wp2_with fail)
                refine hko hK (Blk.f4 BV (Blk.l2 BQ)) fun hHeld => ?_
                clear hK K
                refine rdk 10 38 fun K hK => ?_
                go_simp
                refine (HSP.out _ _ _ _ R_xs R_ys R_zs).mono ?_
                rintro e w10 ⟨rfl, hb10⟩
                replace BV := BV.below hb10
                replace BQ := BQ.below hb10
                replace R_xs := R_xs.below hb10
                replace B8 := B8.below hb10
                replace R_ys := R_ys.below hb10
                replace R_zs := R_zs.below hb10
                replace hb := chain hb hb10
                clear hb10
                (try go_wp2_with fail)
                refine hko hK (Blk.f4 BV (Blk.l2 BQ)) fun hHeld => ?_
                clear hK K
                refine tk 11 27 ?_
                refine tk 12 39 ?_
                refine tk 13 40 ?_
                refine rdn 15 fun K hK => ?_
                clear hHeld
                obtain ⟨z0, z1, zf, zl⟩ := B8.two
                have SBV := BV.far2 (B := g8) (by omega) (.int .i64 en1) (.int .i64 en2)
                have SBQ := BQ.far2 (B := g8) (by omega) (.int .i64 en1) (.int .i64 en2)
                have Shb := belowFar2 hb (B := g8) (by omega) (.int .i64 en1) (.int .i64 en2)
                have SB8 := B8.set2 (.int .i64 en1) (.int .i64 en2)
                go_simp
                (try go_wp2_with fail)
                refine hko hK (Blk.f4 SBV (Blk.l2 SBQ)) fun hHeld => ?_
                clear hK K
                clear z0 z1 zf zl hb BV BQ R_xs B8 R_ys R_zs
                generalize ((w10.setCell ⟨g8, 0, none⟩ (.int .i64 en1)).setCell ⟨g8, 1, none⟩ (.int .i64 en2)) = wS at *
                have BV := SBV
                have BQ := SBQ
                have hb := Shb
                have B8 := SB8
                clear SBV SBQ Shb SB8
                refine tk 16 12 ?_
                refine wpAnyH_done (by kernel_rfl) ?_ _
                clear hHeld
                (try go_wp2_with fail)
                go_meet
                case rel => exact ⟨g8, rfl, rfl, B8, BV, BQ, hb⟩
            · go_simp
              (try go_wp2_with fail)
              refine hko hK (Blk.f4 (BV.alloc (.cells #[.int .i64 0, .int .i64 0] 35)) (Blk.l2 (BQ.alloc (.cells #[.int .i64 0, .int .i64 0] 35)))) fun hHeld => ?_
              clear hK K
              have B8 := Blk.new w1 #[.int .i64 0, .int .i64 0] 35
              have h8 : w.heap.size ≤ w1.heap.size := hb.size
              have l_BV := BV.lt
              have l_BQ := BQ.lt
              replace BV := BV.alloc (.cells #[.int .i64 0, .int .i64 0] 35)
              replace BQ := BQ.alloc (.cells #[.int .i64 0, .int .i64 0] 35)
              replace hb := chain_alloc hb (.cells #[.int .i64 0, .int .i64 0] 35)
              generalize w1.alloc (.cells #[.int .i64 0, .int .i64 0] 35) = wA at *
              generalize w1.heap.size = g8 at *
              refine rdk 3 31 fun K hK => ?_
              go_simp
              refine (HT_xs.out _ (r_xs.below hb)).mono ?_
              rintro e w3 ⟨g_xs, rfl, hg_xs, R_xs, hb3⟩
              replace BV := BV.below hb3
              replace BQ := BQ.below hb3
              replace B8 := B8.below hb3
              replace hb := chain hb hb3
              clear hb3
              (try go_wp2_with fail)
              refine hko hK (Blk.f4 BV (Blk.l2 BQ)) fun hHeld => ?_
              clear hK K
              refine rdk 5 33 fun K hK => ?_
              go_simp
              refine (HT_ys.out _ (r_ys.below hb)).mono ?_
              rintro e w5 ⟨g_ys, rfl, hg_ys, R_ys, hb5⟩
              replace BV := BV.below hb5
              replace BQ := BQ.below hb5
              replace B8 := B8.below hb5
              replace R_xs := R_xs.below hb5
              replace hb := chain hb hb5
              clear hb5
              (try go_wp2_with fail)
              refine hko hK (Blk.f4 BV (Blk.l2 BQ)) fun hHeld => ?_
              clear hK K
              refine rdk 7 35 fun K hK => ?_
              go_simp
              refine (toRoll_same _ _ _).mono ?_
              rintro e w7 ⟨rfl, hb7⟩
              replace BV := BV.below hb7
              replace BQ := BQ.below hb7
              replace B8 := B8.below hb7
              replace R_xs := R_xs.below hb7
              replace R_ys := R_ys.below hb7
              replace hb := chain hb hb7
              clear hb7
              (try go_wp2_with fail)
              refine hko hK (Blk.f4 BV (Blk.l2 BQ)) fun hHeld => ?_
              clear hK K
              refine rdk 9 37 fun K hK => ?_
              go_simp
              refine (HT_zs.out _ (r_zs.below hb)).mono ?_
              rintro e w9 ⟨g_zs, rfl, hg_zs, R_zs, hb9⟩
              replace BV := BV.below hb9
              replace BQ := BQ.below hb9
              replace B8 := B8.below hb9
              replace R_xs := R_xs.below hb9
              replace R_ys := R_ys.below hb9
              replace hb := chain hb hb9
              clear hb9
              (try go_wp2_with fail)
              refine hko hK (Blk.f4 BV (Blk.l2 BQ)) fun hHeld => ?_
              clear hK K
              refine rdk 10 38 fun K hK => ?_
              go_simp
              refine (HSP.out _ _ _ _ R_xs R_ys R_zs).mono ?_
              rintro e w10 ⟨rfl, hb10⟩
              replace BV := BV.below hb10
              replace BQ := BQ.below hb10
              replace B8 := B8.below hb10
              replace R_xs := R_xs.below hb10
              replace R_ys := R_ys.below hb10
              replace R_zs := R_zs.below hb10
              replace hb := chain hb hb10
              clear hb10
              (try go_wp2_with fail)
              refine hko hK (Blk.f4 BV (Blk.l2 BQ)) fun hHeld => ?_
              clear hK K
              refine tk 11 27 ?_
              refine tk 12 39 ?_
              refine tk 13 40 ?_
              refine rdn 15 fun K hK => ?_
              clear hHeld
              obtain ⟨z0, z1, zf, zl⟩ := B8.two
              have SBV := BV.far2 (B := g8) (by omega) (.int .i64 en1) (.int .i64 en2)
              have SBQ := BQ.far2 (B := g8) (by omega) (.int .i64 en1) (.int .i64 en2)
              have Shb := belowFar2 hb (B := g8) (by omega) (.int .i64 en1) (.int .i64 en2)
              have SB8 := B8.set2 (.int .i64 en1) (.int .i64 en2)
              go_simp
              (try go_wp2_with fail)
              refine hko hK (Blk.f4 SBV (Blk.l2 SBQ)) fun hHeld => ?_
              clear hK K
              clear z0 z1 zf zl hb BV BQ B8 R_xs R_ys R_zs
              generalize ((w10.setCell ⟨g8, 0, none⟩ (.int .i64 en1)).setCell ⟨g8, 1, none⟩ (.int .i64 en2)) = wS at *
              have BV := SBV
              have BQ := SBQ
              have hb := Shb
              have B8 := SB8
              clear SBV SBQ Shb SB8
              refine tk 16 12 ?_
              refine wpAnyH_done (by kernel_rfl) ?_ _
              clear hHeld
              (try go_wp2_with fail)
              go_meet
              case rel => exact ⟨g8, rfl, rfl, B8, BV, BQ, hb⟩
          · go_simp
            (try go_wp2_with fail)
            refine hko hK (Blk.f4 (BV.alloc (.cells #[.int .i64 0, .int .i64 0] 35)) (Blk.l2 (BQ.alloc (.cells #[.int .i64 0, .int .i64 0] 35)))) fun hHeld => ?_
            clear hK K
            have B8 := Blk.new vd #[.int .i64 0, .int .i64 0] 35
            have h8 : w.heap.size ≤ vd.heap.size := hb.size
            have l_BV := BV.lt
            have l_BQ := BQ.lt
            replace BV := BV.alloc (.cells #[.int .i64 0, .int .i64 0] 35)
            replace BQ := BQ.alloc (.cells #[.int .i64 0, .int .i64 0] 35)
            replace hb := chain_alloc hb (.cells #[.int .i64 0, .int .i64 0] 35)
            generalize vd.alloc (.cells #[.int .i64 0, .int .i64 0] 35) = wA at *
            generalize vd.heap.size = g8 at *
            refine rdk 1 29 fun K hK => ?_
            go_simp
            refine (toVariant_any _ _ _ _ _).mono ?_
            rintro e w1 ⟨rfl, hb1⟩
            replace BV := BV.below hb1
            replace BQ := BQ.below hb1
            replace B8 := B8.below hb1
            replace hb := chain hb hb1
            clear hb1
            (try go_wp2_with fail)
            refine hko hK (Blk.f4 BV (Blk.l2 BQ)) fun hHeld => ?_
            clear hK K
            refine rdk 3 31 fun K hK => ?_
            go_simp
            refine (HT_xs.out _ (r_xs.below hb)).mono ?_
            rintro e w3 ⟨g_xs, rfl, hg_xs, R_xs, hb3⟩
            replace BV := BV.below hb3
            replace BQ := BQ.below hb3
            replace B8 := B8.below hb3
            replace hb := chain hb hb3
            clear hb3
            (try go_wp2_with fail)
            refine hko hK (Blk.f4 BV (Blk.l2 BQ)) fun hHeld => ?_
            clear hK K
            refine rdk 5 33 fun K hK => ?_
            go_simp
            refine (HT_ys.out _ (r_ys.below hb)).mono ?_
            rintro e w5 ⟨g_ys, rfl, hg_ys, R_ys, hb5⟩
            replace BV := BV.below hb5
            replace BQ := BQ.below hb5
            replace B8 := B8.below hb5
            replace R_xs := R_xs.below hb5
            replace hb := chain hb hb5
            clear hb5
            (try go_wp2_with fail)
            refine hko hK (Blk.f4 BV (Blk.l2 BQ)) fun hHeld => ?_
            clear hK K
            refine rdk 7 35 fun K hK => ?_
            go_simp
            refine (toRoll_same _ _ _).mono ?_
            rintro e w7 ⟨rfl, hb7⟩
            replace BV := BV.below hb7
            replace BQ := BQ.below hb7
            replace B8 := B8.below hb7
            replace R_xs := R_xs.below hb7
            replace R_ys := R_ys.below hb7
            replace hb := chain hb hb7
            clear hb7
            (try go_wp2_with fail)
            refine hko hK (Blk.f4 BV (Blk.l2 BQ)) fun hHeld => ?_
            clear hK K
            refine rdk 9 37 fun K hK => ?_
            go_simp
            refine (HT_zs.out _ (r_zs.below hb)).mono ?_
            rintro e w9 ⟨g_zs, rfl, hg_zs, R_zs, hb9⟩
            replace BV := BV.below hb9
            replace BQ := BQ.below hb9
            replace B8 := B8.below hb9
            replace R_xs := R_xs.below hb9
            replace R_ys := R_ys.below hb9
            replace hb := chain hb hb9
            clear hb9
            (try go_wp2_with fail)
            refine hko hK (Blk.f4 BV (Blk.l2 BQ)) fun hHeld => ?_
            clear hK K
            refine rdk 10 38 fun K hK => ?_
            go_simp
            refine (HSP.out _ _ _ _ R_xs R_ys R_zs).mono ?_
            rintro e w10 ⟨rfl, hb10⟩
            replace BV := BV.below hb10
            replace BQ := BQ.below hb10
            replace B8 := B8.below hb10
            replace R_xs := R_xs.below hb10
            replace R_ys := R_ys.below hb10
            replace R_zs := R_zs.below hb10
            replace hb := chain hb hb10
            clear hb10
            (try go_wp2_with fail)
            refine hko hK (Blk.f4 BV (Blk.l2 BQ)) fun hHeld => ?_
            clear hK K
            refine tk 11 27 ?_
            refine tk 12 39 ?_
            refine tk 13 40 ?_
            refine rdn 15 fun K hK => ?_
            clear hHeld
            obtain ⟨z0, z1, zf, zl⟩ := B8.two
            have SBV := BV.far2 (B := g8) (by omega) (.int .i64 en1) (.int .i64 en2)
            have SBQ := BQ.far2 (B := g8) (by omega) (.int .i64 en1) (.int .i64 en2)
            have Shb := belowFar2 hb (B := g8) (by omega) (.int .i64 en1) (.int .i64 en2)
            have SB8 := B8.set2 (.int .i64 en1) (.int .i64 en2)
            go_simp
            (try go_wp2_with fail)
            refine hko hK (Blk.f4 SBV (Blk.l2 SBQ)) fun hHeld => ?_
            clear hK K
            clear z0 z1 zf zl hb BV BQ B8 R_xs R_ys R_zs
            generalize ((w10.setCell ⟨g8, 0, none⟩ (.int .i64 en1)).setCell ⟨g8, 1, none⟩ (.int .i64 en2)) = wS at *
            have BV := SBV
            have BQ := SBQ
            have hb := Shb
            have B8 := SB8
            clear SBV SBQ Shb SB8
            refine tk 16 12 ?_
            refine wpAnyH_done (by kernel_rfl) ?_ _
            clear hHeld
            (try go_wp2_with fail)
            go_meet
            case rel => exact ⟨g8, rfl, rfl, B8, BV, BQ, hb⟩
        case rest =>
          clear BV BQ hb
          obtain ⟨g7, rfl, rfl, B7, BV, BQ, hb⟩ := hcut
          obtain ⟨q0_BV, q1_BV, q2_BV, q3_BV, qf_BV, ql_BV⟩ := BV.four
          obtain ⟨q0_BQ, q1_BQ, qf_BQ, ql_BQ⟩ := BQ.two
          go_wp2_with fail
          clear q0_BV q1_BV q2_BV q3_BV qf_BV ql_BV
          clear q0_BQ q1_BQ qf_BQ ql_BQ
          refine (HT_xs.out _ (r_xs.below hb)).mono ?_
          rintro e w1 ⟨gxs, rfl, hg1, Rxs, hb1⟩
          replace BV := BV.below hb1
          replace BQ := BQ.below hb1
          replace B7 := B7.below hb1
          have hz1 := hb1.size
          replace hb := chain hb hb1
          clear hb1
          obtain ⟨q0_BV, q1_BV, q2_BV, q3_BV, qf_BV, ql_BV⟩ := BV.four
          obtain ⟨q0_BQ, q1_BQ, qf_BQ, ql_BQ⟩ := BQ.two
          go_wp2_with fail
          clear q0_BV q1_BV q2_BV q3_BV qf_BV ql_BV
          clear q0_BQ q1_BQ qf_BQ ql_BQ
          refine (HT_ys.out _ (r_ys.below hb)).mono ?_
          rintro e w2 ⟨gys, rfl, hg2, Rys, hb2⟩
          replace BV := BV.below hb2
          replace BQ := BQ.below hb2
          replace B7 := B7.below hb2
          replace Rxs := Rxs.below hb2
          have hz2 := hb2.size
          replace hb := chain hb hb2
          clear hb2
          obtain ⟨q0_BV, q1_BV, q2_BV, q3_BV, qf_BV, ql_BV⟩ := BV.four
          obtain ⟨q0_BQ, q1_BQ, qf_BQ, ql_BQ⟩ := BQ.two
          go_wp2_with fail
          clear q0_BV q1_BV q2_BV q3_BV qf_BV ql_BV
          clear q0_BQ q1_BQ qf_BQ ql_BQ
          refine (HT_zs.out _ (r_zs.below hb)).mono ?_
          rintro e w3 ⟨gzs, rfl, hg3, Rzs, hb3⟩
          replace BV := BV.below hb3
          replace BQ := BQ.below hb3
          replace B7 := B7.below hb3
          replace Rxs := Rxs.below hb3
          replace Rys := Rys.below hb3
          have hz3 := hb3.size
          replace hb := chain hb hb3
          clear hb3
          obtain ⟨q0_BV, q1_BV, q2_BV, q3_BV, qf_BV, ql_BV⟩ := BV.four
          obtain ⟨q0_BQ, q1_BQ, qf_BQ, ql_BQ⟩ := BQ.two
          go_upto_region 11 with (fail)
          clear q0_BV q1_BV q2_BV q3_BV qf_BV ql_BV
          clear q0_BQ q1_BQ qf_BQ ql_BQ
          go_cut [16, 17] from 18 (fun q16 q17 wr => ∃ g, q16 = .pointer (some ⟨g, 0, none⟩) ∧ q17 = .int .i64 en3 ∧ Blk wr g #[.int .i64 en1, .int .i64 en2] 35 ∧ Blk wr w.heap.size #[.int .i64 p, .int .i64 c, .int .i64 h, .int .i64 s] 52 ∧ Blk wr (w.heap.size + 1) #[.int .i64 ra, .int .i64 rb] 53 ∧ Blk wr g7 #[.int .i64 en1, .int .i64 en2] 35 ∧ Row wr gxs xs ∧ Row wr gys ys ∧ Row wr gzs zs ∧ Below w.heap.size w wr)
          case first =>
            refine wp_region_held_drew (S := fun w' => w'.cell? ⟨w.heap.size, 0, none⟩ = some (.int .i64 p) ∧ w'.cell? ⟨w.heap.size, 1, none⟩ = some (.int .i64 c) ∧ w'.cell? ⟨w.heap.size, 2, none⟩ = some (.int .i64 h) ∧ w'.cell? ⟨w.heap.size, 3, none⟩ = some (.int .i64 s) ∧ w'.cell? ⟨(w.heap.size + 1), 0, none⟩ = some (.int .i64 ra) ∧ w'.cell? ⟨(w.heap.size + 1), 1, none⟩ = some (.int .i64 rb)) (by kernel_rfl) ⟨BV.drew.four.1, BV.drew.four.2.1, BV.drew.four.2.2.1, BV.drew.four.2.2.2.1, BQ.drew.two.1, BQ.drew.two.2.1⟩ (fun hHeld => ?_)
            clear hHeld
            replace BV := BV.drew
            replace BQ := BQ.drew
            replace B7 := B7.drew
            replace Rxs := Rxs.drew
            replace Rys := Rys.drew
            replace Rzs := Rzs.drew
            replace hb := hb.drew
            generalize w3.drew = vd at *
            have hHeld : vd.cell? ⟨w.heap.size, 0, none⟩ = some (.int .i64 p) ∧ vd.cell? ⟨w.heap.size, 1, none⟩ = some (.int .i64 c) ∧ vd.cell? ⟨w.heap.size, 2, none⟩ = some (.int .i64 h) ∧ vd.cell? ⟨w.heap.size, 3, none⟩ = some (.int .i64 s) ∧ vd.cell? ⟨(w.heap.size + 1), 0, none⟩ = some (.int .i64 ra) ∧ vd.cell? ⟨(w.heap.size + 1), 1, none⟩ = some (.int .i64 rb) := ⟨BV.four.1, BV.four.2.1, BV.four.2.2.1, BV.four.2.2.2.1, BQ.two.1, BQ.two.2.1⟩
            refine tk 0 48 ?_
            refine tk 2 50 ?_
            refine tk 3 51 ?_
            refine tk 4 52 ?_
            refine tk 6 54 ?_
            refine wpAnyH_ready (rs := [1, 11]) (by kernel_rfl) (by simp) ?_
            refine AllReadyH.cons (o := ⟨some 49, _, _, _, _, _⟩) rfl (fun K hK => ?_) (AllReadyH.cons (o := ⟨some 16, _, _, _, _, _⟩) rfl (fun K hK => ?_) AllReadyH.nil)
            · go_simp
              refine (toVariant_any _ _ _ _ _).mono ?_
              rintro e w1 ⟨rfl, hb1⟩
              replace BV := BV.below hb1
              replace BQ := BQ.below hb1
              replace B7 := B7.below hb1
              replace Rxs := Rxs.below hb1
              replace Rys := Rys.below hb1
              replace Rzs := Rzs.below hb1
              replace hb := chain hb hb1
              clear hb1
              (try go_wp2_with fail)
              refine hko hK (Blk.f4 BV (Blk.l2 BQ)) fun hHeld => ?_
              clear hK K
              refine wpAnyH_ready (rs := [5, 11]) (by kernel_rfl) (by simp) ?_
              refine AllReadyH.cons (o := ⟨some 53, _, _, _, _, _⟩) rfl (fun K hK => ?_) (AllReadyH.cons (o := ⟨some 16, _, _, _, _, _⟩) rfl (fun K hK => ?_) AllReadyH.nil)
              · go_simp
                refine (toRoll_same _ _ _).mono ?_
                rintro e w5 ⟨rfl, hb5⟩
                replace BV := BV.below hb5
                replace BQ := BQ.below hb5
                replace B7 := B7.below hb5
                replace Rxs := Rxs.below hb5
                replace Rys := Rys.below hb5
                replace Rzs := Rzs.below hb5
                replace hb := chain hb hb5
                clear hb5
                (try go_wp2_with fail)
                refine hko hK (Blk.f4 BV (Blk.l2 BQ)) fun hHeld => ?_
                clear hK K
                refine wpAnyH_ready (rs := [7, 11]) (by kernel_rfl) (by simp) ?_
                refine AllReadyH.cons (o := ⟨some 55, _, _, _, _, _⟩) rfl (fun K hK => ?_) (AllReadyH.cons (o := ⟨some 16, _, _, _, _, _⟩) rfl (fun K hK => ?_) AllReadyH.nil)
                · go_simp
                  refine (HIM.out _ _ _ _ Rxs Rys Rzs).mono ?_
                  rintro e w7 ⟨rfl, hb7⟩
                  replace BV := BV.below hb7
                  replace BQ := BQ.below hb7
                  replace B7 := B7.below hb7
                  replace Rxs := Rxs.below hb7
                  replace Rys := Rys.below hb7
                  replace Rzs := Rzs.below hb7
                  replace hb := chain hb hb7
                  clear hb7
                  (try go_wp2_with fail)
                  refine hko hK (Blk.f4 BV (Blk.l2 BQ)) fun hHeld => ?_
                  clear hK K
                  refine tk 8 47 ?_
                  refine tk 9 56 ?_
                  refine tk 10 57 ?_
                  refine rdk 11 16 fun K hK => ?_
                  go_simp
                  (try go_wp2_with fail)
                  refine hko hK (Blk.f4 (BV.alloc (.cells #[.int .i64 0, .int .i64 0] 35)) (Blk.l2 (BQ.alloc (.cells #[.int .i64 0, .int .i64 0] 35)))) fun hHeld => ?_
                  clear hK K
                  have B8 := Blk.new w7 #[.int .i64 0, .int .i64 0] 35
                  have h8 : w.heap.size ≤ w7.heap.size := hb.size
                  have l_BV := BV.lt
                  have l_BQ := BQ.lt
                  have l_B7 := B7.lt
                  have l_Rxs := Rxs.lt
                  have l_Rys := Rys.lt
                  have l_Rzs := Rzs.lt
                  replace BV := BV.alloc (.cells #[.int .i64 0, .int .i64 0] 35)
                  replace BQ := BQ.alloc (.cells #[.int .i64 0, .int .i64 0] 35)
                  replace B7 := B7.alloc (.cells #[.int .i64 0, .int .i64 0] 35)
                  replace Rxs := Rxs.alloc (.cells #[.int .i64 0, .int .i64 0] 35)
                  replace Rys := Rys.alloc (.cells #[.int .i64 0, .int .i64 0] 35)
                  replace Rzs := Rzs.alloc (.cells #[.int .i64 0, .int .i64 0] 35)
                  replace hb := chain_alloc hb (.cells #[.int .i64 0, .int .i64 0] 35)
                  generalize w7.alloc (.cells #[.int .i64 0, .int .i64 0] 35) = wA at *
                  generalize w7.heap.size = g8 at *
                  refine rdn 12 fun K hK => ?_
                  clear hHeld
                  obtain ⟨z0, z1, zf, zl⟩ := B8.two
                  have SBV := BV.far2 (B := g8) (by omega) (.int .i64 en1) (.int .i64 en2)
                  have SBQ := BQ.far2 (B := g8) (by omega) (.int .i64 en1) (.int .i64 en2)
                  have SB7 := B7.far2 (B := g8) (by omega) (.int .i64 en1) (.int .i64 en2)
                  have SRxs := (Rxs.other (g := g8) (o := 0) (v := .int .i64 en1) (by omega)).other (g := g8) (o := 1) (v := .int .i64 en2) (by omega)
                  have SRys := (Rys.other (g := g8) (o := 0) (v := .int .i64 en1) (by omega)).other (g := g8) (o := 1) (v := .int .i64 en2) (by omega)
                  have SRzs := (Rzs.other (g := g8) (o := 0) (v := .int .i64 en1) (by omega)).other (g := g8) (o := 1) (v := .int .i64 en2) (by omega)
                  have Shb := belowFar2 hb (B := g8) (by omega) (.int .i64 en1) (.int .i64 en2)
                  have SB8 := B8.set2 (.int .i64 en1) (.int .i64 en2)
                  go_simp
                  (try go_wp2_with fail)
                  refine hko hK (Blk.f4 SBV (Blk.l2 SBQ)) fun hHeld => ?_
                  clear hK K
                  clear z0 z1 zf zl hb BV BQ B7 Rxs Rys Rzs B8
                  generalize ((wA.setCell ⟨g8, 0, none⟩ (.int .i64 en1)).setCell ⟨g8, 1, none⟩ (.int .i64 en2)) = wS at *
                  have BV := SBV
                  have BQ := SBQ
                  have B7 := SB7
                  have Rxs := SRxs
                  have Rys := SRys
                  have Rzs := SRzs
                  have hb := Shb
                  have B8 := SB8
                  clear SBV SBQ SB7 SRxs SRys SRzs Shb SB8
                  refine tk 13 17 ?_
                  refine wpAnyH_done (by kernel_rfl) ?_ _
                  clear hHeld
                  (try go_wp2_with fail)
                  go_meet
                  case rel => exact ⟨g8, rfl, rfl, B8, BV, BQ, B7, Rxs, Rys, Rzs, hb⟩
                · go_simp
                  (try go_wp2_with fail)
                  refine hko hK (Blk.f4 (BV.alloc (.cells #[.int .i64 0, .int .i64 0] 35)) (Blk.l2 (BQ.alloc (.cells #[.int .i64 0, .int .i64 0] 35)))) fun hHeld => ?_
                  clear hK K
                  have B8 := Blk.new w5 #[.int .i64 0, .int .i64 0] 35
                  have h8 : w.heap.size ≤ w5.heap.size := hb.size
                  have l_BV := BV.lt
                  have l_BQ := BQ.lt
                  have l_B7 := B7.lt
                  have l_Rxs := Rxs.lt
                  have l_Rys := Rys.lt
                  have l_Rzs := Rzs.lt
                  replace BV := BV.alloc (.cells #[.int .i64 0, .int .i64 0] 35)
                  replace BQ := BQ.alloc (.cells #[.int .i64 0, .int .i64 0] 35)
                  replace B7 := B7.alloc (.cells #[.int .i64 0, .int .i64 0] 35)
                  replace Rxs := Rxs.alloc (.cells #[.int .i64 0, .int .i64 0] 35)
                  replace Rys := Rys.alloc (.cells #[.int .i64 0, .int .i64 0] 35)
                  replace Rzs := Rzs.alloc (.cells #[.int .i64 0, .int .i64 0] 35)
                  replace hb := chain_alloc hb (.cells #[.int .i64 0, .int .i64 0] 35)
                  generalize w5.alloc (.cells #[.int .i64 0, .int .i64 0] 35) = wA at *
                  generalize w5.heap.size = g8 at *
                  refine rdk 7 55 fun K hK => ?_
                  go_simp
                  refine (HIM.out _ _ _ _ Rxs Rys Rzs).mono ?_
                  rintro e w7 ⟨rfl, hb7⟩
                  replace BV := BV.below hb7
                  replace BQ := BQ.below hb7
                  replace B7 := B7.below hb7
                  replace Rxs := Rxs.below hb7
                  replace Rys := Rys.below hb7
                  replace Rzs := Rzs.below hb7
                  replace B8 := B8.below hb7
                  replace hb := chain hb hb7
                  clear hb7
                  (try go_wp2_with fail)
                  refine hko hK (Blk.f4 BV (Blk.l2 BQ)) fun hHeld => ?_
                  clear hK K
                  refine tk 8 47 ?_
                  refine tk 9 56 ?_
                  refine tk 10 57 ?_
                  refine rdn 12 fun K hK => ?_
                  clear hHeld
                  obtain ⟨z0, z1, zf, zl⟩ := B8.two
                  have SBV := BV.far2 (B := g8) (by omega) (.int .i64 en1) (.int .i64 en2)
                  have SBQ := BQ.far2 (B := g8) (by omega) (.int .i64 en1) (.int .i64 en2)
                  have SB7 := B7.far2 (B := g8) (by omega) (.int .i64 en1) (.int .i64 en2)
                  have SRxs := (Rxs.other (g := g8) (o := 0) (v := .int .i64 en1) (by omega)).other (g := g8) (o := 1) (v := .int .i64 en2) (by omega)
                  have SRys := (Rys.other (g := g8) (o := 0) (v := .int .i64 en1) (by omega)).other (g := g8) (o := 1) (v := .int .i64 en2) (by omega)
                  have SRzs := (Rzs.other (g := g8) (o := 0) (v := .int .i64 en1) (by omega)).other (g := g8) (o := 1) (v := .int .i64 en2) (by omega)
                  have Shb := belowFar2 hb (B := g8) (by omega) (.int .i64 en1) (.int .i64 en2)
                  have SB8 := B8.set2 (.int .i64 en1) (.int .i64 en2)
                  go_simp
                  (try go_wp2_with fail)
                  refine hko hK (Blk.f4 SBV (Blk.l2 SBQ)) fun hHeld => ?_
                  clear hK K
                  clear z0 z1 zf zl hb BV BQ B7 Rxs Rys Rzs B8
                  generalize ((w7.setCell ⟨g8, 0, none⟩ (.int .i64 en1)).setCell ⟨g8, 1, none⟩ (.int .i64 en2)) = wS at *
                  have BV := SBV
                  have BQ := SBQ
                  have B7 := SB7
                  have Rxs := SRxs
                  have Rys := SRys
                  have Rzs := SRzs
                  have hb := Shb
                  have B8 := SB8
                  clear SBV SBQ SB7 SRxs SRys SRzs Shb SB8
                  refine tk 13 17 ?_
                  refine wpAnyH_done (by kernel_rfl) ?_ _
                  clear hHeld
                  (try go_wp2_with fail)
                  go_meet
                  case rel => exact ⟨g8, rfl, rfl, B8, BV, BQ, B7, Rxs, Rys, Rzs, hb⟩
              · go_simp
                (try go_wp2_with fail)
                refine hko hK (Blk.f4 (BV.alloc (.cells #[.int .i64 0, .int .i64 0] 35)) (Blk.l2 (BQ.alloc (.cells #[.int .i64 0, .int .i64 0] 35)))) fun hHeld => ?_
                clear hK K
                have B8 := Blk.new w1 #[.int .i64 0, .int .i64 0] 35
                have h8 : w.heap.size ≤ w1.heap.size := hb.size
                have l_BV := BV.lt
                have l_BQ := BQ.lt
                have l_B7 := B7.lt
                have l_Rxs := Rxs.lt
                have l_Rys := Rys.lt
                have l_Rzs := Rzs.lt
                replace BV := BV.alloc (.cells #[.int .i64 0, .int .i64 0] 35)
                replace BQ := BQ.alloc (.cells #[.int .i64 0, .int .i64 0] 35)
                replace B7 := B7.alloc (.cells #[.int .i64 0, .int .i64 0] 35)
                replace Rxs := Rxs.alloc (.cells #[.int .i64 0, .int .i64 0] 35)
                replace Rys := Rys.alloc (.cells #[.int .i64 0, .int .i64 0] 35)
                replace Rzs := Rzs.alloc (.cells #[.int .i64 0, .int .i64 0] 35)
                replace hb := chain_alloc hb (.cells #[.int .i64 0, .int .i64 0] 35)
                generalize w1.alloc (.cells #[.int .i64 0, .int .i64 0] 35) = wA at *
                generalize w1.heap.size = g8 at *
                refine rdk 5 53 fun K hK => ?_
                go_simp
                refine (toRoll_same _ _ _).mono ?_
                rintro e w5 ⟨rfl, hb5⟩
                replace BV := BV.below hb5
                replace BQ := BQ.below hb5
                replace B7 := B7.below hb5
                replace Rxs := Rxs.below hb5
                replace Rys := Rys.below hb5
                replace Rzs := Rzs.below hb5
                replace B8 := B8.below hb5
                replace hb := chain hb hb5
                clear hb5
                (try go_wp2_with fail)
                refine hko hK (Blk.f4 BV (Blk.l2 BQ)) fun hHeld => ?_
                clear hK K
                refine rdk 7 55 fun K hK => ?_
                go_simp
                refine (HIM.out _ _ _ _ Rxs Rys Rzs).mono ?_
                rintro e w7 ⟨rfl, hb7⟩
                replace BV := BV.below hb7
                replace BQ := BQ.below hb7
                replace B7 := B7.below hb7
                replace Rxs := Rxs.below hb7
                replace Rys := Rys.below hb7
                replace Rzs := Rzs.below hb7
                replace B8 := B8.below hb7
                replace hb := chain hb hb7
                clear hb7
                (try go_wp2_with fail)
                refine hko hK (Blk.f4 BV (Blk.l2 BQ)) fun hHeld => ?_
                clear hK K
                refine tk 8 47 ?_
                refine tk 9 56 ?_
                refine tk 10 57 ?_
                refine rdn 12 fun K hK => ?_
                clear hHeld
                obtain ⟨z0, z1, zf, zl⟩ := B8.two
                have SBV := BV.far2 (B := g8) (by omega) (.int .i64 en1) (.int .i64 en2)
                have SBQ := BQ.far2 (B := g8) (by omega) (.int .i64 en1) (.int .i64 en2)
                have SB7 := B7.far2 (B := g8) (by omega) (.int .i64 en1) (.int .i64 en2)
                have SRxs := (Rxs.other (g := g8) (o := 0) (v := .int .i64 en1) (by omega)).other (g := g8) (o := 1) (v := .int .i64 en2) (by omega)
                have SRys := (Rys.other (g := g8) (o := 0) (v := .int .i64 en1) (by omega)).other (g := g8) (o := 1) (v := .int .i64 en2) (by omega)
                have SRzs := (Rzs.other (g := g8) (o := 0) (v := .int .i64 en1) (by omega)).other (g := g8) (o := 1) (v := .int .i64 en2) (by omega)
                have Shb := belowFar2 hb (B := g8) (by omega) (.int .i64 en1) (.int .i64 en2)
                have SB8 := B8.set2 (.int .i64 en1) (.int .i64 en2)
                go_simp
                (try go_wp2_with fail)
                refine hko hK (Blk.f4 SBV (Blk.l2 SBQ)) fun hHeld => ?_
                clear hK K
                clear z0 z1 zf zl hb BV BQ B7 Rxs Rys Rzs B8
                generalize ((w7.setCell ⟨g8, 0, none⟩ (.int .i64 en1)).setCell ⟨g8, 1, none⟩ (.int .i64 en2)) = wS at *
                have BV := SBV
                have BQ := SBQ
                have B7 := SB7
                have Rxs := SRxs
                have Rys := SRys
                have Rzs := SRzs
                have hb := Shb
                have B8 := SB8
                clear SBV SBQ SB7 SRxs SRys SRzs Shb SB8
                refine tk 13 17 ?_
                refine wpAnyH_done (by kernel_rfl) ?_ _
                clear hHeld
                (try go_wp2_with fail)
                go_meet
                case rel => exact ⟨g8, rfl, rfl, B8, BV, BQ, B7, Rxs, Rys, Rzs, hb⟩
            · go_simp
              (try go_wp2_with fail)
              refine hko hK (Blk.f4 (BV.alloc (.cells #[.int .i64 0, .int .i64 0] 35)) (Blk.l2 (BQ.alloc (.cells #[.int .i64 0, .int .i64 0] 35)))) fun hHeld => ?_
              clear hK K
              have B8 := Blk.new vd #[.int .i64 0, .int .i64 0] 35
              have h8 : w.heap.size ≤ vd.heap.size := hb.size
              have l_BV := BV.lt
              have l_BQ := BQ.lt
              have l_B7 := B7.lt
              have l_Rxs := Rxs.lt
              have l_Rys := Rys.lt
              have l_Rzs := Rzs.lt
              replace BV := BV.alloc (.cells #[.int .i64 0, .int .i64 0] 35)
              replace BQ := BQ.alloc (.cells #[.int .i64 0, .int .i64 0] 35)
              replace B7 := B7.alloc (.cells #[.int .i64 0, .int .i64 0] 35)
              replace Rxs := Rxs.alloc (.cells #[.int .i64 0, .int .i64 0] 35)
              replace Rys := Rys.alloc (.cells #[.int .i64 0, .int .i64 0] 35)
              replace Rzs := Rzs.alloc (.cells #[.int .i64 0, .int .i64 0] 35)
              replace hb := chain_alloc hb (.cells #[.int .i64 0, .int .i64 0] 35)
              generalize vd.alloc (.cells #[.int .i64 0, .int .i64 0] 35) = wA at *
              generalize vd.heap.size = g8 at *
              refine rdk 1 49 fun K hK => ?_
              go_simp
              refine (toVariant_any _ _ _ _ _).mono ?_
              rintro e w1 ⟨rfl, hb1⟩
              replace BV := BV.below hb1
              replace BQ := BQ.below hb1
              replace B7 := B7.below hb1
              replace Rxs := Rxs.below hb1
              replace Rys := Rys.below hb1
              replace Rzs := Rzs.below hb1
              replace B8 := B8.below hb1
              replace hb := chain hb hb1
              clear hb1
              (try go_wp2_with fail)
              refine hko hK (Blk.f4 BV (Blk.l2 BQ)) fun hHeld => ?_
              clear hK K
              refine rdk 5 53 fun K hK => ?_
              go_simp
              refine (toRoll_same _ _ _).mono ?_
              rintro e w5 ⟨rfl, hb5⟩
              replace BV := BV.below hb5
              replace BQ := BQ.below hb5
              replace B7 := B7.below hb5
              replace Rxs := Rxs.below hb5
              replace Rys := Rys.below hb5
              replace Rzs := Rzs.below hb5
              replace B8 := B8.below hb5
              replace hb := chain hb hb5
              clear hb5
              (try go_wp2_with fail)
              refine hko hK (Blk.f4 BV (Blk.l2 BQ)) fun hHeld => ?_
              clear hK K
              refine rdk 7 55 fun K hK => ?_
              go_simp
              refine (HIM.out _ _ _ _ Rxs Rys Rzs).mono ?_
              rintro e w7 ⟨rfl, hb7⟩
              replace BV := BV.below hb7
              replace BQ := BQ.below hb7
              replace B7 := B7.below hb7
              replace Rxs := Rxs.below hb7
              replace Rys := Rys.below hb7
              replace Rzs := Rzs.below hb7
              replace B8 := B8.below hb7
              replace hb := chain hb hb7
              clear hb7
              (try go_wp2_with fail)
              refine hko hK (Blk.f4 BV (Blk.l2 BQ)) fun hHeld => ?_
              clear hK K
              refine tk 8 47 ?_
              refine tk 9 56 ?_
              refine tk 10 57 ?_
              refine rdn 12 fun K hK => ?_
              clear hHeld
              obtain ⟨z0, z1, zf, zl⟩ := B8.two
              have SBV := BV.far2 (B := g8) (by omega) (.int .i64 en1) (.int .i64 en2)
              have SBQ := BQ.far2 (B := g8) (by omega) (.int .i64 en1) (.int .i64 en2)
              have SB7 := B7.far2 (B := g8) (by omega) (.int .i64 en1) (.int .i64 en2)
              have SRxs := (Rxs.other (g := g8) (o := 0) (v := .int .i64 en1) (by omega)).other (g := g8) (o := 1) (v := .int .i64 en2) (by omega)
              have SRys := (Rys.other (g := g8) (o := 0) (v := .int .i64 en1) (by omega)).other (g := g8) (o := 1) (v := .int .i64 en2) (by omega)
              have SRzs := (Rzs.other (g := g8) (o := 0) (v := .int .i64 en1) (by omega)).other (g := g8) (o := 1) (v := .int .i64 en2) (by omega)
              have Shb := belowFar2 hb (B := g8) (by omega) (.int .i64 en1) (.int .i64 en2)
              have SB8 := B8.set2 (.int .i64 en1) (.int .i64 en2)
              go_simp
              (try go_wp2_with fail)
              refine hko hK (Blk.f4 SBV (Blk.l2 SBQ)) fun hHeld => ?_
              clear hK K
              clear z0 z1 zf zl hb BV BQ B7 Rxs Rys Rzs B8
              generalize ((w7.setCell ⟨g8, 0, none⟩ (.int .i64 en1)).setCell ⟨g8, 1, none⟩ (.int .i64 en2)) = wS at *
              have BV := SBV
              have BQ := SBQ
              have B7 := SB7
              have Rxs := SRxs
              have Rys := SRys
              have Rzs := SRzs
              have hb := Shb
              have B8 := SB8
              clear SBV SBQ SB7 SRxs SRys SRzs Shb SB8
              refine tk 13 17 ?_
              refine wpAnyH_done (by kernel_rfl) ?_ _
              clear hHeld
              (try go_wp2_with fail)
              go_meet
              case rel => exact ⟨g8, rfl, rfl, B8, BV, BQ, B7, Rxs, Rys, Rzs, hb⟩
          case rest =>
            clear BV BQ hb B7 Rxs Rys Rzs
            obtain ⟨g9, rfl, rfl, B9, BV, BQ, B7, Rxs, Rys, Rzs, hb⟩ := hcut
            obtain ⟨q0_B7, q1_B7, qf_B7, ql_B7⟩ := B7.two
            obtain ⟨q0_B9, q1_B9, qf_B9, ql_B9⟩ := B9.two
            go_wp2_with fail
            clear q0_B7 q1_B7 qf_B7 ql_B7
            clear q0_B9 q1_B9 qf_B9 ql_B9
            refine (eqExact_same _ _ _).mono ?_
            rintro e w61 ⟨rfl, hb61⟩
            replace B7 := B7.below hb61
            replace B9 := B9.below hb61
            replace Rxs := Rxs.below hb61
            replace Rys := Rys.below hb61
            replace Rzs := Rzs.below hb61
            have hz61 := hb61.size
            replace hb := chain hb hb61
            clear hb61
            obtain ⟨q0_B7, q1_B7, qf_B7, ql_B7⟩ := B7.two
            obtain ⟨q0_B9, q1_B9, qf_B9, ql_B9⟩ := B9.two
            go_wp2_with fail
            clear q0_B7 q1_B7 qf_B7 ql_B7
            clear q0_B9 q1_B9 qf_B9 ql_B9
            refine (HT_xs.out _ (r_xs.below hb)).mono ?_
            rintro e w62 ⟨gp_xs, rfl, hg62, Q_xs, hb62⟩
            replace B7 := B7.below hb62
            replace B9 := B9.below hb62
            replace Rxs := Rxs.below hb62
            replace Rys := Rys.below hb62
            replace Rzs := Rzs.below hb62
            have hz62 := hb62.size
            replace hb := chain hb hb62
            clear hb62
            obtain ⟨q0_B7, q1_B7, qf_B7, ql_B7⟩ := B7.two
            obtain ⟨q0_B9, q1_B9, qf_B9, ql_B9⟩ := B9.two
            go_wp2_with fail
            clear q0_B7 q1_B7 qf_B7 ql_B7
            clear q0_B9 q1_B9 qf_B9 ql_B9
            refine (eqInt64S_same _ _ _ _ _ xs _ rfl hl_xs Rxs.irow Q_xs.irow).mono ?_
            rintro e w63 ⟨rfl, hb63⟩
            replace B7 := B7.below hb63
            replace B9 := B9.below hb63
            replace Rxs := Rxs.below hb63
            replace Rys := Rys.below hb63
            replace Rzs := Rzs.below hb63
            replace Q_xs := Q_xs.below hb63
            have hz63 := hb63.size
            replace hb := chain hb hb63
            clear hb63
            obtain ⟨q0_B7, q1_B7, qf_B7, ql_B7⟩ := B7.two
            obtain ⟨q0_B9, q1_B9, qf_B9, ql_B9⟩ := B9.two
            go_wp2_with fail
            clear q0_B7 q1_B7 qf_B7 ql_B7
            clear q0_B9 q1_B9 qf_B9 ql_B9
            refine (HT_ys.out _ (r_ys.below hb)).mono ?_
            rintro e w64 ⟨gp_ys, rfl, hg64, Q_ys, hb64⟩
            replace B7 := B7.below hb64
            replace B9 := B9.below hb64
            replace Rxs := Rxs.below hb64
            replace Rys := Rys.below hb64
            replace Rzs := Rzs.below hb64
            replace Q_xs := Q_xs.below hb64
            have hz64 := hb64.size
            replace hb := chain hb hb64
            clear hb64
            obtain ⟨q0_B7, q1_B7, qf_B7, ql_B7⟩ := B7.two
            obtain ⟨q0_B9, q1_B9, qf_B9, ql_B9⟩ := B9.two
            go_wp2_with fail
            clear q0_B7 q1_B7 qf_B7 ql_B7
            clear q0_B9 q1_B9 qf_B9 ql_B9
            refine (eqInt64S_same _ _ _ _ _ ys _ rfl hl_ys Rys.irow Q_ys.irow).mono ?_
            rintro e w65 ⟨rfl, hb65⟩
            replace B7 := B7.below hb65
            replace B9 := B9.below hb65
            replace Rxs := Rxs.below hb65
            replace Rys := Rys.below hb65
            replace Rzs := Rzs.below hb65
            replace Q_xs := Q_xs.below hb65
            replace Q_ys := Q_ys.below hb65
            have hz65 := hb65.size
            replace hb := chain hb hb65
            clear hb65
            obtain ⟨q0_B7, q1_B7, qf_B7, ql_B7⟩ := B7.two
            obtain ⟨q0_B9, q1_B9, qf_B9, ql_B9⟩ := B9.two
            go_wp2_with fail
            clear q0_B7 q1_B7 qf_B7 ql_B7
            clear q0_B9 q1_B9 qf_B9 ql_B9
            refine (HT_zs.out _ (r_zs.below hb)).mono ?_
            rintro e w66 ⟨gp_zs, rfl, hg66, Q_zs, hb66⟩
            replace B7 := B7.below hb66
            replace B9 := B9.below hb66
            replace Rxs := Rxs.below hb66
            replace Rys := Rys.below hb66
            replace Rzs := Rzs.below hb66
            replace Q_xs := Q_xs.below hb66
            replace Q_ys := Q_ys.below hb66
            have hz66 := hb66.size
            replace hb := chain hb hb66
            clear hb66
            obtain ⟨q0_B7, q1_B7, qf_B7, ql_B7⟩ := B7.two
            obtain ⟨q0_B9, q1_B9, qf_B9, ql_B9⟩ := B9.two
            go_wp2_with fail
            clear q0_B7 q1_B7 qf_B7 ql_B7
            clear q0_B9 q1_B9 qf_B9 ql_B9
            refine (eqInt64S_same _ _ _ _ _ zs _ rfl hl_zs Rzs.irow Q_zs.irow).mono ?_
            rintro e w67 ⟨rfl, hb67⟩
            replace B7 := B7.below hb67
            replace B9 := B9.below hb67
            replace Rxs := Rxs.below hb67
            replace Rys := Rys.below hb67
            replace Rzs := Rzs.below hb67
            replace Q_xs := Q_xs.below hb67
            replace Q_ys := Q_ys.below hb67
            replace Q_zs := Q_zs.below hb67
            have hz67 := hb67.size
            replace hb := chain hb hb67
            clear hb67
            obtain ⟨q0_B7, q1_B7, qf_B7, ql_B7⟩ := B7.two
            obtain ⟨q0_B9, q1_B9, qf_B9, ql_B9⟩ := B9.two
            go_wp2_with fail
            go_ret
            exact ⟨rfl, hb⟩
      · have hl_zs' : ¬ (zs.length : Int) ≤ 1048576 := by omega
        go_enter Tryz.func9, Tryz.ntmps9
        go_wp2_with fail
        go_ret
        exact ⟨rfl, hb⟩
    · have hl_ys' : ¬ (ys.length : Int) ≤ 1048576 := by omega
      go_enter Tryz.func9, Tryz.ntmps9
      go_wp2_with fail
      go_ret
      exact ⟨rfl, hb⟩
  · have hl_xs' : ¬ (xs.length : Int) ≤ 1048576 := by omega
    go_enter Tryz.func9, Tryz.ntmps9
    go_wp2_with fail
    go_ret
    exact ⟨rfl, hb⟩
set_option maxRecDepth 100000 in
theorem fnExactRaceLoss_lifted (os : Os) (started : os.Started) (H : Type) (enc : TypeId × Value → H) :
    ReturnsInHanded {} Tryz.checked os 9 .any (Rows.fnExactRaceLossSpec.pre6 enc Tryz.prog Tryz.f9 Rows.fnExactRaceLossRow.domain false) (Rows.fnExactRaceLossSpec.post enc Tryz.prog Tryz.f9 false true false false) := by
  refine returnsInHanded_of_change (C := Tryz.checked) own started (by kernel_rfl) Tryz.func9
    (ChangeSpec.witness6 (enc := enc) (C := Tryz.checked) false ⟨#[], #[.agg #[.int .i64 0, .int .i64 0, .int .i64 0, .int .i64 0], .slice none 0 0, .slice none 0 0, .agg #[.int .i64 0, .int .i64 0], .slice none 0 0], []⟩ 8 (by kernel_rfl) (by kernel_rfl) (by kernel_rfl) (by kernel_rfl)) ?_
  intro W base args ds gs before hval0 hW hcnd _
  have hval : ∀ (j : Nat) t v, Tryz.f9.params[j]? = some t → args[j]? = some v → Value.okWide Tryz.prog W .any base t v := hval0
  have hW' := hW
  obtain ⟨p, q, hA0, hV, rfl, hfz, hnd⟩ := hW
  have hA : DataW.TrodAll enc Tryz.prog W 0 (fun _ => true) true Tryz.f9.params.toList args.toList ds p := hA0
  rw [Tryz.params9] at hA hval
  obtain ⟨v0, vs0, d0, ds0, p0, q0, hargs, rfl, rfl, h0, r0⟩ := trodAll_cons hA
  obtain ⟨v1, vs1, d1, ds1, p1, q1, rfl, rfl, rfl, h1, r1⟩ := trodAll_cons r0
  obtain ⟨v2, vs2, d2, ds2, p2, q2, rfl, rfl, rfl, h2, r2⟩ := trodAll_cons r1
  obtain ⟨v3, vs3, d3, ds3, p3, q3, rfl, rfl, rfl, h3, r3⟩ := trodAll_cons r2
  obtain ⟨v4, vs4, d4, ds4, p4, q4, rfl, rfl, rfl, h4, r4⟩ := trodAll_cons r3
  obtain ⟨rfl, rfl, rfl⟩ := trodAll_nil r4
  obtain rfl : args = #[v0, v1, v2, v3, v4] := by cases args; simp_all
  obtain ⟨rfl, rfl⟩ := trodVars_none hV
  have k0 := h0
  have lt0 : ∀ x ∈ p0, x.block < W.heap.size := by obtain ⟨m, hm⟩ := k0; exact DataW.trod_lt m _ _ _ hm
  have k1 := h1
  have lt1 : ∀ x ∈ p1, x.block < W.heap.size := by obtain ⟨m, hm⟩ := k1; exact DataW.trod_lt m _ _ _ hm
  have k2 := h2
  have lt2 : ∀ x ∈ p2, x.block < W.heap.size := by obtain ⟨m, hm⟩ := k2; exact DataW.trod_lt m _ _ _ hm
  have k3 := h3
  have lt3 : ∀ x ∈ p3, x.block < W.heap.size := by obtain ⟨m, hm⟩ := k3; exact DataW.trod_lt m _ _ _ hm
  have k4 := h4
  have lt4 : ∀ x ∈ p4, x.block < W.heap.size := by obtain ⟨m, hm⟩ := k4; exact DataW.trod_lt m _ _ _ hm
  obtain ⟨x0_0, x1_0, x2_0, x3_0, y0_0, y1_0, y2_0, y3_0, m_0, rfl, _, _, hy0_0, hy1_0, hy2_0, hy3_0⟩ := Joins.open_agg4 Tryz.underlying52 (by kernel_rfl) (show Tryz.prog.cellsOf 52 = 4 by kernel_rfl) (hval 0 52 v0 rfl rfl) h0
  obtain ⟨a0_0, e0_0, _, wa0_0⟩ := DataW.trod_int Tryz.underlying2 hy0_0
  obtain ⟨a1_0, e1_0, _, wa1_0⟩ := DataW.trod_int Tryz.underlying2 hy1_0
  obtain ⟨a2_0, e2_0, _, wa2_0⟩ := DataW.trod_int Tryz.underlying2 hy2_0
  obtain ⟨a3_0, e3_0, _, wa3_0⟩ := DataW.trod_int Tryz.underlying2 hy3_0
  simp at e0_0 e1_0 e2_0 e3_0
  subst e0_0 e1_0 e2_0 e3_0
  obtain ⟨sa_1, sl_1, sc_1, rfl⟩ := okWide_slice Tryz.underlying26 (hval 1 26 v1 rfl rfl)
  obtain ⟨ra_1, rn_1, rc_1, rx_1, hv_1, rl_1, rm_1, rr_1, rw_1⟩ : ∃ (a : Option Addr) (n cap : Nat) (xs : List Int), Value.slice sa_1 sl_1 sc_1 = .slice a n cap ∧ xs.length = n ∧ n ≤ 9223372036854775807 ∧ IRow W a xs ∧ ∀ y ∈ xs, (Lit.int .i64 y).wf = true := by
    obtain ⟨fuel, hf⟩ := h1
    exact open_row hf
  simp only [Value.slice.injEq] at hv_1
  obtain ⟨rfl, rfl, rfl⟩ := hv_1
  obtain ⟨sa_2, sl_2, sc_2, rfl⟩ := okWide_slice Tryz.underlying26 (hval 2 26 v2 rfl rfl)
  obtain ⟨ra_2, rn_2, rc_2, rx_2, hv_2, rl_2, rm_2, rr_2, rw_2⟩ : ∃ (a : Option Addr) (n cap : Nat) (xs : List Int), Value.slice sa_2 sl_2 sc_2 = .slice a n cap ∧ xs.length = n ∧ n ≤ 9223372036854775807 ∧ IRow W a xs ∧ ∀ y ∈ xs, (Lit.int .i64 y).wf = true := by
    obtain ⟨fuel, hf⟩ := h2
    exact open_row hf
  simp only [Value.slice.injEq] at hv_2
  obtain ⟨rfl, rfl, rfl⟩ := hv_2
  obtain ⟨x0_3, x1_3, y0_3, y1_3, m_3, rfl, _, _, hy0_3, hy1_3⟩ := Joins.open_agg2 Tryz.underlying53 (by kernel_rfl) (show Tryz.prog.cellsOf 53 = 2 by kernel_rfl) (hval 3 53 v3 rfl rfl) h3
  obtain ⟨a0_3, e0_3, _, wa0_3⟩ := DataW.trod_int Tryz.underlying2 hy0_3
  obtain ⟨a1_3, e1_3, _, wa1_3⟩ := DataW.trod_int Tryz.underlying2 hy1_3
  simp at e0_3 e1_3
  subst e0_3 e1_3
  obtain ⟨sa_4, sl_4, sc_4, rfl⟩ := okWide_slice Tryz.underlying26 (hval 4 26 v4 rfl rfl)
  obtain ⟨ra_4, rn_4, rc_4, rx_4, hv_4, rl_4, rm_4, rr_4, rw_4⟩ : ∃ (a : Option Addr) (n cap : Nat) (xs : List Int), Value.slice sa_4 sl_4 sc_4 = .slice a n cap ∧ xs.length = n ∧ n ≤ 9223372036854775807 ∧ IRow W a xs ∧ ∀ y ∈ xs, (Lit.int .i64 y).wf = true := by
    obtain ⟨fuel, hf⟩ := h4
    exact open_row hf
  simp only [Value.slice.injEq] at hv_4
  obtain ⟨rfl, rfl, rfl⟩ := hv_4
  clear hA0 hval0
  refine (fnExactRaceLoss_walk a0_0 a1_0 a2_0 a3_0 sa_1 sl_1 sc_1 rx_1 sa_2 sl_2 sc_2 rx_2 a0_3 a1_3 sa_4 sl_4 sc_4 rx_4 W rl_1 rm_1 rr_1 rl_2 rm_2 rr_2 rl_4 rm_4 rr_4).mono fun e W' ⟨he, bel⟩ => ?_
  subst he
  exact ⟨_, rfl, _, _, _, [], _, [], hW', trodAll_mk1 (shut_bool Tryz.underlying4 _), (trodAll_cons_mk (Below.trod laidOut (by kernel_rfl) (of_decide_eq_true (by kernel_rfl)) k0 bel lt0) (trodAll_cons_mk (Below.trod laidOut (by kernel_rfl) (of_decide_eq_true (by kernel_rfl)) k1 bel lt1) (trodAll_cons_mk (Below.trod laidOut (by kernel_rfl) (of_decide_eq_true (by kernel_rfl)) k2 bel lt2) (trodAll_cons_mk (Below.trod laidOut (by kernel_rfl) (of_decide_eq_true (by kernel_rfl)) k3 bel lt3) (trodAll_cons_mk (Below.trod laidOut (by kernel_rfl) (of_decide_eq_true (by kernel_rfl)) k4 bel lt4) trodAll_mk0))))), rfl, bel.frame _, fun h => by cases h⟩
theorem fnExactRaceLoss_holds : Rows.FnExactRaceLossSaid :=
  OpenClaim.holds_of_wide 9 Tryz.f9 rfl rfl rfl rfl rfl rfl rfl ⟨rfl, rfl, rfl, rfl, rfl⟩ rfl rfl rfl rfl rfl (by kernel_rfl) Tryz.func9 (by kernel_rfl)
    (of_decide_eq_true (by kernel_rfl)) (by unfold Func.isWrapper; first | (rw [if_pos (by decide +kernel)]; kernel_rfl) | (rw [if_neg (by decide +kernel)]; exact ⟨rfl, rfl⟩))
    (fun os started H enc _ => fnExactRaceLoss_lifted os started H enc)
end Go.Proofs.YtlnljfbdicgkcaaGreat
