/- The law of chapter 4 on steps and their undoing holds: for every code the law returns true and the code reads behind the call as it read before. No conditions. -/
import Derived.Test.YtjglempkmenacaaDraw7
import Derived.Test.YtjglempkmenacaaLike
import Derived.Test.YtjglempkmenacaaStepM
import Derived.Test.Ytjglempkmenacaa04w
import Derived.Test.Ytjglempkmenacaa04x
import Derived.Test.YtjglempkmenacaaImpl02d
import Derived.Test.YtjglempkmenacaaOpen
import Derived.ChangeOld
namespace Go.Proofs.Ytjglempkmenacaa
open Go.ChangeMaps (open_string shut_string)
open Go.ChangeShapes Go.WideShapes Go.ChangeAt Go.RowKit
set_option linter.unusedVariables false
set_option linter.unusedSimpArgs false
set_option maxRecDepth 4000

theorem code_of_ints {w : World} {x : Addr} {len : Nat} {zs : List Int} (hl : len ≤ zs.length) (_hz : True) (hcell : ∀ i, i < zs.length → w.cell? (x.add i) = some (.int .u8 (zs.getD i 0))) (hwz : ∀ n ∈ zs, (Lit.int .u8 n).wf = true) : CodeIn w.heap.size w (some x) len := by
  intro i hi
  obtain ⟨b, o, spot⟩ := x
  have hc := hcell i (by omega)
  have hspot : spot = none := by
    have hc0 := hcell 0 (by omega)
    simpa [Addr.add] using World.cell?_spot hc0
  subst hspot
  rw [show (⟨b, o, none⟩ : Addr).add i = ⟨b, o + i, none⟩ from by unfold Addr.add; split <;> simp_all] at hc
  have hm : zs.getD i 0 ∈ zs := by
    have : i < zs.length := by omega
    simp [List.getD, this]
  have hw := hwz _ hm
  have hr : 0 ≤ zs.getD i 0 ∧ zs.getD i 0 ≤ 255 := by simpa [Lit.wf, IntKind.min, IntKind.max, IntKind.signed, IntKind.bits] using hw
  exact ⟨b, o, zs.getD i 0, rfl, World.block_lt_of_cell? w _ hc, hc, hr.1, hr.2⟩
set_option maxRecDepth 8000 in
set_option maxHeartbeats 3000000 in
theorem fnStepBack_walk (a : Option Addr) (len cap : Nat) (w : World) (hcode : CodeIn w.heap.size w a len) :
    Calls Try.prog 3 #[.slice a len cap] w fun e w' => e = .returned (.bool true) ∧ Below w.heap.size w w' := by
  by_cases hbig : 4096 < len
  · have f0 : decide (4096 < (len : Int)) = true := by simp; omega
    go_enter Try.func3, Try.ntmps3
    go_wp2_with fail
    refine (big_any _ _ _ _).mono ?_
    rintro e w1 ⟨rfl, rfl⟩
    go_wp2
    go_ret
    exact ⟨rfl, Below.refl _ _⟩
  · have f0 : decide (4096 < (len : Int)) = false := by simp; omega
    go_enter Try.func3, Try.ntmps3
    go_wp2_with fail
    refine (big_any _ _ _ _).mono ?_
    rintro e w0 ⟨rfl, rfl⟩
    go_wp2_with fail
    refine (drawApply_any w.heap.size a len cap w (Nat.le_refl _) (by omega) hcode).mono ?_
    rintro e w1 ⟨p, c, h, s, g1, g2, n1, n2, c1, c2, xs, ys, ⟨ta, tb, td, tq⟩, rfl, hx, hy, l1, l2, R1, R2, hb⟩
    subst hx hy
    replace l1 : xs.length ≤ 1048576 := by omega
    replace l2 : ys.length ≤ 1048576 := by omega
    dsimp only [stV]
    obtain ⟨BV, BB, BS, hb2, hz⟩ := three_new w1 #[.int .i64 p, .int .i64 c, .int .i64 h, .int .i64 s] #[.slice (some ⟨g1, 0, none⟩) xs.length c1, .slice (some ⟨g2, 0, none⟩) ys.length c2] #[.int .i64 ta, .int .i64 tb, .int .i64 td, .bool tq] 25 28 30
    have r1 := R1.irow.below hb2
    have r2 := R2.irow.below hb2
    have hg2c := R2.below hb2
    replace hb := chain hb hb2
    clear hb2 R1 R2 f0 hz
    obtain ⟨x0, x1, x2, x3, xf, xl⟩ := BV.four
    obtain ⟨y0, y1, yf, yl⟩ := BB.two
    obtain ⟨z0, z1, z2, z3, zf, zl⟩ := BS.four
    go_wp2_with fail
    clear x0 x1 x2 x3 xf xl y0 y1 yf yl z0 z1 z2 z3 zf zl
    generalize (((w1.alloc (.cells #[.int .i64 p, .int .i64 c, .int .i64 h, .int .i64 s] 25)).alloc (.cells #[.slice (some ⟨g1, 0, none⟩) xs.length c1, .slice (some ⟨g2, 0, none⟩) ys.length c2] 28)).alloc (.cells #[.int .i64 ta, .int .i64 tb, .int .i64 td, .bool tq] 30)) = v1 at *
    generalize w1.heap.size = bV at *
    have ha1 := fun W (q1 : IRow W (some ⟨g1, 0, none⟩) xs) (q2 : IRow W (some ⟨g2, 0, none⟩) ys) => applyStep_any (ta, tb, td, tq) p c h s (some ⟨g1, 0, none⟩) (some ⟨g2, 0, none⟩) xs.length ys.length c1 c2 xs ys W rfl rfl l1 l2 q1 q2
    have ha2 := fun W (q1 : IRow W (some ⟨g1, 0, none⟩) xs) (q2 : IRow W (some ⟨g2, 0, none⟩) ys) => specApplyStep_any (ta, tb, td, tq) p c h s (some ⟨g1, 0, none⟩) (some ⟨g2, 0, none⟩) xs.length ys.length c1 c2 xs ys W rfl rfl l1 l2 q1 q2
    have hil := fun W (q1 : IRow W (some ⟨g1, 0, none⟩) xs) (q2 : IRow W (some ⟨g2, 0, none⟩) ys) => isLegalStep_any (ta, tb, td, tq) p c h s (some ⟨g1, 0, none⟩) (some ⟨g2, 0, none⟩) xs.length ys.length c1 c2 xs ys W rfl rfl l1 l2 q1 q2
    have hle := as_length p c h s xs ys (ta, tb, td, tq)
    by_cases g : isB p c h s xs ys = true ∧ legB p.toNat h s xs ys (ta, tb, td, tq) = true
    · obtain ⟨g, gl⟩ := g
      obtain ⟨p0, p1, k0, k1, k2, k3, N1, N2, hx, hy, s0, s1, s2, s3⟩ := isB_parts g
      obtain ⟨P, rfl⟩ := Int.eq_ofNat_of_zero_le (by omega : 0 ≤ p)
      rw [show ((P : Int)).toNat = P by simp] at gl
      have hs6 := isB_sides g
      obtain ⟨fB, fX, fY, fp, fq, fz⟩ := step_facts g gl
      have gpl := legB_places gl
      have eX : asX (P : Int) c h s xs ys (ta, tb, td, tq) = mvX xs ta tb 1 := by unfold asX; rw [if_pos g, show ((P : Int)).toNat = P by simp, if_pos gl]
      have eY : asY (P : Int) c h s xs ys (ta, tb, td, tq) = mvY P ys tb tq 1 := by unfold asY; rw [if_pos g, show ((P : Int)).toNat = P by simp, if_pos gl]
      have eR : asR (P : Int) c h s xs ys (ta, tb, td, tq) = 0 := by unfold asR; rw [if_pos g, show ((P : Int)).toNat = P by simp, if_pos gl]
      have eL : lgB (P : Int) c h s xs ys (ta, tb, td, tq) = true := by unfold lgB; rw [g, show ((P : Int)).toNat = P by simp, gl]; rfl
      rw [eX, eY, eR] at ha1 ha2
      rw [eX, eY] at hle
      rw [eL] at hil
      have hp1 := fun W (q1 : IRow W (some ⟨g1, 0, none⟩) xs) (q2 : IRow W (some ⟨g2, 0, none⟩) ys) => pipCounts_any (P : Int) c h s (some ⟨g1, 0, none⟩) (some ⟨g2, 0, none⟩) xs.length ys.length c1 c2 xs ys W rfl rfl l1 l2 q1 q2
      rw [if_pos g] at hp1
      have hyb := (hy _ (getD_mem (show P < ys.length by omega)))
      have eXl := mvX_length xs ta tb 1
      have eYl := mvY_length P ys tb tq 1
      obtain ⟨X, hX⟩ : ∃ X, mvX xs ta tb 1 = X := ⟨_, rfl⟩
      obtain ⟨Y, hY⟩ : ∃ Y, mvY P ys tb tq 1 = Y := ⟨_, rfl⟩
      rw [hX, hY] at ha1 ha2 fB hle
      rw [hX] at fX eXl fp
      rw [hY] at fY eYl fq fz
      have eok : udOk (P : Int) c h s X Y (ta, tb, td, tq) = true := by
        unfold udOk
        rw [gpl, show ((P : Int)).toNat = P by simp]
        dsimp only
        rw [fX, fY, eL]
        rfl
      have uX : udX (P : Int) c h s X Y (ta, tb, td, tq) = xs := by unfold udX; rw [if_pos fB, if_pos eok]; exact fX
      have uY : udY (P : Int) c h s X Y (ta, tb, td, tq) = ys := by unfold udY; rw [if_pos fB, if_pos eok, show ((P : Int)).toNat = P by simp]; exact fY
      have uR : udR (P : Int) c h s X Y (ta, tb, td, tq) = 0 := by unfold udR; rw [if_pos fB, if_pos eok]
      have hu := fun W d1 d2 k1 k2 (q1 : IRow W d1 X) (q2 : IRow W d2 Y) => undoStep_any (ta, tb, td, tq) (P : Int) c h s d1 d2 X.length Y.length k1 k2 X Y W rfl rfl hle.1 hle.2 q1 q2
      rw [uX, uY, uR] at hu
      have hsb := fun W d1 d2 k1 k2 (q1 : IRow W d1 X) (q2 : IRow W d2 Y) => specIsBoard_any (P : Int) c h s d1 d2 X.length Y.length k1 k2 X Y W rfl rfl hle.1 hle.2 q1 q2
      rw [fB] at hsb
      have hp2 := fun W d1 d2 k1 k2 (q1 : IRow W d1 X) (q2 : IRow W d2 Y) => pipCounts_any (P : Int) c h s d1 d2 X.length Y.length k1 k2 X Y W rfl rfl hle.1 hle.2 q1 q2
      rw [if_pos fB] at hp2
      obtain ⟨-, -, -, -, -, -, M1, M2, hX0, hY0, -, -, -, -⟩ := isB_parts fB
      have bp1 := pipsL_bound xs hx xs.length (Nat.le_refl _) (by omega)
      have bp2 := pipsL_bound ys hy ys.length (Nat.le_refl _) (by omega)
      have bp3 := pipsL_bound X hX0 X.length (Nat.le_refl _) (by omega)
      have bp4 := pipsL_bound Y hY0 Y.length (Nat.le_refl _) (by omega)
      have hYb := (hY0 _ (getD_mem (show P < Y.length by omega)))
      obtain ⟨PX, hPX⟩ : ∃ z, pipsL xs xs.length = z := ⟨_, rfl⟩
      obtain ⟨PY, hPY⟩ : ∃ z, pipsL ys ys.length = z := ⟨_, rfl⟩
      obtain ⟨QX, hQX⟩ : ∃ z, pipsL X X.length = z := ⟨_, rfl⟩
      obtain ⟨QY, hQY⟩ : ∃ z, pipsL Y Y.length = z := ⟨_, rfl⟩
      obtain ⟨ZP, hZP⟩ : ∃ z, ys.getD P 0 = z := ⟨_, rfl⟩
      obtain ⟨YP, hYP⟩ : ∃ z, Y.getD P 0 = z := ⟨_, rfl⟩
      rw [hPX, hPY] at hp1
      rw [hQX, hQY] at hp2
      rw [hPX, hQX] at fp
      rw [hPY, hQY] at fq
      rw [hZP, hYP] at fz
      rw [hZP] at hyb
      rw [hYP] at hYb
      rw [hPX] at bp1
      rw [hPY] at bp2
      rw [hQX] at bp3
      rw [hQY] at bp4
      have wz1 : IntKind.i64.wrap (PX - QX) = PX - QX := IntWalk.i64_in _ (by omega)
      have wz2 : IntKind.i64.wrap (YP - ZP) = YP - ZP := IntWalk.i64_in _ (by omega)
      have WZ2 := Lib.hid wz2
      clear wz2
      have i1 : (P : Int) < (Y.length : Int) := by omega
      have i2 : (P : Int) < (ys.length : Int) := by omega
      have i3 : (0 : Int) ≤ (P : Int) := by omega
      have fp1 := fp.1
      have fp2 := fp.2
      have f1 : decide (PX - QX < 1) = false := by simp; omega
      have f2 : decide (td < PX - QX) = false := by simp; omega
      have lX := hle.1
      have lY := hle.2
      have iYn : P < Y.length := by omega
      have iyn : P < ys.length := by omega
      have HA1 := Lib.hid ha1
      have HA2 := Lib.hid ha2
      have HIL := Lib.hid hil
      have HP1 := Lib.hid hp1
      have HP2 := Lib.hid hp2
      have HU := Lib.hid hu
      have HSB := Lib.hid hsb
      have HQ := Lib.hid fq
      have HZ := Lib.hid fz
      have HYP := Lib.hid hYP
      have HZP := Lib.hid hZP
      clear ha1 ha2 hil hp1 hp2 hu hsb fq fz hYP hZP hPX hPY hQX hQY bp1 bp2 bp3 bp4 hle eX eY eR eL g gl gpl fB fX fY eok uX uY uR hX hY hx hy hX0 hY0 eXl eYl N1 N2 M1 M2 fp hyb hYb s0 s1 s2 s3
      have hbm : Below v1.heap.size v1 v1 := Below.refl _ _
      refine (HA1.out _ r1 r2).mono ?_
      rintro e wn ⟨d1, d2, k1, k2, rfl, O1, hbn⟩
      replace BV := BV.below hbn
      replace BB := BB.below hbn
      replace BS := BS.below hbn
      replace r1 := r1.below hbn
      replace r2 := r2.below hbn
      replace hg2c := hg2c.below hbn
      have hzn := hbn.size
      replace hb := chain hb hbn
      clear hbn hzn
      have BC := Blk.new wn #[.slice d1 X.length k1, .slice d2 Y.length k2] 28
      have hal : Below wn.heap.size wn (wn.alloc (.cells #[.slice d1 X.length k1, .slice d2 Y.length k2] 28)) := (Below.refl _ _).alloc (Nat.le_refl _) _
      replace BV := BV.below hal
      replace BB := BB.below hal
      replace BS := BS.below hal
      replace r1 := r1.below hal
      replace r2 := r2.below hal
      replace hg2c := hg2c.below hal
      replace O1 := O1.below hal
      have hzn := hal.size
      replace hb := chain hb hal
      clear hal hzn
      obtain ⟨z0_BV, z1_BV, z2_BV, z3_BV, zf_BV, zl_BV⟩ := BV.four
      obtain ⟨z0_BB, z1_BB, zf_BB, zl_BB⟩ := BB.two
      obtain ⟨z0_BS, z1_BS, z2_BS, z3_BS, zf_BS, zl_BS⟩ := BS.four
      obtain ⟨z0_BC, z1_BC, zf_BC, zl_BC⟩ := BC.two
      go_wp2_with fail
      clear z0_BV z1_BV z2_BV z3_BV zf_BV zl_BV
      clear z0_BB z1_BB zf_BB zl_BB
      clear z0_BS z1_BS z2_BS z3_BS zf_BS zl_BS
      clear z0_BC z1_BC zf_BC zl_BC
      generalize (wn.alloc (.cells #[.slice d1 X.length k1, .slice d2 Y.length k2] 28)) = v2 at *
      generalize wn.heap.size = bBC at *
      refine (HA2.out _ r1 r2).mono ?_
      rintro e wn ⟨d3, d4, k3, k4, rfl, O2, hbn⟩
      replace BV := BV.below hbn
      replace BB := BB.below hbn
      replace BS := BS.below hbn
      replace r1 := r1.below hbn
      replace r2 := r2.below hbn
      replace hg2c := hg2c.below hbn
      replace O1 := O1.below hbn
      replace BC := BC.below hbn
      have hzn := hbn.size
      replace hb := chain hb hbn
      clear hbn hzn
      have BD := Blk.new wn #[.slice d3 X.length k3, .slice d4 Y.length k4] 28
      have hal : Below wn.heap.size wn (wn.alloc (.cells #[.slice d3 X.length k3, .slice d4 Y.length k4] 28)) := (Below.refl _ _).alloc (Nat.le_refl _) _
      replace BV := BV.below hal
      replace BB := BB.below hal
      replace BS := BS.below hal
      replace r1 := r1.below hal
      replace r2 := r2.below hal
      replace hg2c := hg2c.below hal
      replace O1 := O1.below hal
      replace BC := BC.below hal
      have hzn := hal.size
      replace hb := chain hb hal
      clear hal hzn
      obtain ⟨z0_BV, z1_BV, z2_BV, z3_BV, zf_BV, zl_BV⟩ := BV.four
      obtain ⟨z0_BB, z1_BB, zf_BB, zl_BB⟩ := BB.two
      obtain ⟨z0_BS, z1_BS, z2_BS, z3_BS, zf_BS, zl_BS⟩ := BS.four
      obtain ⟨z0_BC, z1_BC, zf_BC, zl_BC⟩ := BC.two
      obtain ⟨z0_BD, z1_BD, zf_BD, zl_BD⟩ := BD.two
      go_wp2_with fail
      clear z0_BV z1_BV z2_BV z3_BV zf_BV zl_BV
      clear z0_BB z1_BB zf_BB zl_BB
      clear z0_BS z1_BS z2_BS z3_BS zf_BS zl_BS
      clear z0_BC z1_BC zf_BC zl_BC
      clear z0_BD z1_BD zf_BD zl_BD
      generalize (wn.alloc (.cells #[.slice d3 X.length k3, .slice d4 Y.length k4] 28)) = v3 at *
      generalize wn.heap.size = bBD at *
      refine (HU.out _ d1 d2 k1 k2 O1.irow1 O1.irow2).mono ?_
      rintro e wn ⟨d5, d6, k5, k6, rfl, O3, hbn⟩
      replace BV := BV.below hbn
      replace BB := BB.below hbn
      replace BS := BS.below hbn
      replace r1 := r1.below hbn
      replace r2 := r2.below hbn
      replace hg2c := hg2c.below hbn
      replace O1 := O1.below hbn
      replace BC := BC.below hbn
      replace BD := BD.below hbn
      have hzn := hbn.size
      replace hb := chain hb hbn
      clear hbn hzn
      have BK := Blk.new wn #[.slice d5 xs.length k5, .slice d6 ys.length k6] 28
      have hal : Below wn.heap.size wn (wn.alloc (.cells #[.slice d5 xs.length k5, .slice d6 ys.length k6] 28)) := (Below.refl _ _).alloc (Nat.le_refl _) _
      replace BV := BV.below hal
      replace BB := BB.below hal
      replace BS := BS.below hal
      replace r1 := r1.below hal
      replace r2 := r2.below hal
      replace hg2c := hg2c.below hal
      replace O1 := O1.below hal
      replace BC := BC.below hal
      replace BD := BD.below hal
      replace O3 := O3.below hal
      have hzn := hal.size
      replace hb := chain hb hal
      clear hal hzn
      obtain ⟨z0_BV, z1_BV, z2_BV, z3_BV, zf_BV, zl_BV⟩ := BV.four
      obtain ⟨z0_BB, z1_BB, zf_BB, zl_BB⟩ := BB.two
      obtain ⟨z0_BS, z1_BS, z2_BS, z3_BS, zf_BS, zl_BS⟩ := BS.four
      obtain ⟨z0_BC, z1_BC, zf_BC, zl_BC⟩ := BC.two
      obtain ⟨z0_BD, z1_BD, zf_BD, zl_BD⟩ := BD.two
      obtain ⟨z0_BK, z1_BK, zf_BK, zl_BK⟩ := BK.two
      go_wp2_with fail
      clear z0_BV z1_BV z2_BV z3_BV zf_BV zl_BV
      clear z0_BB z1_BB zf_BB zl_BB
      clear z0_BS z1_BS z2_BS z3_BS zf_BS zl_BS
      clear z0_BC z1_BC zf_BC zl_BC
      clear z0_BD z1_BD zf_BD zl_BD
      clear z0_BK z1_BK zf_BK zl_BK
      generalize (wn.alloc (.cells #[.slice d5 xs.length k5, .slice d6 ys.length k6] 28)) = v4 at *
      generalize wn.heap.size = bBK at *
      refine (w9Boards_same d5 d6 (some ⟨g1, 0, none⟩) (some ⟨g2, 0, none⟩) xs.length ys.length k5 k6 c1 c2 xs ys _ rfl rfl l1 l2 O3.irow1 O3.irow2 r1 r2).mono ?_
      rintro e wn ⟨rfl, hbn⟩
      replace BV := BV.below hbn
      replace BB := BB.below hbn
      replace BS := BS.below hbn
      replace r1 := r1.below hbn
      replace r2 := r2.below hbn
      replace hg2c := hg2c.below hbn
      replace O1 := O1.below hbn
      replace BC := BC.below hbn
      replace BD := BD.below hbn
      replace O3 := O3.below hbn
      replace BK := BK.below hbn
      have hzn := hbn.size
      replace hb := chain hb hbn
      clear hbn hzn
      obtain ⟨z0_BV, z1_BV, z2_BV, z3_BV, zf_BV, zl_BV⟩ := BV.four
      obtain ⟨z0_BB, z1_BB, zf_BB, zl_BB⟩ := BB.two
      obtain ⟨z0_BS, z1_BS, z2_BS, z3_BS, zf_BS, zl_BS⟩ := BS.four
      obtain ⟨z0_BC, z1_BC, zf_BC, zl_BC⟩ := BC.two
      obtain ⟨z0_BD, z1_BD, zf_BD, zl_BD⟩ := BD.two
      obtain ⟨z0_BK, z1_BK, zf_BK, zl_BK⟩ := BK.two
      go_wp2_with fail
      clear z0_BV z1_BV z2_BV z3_BV zf_BV zl_BV
      clear z0_BB z1_BB zf_BB zl_BB
      clear z0_BS z1_BS z2_BS z3_BS zf_BS zl_BS
      clear z0_BC z1_BC zf_BC zl_BC
      clear z0_BD z1_BD zf_BD zl_BD
      clear z0_BK z1_BK zf_BK zl_BK
      refine (HSB.out _ d1 d2 k1 k2 O1.irow1 O1.irow2).mono ?_
      rintro e wn ⟨rfl, hbn⟩
      replace BV := BV.below hbn
      replace BB := BB.below hbn
      replace BS := BS.below hbn
      replace r1 := r1.below hbn
      replace r2 := r2.below hbn
      replace hg2c := hg2c.below hbn
      replace O1 := O1.below hbn
      replace BC := BC.below hbn
      replace BD := BD.below hbn
      replace O3 := O3.below hbn
      replace BK := BK.below hbn
      have hzn := hbn.size
      replace hb := chain hb hbn
      clear hbn hzn
      obtain ⟨z0_BV, z1_BV, z2_BV, z3_BV, zf_BV, zl_BV⟩ := BV.four
      obtain ⟨z0_BB, z1_BB, zf_BB, zl_BB⟩ := BB.two
      obtain ⟨z0_BS, z1_BS, z2_BS, z3_BS, zf_BS, zl_BS⟩ := BS.four
      obtain ⟨z0_BC, z1_BC, zf_BC, zl_BC⟩ := BC.two
      obtain ⟨z0_BD, z1_BD, zf_BD, zl_BD⟩ := BD.two
      obtain ⟨z0_BK, z1_BK, zf_BK, zl_BK⟩ := BK.two
      go_wp2_with fail
      clear z0_BV z1_BV z2_BV z3_BV zf_BV zl_BV
      clear z0_BB z1_BB zf_BB zl_BB
      clear z0_BS z1_BS z2_BS z3_BS zf_BS zl_BS
      clear z0_BC z1_BC zf_BC zl_BC
      clear z0_BD z1_BD zf_BD zl_BD
      clear z0_BK z1_BK zf_BK zl_BK
      refine (HIL.out _ r1 r2).mono ?_
      rintro e wn ⟨rfl, hbn⟩
      replace BV := BV.below hbn
      replace BB := BB.below hbn
      replace BS := BS.below hbn
      replace r1 := r1.below hbn
      replace r2 := r2.below hbn
      replace hg2c := hg2c.below hbn
      replace O1 := O1.below hbn
      replace BC := BC.below hbn
      replace BD := BD.below hbn
      replace O3 := O3.below hbn
      replace BK := BK.below hbn
      have hzn := hbn.size
      replace hb := chain hb hbn
      clear hbn hzn
      obtain ⟨z0_BV, z1_BV, z2_BV, z3_BV, zf_BV, zl_BV⟩ := BV.four
      obtain ⟨z0_BB, z1_BB, zf_BB, zl_BB⟩ := BB.two
      obtain ⟨z0_BS, z1_BS, z2_BS, z3_BS, zf_BS, zl_BS⟩ := BS.four
      obtain ⟨z0_BC, z1_BC, zf_BC, zl_BC⟩ := BC.two
      obtain ⟨z0_BD, z1_BD, zf_BD, zl_BD⟩ := BD.two
      obtain ⟨z0_BK, z1_BK, zf_BK, zl_BK⟩ := BK.two
      go_wp2_with fail
      clear z0_BV z1_BV z2_BV z3_BV zf_BV zl_BV
      clear z0_BB z1_BB zf_BB zl_BB
      clear z0_BS z1_BS z2_BS z3_BS zf_BS zl_BS
      clear z0_BC z1_BC zf_BC zl_BC
      clear z0_BD z1_BD zf_BD zl_BD
      clear z0_BK z1_BK zf_BK zl_BK
      refine (HP1.out _ r1 r2).mono ?_
      rintro e wn ⟨rfl, hbn⟩
      replace BV := BV.below hbn
      replace BB := BB.below hbn
      replace BS := BS.below hbn
      replace r1 := r1.below hbn
      replace r2 := r2.below hbn
      replace hg2c := hg2c.below hbn
      replace O1 := O1.below hbn
      replace BC := BC.below hbn
      replace BD := BD.below hbn
      replace O3 := O3.below hbn
      replace BK := BK.below hbn
      have hzn := hbn.size
      replace hb := chain hb hbn
      clear hbn hzn
      obtain ⟨z0_BV, z1_BV, z2_BV, z3_BV, zf_BV, zl_BV⟩ := BV.four
      obtain ⟨z0_BB, z1_BB, zf_BB, zl_BB⟩ := BB.two
      obtain ⟨z0_BS, z1_BS, z2_BS, z3_BS, zf_BS, zl_BS⟩ := BS.four
      obtain ⟨z0_BC, z1_BC, zf_BC, zl_BC⟩ := BC.two
      obtain ⟨z0_BD, z1_BD, zf_BD, zl_BD⟩ := BD.two
      obtain ⟨z0_BK, z1_BK, zf_BK, zl_BK⟩ := BK.two
      go_wp2_with fail
      clear z0_BV z1_BV z2_BV z3_BV zf_BV zl_BV
      clear z0_BB z1_BB zf_BB zl_BB
      clear z0_BS z1_BS z2_BS z3_BS zf_BS zl_BS
      clear z0_BC z1_BC zf_BC zl_BC
      clear z0_BD z1_BD zf_BD zl_BD
      clear z0_BK z1_BK zf_BK zl_BK
      refine (HP2.out _ d1 d2 k1 k2 O1.irow1 O1.irow2).mono ?_
      rintro e wn ⟨rfl, hbn⟩
      replace BV := BV.below hbn
      replace BB := BB.below hbn
      replace BS := BS.below hbn
      replace r1 := r1.below hbn
      replace r2 := r2.below hbn
      replace hg2c := hg2c.below hbn
      replace O1 := O1.below hbn
      replace BC := BC.below hbn
      replace BD := BD.below hbn
      replace O3 := O3.below hbn
      replace BK := BK.below hbn
      have hzn := hbn.size
      replace hb := chain hb hbn
      clear hbn hzn
      rcases O1 with ⟨-, -, -, rfl⟩ | ⟨gx, gy, rfl, rfl, -, -, -, -, -, -, RY⟩
      · simp at iYn
      have cY := RY.cell P iYn
      rw [HYP.out] at cY
      have cZ := hg2c.cell P iyn
      rw [HZP.out] at cZ
      clear RY hg2c
      cases tq with
      | false =>
        have wz2 : IntKind.i64.wrap (YP - ZP) = 0 := by rw [WZ2.out]; have := HZ.out; simpa using this
        obtain rfl : QY = PY := by have := HQ.out; simpa using this
        have f3 : decide (QY < QY) = false := by simp
        obtain ⟨z0_BV, z1_BV, z2_BV, z3_BV, zf_BV, zl_BV⟩ := BV.four
        obtain ⟨z0_BB, z1_BB, zf_BB, zl_BB⟩ := BB.two
        obtain ⟨z0_BS, z1_BS, z2_BS, z3_BS, zf_BS, zl_BS⟩ := BS.four
        obtain ⟨z0_BC, z1_BC, zf_BC, zl_BC⟩ := BC.two
        obtain ⟨z0_BD, z1_BD, zf_BD, zl_BD⟩ := BD.two
        obtain ⟨z0_BK, z1_BK, zf_BK, zl_BK⟩ := BK.two
        go_wp2_with fail
        clear z0_BV z1_BV z2_BV z3_BV zf_BV zl_BV
        clear z0_BB z1_BB zf_BB zl_BB
        clear z0_BS z1_BS z2_BS z3_BS zf_BS zl_BS
        clear z0_BC z1_BC zf_BC zl_BC
        clear z0_BD z1_BD zf_BD zl_BD
        clear z0_BK z1_BK zf_BK zl_BK
        refine wp_region_held_drew (S := fun w' => w'.cell? ⟨bBC, 1, none⟩ = some (.slice (some ⟨gy, 0, none⟩) Y.length k2) ∧ w'.cell? ⟨bV, 0, none⟩ = some (.int .i64 (P : Int)) ∧ w'.cell? ⟨bV + 1, 1, none⟩ = some (.slice (some ⟨g2, 0, none⟩) ys.length c2) ∧ w'.cell? ⟨gy, P, none⟩ = some (.int .i64 YP) ∧ w'.cell? ⟨g2, P, none⟩ = some (.int .i64 ZP) ∧ w'.cell? ⟨bV + 1 + 1, 3, none⟩ = some (.bool false)) (by kernel_rfl) ⟨BC.two.2.1, BV.four.1, BB.two.2.1, cY, cZ, BS.four.2.2.2.1⟩ (fun hHeld => ?_)
        refine wpAnyH_take (i := 0) (oi := { dst := some 119, op := _, type := _, pos := _, after := _, guard := _ }) (v := ?_) rfl (by kernel_rfl) (by kernel_rfl) (by kernel_rfl) (fun _ _ _ h => h) (Or.inl ⟨by rfl, ?_⟩) (by assumption) ?_
        rotate_left
        · intro w hSw
          (try dsimp only at hSw)
          go_simp
          (try (with_reducible rfl))
        try simp only [Act.put, List.setIfInBounds_toArray, List.set_cons_zero, List.set_cons_succ]
        refine wpAnyH_take (i := 1) (oi := { dst := some 120, op := _, type := _, pos := _, after := _, guard := _ }) (v := ?_) rfl (by kernel_rfl) (by kernel_rfl) (by kernel_rfl) (fun _ _ _ h => h) (Or.inl ⟨by rfl, ?_⟩) (by assumption) ?_
        rotate_left
        · intro w hSw
          (try dsimp only at hSw)
          go_simp
          (try (with_reducible rfl))
        try simp only [Act.put, List.setIfInBounds_toArray, List.set_cons_zero, List.set_cons_succ]
        refine wpAnyH_take (i := 2) (oi := { dst := some 121, op := _, type := _, pos := _, after := _, guard := _ }) (v := ?_) rfl (by kernel_rfl) (by kernel_rfl) (by kernel_rfl) (fun _ _ _ h => h) (Or.inl ⟨by rfl, ?_⟩) (by assumption) ?_
        rotate_left
        · intro w hSw
          (try dsimp only at hSw)
          go_simp
          (try (with_reducible rfl))
        try simp only [Act.put, List.setIfInBounds_toArray, List.set_cons_zero, List.set_cons_succ]
        refine wpAnyH_take (i := 3) (oi := { dst := some 122, op := _, type := _, pos := _, after := _, guard := _ }) (v := ?_) rfl (by kernel_rfl) (by kernel_rfl) (by kernel_rfl) (fun _ _ _ h => h) (Or.inl ⟨by rfl, ?_⟩) (by assumption) ?_
        rotate_left
        · intro w hSw
          (try dsimp only at hSw)
          go_simp
          (try (with_reducible rfl))
        try simp only [Act.put, List.setIfInBounds_toArray, List.set_cons_zero, List.set_cons_succ]
        refine wpAnyH_take (i := 4) (oi := { dst := some 123, op := _, type := _, pos := _, after := _, guard := _ }) (v := ?_) rfl (by kernel_rfl) (by kernel_rfl) (by kernel_rfl) (fun _ _ _ h => h) (Or.inl ⟨by rfl, ?_⟩) (by assumption) ?_
        rotate_left
        · intro w hSw
          (try dsimp only at hSw)
          go_simp
          (try (with_reducible rfl))
        try simp only [Act.put, List.setIfInBounds_toArray, List.set_cons_zero, List.set_cons_succ]
        refine wpAnyH_take (i := 5) (oi := { dst := some 124, op := _, type := _, pos := _, after := _, guard := _ }) (v := ?_) rfl (by kernel_rfl) (by kernel_rfl) (by kernel_rfl) (fun _ _ _ h => h) (Or.inl ⟨by rfl, ?_⟩) (by assumption) ?_
        rotate_left
        · intro w hSw
          (try dsimp only at hSw)
          go_simp
          (try (with_reducible rfl))
        try simp only [Act.put, List.setIfInBounds_toArray, List.set_cons_zero, List.set_cons_succ]
        refine wpAnyH_take (i := 6) (oi := { dst := some 125, op := _, type := _, pos := _, after := _, guard := _ }) (v := ?_) rfl (by kernel_rfl) (by kernel_rfl) (by kernel_rfl) (fun _ _ _ h => h) (Or.inl ⟨by rfl, ?_⟩) (by assumption) ?_
        rotate_left
        · intro w hSw
          (try dsimp only at hSw)
          go_simp
          (try (with_reducible rfl))
        try simp only [Act.put, List.setIfInBounds_toArray, List.set_cons_zero, List.set_cons_succ]
        refine wpAnyH_take (i := 7) (oi := { dst := some 126, op := _, type := _, pos := _, after := _, guard := _ }) (v := ?_) rfl (by kernel_rfl) (by kernel_rfl) (by kernel_rfl) (fun _ _ _ h => h) (Or.inl ⟨by rfl, ?_⟩) (by assumption) ?_
        rotate_left
        · intro w hSw
          (try dsimp only at hSw)
          go_simp
          (try (with_reducible rfl))
        try simp only [Act.put, List.setIfInBounds_toArray, List.set_cons_zero, List.set_cons_succ]
        refine wpAnyH_take (i := 8) (oi := { dst := some 127, op := _, type := _, pos := _, after := _, guard := _ }) (v := ?_) rfl (by kernel_rfl) (by kernel_rfl) (by kernel_rfl) (fun _ _ _ h => h) (Or.inl ⟨by rfl, ?_⟩) (by assumption) ?_
        rotate_left
        · intro w hSw
          (try dsimp only at hSw)
          go_simp
          (try (with_reducible rfl))
        try simp only [Act.put, List.setIfInBounds_toArray, List.set_cons_zero, List.set_cons_succ]
        refine wpAnyH_take (i := 9) (oi := { dst := some 128, op := _, type := _, pos := _, after := _, guard := _ }) (v := ?_) rfl (by kernel_rfl) (by kernel_rfl) (by kernel_rfl) (fun _ _ _ h => h) (Or.inl ⟨by rfl, ?_⟩) (by assumption) ?_
        rotate_left
        · intro w hSw
          (try dsimp only at hSw)
          go_simp
          (try (with_reducible rfl))
        try simp only [Act.put, List.setIfInBounds_toArray, List.set_cons_zero, List.set_cons_succ]
        refine wpAnyH_take (i := 10) (oi := { dst := some 129, op := _, type := _, pos := _, after := _, guard := _ }) (v := ?_) rfl (by kernel_rfl) (by kernel_rfl) (by kernel_rfl) (fun _ _ _ h => h) (Or.inl ⟨by rfl, ?_⟩) (by assumption) ?_
        rotate_left
        · intro w hSw
          (try dsimp only at hSw)
          go_simp
          (try (with_reducible rfl))
        try simp only [Act.put, List.setIfInBounds_toArray, List.set_cons_zero, List.set_cons_succ]
        refine wpAnyH_take (i := 11) (oi := { dst := some 130, op := _, type := _, pos := _, after := _, guard := _ }) (v := ?_) rfl (by kernel_rfl) (by kernel_rfl) (by kernel_rfl) (fun _ _ _ h => h) (Or.inl ⟨by rfl, ?_⟩) (by assumption) ?_
        rotate_left
        · intro w hSw
          (try dsimp only at hSw)
          go_simp
          (try (with_reducible rfl))
        try simp only [Act.put, List.setIfInBounds_toArray, List.set_cons_zero, List.set_cons_succ]
        refine wpAnyH_take (i := 12) (oi := { dst := some 131, op := _, type := _, pos := _, after := _, guard := _ }) (v := ?_) rfl (by kernel_rfl) (by kernel_rfl) (by kernel_rfl) (fun _ _ _ h => h) (Or.inl ⟨by rfl, ?_⟩) (by assumption) ?_
        rotate_left
        · intro w hSw
          (try dsimp only at hSw)
          go_simp
          (try (with_reducible rfl))
        try simp only [Act.put, List.setIfInBounds_toArray, List.set_cons_zero, List.set_cons_succ]
        refine wpAnyH_take (i := 13) (oi := { dst := some 132, op := _, type := _, pos := _, after := _, guard := _ }) (v := ?_) rfl (by kernel_rfl) (by kernel_rfl) (by kernel_rfl) (fun _ _ _ h => h) (Or.inl ⟨by rfl, ?_⟩) (by assumption) ?_
        rotate_left
        · intro w hSw
          (try dsimp only at hSw)
          go_simp
          (try (with_reducible rfl))
        try simp only [Act.put, List.setIfInBounds_toArray, List.set_cons_zero, List.set_cons_succ]
        refine wpAnyH_take (i := 14) (oi := { dst := some 133, op := _, type := _, pos := _, after := _, guard := _ }) (v := ?_) rfl (by kernel_rfl) (by kernel_rfl) (by kernel_rfl) (fun _ _ _ h => h) (Or.inl ⟨by rfl, ?_⟩) (by assumption) ?_
        rotate_left
        · intro w hSw
          (try dsimp only at hSw)
          go_simp
          (try (with_reducible rfl))
        try simp only [Act.put, List.setIfInBounds_toArray, List.set_cons_zero, List.set_cons_succ]
        refine wpAnyH_take (i := 15) (oi := { dst := some 134, op := _, type := _, pos := _, after := _, guard := _ }) (v := ?_) rfl (by kernel_rfl) (by kernel_rfl) (by kernel_rfl) (fun _ _ _ h => h) (Or.inl ⟨by rfl, ?_⟩) (by assumption) ?_
        rotate_left
        · intro w hSw
          (try dsimp only at hSw)
          go_simp
          (try (with_reducible rfl))
        try simp only [Act.put, List.setIfInBounds_toArray, List.set_cons_zero, List.set_cons_succ]
        refine wpAnyH_take (i := 16) (oi := { dst := some 135, op := _, type := _, pos := _, after := _, guard := _ }) (v := ?_) rfl (by kernel_rfl) (by kernel_rfl) (by kernel_rfl) (fun _ _ _ h => h) (Or.inl ⟨by rfl, ?_⟩) (by assumption) ?_
        rotate_left
        · intro w hSw
          (try dsimp only at hSw)
          go_simp
          (try (with_reducible rfl))
        try simp only [Act.put, List.setIfInBounds_toArray, List.set_cons_zero, List.set_cons_succ]
        refine wpAnyH_take (i := 17) (oi := { dst := some 136, op := _, type := _, pos := _, after := _, guard := _ }) (v := ?_) rfl (by kernel_rfl) (by kernel_rfl) (by kernel_rfl) (fun _ _ _ h => h) (Or.inl ⟨by rfl, ?_⟩) (by assumption) ?_
        rotate_left
        · intro w hSw
          (try dsimp only at hSw)
          go_simp
          (try (with_reducible rfl))
        try simp only [Act.put, List.setIfInBounds_toArray, List.set_cons_zero, List.set_cons_succ]
        refine wpAnyH_take (i := 18) (oi := { dst := some 137, op := _, type := _, pos := _, after := _, guard := _ }) (v := ?_) rfl (by kernel_rfl) (by kernel_rfl) (by kernel_rfl) (fun _ _ _ h => h) (Or.inl ⟨by rfl, ?_⟩) (by assumption) ?_
        rotate_left
        · intro w hSw
          (try dsimp only at hSw)
          go_simp
          (try (with_reducible rfl))
        try simp only [Act.put, List.setIfInBounds_toArray, List.set_cons_zero, List.set_cons_succ]
        refine wpAnyH_take (i := 19) (oi := { dst := some 138, op := _, type := _, pos := _, after := _, guard := _ }) (v := ?_) rfl (by kernel_rfl) (by kernel_rfl) (by kernel_rfl) (fun _ _ _ h => h) (Or.inl ⟨by rfl, ?_⟩) (by assumption) ?_
        rotate_left
        · intro w hSw
          (try dsimp only at hSw)
          go_simp
          (try (with_reducible rfl))
        try simp only [Act.put, List.setIfInBounds_toArray, List.set_cons_zero, List.set_cons_succ]
        refine wpAnyH_take (i := 20) (oi := { dst := some 139, op := _, type := _, pos := _, after := _, guard := _ }) (v := undef) rfl (by kernel_rfl) (by kernel_rfl) (by kernel_rfl) (fun _ _ _ h => h) (Or.inr ⟨by rfl, rfl⟩) (by assumption) ?_
        try simp only [Act.put, List.setIfInBounds_toArray, List.set_cons_zero, List.set_cons_succ]
        refine wpAnyH_take (i := 21) (oi := { dst := some 140, op := _, type := _, pos := _, after := _, guard := _ }) (v := undef) rfl (by kernel_rfl) (by kernel_rfl) (by kernel_rfl) (fun _ _ _ h => h) (Or.inr ⟨by rfl, rfl⟩) (by assumption) ?_
        try simp only [Act.put, List.setIfInBounds_toArray, List.set_cons_zero, List.set_cons_succ]
        refine wpAnyH_take (i := 22) (oi := { dst := some 141, op := _, type := _, pos := _, after := _, guard := _ }) (v := undef) rfl (by kernel_rfl) (by kernel_rfl) (by kernel_rfl) (fun _ _ _ h => h) (Or.inr ⟨by rfl, rfl⟩) (by assumption) ?_
        try simp only [Act.put, List.setIfInBounds_toArray, List.set_cons_zero, List.set_cons_succ]
        refine wpAnyH_take (i := 23) (oi := { dst := some 142, op := _, type := _, pos := _, after := _, guard := _ }) (v := undef) rfl (by kernel_rfl) (by kernel_rfl) (by kernel_rfl) (fun _ _ _ h => h) (Or.inr ⟨by rfl, rfl⟩) (by assumption) ?_
        try simp only [Act.put, List.setIfInBounds_toArray, List.set_cons_zero, List.set_cons_succ]
        refine wpAnyH_take (i := 24) (oi := { dst := some 143, op := _, type := _, pos := _, after := _, guard := _ }) (v := undef) rfl (by kernel_rfl) (by kernel_rfl) (by kernel_rfl) (fun _ _ _ h => h) (Or.inr ⟨by rfl, rfl⟩) (by assumption) ?_
        try simp only [Act.put, List.setIfInBounds_toArray, List.set_cons_zero, List.set_cons_succ]
        refine wpAnyH_take (i := 25) (oi := { dst := some 144, op := _, type := _, pos := _, after := _, guard := _ }) (v := undef) rfl (by kernel_rfl) (by kernel_rfl) (by kernel_rfl) (fun _ _ _ h => h) (Or.inr ⟨by rfl, rfl⟩) (by assumption) ?_
        try simp only [Act.put, List.setIfInBounds_toArray, List.set_cons_zero, List.set_cons_succ]
        refine wpAnyH_take (i := 26) (oi := { dst := some 145, op := _, type := _, pos := _, after := _, guard := _ }) (v := undef) rfl (by kernel_rfl) (by kernel_rfl) (by kernel_rfl) (fun _ _ _ h => h) (Or.inr ⟨by rfl, rfl⟩) (by assumption) ?_
        try simp only [Act.put, List.setIfInBounds_toArray, List.set_cons_zero, List.set_cons_succ]
        refine wpAnyH_take (i := 27) (oi := { dst := some 146, op := _, type := _, pos := _, after := _, guard := _ }) (v := undef) rfl (by kernel_rfl) (by kernel_rfl) (by kernel_rfl) (fun _ _ _ h => h) (Or.inr ⟨by rfl, rfl⟩) (by assumption) ?_
        try simp only [Act.put, List.setIfInBounds_toArray, List.set_cons_zero, List.set_cons_succ]
        refine wpAnyH_take (i := 28) (oi := { dst := some 147, op := _, type := _, pos := _, after := _, guard := _ }) (v := undef) rfl (by kernel_rfl) (by kernel_rfl) (by kernel_rfl) (fun _ _ _ h => h) (Or.inr ⟨by rfl, rfl⟩) (by assumption) ?_
        try simp only [Act.put, List.setIfInBounds_toArray, List.set_cons_zero, List.set_cons_succ]
        refine wpAnyH_take (i := 29) (oi := { dst := some 148, op := _, type := _, pos := _, after := _, guard := _ }) (v := undef) rfl (by kernel_rfl) (by kernel_rfl) (by kernel_rfl) (fun _ _ _ h => h) (Or.inr ⟨by rfl, rfl⟩) (by assumption) ?_
        try simp only [Act.put, List.setIfInBounds_toArray, List.set_cons_zero, List.set_cons_succ]
        refine wpAnyH_take (i := 30) (oi := { dst := some 149, op := _, type := _, pos := _, after := _, guard := _ }) (v := undef) rfl (by kernel_rfl) (by kernel_rfl) (by kernel_rfl) (fun _ _ _ h => h) (Or.inr ⟨by rfl, rfl⟩) (by assumption) ?_
        try simp only [Act.put, List.setIfInBounds_toArray, List.set_cons_zero, List.set_cons_succ]
        refine wpAnyH_take (i := 31) (oi := { dst := some 150, op := _, type := _, pos := _, after := _, guard := _ }) (v := undef) rfl (by kernel_rfl) (by kernel_rfl) (by kernel_rfl) (fun _ _ _ h => h) (Or.inr ⟨by rfl, rfl⟩) (by assumption) ?_
        try simp only [Act.put, List.setIfInBounds_toArray, List.set_cons_zero, List.set_cons_succ]
        refine wpAnyH_take (i := 32) (oi := { dst := some 151, op := _, type := _, pos := _, after := _, guard := _ }) (v := undef) rfl (by kernel_rfl) (by kernel_rfl) (by kernel_rfl) (fun _ _ _ h => h) (Or.inr ⟨by rfl, rfl⟩) (by assumption) ?_
        try simp only [Act.put, List.setIfInBounds_toArray, List.set_cons_zero, List.set_cons_succ]
        refine wpAnyH_take (i := 33) (oi := { dst := some 152, op := _, type := _, pos := _, after := _, guard := _ }) (v := undef) rfl (by kernel_rfl) (by kernel_rfl) (by kernel_rfl) (fun _ _ _ h => h) (Or.inr ⟨by rfl, rfl⟩) (by assumption) ?_
        try simp only [Act.put, List.setIfInBounds_toArray, List.set_cons_zero, List.set_cons_succ]
        refine wpAnyH_take (i := 34) (oi := { dst := some 153, op := _, type := _, pos := _, after := _, guard := _ }) (v := undef) rfl (by kernel_rfl) (by kernel_rfl) (by kernel_rfl) (fun _ _ _ h => h) (Or.inr ⟨by rfl, rfl⟩) (by assumption) ?_
        try simp only [Act.put, List.setIfInBounds_toArray, List.set_cons_zero, List.set_cons_succ]
        refine wpAnyH_take (i := 35) (oi := { dst := some 154, op := _, type := _, pos := _, after := _, guard := _ }) (v := undef) rfl (by kernel_rfl) (by kernel_rfl) (by kernel_rfl) (fun _ _ _ h => h) (Or.inr ⟨by rfl, rfl⟩) (by assumption) ?_
        try simp only [Act.put, List.setIfInBounds_toArray, List.set_cons_zero, List.set_cons_succ]
        refine wpAnyH_take (i := 36) (oi := { dst := some 155, op := _, type := _, pos := _, after := _, guard := _ }) (v := undef) rfl (by kernel_rfl) (by kernel_rfl) (by kernel_rfl) (fun _ _ _ h => h) (Or.inr ⟨by rfl, rfl⟩) (by assumption) ?_
        try simp only [Act.put, List.setIfInBounds_toArray, List.set_cons_zero, List.set_cons_succ]
        refine wpAnyH_take (i := 37) (oi := { dst := some 156, op := _, type := _, pos := _, after := _, guard := _ }) (v := undef) rfl (by kernel_rfl) (by kernel_rfl) (by kernel_rfl) (fun _ _ _ h => h) (Or.inr ⟨by rfl, rfl⟩) (by assumption) ?_
        try simp only [Act.put, List.setIfInBounds_toArray, List.set_cons_zero, List.set_cons_succ]
        refine wpAnyH_take (i := 38) (oi := { dst := some 157, op := _, type := _, pos := _, after := _, guard := _ }) (v := ?_) rfl (by kernel_rfl) (by kernel_rfl) (by kernel_rfl) (fun _ _ _ h => h) (Or.inl ⟨by rfl, ?_⟩) (by assumption) ?_
        rotate_left
        · intro w hSw
          (try dsimp only at hSw)
          go_simp
          (try (with_reducible rfl))
        try simp only [Act.put, List.setIfInBounds_toArray, List.set_cons_zero, List.set_cons_succ]
        refine wpAnyH_take (i := 39) (oi := { dst := some 2, op := _, type := _, pos := _, after := _, guard := _ }) (v := ?_) rfl (by kernel_rfl) (by kernel_rfl) (by kernel_rfl) (fun _ _ _ h => h) (Or.inl ⟨by rfl, ?_⟩) (by assumption) ?_
        rotate_left
        · intro w hSw
          (try dsimp only at hSw)
          go_simp
          (try (with_reducible rfl))
        try simp only [Act.put, List.setIfInBounds_toArray, List.set_cons_zero, List.set_cons_succ]
        refine wpAnyH_done (by kernel_rfl) ?_ _
        go_wp2
        go_ret
        exact ⟨rfl, hb.drew⟩
      | true =>
        have wz2 : IntKind.i64.wrap (YP - ZP) = 1 := by rw [WZ2.out]; have := HZ.out; simpa using this
        have f6 : PY < QY := by have := HQ.out; simpa using this
        have f3 : decide (QY < PY) = false := by simp; omega
        have f4 : decide (PY < QY) = true := by simp; omega
        have f5 : ¬ QY < PY := by omega
        obtain ⟨z0_BV, z1_BV, z2_BV, z3_BV, zf_BV, zl_BV⟩ := BV.four
        obtain ⟨z0_BB, z1_BB, zf_BB, zl_BB⟩ := BB.two
        obtain ⟨z0_BS, z1_BS, z2_BS, z3_BS, zf_BS, zl_BS⟩ := BS.four
        obtain ⟨z0_BC, z1_BC, zf_BC, zl_BC⟩ := BC.two
        obtain ⟨z0_BD, z1_BD, zf_BD, zl_BD⟩ := BD.two
        obtain ⟨z0_BK, z1_BK, zf_BK, zl_BK⟩ := BK.two
        go_wp2_with fail
        clear z0_BV z1_BV z2_BV z3_BV zf_BV zl_BV
        clear z0_BB z1_BB zf_BB zl_BB
        clear z0_BS z1_BS z2_BS z3_BS zf_BS zl_BS
        clear z0_BC z1_BC zf_BC zl_BC
        clear z0_BD z1_BD zf_BD zl_BD
        clear z0_BK z1_BK zf_BK zl_BK
        refine wp_region_held_drew (S := fun w' => w'.cell? ⟨bBC, 1, none⟩ = some (.slice (some ⟨gy, 0, none⟩) Y.length k2) ∧ w'.cell? ⟨bV, 0, none⟩ = some (.int .i64 (P : Int)) ∧ w'.cell? ⟨bV + 1, 1, none⟩ = some (.slice (some ⟨g2, 0, none⟩) ys.length c2) ∧ w'.cell? ⟨gy, P, none⟩ = some (.int .i64 YP) ∧ w'.cell? ⟨g2, P, none⟩ = some (.int .i64 ZP) ∧ w'.cell? ⟨bV + 1 + 1, 3, none⟩ = some (.bool true)) (by kernel_rfl) ⟨BC.two.2.1, BV.four.1, BB.two.2.1, cY, cZ, BS.four.2.2.2.1⟩ (fun hHeld => ?_)
        refine wpAnyH_take (i := 0) (oi := { dst := some 119, op := _, type := _, pos := _, after := _, guard := _ }) (v := ?_) rfl (by kernel_rfl) (by kernel_rfl) (by kernel_rfl) (fun _ _ _ h => h) (Or.inl ⟨by rfl, ?_⟩) (by assumption) ?_
        rotate_left
        · intro w hSw
          (try dsimp only at hSw)
          go_simp
          (try (with_reducible rfl))
        try simp only [Act.put, List.setIfInBounds_toArray, List.set_cons_zero, List.set_cons_succ]
        refine wpAnyH_take (i := 1) (oi := { dst := some 120, op := _, type := _, pos := _, after := _, guard := _ }) (v := ?_) rfl (by kernel_rfl) (by kernel_rfl) (by kernel_rfl) (fun _ _ _ h => h) (Or.inl ⟨by rfl, ?_⟩) (by assumption) ?_
        rotate_left
        · intro w hSw
          (try dsimp only at hSw)
          go_simp
          (try (with_reducible rfl))
        try simp only [Act.put, List.setIfInBounds_toArray, List.set_cons_zero, List.set_cons_succ]
        refine wpAnyH_take (i := 2) (oi := { dst := some 121, op := _, type := _, pos := _, after := _, guard := _ }) (v := ?_) rfl (by kernel_rfl) (by kernel_rfl) (by kernel_rfl) (fun _ _ _ h => h) (Or.inl ⟨by rfl, ?_⟩) (by assumption) ?_
        rotate_left
        · intro w hSw
          (try dsimp only at hSw)
          go_simp
          (try (with_reducible rfl))
        try simp only [Act.put, List.setIfInBounds_toArray, List.set_cons_zero, List.set_cons_succ]
        refine wpAnyH_take (i := 3) (oi := { dst := some 122, op := _, type := _, pos := _, after := _, guard := _ }) (v := ?_) rfl (by kernel_rfl) (by kernel_rfl) (by kernel_rfl) (fun _ _ _ h => h) (Or.inl ⟨by rfl, ?_⟩) (by assumption) ?_
        rotate_left
        · intro w hSw
          (try dsimp only at hSw)
          go_simp
          (try (with_reducible rfl))
        try simp only [Act.put, List.setIfInBounds_toArray, List.set_cons_zero, List.set_cons_succ]
        refine wpAnyH_take (i := 4) (oi := { dst := some 123, op := _, type := _, pos := _, after := _, guard := _ }) (v := ?_) rfl (by kernel_rfl) (by kernel_rfl) (by kernel_rfl) (fun _ _ _ h => h) (Or.inl ⟨by rfl, ?_⟩) (by assumption) ?_
        rotate_left
        · intro w hSw
          (try dsimp only at hSw)
          go_simp
          (try (with_reducible rfl))
        try simp only [Act.put, List.setIfInBounds_toArray, List.set_cons_zero, List.set_cons_succ]
        refine wpAnyH_take (i := 5) (oi := { dst := some 124, op := _, type := _, pos := _, after := _, guard := _ }) (v := ?_) rfl (by kernel_rfl) (by kernel_rfl) (by kernel_rfl) (fun _ _ _ h => h) (Or.inl ⟨by rfl, ?_⟩) (by assumption) ?_
        rotate_left
        · intro w hSw
          (try dsimp only at hSw)
          go_simp
          (try (with_reducible rfl))
        try simp only [Act.put, List.setIfInBounds_toArray, List.set_cons_zero, List.set_cons_succ]
        refine wpAnyH_take (i := 6) (oi := { dst := some 125, op := _, type := _, pos := _, after := _, guard := _ }) (v := ?_) rfl (by kernel_rfl) (by kernel_rfl) (by kernel_rfl) (fun _ _ _ h => h) (Or.inl ⟨by rfl, ?_⟩) (by assumption) ?_
        rotate_left
        · intro w hSw
          (try dsimp only at hSw)
          go_simp
          (try (with_reducible rfl))
        try simp only [Act.put, List.setIfInBounds_toArray, List.set_cons_zero, List.set_cons_succ]
        refine wpAnyH_take (i := 7) (oi := { dst := some 126, op := _, type := _, pos := _, after := _, guard := _ }) (v := ?_) rfl (by kernel_rfl) (by kernel_rfl) (by kernel_rfl) (fun _ _ _ h => h) (Or.inl ⟨by rfl, ?_⟩) (by assumption) ?_
        rotate_left
        · intro w hSw
          (try dsimp only at hSw)
          go_simp
          (try (with_reducible rfl))
        try simp only [Act.put, List.setIfInBounds_toArray, List.set_cons_zero, List.set_cons_succ]
        refine wpAnyH_take (i := 8) (oi := { dst := some 127, op := _, type := _, pos := _, after := _, guard := _ }) (v := ?_) rfl (by kernel_rfl) (by kernel_rfl) (by kernel_rfl) (fun _ _ _ h => h) (Or.inl ⟨by rfl, ?_⟩) (by assumption) ?_
        rotate_left
        · intro w hSw
          (try dsimp only at hSw)
          go_simp
          (try (with_reducible rfl))
        try simp only [Act.put, List.setIfInBounds_toArray, List.set_cons_zero, List.set_cons_succ]
        refine wpAnyH_take (i := 9) (oi := { dst := some 128, op := _, type := _, pos := _, after := _, guard := _ }) (v := ?_) rfl (by kernel_rfl) (by kernel_rfl) (by kernel_rfl) (fun _ _ _ h => h) (Or.inl ⟨by rfl, ?_⟩) (by assumption) ?_
        rotate_left
        · intro w hSw
          (try dsimp only at hSw)
          go_simp
          (try (with_reducible rfl))
        try simp only [Act.put, List.setIfInBounds_toArray, List.set_cons_zero, List.set_cons_succ]
        refine wpAnyH_take (i := 10) (oi := { dst := some 129, op := _, type := _, pos := _, after := _, guard := _ }) (v := ?_) rfl (by kernel_rfl) (by kernel_rfl) (by kernel_rfl) (fun _ _ _ h => h) (Or.inl ⟨by rfl, ?_⟩) (by assumption) ?_
        rotate_left
        · intro w hSw
          (try dsimp only at hSw)
          go_simp
          (try (with_reducible rfl))
        try simp only [Act.put, List.setIfInBounds_toArray, List.set_cons_zero, List.set_cons_succ]
        refine wpAnyH_take (i := 11) (oi := { dst := some 130, op := _, type := _, pos := _, after := _, guard := _ }) (v := ?_) rfl (by kernel_rfl) (by kernel_rfl) (by kernel_rfl) (fun _ _ _ h => h) (Or.inl ⟨by rfl, ?_⟩) (by assumption) ?_
        rotate_left
        · intro w hSw
          (try dsimp only at hSw)
          go_simp
          (try (with_reducible rfl))
        try simp only [Act.put, List.setIfInBounds_toArray, List.set_cons_zero, List.set_cons_succ]
        refine wpAnyH_take (i := 12) (oi := { dst := some 131, op := _, type := _, pos := _, after := _, guard := _ }) (v := ?_) rfl (by kernel_rfl) (by kernel_rfl) (by kernel_rfl) (fun _ _ _ h => h) (Or.inl ⟨by rfl, ?_⟩) (by assumption) ?_
        rotate_left
        · intro w hSw
          (try dsimp only at hSw)
          go_simp
          (try (with_reducible rfl))
        try simp only [Act.put, List.setIfInBounds_toArray, List.set_cons_zero, List.set_cons_succ]
        refine wpAnyH_take (i := 13) (oi := { dst := some 132, op := _, type := _, pos := _, after := _, guard := _ }) (v := ?_) rfl (by kernel_rfl) (by kernel_rfl) (by kernel_rfl) (fun _ _ _ h => h) (Or.inl ⟨by rfl, ?_⟩) (by assumption) ?_
        rotate_left
        · intro w hSw
          (try dsimp only at hSw)
          go_simp
          (try (with_reducible rfl))
        try simp only [Act.put, List.setIfInBounds_toArray, List.set_cons_zero, List.set_cons_succ]
        refine wpAnyH_take (i := 14) (oi := { dst := some 133, op := _, type := _, pos := _, after := _, guard := _ }) (v := ?_) rfl (by kernel_rfl) (by kernel_rfl) (by kernel_rfl) (fun _ _ _ h => h) (Or.inl ⟨by rfl, ?_⟩) (by assumption) ?_
        rotate_left
        · intro w hSw
          (try dsimp only at hSw)
          go_simp
          (try (with_reducible rfl))
        try simp only [Act.put, List.setIfInBounds_toArray, List.set_cons_zero, List.set_cons_succ]
        refine wpAnyH_take (i := 15) (oi := { dst := some 134, op := _, type := _, pos := _, after := _, guard := _ }) (v := undef) rfl (by kernel_rfl) (by kernel_rfl) (by kernel_rfl) (fun _ _ _ h => h) (Or.inr ⟨by rfl, rfl⟩) (by assumption) ?_
        try simp only [Act.put, List.setIfInBounds_toArray, List.set_cons_zero, List.set_cons_succ]
        refine wpAnyH_take (i := 16) (oi := { dst := some 135, op := _, type := _, pos := _, after := _, guard := _ }) (v := undef) rfl (by kernel_rfl) (by kernel_rfl) (by kernel_rfl) (fun _ _ _ h => h) (Or.inr ⟨by rfl, rfl⟩) (by assumption) ?_
        try simp only [Act.put, List.setIfInBounds_toArray, List.set_cons_zero, List.set_cons_succ]
        refine wpAnyH_take (i := 17) (oi := { dst := some 136, op := _, type := _, pos := _, after := _, guard := _ }) (v := undef) rfl (by kernel_rfl) (by kernel_rfl) (by kernel_rfl) (fun _ _ _ h => h) (Or.inr ⟨by rfl, rfl⟩) (by assumption) ?_
        try simp only [Act.put, List.setIfInBounds_toArray, List.set_cons_zero, List.set_cons_succ]
        refine wpAnyH_take (i := 18) (oi := { dst := some 137, op := _, type := _, pos := _, after := _, guard := _ }) (v := ?_) rfl (by kernel_rfl) (by kernel_rfl) (by kernel_rfl) (fun _ _ _ h => h) (Or.inl ⟨by rfl, ?_⟩) (by assumption) ?_
        rotate_left
        · intro w hSw
          (try dsimp only at hSw)
          go_simp
          (try (with_reducible rfl))
        try simp only [Act.put, List.setIfInBounds_toArray, List.set_cons_zero, List.set_cons_succ]
        refine wpAnyH_take (i := 19) (oi := { dst := some 138, op := _, type := _, pos := _, after := _, guard := _ }) (v := ?_) rfl (by kernel_rfl) (by kernel_rfl) (by kernel_rfl) (fun _ _ _ h => h) (Or.inl ⟨by rfl, ?_⟩) (by assumption) ?_
        rotate_left
        · intro w hSw
          (try dsimp only at hSw)
          go_simp
          (try (with_reducible rfl))
        try simp only [Act.put, List.setIfInBounds_toArray, List.set_cons_zero, List.set_cons_succ]
        refine wpAnyH_take (i := 20) (oi := { dst := some 139, op := _, type := _, pos := _, after := _, guard := _ }) (v := ?_) rfl (by kernel_rfl) (by kernel_rfl) (by kernel_rfl) (fun _ _ _ h => h) (Or.inl ⟨by rfl, ?_⟩) (by assumption) ?_
        rotate_left
        · intro w hSw
          (try dsimp only at hSw)
          go_simp
          (try (with_reducible rfl))
        try simp only [Act.put, List.setIfInBounds_toArray, List.set_cons_zero, List.set_cons_succ]
        refine wpAnyH_take (i := 21) (oi := { dst := some 140, op := _, type := _, pos := _, after := _, guard := _ }) (v := ?_) rfl (by kernel_rfl) (by kernel_rfl) (by kernel_rfl) (fun _ _ _ h => h) (Or.inl ⟨by rfl, ?_⟩) (by assumption) ?_
        rotate_left
        · intro w hSw
          (try dsimp only at hSw)
          go_simp
          (try (with_reducible rfl))
        try simp only [Act.put, List.setIfInBounds_toArray, List.set_cons_zero, List.set_cons_succ]
        refine wpAnyH_take (i := 22) (oi := { dst := some 141, op := _, type := _, pos := _, after := _, guard := _ }) (v := ?_) rfl (by kernel_rfl) (by kernel_rfl) (by kernel_rfl) (fun _ _ _ h => h) (Or.inl ⟨by rfl, ?_⟩) (by assumption) ?_
        rotate_left
        · intro w hSw
          (try dsimp only at hSw)
          go_simp
          (try (with_reducible rfl))
        try simp only [Act.put, List.setIfInBounds_toArray, List.set_cons_zero, List.set_cons_succ]
        refine wpAnyH_take (i := 23) (oi := { dst := some 142, op := _, type := _, pos := _, after := _, guard := _ }) (v := ?_) rfl (by kernel_rfl) (by kernel_rfl) (by kernel_rfl) (fun _ _ _ h => h) (Or.inl ⟨by rfl, ?_⟩) (by assumption) ?_
        rotate_left
        · intro w hSw
          (try dsimp only at hSw)
          go_simp
          (try (with_reducible rfl))
        try simp only [Act.put, List.setIfInBounds_toArray, List.set_cons_zero, List.set_cons_succ]
        refine wpAnyH_take (i := 24) (oi := { dst := some 143, op := _, type := _, pos := _, after := _, guard := _ }) (v := ?_) rfl (by kernel_rfl) (by kernel_rfl) (by kernel_rfl) (fun _ _ _ h => h) (Or.inl ⟨by rfl, ?_⟩) (by assumption) ?_
        rotate_left
        · intro w hSw
          (try dsimp only at hSw)
          go_simp
          (try (with_reducible rfl))
        try simp only [Act.put, List.setIfInBounds_toArray, List.set_cons_zero, List.set_cons_succ]
        refine wpAnyH_take (i := 25) (oi := { dst := some 144, op := _, type := _, pos := _, after := _, guard := _ }) (v := ?_) rfl (by kernel_rfl) (by kernel_rfl) (by kernel_rfl) (fun _ _ _ h => h) (Or.inl ⟨by rfl, ?_⟩) (by assumption) ?_
        rotate_left
        · intro w hSw
          (try dsimp only at hSw)
          go_simp
          (try (with_reducible rfl))
        try simp only [Act.put, List.setIfInBounds_toArray, List.set_cons_zero, List.set_cons_succ]
        refine wpAnyH_take (i := 26) (oi := { dst := some 145, op := _, type := _, pos := _, after := _, guard := _ }) (v := ?_) rfl (by kernel_rfl) (by kernel_rfl) (by kernel_rfl) (fun _ _ _ h => h) (Or.inl ⟨by rfl, ?_⟩) (by assumption) ?_
        rotate_left
        · intro w hSw
          (try dsimp only at hSw)
          go_simp
          (try (with_reducible rfl))
        try simp only [Act.put, List.setIfInBounds_toArray, List.set_cons_zero, List.set_cons_succ]
        refine wpAnyH_take (i := 27) (oi := { dst := some 146, op := _, type := _, pos := _, after := _, guard := _ }) (v := ?_) rfl (by kernel_rfl) (by kernel_rfl) (by kernel_rfl) (fun _ _ _ h => h) (Or.inl ⟨by rfl, ?_⟩) (by assumption) ?_
        rotate_left
        · intro w hSw
          (try dsimp only at hSw)
          go_simp
          (try (with_reducible rfl))
        try simp only [Act.put, List.setIfInBounds_toArray, List.set_cons_zero, List.set_cons_succ]
        refine wpAnyH_take (i := 28) (oi := { dst := some 147, op := _, type := _, pos := _, after := _, guard := _ }) (v := ?_) rfl (by kernel_rfl) (by kernel_rfl) (by kernel_rfl) (fun _ _ _ h => h) (Or.inl ⟨by rfl, ?_⟩) (by assumption) ?_
        rotate_left
        · intro w hSw
          (try dsimp only at hSw)
          go_simp
          (try (with_reducible rfl))
        try simp only [Act.put, List.setIfInBounds_toArray, List.set_cons_zero, List.set_cons_succ]
        refine wpAnyH_take (i := 29) (oi := { dst := some 148, op := _, type := _, pos := _, after := _, guard := _ }) (v := ?_) rfl (by kernel_rfl) (by kernel_rfl) (by kernel_rfl) (fun _ _ _ h => h) (Or.inl ⟨by rfl, ?_⟩) (by assumption) ?_
        rotate_left
        · intro w hSw
          (try dsimp only at hSw)
          go_simp
          (try (with_reducible rfl))
        try simp only [Act.put, List.setIfInBounds_toArray, List.set_cons_zero, List.set_cons_succ]
        refine wpAnyH_take (i := 30) (oi := { dst := some 149, op := _, type := _, pos := _, after := _, guard := _ }) (v := ?_) rfl (by kernel_rfl) (by kernel_rfl) (by kernel_rfl) (fun _ _ _ h => h) (Or.inl ⟨by rfl, ?_⟩) (by assumption) ?_
        rotate_left
        · intro w hSw
          (try dsimp only at hSw)
          go_simp
          (try (with_reducible rfl))
        try simp only [Act.put, List.setIfInBounds_toArray, List.set_cons_zero, List.set_cons_succ]
        refine wpAnyH_take (i := 31) (oi := { dst := some 150, op := _, type := _, pos := _, after := _, guard := _ }) (v := ?_) rfl (by kernel_rfl) (by kernel_rfl) (by kernel_rfl) (fun _ _ _ h => h) (Or.inl ⟨by rfl, ?_⟩) (by assumption) ?_
        rotate_left
        · intro w hSw
          (try dsimp only at hSw)
          go_simp
          (try (with_reducible rfl))
        try simp only [Act.put, List.setIfInBounds_toArray, List.set_cons_zero, List.set_cons_succ]
        refine wpAnyH_take (i := 32) (oi := { dst := some 151, op := _, type := _, pos := _, after := _, guard := _ }) (v := ?_) rfl (by kernel_rfl) (by kernel_rfl) (by kernel_rfl) (fun _ _ _ h => h) (Or.inl ⟨by rfl, ?_⟩) (by assumption) ?_
        rotate_left
        · intro w hSw
          (try dsimp only at hSw)
          go_simp
          (try (with_reducible rfl))
        try simp only [Act.put, List.setIfInBounds_toArray, List.set_cons_zero, List.set_cons_succ]
        refine wpAnyH_take (i := 33) (oi := { dst := some 152, op := _, type := _, pos := _, after := _, guard := _ }) (v := ?_) rfl (by kernel_rfl) (by kernel_rfl) (by kernel_rfl) (fun _ _ _ h => h) (Or.inl ⟨by rfl, ?_⟩) (by assumption) ?_
        rotate_left
        · intro w hSw
          (try dsimp only at hSw)
          go_simp
          (try (with_reducible rfl))
        try simp only [Act.put, List.setIfInBounds_toArray, List.set_cons_zero, List.set_cons_succ]
        refine wpAnyH_take (i := 34) (oi := { dst := some 153, op := _, type := _, pos := _, after := _, guard := _ }) (v := ?_) rfl (by kernel_rfl) (by kernel_rfl) (by kernel_rfl) (fun _ _ _ h => h) (Or.inl ⟨by rfl, ?_⟩) (by assumption) ?_
        rotate_left
        · intro w hSw
          (try dsimp only at hSw)
          go_simp
          (try (with_reducible rfl))
        try simp only [Act.put, List.setIfInBounds_toArray, List.set_cons_zero, List.set_cons_succ]
        refine wpAnyH_take (i := 35) (oi := { dst := some 154, op := _, type := _, pos := _, after := _, guard := _ }) (v := ?_) rfl (by kernel_rfl) (by kernel_rfl) (by kernel_rfl) (fun _ _ _ h => h) (Or.inl ⟨by rfl, ?_⟩) (by assumption) ?_
        rotate_left
        · intro w hSw
          (try dsimp only at hSw)
          go_simp
          (try (with_reducible rfl))
        try simp only [Act.put, List.setIfInBounds_toArray, List.set_cons_zero, List.set_cons_succ]
        refine wpAnyH_take (i := 36) (oi := { dst := some 155, op := _, type := _, pos := _, after := _, guard := _ }) (v := ?_) rfl (by kernel_rfl) (by kernel_rfl) (by kernel_rfl) (fun _ _ _ h => h) (Or.inl ⟨by rfl, ?_⟩) (by assumption) ?_
        rotate_left
        · intro w hSw
          (try dsimp only at hSw)
          go_simp
          (try (with_reducible rfl))
        try simp only [Act.put, List.setIfInBounds_toArray, List.set_cons_zero, List.set_cons_succ]
        refine wpAnyH_take (i := 37) (oi := { dst := some 156, op := _, type := _, pos := _, after := _, guard := _ }) (v := ?_) rfl (by kernel_rfl) (by kernel_rfl) (by kernel_rfl) (fun _ _ _ h => h) (Or.inl ⟨by rfl, ?_⟩) (by assumption) ?_
        rotate_left
        · intro w hSw
          (try dsimp only at hSw)
          go_simp
          (try (with_reducible rfl))
        try simp only [Act.put, List.setIfInBounds_toArray, List.set_cons_zero, List.set_cons_succ]
        refine wpAnyH_take (i := 38) (oi := { dst := some 157, op := _, type := _, pos := _, after := _, guard := _ }) (v := ?_) rfl (by kernel_rfl) (by kernel_rfl) (by kernel_rfl) (fun _ _ _ h => h) (Or.inl ⟨by rfl, ?_⟩) (by assumption) ?_
        rotate_left
        · intro w hSw
          (try dsimp only at hSw)
          go_simp
          (try (with_reducible rfl))
        try simp only [Act.put, List.setIfInBounds_toArray, List.set_cons_zero, List.set_cons_succ]
        refine wpAnyH_take (i := 39) (oi := { dst := some 2, op := _, type := _, pos := _, after := _, guard := _ }) (v := ?_) rfl (by kernel_rfl) (by kernel_rfl) (by kernel_rfl) (fun _ _ _ h => h) (Or.inl ⟨by rfl, ?_⟩) (by assumption) ?_
        rotate_left
        · intro w hSw
          (try dsimp only at hSw)
          go_simp
          (try (with_reducible rfl))
        try simp only [Act.put, List.setIfInBounds_toArray, List.set_cons_zero, List.set_cons_succ]
        refine wpAnyH_done (by kernel_rfl) ?_ _
        go_wp2
        go_ret
        exact ⟨rfl, hb.drew⟩
    · have eR : asR p c h s xs ys (ta, tb, td, tq) ≠ 0 := by
        unfold asR
        split
        · rename_i q1
          split
          · rename_i q2
            exact absurd ⟨q1, q2⟩ g
          · omega
        · omega
      have eX : asX p c h s xs ys (ta, tb, td, tq) = [] := by
        unfold asX
        split
        · rename_i q1
          split
          · rename_i q2
            exact absurd ⟨q1, q2⟩ g
          · rfl
        · rfl
      have eY : asY p c h s xs ys (ta, tb, td, tq) = [] := by
        unfold asY
        split
        · rename_i q1
          split
          · rename_i q2
            exact absurd ⟨q1, q2⟩ g
          · rfl
        · rfl
      have eL : lgB p c h s xs ys (ta, tb, td, tq) = false := by
        unfold lgB
        rw [Bool.eq_false_iff]
        intro q
        simp only [Bool.and_eq_true] at q
        exact g q
      obtain ⟨AR, hAR⟩ : ∃ z, asR p c h s xs ys (ta, tb, td, tq) = z := ⟨_, rfl⟩
      rw [eX, eY, hAR] at ha1 ha2
      rw [hAR] at eR
      rw [eL] at hil
      have fE : (AR != 0) = true := by rw [bne_iff_ne]; exact eR
      have fF : (AR == 0) = false := by rw [beq_eq_false_iff_ne]; exact eR
      have HA1 := Lib.hid ha1
      have HA2 := Lib.hid ha2
      have HIL := Lib.hid hil
      clear ha1 ha2 hil hAR eR eX eY eL g hle
      refine (HA1.out _ r1 r2).mono ?_
      rintro e wn ⟨d1, d2, k1, k2, rfl, O1, hbn⟩
      replace BV := BV.below hbn
      replace BB := BB.below hbn
      replace BS := BS.below hbn
      replace r1 := r1.below hbn
      replace r2 := r2.below hbn
      replace hg2c := hg2c.below hbn
      have hzn := hbn.size
      replace hb := chain hb hbn
      clear hbn hzn
      rw [show ([] : List Int).length = 0 from rfl]
      have BC := Blk.new wn #[.slice d1 0 k1, .slice d2 0 k2] 28
      have hal : Below wn.heap.size wn (wn.alloc (.cells #[.slice d1 0 k1, .slice d2 0 k2] 28)) := (Below.refl _ _).alloc (Nat.le_refl _) _
      replace BV := BV.below hal
      replace BB := BB.below hal
      replace BS := BS.below hal
      replace r1 := r1.below hal
      replace r2 := r2.below hal
      replace hg2c := hg2c.below hal
      replace O1 := O1.below hal
      have hzn := hal.size
      replace hb := chain hb hal
      clear hal hzn
      obtain ⟨z0_BV, z1_BV, z2_BV, z3_BV, zf_BV, zl_BV⟩ := BV.four
      obtain ⟨z0_BB, z1_BB, zf_BB, zl_BB⟩ := BB.two
      obtain ⟨z0_BS, z1_BS, z2_BS, z3_BS, zf_BS, zl_BS⟩ := BS.four
      obtain ⟨z0_BC, z1_BC, zf_BC, zl_BC⟩ := BC.two
      go_wp2_with fail
      clear z0_BV z1_BV z2_BV z3_BV zf_BV zl_BV
      clear z0_BB z1_BB zf_BB zl_BB
      clear z0_BS z1_BS z2_BS z3_BS zf_BS zl_BS
      clear z0_BC z1_BC zf_BC zl_BC
      generalize (wn.alloc (.cells #[.slice d1 0 k1, .slice d2 0 k2] 28)) = v2 at *
      generalize wn.heap.size = bBC at *
      refine (HA2.out _ r1 r2).mono ?_
      rintro e wn ⟨d3, d4, k3, k4, rfl, O2, hbn⟩
      replace BV := BV.below hbn
      replace BB := BB.below hbn
      replace BS := BS.below hbn
      replace r1 := r1.below hbn
      replace r2 := r2.below hbn
      replace hg2c := hg2c.below hbn
      replace O1 := O1.below hbn
      replace BC := BC.below hbn
      have hzn := hbn.size
      replace hb := chain hb hbn
      clear hbn hzn
      rw [show ([] : List Int).length = 0 from rfl]
      have BD := Blk.new wn #[.slice d3 0 k3, .slice d4 0 k4] 28
      have hal : Below wn.heap.size wn (wn.alloc (.cells #[.slice d3 0 k3, .slice d4 0 k4] 28)) := (Below.refl _ _).alloc (Nat.le_refl _) _
      replace BV := BV.below hal
      replace BB := BB.below hal
      replace BS := BS.below hal
      replace r1 := r1.below hal
      replace r2 := r2.below hal
      replace hg2c := hg2c.below hal
      replace O1 := O1.below hal
      replace BC := BC.below hal
      have hzn := hal.size
      replace hb := chain hb hal
      clear hal hzn
      obtain ⟨z0_BV, z1_BV, z2_BV, z3_BV, zf_BV, zl_BV⟩ := BV.four
      obtain ⟨z0_BB, z1_BB, zf_BB, zl_BB⟩ := BB.two
      obtain ⟨z0_BS, z1_BS, z2_BS, z3_BS, zf_BS, zl_BS⟩ := BS.four
      obtain ⟨z0_BC, z1_BC, zf_BC, zl_BC⟩ := BC.two
      obtain ⟨z0_BD, z1_BD, zf_BD, zl_BD⟩ := BD.two
      go_wp2_with fail
      clear z0_BV z1_BV z2_BV z3_BV zf_BV zl_BV
      clear z0_BB z1_BB zf_BB zl_BB
      clear z0_BS z1_BS z2_BS z3_BS zf_BS zl_BS
      clear z0_BC z1_BC zf_BC zl_BC
      clear z0_BD z1_BD zf_BD zl_BD
      generalize (wn.alloc (.cells #[.slice d3 0 k3, .slice d4 0 k4] 28)) = v3 at *
      generalize wn.heap.size = bBD at *
      refine (HIL.out _ r1 r2).mono ?_
      rintro e wn ⟨rfl, hbn⟩
      replace BV := BV.below hbn
      replace BB := BB.below hbn
      replace BS := BS.below hbn
      replace r1 := r1.below hbn
      replace r2 := r2.below hbn
      replace hg2c := hg2c.below hbn
      replace O1 := O1.below hbn
      replace BC := BC.below hbn
      replace BD := BD.below hbn
      have hzn := hbn.size
      replace hb := chain hb hbn
      clear hbn hzn
      go_wp2
      go_ret
      exact ⟨rfl, hb⟩
set_option maxRecDepth 100000 in
theorem fnStepBack_lifted (os : Os) (started : os.Started) (H : Type) (enc : TypeId × Value → H) :
    ReturnsInHanded {} Try.checked os 3 .any (Rows.fnStepBackSpec.pre6 enc Try.prog Try.f3 Rows.fnStepBackRow.domain false) (Rows.fnStepBackSpec.post enc Try.prog Try.f3 false true false false) := by
  refine returnsInHanded_of_change (C := Try.checked) own started (by kernel_rfl) Try.func3
    (ChangeSpec.witness6 (enc := enc) (C := Try.checked) false ⟨#[], #[.slice none 0 0], []⟩ 8 (by kernel_rfl) (by kernel_rfl) (by kernel_rfl) (by kernel_rfl)) ?_
  intro W base args ds gs before hval0 hW hcnd _
  have hval : ∀ (j : Nat) t v, Try.f3.params[j]? = some t → args[j]? = some v → Value.okWide Try.prog W .any base t v := hval0
  have hW' := hW
  obtain ⟨p, q, hA0, hV, rfl, hfz, hnd⟩ := hW
  have hA : DataW.TrodAll enc Try.prog W 0 (fun _ => true) true Try.f3.params.toList args.toList ds p := hA0
  rw [Try.params3] at hA hval
  obtain ⟨v0, vs0, d0, ds0, p0, q0, hargs, rfl, rfl, h0, r0⟩ := trodAll_cons hA
  obtain ⟨rfl, rfl, rfl⟩ := trodAll_nil r0
  obtain rfl : args = #[v0] := by cases args; simp_all
  obtain ⟨rfl, rfl⟩ := trodVars_none hV
  have k0 := h0
  have lt0 : ∀ x ∈ p0, x.block < W.heap.size := by obtain ⟨m, hm⟩ := k0; exact DataW.trod_lt m _ _ _ hm
  obtain ⟨sa_0, sl_0, sc_0, rfl⟩ := okWide_slice Try.underlying22 (hval 0 22 v0 rfl rfl)
  have hcode_0 : CodeIn W.heap.size W sa_0 sl_0 := by
    obtain ⟨fuel, hf⟩ := h0
    rcases open_ints Try.underlying22 Try.underlying5 (by kernel_rfl) hf with ⟨hcs, _⟩ | ⟨x, l, c, zs, hcs, _, hl, hm, hz, _, hcell, hwz⟩
    · simp [Value.cells] at hcs
      obtain ⟨rfl, rfl, rfl⟩ := hcs
      intro i hi
      omega
    · simp [Value.cells] at hcs
      obtain ⟨rfl, rfl, rfl⟩ := hcs
      exact code_of_ints (by have hz2 := hz; simp at hz2; omega) trivial hcell hwz
  clear hA0 hval0
  refine (fnStepBack_walk sa_0 sl_0 sc_0 W hcode_0).mono fun e W' ⟨he, bel⟩ => ?_
  subst he
  exact ⟨_, rfl, _, _, _, [], _, [], hW', trodAll_mk1 (shut_bool Try.underlying4 _), (trodAll_cons_mk (Below.trod laidOut (by kernel_rfl) (of_decide_eq_true (by kernel_rfl)) k0 bel lt0) trodAll_mk0), rfl, bel.frame _, fun h => by cases h⟩
theorem fnStepBack_holds : Rows.FnStepBackSaid :=
  OpenClaim.holds_of_wide 3 Try.f3 rfl rfl rfl rfl rfl rfl rfl ⟨rfl, rfl, rfl, rfl, rfl⟩ rfl rfl rfl rfl rfl (by kernel_rfl) Try.func3 (by kernel_rfl)
    (of_decide_eq_true (by kernel_rfl)) (by unfold Func.isWrapper; first | (rw [if_pos (by decide +kernel)]; kernel_rfl) | (rw [if_neg (by decide +kernel)]; exact ⟨rfl, rfl⟩))
    (fun os started H enc _ => fnStepBack_lifted os started H enc)
end Go.Proofs.Ytjglempkmenacaa
