/- The law of chapter 5 on a sequence of legal steps taken at random holds: for every code the law returns true and the code reads behind the call as it read before. No conditions. -/
import Derived.Test.YtciljbnailobgaaGreatV28
import Derived.Test.YtciljbnailobgaaGreatV25
import Derived.Test.YtciljbnailobgaaGreatV26
import Derived.Test.YtciljbnailobgaaGreatV29
import Derived.Test.YtciljbnailobgaaGreatV22
import Derived.Test.YtciljbnailobgaaGreatV16
import Derived.Test.YtciljbnailobgaaGreatV06
import Derived.Test.YtciljbnailobgaaGreatV07
import Derived.Test.YtciljbnailobgaaGreatV20
import Derived.ChangeOld
import Derived.Deep.CutRange
import Derived.BigQuiet
import Derived.Deep.CutBlock
namespace Go.Proofs.YtciljbnailobgaaGreat
open Go.ChangeMaps (open_string shut_string)
open Go.ChangeShapes Go.WideShapes Go.ChangeAt Go.RowKit
set_option linter.unusedVariables false
set_option linter.unusedSimpArgs false
set_option maxRecDepth 4000
theorem code_of_ints {w : World} {x : Addr} {len : Nat} {zs : List Int} (hl : len ≤ zs.length) (_hz : True) (hcell : ∀ i, i < zs.length → w.cell? (x.add i) = some (.int .u8 (zs.getD i 0))) (hwz : ∀ n ∈ zs, (Lit.int .u8 n).wf = true) : CodeIn w.heap.size w (some x) len := by
  intro i hi
  obtain ⟨b, o, spot⟩ := x
  have hc := hcell i (by omega)
  have hspot : spot = none := by
    have hc0 := hcell 0 (by omega)
    simpa [Addr.add] using World.cell?_spot hc0
  subst hspot
  rw [show (⟨b, o, none⟩ : Addr).add i = ⟨b, o + i, none⟩ from by unfold Addr.add; split <;> simp_all] at hc
  have hm : zs.getD i 0 ∈ zs := by
    have : i < zs.length := by omega
    simp [List.getD, this]
  have hw := hwz _ hm
  have hr : 0 ≤ zs.getD i 0 ∧ zs.getD i 0 ≤ 255 := by simpa [Lit.wf, IntKind.min, IntKind.max, IntKind.signed, IntKind.bits] using hw
  exact ⟨b, o, zs.getD i 0, rfl, World.block_lt_of_cell? w _ hc, hc, hr.1, hr.2⟩
set_option maxRecDepth 8000 in
set_option maxHeartbeats 3000000 in
theorem fnEveryPlay_walk (a : Option Addr) (len cap : Nat) (w : World) (hcode : CodeIn w.heap.size w a len) :
    Calls Tryz.prog 4 #[.slice a len cap] w fun e w' => e = .returned (.bool true) ∧ Below w.heap.size w w' := by
  by_cases hbig : 4096 < len
  · have f0 : decide (4096 < (len : Int)) = true := by simp; omega
    go_enter Tryz.func4, Tryz.ntmps4
    go_wp2_with fail
    refine (big_any _ _ _ _).mono ?_
    rintro e w1 ⟨rfl, rfl⟩
    go_wp2
    go_ret
    exact ⟨rfl, Below.refl _ _⟩
  · have f0 : decide (4096 < (len : Int)) = false := by simp; omega
    go_enter Tryz.func4, Tryz.ntmps4
    go_wp2_with fail
    refine (big_any _ _ _ _).mono ?_
    rintro e w0 ⟨rfl, rfl⟩
    go_wp2_with fail
    refine (rollCode_dice w.heap.size a len cap 8502 _ (Nat.le_refl _) (by omega) hcode).mono ?_
    rintro e wd ⟨rfl, ⟨hh, BD⟩, hbd⟩
    go_wp2_with fail
    refine (drawAllPlays_any w.heap.size a len cap wd hbd.size (by omega) (hcode.below hbd)).mono ?_
    rintro e w1 ⟨p, c, h, s, g1, g2, n1, n2, c1, c2, xs, ys, ra, rb, rfl, hx, hy, l1, l2, R1, R2, hbw⟩
    subst hx hy
    replace l1 : xs.length ≤ 1048576 := by omega
    replace l2 : ys.length ≤ 1048576 := by omega
    have hzd : w.heap.size < w1.heap.size := by have := BD.lt; have := hbw.size; omega
    obtain ⟨BV, BB, BR, hb2, hz⟩ := three_new w1 #[.int .i64 p, .int .i64 c, .int .i64 h, .int .i64 s] #[.slice (some ⟨g1, 0, none⟩) xs.length c1, .slice (some ⟨g2, 0, none⟩) ys.length c2] #[.int .i64 ra, .int .i64 rb] 25 28 30
    replace BD := (BD.below hbw).below hb2
    replace R1 := R1.below hb2
    replace R2 := R2.below hb2
    have hb := chain (chain hbd hbw) hb2
    clear hbd hbw hb2 hz
    obtain ⟨x0, x1, x2, x3, xf, xl⟩ := BV.four; obtain ⟨y0, y1, yf, yl⟩ := BB.two; obtain ⟨u0, u1, uf, ul⟩ := BR.two
    have hdi := fun W (q1 : IRow W (some ⟨g1, 0, none⟩) xs) (q2 : IRow W (some ⟨g2, 0, none⟩) ys) => implDiceUsed_any ra rb p c h s _ _ _ _ c1 c2 xs ys W rfl rfl l1 l2 q1 q2
    have hds := fun W (q1 : IRow W (some ⟨g1, 0, none⟩) xs) (q2 : IRow W (some ⟨g2, 0, none⟩) ys) => specDiceUsed_any ra rb p c h s _ _ _ _ c1 c2 xs ys W rfl rfl l1 l2 q1 q2
    by_cases kc : codeB p c h s xs ys ra rb = 0
    · obtain ⟨gi, grl⟩ := codeB_zero kc
      obtain ⟨P, rfl⟩ := Int.eq_ofNat_of_zero_le (by have := (isB_parts gi).1; omega : 0 ≤ p)
      obtain ⟨ga, gb_⟩ := rlB_two grl
      unfold duV at hdi hds
      simp only [if_pos gi, if_pos grl] at hdi hds
      simp only [show ((P : Nat) : Int).toNat = P from rfl] at hdi hds
      obtain ⟨r0, i2, h2, q0, q1, hB0⟩ := below_det w.heap.size w.heap.size a len cap 0 hh 2 w (Nat.le_refl _) (by omega) (by omega) hcode
      have hP25 : P ≤ 24 := by have := (isB_parts gi).2.1; omega
      have hlh := fun W (q1 : IRow W (some ⟨g1, 0, none⟩) xs) (q2 : IRow W (some ⟨g2, 0, none⟩) ys) => specLegalSteps_any ra (P : Int) c h s _ _ _ _ c1 c2 xs ys W rfl rfl l1 l2 q1 q2
      unfold lsL lsR at hlh
      simp only [if_pos gi, if_pos ga] at hlh
      simp only [show ((P : Nat) : Int).toNat = P from rfl] at hlh
      obtain ⟨LH, hLH⟩ : ∃ z, legL P h xs ys ra = z := ⟨_, rfl⟩
      rw [hLH] at hlh
      obtain ⟨O1, hO1⟩ : ∃ z, (if r0 = 0 then [rb, ra] else [ra, rb]) = z := ⟨_, rfl⟩
      obtain ⟨O, hO⟩ : ∃ z, (if ra = rb then [ra, ra, ra, ra] else O1) = z := ⟨_, rfl⟩
      have hOm : O ∈ ordersP ra rb := by rw [← hO, ← hO1]; exact order_mem ra rb r0
      obtain ⟨hO2, hO4⟩ := order_len hOm
      have hOd := order_dice hOm ga gb_
      have hus := fun j ts X Y (f : Fol P c h s xs ys O j ts X Y) => f.used hOm
      have hfd := fun j ts X Y (f : Fol P c h s xs ys O j ts X Y) => f.found hOm kc
      have hof := fun d => order_first (d := d) hOm
      obtain ⟨U, hU⟩ : ∃ z, usedP P h xs ys ra rb = z := ⟨_, rfl⟩
      rw [hU] at hdi hds
      simp only [hU] at hus hfd
      rw [hLH] at hfd
      have HDI := Lib.hid hdi
      have HDS := Lib.hid hds
      have HB0 := Lib.hid hB0
      have HLH := Lib.hid hlh
      have HO1 := Lib.hid hO1
      have HO := Lib.hid hO
      have HO4 := Lib.hid hO4
      have HOL := Lib.hid (show 0 < O.length by omega)
      have HOD := Lib.hid hOd
      have HUS := Lib.hid hus
      have HFD := Lib.hid hfd
      have HOF := Lib.hid hof
      have HGI := Lib.hid gi
      have HP := Lib.hid hP25
      clear hdi hds hB0 hlh hO1 hO hO2 hO4 hOd hus hfd hof gi grl ga gb_ kc hU hLH hOm hP25 q0 q1
      go_wp2_with fail
      generalize (((w1.alloc (.cells #[.int .i64 (P : Int), .int .i64 c, .int .i64 h, .int .i64 s] 25)).alloc (.cells #[.slice (some ⟨g1, 0, none⟩) xs.length c1, .slice (some ⟨g2, 0, none⟩) ys.length c2] 28)).alloc (.cells #[.int .i64 ra, .int .i64 rb] 30)) = v1 at *
      go_wp2_with (first | (go_at_call 9; refine (HDI.out _ R1.irow R2.irow).mono ?_; rintro e wq ⟨rfl, hbq⟩; clear x0 x1 x2 x3 xf xl y0 y1 yf yl u0 u1 uf ul; replace BV := BV.below hbq; replace BB := BB.below hbq; replace BR := BR.below hbq; replace BD := BD.below hbq; replace R1 := R1.below hbq; replace R2 := R2.below hbq; replace hb := chain hb hbq; clear hbq; obtain ⟨x0, x1, x2, x3, xf, xl⟩ := BV.four; obtain ⟨y0, y1, yf, yl⟩ := BB.two; obtain ⟨u0, u1, uf, ul⟩ := BR.two) | (go_at_call 16; refine (HDS.out _ R1.irow R2.irow).mono ?_; rintro e wq ⟨rfl, hbq⟩; clear x0 x1 x2 x3 xf xl y0 y1 yf yl u0 u1 uf ul; replace BV := BV.below hbq; replace BB := BB.below hbq; replace BR := BR.below hbq; replace BD := BD.below hbq; replace R1 := R1.below hbq; replace R2 := R2.below hbq; replace hb := chain hb hbq; clear hbq; obtain ⟨x0, x1, x2, x3, xf, xl⟩ := BV.four; obtain ⟨y0, y1, yf, yl⟩ := BB.two; obtain ⟨u0, u1, uf, ul⟩ := BR.two))
      clear x0 x1 x2 x3 xf xl y0 y1 yf yl u0 u1 uf ul
      have RO : Row (wq.alloc (.cells #[.int .i64 ra, .int .i64 rb] 2)) wq.heap.size [ra, rb] := ⟨_, Blk.new _ _ _, by simp, by simp [ints]⟩
      replace BV := BV.alloc (.cells #[.int .i64 ra, .int .i64 rb] 2)
      replace BB := BB.alloc (.cells #[.int .i64 ra, .int .i64 rb] 2)
      replace BR := BR.alloc (.cells #[.int .i64 ra, .int .i64 rb] 2)
      replace BD := BD.alloc (.cells #[.int .i64 ra, .int .i64 rb] 2)
      replace R1 := R1.alloc (.cells #[.int .i64 ra, .int .i64 rb] 2)
      replace R2 := R2.alloc (.cells #[.int .i64 ra, .int .i64 rb] 2)
      replace hb := hb.alloc hb.size (.cells #[.int .i64 ra, .int .i64 rb] 2)
      generalize (wq.alloc (.cells #[.int .i64 ra, .int .i64 rb] 2)) = w2 at *
      generalize wq.heap.size = gO at *
      refine (HB0.out _ hb BD).mono ?_
      rintro e w3 ⟨rfl, hg3, BD3, -⟩
      have n1 := rowNe R1 BD (by decide)
      have n2 := rowNe R2 BD (by decide)
      have nO := rowNe RO BD (by decide)
      replace BV := BV.grown hg3 (by omega)
      replace BB := BB.grown hg3 (by omega)
      replace BR := BR.grown hg3 (by omega)
      replace R1 := R1.grown hg3 n1
      replace R2 := R2.grown hg3 n2
      replace RO := RO.grown hg3 nO
      replace hb := chain_grown hb hg3 (Nat.le_refl _)
      clear BD hg3 HB0
      have BD := BD3
      clear BD3 n1 n2 nO
      obtain ⟨x0, x1, x2, x3, xf, xl⟩ := BV.four; obtain ⟨y0, y1, yf, yl⟩ := BB.two; obtain ⟨u0, u1, uf, ul⟩ := BR.two
      go_upto_if 66 with (fail)
      go_cut [11] from 25 (fun q11 wc_ => ∃ gO, q11 = .slice (some ⟨gO, 0, none⟩) O1.length O1.length ∧ Row wc_ gO O1 ∧ Blk wc_ w.heap.size #[.slice a len cap, .int .i64 (i2 : Int), .int .u64 h2] 75 ∧ Blk wc_ w1.heap.size #[.int .i64 (P : Int), .int .i64 c, .int .i64 h, .int .i64 s] 25 ∧ Blk wc_ (w1.heap.size + 1) #[.slice (some ⟨g1, 0, none⟩) xs.length c1, .slice (some ⟨g2, 0, none⟩) ys.length c2] 28 ∧ Blk wc_ (w1.heap.size + 1 + 1) #[.int .i64 ra, .int .i64 rb] 30 ∧ Row wc_ g1 xs ∧ Row wc_ g2 ys ∧ Below w.heap.size w wc_)
      case first =>
        by_cases e0 : r0 = 0
        · obtain rfl : O1 = [rb, ra] := by rw [← HO1.out, if_pos e0]
          have f1 : (r0 == 0) = true := by rw [beq_iff_eq]; exact e0
          have E0 := Lib.hid e0
          clear e0
          go_wp2_with fail
          go_meet
          case rel => exact ⟨w3.heap.size, rfl, ⟨_, Blk.new _ _ _, by simp, by simp [ints]⟩, BD.alloc _, BV.alloc _, BB.alloc _, BR.alloc _, R1.alloc _, R2.alloc _, hb.alloc hb.size _⟩
        · obtain rfl : O1 = [ra, rb] := by rw [← HO1.out, if_neg e0]
          have f1 : (r0 == 0) = false := by rw [beq_eq_false_iff_ne]; exact e0
          clear e0
          go_wp2_with fail
          go_meet
          case rel => exact ⟨_, rfl, RO, BD, BV, BB, BR, R1, R2, hb⟩
      clear x0 x1 x2 x3 xf xl y0 y1 yf yl u0 u1 uf ul
      clear RO BD BV BB BR R1 R2 hb
      obtain ⟨gO, rfl, RO, BD, BV, BB, BR, R1, R2, hb⟩ := hcut
      rename World => wX
      obtain ⟨x0, x1, x2, x3, xf, xl⟩ := BV.four; obtain ⟨y0, y1, yf, yl⟩ := BB.two; obtain ⟨u0, u1, uf, ul⟩ := BR.two
      go_upto_if 76 with (fail)
      go_cut [11] from 25 (fun q11 wc_ => ∃ gO, q11 = .slice (some ⟨gO, 0, none⟩) O.length O.length ∧ Row wc_ gO O ∧ Blk wc_ w.heap.size #[.slice a len cap, .int .i64 (i2 : Int), .int .u64 h2] 75 ∧ Blk wc_ w1.heap.size #[.int .i64 (P : Int), .int .i64 c, .int .i64 h, .int .i64 s] 25 ∧ Blk wc_ (w1.heap.size + 1) #[.slice (some ⟨g1, 0, none⟩) xs.length c1, .slice (some ⟨g2, 0, none⟩) ys.length c2] 28 ∧ Blk wc_ (w1.heap.size + 1 + 1) #[.int .i64 ra, .int .i64 rb] 30 ∧ Row wc_ g1 xs ∧ Row wc_ g2 ys ∧ Below w.heap.size w wc_)
      case first =>
        by_cases e0 : ra = rb
        · obtain rfl : O = [ra, ra, ra, ra] := by rw [← HO.out, if_pos e0]
          have f1 : (ra == rb) = true := by rw [beq_iff_eq]; exact e0
          have E0 := Lib.hid e0
          clear e0
          go_wp2_with fail
          go_meet
          case rel => exact ⟨wX.heap.size, rfl, ⟨_, Blk.new _ _ _, by simp, by simp [ints]⟩, BD.alloc _, BV.alloc _, BB.alloc _, BR.alloc _, R1.alloc _, R2.alloc _, hb.alloc hb.size _⟩
        · obtain rfl : O = O1 := by rw [← HO.out, if_neg e0]
          have f1 : (ra == rb) = false := by rw [beq_eq_false_iff_ne]; exact e0
          clear e0
          go_wp2_with fail
          go_meet
          case rel => exact ⟨_, rfl, RO, BD, BV, BB, BR, R1, R2, hb⟩
      clear x0 x1 x2 x3 xf xl y0 y1 yf yl u0 u1 uf ul
      clear RO BD BV BB BR R1 R2 hb
      obtain ⟨gO, rfl, RO, BD, BV, BB, BR, R1, R2, hb⟩ := hcut
      rename World => wY
      obtain ⟨x0, x1, x2, x3, xf, xl⟩ := BV.four; obtain ⟨y0, y1, yf, yl⟩ := BB.two; obtain ⟨u0, u1, uf, ul⟩ := BR.two
      go_upto_block 0 with (fail)
      clear x0 x1 x2 x3 xf xl y0 y1 yf yl u0 u1 uf ul
      have HGV := Lib.hid (show w1.heap.size ≠ wY.heap.size ∧ (w1.heap.size + 1) ≠ wY.heap.size ∧ (w1.heap.size + 1 + 1) ≠ wY.heap.size by have q1 := BV.lt; have q2 := BB.lt; have q3 := BR.lt; omega)
      have HGW := Lib.hid (show w.heap.size ≤ wY.heap.size from hb.size)
      have hgA : wY.heap.size ≠ w.heap.size := by have q1 := BV.lt; omega
      have BA := Blk.new wY #[.slice (some ⟨g1, 0, none⟩) xs.length c1, .slice (some ⟨g2, 0, none⟩) ys.length c2] 28
      replace BV := BV.alloc (.cells #[.slice (some ⟨g1, 0, none⟩) xs.length c1, .slice (some ⟨g2, 0, none⟩) ys.length c2] 28)
      replace BB := BB.alloc (.cells #[.slice (some ⟨g1, 0, none⟩) xs.length c1, .slice (some ⟨g2, 0, none⟩) ys.length c2] 28)
      replace BR := BR.alloc (.cells #[.slice (some ⟨g1, 0, none⟩) xs.length c1, .slice (some ⟨g2, 0, none⟩) ys.length c2] 28)
      replace BD := BD.alloc (.cells #[.slice (some ⟨g1, 0, none⟩) xs.length c1, .slice (some ⟨g2, 0, none⟩) ys.length c2] 28)
      replace R1 := R1.alloc (.cells #[.slice (some ⟨g1, 0, none⟩) xs.length c1, .slice (some ⟨g2, 0, none⟩) ys.length c2] 28)
      replace R2 := R2.alloc (.cells #[.slice (some ⟨g1, 0, none⟩) xs.length c1, .slice (some ⟨g2, 0, none⟩) ys.length c2] 28)
      replace RO := RO.alloc (.cells #[.slice (some ⟨g1, 0, none⟩) xs.length c1, .slice (some ⟨g2, 0, none⟩) ys.length c2] 28)
      replace hb := hb.alloc hb.size (.cells #[.slice (some ⟨g1, 0, none⟩) xs.length c1, .slice (some ⟨g2, 0, none⟩) ys.length c2] 28)
      generalize (wY.alloc (.cells #[.slice (some ⟨g1, 0, none⟩) xs.length c1, .slice (some ⟨g2, 0, none⟩) ys.length c2] 28)) = v2 at *
      generalize wY.heap.size = gA at *
      go_cut [13] from 14 (fun q13 wc_ => ∃ (j : Nat) (ts : List Stp) (X Y : List Int) (j1 j2 k1 k2 : Nat), q13 = .int .i64 (j : Int) ∧ Fol P c h s xs ys O j ts X Y ∧ j ≤ O.length ∧ Blk wc_ gA #[.slice (some ⟨j1, 0, none⟩) X.length k1, .slice (some ⟨j2, 0, none⟩) Y.length k2] 28 ∧ Row wc_ j1 X ∧ Row wc_ j2 Y ∧ Row wc_ gO O ∧ Blk wc_ w1.heap.size #[.int .i64 (P : Int), .int .i64 c, .int .i64 h, .int .i64 s] 25 ∧ Blk wc_ (w1.heap.size + 1) #[.slice (some ⟨g1, 0, none⟩) xs.length c1, .slice (some ⟨g2, 0, none⟩) ys.length c2] 28 ∧ Blk wc_ (w1.heap.size + 1 + 1) #[.int .i64 ra, .int .i64 rb] 30 ∧ Row wc_ g1 xs ∧ Row wc_ g2 ys ∧ Below w.heap.size w wc_)
      case first =>
        go_wp2_with fail
        go_loopg [13, 14] O.length (fun m q13 q14 wr => ∃ (j : Nat) (ts : List Stp) (X Y : List Int) (j1 j2 k1 k2 : Nat) (i3 : Nat) (h3 : Int), m = O.length - j ∧ q13 = .int .i64 (j : Int) ∧ q14 = .int .i64 (j : Int) ∧ Blk wr w.heap.size #[.slice a len cap, .int .i64 (i3 : Int), .int .u64 h3] 75 ∧ Fol P c h s xs ys O j ts X Y ∧ j ≤ O.length ∧ Blk wr gA #[.slice (some ⟨j1, 0, none⟩) X.length k1, .slice (some ⟨j2, 0, none⟩) Y.length k2] 28 ∧ Row wr j1 X ∧ Row wr j2 Y ∧ Row wr gO O ∧ Blk wr w1.heap.size #[.int .i64 (P : Int), .int .i64 c, .int .i64 h, .int .i64 s] 25 ∧ Blk wr (w1.heap.size + 1) #[.slice (some ⟨g1, 0, none⟩) xs.length c1, .slice (some ⟨g2, 0, none⟩) ys.length c2] 28 ∧ Blk wr (w1.heap.size + 1 + 1) #[.int .i64 ra, .int .i64 rb] 30 ∧ Row wr g1 xs ∧ Row wr g2 ys ∧ Below w.heap.size w wr)
        case atStart => exact ⟨0, [], xs, ys, g1, g2, c1, c2, i2, h2, by omega, rfl, rfl, BD, Fol.zero HGI.out, by omega, BA, R1, R2, RO, BV, BB, BR, R1, R2, hb⟩
        case round =>
          clear BA BD RO BV BB BR R1 R2 hb
          obtain ⟨j, ts, X, Y, j1, j2, k1, k2, i3, h3, hm, rfl, rfl, BD, hF, hj, BA, RA, RB, RO, BV, BB, BR, R1, R2, hb⟩ := hrel
          have HF := Lib.hid hF
          clear hF
          by_cases hlt : j < O.length
          · have hlt' : (j : Int) < (O.length : Int) := by omega
            have hk0 : (0 : Int) ≤ (j : Int) := by omega
            have hkb : (j : Int) ≤ 4 := by have := HO4.out; omega
            obtain ⟨d, hd⟩ : ∃ d, O[j]? = some d := ⟨O[j]'hlt, List.getElem?_eq_getElem hlt⟩
            have hdB := HOD.out d (List.mem_of_getElem? hd)
            have hcd : CellIs wr gO j (.int .i64 d) := by
              have q := RO.cell j hlt
              rwa [List.getD_eq_getElem?_getD, hd] at q
            have hgX := HF.out.brd
            have hpX := isB_parts hgX
            have lX : X.length ≤ 1048576 := by omega
            have lY : Y.length ≤ 1048576 := by omega
            have hls := fun W (q1 : IRow W (some ⟨j1, 0, none⟩) X) (q2 : IRow W (some ⟨j2, 0, none⟩) Y) => specLegalSteps_any d (P : Int) c h s _ _ _ _ k1 k2 X Y W rfl rfl lX lY q1 q2
            unfold lsL lsR at hls
            simp only [if_pos hgX, if_pos hdB] at hls
            simp only [show ((P : Nat) : Int).toNat = P from rfl] at hls
            obtain ⟨LL, hLL⟩ : ∃ z, legL P h X Y d = z := ⟨_, rfl⟩
            have hLl := legL_length P h X Y d
            rw [hLL] at hls hLl
            replace hLl : LL.length ≤ 25 := by have := HP.out; omega
            have hnx := fun ta tb td tq => HF.out.next (ta := ta) (tb := tb) (td := td) (tq := tq) hd hdB
            have hlg := fun t => legL_leg (t := t) hgX hdB
            rw [hLL] at hnx hlg
            have HLS := Lib.hid hls
            have HNX := Lib.hid hnx
            have HLG := Lib.hid hlg
            have HGX := Lib.hid hgX
            have HLX := Lib.hid (And.intro lX lY)
            have HLl := Lib.hid hLl
            have HXL := Lib.hid (show X.length = P + 1 by omega)
            clear hls hnx hlg hgX hpX hLl hLL hd hdB lX lY
            go_wp2_with fail
            have hd_ : wr.drew.heap.size = wr.heap.size := rfl
            replace BV := BV.drew
            replace BA := BA.drew
            replace BB := BB.drew
            replace BR := BR.drew
            replace BD := BD.drew
            replace R1 := R1.drew
            replace R2 := R2.drew
            replace RO := RO.drew
            replace RA := RA.drew
            replace RB := RB.drew
            replace hb := hb.drew
            replace hcd := CellIs.drew hcd
            refine wp_region_held_drew (S := fun w' => w'.cell? ⟨w1.heap.size, 0, none⟩ = some (.int .i64 (P : Int)) ∧ w'.cell? ⟨w1.heap.size, 1, none⟩ = some (.int .i64 c) ∧ w'.cell? ⟨w1.heap.size, 2, none⟩ = some (.int .i64 h) ∧ w'.cell? ⟨w1.heap.size, 3, none⟩ = some (.int .i64 s) ∧ w'.cell? ⟨gA, 0, none⟩ = some (.slice (some ⟨j1, 0, none⟩) X.length k1) ∧ w'.cell? ⟨gA, 1, none⟩ = some (.slice (some ⟨j2, 0, none⟩) Y.length k2) ∧ w'.cell? ⟨gO, j, none⟩ = some (.int .i64 d)) (by kernel_rfl) ⟨BV.four.1, BV.four.2.1, BV.four.2.2.1, BV.four.2.2.2.1, BA.two.1, BA.two.2.1, hcd⟩ (fun hHeld => ?_)
            clear hHeld
            generalize wr.drew = vd at *
            have hHeld : vd.cell? ⟨w1.heap.size, 0, none⟩ = some (.int .i64 (P : Int)) ∧ vd.cell? ⟨w1.heap.size, 1, none⟩ = some (.int .i64 c) ∧ vd.cell? ⟨w1.heap.size, 2, none⟩ = some (.int .i64 h) ∧ vd.cell? ⟨w1.heap.size, 3, none⟩ = some (.int .i64 s) ∧ vd.cell? ⟨gA, 0, none⟩ = some (.slice (some ⟨j1, 0, none⟩) X.length k1) ∧ vd.cell? ⟨gA, 1, none⟩ = some (.slice (some ⟨j2, 0, none⟩) Y.length k2) ∧ vd.cell? ⟨gO, j, none⟩ = some (.int .i64 d) := ⟨BV.four.1, BV.four.2.1, BV.four.2.2.1, BV.four.2.2.2.1, BA.two.1, BA.two.2.1, hcd⟩
            refine tk 0 94 ?_
            refine tk 1 95 ?_
            refine tk 2 96 ?_
            refine tk 3 97 ?_
            refine tk 4 98 ?_
            refine tk 5 99 ?_
            refine rdk 6 100 fun K hK => ?_
            go_simp
            refine (HLS.out _ RA.irow RB.irow).mono ?_
            rintro e wl ⟨aL, kL, rfl, OL, hbl⟩
            have hvl := BD.lt
            replace BV := BV.below hbl
            replace BA := BA.below hbl
            replace BB := BB.below hbl
            replace BR := BR.below hbl
            replace BD := BD.below hbl
            replace R1 := R1.below hbl
            replace R2 := R2.below hbl
            replace RO := RO.below hbl
            replace RA := RA.below hbl
            replace RB := RB.below hbl
            replace hcd := CellIs.below hcd hbl
            replace hb := chain hb hbl
            clear hbl
            (try go_wp2_with fail)
            refine hko hK (Blk.f4 BV (Blk.f2 BA hcd)) fun hHeld => ?_
            clear hK K
            refine tk 7 93 ?_
            refine tk 8 101 ?_
            refine tk 9 102 ?_
            refine tk 10 15 ?_
            refine tk 11 16 ?_
            refine wpAnyH_done (by kernel_rfl) ?_ _
            clear hHeld
            clear hcd HLS
            by_cases hL0 : LL.length = 0
            · have fL : ((LL.length : Int) == 0) = true := by rw [beq_iff_eq]; omega
              clear hL0 OL hvl
              go_wp2_with fail
              go_meet
              case rel => exact ⟨j, ts, X, Y, j1, j2, k1, k2, rfl, HF.out, hj, BA, RA, RB, RO, BV, BB, BR, R1, R2, hb⟩
            · have fL : ((LL.length : Int) == 0) = false := by rw [beq_eq_false_iff_ne]; omega
              have hvd : w.heap.size < vd.heap.size := by omega
              obtain ⟨r, i4, h4, q0, q1, hbe⟩ := below_det w.heap.size w.heap.size a len cap i3 h3 (LL.length : Int) w (Nat.le_refl _) (by omega) (by omega) hcode
              obtain ⟨R, rfl⟩ := Int.eq_ofNat_of_zero_le q0
              have hRl : R < LL.length := by omega
              have hR' : (R : Int) < (LL.length : Int) := by omega
              have hR0 : (0 : Int) ≤ (R : Int) := by omega
              have hRb : (R : Int) ≤ 25 := by have := HLl.out; omega
              obtain ⟨⟨ta, tb, td, tq⟩, ht⟩ : ∃ t, LL[R]? = some t := ⟨LL[R]'hRl, List.getElem?_eq_getElem hRl⟩
              have HT := Lib.hid ht
              have hleg := HLG.out _ (List.mem_of_getElem? ht)
              have hfn := HNX.out ta tb td tq (List.mem_of_getElem? ht)
              rcases OL with ⟨-, e⟩ | ⟨gS, rfl, hS1, -, SL⟩
              · exact absurd (by rw [e]; rfl) hL0
              have has := fun W (q1 : IRow W (some ⟨j1, 0, none⟩) X) (q2 : IRow W (some ⟨j2, 0, none⟩) Y) => specApplyStep_any (ta, tb, td, tq) (P : Int) c h s _ _ _ _ k1 k2 X Y W rfl rfl HLX.out.1 HLX.out.2 q1 q2
              unfold asX asY asR at has
              simp only [if_pos HGX.out, show ((P : Nat) : Int).toNat = P from rfl, if_pos hleg] at has
              have hxn : mvX X ta tb 1 ≠ [] := by
                intro e
                have q := congrArg List.length e
                rw [mvX_length, HXL.out] at q
                simp at q
              obtain ⟨X2, hX2⟩ : ∃ z, mvX X ta tb 1 = z := ⟨_, rfl⟩
              obtain ⟨Y2, hY2⟩ : ∃ z, mvY P Y tb tq 1 = z := ⟨_, rfl⟩
              rw [hX2] at has hfn hxn
              rw [hY2] at has hfn
              have HAS := Lib.hid has
              have HXN := Lib.hid hxn
              have HFN := Lib.hid hfn
              have HBE := Lib.hid hbe
              have nV : w1.heap.size ≠ w.heap.size := by omega
              have nA := hgA
              have nS : gS ≠ w.heap.size := by omega
              have n1 := rowNe R1 BD (by decide)
              have n2 := rowNe R2 BD (by decide)
              have nO := rowNe RO BD (by decide)
              have nRA := rowNe RA BD (by decide)
              have nRB := rowNe RB BD (by decide)
              have hwl := BD.lt
              clear hX2 hY2 has hxn hfn hbe ht hleg hL0 q0 q1 HLG HNX hS1 hvd hvl
              go_upto_region 23 with (fail)
              go_cut [17, 18] from 87 to 127 (fun q17 q18 wc_ => ∃ g8 j3 j4 m3 m4, q17 = .pointer (some ⟨g8, 0, none⟩) ∧ q18 = .int .i64 0 ∧ Blk wc_ g8 #[.slice (some ⟨j3, 0, none⟩) X2.length m3, .slice (some ⟨j4, 0, none⟩) Y2.length m4] 28 ∧ Row wc_ j3 X2 ∧ Row wc_ j4 Y2 ∧ Blk wc_ w.heap.size #[.slice a len cap, .int .i64 (i4 : Int), .int .u64 h4] 75 ∧ wl.grownBy wc_ (some w.heap.size) ∧ Below w.heap.size w wc_)
              case first =>
               as_aux_lemma =>
                refine wp_region_held_drew (S := fun w' => w'.cell? ⟨w1.heap.size, 0, none⟩ = some (.int .i64 (P : Int)) ∧ w'.cell? ⟨w1.heap.size, 1, none⟩ = some (.int .i64 c) ∧ w'.cell? ⟨w1.heap.size, 2, none⟩ = some (.int .i64 h) ∧ w'.cell? ⟨w1.heap.size, 3, none⟩ = some (.int .i64 s) ∧ w'.cell? ⟨gA, 0, none⟩ = some (.slice (some ⟨j1, 0, none⟩) X.length k1) ∧ w'.cell? ⟨gA, 1, none⟩ = some (.slice (some ⟨j2, 0, none⟩) Y.length k2) ∧ w'.cell? ⟨gS, R * 4, none⟩ = some (.int .i64 ta) ∧ w'.cell? ⟨gS, R * 4 + 1, none⟩ = some (.int .i64 tb) ∧ w'.cell? ⟨gS, R * 4 + 2, none⟩ = some (.int .i64 td) ∧ w'.cell? ⟨gS, R * 4 + 3, none⟩ = some (.bool tq)) (by kernel_rfl) ⟨(BV.grown (grown_drew (grown_refl wl _)) nV).four.1, (BV.grown (grown_drew (grown_refl wl _)) nV).four.2.1, (BV.grown (grown_drew (grown_refl wl _)) nV).four.2.2.1, (BV.grown (grown_drew (grown_refl wl _)) nV).four.2.2.2.1, (BA.grown (grown_drew (grown_refl wl _)) nA).two.1, (BA.grown (grown_drew (grown_refl wl _)) nA).two.2.1, (SRow.four (SL.grown (grown_drew (grown_refl wl _)) nS) R _ HT.out).1, (SRow.four (SL.grown (grown_drew (grown_refl wl _)) nS) R _ HT.out).2.1, (SRow.four (SL.grown (grown_drew (grown_refl wl _)) nS) R _ HT.out).2.2.1, (SRow.four (SL.grown (grown_drew (grown_refl wl _)) nS) R _ HT.out).2.2.2⟩ (fun hHeld => ?_)
                clear hHeld
                have hgr : wl.grownBy wl.drew (some w.heap.size) := grown_drew (grown_refl wl _)
                have hbx := hb.drew
                replace BD := BD.drew
                generalize wl.drew = vd at *
                have hHeld : vd.cell? ⟨w1.heap.size, 0, none⟩ = some (.int .i64 (P : Int)) ∧ vd.cell? ⟨w1.heap.size, 1, none⟩ = some (.int .i64 c) ∧ vd.cell? ⟨w1.heap.size, 2, none⟩ = some (.int .i64 h) ∧ vd.cell? ⟨w1.heap.size, 3, none⟩ = some (.int .i64 s) ∧ vd.cell? ⟨gA, 0, none⟩ = some (.slice (some ⟨j1, 0, none⟩) X.length k1) ∧ vd.cell? ⟨gA, 1, none⟩ = some (.slice (some ⟨j2, 0, none⟩) Y.length k2) ∧ vd.cell? ⟨gS, R * 4, none⟩ = some (.int .i64 ta) ∧ vd.cell? ⟨gS, R * 4 + 1, none⟩ = some (.int .i64 tb) ∧ vd.cell? ⟨gS, R * 4 + 2, none⟩ = some (.int .i64 td) ∧ vd.cell? ⟨gS, R * 4 + 3, none⟩ = some (.bool tq) := ⟨(BV.grown hgr nV).four.1, (BV.grown hgr nV).four.2.1, (BV.grown hgr nV).four.2.2.1, (BV.grown hgr nV).four.2.2.2.1, (BA.grown hgr nA).two.1, (BA.grown hgr nA).two.2.1, (SRow.four (SL.grown hgr nS) R _ HT.out).1, (SRow.four (SL.grown hgr nS) R _ HT.out).2.1, (SRow.four (SL.grown hgr nS) R _ HT.out).2.2.1, (SRow.four (SL.grown hgr nS) R _ HT.out).2.2.2⟩
                refine tk 0 111 ?_
                refine tk 1 112 ?_
                refine tk 2 113 ?_
                refine tk 3 114 ?_
                refine tk 4 115 ?_
                refine tk 5 116 ?_
                refine wpAnyH_ready (rs := [6, 13]) (by kernel_rfl) (by simp) ?_
                refine AllReadyH.cons (o := ⟨some 117, _, _, _, _, _⟩) rfl (fun K hK => ?_) (AllReadyH.cons (o := ⟨some 17, _, _, _, _, _⟩) rfl (fun K hK => ?_) AllReadyH.nil)
                · go_simp
                  refine (HBE.out _ hbx BD).mono ?_
                  rintro e w7 ⟨rfl, hg7, BD7, -⟩
                  replace hgr := grown_trans hgr hg7
                  replace hbx := chain_grown hbx hg7 (Nat.le_refl _)
                  clear BD hg7
                  have BD := BD7
                  clear BD7
                  (try go_wp2_with fail)
                  refine hko hK (Blk.f4 (BV.grown hgr nV) (Blk.f2 (BA.grown hgr nA) ⟨(SRow.four (SL.grown hgr nS) R _ HT.out).1, (SRow.four (SL.grown hgr nS) R _ HT.out).2.1, (SRow.four (SL.grown hgr nS) R _ HT.out).2.2.1, (SRow.four (SL.grown hgr nS) R _ HT.out).2.2.2⟩)) fun hHeld => ?_
                  clear hK K
                  refine tk 7 118 ?_
                  refine tk 8 119 ?_
                  refine wpAnyH_ready (rs := [9, 13]) (by kernel_rfl) (by simp) ?_
                  refine AllReadyH.cons (o := ⟨some 120, _, _, _, _, _⟩) rfl (fun K hK => ?_) (AllReadyH.cons (o := ⟨some 17, _, _, _, _, _⟩) rfl (fun K hK => ?_) AllReadyH.nil)
                  · go_simp
                    refine (HAS.out _ (RA.grown hgr nRA).irow (RB.grown hgr nRB).irow).mono ?_
                    rintro e w8 ⟨a8, b8, m3, m4, rfl, O8, hb8⟩
                    obtain ⟨j3, j4, rfl, rfl, hj3, hj4, N1_, N2_⟩ := O8.rows HXN.out
                    replace BD := BD.below hb8
                    replace hgr := grown_trans hgr (grown_of_below hb8 _)
                    replace hbx := chain hbx hb8
                    clear hb8 O8
                    (try go_wp2_with fail)
                    refine hko hK (Blk.f4 (BV.grown hgr nV) (Blk.f2 (BA.grown hgr nA) ⟨(SRow.four (SL.grown hgr nS) R _ HT.out).1, (SRow.four (SL.grown hgr nS) R _ HT.out).2.1, (SRow.four (SL.grown hgr nS) R _ HT.out).2.2.1, (SRow.four (SL.grown hgr nS) R _ HT.out).2.2.2⟩)) fun hHeld => ?_
                    clear hK K
                    refine tk 10 110 ?_
                    refine tk 11 121 ?_
                    refine tk 12 122 ?_
                    refine rdk 13 17 fun K hK => ?_
                    go_simp
                    have hal : Below w8.heap.size w8 (w8.alloc (.cells #[.slice none 0 0, .slice none 0 0] 28)) := (Below.refl _ _).alloc (Nat.le_refl _) _
                    have h8 : wl.heap.size ≤ w8.heap.size := hgr.size
                    (try go_wp2_with fail)
                    refine hko hK (Blk.f4 (BV.grown (grown_trans hgr (grown_of_below hal _)) nV) (Blk.f2 (BA.grown (grown_trans hgr (grown_of_below hal _)) nA) ⟨(SRow.four (SL.grown (grown_trans hgr (grown_of_below hal _)) nS) R _ HT.out).1, (SRow.four (SL.grown (grown_trans hgr (grown_of_below hal _)) nS) R _ HT.out).2.1, (SRow.four (SL.grown (grown_trans hgr (grown_of_below hal _)) nS) R _ HT.out).2.2.1, (SRow.four (SL.grown (grown_trans hgr (grown_of_below hal _)) nS) R _ HT.out).2.2.2⟩)) fun hHeld => ?_
                    clear hK K
                    have B8 := Blk.new w8 #[.slice none 0 0, .slice none 0 0] 28
                    replace BD := BD.below hal
                    replace N1_ := N1_.below hal
                    replace N2_ := N2_.below hal
                    replace hgr := grown_trans hgr (grown_of_below hal _)
                    replace hbx := chain hbx hal
                    clear hal
                    generalize w8.alloc (.cells #[.slice none 0 0, .slice none 0 0] 28) = wA at *
                    generalize w8.heap.size = g8 at *
                    have n8 : g8 ≠ w.heap.size := by omega
                    refine rdn 14 fun K hK => ?_
                    clear hHeld
                    obtain ⟨t0, t1, tf, tl⟩ := B8.two
                    have n81 := rowNe N1_ B8 (by decide)
                    have n82 := rowNe N2_ B8 (by decide)
                    have SN1 := (N1_.other (g := g8) (o := 0) (v := (.slice (some ⟨j3, 0, none⟩) X2.length m3)) n81).other (g := g8) (o := 1) (v := (.slice (some ⟨j4, 0, none⟩) Y2.length m4)) n81
                    have SN2 := (N2_.other (g := g8) (o := 0) (v := (.slice (some ⟨j3, 0, none⟩) X2.length m3)) n82).other (g := g8) (o := 1) (v := (.slice (some ⟨j4, 0, none⟩) Y2.length m4)) n82
                    have SBD := (BD.other (g := g8) (o := 0) (v := (.slice (some ⟨j3, 0, none⟩) X2.length m3)) n8.symm).other (g := g8) (o := 1) (v := (.slice (some ⟨j4, 0, none⟩) Y2.length m4)) n8.symm
                    have Sgr := grown_far (o := 1) (v := (.slice (some ⟨j4, 0, none⟩) Y2.length m4)) (grown_far (o := 0) (v := (.slice (some ⟨j3, 0, none⟩) X2.length m3)) hgr h8) h8
                    have Shb := (hbx.setCell (p := ⟨g8, 0, none⟩) (by simp; omega) (.slice (some ⟨j3, 0, none⟩) X2.length m3)).setCell (p := ⟨g8, 1, none⟩) (by simp; omega) (.slice (some ⟨j4, 0, none⟩) Y2.length m4)
                    have SB8 := (B8.set (i := 0) (.slice (some ⟨j3, 0, none⟩) X2.length m3)).set (i := 1) (.slice (some ⟨j4, 0, none⟩) Y2.length m4)
                    simp only [List.setIfInBounds_toArray, List.set_cons_zero, List.set_cons_succ] at SB8
                    go_simp
                    (try go_wp2_with fail)
                    refine hko hK (Blk.f4 (BV.grown Sgr nV) (Blk.f2 (BA.grown Sgr nA) ⟨(SRow.four (SL.grown Sgr nS) R _ HT.out).1, (SRow.four (SL.grown Sgr nS) R _ HT.out).2.1, (SRow.four (SL.grown Sgr nS) R _ HT.out).2.2.1, (SRow.four (SL.grown Sgr nS) R _ HT.out).2.2.2⟩)) fun hHeld => ?_
                    clear hK K
                    clear t0 t1 tf tl hbx hgr B8 n81 n82 N1_ N2_ BD
                    generalize ((wA.setCell ⟨g8, 0, none⟩ (.slice (some ⟨j3, 0, none⟩) X2.length m3)).setCell ⟨g8, 1, none⟩ (.slice (some ⟨j4, 0, none⟩) Y2.length m4)) = wS at *
                    refine tk 15 18 ?_
                    refine wpAnyH_done (by kernel_rfl) ?_ _
                    clear hHeld
                    (try go_wp2_with fail)
                    go_meet
                    case rel => exact ⟨g8, j3, j4, m3, m4, rfl, rfl, SB8, SN1, SN2, SBD, Sgr, Shb⟩
                  · go_simp
                    have hal : Below w7.heap.size w7 (w7.alloc (.cells #[.slice none 0 0, .slice none 0 0] 28)) := (Below.refl _ _).alloc (Nat.le_refl _) _
                    have h8 : wl.heap.size ≤ w7.heap.size := hgr.size
                    (try go_wp2_with fail)
                    refine hko hK (Blk.f4 (BV.grown (grown_trans hgr (grown_of_below hal _)) nV) (Blk.f2 (BA.grown (grown_trans hgr (grown_of_below hal _)) nA) ⟨(SRow.four (SL.grown (grown_trans hgr (grown_of_below hal _)) nS) R _ HT.out).1, (SRow.four (SL.grown (grown_trans hgr (grown_of_below hal _)) nS) R _ HT.out).2.1, (SRow.four (SL.grown (grown_trans hgr (grown_of_below hal _)) nS) R _ HT.out).2.2.1, (SRow.four (SL.grown (grown_trans hgr (grown_of_below hal _)) nS) R _ HT.out).2.2.2⟩)) fun hHeld => ?_
                    clear hK K
                    have B8 := Blk.new w7 #[.slice none 0 0, .slice none 0 0] 28
                    replace BD := BD.below hal
                    replace hgr := grown_trans hgr (grown_of_below hal _)
                    replace hbx := chain hbx hal
                    clear hal
                    generalize w7.alloc (.cells #[.slice none 0 0, .slice none 0 0] 28) = wA at *
                    generalize w7.heap.size = g8 at *
                    have n8 : g8 ≠ w.heap.size := by omega
                    refine rdk 9 120 fun K hK => ?_
                    go_simp
                    refine (HAS.out _ (RA.grown hgr nRA).irow (RB.grown hgr nRB).irow).mono ?_
                    rintro e w8 ⟨a8, b8, m3, m4, rfl, O8, hb8⟩
                    obtain ⟨j3, j4, rfl, rfl, hj3, hj4, N1_, N2_⟩ := O8.rows HXN.out
                    replace BD := BD.below hb8
                    replace B8 := B8.below hb8
                    replace hgr := grown_trans hgr (grown_of_below hb8 _)
                    replace hbx := chain hbx hb8
                    clear hb8 O8
                    (try go_wp2_with fail)
                    refine hko hK (Blk.f4 (BV.grown hgr nV) (Blk.f2 (BA.grown hgr nA) ⟨(SRow.four (SL.grown hgr nS) R _ HT.out).1, (SRow.four (SL.grown hgr nS) R _ HT.out).2.1, (SRow.four (SL.grown hgr nS) R _ HT.out).2.2.1, (SRow.four (SL.grown hgr nS) R _ HT.out).2.2.2⟩)) fun hHeld => ?_
                    clear hK K
                    refine tk 10 110 ?_
                    refine tk 11 121 ?_
                    refine tk 12 122 ?_
                    refine rdn 14 fun K hK => ?_
                    clear hHeld
                    obtain ⟨t0, t1, tf, tl⟩ := B8.two
                    have n81 := rowNe N1_ B8 (by decide)
                    have n82 := rowNe N2_ B8 (by decide)
                    have SN1 := (N1_.other (g := g8) (o := 0) (v := (.slice (some ⟨j3, 0, none⟩) X2.length m3)) n81).other (g := g8) (o := 1) (v := (.slice (some ⟨j4, 0, none⟩) Y2.length m4)) n81
                    have SN2 := (N2_.other (g := g8) (o := 0) (v := (.slice (some ⟨j3, 0, none⟩) X2.length m3)) n82).other (g := g8) (o := 1) (v := (.slice (some ⟨j4, 0, none⟩) Y2.length m4)) n82
                    have SBD := (BD.other (g := g8) (o := 0) (v := (.slice (some ⟨j3, 0, none⟩) X2.length m3)) n8.symm).other (g := g8) (o := 1) (v := (.slice (some ⟨j4, 0, none⟩) Y2.length m4)) n8.symm
                    have Sgr := grown_far (o := 1) (v := (.slice (some ⟨j4, 0, none⟩) Y2.length m4)) (grown_far (o := 0) (v := (.slice (some ⟨j3, 0, none⟩) X2.length m3)) hgr h8) h8
                    have Shb := (hbx.setCell (p := ⟨g8, 0, none⟩) (by simp; omega) (.slice (some ⟨j3, 0, none⟩) X2.length m3)).setCell (p := ⟨g8, 1, none⟩) (by simp; omega) (.slice (some ⟨j4, 0, none⟩) Y2.length m4)
                    have SB8 := (B8.set (i := 0) (.slice (some ⟨j3, 0, none⟩) X2.length m3)).set (i := 1) (.slice (some ⟨j4, 0, none⟩) Y2.length m4)
                    simp only [List.setIfInBounds_toArray, List.set_cons_zero, List.set_cons_succ] at SB8
                    go_simp
                    (try go_wp2_with fail)
                    refine hko hK (Blk.f4 (BV.grown Sgr nV) (Blk.f2 (BA.grown Sgr nA) ⟨(SRow.four (SL.grown Sgr nS) R _ HT.out).1, (SRow.four (SL.grown Sgr nS) R _ HT.out).2.1, (SRow.four (SL.grown Sgr nS) R _ HT.out).2.2.1, (SRow.four (SL.grown Sgr nS) R _ HT.out).2.2.2⟩)) fun hHeld => ?_
                    clear hK K
                    clear t0 t1 tf tl hbx hgr B8 n81 n82 N1_ N2_ BD
                    generalize ((w8.setCell ⟨g8, 0, none⟩ (.slice (some ⟨j3, 0, none⟩) X2.length m3)).setCell ⟨g8, 1, none⟩ (.slice (some ⟨j4, 0, none⟩) Y2.length m4)) = wS at *
                    refine tk 15 18 ?_
                    refine wpAnyH_done (by kernel_rfl) ?_ _
                    clear hHeld
                    (try go_wp2_with fail)
                    go_meet
                    case rel => exact ⟨g8, j3, j4, m3, m4, rfl, rfl, SB8, SN1, SN2, SBD, Sgr, Shb⟩
                · go_simp
                  have hal : Below vd.heap.size vd (vd.alloc (.cells #[.slice none 0 0, .slice none 0 0] 28)) := (Below.refl _ _).alloc (Nat.le_refl _) _
                  have h8 : wl.heap.size ≤ vd.heap.size := hgr.size
                  (try go_wp2_with fail)
                  refine hko hK (Blk.f4 (BV.grown (grown_trans hgr (grown_of_below hal _)) nV) (Blk.f2 (BA.grown (grown_trans hgr (grown_of_below hal _)) nA) ⟨(SRow.four (SL.grown (grown_trans hgr (grown_of_below hal _)) nS) R _ HT.out).1, (SRow.four (SL.grown (grown_trans hgr (grown_of_below hal _)) nS) R _ HT.out).2.1, (SRow.four (SL.grown (grown_trans hgr (grown_of_below hal _)) nS) R _ HT.out).2.2.1, (SRow.four (SL.grown (grown_trans hgr (grown_of_below hal _)) nS) R _ HT.out).2.2.2⟩)) fun hHeld => ?_
                  clear hK K
                  have B8 := Blk.new vd #[.slice none 0 0, .slice none 0 0] 28
                  replace BD := BD.below hal
                  replace hgr := grown_trans hgr (grown_of_below hal _)
                  replace hbx := chain hbx hal
                  clear hal
                  generalize vd.alloc (.cells #[.slice none 0 0, .slice none 0 0] 28) = wA at *
                  generalize vd.heap.size = g8 at *
                  have n8 : g8 ≠ w.heap.size := by omega
                  refine rdk 6 117 fun K hK => ?_
                  go_simp
                  refine (HBE.out _ hbx BD).mono ?_
                  rintro e w7 ⟨rfl, hg7, BD7, -⟩
                  replace hgr := grown_trans hgr hg7
                  replace hbx := chain_grown hbx hg7 (Nat.le_refl _)
                  replace B8 := B8.grown hg7 n8
                  clear BD hg7
                  have BD := BD7
                  clear BD7
                  (try go_wp2_with fail)
                  refine hko hK (Blk.f4 (BV.grown hgr nV) (Blk.f2 (BA.grown hgr nA) ⟨(SRow.four (SL.grown hgr nS) R _ HT.out).1, (SRow.four (SL.grown hgr nS) R _ HT.out).2.1, (SRow.four (SL.grown hgr nS) R _ HT.out).2.2.1, (SRow.four (SL.grown hgr nS) R _ HT.out).2.2.2⟩)) fun hHeld => ?_
                  clear hK K
                  refine tk 7 118 ?_
                  refine tk 8 119 ?_
                  refine rdk 9 120 fun K hK => ?_
                  go_simp
                  refine (HAS.out _ (RA.grown hgr nRA).irow (RB.grown hgr nRB).irow).mono ?_
                  rintro e w8 ⟨a8, b8, m3, m4, rfl, O8, hb8⟩
                  obtain ⟨j3, j4, rfl, rfl, hj3, hj4, N1_, N2_⟩ := O8.rows HXN.out
                  replace BD := BD.below hb8
                  replace B8 := B8.below hb8
                  replace hgr := grown_trans hgr (grown_of_below hb8 _)
                  replace hbx := chain hbx hb8
                  clear hb8 O8
                  (try go_wp2_with fail)
                  refine hko hK (Blk.f4 (BV.grown hgr nV) (Blk.f2 (BA.grown hgr nA) ⟨(SRow.four (SL.grown hgr nS) R _ HT.out).1, (SRow.four (SL.grown hgr nS) R _ HT.out).2.1, (SRow.four (SL.grown hgr nS) R _ HT.out).2.2.1, (SRow.four (SL.grown hgr nS) R _ HT.out).2.2.2⟩)) fun hHeld => ?_
                  clear hK K
                  refine tk 10 110 ?_
                  refine tk 11 121 ?_
                  refine tk 12 122 ?_
                  refine rdn 14 fun K hK => ?_
                  clear hHeld
                  obtain ⟨t0, t1, tf, tl⟩ := B8.two
                  have n81 := rowNe N1_ B8 (by decide)
                  have n82 := rowNe N2_ B8 (by decide)
                  have SN1 := (N1_.other (g := g8) (o := 0) (v := (.slice (some ⟨j3, 0, none⟩) X2.length m3)) n81).other (g := g8) (o := 1) (v := (.slice (some ⟨j4, 0, none⟩) Y2.length m4)) n81
                  have SN2 := (N2_.other (g := g8) (o := 0) (v := (.slice (some ⟨j3, 0, none⟩) X2.length m3)) n82).other (g := g8) (o := 1) (v := (.slice (some ⟨j4, 0, none⟩) Y2.length m4)) n82
                  have SBD := (BD.other (g := g8) (o := 0) (v := (.slice (some ⟨j3, 0, none⟩) X2.length m3)) n8.symm).other (g := g8) (o := 1) (v := (.slice (some ⟨j4, 0, none⟩) Y2.length m4)) n8.symm
                  have Sgr := grown_far (o := 1) (v := (.slice (some ⟨j4, 0, none⟩) Y2.length m4)) (grown_far (o := 0) (v := (.slice (some ⟨j3, 0, none⟩) X2.length m3)) hgr h8) h8
                  have Shb := (hbx.setCell (p := ⟨g8, 0, none⟩) (by simp; omega) (.slice (some ⟨j3, 0, none⟩) X2.length m3)).setCell (p := ⟨g8, 1, none⟩) (by simp; omega) (.slice (some ⟨j4, 0, none⟩) Y2.length m4)
                  have SB8 := (B8.set (i := 0) (.slice (some ⟨j3, 0, none⟩) X2.length m3)).set (i := 1) (.slice (some ⟨j4, 0, none⟩) Y2.length m4)
                  simp only [List.setIfInBounds_toArray, List.set_cons_zero, List.set_cons_succ] at SB8
                  go_simp
                  (try go_wp2_with fail)
                  refine hko hK (Blk.f4 (BV.grown Sgr nV) (Blk.f2 (BA.grown Sgr nA) ⟨(SRow.four (SL.grown Sgr nS) R _ HT.out).1, (SRow.four (SL.grown Sgr nS) R _ HT.out).2.1, (SRow.four (SL.grown Sgr nS) R _ HT.out).2.2.1, (SRow.four (SL.grown Sgr nS) R _ HT.out).2.2.2⟩)) fun hHeld => ?_
                  clear hK K
                  clear t0 t1 tf tl hbx hgr B8 n81 n82 N1_ N2_ BD
                  generalize ((w8.setCell ⟨g8, 0, none⟩ (.slice (some ⟨j3, 0, none⟩) X2.length m3)).setCell ⟨g8, 1, none⟩ (.slice (some ⟨j4, 0, none⟩) Y2.length m4)) = wS at *
                  refine tk 15 18 ?_
                  refine wpAnyH_done (by kernel_rfl) ?_ _
                  clear hHeld
                  (try go_wp2_with fail)
                  go_meet
                  case rel => exact ⟨g8, j3, j4, m3, m4, rfl, rfl, SB8, SN1, SN2, SBD, Sgr, Shb⟩
              case rest =>
                clear BD HBE HAS
                obtain ⟨g8, j3, j4, m3, m4, rfl, rfl, B8, N1_, N2_, BD, hgr, hbx⟩ := hcut
                rename World => wZ
                replace BV := BV.grown hgr (by omega)
                replace BB := BB.grown hgr (by omega)
                replace BR := BR.grown hgr (by omega)
                replace R1 := R1.grown hgr n1
                replace R2 := R2.grown hgr n2
                replace RO := RO.grown hgr nO
                replace BA := BA.grown hgr nA
                clear hb hgr RA RB SL n1 n2 nO nRA nRB nS
                have hb := hbx
                clear hbx
                obtain ⟨t0, t1, tf, tl⟩ := B8.two
                obtain ⟨v0_, v1_, vf_, vl_⟩ := BA.two
                have nA1 := rowNe R1 BA (by decide)
                have nA2 := rowNe R2 BA (by decide)
                have nAO := rowNe RO BA (by decide)
                have nA3 := rowNe N1_ BA (by decide)
                have nA4 := rowNe N2_ BA (by decide)
                go_wp2_with fail
                go_roundg (O.length - (j + 1))
                case measure => omega
                case rel =>
                  have BA2 := (BA.set (i := 0) (.slice (some ⟨j3, 0, none⟩) X2.length m3)).set (i := 1) (.slice (some ⟨j4, 0, none⟩) Y2.length m4)
                  simp only [List.setIfInBounds_toArray, List.set_cons_zero, List.set_cons_succ] at BA2
                  exact ⟨j + 1, ts ++ [(ta, tb, td, tq)], X2, Y2, j3, j4, m3, m4, i4, h4, rfl, by go_num, by go_num, (BD.other hgA.symm).other hgA.symm, HFN.out, by omega, BA2, (N1_.other nA3).other nA3, (N2_.other nA4).other nA4, (RO.other nAO).other nAO, (BV.other HGV.out.1).other HGV.out.1, (BB.other HGV.out.2.1).other HGV.out.2.1, (BR.other HGV.out.2.2).other HGV.out.2.2, (R1.other nA1).other nA1, (R2.other nA2).other nA2, (hb.setCell (p := ⟨gA, 0, none⟩) HGW.out _).setCell (p := ⟨gA, 1, none⟩) HGW.out _⟩
          · obtain rfl : j = O.length := by omega
            have hlt' : ¬ ((O.length : Nat) : Int) < (O.length : Int) := by omega
            go_wp2_with fail
            go_meet
            case rel => exact ⟨_, ts, X, Y, j1, j2, k1, k2, rfl, HF.out, hj, BA, RA, RB, RO, BV, BB, BR, R1, R2, hb⟩
      clear BA BD RO BV BB BR R1 R2 hb
      obtain ⟨j, ts, X, Y, j1, j2, k1, k2, rfl, hF, hj, BA, RX, RY, RO, BV, BB, BR, R1, R2, hb⟩ := hcut
      rename World => wE
      have hjU := HUS.out j ts X Y hF
      have hfd := HFD.out j ts X Y hF
      have hpX := isB_parts hF.brd
      have lX : X.length ≤ 1048576 := by omega
      have lY : Y.length ≤ 1048576 := by omega
      have hfi := fun W (q1 : IRow W (some ⟨g1, 0, none⟩) xs) (q2 : IRow W (some ⟨g2, 0, none⟩) ys) (q3 : IRow W (some ⟨j1, 0, none⟩) X) (q4 : IRow W (some ⟨j2, 0, none⟩) Y) => implFindPlay_any ra rb (P : Int) c h s _ _ _ _ c1 c2 xs ys (some ⟨j1, 0, none⟩) (some ⟨j2, 0, none⟩) _ _ k1 k2 X Y W rfl rfl l1 l2 q1 q2 rfl rfl lX lY q3 q4
      have hfs := fun W (q1 : IRow W (some ⟨g1, 0, none⟩) xs) (q2 : IRow W (some ⟨g2, 0, none⟩) ys) (q3 : IRow W (some ⟨j1, 0, none⟩) X) (q4 : IRow W (some ⟨j2, 0, none⟩) Y) => specFindPlay_any ra rb (P : Int) c h s _ _ _ _ c1 c2 xs ys (some ⟨j1, 0, none⟩) (some ⟨j2, 0, none⟩) _ _ k1 k2 X Y W rfl rfl l1 l2 q1 q2 rfl rfl lX lY q3 q4
      obtain ⟨FV, hFV⟩ : ∃ z, fpV (P : Int) c h s xs ys ra rb X Y = z := ⟨_, rfl⟩
      rw [hFV] at hfi hfs
      rw [hFV] at hfd
      have f28 : ¬ ((U : Int) < (j : Int)) := by omega
      obtain ⟨d0, hd0⟩ : ∃ d, O[0]? = some d := ⟨O[0]'HOL.out, List.getElem?_eq_getElem HOL.out⟩
      have hof := HOF.out d0 hd0
      have HFI := Lib.hid hfi
      have HFS := Lib.hid hfs
      have HFD2 := Lib.hid hfd
      have HJU := Lib.hid hjU
      have HOF2 := Lib.hid hof
      have HD0 := Lib.hid (show O.getD 0 0 = d0 by rw [List.getD_eq_getElem?_getD, hd0]; rfl)
      have hO0 : (0 : Int) < (O.length : Int) := by have := HOL.out; omega
      clear hfi hfs hfd hjU hof hpX hF hFV hd0 HUS HFD HOF
      have hc0 := RO.cell 0 HOL.out
      rw [HD0.out] at hc0
      obtain ⟨x0, x1, x2, x3, xf, xl⟩ := BV.four; obtain ⟨y0, y1, yf, yl⟩ := BB.two; obtain ⟨u0, u1, uf, ul⟩ := BR.two
      go_upto_region 31 with (first | (go_at_call 17; refine (HLH.out _ R1.irow R2.irow).mono ?_; rintro e wq ⟨aH, kH, rfl, -, hbq⟩; clear hc0; clear x0 x1 x2 x3 xf xl y0 y1 yf yl u0 u1 uf ul; replace BV := BV.below hbq; replace BB := BB.below hbq; replace BR := BR.below hbq; replace R1 := R1.below hbq; replace R2 := R2.below hbq; replace RO := RO.below hbq; replace RX := RX.below hbq; replace RY := RY.below hbq; replace BA := BA.below hbq; replace hb := chain hb hbq; clear hbq; have hc0 := RO.cell 0 HOL.out; rw [HD0.out] at hc0; obtain ⟨x0, x1, x2, x3, xf, xl⟩ := BV.four; obtain ⟨y0, y1, yf, yl⟩ := BB.two; obtain ⟨u0, u1, uf, ul⟩ := BR.two))
      obtain ⟨BQ, hBQ⟩ : ∃ z, decide (j < U ∨ (U = 1 ∧ ra ≠ rb ∧ d0 ≠ ra ∧ 0 < LH.length)) = z := ⟨_, rfl⟩
      have HBQ := Lib.hid hBQ
      clear hBQ
      clear f28
      go_cut [165] from 25 (fun q165 wc_ => q165 = .bool BQ ∧ Blk wc_ w1.heap.size #[.int .i64 (P : Int), .int .i64 c, .int .i64 h, .int .i64 s] 25 ∧ Blk wc_ (w1.heap.size + 1) #[.slice (some ⟨g1, 0, none⟩) xs.length c1, .slice (some ⟨g2, 0, none⟩) ys.length c2] 28 ∧ Blk wc_ (w1.heap.size + 1 + 1) #[.int .i64 ra, .int .i64 rb] 30 ∧ Row wc_ g1 xs ∧ Row wc_ g2 ys ∧ Row wc_ gO O ∧ Row wc_ j1 X ∧ Row wc_ j2 Y ∧ Blk wc_ gA #[.slice (some ⟨j1, 0, none⟩) X.length k1, .slice (some ⟨j2, 0, none⟩) Y.length k2] 28 ∧ Below w.heap.size w wc_)
      case first =>
        by_cases b1 : j < U
        · have f1 : (j : Int) < (U : Int) := by omega
          as_aux_lemma =>
            go_quiet (fail)
            go_wp2_with fail
            go_meet
            case rel =>
              refine ⟨by rw [← HBQ.out]; simp [b1], ?_⟩
              exact ⟨BV.drewN _, BB.drewN _, BR.drewN _, R1.drewN _, R2.drewN _, RO.drewN _, RX.drewN _, RY.drewN _, BA.drewN _, below_drewN hb _⟩
        · have f1 : ¬ ((j : Int) < (U : Int)) := by omega
          have B1 := Lib.hid b1
          clear b1
          by_cases b2 : U = 1
          · have f2 : ((U : Int) == 1) = true := by rw [beq_iff_eq]; omega
            have B2 := Lib.hid b2
            clear b2
            by_cases b3 : ra = rb
            · have f3 : (ra != rb) = false := by rw [bne_eq_false_iff_eq]; exact b3
              have B3 := Lib.hid b3
              clear b3
              as_aux_lemma =>
                go_quiet (fail)
                go_wp2_with fail
                go_meet
                case rel =>
                  refine ⟨by rw [← HBQ.out]; simp [B1.out, B3.out], ?_⟩
                  exact ⟨BV.drewN _, BB.drewN _, BR.drewN _, R1.drewN _, R2.drewN _, RO.drewN _, RX.drewN _, RY.drewN _, BA.drewN _, below_drewN hb _⟩
            · have f3 : (ra != rb) = true := by rw [bne_iff_ne]; exact b3
              have B3 := Lib.hid b3
              clear b3
              by_cases b4 : d0 = ra
              · have f4 : (d0 != ra) = false := by rw [bne_eq_false_iff_eq]; exact b4
                have B4 := Lib.hid b4
                clear b4
                as_aux_lemma =>
                  go_quiet (fail)
                  go_wp2_with fail
                  go_meet
                  case rel =>
                    refine ⟨by rw [← HBQ.out]; simp [B1.out, B4.out], ?_⟩
                    exact ⟨BV.drewN _, BB.drewN _, BR.drewN _, R1.drewN _, R2.drewN _, RO.drewN _, RX.drewN _, RY.drewN _, BA.drewN _, below_drewN hb _⟩
              · have f4 : (d0 != ra) = true := by rw [bne_iff_ne]; exact b4
                have B4 := Lib.hid b4
                clear b4
                by_cases b5 : 0 < LH.length
                · have f5 : decide ((0 : Int) < (LH.length : Int)) = true := by rw [decide_eq_true_eq]; omega
                  as_aux_lemma =>
                    go_quiet (fail)
                    go_wp2_with fail
                    go_meet
                    case rel =>
                      refine ⟨by rw [← HBQ.out]; simp [B2.out, B3.out, B4.out, b5], ?_⟩
                      exact ⟨BV.drewN _, BB.drewN _, BR.drewN _, R1.drewN _, R2.drewN _, RO.drewN _, RX.drewN _, RY.drewN _, BA.drewN _, below_drewN hb _⟩
                · have f5 : decide ((0 : Int) < (LH.length : Int)) = false := by rw [decide_eq_false_iff_not]; omega
                  as_aux_lemma =>
                    go_quiet (fail)
                    go_wp2_with fail
                    go_meet
                    case rel =>
                      refine ⟨by rw [← HBQ.out]; simp [B1.out, b5], ?_⟩
                      exact ⟨BV.drewN _, BB.drewN _, BR.drewN _, R1.drewN _, R2.drewN _, RO.drewN _, RX.drewN _, RY.drewN _, BA.drewN _, below_drewN hb _⟩
          · have f2 : ((U : Int) == 1) = false := by rw [beq_eq_false_iff_ne]; omega
            as_aux_lemma =>
              go_quiet (fail)
              go_wp2_with fail
              go_meet
              case rel =>
                refine ⟨by rw [← HBQ.out]; simp [B1.out, b2], ?_⟩
                exact ⟨BV.drewN _, BB.drewN _, BR.drewN _, R1.drewN _, R2.drewN _, RO.drewN _, RX.drewN _, RY.drewN _, BA.drewN _, below_drewN hb _⟩
      case rest =>
      clear x0 x1 x2 x3 xf xl y0 y1 yf yl u0 u1 uf ul
      clear hc0 BA RX RY RO BV BB BR R1 R2 hb
      obtain ⟨rfl, BV, BB, BR, R1, R2, RO, RX, RY, BA, hb⟩ := hcut
      rename World => wF
      cases BQ with
      | true =>
        go_wp2_with fail
        go_ret
        exact ⟨rfl, hb⟩
      | false =>
        have hq := of_decide_eq_false HBQ.out
        obtain ⟨F1, F2, e, hF2⟩ := HFD2.out (by have := HJU.out; omega) (fun hx => hq (.inr ⟨hx.1, hx.2.1, HOF2.out hx.2.1 hx.2.2.1, hx.2.2.2⟩))
        subst e
        clear hq HFD2 HOF2 HJU
        obtain ⟨x0, x1, x2, x3, xf, xl⟩ := BV.four; obtain ⟨y0, y1, yf, yl⟩ := BB.two; obtain ⟨u0, u1, uf, ul⟩ := BR.two; obtain ⟨v0_, v1_, vf_, vl_⟩ := BA.two
        rcases hF2 with rfl | rfl
        all_goals
          go_wp2_with (first | (go_at_call 15; refine (HFI.out _ R1.irow R2.irow RX.irow RY.irow).mono ?_; rintro e wq ⟨rfl, hbq⟩; clear x0 x1 x2 x3 xf xl y0 y1 yf yl u0 u1 uf ul v0_ v1_ vf_ vl_; replace BV := BV.below hbq; replace BB := BB.below hbq; replace BR := BR.below hbq; replace R1 := R1.below hbq; replace R2 := R2.below hbq; replace RO := RO.below hbq; replace RX := RX.below hbq; replace RY := RY.below hbq; replace BA := BA.below hbq; replace hb := chain hb hbq; clear hbq; obtain ⟨x0, x1, x2, x3, xf, xl⟩ := BV.four; obtain ⟨y0, y1, yf, yl⟩ := BB.two; obtain ⟨u0, u1, uf, ul⟩ := BR.two; obtain ⟨v0_, v1_, vf_, vl_⟩ := BA.two) | (go_at_call 19; refine (HFS.out _ R1.irow R2.irow RX.irow RY.irow).mono ?_; rintro e wq ⟨rfl, hbq⟩; clear x0 x1 x2 x3 xf xl y0 y1 yf yl u0 u1 uf ul v0_ v1_ vf_ vl_; replace BV := BV.below hbq; replace BB := BB.below hbq; replace BR := BR.below hbq; replace R1 := R1.below hbq; replace R2 := R2.below hbq; replace RO := RO.below hbq; replace RX := RX.below hbq; replace RY := RY.below hbq; replace BA := BA.below hbq; replace hb := chain hb hbq; clear hbq; obtain ⟨x0, x1, x2, x3, xf, xl⟩ := BV.four; obtain ⟨y0, y1, yf, yl⟩ := BB.two; obtain ⟨u0, u1, uf, ul⟩ := BR.two; obtain ⟨v0_, v1_, vf_, vl_⟩ := BA.two))
          go_ret
          exact ⟨rfl, hb⟩
    · obtain ⟨E, hE⟩ : ∃ E, duV p c h s xs ys ra rb = .tuple #[.int .i64 0, .int .i64 E] ∧ E ≠ 0 := by
        unfold codeB at kc
        unfold duV
        by_cases gi : isB p c h s xs ys = true
        · rw [if_pos gi] at kc ⊢
          by_cases grl : rlB s ra rb = true
          · rw [if_pos grl] at kc; exact absurd rfl kc
          · rw [if_neg grl]; exact ⟨2, rfl, by decide⟩
        · rw [if_neg gi]; exact ⟨1, rfl, by decide⟩
      rw [hE.1] at hdi hds
      have ne : (E != 0) = true := by rw [bne_iff_ne]; exact hE.2
      have HDI := Lib.hid hdi
      have HDS := Lib.hid hds
      clear hdi hds hE kc
      go_wp2_with fail
      generalize (((w1.alloc (.cells #[.int .i64 p, .int .i64 c, .int .i64 h, .int .i64 s] 25)).alloc (.cells #[.slice (some ⟨g1, 0, none⟩) xs.length c1, .slice (some ⟨g2, 0, none⟩) ys.length c2] 28)).alloc (.cells #[.int .i64 ra, .int .i64 rb] 30)) = v1 at *
      go_wp2_with (first | (go_at_call 9; refine (HDI.out _ R1.irow R2.irow).mono ?_; rintro e wq ⟨rfl, hbq⟩; clear x0 x1 x2 x3 xf xl y0 y1 yf yl u0 u1 uf ul; replace BV := BV.below hbq; replace BB := BB.below hbq; replace BR := BR.below hbq; replace BD := BD.below hbq; replace R1 := R1.below hbq; replace R2 := R2.below hbq; replace hb := chain hb hbq; clear hbq; obtain ⟨x0, x1, x2, x3, xf, xl⟩ := BV.four; obtain ⟨y0, y1, yf, yl⟩ := BB.two; obtain ⟨u0, u1, uf, ul⟩ := BR.two) | (go_at_call 16; refine (HDS.out _ R1.irow R2.irow).mono ?_; rintro e wq ⟨rfl, hbq⟩; clear x0 x1 x2 x3 xf xl y0 y1 yf yl u0 u1 uf ul; replace BV := BV.below hbq; replace BB := BB.below hbq; replace BR := BR.below hbq; replace BD := BD.below hbq; replace R1 := R1.below hbq; replace R2 := R2.below hbq; replace hb := chain hb hbq; clear hbq; obtain ⟨x0, x1, x2, x3, xf, xl⟩ := BV.four; obtain ⟨y0, y1, yf, yl⟩ := BB.two; obtain ⟨u0, u1, uf, ul⟩ := BR.two))
      go_ret
      exact ⟨rfl, hb⟩
set_option maxRecDepth 100000 in
theorem fnEveryPlay_lifted (os : Os) (started : os.Started) (H : Type) (enc : TypeId × Value → H) :
    ReturnsInHanded {} Tryz.checked os 4 .any (Rows.fnEveryPlaySpec.pre6 enc Tryz.prog Tryz.f4 Rows.fnEveryPlayRow.domain false) (Rows.fnEveryPlaySpec.post enc Tryz.prog Tryz.f4 false true false false) := by
  refine returnsInHanded_of_change (C := Tryz.checked) own started (by kernel_rfl) Tryz.func4
    (ChangeSpec.witness6 (enc := enc) (C := Tryz.checked) false ⟨#[], #[.slice none 0 0], []⟩ 8 (by kernel_rfl) (by kernel_rfl) (by kernel_rfl) (by kernel_rfl)) ?_
  intro W base args ds gs before hval0 hW hcnd _
  have hval : ∀ (j : Nat) t v, Tryz.f4.params[j]? = some t → args[j]? = some v → Value.okWide Tryz.prog W .any base t v := hval0
  have hW' := hW
  obtain ⟨p, q, hA0, hV, rfl, hfz, hnd⟩ := hW
  have hA : DataW.TrodAll enc Tryz.prog W 0 (fun _ => true) true Tryz.f4.params.toList args.toList ds p := hA0
  rw [Tryz.params4] at hA hval
  obtain ⟨v0, vs0, d0, ds0, p0, q0, hargs, rfl, rfl, h0, r0⟩ := trodAll_cons hA
  obtain ⟨rfl, rfl, rfl⟩ := trodAll_nil r0
  obtain rfl : args = #[v0] := by cases args; simp_all
  obtain ⟨rfl, rfl⟩ := trodVars_none hV
  have k0 := h0
  have lt0 : ∀ x ∈ p0, x.block < W.heap.size := by obtain ⟨m, hm⟩ := k0; exact DataW.trod_lt m _ _ _ hm
  obtain ⟨sa_0, sl_0, sc_0, rfl⟩ := okWide_slice Tryz.underlying22 (hval 0 22 v0 rfl rfl)
  have hcode_0 : CodeIn W.heap.size W sa_0 sl_0 := by
    obtain ⟨fuel, hf⟩ := h0
    rcases open_ints Tryz.underlying22 Tryz.underlying5 (by kernel_rfl) hf with ⟨hcs, _⟩ | ⟨x, l, c, zs, hcs, _, hl, hm, hz, _, hcell, hwz⟩
    · simp [Value.cells] at hcs
      obtain ⟨rfl, rfl, rfl⟩ := hcs
      intro i hi
      omega
    · simp [Value.cells] at hcs
      obtain ⟨rfl, rfl, rfl⟩ := hcs
      exact code_of_ints (by have hz2 := hz; simp at hz2; omega) trivial hcell hwz
  clear hA0 hval0
  refine (fnEveryPlay_walk sa_0 sl_0 sc_0 W hcode_0).mono fun e W' ⟨he, bel⟩ => ?_
  subst he
  exact ⟨_, rfl, _, _, _, [], _, [], hW', trodAll_mk1 (shut_bool Tryz.underlying4 _), (trodAll_cons_mk (Below.trod laidOut (by kernel_rfl) (of_decide_eq_true (by kernel_rfl)) k0 bel lt0) trodAll_mk0), rfl, bel.frame _, fun h => by cases h⟩
theorem fnEveryPlay_holds : Rows.FnEveryPlaySaid :=
  OpenClaim.holds_of_wide 4 Tryz.f4 rfl rfl rfl rfl rfl rfl rfl ⟨rfl, rfl, rfl, rfl, rfl⟩ rfl rfl rfl rfl rfl (by kernel_rfl) Tryz.func4 (by kernel_rfl)
    (of_decide_eq_true (by kernel_rfl)) (by unfold Func.isWrapper; first | (rw [if_pos (by decide +kernel)]; kernel_rfl) | (rw [if_neg (by decide +kernel)]; exact ⟨rfl, rfl⟩))
    (fun os started H enc _ => fnEveryPlay_lifted os started H enc)
end Go.Proofs.YtciljbnailobgaaGreat
