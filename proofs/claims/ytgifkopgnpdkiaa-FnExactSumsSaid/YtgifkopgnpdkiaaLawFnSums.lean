/- Addition of exact numbers is commutative, undone by the opposite number, and agrees with comparison: for every code the law of chapter 9 returns true and its argument reads behind the call as it read before. No conditions. -/
import Derived.Test.YtgifkopgnpdkiaaDraw09c
import Derived.Test.YtgifkopgnpdkiaaM09d
import Derived.Test.Ytgifkopgnpdkiaa09m
import Derived.Test.Ytgifkopgnpdkiaa09q
import Derived.Test.Ytgifkopgnpdkiaa09h
import Derived.Test.YtgifkopgnpdkiaaExL
import Derived.Test.YtgifkopgnpdkiaaRows
import Derived.ChangeOld
namespace Go.Proofs.Ytgifkopgnpdkiaa
open Go.ChangeMaps (open_string shut_string)
open Go.ChangeShapes Go.WideShapes Go.ChangeAt Go.RowKit
set_option linter.unusedVariables false
set_option linter.unusedSimpArgs false

theorem code_of_ints {w : World} {x : Addr} {len : Nat} {zs : List Int} (hl : len ≤ zs.length) (_hz : True) (hcell : ∀ i, i < zs.length → w.cell? (x.add i) = some (.int .u8 (zs.getD i 0))) (hwz : ∀ n ∈ zs, (Lit.int .u8 n).wf = true) : CodeIn w.heap.size w (some x) len := by
  intro i hi
  obtain ⟨b, o, spot⟩ := x
  have hc := hcell i (by omega)
  have hspot : spot = none := by
    have hc0 := hcell 0 (by omega)
    simpa [Addr.add] using World.cell?_spot hc0
  subst hspot
  rw [show (⟨b, o, none⟩ : Addr).add i = ⟨b, o + i, none⟩ from by unfold Addr.add; split <;> simp_all] at hc
  have hm : zs.getD i 0 ∈ zs := by
    have : i < zs.length := by omega
    simp [List.getD, this]
  have hw := hwz _ hm
  have hr : 0 ≤ zs.getD i 0 ∧ zs.getD i 0 ≤ 255 := by simpa [Lit.wf, IntKind.min, IntKind.max, IntKind.signed, IntKind.bits] using hw
  exact ⟨b, o, zs.getD i 0, rfl, World.block_lt_of_cell? w _ hc, hc, hr.1, hr.2⟩
theorem bigR_any (a : Option Addr) (len cap : Nat) (w : World) :
    Calls Try.prog 33 #[.slice a len cap] w fun e w' => e = .returned (.bool (decide (4096 < (len : Int)))) ∧ w = w' := by
  go_enter Try.func33, Try.ntmps33
  go_wp2
  go_ret
  exact ⟨rfl, rfl⟩
set_option maxRecDepth 8000 in
set_option maxHeartbeats 1000000 in
theorem fnExactSums_walk (a : Option Addr) (len cap : Nat) (w : World) (hcode : CodeIn w.heap.size w a len) :
    Calls Try.prog 10 #[.slice a len cap] w fun e w' => e = .returned (.bool true) ∧ Below w.heap.size w w' := by
  by_cases hbig : 4096 < len
  · have f0 : decide (4096 < (len : Int)) = true := by simp; omega
    go_enter Try.func10, Try.ntmps10
    go_wp2_with fail
    refine (bigR_any _ _ _ _).mono ?_
    rintro e w1 ⟨rfl, rfl⟩
    go_wp2
    go_ret
    exact ⟨rfl, Below.refl _ _⟩
  · have f0 : decide (4096 < (len : Int)) = false := by simp; omega
    go_enter Try.func10, Try.ntmps10
    go_wp2_with fail
    refine (bigR_any _ _ _ _).mono ?_
    rintro e w0 ⟨rfl, rfl⟩
    go_wp2_with fail
    refine (drawAdd9_any w.heap.size a len cap w (Nat.le_refl _) (by omega) hcode).mono ?_
    rintro e w1 ⟨p, c, h, s, xn, xd, yn, yd, rfl, hxd, hyd, hb⟩
    clear hbig f0 hcode
    have BV := ((Blk.new w1 #[.int .i64 p, .int .i64 c, .int .i64 h, .int .i64 s] 27).alloc (.cells #[.int .i64 xn, .int .i64 xd] 29)).alloc (.cells #[.int .i64 yn, .int .i64 yd] 29)
    have BX : Blk (((w1.alloc (.cells #[.int .i64 p, .int .i64 c, .int .i64 h, .int .i64 s] 27)).alloc (.cells #[.int .i64 xn, .int .i64 xd] 29)).alloc (.cells #[.int .i64 yn, .int .i64 yd] 29)) (w1.heap.size + 1) #[.int .i64 xn, .int .i64 xd] 29 := by simpa using (Blk.new (w1.alloc (.cells #[.int .i64 p, .int .i64 c, .int .i64 h, .int .i64 s] 27)) #[.int .i64 xn, .int .i64 xd] 29).alloc (.cells #[.int .i64 yn, .int .i64 yd] 29)
    have BY : Blk (((w1.alloc (.cells #[.int .i64 p, .int .i64 c, .int .i64 h, .int .i64 s] 27)).alloc (.cells #[.int .i64 xn, .int .i64 xd] 29)).alloc (.cells #[.int .i64 yn, .int .i64 yd] 29)) (w1.heap.size + 1 + 1) #[.int .i64 yn, .int .i64 yd] 29 := by simpa using Blk.new ((w1.alloc (.cells #[.int .i64 p, .int .i64 c, .int .i64 h, .int .i64 s] 27)).alloc (.cells #[.int .i64 xn, .int .i64 xd] 29)) #[.int .i64 yn, .int .i64 yd] 29
    replace hb := chain_alloc (chain_alloc (chain_alloc hb (.cells #[.int .i64 p, .int .i64 c, .int .i64 h, .int .i64 s] 27)) (.cells #[.int .i64 xn, .int .i64 xd] 29)) (.cells #[.int .i64 yn, .int .i64 yd] 29)
    have hA := fun W => implAddExact_any p c h s xn xd yn yd hxd hyd W
    have hB := fun W => implAddExact_any p c h s yn yd xn xd hyd hxd W
    have hC := fun W => specAddExact_any p c h s xn xd yn yd hxd hyd W
    have hD := fun W => implScaleExact_any p c h s yn yd (-1) hyd W
    have hdp := adV_depth (p := p) (c := c) (h := h) (s := s) (xn := xn) (yn := yn) hxd hyd
    have hlaw := sums_law (p := p) (c := c) (h := h) (s := s) (xn := xn) (xd := xd) (yn := yn) (yd := yd)
    rw [adV_comm p c h s yn yd xn xd] at hB
    obtain ⟨⟨a1, a2, a3⟩, ha⟩ : ∃ r, adV p c h s xn xd yn yd = r := ⟨_, rfl⟩
    rw [ha] at hdp hlaw hA hB hC
    dsimp only at hdp hlaw
    dsimp only [xoV] at hA hB hC
    have HA := Lib.hid hA
    have HB := Lib.hid hB
    have HC := Lib.hid hC
    by_cases ca : a3 = 0
    · obtain ⟨l1, l2, l3, l4⟩ := hlaw ca
      have hE := fun W => implAddExact_any p c h s a1 a2 (-yn) yd hdp hyd W
      have hF := fun W => implCompareExact_any p c h s a1 a2 xn xd hdp hxd W
      have hI := fun W => implIsExact_any p c h s a1 a2 hdp W
      rw [l1] at hD
      rw [l2] at hE
      rw [l3] at hF
      rw [l4] at hI
      dsimp only [xoV] at hD hE
      dsimp only [ceE] at hF
      subst ca
      have HD := Lib.hid hD
      have HE := Lib.hid hE
      have HI := Lib.hid hI
      by_cases cy : 0 < yn
      · have hs : sg3 yn 0 = 1 := by unfold sg3; rw [if_neg (by omega), if_pos cy]
        rw [hs] at hF
        have HF := Lib.hid hF
        have cz : ¬ yn < 0 := by omega
        clear hA hB hC hD hE hF hI hdp hlaw ha l1 l2 l3 l4 hs hxd hyd
        obtain ⟨xBV0, xBV1, xBV2, xBV3, xBVf, xBVl⟩ := BV.four
        obtain ⟨xBX0, xBX1, xBXf, xBXl⟩ := BX.two
        obtain ⟨xBY0, xBY1, xBYf, xBYl⟩ := BY.two
        go_wp2_with (first | (go_at_call 21; refine (HA.out _).mono ?_; clear HA; rintro e u1 ⟨rfl, h1⟩; replace BV := (BV.below h1).alloc (.cells #[.int .i64 a1, .int .i64 a2] 29); replace BX := (BX.below h1).alloc (.cells #[.int .i64 a1, .int .i64 a2] 29); replace BY := (BY.below h1).alloc (.cells #[.int .i64 a1, .int .i64 a2] 29); have R1 := Blk.new u1 #[.int .i64 a1, .int .i64 a2] 29; replace hb := chain_alloc (chain hb h1) (.cells #[.int .i64 a1, .int .i64 a2] 29); clear h1; obtain ⟨xBV0, xBV1, xBV2, xBV3, xBVf, xBVl⟩ := BV.four; obtain ⟨xBX0, xBX1, xBXf, xBXl⟩ := BX.two; obtain ⟨xBY0, xBY1, xBYf, xBYl⟩ := BY.two; obtain ⟨xR10, xR11, xR1f, xR1l⟩ := R1.two) | (go_at_call 21; refine (HB.out _).mono ?_; clear HB; rintro e u2 ⟨rfl, h2⟩; replace BV := (BV.below h2).alloc (.cells #[.int .i64 a1, .int .i64 a2] 29); replace BX := (BX.below h2).alloc (.cells #[.int .i64 a1, .int .i64 a2] 29); replace BY := (BY.below h2).alloc (.cells #[.int .i64 a1, .int .i64 a2] 29); replace R1 := (R1.below h2).alloc (.cells #[.int .i64 a1, .int .i64 a2] 29); have R2 := Blk.new u2 #[.int .i64 a1, .int .i64 a2] 29; replace hb := chain_alloc (chain hb h2) (.cells #[.int .i64 a1, .int .i64 a2] 29); clear h2; obtain ⟨xBV0, xBV1, xBV2, xBV3, xBVf, xBVl⟩ := BV.four; obtain ⟨xBX0, xBX1, xBXf, xBXl⟩ := BX.two; obtain ⟨xBY0, xBY1, xBYf, xBYl⟩ := BY.two; obtain ⟨xR10, xR11, xR1f, xR1l⟩ := R1.two; obtain ⟨xR20, xR21, xR2f, xR2l⟩ := R2.two) | (go_at_call 20; refine (HC.out _).mono ?_; clear HC; rintro e u3 ⟨rfl, h3⟩; replace BV := (BV.below h3).alloc (.cells #[.int .i64 a1, .int .i64 a2] 29); replace BX := (BX.below h3).alloc (.cells #[.int .i64 a1, .int .i64 a2] 29); replace BY := (BY.below h3).alloc (.cells #[.int .i64 a1, .int .i64 a2] 29); replace R1 := (R1.below h3).alloc (.cells #[.int .i64 a1, .int .i64 a2] 29); replace R2 := (R2.below h3).alloc (.cells #[.int .i64 a1, .int .i64 a2] 29); have R3 := Blk.new u3 #[.int .i64 a1, .int .i64 a2] 29; replace hb := chain_alloc (chain hb h3) (.cells #[.int .i64 a1, .int .i64 a2] 29); clear h3; obtain ⟨xBV0, xBV1, xBV2, xBV3, xBVf, xBVl⟩ := BV.four; obtain ⟨xBX0, xBX1, xBXf, xBXl⟩ := BX.two; obtain ⟨xBY0, xBY1, xBYf, xBYl⟩ := BY.two; obtain ⟨xR10, xR11, xR1f, xR1l⟩ := R1.two; obtain ⟨xR20, xR21, xR2f, xR2l⟩ := R2.two; obtain ⟨xR30, xR31, xR3f, xR3l⟩ := R3.two) | (go_at_call 23; refine (HD.out _).mono ?_; clear HD; rintro e u4 ⟨rfl, h4⟩; replace BV := (BV.below h4).alloc (.cells #[.int .i64 (-yn), .int .i64 yd] 29); replace BX := (BX.below h4).alloc (.cells #[.int .i64 (-yn), .int .i64 yd] 29); replace BY := (BY.below h4).alloc (.cells #[.int .i64 (-yn), .int .i64 yd] 29); replace R1 := (R1.below h4).alloc (.cells #[.int .i64 (-yn), .int .i64 yd] 29); have R4 := Blk.new u4 #[.int .i64 (-yn), .int .i64 yd] 29; replace hb := chain_alloc (chain hb h4) (.cells #[.int .i64 (-yn), .int .i64 yd] 29); clear h4; obtain ⟨xBV0, xBV1, xBV2, xBV3, xBVf, xBVl⟩ := BV.four; obtain ⟨xBX0, xBX1, xBXf, xBXl⟩ := BX.two; obtain ⟨xBY0, xBY1, xBYf, xBYl⟩ := BY.two; obtain ⟨xR10, xR11, xR1f, xR1l⟩ := R1.two; obtain ⟨xR40, xR41, xR4f, xR4l⟩ := R4.two) | (go_at_call 21; refine (HE.out _).mono ?_; clear HE; rintro e u5 ⟨rfl, h5⟩; replace BV := (BV.below h5).alloc (.cells #[.int .i64 xn, .int .i64 xd] 29); replace BX := (BX.below h5).alloc (.cells #[.int .i64 xn, .int .i64 xd] 29); replace BY := (BY.below h5).alloc (.cells #[.int .i64 xn, .int .i64 xd] 29); replace R1 := (R1.below h5).alloc (.cells #[.int .i64 xn, .int .i64 xd] 29); replace R4 := (R4.below h5).alloc (.cells #[.int .i64 xn, .int .i64 xd] 29); have R5 := Blk.new u5 #[.int .i64 xn, .int .i64 xd] 29; replace hb := chain_alloc (chain hb h5) (.cells #[.int .i64 xn, .int .i64 xd] 29); clear h5; obtain ⟨xBV0, xBV1, xBV2, xBV3, xBVf, xBVl⟩ := BV.four; obtain ⟨xBX0, xBX1, xBXf, xBXl⟩ := BX.two; obtain ⟨xBY0, xBY1, xBYf, xBYl⟩ := BY.two; obtain ⟨xR10, xR11, xR1f, xR1l⟩ := R1.two; obtain ⟨xR40, xR41, xR4f, xR4l⟩ := R4.two; obtain ⟨xR50, xR51, xR5f, xR5l⟩ := R5.two) | (go_at_call 25; refine (HF.out _).mono ?_; clear HF; rintro e u6 ⟨rfl, h6⟩; replace BV := BV.below h6; replace BX := BX.below h6; replace BY := BY.below h6; replace R1 := R1.below h6; replace R5 := R5.below h6; replace hb := chain hb h6; clear h6; obtain ⟨xBV0, xBV1, xBV2, xBV3, xBVf, xBVl⟩ := BV.four; obtain ⟨xBX0, xBX1, xBXf, xBXl⟩ := BX.two; obtain ⟨xBY0, xBY1, xBYf, xBYl⟩ := BY.two; obtain ⟨xR10, xR11, xR1f, xR1l⟩ := R1.two; obtain ⟨xR50, xR51, xR5f, xR5l⟩ := R5.two) | (go_at_call 16; refine (HI.out _).mono ?_; clear HI; rintro e u7 ⟨rfl, h7⟩; replace hb := chain hb h7))
        all_goals
          go_ret
          exact ⟨by simp, hb⟩
      · by_cases cz : yn < 0
        · have hs : sg3 yn 0 = -1 := by unfold sg3; rw [if_pos cz]
          rw [hs] at hF
          have HF := Lib.hid hF
          clear hA hB hC hD hE hF hI hdp hlaw ha l1 l2 l3 l4 hs hxd hyd
          obtain ⟨xBV0, xBV1, xBV2, xBV3, xBVf, xBVl⟩ := BV.four
          obtain ⟨xBX0, xBX1, xBXf, xBXl⟩ := BX.two
          obtain ⟨xBY0, xBY1, xBYf, xBYl⟩ := BY.two
          go_wp2_with (first | (go_at_call 21; refine (HA.out _).mono ?_; clear HA; rintro e u1 ⟨rfl, h1⟩; replace BV := (BV.below h1).alloc (.cells #[.int .i64 a1, .int .i64 a2] 29); replace BX := (BX.below h1).alloc (.cells #[.int .i64 a1, .int .i64 a2] 29); replace BY := (BY.below h1).alloc (.cells #[.int .i64 a1, .int .i64 a2] 29); have R1 := Blk.new u1 #[.int .i64 a1, .int .i64 a2] 29; replace hb := chain_alloc (chain hb h1) (.cells #[.int .i64 a1, .int .i64 a2] 29); clear h1; obtain ⟨xBV0, xBV1, xBV2, xBV3, xBVf, xBVl⟩ := BV.four; obtain ⟨xBX0, xBX1, xBXf, xBXl⟩ := BX.two; obtain ⟨xBY0, xBY1, xBYf, xBYl⟩ := BY.two; obtain ⟨xR10, xR11, xR1f, xR1l⟩ := R1.two) | (go_at_call 21; refine (HB.out _).mono ?_; clear HB; rintro e u2 ⟨rfl, h2⟩; replace BV := (BV.below h2).alloc (.cells #[.int .i64 a1, .int .i64 a2] 29); replace BX := (BX.below h2).alloc (.cells #[.int .i64 a1, .int .i64 a2] 29); replace BY := (BY.below h2).alloc (.cells #[.int .i64 a1, .int .i64 a2] 29); replace R1 := (R1.below h2).alloc (.cells #[.int .i64 a1, .int .i64 a2] 29); have R2 := Blk.new u2 #[.int .i64 a1, .int .i64 a2] 29; replace hb := chain_alloc (chain hb h2) (.cells #[.int .i64 a1, .int .i64 a2] 29); clear h2; obtain ⟨xBV0, xBV1, xBV2, xBV3, xBVf, xBVl⟩ := BV.four; obtain ⟨xBX0, xBX1, xBXf, xBXl⟩ := BX.two; obtain ⟨xBY0, xBY1, xBYf, xBYl⟩ := BY.two; obtain ⟨xR10, xR11, xR1f, xR1l⟩ := R1.two; obtain ⟨xR20, xR21, xR2f, xR2l⟩ := R2.two) | (go_at_call 20; refine (HC.out _).mono ?_; clear HC; rintro e u3 ⟨rfl, h3⟩; replace BV := (BV.below h3).alloc (.cells #[.int .i64 a1, .int .i64 a2] 29); replace BX := (BX.below h3).alloc (.cells #[.int .i64 a1, .int .i64 a2] 29); replace BY := (BY.below h3).alloc (.cells #[.int .i64 a1, .int .i64 a2] 29); replace R1 := (R1.below h3).alloc (.cells #[.int .i64 a1, .int .i64 a2] 29); replace R2 := (R2.below h3).alloc (.cells #[.int .i64 a1, .int .i64 a2] 29); have R3 := Blk.new u3 #[.int .i64 a1, .int .i64 a2] 29; replace hb := chain_alloc (chain hb h3) (.cells #[.int .i64 a1, .int .i64 a2] 29); clear h3; obtain ⟨xBV0, xBV1, xBV2, xBV3, xBVf, xBVl⟩ := BV.four; obtain ⟨xBX0, xBX1, xBXf, xBXl⟩ := BX.two; obtain ⟨xBY0, xBY1, xBYf, xBYl⟩ := BY.two; obtain ⟨xR10, xR11, xR1f, xR1l⟩ := R1.two; obtain ⟨xR20, xR21, xR2f, xR2l⟩ := R2.two; obtain ⟨xR30, xR31, xR3f, xR3l⟩ := R3.two) | (go_at_call 23; refine (HD.out _).mono ?_; clear HD; rintro e u4 ⟨rfl, h4⟩; replace BV := (BV.below h4).alloc (.cells #[.int .i64 (-yn), .int .i64 yd] 29); replace BX := (BX.below h4).alloc (.cells #[.int .i64 (-yn), .int .i64 yd] 29); replace BY := (BY.below h4).alloc (.cells #[.int .i64 (-yn), .int .i64 yd] 29); replace R1 := (R1.below h4).alloc (.cells #[.int .i64 (-yn), .int .i64 yd] 29); have R4 := Blk.new u4 #[.int .i64 (-yn), .int .i64 yd] 29; replace hb := chain_alloc (chain hb h4) (.cells #[.int .i64 (-yn), .int .i64 yd] 29); clear h4; obtain ⟨xBV0, xBV1, xBV2, xBV3, xBVf, xBVl⟩ := BV.four; obtain ⟨xBX0, xBX1, xBXf, xBXl⟩ := BX.two; obtain ⟨xBY0, xBY1, xBYf, xBYl⟩ := BY.two; obtain ⟨xR10, xR11, xR1f, xR1l⟩ := R1.two; obtain ⟨xR40, xR41, xR4f, xR4l⟩ := R4.two) | (go_at_call 21; refine (HE.out _).mono ?_; clear HE; rintro e u5 ⟨rfl, h5⟩; replace BV := (BV.below h5).alloc (.cells #[.int .i64 xn, .int .i64 xd] 29); replace BX := (BX.below h5).alloc (.cells #[.int .i64 xn, .int .i64 xd] 29); replace BY := (BY.below h5).alloc (.cells #[.int .i64 xn, .int .i64 xd] 29); replace R1 := (R1.below h5).alloc (.cells #[.int .i64 xn, .int .i64 xd] 29); replace R4 := (R4.below h5).alloc (.cells #[.int .i64 xn, .int .i64 xd] 29); have R5 := Blk.new u5 #[.int .i64 xn, .int .i64 xd] 29; replace hb := chain_alloc (chain hb h5) (.cells #[.int .i64 xn, .int .i64 xd] 29); clear h5; obtain ⟨xBV0, xBV1, xBV2, xBV3, xBVf, xBVl⟩ := BV.four; obtain ⟨xBX0, xBX1, xBXf, xBXl⟩ := BX.two; obtain ⟨xBY0, xBY1, xBYf, xBYl⟩ := BY.two; obtain ⟨xR10, xR11, xR1f, xR1l⟩ := R1.two; obtain ⟨xR40, xR41, xR4f, xR4l⟩ := R4.two; obtain ⟨xR50, xR51, xR5f, xR5l⟩ := R5.two) | (go_at_call 25; refine (HF.out _).mono ?_; clear HF; rintro e u6 ⟨rfl, h6⟩; replace BV := BV.below h6; replace BX := BX.below h6; replace BY := BY.below h6; replace R1 := R1.below h6; replace R5 := R5.below h6; replace hb := chain hb h6; clear h6; obtain ⟨xBV0, xBV1, xBV2, xBV3, xBVf, xBVl⟩ := BV.four; obtain ⟨xBX0, xBX1, xBXf, xBXl⟩ := BX.two; obtain ⟨xBY0, xBY1, xBYf, xBYl⟩ := BY.two; obtain ⟨xR10, xR11, xR1f, xR1l⟩ := R1.two; obtain ⟨xR50, xR51, xR5f, xR5l⟩ := R5.two) | (go_at_call 16; refine (HI.out _).mono ?_; clear HI; rintro e u7 ⟨rfl, h7⟩; replace hb := chain hb h7))
          all_goals
            go_ret
            exact ⟨by simp, hb⟩
        · have hs : sg3 yn 0 = 0 := by unfold sg3; rw [if_neg cz, if_neg cy]
          rw [hs] at hF
          have HF := Lib.hid hF
          clear hA hB hC hD hE hF hI hdp hlaw ha l1 l2 l3 l4 hs hxd hyd
          obtain ⟨xBV0, xBV1, xBV2, xBV3, xBVf, xBVl⟩ := BV.four
          obtain ⟨xBX0, xBX1, xBXf, xBXl⟩ := BX.two
          obtain ⟨xBY0, xBY1, xBYf, xBYl⟩ := BY.two
          go_wp2_with (first | (go_at_call 21; refine (HA.out _).mono ?_; clear HA; rintro e u1 ⟨rfl, h1⟩; replace BV := (BV.below h1).alloc (.cells #[.int .i64 a1, .int .i64 a2] 29); replace BX := (BX.below h1).alloc (.cells #[.int .i64 a1, .int .i64 a2] 29); replace BY := (BY.below h1).alloc (.cells #[.int .i64 a1, .int .i64 a2] 29); have R1 := Blk.new u1 #[.int .i64 a1, .int .i64 a2] 29; replace hb := chain_alloc (chain hb h1) (.cells #[.int .i64 a1, .int .i64 a2] 29); clear h1; obtain ⟨xBV0, xBV1, xBV2, xBV3, xBVf, xBVl⟩ := BV.four; obtain ⟨xBX0, xBX1, xBXf, xBXl⟩ := BX.two; obtain ⟨xBY0, xBY1, xBYf, xBYl⟩ := BY.two; obtain ⟨xR10, xR11, xR1f, xR1l⟩ := R1.two) | (go_at_call 21; refine (HB.out _).mono ?_; clear HB; rintro e u2 ⟨rfl, h2⟩; replace BV := (BV.below h2).alloc (.cells #[.int .i64 a1, .int .i64 a2] 29); replace BX := (BX.below h2).alloc (.cells #[.int .i64 a1, .int .i64 a2] 29); replace BY := (BY.below h2).alloc (.cells #[.int .i64 a1, .int .i64 a2] 29); replace R1 := (R1.below h2).alloc (.cells #[.int .i64 a1, .int .i64 a2] 29); have R2 := Blk.new u2 #[.int .i64 a1, .int .i64 a2] 29; replace hb := chain_alloc (chain hb h2) (.cells #[.int .i64 a1, .int .i64 a2] 29); clear h2; obtain ⟨xBV0, xBV1, xBV2, xBV3, xBVf, xBVl⟩ := BV.four; obtain ⟨xBX0, xBX1, xBXf, xBXl⟩ := BX.two; obtain ⟨xBY0, xBY1, xBYf, xBYl⟩ := BY.two; obtain ⟨xR10, xR11, xR1f, xR1l⟩ := R1.two; obtain ⟨xR20, xR21, xR2f, xR2l⟩ := R2.two) | (go_at_call 20; refine (HC.out _).mono ?_; clear HC; rintro e u3 ⟨rfl, h3⟩; replace BV := (BV.below h3).alloc (.cells #[.int .i64 a1, .int .i64 a2] 29); replace BX := (BX.below h3).alloc (.cells #[.int .i64 a1, .int .i64 a2] 29); replace BY := (BY.below h3).alloc (.cells #[.int .i64 a1, .int .i64 a2] 29); replace R1 := (R1.below h3).alloc (.cells #[.int .i64 a1, .int .i64 a2] 29); replace R2 := (R2.below h3).alloc (.cells #[.int .i64 a1, .int .i64 a2] 29); have R3 := Blk.new u3 #[.int .i64 a1, .int .i64 a2] 29; replace hb := chain_alloc (chain hb h3) (.cells #[.int .i64 a1, .int .i64 a2] 29); clear h3; obtain ⟨xBV0, xBV1, xBV2, xBV3, xBVf, xBVl⟩ := BV.four; obtain ⟨xBX0, xBX1, xBXf, xBXl⟩ := BX.two; obtain ⟨xBY0, xBY1, xBYf, xBYl⟩ := BY.two; obtain ⟨xR10, xR11, xR1f, xR1l⟩ := R1.two; obtain ⟨xR20, xR21, xR2f, xR2l⟩ := R2.two; obtain ⟨xR30, xR31, xR3f, xR3l⟩ := R3.two) | (go_at_call 23; refine (HD.out _).mono ?_; clear HD; rintro e u4 ⟨rfl, h4⟩; replace BV := (BV.below h4).alloc (.cells #[.int .i64 (-yn), .int .i64 yd] 29); replace BX := (BX.below h4).alloc (.cells #[.int .i64 (-yn), .int .i64 yd] 29); replace BY := (BY.below h4).alloc (.cells #[.int .i64 (-yn), .int .i64 yd] 29); replace R1 := (R1.below h4).alloc (.cells #[.int .i64 (-yn), .int .i64 yd] 29); have R4 := Blk.new u4 #[.int .i64 (-yn), .int .i64 yd] 29; replace hb := chain_alloc (chain hb h4) (.cells #[.int .i64 (-yn), .int .i64 yd] 29); clear h4; obtain ⟨xBV0, xBV1, xBV2, xBV3, xBVf, xBVl⟩ := BV.four; obtain ⟨xBX0, xBX1, xBXf, xBXl⟩ := BX.two; obtain ⟨xBY0, xBY1, xBYf, xBYl⟩ := BY.two; obtain ⟨xR10, xR11, xR1f, xR1l⟩ := R1.two; obtain ⟨xR40, xR41, xR4f, xR4l⟩ := R4.two) | (go_at_call 21; refine (HE.out _).mono ?_; clear HE; rintro e u5 ⟨rfl, h5⟩; replace BV := (BV.below h5).alloc (.cells #[.int .i64 xn, .int .i64 xd] 29); replace BX := (BX.below h5).alloc (.cells #[.int .i64 xn, .int .i64 xd] 29); replace BY := (BY.below h5).alloc (.cells #[.int .i64 xn, .int .i64 xd] 29); replace R1 := (R1.below h5).alloc (.cells #[.int .i64 xn, .int .i64 xd] 29); replace R4 := (R4.below h5).alloc (.cells #[.int .i64 xn, .int .i64 xd] 29); have R5 := Blk.new u5 #[.int .i64 xn, .int .i64 xd] 29; replace hb := chain_alloc (chain hb h5) (.cells #[.int .i64 xn, .int .i64 xd] 29); clear h5; obtain ⟨xBV0, xBV1, xBV2, xBV3, xBVf, xBVl⟩ := BV.four; obtain ⟨xBX0, xBX1, xBXf, xBXl⟩ := BX.two; obtain ⟨xBY0, xBY1, xBYf, xBYl⟩ := BY.two; obtain ⟨xR10, xR11, xR1f, xR1l⟩ := R1.two; obtain ⟨xR40, xR41, xR4f, xR4l⟩ := R4.two; obtain ⟨xR50, xR51, xR5f, xR5l⟩ := R5.two) | (go_at_call 25; refine (HF.out _).mono ?_; clear HF; rintro e u6 ⟨rfl, h6⟩; replace BV := BV.below h6; replace BX := BX.below h6; replace BY := BY.below h6; replace R1 := R1.below h6; replace R5 := R5.below h6; replace hb := chain hb h6; clear h6; obtain ⟨xBV0, xBV1, xBV2, xBV3, xBVf, xBVl⟩ := BV.four; obtain ⟨xBX0, xBX1, xBXf, xBXl⟩ := BX.two; obtain ⟨xBY0, xBY1, xBYf, xBYl⟩ := BY.two; obtain ⟨xR10, xR11, xR1f, xR1l⟩ := R1.two; obtain ⟨xR50, xR51, xR5f, xR5l⟩ := R5.two) | (go_at_call 16; refine (HI.out _).mono ?_; clear HI; rintro e u7 ⟨rfl, h7⟩; replace hb := chain hb h7))
          all_goals
            go_ret
            exact ⟨by simp, hb⟩
    · have fa : (a3 == 0) = false := by rw [beq_eq_false_iff_ne]; exact ca
      have fa2 : (a3 != 0) = true := by rw [bne, fa]; rfl
      clear hA hB hC hD hdp hlaw ha hxd hyd ca
      obtain ⟨xBV0, xBV1, xBV2, xBV3, xBVf, xBVl⟩ := BV.four
      obtain ⟨xBX0, xBX1, xBXf, xBXl⟩ := BX.two
      obtain ⟨xBY0, xBY1, xBYf, xBYl⟩ := BY.two
      go_wp2_with (first | (go_at_call 21; refine (HA.out _).mono ?_; clear HA; rintro e u1 ⟨rfl, h1⟩; replace BV := (BV.below h1).alloc (.cells #[.int .i64 a1, .int .i64 a2] 29); replace BX := (BX.below h1).alloc (.cells #[.int .i64 a1, .int .i64 a2] 29); replace BY := (BY.below h1).alloc (.cells #[.int .i64 a1, .int .i64 a2] 29); have R1 := Blk.new u1 #[.int .i64 a1, .int .i64 a2] 29; replace hb := chain_alloc (chain hb h1) (.cells #[.int .i64 a1, .int .i64 a2] 29); clear h1; obtain ⟨xBV0, xBV1, xBV2, xBV3, xBVf, xBVl⟩ := BV.four; obtain ⟨xBX0, xBX1, xBXf, xBXl⟩ := BX.two; obtain ⟨xBY0, xBY1, xBYf, xBYl⟩ := BY.two; obtain ⟨xR10, xR11, xR1f, xR1l⟩ := R1.two) | (go_at_call 21; refine (HB.out _).mono ?_; clear HB; rintro e u2 ⟨rfl, h2⟩; replace BV := (BV.below h2).alloc (.cells #[.int .i64 a1, .int .i64 a2] 29); replace BX := (BX.below h2).alloc (.cells #[.int .i64 a1, .int .i64 a2] 29); replace BY := (BY.below h2).alloc (.cells #[.int .i64 a1, .int .i64 a2] 29); replace R1 := (R1.below h2).alloc (.cells #[.int .i64 a1, .int .i64 a2] 29); have R2 := Blk.new u2 #[.int .i64 a1, .int .i64 a2] 29; replace hb := chain_alloc (chain hb h2) (.cells #[.int .i64 a1, .int .i64 a2] 29); clear h2; obtain ⟨xBV0, xBV1, xBV2, xBV3, xBVf, xBVl⟩ := BV.four; obtain ⟨xBX0, xBX1, xBXf, xBXl⟩ := BX.two; obtain ⟨xBY0, xBY1, xBYf, xBYl⟩ := BY.two; obtain ⟨xR10, xR11, xR1f, xR1l⟩ := R1.two; obtain ⟨xR20, xR21, xR2f, xR2l⟩ := R2.two) | (go_at_call 20; refine (HC.out _).mono ?_; clear HC; rintro e u3 ⟨rfl, h3⟩; replace BV := (BV.below h3).alloc (.cells #[.int .i64 a1, .int .i64 a2] 29); replace BX := (BX.below h3).alloc (.cells #[.int .i64 a1, .int .i64 a2] 29); replace BY := (BY.below h3).alloc (.cells #[.int .i64 a1, .int .i64 a2] 29); replace R1 := (R1.below h3).alloc (.cells #[.int .i64 a1, .int .i64 a2] 29); replace R2 := (R2.below h3).alloc (.cells #[.int .i64 a1, .int .i64 a2] 29); have R3 := Blk.new u3 #[.int .i64 a1, .int .i64 a2] 29; replace hb := chain_alloc (chain hb h3) (.cells #[.int .i64 a1, .int .i64 a2] 29); clear h3; obtain ⟨xBV0, xBV1, xBV2, xBV3, xBVf, xBVl⟩ := BV.four; obtain ⟨xBX0, xBX1, xBXf, xBXl⟩ := BX.two; obtain ⟨xBY0, xBY1, xBYf, xBYl⟩ := BY.two; obtain ⟨xR10, xR11, xR1f, xR1l⟩ := R1.two; obtain ⟨xR20, xR21, xR2f, xR2l⟩ := R2.two; obtain ⟨xR30, xR31, xR3f, xR3l⟩ := R3.two))
      all_goals
        go_ret
        exact ⟨by simp, hb⟩
set_option maxRecDepth 100000 in
theorem fnExactSums_lifted (os : Os) (started : os.Started) (H : Type) (enc : TypeId × Value → H) :
    ReturnsInHanded {} Try.checked os 10 .any (Rows.fnExactSumsSpec.pre6 enc Try.prog Try.f10 Rows.fnExactSumsRow.domain false) (Rows.fnExactSumsSpec.post enc Try.prog Try.f10 false true false false) := by
  refine returnsInHanded_of_change (C := Try.checked) own started (by kernel_rfl) Try.func10
    (ChangeSpec.witness6 (enc := enc) (C := Try.checked) false ⟨#[], #[.slice none 0 0], []⟩ 8 (by kernel_rfl) (by kernel_rfl) (by kernel_rfl) (by kernel_rfl)) ?_
  intro W base args ds gs before hval0 hW hcnd _
  have hval : ∀ (j : Nat) t v, Try.f10.params[j]? = some t → args[j]? = some v → Value.okWide Try.prog W .any base t v := hval0
  have hW' := hW
  obtain ⟨p, q, hA0, hV, rfl, hfz, hnd⟩ := hW
  have hA : DataW.TrodAll enc Try.prog W 0 (fun _ => true) true Try.f10.params.toList args.toList ds p := hA0
  rw [Try.params10] at hA hval
  obtain ⟨v0, vs0, d0, ds0, p0, q0, hargs, rfl, rfl, h0, r0⟩ := trodAll_cons hA
  obtain ⟨rfl, rfl, rfl⟩ := trodAll_nil r0
  obtain rfl : args = #[v0] := by cases args; simp_all
  obtain ⟨rfl, rfl⟩ := trodVars_none hV
  have k0 := h0
  have lt0 : ∀ x ∈ p0, x.block < W.heap.size := by obtain ⟨m, hm⟩ := k0; exact DataW.trod_lt m _ _ _ hm
  obtain ⟨sa_0, sl_0, sc_0, rfl⟩ := okWide_slice Try.underlying50 (hval 0 50 v0 rfl rfl)
  have hcode_0 : CodeIn W.heap.size W sa_0 sl_0 := by
    obtain ⟨fuel, hf⟩ := h0
    rcases open_ints Try.underlying50 Try.underlying5 (by kernel_rfl) hf with ⟨hcs, _⟩ | ⟨x, l, c, zs, hcs, _, hl, hm, hz, _, hcell, hwz⟩
    · simp [Value.cells] at hcs
      obtain ⟨rfl, rfl, rfl⟩ := hcs
      intro i hi
      omega
    · simp [Value.cells] at hcs
      obtain ⟨rfl, rfl, rfl⟩ := hcs
      exact code_of_ints (by have hz2 := hz; simp at hz2; omega) trivial hcell hwz
  clear hA0 hval0
  refine (fnExactSums_walk sa_0 sl_0 sc_0 W hcode_0).mono fun e W' ⟨he, bel⟩ => ?_
  subst he
  exact ⟨_, rfl, _, _, _, [], _, [], hW', trodAll_mk1 (shut_bool Try.underlying4 _), (trodAll_cons_mk (Below.trod laidOut (by kernel_rfl) (of_decide_eq_true (by kernel_rfl)) k0 bel lt0) trodAll_mk0), rfl, bel.frame _, fun h => by cases h⟩
theorem fnExactSums_holds : Rows.FnExactSumsSaid :=
  OpenClaim.holds_of_wide 10 Try.f10 rfl rfl rfl rfl rfl rfl rfl ⟨rfl, rfl, rfl, rfl, rfl⟩ rfl rfl rfl rfl rfl (by kernel_rfl) Try.func10 (by kernel_rfl)
    (of_decide_eq_true (by kernel_rfl)) (by unfold Func.isWrapper; first | (rw [if_pos (by decide +kernel)]; kernel_rfl) | (rw [if_neg (by decide +kernel)]; exact ⟨rfl, rfl⟩))
    (fun os started H enc _ => fnExactSums_lifted os started H enc)
end Go.Proofs.Ytgifkopgnpdkiaa
