/- The exact law of chapter 3 on the board with some bits holds: for every input the law returns true and its arguments read behind the call as they read before. No conditions. -/
import Derived.Test.YtkddeoifdecniaaL03k
import Derived.Test.YtkddeoifdecniaaOpen
import Derived.ChangeOld
namespace Go.Proofs.Ytkddeoifdecniaa
open Go.ChangeMaps (open_string shut_string)
open Go.ChangeShapes Go.WideShapes Go.ChangeAt Go.RowKit
set_option linter.unusedVariables false
set_option linter.unusedSimpArgs false
set_option maxRecDepth 4000

theorem bob_length (p c h s : Int) (bs : List Int) : (bobX p c h s bs).length ≤ 1048576 ∧ (bobY p c h s bs).length ≤ 1048576 := by
  unfold bobX bobY
  by_cases g : bobOk p c h s bs = true
  · rw [if_pos g, if_pos g]
    have hv : vB p c h s = true := by simp only [bobOk, Bool.and_eq_true] at g; exact g.1
    have := vB_iff.1 hv
    simp only [cX, cY, List.length_take, zOf]
    omega
  · rw [if_neg g, if_neg g]
    simp
theorem fnExactBoardOfBits_both (p c h s : Int) (bs : List Int) (n : Nat) (hn : bs.length = n) (hle : n ≤ 1048576) : ∃ (X Y : List Int) (r : Int), X.length ≤ 1048576 ∧ Y.length ≤ 1048576 ∧
    (∀ (a : Option Addr) (cap : Nat) (w : World), IRow w a bs → Calls Try.prog 45 #[.agg #[.int .i64 p, .int .i64 c, .int .i64 h, .int .i64 s], .slice a n cap] w (BoardGot2 X Y (.int .i64 r) w)) ∧
    (∀ (a : Option Addr) (cap : Nat) (w : World), IRow w a bs → Calls Try.prog 37 #[.agg #[.int .i64 p, .int .i64 c, .int .i64 h, .int .i64 s], .slice a n cap] w (BoardGot2 X Y (.int .i64 r) w)) :=
  ⟨_, _, _, (bob_length p c h s bs).1, (bob_length p c h s bs).2, fun a cap w r => specBoardOfBits_any p c h s a n cap bs w hn hle r, fun a cap w r => boardOfBits_any p c h s a n cap bs w hn hle r⟩
set_option maxHeartbeats 4000000 in
theorem fnExactBoardOfBits_walk (p c h s : Int) (a : Option Addr) (n cap : Nat) (bs : List Int) (w : World) (hn : bs.length = n) (hm : n ≤ 9223372036854775807) (hr : IRow w a bs) :
    Calls Try.prog 8 #[.agg #[.int .i64 p, .int .i64 c, .int .i64 h, .int .i64 s], .slice a n cap] w fun e w' => e = .returned (.bool true) ∧ Below w.heap.size w w' := by
  have BV := Blk.new w #[.int .i64 p, .int .i64 c, .int .i64 h, .int .i64 s] 39
  have hb : Below w.heap.size w (w.alloc (.cells #[.int .i64 p, .int .i64 c, .int .i64 h, .int .i64 s] 39)) := (Below.refl _ _).alloc (Nat.le_refl _) _
  have hl0 := BV.lt
  by_cases hle : n ≤ 1048576
  · have hle' : (n : Int) ≤ 1048576 := by omega
    obtain ⟨X, Y, r, lX, lY, hsp, him⟩ := fnExactBoardOfBits_both p c h s bs n hn hle
    have HSP := Lib.hid hsp
    have HIM := Lib.hid him
    clear hsp him
    subst hn
    have h80b : decide ((1048576 : Int) < (bs.length : Int)) = false := by rw [decide_eq_false_iff_not]; omega
    have h80c : decide (1048576 < bs.length) = false := by rw [decide_eq_false_iff_not]; omega
    go_enter Try.func8, Try.ntmps8
    obtain ⟨x0, x1, x2, x3, xf, xl⟩ := BV.four
    go_wp2_with fail
    clear x0 x1 x2 x3 xf xl h80b h80c
    generalize (w.alloc (.cells #[.int .i64 p, .int .i64 c, .int .i64 h, .int .i64 s] 39)) = v0 at *
    obtain ⟨x0, x1, x2, x3, xf, xl⟩ := BV.four
    go_wp2_with fail
    clear x0 x1 x2 x3 xf xl
    refine (toVariant_any _ _ _ _ _).mono ?_
    rintro e w1 ⟨rfl, hb1⟩
    replace BV := BV.below hb1
    have hz1 := hb1.size
    replace hb := chain hb hb1
    clear hb1
    obtain ⟨x0, x1, x2, x3, xf, xl⟩ := BV.four
    go_wp2_with fail
    clear x0 x1 x2 x3 xf xl
    refine (toInt64S_any a _ cap bs _ rfl hle (hr.below hb)).mono ?_
    rintro e w2 ⟨g1, rfl, hg1, R1, hb2⟩
    replace BV := BV.below hb2
    have hz2 := hb2.size
    replace hb := chain hb hb2
    clear hb2
    obtain ⟨x0, x1, x2, x3, xf, xl⟩ := BV.four
    go_wp2_with fail
    clear x0 x1 x2 x3 xf xl
    refine (HSP.out _ _ _ R1.irow).mono ?_
    rintro e w3 ⟨a0, b0, k0, l0, rfl, O0, hb3⟩
    replace BV := BV.below hb3
    replace R1 := R1.below hb3
    have hz3 := hb3.size
    replace hb := chain hb hb3
    clear hb3
    clear R1 hg1
    have B0 := Blk.new w3 #[.slice a0 X.length k0, .slice b0 Y.length l0] 28
    have hal4 : Below w3.heap.size w3 (w3.alloc (.cells #[.slice a0 X.length k0, .slice b0 Y.length l0] 28)) := (Below.refl _ _).alloc (Nat.le_refl _) _
    have hz4 : (w3.alloc (.cells #[.slice a0 X.length k0, .slice b0 Y.length l0] 28)).heap.size = w3.heap.size + 1 := by simp
    replace BV := BV.below hal4
    replace O0 := O0.below hal4
    replace hb := chain hb hal4
    clear hal4
    obtain ⟨x0, x1, x2, x3, xf, xl⟩ := BV.four
    obtain ⟨y0_B0, y1_B0, yf_B0, yl_B0⟩ := B0.two
    go_wp2_with fail
    clear x0 x1 x2 x3 xf xl
    clear y0_B0 y1_B0 yf_B0 yl_B0
    generalize (w3.alloc (.cells #[.slice a0 X.length k0, .slice b0 Y.length l0] 28)) = w4 at *
    obtain ⟨x0, x1, x2, x3, xf, xl⟩ := BV.four
    obtain ⟨y0_B0, y1_B0, yf_B0, yl_B0⟩ := B0.two
    go_wp2_with fail
    clear x0 x1 x2 x3 xf xl
    clear y0_B0 y1_B0 yf_B0 yl_B0
    refine (toInt64S_any a _ cap bs _ rfl hle (hr.below hb)).mono ?_
    rintro e w5 ⟨g2, rfl, hg2, R2, hb5⟩
    replace BV := BV.below hb5
    replace O0 := O0.below hb5
    replace B0 := B0.below hb5
    have hz5 := hb5.size
    replace hb := chain hb hb5
    clear hb5
    have X1 : OSl w4.heap.size w5.heap.size w5 (some ⟨g2, 0, none⟩) bs := .inr ⟨g2, rfl, hg2, R2.lt, R2⟩
    clear R2 hg2
    obtain ⟨x0, x1, x2, x3, xf, xl⟩ := BV.four
    obtain ⟨y0_B0, y1_B0, yf_B0, yl_B0⟩ := B0.two
    go_wp2_with fail
    clear x0 x1 x2 x3 xf xl
    clear y0_B0 y1_B0 yf_B0 yl_B0
    refine (toVariant_any _ _ _ _ _).mono ?_
    rintro e w6 ⟨rfl, hb6⟩
    replace BV := BV.below hb6
    replace O0 := O0.below hb6
    replace B0 := B0.below hb6
    replace X1 := X1.below hb6
    have hz6 := hb6.size
    replace hb := chain hb hb6
    clear hb6
    obtain ⟨x0, x1, x2, x3, xf, xl⟩ := BV.four
    obtain ⟨y0_B0, y1_B0, yf_B0, yl_B0⟩ := B0.two
    go_wp2_with fail
    clear x0 x1 x2 x3 xf xl
    clear y0_B0 y1_B0 yf_B0 yl_B0
    refine (HIM.out _ _ _ X1.irow).mono ?_
    rintro e w7 ⟨a1, b1, k1, l1, rfl, O1, hb7⟩
    replace BV := BV.below hb7
    replace O0 := O0.below hb7
    replace B0 := B0.below hb7
    replace X1 := X1.below hb7
    have hz7 := hb7.size
    replace hb := chain hb hb7
    clear hb7
    have B1 := Blk.new w7 #[.slice a1 X.length k1, .slice b1 Y.length l1] 28
    have hal8 : Below w7.heap.size w7 (w7.alloc (.cells #[.slice a1 X.length k1, .slice b1 Y.length l1] 28)) := (Below.refl _ _).alloc (Nat.le_refl _) _
    have hz8 : (w7.alloc (.cells #[.slice a1 X.length k1, .slice b1 Y.length l1] 28)).heap.size = w7.heap.size + 1 := by simp
    replace BV := BV.below hal8
    replace O0 := O0.below hal8
    replace B0 := B0.below hal8
    replace X1 := X1.below hal8
    replace O1 := O1.below hal8
    replace hb := chain hb hal8
    clear hal8
    obtain ⟨x0, x1, x2, x3, xf, xl⟩ := BV.four
    obtain ⟨y0_B0, y1_B0, yf_B0, yl_B0⟩ := B0.two
    obtain ⟨y0_B1, y1_B1, yf_B1, yl_B1⟩ := B1.two
    go_wp2_with fail
    clear x0 x1 x2 x3 xf xl
    clear y0_B0 y1_B0 yf_B0 yl_B0
    clear y0_B1 y1_B1 yf_B1 yl_B1
    generalize (w7.alloc (.cells #[.slice a1 X.length k1, .slice b1 Y.length l1] 28)) = w8 at *
    obtain ⟨x0, x1, x2, x3, xf, xl⟩ := BV.four
    obtain ⟨y0_B0, y1_B0, yf_B0, yl_B0⟩ := B0.two
    obtain ⟨y0_B1, y1_B1, yf_B1, yl_B1⟩ := B1.two
    go_wp2_with fail
    clear x0 x1 x2 x3 xf xl
    clear y0_B0 y1_B0 yf_B0 yl_B0
    clear y0_B1 y1_B1 yf_B1 yl_B1
    refine (eqBoard_same _ _ _ _ _ _ _ _ _ _ X Y _ rfl rfl lX lY O1.irow1 O1.irow2 O0.irow1 O0.irow2).mono ?_
    rintro e w9 ⟨rfl, hb9⟩
    replace BV := BV.below hb9
    replace O0 := O0.below hb9
    replace B0 := B0.below hb9
    replace X1 := X1.below hb9
    replace O1 := O1.below hb9
    replace B1 := B1.below hb9
    have hz9 := hb9.size
    replace hb := chain hb hb9
    clear hb9
    obtain ⟨x0, x1, x2, x3, xf, xl⟩ := BV.four
    obtain ⟨y0_B0, y1_B0, yf_B0, yl_B0⟩ := B0.two
    obtain ⟨y0_B1, y1_B1, yf_B1, yl_B1⟩ := B1.two
    go_wp2_with fail
    clear x0 x1 x2 x3 xf xl
    clear y0_B0 y1_B0 yf_B0 yl_B0
    clear y0_B1 y1_B1 yf_B1 yl_B1
    refine (toInt64S_any a _ cap bs _ rfl hle (hr.below hb)).mono ?_
    rintro e w10 ⟨g3, rfl, hg3, R3, hb10⟩
    replace BV := BV.below hb10
    replace O0 := O0.below hb10
    replace B0 := B0.below hb10
    replace X1 := X1.below hb10
    replace O1 := O1.below hb10
    replace B1 := B1.below hb10
    have hz10 := hb10.size
    replace hb := chain hb hb10
    clear hb10
    obtain ⟨x0, x1, x2, x3, xf, xl⟩ := BV.four
    obtain ⟨y0_B0, y1_B0, yf_B0, yl_B0⟩ := B0.two
    obtain ⟨y0_B1, y1_B1, yf_B1, yl_B1⟩ := B1.two
    go_wp2_with fail
    clear x0 x1 x2 x3 xf xl
    clear y0_B0 y1_B0 yf_B0 yl_B0
    clear y0_B1 y1_B1 yf_B1 yl_B1
    refine (eqInt64S_same _ _ _ _ _ bs _ rfl hle X1.irow R3.irow).mono ?_
    rintro e w11 ⟨rfl, hb11⟩
    replace BV := BV.below hb11
    replace O0 := O0.below hb11
    replace B0 := B0.below hb11
    replace X1 := X1.below hb11
    replace O1 := O1.below hb11
    replace B1 := B1.below hb11
    replace R3 := R3.below hb11
    have hz11 := hb11.size
    replace hb := chain hb hb11
    clear hb11
    clear R3 hg3
    obtain ⟨x0, x1, x2, x3, xf, xl⟩ := BV.four
    obtain ⟨y0_B0, y1_B0, yf_B0, yl_B0⟩ := B0.two
    obtain ⟨y0_B1, y1_B1, yf_B1, yl_B1⟩ := B1.two
    go_wp2_with fail
    clear x0 x1 x2 x3 xf xl
    clear y0_B0 y1_B0 yf_B0 yl_B0
    clear y0_B1 y1_B1 yf_B1 yl_B1
    refine (markS_own _ _ _ _ _ bs 1 _ rfl hle (by omega) (by omega) X1).mono ?_
    rintro e w12 ⟨rfl, X1, hs12⟩
    replace BV := BV.same hs12 (by omega)
    replace O0 := O0.same hs12 (by omega)
    replace B0 := B0.same hs12 (by omega)
    replace O1 := O1.same hs12 (by omega)
    replace B1 := B1.same hs12 (by omega)
    have hz12 := hs12.size
    replace hb := below_same hb hs12 (by omega) (by omega)
    clear hs12
    have hk0 : ¬ ((1 : Int) + (bs.length : Int) < 0) := by omega
    have hq0 : ¬ ((1 : Int) + (X.length : Int) + (Y.length : Int) < 0) := by omega
    obtain ⟨x0, x1, x2, x3, xf, xl⟩ := BV.four
    obtain ⟨y0_B0, y1_B0, yf_B0, yl_B0⟩ := B0.two
    obtain ⟨y0_B1, y1_B1, yf_B1, yl_B1⟩ := B1.two
    go_wp2_with fail
    clear x0 x1 x2 x3 xf xl
    clear y0_B0 y1_B0 yf_B0 yl_B0
    clear y0_B1 y1_B1 yf_B1 yl_B1
    refine (eqBoard_same _ _ _ _ _ _ _ _ _ _ X Y _ rfl rfl lX lY O1.irow1 O1.irow2 O0.irow1 O0.irow2).mono ?_
    rintro e w13 ⟨rfl, hb13⟩
    replace BV := BV.below hb13
    replace O0 := O0.below hb13
    replace B0 := B0.below hb13
    replace X1 := X1.below hb13
    replace O1 := O1.below hb13
    replace B1 := B1.below hb13
    have hz13 := hb13.size
    replace hb := chain hb hb13
    clear hb13
    obtain ⟨x0, x1, x2, x3, xf, xl⟩ := BV.four
    obtain ⟨y0_B0, y1_B0, yf_B0, yl_B0⟩ := B0.two
    obtain ⟨y0_B1, y1_B1, yf_B1, yl_B1⟩ := B1.two
    go_wp2_with fail
    clear x0 x1 x2 x3 xf xl
    clear y0_B0 y1_B0 yf_B0 yl_B0
    clear y0_B1 y1_B1 yf_B1 yl_B1
    refine (markBoard_own _ _ _ _ _ _ _ _ X Y 1 _ rfl rfl lX lY (by omega) (by omega) O1).mono ?_
    rintro e w14 ⟨rfl, O1, hs14⟩
    replace BV := BV.same hs14 (by omega)
    replace O0 := O0.same hs14 (by omega)
    replace B0 := B0.same hs14 (by omega)
    replace X1 := X1.same hs14 (by omega)
    replace B1 := B1.same hs14 (by omega)
    have hz14 := hs14.size
    replace hb := below_same hb hs14 (by omega) (by omega)
    clear hs14
    obtain ⟨x0, x1, x2, x3, xf, xl⟩ := BV.four
    obtain ⟨y0_B0, y1_B0, yf_B0, yl_B0⟩ := B0.two
    obtain ⟨y0_B1, y1_B1, yf_B1, yl_B1⟩ := B1.two
    go_wp2_with fail
    clear x0 x1 x2 x3 xf xl
    clear y0_B0 y1_B0 yf_B0 yl_B0
    clear y0_B1 y1_B1 yf_B1 yl_B1
    refine (heldBoard_any _ _ X.length Y.length _ _ 1 _ lX lY (by omega) (by omega) O1.irow1 O1.irow2).mono ?_
    rintro e w15 ⟨rfl, hb15⟩
    replace BV := BV.below hb15
    replace O0 := O0.below hb15
    replace B0 := B0.below hb15
    replace X1 := X1.below hb15
    replace O1 := O1.below hb15
    replace B1 := B1.below hb15
    have hz15 := hb15.size
    replace hb := chain hb hb15
    clear hb15
    obtain ⟨x0, x1, x2, x3, xf, xl⟩ := BV.four
    obtain ⟨y0_B0, y1_B0, yf_B0, yl_B0⟩ := B0.two
    obtain ⟨y0_B1, y1_B1, yf_B1, yl_B1⟩ := B1.two
    go_wp2_with fail
    clear x0 x1 x2 x3 xf xl
    clear y0_B0 y1_B0 yf_B0 yl_B0
    clear y0_B1 y1_B1 yf_B1 yl_B1
    refine (toVariant_any _ _ _ _ _).mono ?_
    rintro e w16 ⟨rfl, hb16⟩
    replace BV := BV.below hb16
    replace O0 := O0.below hb16
    replace B0 := B0.below hb16
    replace X1 := X1.below hb16
    replace O1 := O1.below hb16
    replace B1 := B1.below hb16
    have hz16 := hb16.size
    replace hb := chain hb hb16
    clear hb16
    obtain ⟨x0, x1, x2, x3, xf, xl⟩ := BV.four
    obtain ⟨y0_B0, y1_B0, yf_B0, yl_B0⟩ := B0.two
    obtain ⟨y0_B1, y1_B1, yf_B1, yl_B1⟩ := B1.two
    go_wp2_with fail
    clear x0 x1 x2 x3 xf xl
    clear y0_B0 y1_B0 yf_B0 yl_B0
    clear y0_B1 y1_B1 yf_B1 yl_B1
    refine (toInt64S_any a _ cap bs _ rfl hle (hr.below hb)).mono ?_
    rintro e w17 ⟨g4, rfl, hg4, R4, hb17⟩
    replace BV := BV.below hb17
    replace O0 := O0.below hb17
    replace B0 := B0.below hb17
    replace X1 := X1.below hb17
    replace O1 := O1.below hb17
    replace B1 := B1.below hb17
    have hz17 := hb17.size
    replace hb := chain hb hb17
    clear hb17
    obtain ⟨x0, x1, x2, x3, xf, xl⟩ := BV.four
    obtain ⟨y0_B0, y1_B0, yf_B0, yl_B0⟩ := B0.two
    obtain ⟨y0_B1, y1_B1, yf_B1, yl_B1⟩ := B1.two
    go_wp2_with fail
    clear x0 x1 x2 x3 xf xl
    clear y0_B0 y1_B0 yf_B0 yl_B0
    clear y0_B1 y1_B1 yf_B1 yl_B1
    refine (HIM.out _ _ _ R4.irow).mono ?_
    rintro e w18 ⟨a2, b2, k2, l2, rfl, O2, hb18⟩
    replace BV := BV.below hb18
    replace O0 := O0.below hb18
    replace B0 := B0.below hb18
    replace X1 := X1.below hb18
    replace O1 := O1.below hb18
    replace B1 := B1.below hb18
    replace R4 := R4.below hb18
    have hz18 := hb18.size
    replace hb := chain hb hb18
    clear hb18
    clear R4 hg4
    have B2 := Blk.new w18 #[.slice a2 X.length k2, .slice b2 Y.length l2] 28
    have hal19 : Below w18.heap.size w18 (w18.alloc (.cells #[.slice a2 X.length k2, .slice b2 Y.length l2] 28)) := (Below.refl _ _).alloc (Nat.le_refl _) _
    have hz19 : (w18.alloc (.cells #[.slice a2 X.length k2, .slice b2 Y.length l2] 28)).heap.size = w18.heap.size + 1 := by simp
    replace BV := BV.below hal19
    replace O0 := O0.below hal19
    replace B0 := B0.below hal19
    replace X1 := X1.below hal19
    replace O1 := O1.below hal19
    replace B1 := B1.below hal19
    replace O2 := O2.below hal19
    replace hb := chain hb hal19
    clear hal19
    obtain ⟨x0, x1, x2, x3, xf, xl⟩ := BV.four
    obtain ⟨y0_B0, y1_B0, yf_B0, yl_B0⟩ := B0.two
    obtain ⟨y0_B1, y1_B1, yf_B1, yl_B1⟩ := B1.two
    obtain ⟨y0_B2, y1_B2, yf_B2, yl_B2⟩ := B2.two
    go_wp2_with fail
    clear x0 x1 x2 x3 xf xl
    clear y0_B0 y1_B0 yf_B0 yl_B0
    clear y0_B1 y1_B1 yf_B1 yl_B1
    clear y0_B2 y1_B2 yf_B2 yl_B2
    generalize (w18.alloc (.cells #[.slice a2 X.length k2, .slice b2 Y.length l2] 28)) = w19 at *
    obtain ⟨x0, x1, x2, x3, xf, xl⟩ := BV.four
    obtain ⟨y0_B0, y1_B0, yf_B0, yl_B0⟩ := B0.two
    obtain ⟨y0_B1, y1_B1, yf_B1, yl_B1⟩ := B1.two
    obtain ⟨y0_B2, y1_B2, yf_B2, yl_B2⟩ := B2.two
    go_wp2_with fail
    clear x0 x1 x2 x3 xf xl
    clear y0_B0 y1_B0 yf_B0 yl_B0
    clear y0_B1 y1_B1 yf_B1 yl_B1
    clear y0_B2 y1_B2 yf_B2 yl_B2
    refine (eqBoard_same _ _ _ _ _ _ _ _ _ _ X Y _ rfl rfl lX lY O2.irow1 O2.irow2 O0.irow1 O0.irow2).mono ?_
    rintro e w20 ⟨rfl, hb20⟩
    replace BV := BV.below hb20
    replace O0 := O0.below hb20
    replace B0 := B0.below hb20
    replace X1 := X1.below hb20
    replace O1 := O1.below hb20
    replace B1 := B1.below hb20
    replace O2 := O2.below hb20
    replace B2 := B2.below hb20
    have hz20 := hb20.size
    replace hb := chain hb hb20
    clear hb20
    obtain ⟨x0, x1, x2, x3, xf, xl⟩ := BV.four
    obtain ⟨y0_B0, y1_B0, yf_B0, yl_B0⟩ := B0.two
    obtain ⟨y0_B1, y1_B1, yf_B1, yl_B1⟩ := B1.two
    obtain ⟨y0_B2, y1_B2, yf_B2, yl_B2⟩ := B2.two
    go_wp2_with fail
    clear x0 x1 x2 x3 xf xl
    clear y0_B0 y1_B0 yf_B0 yl_B0
    clear y0_B1 y1_B1 yf_B1 yl_B1
    clear y0_B2 y1_B2 yf_B2 yl_B2
    refine (heldBoard_any _ _ X.length Y.length _ _ 1 _ lX lY (by omega) (by omega) O1.irow1 O1.irow2).mono ?_
    rintro e w21 ⟨rfl, hb21⟩
    replace BV := BV.below hb21
    replace O0 := O0.below hb21
    replace B0 := B0.below hb21
    replace X1 := X1.below hb21
    replace O1 := O1.below hb21
    replace B1 := B1.below hb21
    replace O2 := O2.below hb21
    replace B2 := B2.below hb21
    have hz21 := hb21.size
    replace hb := chain hb hb21
    clear hb21
    go_wp2_with fail
    go_ret
    exact ⟨rfl, hb⟩
  · have hle' : ¬ (n : Int) ≤ 1048576 := by omega
    go_enter Try.func8, Try.ntmps8
    go_wp2_with fail
    go_ret
    exact ⟨rfl, hb⟩
set_option maxRecDepth 100000 in
theorem fnExactBoardOfBits_lifted (os : Os) (started : os.Started) (H : Type) (enc : TypeId × Value → H) :
    ReturnsInHanded {} Try.checked os 8 .any (Rows.fnExactBoardOfBitsSpec.pre6 enc Try.prog Try.f8 Rows.fnExactBoardOfBitsRow.domain false) (Rows.fnExactBoardOfBitsSpec.post enc Try.prog Try.f8 false true false false) := by
  refine returnsInHanded_of_change (C := Try.checked) own started (by kernel_rfl) Try.func8
    (ChangeSpec.witness6 (enc := enc) (C := Try.checked) false ⟨#[], #[.agg #[.int .i64 0, .int .i64 0, .int .i64 0, .int .i64 0], .slice none 0 0], []⟩ 8 (by kernel_rfl) (by kernel_rfl) (by kernel_rfl) (by kernel_rfl)) ?_
  intro W base args ds gs before hval0 hW hcnd _
  have hval : ∀ (j : Nat) t v, Try.f8.params[j]? = some t → args[j]? = some v → Value.okWide Try.prog W .any base t v := hval0
  have hW' := hW
  obtain ⟨p, q, hA0, hV, rfl, hfz, hnd⟩ := hW
  have hA : DataW.TrodAll enc Try.prog W 0 (fun _ => true) true Try.f8.params.toList args.toList ds p := hA0
  rw [Try.params8] at hA hval
  obtain ⟨v0, vs0, d0, ds0, p0, q0, hargs, rfl, rfl, h0, r0⟩ := trodAll_cons hA
  obtain ⟨v1, vs1, d1, ds1, p1, q1, rfl, rfl, rfl, h1, r1⟩ := trodAll_cons r0
  obtain ⟨rfl, rfl, rfl⟩ := trodAll_nil r1
  obtain rfl : args = #[v0, v1] := by cases args; simp_all
  obtain ⟨rfl, rfl⟩ := trodVars_none hV
  have k0 := h0
  have lt0 : ∀ x ∈ p0, x.block < W.heap.size := by obtain ⟨m, hm⟩ := k0; exact DataW.trod_lt m _ _ _ hm
  have k1 := h1
  have lt1 : ∀ x ∈ p1, x.block < W.heap.size := by obtain ⟨m, hm⟩ := k1; exact DataW.trod_lt m _ _ _ hm
  obtain ⟨x0_0, x1_0, x2_0, x3_0, y0_0, y1_0, y2_0, y3_0, m_0, rfl, _, _, hy0_0, hy1_0, hy2_0, hy3_0⟩ := Joins.open_agg4 Try.underlying39 (by kernel_rfl) (show Try.prog.cellsOf 39 = 4 by kernel_rfl) (hval 0 39 v0 rfl rfl) h0
  obtain ⟨a0_0, e0_0, _, wa0_0⟩ := DataW.trod_int Try.underlying2 hy0_0
  obtain ⟨a1_0, e1_0, _, wa1_0⟩ := DataW.trod_int Try.underlying2 hy1_0
  obtain ⟨a2_0, e2_0, _, wa2_0⟩ := DataW.trod_int Try.underlying2 hy2_0
  obtain ⟨a3_0, e3_0, _, wa3_0⟩ := DataW.trod_int Try.underlying2 hy3_0
  simp at e0_0 e1_0 e2_0 e3_0
  subst e0_0 e1_0 e2_0 e3_0
  obtain ⟨sa_1, sl_1, sc_1, rfl⟩ := okWide_slice Try.underlying26 (hval 1 26 v1 rfl rfl)
  obtain ⟨ra_1, rn_1, rc_1, rx_1, hv_1, rl_1, rm_1, rr_1, rw_1⟩ : ∃ (a : Option Addr) (n cap : Nat) (xs : List Int), Value.slice sa_1 sl_1 sc_1 = .slice a n cap ∧ xs.length = n ∧ n ≤ 9223372036854775807 ∧ IRow W a xs ∧ ∀ y ∈ xs, (Lit.int .i64 y).wf = true := by
    obtain ⟨fuel, hf⟩ := h1
    exact open_row hf
  simp only [Value.slice.injEq] at hv_1
  obtain ⟨rfl, rfl, rfl⟩ := hv_1
  clear hA0 hval0
  refine (fnExactBoardOfBits_walk a0_0 a1_0 a2_0 a3_0 sa_1 sl_1 sc_1 rx_1 W rl_1 rm_1 rr_1).mono fun e W' ⟨he, bel⟩ => ?_
  subst he
  exact ⟨_, rfl, _, _, _, [], _, [], hW', trodAll_mk1 (shut_bool Try.underlying4 _), (trodAll_cons_mk (Below.trod laidOut (by kernel_rfl) (of_decide_eq_true (by kernel_rfl)) k0 bel lt0) (trodAll_cons_mk (Below.trod laidOut (by kernel_rfl) (of_decide_eq_true (by kernel_rfl)) k1 bel lt1) trodAll_mk0)), rfl, bel.frame _, fun h => by cases h⟩
theorem fnExactBoardOfBits_holds : Rows.FnExactBoardOfBitsSaid :=
  OpenClaim.holds_of_wide 8 Try.f8 rfl rfl rfl rfl rfl rfl rfl ⟨rfl, rfl, rfl, rfl, rfl⟩ rfl rfl rfl rfl rfl (by kernel_rfl) Try.func8 (by kernel_rfl)
    (of_decide_eq_true (by kernel_rfl)) (by unfold Func.isWrapper; first | (rw [if_pos (by decide +kernel)]; kernel_rfl) | (rw [if_neg (by decide +kernel)]; exact ⟨rfl, rfl⟩))
    (fun os started H enc _ => fnExactBoardOfBits_lifted os started H enc)
end Go.Proofs.Ytkddeoifdecniaa
