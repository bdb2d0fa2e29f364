/- The exact law of chapter 8 on new games holds: for every input the law returns true and its arguments read behind the call as they read before. No conditions. -/
import Derived.Test.Ythfmackfkdbhhaa08h
import Derived.Test.YthfmackfkdbhhaaGamL
import Derived.Test.YthfmackfkdbhhaaRows
import Derived.ChangeOld
namespace Go.Proofs.Ythfmackfkdbhhaa
open Go.ChangeMaps (open_string shut_string)
open Go.ChangeShapes Go.WideShapes Go.ChangeAt Go.RowKit
set_option linter.unusedVariables false
set_option linter.unusedSimpArgs false

set_option maxRecDepth 8000 in
set_option maxHeartbeats 4000000 in
theorem fnExactNewGame_walk (p c h s : Int) (w : World) :
    Calls Try.prog 4 #[.agg #[.int .i64 p, .int .i64 c, .int .i64 h, .int .i64 s]] w fun e w' => e = .returned (.bool true) ∧ Below w.heap.size w w' := by
  have hsp := fun W => specNewGame_any p c h s W
  have him := fun W => newGame_any p c h s W
  obtain ⟨lX, lY⟩ := ngV_length p c h s
  obtain ⟨X, hX⟩ : ∃ X, ngV p c h s = X := ⟨_, rfl⟩
  obtain ⟨r, hr⟩ : ∃ r, ngC p c h s = r := ⟨_, rfl⟩
  rw [hX, hr] at hsp him
  rw [hX] at lX lY
  have HSP := Lib.hid hsp
  have HIM := Lib.hid him
  clear hsp him hX hr
  have hb : Below w.heap.size w (w.alloc (.cells #[.int .i64 p, .int .i64 c, .int .i64 h, .int .i64 s] 23)) := (Below.refl _ _).alloc (Nat.le_refl _) _
  have BV := Blk.new w #[.int .i64 p, .int .i64 c, .int .i64 h, .int .i64 s] 23
  have hz0 : w.heap.size + 1 ≤ (w.alloc (.cells #[.int .i64 p, .int .i64 c, .int .i64 h, .int .i64 s] 23)).heap.size := by simp
  go_enter Try.func4, Try.ntmps4
  obtain ⟨x0, x1, x2, x3, xf, xl⟩ := BV.four
  go_wp2_with fail
  clear x0 x1 x2 x3 xf xl
  generalize w.alloc (.cells #[.int .i64 p, .int .i64 c, .int .i64 h, .int .i64 s] 23) = v0 at *
  obtain ⟨q0_BV, q1_BV, q2_BV, q3_BV, qf_BV, ql_BV⟩ := BV.four
  go_wp2_with fail
  clear q0_BV q1_BV q2_BV q3_BV qf_BV ql_BV
  refine (toVariant_any _ _ _ _ _).mono ?_
  rintro e w1 ⟨rfl, hb1⟩
  replace BV := BV.below hb1
  have hz1 := hb1.size
  replace hb := chain hb hb1
  clear hb1
  obtain ⟨q0_BV, q1_BV, q2_BV, q3_BV, qf_BV, ql_BV⟩ := BV.four
  go_wp2_with fail
  clear q0_BV q1_BV q2_BV q3_BV qf_BV ql_BV
  refine (HSP.out _).mono ?_
  rintro e w2 ⟨d0, e0, k0, m0, rfl, O0, hb2⟩
  replace BV := BV.below hb2
  have hz2 := hb2.size
  replace hb := chain hb hb2
  clear hb2
  have B0 := Blk.new w2 #[.slice d0 X.xs.length k0, .slice e0 X.ys.length m0, .int .i64 X.pl, .int .i64 X.ra, .int .i64 X.rb, .int .i64 X.ph, .int .i64 X.wi, .int .i64 X.re, .int .i64 X.tu] 38
  have hal3 : Below w2.heap.size w2 (w2.alloc (.cells #[.slice d0 X.xs.length k0, .slice e0 X.ys.length m0, .int .i64 X.pl, .int .i64 X.ra, .int .i64 X.rb, .int .i64 X.ph, .int .i64 X.wi, .int .i64 X.re, .int .i64 X.tu] 38)) := (Below.refl _ _).alloc (Nat.le_refl _) _
  have hz3 : (w2.alloc (.cells #[.slice d0 X.xs.length k0, .slice e0 X.ys.length m0, .int .i64 X.pl, .int .i64 X.ra, .int .i64 X.rb, .int .i64 X.ph, .int .i64 X.wi, .int .i64 X.re, .int .i64 X.tu] 38)).heap.size = w2.heap.size + 1 := by simp
  replace BV := BV.below hal3
  replace O0 := O0.below hal3
  replace hb := chain hb hal3
  clear hal3
  obtain ⟨q0_BV, q1_BV, q2_BV, q3_BV, qf_BV, ql_BV⟩ := BV.four
  obtain ⟨q0_B0, q1_B0, q2_B0, q3_B0, q4_B0, q5_B0, q6_B0, q7_B0, q8_B0, qf_B0, ql_B0⟩ := B0.nine
  go_wp2_with fail
  clear q0_BV q1_BV q2_BV q3_BV qf_BV ql_BV
  clear q0_B0 q1_B0 q2_B0 q3_B0 q4_B0 q5_B0 q6_B0 q7_B0 q8_B0 qf_B0 ql_B0
  generalize (w2.alloc (.cells #[.slice d0 X.xs.length k0, .slice e0 X.ys.length m0, .int .i64 X.pl, .int .i64 X.ra, .int .i64 X.rb, .int .i64 X.ph, .int .i64 X.wi, .int .i64 X.re, .int .i64 X.tu] 38)) = w3 at *
  obtain ⟨q0_BV, q1_BV, q2_BV, q3_BV, qf_BV, ql_BV⟩ := BV.four
  obtain ⟨q0_B0, q1_B0, q2_B0, q3_B0, q4_B0, q5_B0, q6_B0, q7_B0, q8_B0, qf_B0, ql_B0⟩ := B0.nine
  go_wp2_with fail
  clear q0_BV q1_BV q2_BV q3_BV qf_BV ql_BV
  clear q0_B0 q1_B0 q2_B0 q3_B0 q4_B0 q5_B0 q6_B0 q7_B0 q8_B0 qf_B0 ql_B0
  refine (toVariant_any _ _ _ _ _).mono ?_
  rintro e w4 ⟨rfl, hb4⟩
  replace BV := BV.below hb4
  replace O0 := O0.below hb4
  replace B0 := B0.below hb4
  have hz4 := hb4.size
  replace hb := chain hb hb4
  clear hb4
  obtain ⟨q0_BV, q1_BV, q2_BV, q3_BV, qf_BV, ql_BV⟩ := BV.four
  obtain ⟨q0_B0, q1_B0, q2_B0, q3_B0, q4_B0, q5_B0, q6_B0, q7_B0, q8_B0, qf_B0, ql_B0⟩ := B0.nine
  go_wp2_with fail
  clear q0_BV q1_BV q2_BV q3_BV qf_BV ql_BV
  clear q0_B0 q1_B0 q2_B0 q3_B0 q4_B0 q5_B0 q6_B0 q7_B0 q8_B0 qf_B0 ql_B0
  refine (HIM.out _).mono ?_
  rintro e w5 ⟨d1, e1, k1, m1, rfl, O1, hb5⟩
  replace BV := BV.below hb5
  replace O0 := O0.below hb5
  replace B0 := B0.below hb5
  have hz5 := hb5.size
  replace hb := chain hb hb5
  clear hb5
  have B1 := Blk.new w5 #[.slice d1 X.xs.length k1, .slice e1 X.ys.length m1, .int .i64 X.pl, .int .i64 X.ra, .int .i64 X.rb, .int .i64 X.ph, .int .i64 X.wi, .int .i64 X.re, .int .i64 X.tu] 38
  have hal6 : Below w5.heap.size w5 (w5.alloc (.cells #[.slice d1 X.xs.length k1, .slice e1 X.ys.length m1, .int .i64 X.pl, .int .i64 X.ra, .int .i64 X.rb, .int .i64 X.ph, .int .i64 X.wi, .int .i64 X.re, .int .i64 X.tu] 38)) := (Below.refl _ _).alloc (Nat.le_refl _) _
  have hz6 : (w5.alloc (.cells #[.slice d1 X.xs.length k1, .slice e1 X.ys.length m1, .int .i64 X.pl, .int .i64 X.ra, .int .i64 X.rb, .int .i64 X.ph, .int .i64 X.wi, .int .i64 X.re, .int .i64 X.tu] 38)).heap.size = w5.heap.size + 1 := by simp
  replace BV := BV.below hal6
  replace O0 := O0.below hal6
  replace B0 := B0.below hal6
  replace O1 := O1.below hal6
  replace hb := chain hb hal6
  clear hal6
  obtain ⟨q0_BV, q1_BV, q2_BV, q3_BV, qf_BV, ql_BV⟩ := BV.four
  obtain ⟨q0_B0, q1_B0, q2_B0, q3_B0, q4_B0, q5_B0, q6_B0, q7_B0, q8_B0, qf_B0, ql_B0⟩ := B0.nine
  obtain ⟨q0_B1, q1_B1, q2_B1, q3_B1, q4_B1, q5_B1, q6_B1, q7_B1, q8_B1, qf_B1, ql_B1⟩ := B1.nine
  go_wp2_with fail
  clear q0_BV q1_BV q2_BV q3_BV qf_BV ql_BV
  clear q0_B0 q1_B0 q2_B0 q3_B0 q4_B0 q5_B0 q6_B0 q7_B0 q8_B0 qf_B0 ql_B0
  clear q0_B1 q1_B1 q2_B1 q3_B1 q4_B1 q5_B1 q6_B1 q7_B1 q8_B1 qf_B1 ql_B1
  generalize (w5.alloc (.cells #[.slice d1 X.xs.length k1, .slice e1 X.ys.length m1, .int .i64 X.pl, .int .i64 X.ra, .int .i64 X.rb, .int .i64 X.ph, .int .i64 X.wi, .int .i64 X.re, .int .i64 X.tu] 38)) = w6 at *
  obtain ⟨q0_BV, q1_BV, q2_BV, q3_BV, qf_BV, ql_BV⟩ := BV.four
  obtain ⟨q0_B0, q1_B0, q2_B0, q3_B0, q4_B0, q5_B0, q6_B0, q7_B0, q8_B0, qf_B0, ql_B0⟩ := B0.nine
  obtain ⟨q0_B1, q1_B1, q2_B1, q3_B1, q4_B1, q5_B1, q6_B1, q7_B1, q8_B1, qf_B1, ql_B1⟩ := B1.nine
  go_wp2_with fail
  clear q0_BV q1_BV q2_BV q3_BV qf_BV ql_BV
  clear q0_B0 q1_B0 q2_B0 q3_B0 q4_B0 q5_B0 q6_B0 q7_B0 q8_B0 qf_B0 ql_B0
  clear q0_B1 q1_B1 q2_B1 q3_B1 q4_B1 q5_B1 q6_B1 q7_B1 q8_B1 qf_B1 ql_B1
  refine (eqGame_same X _ _ _ _ _ _ _ _ _ lX lY O1.irow1 O1.irow2 O0.irow1 O0.irow2).mono ?_
  rintro e w7 ⟨rfl, hb7⟩
  replace BV := BV.below hb7
  replace O0 := O0.below hb7
  replace B0 := B0.below hb7
  replace O1 := O1.below hb7
  replace B1 := B1.below hb7
  have hz7 := hb7.size
  replace hb := chain hb hb7
  clear hb7
  obtain ⟨q0_BV, q1_BV, q2_BV, q3_BV, qf_BV, ql_BV⟩ := BV.four
  obtain ⟨q0_B0, q1_B0, q2_B0, q3_B0, q4_B0, q5_B0, q6_B0, q7_B0, q8_B0, qf_B0, ql_B0⟩ := B0.nine
  obtain ⟨q0_B1, q1_B1, q2_B1, q3_B1, q4_B1, q5_B1, q6_B1, q7_B1, q8_B1, qf_B1, ql_B1⟩ := B1.nine
  go_wp2_with fail
  clear q0_BV q1_BV q2_BV q3_BV qf_BV ql_BV
  clear q0_B0 q1_B0 q2_B0 q3_B0 q4_B0 q5_B0 q6_B0 q7_B0 q8_B0 qf_B0 ql_B0
  clear q0_B1 q1_B1 q2_B1 q3_B1 q4_B1 q5_B1 q6_B1 q7_B1 q8_B1 qf_B1 ql_B1
  refine (markGame_own _ _ X _ _ _ _ 1 _ lX lY (by omega) (by omega) (by omega) O1).mono ?_
  rintro e w8 ⟨rfl, O1, hs8⟩
  replace BV := BV.same hs8 (by omega)
  replace O0 := O0.same hs8 (by omega)
  replace B0 := B0.same hs8 (by omega)
  replace B1 := B1.same hs8 (by omega)
  have hz8 := hs8.size
  replace hb := below_same hb hs8 (by omega) (by omega)
  clear hs8
  have hq0 : ¬ ((1 : Int) + (X.xs.length : Int) + (X.ys.length : Int) < 0) := by omega
  obtain ⟨q0_BV, q1_BV, q2_BV, q3_BV, qf_BV, ql_BV⟩ := BV.four
  obtain ⟨q0_B0, q1_B0, q2_B0, q3_B0, q4_B0, q5_B0, q6_B0, q7_B0, q8_B0, qf_B0, ql_B0⟩ := B0.nine
  obtain ⟨q0_B1, q1_B1, q2_B1, q3_B1, q4_B1, q5_B1, q6_B1, q7_B1, q8_B1, qf_B1, ql_B1⟩ := B1.nine
  go_wp2_with fail
  clear q0_BV q1_BV q2_BV q3_BV qf_BV ql_BV
  clear q0_B0 q1_B0 q2_B0 q3_B0 q4_B0 q5_B0 q6_B0 q7_B0 q8_B0 qf_B0 ql_B0
  clear q0_B1 q1_B1 q2_B1 q3_B1 q4_B1 q5_B1 q6_B1 q7_B1 q8_B1 qf_B1 ql_B1
  refine (heldGame_any X _ _ _ _ 1 _ lX lY (by omega) (by omega) O1.irow1 O1.irow2).mono ?_
  rintro e w9 ⟨rfl, hb9⟩
  replace BV := BV.below hb9
  replace O0 := O0.below hb9
  replace B0 := B0.below hb9
  replace O1 := O1.below hb9
  replace B1 := B1.below hb9
  have hz9 := hb9.size
  replace hb := chain hb hb9
  clear hb9
  obtain ⟨q0_BV, q1_BV, q2_BV, q3_BV, qf_BV, ql_BV⟩ := BV.four
  obtain ⟨q0_B0, q1_B0, q2_B0, q3_B0, q4_B0, q5_B0, q6_B0, q7_B0, q8_B0, qf_B0, ql_B0⟩ := B0.nine
  obtain ⟨q0_B1, q1_B1, q2_B1, q3_B1, q4_B1, q5_B1, q6_B1, q7_B1, q8_B1, qf_B1, ql_B1⟩ := B1.nine
  go_wp2_with fail
  clear q0_BV q1_BV q2_BV q3_BV qf_BV ql_BV
  clear q0_B0 q1_B0 q2_B0 q3_B0 q4_B0 q5_B0 q6_B0 q7_B0 q8_B0 qf_B0 ql_B0
  clear q0_B1 q1_B1 q2_B1 q3_B1 q4_B1 q5_B1 q6_B1 q7_B1 q8_B1 qf_B1 ql_B1
  refine (toVariant_any _ _ _ _ _).mono ?_
  rintro e w10 ⟨rfl, hb10⟩
  replace BV := BV.below hb10
  replace O0 := O0.below hb10
  replace B0 := B0.below hb10
  replace O1 := O1.below hb10
  replace B1 := B1.below hb10
  have hz10 := hb10.size
  replace hb := chain hb hb10
  clear hb10
  obtain ⟨q0_BV, q1_BV, q2_BV, q3_BV, qf_BV, ql_BV⟩ := BV.four
  obtain ⟨q0_B0, q1_B0, q2_B0, q3_B0, q4_B0, q5_B0, q6_B0, q7_B0, q8_B0, qf_B0, ql_B0⟩ := B0.nine
  obtain ⟨q0_B1, q1_B1, q2_B1, q3_B1, q4_B1, q5_B1, q6_B1, q7_B1, q8_B1, qf_B1, ql_B1⟩ := B1.nine
  go_wp2_with fail
  clear q0_BV q1_BV q2_BV q3_BV qf_BV ql_BV
  clear q0_B0 q1_B0 q2_B0 q3_B0 q4_B0 q5_B0 q6_B0 q7_B0 q8_B0 qf_B0 ql_B0
  clear q0_B1 q1_B1 q2_B1 q3_B1 q4_B1 q5_B1 q6_B1 q7_B1 q8_B1 qf_B1 ql_B1
  refine (HIM.out _).mono ?_
  rintro e w11 ⟨d2, e2, k2, m2, rfl, O2, hb11⟩
  replace BV := BV.below hb11
  replace O0 := O0.below hb11
  replace B0 := B0.below hb11
  replace O1 := O1.below hb11
  replace B1 := B1.below hb11
  have hz11 := hb11.size
  replace hb := chain hb hb11
  clear hb11
  have B2 := Blk.new w11 #[.slice d2 X.xs.length k2, .slice e2 X.ys.length m2, .int .i64 X.pl, .int .i64 X.ra, .int .i64 X.rb, .int .i64 X.ph, .int .i64 X.wi, .int .i64 X.re, .int .i64 X.tu] 38
  have hal12 : Below w11.heap.size w11 (w11.alloc (.cells #[.slice d2 X.xs.length k2, .slice e2 X.ys.length m2, .int .i64 X.pl, .int .i64 X.ra, .int .i64 X.rb, .int .i64 X.ph, .int .i64 X.wi, .int .i64 X.re, .int .i64 X.tu] 38)) := (Below.refl _ _).alloc (Nat.le_refl _) _
  have hz12 : (w11.alloc (.cells #[.slice d2 X.xs.length k2, .slice e2 X.ys.length m2, .int .i64 X.pl, .int .i64 X.ra, .int .i64 X.rb, .int .i64 X.ph, .int .i64 X.wi, .int .i64 X.re, .int .i64 X.tu] 38)).heap.size = w11.heap.size + 1 := by simp
  replace BV := BV.below hal12
  replace O0 := O0.below hal12
  replace B0 := B0.below hal12
  replace O1 := O1.below hal12
  replace B1 := B1.below hal12
  replace O2 := O2.below hal12
  replace hb := chain hb hal12
  clear hal12
  obtain ⟨q0_BV, q1_BV, q2_BV, q3_BV, qf_BV, ql_BV⟩ := BV.four
  obtain ⟨q0_B0, q1_B0, q2_B0, q3_B0, q4_B0, q5_B0, q6_B0, q7_B0, q8_B0, qf_B0, ql_B0⟩ := B0.nine
  obtain ⟨q0_B1, q1_B1, q2_B1, q3_B1, q4_B1, q5_B1, q6_B1, q7_B1, q8_B1, qf_B1, ql_B1⟩ := B1.nine
  obtain ⟨q0_B2, q1_B2, q2_B2, q3_B2, q4_B2, q5_B2, q6_B2, q7_B2, q8_B2, qf_B2, ql_B2⟩ := B2.nine
  go_wp2_with fail
  clear q0_BV q1_BV q2_BV q3_BV qf_BV ql_BV
  clear q0_B0 q1_B0 q2_B0 q3_B0 q4_B0 q5_B0 q6_B0 q7_B0 q8_B0 qf_B0 ql_B0
  clear q0_B1 q1_B1 q2_B1 q3_B1 q4_B1 q5_B1 q6_B1 q7_B1 q8_B1 qf_B1 ql_B1
  clear q0_B2 q1_B2 q2_B2 q3_B2 q4_B2 q5_B2 q6_B2 q7_B2 q8_B2 qf_B2 ql_B2
  generalize (w11.alloc (.cells #[.slice d2 X.xs.length k2, .slice e2 X.ys.length m2, .int .i64 X.pl, .int .i64 X.ra, .int .i64 X.rb, .int .i64 X.ph, .int .i64 X.wi, .int .i64 X.re, .int .i64 X.tu] 38)) = w12 at *
  obtain ⟨q0_BV, q1_BV, q2_BV, q3_BV, qf_BV, ql_BV⟩ := BV.four
  obtain ⟨q0_B0, q1_B0, q2_B0, q3_B0, q4_B0, q5_B0, q6_B0, q7_B0, q8_B0, qf_B0, ql_B0⟩ := B0.nine
  obtain ⟨q0_B1, q1_B1, q2_B1, q3_B1, q4_B1, q5_B1, q6_B1, q7_B1, q8_B1, qf_B1, ql_B1⟩ := B1.nine
  obtain ⟨q0_B2, q1_B2, q2_B2, q3_B2, q4_B2, q5_B2, q6_B2, q7_B2, q8_B2, qf_B2, ql_B2⟩ := B2.nine
  go_wp2_with fail
  clear q0_BV q1_BV q2_BV q3_BV qf_BV ql_BV
  clear q0_B0 q1_B0 q2_B0 q3_B0 q4_B0 q5_B0 q6_B0 q7_B0 q8_B0 qf_B0 ql_B0
  clear q0_B1 q1_B1 q2_B1 q3_B1 q4_B1 q5_B1 q6_B1 q7_B1 q8_B1 qf_B1 ql_B1
  clear q0_B2 q1_B2 q2_B2 q3_B2 q4_B2 q5_B2 q6_B2 q7_B2 q8_B2 qf_B2 ql_B2
  refine (eqGame_same X _ _ _ _ _ _ _ _ _ lX lY O2.irow1 O2.irow2 O0.irow1 O0.irow2).mono ?_
  rintro e w13 ⟨rfl, hb13⟩
  replace BV := BV.below hb13
  replace O0 := O0.below hb13
  replace B0 := B0.below hb13
  replace O1 := O1.below hb13
  replace B1 := B1.below hb13
  replace O2 := O2.below hb13
  replace B2 := B2.below hb13
  have hz13 := hb13.size
  replace hb := chain hb hb13
  clear hb13
  obtain ⟨q0_BV, q1_BV, q2_BV, q3_BV, qf_BV, ql_BV⟩ := BV.four
  obtain ⟨q0_B0, q1_B0, q2_B0, q3_B0, q4_B0, q5_B0, q6_B0, q7_B0, q8_B0, qf_B0, ql_B0⟩ := B0.nine
  obtain ⟨q0_B1, q1_B1, q2_B1, q3_B1, q4_B1, q5_B1, q6_B1, q7_B1, q8_B1, qf_B1, ql_B1⟩ := B1.nine
  obtain ⟨q0_B2, q1_B2, q2_B2, q3_B2, q4_B2, q5_B2, q6_B2, q7_B2, q8_B2, qf_B2, ql_B2⟩ := B2.nine
  go_wp2_with fail
  clear q0_BV q1_BV q2_BV q3_BV qf_BV ql_BV
  clear q0_B0 q1_B0 q2_B0 q3_B0 q4_B0 q5_B0 q6_B0 q7_B0 q8_B0 qf_B0 ql_B0
  clear q0_B1 q1_B1 q2_B1 q3_B1 q4_B1 q5_B1 q6_B1 q7_B1 q8_B1 qf_B1 ql_B1
  clear q0_B2 q1_B2 q2_B2 q3_B2 q4_B2 q5_B2 q6_B2 q7_B2 q8_B2 qf_B2 ql_B2
  refine (heldGame_any X _ _ _ _ 1 _ lX lY (by omega) (by omega) O1.irow1 O1.irow2).mono ?_
  rintro e w14 ⟨rfl, hb14⟩
  replace BV := BV.below hb14
  replace O0 := O0.below hb14
  replace B0 := B0.below hb14
  replace O1 := O1.below hb14
  replace B1 := B1.below hb14
  replace O2 := O2.below hb14
  replace B2 := B2.below hb14
  have hz14 := hb14.size
  replace hb := chain hb hb14
  clear hb14
  obtain ⟨q0_BV, q1_BV, q2_BV, q3_BV, qf_BV, ql_BV⟩ := BV.four
  obtain ⟨q0_B0, q1_B0, q2_B0, q3_B0, q4_B0, q5_B0, q6_B0, q7_B0, q8_B0, qf_B0, ql_B0⟩ := B0.nine
  obtain ⟨q0_B1, q1_B1, q2_B1, q3_B1, q4_B1, q5_B1, q6_B1, q7_B1, q8_B1, qf_B1, ql_B1⟩ := B1.nine
  obtain ⟨q0_B2, q1_B2, q2_B2, q3_B2, q4_B2, q5_B2, q6_B2, q7_B2, q8_B2, qf_B2, ql_B2⟩ := B2.nine
  go_wp2_with fail
  go_ret
  exact ⟨rfl, hb⟩
set_option maxRecDepth 100000 in
theorem fnExactNewGame_lifted (os : Os) (started : os.Started) (H : Type) (enc : TypeId × Value → H) :
    ReturnsInHanded {} Try.checked os 4 .any (Rows.fnExactNewGameSpec.pre6 enc Try.prog Try.f4 Rows.fnExactNewGameRow.domain false) (Rows.fnExactNewGameSpec.post enc Try.prog Try.f4 false true false false) := by
  refine returnsInHanded_of_change (C := Try.checked) own started (by kernel_rfl) Try.func4
    (ChangeSpec.witness6 (enc := enc) (C := Try.checked) false ⟨#[], #[.agg #[.int .i64 0, .int .i64 0, .int .i64 0, .int .i64 0]], []⟩ 8 (by kernel_rfl) (by kernel_rfl) (by kernel_rfl) (by kernel_rfl)) ?_
  intro W base args ds gs before hval0 hW hcnd _
  have hval : ∀ (j : Nat) t v, Try.f4.params[j]? = some t → args[j]? = some v → Value.okWide Try.prog W .any base t v := hval0
  have hW' := hW
  obtain ⟨p, q, hA0, hV, rfl, hfz, hnd⟩ := hW
  have hA : DataW.TrodAll enc Try.prog W 0 (fun _ => true) true Try.f4.params.toList args.toList ds p := hA0
  rw [Try.params4] at hA hval
  obtain ⟨v0, vs0, d0, ds0, p0, q0, hargs, rfl, rfl, h0, r0⟩ := trodAll_cons hA
  obtain ⟨rfl, rfl, rfl⟩ := trodAll_nil r0
  obtain rfl : args = #[v0] := by cases args; simp_all
  obtain ⟨rfl, rfl⟩ := trodVars_none hV
  have k0 := h0
  have lt0 : ∀ x ∈ p0, x.block < W.heap.size := by obtain ⟨m, hm⟩ := k0; exact DataW.trod_lt m _ _ _ hm
  obtain ⟨x0_0, x1_0, x2_0, x3_0, y0_0, y1_0, y2_0, y3_0, m_0, rfl, _, _, hy0_0, hy1_0, hy2_0, hy3_0⟩ := Joins.open_agg4 Try.underlying23 (by kernel_rfl) (show Try.prog.cellsOf 23 = 4 by kernel_rfl) (hval 0 23 v0 rfl rfl) h0
  obtain ⟨a0_0, e0_0, _, wa0_0⟩ := DataW.trod_int Try.underlying2 hy0_0
  obtain ⟨a1_0, e1_0, _, wa1_0⟩ := DataW.trod_int Try.underlying2 hy1_0
  obtain ⟨a2_0, e2_0, _, wa2_0⟩ := DataW.trod_int Try.underlying2 hy2_0
  obtain ⟨a3_0, e3_0, _, wa3_0⟩ := DataW.trod_int Try.underlying2 hy3_0
  simp at e0_0 e1_0 e2_0 e3_0
  subst e0_0 e1_0 e2_0 e3_0
  clear hA0 hval0
  refine (fnExactNewGame_walk a0_0 a1_0 a2_0 a3_0 W).mono fun e W' ⟨he, bel⟩ => ?_
  subst he
  exact ⟨_, rfl, _, _, _, [], _, [], hW', trodAll_mk1 (shut_bool Try.underlying4 _), (trodAll_cons_mk (Below.trod laidOut (by kernel_rfl) (of_decide_eq_true (by kernel_rfl)) k0 bel lt0) trodAll_mk0), rfl, bel.frame _, fun h => by cases h⟩
theorem fnExactNewGame_holds : Rows.FnExactNewGameSaid :=
  OpenClaim.holds_of_wide 4 Try.f4 rfl rfl rfl rfl rfl rfl rfl ⟨rfl, rfl, rfl, rfl, rfl⟩ rfl rfl rfl rfl rfl (by kernel_rfl) Try.func4 (by kernel_rfl)
    (of_decide_eq_true (by kernel_rfl)) (by unfold Func.isWrapper; first | (rw [if_pos (by decide +kernel)]; kernel_rfl) | (rw [if_neg (by decide +kernel)]; exact ⟨rfl, rfl⟩))
    (fun os started H enc _ => fnExactNewGame_lifted os started H enc)
end Go.Proofs.Ythfmackfkdbhhaa
