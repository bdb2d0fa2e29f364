/- The exact law of chapter 12 on RollChances holds: for every input the law returns true and its arguments read behind the call as they read before. No conditions. -/
import Derived.Test.YtlnljfbdicgkcaaGreatV32
import Derived.Test.YtlnljfbdicgkcaaGreatV36
import Derived.Test.YtlnljfbdicgkcaaGreatV28
import Derived.Test.YtlnljfbdicgkcaaGreatV04
import Derived.Test.YtlnljfbdicgkcaaGreatRows
import Derived.ChangeOld
namespace Go.Proofs.YtlnljfbdicgkcaaGreat
open Go.ChangeMaps (open_string shut_string)
open Go.ChangeShapes Go.WideShapes Go.ChangeAt Go.RowKit
set_option linter.unusedVariables false
set_option linter.unusedSimpArgs false
set_option maxRecDepth 4000
theorem rlcV_len (p c h s : Int) (bs ds : List Int) : (rlcV p c h s bs ds).1.length ≤ 1048576 := by
  unfold rlcV
  split
  · rename_i k0
    obtain ⟨S, rfl, hS, hxp, hyp, hcn, few⟩ := rc_ready (rcE_zero (ocE_zero k0).1).1
    rw [Int.toNat_natCast]
    unfold xsV
    split
    · dsimp only
      rw [xsL, List.length_map, rlO, List.length_map]
      have := rollsTo_length S
      have := Nat.mul_le_mul hS.2 hS.2
      omega
    · simp
  · simp
theorem fnExactRollChances_both (p c h s : Int) (bs ds : List Int) : ∃ (zs : List Rl) (r : Int), zs.length ≤ 1048576 ∧ (∀ (a b : Option Addr) (n m c1 c2 : Nat) (w : World), bs.length = n → ds.length = m → n ≤ 1048576 → m ≤ 1048576 → n ≤ c1 → m ≤ c2 → IRow w a bs → IRow w b ds → Calls Tryz.prog 14 #[.agg #[.int .i64 p, .int .i64 c, .int .i64 h, .int .i64 s], .slice a n c1, .slice b m c2] w (XGot (zs, r) w)) ∧ (∀ (a b : Option Addr) (n m c1 c2 : Nat) (w : World), bs.length = n → ds.length = m → n ≤ 1048576 → m ≤ 1048576 → n ≤ c1 → m ≤ c2 → IRow w a bs → IRow w b ds → Calls Tryz.prog 13 #[.agg #[.int .i64 p, .int .i64 c, .int .i64 h, .int .i64 s], .slice a n c1, .slice b m c2] w (XGot (zs, r) w)) :=
  ⟨(rlcV p c h s bs ds).1, (rlcV p c h s bs ds).2, rlcV_len p c h s bs ds, fun a b n m c1 c2 w h1 h2 l1 l2 k1 k2 r1 r2 => specRollChances_any p c h s a b n m c1 c2 bs ds w h1 h2 l1 l2 k1 k2 r1 r2, fun a b n m c1 c2 w h1 h2 l1 l2 k1 k2 r1 r2 => rollChances_any p c h s a b n m c1 c2 bs ds w h1 h2 l1 l2 r1 r2⟩
set_option maxRecDepth 8000 in
set_option maxHeartbeats 4000000 in
theorem fnExactRollChances_walk (p c h s : Int) (a : Option Addr) (n cap : Nat) (bs : List Int) (a2 : Option Addr) (n2 cap2 : Nat) (ds : List Int) (w : World) (hn : bs.length = n) (hm : n ≤ 9223372036854775807) (hr : IRow w a bs) (hn2 : ds.length = n2) (hm2 : n2 ≤ 9223372036854775807) (hr2 : IRow w a2 ds) :
    Calls Tryz.prog 6 #[.agg #[.int .i64 p, .int .i64 c, .int .i64 h, .int .i64 s], .slice a n cap, .slice a2 n2 cap2] w fun e w' => e = .returned (.bool true) ∧ Below w.heap.size w w' := by
  have BV := Blk.new w #[.int .i64 p, .int .i64 c, .int .i64 h, .int .i64 s] 52
  have hb : Below w.heap.size w (w.alloc (.cells #[.int .i64 p, .int .i64 c, .int .i64 h, .int .i64 s] 52)) := (Below.refl _ _).alloc (Nat.le_refl _) _
  have hz0 := BV.lt
  by_cases hle : n ≤ 1048576
  · have hle' : (n : Int) ≤ 1048576 := by omega
    by_cases hle2 : n2 ≤ 1048576
    · have hle2' : (n2 : Int) ≤ 1048576 := by omega
      obtain ⟨zs, r, lX, hsp, him⟩ := fnExactRollChances_both p c h s bs ds
      have hsp2 := hsp
      unfold XGot at hsp2 him
      dsimp only at hsp2 him
      have HSP := Lib.hid hsp2
      have HIM := Lib.hid him
      clear hsp hsp2 him
      subst hn hn2
      have h80b : decide ((1048576 : Int) < (bs.length : Int)) = false := by rw [decide_eq_false_iff_not]; omega
      have h80c : decide (1048576 < bs.length) = false := by rw [decide_eq_false_iff_not]; omega
      have h81b : decide ((1048576 : Int) < (ds.length : Int)) = false := by rw [decide_eq_false_iff_not]; omega
      have h81c : decide (1048576 < ds.length) = false := by rw [decide_eq_false_iff_not]; omega
      obtain ⟨x0, x1, x2, x3, xf, xl⟩ := BV.four
      go_enter Tryz.func6, Tryz.ntmps6
      go_wp2_with fail
      clear h80b h80c h81b h81c
      clear x0 x1 x2 x3 xf xl
      generalize (w.alloc (.cells #[.int .i64 p, .int .i64 c, .int .i64 h, .int .i64 s] 52)) = v0 at *
      obtain ⟨q0_BV, q1_BV, q2_BV, q3_BV, qf_BV, ql_BV⟩ := BV.four
      go_wp2_with fail
      clear q0_BV q1_BV q2_BV q3_BV qf_BV ql_BV
      refine (toVariant_any _ _ _ _ _).mono ?_
      rintro e w1 ⟨rfl, hb1⟩
      replace BV := BV.below hb1
      have hz1 := hb1.size
      replace hb := chain hb hb1
      clear hb1
      obtain ⟨q0_BV, q1_BV, q2_BV, q3_BV, qf_BV, ql_BV⟩ := BV.four
      go_wp2_with fail
      clear q0_BV q1_BV q2_BV q3_BV qf_BV ql_BV
      refine (toInt64S_any a _ cap bs _ rfl hle (hr.below hb)).mono ?_
      rintro e w2 ⟨g1, rfl, hg1, R1, hb2⟩
      replace BV := BV.below hb2
      have hz2 := hb2.size
      replace hb := chain hb hb2
      clear hb2
      obtain ⟨q0_BV, q1_BV, q2_BV, q3_BV, qf_BV, ql_BV⟩ := BV.four
      go_wp2_with fail
      clear q0_BV q1_BV q2_BV q3_BV qf_BV ql_BV
      refine (toInt64S_any a2 _ cap2 ds _ rfl hle2 (hr2.below hb)).mono ?_
      rintro e w3 ⟨g0, rfl, hg0, R0, hb3⟩
      replace BV := BV.below hb3
      replace R1 := R1.below hb3
      have hz3 := hb3.size
      replace hb := chain hb hb3
      clear hb3
      obtain ⟨q0_BV, q1_BV, q2_BV, q3_BV, qf_BV, ql_BV⟩ := BV.four
      go_wp2_with fail
      clear q0_BV q1_BV q2_BV q3_BV qf_BV ql_BV
      refine (HSP.out _ _ _ _ _ _ _ rfl rfl hle hle2 (Nat.le_refl _) (Nat.le_refl _) R1.irow R0.irow).mono ?_
      rintro e w4 ⟨a0, k0, rfl, O0, hb4⟩
      replace BV := BV.below hb4
      replace R1 := R1.below hb4
      replace R0 := R0.below hb4
      have hz4 := hb4.size
      replace hb := chain hb hb4
      clear hb4
      clear R1 hg1 R0 hg0
      obtain ⟨q0_BV, q1_BV, q2_BV, q3_BV, qf_BV, ql_BV⟩ := BV.four
      go_wp2_with fail
      clear q0_BV q1_BV q2_BV q3_BV qf_BV ql_BV
      refine (toInt64S_any a _ cap bs _ rfl hle (hr.below hb)).mono ?_
      rintro e w5 ⟨g2, rfl, hg2, R2, hb5⟩
      replace BV := BV.below hb5
      replace O0 := O0.below hb5
      have hz5 := hb5.size
      replace hb := chain hb hb5
      clear hb5
      have X1 : OSl w4.heap.size w5.heap.size w5 (some ⟨g2, 0, none⟩) bs := .inr ⟨g2, rfl, hg2, R2.lt, R2⟩
      clear R2 hg2
      obtain ⟨q0_BV, q1_BV, q2_BV, q3_BV, qf_BV, ql_BV⟩ := BV.four
      go_wp2_with fail
      clear q0_BV q1_BV q2_BV q3_BV qf_BV ql_BV
      refine (toInt64S_any a2 _ cap2 ds _ rfl hle2 (hr2.below hb)).mono ?_
      rintro e w6 ⟨g3, rfl, hg3, R3, hb6⟩
      replace BV := BV.below hb6
      replace O0 := O0.below hb6
      replace X1 := X1.below hb6
      have hz6 := hb6.size
      replace hb := chain hb hb6
      clear hb6
      have X2 : OSl w5.heap.size w6.heap.size w6 (some ⟨g3, 0, none⟩) ds := .inr ⟨g3, rfl, hg3, R3.lt, R3⟩
      clear R3 hg3
      obtain ⟨q0_BV, q1_BV, q2_BV, q3_BV, qf_BV, ql_BV⟩ := BV.four
      go_wp2_with fail
      clear q0_BV q1_BV q2_BV q3_BV qf_BV ql_BV
      refine (toVariant_any _ _ _ _ _).mono ?_
      rintro e w7 ⟨rfl, hb7⟩
      replace BV := BV.below hb7
      replace O0 := O0.below hb7
      replace X1 := X1.below hb7
      replace X2 := X2.below hb7
      have hz7 := hb7.size
      replace hb := chain hb hb7
      clear hb7
      obtain ⟨q0_BV, q1_BV, q2_BV, q3_BV, qf_BV, ql_BV⟩ := BV.four
      go_wp2_with fail
      clear q0_BV q1_BV q2_BV q3_BV qf_BV ql_BV
      refine (HIM.out _ _ _ _ _ _ _ rfl rfl hle hle2 (Nat.le_refl _) (Nat.le_refl _) X1.irow X2.irow).mono ?_
      rintro e w8 ⟨aa, ka, rfl, O1, hb8⟩
      replace BV := BV.below hb8
      replace O0 := O0.below hb8
      replace X1 := X1.below hb8
      replace X2 := X2.below hb8
      have hz8 := hb8.size
      replace hb := chain hb hb8
      clear hb8
      obtain ⟨q0_BV, q1_BV, q2_BV, q3_BV, qf_BV, ql_BV⟩ := BV.four
      go_wp2_with fail
      clear q0_BV q1_BV q2_BV q3_BV qf_BV ql_BV
      refine (eqXl_same _ _ _ _ _ _ zs.length _ _ zs _ rfl lX O1 O0).mono ?_
      rintro e w9 ⟨rfl, hb9⟩
      replace BV := BV.below hb9
      replace O0 := O0.below hb9
      replace X1 := X1.below hb9
      replace X2 := X2.below hb9
      replace O1 := O1.below hb9
      have hz9 := hb9.size
      replace hb := chain hb hb9
      clear hb9
      obtain ⟨q0_BV, q1_BV, q2_BV, q3_BV, qf_BV, ql_BV⟩ := BV.four
      go_wp2_with fail
      clear q0_BV q1_BV q2_BV q3_BV qf_BV ql_BV
      refine (toInt64S_any a _ cap bs _ rfl hle (hr.below hb)).mono ?_
      rintro e w10 ⟨g4, rfl, hg4, R4, hb10⟩
      replace BV := BV.below hb10
      replace O0 := O0.below hb10
      replace X1 := X1.below hb10
      replace X2 := X2.below hb10
      replace O1 := O1.below hb10
      have hz10 := hb10.size
      replace hb := chain hb hb10
      clear hb10
      obtain ⟨q0_BV, q1_BV, q2_BV, q3_BV, qf_BV, ql_BV⟩ := BV.four
      go_wp2_with fail
      clear q0_BV q1_BV q2_BV q3_BV qf_BV ql_BV
      refine (eqInt64S_same _ _ _ _ _ bs _ rfl hle X1.irow R4.irow).mono ?_
      rintro e w11 ⟨rfl, hb11⟩
      replace BV := BV.below hb11
      replace O0 := O0.below hb11
      replace X1 := X1.below hb11
      replace X2 := X2.below hb11
      replace O1 := O1.below hb11
      replace R4 := R4.below hb11
      have hz11 := hb11.size
      replace hb := chain hb hb11
      clear hb11
      clear R4 hg4
      obtain ⟨q0_BV, q1_BV, q2_BV, q3_BV, qf_BV, ql_BV⟩ := BV.four
      go_wp2_with fail
      clear q0_BV q1_BV q2_BV q3_BV qf_BV ql_BV
      refine (toInt64S_any a2 _ cap2 ds _ rfl hle2 (hr2.below hb)).mono ?_
      rintro e w12 ⟨g5, rfl, hg5, R5, hb12⟩
      replace BV := BV.below hb12
      replace O0 := O0.below hb12
      replace X1 := X1.below hb12
      replace X2 := X2.below hb12
      replace O1 := O1.below hb12
      have hz12 := hb12.size
      replace hb := chain hb hb12
      clear hb12
      obtain ⟨q0_BV, q1_BV, q2_BV, q3_BV, qf_BV, ql_BV⟩ := BV.four
      go_wp2_with fail
      clear q0_BV q1_BV q2_BV q3_BV qf_BV ql_BV
      refine (eqInt64S_same _ _ _ _ _ ds _ rfl hle2 X2.irow R5.irow).mono ?_
      rintro e w13 ⟨rfl, hb13⟩
      replace BV := BV.below hb13
      replace O0 := O0.below hb13
      replace X1 := X1.below hb13
      replace X2 := X2.below hb13
      replace O1 := O1.below hb13
      replace R5 := R5.below hb13
      have hz13 := hb13.size
      replace hb := chain hb hb13
      clear hb13
      clear R5 hg5
      obtain ⟨q0_BV, q1_BV, q2_BV, q3_BV, qf_BV, ql_BV⟩ := BV.four
      go_wp2_with fail
      clear q0_BV q1_BV q2_BV q3_BV qf_BV ql_BV
      refine (markS_own _ _ _ _ _ bs 1 _ rfl hle (by omega) (by omega) X1).mono ?_
      rintro e w14 ⟨rfl, X1, hs14⟩
      replace BV := BV.same hs14 (by omega)
      replace O0 := O0.same hs14 (by omega)
      replace X2 := X2.same hs14 (by omega)
      replace O1 := O1.same hs14 (by omega)
      have hz14 := hs14.size
      replace hb := below_same hb hs14 (by omega) (by omega)
      clear hs14
      obtain ⟨q0_BV, q1_BV, q2_BV, q3_BV, qf_BV, ql_BV⟩ := BV.four
      go_wp2_with fail
      clear q0_BV q1_BV q2_BV q3_BV qf_BV ql_BV
      refine (markS_own _ _ _ _ _ ds _ _ rfl hle2 (by omega) (by omega) X2).mono ?_
      rintro e w15 ⟨rfl, X2, hs15⟩
      replace BV := BV.same hs15 (by omega)
      replace O0 := O0.same hs15 (by omega)
      replace X1 := X1.same hs15 (by omega)
      replace O1 := O1.same hs15 (by omega)
      have hz15 := hs15.size
      replace hb := below_same hb hs15 (by omega) (by omega)
      clear hs15
      have hk0 : ¬ ((1 : Int) + (bs.length : Int) + (ds.length : Int) < 0) := by omega
      have hq0 : ¬ ((1 : Int) + 2 * (zs.length : Int) < 0) := by omega
      obtain ⟨q0_BV, q1_BV, q2_BV, q3_BV, qf_BV, ql_BV⟩ := BV.four
      go_wp2_with fail
      clear q0_BV q1_BV q2_BV q3_BV qf_BV ql_BV
      refine (eqXl_same _ _ _ _ _ _ zs.length _ _ zs _ rfl lX O1 O0).mono ?_
      rintro e w16 ⟨rfl, hb16⟩
      replace BV := BV.below hb16
      replace O0 := O0.below hb16
      replace X1 := X1.below hb16
      replace X2 := X2.below hb16
      replace O1 := O1.below hb16
      have hz16 := hb16.size
      replace hb := chain hb hb16
      clear hb16
      obtain ⟨q0_BV, q1_BV, q2_BV, q3_BV, qf_BV, ql_BV⟩ := BV.four
      go_wp2_with fail
      clear q0_BV q1_BV q2_BV q3_BV qf_BV ql_BV
      refine (markXl_own _ _ _ _ _ zs 1 _ rfl lX (by omega) (by omega) O1).mono ?_
      rintro e w17 ⟨rfl, O1, hs17⟩
      replace BV := BV.same hs17 (by omega)
      replace O0 := O0.same hs17 (by omega)
      replace X1 := X1.same hs17 (by omega)
      replace X2 := X2.same hs17 (by omega)
      have hz17 := hs17.size
      replace hb := below_same hb hs17 (by omega) (by omega)
      clear hs17
      obtain ⟨q0_BV, q1_BV, q2_BV, q3_BV, qf_BV, ql_BV⟩ := BV.four
      go_wp2_with fail
      clear q0_BV q1_BV q2_BV q3_BV qf_BV ql_BV
      refine (heldXl_any _ _ _ zs.length _ 1 _ lX (by omega) (by omega) O1).mono ?_
      rintro e wq ⟨rfl, rfl⟩
      obtain ⟨q0_BV, q1_BV, q2_BV, q3_BV, qf_BV, ql_BV⟩ := BV.four
      go_wp2_with fail
      clear q0_BV q1_BV q2_BV q3_BV qf_BV ql_BV
      refine (toVariant_any _ _ _ _ _).mono ?_
      rintro e w18 ⟨rfl, hb18⟩
      replace BV := BV.below hb18
      replace O0 := O0.below hb18
      replace X1 := X1.below hb18
      replace X2 := X2.below hb18
      replace O1 := O1.below hb18
      have hz18 := hb18.size
      replace hb := chain hb hb18
      clear hb18
      obtain ⟨q0_BV, q1_BV, q2_BV, q3_BV, qf_BV, ql_BV⟩ := BV.four
      go_wp2_with fail
      clear q0_BV q1_BV q2_BV q3_BV qf_BV ql_BV
      refine (toInt64S_any a _ cap bs _ rfl hle (hr.below hb)).mono ?_
      rintro e w19 ⟨g6, rfl, hg6, R6, hb19⟩
      replace BV := BV.below hb19
      replace O0 := O0.below hb19
      replace X1 := X1.below hb19
      replace X2 := X2.below hb19
      replace O1 := O1.below hb19
      have hz19 := hb19.size
      replace hb := chain hb hb19
      clear hb19
      obtain ⟨q0_BV, q1_BV, q2_BV, q3_BV, qf_BV, ql_BV⟩ := BV.four
      go_wp2_with fail
      clear q0_BV q1_BV q2_BV q3_BV qf_BV ql_BV
      refine (toInt64S_any a2 _ cap2 ds _ rfl hle2 (hr2.below hb)).mono ?_
      rintro e w20 ⟨g7, rfl, hg7, R7, hb20⟩
      replace BV := BV.below hb20
      replace O0 := O0.below hb20
      replace X1 := X1.below hb20
      replace X2 := X2.below hb20
      replace O1 := O1.below hb20
      replace R6 := R6.below hb20
      have hz20 := hb20.size
      replace hb := chain hb hb20
      clear hb20
      obtain ⟨q0_BV, q1_BV, q2_BV, q3_BV, qf_BV, ql_BV⟩ := BV.four
      go_wp2_with fail
      clear q0_BV q1_BV q2_BV q3_BV qf_BV ql_BV
      refine (HIM.out _ _ _ _ _ _ _ rfl rfl hle hle2 (Nat.le_refl _) (Nat.le_refl _) R6.irow R7.irow).mono ?_
      rintro e w21 ⟨ab, kb, rfl, O2, hb21⟩
      replace BV := BV.below hb21
      replace O0 := O0.below hb21
      replace X1 := X1.below hb21
      replace X2 := X2.below hb21
      replace O1 := O1.below hb21
      replace R6 := R6.below hb21
      replace R7 := R7.below hb21
      have hz21 := hb21.size
      replace hb := chain hb hb21
      clear hb21
      clear R6 hg6 R7 hg7
      obtain ⟨q0_BV, q1_BV, q2_BV, q3_BV, qf_BV, ql_BV⟩ := BV.four
      go_wp2_with fail
      clear q0_BV q1_BV q2_BV q3_BV qf_BV ql_BV
      refine (eqXl_same _ _ _ _ _ _ zs.length _ _ zs _ rfl lX O2 O0).mono ?_
      rintro e w22 ⟨rfl, hb22⟩
      replace BV := BV.below hb22
      replace O0 := O0.below hb22
      replace X1 := X1.below hb22
      replace X2 := X2.below hb22
      replace O1 := O1.below hb22
      replace O2 := O2.below hb22
      have hz22 := hb22.size
      replace hb := chain hb hb22
      clear hb22
      obtain ⟨q0_BV, q1_BV, q2_BV, q3_BV, qf_BV, ql_BV⟩ := BV.four
      go_wp2_with fail
      clear q0_BV q1_BV q2_BV q3_BV qf_BV ql_BV
      refine (heldXl_any _ _ _ zs.length _ 1 _ lX (by omega) (by omega) O1).mono ?_
      rintro e wq ⟨rfl, rfl⟩
      obtain ⟨q0_BV, q1_BV, q2_BV, q3_BV, qf_BV, ql_BV⟩ := BV.four
      go_wp2_with fail
      go_ret
      exact ⟨rfl, hb⟩
    · have hle2' : ¬ (n2 : Int) ≤ 1048576 := by omega
      go_enter Tryz.func6, Tryz.ntmps6
      go_wp2_with fail
      go_ret
      exact ⟨rfl, hb⟩
  · have hle' : ¬ (n : Int) ≤ 1048576 := by omega
    go_enter Tryz.func6, Tryz.ntmps6
    go_wp2_with fail
    go_ret
    exact ⟨rfl, hb⟩
set_option maxRecDepth 100000 in
theorem fnExactRollChances_lifted (os : Os) (started : os.Started) (H : Type) (enc : TypeId × Value → H) :
    ReturnsInHanded {} Tryz.checked os 6 .any (Rows.fnExactRollChancesSpec.pre6 enc Tryz.prog Tryz.f6 Rows.fnExactRollChancesRow.domain false) (Rows.fnExactRollChancesSpec.post enc Tryz.prog Tryz.f6 false true false false) := by
  refine returnsInHanded_of_change (C := Tryz.checked) own started (by kernel_rfl) Tryz.func6
    (ChangeSpec.witness6 (enc := enc) (C := Tryz.checked) false ⟨#[], #[.agg #[.int .i64 0, .int .i64 0, .int .i64 0, .int .i64 0], .slice none 0 0, .slice none 0 0], []⟩ 8 (by kernel_rfl) (by kernel_rfl) (by kernel_rfl) (by kernel_rfl)) ?_
  intro W base args ds gs before hval0 hW hcnd _
  have hval : ∀ (j : Nat) t v, Tryz.f6.params[j]? = some t → args[j]? = some v → Value.okWide Tryz.prog W .any base t v := hval0
  have hW' := hW
  obtain ⟨p, q, hA0, hV, rfl, hfz, hnd⟩ := hW
  have hA : DataW.TrodAll enc Tryz.prog W 0 (fun _ => true) true Tryz.f6.params.toList args.toList ds p := hA0
  rw [Tryz.params6] at hA hval
  obtain ⟨v0, vs0, d0, ds0, p0, q0, hargs, rfl, rfl, h0, r0⟩ := trodAll_cons hA
  obtain ⟨v1, vs1, d1, ds1, p1, q1, rfl, rfl, rfl, h1, r1⟩ := trodAll_cons r0
  obtain ⟨v2, vs2, d2, ds2, p2, q2, rfl, rfl, rfl, h2, r2⟩ := trodAll_cons r1
  obtain ⟨rfl, rfl, rfl⟩ := trodAll_nil r2
  obtain rfl : args = #[v0, v1, v2] := by cases args; simp_all
  obtain ⟨rfl, rfl⟩ := trodVars_none hV
  have k0 := h0
  have lt0 : ∀ x ∈ p0, x.block < W.heap.size := by obtain ⟨m, hm⟩ := k0; exact DataW.trod_lt m _ _ _ hm
  have k1 := h1
  have lt1 : ∀ x ∈ p1, x.block < W.heap.size := by obtain ⟨m, hm⟩ := k1; exact DataW.trod_lt m _ _ _ hm
  have k2 := h2
  have lt2 : ∀ x ∈ p2, x.block < W.heap.size := by obtain ⟨m, hm⟩ := k2; exact DataW.trod_lt m _ _ _ hm
  obtain ⟨x0_0, x1_0, x2_0, x3_0, y0_0, y1_0, y2_0, y3_0, m_0, rfl, _, _, hy0_0, hy1_0, hy2_0, hy3_0⟩ := Joins.open_agg4 Tryz.underlying52 (by kernel_rfl) (show Tryz.prog.cellsOf 52 = 4 by kernel_rfl) (hval 0 52 v0 rfl rfl) h0
  obtain ⟨a0_0, e0_0, _, wa0_0⟩ := DataW.trod_int Tryz.underlying2 hy0_0
  obtain ⟨a1_0, e1_0, _, wa1_0⟩ := DataW.trod_int Tryz.underlying2 hy1_0
  obtain ⟨a2_0, e2_0, _, wa2_0⟩ := DataW.trod_int Tryz.underlying2 hy2_0
  obtain ⟨a3_0, e3_0, _, wa3_0⟩ := DataW.trod_int Tryz.underlying2 hy3_0
  simp at e0_0 e1_0 e2_0 e3_0
  subst e0_0 e1_0 e2_0 e3_0
  obtain ⟨sa_1, sl_1, sc_1, rfl⟩ := okWide_slice Tryz.underlying26 (hval 1 26 v1 rfl rfl)
  obtain ⟨ra_1, rn_1, rc_1, rx_1, hv_1, rl_1, rm_1, rr_1, rw_1⟩ : ∃ (a : Option Addr) (n cap : Nat) (xs : List Int), Value.slice sa_1 sl_1 sc_1 = .slice a n cap ∧ xs.length = n ∧ n ≤ 9223372036854775807 ∧ IRow W a xs ∧ ∀ y ∈ xs, (Lit.int .i64 y).wf = true := by
    obtain ⟨fuel, hf⟩ := h1
    exact open_row hf
  simp only [Value.slice.injEq] at hv_1
  obtain ⟨rfl, rfl, rfl⟩ := hv_1
  obtain ⟨sa_2, sl_2, sc_2, rfl⟩ := okWide_slice Tryz.underlying26 (hval 2 26 v2 rfl rfl)
  obtain ⟨ra_2, rn_2, rc_2, rx_2, hv_2, rl_2, rm_2, rr_2, rw_2⟩ : ∃ (a : Option Addr) (n cap : Nat) (xs : List Int), Value.slice sa_2 sl_2 sc_2 = .slice a n cap ∧ xs.length = n ∧ n ≤ 9223372036854775807 ∧ IRow W a xs ∧ ∀ y ∈ xs, (Lit.int .i64 y).wf = true := by
    obtain ⟨fuel, hf⟩ := h2
    exact open_row hf
  simp only [Value.slice.injEq] at hv_2
  obtain ⟨rfl, rfl, rfl⟩ := hv_2
  clear hA0 hval0
  refine (fnExactRollChances_walk a0_0 a1_0 a2_0 a3_0 sa_1 sl_1 sc_1 rx_1 sa_2 sl_2 sc_2 rx_2 W rl_1 rm_1 rr_1 rl_2 rm_2 rr_2).mono fun e W' ⟨he, bel⟩ => ?_
  subst he
  exact ⟨_, rfl, _, _, _, [], _, [], hW', trodAll_mk1 (shut_bool Tryz.underlying4 _), (trodAll_cons_mk (Below.trod laidOut (by kernel_rfl) (of_decide_eq_true (by kernel_rfl)) k0 bel lt0) (trodAll_cons_mk (Below.trod laidOut (by kernel_rfl) (of_decide_eq_true (by kernel_rfl)) k1 bel lt1) (trodAll_cons_mk (Below.trod laidOut (by kernel_rfl) (of_decide_eq_true (by kernel_rfl)) k2 bel lt2) trodAll_mk0))), rfl, bel.frame _, fun h => by cases h⟩
theorem fnExactRollChances_holds : Rows.FnExactRollChancesSaid :=
  OpenClaim.holds_of_wide 6 Tryz.f6 rfl rfl rfl rfl rfl rfl rfl ⟨rfl, rfl, rfl, rfl, rfl⟩ rfl rfl rfl rfl rfl (by kernel_rfl) Tryz.func6 (by kernel_rfl)
    (of_decide_eq_true (by kernel_rfl)) (by unfold Func.isWrapper; first | (rw [if_pos (by decide +kernel)]; kernel_rfl) | (rw [if_neg (by decide +kernel)]; exact ⟨rfl, rfl⟩))
    (fun os started H enc _ => fnExactRollChances_lifted os started H enc)
end Go.Proofs.YtlnljfbdicgkcaaGreat
