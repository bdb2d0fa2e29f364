/- The exact law of chapter 12 on ResultChances holds: for every input the law returns true and its arguments read behind the call as they read before. No conditions. -/
import Derived.Test.YtlnljfbdicgkcaaGreatV32
import Derived.Test.YtlnljfbdicgkcaaGreatV34
import Derived.Test.YtlnljfbdicgkcaaGreatV28
import Derived.Test.YtlnljfbdicgkcaaGreatV04
import Derived.Test.YtlnljfbdicgkcaaGreatRows
import Derived.ChangeOld
namespace Go.Proofs.YtlnljfbdicgkcaaGreat
open Go.ChangeMaps (open_string shut_string)
open Go.ChangeShapes Go.WideShapes Go.ChangeAt Go.RowKit
set_option linter.unusedVariables false
set_option linter.unusedSimpArgs false
set_option maxRecDepth 4000
theorem rcV_len (p c h s : Int) (bs ds : List Int) (ra rb : Int) : (rcV p c h s bs ds ra rb).1.length ≤ 1048576 := by
  unfold rcV
  split
  · rename_i k0
    obtain ⟨kO, hrl⟩ := tnE_zero k0
    obtain ⟨S, rfl, hS, hxp, hyp, hcn, few⟩ := rc_ready (rcE_zero (ocE_zero kO).1).1
    have hr : 1 ≤ rb ∧ rb ≤ ra ∧ ra ≤ 6 := by
      simp only [rlB, inB, Bool.and_eq_true, decide_eq_true_eq] at hrl
      omega
    rw [Int.toNat_natCast]
    unfold xsV
    split
    · dsimp only
      rw [xsL, List.length_map, rcO, List.length_map]
      obtain ⟨p1, p2, p3, p4, -⟩ := hxp.po
      have := resI_len p2 p3 p1 hr.1 hr.2.1 hr.2.2
      omega
    · simp
  · simp
theorem fnExactResultChances_both (p c h s : Int) (bs ds : List Int) (ra rb : Int) : ∃ (zs : List Rl) (r : Int), zs.length ≤ 1048576 ∧ (∀ (a b : Option Addr) (n m c1 c2 : Nat) (w : World), bs.length = n → ds.length = m → n ≤ 1048576 → m ≤ 1048576 → n ≤ c1 → m ≤ c2 → IRow w a bs → IRow w b ds → Calls Tryz.prog 37 #[.agg #[.int .i64 p, .int .i64 c, .int .i64 h, .int .i64 s], .slice a n c1, .slice b m c2, .agg #[.int .i64 ra, .int .i64 rb]] w (XGot (zs, r) w)) ∧ (∀ (a b : Option Addr) (n m c1 c2 : Nat) (w : World), bs.length = n → ds.length = m → n ≤ 1048576 → m ≤ 1048576 → n ≤ c1 → m ≤ c2 → IRow w a bs → IRow w b ds → Calls Tryz.prog 25 #[.agg #[.int .i64 p, .int .i64 c, .int .i64 h, .int .i64 s], .slice a n c1, .slice b m c2, .agg #[.int .i64 ra, .int .i64 rb]] w (XGot (zs, r) w)) :=
  ⟨(rcV p c h s bs ds ra rb).1, (rcV p c h s bs ds ra rb).2, rcV_len p c h s bs ds ra rb, fun a b n m c1 c2 w h1 h2 l1 l2 k1 k2 r1 r2 => specResultChances_any p c h s a b n m c1 c2 bs ds ra rb w h1 h2 l1 l2 k1 k2 r1 r2, fun a b n m c1 c2 w h1 h2 l1 l2 k1 k2 r1 r2 => resultChances_any p c h s a b n m c1 c2 bs ds ra rb w h1 h2 l1 l2 r1 r2⟩
set_option maxRecDepth 8000 in
set_option maxHeartbeats 4000000 in
theorem fnExactResultChances_walk (p c h s : Int) (a : Option Addr) (n cap : Nat) (bs : List Int) (a2 : Option Addr) (n2 cap2 : Nat) (ds : List Int) (ra rb : Int) (w : World) (hn : bs.length = n) (hm : n ≤ 9223372036854775807) (hr : IRow w a bs) (hn2 : ds.length = n2) (hm2 : n2 ≤ 9223372036854775807) (hr2 : IRow w a2 ds) :
    Calls Tryz.prog 8 #[.agg #[.int .i64 p, .int .i64 c, .int .i64 h, .int .i64 s], .slice a n cap, .slice a2 n2 cap2, .agg #[.int .i64 ra, .int .i64 rb]] w fun e w' => e = .returned (.bool true) ∧ Below w.heap.size w w' := by
  obtain ⟨BV, BR, hb, hz⟩ := two_new w #[.int .i64 p, .int .i64 c, .int .i64 h, .int .i64 s] #[.int .i64 ra, .int .i64 rb] 52 53
  have hz0 : w.heap.size + 1 < ((w.alloc (.cells #[.int .i64 p, .int .i64 c, .int .i64 h, .int .i64 s] 52)).alloc (.cells #[.int .i64 ra, .int .i64 rb] 53)).heap.size := by rw [hz]; omega
  clear hz
  by_cases hle : n ≤ 1048576
  · have hle' : (n : Int) ≤ 1048576 := by omega
    by_cases hle2 : n2 ≤ 1048576
    · have hle2' : (n2 : Int) ≤ 1048576 := by omega
      obtain ⟨zs, r, lX, hsp, him⟩ := fnExactResultChances_both p c h s bs ds ra rb
      have hsp2 := hsp
      unfold XGot at hsp2 him
      dsimp only at hsp2 him
      have HSP := Lib.hid hsp2
      have HIM := Lib.hid him
      clear hsp hsp2 him
      subst hn hn2
      have h80b : decide ((1048576 : Int) < (bs.length : Int)) = false := by rw [decide_eq_false_iff_not]; omega
      have h80c : decide (1048576 < bs.length) = false := by rw [decide_eq_false_iff_not]; omega
      have h81b : decide ((1048576 : Int) < (ds.length : Int)) = false := by rw [decide_eq_false_iff_not]; omega
      have h81c : decide (1048576 < ds.length) = false := by rw [decide_eq_false_iff_not]; omega
      skip
      go_enter Tryz.func8, Tryz.ntmps8
      go_wp2_with fail
      clear h80b h80c h81b h81c
      skip
      generalize ((w.alloc (.cells #[.int .i64 p, .int .i64 c, .int .i64 h, .int .i64 s] 52)).alloc (.cells #[.int .i64 ra, .int .i64 rb] 53)) = v0 at *
      obtain ⟨q0_BV, q1_BV, q2_BV, q3_BV, qf_BV, ql_BV⟩ := BV.four
      obtain ⟨q0_BR, q1_BR, qf_BR, ql_BR⟩ := BR.two
      go_wp2_with fail
      clear q0_BV q1_BV q2_BV q3_BV qf_BV ql_BV
      clear q0_BR q1_BR qf_BR ql_BR
      have hd1 : v0.drew.heap.size = v0.heap.size := rfl
      replace BV := BV.drew
      replace BR := BR.drew
      replace hb := hb.drew
      refine wp_region_held_drew (S := fun w' => w'.cell? ⟨w.heap.size, 0, none⟩ = some (.int .i64 p) ∧ w'.cell? ⟨w.heap.size, 1, none⟩ = some (.int .i64 c) ∧ w'.cell? ⟨w.heap.size, 2, none⟩ = some (.int .i64 h) ∧ w'.cell? ⟨w.heap.size, 3, none⟩ = some (.int .i64 s) ∧ w'.cell? ⟨(w.heap.size + 1), 0, none⟩ = some (.int .i64 ra) ∧ w'.cell? ⟨(w.heap.size + 1), 1, none⟩ = some (.int .i64 rb)) (by kernel_rfl) ⟨BV.four.1, BV.four.2.1, BV.four.2.2.1, BV.four.2.2.2.1, BR.two.1, BR.two.2.1⟩ (fun hHeld => ?_)
      clear hHeld
      generalize v0.drew = vd1 at *
      have hHeld : vd1.cell? ⟨w.heap.size, 0, none⟩ = some (.int .i64 p) ∧ vd1.cell? ⟨w.heap.size, 1, none⟩ = some (.int .i64 c) ∧ vd1.cell? ⟨w.heap.size, 2, none⟩ = some (.int .i64 h) ∧ vd1.cell? ⟨w.heap.size, 3, none⟩ = some (.int .i64 s) ∧ vd1.cell? ⟨(w.heap.size + 1), 0, none⟩ = some (.int .i64 ra) ∧ vd1.cell? ⟨(w.heap.size + 1), 1, none⟩ = some (.int .i64 rb) := ⟨BV.four.1, BV.four.2.1, BV.four.2.2.1, BV.four.2.2.2.1, BR.two.1, BR.two.2.1⟩
      refine tk 0 27 ?_
      refine tk 2 29 ?_
      refine tk 4 31 ?_
      refine tk 6 33 ?_
      refine rdk 1 28 fun K hK => ?_
      go_simp
      refine (toVariant_any _ _ _ _ _).mono ?_
      rintro e w2 ⟨rfl, hb2⟩
      replace BV := BV.below hb2
      replace BR := BR.below hb2
      have hz2 := hb2.size
      replace hb := chain hb hb2
      clear hb2
      (try go_wp2_with fail)
      refine hko hK (Blk.f4 BV (Blk.l2 BR)) fun hHeld => ?_
      clear hK K
      refine rdk 3 30 fun K hK => ?_
      go_simp
      refine (toInt64S_any a _ cap bs _ rfl hle (hr.below hb)).mono ?_
      rintro e w3 ⟨g1, rfl, hg1, R1, hb3⟩
      replace BV := BV.below hb3
      replace BR := BR.below hb3
      have hz3 := hb3.size
      replace hb := chain hb hb3
      clear hb3
      (try go_wp2_with fail)
      refine hko hK (Blk.f4 BV (Blk.l2 BR)) fun hHeld => ?_
      clear hK K
      refine rdk 5 32 fun K hK => ?_
      go_simp
      refine (toInt64S_any a2 _ cap2 ds _ rfl hle2 (hr2.below hb)).mono ?_
      rintro e w4 ⟨g0, rfl, hg0, R0, hb4⟩
      replace BV := BV.below hb4
      replace BR := BR.below hb4
      replace R1 := R1.below hb4
      have hz4 := hb4.size
      replace hb := chain hb hb4
      clear hb4
      (try go_wp2_with fail)
      refine hko hK (Blk.f4 BV (Blk.l2 BR)) fun hHeld => ?_
      clear hK K
      refine rdk 7 34 fun K hK => ?_
      go_simp
      refine (toRoll_same _ _ _).mono ?_
      rintro e w5 ⟨rfl, hb5⟩
      replace BV := BV.below hb5
      replace BR := BR.below hb5
      replace R1 := R1.below hb5
      replace R0 := R0.below hb5
      have hz5 := hb5.size
      replace hb := chain hb hb5
      clear hb5
      (try go_wp2_with fail)
      refine hko hK (Blk.f4 BV (Blk.l2 BR)) fun hHeld => ?_
      clear hK K
      refine rdk 8 35 fun K hK => ?_
      go_simp
      refine (HSP.out _ _ _ _ _ _ _ rfl rfl hle hle2 (Nat.le_refl _) (Nat.le_refl _) R1.irow R0.irow).mono ?_
      rintro e w6 ⟨a0, k0, rfl, O0, hb6⟩
      replace BV := BV.below hb6
      replace BR := BR.below hb6
      replace R1 := R1.below hb6
      replace R0 := R0.below hb6
      have hz6 := hb6.size
      replace hb := chain hb hb6
      clear hb6
      (try go_wp2_with fail)
      refine hko hK (Blk.f4 BV (Blk.l2 BR)) fun hHeld => ?_
      clear hK K
      refine tk 9 26 ?_
      refine tk 10 36 ?_
      refine tk 11 37 ?_
      refine tk 12 9 ?_
      refine tk 13 10 ?_
      refine wpAnyH_done (by kernel_rfl) ?_ _
      clear hHeld
      clear R1 hg1 R0 hg0
      obtain ⟨q0_BV, q1_BV, q2_BV, q3_BV, qf_BV, ql_BV⟩ := BV.four
      obtain ⟨q0_BR, q1_BR, qf_BR, ql_BR⟩ := BR.two
      go_wp2_with fail
      clear q0_BV q1_BV q2_BV q3_BV qf_BV ql_BV
      clear q0_BR q1_BR qf_BR ql_BR
      refine (toInt64S_any a _ cap bs _ rfl hle (hr.below hb)).mono ?_
      rintro e w7 ⟨g2, rfl, hg2, R2, hb7⟩
      replace BV := BV.below hb7
      replace BR := BR.below hb7
      replace O0 := O0.below hb7
      have hz7 := hb7.size
      replace hb := chain hb hb7
      clear hb7
      have X1 : OSl w6.heap.size w7.heap.size w7 (some ⟨g2, 0, none⟩) bs := .inr ⟨g2, rfl, hg2, R2.lt, R2⟩
      clear R2 hg2
      obtain ⟨q0_BV, q1_BV, q2_BV, q3_BV, qf_BV, ql_BV⟩ := BV.four
      obtain ⟨q0_BR, q1_BR, qf_BR, ql_BR⟩ := BR.two
      go_wp2_with fail
      clear q0_BV q1_BV q2_BV q3_BV qf_BV ql_BV
      clear q0_BR q1_BR qf_BR ql_BR
      refine (toInt64S_any a2 _ cap2 ds _ rfl hle2 (hr2.below hb)).mono ?_
      rintro e w8 ⟨g3, rfl, hg3, R3, hb8⟩
      replace BV := BV.below hb8
      replace BR := BR.below hb8
      replace O0 := O0.below hb8
      replace X1 := X1.below hb8
      have hz8 := hb8.size
      replace hb := chain hb hb8
      clear hb8
      have X2 : OSl w7.heap.size w8.heap.size w8 (some ⟨g3, 0, none⟩) ds := .inr ⟨g3, rfl, hg3, R3.lt, R3⟩
      clear R3 hg3
      obtain ⟨q0_BV, q1_BV, q2_BV, q3_BV, qf_BV, ql_BV⟩ := BV.four
      obtain ⟨q0_BR, q1_BR, qf_BR, ql_BR⟩ := BR.two
      go_wp2_with fail
      clear q0_BV q1_BV q2_BV q3_BV qf_BV ql_BV
      clear q0_BR q1_BR qf_BR ql_BR
      have hd9 : w8.drew.heap.size = w8.heap.size := rfl
      replace BV := BV.drew
      replace BR := BR.drew
      replace O0 := O0.drew
      replace X1 := X1.drew
      replace X2 := X2.drew
      replace hb := hb.drew
      refine wp_region_held_drew (S := fun w' => w'.cell? ⟨w.heap.size, 0, none⟩ = some (.int .i64 p) ∧ w'.cell? ⟨w.heap.size, 1, none⟩ = some (.int .i64 c) ∧ w'.cell? ⟨w.heap.size, 2, none⟩ = some (.int .i64 h) ∧ w'.cell? ⟨w.heap.size, 3, none⟩ = some (.int .i64 s) ∧ w'.cell? ⟨(w.heap.size + 1), 0, none⟩ = some (.int .i64 ra) ∧ w'.cell? ⟨(w.heap.size + 1), 1, none⟩ = some (.int .i64 rb)) (by kernel_rfl) ⟨BV.four.1, BV.four.2.1, BV.four.2.2.1, BV.four.2.2.2.1, BR.two.1, BR.two.2.1⟩ (fun hHeld => ?_)
      clear hHeld
      generalize w8.drew = vd9 at *
      have hHeld : vd9.cell? ⟨w.heap.size, 0, none⟩ = some (.int .i64 p) ∧ vd9.cell? ⟨w.heap.size, 1, none⟩ = some (.int .i64 c) ∧ vd9.cell? ⟨w.heap.size, 2, none⟩ = some (.int .i64 h) ∧ vd9.cell? ⟨w.heap.size, 3, none⟩ = some (.int .i64 s) ∧ vd9.cell? ⟨(w.heap.size + 1), 0, none⟩ = some (.int .i64 ra) ∧ vd9.cell? ⟨(w.heap.size + 1), 1, none⟩ = some (.int .i64 rb) := ⟨BV.four.1, BV.four.2.1, BV.four.2.2.1, BV.four.2.2.2.1, BR.two.1, BR.two.2.1⟩
      refine tk 0 43 ?_
      refine tk 2 45 ?_
      refine tk 3 46 ?_
      refine tk 4 47 ?_
      refine rdk 1 44 fun K hK => ?_
      go_simp
      refine (toVariant_any _ _ _ _ _).mono ?_
      rintro e w10 ⟨rfl, hb10⟩
      replace BV := BV.below hb10
      replace BR := BR.below hb10
      replace O0 := O0.below hb10
      replace X1 := X1.below hb10
      replace X2 := X2.below hb10
      have hz10 := hb10.size
      replace hb := chain hb hb10
      clear hb10
      (try go_wp2_with fail)
      refine hko hK (Blk.f4 BV (Blk.l2 BR)) fun hHeld => ?_
      clear hK K
      refine rdk 5 48 fun K hK => ?_
      go_simp
      refine (toRoll_same _ _ _).mono ?_
      rintro e w11 ⟨rfl, hb11⟩
      replace BV := BV.below hb11
      replace BR := BR.below hb11
      replace O0 := O0.below hb11
      replace X1 := X1.below hb11
      replace X2 := X2.below hb11
      have hz11 := hb11.size
      replace hb := chain hb hb11
      clear hb11
      (try go_wp2_with fail)
      refine hko hK (Blk.f4 BV (Blk.l2 BR)) fun hHeld => ?_
      clear hK K
      refine rdk 6 49 fun K hK => ?_
      go_simp
      refine (HIM.out _ _ _ _ _ _ _ rfl rfl hle hle2 (Nat.le_refl _) (Nat.le_refl _) X1.irow X2.irow).mono ?_
      rintro e w12 ⟨aa, ka, rfl, O1, hb12⟩
      replace BV := BV.below hb12
      replace BR := BR.below hb12
      replace O0 := O0.below hb12
      replace X1 := X1.below hb12
      replace X2 := X2.below hb12
      have hz12 := hb12.size
      replace hb := chain hb hb12
      clear hb12
      (try go_wp2_with fail)
      refine hko hK (Blk.f4 BV (Blk.l2 BR)) fun hHeld => ?_
      clear hK K
      refine tk 7 42 ?_
      refine tk 8 50 ?_
      refine tk 9 51 ?_
      refine tk 10 13 ?_
      refine tk 11 14 ?_
      refine wpAnyH_done (by kernel_rfl) ?_ _
      clear hHeld
      obtain ⟨q0_BV, q1_BV, q2_BV, q3_BV, qf_BV, ql_BV⟩ := BV.four
      obtain ⟨q0_BR, q1_BR, qf_BR, ql_BR⟩ := BR.two
      go_wp2_with fail
      clear q0_BV q1_BV q2_BV q3_BV qf_BV ql_BV
      clear q0_BR q1_BR qf_BR ql_BR
      refine (eqXl_same _ _ _ _ _ _ zs.length _ _ zs _ rfl lX O1 O0).mono ?_
      rintro e w13 ⟨rfl, hb13⟩
      replace BV := BV.below hb13
      replace BR := BR.below hb13
      replace O0 := O0.below hb13
      replace X1 := X1.below hb13
      replace X2 := X2.below hb13
      replace O1 := O1.below hb13
      have hz13 := hb13.size
      replace hb := chain hb hb13
      clear hb13
      obtain ⟨q0_BV, q1_BV, q2_BV, q3_BV, qf_BV, ql_BV⟩ := BV.four
      obtain ⟨q0_BR, q1_BR, qf_BR, ql_BR⟩ := BR.two
      go_wp2_with fail
      clear q0_BV q1_BV q2_BV q3_BV qf_BV ql_BV
      clear q0_BR q1_BR qf_BR ql_BR
      refine (toInt64S_any a _ cap bs _ rfl hle (hr.below hb)).mono ?_
      rintro e w14 ⟨g4, rfl, hg4, R4, hb14⟩
      replace BV := BV.below hb14
      replace BR := BR.below hb14
      replace O0 := O0.below hb14
      replace X1 := X1.below hb14
      replace X2 := X2.below hb14
      replace O1 := O1.below hb14
      have hz14 := hb14.size
      replace hb := chain hb hb14
      clear hb14
      obtain ⟨q0_BV, q1_BV, q2_BV, q3_BV, qf_BV, ql_BV⟩ := BV.four
      obtain ⟨q0_BR, q1_BR, qf_BR, ql_BR⟩ := BR.two
      go_wp2_with fail
      clear q0_BV q1_BV q2_BV q3_BV qf_BV ql_BV
      clear q0_BR q1_BR qf_BR ql_BR
      refine (eqInt64S_same _ _ _ _ _ bs _ rfl hle X1.irow R4.irow).mono ?_
      rintro e w15 ⟨rfl, hb15⟩
      replace BV := BV.below hb15
      replace BR := BR.below hb15
      replace O0 := O0.below hb15
      replace X1 := X1.below hb15
      replace X2 := X2.below hb15
      replace O1 := O1.below hb15
      replace R4 := R4.below hb15
      have hz15 := hb15.size
      replace hb := chain hb hb15
      clear hb15
      clear R4 hg4
      obtain ⟨q0_BV, q1_BV, q2_BV, q3_BV, qf_BV, ql_BV⟩ := BV.four
      obtain ⟨q0_BR, q1_BR, qf_BR, ql_BR⟩ := BR.two
      go_wp2_with fail
      clear q0_BV q1_BV q2_BV q3_BV qf_BV ql_BV
      clear q0_BR q1_BR qf_BR ql_BR
      refine (toInt64S_any a2 _ cap2 ds _ rfl hle2 (hr2.below hb)).mono ?_
      rintro e w16 ⟨g5, rfl, hg5, R5, hb16⟩
      replace BV := BV.below hb16
      replace BR := BR.below hb16
      replace O0 := O0.below hb16
      replace X1 := X1.below hb16
      replace X2 := X2.below hb16
      replace O1 := O1.below hb16
      have hz16 := hb16.size
      replace hb := chain hb hb16
      clear hb16
      obtain ⟨q0_BV, q1_BV, q2_BV, q3_BV, qf_BV, ql_BV⟩ := BV.four
      obtain ⟨q0_BR, q1_BR, qf_BR, ql_BR⟩ := BR.two
      go_wp2_with fail
      clear q0_BV q1_BV q2_BV q3_BV qf_BV ql_BV
      clear q0_BR q1_BR qf_BR ql_BR
      refine (eqInt64S_same _ _ _ _ _ ds _ rfl hle2 X2.irow R5.irow).mono ?_
      rintro e w17 ⟨rfl, hb17⟩
      replace BV := BV.below hb17
      replace BR := BR.below hb17
      replace O0 := O0.below hb17
      replace X1 := X1.below hb17
      replace X2 := X2.below hb17
      replace O1 := O1.below hb17
      replace R5 := R5.below hb17
      have hz17 := hb17.size
      replace hb := chain hb hb17
      clear hb17
      clear R5 hg5
      obtain ⟨q0_BV, q1_BV, q2_BV, q3_BV, qf_BV, ql_BV⟩ := BV.four
      obtain ⟨q0_BR, q1_BR, qf_BR, ql_BR⟩ := BR.two
      go_wp2_with fail
      clear q0_BV q1_BV q2_BV q3_BV qf_BV ql_BV
      clear q0_BR q1_BR qf_BR ql_BR
      refine (markS_own _ _ _ _ _ bs 1 _ rfl hle (by omega) (by omega) X1).mono ?_
      rintro e w18 ⟨rfl, X1, hs18⟩
      replace BV := BV.same hs18 (by omega)
      replace BR := BR.same hs18 (by omega)
      replace O0 := O0.same hs18 (by omega)
      replace X2 := X2.same hs18 (by omega)
      replace O1 := O1.same hs18 (by omega)
      have hz18 := hs18.size
      replace hb := below_same hb hs18 (by omega) (by omega)
      clear hs18
      obtain ⟨q0_BV, q1_BV, q2_BV, q3_BV, qf_BV, ql_BV⟩ := BV.four
      obtain ⟨q0_BR, q1_BR, qf_BR, ql_BR⟩ := BR.two
      go_wp2_with fail
      clear q0_BV q1_BV q2_BV q3_BV qf_BV ql_BV
      clear q0_BR q1_BR qf_BR ql_BR
      refine (markS_own _ _ _ _ _ ds _ _ rfl hle2 (by omega) (by omega) X2).mono ?_
      rintro e w19 ⟨rfl, X2, hs19⟩
      replace BV := BV.same hs19 (by omega)
      replace BR := BR.same hs19 (by omega)
      replace O0 := O0.same hs19 (by omega)
      replace X1 := X1.same hs19 (by omega)
      replace O1 := O1.same hs19 (by omega)
      have hz19 := hs19.size
      replace hb := below_same hb hs19 (by omega) (by omega)
      clear hs19
      have hk0 : ¬ ((1 : Int) + (bs.length : Int) + (ds.length : Int) < 0) := by omega
      have hq0 : ¬ ((1 : Int) + 2 * (zs.length : Int) < 0) := by omega
      obtain ⟨q0_BV, q1_BV, q2_BV, q3_BV, qf_BV, ql_BV⟩ := BV.four
      obtain ⟨q0_BR, q1_BR, qf_BR, ql_BR⟩ := BR.two
      go_wp2_with fail
      clear q0_BV q1_BV q2_BV q3_BV qf_BV ql_BV
      clear q0_BR q1_BR qf_BR ql_BR
      refine (eqXl_same _ _ _ _ _ _ zs.length _ _ zs _ rfl lX O1 O0).mono ?_
      rintro e w20 ⟨rfl, hb20⟩
      replace BV := BV.below hb20
      replace BR := BR.below hb20
      replace O0 := O0.below hb20
      replace X1 := X1.below hb20
      replace X2 := X2.below hb20
      replace O1 := O1.below hb20
      have hz20 := hb20.size
      replace hb := chain hb hb20
      clear hb20
      obtain ⟨q0_BV, q1_BV, q2_BV, q3_BV, qf_BV, ql_BV⟩ := BV.four
      obtain ⟨q0_BR, q1_BR, qf_BR, ql_BR⟩ := BR.two
      go_wp2_with fail
      clear q0_BV q1_BV q2_BV q3_BV qf_BV ql_BV
      clear q0_BR q1_BR qf_BR ql_BR
      refine (markXl_own _ _ _ _ _ zs 1 _ rfl lX (by omega) (by omega) O1).mono ?_
      rintro e w21 ⟨rfl, O1, hs21⟩
      replace BV := BV.same hs21 (by omega)
      replace BR := BR.same hs21 (by omega)
      replace O0 := O0.same hs21 (by omega)
      replace X1 := X1.same hs21 (by omega)
      replace X2 := X2.same hs21 (by omega)
      have hz21 := hs21.size
      replace hb := below_same hb hs21 (by omega) (by omega)
      clear hs21
      obtain ⟨q0_BV, q1_BV, q2_BV, q3_BV, qf_BV, ql_BV⟩ := BV.four
      obtain ⟨q0_BR, q1_BR, qf_BR, ql_BR⟩ := BR.two
      go_wp2_with fail
      clear q0_BV q1_BV q2_BV q3_BV qf_BV ql_BV
      clear q0_BR q1_BR qf_BR ql_BR
      refine (heldXl_any _ _ _ zs.length _ 1 _ lX (by omega) (by omega) O1).mono ?_
      rintro e wq ⟨rfl, rfl⟩
      obtain ⟨q0_BV, q1_BV, q2_BV, q3_BV, qf_BV, ql_BV⟩ := BV.four
      obtain ⟨q0_BR, q1_BR, qf_BR, ql_BR⟩ := BR.two
      go_wp2_with fail
      clear q0_BV q1_BV q2_BV q3_BV qf_BV ql_BV
      clear q0_BR q1_BR qf_BR ql_BR
      have hd22 : w21.drew.heap.size = w21.heap.size := rfl
      replace BV := BV.drew
      replace BR := BR.drew
      replace O0 := O0.drew
      replace X1 := X1.drew
      replace X2 := X2.drew
      replace O1 := O1.drew
      replace hb := hb.drew
      refine wp_region_held_drew (S := fun w' => w'.cell? ⟨w.heap.size, 0, none⟩ = some (.int .i64 p) ∧ w'.cell? ⟨w.heap.size, 1, none⟩ = some (.int .i64 c) ∧ w'.cell? ⟨w.heap.size, 2, none⟩ = some (.int .i64 h) ∧ w'.cell? ⟨w.heap.size, 3, none⟩ = some (.int .i64 s) ∧ w'.cell? ⟨(w.heap.size + 1), 0, none⟩ = some (.int .i64 ra) ∧ w'.cell? ⟨(w.heap.size + 1), 1, none⟩ = some (.int .i64 rb)) (by kernel_rfl) ⟨BV.four.1, BV.four.2.1, BV.four.2.2.1, BV.four.2.2.2.1, BR.two.1, BR.two.2.1⟩ (fun hHeld => ?_)
      clear hHeld
      generalize w21.drew = vd22 at *
      have hHeld : vd22.cell? ⟨w.heap.size, 0, none⟩ = some (.int .i64 p) ∧ vd22.cell? ⟨w.heap.size, 1, none⟩ = some (.int .i64 c) ∧ vd22.cell? ⟨w.heap.size, 2, none⟩ = some (.int .i64 h) ∧ vd22.cell? ⟨w.heap.size, 3, none⟩ = some (.int .i64 s) ∧ vd22.cell? ⟨(w.heap.size + 1), 0, none⟩ = some (.int .i64 ra) ∧ vd22.cell? ⟨(w.heap.size + 1), 1, none⟩ = some (.int .i64 rb) := ⟨BV.four.1, BV.four.2.1, BV.four.2.2.1, BV.four.2.2.2.1, BR.two.1, BR.two.2.1⟩
      refine tk 0 102 ?_
      refine tk 2 104 ?_
      refine tk 4 106 ?_
      refine tk 6 108 ?_
      refine rdk 1 103 fun K hK => ?_
      go_simp
      refine (toVariant_any _ _ _ _ _).mono ?_
      rintro e w23 ⟨rfl, hb23⟩
      replace BV := BV.below hb23
      replace BR := BR.below hb23
      replace O0 := O0.below hb23
      replace X1 := X1.below hb23
      replace X2 := X2.below hb23
      replace O1 := O1.below hb23
      have hz23 := hb23.size
      replace hb := chain hb hb23
      clear hb23
      (try go_wp2_with fail)
      refine hko hK (Blk.f4 BV (Blk.l2 BR)) fun hHeld => ?_
      clear hK K
      refine rdk 3 105 fun K hK => ?_
      go_simp
      refine (toInt64S_any a _ cap bs _ rfl hle (hr.below hb)).mono ?_
      rintro e w24 ⟨g6, rfl, hg6, R6, hb24⟩
      replace BV := BV.below hb24
      replace BR := BR.below hb24
      replace O0 := O0.below hb24
      replace X1 := X1.below hb24
      replace X2 := X2.below hb24
      replace O1 := O1.below hb24
      have hz24 := hb24.size
      replace hb := chain hb hb24
      clear hb24
      (try go_wp2_with fail)
      refine hko hK (Blk.f4 BV (Blk.l2 BR)) fun hHeld => ?_
      clear hK K
      refine rdk 5 107 fun K hK => ?_
      go_simp
      refine (toInt64S_any a2 _ cap2 ds _ rfl hle2 (hr2.below hb)).mono ?_
      rintro e w25 ⟨g7, rfl, hg7, R7, hb25⟩
      replace BV := BV.below hb25
      replace BR := BR.below hb25
      replace O0 := O0.below hb25
      replace X1 := X1.below hb25
      replace X2 := X2.below hb25
      replace O1 := O1.below hb25
      replace R6 := R6.below hb25
      have hz25 := hb25.size
      replace hb := chain hb hb25
      clear hb25
      (try go_wp2_with fail)
      refine hko hK (Blk.f4 BV (Blk.l2 BR)) fun hHeld => ?_
      clear hK K
      refine rdk 7 109 fun K hK => ?_
      go_simp
      refine (toRoll_same _ _ _).mono ?_
      rintro e w26 ⟨rfl, hb26⟩
      replace BV := BV.below hb26
      replace BR := BR.below hb26
      replace O0 := O0.below hb26
      replace X1 := X1.below hb26
      replace X2 := X2.below hb26
      replace O1 := O1.below hb26
      replace R6 := R6.below hb26
      replace R7 := R7.below hb26
      have hz26 := hb26.size
      replace hb := chain hb hb26
      clear hb26
      (try go_wp2_with fail)
      refine hko hK (Blk.f4 BV (Blk.l2 BR)) fun hHeld => ?_
      clear hK K
      refine rdk 8 110 fun K hK => ?_
      go_simp
      refine (HIM.out _ _ _ _ _ _ _ rfl rfl hle hle2 (Nat.le_refl _) (Nat.le_refl _) R6.irow R7.irow).mono ?_
      rintro e w27 ⟨ab, kb, rfl, O2, hb27⟩
      replace BV := BV.below hb27
      replace BR := BR.below hb27
      replace O0 := O0.below hb27
      replace X1 := X1.below hb27
      replace X2 := X2.below hb27
      replace O1 := O1.below hb27
      replace R6 := R6.below hb27
      replace R7 := R7.below hb27
      have hz27 := hb27.size
      replace hb := chain hb hb27
      clear hb27
      (try go_wp2_with fail)
      refine hko hK (Blk.f4 BV (Blk.l2 BR)) fun hHeld => ?_
      clear hK K
      refine tk 9 101 ?_
      refine tk 10 111 ?_
      refine tk 11 112 ?_
      refine tk 12 18 ?_
      refine tk 13 19 ?_
      refine wpAnyH_done (by kernel_rfl) ?_ _
      clear hHeld
      clear R6 hg6 R7 hg7
      obtain ⟨q0_BV, q1_BV, q2_BV, q3_BV, qf_BV, ql_BV⟩ := BV.four
      obtain ⟨q0_BR, q1_BR, qf_BR, ql_BR⟩ := BR.two
      go_wp2_with fail
      clear q0_BV q1_BV q2_BV q3_BV qf_BV ql_BV
      clear q0_BR q1_BR qf_BR ql_BR
      refine (eqXl_same _ _ _ _ _ _ zs.length _ _ zs _ rfl lX O2 O0).mono ?_
      rintro e w28 ⟨rfl, hb28⟩
      replace BV := BV.below hb28
      replace BR := BR.below hb28
      replace O0 := O0.below hb28
      replace X1 := X1.below hb28
      replace X2 := X2.below hb28
      replace O1 := O1.below hb28
      replace O2 := O2.below hb28
      have hz28 := hb28.size
      replace hb := chain hb hb28
      clear hb28
      obtain ⟨q0_BV, q1_BV, q2_BV, q3_BV, qf_BV, ql_BV⟩ := BV.four
      obtain ⟨q0_BR, q1_BR, qf_BR, ql_BR⟩ := BR.two
      go_wp2_with fail
      clear q0_BV q1_BV q2_BV q3_BV qf_BV ql_BV
      clear q0_BR q1_BR qf_BR ql_BR
      refine (heldXl_any _ _ _ zs.length _ 1 _ lX (by omega) (by omega) O1).mono ?_
      rintro e wq ⟨rfl, rfl⟩
      obtain ⟨q0_BV, q1_BV, q2_BV, q3_BV, qf_BV, ql_BV⟩ := BV.four
      obtain ⟨q0_BR, q1_BR, qf_BR, ql_BR⟩ := BR.two
      go_wp2_with fail
      go_ret
      exact ⟨rfl, hb⟩
    · have hle2' : ¬ (n2 : Int) ≤ 1048576 := by omega
      go_enter Tryz.func8, Tryz.ntmps8
      go_wp2_with fail
      go_ret
      exact ⟨rfl, hb⟩
  · have hle' : ¬ (n : Int) ≤ 1048576 := by omega
    go_enter Tryz.func8, Tryz.ntmps8
    go_wp2_with fail
    go_ret
    exact ⟨rfl, hb⟩
set_option maxRecDepth 100000 in
theorem fnExactResultChances_lifted (os : Os) (started : os.Started) (H : Type) (enc : TypeId × Value → H) :
    ReturnsInHanded {} Tryz.checked os 8 .any (Rows.fnExactResultChancesSpec.pre6 enc Tryz.prog Tryz.f8 Rows.fnExactResultChancesRow.domain false) (Rows.fnExactResultChancesSpec.post enc Tryz.prog Tryz.f8 false true false false) := by
  refine returnsInHanded_of_change (C := Tryz.checked) own started (by kernel_rfl) Tryz.func8
    (ChangeSpec.witness6 (enc := enc) (C := Tryz.checked) false ⟨#[], #[.agg #[.int .i64 0, .int .i64 0, .int .i64 0, .int .i64 0], .slice none 0 0, .slice none 0 0, .agg #[.int .i64 0, .int .i64 0]], []⟩ 8 (by kernel_rfl) (by kernel_rfl) (by kernel_rfl) (by kernel_rfl)) ?_
  intro W base args ds gs before hval0 hW hcnd _
  have hval : ∀ (j : Nat) t v, Tryz.f8.params[j]? = some t → args[j]? = some v → Value.okWide Tryz.prog W .any base t v := hval0
  have hW' := hW
  obtain ⟨p, q, hA0, hV, rfl, hfz, hnd⟩ := hW
  have hA : DataW.TrodAll enc Tryz.prog W 0 (fun _ => true) true Tryz.f8.params.toList args.toList ds p := hA0
  rw [Tryz.params8] at hA hval
  obtain ⟨v0, vs0, d0, ds0, p0, q0, hargs, rfl, rfl, h0, r0⟩ := trodAll_cons hA
  obtain ⟨v1, vs1, d1, ds1, p1, q1, rfl, rfl, rfl, h1, r1⟩ := trodAll_cons r0
  obtain ⟨v2, vs2, d2, ds2, p2, q2, rfl, rfl, rfl, h2, r2⟩ := trodAll_cons r1
  obtain ⟨v3, vs3, d3, ds3, p3, q3, rfl, rfl, rfl, h3, r3⟩ := trodAll_cons r2
  obtain ⟨rfl, rfl, rfl⟩ := trodAll_nil r3
  obtain rfl : args = #[v0, v1, v2, v3] := by cases args; simp_all
  obtain ⟨rfl, rfl⟩ := trodVars_none hV
  have k0 := h0
  have lt0 : ∀ x ∈ p0, x.block < W.heap.size := by obtain ⟨m, hm⟩ := k0; exact DataW.trod_lt m _ _ _ hm
  have k1 := h1
  have lt1 : ∀ x ∈ p1, x.block < W.heap.size := by obtain ⟨m, hm⟩ := k1; exact DataW.trod_lt m _ _ _ hm
  have k2 := h2
  have lt2 : ∀ x ∈ p2, x.block < W.heap.size := by obtain ⟨m, hm⟩ := k2; exact DataW.trod_lt m _ _ _ hm
  have k3 := h3
  have lt3 : ∀ x ∈ p3, x.block < W.heap.size := by obtain ⟨m, hm⟩ := k3; exact DataW.trod_lt m _ _ _ hm
  obtain ⟨x0_0, x1_0, x2_0, x3_0, y0_0, y1_0, y2_0, y3_0, m_0, rfl, _, _, hy0_0, hy1_0, hy2_0, hy3_0⟩ := Joins.open_agg4 Tryz.underlying52 (by kernel_rfl) (show Tryz.prog.cellsOf 52 = 4 by kernel_rfl) (hval 0 52 v0 rfl rfl) h0
  obtain ⟨a0_0, e0_0, _, wa0_0⟩ := DataW.trod_int Tryz.underlying2 hy0_0
  obtain ⟨a1_0, e1_0, _, wa1_0⟩ := DataW.trod_int Tryz.underlying2 hy1_0
  obtain ⟨a2_0, e2_0, _, wa2_0⟩ := DataW.trod_int Tryz.underlying2 hy2_0
  obtain ⟨a3_0, e3_0, _, wa3_0⟩ := DataW.trod_int Tryz.underlying2 hy3_0
  simp at e0_0 e1_0 e2_0 e3_0
  subst e0_0 e1_0 e2_0 e3_0
  obtain ⟨sa_1, sl_1, sc_1, rfl⟩ := okWide_slice Tryz.underlying26 (hval 1 26 v1 rfl rfl)
  obtain ⟨ra_1, rn_1, rc_1, rx_1, hv_1, rl_1, rm_1, rr_1, rw_1⟩ : ∃ (a : Option Addr) (n cap : Nat) (xs : List Int), Value.slice sa_1 sl_1 sc_1 = .slice a n cap ∧ xs.length = n ∧ n ≤ 9223372036854775807 ∧ IRow W a xs ∧ ∀ y ∈ xs, (Lit.int .i64 y).wf = true := by
    obtain ⟨fuel, hf⟩ := h1
    exact open_row hf
  simp only [Value.slice.injEq] at hv_1
  obtain ⟨rfl, rfl, rfl⟩ := hv_1
  obtain ⟨sa_2, sl_2, sc_2, rfl⟩ := okWide_slice Tryz.underlying26 (hval 2 26 v2 rfl rfl)
  obtain ⟨ra_2, rn_2, rc_2, rx_2, hv_2, rl_2, rm_2, rr_2, rw_2⟩ : ∃ (a : Option Addr) (n cap : Nat) (xs : List Int), Value.slice sa_2 sl_2 sc_2 = .slice a n cap ∧ xs.length = n ∧ n ≤ 9223372036854775807 ∧ IRow W a xs ∧ ∀ y ∈ xs, (Lit.int .i64 y).wf = true := by
    obtain ⟨fuel, hf⟩ := h2
    exact open_row hf
  simp only [Value.slice.injEq] at hv_2
  obtain ⟨rfl, rfl, rfl⟩ := hv_2
  obtain ⟨x0_3, x1_3, y0_3, y1_3, m_3, rfl, _, _, hy0_3, hy1_3⟩ := Joins.open_agg2 Tryz.underlying53 (by kernel_rfl) (show Tryz.prog.cellsOf 53 = 2 by kernel_rfl) (hval 3 53 v3 rfl rfl) h3
  obtain ⟨a0_3, e0_3, _, wa0_3⟩ := DataW.trod_int Tryz.underlying2 hy0_3
  obtain ⟨a1_3, e1_3, _, wa1_3⟩ := DataW.trod_int Tryz.underlying2 hy1_3
  simp at e0_3 e1_3
  subst e0_3 e1_3
  clear hA0 hval0
  refine (fnExactResultChances_walk a0_0 a1_0 a2_0 a3_0 sa_1 sl_1 sc_1 rx_1 sa_2 sl_2 sc_2 rx_2 a0_3 a1_3 W rl_1 rm_1 rr_1 rl_2 rm_2 rr_2).mono fun e W' ⟨he, bel⟩ => ?_
  subst he
  exact ⟨_, rfl, _, _, _, [], _, [], hW', trodAll_mk1 (shut_bool Tryz.underlying4 _), (trodAll_cons_mk (Below.trod laidOut (by kernel_rfl) (of_decide_eq_true (by kernel_rfl)) k0 bel lt0) (trodAll_cons_mk (Below.trod laidOut (by kernel_rfl) (of_decide_eq_true (by kernel_rfl)) k1 bel lt1) (trodAll_cons_mk (Below.trod laidOut (by kernel_rfl) (of_decide_eq_true (by kernel_rfl)) k2 bel lt2) (trodAll_cons_mk (Below.trod laidOut (by kernel_rfl) (of_decide_eq_true (by kernel_rfl)) k3 bel lt3) trodAll_mk0)))), rfl, bel.frame _, fun h => by cases h⟩
theorem fnExactResultChances_holds : Rows.FnExactResultChancesSaid :=
  OpenClaim.holds_of_wide 8 Tryz.f8 rfl rfl rfl rfl rfl rfl rfl ⟨rfl, rfl, rfl, rfl, rfl⟩ rfl rfl rfl rfl rfl (by kernel_rfl) Tryz.func8 (by kernel_rfl)
    (of_decide_eq_true (by kernel_rfl)) (by unfold Func.isWrapper; first | (rw [if_pos (by decide +kernel)]; kernel_rfl) | (rw [if_neg (by decide +kernel)]; exact ⟨rfl, rfl⟩))
    (fun os started H enc _ => fnExactResultChances_lifted os started H enc)
end Go.Proofs.YtlnljfbdicgkcaaGreat
