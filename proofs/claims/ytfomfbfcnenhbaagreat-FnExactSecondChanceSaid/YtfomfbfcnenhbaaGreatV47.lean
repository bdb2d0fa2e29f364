/- The exact law of chapter 12 on SecondChance holds: for every input the law returns true and its arguments read behind the call as they read before. No conditions. -/
import Derived.Test.YtfomfbfcnenhbaaGreatV45
import Derived.ChangeOld
namespace Go.Proofs.YtfomfbfcnenhbaaGreat
open Go.ChangeShapes Go.WideShapes Go.ChangeAt Go.RowKit
set_option linter.unusedVariables false
set_option linter.unusedSimpArgs false
set_option maxRecDepth 4000
set_option maxRecDepth 8000 in
set_option maxHeartbeats 4000000 in
theorem fnExactSecondChance_walk (p c h s : Int) (a1 : Option Addr) (n1 c1 : Nat) (xs : List Int) (a2 : Option Addr) (n2 c2 : Nat) (ys : List Int) (w : World) (h1 : xs.length = n1) (m1 : n1 ≤ 9223372036854775807) (r1 : IRow w a1 xs) (h2 : ys.length = n2) (m2 : n2 ≤ 9223372036854775807) (r2 : IRow w a2 ys) :
    Calls Tryz.prog 10 #[.agg #[.int .i64 p, .int .i64 c, .int .i64 h, .int .i64 s], .slice a1 n1 c1, .slice a2 n2 c2] w fun e w' => e = .returned (.bool true) ∧ Below w.heap.size w w' := by
  subst h1 h2
  have BA := Blk.new w #[.int .i64 p, .int .i64 c, .int .i64 h, .int .i64 s] 34
  have hb : Below w.heap.size w (w.alloc (.cells #[.int .i64 p, .int .i64 c, .int .i64 h, .int .i64 s] 34)) := (Below.refl _ _).alloc (Nat.le_refl _) _
  have hl0 := BA.lt
  obtain ⟨q0, q1, q2, q3, qf, ql⟩ := BA.four
  by_cases hl1 : xs.length ≤ 1048576
  · have hl1' : (xs.length : Int) ≤ 1048576 := by omega
    by_cases hl2 : ys.length ≤ 1048576
    · have hl2' : (ys.length : Int) ≤ 1048576 := by omega
      have HT1 := Lib.hid (fun W (q : IRow W a1 xs) => toInt64S_any a1 xs.length c1 xs W rfl hl1 q)
      have HT2 := Lib.hid (fun W (q : IRow W a2 ys) => toInt64S_any a2 ys.length c2 ys W rfl hl2 q)
      obtain ⟨⟨en1, en2, r⟩, hV⟩ : ∃ D, secondChanceV p c h s xs ys = D := ⟨_, rfl⟩
      have hsp := fun g2 g3 W (q1 : Row W g2 xs) (q2 : Row W g3 ys) => specSecondChance_any p c h s (some ⟨g2, 0, none⟩) (some ⟨g3, 0, none⟩) xs.length ys.length xs.length ys.length xs ys W rfl rfl hl1 hl2 (Nat.le_refl _) (Nat.le_refl _) q1.irow q2.irow
      have him := fun g2 g3 W (q1 : Row W g2 xs) (q2 : Row W g3 ys) => secondChance_any p c h s (some ⟨g2, 0, none⟩) (some ⟨g3, 0, none⟩) xs.length ys.length xs.length ys.length xs ys W rfl rfl hl1 hl2 q1.irow q2.irow
      rw [hV] at hsp him
      dsimp only [xoV] at hsp him
      have HSP := Lib.hid hsp
      have HIM := Lib.hid him
      clear hsp him hV
      go_enter Tryz.func10, Tryz.ntmps10
      go_wp2_with fail
      clear q0 q1 q2 q3 qf ql
      generalize (w.alloc (.cells #[.int .i64 p, .int .i64 c, .int .i64 h, .int .i64 s] 34)) = v0 at *
      refine (toVariant_any _ _ _ _ _).mono ?_
      rintro e w1 ⟨rfl, hb1⟩
      have hz1 := hb1.size
      replace BA := BA.below hb1
      replace hb := chain hb hb1
      clear hb1
      obtain ⟨q0_BA, q1_BA, q2_BA, q3_BA, qf_BA, ql_BA⟩ := BA.four
      go_wp2_with fail
      clear q0_BA q1_BA q2_BA q3_BA qf_BA ql_BA
      refine (HT1.out _ (r1.below hb)).mono ?_
      rintro e w2 ⟨g2, rfl, hg2, R1, hb2⟩
      replace BA := BA.below hb2
      have hz2 := hb2.size
      replace hb := chain hb hb2
      clear hb2
      obtain ⟨q0_BA, q1_BA, q2_BA, q3_BA, qf_BA, ql_BA⟩ := BA.four
      go_wp2_with fail
      clear q0_BA q1_BA q2_BA q3_BA qf_BA ql_BA
      refine (HT2.out _ (r2.below hb)).mono ?_
      rintro e w3 ⟨g3, rfl, hg3, R2, hb3⟩
      replace BA := BA.below hb3
      replace R1 := R1.below hb3
      have hz3 := hb3.size
      replace hb := chain hb hb3
      clear hb3
      obtain ⟨q0_BA, q1_BA, q2_BA, q3_BA, qf_BA, ql_BA⟩ := BA.four
      go_wp2_with fail
      clear q0_BA q1_BA q2_BA q3_BA qf_BA ql_BA
      refine (HSP.out _ _ _ R1 R2).mono ?_
      rintro e w4 ⟨rfl, hb4⟩
      replace BA := BA.below hb4
      replace R1 := R1.below hb4
      replace R2 := R2.below hb4
      have hz4 := hb4.size
      replace hb := chain hb hb4
      clear hb4
      clear R1 R2
      have B0 := Blk.new w4 #[.int .i64 en1, .int .i64 en2] 30
      have hal5 : Below w4.heap.size w4 (w4.alloc (.cells #[.int .i64 en1, .int .i64 en2] 30)) := (Below.refl _ _).alloc (Nat.le_refl _) _
      have hz5 : (w4.alloc (.cells #[.int .i64 en1, .int .i64 en2] 30)).heap.size = w4.heap.size + 1 := by simp
      replace BA := BA.below hal5
      replace hb := chain hb hal5
      clear hal5
      obtain ⟨q0_BA, q1_BA, q2_BA, q3_BA, qf_BA, ql_BA⟩ := BA.four
      obtain ⟨q0_B0, q1_B0, qf_B0, ql_B0⟩ := B0.two
      go_wp2_with fail
      clear q0_BA q1_BA q2_BA q3_BA qf_BA ql_BA
      clear q0_B0 q1_B0 qf_B0 ql_B0
      generalize (w4.alloc (.cells #[.int .i64 en1, .int .i64 en2] 30)) = w5 at *
      obtain ⟨q0_BA, q1_BA, q2_BA, q3_BA, qf_BA, ql_BA⟩ := BA.four
      obtain ⟨q0_B0, q1_B0, qf_B0, ql_B0⟩ := B0.two
      go_wp2_with fail
      clear q0_BA q1_BA q2_BA q3_BA qf_BA ql_BA
      clear q0_B0 q1_B0 qf_B0 ql_B0
      refine (HT1.out _ (r1.below hb)).mono ?_
      rintro e w6 ⟨go, rfl, hg6, R1, hb6⟩
      replace BA := BA.below hb6
      replace B0 := B0.below hb6
      have hz6 := hb6.size
      replace hb := chain hb hb6
      clear hb6
      obtain ⟨q0_BA, q1_BA, q2_BA, q3_BA, qf_BA, ql_BA⟩ := BA.four
      obtain ⟨q0_B0, q1_B0, qf_B0, ql_B0⟩ := B0.two
      go_wp2_with fail
      clear q0_BA q1_BA q2_BA q3_BA qf_BA ql_BA
      clear q0_B0 q1_B0 qf_B0 ql_B0
      refine (HT2.out _ (r2.below hb)).mono ?_
      rintro e w7 ⟨gt, rfl, hg7, R2, hb7⟩
      replace BA := BA.below hb7
      replace B0 := B0.below hb7
      replace R1 := R1.below hb7
      have hz7 := hb7.size
      replace hb := chain hb hb7
      clear hb7
      obtain ⟨q0_BA, q1_BA, q2_BA, q3_BA, qf_BA, ql_BA⟩ := BA.four
      obtain ⟨q0_B0, q1_B0, qf_B0, ql_B0⟩ := B0.two
      go_wp2_with fail
      clear q0_BA q1_BA q2_BA q3_BA qf_BA ql_BA
      clear q0_B0 q1_B0 qf_B0 ql_B0
      refine (toVariant_any _ _ _ _ _).mono ?_
      rintro e w8 ⟨rfl, hb8⟩
      replace BA := BA.below hb8
      replace B0 := B0.below hb8
      replace R1 := R1.below hb8
      replace R2 := R2.below hb8
      have hz8 := hb8.size
      replace hb := chain hb hb8
      clear hb8
      obtain ⟨q0_BA, q1_BA, q2_BA, q3_BA, qf_BA, ql_BA⟩ := BA.four
      obtain ⟨q0_B0, q1_B0, qf_B0, ql_B0⟩ := B0.two
      go_wp2_with fail
      clear q0_BA q1_BA q2_BA q3_BA qf_BA ql_BA
      clear q0_B0 q1_B0 qf_B0 ql_B0
      refine (HIM.out _ _ _ R1 R2).mono ?_
      rintro e w9 ⟨rfl, hb9⟩
      replace BA := BA.below hb9
      replace B0 := B0.below hb9
      replace R1 := R1.below hb9
      replace R2 := R2.below hb9
      have hz9 := hb9.size
      replace hb := chain hb hb9
      clear hb9
      have B3 := Blk.new w9 #[.int .i64 en1, .int .i64 en2] 30
      have hal10 : Below w9.heap.size w9 (w9.alloc (.cells #[.int .i64 en1, .int .i64 en2] 30)) := (Below.refl _ _).alloc (Nat.le_refl _) _
      have hz10 : (w9.alloc (.cells #[.int .i64 en1, .int .i64 en2] 30)).heap.size = w9.heap.size + 1 := by simp
      replace BA := BA.below hal10
      replace B0 := B0.below hal10
      replace R1 := R1.below hal10
      replace R2 := R2.below hal10
      replace hb := chain hb hal10
      clear hal10
      obtain ⟨q0_BA, q1_BA, q2_BA, q3_BA, qf_BA, ql_BA⟩ := BA.four
      obtain ⟨q0_B0, q1_B0, qf_B0, ql_B0⟩ := B0.two
      obtain ⟨q0_B3, q1_B3, qf_B3, ql_B3⟩ := B3.two
      go_wp2_with fail
      clear q0_BA q1_BA q2_BA q3_BA qf_BA ql_BA
      clear q0_B0 q1_B0 qf_B0 ql_B0
      clear q0_B3 q1_B3 qf_B3 ql_B3
      generalize (w9.alloc (.cells #[.int .i64 en1, .int .i64 en2] 30)) = w10 at *
      obtain ⟨q0_BA, q1_BA, q2_BA, q3_BA, qf_BA, ql_BA⟩ := BA.four
      obtain ⟨q0_B0, q1_B0, qf_B0, ql_B0⟩ := B0.two
      obtain ⟨q0_B3, q1_B3, qf_B3, ql_B3⟩ := B3.two
      go_wp2_with fail
      clear q0_BA q1_BA q2_BA q3_BA qf_BA ql_BA
      clear q0_B0 q1_B0 qf_B0 ql_B0
      clear q0_B3 q1_B3 qf_B3 ql_B3
      refine (eqExact_same _ _ _).mono ?_
      rintro e w11 ⟨rfl, hb11⟩
      replace BA := BA.below hb11
      replace B0 := B0.below hb11
      replace R1 := R1.below hb11
      replace R2 := R2.below hb11
      replace B3 := B3.below hb11
      have hz11 := hb11.size
      replace hb := chain hb hb11
      clear hb11
      obtain ⟨q0_BA, q1_BA, q2_BA, q3_BA, qf_BA, ql_BA⟩ := BA.four
      obtain ⟨q0_B0, q1_B0, qf_B0, ql_B0⟩ := B0.two
      obtain ⟨q0_B3, q1_B3, qf_B3, ql_B3⟩ := B3.two
      go_wp2_with fail
      clear q0_BA q1_BA q2_BA q3_BA qf_BA ql_BA
      clear q0_B0 q1_B0 qf_B0 ql_B0
      clear q0_B3 q1_B3 qf_B3 ql_B3
      refine (HT1.out _ (r1.below hb)).mono ?_
      rintro e w12 ⟨gp, rfl, hg12, R3, hb12⟩
      replace BA := BA.below hb12
      replace B0 := B0.below hb12
      replace R1 := R1.below hb12
      replace R2 := R2.below hb12
      replace B3 := B3.below hb12
      have hz12 := hb12.size
      replace hb := chain hb hb12
      clear hb12
      obtain ⟨q0_BA, q1_BA, q2_BA, q3_BA, qf_BA, ql_BA⟩ := BA.four
      obtain ⟨q0_B0, q1_B0, qf_B0, ql_B0⟩ := B0.two
      obtain ⟨q0_B3, q1_B3, qf_B3, ql_B3⟩ := B3.two
      go_wp2_with fail
      clear q0_BA q1_BA q2_BA q3_BA qf_BA ql_BA
      clear q0_B0 q1_B0 qf_B0 ql_B0
      clear q0_B3 q1_B3 qf_B3 ql_B3
      refine (eqInt64S_same _ _ _ _ _ xs _ rfl hl1 R1.irow R3.irow).mono ?_
      rintro e w13 ⟨rfl, hb13⟩
      replace BA := BA.below hb13
      replace B0 := B0.below hb13
      replace R1 := R1.below hb13
      replace R2 := R2.below hb13
      replace B3 := B3.below hb13
      replace R3 := R3.below hb13
      have hz13 := hb13.size
      replace hb := chain hb hb13
      clear hb13
      obtain ⟨q0_BA, q1_BA, q2_BA, q3_BA, qf_BA, ql_BA⟩ := BA.four
      obtain ⟨q0_B0, q1_B0, qf_B0, ql_B0⟩ := B0.two
      obtain ⟨q0_B3, q1_B3, qf_B3, ql_B3⟩ := B3.two
      go_wp2_with fail
      clear q0_BA q1_BA q2_BA q3_BA qf_BA ql_BA
      clear q0_B0 q1_B0 qf_B0 ql_B0
      clear q0_B3 q1_B3 qf_B3 ql_B3
      refine (HT2.out _ (r2.below hb)).mono ?_
      rintro e w14 ⟨gq, rfl, hg14, R4, hb14⟩
      replace BA := BA.below hb14
      replace B0 := B0.below hb14
      replace R1 := R1.below hb14
      replace R2 := R2.below hb14
      replace B3 := B3.below hb14
      replace R3 := R3.below hb14
      have hz14 := hb14.size
      replace hb := chain hb hb14
      clear hb14
      obtain ⟨q0_BA, q1_BA, q2_BA, q3_BA, qf_BA, ql_BA⟩ := BA.four
      obtain ⟨q0_B0, q1_B0, qf_B0, ql_B0⟩ := B0.two
      obtain ⟨q0_B3, q1_B3, qf_B3, ql_B3⟩ := B3.two
      go_wp2_with fail
      clear q0_BA q1_BA q2_BA q3_BA qf_BA ql_BA
      clear q0_B0 q1_B0 qf_B0 ql_B0
      clear q0_B3 q1_B3 qf_B3 ql_B3
      refine (eqInt64S_same _ _ _ _ _ ys _ rfl hl2 R2.irow R4.irow).mono ?_
      rintro e w15 ⟨rfl, hb15⟩
      replace BA := BA.below hb15
      replace B0 := B0.below hb15
      replace R1 := R1.below hb15
      replace R2 := R2.below hb15
      replace B3 := B3.below hb15
      replace R3 := R3.below hb15
      replace R4 := R4.below hb15
      have hz15 := hb15.size
      replace hb := chain hb hb15
      clear hb15
      obtain ⟨q0_BA, q1_BA, q2_BA, q3_BA, qf_BA, ql_BA⟩ := BA.four
      obtain ⟨q0_B0, q1_B0, qf_B0, ql_B0⟩ := B0.two
      obtain ⟨q0_B3, q1_B3, qf_B3, ql_B3⟩ := B3.two
      go_wp2_with fail
      go_ret
      exact ⟨rfl, hb⟩
    · have hl2' : ¬ (ys.length : Int) ≤ 1048576 := by omega
      go_enter Tryz.func10, Tryz.ntmps10
      go_wp2_with fail
      go_ret
      exact ⟨rfl, hb⟩
  · have hl1' : ¬ (xs.length : Int) ≤ 1048576 := by omega
    go_enter Tryz.func10, Tryz.ntmps10
    go_wp2_with fail
    go_ret
    exact ⟨rfl, hb⟩
set_option maxRecDepth 100000 in
theorem fnExactSecondChance_lifted (os : Os) (started : os.Started) (H : Type) (enc : TypeId × Value → H) :
    ReturnsInHanded {} Tryz.checked os 10 .any (Rows.fnExactSecondChanceSpec.pre6 enc Tryz.prog Tryz.f10 Rows.fnExactSecondChanceRow.domain false) (Rows.fnExactSecondChanceSpec.post enc Tryz.prog Tryz.f10 false true false false) := by
  refine returnsInHanded_of_change (C := Tryz.checked) own started (by kernel_rfl) Tryz.func10
    (ChangeSpec.witness6 (enc := enc) (C := Tryz.checked) false ⟨#[], #[.agg #[.int .i64 0, .int .i64 0, .int .i64 0, .int .i64 0], .slice none 0 0, .slice none 0 0], []⟩ 8 (by kernel_rfl) (by kernel_rfl) (by kernel_rfl) (by kernel_rfl)) ?_
  intro W base args ds gs before hval0 hW hcnd _
  have hval : ∀ (j : Nat) t v, Tryz.f10.params[j]? = some t → args[j]? = some v → Value.okWide Tryz.prog W .any base t v := hval0
  have hW' := hW
  obtain ⟨p, q, hA0, hV, rfl, hfz, hnd⟩ := hW
  have hA : DataW.TrodAll enc Tryz.prog W 0 (fun _ => true) true Tryz.f10.params.toList args.toList ds p := hA0
  rw [Tryz.params10] at hA hval
  obtain ⟨v0, vs0, d0, ds0, p0, q0, hargs, rfl, rfl, h0, r0⟩ := trodAll_cons hA
  obtain ⟨v1, vs1, d1, ds1, p1, q1, rfl, rfl, rfl, h1, r1⟩ := trodAll_cons r0
  obtain ⟨v2, vs2, d2, ds2, p2, q2, rfl, rfl, rfl, h2, r2⟩ := trodAll_cons r1
  obtain ⟨rfl, rfl, rfl⟩ := trodAll_nil r2
  obtain rfl : args = #[v0, v1, v2] := by cases args; simp_all
  obtain ⟨rfl, rfl⟩ := trodVars_none hV
  have k0 := h0
  have lt0 : ∀ x ∈ p0, x.block < W.heap.size := by obtain ⟨m, hm⟩ := k0; exact DataW.trod_lt m _ _ _ hm
  have k1 := h1
  have lt1 : ∀ x ∈ p1, x.block < W.heap.size := by obtain ⟨m, hm⟩ := k1; exact DataW.trod_lt m _ _ _ hm
  have k2 := h2
  have lt2 : ∀ x ∈ p2, x.block < W.heap.size := by obtain ⟨m, hm⟩ := k2; exact DataW.trod_lt m _ _ _ hm
  obtain ⟨x0_0, x1_0, x2_0, x3_0, y0_0, y1_0, y2_0, y3_0, m_0, rfl, _, _, hy0_0, hy1_0, hy2_0, hy3_0⟩ := Joins.open_agg4 Tryz.underlying34 (by kernel_rfl) (show Tryz.prog.cellsOf 34 = 4 by kernel_rfl) (hval 0 34 v0 rfl rfl) h0
  obtain ⟨a0_0, e0_0, _, wa0_0⟩ := DataW.trod_int Tryz.underlying2 hy0_0
  obtain ⟨a1_0, e1_0, _, wa1_0⟩ := DataW.trod_int Tryz.underlying2 hy1_0
  obtain ⟨a2_0, e2_0, _, wa2_0⟩ := DataW.trod_int Tryz.underlying2 hy2_0
  obtain ⟨a3_0, e3_0, _, wa3_0⟩ := DataW.trod_int Tryz.underlying2 hy3_0
  simp at e0_0 e1_0 e2_0 e3_0
  subst e0_0 e1_0 e2_0 e3_0
  obtain ⟨sa_1, sl_1, sc_1, rfl⟩ := okWide_slice Tryz.underlying26 (hval 1 26 v1 rfl rfl)
  obtain ⟨ra_1, rn_1, rc_1, rx_1, hv_1, rl_1, rm_1, rr_1, rw_1⟩ : ∃ (a : Option Addr) (n cap : Nat) (xs : List Int), Value.slice sa_1 sl_1 sc_1 = .slice a n cap ∧ xs.length = n ∧ n ≤ 9223372036854775807 ∧ IRow W a xs ∧ ∀ y ∈ xs, (Lit.int .i64 y).wf = true := by
    obtain ⟨fuel, hf⟩ := h1
    exact open_row hf
  simp only [Value.slice.injEq] at hv_1
  obtain ⟨rfl, rfl, rfl⟩ := hv_1
  obtain ⟨sa_2, sl_2, sc_2, rfl⟩ := okWide_slice Tryz.underlying26 (hval 2 26 v2 rfl rfl)
  obtain ⟨ra_2, rn_2, rc_2, rx_2, hv_2, rl_2, rm_2, rr_2, rw_2⟩ : ∃ (a : Option Addr) (n cap : Nat) (xs : List Int), Value.slice sa_2 sl_2 sc_2 = .slice a n cap ∧ xs.length = n ∧ n ≤ 9223372036854775807 ∧ IRow W a xs ∧ ∀ y ∈ xs, (Lit.int .i64 y).wf = true := by
    obtain ⟨fuel, hf⟩ := h2
    exact open_row hf
  simp only [Value.slice.injEq] at hv_2
  obtain ⟨rfl, rfl, rfl⟩ := hv_2
  clear hA0 hval0
  refine (fnExactSecondChance_walk a0_0 a1_0 a2_0 a3_0 sa_1 sl_1 sc_1 rx_1 sa_2 sl_2 sc_2 rx_2 W rl_1 rm_1 rr_1 rl_2 rm_2 rr_2).mono fun e W' ⟨he, bel⟩ => ?_
  subst he
  exact ⟨_, rfl, _, _, _, [], _, [], hW', trodAll_mk1 (shut_bool Tryz.underlying4 _), (trodAll_cons_mk (Below.trod laidOut (by kernel_rfl) (of_decide_eq_true (by kernel_rfl)) k0 bel lt0) (trodAll_cons_mk (Below.trod laidOut (by kernel_rfl) (of_decide_eq_true (by kernel_rfl)) k1 bel lt1) (trodAll_cons_mk (Below.trod laidOut (by kernel_rfl) (of_decide_eq_true (by kernel_rfl)) k2 bel lt2) trodAll_mk0))), rfl, bel.frame _, fun h => by cases h⟩
theorem fnExactSecondChance_holds : Rows.FnExactSecondChanceSaid :=
  OpenClaim.holds_of_wide 10 Tryz.f10 rfl rfl rfl rfl rfl rfl rfl ⟨rfl, rfl, rfl, rfl, rfl⟩ rfl rfl rfl rfl rfl (by kernel_rfl) Tryz.func10 (by kernel_rfl)
    (of_decide_eq_true (by kernel_rfl)) (by unfold Func.isWrapper; first | (rw [if_pos (by decide +kernel)]; kernel_rfl) | (rw [if_neg (by decide +kernel)]; exact ⟨rfl, rfl⟩))
    (fun os started H enc _ => fnExactSecondChance_lifted os started H enc)
end Go.Proofs.YtfomfbfcnenhbaaGreat
