/- The exact laws of chapter 10 on the number of a position and on the position with a number hold: for every input the law returns true and its arguments read behind the call as they read before. No conditions. -/
import Derived.Test.Ythnkckflajkaiaa10h
import Derived.Test.YthnkckflajkaiaaOpen
import Derived.ChangeOld
namespace Go.Proofs.Ythnkckflajkaiaa
open Go.ChangeMaps (open_string shut_string)
open Go.ChangeShapes Go.WideShapes Go.ChangeAt Go.RowKit
set_option linter.unusedVariables false
set_option linter.unusedSimpArgs false

theorem fnExactBearoffNumber_both (p c h s : Int) (xs : List Int) (n : Nat) (hn : xs.length = n) (hle : n ≤ 1048576) : ∃ r1 r2 : Int,
    (∀ (a : Option Addr) (cap : Nat) (w : World), IRow w a xs → Calls Try.prog 29 #[.agg #[.int .i64 p, .int .i64 c, .int .i64 h, .int .i64 s], .slice a n cap] w fun e w' => e = .returned (.tuple #[.int .i64 r1, .int .i64 r2]) ∧ Below w.heap.size w w') ∧
    (∀ (a : Option Addr) (cap : Nat) (w : World), IRow w a xs → Calls Try.prog 30 #[.agg #[.int .i64 p, .int .i64 c, .int .i64 h, .int .i64 s], .slice a n cap] w fun e w' => e = .returned (.tuple #[.int .i64 r1, .int .i64 r2]) ∧ Below w.heap.size w w') :=
  ⟨_, _, fun a cap w r => specBearoffNumber_any p c h s a n cap xs w hn hle r, fun a cap w r => bearoffNumber_any p c h s a n cap xs w hn hle r⟩
set_option maxHeartbeats 1000000 in
theorem fnExactBearoffNumber_walk (p c h s : Int) (a : Option Addr) (n cap : Nat) (xs : List Int) (w : World) (hn : xs.length = n) (hm : n ≤ 9223372036854775807) (hr : IRow w a xs) :
    Calls Try.prog 7 #[.agg #[.int .i64 p, .int .i64 c, .int .i64 h, .int .i64 s], .slice a n cap] w fun e w' => e = .returned (.bool true) ∧ Below w.heap.size w w' := by
  have BV := Blk.new w #[.int .i64 p, .int .i64 c, .int .i64 h, .int .i64 s] 23
  have hb : Below w.heap.size w (w.alloc (.cells #[.int .i64 p, .int .i64 c, .int .i64 h, .int .i64 s] 23)) := (Below.refl _ _).alloc (Nat.le_refl _) _
  by_cases hle : n ≤ 1048576
  · have hle' : (n : Int) ≤ 1048576 := by omega
    obtain ⟨r1, r2, hsp, him⟩ := fnExactBearoffNumber_both p c h s xs n hn hle
    have HSP := Lib.hid hsp
    have HIM := Lib.hid him
    clear hsp him
    subst hn
    go_enter Try.func7, Try.ntmps7
    obtain ⟨x0, x1, x2, x3, xf, xl⟩ := BV.four
    go_wp2_with fail
    generalize (w.alloc (.cells #[.int .i64 p, .int .i64 c, .int .i64 h, .int .i64 s] 23)) = v0 at *
    go_wp2_with fail
    refine (toVariant_any _ _ _ _ _).mono ?_
    rintro e w1 ⟨rfl, hb1⟩
    clear x0 x1 x2 x3 xf xl
    replace BV := BV.below hb1
    have hz1 := hb1.size
    replace hb := chain hb hb1
    clear hb1
    obtain ⟨x0, x1, x2, x3, xf, xl⟩ := BV.four
    go_wp2_with fail
    refine (toInt64S_any a _ cap xs _ rfl hle (hr.below hb)).mono ?_
    rintro e w2 ⟨g1, rfl, hg1, R1, hb2⟩
    clear x0 x1 x2 x3 xf xl
    replace BV := BV.below hb2
    have hz2 := hb2.size
    replace hb := chain hb hb2
    clear hb2
    obtain ⟨x0, x1, x2, x3, xf, xl⟩ := BV.four
    go_wp2_with fail
    refine (HSP.out _ _ _ R1.irow).mono ?_
    rintro e w3 ⟨rfl, hb3⟩
    clear x0 x1 x2 x3 xf xl
    replace BV := BV.below hb3
    replace R1 := R1.below hb3
    have hz3 := hb3.size
    replace hb := chain hb hb3
    clear hb3
    clear R1
    obtain ⟨x0, x1, x2, x3, xf, xl⟩ := BV.four
    go_wp2_with fail
    refine (toInt64S_any a _ cap xs _ rfl hle (hr.below hb)).mono ?_
    rintro e w4 ⟨g2, rfl, hg2, R2, hb4⟩
    clear x0 x1 x2 x3 xf xl
    replace BV := BV.below hb4
    have hz4 := hb4.size
    replace hb := chain hb hb4
    clear hb4
    obtain ⟨x0, x1, x2, x3, xf, xl⟩ := BV.four
    go_wp2_with fail
    refine (toVariant_any _ _ _ _ _).mono ?_
    rintro e w5 ⟨rfl, hb5⟩
    clear x0 x1 x2 x3 xf xl
    replace BV := BV.below hb5
    replace R2 := R2.below hb5
    have hz5 := hb5.size
    replace hb := chain hb hb5
    clear hb5
    obtain ⟨x0, x1, x2, x3, xf, xl⟩ := BV.four
    go_wp2_with fail
    refine (HIM.out _ _ _ R2.irow).mono ?_
    rintro e w6 ⟨rfl, hb6⟩
    clear x0 x1 x2 x3 xf xl
    replace BV := BV.below hb6
    replace R2 := R2.below hb6
    have hz6 := hb6.size
    replace hb := chain hb hb6
    clear hb6
    obtain ⟨x0, x1, x2, x3, xf, xl⟩ := BV.four
    go_wp2_with fail
    refine (toInt64S_any a _ cap xs _ rfl hle (hr.below hb)).mono ?_
    rintro e w7 ⟨g3, rfl, hg3, R3, hb7⟩
    clear x0 x1 x2 x3 xf xl
    replace BV := BV.below hb7
    replace R2 := R2.below hb7
    have hz7 := hb7.size
    replace hb := chain hb hb7
    clear hb7
    obtain ⟨x0, x1, x2, x3, xf, xl⟩ := BV.four
    go_wp2_with fail
    refine (eqInt64S_same _ _ _ _ _ xs _ rfl hle R2.irow R3.irow).mono ?_
    rintro e w8 ⟨rfl, hb8⟩
    clear x0 x1 x2 x3 xf xl
    replace BV := BV.below hb8
    replace R2 := R2.below hb8
    replace R3 := R3.below hb8
    have hz8 := hb8.size
    replace hb := chain hb hb8
    clear hb8
    obtain ⟨x0, x1, x2, x3, xf, xl⟩ := BV.four
    go_wp2_with fail
    go_ret
    exact ⟨rfl, hb⟩
  · have hle' : ¬ (n : Int) ≤ 1048576 := by omega
    go_enter Try.func7, Try.ntmps7
    go_wp2_with fail
    go_ret
    exact ⟨rfl, hb⟩
set_option maxRecDepth 100000 in
theorem fnExactBearoffNumber_lifted (os : Os) (started : os.Started) (H : Type) (enc : TypeId × Value → H) :
    ReturnsInHanded {} Try.checked os 7 .any (Rows.fnExactBearoffNumberSpec.pre6 enc Try.prog Try.f7 Rows.fnExactBearoffNumberRow.domain false) (Rows.fnExactBearoffNumberSpec.post enc Try.prog Try.f7 false true false false) := by
  refine returnsInHanded_of_change (C := Try.checked) own started (by kernel_rfl) Try.func7
    (ChangeSpec.witness6 (enc := enc) (C := Try.checked) false ⟨#[], #[.agg #[.int .i64 0, .int .i64 0, .int .i64 0, .int .i64 0], .slice none 0 0], []⟩ 8 (by kernel_rfl) (by kernel_rfl) (by kernel_rfl) (by kernel_rfl)) ?_
  intro W base args ds gs before hval0 hW hcnd _
  have hval : ∀ (j : Nat) t v, Try.f7.params[j]? = some t → args[j]? = some v → Value.okWide Try.prog W .any base t v := hval0
  have hW' := hW
  obtain ⟨p, q, hA0, hV, rfl, hfz, hnd⟩ := hW
  have hA : DataW.TrodAll enc Try.prog W 0 (fun _ => true) true Try.f7.params.toList args.toList ds p := hA0
  rw [Try.params7] at hA hval
  obtain ⟨v0, vs0, d0, ds0, p0, q0, hargs, rfl, rfl, h0, r0⟩ := trodAll_cons hA
  obtain ⟨v1, vs1, d1, ds1, p1, q1, rfl, rfl, rfl, h1, r1⟩ := trodAll_cons r0
  obtain ⟨rfl, rfl, rfl⟩ := trodAll_nil r1
  obtain rfl : args = #[v0, v1] := by cases args; simp_all
  obtain ⟨rfl, rfl⟩ := trodVars_none hV
  have k0 := h0
  have lt0 : ∀ x ∈ p0, x.block < W.heap.size := by obtain ⟨m, hm⟩ := k0; exact DataW.trod_lt m _ _ _ hm
  have k1 := h1
  have lt1 : ∀ x ∈ p1, x.block < W.heap.size := by obtain ⟨m, hm⟩ := k1; exact DataW.trod_lt m _ _ _ hm
  obtain ⟨x0_0, x1_0, x2_0, x3_0, y0_0, y1_0, y2_0, y3_0, m_0, rfl, _, _, hy0_0, hy1_0, hy2_0, hy3_0⟩ := Joins.open_agg4 Try.underlying23 (by kernel_rfl) (show Try.prog.cellsOf 23 = 4 by kernel_rfl) (hval 0 23 v0 rfl rfl) h0
  obtain ⟨a0_0, e0_0, _, wa0_0⟩ := DataW.trod_int Try.underlying2 hy0_0
  obtain ⟨a1_0, e1_0, _, wa1_0⟩ := DataW.trod_int Try.underlying2 hy1_0
  obtain ⟨a2_0, e2_0, _, wa2_0⟩ := DataW.trod_int Try.underlying2 hy2_0
  obtain ⟨a3_0, e3_0, _, wa3_0⟩ := DataW.trod_int Try.underlying2 hy3_0
  simp at e0_0 e1_0 e2_0 e3_0
  subst e0_0 e1_0 e2_0 e3_0
  obtain ⟨sa_1, sl_1, sc_1, rfl⟩ := okWide_slice Try.underlying24 (hval 1 24 v1 rfl rfl)
  obtain ⟨ra_1, rn_1, rc_1, rx_1, hv_1, rl_1, rm_1, rr_1, rw_1⟩ : ∃ (a : Option Addr) (n cap : Nat) (xs : List Int), Value.slice sa_1 sl_1 sc_1 = .slice a n cap ∧ xs.length = n ∧ n ≤ 9223372036854775807 ∧ IRow W a xs ∧ ∀ y ∈ xs, (Lit.int .i64 y).wf = true := by
    obtain ⟨fuel, hf⟩ := h1
    exact open_row hf
  simp only [Value.slice.injEq] at hv_1
  obtain ⟨rfl, rfl, rfl⟩ := hv_1
  clear hA0 hval0
  refine (fnExactBearoffNumber_walk a0_0 a1_0 a2_0 a3_0 sa_1 sl_1 sc_1 rx_1 W rl_1 rm_1 rr_1).mono fun e W' ⟨he, bel⟩ => ?_
  subst he
  exact ⟨_, rfl, _, _, _, [], _, [], hW', trodAll_mk1 (shut_bool Try.underlying4 _), (trodAll_cons_mk (Below.trod laidOut (by kernel_rfl) (of_decide_eq_true (by kernel_rfl)) k0 bel lt0) (trodAll_cons_mk (Below.trod laidOut (by kernel_rfl) (of_decide_eq_true (by kernel_rfl)) k1 bel lt1) trodAll_mk0)), rfl, bel.frame _, fun h => by cases h⟩
theorem fnExactBearoffNumber_holds : Rows.FnExactBearoffNumberSaid :=
  OpenClaim.holds_of_wide 7 Try.f7 rfl rfl rfl rfl rfl rfl rfl ⟨rfl, rfl, rfl, rfl, rfl⟩ rfl rfl rfl rfl rfl (by kernel_rfl) Try.func7 (by kernel_rfl)
    (of_decide_eq_true (by kernel_rfl)) (by unfold Func.isWrapper; first | (rw [if_pos (by decide +kernel)]; kernel_rfl) | (rw [if_neg (by decide +kernel)]; exact ⟨rfl, rfl⟩))
    (fun os started H enc _ => fnExactBearoffNumber_lifted os started H enc)
theorem baL_length (p c h s k : Int) : (baL p c h s k).length ≤ 1048576 := by
  unfold baL
  split
  · rename_i q
    have hv := vB_iff.1 q.1
    have z := q.2.2
    simp only [okK, decide_eq_true_eq] at z
    rw [List.length_reverse, unrI_length _ _ _ (by omega)]
    omega
  · simp
theorem fnExactBearoffAt_both (p c h s k : Int) : ∃ (xs : List Int) (r : Int), xs.length ≤ 1048576 ∧
    (∀ w : World, Calls Try.prog 31 #[.agg #[.int .i64 p, .int .i64 c, .int .i64 h, .int .i64 s], .int .i64 k] w (SliceGot2 xs r w)) ∧ (∀ w : World, Calls Try.prog 32 #[.agg #[.int .i64 p, .int .i64 c, .int .i64 h, .int .i64 s], .int .i64 k] w (SliceGot2 xs r w)) :=
  ⟨_, _, baL_length p c h s k, fun w => specBearoffAt_any p c h s k w, fun w => bearoffAt_any p c h s k w⟩
set_option maxHeartbeats 1000000 in
theorem fnExactBearoffAt_walk (p c h s k : Int) (w : World) :
    Calls Try.prog 8 #[.agg #[.int .i64 p, .int .i64 c, .int .i64 h, .int .i64 s], .int .i64 k] w fun e w' => e = .returned (.bool true) ∧ Below w.heap.size w w' := by
  have BV := Blk.new w #[.int .i64 p, .int .i64 c, .int .i64 h, .int .i64 s] 23
  have hb : Below w.heap.size w (w.alloc (.cells #[.int .i64 p, .int .i64 c, .int .i64 h, .int .i64 s] 23)) := (Below.refl _ _).alloc (Nat.le_refl _) _
  have hl0 := BV.lt
  obtain ⟨xs, r, hle, hsp, him⟩ := fnExactBearoffAt_both p c h s k
  have HSP := Lib.hid hsp
  have HIM := Lib.hid him
  clear hsp him
  go_enter Try.func8, Try.ntmps8
  obtain ⟨x0, x1, x2, x3, xf, xl⟩ := BV.four
  go_wp2_with fail
  generalize (w.alloc (.cells #[.int .i64 p, .int .i64 c, .int .i64 h, .int .i64 s] 23)) = v0 at *
  go_wp2_with fail
  refine (toVariant_any _ _ _ _ _).mono ?_
  rintro e w1 ⟨rfl, hb1⟩
  clear x0 x1 x2 x3 xf xl
  replace BV := BV.below hb1
  have hz1 := hb1.size
  replace hb := chain hb hb1
  clear hb1
  obtain ⟨x0, x1, x2, x3, xf, xl⟩ := BV.four
  go_wp2_with fail
  refine (HSP.out _).mono ?_
  rintro e w2 ⟨a1, k1, rfl, O1, hb2⟩
  clear x0 x1 x2 x3 xf xl
  replace BV := BV.below hb2
  have hz2 := hb2.size
  replace hb := chain hb hb2
  clear hb2
  obtain ⟨x0, x1, x2, x3, xf, xl⟩ := BV.four
  go_wp2_with fail
  refine (toVariant_any _ _ _ _ _).mono ?_
  rintro e w3 ⟨rfl, hb3⟩
  clear x0 x1 x2 x3 xf xl
  replace BV := BV.below hb3
  replace O1 := O1.below hb3
  have hz3 := hb3.size
  replace hb := chain hb hb3
  clear hb3
  obtain ⟨x0, x1, x2, x3, xf, xl⟩ := BV.four
  go_wp2_with fail
  refine (HIM.out _).mono ?_
  rintro e w4 ⟨a2, k2, rfl, O2, hb4⟩
  clear x0 x1 x2 x3 xf xl
  replace BV := BV.below hb4
  replace O1 := O1.below hb4
  have hz4 := hb4.size
  replace hb := chain hb hb4
  clear hb4
  obtain ⟨x0, x1, x2, x3, xf, xl⟩ := BV.four
  go_wp2_with fail
  refine (eqInt64S_same _ _ _ _ _ xs _ rfl hle O2.irow O1.irow).mono ?_
  rintro e w5 ⟨rfl, hb5⟩
  clear x0 x1 x2 x3 xf xl
  replace BV := BV.below hb5
  replace O1 := O1.below hb5
  replace O2 := O2.below hb5
  have hz5 := hb5.size
  replace hb := chain hb hb5
  clear hb5
  obtain ⟨x0, x1, x2, x3, xf, xl⟩ := BV.four
  go_wp2_with fail
  refine (markS_own _ _ _ _ _ xs 1 _ rfl hle (by omega) (by omega) O2).mono ?_
  rintro e w6 ⟨rfl, O2, hs6⟩
  clear x0 x1 x2 x3 xf xl
  replace BV := BV.same hs6 (by omega)
  replace O1 := O1.same hs6 (by omega)
  replace hb := below_same hb hs6 (by omega) (by omega)
  clear hs6
  obtain ⟨x0, x1, x2, x3, xf, xl⟩ := BV.four
  have hq : ¬ ((1 : Int) + (xs.length : Int) < 0) := by omega
  go_wp2_with fail
  refine (heldInt64S_any _ xs.length _ 1 _ hle (by omega) (by omega) O2.irow).mono ?_
  rintro e w7 ⟨rfl, rfl⟩
  go_wp2_with fail
  refine (toVariant_any _ _ _ _ _).mono ?_
  rintro e w8 ⟨rfl, hb8⟩
  clear x0 x1 x2 x3 xf xl
  replace BV := BV.below hb8
  replace O1 := O1.below hb8
  replace O2 := O2.below hb8
  have hz8 := hb8.size
  replace hb := chain hb hb8
  clear hb8
  obtain ⟨x0, x1, x2, x3, xf, xl⟩ := BV.four
  go_wp2_with fail
  refine (HIM.out _).mono ?_
  rintro e w9 ⟨a3, k3, rfl, O3, hb9⟩
  clear x0 x1 x2 x3 xf xl
  replace BV := BV.below hb9
  replace O1 := O1.below hb9
  replace O2 := O2.below hb9
  have hz9 := hb9.size
  replace hb := chain hb hb9
  clear hb9
  obtain ⟨x0, x1, x2, x3, xf, xl⟩ := BV.four
  go_wp2_with fail
  refine (eqInt64S_same _ _ _ _ _ xs _ rfl hle O3.irow O1.irow).mono ?_
  rintro e w10 ⟨rfl, hb10⟩
  clear x0 x1 x2 x3 xf xl
  replace BV := BV.below hb10
  replace O1 := O1.below hb10
  replace O2 := O2.below hb10
  replace O3 := O3.below hb10
  have hz10 := hb10.size
  replace hb := chain hb hb10
  clear hb10
  obtain ⟨x0, x1, x2, x3, xf, xl⟩ := BV.four
  go_wp2_with fail
  refine (heldInt64S_any _ xs.length _ 1 _ hle (by omega) (by omega) O2.irow).mono ?_
  rintro e w11 ⟨rfl, rfl⟩
  go_wp2_with fail
  go_ret
  exact ⟨rfl, hb⟩
set_option maxRecDepth 100000 in
theorem fnExactBearoffAt_lifted (os : Os) (started : os.Started) (H : Type) (enc : TypeId × Value → H) :
    ReturnsInHanded {} Try.checked os 8 .any (Rows.fnExactBearoffAtSpec.pre6 enc Try.prog Try.f8 Rows.fnExactBearoffAtRow.domain false) (Rows.fnExactBearoffAtSpec.post enc Try.prog Try.f8 false true false false) := by
  refine returnsInHanded_of_change (C := Try.checked) own started (by kernel_rfl) Try.func8
    (ChangeSpec.witness6 (enc := enc) (C := Try.checked) false ⟨#[], #[.agg #[.int .i64 0, .int .i64 0, .int .i64 0, .int .i64 0], .int .i64 0], []⟩ 8 (by kernel_rfl) (by kernel_rfl) (by kernel_rfl) (by kernel_rfl)) ?_
  intro W base args ds gs before hval0 hW hcnd _
  have hval : ∀ (j : Nat) t v, Try.f8.params[j]? = some t → args[j]? = some v → Value.okWide Try.prog W .any base t v := hval0
  have hW' := hW
  obtain ⟨p, q, hA0, hV, rfl, hfz, hnd⟩ := hW
  have hA : DataW.TrodAll enc Try.prog W 0 (fun _ => true) true Try.f8.params.toList args.toList ds p := hA0
  rw [Try.params8] at hA hval
  obtain ⟨v0, vs0, d0, ds0, p0, q0, hargs, rfl, rfl, h0, r0⟩ := trodAll_cons hA
  obtain ⟨v1, vs1, d1, ds1, p1, q1, rfl, rfl, rfl, h1, r1⟩ := trodAll_cons r0
  obtain ⟨rfl, rfl, rfl⟩ := trodAll_nil r1
  obtain rfl : args = #[v0, v1] := by cases args; simp_all
  obtain ⟨rfl, rfl⟩ := trodVars_none hV
  have k0 := h0
  have lt0 : ∀ x ∈ p0, x.block < W.heap.size := by obtain ⟨m, hm⟩ := k0; exact DataW.trod_lt m _ _ _ hm
  have k1 := h1
  have lt1 : ∀ x ∈ p1, x.block < W.heap.size := by obtain ⟨m, hm⟩ := k1; exact DataW.trod_lt m _ _ _ hm
  obtain ⟨x0_0, x1_0, x2_0, x3_0, y0_0, y1_0, y2_0, y3_0, m_0, rfl, _, _, hy0_0, hy1_0, hy2_0, hy3_0⟩ := Joins.open_agg4 Try.underlying23 (by kernel_rfl) (show Try.prog.cellsOf 23 = 4 by kernel_rfl) (hval 0 23 v0 rfl rfl) h0
  obtain ⟨a0_0, e0_0, _, wa0_0⟩ := DataW.trod_int Try.underlying2 hy0_0
  obtain ⟨a1_0, e1_0, _, wa1_0⟩ := DataW.trod_int Try.underlying2 hy1_0
  obtain ⟨a2_0, e2_0, _, wa2_0⟩ := DataW.trod_int Try.underlying2 hy2_0
  obtain ⟨a3_0, e3_0, _, wa3_0⟩ := DataW.trod_int Try.underlying2 hy3_0
  simp at e0_0 e1_0 e2_0 e3_0
  subst e0_0 e1_0 e2_0 e3_0
  obtain ⟨n_1, rfl, _, _, wn_1⟩ := open_int Try.underlying2 (hval 1 2 v1 rfl rfl) h1
  clear hA0 hval0
  refine (fnExactBearoffAt_walk a0_0 a1_0 a2_0 a3_0 n_1 W).mono fun e W' ⟨he, bel⟩ => ?_
  subst he
  exact ⟨_, rfl, _, _, _, [], _, [], hW', trodAll_mk1 (shut_bool Try.underlying4 _), (trodAll_cons_mk (Below.trod laidOut (by kernel_rfl) (of_decide_eq_true (by kernel_rfl)) k0 bel lt0) (trodAll_cons_mk (Below.trod laidOut (by kernel_rfl) (of_decide_eq_true (by kernel_rfl)) k1 bel lt1) trodAll_mk0)), rfl, bel.frame _, fun h => by cases h⟩
theorem fnExactBearoffAt_holds : Rows.FnExactBearoffAtSaid :=
  OpenClaim.holds_of_wide 8 Try.f8 rfl rfl rfl rfl rfl rfl rfl ⟨rfl, rfl, rfl, rfl, rfl⟩ rfl rfl rfl rfl rfl (by kernel_rfl) Try.func8 (by kernel_rfl)
    (of_decide_eq_true (by kernel_rfl)) (by unfold Func.isWrapper; first | (rw [if_pos (by decide +kernel)]; kernel_rfl) | (rw [if_neg (by decide +kernel)]; exact ⟨rfl, rfl⟩))
    (fun os started H enc _ => fnExactBearoffAt_lifted os started H enc)
end Go.Proofs.Ythnkckflajkaiaa
