/- The exact law of chapter 10 on the next position holds: for every input the law returns true and its arguments read behind the call as they read before. No conditions. -/
import Derived.Test.Ythnkckflajkaiaa10j
import Derived.Test.YthnkckflajkaiaaOpen
import Derived.ChangeOld
namespace Go.Proofs.Ythnkckflajkaiaa
open Go.ChangeMaps (open_string shut_string)
open Go.ChangeShapes Go.WideShapes Go.ChangeAt Go.RowKit
set_option linter.unusedVariables false
set_option linter.unusedSimpArgs false

theorem nxL_length (p c h s : Int) (xs : List Int) (hx : xs.length ≤ 1048576) : (nxL p c h s xs).length ≤ 1048576 := by
  unfold nxL
  split
  · rw [nxR_length]; exact hx
  · simp
theorem fnExactNextBearoff_both (p c h s : Int) (bs : List Int) (n : Nat) (hn : bs.length = n) (hle : n ≤ 1048576) : ∃ (xs : List Int) (r : Int), xs.length ≤ 1048576 ∧
    (∀ (a : Option Addr) (cap : Nat) (w : World), IRow w a bs → Calls Try.prog 25 #[.agg #[.int .i64 p, .int .i64 c, .int .i64 h, .int .i64 s], .slice a n cap] w (SliceGot2 xs r w)) ∧
    (∀ (a : Option Addr) (cap : Nat) (w : World), IRow w a bs → Calls Try.prog 26 #[.agg #[.int .i64 p, .int .i64 c, .int .i64 h, .int .i64 s], .slice a n cap] w (SliceGot2 xs r w)) :=
  ⟨_, _, nxL_length p c h s bs (by omega), fun a cap w r => specNextBearoff_any p c h s a n cap bs w hn hle r, fun a cap w r => nextBearoff_any p c h s a n cap bs w hn hle r⟩
set_option maxHeartbeats 4000000 in
theorem fnExactNextBearoff_walk (p c h s : Int) (a : Option Addr) (n cap : Nat) (bs : List Int) (w : World) (hn : bs.length = n) (hm : n ≤ 9223372036854775807) (hr : IRow w a bs) :
    Calls Try.prog 6 #[.agg #[.int .i64 p, .int .i64 c, .int .i64 h, .int .i64 s], .slice a n cap] w fun e w' => e = .returned (.bool true) ∧ Below w.heap.size w w' := by
  have BV := Blk.new w #[.int .i64 p, .int .i64 c, .int .i64 h, .int .i64 s] 23
  have hb : Below w.heap.size w (w.alloc (.cells #[.int .i64 p, .int .i64 c, .int .i64 h, .int .i64 s] 23)) := (Below.refl _ _).alloc (Nat.le_refl _) _
  have hl0 := BV.lt
  by_cases hle : n ≤ 1048576
  · have hle' : (n : Int) ≤ 1048576 := by omega
    obtain ⟨xs, r, lX, hsp, him⟩ := fnExactNextBearoff_both p c h s bs n hn hle
    have HSP := Lib.hid hsp
    have HIM := Lib.hid him
    clear hsp him
    subst hn
    have h80b : decide ((1048576 : Int) < (bs.length : Int)) = false := by rw [decide_eq_false_iff_not]; omega
    have h80c : decide (1048576 < bs.length) = false := by rw [decide_eq_false_iff_not]; omega
    go_enter Try.func6, Try.ntmps6
    obtain ⟨x0, x1, x2, x3, xf, xl⟩ := BV.four
    go_wp2_with fail
    clear x0 x1 x2 x3 xf xl h80b h80c
    generalize (w.alloc (.cells #[.int .i64 p, .int .i64 c, .int .i64 h, .int .i64 s] 23)) = v0 at *
    obtain ⟨x0, x1, x2, x3, xf, xl⟩ := BV.four
    go_wp2_with fail
    clear x0 x1 x2 x3 xf xl
    refine (toVariant_any _ _ _ _ _).mono ?_
    rintro e w1 ⟨rfl, hb1⟩
    replace BV := BV.below hb1
    have hz1 := hb1.size
    replace hb := chain hb hb1
    clear hb1
    obtain ⟨x0, x1, x2, x3, xf, xl⟩ := BV.four
    go_wp2_with fail
    clear x0 x1 x2 x3 xf xl
    refine (toInt64S_any a _ cap bs _ rfl hle (hr.below hb)).mono ?_
    rintro e w2 ⟨g1, rfl, hg1, R1, hb2⟩
    replace BV := BV.below hb2
    have hz2 := hb2.size
    replace hb := chain hb hb2
    clear hb2
    obtain ⟨x0, x1, x2, x3, xf, xl⟩ := BV.four
    go_wp2_with fail
    clear x0 x1 x2 x3 xf xl
    refine (HSP.out _ _ _ R1.irow).mono ?_
    rintro e w3 ⟨a0, k0, rfl, O0, hb3⟩
    replace BV := BV.below hb3
    replace R1 := R1.below hb3
    have hz3 := hb3.size
    replace hb := chain hb hb3
    clear hb3
    clear R1 hg1
    obtain ⟨x0, x1, x2, x3, xf, xl⟩ := BV.four
    go_wp2_with fail
    clear x0 x1 x2 x3 xf xl
    refine (toInt64S_any a _ cap bs _ rfl hle (hr.below hb)).mono ?_
    rintro e w4 ⟨g2, rfl, hg2, R2, hb4⟩
    replace BV := BV.below hb4
    replace O0 := O0.below hb4
    have hz4 := hb4.size
    replace hb := chain hb hb4
    clear hb4
    have X1 : OSl w3.heap.size w4.heap.size w4 (some ⟨g2, 0, none⟩) bs := .inr ⟨g2, rfl, hg2, R2.lt, R2⟩
    clear R2 hg2
    obtain ⟨x0, x1, x2, x3, xf, xl⟩ := BV.four
    go_wp2_with fail
    clear x0 x1 x2 x3 xf xl
    refine (toVariant_any _ _ _ _ _).mono ?_
    rintro e w5 ⟨rfl, hb5⟩
    replace BV := BV.below hb5
    replace O0 := O0.below hb5
    replace X1 := X1.below hb5
    have hz5 := hb5.size
    replace hb := chain hb hb5
    clear hb5
    obtain ⟨x0, x1, x2, x3, xf, xl⟩ := BV.four
    go_wp2_with fail
    clear x0 x1 x2 x3 xf xl
    refine (HIM.out _ _ _ X1.irow).mono ?_
    rintro e w6 ⟨a1, k1, rfl, O1, hb6⟩
    replace BV := BV.below hb6
    replace O0 := O0.below hb6
    replace X1 := X1.below hb6
    have hz6 := hb6.size
    replace hb := chain hb hb6
    clear hb6
    obtain ⟨x0, x1, x2, x3, xf, xl⟩ := BV.four
    go_wp2_with fail
    clear x0 x1 x2 x3 xf xl
    refine (eqInt64S_same _ _ _ _ _ xs _ rfl lX O1.irow O0.irow).mono ?_
    rintro e w7 ⟨rfl, hb7⟩
    replace BV := BV.below hb7
    replace O0 := O0.below hb7
    replace X1 := X1.below hb7
    replace O1 := O1.below hb7
    have hz7 := hb7.size
    replace hb := chain hb hb7
    clear hb7
    obtain ⟨x0, x1, x2, x3, xf, xl⟩ := BV.four
    go_wp2_with fail
    clear x0 x1 x2 x3 xf xl
    refine (toInt64S_any a _ cap bs _ rfl hle (hr.below hb)).mono ?_
    rintro e w8 ⟨g3, rfl, hg3, R3, hb8⟩
    replace BV := BV.below hb8
    replace O0 := O0.below hb8
    replace X1 := X1.below hb8
    replace O1 := O1.below hb8
    have hz8 := hb8.size
    replace hb := chain hb hb8
    clear hb8
    obtain ⟨x0, x1, x2, x3, xf, xl⟩ := BV.four
    go_wp2_with fail
    clear x0 x1 x2 x3 xf xl
    refine (eqInt64S_same _ _ _ _ _ bs _ rfl hle X1.irow R3.irow).mono ?_
    rintro e w9 ⟨rfl, hb9⟩
    replace BV := BV.below hb9
    replace O0 := O0.below hb9
    replace X1 := X1.below hb9
    replace O1 := O1.below hb9
    replace R3 := R3.below hb9
    have hz9 := hb9.size
    replace hb := chain hb hb9
    clear hb9
    clear R3 hg3
    obtain ⟨x0, x1, x2, x3, xf, xl⟩ := BV.four
    go_wp2_with fail
    clear x0 x1 x2 x3 xf xl
    refine (markS_own _ _ _ _ _ bs 1 _ rfl hle (by omega) (by omega) X1).mono ?_
    rintro e w10 ⟨rfl, X1, hs10⟩
    replace BV := BV.same hs10 (by omega)
    replace O0 := O0.same hs10 (by omega)
    replace O1 := O1.same hs10 (by omega)
    have hz10 := hs10.size
    replace hb := below_same hb hs10 (by omega) (by omega)
    clear hs10
    have hk0 : ¬ ((1 : Int) + (bs.length : Int) < 0) := by omega
    have hq0 : ¬ ((1 : Int) + (xs.length : Int) < 0) := by omega
    obtain ⟨x0, x1, x2, x3, xf, xl⟩ := BV.four
    go_wp2_with fail
    clear x0 x1 x2 x3 xf xl
    refine (eqInt64S_same _ _ _ _ _ xs _ rfl lX O1.irow O0.irow).mono ?_
    rintro e w11 ⟨rfl, hb11⟩
    replace BV := BV.below hb11
    replace O0 := O0.below hb11
    replace X1 := X1.below hb11
    replace O1 := O1.below hb11
    have hz11 := hb11.size
    replace hb := chain hb hb11
    clear hb11
    obtain ⟨x0, x1, x2, x3, xf, xl⟩ := BV.four
    go_wp2_with fail
    clear x0 x1 x2 x3 xf xl
    refine (markS_own _ _ _ _ _ xs 1 _ rfl lX (by omega) (by omega) O1).mono ?_
    rintro e w12 ⟨rfl, O1, hs12⟩
    replace BV := BV.same hs12 (by omega)
    replace O0 := O0.same hs12 (by omega)
    replace X1 := X1.same hs12 (by omega)
    have hz12 := hs12.size
    replace hb := below_same hb hs12 (by omega) (by omega)
    clear hs12
    obtain ⟨x0, x1, x2, x3, xf, xl⟩ := BV.four
    go_wp2_with fail
    clear x0 x1 x2 x3 xf xl
    refine (heldInt64S_any _ xs.length _ 1 _ lX (by omega) (by omega) O1.irow).mono ?_
    rintro e wq ⟨rfl, rfl⟩
    obtain ⟨x0, x1, x2, x3, xf, xl⟩ := BV.four
    go_wp2_with fail
    clear x0 x1 x2 x3 xf xl
    refine (toVariant_any _ _ _ _ _).mono ?_
    rintro e w13 ⟨rfl, hb13⟩
    replace BV := BV.below hb13
    replace O0 := O0.below hb13
    replace X1 := X1.below hb13
    replace O1 := O1.below hb13
    have hz13 := hb13.size
    replace hb := chain hb hb13
    clear hb13
    obtain ⟨x0, x1, x2, x3, xf, xl⟩ := BV.four
    go_wp2_with fail
    clear x0 x1 x2 x3 xf xl
    refine (toInt64S_any a _ cap bs _ rfl hle (hr.below hb)).mono ?_
    rintro e w14 ⟨g4, rfl, hg4, R4, hb14⟩
    replace BV := BV.below hb14
    replace O0 := O0.below hb14
    replace X1 := X1.below hb14
    replace O1 := O1.below hb14
    have hz14 := hb14.size
    replace hb := chain hb hb14
    clear hb14
    obtain ⟨x0, x1, x2, x3, xf, xl⟩ := BV.four
    go_wp2_with fail
    clear x0 x1 x2 x3 xf xl
    refine (HIM.out _ _ _ R4.irow).mono ?_
    rintro e w15 ⟨a2, k2, rfl, O2, hb15⟩
    replace BV := BV.below hb15
    replace O0 := O0.below hb15
    replace X1 := X1.below hb15
    replace O1 := O1.below hb15
    replace R4 := R4.below hb15
    have hz15 := hb15.size
    replace hb := chain hb hb15
    clear hb15
    clear R4 hg4
    obtain ⟨x0, x1, x2, x3, xf, xl⟩ := BV.four
    go_wp2_with fail
    clear x0 x1 x2 x3 xf xl
    refine (eqInt64S_same _ _ _ _ _ xs _ rfl lX O2.irow O0.irow).mono ?_
    rintro e w16 ⟨rfl, hb16⟩
    replace BV := BV.below hb16
    replace O0 := O0.below hb16
    replace X1 := X1.below hb16
    replace O1 := O1.below hb16
    replace O2 := O2.below hb16
    have hz16 := hb16.size
    replace hb := chain hb hb16
    clear hb16
    obtain ⟨x0, x1, x2, x3, xf, xl⟩ := BV.four
    go_wp2_with fail
    clear x0 x1 x2 x3 xf xl
    refine (heldInt64S_any _ xs.length _ 1 _ lX (by omega) (by omega) O1.irow).mono ?_
    rintro e wq ⟨rfl, rfl⟩
    go_wp2_with fail
    go_ret
    exact ⟨rfl, hb⟩
  · have hle' : ¬ (n : Int) ≤ 1048576 := by omega
    go_enter Try.func6, Try.ntmps6
    go_wp2_with fail
    go_ret
    exact ⟨rfl, hb⟩
set_option maxRecDepth 100000 in
theorem fnExactNextBearoff_lifted (os : Os) (started : os.Started) (H : Type) (enc : TypeId × Value → H) :
    ReturnsInHanded {} Try.checked os 6 .any (Rows.fnExactNextBearoffSpec.pre6 enc Try.prog Try.f6 Rows.fnExactNextBearoffRow.domain false) (Rows.fnExactNextBearoffSpec.post enc Try.prog Try.f6 false true false false) := by
  refine returnsInHanded_of_change (C := Try.checked) own started (by kernel_rfl) Try.func6
    (ChangeSpec.witness6 (enc := enc) (C := Try.checked) false ⟨#[], #[.agg #[.int .i64 0, .int .i64 0, .int .i64 0, .int .i64 0], .slice none 0 0], []⟩ 8 (by kernel_rfl) (by kernel_rfl) (by kernel_rfl) (by kernel_rfl)) ?_
  intro W base args ds gs before hval0 hW hcnd _
  have hval : ∀ (j : Nat) t v, Try.f6.params[j]? = some t → args[j]? = some v → Value.okWide Try.prog W .any base t v := hval0
  have hW' := hW
  obtain ⟨p, q, hA0, hV, rfl, hfz, hnd⟩ := hW
  have hA : DataW.TrodAll enc Try.prog W 0 (fun _ => true) true Try.f6.params.toList args.toList ds p := hA0
  rw [Try.params6] at hA hval
  obtain ⟨v0, vs0, d0, ds0, p0, q0, hargs, rfl, rfl, h0, r0⟩ := trodAll_cons hA
  obtain ⟨v1, vs1, d1, ds1, p1, q1, rfl, rfl, rfl, h1, r1⟩ := trodAll_cons r0
  obtain ⟨rfl, rfl, rfl⟩ := trodAll_nil r1
  obtain rfl : args = #[v0, v1] := by cases args; simp_all
  obtain ⟨rfl, rfl⟩ := trodVars_none hV
  have k0 := h0
  have lt0 : ∀ x ∈ p0, x.block < W.heap.size := by obtain ⟨m, hm⟩ := k0; exact DataW.trod_lt m _ _ _ hm
  have k1 := h1
  have lt1 : ∀ x ∈ p1, x.block < W.heap.size := by obtain ⟨m, hm⟩ := k1; exact DataW.trod_lt m _ _ _ hm
  obtain ⟨x0_0, x1_0, x2_0, x3_0, y0_0, y1_0, y2_0, y3_0, m_0, rfl, _, _, hy0_0, hy1_0, hy2_0, hy3_0⟩ := Joins.open_agg4 Try.underlying23 (by kernel_rfl) (show Try.prog.cellsOf 23 = 4 by kernel_rfl) (hval 0 23 v0 rfl rfl) h0
  obtain ⟨a0_0, e0_0, _, wa0_0⟩ := DataW.trod_int Try.underlying2 hy0_0
  obtain ⟨a1_0, e1_0, _, wa1_0⟩ := DataW.trod_int Try.underlying2 hy1_0
  obtain ⟨a2_0, e2_0, _, wa2_0⟩ := DataW.trod_int Try.underlying2 hy2_0
  obtain ⟨a3_0, e3_0, _, wa3_0⟩ := DataW.trod_int Try.underlying2 hy3_0
  simp at e0_0 e1_0 e2_0 e3_0
  subst e0_0 e1_0 e2_0 e3_0
  obtain ⟨sa_1, sl_1, sc_1, rfl⟩ := okWide_slice Try.underlying24 (hval 1 24 v1 rfl rfl)
  obtain ⟨ra_1, rn_1, rc_1, rx_1, hv_1, rl_1, rm_1, rr_1, rw_1⟩ : ∃ (a : Option Addr) (n cap : Nat) (xs : List Int), Value.slice sa_1 sl_1 sc_1 = .slice a n cap ∧ xs.length = n ∧ n ≤ 9223372036854775807 ∧ IRow W a xs ∧ ∀ y ∈ xs, (Lit.int .i64 y).wf = true := by
    obtain ⟨fuel, hf⟩ := h1
    exact open_row hf
  simp only [Value.slice.injEq] at hv_1
  obtain ⟨rfl, rfl, rfl⟩ := hv_1
  clear hA0 hval0
  refine (fnExactNextBearoff_walk a0_0 a1_0 a2_0 a3_0 sa_1 sl_1 sc_1 rx_1 W rl_1 rm_1 rr_1).mono fun e W' ⟨he, bel⟩ => ?_
  subst he
  exact ⟨_, rfl, _, _, _, [], _, [], hW', trodAll_mk1 (shut_bool Try.underlying4 _), (trodAll_cons_mk (Below.trod laidOut (by kernel_rfl) (of_decide_eq_true (by kernel_rfl)) k0 bel lt0) (trodAll_cons_mk (Below.trod laidOut (by kernel_rfl) (of_decide_eq_true (by kernel_rfl)) k1 bel lt1) trodAll_mk0)), rfl, bel.frame _, fun h => by cases h⟩
theorem fnExactNextBearoff_holds : Rows.FnExactNextBearoffSaid :=
  OpenClaim.holds_of_wide 6 Try.f6 rfl rfl rfl rfl rfl rfl rfl ⟨rfl, rfl, rfl, rfl, rfl⟩ rfl rfl rfl rfl rfl (by kernel_rfl) Try.func6 (by kernel_rfl)
    (of_decide_eq_true (by kernel_rfl)) (by unfold Func.isWrapper; first | (rw [if_pos (by decide +kernel)]; kernel_rfl) | (rw [if_neg (by decide +kernel)]; exact ⟨rfl, rfl⟩))
    (fun os started H enc _ => fnExactNextBearoff_lifted os started H enc)
end Go.Proofs.Ythnkckflajkaiaa
