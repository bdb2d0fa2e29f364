/- The exact law of chapter 3 on the board with an identifier holds: for every input the law returns true and its arguments read behind the call as they read before. No conditions. -/
import Derived.Test.YtkddeoifdecniaaL03n
import Derived.Test.YtkddeoifdecniaaOpen
import Derived.ChangeOld
namespace Go.Proofs.Ytkddeoifdecniaa
open Go.ChangeMaps (open_string shut_string)
open Go.ChangeShapes Go.WideShapes Go.ChangeAt Go.RowKit
set_option linter.unusedVariables false
set_option linter.unusedSimpArgs false
set_option maxRecDepth 4000

theorem rb_length (p c h s : Int) (t : ByteArray) : (rbX p c h s t).length ≤ 1048576 ∧ (rbY p c h s t).length ≤ 1048576 := by
  unfold rbX rbY
  by_cases g : rbAll p c h s t = true
  · rw [if_pos g, if_pos g]
    have hv : vB p c h s = true := by simp only [rbAll, Bool.and_eq_true] at g; exact g.1
    have := vB_iff.1 hv
    simp only [cX, cY, List.length_take, zOf]
    omega
  · rw [if_neg g, if_neg g]
    simp
theorem fnExactReadBoardId_both (p c h s : Int) (t : ByteArray) : ∃ (X Y : List Int) (r : Int), X.length ≤ 1048576 ∧ Y.length ≤ 1048576 ∧
    (∀ w : World, Calls Try.prog 47 #[.agg #[.int .i64 p, .int .i64 c, .int .i64 h, .int .i64 s], .string t] w (BoardGot2 X Y (.int .i64 r) w)) ∧
    (∀ w : World, Calls Try.prog 36 #[.agg #[.int .i64 p, .int .i64 c, .int .i64 h, .int .i64 s], .string t] w (BoardGot2 X Y (.int .i64 r) w)) :=
  ⟨_, _, _, (rb_length p c h s t).1, (rb_length p c h s t).2, fun w => specReadBoardId_any p c h s t w, fun w => readBoardId_any p c h s t w⟩
set_option maxHeartbeats 4000000 in
theorem fnExactReadBoardId_walk (p c h s : Int) (t : ByteArray) (w : World) :
    Calls Try.prog 10 #[.agg #[.int .i64 p, .int .i64 c, .int .i64 h, .int .i64 s], .string t] w fun e w' => e = .returned (.bool true) ∧ Below w.heap.size w w' := by
  have BV := Blk.new w #[.int .i64 p, .int .i64 c, .int .i64 h, .int .i64 s] 39
  have hb : Below w.heap.size w (w.alloc (.cells #[.int .i64 p, .int .i64 c, .int .i64 h, .int .i64 s] 39)) := (Below.refl _ _).alloc (Nat.le_refl _) _
  have hl0 := BV.lt
  by_cases hbig : 1048576 < t.size
  · have e1 : decide ((1048576 : Int) < (t.size : Int)) = true := by simp; omega
    have e2 : decide (1048576 < t.size) = true := by simp; omega
    go_enter Try.func10, Try.ntmps10
    go_wp2_with fail
    go_ret
    exact ⟨rfl, hb⟩
  · have e1 : decide ((1048576 : Int) < (t.size : Int)) = false := by simp; omega
    have e2 : decide (1048576 < t.size) = false := by simp; omega
    obtain ⟨X, Y, r, lX, lY, hsp, him⟩ := fnExactReadBoardId_both p c h s t
    have HSP := Lib.hid hsp
    have HIM := Lib.hid him
    clear hsp him
    go_enter Try.func10, Try.ntmps10
    obtain ⟨x0, x1, x2, x3, xf, xl⟩ := BV.four
    go_wp2_with fail
    clear x0 x1 x2 x3 xf xl e1 e2 hbig
    generalize (w.alloc (.cells #[.int .i64 p, .int .i64 c, .int .i64 h, .int .i64 s] 39)) = v0 at *
    obtain ⟨x0, x1, x2, x3, xf, xl⟩ := BV.four
    go_wp2_with fail
    clear x0 x1 x2 x3 xf xl
    refine (toVariant_any _ _ _ _ _).mono ?_
    rintro e w1 ⟨rfl, hb1⟩
    replace BV := BV.below hb1
    have hz1 := hb1.size
    replace hb := chain hb hb1
    clear hb1
    obtain ⟨x0, x1, x2, x3, xf, xl⟩ := BV.four
    go_wp2_with fail
    clear x0 x1 x2 x3 xf xl
    refine (HSP.out _).mono ?_
    rintro e w2 ⟨a0, b0, k0, l0, rfl, O0, hb2⟩
    replace BV := BV.below hb2
    have hz2 := hb2.size
    replace hb := chain hb hb2
    clear hb2
    have B0 := Blk.new w2 #[.slice a0 X.length k0, .slice b0 Y.length l0] 28
    have hal3 : Below w2.heap.size w2 (w2.alloc (.cells #[.slice a0 X.length k0, .slice b0 Y.length l0] 28)) := (Below.refl _ _).alloc (Nat.le_refl _) _
    have hz3 : (w2.alloc (.cells #[.slice a0 X.length k0, .slice b0 Y.length l0] 28)).heap.size = w2.heap.size + 1 := by simp
    replace BV := BV.below hal3
    replace O0 := O0.below hal3
    replace hb := chain hb hal3
    clear hal3
    obtain ⟨x0, x1, x2, x3, xf, xl⟩ := BV.four
    obtain ⟨y0_B0, y1_B0, yf_B0, yl_B0⟩ := B0.two
    go_wp2_with fail
    clear x0 x1 x2 x3 xf xl
    clear y0_B0 y1_B0 yf_B0 yl_B0
    generalize (w2.alloc (.cells #[.slice a0 X.length k0, .slice b0 Y.length l0] 28)) = w3 at *
    obtain ⟨x0, x1, x2, x3, xf, xl⟩ := BV.four
    obtain ⟨y0_B0, y1_B0, yf_B0, yl_B0⟩ := B0.two
    go_wp2_with fail
    clear x0 x1 x2 x3 xf xl
    clear y0_B0 y1_B0 yf_B0 yl_B0
    refine (toVariant_any _ _ _ _ _).mono ?_
    rintro e w4 ⟨rfl, hb4⟩
    replace BV := BV.below hb4
    replace O0 := O0.below hb4
    replace B0 := B0.below hb4
    have hz4 := hb4.size
    replace hb := chain hb hb4
    clear hb4
    obtain ⟨x0, x1, x2, x3, xf, xl⟩ := BV.four
    obtain ⟨y0_B0, y1_B0, yf_B0, yl_B0⟩ := B0.two
    go_wp2_with fail
    clear x0 x1 x2 x3 xf xl
    clear y0_B0 y1_B0 yf_B0 yl_B0
    refine (HIM.out _).mono ?_
    rintro e w5 ⟨a1, b1, k1, l1, rfl, O1, hb5⟩
    replace BV := BV.below hb5
    replace O0 := O0.below hb5
    replace B0 := B0.below hb5
    have hz5 := hb5.size
    replace hb := chain hb hb5
    clear hb5
    have B1 := Blk.new w5 #[.slice a1 X.length k1, .slice b1 Y.length l1] 28
    have hal6 : Below w5.heap.size w5 (w5.alloc (.cells #[.slice a1 X.length k1, .slice b1 Y.length l1] 28)) := (Below.refl _ _).alloc (Nat.le_refl _) _
    have hz6 : (w5.alloc (.cells #[.slice a1 X.length k1, .slice b1 Y.length l1] 28)).heap.size = w5.heap.size + 1 := by simp
    replace BV := BV.below hal6
    replace O0 := O0.below hal6
    replace B0 := B0.below hal6
    replace O1 := O1.below hal6
    replace hb := chain hb hal6
    clear hal6
    obtain ⟨x0, x1, x2, x3, xf, xl⟩ := BV.four
    obtain ⟨y0_B0, y1_B0, yf_B0, yl_B0⟩ := B0.two
    obtain ⟨y0_B1, y1_B1, yf_B1, yl_B1⟩ := B1.two
    go_wp2_with fail
    clear x0 x1 x2 x3 xf xl
    clear y0_B0 y1_B0 yf_B0 yl_B0
    clear y0_B1 y1_B1 yf_B1 yl_B1
    generalize (w5.alloc (.cells #[.slice a1 X.length k1, .slice b1 Y.length l1] 28)) = w6 at *
    obtain ⟨x0, x1, x2, x3, xf, xl⟩ := BV.four
    obtain ⟨y0_B0, y1_B0, yf_B0, yl_B0⟩ := B0.two
    obtain ⟨y0_B1, y1_B1, yf_B1, yl_B1⟩ := B1.two
    go_wp2_with fail
    clear x0 x1 x2 x3 xf xl
    clear y0_B0 y1_B0 yf_B0 yl_B0
    clear y0_B1 y1_B1 yf_B1 yl_B1
    refine (eqBoard_same _ _ _ _ _ _ _ _ _ _ X Y _ rfl rfl lX lY O1.irow1 O1.irow2 O0.irow1 O0.irow2).mono ?_
    rintro e w7 ⟨rfl, hb7⟩
    replace BV := BV.below hb7
    replace O0 := O0.below hb7
    replace B0 := B0.below hb7
    replace O1 := O1.below hb7
    replace B1 := B1.below hb7
    have hz7 := hb7.size
    replace hb := chain hb hb7
    clear hb7
    obtain ⟨x0, x1, x2, x3, xf, xl⟩ := BV.four
    obtain ⟨y0_B0, y1_B0, yf_B0, yl_B0⟩ := B0.two
    obtain ⟨y0_B1, y1_B1, yf_B1, yl_B1⟩ := B1.two
    go_wp2_with fail
    clear x0 x1 x2 x3 xf xl
    clear y0_B0 y1_B0 yf_B0 yl_B0
    clear y0_B1 y1_B1 yf_B1 yl_B1
    refine (markBoard_own _ _ _ _ _ _ _ _ X Y 1 _ rfl rfl lX lY (by omega) (by omega) O1).mono ?_
    rintro e w8 ⟨rfl, O1, hs8⟩
    replace BV := BV.same hs8 (by omega)
    replace O0 := O0.same hs8 (by omega)
    replace B0 := B0.same hs8 (by omega)
    replace B1 := B1.same hs8 (by omega)
    have hz8 := hs8.size
    replace hb := below_same hb hs8 (by omega) (by omega)
    clear hs8
    have hq0 : ¬ ((1 : Int) + (X.length : Int) + (Y.length : Int) < 0) := by omega
    obtain ⟨x0, x1, x2, x3, xf, xl⟩ := BV.four
    obtain ⟨y0_B0, y1_B0, yf_B0, yl_B0⟩ := B0.two
    obtain ⟨y0_B1, y1_B1, yf_B1, yl_B1⟩ := B1.two
    go_wp2_with fail
    clear x0 x1 x2 x3 xf xl
    clear y0_B0 y1_B0 yf_B0 yl_B0
    clear y0_B1 y1_B1 yf_B1 yl_B1
    refine (heldBoard_any _ _ X.length Y.length _ _ 1 _ lX lY (by omega) (by omega) O1.irow1 O1.irow2).mono ?_
    rintro e w9 ⟨rfl, hb9⟩
    replace BV := BV.below hb9
    replace O0 := O0.below hb9
    replace B0 := B0.below hb9
    replace O1 := O1.below hb9
    replace B1 := B1.below hb9
    have hz9 := hb9.size
    replace hb := chain hb hb9
    clear hb9
    obtain ⟨x0, x1, x2, x3, xf, xl⟩ := BV.four
    obtain ⟨y0_B0, y1_B0, yf_B0, yl_B0⟩ := B0.two
    obtain ⟨y0_B1, y1_B1, yf_B1, yl_B1⟩ := B1.two
    go_wp2_with fail
    clear x0 x1 x2 x3 xf xl
    clear y0_B0 y1_B0 yf_B0 yl_B0
    clear y0_B1 y1_B1 yf_B1 yl_B1
    refine (toVariant_any _ _ _ _ _).mono ?_
    rintro e w10 ⟨rfl, hb10⟩
    replace BV := BV.below hb10
    replace O0 := O0.below hb10
    replace B0 := B0.below hb10
    replace O1 := O1.below hb10
    replace B1 := B1.below hb10
    have hz10 := hb10.size
    replace hb := chain hb hb10
    clear hb10
    obtain ⟨x0, x1, x2, x3, xf, xl⟩ := BV.four
    obtain ⟨y0_B0, y1_B0, yf_B0, yl_B0⟩ := B0.two
    obtain ⟨y0_B1, y1_B1, yf_B1, yl_B1⟩ := B1.two
    go_wp2_with fail
    clear x0 x1 x2 x3 xf xl
    clear y0_B0 y1_B0 yf_B0 yl_B0
    clear y0_B1 y1_B1 yf_B1 yl_B1
    refine (HIM.out _).mono ?_
    rintro e w11 ⟨a2, b2, k2, l2, rfl, O2, hb11⟩
    replace BV := BV.below hb11
    replace O0 := O0.below hb11
    replace B0 := B0.below hb11
    replace O1 := O1.below hb11
    replace B1 := B1.below hb11
    have hz11 := hb11.size
    replace hb := chain hb hb11
    clear hb11
    have B2 := Blk.new w11 #[.slice a2 X.length k2, .slice b2 Y.length l2] 28
    have hal12 : Below w11.heap.size w11 (w11.alloc (.cells #[.slice a2 X.length k2, .slice b2 Y.length l2] 28)) := (Below.refl _ _).alloc (Nat.le_refl _) _
    have hz12 : (w11.alloc (.cells #[.slice a2 X.length k2, .slice b2 Y.length l2] 28)).heap.size = w11.heap.size + 1 := by simp
    replace BV := BV.below hal12
    replace O0 := O0.below hal12
    replace B0 := B0.below hal12
    replace O1 := O1.below hal12
    replace B1 := B1.below hal12
    replace O2 := O2.below hal12
    replace hb := chain hb hal12
    clear hal12
    obtain ⟨x0, x1, x2, x3, xf, xl⟩ := BV.four
    obtain ⟨y0_B0, y1_B0, yf_B0, yl_B0⟩ := B0.two
    obtain ⟨y0_B1, y1_B1, yf_B1, yl_B1⟩ := B1.two
    obtain ⟨y0_B2, y1_B2, yf_B2, yl_B2⟩ := B2.two
    go_wp2_with fail
    clear x0 x1 x2 x3 xf xl
    clear y0_B0 y1_B0 yf_B0 yl_B0
    clear y0_B1 y1_B1 yf_B1 yl_B1
    clear y0_B2 y1_B2 yf_B2 yl_B2
    generalize (w11.alloc (.cells #[.slice a2 X.length k2, .slice b2 Y.length l2] 28)) = w12 at *
    obtain ⟨x0, x1, x2, x3, xf, xl⟩ := BV.four
    obtain ⟨y0_B0, y1_B0, yf_B0, yl_B0⟩ := B0.two
    obtain ⟨y0_B1, y1_B1, yf_B1, yl_B1⟩ := B1.two
    obtain ⟨y0_B2, y1_B2, yf_B2, yl_B2⟩ := B2.two
    go_wp2_with fail
    clear x0 x1 x2 x3 xf xl
    clear y0_B0 y1_B0 yf_B0 yl_B0
    clear y0_B1 y1_B1 yf_B1 yl_B1
    clear y0_B2 y1_B2 yf_B2 yl_B2
    refine (eqBoard_same _ _ _ _ _ _ _ _ _ _ X Y _ rfl rfl lX lY O2.irow1 O2.irow2 O0.irow1 O0.irow2).mono ?_
    rintro e w13 ⟨rfl, hb13⟩
    replace BV := BV.below hb13
    replace O0 := O0.below hb13
    replace B0 := B0.below hb13
    replace O1 := O1.below hb13
    replace B1 := B1.below hb13
    replace O2 := O2.below hb13
    replace B2 := B2.below hb13
    have hz13 := hb13.size
    replace hb := chain hb hb13
    clear hb13
    obtain ⟨x0, x1, x2, x3, xf, xl⟩ := BV.four
    obtain ⟨y0_B0, y1_B0, yf_B0, yl_B0⟩ := B0.two
    obtain ⟨y0_B1, y1_B1, yf_B1, yl_B1⟩ := B1.two
    obtain ⟨y0_B2, y1_B2, yf_B2, yl_B2⟩ := B2.two
    go_wp2_with fail
    clear x0 x1 x2 x3 xf xl
    clear y0_B0 y1_B0 yf_B0 yl_B0
    clear y0_B1 y1_B1 yf_B1 yl_B1
    clear y0_B2 y1_B2 yf_B2 yl_B2
    refine (heldBoard_any _ _ X.length Y.length _ _ 1 _ lX lY (by omega) (by omega) O1.irow1 O1.irow2).mono ?_
    rintro e w14 ⟨rfl, hb14⟩
    replace BV := BV.below hb14
    replace O0 := O0.below hb14
    replace B0 := B0.below hb14
    replace O1 := O1.below hb14
    replace B1 := B1.below hb14
    replace O2 := O2.below hb14
    replace B2 := B2.below hb14
    have hz14 := hb14.size
    replace hb := chain hb hb14
    clear hb14
    go_wp2_with fail
    go_ret
    exact ⟨rfl, hb⟩
set_option maxRecDepth 100000 in
theorem fnExactReadBoardId_lifted (os : Os) (started : os.Started) (H : Type) (enc : TypeId × Value → H) :
    ReturnsInHanded {} Try.checked os 10 .any (Rows.fnExactReadBoardIdSpec.pre6 enc Try.prog Try.f10 Rows.fnExactReadBoardIdRow.domain false) (Rows.fnExactReadBoardIdSpec.post enc Try.prog Try.f10 false true false false) := by
  refine returnsInHanded_of_change (C := Try.checked) own started (by kernel_rfl) Try.func10
    (ChangeSpec.witness6 (enc := enc) (C := Try.checked) false ⟨#[], #[.agg #[.int .i64 0, .int .i64 0, .int .i64 0, .int .i64 0], .string (ByteArray.mk #[])], []⟩ 8 (by kernel_rfl) (by kernel_rfl) (by kernel_rfl) (by kernel_rfl)) ?_
  intro W base args ds gs before hval0 hW hcnd _
  have hval : ∀ (j : Nat) t v, Try.f10.params[j]? = some t → args[j]? = some v → Value.okWide Try.prog W .any base t v := hval0
  have hW' := hW
  obtain ⟨p, q, hA0, hV, rfl, hfz, hnd⟩ := hW
  have hA : DataW.TrodAll enc Try.prog W 0 (fun _ => true) true Try.f10.params.toList args.toList ds p := hA0
  rw [Try.params10] at hA hval
  obtain ⟨v0, vs0, d0, ds0, p0, q0, hargs, rfl, rfl, h0, r0⟩ := trodAll_cons hA
  obtain ⟨v1, vs1, d1, ds1, p1, q1, rfl, rfl, rfl, h1, r1⟩ := trodAll_cons r0
  obtain ⟨rfl, rfl, rfl⟩ := trodAll_nil r1
  obtain rfl : args = #[v0, v1] := by cases args; simp_all
  obtain ⟨rfl, rfl⟩ := trodVars_none hV
  have k0 := h0
  have lt0 : ∀ x ∈ p0, x.block < W.heap.size := by obtain ⟨m, hm⟩ := k0; exact DataW.trod_lt m _ _ _ hm
  have k1 := h1
  have lt1 : ∀ x ∈ p1, x.block < W.heap.size := by obtain ⟨m, hm⟩ := k1; exact DataW.trod_lt m _ _ _ hm
  obtain ⟨x0_0, x1_0, x2_0, x3_0, y0_0, y1_0, y2_0, y3_0, m_0, rfl, _, _, hy0_0, hy1_0, hy2_0, hy3_0⟩ := Joins.open_agg4 Try.underlying39 (by kernel_rfl) (show Try.prog.cellsOf 39 = 4 by kernel_rfl) (hval 0 39 v0 rfl rfl) h0
  obtain ⟨a0_0, e0_0, _, wa0_0⟩ := DataW.trod_int Try.underlying2 hy0_0
  obtain ⟨a1_0, e1_0, _, wa1_0⟩ := DataW.trod_int Try.underlying2 hy1_0
  obtain ⟨a2_0, e2_0, _, wa2_0⟩ := DataW.trod_int Try.underlying2 hy2_0
  obtain ⟨a3_0, e3_0, _, wa3_0⟩ := DataW.trod_int Try.underlying2 hy3_0
  simp at e0_0 e1_0 e2_0 e3_0
  subst e0_0 e1_0 e2_0 e3_0
  obtain ⟨s_1, rfl, _, _, ws_1⟩ := open_string Try.underlying9 (hval 1 9 v1 rfl rfl) h1
  clear hA0 hval0
  refine (fnExactReadBoardId_walk a0_0 a1_0 a2_0 a3_0 s_1 W).mono fun e W' ⟨he, bel⟩ => ?_
  subst he
  exact ⟨_, rfl, _, _, _, [], _, [], hW', trodAll_mk1 (shut_bool Try.underlying4 _), (trodAll_cons_mk (Below.trod laidOut (by kernel_rfl) (of_decide_eq_true (by kernel_rfl)) k0 bel lt0) (trodAll_cons_mk (Below.trod laidOut (by kernel_rfl) (of_decide_eq_true (by kernel_rfl)) k1 bel lt1) trodAll_mk0)), rfl, bel.frame _, fun h => by cases h⟩
theorem fnExactReadBoardId_holds : Rows.FnExactReadBoardIdSaid :=
  OpenClaim.holds_of_wide 10 Try.f10 rfl rfl rfl rfl rfl rfl rfl ⟨rfl, rfl, rfl, rfl, rfl⟩ rfl rfl rfl rfl rfl (by kernel_rfl) Try.func10 (by kernel_rfl)
    (of_decide_eq_true (by kernel_rfl)) (by unfold Func.isWrapper; first | (rw [if_pos (by decide +kernel)]; kernel_rfl) | (rw [if_neg (by decide +kernel)]; exact ⟨rfl, rfl⟩))
    (fun os started H enc _ => fnExactReadBoardId_lifted os started H enc)
end Go.Proofs.Ytkddeoifdecniaa
