/- The exact law of chapter 6 on reading a roll holds: for every input the law returns true and its arguments read behind the call as they read before. No conditions. -/
import Derived.Test.Ytcmfknkdfkchmaa06k
import Derived.Test.YtcmfknkdfkchmaaRows
import Derived.ChangeOld
import Derived.Shelf.Abstract
namespace Go.Proofs.Ytcmfknkdfkchmaa
open Go.ChangeMaps (open_string shut_string)
open Go.ChangeShapes Go.WideShapes Go.ChangeAt Go.RowKit
set_option linter.unusedVariables false
set_option linter.unusedSimpArgs false

theorem eqRoll_sameR (ra rb : Int) (w : World) :
    Calls Try.prog 43 #[.agg #[.int .i64 ra, .int .i64 rb], .agg #[.int .i64 ra, .int .i64 rb]] w fun e w' => e = .returned (.bool true) ∧ Below w.heap.size w w' := by
  have hb : Below w.heap.size w ((w.alloc (.cells #[.int .i64 ra, .int .i64 rb] 33)).alloc (.cells #[.int .i64 ra, .int .i64 rb] 33)) := ((Below.refl _ _).alloc (Nat.le_refl _) _).alloc (by simp) _
  go_enter Try.func43, Try.ntmps43
  go_wp2
  go_ret
  exact ⟨rfl, hb⟩
theorem rr_name (p c h s : Int) (t : ByteArray) : ∃ (ra rb : Int) (ok : Bool),
    (∀ w, Calls Try.prog 45 #[.agg #[.int .i64 p, .int .i64 c, .int .i64 h, .int .i64 s], .string t] w fun e w' => e = .returned (.tuple #[.agg #[.int .i64 ra, .int .i64 rb], .bool ok]) ∧ Below w.heap.size w w') ∧
    (∀ w, Calls Try.prog 44 #[.agg #[.int .i64 p, .int .i64 c, .int .i64 h, .int .i64 s], .string t] w fun e w' => e = .returned (.tuple #[.agg #[.int .i64 ra, .int .i64 rb], .bool ok]) ∧ Below w.heap.size w w') := by
  have hi := fun w => readRollP_any p c h s t w
  have hs := fun w => specReadRoll_any p c h s t w
  cases q : (if vB p c h s = true then rdR s t.data.toList else none) with
  | none => rw [q] at hi hs; exact ⟨0, 0, false, hi, hs⟩
  | some x => rw [q] at hi hs; exact ⟨x.1, x.2, true, hi, hs⟩
set_option maxRecDepth 8000 in
set_option maxHeartbeats 2000000 in
theorem fnExactReadRoll_walk (p c h s : Int) (t : ByteArray) (w : World) :
    Calls Try.prog 14 #[.agg #[.int .i64 p, .int .i64 c, .int .i64 h, .int .i64 s], .string t] w fun e w' => e = .returned (.bool true) ∧ Below w.heap.size w w' := by
  have BV := Blk.new w #[.int .i64 p, .int .i64 c, .int .i64 h, .int .i64 s] 42
  have hb : Below w.heap.size w (w.alloc (.cells #[.int .i64 p, .int .i64 c, .int .i64 h, .int .i64 s] 42)) := (Below.refl _ _).alloc (Nat.le_refl _) _
  by_cases hbig : 1048576 < t.size
  · have e1 : decide (1048576 < (t.size : Int)) = true := by simp; omega
    have e2 : decide (1048576 < t.size) = true := by simp; omega
    go_enter Try.func14, Try.ntmps14
    go_wp2
    go_ret
    exact ⟨rfl, hb⟩
  · have e1 : decide (1048576 < (t.size : Int)) = false := by simp; omega
    have e2 : decide (1048576 < t.size) = false := by simp; omega
    obtain ⟨ra, rb, ok, hi, hs⟩ := rr_name p c h s t
    have HI := Lib.hid hi
    have HS := Lib.hid hs
    clear hi hs hbig
    obtain ⟨x0, x1, x2, x3, xf, xl⟩ := BV.four
    cases ok
    all_goals
      go_enter Try.func14, Try.ntmps14
      go_wp2_with fail
      clear x0 x1 x2 x3 xf xl
      generalize w.alloc (.cells #[.int .i64 p, .int .i64 c, .int .i64 h, .int .i64 s] 42) = ww0 at *
      refine (toVariant_any _ _ _ _ _).mono ?_
      rintro e w1 ⟨rfl, hb1⟩
      replace BV := BV.below hb1
      replace hb := chain hb hb1
      clear hb1
      go_wp2_with fail
      refine (HS.out _).mono ?_
      rintro e w2 ⟨rfl, hb2⟩
      have B1 := Blk.new w2 #[.int .i64 ra, .int .i64 rb] 33
      have hb2' : Below w1.heap.size w1 (w2.alloc (.cells #[.int .i64 ra, .int .i64 rb] 33)) := hb2.alloc hb2.size _
      replace BV := BV.below hb2'
      replace hb := chain hb hb2'
      clear hb2 hb2'
      obtain ⟨x0, x1, x2, x3, xf, xl⟩ := BV.four
      go_wp2_with fail
      clear x0 x1 x2 x3 xf xl
      generalize w2.alloc (.cells #[.int .i64 ra, .int .i64 rb] 33) = ww2 at *
      refine (toVariant_any _ _ _ _ _).mono ?_
      rintro e w3 ⟨rfl, hb3⟩
      replace BV := BV.below hb3
      replace B1 := B1.below hb3
      replace hb := chain hb hb3
      clear hb3
      go_wp2_with fail
      refine (HI.out _).mono ?_
      rintro e w4 ⟨rfl, hb4⟩
      have B2 := Blk.new w4 #[.int .i64 ra, .int .i64 rb] 33
      have hb4' : Below w3.heap.size w3 (w4.alloc (.cells #[.int .i64 ra, .int .i64 rb] 33)) := hb4.alloc hb4.size _
      replace B1 := B1.below hb4'
      replace hb := chain hb hb4'
      clear hb4 hb4'
      obtain ⟨y0, y1, yf, yl⟩ := B1.two
      obtain ⟨z0, z1, zf, zl⟩ := B2.two
      go_wp2_with fail
      refine (eqRoll_sameR _ _ _).mono ?_
      rintro e w5 ⟨rfl, hb5⟩
      go_wp2_with fail
      go_ret
      exact ⟨rfl, chain hb hb5⟩
set_option maxRecDepth 100000 in
theorem fnExactReadRoll_lifted (os : Os) (started : os.Started) (H : Type) (enc : TypeId × Value → H) :
    ReturnsInHanded {} Try.checked os 14 .any (Rows.fnExactReadRollSpec.pre6 enc Try.prog Try.f14 Rows.fnExactReadRollRow.domain false) (Rows.fnExactReadRollSpec.post enc Try.prog Try.f14 false true false false) := by
  refine returnsInHanded_of_change (C := Try.checked) own started (by kernel_rfl) Try.func14
    (ChangeSpec.witness6 (enc := enc) (C := Try.checked) false ⟨#[], #[.agg #[.int .i64 0, .int .i64 0, .int .i64 0, .int .i64 0], .string (ByteArray.mk #[])], []⟩ 8 (by kernel_rfl) (by kernel_rfl) (by kernel_rfl) (by kernel_rfl)) ?_
  intro W base args ds gs before hval0 hW hcnd _
  have hval : ∀ (j : Nat) t v, Try.f14.params[j]? = some t → args[j]? = some v → Value.okWide Try.prog W .any base t v := hval0
  have hW' := hW
  obtain ⟨p, q, hA0, hV, rfl, hfz, hnd⟩ := hW
  have hA : DataW.TrodAll enc Try.prog W 0 (fun _ => true) true Try.f14.params.toList args.toList ds p := hA0
  rw [Try.params14] at hA hval
  obtain ⟨v0, vs0, d0, ds0, p0, q0, hargs, rfl, rfl, h0, r0⟩ := trodAll_cons hA
  obtain ⟨v1, vs1, d1, ds1, p1, q1, rfl, rfl, rfl, h1, r1⟩ := trodAll_cons r0
  obtain ⟨rfl, rfl, rfl⟩ := trodAll_nil r1
  obtain rfl : args = #[v0, v1] := by cases args; simp_all
  obtain ⟨rfl, rfl⟩ := trodVars_none hV
  have k0 := h0
  have lt0 : ∀ x ∈ p0, x.block < W.heap.size := by obtain ⟨m, hm⟩ := k0; exact DataW.trod_lt m _ _ _ hm
  have k1 := h1
  have lt1 : ∀ x ∈ p1, x.block < W.heap.size := by obtain ⟨m, hm⟩ := k1; exact DataW.trod_lt m _ _ _ hm
  obtain ⟨x0_0, x1_0, x2_0, x3_0, y0_0, y1_0, y2_0, y3_0, m_0, rfl, _, _, hy0_0, hy1_0, hy2_0, hy3_0⟩ := Joins.open_agg4 Try.underlying42 (by kernel_rfl) (show Try.prog.cellsOf 42 = 4 by kernel_rfl) (hval 0 42 v0 rfl rfl) h0
  obtain ⟨a0_0, e0_0, _, wa0_0⟩ := DataW.trod_int Try.underlying2 hy0_0
  obtain ⟨a1_0, e1_0, _, wa1_0⟩ := DataW.trod_int Try.underlying2 hy1_0
  obtain ⟨a2_0, e2_0, _, wa2_0⟩ := DataW.trod_int Try.underlying2 hy2_0
  obtain ⟨a3_0, e3_0, _, wa3_0⟩ := DataW.trod_int Try.underlying2 hy3_0
  simp at e0_0 e1_0 e2_0 e3_0
  subst e0_0 e1_0 e2_0 e3_0
  obtain ⟨s_1, rfl, _, _, ws_1⟩ := open_string Try.underlying9 (hval 1 9 v1 rfl rfl) h1
  clear hA0 hval0
  refine (fnExactReadRoll_walk a0_0 a1_0 a2_0 a3_0 s_1 W).mono fun e W' ⟨he, bel⟩ => ?_
  subst he
  exact ⟨_, rfl, _, _, _, [], _, [], hW', trodAll_mk1 (shut_bool Try.underlying4 _), (trodAll_cons_mk (Below.trod laidOut (by kernel_rfl) (of_decide_eq_true (by kernel_rfl)) k0 bel lt0) (trodAll_cons_mk (Below.trod laidOut (by kernel_rfl) (of_decide_eq_true (by kernel_rfl)) k1 bel lt1) trodAll_mk0)), rfl, bel.frame _, fun h => by cases h⟩
theorem fnExactReadRoll_holds : Rows.FnExactReadRollSaid :=
  OpenClaim.holds_of_wide 14 Try.f14 rfl rfl rfl rfl rfl rfl rfl ⟨rfl, rfl, rfl, rfl, rfl⟩ rfl rfl rfl rfl rfl (by kernel_rfl) Try.func14 (by kernel_rfl)
    (of_decide_eq_true (by kernel_rfl)) (by unfold Func.isWrapper; first | (rw [if_pos (by decide +kernel)]; kernel_rfl) | (rw [if_neg (by decide +kernel)]; exact ⟨rfl, rfl⟩))
    (fun os started H enc _ => fnExactReadRoll_lifted os started H enc)
end Go.Proofs.Ytcmfknkdfkchmaa
