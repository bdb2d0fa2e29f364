/- The exact law of chapter 16 on whether the player on roll may double holds: for every input the law returns true and its arguments read behind the call as they read before. No conditions. -/
import Derived.Test.Ytkcjbjkccafekaa16e
import Derived.Test.YtkcjbjkccafekaaCbL
import Derived.Test.YtkcjbjkccafekaaL01b
import Derived.Test.YtkcjbjkccafekaaVarB
import Derived.Test.YtkcjbjkccafekaaRows
import Derived.ChangeOld
namespace Go.Proofs.Ytkcjbjkccafekaa
open Go.ChangeMaps (open_string shut_string)
open Go.ChangeShapes Go.WideShapes Go.ChangeAt Go.RowKit
set_option linter.unusedVariables false
set_option linter.unusedSimpArgs false
set_option maxRecDepth 4000

set_option maxRecDepth 8000 in
set_option maxHeartbeats 2000000 in
theorem fnExactCanDouble_walk (m : Int) (be ja : Bool) (v o : Int) (w : World) :
    Calls Try.prog 8 #[.agg #[.int .i64 m, .bool be, .bool ja], .agg #[.int .i64 v, .int .i64 o]] w fun e w' => e = .returned (.bool true) ∧ Below w.heap.size w w' := by
    obtain ⟨BR, BC, hb, hz⟩ := two_new w #[.int .i64 m, .bool be, .bool ja] #[.int .i64 v, .int .i64 o] 41 45
    clear hz
    have hsp := fun W => specCanDouble_any m v o be ja W
    have him := fun W => canDouble_any m v o be ja W
    obtain ⟨T, h_T⟩ : ∃ T, (cbB m v o && mayB m v o 1) = T := ⟨_, rfl⟩
    rw [h_T] at hsp him
    have HSP := Lib.hid hsp
    have HIM := Lib.hid him
    clear hsp him h_T
    go_enter Try.func8, Try.ntmps8
    go_wp2_with fail
    generalize ((w.alloc (.cells #[.int .i64 m, .bool be, .bool ja] 41)).alloc (.cells #[.int .i64 v, .int .i64 o] 45)) = v0 at *
    obtain ⟨q0_BR, q1_BR, q2_BR, qf_BR, ql_BR⟩ := BR.t3
    obtain ⟨q0_BC, q1_BC, qf_BC, ql_BC⟩ := BC.two
    go_wp2_with fail
    clear q0_BR q1_BR q2_BR qf_BR ql_BR
    clear q0_BC q1_BC qf_BC ql_BC
    have hd1 : v0.drew.heap.size = v0.heap.size := rfl
    replace BR := BR.drew
    replace BC := BC.drew
    replace hb := hb.drew
    refine wp_region_held_drew (S := fun w' => w'.cell? ⟨w.heap.size, 0, none⟩ = some (.int .i64 m) ∧ w'.cell? ⟨w.heap.size, 1, none⟩ = some (.bool be) ∧ w'.cell? ⟨w.heap.size, 2, none⟩ = some (.bool ja) ∧ w'.cell? ⟨(w.heap.size + 1), 0, none⟩ = some (.int .i64 v) ∧ w'.cell? ⟨(w.heap.size + 1), 1, none⟩ = some (.int .i64 o)) (by kernel_rfl) ⟨BR.t3.1, BR.t3.2.1, BR.t3.2.2.1, BC.two.1, BC.two.2.1⟩ (fun hHeld => ?_)
    clear hHeld
    generalize v0.drew = vd1 at *
    have hHeld : vd1.cell? ⟨w.heap.size, 0, none⟩ = some (.int .i64 m) ∧ vd1.cell? ⟨w.heap.size, 1, none⟩ = some (.bool be) ∧ vd1.cell? ⟨w.heap.size, 2, none⟩ = some (.bool ja) ∧ vd1.cell? ⟨(w.heap.size + 1), 0, none⟩ = some (.int .i64 v) ∧ vd1.cell? ⟨(w.heap.size + 1), 1, none⟩ = some (.int .i64 o) := ⟨BR.t3.1, BR.t3.2.1, BR.t3.2.2.1, BC.two.1, BC.two.2.1⟩
    refine tk 0 7 ?_
    refine tk 2 9 ?_
    refine rdk 1 8 fun K hK => ?_
    go_simp
    refine (toCubeRules_any _ _ _ _).mono ?_
    rintro e w2 ⟨rfl, hb2⟩
    replace BR := BR.below hb2
    replace BC := BC.below hb2
    have hz2 := hb2.size
    replace hb := chain hb hb2
    clear hb2
    (try go_wp2_with fail)
    refine hko hK ⟨BR.t3.1, BR.t3.2.1, BR.t3.2.2.1, (Blk.l2 BC)⟩ fun hHeld => ?_
    clear hK K
    refine rdk 3 10 fun K hK => ?_
    go_simp
    refine (toCube_any _ _ _).mono ?_
    rintro e w3 ⟨rfl, hb3⟩
    replace BR := BR.below hb3
    replace BC := BC.below hb3
    have hz3 := hb3.size
    replace hb := chain hb hb3
    clear hb3
    (try go_wp2_with fail)
    refine hko hK ⟨BR.t3.1, BR.t3.2.1, BR.t3.2.2.1, (Blk.l2 BC)⟩ fun hHeld => ?_
    clear hK K
    refine rdk 4 11 fun K hK => ?_
    go_simp
    refine (HSP.out _).mono ?_
    rintro e w4 ⟨rfl, hb4⟩
    replace BR := BR.below hb4
    replace BC := BC.below hb4
    have hz4 := hb4.size
    replace hb := chain hb hb4
    clear hb4
    (try go_wp2_with fail)
    refine hko hK ⟨BR.t3.1, BR.t3.2.1, BR.t3.2.2.1, (Blk.l2 BC)⟩ fun hHeld => ?_
    clear hK K
    refine tk 5 5 ?_
    refine wpAnyH_done (by kernel_rfl) ?_ _
    clear hHeld
    obtain ⟨q0_BR, q1_BR, q2_BR, qf_BR, ql_BR⟩ := BR.t3
    obtain ⟨q0_BC, q1_BC, qf_BC, ql_BC⟩ := BC.two
    go_wp2_with fail
    clear q0_BR q1_BR q2_BR qf_BR ql_BR
    clear q0_BC q1_BC qf_BC ql_BC
    have hd5 : w4.drew.heap.size = w4.heap.size := rfl
    replace BR := BR.drew
    replace BC := BC.drew
    replace hb := hb.drew
    refine wp_region_held_drew (S := fun w' => w'.cell? ⟨w.heap.size, 0, none⟩ = some (.int .i64 m) ∧ w'.cell? ⟨w.heap.size, 1, none⟩ = some (.bool be) ∧ w'.cell? ⟨w.heap.size, 2, none⟩ = some (.bool ja) ∧ w'.cell? ⟨(w.heap.size + 1), 0, none⟩ = some (.int .i64 v) ∧ w'.cell? ⟨(w.heap.size + 1), 1, none⟩ = some (.int .i64 o)) (by kernel_rfl) ⟨BR.t3.1, BR.t3.2.1, BR.t3.2.2.1, BC.two.1, BC.two.2.1⟩ (fun hHeld => ?_)
    clear hHeld
    generalize w4.drew = vd5 at *
    have hHeld : vd5.cell? ⟨w.heap.size, 0, none⟩ = some (.int .i64 m) ∧ vd5.cell? ⟨w.heap.size, 1, none⟩ = some (.bool be) ∧ vd5.cell? ⟨w.heap.size, 2, none⟩ = some (.bool ja) ∧ vd5.cell? ⟨(w.heap.size + 1), 0, none⟩ = some (.int .i64 v) ∧ vd5.cell? ⟨(w.heap.size + 1), 1, none⟩ = some (.int .i64 o) := ⟨BR.t3.1, BR.t3.2.1, BR.t3.2.2.1, BC.two.1, BC.two.2.1⟩
    refine tk 0 12 ?_
    refine tk 2 14 ?_
    refine rdk 1 13 fun K hK => ?_
    go_simp
    refine (toCubeRules_any _ _ _ _).mono ?_
    rintro e w6 ⟨rfl, hb6⟩
    replace BR := BR.below hb6
    replace BC := BC.below hb6
    have hz6 := hb6.size
    replace hb := chain hb hb6
    clear hb6
    (try go_wp2_with fail)
    refine hko hK ⟨BR.t3.1, BR.t3.2.1, BR.t3.2.2.1, (Blk.l2 BC)⟩ fun hHeld => ?_
    clear hK K
    refine rdk 3 15 fun K hK => ?_
    go_simp
    refine (toCube_any _ _ _).mono ?_
    rintro e w7 ⟨rfl, hb7⟩
    replace BR := BR.below hb7
    replace BC := BC.below hb7
    have hz7 := hb7.size
    replace hb := chain hb hb7
    clear hb7
    (try go_wp2_with fail)
    refine hko hK ⟨BR.t3.1, BR.t3.2.1, BR.t3.2.2.1, (Blk.l2 BC)⟩ fun hHeld => ?_
    clear hK K
    refine rdk 4 16 fun K hK => ?_
    go_simp
    refine (HIM.out _).mono ?_
    rintro e w8 ⟨rfl, hb8⟩
    replace BR := BR.below hb8
    replace BC := BC.below hb8
    have hz8 := hb8.size
    replace hb := chain hb hb8
    clear hb8
    (try go_wp2_with fail)
    refine hko hK ⟨BR.t3.1, BR.t3.2.1, BR.t3.2.2.1, (Blk.l2 BC)⟩ fun hHeld => ?_
    clear hK K
    refine tk 5 6 ?_
    refine wpAnyH_done (by kernel_rfl) ?_ _
    clear hHeld
    obtain ⟨q0_BR, q1_BR, q2_BR, qf_BR, ql_BR⟩ := BR.t3
    obtain ⟨q0_BC, q1_BC, qf_BC, ql_BC⟩ := BC.two
    go_wp2_with fail
    go_ret
    exact ⟨rfl, hb⟩
set_option maxRecDepth 100000 in
theorem fnExactCanDouble_lifted (os : Os) (started : os.Started) (H : Type) (enc : TypeId × Value → H) :
    ReturnsInHanded {} Try.checked os 8 .any (Rows.fnExactCanDoubleSpec.pre6 enc Try.prog Try.f8 Rows.fnExactCanDoubleRow.domain false) (Rows.fnExactCanDoubleSpec.post enc Try.prog Try.f8 false true false false) := by
  refine returnsInHanded_of_change (C := Try.checked) own started (by kernel_rfl) Try.func8
    (ChangeSpec.witness6 (enc := enc) (C := Try.checked) false ⟨#[], #[.agg #[.int .i64 0, .bool false, .bool false], .agg #[.int .i64 0, .int .i64 0]], []⟩ 8 (by kernel_rfl) (by kernel_rfl) (by kernel_rfl) (by kernel_rfl)) ?_
  intro W base args ds gs before hval0 hW hcnd _
  have hval : ∀ (j : Nat) t v, Try.f8.params[j]? = some t → args[j]? = some v → Value.okWide Try.prog W .any base t v := hval0
  have hW' := hW
  obtain ⟨p, q, hA0, hV, rfl, hfz, hnd⟩ := hW
  have hA : DataW.TrodAll enc Try.prog W 0 (fun _ => true) true Try.f8.params.toList args.toList ds p := hA0
  rw [Try.params8] at hA hval
  obtain ⟨v0, vs0, d0, ds0, p0, q0, hargs, rfl, rfl, h0, r0⟩ := trodAll_cons hA
  obtain ⟨v1, vs1, d1, ds1, p1, q1, rfl, rfl, rfl, h1, r1⟩ := trodAll_cons r0
  obtain ⟨rfl, rfl, rfl⟩ := trodAll_nil r1
  obtain rfl : args = #[v0, v1] := by cases args; simp_all
  obtain ⟨rfl, rfl⟩ := trodVars_none hV
  have k0 := h0
  have lt0 : ∀ x ∈ p0, x.block < W.heap.size := by obtain ⟨m, hm⟩ := k0; exact DataW.trod_lt m _ _ _ hm
  have k1 := h1
  have lt1 : ∀ x ∈ p1, x.block < W.heap.size := by obtain ⟨m, hm⟩ := k1; exact DataW.trod_lt m _ _ _ hm
  obtain ⟨x0_0, x1_0, x2_0, y0_0, y1_0, y2_0, m_0, rfl, _, _, hy0_0, hy1_0, hy2_0⟩ := Joins.open_agg3 Try.underlying41 (by kernel_rfl) (show Try.prog.cellsOf 41 = 3 by kernel_rfl) (hval 0 41 v0 rfl rfl) h0
  obtain ⟨a0_0, e0_0, _, wa0_0⟩ := DataW.trod_int Try.underlying2 hy0_0
  obtain ⟨a1_0, e1_0, _⟩ := DataW.trod_bool Try.underlying4 hy1_0
  obtain ⟨a2_0, e2_0, _⟩ := DataW.trod_bool Try.underlying4 hy2_0
  simp at e0_0 e1_0 e2_0
  subst e0_0 e1_0 e2_0
  obtain ⟨x0_1, x1_1, y0_1, y1_1, m_1, rfl, _, _, hy0_1, hy1_1⟩ := Joins.open_agg2 Try.underlying45 (by kernel_rfl) (show Try.prog.cellsOf 45 = 2 by kernel_rfl) (hval 1 45 v1 rfl rfl) h1
  obtain ⟨a0_1, e0_1, _, wa0_1⟩ := DataW.trod_int Try.underlying2 hy0_1
  obtain ⟨a1_1, e1_1, _, wa1_1⟩ := DataW.trod_int Try.underlying2 hy1_1
  simp at e0_1 e1_1
  subst e0_1 e1_1
  clear hA0 hval0
  refine (fnExactCanDouble_walk a0_0 a1_0 a2_0 a0_1 a1_1 W).mono fun e W' ⟨he, bel⟩ => ?_
  subst he
  exact ⟨_, rfl, _, _, _, [], _, [], hW', trodAll_mk1 (shut_bool Try.underlying4 _), (trodAll_cons_mk (Below.trod laidOut (by kernel_rfl) (of_decide_eq_true (by kernel_rfl)) k0 bel lt0) (trodAll_cons_mk (Below.trod laidOut (by kernel_rfl) (of_decide_eq_true (by kernel_rfl)) k1 bel lt1) trodAll_mk0)), rfl, bel.frame _, fun h => by cases h⟩
theorem fnExactCanDouble_holds : Rows.FnExactCanDoubleSaid :=
  OpenClaim.holds_of_wide 8 Try.f8 rfl rfl rfl rfl rfl rfl rfl ⟨rfl, rfl, rfl, rfl, rfl⟩ rfl rfl rfl rfl rfl (by kernel_rfl) Try.func8 (by kernel_rfl)
    (of_decide_eq_true (by kernel_rfl)) (by unfold Func.isWrapper; first | (rw [if_pos (by decide +kernel)]; kernel_rfl) | (rw [if_neg (by decide +kernel)]; exact ⟨rfl, rfl⟩))
    (fun os started H enc _ => fnExactCanDouble_lifted os started H enc)
end Go.Proofs.Ytkcjbjkccafekaa
