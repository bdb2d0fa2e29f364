/- The exact laws of chapter 1 on validity, home points and numbers of rolls hold: for every input the law returns true and its argument reads behind the call as it read before. No conditions. -/
import Derived.Test.YtlbmknmihofloaaL01b
import Derived.ChangeOld
namespace Go.Proofs.Ytlbmknmihofloaa
open Go.ChangeShapes Go.WideShapes Go.ChangeAt Go.RowKit
open Go.ChangeMaps (open_string shut_string)
set_option linter.unusedVariables false
set_option linter.unusedSimpArgs false
theorem fnExactIsVariant_walk (p c h s : Int) (w : World) :
    Calls Try.prog 3 #[.agg #[.int .i64 p, .int .i64 c, .int .i64 h, .int .i64 s]] w fun e w' => e = .returned (.bool true) ∧ Below w.heap.size w w' := by
  go_enter Try.func3, Try.ntmps3
  go_wp2_with fail
  refine (toVariant_any _ _ _ _ _).mono ?_
  rintro e w1 ⟨rfl, hb1⟩
  go_wp2_with fail
  refine (specIsVariant_any _ _ _ _ _).mono ?_
  rintro e w2 ⟨rfl, hb2⟩
  have hb := chain hb1 hb2
  clear hb1 hb2
  obtain ⟨hc, hf⟩ := bcell hb
  go_wp2_with fail
  refine (toVariant_any _ _ _ _ _).mono ?_
  rintro e w3 ⟨rfl, hb3⟩
  replace hb := chain hb hb3
  clear hb3 hc hf
  go_wp2_with fail
  refine (isVariant_any _ _ _ _ _).mono ?_
  rintro e w4 ⟨rfl, hb4⟩
  replace hb := chain hb hb4
  clear hb4
  go_wp2_with fail
  go_ret
  exact ⟨rfl, from_alloc hb⟩
set_option maxRecDepth 100000 in
theorem fnExactIsVariant_lifted (os : Os) (started : os.Started) (H : Type) (enc : TypeId × Value → H) :
    ReturnsInHanded {} Try.checked os 3 .any (Rows.fnExactIsVariantSpec.pre6 enc Try.prog Try.f3 Rows.fnExactIsVariantRow.domain false) (Rows.fnExactIsVariantSpec.post enc Try.prog Try.f3 false true false false) := by
  refine returnsInHanded_of_change (C := Try.checked) own started (by kernel_rfl) Try.func3
    (ChangeSpec.witness6 (enc := enc) (C := Try.checked) false ⟨#[], #[.agg #[.int .i64 0, .int .i64 0, .int .i64 0, .int .i64 0]], []⟩ 8 (by kernel_rfl) (by kernel_rfl) (by kernel_rfl) (by kernel_rfl)) ?_
  intro W base args ds gs before hval0 hW hcnd _
  have hval : ∀ (j : Nat) t v, Try.f3.params[j]? = some t → args[j]? = some v → Value.okWide Try.prog W .any base t v := hval0
  have hW' := hW
  obtain ⟨p, q, hA0, hV, rfl, hfz, hnd⟩ := hW
  have hA : DataW.TrodAll enc Try.prog W 0 (fun _ => true) true Try.f3.params.toList args.toList ds p := hA0
  rw [Try.params3] at hA hval
  obtain ⟨v0, vs0, d0, ds0, p0, q0, hargs, rfl, rfl, h0, r0⟩ := trodAll_cons hA
  obtain ⟨rfl, rfl, rfl⟩ := trodAll_nil r0
  obtain rfl : args = #[v0] := by cases args; simp_all
  obtain ⟨rfl, rfl⟩ := trodVars_none hV
  have k0 := h0
  have lt0 : ∀ x ∈ p0, x.block < W.heap.size := by obtain ⟨m, hm⟩ := k0; exact DataW.trod_lt m _ _ _ hm
  obtain ⟨x0_0, x1_0, x2_0, x3_0, y0_0, y1_0, y2_0, y3_0, m_0, rfl, _, _, hy0_0, hy1_0, hy2_0, hy3_0⟩ := Joins.open_agg4 Try.underlying23 (by kernel_rfl) (show Try.prog.cellsOf 23 = 4 by kernel_rfl) (hval 0 23 v0 rfl rfl) h0
  obtain ⟨a0_0, e0_0, _, wa0_0⟩ := DataW.trod_int Try.underlying2 hy0_0
  obtain ⟨a1_0, e1_0, _, wa1_0⟩ := DataW.trod_int Try.underlying2 hy1_0
  obtain ⟨a2_0, e2_0, _, wa2_0⟩ := DataW.trod_int Try.underlying2 hy2_0
  obtain ⟨a3_0, e3_0, _, wa3_0⟩ := DataW.trod_int Try.underlying2 hy3_0
  simp at e0_0 e1_0 e2_0 e3_0
  subst e0_0 e1_0 e2_0 e3_0
  clear hA0 hval0
  refine (fnExactIsVariant_walk a0_0 a1_0 a2_0 a3_0 W).mono fun e W' ⟨he, bel⟩ => ?_
  subst he
  exact ⟨_, rfl, _, _, _, [], _, [], hW', trodAll_mk1 (shut_bool Try.underlying4 _), (trodAll_cons_mk (Below.trod laidOut (by kernel_rfl) (of_decide_eq_true (by kernel_rfl)) k0 bel lt0) trodAll_mk0), rfl, bel.frame _, fun h => by cases h⟩
theorem fnExactIsVariant_holds : Rows.FnExactIsVariantSaid :=
  OpenClaim.holds_of_wide 3 Try.f3 rfl rfl rfl rfl rfl rfl rfl ⟨rfl, rfl, rfl, rfl, rfl⟩ rfl rfl rfl rfl rfl (by kernel_rfl) Try.func3 (by kernel_rfl)
    (of_decide_eq_true (by kernel_rfl)) (by unfold Func.isWrapper; first | (rw [if_pos (by decide +kernel)]; kernel_rfl) | (rw [if_neg (by decide +kernel)]; exact ⟨rfl, rfl⟩))
    (fun os started H enc _ => fnExactIsVariant_lifted os started H enc)
theorem fnExactIsSmallVariant_walk (p c h s : Int) (w : World) :
    Calls Try.prog 4 #[.agg #[.int .i64 p, .int .i64 c, .int .i64 h, .int .i64 s]] w fun e w' => e = .returned (.bool true) ∧ Below w.heap.size w w' := by
  go_enter Try.func4, Try.ntmps4
  go_wp2_with fail
  refine (toVariant_any _ _ _ _ _).mono ?_
  rintro e w1 ⟨rfl, hb1⟩
  go_wp2_with fail
  refine (specIsSmallVariant_any _ _ _ _ _).mono ?_
  rintro e w2 ⟨rfl, hb2⟩
  have hb := chain hb1 hb2
  clear hb1 hb2
  obtain ⟨hc, hf⟩ := bcell hb
  go_wp2_with fail
  refine (toVariant_any _ _ _ _ _).mono ?_
  rintro e w3 ⟨rfl, hb3⟩
  replace hb := chain hb hb3
  clear hb3 hc hf
  go_wp2_with fail
  refine (isSmallVariant_any _ _ _ _ _).mono ?_
  rintro e w4 ⟨rfl, hb4⟩
  replace hb := chain hb hb4
  clear hb4
  go_wp2_with fail
  go_ret
  exact ⟨rfl, from_alloc hb⟩
set_option maxRecDepth 100000 in
theorem fnExactIsSmallVariant_lifted (os : Os) (started : os.Started) (H : Type) (enc : TypeId × Value → H) :
    ReturnsInHanded {} Try.checked os 4 .any (Rows.fnExactIsSmallVariantSpec.pre6 enc Try.prog Try.f4 Rows.fnExactIsSmallVariantRow.domain false) (Rows.fnExactIsSmallVariantSpec.post enc Try.prog Try.f4 false true false false) := by
  refine returnsInHanded_of_change (C := Try.checked) own started (by kernel_rfl) Try.func4
    (ChangeSpec.witness6 (enc := enc) (C := Try.checked) false ⟨#[], #[.agg #[.int .i64 0, .int .i64 0, .int .i64 0, .int .i64 0]], []⟩ 8 (by kernel_rfl) (by kernel_rfl) (by kernel_rfl) (by kernel_rfl)) ?_
  intro W base args ds gs before hval0 hW hcnd _
  have hval : ∀ (j : Nat) t v, Try.f4.params[j]? = some t → args[j]? = some v → Value.okWide Try.prog W .any base t v := hval0
  have hW' := hW
  obtain ⟨p, q, hA0, hV, rfl, hfz, hnd⟩ := hW
  have hA : DataW.TrodAll enc Try.prog W 0 (fun _ => true) true Try.f4.params.toList args.toList ds p := hA0
  rw [Try.params4] at hA hval
  obtain ⟨v0, vs0, d0, ds0, p0, q0, hargs, rfl, rfl, h0, r0⟩ := trodAll_cons hA
  obtain ⟨rfl, rfl, rfl⟩ := trodAll_nil r0
  obtain rfl : args = #[v0] := by cases args; simp_all
  obtain ⟨rfl, rfl⟩ := trodVars_none hV
  have k0 := h0
  have lt0 : ∀ x ∈ p0, x.block < W.heap.size := by obtain ⟨m, hm⟩ := k0; exact DataW.trod_lt m _ _ _ hm
  obtain ⟨x0_0, x1_0, x2_0, x3_0, y0_0, y1_0, y2_0, y3_0, m_0, rfl, _, _, hy0_0, hy1_0, hy2_0, hy3_0⟩ := Joins.open_agg4 Try.underlying23 (by kernel_rfl) (show Try.prog.cellsOf 23 = 4 by kernel_rfl) (hval 0 23 v0 rfl rfl) h0
  obtain ⟨a0_0, e0_0, _, wa0_0⟩ := DataW.trod_int Try.underlying2 hy0_0
  obtain ⟨a1_0, e1_0, _, wa1_0⟩ := DataW.trod_int Try.underlying2 hy1_0
  obtain ⟨a2_0, e2_0, _, wa2_0⟩ := DataW.trod_int Try.underlying2 hy2_0
  obtain ⟨a3_0, e3_0, _, wa3_0⟩ := DataW.trod_int Try.underlying2 hy3_0
  simp at e0_0 e1_0 e2_0 e3_0
  subst e0_0 e1_0 e2_0 e3_0
  clear hA0 hval0
  refine (fnExactIsSmallVariant_walk a0_0 a1_0 a2_0 a3_0 W).mono fun e W' ⟨he, bel⟩ => ?_
  subst he
  exact ⟨_, rfl, _, _, _, [], _, [], hW', trodAll_mk1 (shut_bool Try.underlying4 _), (trodAll_cons_mk (Below.trod laidOut (by kernel_rfl) (of_decide_eq_true (by kernel_rfl)) k0 bel lt0) trodAll_mk0), rfl, bel.frame _, fun h => by cases h⟩
theorem fnExactIsSmallVariant_holds : Rows.FnExactIsSmallVariantSaid :=
  OpenClaim.holds_of_wide 4 Try.f4 rfl rfl rfl rfl rfl rfl rfl ⟨rfl, rfl, rfl, rfl, rfl⟩ rfl rfl rfl rfl rfl (by kernel_rfl) Try.func4 (by kernel_rfl)
    (of_decide_eq_true (by kernel_rfl)) (by unfold Func.isWrapper; first | (rw [if_pos (by decide +kernel)]; kernel_rfl) | (rw [if_neg (by decide +kernel)]; exact ⟨rfl, rfl⟩))
    (fun os started H enc _ => fnExactIsSmallVariant_lifted os started H enc)
theorem fnExactHomesApart_walk (p c h s : Int) (w : World) :
    Calls Try.prog 6 #[.agg #[.int .i64 p, .int .i64 c, .int .i64 h, .int .i64 s]] w fun e w' => e = .returned (.bool true) ∧ Below w.heap.size w w' := by
  go_enter Try.func6, Try.ntmps6
  go_wp2_with fail
  refine (toVariant_any _ _ _ _ _).mono ?_
  rintro e w1 ⟨rfl, hb1⟩
  go_wp2_with fail
  refine (specHomesApart_any _ _ _ _ _).mono ?_
  rintro e w2 ⟨rfl, hb2⟩
  have hb := chain hb1 hb2
  clear hb1 hb2
  obtain ⟨hc, hf⟩ := bcell hb
  go_wp2_with fail
  refine (toVariant_any _ _ _ _ _).mono ?_
  rintro e w3 ⟨rfl, hb3⟩
  replace hb := chain hb hb3
  clear hb3 hc hf
  go_wp2_with fail
  refine (homesApart_any _ _ _ _ _).mono ?_
  rintro e w4 ⟨rfl, hb4⟩
  replace hb := chain hb hb4
  clear hb4
  go_wp2_with fail
  go_ret
  exact ⟨rfl, from_alloc hb⟩
set_option maxRecDepth 100000 in
theorem fnExactHomesApart_lifted (os : Os) (started : os.Started) (H : Type) (enc : TypeId × Value → H) :
    ReturnsInHanded {} Try.checked os 6 .any (Rows.fnExactHomesApartSpec.pre6 enc Try.prog Try.f6 Rows.fnExactHomesApartRow.domain false) (Rows.fnExactHomesApartSpec.post enc Try.prog Try.f6 false true false false) := by
  refine returnsInHanded_of_change (C := Try.checked) own started (by kernel_rfl) Try.func6
    (ChangeSpec.witness6 (enc := enc) (C := Try.checked) false ⟨#[], #[.agg #[.int .i64 0, .int .i64 0, .int .i64 0, .int .i64 0]], []⟩ 8 (by kernel_rfl) (by kernel_rfl) (by kernel_rfl) (by kernel_rfl)) ?_
  intro W base args ds gs before hval0 hW hcnd _
  have hval : ∀ (j : Nat) t v, Try.f6.params[j]? = some t → args[j]? = some v → Value.okWide Try.prog W .any base t v := hval0
  have hW' := hW
  obtain ⟨p, q, hA0, hV, rfl, hfz, hnd⟩ := hW
  have hA : DataW.TrodAll enc Try.prog W 0 (fun _ => true) true Try.f6.params.toList args.toList ds p := hA0
  rw [Try.params6] at hA hval
  obtain ⟨v0, vs0, d0, ds0, p0, q0, hargs, rfl, rfl, h0, r0⟩ := trodAll_cons hA
  obtain ⟨rfl, rfl, rfl⟩ := trodAll_nil r0
  obtain rfl : args = #[v0] := by cases args; simp_all
  obtain ⟨rfl, rfl⟩ := trodVars_none hV
  have k0 := h0
  have lt0 : ∀ x ∈ p0, x.block < W.heap.size := by obtain ⟨m, hm⟩ := k0; exact DataW.trod_lt m _ _ _ hm
  obtain ⟨x0_0, x1_0, x2_0, x3_0, y0_0, y1_0, y2_0, y3_0, m_0, rfl, _, _, hy0_0, hy1_0, hy2_0, hy3_0⟩ := Joins.open_agg4 Try.underlying23 (by kernel_rfl) (show Try.prog.cellsOf 23 = 4 by kernel_rfl) (hval 0 23 v0 rfl rfl) h0
  obtain ⟨a0_0, e0_0, _, wa0_0⟩ := DataW.trod_int Try.underlying2 hy0_0
  obtain ⟨a1_0, e1_0, _, wa1_0⟩ := DataW.trod_int Try.underlying2 hy1_0
  obtain ⟨a2_0, e2_0, _, wa2_0⟩ := DataW.trod_int Try.underlying2 hy2_0
  obtain ⟨a3_0, e3_0, _, wa3_0⟩ := DataW.trod_int Try.underlying2 hy3_0
  simp at e0_0 e1_0 e2_0 e3_0
  subst e0_0 e1_0 e2_0 e3_0
  clear hA0 hval0
  refine (fnExactHomesApart_walk a0_0 a1_0 a2_0 a3_0 W).mono fun e W' ⟨he, bel⟩ => ?_
  subst he
  exact ⟨_, rfl, _, _, _, [], _, [], hW', trodAll_mk1 (shut_bool Try.underlying4 _), (trodAll_cons_mk (Below.trod laidOut (by kernel_rfl) (of_decide_eq_true (by kernel_rfl)) k0 bel lt0) trodAll_mk0), rfl, bel.frame _, fun h => by cases h⟩
theorem fnExactHomesApart_holds : Rows.FnExactHomesApartSaid :=
  OpenClaim.holds_of_wide 6 Try.f6 rfl rfl rfl rfl rfl rfl rfl ⟨rfl, rfl, rfl, rfl, rfl⟩ rfl rfl rfl rfl rfl (by kernel_rfl) Try.func6 (by kernel_rfl)
    (of_decide_eq_true (by kernel_rfl)) (by unfold Func.isWrapper; first | (rw [if_pos (by decide +kernel)]; kernel_rfl) | (rw [if_neg (by decide +kernel)]; exact ⟨rfl, rfl⟩))
    (fun os started H enc _ => fnExactHomesApart_lifted os started H enc)
theorem fnExactRollKinds_walk (p c h s : Int) (w : World) :
    Calls Try.prog 7 #[.agg #[.int .i64 p, .int .i64 c, .int .i64 h, .int .i64 s]] w fun e w' => e = .returned (.bool true) ∧ Below w.heap.size w w' := by
  go_enter Try.func7, Try.ntmps7
  go_wp2_with fail
  refine (toVariant_any _ _ _ _ _).mono ?_
  rintro e w1 ⟨rfl, hb1⟩
  go_wp2_with fail
  refine (specRollKinds_any _ _ _ _ _).mono ?_
  rintro e w2 ⟨rfl, hb2⟩
  have hb := chain hb1 hb2
  clear hb1 hb2
  obtain ⟨hc, hf⟩ := bcell hb
  go_wp2_with fail
  refine (toVariant_any _ _ _ _ _).mono ?_
  rintro e w3 ⟨rfl, hb3⟩
  replace hb := chain hb hb3
  clear hb3 hc hf
  go_wp2_with fail
  refine (rollKinds_any _ _ _ _ _).mono ?_
  rintro e w4 ⟨rfl, hb4⟩
  replace hb := chain hb hb4
  clear hb4
  go_wp2_with fail
  go_ret
  exact ⟨rfl, from_alloc hb⟩
set_option maxRecDepth 100000 in
theorem fnExactRollKinds_lifted (os : Os) (started : os.Started) (H : Type) (enc : TypeId × Value → H) :
    ReturnsInHanded {} Try.checked os 7 .any (Rows.fnExactRollKindsSpec.pre6 enc Try.prog Try.f7 Rows.fnExactRollKindsRow.domain false) (Rows.fnExactRollKindsSpec.post enc Try.prog Try.f7 false true false false) := by
  refine returnsInHanded_of_change (C := Try.checked) own started (by kernel_rfl) Try.func7
    (ChangeSpec.witness6 (enc := enc) (C := Try.checked) false ⟨#[], #[.agg #[.int .i64 0, .int .i64 0, .int .i64 0, .int .i64 0]], []⟩ 8 (by kernel_rfl) (by kernel_rfl) (by kernel_rfl) (by kernel_rfl)) ?_
  intro W base args ds gs before hval0 hW hcnd _
  have hval : ∀ (j : Nat) t v, Try.f7.params[j]? = some t → args[j]? = some v → Value.okWide Try.prog W .any base t v := hval0
  have hW' := hW
  obtain ⟨p, q, hA0, hV, rfl, hfz, hnd⟩ := hW
  have hA : DataW.TrodAll enc Try.prog W 0 (fun _ => true) true Try.f7.params.toList args.toList ds p := hA0
  rw [Try.params7] at hA hval
  obtain ⟨v0, vs0, d0, ds0, p0, q0, hargs, rfl, rfl, h0, r0⟩ := trodAll_cons hA
  obtain ⟨rfl, rfl, rfl⟩ := trodAll_nil r0
  obtain rfl : args = #[v0] := by cases args; simp_all
  obtain ⟨rfl, rfl⟩ := trodVars_none hV
  have k0 := h0
  have lt0 : ∀ x ∈ p0, x.block < W.heap.size := by obtain ⟨m, hm⟩ := k0; exact DataW.trod_lt m _ _ _ hm
  obtain ⟨x0_0, x1_0, x2_0, x3_0, y0_0, y1_0, y2_0, y3_0, m_0, rfl, _, _, hy0_0, hy1_0, hy2_0, hy3_0⟩ := Joins.open_agg4 Try.underlying23 (by kernel_rfl) (show Try.prog.cellsOf 23 = 4 by kernel_rfl) (hval 0 23 v0 rfl rfl) h0
  obtain ⟨a0_0, e0_0, _, wa0_0⟩ := DataW.trod_int Try.underlying2 hy0_0
  obtain ⟨a1_0, e1_0, _, wa1_0⟩ := DataW.trod_int Try.underlying2 hy1_0
  obtain ⟨a2_0, e2_0, _, wa2_0⟩ := DataW.trod_int Try.underlying2 hy2_0
  obtain ⟨a3_0, e3_0, _, wa3_0⟩ := DataW.trod_int Try.underlying2 hy3_0
  simp at e0_0 e1_0 e2_0 e3_0
  subst e0_0 e1_0 e2_0 e3_0
  clear hA0 hval0
  refine (fnExactRollKinds_walk a0_0 a1_0 a2_0 a3_0 W).mono fun e W' ⟨he, bel⟩ => ?_
  subst he
  exact ⟨_, rfl, _, _, _, [], _, [], hW', trodAll_mk1 (shut_bool Try.underlying4 _), (trodAll_cons_mk (Below.trod laidOut (by kernel_rfl) (of_decide_eq_true (by kernel_rfl)) k0 bel lt0) trodAll_mk0), rfl, bel.frame _, fun h => by cases h⟩
theorem fnExactRollKinds_holds : Rows.FnExactRollKindsSaid :=
  OpenClaim.holds_of_wide 7 Try.f7 rfl rfl rfl rfl rfl rfl rfl ⟨rfl, rfl, rfl, rfl, rfl⟩ rfl rfl rfl rfl rfl (by kernel_rfl) Try.func7 (by kernel_rfl)
    (of_decide_eq_true (by kernel_rfl)) (by unfold Func.isWrapper; first | (rw [if_pos (by decide +kernel)]; kernel_rfl) | (rw [if_neg (by decide +kernel)]; exact ⟨rfl, rfl⟩))
    (fun os started H enc _ => fnExactRollKinds_lifted os started H enc)
theorem fnExactRollTotal_walk (p c h s : Int) (w : World) :
    Calls Try.prog 8 #[.agg #[.int .i64 p, .int .i64 c, .int .i64 h, .int .i64 s]] w fun e w' => e = .returned (.bool true) ∧ Below w.heap.size w w' := by
  go_enter Try.func8, Try.ntmps8
  go_wp2_with fail
  refine (toVariant_any _ _ _ _ _).mono ?_
  rintro e w1 ⟨rfl, hb1⟩
  go_wp2_with fail
  refine (specRollTotal_any _ _ _ _ _).mono ?_
  rintro e w2 ⟨rfl, hb2⟩
  have hb := chain hb1 hb2
  clear hb1 hb2
  obtain ⟨hc, hf⟩ := bcell hb
  go_wp2_with fail
  refine (toVariant_any _ _ _ _ _).mono ?_
  rintro e w3 ⟨rfl, hb3⟩
  replace hb := chain hb hb3
  clear hb3 hc hf
  go_wp2_with fail
  refine (rollTotal_any _ _ _ _ _).mono ?_
  rintro e w4 ⟨rfl, hb4⟩
  replace hb := chain hb hb4
  clear hb4
  go_wp2_with fail
  go_ret
  exact ⟨rfl, from_alloc hb⟩
set_option maxRecDepth 100000 in
theorem fnExactRollTotal_lifted (os : Os) (started : os.Started) (H : Type) (enc : TypeId × Value → H) :
    ReturnsInHanded {} Try.checked os 8 .any (Rows.fnExactRollTotalSpec.pre6 enc Try.prog Try.f8 Rows.fnExactRollTotalRow.domain false) (Rows.fnExactRollTotalSpec.post enc Try.prog Try.f8 false true false false) := by
  refine returnsInHanded_of_change (C := Try.checked) own started (by kernel_rfl) Try.func8
    (ChangeSpec.witness6 (enc := enc) (C := Try.checked) false ⟨#[], #[.agg #[.int .i64 0, .int .i64 0, .int .i64 0, .int .i64 0]], []⟩ 8 (by kernel_rfl) (by kernel_rfl) (by kernel_rfl) (by kernel_rfl)) ?_
  intro W base args ds gs before hval0 hW hcnd _
  have hval : ∀ (j : Nat) t v, Try.f8.params[j]? = some t → args[j]? = some v → Value.okWide Try.prog W .any base t v := hval0
  have hW' := hW
  obtain ⟨p, q, hA0, hV, rfl, hfz, hnd⟩ := hW
  have hA : DataW.TrodAll enc Try.prog W 0 (fun _ => true) true Try.f8.params.toList args.toList ds p := hA0
  rw [Try.params8] at hA hval
  obtain ⟨v0, vs0, d0, ds0, p0, q0, hargs, rfl, rfl, h0, r0⟩ := trodAll_cons hA
  obtain ⟨rfl, rfl, rfl⟩ := trodAll_nil r0
  obtain rfl : args = #[v0] := by cases args; simp_all
  obtain ⟨rfl, rfl⟩ := trodVars_none hV
  have k0 := h0
  have lt0 : ∀ x ∈ p0, x.block < W.heap.size := by obtain ⟨m, hm⟩ := k0; exact DataW.trod_lt m _ _ _ hm
  obtain ⟨x0_0, x1_0, x2_0, x3_0, y0_0, y1_0, y2_0, y3_0, m_0, rfl, _, _, hy0_0, hy1_0, hy2_0, hy3_0⟩ := Joins.open_agg4 Try.underlying23 (by kernel_rfl) (show Try.prog.cellsOf 23 = 4 by kernel_rfl) (hval 0 23 v0 rfl rfl) h0
  obtain ⟨a0_0, e0_0, _, wa0_0⟩ := DataW.trod_int Try.underlying2 hy0_0
  obtain ⟨a1_0, e1_0, _, wa1_0⟩ := DataW.trod_int Try.underlying2 hy1_0
  obtain ⟨a2_0, e2_0, _, wa2_0⟩ := DataW.trod_int Try.underlying2 hy2_0
  obtain ⟨a3_0, e3_0, _, wa3_0⟩ := DataW.trod_int Try.underlying2 hy3_0
  simp at e0_0 e1_0 e2_0 e3_0
  subst e0_0 e1_0 e2_0 e3_0
  clear hA0 hval0
  refine (fnExactRollTotal_walk a0_0 a1_0 a2_0 a3_0 W).mono fun e W' ⟨he, bel⟩ => ?_
  subst he
  exact ⟨_, rfl, _, _, _, [], _, [], hW', trodAll_mk1 (shut_bool Try.underlying4 _), (trodAll_cons_mk (Below.trod laidOut (by kernel_rfl) (of_decide_eq_true (by kernel_rfl)) k0 bel lt0) trodAll_mk0), rfl, bel.frame _, fun h => by cases h⟩
theorem fnExactRollTotal_holds : Rows.FnExactRollTotalSaid :=
  OpenClaim.holds_of_wide 8 Try.f8 rfl rfl rfl rfl rfl rfl rfl ⟨rfl, rfl, rfl, rfl, rfl⟩ rfl rfl rfl rfl rfl (by kernel_rfl) Try.func8 (by kernel_rfl)
    (of_decide_eq_true (by kernel_rfl)) (by unfold Func.isWrapper; first | (rw [if_pos (by decide +kernel)]; kernel_rfl) | (rw [if_neg (by decide +kernel)]; exact ⟨rfl, rfl⟩))
    (fun os started H enc _ => fnExactRollTotal_lifted os started H enc)
theorem fnExactFullVariant_walk (w : World) :
    Calls Try.prog 5 #[] w fun e w' => e = .returned (.bool true) ∧ Below w.heap.size w w' := by
  go_enter Try.func5, Try.ntmps5
  go_wp2_with fail
  refine (specFull_any _).mono ?_
  rintro e w1 ⟨rfl, hb1⟩
  go_wp2_with fail
  refine (full_any _).mono ?_
  rintro e w2 ⟨rfl, hb2⟩
  obtain ⟨hc2, hf2⟩ := bcell hb2
  have hz2 : w1.heap.size < w2.heap.size := by have := hb2.size; simp at this; omega
  have hz1 := hb1.size
  go_wp2_with fail
  refine (eqVariant_same _ _ _ _ _).mono ?_
  rintro e w3 ⟨rfl, hb3⟩
  go_wp2_with fail
  go_ret
  exact ⟨rfl, chain (chain_alloc (hb1.trans (from_alloc hb2 |>.mono hz1)) _) hb3⟩
set_option maxRecDepth 100000 in
theorem fnExactFullVariant_lifted (os : Os) (started : os.Started) (H : Type) (enc : TypeId × Value → H) :
    ReturnsInHanded {} Try.checked os 5 .any (Rows.fnExactFullVariantSpec.pre6 enc Try.prog Try.f5 Rows.fnExactFullVariantRow.domain false) (Rows.fnExactFullVariantSpec.post enc Try.prog Try.f5 false true false false) := by
  refine returnsInHanded_of_change (C := Try.checked) own started (by kernel_rfl) Try.func5
    (ChangeSpec.witness6 (enc := enc) (C := Try.checked) false ⟨#[], #[], []⟩ 8 (by kernel_rfl) (by kernel_rfl) (by kernel_rfl) (by kernel_rfl)) ?_
  intro W base args ds gs before hval0 hW hcnd _
  have hval : ∀ (j : Nat) t v, Try.f5.params[j]? = some t → args[j]? = some v → Value.okWide Try.prog W .any base t v := hval0
  have hW' := hW
  obtain ⟨p, q, hA0, hV, rfl, hfz, hnd⟩ := hW
  have hA : DataW.TrodAll enc Try.prog W 0 (fun _ => true) true Try.f5.params.toList args.toList ds p := hA0
  rw [Try.params5] at hA
  obtain ⟨hargs, rfl, rfl⟩ := trodAll_nil hA
  obtain rfl : args = #[] := by cases args; simp_all
  obtain ⟨rfl, rfl⟩ := trodVars_none hV
  clear hA0 hval0
  refine (fnExactFullVariant_walk W).mono fun e W' ⟨he, bel⟩ => ?_
  subst he
  exact ⟨_, rfl, _, _, _, [], _, [], hW', trodAll_mk1 (shut_bool Try.underlying4 _), trodAll_mk0, rfl, bel.frame _, fun h => by cases h⟩
theorem fnExactFullVariant_holds : Rows.FnExactFullVariantSaid :=
  OpenClaim.holds_of_wide 5 Try.f5 rfl rfl rfl rfl rfl rfl rfl ⟨rfl, rfl, rfl, rfl, rfl⟩ rfl rfl rfl rfl rfl (by kernel_rfl) Try.func5 (by kernel_rfl)
    (of_decide_eq_true (by kernel_rfl)) (by unfold Func.isWrapper; first | (rw [if_pos (by decide +kernel)]; kernel_rfl) | (rw [if_neg (by decide +kernel)]; exact ⟨rfl, rfl⟩))
    (fun os started H enc _ => fnExactFullVariant_lifted os started H enc)
end Go.Proofs.Ytlbmknmihofloaa
