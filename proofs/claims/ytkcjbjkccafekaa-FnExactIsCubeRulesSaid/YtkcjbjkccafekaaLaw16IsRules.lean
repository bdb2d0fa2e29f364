/- The exact law of chapter 16 on the validity of rules of the cube holds: for every input the law returns true and its arguments read behind the call as they read before. No conditions. -/
import Derived.Test.Ytkcjbjkccafekaa16e
import Derived.Test.YtkcjbjkccafekaaCbL
import Derived.Test.YtkcjbjkccafekaaL01b
import Derived.Test.YtkcjbjkccafekaaVarB
import Derived.Test.YtkcjbjkccafekaaRows
import Derived.ChangeOld
namespace Go.Proofs.Ytkcjbjkccafekaa
open Go.ChangeMaps (open_string shut_string)
open Go.ChangeShapes Go.WideShapes Go.ChangeAt Go.RowKit
set_option linter.unusedVariables false
set_option linter.unusedSimpArgs false
set_option maxRecDepth 4000

set_option maxRecDepth 8000 in
set_option maxHeartbeats 2000000 in
theorem fnExactIsCubeRules_walk (m : Int) (be ja : Bool) (w : World) :
    Calls Try.prog 5 #[.agg #[.int .i64 m, .bool be, .bool ja]] w fun e w' => e = .returned (.bool true) ∧ Below w.heap.size w w' := by
    have BR := Blk.new w #[.int .i64 m, .bool be, .bool ja] 41
    have hb : Below w.heap.size w (w.alloc (.cells #[.int .i64 m, .bool be, .bool ja] 41)) := (Below.refl _ _).alloc (Nat.le_refl _) _
    have hsp := fun W => specIsCubeRules_any m be ja W
    have him := fun W => isCubeRules_any m be ja W
    obtain ⟨T, h_T⟩ : ∃ T, pwB m = T := ⟨_, rfl⟩
    rw [h_T] at hsp him
    have HSP := Lib.hid hsp
    have HIM := Lib.hid him
    clear hsp him h_T
    go_enter Try.func5, Try.ntmps5
    go_wp2_with fail
    generalize (w.alloc (.cells #[.int .i64 m, .bool be, .bool ja] 41)) = v0 at *
    obtain ⟨q0_BR, q1_BR, q2_BR, qf_BR, ql_BR⟩ := BR.t3
    go_wp2_with fail
    clear q0_BR q1_BR q2_BR qf_BR ql_BR
    refine (toCubeRules_any _ _ _ _).mono ?_
    rintro e w1 ⟨rfl, hb1⟩
    replace BR := BR.below hb1
    have hz1 := hb1.size
    replace hb := chain hb hb1
    clear hb1
    obtain ⟨q0_BR, q1_BR, q2_BR, qf_BR, ql_BR⟩ := BR.t3
    go_wp2_with fail
    clear q0_BR q1_BR q2_BR qf_BR ql_BR
    refine (HSP.out _).mono ?_
    rintro e w2 ⟨rfl, hb2⟩
    replace BR := BR.below hb2
    have hz2 := hb2.size
    replace hb := chain hb hb2
    clear hb2
    obtain ⟨q0_BR, q1_BR, q2_BR, qf_BR, ql_BR⟩ := BR.t3
    go_wp2_with fail
    clear q0_BR q1_BR q2_BR qf_BR ql_BR
    refine (toCubeRules_any _ _ _ _).mono ?_
    rintro e w3 ⟨rfl, hb3⟩
    replace BR := BR.below hb3
    have hz3 := hb3.size
    replace hb := chain hb hb3
    clear hb3
    obtain ⟨q0_BR, q1_BR, q2_BR, qf_BR, ql_BR⟩ := BR.t3
    go_wp2_with fail
    clear q0_BR q1_BR q2_BR qf_BR ql_BR
    refine (HIM.out _).mono ?_
    rintro e w4 ⟨rfl, hb4⟩
    replace BR := BR.below hb4
    have hz4 := hb4.size
    replace hb := chain hb hb4
    clear hb4
    obtain ⟨q0_BR, q1_BR, q2_BR, qf_BR, ql_BR⟩ := BR.t3
    go_wp2_with fail
    go_ret
    exact ⟨rfl, hb⟩
set_option maxRecDepth 100000 in
theorem fnExactIsCubeRules_lifted (os : Os) (started : os.Started) (H : Type) (enc : TypeId × Value → H) :
    ReturnsInHanded {} Try.checked os 5 .any (Rows.fnExactIsCubeRulesSpec.pre6 enc Try.prog Try.f5 Rows.fnExactIsCubeRulesRow.domain false) (Rows.fnExactIsCubeRulesSpec.post enc Try.prog Try.f5 false true false false) := by
  refine returnsInHanded_of_change (C := Try.checked) own started (by kernel_rfl) Try.func5
    (ChangeSpec.witness6 (enc := enc) (C := Try.checked) false ⟨#[], #[.agg #[.int .i64 0, .bool false, .bool false]], []⟩ 8 (by kernel_rfl) (by kernel_rfl) (by kernel_rfl) (by kernel_rfl)) ?_
  intro W base args ds gs before hval0 hW hcnd _
  have hval : ∀ (j : Nat) t v, Try.f5.params[j]? = some t → args[j]? = some v → Value.okWide Try.prog W .any base t v := hval0
  have hW' := hW
  obtain ⟨p, q, hA0, hV, rfl, hfz, hnd⟩ := hW
  have hA : DataW.TrodAll enc Try.prog W 0 (fun _ => true) true Try.f5.params.toList args.toList ds p := hA0
  rw [Try.params5] at hA hval
  obtain ⟨v0, vs0, d0, ds0, p0, q0, hargs, rfl, rfl, h0, r0⟩ := trodAll_cons hA
  obtain ⟨rfl, rfl, rfl⟩ := trodAll_nil r0
  obtain rfl : args = #[v0] := by cases args; simp_all
  obtain ⟨rfl, rfl⟩ := trodVars_none hV
  have k0 := h0
  have lt0 : ∀ x ∈ p0, x.block < W.heap.size := by obtain ⟨m, hm⟩ := k0; exact DataW.trod_lt m _ _ _ hm
  obtain ⟨x0_0, x1_0, x2_0, y0_0, y1_0, y2_0, m_0, rfl, _, _, hy0_0, hy1_0, hy2_0⟩ := Joins.open_agg3 Try.underlying41 (by kernel_rfl) (show Try.prog.cellsOf 41 = 3 by kernel_rfl) (hval 0 41 v0 rfl rfl) h0
  obtain ⟨a0_0, e0_0, _, wa0_0⟩ := DataW.trod_int Try.underlying2 hy0_0
  obtain ⟨a1_0, e1_0, _⟩ := DataW.trod_bool Try.underlying4 hy1_0
  obtain ⟨a2_0, e2_0, _⟩ := DataW.trod_bool Try.underlying4 hy2_0
  simp at e0_0 e1_0 e2_0
  subst e0_0 e1_0 e2_0
  clear hA0 hval0
  refine (fnExactIsCubeRules_walk a0_0 a1_0 a2_0 W).mono fun e W' ⟨he, bel⟩ => ?_
  subst he
  exact ⟨_, rfl, _, _, _, [], _, [], hW', trodAll_mk1 (shut_bool Try.underlying4 _), (trodAll_cons_mk (Below.trod laidOut (by kernel_rfl) (of_decide_eq_true (by kernel_rfl)) k0 bel lt0) trodAll_mk0), rfl, bel.frame _, fun h => by cases h⟩
theorem fnExactIsCubeRules_holds : Rows.FnExactIsCubeRulesSaid :=
  OpenClaim.holds_of_wide 5 Try.f5 rfl rfl rfl rfl rfl rfl rfl ⟨rfl, rfl, rfl, rfl, rfl⟩ rfl rfl rfl rfl rfl (by kernel_rfl) Try.func5 (by kernel_rfl)
    (of_decide_eq_true (by kernel_rfl)) (by unfold Func.isWrapper; first | (rw [if_pos (by decide +kernel)]; kernel_rfl) | (rw [if_neg (by decide +kernel)]; exact ⟨rfl, rfl⟩))
    (fun os started H enc _ => fnExactIsCubeRules_lifted os started H enc)
end Go.Proofs.Ytkcjbjkccafekaa
