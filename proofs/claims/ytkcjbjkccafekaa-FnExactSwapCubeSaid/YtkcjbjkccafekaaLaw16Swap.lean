/- The exact law of chapter 16 on the cube as the other player sees it holds: for every input the law returns true and its arguments read behind the call as they read before. No conditions. -/
import Derived.Test.Ytkcjbjkccafekaa16e
import Derived.Test.YtkcjbjkccafekaaCbL
import Derived.Test.YtkcjbjkccafekaaL01b
import Derived.Test.YtkcjbjkccafekaaVarB
import Derived.Test.YtkcjbjkccafekaaRows
import Derived.ChangeOld
namespace Go.Proofs.Ytkcjbjkccafekaa
open Go.ChangeMaps (open_string shut_string)
open Go.ChangeShapes Go.WideShapes Go.ChangeAt Go.RowKit
set_option linter.unusedVariables false
set_option linter.unusedSimpArgs false
set_option maxRecDepth 4000

set_option maxRecDepth 8000 in
set_option maxHeartbeats 2000000 in
theorem fnExactSwapCube_walk (v o : Int) (w : World) :
    Calls Try.prog 7 #[.agg #[.int .i64 v, .int .i64 o]] w fun e w' => e = .returned (.bool true) ∧ Below w.heap.size w w' := by
    have BC := Blk.new w #[.int .i64 v, .int .i64 o] 45
    have hb : Below w.heap.size w (w.alloc (.cells #[.int .i64 v, .int .i64 o] 45)) := (Below.refl _ _).alloc (Nat.le_refl _) _
    have hsp := fun W => specSwapCube_any v o W
    have him := fun W => swapCube_any v o W
    obtain ⟨q, hq⟩ : ∃ q, swO o = q := ⟨_, rfl⟩
    rw [hq] at hsp him
    have HSP := Lib.hid hsp
    have HIM := Lib.hid him
    clear hsp him hq
    have hl0 := BC.lt
    go_enter Try.func7, Try.ntmps7
    go_wp2_with fail
    generalize (w.alloc (.cells #[.int .i64 v, .int .i64 o] 45)) = v0 at *
    obtain ⟨q0_BC, q1_BC, qf_BC, ql_BC⟩ := BC.two
    go_wp2_with fail
    clear q0_BC q1_BC qf_BC ql_BC
    refine (toCube_any _ _ _).mono ?_
    rintro e w1 ⟨rfl, hb1⟩
    replace BC := BC.below hb1
    have hz1 := hb1.size
    replace hb := chain hb hb1
    clear hb1
    obtain ⟨q0_BC, q1_BC, qf_BC, ql_BC⟩ := BC.two
    go_wp2_with fail
    clear q0_BC q1_BC qf_BC ql_BC
    refine (HSP.out _).mono ?_
    rintro e w2 ⟨rfl, hb2⟩
    replace BC := BC.below hb2
    have hz2 := hb2.size
    replace hb := chain hb hb2
    clear hb2
    have BHSP := Blk.new w2 #[.int .i64 v, .int .i64 q] 27
    have hal3 : Below w2.heap.size w2 (w2.alloc (.cells #[.int .i64 v, .int .i64 q] 27)) := (Below.refl _ _).alloc (Nat.le_refl _) _
    have hz3 : (w2.alloc (.cells #[.int .i64 v, .int .i64 q] 27)).heap.size = w2.heap.size + 1 := by simp
    replace BC := BC.below hal3
    replace hb := chain hb hal3
    clear hal3
    obtain ⟨q0_BC, q1_BC, qf_BC, ql_BC⟩ := BC.two
    obtain ⟨q0_BHSP, q1_BHSP, qf_BHSP, ql_BHSP⟩ := BHSP.two
    go_wp2_with fail
    clear q0_BC q1_BC qf_BC ql_BC
    clear q0_BHSP q1_BHSP qf_BHSP ql_BHSP
    generalize (w2.alloc (.cells #[.int .i64 v, .int .i64 q] 27)) = w3 at *
    obtain ⟨q0_BC, q1_BC, qf_BC, ql_BC⟩ := BC.two
    obtain ⟨q0_BHSP, q1_BHSP, qf_BHSP, ql_BHSP⟩ := BHSP.two
    go_wp2_with fail
    clear q0_BC q1_BC qf_BC ql_BC
    clear q0_BHSP q1_BHSP qf_BHSP ql_BHSP
    refine (toCube_any _ _ _).mono ?_
    rintro e w4 ⟨rfl, hb4⟩
    replace BC := BC.below hb4
    replace BHSP := BHSP.below hb4
    have hz4 := hb4.size
    replace hb := chain hb hb4
    clear hb4
    obtain ⟨q0_BC, q1_BC, qf_BC, ql_BC⟩ := BC.two
    obtain ⟨q0_BHSP, q1_BHSP, qf_BHSP, ql_BHSP⟩ := BHSP.two
    go_wp2_with fail
    clear q0_BC q1_BC qf_BC ql_BC
    clear q0_BHSP q1_BHSP qf_BHSP ql_BHSP
    refine (HIM.out _).mono ?_
    rintro e w5 ⟨rfl, hb5⟩
    replace BC := BC.below hb5
    replace BHSP := BHSP.below hb5
    have hz5 := hb5.size
    replace hb := chain hb hb5
    clear hb5
    have BHIM := Blk.new w5 #[.int .i64 v, .int .i64 q] 27
    have hal6 : Below w5.heap.size w5 (w5.alloc (.cells #[.int .i64 v, .int .i64 q] 27)) := (Below.refl _ _).alloc (Nat.le_refl _) _
    have hz6 : (w5.alloc (.cells #[.int .i64 v, .int .i64 q] 27)).heap.size = w5.heap.size + 1 := by simp
    replace BC := BC.below hal6
    replace BHSP := BHSP.below hal6
    replace hb := chain hb hal6
    clear hal6
    obtain ⟨q0_BC, q1_BC, qf_BC, ql_BC⟩ := BC.two
    obtain ⟨q0_BHSP, q1_BHSP, qf_BHSP, ql_BHSP⟩ := BHSP.two
    obtain ⟨q0_BHIM, q1_BHIM, qf_BHIM, ql_BHIM⟩ := BHIM.two
    go_wp2_with fail
    clear q0_BC q1_BC qf_BC ql_BC
    clear q0_BHSP q1_BHSP qf_BHSP ql_BHSP
    clear q0_BHIM q1_BHIM qf_BHIM ql_BHIM
    generalize (w5.alloc (.cells #[.int .i64 v, .int .i64 q] 27)) = w6 at *
    obtain ⟨q0_BC, q1_BC, qf_BC, ql_BC⟩ := BC.two
    obtain ⟨q0_BHSP, q1_BHSP, qf_BHSP, ql_BHSP⟩ := BHSP.two
    obtain ⟨q0_BHIM, q1_BHIM, qf_BHIM, ql_BHIM⟩ := BHIM.two
    go_wp2_with fail
    clear q0_BC q1_BC qf_BC ql_BC
    clear q0_BHSP q1_BHSP qf_BHSP ql_BHSP
    clear q0_BHIM q1_BHIM qf_BHIM ql_BHIM
    refine (eqCube_same _ _ _).mono ?_
    rintro e w7 ⟨rfl, hb7⟩
    replace BC := BC.below hb7
    replace BHSP := BHSP.below hb7
    replace BHIM := BHIM.below hb7
    have hz7 := hb7.size
    replace hb := chain hb hb7
    clear hb7
    obtain ⟨q0_BC, q1_BC, qf_BC, ql_BC⟩ := BC.two
    obtain ⟨q0_BHSP, q1_BHSP, qf_BHSP, ql_BHSP⟩ := BHSP.two
    obtain ⟨q0_BHIM, q1_BHIM, qf_BHIM, ql_BHIM⟩ := BHIM.two
    go_wp2_with fail
    go_ret
    exact ⟨rfl, hb⟩
set_option maxRecDepth 100000 in
theorem fnExactSwapCube_lifted (os : Os) (started : os.Started) (H : Type) (enc : TypeId × Value → H) :
    ReturnsInHanded {} Try.checked os 7 .any (Rows.fnExactSwapCubeSpec.pre6 enc Try.prog Try.f7 Rows.fnExactSwapCubeRow.domain false) (Rows.fnExactSwapCubeSpec.post enc Try.prog Try.f7 false true false false) := by
  refine returnsInHanded_of_change (C := Try.checked) own started (by kernel_rfl) Try.func7
    (ChangeSpec.witness6 (enc := enc) (C := Try.checked) false ⟨#[], #[.agg #[.int .i64 0, .int .i64 0]], []⟩ 8 (by kernel_rfl) (by kernel_rfl) (by kernel_rfl) (by kernel_rfl)) ?_
  intro W base args ds gs before hval0 hW hcnd _
  have hval : ∀ (j : Nat) t v, Try.f7.params[j]? = some t → args[j]? = some v → Value.okWide Try.prog W .any base t v := hval0
  have hW' := hW
  obtain ⟨p, q, hA0, hV, rfl, hfz, hnd⟩ := hW
  have hA : DataW.TrodAll enc Try.prog W 0 (fun _ => true) true Try.f7.params.toList args.toList ds p := hA0
  rw [Try.params7] at hA hval
  obtain ⟨v0, vs0, d0, ds0, p0, q0, hargs, rfl, rfl, h0, r0⟩ := trodAll_cons hA
  obtain ⟨rfl, rfl, rfl⟩ := trodAll_nil r0
  obtain rfl : args = #[v0] := by cases args; simp_all
  obtain ⟨rfl, rfl⟩ := trodVars_none hV
  have k0 := h0
  have lt0 : ∀ x ∈ p0, x.block < W.heap.size := by obtain ⟨m, hm⟩ := k0; exact DataW.trod_lt m _ _ _ hm
  obtain ⟨x0_0, x1_0, y0_0, y1_0, m_0, rfl, _, _, hy0_0, hy1_0⟩ := Joins.open_agg2 Try.underlying45 (by kernel_rfl) (show Try.prog.cellsOf 45 = 2 by kernel_rfl) (hval 0 45 v0 rfl rfl) h0
  obtain ⟨a0_0, e0_0, _, wa0_0⟩ := DataW.trod_int Try.underlying2 hy0_0
  obtain ⟨a1_0, e1_0, _, wa1_0⟩ := DataW.trod_int Try.underlying2 hy1_0
  simp at e0_0 e1_0
  subst e0_0 e1_0
  clear hA0 hval0
  refine (fnExactSwapCube_walk a0_0 a1_0 W).mono fun e W' ⟨he, bel⟩ => ?_
  subst he
  exact ⟨_, rfl, _, _, _, [], _, [], hW', trodAll_mk1 (shut_bool Try.underlying4 _), (trodAll_cons_mk (Below.trod laidOut (by kernel_rfl) (of_decide_eq_true (by kernel_rfl)) k0 bel lt0) trodAll_mk0), rfl, bel.frame _, fun h => by cases h⟩
theorem fnExactSwapCube_holds : Rows.FnExactSwapCubeSaid :=
  OpenClaim.holds_of_wide 7 Try.f7 rfl rfl rfl rfl rfl rfl rfl ⟨rfl, rfl, rfl, rfl, rfl⟩ rfl rfl rfl rfl rfl (by kernel_rfl) Try.func7 (by kernel_rfl)
    (of_decide_eq_true (by kernel_rfl)) (by unfold Func.isWrapper; first | (rw [if_pos (by decide +kernel)]; kernel_rfl) | (rw [if_neg (by decide +kernel)]; exact ⟨rfl, rfl⟩))
    (fun os started H enc _ => fnExactSwapCube_lifted os started H enc)
end Go.Proofs.Ytkcjbjkccafekaa
