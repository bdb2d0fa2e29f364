/- The exact law of chapter 9 on exact numbers out of a number and a depth holds: for every input the law returns true and its arguments read behind the call as they read before. No conditions. -/
import Derived.Test.Ytgifkopgnpdkiaa09m
import Derived.Test.Ytgifkopgnpdkiaa09p
import Derived.Test.YtgifkopgnpdkiaaExL
import Derived.Test.YtgifkopgnpdkiaaL01a
import Derived.Test.Ytgifkopgnpdkiaa09f0
import Derived.Test.YtgifkopgnpdkiaaRows
import Derived.ChangeOld
namespace Go.Proofs.Ytgifkopgnpdkiaa
open Go.ChangeMaps (open_string shut_string)
open Go.ChangeShapes Go.WideShapes Go.ChangeAt Go.RowKit
set_option linter.unusedVariables false
set_option linter.unusedSimpArgs false

set_option maxRecDepth 8000 in
set_option maxHeartbeats 4000000 in
theorem fnExactMakeExact_walk (p c h s n d : Int) (w : World) (wf_p : (Lit.int .i64 p).wf = true) (wf_c : (Lit.int .i64 c).wf = true) (wf_h : (Lit.int .i64 h).wf = true) (wf_s : (Lit.int .i64 s).wf = true) (wf_n : (Lit.int .i64 n).wf = true) (wf_d : (Lit.int .i64 d).wf = true) :
    Calls Try.prog 4 #[.agg #[.int .i64 p, .int .i64 c, .int .i64 h, .int .i64 s], .int .i64 n, .int .i64 d] w fun e w' => e = .returned (.bool true) ∧ Below w.heap.size w w' := by
  have BV := Blk.new w #[.int .i64 p, .int .i64 c, .int .i64 h, .int .i64 s] 23
  have hb : Below w.heap.size w (w.alloc (.cells #[.int .i64 p, .int .i64 c, .int .i64 h, .int .i64 s] 23)) := (Below.refl _ _).alloc (Nat.le_refl _) _
  have hsp := fun W => specMakeExact_any p c h s n d (wfR wf_d) W
  have him := fun W => implMakeExact_any p c h s n d (wfR wf_d) W
  obtain ⟨⟨r1, r2, r3⟩, hT⟩ : ∃ T, mkV p c h s n d = T := ⟨_, rfl⟩
  rw [hT] at hsp him
  dsimp only [xoV] at hsp him
  have HSP := Lib.hid hsp
  have HIM := Lib.hid him
  clear hsp him hT wf_p wf_c wf_h wf_s wf_n wf_d
  obtain ⟨x0, x1, x2, x3, xf, xl⟩ := BV.four
  go_enter Try.func4, Try.ntmps4
  go_wp2_with (first | (go_at_call 14; refine (toVariant_any _ _ _ _ _).mono ?_; rintro e w1 ⟨rfl, hb1⟩; replace BV := BV.below hb1; (try replace B7 := B7.below hb1); replace hb := chain hb hb1; clear hb1; obtain ⟨x0, x1, x2, x3, xf, xl⟩ := BV.four; (try obtain ⟨y0, y1, yf, yl⟩ := B7.two)) | (go_at_call 17; refine (HSP.out _).mono ?_; clear HSP; rintro e w2 ⟨rfl, hb2⟩; replace BV := (BV.below hb2).alloc (.cells #[.int .i64 r1, .int .i64 r2] 29); have B7 := Blk.new w2 #[.int .i64 r1, .int .i64 r2] 29; replace hb := chain_alloc (chain hb hb2) (.cells #[.int .i64 r1, .int .i64 r2] 29); clear hb2; obtain ⟨x0, x1, x2, x3, xf, xl⟩ := BV.four; obtain ⟨y0, y1, yf, yl⟩ := B7.two) | (go_at_call 18; refine (HIM.out _).mono ?_; clear HIM; rintro e w3 ⟨rfl, hb3⟩; replace B7 := (B7.below hb3).alloc (.cells #[.int .i64 r1, .int .i64 r2] 29); have B9 := Blk.new w3 #[.int .i64 r1, .int .i64 r2] 29; replace hb := chain_alloc (chain hb hb3) (.cells #[.int .i64 r1, .int .i64 r2] 29); clear hb3; obtain ⟨y0, y1, yf, yl⟩ := B7.two; obtain ⟨z0, z1, zf, zl⟩ := B9.two) | (go_at_call 19; refine (eqExact_same _ _ _).mono ?_; rintro e we ⟨rfl, hbe⟩))
  go_ret
  exact ⟨rfl, chain hb hbe⟩
set_option maxRecDepth 100000 in
theorem fnExactMakeExact_lifted (os : Os) (started : os.Started) (H : Type) (enc : TypeId × Value → H) :
    ReturnsInHanded {} Try.checked os 4 .any (Rows.fnExactMakeExactSpec.pre6 enc Try.prog Try.f4 Rows.fnExactMakeExactRow.domain false) (Rows.fnExactMakeExactSpec.post enc Try.prog Try.f4 false true false false) := by
  refine returnsInHanded_of_change (C := Try.checked) own started (by kernel_rfl) Try.func4
    (ChangeSpec.witness6 (enc := enc) (C := Try.checked) false ⟨#[], #[.agg #[.int .i64 0, .int .i64 0, .int .i64 0, .int .i64 0], .int .i64 0, .int .i64 0], []⟩ 8 (by kernel_rfl) (by kernel_rfl) (by kernel_rfl) (by kernel_rfl)) ?_
  intro W base args ds gs before hval0 hW hcnd _
  have hval : ∀ (j : Nat) t v, Try.f4.params[j]? = some t → args[j]? = some v → Value.okWide Try.prog W .any base t v := hval0
  have hW' := hW
  obtain ⟨p, q, hA0, hV, rfl, hfz, hnd⟩ := hW
  have hA : DataW.TrodAll enc Try.prog W 0 (fun _ => true) true Try.f4.params.toList args.toList ds p := hA0
  rw [Try.params4] at hA hval
  obtain ⟨v0, vs0, d0, ds0, p0, q0, hargs, rfl, rfl, h0, r0⟩ := trodAll_cons hA
  obtain ⟨v1, vs1, d1, ds1, p1, q1, rfl, rfl, rfl, h1, r1⟩ := trodAll_cons r0
  obtain ⟨v2, vs2, d2, ds2, p2, q2, rfl, rfl, rfl, h2, r2⟩ := trodAll_cons r1
  obtain ⟨rfl, rfl, rfl⟩ := trodAll_nil r2
  obtain rfl : args = #[v0, v1, v2] := by cases args; simp_all
  obtain ⟨rfl, rfl⟩ := trodVars_none hV
  have k0 := h0
  have lt0 : ∀ x ∈ p0, x.block < W.heap.size := by obtain ⟨m, hm⟩ := k0; exact DataW.trod_lt m _ _ _ hm
  have k1 := h1
  have lt1 : ∀ x ∈ p1, x.block < W.heap.size := by obtain ⟨m, hm⟩ := k1; exact DataW.trod_lt m _ _ _ hm
  have k2 := h2
  have lt2 : ∀ x ∈ p2, x.block < W.heap.size := by obtain ⟨m, hm⟩ := k2; exact DataW.trod_lt m _ _ _ hm
  obtain ⟨x0_0, x1_0, x2_0, x3_0, y0_0, y1_0, y2_0, y3_0, m_0, rfl, _, _, hy0_0, hy1_0, hy2_0, hy3_0⟩ := Joins.open_agg4 Try.underlying23 (by kernel_rfl) (show Try.prog.cellsOf 23 = 4 by kernel_rfl) (hval 0 23 v0 rfl rfl) h0
  obtain ⟨a0_0, e0_0, _, wa0_0⟩ := DataW.trod_int Try.underlying2 hy0_0
  obtain ⟨a1_0, e1_0, _, wa1_0⟩ := DataW.trod_int Try.underlying2 hy1_0
  obtain ⟨a2_0, e2_0, _, wa2_0⟩ := DataW.trod_int Try.underlying2 hy2_0
  obtain ⟨a3_0, e3_0, _, wa3_0⟩ := DataW.trod_int Try.underlying2 hy3_0
  simp at e0_0 e1_0 e2_0 e3_0
  subst e0_0 e1_0 e2_0 e3_0
  obtain ⟨n_1, rfl, _, _, wn_1⟩ := open_int Try.underlying2 (hval 1 2 v1 rfl rfl) h1
  obtain ⟨n_2, rfl, _, _, wn_2⟩ := open_int Try.underlying2 (hval 2 2 v2 rfl rfl) h2
  clear hA0 hval0
  refine (fnExactMakeExact_walk a0_0 a1_0 a2_0 a3_0 n_1 n_2 W wa0_0 wa1_0 wa2_0 wa3_0 wn_1 wn_2).mono fun e W' ⟨he, bel⟩ => ?_
  subst he
  exact ⟨_, rfl, _, _, _, [], _, [], hW', trodAll_mk1 (shut_bool Try.underlying4 _), (trodAll_cons_mk (Below.trod laidOut (by kernel_rfl) (of_decide_eq_true (by kernel_rfl)) k0 bel lt0) (trodAll_cons_mk (Below.trod laidOut (by kernel_rfl) (of_decide_eq_true (by kernel_rfl)) k1 bel lt1) (trodAll_cons_mk (Below.trod laidOut (by kernel_rfl) (of_decide_eq_true (by kernel_rfl)) k2 bel lt2) trodAll_mk0))), rfl, bel.frame _, fun h => by cases h⟩
theorem fnExactMakeExact_holds : Rows.FnExactMakeExactSaid :=
  OpenClaim.holds_of_wide 4 Try.f4 rfl rfl rfl rfl rfl rfl rfl ⟨rfl, rfl, rfl, rfl, rfl⟩ rfl rfl rfl rfl rfl (by kernel_rfl) Try.func4 (by kernel_rfl)
    (of_decide_eq_true (by kernel_rfl)) (by unfold Func.isWrapper; first | (rw [if_pos (by decide +kernel)]; kernel_rfl) | (rw [if_neg (by decide +kernel)]; exact ⟨rfl, rfl⟩))
    (fun os started H enc _ => fnExactMakeExact_lifted os started H enc)
end Go.Proofs.Ytgifkopgnpdkiaa
