/- The exact law of chapter 7 on stratified rolls holds: for every input the law returns true and its arguments read behind the call as they read before. No conditions. -/
import Derived.Test.Ytcmfknkdfkchmaa07j
import Derived.Test.YtcmfknkdfkchmaaRolL
import Derived.Test.YtcmfknkdfkchmaaRows
import Derived.ChangeOld
namespace Go.Proofs.Ytcmfknkdfkchmaa
open Go.ChangeMaps (open_string shut_string)
open Go.ChangeShapes Go.WideShapes Go.ChangeAt Go.RowKit
set_option linter.unusedVariables false
set_option linter.unusedSimpArgs false

theorem ssL_length (p c h s x n : Int) : (ssL p c h s x n).length ≤ 1048576 := by
  unfold ssL
  by_cases g : rcI p c h s x n = 0
  · have hz := rcI_zero g
    have hss := vB_sides hz.1
    rw [if_pos g, strN_length _ _ _ (by omega)]
    omega
  · rw [if_neg g]
    simp
set_option maxRecDepth 8000 in
set_option maxHeartbeats 4000000 in
theorem fnExactStratifiedRolls_walk (p c h s x n : Int) (w : World) :
    Calls Try.prog 13 #[.agg #[.int .i64 p, .int .i64 c, .int .i64 h, .int .i64 s], .int .i64 x, .int .i64 n] w fun e w' => e = .returned (.bool true) ∧ Below w.heap.size w w' := by
    have BV := Blk.new w #[.int .i64 p, .int .i64 c, .int .i64 h, .int .i64 s] 42
    have hb : Below w.heap.size w (w.alloc (.cells #[.int .i64 p, .int .i64 c, .int .i64 h, .int .i64 s] 42)) := (Below.refl _ _).alloc (Nat.le_refl _) _
    have hlt0 := BV.lt
    have hsp := fun W => specStratRolls_any p c h s x n W
    have him := fun W => stratRolls_any p c h s x n W
    have hlz := ssL_length p c h s x n
    obtain ⟨zs, hzs⟩ : ∃ z, ssL p c h s x n = z := ⟨_, rfl⟩
    rw [hzs] at hsp him hlz
    obtain ⟨r, hr⟩ : ∃ r, rcI p c h s x n = r := ⟨_, rfl⟩
    rw [hr] at hsp him
    have HSP := Lib.hid hsp
    have HIM := Lib.hid him
    have hq0 : ¬ ((1 : Int) + 2 * (zs.length : Int) < 0) := by omega
    clear hsp him hzs hr
    go_enter Try.func13, Try.ntmps13
    obtain ⟨x0, x1, x2, x3, xf, xl⟩ := BV.four
    go_wp2_with fail
    generalize w.alloc (.cells #[.int .i64 p, .int .i64 c, .int .i64 h, .int .i64 s] 42) = v0 at *
    refine (toVariant_any _ _ _ _ _).mono ?_
    rintro e w1 ⟨rfl, hb1⟩
    clear x0 x1 x2 x3 xf xl
    replace BV := BV.below hb1
    have hz1 := hb1.size
    replace hb := chain hb hb1
    clear hb1
    obtain ⟨x0, x1, x2, x3, xf, xl⟩ := BV.four
    go_wp2_with fail
    refine (HSP.out _).mono ?_
    rintro e w2 ⟨a2, k2, rfl, OS, hb2⟩
    clear x0 x1 x2 x3 xf xl
    replace BV := BV.below hb2
    have hz2 := hb2.size
    replace hb := chain hb hb2
    clear hb2
    obtain ⟨x0, x1, x2, x3, xf, xl⟩ := BV.four
    go_wp2_with fail
    refine (toVariant_any _ _ _ _ _).mono ?_
    rintro e w3 ⟨rfl, hb3⟩
    clear x0 x1 x2 x3 xf xl
    replace BV := BV.below hb3
    replace OS := OS.below hb3
    have hz3 := hb3.size
    replace hb := chain hb hb3
    clear hb3
    obtain ⟨x0, x1, x2, x3, xf, xl⟩ := BV.four
    go_wp2_with fail
    refine (HIM.out _).mono ?_
    rintro e w4 ⟨a4, k4, rfl, OI, hb4⟩
    clear x0 x1 x2 x3 xf xl
    replace BV := BV.below hb4
    replace OS := OS.below hb4
    have hz4 := hb4.size
    replace hb := chain hb hb4
    clear hb4
    obtain ⟨x0, x1, x2, x3, xf, xl⟩ := BV.four
    go_wp2_with fail
    refine (eqRollS_same _ _ _ _ _ _ zs.length _ _ zs _ rfl hlz OI OS).mono ?_
    rintro e w5 ⟨rfl, hb5⟩
    clear x0 x1 x2 x3 xf xl
    replace BV := BV.below hb5
    replace OS := OS.below hb5
    replace OI := OI.below hb5
    have hz5 := hb5.size
    replace hb := chain hb hb5
    clear hb5
    obtain ⟨x0, x1, x2, x3, xf, xl⟩ := BV.four
    go_wp2_with fail
    refine (markRl_own _ _ _ _ _ zs 1 _ rfl hlz (by omega) (by omega) OI).mono ?_
    rintro e w6 ⟨rfl, OI, hs6⟩
    clear x0 x1 x2 x3 xf xl
    replace BV := BV.same hs6 (by omega)
    replace OS := OS.same hs6 (by omega)
    replace hb := below_same hb hs6 (by omega) (by omega)
    clear hs6
    obtain ⟨x0, x1, x2, x3, xf, xl⟩ := BV.four
    go_wp2_with fail
    refine (heldRollS_any _ _ _ zs.length _ 1 _ hlz (by omega) (by omega) OI).mono ?_
    rintro e w7 ⟨rfl, rfl⟩
    go_wp2_with fail
    refine (toVariant_any _ _ _ _ _).mono ?_
    rintro e w8 ⟨rfl, hb8⟩
    clear x0 x1 x2 x3 xf xl
    replace BV := BV.below hb8
    replace OS := OS.below hb8
    replace OI := OI.below hb8
    have hz8 := hb8.size
    replace hb := chain hb hb8
    clear hb8
    obtain ⟨x0, x1, x2, x3, xf, xl⟩ := BV.four
    go_wp2_with fail
    refine (HIM.out _).mono ?_
    rintro e w9 ⟨a9, k9, rfl, OJ, hb9⟩
    clear x0 x1 x2 x3 xf xl
    replace BV := BV.below hb9
    replace OS := OS.below hb9
    replace OI := OI.below hb9
    have hz9 := hb9.size
    replace hb := chain hb hb9
    clear hb9
    obtain ⟨x0, x1, x2, x3, xf, xl⟩ := BV.four
    go_wp2_with fail
    refine (eqRollS_same _ _ _ _ _ _ zs.length _ _ zs _ rfl hlz OJ OS).mono ?_
    rintro e w10 ⟨rfl, hb10⟩
    clear x0 x1 x2 x3 xf xl
    replace BV := BV.below hb10
    replace OS := OS.below hb10
    replace OI := OI.below hb10
    replace OJ := OJ.below hb10
    have hz10 := hb10.size
    replace hb := chain hb hb10
    clear hb10
    obtain ⟨x0, x1, x2, x3, xf, xl⟩ := BV.four
    go_wp2_with fail
    refine (heldRollS_any _ _ _ zs.length _ 1 _ hlz (by omega) (by omega) OI).mono ?_
    rintro e w11 ⟨rfl, rfl⟩
    go_wp2_with fail
    go_ret
    exact ⟨rfl, hb⟩
set_option maxRecDepth 100000 in
theorem fnExactStratifiedRolls_lifted (os : Os) (started : os.Started) (H : Type) (enc : TypeId × Value → H) :
    ReturnsInHanded {} Try.checked os 13 .any (Rows.fnExactStratifiedRollsSpec.pre6 enc Try.prog Try.f13 Rows.fnExactStratifiedRollsRow.domain false) (Rows.fnExactStratifiedRollsSpec.post enc Try.prog Try.f13 false true false false) := by
  refine returnsInHanded_of_change (C := Try.checked) own started (by kernel_rfl) Try.func13
    (ChangeSpec.witness6 (enc := enc) (C := Try.checked) false ⟨#[], #[.agg #[.int .i64 0, .int .i64 0, .int .i64 0, .int .i64 0], .int .i64 0, .int .i64 0], []⟩ 8 (by kernel_rfl) (by kernel_rfl) (by kernel_rfl) (by kernel_rfl)) ?_
  intro W base args ds gs before hval0 hW hcnd _
  have hval : ∀ (j : Nat) t v, Try.f13.params[j]? = some t → args[j]? = some v → Value.okWide Try.prog W .any base t v := hval0
  have hW' := hW
  obtain ⟨p, q, hA0, hV, rfl, hfz, hnd⟩ := hW
  have hA : DataW.TrodAll enc Try.prog W 0 (fun _ => true) true Try.f13.params.toList args.toList ds p := hA0
  rw [Try.params13] at hA hval
  obtain ⟨v0, vs0, d0, ds0, p0, q0, hargs, rfl, rfl, h0, r0⟩ := trodAll_cons hA
  obtain ⟨v1, vs1, d1, ds1, p1, q1, rfl, rfl, rfl, h1, r1⟩ := trodAll_cons r0
  obtain ⟨v2, vs2, d2, ds2, p2, q2, rfl, rfl, rfl, h2, r2⟩ := trodAll_cons r1
  obtain ⟨rfl, rfl, rfl⟩ := trodAll_nil r2
  obtain rfl : args = #[v0, v1, v2] := by cases args; simp_all
  obtain ⟨rfl, rfl⟩ := trodVars_none hV
  have k0 := h0
  have lt0 : ∀ x ∈ p0, x.block < W.heap.size := by obtain ⟨m, hm⟩ := k0; exact DataW.trod_lt m _ _ _ hm
  have k1 := h1
  have lt1 : ∀ x ∈ p1, x.block < W.heap.size := by obtain ⟨m, hm⟩ := k1; exact DataW.trod_lt m _ _ _ hm
  have k2 := h2
  have lt2 : ∀ x ∈ p2, x.block < W.heap.size := by obtain ⟨m, hm⟩ := k2; exact DataW.trod_lt m _ _ _ hm
  obtain ⟨x0_0, x1_0, x2_0, x3_0, y0_0, y1_0, y2_0, y3_0, m_0, rfl, _, _, hy0_0, hy1_0, hy2_0, hy3_0⟩ := Joins.open_agg4 Try.underlying42 (by kernel_rfl) (show Try.prog.cellsOf 42 = 4 by kernel_rfl) (hval 0 42 v0 rfl rfl) h0
  obtain ⟨a0_0, e0_0, _, wa0_0⟩ := DataW.trod_int Try.underlying2 hy0_0
  obtain ⟨a1_0, e1_0, _, wa1_0⟩ := DataW.trod_int Try.underlying2 hy1_0
  obtain ⟨a2_0, e2_0, _, wa2_0⟩ := DataW.trod_int Try.underlying2 hy2_0
  obtain ⟨a3_0, e3_0, _, wa3_0⟩ := DataW.trod_int Try.underlying2 hy3_0
  simp at e0_0 e1_0 e2_0 e3_0
  subst e0_0 e1_0 e2_0 e3_0
  obtain ⟨n_1, rfl, _, _, wn_1⟩ := open_int Try.underlying2 (hval 1 2 v1 rfl rfl) h1
  obtain ⟨n_2, rfl, _, _, wn_2⟩ := open_int Try.underlying2 (hval 2 2 v2 rfl rfl) h2
  clear hA0 hval0
  refine (fnExactStratifiedRolls_walk a0_0 a1_0 a2_0 a3_0 n_1 n_2 W).mono fun e W' ⟨he, bel⟩ => ?_
  subst he
  exact ⟨_, rfl, _, _, _, [], _, [], hW', trodAll_mk1 (shut_bool Try.underlying4 _), (trodAll_cons_mk (Below.trod laidOut (by kernel_rfl) (of_decide_eq_true (by kernel_rfl)) k0 bel lt0) (trodAll_cons_mk (Below.trod laidOut (by kernel_rfl) (of_decide_eq_true (by kernel_rfl)) k1 bel lt1) (trodAll_cons_mk (Below.trod laidOut (by kernel_rfl) (of_decide_eq_true (by kernel_rfl)) k2 bel lt2) trodAll_mk0))), rfl, bel.frame _, fun h => by cases h⟩
theorem fnExactStratifiedRolls_holds : Rows.FnExactStratifiedRollsSaid :=
  OpenClaim.holds_of_wide 13 Try.f13 rfl rfl rfl rfl rfl rfl rfl ⟨rfl, rfl, rfl, rfl, rfl⟩ rfl rfl rfl rfl rfl (by kernel_rfl) Try.func13 (by kernel_rfl)
    (of_decide_eq_true (by kernel_rfl)) (by unfold Func.isWrapper; first | (rw [if_pos (by decide +kernel)]; kernel_rfl) | (rw [if_neg (by decide +kernel)]; exact ⟨rfl, rfl⟩))
    (fun os started H enc _ => fnExactStratifiedRolls_lifted os started H enc)
end Go.Proofs.Ytcmfknkdfkchmaa
