/- The exact law of chapter 7 on the roll from a seed holds: for every input the law returns true and its arguments read behind the call as they read before. No conditions. -/
import Derived.Test.Ytcmfknkdfkchmaa07d
import Derived.Test.YtcmfknkdfkchmaaRolL
import Derived.Test.YtcmfknkdfkchmaaRows
import Derived.ChangeOld
namespace Go.Proofs.Ytcmfknkdfkchmaa
open Go.ChangeMaps (open_string shut_string)
open Go.ChangeShapes Go.WideShapes Go.ChangeAt Go.RowKit
set_option linter.unusedVariables false
set_option linter.unusedSimpArgs false

set_option maxRecDepth 8000 in
set_option maxHeartbeats 4000000 in
theorem fnExactRollFrom_walk (p c h s x : Int) (w : World) :
    Calls Try.prog 11 #[.agg #[.int .i64 p, .int .i64 c, .int .i64 h, .int .i64 s], .int .i64 x] w fun e w' => e = .returned (.bool true) ∧ Below w.heap.size w w' := by
    have BV := Blk.new w #[.int .i64 p, .int .i64 c, .int .i64 h, .int .i64 s] 42
    have hb : Below w.heap.size w (w.alloc (.cells #[.int .i64 p, .int .i64 c, .int .i64 h, .int .i64 s] 42)) := (Below.refl _ _).alloc (Nat.le_refl _) _
    have hsp := fun W => specRollFrom_any p c h s x W
    have him := fun W => rollFrom_any p c h s x W
    obtain ⟨⟨ra, rb, z, ok⟩, hT⟩ : ∃ T, rfV p c h s x = T := ⟨_, rfl⟩
    rw [hT] at hsp him
    dsimp only [rfE] at hsp him
    have HSP := Lib.hid hsp
    have HIM := Lib.hid him
    clear hsp him hT
    obtain ⟨x0, x1, x2, x3, xf, xl⟩ := BV.four
    cases ok
    all_goals
      go_enter Try.func11, Try.ntmps11
      go_wp2_with fail
      clear x0 x1 x2 x3 xf xl
      generalize w.alloc (.cells #[.int .i64 p, .int .i64 c, .int .i64 h, .int .i64 s] 42) = v0 at *
      refine (toVariant_any _ _ _ _ _).mono ?_
      rintro e w1 ⟨rfl, hb1⟩
      replace BV := BV.below hb1
      replace hb := chain hb hb1
      clear hb1
      go_wp2_with fail
      refine (HSP.out _).mono ?_
      rintro e w2 ⟨rfl, hb2⟩
      replace BV := BV.below hb2
      replace hb := chain hb hb2
      clear hb2
      have B1 := Blk.new w2 #[.int .i64 ra, .int .i64 rb] 33
      have hal : Below w2.heap.size w2 (w2.alloc (.cells #[.int .i64 ra, .int .i64 rb] 33)) := (Below.refl _ _).alloc (Nat.le_refl _) _
      replace BV := BV.below hal
      replace hb := chain hb hal
      clear hal
      obtain ⟨x0, x1, x2, x3, xf, xl⟩ := BV.four
      go_wp2_with fail
      clear x0 x1 x2 x3 xf xl
      generalize w2.alloc (.cells #[.int .i64 ra, .int .i64 rb] 33) = v2 at *
      refine (toVariant_any _ _ _ _ _).mono ?_
      rintro e w3 ⟨rfl, hb3⟩
      replace BV := BV.below hb3
      replace B1 := B1.below hb3
      replace hb := chain hb hb3
      clear hb3
      go_wp2_with fail
      refine (HIM.out _).mono ?_
      rintro e w4 ⟨rfl, hb4⟩
      replace BV := BV.below hb4
      replace B1 := B1.below hb4
      replace hb := chain hb hb4
      clear hb4
      have B2 := Blk.new w4 #[.int .i64 ra, .int .i64 rb] 33
      have hal : Below w4.heap.size w4 (w4.alloc (.cells #[.int .i64 ra, .int .i64 rb] 33)) := (Below.refl _ _).alloc (Nat.le_refl _) _
      replace BV := BV.below hal
      replace hb := chain hb hal
      clear hal
      replace B1 := B1.alloc (.cells #[.int .i64 ra, .int .i64 rb] 33)
      obtain ⟨t0, t1, tf, tl⟩ := B1.two
      obtain ⟨u0, u1, uf, ul⟩ := B2.two
      go_wp2_with fail
      clear t0 t1 tf tl u0 u1 uf ul
      generalize w4.alloc (.cells #[.int .i64 ra, .int .i64 rb] 33) = v4 at *
      refine (eqRoll_same _ _ _).mono ?_
      rintro e w5 ⟨rfl, hb5⟩
      go_wp2
      go_ret
      exact ⟨rfl, chain hb hb5⟩
set_option maxRecDepth 100000 in
theorem fnExactRollFrom_lifted (os : Os) (started : os.Started) (H : Type) (enc : TypeId × Value → H) :
    ReturnsInHanded {} Try.checked os 11 .any (Rows.fnExactRollFromSpec.pre6 enc Try.prog Try.f11 Rows.fnExactRollFromRow.domain false) (Rows.fnExactRollFromSpec.post enc Try.prog Try.f11 false true false false) := by
  refine returnsInHanded_of_change (C := Try.checked) own started (by kernel_rfl) Try.func11
    (ChangeSpec.witness6 (enc := enc) (C := Try.checked) false ⟨#[], #[.agg #[.int .i64 0, .int .i64 0, .int .i64 0, .int .i64 0], .int .i64 0], []⟩ 8 (by kernel_rfl) (by kernel_rfl) (by kernel_rfl) (by kernel_rfl)) ?_
  intro W base args ds gs before hval0 hW hcnd _
  have hval : ∀ (j : Nat) t v, Try.f11.params[j]? = some t → args[j]? = some v → Value.okWide Try.prog W .any base t v := hval0
  have hW' := hW
  obtain ⟨p, q, hA0, hV, rfl, hfz, hnd⟩ := hW
  have hA : DataW.TrodAll enc Try.prog W 0 (fun _ => true) true Try.f11.params.toList args.toList ds p := hA0
  rw [Try.params11] at hA hval
  obtain ⟨v0, vs0, d0, ds0, p0, q0, hargs, rfl, rfl, h0, r0⟩ := trodAll_cons hA
  obtain ⟨v1, vs1, d1, ds1, p1, q1, rfl, rfl, rfl, h1, r1⟩ := trodAll_cons r0
  obtain ⟨rfl, rfl, rfl⟩ := trodAll_nil r1
  obtain rfl : args = #[v0, v1] := by cases args; simp_all
  obtain ⟨rfl, rfl⟩ := trodVars_none hV
  have k0 := h0
  have lt0 : ∀ x ∈ p0, x.block < W.heap.size := by obtain ⟨m, hm⟩ := k0; exact DataW.trod_lt m _ _ _ hm
  have k1 := h1
  have lt1 : ∀ x ∈ p1, x.block < W.heap.size := by obtain ⟨m, hm⟩ := k1; exact DataW.trod_lt m _ _ _ hm
  obtain ⟨x0_0, x1_0, x2_0, x3_0, y0_0, y1_0, y2_0, y3_0, m_0, rfl, _, _, hy0_0, hy1_0, hy2_0, hy3_0⟩ := Joins.open_agg4 Try.underlying42 (by kernel_rfl) (show Try.prog.cellsOf 42 = 4 by kernel_rfl) (hval 0 42 v0 rfl rfl) h0
  obtain ⟨a0_0, e0_0, _, wa0_0⟩ := DataW.trod_int Try.underlying2 hy0_0
  obtain ⟨a1_0, e1_0, _, wa1_0⟩ := DataW.trod_int Try.underlying2 hy1_0
  obtain ⟨a2_0, e2_0, _, wa2_0⟩ := DataW.trod_int Try.underlying2 hy2_0
  obtain ⟨a3_0, e3_0, _, wa3_0⟩ := DataW.trod_int Try.underlying2 hy3_0
  simp at e0_0 e1_0 e2_0 e3_0
  subst e0_0 e1_0 e2_0 e3_0
  obtain ⟨n_1, rfl, _, _, wn_1⟩ := open_int Try.underlying2 (hval 1 2 v1 rfl rfl) h1
  clear hA0 hval0
  refine (fnExactRollFrom_walk a0_0 a1_0 a2_0 a3_0 n_1 W).mono fun e W' ⟨he, bel⟩ => ?_
  subst he
  exact ⟨_, rfl, _, _, _, [], _, [], hW', trodAll_mk1 (shut_bool Try.underlying4 _), (trodAll_cons_mk (Below.trod laidOut (by kernel_rfl) (of_decide_eq_true (by kernel_rfl)) k0 bel lt0) (trodAll_cons_mk (Below.trod laidOut (by kernel_rfl) (of_decide_eq_true (by kernel_rfl)) k1 bel lt1) trodAll_mk0)), rfl, bel.frame _, fun h => by cases h⟩
theorem fnExactRollFrom_holds : Rows.FnExactRollFromSaid :=
  OpenClaim.holds_of_wide 11 Try.f11 rfl rfl rfl rfl rfl rfl rfl ⟨rfl, rfl, rfl, rfl, rfl⟩ rfl rfl rfl rfl rfl (by kernel_rfl) Try.func11 (by kernel_rfl)
    (of_decide_eq_true (by kernel_rfl)) (by unfold Func.isWrapper; first | (rw [if_pos (by decide +kernel)]; kernel_rfl) | (rw [if_neg (by decide +kernel)]; exact ⟨rfl, rfl⟩))
    (fun os started H enc _ => fnExactRollFrom_lifted os started H enc)
end Go.Proofs.Ytcmfknkdfkchmaa
