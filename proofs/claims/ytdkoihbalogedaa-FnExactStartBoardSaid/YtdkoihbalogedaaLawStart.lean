/- The exact law of chapter 2 on the first board holds: for every input the law returns true and its arguments read behind the call as they read before. No conditions. -/
import Derived.Test.YtdkoihbalogedaaLawB0
import Derived.Test.YtdkoihbalogedaaStartB
namespace Go.Proofs.Ytdkoihbalogedaa
open Go.ChangeMaps (open_string shut_string)
open Go.ChangeShapes Go.WideShapes Go.ChangeAt Go.RowKit
set_option linter.unusedVariables false
set_option linter.unusedSimpArgs false

set_option maxHeartbeats 2000000 in
theorem fnExactStartBoard_walk (p c h s : Int) (w : World) :
    Calls Try.prog 6 #[.agg #[.int .i64 p, .int .i64 c, .int .i64 h, .int .i64 s]] w fun e w' => e = .returned (.bool true) ∧ Below w.heap.size w w' := by
  have hsp := fun W => specStartBoard_any p c h s W
  have him := fun W => startBoard_any p c h s W
  obtain ⟨sx, hsx⟩ : ∃ sx, stL p c h s = sx := ⟨_, rfl⟩
  obtain ⟨R, hR⟩ : ∃ R, stB p c h s = R := ⟨_, rfl⟩
  have ls := stL_length p c h s
  rw [hsx] at hsp him ls
  rw [hR] at hsp him
  have HSP := Lib.hid hsp
  have HIM := Lib.hid him
  clear hsp him hsx hR
  have hb : Below w.heap.size w (w.alloc (.cells #[.int .i64 p, .int .i64 c, .int .i64 h, .int .i64 s] 39)) := (Below.refl _ _).alloc (Nat.le_refl _) _
  have BV := Blk.new w #[.int .i64 p, .int .i64 c, .int .i64 h, .int .i64 s] 39
  obtain ⟨x0, x1, x2, x3, xf, xl⟩ := BV.four
  have hq0 : ¬ ((1 : Int) + (sx.length : Int) + (sx.length : Int) < 0) := by omega
  go_enter Try.func6, Try.ntmps6
  go_wp2_with fail
  generalize (w.alloc (.cells #[.int .i64 p, .int .i64 c, .int .i64 h, .int .i64 s] 39)) = v0 at *
  have hv0 : w.heap.size < v0.heap.size := BV.lt
  refine (toVariant_any _ _ _ _ _).mono ?_
  rintro e w1 ⟨rfl, hb1⟩
  go_wp2_with fail
  refine (HSP.out _).mono ?_
  rintro e w2 ⟨d1, d2, k1, k2, rfl, hO, hb2⟩
  have hal : Below w2.heap.size w2 (w2.alloc (.cells #[.slice d1 sx.length k1, .slice d2 sx.length k2] 28)) := (Below.refl _ _).alloc (Nat.le_refl _) _
  have hv2 : (w2.alloc (.cells #[.slice d1 sx.length k1, .slice d2 sx.length k2] 28)).heap.size = w2.heap.size + 1 := by simp
  have hs1 := hb1.size
  have hs2 := hb2.size
  have V2 : VarB w1.heap.size (w2.alloc (.cells #[.slice d1 sx.length k1, .slice d2 sx.length k2] 28)) w2.heap.size d1 d2 sx.length sx.length k1 k2 w1.heap.size w2.heap.size sx sx := ⟨Blk.new _ _ _, hO.alloc _, .inr (Nat.le_refl _), Nat.le_refl _, by simp, hs2⟩
  replace BV := ((BV.below hb1).below hb2).below hal
  replace hb := chain (chain (chain hb hb1) hb2) hal
  clear x0 x1 x2 x3 xf xl hO hb1 hb2
  obtain ⟨x0, x1, x2, x3, xf, xl⟩ := BV.four
  go_wp2_with fail
  clear hal
  generalize (w2.alloc (.cells #[.slice d1 sx.length k1, .slice d2 sx.length k2] 28)) = v2 at *
  refine (toVariant_any _ _ _ _ _).mono ?_
  rintro e w3 ⟨rfl, hb3⟩
  go_wp2_with fail
  refine (HIM.out _).mono ?_
  rintro e w4 ⟨e1, e2, j1, j2, rfl, hO, hb4⟩
  have hal : Below w4.heap.size w4 (w4.alloc (.cells #[.slice e1 sx.length j1, .slice e2 sx.length j2] 28)) := (Below.refl _ _).alloc (Nat.le_refl _) _
  have hv4 : (w4.alloc (.cells #[.slice e1 sx.length j1, .slice e2 sx.length j2] 28)).heap.size = w4.heap.size + 1 := by simp
  have hs3 := hb3.size
  have hs4 := hb4.size
  have V4 : VarB w3.heap.size (w4.alloc (.cells #[.slice e1 sx.length j1, .slice e2 sx.length j2] 28)) w4.heap.size e1 e2 sx.length sx.length j1 j2 w3.heap.size w4.heap.size sx sx := ⟨Blk.new _ _ _, hO.alloc _, .inr (Nat.le_refl _), Nat.le_refl _, by simp, hs4⟩
  replace BV := ((BV.below hb3).below hb4).below hal
  replace V2 := ((V2.below hb3).below hb4).below hal
  replace hb := chain (chain (chain hb hb3) hb4) hal
  clear x0 x1 x2 x3 xf xl hO hb3 hb4
  obtain ⟨x0, x1, x2, x3, xf, xl⟩ := BV.four
  obtain ⟨u0, u1, uf, ul⟩ := V2.1.two
  obtain ⟨z0, z1, zf, zl⟩ := V4.1.two
  go_wp2_with fail
  clear hal
  generalize (w4.alloc (.cells #[.slice e1 sx.length j1, .slice e2 sx.length j2] 28)) = v4 at *
  refine (eqBoard_same _ _ _ _ _ _ _ _ _ _ sx sx _ rfl rfl ls ls V4.2.1.irow1 V4.2.1.irow2 V2.2.1.irow1 V2.2.1.irow2).mono ?_
  rintro e w5 ⟨rfl, hb5⟩
  replace BV := BV.below hb5
  replace V2 := V2.below hb5
  replace V4 := V4.below hb5
  replace hb := chain hb hb5
  clear x0 x1 x2 x3 xf xl u0 u1 uf ul z0 z1 zf zl
  obtain ⟨x0, x1, x2, x3, xf, xl⟩ := BV.four
  obtain ⟨u0, u1, uf, ul⟩ := V2.1.two
  obtain ⟨z0, z1, zf, zl⟩ := V4.1.two
  go_wp2_with fail
  refine (markBoard_own w3.heap.size w4.heap.size _ _ _ _ _ _ sx sx 1 _ rfl rfl ls ls (by omega) (by omega) V4.2.1).mono ?_
  rintro e w6 ⟨rfl, hO6, hs6⟩
  have hB2 : w2.heap.size < v2.heap.size := by omega
  replace BV := BV.same hs6 (.inl (by omega))
  replace V2 := V2.same hs6 (.inl (by omega)) (.inl (by omega))
  replace V4 := V4.marked hs6 hO6
  replace hb := below_same hb hs6 (by omega) (by omega)
  clear x0 x1 x2 x3 xf xl u0 u1 uf ul z0 z1 zf zl hO6 hs6
  obtain ⟨x0, x1, x2, x3, xf, xl⟩ := BV.four
  obtain ⟨u0, u1, uf, ul⟩ := V2.1.two
  obtain ⟨z0, z1, zf, zl⟩ := V4.1.two
  go_wp2_with fail
  refine (heldBoard_any _ _ sx.length sx.length _ _ 1 _ ls ls (by omega) (by omega) V4.2.1.irow1 V4.2.1.irow2).mono ?_
  rintro e w7 ⟨rfl, hb7⟩
  replace BV := BV.below hb7
  replace V2 := V2.below hb7
  replace V4 := V4.below hb7
  replace hb := chain hb hb7
  clear x0 x1 x2 x3 xf xl u0 u1 uf ul z0 z1 zf zl
  obtain ⟨x0, x1, x2, x3, xf, xl⟩ := BV.four
  obtain ⟨u0, u1, uf, ul⟩ := V2.1.two
  obtain ⟨z0, z1, zf, zl⟩ := V4.1.two
  go_wp2_with fail
  refine (toVariant_any _ _ _ _ _).mono ?_
  rintro e w8 ⟨rfl, hb8⟩
  go_wp2_with fail
  refine (HIM.out _).mono ?_
  rintro e w9 ⟨i1, i2, o1, o2, rfl, hO, hb9⟩
  have hal : Below w9.heap.size w9 (w9.alloc (.cells #[.slice i1 sx.length o1, .slice i2 sx.length o2] 28)) := (Below.refl _ _).alloc (Nat.le_refl _) _
  have hv9 : (w9.alloc (.cells #[.slice i1 sx.length o1, .slice i2 sx.length o2] 28)).heap.size = w9.heap.size + 1 := by simp
  have hs8 := hb8.size
  have hs9 := hb9.size
  have V9 : VarB w8.heap.size (w9.alloc (.cells #[.slice i1 sx.length o1, .slice i2 sx.length o2] 28)) w9.heap.size i1 i2 sx.length sx.length o1 o2 w8.heap.size w9.heap.size sx sx := ⟨Blk.new _ _ _, hO.alloc _, .inr (Nat.le_refl _), Nat.le_refl _, by simp, hs9⟩
  replace BV := ((BV.below hb8).below hb9).below hal
  replace V2 := ((V2.below hb8).below hb9).below hal
  replace V4 := ((V4.below hb8).below hb9).below hal
  replace hb := chain (chain (chain hb hb8) hb9) hal
  clear x0 x1 x2 x3 xf xl u0 u1 uf ul z0 z1 zf zl hO hb8 hb9
  obtain ⟨x0, x1, x2, x3, xf, xl⟩ := BV.four
  obtain ⟨u0, u1, uf, ul⟩ := V2.1.two
  obtain ⟨z0, z1, zf, zl⟩ := V9.1.two
  go_wp2_with fail
  clear hal
  generalize (w9.alloc (.cells #[.slice i1 sx.length o1, .slice i2 sx.length o2] 28)) = v9 at *
  refine (eqBoard_same _ _ _ _ _ _ _ _ _ _ sx sx _ rfl rfl ls ls V9.2.1.irow1 V9.2.1.irow2 V2.2.1.irow1 V2.2.1.irow2).mono ?_
  rintro e w10 ⟨rfl, hb10⟩
  replace BV := BV.below hb10
  replace V2 := V2.below hb10
  replace V4 := V4.below hb10
  replace hb := chain hb hb10
  clear x0 x1 x2 x3 xf xl u0 u1 uf ul z0 z1 zf zl
  obtain ⟨x0, x1, x2, x3, xf, xl⟩ := BV.four
  obtain ⟨u0, u1, uf, ul⟩ := V2.1.two
  obtain ⟨z0, z1, zf, zl⟩ := V4.1.two
  go_wp2_with fail
  refine (heldBoard_any _ _ sx.length sx.length _ _ 1 _ ls ls (by omega) (by omega) V4.2.1.irow1 V4.2.1.irow2).mono ?_
  rintro e w11 ⟨rfl, hb11⟩
  go_wp2_with fail
  go_ret
  exact ⟨rfl, chain hb hb11⟩
set_option maxRecDepth 100000 in
theorem fnExactStartBoard_lifted (os : Os) (started : os.Started) (H : Type) (enc : TypeId × Value → H) :
    ReturnsInHanded {} Try.checked os 6 .any (Rows.fnExactStartBoardSpec.pre6 enc Try.prog Try.f6 Rows.fnExactStartBoardRow.domain false) (Rows.fnExactStartBoardSpec.post enc Try.prog Try.f6 false true false false) := by
  refine returnsInHanded_of_change (C := Try.checked) own started (by kernel_rfl) Try.func6
    (ChangeSpec.witness6 (enc := enc) (C := Try.checked) false ⟨#[], #[.agg #[.int .i64 0, .int .i64 0, .int .i64 0, .int .i64 0]], []⟩ 8 (by kernel_rfl) (by kernel_rfl) (by kernel_rfl) (by kernel_rfl)) ?_
  intro W base args ds gs before hval0 hW hcnd _
  have hval : ∀ (j : Nat) t v, Try.f6.params[j]? = some t → args[j]? = some v → Value.okWide Try.prog W .any base t v := hval0
  have hW' := hW
  obtain ⟨p, q, hA0, hV, rfl, hfz, hnd⟩ := hW
  have hA : DataW.TrodAll enc Try.prog W 0 (fun _ => true) true Try.f6.params.toList args.toList ds p := hA0
  rw [Try.params6] at hA hval
  obtain ⟨v0, vs0, d0, ds0, p0, q0, hargs, rfl, rfl, h0, r0⟩ := trodAll_cons hA
  obtain ⟨rfl, rfl, rfl⟩ := trodAll_nil r0
  obtain rfl : args = #[v0] := by cases args; simp_all
  obtain ⟨rfl, rfl⟩ := trodVars_none hV
  have k0 := h0
  have lt0 : ∀ x ∈ p0, x.block < W.heap.size := by obtain ⟨m, hm⟩ := k0; exact DataW.trod_lt m _ _ _ hm
  obtain ⟨x0_0, x1_0, x2_0, x3_0, y0_0, y1_0, y2_0, y3_0, m_0, rfl, _, _, hy0_0, hy1_0, hy2_0, hy3_0⟩ := Joins.open_agg4 Try.underlying39 (by kernel_rfl) (show Try.prog.cellsOf 39 = 4 by kernel_rfl) (hval 0 39 v0 rfl rfl) h0
  obtain ⟨a0_0, e0_0, _, wa0_0⟩ := DataW.trod_int Try.underlying2 hy0_0
  obtain ⟨a1_0, e1_0, _, wa1_0⟩ := DataW.trod_int Try.underlying2 hy1_0
  obtain ⟨a2_0, e2_0, _, wa2_0⟩ := DataW.trod_int Try.underlying2 hy2_0
  obtain ⟨a3_0, e3_0, _, wa3_0⟩ := DataW.trod_int Try.underlying2 hy3_0
  simp at e0_0 e1_0 e2_0 e3_0
  subst e0_0 e1_0 e2_0 e3_0
  clear hA0 hval0
  refine (fnExactStartBoard_walk a0_0 a1_0 a2_0 a3_0 W).mono fun e W' ⟨he, bel⟩ => ?_
  subst he
  exact ⟨_, rfl, _, _, _, [], _, [], hW', trodAll_mk1 (shut_bool Try.underlying4 _), (trodAll_cons_mk (Below.trod laidOut (by kernel_rfl) (of_decide_eq_true (by kernel_rfl)) k0 bel lt0) trodAll_mk0), rfl, bel.frame _, fun h => by cases h⟩
theorem fnExactStartBoard_holds : Rows.FnExactStartBoardSaid :=
  OpenClaim.holds_of_wide 6 Try.f6 rfl rfl rfl rfl rfl rfl rfl ⟨rfl, rfl, rfl, rfl, rfl⟩ rfl rfl rfl rfl rfl (by kernel_rfl) Try.func6 (by kernel_rfl)
    (of_decide_eq_true (by kernel_rfl)) (by unfold Func.isWrapper; first | (rw [if_pos (by decide +kernel)]; kernel_rfl) | (rw [if_neg (by decide +kernel)]; exact ⟨rfl, rfl⟩))
    (fun os started H enc _ => fnExactStartBoard_lifted os started H enc)
end Go.Proofs.Ytdkoihbalogedaa
