/- The exact law of chapter 15 on solved boards holds: for every input the law returns true and its arguments read behind the call as they read before. No conditions. -/
import Derived.Test.YtfcdndihcfgbhaaLawB0
import Derived.Test.Ytfcdndihcfgbhaa15a
namespace Go.Proofs.Ytfcdndihcfgbhaa
open Go.ChangeMaps (open_string shut_string)
open Go.ChangeShapes Go.WideShapes Go.ChangeAt Go.RowKit
set_option linter.unusedVariables false
set_option linter.unusedSimpArgs false
set_option maxRecDepth 4000

theorem fnExactIsSolved_both  (p c h s : Int) (xs ys : List Int) : ∃ (R : Bool), (∀ (a1 a2 : Option Addr) (n1 n2 c1 c2 : Nat) (w : World), xs.length = n1 → ys.length = n2 → n1 ≤ 1048576 → n2 ≤ 1048576 → n1 ≤ c1 → n2 ≤ c2 → IRow w a1 xs → IRow w a2 ys → Calls Try.prog 6 #[.agg #[.int .i64 p, .int .i64 c, .int .i64 h, .int .i64 s], .agg #[.slice a1 n1 c1, .slice a2 n2 c2]] w fun e w' => e = .returned (.bool R) ∧ Below w.heap.size w w') ∧ (∀ (a1 a2 : Option Addr) (n1 n2 c1 c2 : Nat) (w : World), xs.length = n1 → ys.length = n2 → n1 ≤ 1048576 → n2 ≤ 1048576 → n1 ≤ c1 → n2 ≤ c2 → IRow w a1 xs → IRow w a2 ys → Calls Try.prog 9 #[.agg #[.int .i64 p, .int .i64 c, .int .i64 h, .int .i64 s], .agg #[.slice a1 n1 c1, .slice a2 n2 c2]] w fun e w' => e = .returned (.bool R) ∧ Below w.heap.size w w') := by
  exact ⟨_, fun a1 a2 n1 n2 c1 c2 w h1 h2 l1 l2 k1 k2 r1 r2 => specIsSolved_any p c h s a1 a2 n1 n2 c1 c2 xs ys w h1 h2 l1 l2 r1 r2, fun a1 a2 n1 n2 c1 c2 w h1 h2 l1 l2 k1 k2 r1 r2 => isSolved_any p c h s a1 a2 n1 n2 c1 c2 xs ys w h1 h2 l1 l2 k1 k2 r1 r2⟩
set_option maxHeartbeats 2000000 in
theorem fnExactIsSolved_walk (p c h s : Int) (a1 a2 : Option Addr) (n1 n2 c1 c2 : Nat) (xs ys : List Int)  (w : World) (h1 : xs.length = n1) (h2 : ys.length = n2) (m1 : n1 ≤ 9223372036854775807) (m2 : n2 ≤ 9223372036854775807) (r1 : IRow w a1 xs) (r2 : IRow w a2 ys) :
    Calls Try.prog 3 #[.agg #[.int .i64 p, .int .i64 c, .int .i64 h, .int .i64 s], .agg #[.slice a1 n1 c1, .slice a2 n2 c2]] w fun e w' => e = .returned (.bool true) ∧ Below w.heap.size w w' := by
  obtain ⟨BV, BB, hb, hz⟩ := two_new w #[.int .i64 p, .int .i64 c, .int .i64 h, .int .i64 s] #[.slice a1 n1 c1, .slice a2 n2 c2] 23 26
  have hz1 : w.heap.size + 1 < ((w.alloc (.cells #[.int .i64 p, .int .i64 c, .int .i64 h, .int .i64 s] 23)).alloc (.cells #[.slice a1 n1 c1, .slice a2 n2 c2] 26)).heap.size := by rw [hz]; omega
  clear hz
  have hsz := fun w => szBoard_any a1 a2 n1 n2 c1 c2 1048576 w (by omega) (by omega) m1 m2
  by_cases hneg : szAfter 1048576 n1 n2 = -1
  · rw [hneg] at hsz
    have HZ := Lib.hid hsz
    clear hsz hneg
    go_enter Try.func3, Try.ntmps3
    go_wp2_with fail
    generalize ((w.alloc (.cells #[.int .i64 p, .int .i64 c, .int .i64 h, .int .i64 s] 23)).alloc (.cells #[.slice a1 n1 c1, .slice a2 n2 c2] 26)) = v0 at *
    refine (HZ.out _).mono ?_
    rintro e w1 ⟨rfl, hb1⟩
    go_wp2
    go_ret
    exact ⟨rfl, hb.trans (hb1.mono (by omega))⟩
  · have hle : (n1 : Int) + n2 ≤ 1048576 := by
      unfold szAfter at hneg
      split at hneg
      · exact absurd rfl hneg
      · split at hneg
        · exact absurd rfl hneg
        · omega
    obtain ⟨z, hzz⟩ : ∃ z, szAfter 1048576 n1 n2 = z := ⟨_, rfl⟩
    have hz0 : 0 ≤ z := by
      rw [← hzz]
      unfold szAfter
      rw [if_neg (by omega), if_neg (by omega)]
      omega
    rw [hzz] at hsz
    have HZ := Lib.hid hsz
    clear hsz hneg hzz
    have l1 : n1 ≤ 1048576 := by omega
    have l2 : n2 ≤ 1048576 := by omega
    subst h1 h2
    obtain ⟨R, hsp, him⟩ := fnExactIsSolved_both  p c h s xs ys
    have HSP := Lib.hid hsp
    have HIM := Lib.hid him
    clear hsp him
    go_enter Try.func3, Try.ntmps3
    go_wp2_with fail
    generalize ((w.alloc (.cells #[.int .i64 p, .int .i64 c, .int .i64 h, .int .i64 s] 23)).alloc (.cells #[.slice a1 xs.length c1, .slice a2 ys.length c2] 26)) = v0 at *
    refine (HZ.out _).mono ?_
    rintro e w1 ⟨rfl, hb1⟩
    replace BV := BV.below hb1
    replace BB := BB.below hb1
    have hlt : w.heap.size + 1 < w1.heap.size := BB.lt
    replace hb := hb.trans (hb1.mono (by omega))
    obtain ⟨x0, x1, x2, x3, xf, xl⟩ := BV.four
    obtain ⟨y0, y1, yf, yl⟩ := BB.two
    clear hb1 hz1 HZ
    go_wp2_with fail
    refine wp_region_held_drew (S := fun w' => w'.cell? ⟨w.heap.size, 0, none⟩ = some (.int .i64 p) ∧ w'.cell? ⟨w.heap.size, 1, none⟩ = some (.int .i64 c) ∧ w'.cell? ⟨w.heap.size, 2, none⟩ = some (.int .i64 h) ∧ w'.cell? ⟨w.heap.size, 3, none⟩ = some (.int .i64 s) ∧ w'.cell? ⟨w.heap.size + 1, 0, none⟩ = some (.slice a1 xs.length c1) ∧ w'.cell? ⟨w.heap.size + 1, 1, none⟩ = some (.slice a2 ys.length c2) ∧ Below w.heap.size w w' ∧ w.heap.size + 1 < w'.heap.size) (by kernel_rfl) ⟨x0, x1, x2, x3, y0, y1, hb.drew, hlt⟩ (fun hHeld => ?_)
    refine tk 0 14 ?_
    refine tk 2 16 ?_
    refine rdk 1 15 fun K hK => ?_
    go_simp
    refine (toVariant_any _ _ _ _ _).mono ?_
    rintro e w2 ⟨rfl, hb2⟩
    (try go_wp2_with fail)
    refine hko hK (heldVB hHeld hb2) fun hHeld => ?_
    clear hK K
    refine rdk 3 17 fun K hK => ?_
    go_simp
    refine (toBoard_any a1 a2 _ _ c1 c2 xs ys _ rfl rfl l1 l2 (r1.below hHeld.2.2.2.2.2.2.1) (r2.below hHeld.2.2.2.2.2.2.1)).mono ?_
    rintro e w2 ⟨g1, g2, rfl, gg1, gg2, R1, R2, hb2⟩
    (try go_wp2_with fail)
    refine hko hK (heldVB hHeld hb2) fun hHeld => ?_
    clear hK K
    refine rdk 4 18 fun K hK => ?_
    go_simp
    refine (HSP.out _ _ _ _ _ _ _ rfl rfl l1 l2 (Nat.le_refl _) (Nat.le_refl _) R1.irow R2.irow).mono ?_
    rintro e w2 ⟨rfl, hb2⟩
    (try go_wp2_with fail)
    refine hko hK (heldVB hHeld hb2) fun hHeld => ?_
    clear hK K
    refine tk 5 6 ?_
    refine wpAnyH_done (by kernel_rfl) ?_ _
    have hS0 := hHeld
    clear hHeld R1 R2 gg1 gg2
    obtain ⟨x0, x1, x2, x3, y0, y1, hbw, hlw⟩ := hS0
    go_wp2_with fail
    refine (toBoard_any a1 a2 _ _ c1 c2 xs ys _ rfl rfl l1 l2 (r1.below hbw) (r2.below hbw)).mono ?_
    rintro e w3 ⟨b1, b2, rfl, gb1, gb2, R1, R2, hb3⟩
    have Bx := Blk.new w3 #[.slice (some ⟨b1, 0, none⟩) xs.length xs.length, .slice (some ⟨b2, 0, none⟩) ys.length ys.length] 31
    have hS3 := heldVB (heldVB ⟨x0, x1, x2, x3, y0, y1, hbw, hlw⟩ hb3) ((Below.refl w3.heap.size w3).alloc (Nat.le_refl _) (.cells #[.slice (some ⟨b1, 0, none⟩) xs.length xs.length, .slice (some ⟨b2, 0, none⟩) ys.length ys.length] 31))
    replace R1 := R1.alloc (.cells #[.slice (some ⟨b1, 0, none⟩) xs.length xs.length, .slice (some ⟨b2, 0, none⟩) ys.length ys.length] 31)
    replace R2 := R2.alloc (.cells #[.slice (some ⟨b1, 0, none⟩) xs.length xs.length, .slice (some ⟨b2, 0, none⟩) ys.length ys.length] 31)
    clear x0 x1 x2 x3 y0 y1 hbw hlw
    obtain ⟨x0, x1, x2, x3, y0, y1, hbw, hlw⟩ := hS3
    obtain ⟨t0, t1, tf, tl⟩ := Bx.two
    go_wp2_with fail
    generalize (w3.alloc (.cells #[.slice (some ⟨b1, 0, none⟩) xs.length xs.length, .slice (some ⟨b2, 0, none⟩) ys.length ys.length] 31)) = v3 at *
    refine wp_region_held_drew (S := fun w' => w'.cell? ⟨w.heap.size, 0, none⟩ = some (.int .i64 p) ∧ w'.cell? ⟨w.heap.size, 1, none⟩ = some (.int .i64 c) ∧ w'.cell? ⟨w.heap.size, 2, none⟩ = some (.int .i64 h) ∧ w'.cell? ⟨w.heap.size, 3, none⟩ = some (.int .i64 s) ∧ w'.cell? ⟨w.heap.size + 1, 0, none⟩ = some (.slice a1 xs.length c1) ∧ w'.cell? ⟨w.heap.size + 1, 1, none⟩ = some (.slice a2 ys.length c2) ∧ Below w.heap.size w w' ∧ w.heap.size + 1 < w'.heap.size ∧ w'.cell? ⟨w3.heap.size, 0, none⟩ = some (.slice (some ⟨b1, 0, none⟩) xs.length xs.length) ∧ w'.cell? ⟨w3.heap.size, 1, none⟩ = some (.slice (some ⟨b2, 0, none⟩) ys.length ys.length)) (by kernel_rfl) ⟨x0, x1, x2, x3, y0, y1, hbw.drew, hlw, t0, t1⟩ (fun hHeld => ?_)
    refine tk 0 21 ?_
    refine tk 2 23 ?_
    refine rdk 1 22 fun K hK => ?_
    go_simp
    have T1 := tl
    refine (toVariant_any _ _ _ _ _).mono ?_
    rintro e w4 ⟨rfl, hb4⟩
    have R1b := R1.drew.below hb4
    have R2b := R2.drew.below hb4
    have T2 : w3.heap.size < w4.heap.size := Nat.lt_of_lt_of_le tl hb4.size
    (try go_wp2_with fail)
    refine hko hK (heldVBX hHeld tl hb4) fun hHeld => ?_
    clear hK K
    refine rdk 3 24 fun K hK => ?_
    go_simp
    refine (HIM.out _ _ _ _ _ _ _ rfl rfl l1 l2 (Nat.le_refl _) (Nat.le_refl _) R1b.irow R2b.irow).mono ?_
    rintro e w5 ⟨rfl, hb5⟩
    have R1c := R1b.below hb5
    have R2c := R2b.below hb5
    have T3 : w3.heap.size < w5.heap.size := Nat.lt_of_lt_of_le T2 hb5.size
    (try go_wp2_with fail)
    refine hko hK (heldVBX hHeld T2 hb5) fun hHeld => ?_
    clear hK K
    refine tk 4 8 ?_
    refine wpAnyH_done (by kernel_rfl) ?_ _
    have hS5 := hHeld
    clear hHeld
    clear x0 x1 x2 x3 y0 y1 hbw hlw t0 t1
    obtain ⟨x0, x1, x2, x3, y0, y1, hbw, hlw, t0, t1⟩ := hS5
    go_wp2_with fail
    refine wp_region_held_drew (S := fun w' => w'.cell? ⟨w.heap.size, 0, none⟩ = some (.int .i64 p) ∧ w'.cell? ⟨w.heap.size, 1, none⟩ = some (.int .i64 c) ∧ w'.cell? ⟨w.heap.size, 2, none⟩ = some (.int .i64 h) ∧ w'.cell? ⟨w.heap.size, 3, none⟩ = some (.int .i64 s) ∧ w'.cell? ⟨w.heap.size + 1, 0, none⟩ = some (.slice a1 xs.length c1) ∧ w'.cell? ⟨w.heap.size + 1, 1, none⟩ = some (.slice a2 ys.length c2) ∧ Below w.heap.size w w' ∧ w.heap.size + 1 < w'.heap.size ∧ w'.cell? ⟨w3.heap.size, 0, none⟩ = some (.slice (some ⟨b1, 0, none⟩) xs.length xs.length) ∧ w'.cell? ⟨w3.heap.size, 1, none⟩ = some (.slice (some ⟨b2, 0, none⟩) ys.length ys.length)) (by kernel_rfl) ⟨x0, x1, x2, x3, y0, y1, hbw.drew, hlw, t0, t1⟩ (fun hHeld => ?_)
    refine tk 0 28 ?_
    refine tk 1 29 ?_
    refine rdk 2 30 fun K hK => ?_
    go_simp
    refine (toBoard_any a1 a2 _ _ c1 c2 xs ys _ rfl rfl l1 l2 (r1.below hHeld.2.2.2.2.2.2.1) (r2.below hHeld.2.2.2.2.2.2.1)).mono ?_
    rintro e w6 ⟨g1, g2, rfl, gg1, gg2, Q1, Q2, hb6⟩
    have R1d := R1c.drew.below hb6
    have R2d := R2c.drew.below hb6
    have T4 : w3.heap.size < w6.heap.size := Nat.lt_of_lt_of_le T3 hb6.size
    (try go_wp2_with fail)
    refine hko hK (heldVBX hHeld T3 hb6) fun hHeld => ?_
    clear hK K
    refine rdk 3 31 fun K hK => ?_
    go_simp
    refine (eqBoard_same _ _ _ _ _ _ _ _ _ _ xs ys _ rfl rfl l1 l2 R1d.irow R2d.irow Q1.irow Q2.irow).mono ?_
    rintro e w7 ⟨rfl, hb7⟩
    (try go_wp2_with fail)
    refine hko hK (heldVBX hHeld T4 hb7) fun hHeld => ?_
    clear hK K
    refine tk 4 32 ?_
    refine wpAnyH_done (by kernel_rfl) ?_ _
    go_wp2_with fail
    go_ret
    exact ⟨rfl, hHeld.2.2.2.2.2.2.1⟩
set_option maxRecDepth 100000 in
theorem fnExactIsSolved_lifted (os : Os) (started : os.Started) (H : Type) (enc : TypeId × Value → H) :
    ReturnsInHanded {} Try.checked os 3 .any (Rows.fnExactIsSolvedSpec.pre6 enc Try.prog Try.f3 Rows.fnExactIsSolvedRow.domain false) (Rows.fnExactIsSolvedSpec.post enc Try.prog Try.f3 false true false false) := by
  refine returnsInHanded_of_change (C := Try.checked) own started (by kernel_rfl) Try.func3
    (ChangeSpec.witness6 (enc := enc) (C := Try.checked) false ⟨#[], #[.agg #[.int .i64 0, .int .i64 0, .int .i64 0, .int .i64 0], .agg #[.slice none 0 0, .slice none 0 0]], []⟩ 8 (by kernel_rfl) (by kernel_rfl) (by kernel_rfl) (by kernel_rfl)) ?_
  intro W base args ds gs before hval0 hW hcnd _
  have hval : ∀ (j : Nat) t v, Try.f3.params[j]? = some t → args[j]? = some v → Value.okWide Try.prog W .any base t v := hval0
  have hW' := hW
  obtain ⟨p, q, hA0, hV, rfl, hfz, hnd⟩ := hW
  have hA : DataW.TrodAll enc Try.prog W 0 (fun _ => true) true Try.f3.params.toList args.toList ds p := hA0
  rw [Try.params3] at hA hval
  obtain ⟨v0, vs0, d0, ds0, p0, q0, hargs, rfl, rfl, h0, r0⟩ := trodAll_cons hA
  obtain ⟨v1, vs1, d1, ds1, p1, q1, rfl, rfl, rfl, h1, r1⟩ := trodAll_cons r0
  obtain ⟨rfl, rfl, rfl⟩ := trodAll_nil r1
  obtain rfl : args = #[v0, v1] := by cases args; simp_all
  obtain ⟨rfl, rfl⟩ := trodVars_none hV
  have k0 := h0
  have lt0 : ∀ x ∈ p0, x.block < W.heap.size := by obtain ⟨m, hm⟩ := k0; exact DataW.trod_lt m _ _ _ hm
  have k1 := h1
  have lt1 : ∀ x ∈ p1, x.block < W.heap.size := by obtain ⟨m, hm⟩ := k1; exact DataW.trod_lt m _ _ _ hm
  obtain ⟨x0_0, x1_0, x2_0, x3_0, y0_0, y1_0, y2_0, y3_0, m_0, rfl, _, _, hy0_0, hy1_0, hy2_0, hy3_0⟩ := Joins.open_agg4 Try.underlying23 (by kernel_rfl) (show Try.prog.cellsOf 23 = 4 by kernel_rfl) (hval 0 23 v0 rfl rfl) h0
  obtain ⟨a0_0, e0_0, _, wa0_0⟩ := DataW.trod_int Try.underlying2 hy0_0
  obtain ⟨a1_0, e1_0, _, wa1_0⟩ := DataW.trod_int Try.underlying2 hy1_0
  obtain ⟨a2_0, e2_0, _, wa2_0⟩ := DataW.trod_int Try.underlying2 hy2_0
  obtain ⟨a3_0, e3_0, _, wa3_0⟩ := DataW.trod_int Try.underlying2 hy3_0
  simp at e0_0 e1_0 e2_0 e3_0
  subst e0_0 e1_0 e2_0 e3_0
  obtain ⟨x0_1, x1_1, y0_1, y1_1, m_1, rfl, _, _, hy0_1, hy1_1⟩ := Joins.open_agg2 Try.underlying26 (by kernel_rfl) (show Try.prog.cellsOf 26 = 2 by kernel_rfl) (hval 1 26 v1 rfl rfl) h1
  obtain ⟨ra_1, rn_1, rc_1, rx_1, rfl, rl_1, rm_1, rr_1, rw_1⟩ := open_row hy0_1
  obtain ⟨sa_1, sn_1, sc_1, sx_1, rfl, sl_1, sm_1, sr_1, sw_1⟩ := open_row hy1_1
  clear hA0 hval0
  refine (fnExactIsSolved_walk a0_0 a1_0 a2_0 a3_0 ra_1 sa_1 rn_1 sn_1 rc_1 sc_1 rx_1 sx_1 W rl_1 sl_1 rm_1 sm_1 rr_1 sr_1).mono fun e W' ⟨he, bel⟩ => ?_
  subst he
  exact ⟨_, rfl, _, _, _, [], _, [], hW', trodAll_mk1 (shut_bool Try.underlying4 _), (trodAll_cons_mk (Below.trod laidOut (by kernel_rfl) (of_decide_eq_true (by kernel_rfl)) k0 bel lt0) (trodAll_cons_mk (Below.trod laidOut (by kernel_rfl) (of_decide_eq_true (by kernel_rfl)) k1 bel lt1) trodAll_mk0)), rfl, bel.frame _, fun h => by cases h⟩
theorem fnExactIsSolved_holds : Rows.FnExactIsSolvedSaid :=
  OpenClaim.holds_of_wide 3 Try.f3 rfl rfl rfl rfl rfl rfl rfl ⟨rfl, rfl, rfl, rfl, rfl⟩ rfl rfl rfl rfl rfl (by kernel_rfl) Try.func3 (by kernel_rfl)
    (of_decide_eq_true (by kernel_rfl)) (by unfold Func.isWrapper; first | (rw [if_pos (by decide +kernel)]; kernel_rfl) | (rw [if_neg (by decide +kernel)]; exact ⟨rfl, rfl⟩))
    (fun os started H enc _ => fnExactIsSolved_lifted os started H enc)
end Go.Proofs.Ytfcdndihcfgbhaa
