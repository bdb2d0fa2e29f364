/- The exact law of chapter 9 on the mean of exact numbers holds: for every input the law returns true and its arguments read behind the call as they read before. No conditions. -/
import Derived.Test.YtgifkopgnpdkiaaExArg
import Derived.Test.Ytgifkopgnpdkiaa09za
import Derived.Test.Ytgifkopgnpdkiaa09zd
import Derived.Test.YtgifkopgnpdkiaaL01a
import Derived.Test.YtgifkopgnpdkiaaRows
import Derived.ChangeOld
namespace Go.Proofs.Ytgifkopgnpdkiaa
open Go.ChangeMaps (open_string shut_string)
open Go.ChangeShapes Go.WideShapes Go.ChangeAt Go.RowKit
set_option linter.unusedVariables false
set_option linter.unusedSimpArgs false

set_option maxRecDepth 8000 in
set_option maxHeartbeats 1000000 in
theorem fnExactMeanExact_walk (p c h s : Int) (a : Option Addr) (n cap : Nat) (l : List Rl) (w : World) (wf_p : (Lit.int .i64 p).wf = true) (wf_c : (Lit.int .i64 c).wf = true) (wf_h : (Lit.int .i64 h).wf = true) (wf_s : (Lit.int .i64 s).wf = true) (hn : l.length = n) (hm : n ≤ 9223372036854775807) (hr : XIn w a l) (hr2 : ∀ s ∈ l, -9223372036854775808 ≤ s.2 ∧ s.2 ≤ 9223372036854775807) :
    Calls Try.prog 9 #[.agg #[.int .i64 p, .int .i64 c, .int .i64 h, .int .i64 s], .slice a n cap] w fun e w' => e = .returned (.bool true) ∧ Below w.heap.size w w' := by
  subst hn
  have BV := Blk.new w #[.int .i64 p, .int .i64 c, .int .i64 h, .int .i64 s] 23
  have hb : Below w.heap.size w (w.alloc (.cells #[.int .i64 p, .int .i64 c, .int .i64 h, .int .i64 s] 23)) := (Below.refl _ _).alloc (Nat.le_refl _) _
  have hsz := fun W => szExactS_any a l.length cap 1048576 W (by omega) (by omega) hm
  clear wf_p wf_c wf_h wf_s
  obtain ⟨x0, x1, x2, x3, xf, xl⟩ := BV.four
  by_cases hbig : 1048576 < l.length
  · rw [if_pos (by omega)] at hsz
    have HZ := Lib.hid hsz
    clear hsz hbig hr2
    go_enter Try.func9, Try.ntmps9
    go_wp2_with (go_at_call 28; refine (HZ.out _).mono ?_; clear HZ; rintro e wz ⟨rfl, rfl⟩)
    go_ret
    exact ⟨rfl, hb⟩
  rw [if_neg (by omega)] at hsz
  have hle : l.length ≤ 1048576 := by omega
  obtain ⟨z, hz⟩ : ∃ z : Int, (1048576 : Int) - (l.length : Int) = z := ⟨_, rfl⟩
  rw [hz] at hsz
  have hz0 : 0 ≤ z := by omega
  have HZ := Lib.hid hsz
  have hsp := fun (g : Nat) W (q : XRow W g l) => specMeanExact_any p c h s (some ⟨g, 0, none⟩) l.length l W hle (.inr ⟨g, rfl, q⟩) hr2
  have him := fun (g : Nat) W (q : XRow W g l) => implMeanExact_any p c h s (some ⟨g, 0, none⟩) l.length l W hle (.inr ⟨g, rfl, q⟩) hr2
  obtain ⟨⟨r1, r2, r3⟩, hT⟩ : ∃ T, mnV p c h s l = T := ⟨_, rfl⟩
  rw [hT] at hsp him
  dsimp only [xoV] at hsp him
  have HSP := Lib.hid hsp
  have HIM := Lib.hid him
  have HT1 := Lib.hid (fun W => toVariant_any p c h s W)
  have HT2 := Lib.hid (fun W => toVariant_any p c h s W)
  have HE1 := Lib.hid (fun W (q : XIn W a l) => toExactS_any a _ cap l W rfl hle q)
  have HE2 := Lib.hid (fun W (q : XIn W a l) => toExactS_any a _ cap l W rfl hle q)
  have HE3 := Lib.hid (fun W (q : XIn W a l) => toExactS_any a _ cap l W rfl hle q)
  have HQ := Lib.hid (fun W => eqExact_same r1 r2 W)
  have HQS := Lib.hid (fun (g1 g2 : Nat) W (q1 : XRow W g1 l) (q2 : XRow W g2 l) => eqExactS_same g1 g2 _ l.length l.length l W rfl hle q1 q2)
  clear hsz hz hbig hsp him hT hr2
  go_enter Try.func9, Try.ntmps9
  go_wp2_with (first | (go_at_call 28; refine (HZ.out _).mono ?_; clear HZ; rintro e wz ⟨rfl, rfl⟩) | (go_at_call 14; refine (HT1.out _).mono ?_; clear HT1; rintro e u1 ⟨rfl, h1⟩; replace BV := BV.below h1; replace hb := chain hb h1; clear h1; obtain ⟨x0, x1, x2, x3, xf, xl⟩ := BV.four) | (go_at_call 30; refine (HE1.out _ (hr.below hb)).mono ?_; clear HE1; rintro e u2 ⟨gA, rfl, hA1, hA2, RA, h2⟩; replace BV := BV.below h2; replace hb := chain hb h2; clear h2; obtain ⟨x0, x1, x2, x3, xf, xl⟩ := BV.four) | (go_at_call 29; refine (HSP.out _ _ RA).mono ?_; clear HSP; rintro e u3 ⟨rfl, h3⟩; replace BV := BV.below h3; have B6 := Blk.new u3 #[.int .i64 r1, .int .i64 r2] 29; replace BV := BV.alloc (.cells #[.int .i64 r1, .int .i64 r2] 29); replace hb := chain_alloc (chain hb h3) (.cells #[.int .i64 r1, .int .i64 r2] 29); clear h3; obtain ⟨x0, x1, x2, x3, xf, xl⟩ := BV.four; obtain ⟨y0, y1, yf, yl⟩ := B6.two) | (go_at_call 30; refine (HE2.out _ (hr.below hb)).mono ?_; clear HE2; rintro e u4 ⟨gX, rfl, hX1, hX2, RX, h4⟩; replace BV := BV.below h4; replace B6 := B6.below h4; replace hb := chain hb h4; clear h4; obtain ⟨x0, x1, x2, x3, xf, xl⟩ := BV.four; obtain ⟨y0, y1, yf, yl⟩ := B6.two) | (go_at_call 14; refine (HT2.out _).mono ?_; clear HT2; rintro e u5 ⟨rfl, h5⟩; replace BV := BV.below h5; replace B6 := B6.below h5; replace RX := VRow.below RX h5; replace hb := chain hb h5; clear h5; obtain ⟨x0, x1, x2, x3, xf, xl⟩ := BV.four; obtain ⟨y0, y1, yf, yl⟩ := B6.two) | (go_at_call 31; refine (HIM.out _ _ RX).mono ?_; clear HIM; rintro e u6 ⟨rfl, h6⟩; replace BV := BV.below h6; replace B6 := B6.below h6; replace RX := VRow.below RX h6; have B9 := Blk.new u6 #[.int .i64 r1, .int .i64 r2] 29; replace BV := BV.alloc (.cells #[.int .i64 r1, .int .i64 r2] 29); replace B6 := B6.alloc (.cells #[.int .i64 r1, .int .i64 r2] 29); replace RX := VRow.alloc RX (.cells #[.int .i64 r1, .int .i64 r2] 29); replace hb := chain_alloc (chain hb h6) (.cells #[.int .i64 r1, .int .i64 r2] 29); clear h6; obtain ⟨x0, x1, x2, x3, xf, xl⟩ := BV.four; obtain ⟨y0, y1, yf, yl⟩ := B6.two; obtain ⟨z0, z1, zf, zl⟩ := B9.two) | (go_at_call 19; refine (HQ.out _).mono ?_; clear HQ; rintro e u7 ⟨rfl, h7⟩; replace BV := BV.below h7; replace B6 := B6.below h7; replace B9 := B9.below h7; replace RX := VRow.below RX h7; replace hb := chain hb h7; clear h7; obtain ⟨x0, x1, x2, x3, xf, xl⟩ := BV.four; obtain ⟨y0, y1, yf, yl⟩ := B6.two; obtain ⟨z0, z1, zf, zl⟩ := B9.two) | (go_at_call 30; refine (HE3.out _ (hr.below hb)).mono ?_; clear HE3; rintro e u8 ⟨gE, rfl, hE1, hE2, RE, h8⟩; replace BV := BV.below h8; replace B6 := B6.below h8; replace B9 := B9.below h8; replace RX := VRow.below RX h8; replace hb := chain hb h8; clear h8; obtain ⟨x0, x1, x2, x3, xf, xl⟩ := BV.four; obtain ⟨y0, y1, yf, yl⟩ := B6.two; obtain ⟨z0, z1, zf, zl⟩ := B9.two) | (go_at_call 32; refine (HQS.out _ _ _ RX RE).mono ?_; clear HQS; rintro e u9 ⟨rfl, h9⟩; replace BV := BV.below h9; replace B6 := B6.below h9; replace B9 := B9.below h9; replace hb := chain hb h9; clear h9; obtain ⟨x0, x1, x2, x3, xf, xl⟩ := BV.four; obtain ⟨y0, y1, yf, yl⟩ := B6.two; obtain ⟨z0, z1, zf, zl⟩ := B9.two))
  go_ret
  exact ⟨rfl, hb⟩
set_option maxRecDepth 100000 in
theorem fnExactMeanExact_lifted (os : Os) (started : os.Started) (H : Type) (enc : TypeId × Value → H) :
    ReturnsInHanded {} Try.checked os 9 .any (Rows.fnExactMeanExactSpec.pre6 enc Try.prog Try.f9 Rows.fnExactMeanExactRow.domain false) (Rows.fnExactMeanExactSpec.post enc Try.prog Try.f9 false true false false) := by
  refine returnsInHanded_of_change (C := Try.checked) own started (by kernel_rfl) Try.func9
    (ChangeSpec.witness6 (enc := enc) (C := Try.checked) false ⟨#[], #[.agg #[.int .i64 0, .int .i64 0, .int .i64 0, .int .i64 0], .slice none 0 0], []⟩ 8 (by kernel_rfl) (by kernel_rfl) (by kernel_rfl) (by kernel_rfl)) ?_
  intro W base args ds gs before hval0 hW hcnd _
  have hval : ∀ (j : Nat) t v, Try.f9.params[j]? = some t → args[j]? = some v → Value.okWide Try.prog W .any base t v := hval0
  have hW' := hW
  obtain ⟨p, q, hA0, hV, rfl, hfz, hnd⟩ := hW
  have hA : DataW.TrodAll enc Try.prog W 0 (fun _ => true) true Try.f9.params.toList args.toList ds p := hA0
  rw [Try.params9] at hA hval
  obtain ⟨v0, vs0, d0, ds0, p0, q0, hargs, rfl, rfl, h0, r0⟩ := trodAll_cons hA
  obtain ⟨v1, vs1, d1, ds1, p1, q1, rfl, rfl, rfl, h1, r1⟩ := trodAll_cons r0
  obtain ⟨rfl, rfl, rfl⟩ := trodAll_nil r1
  obtain rfl : args = #[v0, v1] := by cases args; simp_all
  obtain ⟨rfl, rfl⟩ := trodVars_none hV
  have k0 := h0
  have lt0 : ∀ x ∈ p0, x.block < W.heap.size := by obtain ⟨m, hm⟩ := k0; exact DataW.trod_lt m _ _ _ hm
  have k1 := h1
  have lt1 : ∀ x ∈ p1, x.block < W.heap.size := by obtain ⟨m, hm⟩ := k1; exact DataW.trod_lt m _ _ _ hm
  obtain ⟨x0_0, x1_0, x2_0, x3_0, y0_0, y1_0, y2_0, y3_0, m_0, rfl, _, _, hy0_0, hy1_0, hy2_0, hy3_0⟩ := Joins.open_agg4 Try.underlying23 (by kernel_rfl) (show Try.prog.cellsOf 23 = 4 by kernel_rfl) (hval 0 23 v0 rfl rfl) h0
  obtain ⟨a0_0, e0_0, _, wa0_0⟩ := DataW.trod_int Try.underlying2 hy0_0
  obtain ⟨a1_0, e1_0, _, wa1_0⟩ := DataW.trod_int Try.underlying2 hy1_0
  obtain ⟨a2_0, e2_0, _, wa2_0⟩ := DataW.trod_int Try.underlying2 hy2_0
  obtain ⟨a3_0, e3_0, _, wa3_0⟩ := DataW.trod_int Try.underlying2 hy3_0
  simp at e0_0 e1_0 e2_0 e3_0
  subst e0_0 e1_0 e2_0 e3_0
  obtain ⟨sa_1, sl_1, sc_1, rfl⟩ := okWide_slice Try.underlying43 (hval 1 43 v1 rfl rfl)
  obtain ⟨ra_1, rn_1, rc_1, rx_1, hv_1, rl_1, rm_1, rr_1, rw_1⟩ : ∃ (a : Option Addr) (n cap : Nat) (l : List Rl), Value.slice sa_1 sl_1 sc_1 = .slice a n cap ∧ l.length = n ∧ n ≤ 9223372036854775807 ∧ XIn W a l ∧ ∀ s ∈ l, -9223372036854775808 ≤ s.2 ∧ s.2 ≤ 9223372036854775807 := by
    obtain ⟨fuel, hf⟩ := h1
    exact open_exs hf
  simp only [Value.slice.injEq] at hv_1
  obtain ⟨rfl, rfl, rfl⟩ := hv_1
  clear hA0 hval0
  refine (fnExactMeanExact_walk a0_0 a1_0 a2_0 a3_0 sa_1 sl_1 sc_1 rx_1 W wa0_0 wa1_0 wa2_0 wa3_0 rl_1 rm_1 rr_1 rw_1).mono fun e W' ⟨he, bel⟩ => ?_
  subst he
  exact ⟨_, rfl, _, _, _, [], _, [], hW', trodAll_mk1 (shut_bool Try.underlying4 _), (trodAll_cons_mk (Below.trod laidOut (by kernel_rfl) (of_decide_eq_true (by kernel_rfl)) k0 bel lt0) (trodAll_cons_mk (Below.trod laidOut (by kernel_rfl) (of_decide_eq_true (by kernel_rfl)) k1 bel lt1) trodAll_mk0)), rfl, bel.frame _, fun h => by cases h⟩
theorem fnExactMeanExact_holds : Rows.FnExactMeanExactSaid :=
  OpenClaim.holds_of_wide 9 Try.f9 rfl rfl rfl rfl rfl rfl rfl ⟨rfl, rfl, rfl, rfl, rfl⟩ rfl rfl rfl rfl rfl (by kernel_rfl) Try.func9 (by kernel_rfl)
    (of_decide_eq_true (by kernel_rfl)) (by unfold Func.isWrapper; first | (rw [if_pos (by decide +kernel)]; kernel_rfl) | (rw [if_neg (by decide +kernel)]; exact ⟨rfl, rfl⟩))
    (fun os started H enc _ => fnExactMeanExact_lifted os started H enc)
end Go.Proofs.Ytgifkopgnpdkiaa
