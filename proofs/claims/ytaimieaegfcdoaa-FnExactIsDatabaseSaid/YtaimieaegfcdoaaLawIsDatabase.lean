/- The exact law of chapter 13 on whether a database has the right form holds: for every input the law returns true and its arguments read behind the call as they read before. No conditions. -/
import Derived.Test.YtaimieaegfcdoaaDbArg
import Derived.Test.Ytaimieaegfcdoaa13g
import Derived.Test.YtaimieaegfcdoaaOpen
import Derived.ChangeOld
namespace Go.Proofs.Ytaimieaegfcdoaa
open Go.ChangeShapes Go.WideShapes Go.ChangeAt Go.RowKit
set_option linter.unusedVariables false
set_option linter.unusedSimpArgs false
set_option maxRecDepth 4000

set_option maxRecDepth 8000 in
set_option maxHeartbeats 4000000 in
theorem fnExactIsDatabase_walk (p c h s kd : Int) (a : Option Addr) (n k : Nat) (L : List Rl) (w : World) (hn : L.length = n) (hm : n ≤ 9223372036854775807) (hr : XIn w a L) (hx : ∀ r ∈ L, -9223372036854775808 ≤ r.2 ∧ r.2 ≤ 9223372036854775807) :
    Calls Try.prog 7 #[.agg #[.int .i64 p, .int .i64 c, .int .i64 h, .int .i64 s, .int .i64 kd, .slice a n k]] w fun e w' => e = .returned (.bool true) ∧ Below w.heap.size w w' := by
  subst hn
  have BA := Blk.new w #[.int .i64 p, .int .i64 c, .int .i64 h, .int .i64 s, .int .i64 kd, .slice a L.length k] 34
  have hb : Below w.heap.size w (w.alloc (.cells #[.int .i64 p, .int .i64 c, .int .i64 h, .int .i64 s, .int .i64 kd, .slice a L.length k] 34)) := (Below.refl _ _).alloc (Nat.le_refl _) _
  have hsz := fun W => szDatabase_any p c h s kd a L.length k 1048576 W (by omega) (by omega) hm
  have hl0 := BA.lt
  obtain ⟨x0, x1, x2, x3, x4, x5, xf, xl⟩ := BA.six
  by_cases hle : L.length ≤ 1048576
  · have hle' : (L.length : Int) ≤ 1048576 := by omega
    simp only [if_neg (show ¬ (1048576 : Int) - (L.length : Int) < 0 by omega)] at hsz
    obtain ⟨lf, hlf⟩ : ∃ x : Int, (1048576 : Int) - (L.length : Int) = x := ⟨_, rfl⟩
    rw [hlf] at hsz
    have hlf0 : ¬ lf < 0 := by omega
    have HSZ := Lib.hid hsz
    have HTD := Lib.hid (fun W (q : XIn W a L) => toDatabase_any p c h s kd a k L W hle q)
    obtain ⟨D, hD⟩ : ∃ D, dbB p c h s kd L = D := ⟨_, rfl⟩
    have hsp := fun g W (q : XRow W g L) => specIsDatabase_any p c h s kd (some ⟨g, 0, none⟩) L.length L.length L W rfl hle (.inr ⟨g, rfl, q⟩) hx
    have him := fun g W (q : XRow W g L) => implIsDatabase_any p c h s kd (some ⟨g, 0, none⟩) L.length L.length L W rfl hle (.inr ⟨g, rfl, q⟩) hx
    rw [hD] at hsp him
    have HSP := Lib.hid hsp
    have HIM := Lib.hid him
    have HEQ := Lib.hid (fun W g1 g2 (q1 : XRow W g1 L) (q2 : XRow W g2 L) => eqDatabase_same p c h s kd g1 g2 L W hle q1 q2)
    clear hsz hsp him hD hx hlf
    go_enter Try.func7, Try.ntmps7
    go_wp2_with fail
    clear x0 x1 x2 x3 x4 x5 xf xl
    generalize (w.alloc (.cells #[.int .i64 p, .int .i64 c, .int .i64 h, .int .i64 s, .int .i64 kd, .slice a L.length k] 34)) = v0 at *
    refine (HSZ.out _).mono ?_
    rintro e w1 ⟨rfl, hb1⟩
    replace BA := BA.below hb1
    replace hb := chain hb hb1
    clear hb1
    obtain ⟨x0, x1, x2, x3, x4, x5, xf, xl⟩ := BA.six
    go_wp2_with fail
    clear x0 x1 x2 x3 x4 x5 xf xl
    refine (HTD.out _ (hr.below hb)).mono ?_
    rintro e w2 ⟨g0, rfl, hg0, hg0l, X0, hb2⟩
    replace BA := BA.below hb2
    replace hb := chain hb hb2
    clear hb2
    obtain ⟨x0, x1, x2, x3, x4, x5, xf, xl⟩ := BA.six
    go_wp2_with fail
    clear x0 x1 x2 x3 x4 x5 xf xl
    refine (HSP.out _ _ X0).mono ?_
    rintro e w2b ⟨rfl, hb2⟩
    replace BA := BA.below hb2
    replace hb := chain hb hb2
    clear hb2 X0
    obtain ⟨x0, x1, x2, x3, x4, x5, xf, xl⟩ := BA.six
    go_wp2_with fail
    clear x0 x1 x2 x3 x4 x5 xf xl
    refine (HTD.out _ (hr.below hb)).mono ?_
    rintro e w3 ⟨g1, rfl, hg1, hg1l, X1, hb3⟩
    have hz3 := hb3.size
    have hlA := BA.lt
    replace BA := BA.below hb3
    replace hb := chain hb hb3
    clear hb3
    have hzw := hb.size
    have BX := Blk.new w3 #[.int .i64 p, .int .i64 c, .int .i64 h, .int .i64 s, .int .i64 kd, .slice (some ⟨g1, 0, none⟩) L.length L.length] 40
    have hal : Below w3.heap.size w3 (w3.alloc (.cells #[.int .i64 p, .int .i64 c, .int .i64 h, .int .i64 s, .int .i64 kd, .slice (some ⟨g1, 0, none⟩) L.length L.length] 40)) := (Below.refl _ _).alloc (Nat.le_refl _) _
    replace BA := BA.below hal
    replace X1 := VRow.below X1 hal
    replace hb := chain hb hal
    have hB1 : w.heap.size < w3.heap.size := by omega
    clear hal
    obtain ⟨x0, x1, x2, x3, x4, x5, xf, xl⟩ := BA.six
    obtain ⟨y0, y1, y2, y3, y4, y5, yf, yl⟩ := BX.six
    go_wp2_with fail
    clear x0 x1 x2 x3 x4 x5 xf xl
    clear y0 y1 y2 y3 y4 y5 yf yl
    generalize hB : w3.heap.size = B at *
    generalize (w3.alloc (.cells #[.int .i64 p, .int .i64 c, .int .i64 h, .int .i64 s, .int .i64 kd, .slice (some ⟨g1, 0, none⟩) L.length L.length] 40)) = wx at *
    refine (HIM.out _ _ X1).mono ?_
    rintro e w4 ⟨rfl, hb4⟩
    replace BA := BA.below hb4
    replace BX := BX.below hb4
    replace X1 := VRow.below X1 hb4
    replace hb := chain hb hb4
    clear hb4
    go_wp2_with fail
    have hd_ : w4.drew.heap.size = w4.heap.size := rfl
    replace BA := BA.drew
    replace BX := BX.drew
    replace hb := hb.drew
    replace X1 := VRow.drew X1
    refine wp_region_held_drew (S := fun w' => w'.cell? ⟨w.heap.size, 0, none⟩ = some (.int .i64 p) ∧ w'.cell? ⟨w.heap.size, 1, none⟩ = some (.int .i64 c) ∧ w'.cell? ⟨w.heap.size, 2, none⟩ = some (.int .i64 h) ∧ w'.cell? ⟨w.heap.size, 3, none⟩ = some (.int .i64 s) ∧ w'.cell? ⟨w.heap.size, 4, none⟩ = some (.int .i64 kd) ∧ w'.cell? ⟨w.heap.size, 5, none⟩ = some (.slice a L.length k) ∧ w'.cell? ⟨B, 0, none⟩ = some (.int .i64 p) ∧ w'.cell? ⟨B, 1, none⟩ = some (.int .i64 c) ∧ w'.cell? ⟨B, 2, none⟩ = some (.int .i64 h) ∧ w'.cell? ⟨B, 3, none⟩ = some (.int .i64 s) ∧ w'.cell? ⟨B, 4, none⟩ = some (.int .i64 kd) ∧ w'.cell? ⟨B, 5, none⟩ = some (.slice (some ⟨g1, 0, none⟩) L.length L.length)) (by kernel_rfl) ⟨BA.six.1, BA.six.2.1, BA.six.2.2.1, BA.six.2.2.2.1, BA.six.2.2.2.2.1, BA.six.2.2.2.2.2.1, BX.six.1, BX.six.2.1, BX.six.2.2.1, BX.six.2.2.2.1, BX.six.2.2.2.2.1, BX.six.2.2.2.2.2.1⟩ (fun hHeld => ?_)
    clear hHeld
    generalize w4.drew = vd at *
    have hHeld : vd.cell? ⟨w.heap.size, 0, none⟩ = some (.int .i64 p) ∧ vd.cell? ⟨w.heap.size, 1, none⟩ = some (.int .i64 c) ∧ vd.cell? ⟨w.heap.size, 2, none⟩ = some (.int .i64 h) ∧ vd.cell? ⟨w.heap.size, 3, none⟩ = some (.int .i64 s) ∧ vd.cell? ⟨w.heap.size, 4, none⟩ = some (.int .i64 kd) ∧ vd.cell? ⟨w.heap.size, 5, none⟩ = some (.slice a L.length k) ∧ vd.cell? ⟨B, 0, none⟩ = some (.int .i64 p) ∧ vd.cell? ⟨B, 1, none⟩ = some (.int .i64 c) ∧ vd.cell? ⟨B, 2, none⟩ = some (.int .i64 h) ∧ vd.cell? ⟨B, 3, none⟩ = some (.int .i64 s) ∧ vd.cell? ⟨B, 4, none⟩ = some (.int .i64 kd) ∧ vd.cell? ⟨B, 5, none⟩ = some (.slice (some ⟨g1, 0, none⟩) L.length L.length) := ⟨BA.six.1, BA.six.2.1, BA.six.2.2.1, BA.six.2.2.2.1, BA.six.2.2.2.2.1, BA.six.2.2.2.2.2.1, BX.six.1, BX.six.2.1, BX.six.2.2.1, BX.six.2.2.2.1, BX.six.2.2.2.2.1, BX.six.2.2.2.2.2.1⟩
    refine wpAnyH_take (i := 0) (oi := { dst := some 22, op := _, type := _, pos := _, after := _, guard := _ }) (v := ?_) rfl (by kernel_rfl) (by kernel_rfl) (by kernel_rfl) (fun _ _ _ h => h) (Or.inl ⟨by rfl, ?_⟩) (by assumption) ?_
    rotate_left
    · intro w hSw
      (try dsimp only at hSw)
      go_simp
      (try (with_reducible rfl))
    try simp only [Act.put, List.setIfInBounds_toArray, List.set_cons_zero, List.set_cons_succ]
    refine wpAnyH_take (i := 1) (oi := { dst := some 23, op := _, type := _, pos := _, after := _, guard := _ }) (v := ?_) rfl (by kernel_rfl) (by kernel_rfl) (by kernel_rfl) (fun _ _ _ h => h) (Or.inl ⟨by rfl, ?_⟩) (by assumption) ?_
    rotate_left
    · intro w hSw
      (try dsimp only at hSw)
      go_simp
      (try (with_reducible rfl))
    try simp only [Act.put, List.setIfInBounds_toArray, List.set_cons_zero, List.set_cons_succ]
    refine wpAnyH_ready (rs := [2]) (by kernel_rfl) (by simp) ?_
    refine AllReadyH.cons (o := { dst := some 24, op := _, type := _, pos := _, after := _, guard := _ }) rfl (fun K hK => ?_) AllReadyH.nil
    go_simp
    refine (HTD.out _ (hr.below hb)).mono ?_
    rintro e w5 ⟨g2, rfl, hg2, hg2l, X2, hb5⟩
    replace BA := BA.below hb5
    replace BX := BX.below hb5
    replace X1 := VRow.below X1 hb5
    replace hb := chain hb hb5
    clear hb5
    (try go_wp2_with fail)
    refine hK.out _ _ ⟨BA.six.1, BA.six.2.1, BA.six.2.2.1, BA.six.2.2.2.1, BA.six.2.2.2.2.1, BA.six.2.2.2.2.2.1, BX.six.1, BX.six.2.1, BX.six.2.2.1, BX.six.2.2.2.1, BX.six.2.2.2.2.1, BX.six.2.2.2.2.2.1⟩ (fun hHeld => ?_)
    clear hK K
    try simp only [Act.put, List.setIfInBounds_toArray, List.set_cons_zero, List.set_cons_succ]
    refine wpAnyH_ready (rs := [3]) (by kernel_rfl) (by simp) ?_
    refine AllReadyH.cons (o := { dst := some 25, op := _, type := _, pos := _, after := _, guard := _ }) rfl (fun K hK => ?_) AllReadyH.nil
    go_simp
    refine (HEQ.out _ _ _ X1 X2).mono ?_
    rintro e w6 ⟨rfl, hb6⟩
    replace BA := BA.below hb6
    replace BX := BX.below hb6
    replace hb := chain hb hb6
    clear hb6
    (try go_wp2_with fail)
    refine hK.out _ _ ⟨BA.six.1, BA.six.2.1, BA.six.2.2.1, BA.six.2.2.2.1, BA.six.2.2.2.2.1, BA.six.2.2.2.2.2.1, BX.six.1, BX.six.2.1, BX.six.2.2.1, BX.six.2.2.2.1, BX.six.2.2.2.2.1, BX.six.2.2.2.2.2.1⟩ (fun hHeld => ?_)
    clear hK K
    try simp only [Act.put, List.setIfInBounds_toArray, List.set_cons_zero, List.set_cons_succ]
    refine wpAnyH_take (i := 4) (oi := { dst := some 26, op := _, type := _, pos := _, after := _, guard := _ }) (v := ?_) rfl (by kernel_rfl) (by kernel_rfl) (by kernel_rfl) (fun _ _ _ h => h) (Or.inl ⟨by rfl, ?_⟩) (by assumption) ?_
    rotate_left
    · intro w hSw
      (try dsimp only at hSw)
      go_simp
      (try (with_reducible rfl))
    try simp only [Act.put, List.setIfInBounds_toArray, List.set_cons_zero, List.set_cons_succ]
    refine wpAnyH_done (by kernel_rfl) ?_ _
    clear hHeld
    go_wp2_with fail
    go_ret
    exact ⟨rfl, hb⟩
  · have hle' : ¬ (L.length : Int) ≤ 1048576 := by omega
    simp only [if_pos (show (1048576 : Int) - (L.length : Int) < 0 by omega)] at hsz
    have HSZ := Lib.hid hsz
    clear hsz
    go_enter Try.func7, Try.ntmps7
    go_wp2_with fail
    refine (HSZ.out _).mono ?_
    rintro e w1 ⟨rfl, hb1⟩
    go_wp2_with fail
    go_ret
    exact ⟨rfl, chain hb hb1⟩
set_option maxRecDepth 100000 in
theorem fnExactIsDatabase_lifted (os : Os) (started : os.Started) (H : Type) (enc : TypeId × Value → H) :
    ReturnsInHanded {} Try.checked os 7 .any (Rows.fnExactIsDatabaseSpec.pre6 enc Try.prog Try.f7 Rows.fnExactIsDatabaseRow.domain false) (Rows.fnExactIsDatabaseSpec.post enc Try.prog Try.f7 false true false false) := by
  refine returnsInHanded_of_change (C := Try.checked) own started (by kernel_rfl) Try.func7
    (ChangeSpec.witness6 (enc := enc) (C := Try.checked) false ⟨#[], #[.agg #[.int .i64 0, .int .i64 0, .int .i64 0, .int .i64 0, .int .i64 0, .slice none 0 0]], []⟩ 8 (by kernel_rfl) (by kernel_rfl) (by kernel_rfl) (by kernel_rfl)) ?_
  intro W base args ds gs before hval0 hW hcnd _
  have hval : ∀ (j : Nat) t v, Try.f7.params[j]? = some t → args[j]? = some v → Value.okWide Try.prog W .any base t v := hval0
  have hW' := hW
  obtain ⟨p, q, hA0, hV, rfl, hfz, hnd⟩ := hW
  have hA : DataW.TrodAll enc Try.prog W 0 (fun _ => true) true Try.f7.params.toList args.toList ds p := hA0
  rw [Try.params7] at hA hval
  obtain ⟨v0, vs0, d0, ds0, p0, q0, hargs, rfl, rfl, h0, r0⟩ := trodAll_cons hA
  obtain ⟨rfl, rfl, rfl⟩ := trodAll_nil r0
  obtain rfl : args = #[v0] := by cases args; simp_all
  obtain ⟨rfl, rfl⟩ := trodVars_none hV
  have k0 := h0
  have lt0 : ∀ x ∈ p0, x.block < W.heap.size := by obtain ⟨m, hm⟩ := k0; exact DataW.trod_lt m _ _ _ hm
  obtain ⟨dp_0, dc_0, dh_0, ds_0, dk_0, da_0, dn_0, dm_0, dL_0, rfl, dl_0, db_0, dr_0, dw_0⟩ := open_db (hval 0 34 v0 rfl rfl) h0
  clear hA0 hval0
  refine (fnExactIsDatabase_walk dp_0 dc_0 dh_0 ds_0 dk_0 da_0 dn_0 dm_0 dL_0 W dl_0 db_0 dr_0 dw_0).mono fun e W' ⟨he, bel⟩ => ?_
  subst he
  exact ⟨_, rfl, _, _, _, [], _, [], hW', trodAll_mk1 (shut_bool Try.underlying4 _), (trodAll_cons_mk (Below.trod laidOut (by kernel_rfl) (of_decide_eq_true (by kernel_rfl)) k0 bel lt0) trodAll_mk0), rfl, bel.frame _, fun h => by cases h⟩
theorem fnExactIsDatabase_holds : Rows.FnExactIsDatabaseSaid :=
  OpenClaim.holds_of_wide 7 Try.f7 rfl rfl rfl rfl rfl rfl rfl ⟨rfl, rfl, rfl, rfl, rfl⟩ rfl rfl rfl rfl rfl (by kernel_rfl) Try.func7 (by kernel_rfl)
    (of_decide_eq_true (by kernel_rfl)) (by unfold Func.isWrapper; first | (rw [if_pos (by decide +kernel)]; kernel_rfl) | (rw [if_neg (by decide +kernel)]; exact ⟨rfl, rfl⟩))
    (fun os started H enc _ => fnExactIsDatabase_lifted os started H enc)
end Go.Proofs.Ytaimieaegfcdoaa
