/- The exact law of chapter 8 on opening rolls holds: for every input the law returns true and its arguments read behind the call as they read before. No conditions. -/
import Derived.Test.Ytokjkcnjmfbfiaa08s
import Derived.Test.YtokjkcnjmfbfiaaVarB
import Derived.Test.YtokjkcnjmfbfiaaGamL
import Derived.Test.YtokjkcnjmfbfiaaGamArg
import Derived.Test.YtokjkcnjmfbfiaaRows
import Derived.ChangeOld
namespace Go.Proofs.Ytokjkcnjmfbfiaa
open Go.ChangeMaps (open_string shut_string)
open Go.ChangeShapes Go.WideShapes Go.ChangeAt Go.RowKit
set_option linter.unusedVariables false
set_option linter.unusedSimpArgs false
set_option maxRecDepth 4000

theorem openedG_lx {G : Gm} {fa fb : Int} (l1 : G.xs.length ≤ 1048576) (l2 : G.ys.length ≤ 1048576) : (openedG G fa fb).xs.length ≤ 1048576 := by
  unfold openedG
  split
  · exact l1
  · dsimp only
    split
    · exact l2
    · exact l1
theorem openedG_ly {G : Gm} {fa fb : Int} (l1 : G.xs.length ≤ 1048576) (l2 : G.ys.length ≤ 1048576) : (openedG G fa fb).ys.length ≤ 1048576 := by
  unfold openedG
  split
  · exact l2
  · dsimp only
    split
    · exact l1
    · exact l2
theorem below9s {wS W : World} {B : Nat} {q0 q1 q2 q3 q4 q5 q6 q7 q8 u0 u1 u2 u3 u4 u5 u6 u7 u8 : Value} {t : TypeId} (_ : Blk W B #[q0, q1, q2, q3, q4, q5, q6, q7, q8] t) (h : Below wS.heap.size wS W) (hB : wS.heap.size ≤ B) : Below wS.heap.size wS (((((((((W.setCell ⟨B, 0, none⟩ (u0)).setCell ⟨B, 1, none⟩ (u1)).setCell ⟨B, 2, none⟩ (u2)).setCell ⟨B, 3, none⟩ (u3)).setCell ⟨B, 4, none⟩ (u4)).setCell ⟨B, 5, none⟩ (u5)).setCell ⟨B, 6, none⟩ (u6)).setCell ⟨B, 7, none⟩ (u7)).setCell ⟨B, 8, none⟩ (u8)) := Below.farG9 h hB _ _ _ _ _ _ _ _ _
set_option maxRecDepth 8000 in
set_option maxHeartbeats 4000000 in
theorem fnExactOpeningRoll_walk (p c h s : Int) (G : Gm) (a1 a2 : Option Addr) (c1 c2 : Nat) (ra rb : Int) (w : World) (m1 : G.xs.length ≤ 9223372036854775807) (m2 : G.ys.length ≤ 9223372036854775807) (r1 : IRow w a1 G.xs) (r2 : IRow w a2 G.ys) :
    Calls Try.prog 11 #[.agg #[.int .i64 p, .int .i64 c, .int .i64 h, .int .i64 s], .agg #[.slice a1 G.xs.length c1, .slice a2 G.ys.length c2, .int .i64 G.pl, .int .i64 G.ra, .int .i64 G.rb, .int .i64 G.ph, .int .i64 G.wi, .int .i64 G.re, .int .i64 G.tu], .int .i64 ra, .int .i64 rb] w fun e w' => e = .returned (.bool true) ∧ Below w.heap.size w w' := by
  obtain ⟨BV, BG, hb, hz0⟩ := two_new' w #[.int .i64 p, .int .i64 c, .int .i64 h, .int .i64 s] #[.slice a1 G.xs.length c1, .slice a2 G.ys.length c2, .int .i64 G.pl, .int .i64 G.ra, .int .i64 G.rb, .int .i64 G.ph, .int .i64 G.wi, .int .i64 G.re, .int .i64 G.tu] 23 66
  have hsz := fun w => szGame_any G a1 a2 c1 c2 1048576 w (by omega) (by omega) m1 m2
  have r10 := r1
  have r20 := r2
  replace r1 := r1.below hb
  replace r2 := r2.below hb
  obtain ⟨ga0, ga1, ga2, ga3, ga4, ga5, ga6, ga7, ga8, gaf, gal⟩ := BG.nine
  by_cases hneg : szAfter 1048576 G.xs.length G.ys.length = -1
  · rw [hneg] at hsz
    have HZ := Lib.hid hsz
    clear hsz hneg
    go_enter Try.func11, Try.ntmps11
    go_wp2_with fail
    generalize ((w.alloc (.cells #[.int .i64 p, .int .i64 c, .int .i64 h, .int .i64 s] 23)).alloc (.cells #[.slice a1 G.xs.length c1, .slice a2 G.ys.length c2, .int .i64 G.pl, .int .i64 G.ra, .int .i64 G.rb, .int .i64 G.ph, .int .i64 G.wi, .int .i64 G.re, .int .i64 G.tu] 66)) = v0 at *
    refine (HZ.out _).mono ?_
    rintro e w1 ⟨rfl, hb1⟩
    go_wp2
    go_ret
    exact ⟨rfl, chain hb hb1⟩
  · have hle : (G.xs.length : Int) + G.ys.length ≤ 1048576 := by
      unfold szAfter at hneg
      split at hneg
      · exact absurd rfl hneg
      · split at hneg
        · exact absurd rfl hneg
        · omega
    obtain ⟨z, hzz⟩ : ∃ z, szAfter 1048576 G.xs.length G.ys.length = z := ⟨_, rfl⟩
    have hzp : 0 ≤ z := by
      rw [← hzz]
      unfold szAfter
      rw [if_neg (by omega), if_neg (by omega)]
      omega
    rw [hzz] at hsz
    have HZ := Lib.hid hsz
    clear hsz hneg hzz
    have l1 : G.xs.length ≤ 1048576 := by omega
    have l2 : G.ys.length ≤ 1048576 := by omega
    have hsp : ∀ (a1 a2 : Option Addr) (k1 k2 : Nat) (W : World), IRow W a1 G.xs → IRow W a2 G.ys → Calls Try.prog 51 #[.agg #[.int .i64 p, .int .i64 c, .int .i64 h, .int .i64 s], .agg #[.slice a1 G.xs.length k1, .slice a2 G.ys.length k2, .int .i64 G.pl, .int .i64 G.ra, .int .i64 G.rb, .int .i64 G.ph, .int .i64 G.wi, .int .i64 G.re, .int .i64 G.tu], .int .i64 ra, .int .i64 rb] W (GameGot (openingV p c h s G ra rb) (openingC p c h s G ra rb) W) := fun a1 a2 k1 k2 W r1 r2 => openingRollS_any p c h s a1 a2 _ _ k1 k2 G.xs G.ys W rfl rfl l1 l2 r1 r2 _ _ _ _ _ _ _ ra rb
    have him : ∀ (a1 a2 : Option Addr) (k1 k2 : Nat) (W : World), IRow W a1 G.xs → IRow W a2 G.ys → Calls Try.prog 52 #[.agg #[.int .i64 p, .int .i64 c, .int .i64 h, .int .i64 s], .agg #[.slice a1 G.xs.length k1, .slice a2 G.ys.length k2, .int .i64 G.pl, .int .i64 G.ra, .int .i64 G.rb, .int .i64 G.ph, .int .i64 G.wi, .int .i64 G.re, .int .i64 G.tu], .int .i64 ra, .int .i64 rb] W (GameGot (openingV p c h s G ra rb) (openingC p c h s G ra rb) W) := fun a1 a2 k1 k2 W r1 r2 => openingRoll_any p c h s a1 a2 _ _ k1 k2 G.xs G.ys W rfl rfl l1 l2 r1 r2 _ _ _ _ _ _ _ ra rb
    have lX : (openingV p c h s G ra rb).xs.length ≤ 1048576 := by
      unfold openingV
      split
      · split
        · exact openedG_lx l1 l2
        · exact Nat.zero_le _
      · exact Nat.zero_le _
    have lY : (openingV p c h s G ra rb).ys.length ≤ 1048576 := by
      unfold openingV
      split
      · split
        · exact openedG_ly l1 l2
        · exact Nat.zero_le _
      · exact Nat.zero_le _
    obtain ⟨X, hX⟩ : ∃ X, openingV p c h s G ra rb = X := ⟨_, rfl⟩
    obtain ⟨r, hr⟩ : ∃ r, openingC p c h s G ra rb = r := ⟨_, rfl⟩
    rw [hX, hr] at hsp him
    rw [hX] at lX lY
    have HSP := Lib.hid hsp
    have HIM := Lib.hid him
    clear hsp him hX hr
    go_enter Try.func11, Try.ntmps11
    go_wp2_with fail
    clear ga0 ga1 ga2 ga3 ga4 ga5 ga6 ga7 ga8 gaf gal
    generalize ((w.alloc (.cells #[.int .i64 p, .int .i64 c, .int .i64 h, .int .i64 s] 23)).alloc (.cells #[.slice a1 G.xs.length c1, .slice a2 G.ys.length c2, .int .i64 G.pl, .int .i64 G.ra, .int .i64 G.rb, .int .i64 G.ph, .int .i64 G.wi, .int .i64 G.re, .int .i64 G.tu] 66)) = v0 at *
    refine (HZ.out _).mono ?_
    rintro e w0 ⟨rfl, hb1⟩
    replace BV := BV.below hb1
    replace BG := BG.below hb1
    replace r1 := r1.below hb1
    replace r2 := r2.below hb1
    have hlt0 : w.heap.size + 1 < w0.heap.size := BG.lt
    replace hb := chain hb hb1
    clear hb1 hz0 HZ
    obtain ⟨q0_BV, q1_BV, q2_BV, q3_BV, qf_BV, ql_BV⟩ := BV.four
    obtain ⟨q0_BG, q1_BG, q2_BG, q3_BG, q4_BG, q5_BG, q6_BG, q7_BG, q8_BG, qf_BG, ql_BG⟩ := BG.nine
    go_wp2_with fail
    clear q0_BV q1_BV q2_BV q3_BV qf_BV ql_BV
    clear q0_BG q1_BG q2_BG q3_BG q4_BG q5_BG q6_BG q7_BG q8_BG qf_BG ql_BG
    obtain ⟨J, hJ⟩ : ∃ J : Act → Act → World → Prop, J = fun a a' w' => ∃ B d1 d2 k1 k2 lo hi q1 q2, a' = ((((((((((((a.put (some 26) (.agg #[.int .i64 p, .int .i64 c, .int .i64 h, .int .i64 s])).put (some 27) (.agg #[.int .i64 p, .int .i64 c, .int .i64 h, .int .i64 s])).put (some 28) (.agg #[.slice a1 G.xs.length c1, .slice a2 G.ys.length c2, .int .i64 G.pl, .int .i64 G.ra, .int .i64 G.rb, .int .i64 G.ph, .int .i64 G.wi, .int .i64 G.re, .int .i64 G.tu])).put (some 29) (.agg #[.slice (some ⟨q1, 0, none⟩) G.xs.length G.xs.length, .slice (some ⟨q2, 0, none⟩) G.ys.length G.ys.length, .int .i64 G.pl, .int .i64 G.ra, .int .i64 G.rb, .int .i64 G.ph, .int .i64 G.wi, .int .i64 G.re, .int .i64 G.tu])).put (some 30) (.int .i64 ra)).put (some 31) (.int .i64 rb)).put (some 32) (.tuple #[.agg #[.slice d1 X.xs.length k1, .slice d2 X.ys.length k2, .int .i64 X.pl, .int .i64 X.ra, .int .i64 X.rb, .int .i64 X.ph, .int .i64 X.wi, .int .i64 X.re, .int .i64 X.tu], .int .i64 r])).put (some 25) (.tuple #[.agg #[.slice d1 X.xs.length k1, .slice d2 X.ys.length k2, .int .i64 X.pl, .int .i64 X.ra, .int .i64 X.rb, .int .i64 X.ph, .int .i64 X.wi, .int .i64 X.re, .int .i64 X.tu], .int .i64 r])).put (some 33) (.agg #[.slice d1 X.xs.length k1, .slice d2 X.ys.length k2, .int .i64 X.pl, .int .i64 X.ra, .int .i64 X.rb, .int .i64 X.ph, .int .i64 X.wi, .int .i64 X.re, .int .i64 X.tu])).put (some 34) (.int .i64 r)).put (some 11) (.int .i64 r)).put (some 10) (.pointer (some ⟨B, 0, none⟩))) ∧ Blk w' B #[.slice d1 X.xs.length k1, .slice d2 X.ys.length k2, .int .i64 X.pl, .int .i64 X.ra, .int .i64 X.rb, .int .i64 X.ph, .int .i64 X.wi, .int .i64 X.re, .int .i64 X.tu] 70 ∧ OBd lo hi w' d1 d2 X.xs X.ys ∧ (w0.heap.size ≤ lo ∧ hi ≤ w'.heap.size ∧ w0.heap.size ≤ B ∧ (B < lo ∨ hi ≤ B)) ∧ Below w0.heap.size w0 w' := ⟨_, rfl⟩
    have HJ := Lib.hid hJ
    clear hJ
    refine wp_region_join J ?_ ?_
    · skip
      refine wp_region_held_drew (S := fun w' => w'.cell? ⟨w.heap.size, 0, none⟩ = some (.int .i64 p) ∧ w'.cell? ⟨w.heap.size, 1, none⟩ = some (.int .i64 c) ∧ w'.cell? ⟨w.heap.size, 2, none⟩ = some (.int .i64 h) ∧ w'.cell? ⟨w.heap.size, 3, none⟩ = some (.int .i64 s) ∧ w'.cell? ⟨(w.heap.size + 1), 0, none⟩ = some (.slice a1 G.xs.length c1) ∧ w'.cell? ⟨(w.heap.size + 1), 1, none⟩ = some (.slice a2 G.ys.length c2) ∧ w'.cell? ⟨(w.heap.size + 1), 2, none⟩ = some (.int .i64 G.pl) ∧ w'.cell? ⟨(w.heap.size + 1), 3, none⟩ = some (.int .i64 G.ra) ∧ w'.cell? ⟨(w.heap.size + 1), 4, none⟩ = some (.int .i64 G.rb) ∧ w'.cell? ⟨(w.heap.size + 1), 5, none⟩ = some (.int .i64 G.ph) ∧ w'.cell? ⟨(w.heap.size + 1), 6, none⟩ = some (.int .i64 G.wi) ∧ w'.cell? ⟨(w.heap.size + 1), 7, none⟩ = some (.int .i64 G.re) ∧ w'.cell? ⟨(w.heap.size + 1), 8, none⟩ = some (.int .i64 G.tu)) (by kernel_rfl) ⟨(BV.below (Below.refl _ _).drew).four.1, (BV.below (Below.refl _ _).drew).four.2.1, (BV.below (Below.refl _ _).drew).four.2.2.1, (BV.below (Below.refl _ _).drew).four.2.2.2.1, (BG.below (Below.refl _ _).drew).nine.1, (BG.below (Below.refl _ _).drew).nine.2.1, (BG.below (Below.refl _ _).drew).nine.2.2.1, (BG.below (Below.refl _ _).drew).nine.2.2.2.1, (BG.below (Below.refl _ _).drew).nine.2.2.2.2.1, (BG.below (Below.refl _ _).drew).nine.2.2.2.2.2.1, (BG.below (Below.refl _ _).drew).nine.2.2.2.2.2.2.1, (BG.below (Below.refl _ _).drew).nine.2.2.2.2.2.2.2.1, (BG.below (Below.refl _ _).drew).nine.2.2.2.2.2.2.2.2.1⟩ (fun hHeld => ?_)
      clear hHeld
      have hbS : Below w0.heap.size w0 w0.drew := (Below.refl _ _).drew
      have hzd := hbS.size
      generalize w0.drew = vd at *
      have hHeld := (show vd.cell? ⟨w.heap.size, 0, none⟩ = some (.int .i64 p) ∧ vd.cell? ⟨w.heap.size, 1, none⟩ = some (.int .i64 c) ∧ vd.cell? ⟨w.heap.size, 2, none⟩ = some (.int .i64 h) ∧ vd.cell? ⟨w.heap.size, 3, none⟩ = some (.int .i64 s) ∧ vd.cell? ⟨(w.heap.size + 1), 0, none⟩ = some (.slice a1 G.xs.length c1) ∧ vd.cell? ⟨(w.heap.size + 1), 1, none⟩ = some (.slice a2 G.ys.length c2) ∧ vd.cell? ⟨(w.heap.size + 1), 2, none⟩ = some (.int .i64 G.pl) ∧ vd.cell? ⟨(w.heap.size + 1), 3, none⟩ = some (.int .i64 G.ra) ∧ vd.cell? ⟨(w.heap.size + 1), 4, none⟩ = some (.int .i64 G.rb) ∧ vd.cell? ⟨(w.heap.size + 1), 5, none⟩ = some (.int .i64 G.ph) ∧ vd.cell? ⟨(w.heap.size + 1), 6, none⟩ = some (.int .i64 G.wi) ∧ vd.cell? ⟨(w.heap.size + 1), 7, none⟩ = some (.int .i64 G.re) ∧ vd.cell? ⟨(w.heap.size + 1), 8, none⟩ = some (.int .i64 G.tu) from ⟨(BV.below hbS).four.1, (BV.below hbS).four.2.1, (BV.below hbS).four.2.2.1, (BV.below hbS).four.2.2.2.1, (BG.below hbS).nine.1, (BG.below hbS).nine.2.1, (BG.below hbS).nine.2.2.1, (BG.below hbS).nine.2.2.2.1, (BG.below hbS).nine.2.2.2.2.1, (BG.below hbS).nine.2.2.2.2.2.1, (BG.below hbS).nine.2.2.2.2.2.2.1, (BG.below hbS).nine.2.2.2.2.2.2.2.1, (BG.below hbS).nine.2.2.2.2.2.2.2.2.1⟩)
      refine wpAnyH_take (i := 0) (oi := { dst := some 26, op := _, type := _, pos := _, after := _, guard := _ }) (v := ?_) rfl (by kernel_rfl) (by kernel_rfl) (by kernel_rfl) (fun _ _ _ h => absurd h.1 (by simp)) (Or.inl ⟨by rfl, ?_⟩) (by assumption) ?_
      rotate_left
      · intro w hSw
        (try dsimp only at hSw)
        go_simp
        (try (with_reducible rfl))
      try simp only [Act.put, List.setIfInBounds_toArray, List.set_cons_zero, List.set_cons_succ]
      refine wpAnyH_take (i := 2) (oi := { dst := some 28, op := _, type := _, pos := _, after := _, guard := _ }) (v := ?_) rfl (by kernel_rfl) (by kernel_rfl) (by kernel_rfl) (fun _ _ _ h => absurd h.1 (by simp)) (Or.inl ⟨by rfl, ?_⟩) (by assumption) ?_
      rotate_left
      · intro w hSw
        (try dsimp only at hSw)
        go_simp
        (try (with_reducible rfl))
      try simp only [Act.put, List.setIfInBounds_toArray, List.set_cons_zero, List.set_cons_succ]
      refine wpAnyH_take (i := 4) (oi := { dst := some 30, op := _, type := _, pos := _, after := _, guard := _ }) (v := ?_) rfl (by kernel_rfl) (by kernel_rfl) (by kernel_rfl) (fun _ _ _ h => absurd h.1 (by simp)) (Or.inl ⟨by rfl, ?_⟩) (by assumption) ?_
      rotate_left
      · intro w hSw
        (try dsimp only at hSw)
        go_simp
        (try (with_reducible rfl))
      try simp only [Act.put, List.setIfInBounds_toArray, List.set_cons_zero, List.set_cons_succ]
      refine wpAnyH_take (i := 5) (oi := { dst := some 31, op := _, type := _, pos := _, after := _, guard := _ }) (v := ?_) rfl (by kernel_rfl) (by kernel_rfl) (by kernel_rfl) (fun _ _ _ h => absurd h.1 (by simp)) (Or.inl ⟨by rfl, ?_⟩) (by assumption) ?_
      rotate_left
      · intro w hSw
        (try dsimp only at hSw)
        go_simp
        (try (with_reducible rfl))
      try simp only [Act.put, List.setIfInBounds_toArray, List.set_cons_zero, List.set_cons_succ]
      refine wpAnyH_ready (rs := [1, 10]) (by kernel_rfl) (by simp) ?_
      refine AllReadyH.cons (o := { dst := some 27, op := _, type := _, pos := _, after := _, guard := _ }) rfl (fun K hK => ?_) (AllReadyH.cons (o := { dst := some 10, op := _, type := _, pos := _, after := _, guard := _ }) rfl (fun K hK => ?_) AllReadyH.nil)
      · go_simp
        refine (toVariant_any _ _ _ _ _).mono ?_
        rintro e wt0 ⟨rfl, hbt0⟩
        have hz_hbt0 := hbt0.size
        replace hbS := chain hbS hbt0
        clear hbt0
        (try go_wp2_with fail)
        refine hK.out _ _ ⟨(BV.below hbS).four.1, (BV.below hbS).four.2.1, (BV.below hbS).four.2.2.1, (BV.below hbS).four.2.2.2.1, (BG.below hbS).nine.1, (BG.below hbS).nine.2.1, (BG.below hbS).nine.2.2.1, (BG.below hbS).nine.2.2.2.1, (BG.below hbS).nine.2.2.2.2.1, (BG.below hbS).nine.2.2.2.2.2.1, (BG.below hbS).nine.2.2.2.2.2.2.1, (BG.below hbS).nine.2.2.2.2.2.2.2.1, (BG.below hbS).nine.2.2.2.2.2.2.2.2.1⟩ (fun hHeld => ?_)
        clear hK K
        try simp only [Act.put, List.setIfInBounds_toArray, List.set_cons_zero, List.set_cons_succ]
        refine wpAnyH_ready (rs := [3, 10]) (by kernel_rfl) (by simp) ?_
        refine AllReadyH.cons (o := { dst := some 29, op := _, type := _, pos := _, after := _, guard := _ }) rfl (fun K hK => ?_) (AllReadyH.cons (o := { dst := some 10, op := _, type := _, pos := _, after := _, guard := _ }) rfl (fun K hK => ?_) AllReadyH.nil)
        · go_simp
          refine (toGame_any G a1 a2 c1 c2 _ l1 l2 (r1.below hbS) (r2.below hbS)).mono ?_
          rintro e wt1 ⟨q1, q2, rfl, gg1, gg2, R1, R2, hbt1⟩
          have hz_hbt1 := hbt1.size
          replace hbS := chain hbS hbt1
          clear hbt1
          (try go_wp2_with fail)
          refine hK.out _ _ ⟨(BV.below hbS).four.1, (BV.below hbS).four.2.1, (BV.below hbS).four.2.2.1, (BV.below hbS).four.2.2.2.1, (BG.below hbS).nine.1, (BG.below hbS).nine.2.1, (BG.below hbS).nine.2.2.1, (BG.below hbS).nine.2.2.2.1, (BG.below hbS).nine.2.2.2.2.1, (BG.below hbS).nine.2.2.2.2.2.1, (BG.below hbS).nine.2.2.2.2.2.2.1, (BG.below hbS).nine.2.2.2.2.2.2.2.1, (BG.below hbS).nine.2.2.2.2.2.2.2.2.1⟩ (fun hHeld => ?_)
          clear hK K
          try simp only [Act.put, List.setIfInBounds_toArray, List.set_cons_zero, List.set_cons_succ]
          refine wpAnyH_ready (rs := [6, 10]) (by kernel_rfl) (by simp) ?_
          refine AllReadyH.cons (o := { dst := some 32, op := _, type := _, pos := _, after := _, guard := _ }) rfl (fun K hK => ?_) (AllReadyH.cons (o := { dst := some 10, op := _, type := _, pos := _, after := _, guard := _ }) rfl (fun K hK => ?_) AllReadyH.nil)
          · go_simp
            refine (HSP.out _ _ _ _ _ R1.irow R2.irow).mono ?_
            rintro e wt2 ⟨d1, d2, k1, k2, rfl, hO, hbt2⟩
            replace R1 := R1.below hbt2
            replace R2 := R2.below hbt2
            have hz_hbt2 := hbt2.size
            replace hbS := chain hbS hbt2
            clear hbt2
            (try go_wp2_with fail)
            refine hK.out _ _ ⟨(BV.below hbS).four.1, (BV.below hbS).four.2.1, (BV.below hbS).four.2.2.1, (BV.below hbS).four.2.2.2.1, (BG.below hbS).nine.1, (BG.below hbS).nine.2.1, (BG.below hbS).nine.2.2.1, (BG.below hbS).nine.2.2.2.1, (BG.below hbS).nine.2.2.2.2.1, (BG.below hbS).nine.2.2.2.2.2.1, (BG.below hbS).nine.2.2.2.2.2.2.1, (BG.below hbS).nine.2.2.2.2.2.2.2.1, (BG.below hbS).nine.2.2.2.2.2.2.2.2.1⟩ (fun hHeld => ?_)
            clear hK K
            try simp only [Act.put, List.setIfInBounds_toArray, List.set_cons_zero, List.set_cons_succ]
            refine wpAnyH_take (i := 7) (oi := { dst := some 25, op := _, type := _, pos := _, after := _, guard := _ }) (v := ?_) rfl (by kernel_rfl) (by kernel_rfl) (by kernel_rfl) (fun _ _ _ h => absurd h.1 (by simp)) (Or.inl ⟨by rfl, ?_⟩) (by assumption) ?_
            rotate_left
            · intro w hSw
              (try dsimp only at hSw)
              go_simp
              (try (with_reducible rfl))
            try simp only [Act.put, List.setIfInBounds_toArray, List.set_cons_zero, List.set_cons_succ]
            refine wpAnyH_take (i := 8) (oi := { dst := some 33, op := _, type := _, pos := _, after := _, guard := _ }) (v := ?_) rfl (by kernel_rfl) (by kernel_rfl) (by kernel_rfl) (fun _ _ _ h => absurd h.1 (by simp)) (Or.inl ⟨by rfl, ?_⟩) (by assumption) ?_
            rotate_left
            · intro w hSw
              (try dsimp only at hSw)
              go_simp
              (try (with_reducible rfl))
            try simp only [Act.put, List.setIfInBounds_toArray, List.set_cons_zero, List.set_cons_succ]
            refine wpAnyH_take (i := 9) (oi := { dst := some 34, op := _, type := _, pos := _, after := _, guard := _ }) (v := ?_) rfl (by kernel_rfl) (by kernel_rfl) (by kernel_rfl) (fun _ _ _ h => absurd h.1 (by simp)) (Or.inl ⟨by rfl, ?_⟩) (by assumption) ?_
            rotate_left
            · intro w hSw
              (try dsimp only at hSw)
              go_simp
              (try (with_reducible rfl))
            try simp only [Act.put, List.setIfInBounds_toArray, List.set_cons_zero, List.set_cons_succ]
            refine wpAnyH_ready (rs := [10]) (by kernel_rfl) (by simp) ?_
            refine AllReadyH.cons (o := { dst := some 10, op := _, type := _, pos := _, after := _, guard := _ }) rfl (fun K hK => ?_) AllReadyH.nil
            go_simp
            refine hK.out _ _ ⟨(BV.below (hbS.alloc hbS.size _)).four.1, (BV.below (hbS.alloc hbS.size _)).four.2.1, (BV.below (hbS.alloc hbS.size _)).four.2.2.1, (BV.below (hbS.alloc hbS.size _)).four.2.2.2.1, (BG.below (hbS.alloc hbS.size _)).nine.1, (BG.below (hbS.alloc hbS.size _)).nine.2.1, (BG.below (hbS.alloc hbS.size _)).nine.2.2.1, (BG.below (hbS.alloc hbS.size _)).nine.2.2.2.1, (BG.below (hbS.alloc hbS.size _)).nine.2.2.2.2.1, (BG.below (hbS.alloc hbS.size _)).nine.2.2.2.2.2.1, (BG.below (hbS.alloc hbS.size _)).nine.2.2.2.2.2.2.1, (BG.below (hbS.alloc hbS.size _)).nine.2.2.2.2.2.2.2.1, (BG.below (hbS.alloc hbS.size _)).nine.2.2.2.2.2.2.2.2.1⟩ (fun hHeld => ?_)
            clear hK K
            try simp only [Act.put, List.setIfInBounds_toArray, List.set_cons_zero, List.set_cons_succ]
            have BA := Blk.new wt2 #[.slice none 0 0, .slice none 0 0, .int .i64 0, .int .i64 0, .int .i64 0, .int .i64 0, .int .i64 0, .int .i64 0, .int .i64 0] 70
            have hal : Below wt2.heap.size wt2 (wt2.alloc (.cells #[.slice none 0 0, .slice none 0 0, .int .i64 0, .int .i64 0, .int .i64 0, .int .i64 0, .int .i64 0, .int .i64 0, .int .i64 0] 70)) := (Below.refl _ _).alloc (Nat.le_refl _) _
            have hlN : wt2.heap.size + 1 ≤ (wt2.alloc (.cells #[.slice none 0 0, .slice none 0 0, .int .i64 0, .int .i64 0, .int .i64 0, .int .i64 0, .int .i64 0, .int .i64 0, .int .i64 0] 70)).heap.size ∧ (wt2.alloc (.cells #[.slice none 0 0, .slice none 0 0, .int .i64 0, .int .i64 0, .int .i64 0, .int .i64 0, .int .i64 0, .int .i64 0, .int .i64 0] 70)).heap.size ≤ wt2.heap.size + 1 := by simp
            have hzS := hbS.size
            replace R1 := R1.below hal
            replace R2 := R2.below hal
            replace hO := hO.below hal
            replace hbS := chain hbS hal
            clear hal
            generalize wt2.alloc (.cells #[.slice none 0 0, .slice none 0 0, .int .i64 0, .int .i64 0, .int .i64 0, .int .i64 0, .int .i64 0, .int .i64 0, .int .i64 0] 70) = wN at *
            refine wpAnyH_ready (rs := [11]) (by kernel_rfl) (by simp) ?_
            refine AllReadyH.cons (o := { dst := none, op := _, type := _, pos := _, after := _, guard := _ }) rfl (fun K hK => ?_) AllReadyH.nil
            obtain ⟨go0, go1, go2, go3, go4, go5, go6, go7, go8, gof, gol⟩ := BA.nine
            go_simp
            (try go_wp2_with fail)
            refine hK.out _ _ ⟨(BV.below (below9s BA hbS (by omega))).four.1, (BV.below (below9s BA hbS (by omega))).four.2.1, (BV.below (below9s BA hbS (by omega))).four.2.2.1, (BV.below (below9s BA hbS (by omega))).four.2.2.2.1, (BG.below (below9s BA hbS (by omega))).nine.1, (BG.below (below9s BA hbS (by omega))).nine.2.1, (BG.below (below9s BA hbS (by omega))).nine.2.2.1, (BG.below (below9s BA hbS (by omega))).nine.2.2.2.1, (BG.below (below9s BA hbS (by omega))).nine.2.2.2.2.1, (BG.below (below9s BA hbS (by omega))).nine.2.2.2.2.2.1, (BG.below (below9s BA hbS (by omega))).nine.2.2.2.2.2.2.1, (BG.below (below9s BA hbS (by omega))).nine.2.2.2.2.2.2.2.1, (BG.below (below9s BA hbS (by omega))).nine.2.2.2.2.2.2.2.2.1⟩ (fun hHeld => ?_)
            clear hK K
            try simp only [Act.put, List.setIfInBounds_toArray, List.set_cons_zero, List.set_cons_succ]
            refine wpAnyH_take (i := 12) (oi := { dst := some 11, op := _, type := _, pos := _, after := _, guard := _ }) (v := ?_) rfl (by kernel_rfl) (by kernel_rfl) (by kernel_rfl) (fun _ _ _ h => absurd h.1 (by simp)) (Or.inl ⟨by rfl, ?_⟩) (by assumption) ?_
            rotate_left
            · intro w hSw
              (try dsimp only at hSw)
              go_simp
              (try (with_reducible rfl))
            try simp only [Act.put, List.setIfInBounds_toArray, List.set_cons_zero, List.set_cons_succ]
            refine wpAnyH_done (by kernel_rfl) ?_ _
            rw [HJ.out]
            refine ⟨rfl, _, d1, d2, k1, k2, _, _, q1, q2, ?_, BA.setG9 _ _ _ _ _ _ _ _ _, hO.farG9 ?_ _ _ _ _ _ _ _ _ _, ⟨?_, ?_, ?_, ?_⟩, below9s BA hbS (by omega)⟩
            · simp only [Act.put, List.setIfInBounds_toArray, List.set_cons_zero, List.set_cons_succ]
            all_goals (first | omega | (simp <;> omega))
          · go_simp
            refine hK.out _ _ ⟨(BV.below (hbS.alloc hbS.size _)).four.1, (BV.below (hbS.alloc hbS.size _)).four.2.1, (BV.below (hbS.alloc hbS.size _)).four.2.2.1, (BV.below (hbS.alloc hbS.size _)).four.2.2.2.1, (BG.below (hbS.alloc hbS.size _)).nine.1, (BG.below (hbS.alloc hbS.size _)).nine.2.1, (BG.below (hbS.alloc hbS.size _)).nine.2.2.1, (BG.below (hbS.alloc hbS.size _)).nine.2.2.2.1, (BG.below (hbS.alloc hbS.size _)).nine.2.2.2.2.1, (BG.below (hbS.alloc hbS.size _)).nine.2.2.2.2.2.1, (BG.below (hbS.alloc hbS.size _)).nine.2.2.2.2.2.2.1, (BG.below (hbS.alloc hbS.size _)).nine.2.2.2.2.2.2.2.1, (BG.below (hbS.alloc hbS.size _)).nine.2.2.2.2.2.2.2.2.1⟩ (fun hHeld => ?_)
            clear hK K
            try simp only [Act.put, List.setIfInBounds_toArray, List.set_cons_zero, List.set_cons_succ]
            have BA := Blk.new wt1 #[.slice none 0 0, .slice none 0 0, .int .i64 0, .int .i64 0, .int .i64 0, .int .i64 0, .int .i64 0, .int .i64 0, .int .i64 0] 70
            have hal : Below wt1.heap.size wt1 (wt1.alloc (.cells #[.slice none 0 0, .slice none 0 0, .int .i64 0, .int .i64 0, .int .i64 0, .int .i64 0, .int .i64 0, .int .i64 0, .int .i64 0] 70)) := (Below.refl _ _).alloc (Nat.le_refl _) _
            have hlN : wt1.heap.size + 1 ≤ (wt1.alloc (.cells #[.slice none 0 0, .slice none 0 0, .int .i64 0, .int .i64 0, .int .i64 0, .int .i64 0, .int .i64 0, .int .i64 0, .int .i64 0] 70)).heap.size ∧ (wt1.alloc (.cells #[.slice none 0 0, .slice none 0 0, .int .i64 0, .int .i64 0, .int .i64 0, .int .i64 0, .int .i64 0, .int .i64 0, .int .i64 0] 70)).heap.size ≤ wt1.heap.size + 1 := by simp
            have hzS := hbS.size
            replace R1 := R1.below hal
            replace R2 := R2.below hal
            replace hbS := chain hbS hal
            clear hal
            generalize wt1.alloc (.cells #[.slice none 0 0, .slice none 0 0, .int .i64 0, .int .i64 0, .int .i64 0, .int .i64 0, .int .i64 0, .int .i64 0, .int .i64 0] 70) = wN at *
            refine wpAnyH_ready (rs := [6]) (by kernel_rfl) (by simp) ?_
            refine AllReadyH.cons (o := { dst := some 32, op := _, type := _, pos := _, after := _, guard := _ }) rfl (fun K hK => ?_) AllReadyH.nil
            go_simp
            refine (HSP.out _ _ _ _ _ R1.irow R2.irow).mono ?_
            rintro e wt2 ⟨d1, d2, k1, k2, rfl, hO, hbt2⟩
            replace R1 := R1.below hbt2
            replace R2 := R2.below hbt2
            replace BA := BA.below hbt2
            have hz_hbt2 := hbt2.size
            replace hbS := chain hbS hbt2
            clear hbt2
            (try go_wp2_with fail)
            refine hK.out _ _ ⟨(BV.below hbS).four.1, (BV.below hbS).four.2.1, (BV.below hbS).four.2.2.1, (BV.below hbS).four.2.2.2.1, (BG.below hbS).nine.1, (BG.below hbS).nine.2.1, (BG.below hbS).nine.2.2.1, (BG.below hbS).nine.2.2.2.1, (BG.below hbS).nine.2.2.2.2.1, (BG.below hbS).nine.2.2.2.2.2.1, (BG.below hbS).nine.2.2.2.2.2.2.1, (BG.below hbS).nine.2.2.2.2.2.2.2.1, (BG.below hbS).nine.2.2.2.2.2.2.2.2.1⟩ (fun hHeld => ?_)
            clear hK K
            try simp only [Act.put, List.setIfInBounds_toArray, List.set_cons_zero, List.set_cons_succ]
            refine wpAnyH_take (i := 7) (oi := { dst := some 25, op := _, type := _, pos := _, after := _, guard := _ }) (v := ?_) rfl (by kernel_rfl) (by kernel_rfl) (by kernel_rfl) (fun _ _ _ h => absurd h.1 (by simp)) (Or.inl ⟨by rfl, ?_⟩) (by assumption) ?_
            rotate_left
            · intro w hSw
              (try dsimp only at hSw)
              go_simp
              (try (with_reducible rfl))
            try simp only [Act.put, List.setIfInBounds_toArray, List.set_cons_zero, List.set_cons_succ]
            refine wpAnyH_take (i := 8) (oi := { dst := some 33, op := _, type := _, pos := _, after := _, guard := _ }) (v := ?_) rfl (by kernel_rfl) (by kernel_rfl) (by kernel_rfl) (fun _ _ _ h => absurd h.1 (by simp)) (Or.inl ⟨by rfl, ?_⟩) (by assumption) ?_
            rotate_left
            · intro w hSw
              (try dsimp only at hSw)
              go_simp
              (try (with_reducible rfl))
            try simp only [Act.put, List.setIfInBounds_toArray, List.set_cons_zero, List.set_cons_succ]
            refine wpAnyH_take (i := 9) (oi := { dst := some 34, op := _, type := _, pos := _, after := _, guard := _ }) (v := ?_) rfl (by kernel_rfl) (by kernel_rfl) (by kernel_rfl) (fun _ _ _ h => absurd h.1 (by simp)) (Or.inl ⟨by rfl, ?_⟩) (by assumption) ?_
            rotate_left
            · intro w hSw
              (try dsimp only at hSw)
              go_simp
              (try (with_reducible rfl))
            try simp only [Act.put, List.setIfInBounds_toArray, List.set_cons_zero, List.set_cons_succ]
            refine wpAnyH_ready (rs := [11]) (by kernel_rfl) (by simp) ?_
            refine AllReadyH.cons (o := { dst := none, op := _, type := _, pos := _, after := _, guard := _ }) rfl (fun K hK => ?_) AllReadyH.nil
            obtain ⟨go0, go1, go2, go3, go4, go5, go6, go7, go8, gof, gol⟩ := BA.nine
            go_simp
            (try go_wp2_with fail)
            refine hK.out _ _ ⟨(BV.below (below9s BA hbS (by omega))).four.1, (BV.below (below9s BA hbS (by omega))).four.2.1, (BV.below (below9s BA hbS (by omega))).four.2.2.1, (BV.below (below9s BA hbS (by omega))).four.2.2.2.1, (BG.below (below9s BA hbS (by omega))).nine.1, (BG.below (below9s BA hbS (by omega))).nine.2.1, (BG.below (below9s BA hbS (by omega))).nine.2.2.1, (BG.below (below9s BA hbS (by omega))).nine.2.2.2.1, (BG.below (below9s BA hbS (by omega))).nine.2.2.2.2.1, (BG.below (below9s BA hbS (by omega))).nine.2.2.2.2.2.1, (BG.below (below9s BA hbS (by omega))).nine.2.2.2.2.2.2.1, (BG.below (below9s BA hbS (by omega))).nine.2.2.2.2.2.2.2.1, (BG.below (below9s BA hbS (by omega))).nine.2.2.2.2.2.2.2.2.1⟩ (fun hHeld => ?_)
            clear hK K
            try simp only [Act.put, List.setIfInBounds_toArray, List.set_cons_zero, List.set_cons_succ]
            refine wpAnyH_take (i := 12) (oi := { dst := some 11, op := _, type := _, pos := _, after := _, guard := _ }) (v := ?_) rfl (by kernel_rfl) (by kernel_rfl) (by kernel_rfl) (fun _ _ _ h => absurd h.1 (by simp)) (Or.inl ⟨by rfl, ?_⟩) (by assumption) ?_
            rotate_left
            · intro w hSw
              (try dsimp only at hSw)
              go_simp
              (try (with_reducible rfl))
            try simp only [Act.put, List.setIfInBounds_toArray, List.set_cons_zero, List.set_cons_succ]
            refine wpAnyH_done (by kernel_rfl) ?_ _
            rw [HJ.out]
            refine ⟨rfl, _, d1, d2, k1, k2, _, _, q1, q2, ?_, BA.setG9 _ _ _ _ _ _ _ _ _, hO.farG9 ?_ _ _ _ _ _ _ _ _ _, ⟨?_, ?_, ?_, ?_⟩, below9s BA hbS (by omega)⟩
            · simp only [Act.put, List.setIfInBounds_toArray, List.set_cons_zero, List.set_cons_succ]
            all_goals (first | omega | (simp <;> omega))
        · go_simp
          refine hK.out _ _ ⟨(BV.below (hbS.alloc hbS.size _)).four.1, (BV.below (hbS.alloc hbS.size _)).four.2.1, (BV.below (hbS.alloc hbS.size _)).four.2.2.1, (BV.below (hbS.alloc hbS.size _)).four.2.2.2.1, (BG.below (hbS.alloc hbS.size _)).nine.1, (BG.below (hbS.alloc hbS.size _)).nine.2.1, (BG.below (hbS.alloc hbS.size _)).nine.2.2.1, (BG.below (hbS.alloc hbS.size _)).nine.2.2.2.1, (BG.below (hbS.alloc hbS.size _)).nine.2.2.2.2.1, (BG.below (hbS.alloc hbS.size _)).nine.2.2.2.2.2.1, (BG.below (hbS.alloc hbS.size _)).nine.2.2.2.2.2.2.1, (BG.below (hbS.alloc hbS.size _)).nine.2.2.2.2.2.2.2.1, (BG.below (hbS.alloc hbS.size _)).nine.2.2.2.2.2.2.2.2.1⟩ (fun hHeld => ?_)
          clear hK K
          try simp only [Act.put, List.setIfInBounds_toArray, List.set_cons_zero, List.set_cons_succ]
          have BA := Blk.new wt0 #[.slice none 0 0, .slice none 0 0, .int .i64 0, .int .i64 0, .int .i64 0, .int .i64 0, .int .i64 0, .int .i64 0, .int .i64 0] 70
          have hal : Below wt0.heap.size wt0 (wt0.alloc (.cells #[.slice none 0 0, .slice none 0 0, .int .i64 0, .int .i64 0, .int .i64 0, .int .i64 0, .int .i64 0, .int .i64 0, .int .i64 0] 70)) := (Below.refl _ _).alloc (Nat.le_refl _) _
          have hlN : wt0.heap.size + 1 ≤ (wt0.alloc (.cells #[.slice none 0 0, .slice none 0 0, .int .i64 0, .int .i64 0, .int .i64 0, .int .i64 0, .int .i64 0, .int .i64 0, .int .i64 0] 70)).heap.size ∧ (wt0.alloc (.cells #[.slice none 0 0, .slice none 0 0, .int .i64 0, .int .i64 0, .int .i64 0, .int .i64 0, .int .i64 0, .int .i64 0, .int .i64 0] 70)).heap.size ≤ wt0.heap.size + 1 := by simp
          have hzS := hbS.size
          replace hbS := chain hbS hal
          clear hal
          generalize wt0.alloc (.cells #[.slice none 0 0, .slice none 0 0, .int .i64 0, .int .i64 0, .int .i64 0, .int .i64 0, .int .i64 0, .int .i64 0, .int .i64 0] 70) = wN at *
          refine wpAnyH_ready (rs := [3]) (by kernel_rfl) (by simp) ?_
          refine AllReadyH.cons (o := { dst := some 29, op := _, type := _, pos := _, after := _, guard := _ }) rfl (fun K hK => ?_) AllReadyH.nil
          go_simp
          refine (toGame_any G a1 a2 c1 c2 _ l1 l2 (r1.below hbS) (r2.below hbS)).mono ?_
          rintro e wt1 ⟨q1, q2, rfl, gg1, gg2, R1, R2, hbt1⟩
          replace BA := BA.below hbt1
          have hz_hbt1 := hbt1.size
          replace hbS := chain hbS hbt1
          clear hbt1
          (try go_wp2_with fail)
          refine hK.out _ _ ⟨(BV.below hbS).four.1, (BV.below hbS).four.2.1, (BV.below hbS).four.2.2.1, (BV.below hbS).four.2.2.2.1, (BG.below hbS).nine.1, (BG.below hbS).nine.2.1, (BG.below hbS).nine.2.2.1, (BG.below hbS).nine.2.2.2.1, (BG.below hbS).nine.2.2.2.2.1, (BG.below hbS).nine.2.2.2.2.2.1, (BG.below hbS).nine.2.2.2.2.2.2.1, (BG.below hbS).nine.2.2.2.2.2.2.2.1, (BG.below hbS).nine.2.2.2.2.2.2.2.2.1⟩ (fun hHeld => ?_)
          clear hK K
          try simp only [Act.put, List.setIfInBounds_toArray, List.set_cons_zero, List.set_cons_succ]
          refine wpAnyH_ready (rs := [6]) (by kernel_rfl) (by simp) ?_
          refine AllReadyH.cons (o := { dst := some 32, op := _, type := _, pos := _, after := _, guard := _ }) rfl (fun K hK => ?_) AllReadyH.nil
          go_simp
          refine (HSP.out _ _ _ _ _ R1.irow R2.irow).mono ?_
          rintro e wt2 ⟨d1, d2, k1, k2, rfl, hO, hbt2⟩
          replace R1 := R1.below hbt2
          replace R2 := R2.below hbt2
          replace BA := BA.below hbt2
          have hz_hbt2 := hbt2.size
          replace hbS := chain hbS hbt2
          clear hbt2
          (try go_wp2_with fail)
          refine hK.out _ _ ⟨(BV.below hbS).four.1, (BV.below hbS).four.2.1, (BV.below hbS).four.2.2.1, (BV.below hbS).four.2.2.2.1, (BG.below hbS).nine.1, (BG.below hbS).nine.2.1, (BG.below hbS).nine.2.2.1, (BG.below hbS).nine.2.2.2.1, (BG.below hbS).nine.2.2.2.2.1, (BG.below hbS).nine.2.2.2.2.2.1, (BG.below hbS).nine.2.2.2.2.2.2.1, (BG.below hbS).nine.2.2.2.2.2.2.2.1, (BG.below hbS).nine.2.2.2.2.2.2.2.2.1⟩ (fun hHeld => ?_)
          clear hK K
          try simp only [Act.put, List.setIfInBounds_toArray, List.set_cons_zero, List.set_cons_succ]
          refine wpAnyH_take (i := 7) (oi := { dst := some 25, op := _, type := _, pos := _, after := _, guard := _ }) (v := ?_) rfl (by kernel_rfl) (by kernel_rfl) (by kernel_rfl) (fun _ _ _ h => absurd h.1 (by simp)) (Or.inl ⟨by rfl, ?_⟩) (by assumption) ?_
          rotate_left
          · intro w hSw
            (try dsimp only at hSw)
            go_simp
            (try (with_reducible rfl))
          try simp only [Act.put, List.setIfInBounds_toArray, List.set_cons_zero, List.set_cons_succ]
          refine wpAnyH_take (i := 8) (oi := { dst := some 33, op := _, type := _, pos := _, after := _, guard := _ }) (v := ?_) rfl (by kernel_rfl) (by kernel_rfl) (by kernel_rfl) (fun _ _ _ h => absurd h.1 (by simp)) (Or.inl ⟨by rfl, ?_⟩) (by assumption) ?_
          rotate_left
          · intro w hSw
            (try dsimp only at hSw)
            go_simp
            (try (with_reducible rfl))
          try simp only [Act.put, List.setIfInBounds_toArray, List.set_cons_zero, List.set_cons_succ]
          refine wpAnyH_take (i := 9) (oi := { dst := some 34, op := _, type := _, pos := _, after := _, guard := _ }) (v := ?_) rfl (by kernel_rfl) (by kernel_rfl) (by kernel_rfl) (fun _ _ _ h => absurd h.1 (by simp)) (Or.inl ⟨by rfl, ?_⟩) (by assumption) ?_
          rotate_left
          · intro w hSw
            (try dsimp only at hSw)
            go_simp
            (try (with_reducible rfl))
          try simp only [Act.put, List.setIfInBounds_toArray, List.set_cons_zero, List.set_cons_succ]
          refine wpAnyH_ready (rs := [11]) (by kernel_rfl) (by simp) ?_
          refine AllReadyH.cons (o := { dst := none, op := _, type := _, pos := _, after := _, guard := _ }) rfl (fun K hK => ?_) AllReadyH.nil
          obtain ⟨go0, go1, go2, go3, go4, go5, go6, go7, go8, gof, gol⟩ := BA.nine
          go_simp
          (try go_wp2_with fail)
          refine hK.out _ _ ⟨(BV.below (below9s BA hbS (by omega))).four.1, (BV.below (below9s BA hbS (by omega))).four.2.1, (BV.below (below9s BA hbS (by omega))).four.2.2.1, (BV.below (below9s BA hbS (by omega))).four.2.2.2.1, (BG.below (below9s BA hbS (by omega))).nine.1, (BG.below (below9s BA hbS (by omega))).nine.2.1, (BG.below (below9s BA hbS (by omega))).nine.2.2.1, (BG.below (below9s BA hbS (by omega))).nine.2.2.2.1, (BG.below (below9s BA hbS (by omega))).nine.2.2.2.2.1, (BG.below (below9s BA hbS (by omega))).nine.2.2.2.2.2.1, (BG.below (below9s BA hbS (by omega))).nine.2.2.2.2.2.2.1, (BG.below (below9s BA hbS (by omega))).nine.2.2.2.2.2.2.2.1, (BG.below (below9s BA hbS (by omega))).nine.2.2.2.2.2.2.2.2.1⟩ (fun hHeld => ?_)
          clear hK K
          try simp only [Act.put, List.setIfInBounds_toArray, List.set_cons_zero, List.set_cons_succ]
          refine wpAnyH_take (i := 12) (oi := { dst := some 11, op := _, type := _, pos := _, after := _, guard := _ }) (v := ?_) rfl (by kernel_rfl) (by kernel_rfl) (by kernel_rfl) (fun _ _ _ h => absurd h.1 (by simp)) (Or.inl ⟨by rfl, ?_⟩) (by assumption) ?_
          rotate_left
          · intro w hSw
            (try dsimp only at hSw)
            go_simp
            (try (with_reducible rfl))
          try simp only [Act.put, List.setIfInBounds_toArray, List.set_cons_zero, List.set_cons_succ]
          refine wpAnyH_done (by kernel_rfl) ?_ _
          rw [HJ.out]
          refine ⟨rfl, _, d1, d2, k1, k2, _, _, q1, q2, ?_, BA.setG9 _ _ _ _ _ _ _ _ _, hO.farG9 ?_ _ _ _ _ _ _ _ _ _, ⟨?_, ?_, ?_, ?_⟩, below9s BA hbS (by omega)⟩
          · simp only [Act.put, List.setIfInBounds_toArray, List.set_cons_zero, List.set_cons_succ]
          all_goals (first | omega | (simp <;> omega))
      · go_simp
        refine hK.out _ _ ⟨(BV.below (hbS.alloc hbS.size _)).four.1, (BV.below (hbS.alloc hbS.size _)).four.2.1, (BV.below (hbS.alloc hbS.size _)).four.2.2.1, (BV.below (hbS.alloc hbS.size _)).four.2.2.2.1, (BG.below (hbS.alloc hbS.size _)).nine.1, (BG.below (hbS.alloc hbS.size _)).nine.2.1, (BG.below (hbS.alloc hbS.size _)).nine.2.2.1, (BG.below (hbS.alloc hbS.size _)).nine.2.2.2.1, (BG.below (hbS.alloc hbS.size _)).nine.2.2.2.2.1, (BG.below (hbS.alloc hbS.size _)).nine.2.2.2.2.2.1, (BG.below (hbS.alloc hbS.size _)).nine.2.2.2.2.2.2.1, (BG.below (hbS.alloc hbS.size _)).nine.2.2.2.2.2.2.2.1, (BG.below (hbS.alloc hbS.size _)).nine.2.2.2.2.2.2.2.2.1⟩ (fun hHeld => ?_)
        clear hK K
        try simp only [Act.put, List.setIfInBounds_toArray, List.set_cons_zero, List.set_cons_succ]
        have BA := Blk.new vd #[.slice none 0 0, .slice none 0 0, .int .i64 0, .int .i64 0, .int .i64 0, .int .i64 0, .int .i64 0, .int .i64 0, .int .i64 0] 70
        have hal : Below vd.heap.size vd (vd.alloc (.cells #[.slice none 0 0, .slice none 0 0, .int .i64 0, .int .i64 0, .int .i64 0, .int .i64 0, .int .i64 0, .int .i64 0, .int .i64 0] 70)) := (Below.refl _ _).alloc (Nat.le_refl _) _
        have hlN : vd.heap.size + 1 ≤ (vd.alloc (.cells #[.slice none 0 0, .slice none 0 0, .int .i64 0, .int .i64 0, .int .i64 0, .int .i64 0, .int .i64 0, .int .i64 0, .int .i64 0] 70)).heap.size ∧ (vd.alloc (.cells #[.slice none 0 0, .slice none 0 0, .int .i64 0, .int .i64 0, .int .i64 0, .int .i64 0, .int .i64 0, .int .i64 0, .int .i64 0] 70)).heap.size ≤ vd.heap.size + 1 := by simp
        have hzS := hbS.size
        replace hbS := chain hbS hal
        clear hal
        generalize vd.alloc (.cells #[.slice none 0 0, .slice none 0 0, .int .i64 0, .int .i64 0, .int .i64 0, .int .i64 0, .int .i64 0, .int .i64 0, .int .i64 0] 70) = wN at *
        refine wpAnyH_ready (rs := [1]) (by kernel_rfl) (by simp) ?_
        refine AllReadyH.cons (o := { dst := some 27, op := _, type := _, pos := _, after := _, guard := _ }) rfl (fun K hK => ?_) AllReadyH.nil
        go_simp
        refine (toVariant_any _ _ _ _ _).mono ?_
        rintro e wt0 ⟨rfl, hbt0⟩
        replace BA := BA.below hbt0
        have hz_hbt0 := hbt0.size
        replace hbS := chain hbS hbt0
        clear hbt0
        (try go_wp2_with fail)
        refine hK.out _ _ ⟨(BV.below hbS).four.1, (BV.below hbS).four.2.1, (BV.below hbS).four.2.2.1, (BV.below hbS).four.2.2.2.1, (BG.below hbS).nine.1, (BG.below hbS).nine.2.1, (BG.below hbS).nine.2.2.1, (BG.below hbS).nine.2.2.2.1, (BG.below hbS).nine.2.2.2.2.1, (BG.below hbS).nine.2.2.2.2.2.1, (BG.below hbS).nine.2.2.2.2.2.2.1, (BG.below hbS).nine.2.2.2.2.2.2.2.1, (BG.below hbS).nine.2.2.2.2.2.2.2.2.1⟩ (fun hHeld => ?_)
        clear hK K
        try simp only [Act.put, List.setIfInBounds_toArray, List.set_cons_zero, List.set_cons_succ]
        refine wpAnyH_ready (rs := [3]) (by kernel_rfl) (by simp) ?_
        refine AllReadyH.cons (o := { dst := some 29, op := _, type := _, pos := _, after := _, guard := _ }) rfl (fun K hK => ?_) AllReadyH.nil
        go_simp
        refine (toGame_any G a1 a2 c1 c2 _ l1 l2 (r1.below hbS) (r2.below hbS)).mono ?_
        rintro e wt1 ⟨q1, q2, rfl, gg1, gg2, R1, R2, hbt1⟩
        replace BA := BA.below hbt1
        have hz_hbt1 := hbt1.size
        replace hbS := chain hbS hbt1
        clear hbt1
        (try go_wp2_with fail)
        refine hK.out _ _ ⟨(BV.below hbS).four.1, (BV.below hbS).four.2.1, (BV.below hbS).four.2.2.1, (BV.below hbS).four.2.2.2.1, (BG.below hbS).nine.1, (BG.below hbS).nine.2.1, (BG.below hbS).nine.2.2.1, (BG.below hbS).nine.2.2.2.1, (BG.below hbS).nine.2.2.2.2.1, (BG.below hbS).nine.2.2.2.2.2.1, (BG.below hbS).nine.2.2.2.2.2.2.1, (BG.below hbS).nine.2.2.2.2.2.2.2.1, (BG.below hbS).nine.2.2.2.2.2.2.2.2.1⟩ (fun hHeld => ?_)
        clear hK K
        try simp only [Act.put, List.setIfInBounds_toArray, List.set_cons_zero, List.set_cons_succ]
        refine wpAnyH_ready (rs := [6]) (by kernel_rfl) (by simp) ?_
        refine AllReadyH.cons (o := { dst := some 32, op := _, type := _, pos := _, after := _, guard := _ }) rfl (fun K hK => ?_) AllReadyH.nil
        go_simp
        refine (HSP.out _ _ _ _ _ R1.irow R2.irow).mono ?_
        rintro e wt2 ⟨d1, d2, k1, k2, rfl, hO, hbt2⟩
        replace R1 := R1.below hbt2
        replace R2 := R2.below hbt2
        replace BA := BA.below hbt2
        have hz_hbt2 := hbt2.size
        replace hbS := chain hbS hbt2
        clear hbt2
        (try go_wp2_with fail)
        refine hK.out _ _ ⟨(BV.below hbS).four.1, (BV.below hbS).four.2.1, (BV.below hbS).four.2.2.1, (BV.below hbS).four.2.2.2.1, (BG.below hbS).nine.1, (BG.below hbS).nine.2.1, (BG.below hbS).nine.2.2.1, (BG.below hbS).nine.2.2.2.1, (BG.below hbS).nine.2.2.2.2.1, (BG.below hbS).nine.2.2.2.2.2.1, (BG.below hbS).nine.2.2.2.2.2.2.1, (BG.below hbS).nine.2.2.2.2.2.2.2.1, (BG.below hbS).nine.2.2.2.2.2.2.2.2.1⟩ (fun hHeld => ?_)
        clear hK K
        try simp only [Act.put, List.setIfInBounds_toArray, List.set_cons_zero, List.set_cons_succ]
        refine wpAnyH_take (i := 7) (oi := { dst := some 25, op := _, type := _, pos := _, after := _, guard := _ }) (v := ?_) rfl (by kernel_rfl) (by kernel_rfl) (by kernel_rfl) (fun _ _ _ h => absurd h.1 (by simp)) (Or.inl ⟨by rfl, ?_⟩) (by assumption) ?_
        rotate_left
        · intro w hSw
          (try dsimp only at hSw)
          go_simp
          (try (with_reducible rfl))
        try simp only [Act.put, List.setIfInBounds_toArray, List.set_cons_zero, List.set_cons_succ]
        refine wpAnyH_take (i := 8) (oi := { dst := some 33, op := _, type := _, pos := _, after := _, guard := _ }) (v := ?_) rfl (by kernel_rfl) (by kernel_rfl) (by kernel_rfl) (fun _ _ _ h => absurd h.1 (by simp)) (Or.inl ⟨by rfl, ?_⟩) (by assumption) ?_
        rotate_left
        · intro w hSw
          (try dsimp only at hSw)
          go_simp
          (try (with_reducible rfl))
        try simp only [Act.put, List.setIfInBounds_toArray, List.set_cons_zero, List.set_cons_succ]
        refine wpAnyH_take (i := 9) (oi := { dst := some 34, op := _, type := _, pos := _, after := _, guard := _ }) (v := ?_) rfl (by kernel_rfl) (by kernel_rfl) (by kernel_rfl) (fun _ _ _ h => absurd h.1 (by simp)) (Or.inl ⟨by rfl, ?_⟩) (by assumption) ?_
        rotate_left
        · intro w hSw
          (try dsimp only at hSw)
          go_simp
          (try (with_reducible rfl))
        try simp only [Act.put, List.setIfInBounds_toArray, List.set_cons_zero, List.set_cons_succ]
        refine wpAnyH_ready (rs := [11]) (by kernel_rfl) (by simp) ?_
        refine AllReadyH.cons (o := { dst := none, op := _, type := _, pos := _, after := _, guard := _ }) rfl (fun K hK => ?_) AllReadyH.nil
        obtain ⟨go0, go1, go2, go3, go4, go5, go6, go7, go8, gof, gol⟩ := BA.nine
        go_simp
        (try go_wp2_with fail)
        refine hK.out _ _ ⟨(BV.below (below9s BA hbS (by omega))).four.1, (BV.below (below9s BA hbS (by omega))).four.2.1, (BV.below (below9s BA hbS (by omega))).four.2.2.1, (BV.below (below9s BA hbS (by omega))).four.2.2.2.1, (BG.below (below9s BA hbS (by omega))).nine.1, (BG.below (below9s BA hbS (by omega))).nine.2.1, (BG.below (below9s BA hbS (by omega))).nine.2.2.1, (BG.below (below9s BA hbS (by omega))).nine.2.2.2.1, (BG.below (below9s BA hbS (by omega))).nine.2.2.2.2.1, (BG.below (below9s BA hbS (by omega))).nine.2.2.2.2.2.1, (BG.below (below9s BA hbS (by omega))).nine.2.2.2.2.2.2.1, (BG.below (below9s BA hbS (by omega))).nine.2.2.2.2.2.2.2.1, (BG.below (below9s BA hbS (by omega))).nine.2.2.2.2.2.2.2.2.1⟩ (fun hHeld => ?_)
        clear hK K
        try simp only [Act.put, List.setIfInBounds_toArray, List.set_cons_zero, List.set_cons_succ]
        refine wpAnyH_take (i := 12) (oi := { dst := some 11, op := _, type := _, pos := _, after := _, guard := _ }) (v := ?_) rfl (by kernel_rfl) (by kernel_rfl) (by kernel_rfl) (fun _ _ _ h => absurd h.1 (by simp)) (Or.inl ⟨by rfl, ?_⟩) (by assumption) ?_
        rotate_left
        · intro w hSw
          (try dsimp only at hSw)
          go_simp
          (try (with_reducible rfl))
        try simp only [Act.put, List.setIfInBounds_toArray, List.set_cons_zero, List.set_cons_succ]
        refine wpAnyH_done (by kernel_rfl) ?_ _
        rw [HJ.out]
        refine ⟨rfl, _, d1, d2, k1, k2, _, _, q1, q2, ?_, BA.setG9 _ _ _ _ _ _ _ _ _, hO.farG9 ?_ _ _ _ _ _ _ _ _ _, ⟨?_, ?_, ?_, ?_⟩, below9s BA hbS (by omega)⟩
        · simp only [Act.put, List.setIfInBounds_toArray, List.set_cons_zero, List.set_cons_succ]
        all_goals (first | omega | (simp <;> omega))
    · intro a' w1 hj
      rw [HJ.out] at hj
      clear HJ
      obtain ⟨BV0, d1V0, d2V0, k1V0, k2V0, loV0, hiV0, q1V0, q2V0, rfl, V0, OV0, ⟨e1V0, e2V0, e3V0, e4V0⟩, hbS⟩ := hj
      try simp only [Act.put, List.setIfInBounds_toArray, List.set_cons_zero, List.set_cons_succ]
      replace BV := BV.below hbS
      replace BG := BG.below hbS
      replace r1 := r1.below hbS
      replace r2 := r2.below hbS
      have hz1 := hbS.size
      replace hb := chain hb hbS
      clear hbS
      have e5V0 := V0.lt
      obtain ⟨q0_BV, q1_BV, q2_BV, q3_BV, qf_BV, ql_BV⟩ := BV.four
      obtain ⟨q0_BG, q1_BG, q2_BG, q3_BG, q4_BG, q5_BG, q6_BG, q7_BG, q8_BG, qf_BG, ql_BG⟩ := BG.nine
      obtain ⟨q0_V0, q1_V0, q2_V0, q3_V0, q4_V0, q5_V0, q6_V0, q7_V0, q8_V0, qf_V0, ql_V0⟩ := V0.nine
      go_wp2_with fail
      clear q0_BV q1_BV q2_BV q3_BV qf_BV ql_BV
      clear q0_BG q1_BG q2_BG q3_BG q4_BG q5_BG q6_BG q7_BG q8_BG qf_BG ql_BG
      clear q0_V0 q1_V0 q2_V0 q3_V0 q4_V0 q5_V0 q6_V0 q7_V0 q8_V0 qf_V0 ql_V0
      refine (toGame_any G a1 a2 c1 c2 _ l1 l2 r1 r2).mono ?_
      rintro e w2 ⟨b1, b2, rfl, gb1, gb2, R1, R2, hb2⟩
      replace BV := BV.below hb2
      replace BG := BG.below hb2
      replace r1 := r1.below hb2
      replace r2 := r2.below hb2
      replace V0 := V0.below hb2
      replace OV0 := OV0.below hb2
      have hz2 := hb2.size
      replace hb := chain hb hb2
      clear hb2
      have OX : OBd w1.heap.size w2.heap.size w2 (some ⟨b1, 0, none⟩) (some ⟨b2, 0, none⟩) G.xs G.ys := .inr ⟨b1, b2, rfl, rfl, by omega, gb1, R1.lt, by omega, R2.lt, R1, R2⟩
      clear R1 R2 gb1 gb2
      have BX := Blk.new w2 #[.slice (some ⟨b1, 0, none⟩) G.xs.length G.xs.length, .slice (some ⟨b2, 0, none⟩) G.ys.length G.ys.length, .int .i64 G.pl, .int .i64 G.ra, .int .i64 G.rb, .int .i64 G.ph, .int .i64 G.wi, .int .i64 G.re, .int .i64 G.tu] 70
      have hal3 : Below w2.heap.size w2 (w2.alloc (.cells #[.slice (some ⟨b1, 0, none⟩) G.xs.length G.xs.length, .slice (some ⟨b2, 0, none⟩) G.ys.length G.ys.length, .int .i64 G.pl, .int .i64 G.ra, .int .i64 G.rb, .int .i64 G.ph, .int .i64 G.wi, .int .i64 G.re, .int .i64 G.tu] 70)) := (Below.refl _ _).alloc (Nat.le_refl _) _
      have hz3 : (w2.alloc (.cells #[.slice (some ⟨b1, 0, none⟩) G.xs.length G.xs.length, .slice (some ⟨b2, 0, none⟩) G.ys.length G.ys.length, .int .i64 G.pl, .int .i64 G.ra, .int .i64 G.rb, .int .i64 G.ph, .int .i64 G.wi, .int .i64 G.re, .int .i64 G.tu] 70)).heap.size = w2.heap.size + 1 := by simp
      replace BV := BV.below hal3
      replace BG := BG.below hal3
      replace r1 := r1.below hal3
      replace r2 := r2.below hal3
      replace V0 := V0.below hal3
      replace OV0 := OV0.below hal3
      replace OX := OX.below hal3
      replace hb := chain hb hal3
      clear hal3
      obtain ⟨q0_BV, q1_BV, q2_BV, q3_BV, qf_BV, ql_BV⟩ := BV.four
      obtain ⟨q0_BG, q1_BG, q2_BG, q3_BG, q4_BG, q5_BG, q6_BG, q7_BG, q8_BG, qf_BG, ql_BG⟩ := BG.nine
      obtain ⟨q0_V0, q1_V0, q2_V0, q3_V0, q4_V0, q5_V0, q6_V0, q7_V0, q8_V0, qf_V0, ql_V0⟩ := V0.nine
      obtain ⟨q0_BX, q1_BX, q2_BX, q3_BX, q4_BX, q5_BX, q6_BX, q7_BX, q8_BX, qf_BX, ql_BX⟩ := BX.nine
      go_wp2_with fail
      clear q0_BV q1_BV q2_BV q3_BV qf_BV ql_BV
      clear q0_BG q1_BG q2_BG q3_BG q4_BG q5_BG q6_BG q7_BG q8_BG qf_BG ql_BG
      clear q0_V0 q1_V0 q2_V0 q3_V0 q4_V0 q5_V0 q6_V0 q7_V0 q8_V0 qf_V0 ql_V0
      clear q0_BX q1_BX q2_BX q3_BX q4_BX q5_BX q6_BX q7_BX q8_BX qf_BX ql_BX
      generalize (w2.alloc (.cells #[.slice (some ⟨b1, 0, none⟩) G.xs.length G.xs.length, .slice (some ⟨b2, 0, none⟩) G.ys.length G.ys.length, .int .i64 G.pl, .int .i64 G.ra, .int .i64 G.rb, .int .i64 G.ph, .int .i64 G.wi, .int .i64 G.re, .int .i64 G.tu] 70)) = w3 at *
      obtain ⟨q0_BV, q1_BV, q2_BV, q3_BV, qf_BV, ql_BV⟩ := BV.four
      obtain ⟨q0_BG, q1_BG, q2_BG, q3_BG, q4_BG, q5_BG, q6_BG, q7_BG, q8_BG, qf_BG, ql_BG⟩ := BG.nine
      obtain ⟨q0_V0, q1_V0, q2_V0, q3_V0, q4_V0, q5_V0, q6_V0, q7_V0, q8_V0, qf_V0, ql_V0⟩ := V0.nine
      obtain ⟨q0_BX, q1_BX, q2_BX, q3_BX, q4_BX, q5_BX, q6_BX, q7_BX, q8_BX, qf_BX, ql_BX⟩ := BX.nine
      go_wp2_with fail
      clear q0_BV q1_BV q2_BV q3_BV qf_BV ql_BV
      clear q0_BG q1_BG q2_BG q3_BG q4_BG q5_BG q6_BG q7_BG q8_BG qf_BG ql_BG
      clear q0_V0 q1_V0 q2_V0 q3_V0 q4_V0 q5_V0 q6_V0 q7_V0 q8_V0 qf_V0 ql_V0
      clear q0_BX q1_BX q2_BX q3_BX q4_BX q5_BX q6_BX q7_BX q8_BX qf_BX ql_BX
      obtain ⟨J, hJ⟩ : ∃ J : Act → Act → World → Prop, J = fun a a' w' => ∃ B d1 d2 k1 k2 lo hi, a' = (((((((((((a.put (some 38) (.agg #[.int .i64 p, .int .i64 c, .int .i64 h, .int .i64 s])).put (some 39) (.agg #[.int .i64 p, .int .i64 c, .int .i64 h, .int .i64 s])).put (some 40) (.agg #[.slice (some ⟨b1, 0, none⟩) G.xs.length G.xs.length, .slice (some ⟨b2, 0, none⟩) G.ys.length G.ys.length, .int .i64 G.pl, .int .i64 G.ra, .int .i64 G.rb, .int .i64 G.ph, .int .i64 G.wi, .int .i64 G.re, .int .i64 G.tu])).put (some 41) (.int .i64 ra)).put (some 42) (.int .i64 rb)).put (some 43) (.tuple #[.agg #[.slice d1 X.xs.length k1, .slice d2 X.ys.length k2, .int .i64 X.pl, .int .i64 X.ra, .int .i64 X.rb, .int .i64 X.ph, .int .i64 X.wi, .int .i64 X.re, .int .i64 X.tu], .int .i64 r])).put (some 37) (.tuple #[.agg #[.slice d1 X.xs.length k1, .slice d2 X.ys.length k2, .int .i64 X.pl, .int .i64 X.ra, .int .i64 X.rb, .int .i64 X.ph, .int .i64 X.wi, .int .i64 X.re, .int .i64 X.tu], .int .i64 r])).put (some 44) (.agg #[.slice d1 X.xs.length k1, .slice d2 X.ys.length k2, .int .i64 X.pl, .int .i64 X.ra, .int .i64 X.rb, .int .i64 X.ph, .int .i64 X.wi, .int .i64 X.re, .int .i64 X.tu])).put (some 45) (.int .i64 r)).put (some 14) (.int .i64 r)).put (some 13) (.pointer (some ⟨B, 0, none⟩))) ∧ Blk w' B #[.slice d1 X.xs.length k1, .slice d2 X.ys.length k2, .int .i64 X.pl, .int .i64 X.ra, .int .i64 X.rb, .int .i64 X.ph, .int .i64 X.wi, .int .i64 X.re, .int .i64 X.tu] 70 ∧ OBd lo hi w' d1 d2 X.xs X.ys ∧ (w3.heap.size ≤ lo ∧ hi ≤ w'.heap.size ∧ w3.heap.size ≤ B ∧ (B < lo ∨ hi ≤ B)) ∧ Below w3.heap.size w3 w' := ⟨_, rfl⟩
      have HJ := Lib.hid hJ
      clear hJ
      refine wp_region_join J ?_ ?_
      · skip
        refine wp_region_held_drew (S := fun w' => w'.cell? ⟨w.heap.size, 0, none⟩ = some (.int .i64 p) ∧ w'.cell? ⟨w.heap.size, 1, none⟩ = some (.int .i64 c) ∧ w'.cell? ⟨w.heap.size, 2, none⟩ = some (.int .i64 h) ∧ w'.cell? ⟨w.heap.size, 3, none⟩ = some (.int .i64 s) ∧ w'.cell? ⟨(w.heap.size + 1), 0, none⟩ = some (.slice a1 G.xs.length c1) ∧ w'.cell? ⟨(w.heap.size + 1), 1, none⟩ = some (.slice a2 G.ys.length c2) ∧ w'.cell? ⟨(w.heap.size + 1), 2, none⟩ = some (.int .i64 G.pl) ∧ w'.cell? ⟨(w.heap.size + 1), 3, none⟩ = some (.int .i64 G.ra) ∧ w'.cell? ⟨(w.heap.size + 1), 4, none⟩ = some (.int .i64 G.rb) ∧ w'.cell? ⟨(w.heap.size + 1), 5, none⟩ = some (.int .i64 G.ph) ∧ w'.cell? ⟨(w.heap.size + 1), 6, none⟩ = some (.int .i64 G.wi) ∧ w'.cell? ⟨(w.heap.size + 1), 7, none⟩ = some (.int .i64 G.re) ∧ w'.cell? ⟨(w.heap.size + 1), 8, none⟩ = some (.int .i64 G.tu) ∧ w'.cell? ⟨BV0, 0, none⟩ = some (.slice d1V0 X.xs.length k1V0) ∧ w'.cell? ⟨BV0, 1, none⟩ = some (.slice d2V0 X.ys.length k2V0) ∧ w'.cell? ⟨BV0, 2, none⟩ = some (.int .i64 X.pl) ∧ w'.cell? ⟨BV0, 3, none⟩ = some (.int .i64 X.ra) ∧ w'.cell? ⟨BV0, 4, none⟩ = some (.int .i64 X.rb) ∧ w'.cell? ⟨BV0, 5, none⟩ = some (.int .i64 X.ph) ∧ w'.cell? ⟨BV0, 6, none⟩ = some (.int .i64 X.wi) ∧ w'.cell? ⟨BV0, 7, none⟩ = some (.int .i64 X.re) ∧ w'.cell? ⟨BV0, 8, none⟩ = some (.int .i64 X.tu) ∧ w'.cell? ⟨w2.heap.size, 0, none⟩ = some (.slice (some ⟨b1, 0, none⟩) G.xs.length G.xs.length) ∧ w'.cell? ⟨w2.heap.size, 1, none⟩ = some (.slice (some ⟨b2, 0, none⟩) G.ys.length G.ys.length) ∧ w'.cell? ⟨w2.heap.size, 2, none⟩ = some (.int .i64 G.pl) ∧ w'.cell? ⟨w2.heap.size, 3, none⟩ = some (.int .i64 G.ra) ∧ w'.cell? ⟨w2.heap.size, 4, none⟩ = some (.int .i64 G.rb) ∧ w'.cell? ⟨w2.heap.size, 5, none⟩ = some (.int .i64 G.ph) ∧ w'.cell? ⟨w2.heap.size, 6, none⟩ = some (.int .i64 G.wi) ∧ w'.cell? ⟨w2.heap.size, 7, none⟩ = some (.int .i64 G.re) ∧ w'.cell? ⟨w2.heap.size, 8, none⟩ = some (.int .i64 G.tu)) (by kernel_rfl) ⟨(BV.below (Below.refl _ _).drew).four.1, (BV.below (Below.refl _ _).drew).four.2.1, (BV.below (Below.refl _ _).drew).four.2.2.1, (BV.below (Below.refl _ _).drew).four.2.2.2.1, (BG.below (Below.refl _ _).drew).nine.1, (BG.below (Below.refl _ _).drew).nine.2.1, (BG.below (Below.refl _ _).drew).nine.2.2.1, (BG.below (Below.refl _ _).drew).nine.2.2.2.1, (BG.below (Below.refl _ _).drew).nine.2.2.2.2.1, (BG.below (Below.refl _ _).drew).nine.2.2.2.2.2.1, (BG.below (Below.refl _ _).drew).nine.2.2.2.2.2.2.1, (BG.below (Below.refl _ _).drew).nine.2.2.2.2.2.2.2.1, (BG.below (Below.refl _ _).drew).nine.2.2.2.2.2.2.2.2.1, (V0.below (Below.refl _ _).drew).nine.1, (V0.below (Below.refl _ _).drew).nine.2.1, (V0.below (Below.refl _ _).drew).nine.2.2.1, (V0.below (Below.refl _ _).drew).nine.2.2.2.1, (V0.below (Below.refl _ _).drew).nine.2.2.2.2.1, (V0.below (Below.refl _ _).drew).nine.2.2.2.2.2.1, (V0.below (Below.refl _ _).drew).nine.2.2.2.2.2.2.1, (V0.below (Below.refl _ _).drew).nine.2.2.2.2.2.2.2.1, (V0.below (Below.refl _ _).drew).nine.2.2.2.2.2.2.2.2.1, (BX.below (Below.refl _ _).drew).nine.1, (BX.below (Below.refl _ _).drew).nine.2.1, (BX.below (Below.refl _ _).drew).nine.2.2.1, (BX.below (Below.refl _ _).drew).nine.2.2.2.1, (BX.below (Below.refl _ _).drew).nine.2.2.2.2.1, (BX.below (Below.refl _ _).drew).nine.2.2.2.2.2.1, (BX.below (Below.refl _ _).drew).nine.2.2.2.2.2.2.1, (BX.below (Below.refl _ _).drew).nine.2.2.2.2.2.2.2.1, (BX.below (Below.refl _ _).drew).nine.2.2.2.2.2.2.2.2.1⟩ (fun hHeld => ?_)
        clear hHeld
        have hbS : Below w3.heap.size w3 w3.drew := (Below.refl _ _).drew
        have hzd := hbS.size
        generalize w3.drew = vd at *
        have hHeld := (show vd.cell? ⟨w.heap.size, 0, none⟩ = some (.int .i64 p) ∧ vd.cell? ⟨w.heap.size, 1, none⟩ = some (.int .i64 c) ∧ vd.cell? ⟨w.heap.size, 2, none⟩ = some (.int .i64 h) ∧ vd.cell? ⟨w.heap.size, 3, none⟩ = some (.int .i64 s) ∧ vd.cell? ⟨(w.heap.size + 1), 0, none⟩ = some (.slice a1 G.xs.length c1) ∧ vd.cell? ⟨(w.heap.size + 1), 1, none⟩ = some (.slice a2 G.ys.length c2) ∧ vd.cell? ⟨(w.heap.size + 1), 2, none⟩ = some (.int .i64 G.pl) ∧ vd.cell? ⟨(w.heap.size + 1), 3, none⟩ = some (.int .i64 G.ra) ∧ vd.cell? ⟨(w.heap.size + 1), 4, none⟩ = some (.int .i64 G.rb) ∧ vd.cell? ⟨(w.heap.size + 1), 5, none⟩ = some (.int .i64 G.ph) ∧ vd.cell? ⟨(w.heap.size + 1), 6, none⟩ = some (.int .i64 G.wi) ∧ vd.cell? ⟨(w.heap.size + 1), 7, none⟩ = some (.int .i64 G.re) ∧ vd.cell? ⟨(w.heap.size + 1), 8, none⟩ = some (.int .i64 G.tu) ∧ vd.cell? ⟨BV0, 0, none⟩ = some (.slice d1V0 X.xs.length k1V0) ∧ vd.cell? ⟨BV0, 1, none⟩ = some (.slice d2V0 X.ys.length k2V0) ∧ vd.cell? ⟨BV0, 2, none⟩ = some (.int .i64 X.pl) ∧ vd.cell? ⟨BV0, 3, none⟩ = some (.int .i64 X.ra) ∧ vd.cell? ⟨BV0, 4, none⟩ = some (.int .i64 X.rb) ∧ vd.cell? ⟨BV0, 5, none⟩ = some (.int .i64 X.ph) ∧ vd.cell? ⟨BV0, 6, none⟩ = some (.int .i64 X.wi) ∧ vd.cell? ⟨BV0, 7, none⟩ = some (.int .i64 X.re) ∧ vd.cell? ⟨BV0, 8, none⟩ = some (.int .i64 X.tu) ∧ vd.cell? ⟨w2.heap.size, 0, none⟩ = some (.slice (some ⟨b1, 0, none⟩) G.xs.length G.xs.length) ∧ vd.cell? ⟨w2.heap.size, 1, none⟩ = some (.slice (some ⟨b2, 0, none⟩) G.ys.length G.ys.length) ∧ vd.cell? ⟨w2.heap.size, 2, none⟩ = some (.int .i64 G.pl) ∧ vd.cell? ⟨w2.heap.size, 3, none⟩ = some (.int .i64 G.ra) ∧ vd.cell? ⟨w2.heap.size, 4, none⟩ = some (.int .i64 G.rb) ∧ vd.cell? ⟨w2.heap.size, 5, none⟩ = some (.int .i64 G.ph) ∧ vd.cell? ⟨w2.heap.size, 6, none⟩ = some (.int .i64 G.wi) ∧ vd.cell? ⟨w2.heap.size, 7, none⟩ = some (.int .i64 G.re) ∧ vd.cell? ⟨w2.heap.size, 8, none⟩ = some (.int .i64 G.tu) from ⟨(BV.below hbS).four.1, (BV.below hbS).four.2.1, (BV.below hbS).four.2.2.1, (BV.below hbS).four.2.2.2.1, (BG.below hbS).nine.1, (BG.below hbS).nine.2.1, (BG.below hbS).nine.2.2.1, (BG.below hbS).nine.2.2.2.1, (BG.below hbS).nine.2.2.2.2.1, (BG.below hbS).nine.2.2.2.2.2.1, (BG.below hbS).nine.2.2.2.2.2.2.1, (BG.below hbS).nine.2.2.2.2.2.2.2.1, (BG.below hbS).nine.2.2.2.2.2.2.2.2.1, (V0.below hbS).nine.1, (V0.below hbS).nine.2.1, (V0.below hbS).nine.2.2.1, (V0.below hbS).nine.2.2.2.1, (V0.below hbS).nine.2.2.2.2.1, (V0.below hbS).nine.2.2.2.2.2.1, (V0.below hbS).nine.2.2.2.2.2.2.1, (V0.below hbS).nine.2.2.2.2.2.2.2.1, (V0.below hbS).nine.2.2.2.2.2.2.2.2.1, (BX.below hbS).nine.1, (BX.below hbS).nine.2.1, (BX.below hbS).nine.2.2.1, (BX.below hbS).nine.2.2.2.1, (BX.below hbS).nine.2.2.2.2.1, (BX.below hbS).nine.2.2.2.2.2.1, (BX.below hbS).nine.2.2.2.2.2.2.1, (BX.below hbS).nine.2.2.2.2.2.2.2.1, (BX.below hbS).nine.2.2.2.2.2.2.2.2.1⟩)
        refine wpAnyH_take (i := 0) (oi := { dst := some 38, op := _, type := _, pos := _, after := _, guard := _ }) (v := ?_) rfl (by kernel_rfl) (by kernel_rfl) (by kernel_rfl) (fun _ _ _ h => absurd h.1 (by simp)) (Or.inl ⟨by rfl, ?_⟩) (by assumption) ?_
        rotate_left
        · intro w hSw
          (try dsimp only at hSw)
          go_simp
          (try (with_reducible rfl))
        try simp only [Act.put, List.setIfInBounds_toArray, List.set_cons_zero, List.set_cons_succ]
        refine wpAnyH_take (i := 2) (oi := { dst := some 40, op := _, type := _, pos := _, after := _, guard := _ }) (v := ?_) rfl (by kernel_rfl) (by kernel_rfl) (by kernel_rfl) (fun _ _ _ h => absurd h.1 (by simp)) (Or.inl ⟨by rfl, ?_⟩) (by assumption) ?_
        rotate_left
        · intro w hSw
          (try dsimp only at hSw)
          go_simp
          (try (with_reducible rfl))
        try simp only [Act.put, List.setIfInBounds_toArray, List.set_cons_zero, List.set_cons_succ]
        refine wpAnyH_take (i := 3) (oi := { dst := some 41, op := _, type := _, pos := _, after := _, guard := _ }) (v := ?_) rfl (by kernel_rfl) (by kernel_rfl) (by kernel_rfl) (fun _ _ _ h => absurd h.1 (by simp)) (Or.inl ⟨by rfl, ?_⟩) (by assumption) ?_
        rotate_left
        · intro w hSw
          (try dsimp only at hSw)
          go_simp
          (try (with_reducible rfl))
        try simp only [Act.put, List.setIfInBounds_toArray, List.set_cons_zero, List.set_cons_succ]
        refine wpAnyH_take (i := 4) (oi := { dst := some 42, op := _, type := _, pos := _, after := _, guard := _ }) (v := ?_) rfl (by kernel_rfl) (by kernel_rfl) (by kernel_rfl) (fun _ _ _ h => absurd h.1 (by simp)) (Or.inl ⟨by rfl, ?_⟩) (by assumption) ?_
        rotate_left
        · intro w hSw
          (try dsimp only at hSw)
          go_simp
          (try (with_reducible rfl))
        try simp only [Act.put, List.setIfInBounds_toArray, List.set_cons_zero, List.set_cons_succ]
        refine wpAnyH_ready (rs := [1, 9]) (by kernel_rfl) (by simp) ?_
        refine AllReadyH.cons (o := { dst := some 39, op := _, type := _, pos := _, after := _, guard := _ }) rfl (fun K hK => ?_) (AllReadyH.cons (o := { dst := some 13, op := _, type := _, pos := _, after := _, guard := _ }) rfl (fun K hK => ?_) AllReadyH.nil)
        · go_simp
          refine (toVariant_any _ _ _ _ _).mono ?_
          rintro e wt0 ⟨rfl, hbt0⟩
          have hz_hbt0 := hbt0.size
          replace hbS := chain hbS hbt0
          clear hbt0
          (try go_wp2_with fail)
          refine hK.out _ _ ⟨(BV.below hbS).four.1, (BV.below hbS).four.2.1, (BV.below hbS).four.2.2.1, (BV.below hbS).four.2.2.2.1, (BG.below hbS).nine.1, (BG.below hbS).nine.2.1, (BG.below hbS).nine.2.2.1, (BG.below hbS).nine.2.2.2.1, (BG.below hbS).nine.2.2.2.2.1, (BG.below hbS).nine.2.2.2.2.2.1, (BG.below hbS).nine.2.2.2.2.2.2.1, (BG.below hbS).nine.2.2.2.2.2.2.2.1, (BG.below hbS).nine.2.2.2.2.2.2.2.2.1, (V0.below hbS).nine.1, (V0.below hbS).nine.2.1, (V0.below hbS).nine.2.2.1, (V0.below hbS).nine.2.2.2.1, (V0.below hbS).nine.2.2.2.2.1, (V0.below hbS).nine.2.2.2.2.2.1, (V0.below hbS).nine.2.2.2.2.2.2.1, (V0.below hbS).nine.2.2.2.2.2.2.2.1, (V0.below hbS).nine.2.2.2.2.2.2.2.2.1, (BX.below hbS).nine.1, (BX.below hbS).nine.2.1, (BX.below hbS).nine.2.2.1, (BX.below hbS).nine.2.2.2.1, (BX.below hbS).nine.2.2.2.2.1, (BX.below hbS).nine.2.2.2.2.2.1, (BX.below hbS).nine.2.2.2.2.2.2.1, (BX.below hbS).nine.2.2.2.2.2.2.2.1, (BX.below hbS).nine.2.2.2.2.2.2.2.2.1⟩ (fun hHeld => ?_)
          clear hK K
          try simp only [Act.put, List.setIfInBounds_toArray, List.set_cons_zero, List.set_cons_succ]
          refine wpAnyH_ready (rs := [5, 9]) (by kernel_rfl) (by simp) ?_
          refine AllReadyH.cons (o := { dst := some 43, op := _, type := _, pos := _, after := _, guard := _ }) rfl (fun K hK => ?_) (AllReadyH.cons (o := { dst := some 13, op := _, type := _, pos := _, after := _, guard := _ }) rfl (fun K hK => ?_) AllReadyH.nil)
          · go_simp
            refine (HIM.out _ _ _ _ _ (OX.below hbS).irow1 (OX.below hbS).irow2).mono ?_
            rintro e wt1 ⟨d1, d2, k1, k2, rfl, hO, hbt1⟩
            have hz_hbt1 := hbt1.size
            replace hbS := chain hbS hbt1
            clear hbt1
            (try go_wp2_with fail)
            refine hK.out _ _ ⟨(BV.below hbS).four.1, (BV.below hbS).four.2.1, (BV.below hbS).four.2.2.1, (BV.below hbS).four.2.2.2.1, (BG.below hbS).nine.1, (BG.below hbS).nine.2.1, (BG.below hbS).nine.2.2.1, (BG.below hbS).nine.2.2.2.1, (BG.below hbS).nine.2.2.2.2.1, (BG.below hbS).nine.2.2.2.2.2.1, (BG.below hbS).nine.2.2.2.2.2.2.1, (BG.below hbS).nine.2.2.2.2.2.2.2.1, (BG.below hbS).nine.2.2.2.2.2.2.2.2.1, (V0.below hbS).nine.1, (V0.below hbS).nine.2.1, (V0.below hbS).nine.2.2.1, (V0.below hbS).nine.2.2.2.1, (V0.below hbS).nine.2.2.2.2.1, (V0.below hbS).nine.2.2.2.2.2.1, (V0.below hbS).nine.2.2.2.2.2.2.1, (V0.below hbS).nine.2.2.2.2.2.2.2.1, (V0.below hbS).nine.2.2.2.2.2.2.2.2.1, (BX.below hbS).nine.1, (BX.below hbS).nine.2.1, (BX.below hbS).nine.2.2.1, (BX.below hbS).nine.2.2.2.1, (BX.below hbS).nine.2.2.2.2.1, (BX.below hbS).nine.2.2.2.2.2.1, (BX.below hbS).nine.2.2.2.2.2.2.1, (BX.below hbS).nine.2.2.2.2.2.2.2.1, (BX.below hbS).nine.2.2.2.2.2.2.2.2.1⟩ (fun hHeld => ?_)
            clear hK K
            try simp only [Act.put, List.setIfInBounds_toArray, List.set_cons_zero, List.set_cons_succ]
            refine wpAnyH_take (i := 6) (oi := { dst := some 37, op := _, type := _, pos := _, after := _, guard := _ }) (v := ?_) rfl (by kernel_rfl) (by kernel_rfl) (by kernel_rfl) (fun _ _ _ h => absurd h.1 (by simp)) (Or.inl ⟨by rfl, ?_⟩) (by assumption) ?_
            rotate_left
            · intro w hSw
              (try dsimp only at hSw)
              go_simp
              (try (with_reducible rfl))
            try simp only [Act.put, List.setIfInBounds_toArray, List.set_cons_zero, List.set_cons_succ]
            refine wpAnyH_take (i := 7) (oi := { dst := some 44, op := _, type := _, pos := _, after := _, guard := _ }) (v := ?_) rfl (by kernel_rfl) (by kernel_rfl) (by kernel_rfl) (fun _ _ _ h => absurd h.1 (by simp)) (Or.inl ⟨by rfl, ?_⟩) (by assumption) ?_
            rotate_left
            · intro w hSw
              (try dsimp only at hSw)
              go_simp
              (try (with_reducible rfl))
            try simp only [Act.put, List.setIfInBounds_toArray, List.set_cons_zero, List.set_cons_succ]
            refine wpAnyH_take (i := 8) (oi := { dst := some 45, op := _, type := _, pos := _, after := _, guard := _ }) (v := ?_) rfl (by kernel_rfl) (by kernel_rfl) (by kernel_rfl) (fun _ _ _ h => absurd h.1 (by simp)) (Or.inl ⟨by rfl, ?_⟩) (by assumption) ?_
            rotate_left
            · intro w hSw
              (try dsimp only at hSw)
              go_simp
              (try (with_reducible rfl))
            try simp only [Act.put, List.setIfInBounds_toArray, List.set_cons_zero, List.set_cons_succ]
            refine wpAnyH_ready (rs := [9]) (by kernel_rfl) (by simp) ?_
            refine AllReadyH.cons (o := { dst := some 13, op := _, type := _, pos := _, after := _, guard := _ }) rfl (fun K hK => ?_) AllReadyH.nil
            go_simp
            refine hK.out _ _ ⟨(BV.below (hbS.alloc hbS.size _)).four.1, (BV.below (hbS.alloc hbS.size _)).four.2.1, (BV.below (hbS.alloc hbS.size _)).four.2.2.1, (BV.below (hbS.alloc hbS.size _)).four.2.2.2.1, (BG.below (hbS.alloc hbS.size _)).nine.1, (BG.below (hbS.alloc hbS.size _)).nine.2.1, (BG.below (hbS.alloc hbS.size _)).nine.2.2.1, (BG.below (hbS.alloc hbS.size _)).nine.2.2.2.1, (BG.below (hbS.alloc hbS.size _)).nine.2.2.2.2.1, (BG.below (hbS.alloc hbS.size _)).nine.2.2.2.2.2.1, (BG.below (hbS.alloc hbS.size _)).nine.2.2.2.2.2.2.1, (BG.below (hbS.alloc hbS.size _)).nine.2.2.2.2.2.2.2.1, (BG.below (hbS.alloc hbS.size _)).nine.2.2.2.2.2.2.2.2.1, (V0.below (hbS.alloc hbS.size _)).nine.1, (V0.below (hbS.alloc hbS.size _)).nine.2.1, (V0.below (hbS.alloc hbS.size _)).nine.2.2.1, (V0.below (hbS.alloc hbS.size _)).nine.2.2.2.1, (V0.below (hbS.alloc hbS.size _)).nine.2.2.2.2.1, (V0.below (hbS.alloc hbS.size _)).nine.2.2.2.2.2.1, (V0.below (hbS.alloc hbS.size _)).nine.2.2.2.2.2.2.1, (V0.below (hbS.alloc hbS.size _)).nine.2.2.2.2.2.2.2.1, (V0.below (hbS.alloc hbS.size _)).nine.2.2.2.2.2.2.2.2.1, (BX.below (hbS.alloc hbS.size _)).nine.1, (BX.below (hbS.alloc hbS.size _)).nine.2.1, (BX.below (hbS.alloc hbS.size _)).nine.2.2.1, (BX.below (hbS.alloc hbS.size _)).nine.2.2.2.1, (BX.below (hbS.alloc hbS.size _)).nine.2.2.2.2.1, (BX.below (hbS.alloc hbS.size _)).nine.2.2.2.2.2.1, (BX.below (hbS.alloc hbS.size _)).nine.2.2.2.2.2.2.1, (BX.below (hbS.alloc hbS.size _)).nine.2.2.2.2.2.2.2.1, (BX.below (hbS.alloc hbS.size _)).nine.2.2.2.2.2.2.2.2.1⟩ (fun hHeld => ?_)
            clear hK K
            try simp only [Act.put, List.setIfInBounds_toArray, List.set_cons_zero, List.set_cons_succ]
            have BA := Blk.new wt1 #[.slice none 0 0, .slice none 0 0, .int .i64 0, .int .i64 0, .int .i64 0, .int .i64 0, .int .i64 0, .int .i64 0, .int .i64 0] 70
            have hal : Below wt1.heap.size wt1 (wt1.alloc (.cells #[.slice none 0 0, .slice none 0 0, .int .i64 0, .int .i64 0, .int .i64 0, .int .i64 0, .int .i64 0, .int .i64 0, .int .i64 0] 70)) := (Below.refl _ _).alloc (Nat.le_refl _) _
            have hlN : wt1.heap.size + 1 ≤ (wt1.alloc (.cells #[.slice none 0 0, .slice none 0 0, .int .i64 0, .int .i64 0, .int .i64 0, .int .i64 0, .int .i64 0, .int .i64 0, .int .i64 0] 70)).heap.size ∧ (wt1.alloc (.cells #[.slice none 0 0, .slice none 0 0, .int .i64 0, .int .i64 0, .int .i64 0, .int .i64 0, .int .i64 0, .int .i64 0, .int .i64 0] 70)).heap.size ≤ wt1.heap.size + 1 := by simp
            have hzS := hbS.size
            replace hO := hO.below hal
            replace hbS := chain hbS hal
            clear hal
            generalize wt1.alloc (.cells #[.slice none 0 0, .slice none 0 0, .int .i64 0, .int .i64 0, .int .i64 0, .int .i64 0, .int .i64 0, .int .i64 0, .int .i64 0] 70) = wN at *
            refine wpAnyH_ready (rs := [10]) (by kernel_rfl) (by simp) ?_
            refine AllReadyH.cons (o := { dst := none, op := _, type := _, pos := _, after := _, guard := _ }) rfl (fun K hK => ?_) AllReadyH.nil
            obtain ⟨go0, go1, go2, go3, go4, go5, go6, go7, go8, gof, gol⟩ := BA.nine
            go_simp
            (try go_wp2_with fail)
            refine hK.out _ _ ⟨(BV.below (below9s BA hbS (by omega))).four.1, (BV.below (below9s BA hbS (by omega))).four.2.1, (BV.below (below9s BA hbS (by omega))).four.2.2.1, (BV.below (below9s BA hbS (by omega))).four.2.2.2.1, (BG.below (below9s BA hbS (by omega))).nine.1, (BG.below (below9s BA hbS (by omega))).nine.2.1, (BG.below (below9s BA hbS (by omega))).nine.2.2.1, (BG.below (below9s BA hbS (by omega))).nine.2.2.2.1, (BG.below (below9s BA hbS (by omega))).nine.2.2.2.2.1, (BG.below (below9s BA hbS (by omega))).nine.2.2.2.2.2.1, (BG.below (below9s BA hbS (by omega))).nine.2.2.2.2.2.2.1, (BG.below (below9s BA hbS (by omega))).nine.2.2.2.2.2.2.2.1, (BG.below (below9s BA hbS (by omega))).nine.2.2.2.2.2.2.2.2.1, (V0.below (below9s BA hbS (by omega))).nine.1, (V0.below (below9s BA hbS (by omega))).nine.2.1, (V0.below (below9s BA hbS (by omega))).nine.2.2.1, (V0.below (below9s BA hbS (by omega))).nine.2.2.2.1, (V0.below (below9s BA hbS (by omega))).nine.2.2.2.2.1, (V0.below (below9s BA hbS (by omega))).nine.2.2.2.2.2.1, (V0.below (below9s BA hbS (by omega))).nine.2.2.2.2.2.2.1, (V0.below (below9s BA hbS (by omega))).nine.2.2.2.2.2.2.2.1, (V0.below (below9s BA hbS (by omega))).nine.2.2.2.2.2.2.2.2.1, (BX.below (below9s BA hbS (by omega))).nine.1, (BX.below (below9s BA hbS (by omega))).nine.2.1, (BX.below (below9s BA hbS (by omega))).nine.2.2.1, (BX.below (below9s BA hbS (by omega))).nine.2.2.2.1, (BX.below (below9s BA hbS (by omega))).nine.2.2.2.2.1, (BX.below (below9s BA hbS (by omega))).nine.2.2.2.2.2.1, (BX.below (below9s BA hbS (by omega))).nine.2.2.2.2.2.2.1, (BX.below (below9s BA hbS (by omega))).nine.2.2.2.2.2.2.2.1, (BX.below (below9s BA hbS (by omega))).nine.2.2.2.2.2.2.2.2.1⟩ (fun hHeld => ?_)
            clear hK K
            try simp only [Act.put, List.setIfInBounds_toArray, List.set_cons_zero, List.set_cons_succ]
            refine wpAnyH_take (i := 11) (oi := { dst := some 14, op := _, type := _, pos := _, after := _, guard := _ }) (v := ?_) rfl (by kernel_rfl) (by kernel_rfl) (by kernel_rfl) (fun _ _ _ h => absurd h.1 (by simp)) (Or.inl ⟨by rfl, ?_⟩) (by assumption) ?_
            rotate_left
            · intro w hSw
              (try dsimp only at hSw)
              go_simp
              (try (with_reducible rfl))
            try simp only [Act.put, List.setIfInBounds_toArray, List.set_cons_zero, List.set_cons_succ]
            refine wpAnyH_done (by kernel_rfl) ?_ _
            rw [HJ.out]
            refine ⟨rfl, _, d1, d2, k1, k2, _, _, ?_, BA.setG9 _ _ _ _ _ _ _ _ _, hO.farG9 ?_ _ _ _ _ _ _ _ _ _, ⟨?_, ?_, ?_, ?_⟩, below9s BA hbS (by omega)⟩
            · simp only [Act.put, List.setIfInBounds_toArray, List.set_cons_zero, List.set_cons_succ]
            all_goals (first | omega | (simp <;> omega))
          · go_simp
            refine hK.out _ _ ⟨(BV.below (hbS.alloc hbS.size _)).four.1, (BV.below (hbS.alloc hbS.size _)).four.2.1, (BV.below (hbS.alloc hbS.size _)).four.2.2.1, (BV.below (hbS.alloc hbS.size _)).four.2.2.2.1, (BG.below (hbS.alloc hbS.size _)).nine.1, (BG.below (hbS.alloc hbS.size _)).nine.2.1, (BG.below (hbS.alloc hbS.size _)).nine.2.2.1, (BG.below (hbS.alloc hbS.size _)).nine.2.2.2.1, (BG.below (hbS.alloc hbS.size _)).nine.2.2.2.2.1, (BG.below (hbS.alloc hbS.size _)).nine.2.2.2.2.2.1, (BG.below (hbS.alloc hbS.size _)).nine.2.2.2.2.2.2.1, (BG.below (hbS.alloc hbS.size _)).nine.2.2.2.2.2.2.2.1, (BG.below (hbS.alloc hbS.size _)).nine.2.2.2.2.2.2.2.2.1, (V0.below (hbS.alloc hbS.size _)).nine.1, (V0.below (hbS.alloc hbS.size _)).nine.2.1, (V0.below (hbS.alloc hbS.size _)).nine.2.2.1, (V0.below (hbS.alloc hbS.size _)).nine.2.2.2.1, (V0.below (hbS.alloc hbS.size _)).nine.2.2.2.2.1, (V0.below (hbS.alloc hbS.size _)).nine.2.2.2.2.2.1, (V0.below (hbS.alloc hbS.size _)).nine.2.2.2.2.2.2.1, (V0.below (hbS.alloc hbS.size _)).nine.2.2.2.2.2.2.2.1, (V0.below (hbS.alloc hbS.size _)).nine.2.2.2.2.2.2.2.2.1, (BX.below (hbS.alloc hbS.size _)).nine.1, (BX.below (hbS.alloc hbS.size _)).nine.2.1, (BX.below (hbS.alloc hbS.size _)).nine.2.2.1, (BX.below (hbS.alloc hbS.size _)).nine.2.2.2.1, (BX.below (hbS.alloc hbS.size _)).nine.2.2.2.2.1, (BX.below (hbS.alloc hbS.size _)).nine.2.2.2.2.2.1, (BX.below (hbS.alloc hbS.size _)).nine.2.2.2.2.2.2.1, (BX.below (hbS.alloc hbS.size _)).nine.2.2.2.2.2.2.2.1, (BX.below (hbS.alloc hbS.size _)).nine.2.2.2.2.2.2.2.2.1⟩ (fun hHeld => ?_)
            clear hK K
            try simp only [Act.put, List.setIfInBounds_toArray, List.set_cons_zero, List.set_cons_succ]
            have BA := Blk.new wt0 #[.slice none 0 0, .slice none 0 0, .int .i64 0, .int .i64 0, .int .i64 0, .int .i64 0, .int .i64 0, .int .i64 0, .int .i64 0] 70
            have hal : Below wt0.heap.size wt0 (wt0.alloc (.cells #[.slice none 0 0, .slice none 0 0, .int .i64 0, .int .i64 0, .int .i64 0, .int .i64 0, .int .i64 0, .int .i64 0, .int .i64 0] 70)) := (Below.refl _ _).alloc (Nat.le_refl _) _
            have hlN : wt0.heap.size + 1 ≤ (wt0.alloc (.cells #[.slice none 0 0, .slice none 0 0, .int .i64 0, .int .i64 0, .int .i64 0, .int .i64 0, .int .i64 0, .int .i64 0, .int .i64 0] 70)).heap.size ∧ (wt0.alloc (.cells #[.slice none 0 0, .slice none 0 0, .int .i64 0, .int .i64 0, .int .i64 0, .int .i64 0, .int .i64 0, .int .i64 0, .int .i64 0] 70)).heap.size ≤ wt0.heap.size + 1 := by simp
            have hzS := hbS.size
            replace hbS := chain hbS hal
            clear hal
            generalize wt0.alloc (.cells #[.slice none 0 0, .slice none 0 0, .int .i64 0, .int .i64 0, .int .i64 0, .int .i64 0, .int .i64 0, .int .i64 0, .int .i64 0] 70) = wN at *
            refine wpAnyH_ready (rs := [5]) (by kernel_rfl) (by simp) ?_
            refine AllReadyH.cons (o := { dst := some 43, op := _, type := _, pos := _, after := _, guard := _ }) rfl (fun K hK => ?_) AllReadyH.nil
            go_simp
            refine (HIM.out _ _ _ _ _ (OX.below hbS).irow1 (OX.below hbS).irow2).mono ?_
            rintro e wt1 ⟨d1, d2, k1, k2, rfl, hO, hbt1⟩
            replace BA := BA.below hbt1
            have hz_hbt1 := hbt1.size
            replace hbS := chain hbS hbt1
            clear hbt1
            (try go_wp2_with fail)
            refine hK.out _ _ ⟨(BV.below hbS).four.1, (BV.below hbS).four.2.1, (BV.below hbS).four.2.2.1, (BV.below hbS).four.2.2.2.1, (BG.below hbS).nine.1, (BG.below hbS).nine.2.1, (BG.below hbS).nine.2.2.1, (BG.below hbS).nine.2.2.2.1, (BG.below hbS).nine.2.2.2.2.1, (BG.below hbS).nine.2.2.2.2.2.1, (BG.below hbS).nine.2.2.2.2.2.2.1, (BG.below hbS).nine.2.2.2.2.2.2.2.1, (BG.below hbS).nine.2.2.2.2.2.2.2.2.1, (V0.below hbS).nine.1, (V0.below hbS).nine.2.1, (V0.below hbS).nine.2.2.1, (V0.below hbS).nine.2.2.2.1, (V0.below hbS).nine.2.2.2.2.1, (V0.below hbS).nine.2.2.2.2.2.1, (V0.below hbS).nine.2.2.2.2.2.2.1, (V0.below hbS).nine.2.2.2.2.2.2.2.1, (V0.below hbS).nine.2.2.2.2.2.2.2.2.1, (BX.below hbS).nine.1, (BX.below hbS).nine.2.1, (BX.below hbS).nine.2.2.1, (BX.below hbS).nine.2.2.2.1, (BX.below hbS).nine.2.2.2.2.1, (BX.below hbS).nine.2.2.2.2.2.1, (BX.below hbS).nine.2.2.2.2.2.2.1, (BX.below hbS).nine.2.2.2.2.2.2.2.1, (BX.below hbS).nine.2.2.2.2.2.2.2.2.1⟩ (fun hHeld => ?_)
            clear hK K
            try simp only [Act.put, List.setIfInBounds_toArray, List.set_cons_zero, List.set_cons_succ]
            refine wpAnyH_take (i := 6) (oi := { dst := some 37, op := _, type := _, pos := _, after := _, guard := _ }) (v := ?_) rfl (by kernel_rfl) (by kernel_rfl) (by kernel_rfl) (fun _ _ _ h => absurd h.1 (by simp)) (Or.inl ⟨by rfl, ?_⟩) (by assumption) ?_
            rotate_left
            · intro w hSw
              (try dsimp only at hSw)
              go_simp
              (try (with_reducible rfl))
            try simp only [Act.put, List.setIfInBounds_toArray, List.set_cons_zero, List.set_cons_succ]
            refine wpAnyH_take (i := 7) (oi := { dst := some 44, op := _, type := _, pos := _, after := _, guard := _ }) (v := ?_) rfl (by kernel_rfl) (by kernel_rfl) (by kernel_rfl) (fun _ _ _ h => absurd h.1 (by simp)) (Or.inl ⟨by rfl, ?_⟩) (by assumption) ?_
            rotate_left
            · intro w hSw
              (try dsimp only at hSw)
              go_simp
              (try (with_reducible rfl))
            try simp only [Act.put, List.setIfInBounds_toArray, List.set_cons_zero, List.set_cons_succ]
            refine wpAnyH_take (i := 8) (oi := { dst := some 45, op := _, type := _, pos := _, after := _, guard := _ }) (v := ?_) rfl (by kernel_rfl) (by kernel_rfl) (by kernel_rfl) (fun _ _ _ h => absurd h.1 (by simp)) (Or.inl ⟨by rfl, ?_⟩) (by assumption) ?_
            rotate_left
            · intro w hSw
              (try dsimp only at hSw)
              go_simp
              (try (with_reducible rfl))
            try simp only [Act.put, List.setIfInBounds_toArray, List.set_cons_zero, List.set_cons_succ]
            refine wpAnyH_ready (rs := [10]) (by kernel_rfl) (by simp) ?_
            refine AllReadyH.cons (o := { dst := none, op := _, type := _, pos := _, after := _, guard := _ }) rfl (fun K hK => ?_) AllReadyH.nil
            obtain ⟨go0, go1, go2, go3, go4, go5, go6, go7, go8, gof, gol⟩ := BA.nine
            go_simp
            (try go_wp2_with fail)
            refine hK.out _ _ ⟨(BV.below (below9s BA hbS (by omega))).four.1, (BV.below (below9s BA hbS (by omega))).four.2.1, (BV.below (below9s BA hbS (by omega))).four.2.2.1, (BV.below (below9s BA hbS (by omega))).four.2.2.2.1, (BG.below (below9s BA hbS (by omega))).nine.1, (BG.below (below9s BA hbS (by omega))).nine.2.1, (BG.below (below9s BA hbS (by omega))).nine.2.2.1, (BG.below (below9s BA hbS (by omega))).nine.2.2.2.1, (BG.below (below9s BA hbS (by omega))).nine.2.2.2.2.1, (BG.below (below9s BA hbS (by omega))).nine.2.2.2.2.2.1, (BG.below (below9s BA hbS (by omega))).nine.2.2.2.2.2.2.1, (BG.below (below9s BA hbS (by omega))).nine.2.2.2.2.2.2.2.1, (BG.below (below9s BA hbS (by omega))).nine.2.2.2.2.2.2.2.2.1, (V0.below (below9s BA hbS (by omega))).nine.1, (V0.below (below9s BA hbS (by omega))).nine.2.1, (V0.below (below9s BA hbS (by omega))).nine.2.2.1, (V0.below (below9s BA hbS (by omega))).nine.2.2.2.1, (V0.below (below9s BA hbS (by omega))).nine.2.2.2.2.1, (V0.below (below9s BA hbS (by omega))).nine.2.2.2.2.2.1, (V0.below (below9s BA hbS (by omega))).nine.2.2.2.2.2.2.1, (V0.below (below9s BA hbS (by omega))).nine.2.2.2.2.2.2.2.1, (V0.below (below9s BA hbS (by omega))).nine.2.2.2.2.2.2.2.2.1, (BX.below (below9s BA hbS (by omega))).nine.1, (BX.below (below9s BA hbS (by omega))).nine.2.1, (BX.below (below9s BA hbS (by omega))).nine.2.2.1, (BX.below (below9s BA hbS (by omega))).nine.2.2.2.1, (BX.below (below9s BA hbS (by omega))).nine.2.2.2.2.1, (BX.below (below9s BA hbS (by omega))).nine.2.2.2.2.2.1, (BX.below (below9s BA hbS (by omega))).nine.2.2.2.2.2.2.1, (BX.below (below9s BA hbS (by omega))).nine.2.2.2.2.2.2.2.1, (BX.below (below9s BA hbS (by omega))).nine.2.2.2.2.2.2.2.2.1⟩ (fun hHeld => ?_)
            clear hK K
            try simp only [Act.put, List.setIfInBounds_toArray, List.set_cons_zero, List.set_cons_succ]
            refine wpAnyH_take (i := 11) (oi := { dst := some 14, op := _, type := _, pos := _, after := _, guard := _ }) (v := ?_) rfl (by kernel_rfl) (by kernel_rfl) (by kernel_rfl) (fun _ _ _ h => absurd h.1 (by simp)) (Or.inl ⟨by rfl, ?_⟩) (by assumption) ?_
            rotate_left
            · intro w hSw
              (try dsimp only at hSw)
              go_simp
              (try (with_reducible rfl))
            try simp only [Act.put, List.setIfInBounds_toArray, List.set_cons_zero, List.set_cons_succ]
            refine wpAnyH_done (by kernel_rfl) ?_ _
            rw [HJ.out]
            refine ⟨rfl, _, d1, d2, k1, k2, _, _, ?_, BA.setG9 _ _ _ _ _ _ _ _ _, hO.farG9 ?_ _ _ _ _ _ _ _ _ _, ⟨?_, ?_, ?_, ?_⟩, below9s BA hbS (by omega)⟩
            · simp only [Act.put, List.setIfInBounds_toArray, List.set_cons_zero, List.set_cons_succ]
            all_goals (first | omega | (simp <;> omega))
        · go_simp
          refine hK.out _ _ ⟨(BV.below (hbS.alloc hbS.size _)).four.1, (BV.below (hbS.alloc hbS.size _)).four.2.1, (BV.below (hbS.alloc hbS.size _)).four.2.2.1, (BV.below (hbS.alloc hbS.size _)).four.2.2.2.1, (BG.below (hbS.alloc hbS.size _)).nine.1, (BG.below (hbS.alloc hbS.size _)).nine.2.1, (BG.below (hbS.alloc hbS.size _)).nine.2.2.1, (BG.below (hbS.alloc hbS.size _)).nine.2.2.2.1, (BG.below (hbS.alloc hbS.size _)).nine.2.2.2.2.1, (BG.below (hbS.alloc hbS.size _)).nine.2.2.2.2.2.1, (BG.below (hbS.alloc hbS.size _)).nine.2.2.2.2.2.2.1, (BG.below (hbS.alloc hbS.size _)).nine.2.2.2.2.2.2.2.1, (BG.below (hbS.alloc hbS.size _)).nine.2.2.2.2.2.2.2.2.1, (V0.below (hbS.alloc hbS.size _)).nine.1, (V0.below (hbS.alloc hbS.size _)).nine.2.1, (V0.below (hbS.alloc hbS.size _)).nine.2.2.1, (V0.below (hbS.alloc hbS.size _)).nine.2.2.2.1, (V0.below (hbS.alloc hbS.size _)).nine.2.2.2.2.1, (V0.below (hbS.alloc hbS.size _)).nine.2.2.2.2.2.1, (V0.below (hbS.alloc hbS.size _)).nine.2.2.2.2.2.2.1, (V0.below (hbS.alloc hbS.size _)).nine.2.2.2.2.2.2.2.1, (V0.below (hbS.alloc hbS.size _)).nine.2.2.2.2.2.2.2.2.1, (BX.below (hbS.alloc hbS.size _)).nine.1, (BX.below (hbS.alloc hbS.size _)).nine.2.1, (BX.below (hbS.alloc hbS.size _)).nine.2.2.1, (BX.below (hbS.alloc hbS.size _)).nine.2.2.2.1, (BX.below (hbS.alloc hbS.size _)).nine.2.2.2.2.1, (BX.below (hbS.alloc hbS.size _)).nine.2.2.2.2.2.1, (BX.below (hbS.alloc hbS.size _)).nine.2.2.2.2.2.2.1, (BX.below (hbS.alloc hbS.size _)).nine.2.2.2.2.2.2.2.1, (BX.below (hbS.alloc hbS.size _)).nine.2.2.2.2.2.2.2.2.1⟩ (fun hHeld => ?_)
          clear hK K
          try simp only [Act.put, List.setIfInBounds_toArray, List.set_cons_zero, List.set_cons_succ]
          have BA := Blk.new vd #[.slice none 0 0, .slice none 0 0, .int .i64 0, .int .i64 0, .int .i64 0, .int .i64 0, .int .i64 0, .int .i64 0, .int .i64 0] 70
          have hal : Below vd.heap.size vd (vd.alloc (.cells #[.slice none 0 0, .slice none 0 0, .int .i64 0, .int .i64 0, .int .i64 0, .int .i64 0, .int .i64 0, .int .i64 0, .int .i64 0] 70)) := (Below.refl _ _).alloc (Nat.le_refl _) _
          have hlN : vd.heap.size + 1 ≤ (vd.alloc (.cells #[.slice none 0 0, .slice none 0 0, .int .i64 0, .int .i64 0, .int .i64 0, .int .i64 0, .int .i64 0, .int .i64 0, .int .i64 0] 70)).heap.size ∧ (vd.alloc (.cells #[.slice none 0 0, .slice none 0 0, .int .i64 0, .int .i64 0, .int .i64 0, .int .i64 0, .int .i64 0, .int .i64 0, .int .i64 0] 70)).heap.size ≤ vd.heap.size + 1 := by simp
          have hzS := hbS.size
          replace hbS := chain hbS hal
          clear hal
          generalize vd.alloc (.cells #[.slice none 0 0, .slice none 0 0, .int .i64 0, .int .i64 0, .int .i64 0, .int .i64 0, .int .i64 0, .int .i64 0, .int .i64 0] 70) = wN at *
          refine wpAnyH_ready (rs := [1]) (by kernel_rfl) (by simp) ?_
          refine AllReadyH.cons (o := { dst := some 39, op := _, type := _, pos := _, after := _, guard := _ }) rfl (fun K hK => ?_) AllReadyH.nil
          go_simp
          refine (toVariant_any _ _ _ _ _).mono ?_
          rintro e wt0 ⟨rfl, hbt0⟩
          replace BA := BA.below hbt0
          have hz_hbt0 := hbt0.size
          replace hbS := chain hbS hbt0
          clear hbt0
          (try go_wp2_with fail)
          refine hK.out _ _ ⟨(BV.below hbS).four.1, (BV.below hbS).four.2.1, (BV.below hbS).four.2.2.1, (BV.below hbS).four.2.2.2.1, (BG.below hbS).nine.1, (BG.below hbS).nine.2.1, (BG.below hbS).nine.2.2.1, (BG.below hbS).nine.2.2.2.1, (BG.below hbS).nine.2.2.2.2.1, (BG.below hbS).nine.2.2.2.2.2.1, (BG.below hbS).nine.2.2.2.2.2.2.1, (BG.below hbS).nine.2.2.2.2.2.2.2.1, (BG.below hbS).nine.2.2.2.2.2.2.2.2.1, (V0.below hbS).nine.1, (V0.below hbS).nine.2.1, (V0.below hbS).nine.2.2.1, (V0.below hbS).nine.2.2.2.1, (V0.below hbS).nine.2.2.2.2.1, (V0.below hbS).nine.2.2.2.2.2.1, (V0.below hbS).nine.2.2.2.2.2.2.1, (V0.below hbS).nine.2.2.2.2.2.2.2.1, (V0.below hbS).nine.2.2.2.2.2.2.2.2.1, (BX.below hbS).nine.1, (BX.below hbS).nine.2.1, (BX.below hbS).nine.2.2.1, (BX.below hbS).nine.2.2.2.1, (BX.below hbS).nine.2.2.2.2.1, (BX.below hbS).nine.2.2.2.2.2.1, (BX.below hbS).nine.2.2.2.2.2.2.1, (BX.below hbS).nine.2.2.2.2.2.2.2.1, (BX.below hbS).nine.2.2.2.2.2.2.2.2.1⟩ (fun hHeld => ?_)
          clear hK K
          try simp only [Act.put, List.setIfInBounds_toArray, List.set_cons_zero, List.set_cons_succ]
          refine wpAnyH_ready (rs := [5]) (by kernel_rfl) (by simp) ?_
          refine AllReadyH.cons (o := { dst := some 43, op := _, type := _, pos := _, after := _, guard := _ }) rfl (fun K hK => ?_) AllReadyH.nil
          go_simp
          refine (HIM.out _ _ _ _ _ (OX.below hbS).irow1 (OX.below hbS).irow2).mono ?_
          rintro e wt1 ⟨d1, d2, k1, k2, rfl, hO, hbt1⟩
          replace BA := BA.below hbt1
          have hz_hbt1 := hbt1.size
          replace hbS := chain hbS hbt1
          clear hbt1
          (try go_wp2_with fail)
          refine hK.out _ _ ⟨(BV.below hbS).four.1, (BV.below hbS).four.2.1, (BV.below hbS).four.2.2.1, (BV.below hbS).four.2.2.2.1, (BG.below hbS).nine.1, (BG.below hbS).nine.2.1, (BG.below hbS).nine.2.2.1, (BG.below hbS).nine.2.2.2.1, (BG.below hbS).nine.2.2.2.2.1, (BG.below hbS).nine.2.2.2.2.2.1, (BG.below hbS).nine.2.2.2.2.2.2.1, (BG.below hbS).nine.2.2.2.2.2.2.2.1, (BG.below hbS).nine.2.2.2.2.2.2.2.2.1, (V0.below hbS).nine.1, (V0.below hbS).nine.2.1, (V0.below hbS).nine.2.2.1, (V0.below hbS).nine.2.2.2.1, (V0.below hbS).nine.2.2.2.2.1, (V0.below hbS).nine.2.2.2.2.2.1, (V0.below hbS).nine.2.2.2.2.2.2.1, (V0.below hbS).nine.2.2.2.2.2.2.2.1, (V0.below hbS).nine.2.2.2.2.2.2.2.2.1, (BX.below hbS).nine.1, (BX.below hbS).nine.2.1, (BX.below hbS).nine.2.2.1, (BX.below hbS).nine.2.2.2.1, (BX.below hbS).nine.2.2.2.2.1, (BX.below hbS).nine.2.2.2.2.2.1, (BX.below hbS).nine.2.2.2.2.2.2.1, (BX.below hbS).nine.2.2.2.2.2.2.2.1, (BX.below hbS).nine.2.2.2.2.2.2.2.2.1⟩ (fun hHeld => ?_)
          clear hK K
          try simp only [Act.put, List.setIfInBounds_toArray, List.set_cons_zero, List.set_cons_succ]
          refine wpAnyH_take (i := 6) (oi := { dst := some 37, op := _, type := _, pos := _, after := _, guard := _ }) (v := ?_) rfl (by kernel_rfl) (by kernel_rfl) (by kernel_rfl) (fun _ _ _ h => absurd h.1 (by simp)) (Or.inl ⟨by rfl, ?_⟩) (by assumption) ?_
          rotate_left
          · intro w hSw
            (try dsimp only at hSw)
            go_simp
            (try (with_reducible rfl))
          try simp only [Act.put, List.setIfInBounds_toArray, List.set_cons_zero, List.set_cons_succ]
          refine wpAnyH_take (i := 7) (oi := { dst := some 44, op := _, type := _, pos := _, after := _, guard := _ }) (v := ?_) rfl (by kernel_rfl) (by kernel_rfl) (by kernel_rfl) (fun _ _ _ h => absurd h.1 (by simp)) (Or.inl ⟨by rfl, ?_⟩) (by assumption) ?_
          rotate_left
          · intro w hSw
            (try dsimp only at hSw)
            go_simp
            (try (with_reducible rfl))
          try simp only [Act.put, List.setIfInBounds_toArray, List.set_cons_zero, List.set_cons_succ]
          refine wpAnyH_take (i := 8) (oi := { dst := some 45, op := _, type := _, pos := _, after := _, guard := _ }) (v := ?_) rfl (by kernel_rfl) (by kernel_rfl) (by kernel_rfl) (fun _ _ _ h => absurd h.1 (by simp)) (Or.inl ⟨by rfl, ?_⟩) (by assumption) ?_
          rotate_left
          · intro w hSw
            (try dsimp only at hSw)
            go_simp
            (try (with_reducible rfl))
          try simp only [Act.put, List.setIfInBounds_toArray, List.set_cons_zero, List.set_cons_succ]
          refine wpAnyH_ready (rs := [10]) (by kernel_rfl) (by simp) ?_
          refine AllReadyH.cons (o := { dst := none, op := _, type := _, pos := _, after := _, guard := _ }) rfl (fun K hK => ?_) AllReadyH.nil
          obtain ⟨go0, go1, go2, go3, go4, go5, go6, go7, go8, gof, gol⟩ := BA.nine
          go_simp
          (try go_wp2_with fail)
          refine hK.out _ _ ⟨(BV.below (below9s BA hbS (by omega))).four.1, (BV.below (below9s BA hbS (by omega))).four.2.1, (BV.below (below9s BA hbS (by omega))).four.2.2.1, (BV.below (below9s BA hbS (by omega))).four.2.2.2.1, (BG.below (below9s BA hbS (by omega))).nine.1, (BG.below (below9s BA hbS (by omega))).nine.2.1, (BG.below (below9s BA hbS (by omega))).nine.2.2.1, (BG.below (below9s BA hbS (by omega))).nine.2.2.2.1, (BG.below (below9s BA hbS (by omega))).nine.2.2.2.2.1, (BG.below (below9s BA hbS (by omega))).nine.2.2.2.2.2.1, (BG.below (below9s BA hbS (by omega))).nine.2.2.2.2.2.2.1, (BG.below (below9s BA hbS (by omega))).nine.2.2.2.2.2.2.2.1, (BG.below (below9s BA hbS (by omega))).nine.2.2.2.2.2.2.2.2.1, (V0.below (below9s BA hbS (by omega))).nine.1, (V0.below (below9s BA hbS (by omega))).nine.2.1, (V0.below (below9s BA hbS (by omega))).nine.2.2.1, (V0.below (below9s BA hbS (by omega))).nine.2.2.2.1, (V0.below (below9s BA hbS (by omega))).nine.2.2.2.2.1, (V0.below (below9s BA hbS (by omega))).nine.2.2.2.2.2.1, (V0.below (below9s BA hbS (by omega))).nine.2.2.2.2.2.2.1, (V0.below (below9s BA hbS (by omega))).nine.2.2.2.2.2.2.2.1, (V0.below (below9s BA hbS (by omega))).nine.2.2.2.2.2.2.2.2.1, (BX.below (below9s BA hbS (by omega))).nine.1, (BX.below (below9s BA hbS (by omega))).nine.2.1, (BX.below (below9s BA hbS (by omega))).nine.2.2.1, (BX.below (below9s BA hbS (by omega))).nine.2.2.2.1, (BX.below (below9s BA hbS (by omega))).nine.2.2.2.2.1, (BX.below (below9s BA hbS (by omega))).nine.2.2.2.2.2.1, (BX.below (below9s BA hbS (by omega))).nine.2.2.2.2.2.2.1, (BX.below (below9s BA hbS (by omega))).nine.2.2.2.2.2.2.2.1, (BX.below (below9s BA hbS (by omega))).nine.2.2.2.2.2.2.2.2.1⟩ (fun hHeld => ?_)
          clear hK K
          try simp only [Act.put, List.setIfInBounds_toArray, List.set_cons_zero, List.set_cons_succ]
          refine wpAnyH_take (i := 11) (oi := { dst := some 14, op := _, type := _, pos := _, after := _, guard := _ }) (v := ?_) rfl (by kernel_rfl) (by kernel_rfl) (by kernel_rfl) (fun _ _ _ h => absurd h.1 (by simp)) (Or.inl ⟨by rfl, ?_⟩) (by assumption) ?_
          rotate_left
          · intro w hSw
            (try dsimp only at hSw)
            go_simp
            (try (with_reducible rfl))
          try simp only [Act.put, List.setIfInBounds_toArray, List.set_cons_zero, List.set_cons_succ]
          refine wpAnyH_done (by kernel_rfl) ?_ _
          rw [HJ.out]
          refine ⟨rfl, _, d1, d2, k1, k2, _, _, ?_, BA.setG9 _ _ _ _ _ _ _ _ _, hO.farG9 ?_ _ _ _ _ _ _ _ _ _, ⟨?_, ?_, ?_, ?_⟩, below9s BA hbS (by omega)⟩
          · simp only [Act.put, List.setIfInBounds_toArray, List.set_cons_zero, List.set_cons_succ]
          all_goals (first | omega | (simp <;> omega))
      · intro a' w4 hj
        rw [HJ.out] at hj
        clear HJ
        obtain ⟨BV1, d1V1, d2V1, k1V1, k2V1, loV1, hiV1, rfl, V1, OV1, ⟨e1V1, e2V1, e3V1, e4V1⟩, hbS⟩ := hj
        try simp only [Act.put, List.setIfInBounds_toArray, List.set_cons_zero, List.set_cons_succ]
        replace BV := BV.below hbS
        replace BG := BG.below hbS
        replace r1 := r1.below hbS
        replace r2 := r2.below hbS
        replace V0 := V0.below hbS
        replace OV0 := OV0.below hbS
        replace OX := OX.below hbS
        replace BX := BX.below hbS
        have hz4 := hbS.size
        replace hb := chain hb hbS
        clear hbS
        have e5V1 := V1.lt
        obtain ⟨q0_BV, q1_BV, q2_BV, q3_BV, qf_BV, ql_BV⟩ := BV.four
        obtain ⟨q0_BG, q1_BG, q2_BG, q3_BG, q4_BG, q5_BG, q6_BG, q7_BG, q8_BG, qf_BG, ql_BG⟩ := BG.nine
        obtain ⟨q0_V0, q1_V0, q2_V0, q3_V0, q4_V0, q5_V0, q6_V0, q7_V0, q8_V0, qf_V0, ql_V0⟩ := V0.nine
        obtain ⟨q0_BX, q1_BX, q2_BX, q3_BX, q4_BX, q5_BX, q6_BX, q7_BX, q8_BX, qf_BX, ql_BX⟩ := BX.nine
        obtain ⟨q0_V1, q1_V1, q2_V1, q3_V1, q4_V1, q5_V1, q6_V1, q7_V1, q8_V1, qf_V1, ql_V1⟩ := V1.nine
        go_wp2_with fail
        clear q0_BV q1_BV q2_BV q3_BV qf_BV ql_BV
        clear q0_BG q1_BG q2_BG q3_BG q4_BG q5_BG q6_BG q7_BG q8_BG qf_BG ql_BG
        clear q0_V0 q1_V0 q2_V0 q3_V0 q4_V0 q5_V0 q6_V0 q7_V0 q8_V0 qf_V0 ql_V0
        clear q0_BX q1_BX q2_BX q3_BX q4_BX q5_BX q6_BX q7_BX q8_BX qf_BX ql_BX
        clear q0_V1 q1_V1 q2_V1 q3_V1 q4_V1 q5_V1 q6_V1 q7_V1 q8_V1 qf_V1 ql_V1
        refine (eqGame_same X _ _ _ _ _ _ _ _ _ lX lY OV1.irow1 OV1.irow2 OV0.irow1 OV0.irow2).mono ?_
        rintro e w5 ⟨rfl, hb5⟩
        replace BV := BV.below hb5
        replace BG := BG.below hb5
        replace r1 := r1.below hb5
        replace r2 := r2.below hb5
        replace V0 := V0.below hb5
        replace OV0 := OV0.below hb5
        replace OX := OX.below hb5
        replace BX := BX.below hb5
        replace V1 := V1.below hb5
        replace OV1 := OV1.below hb5
        have hz5 := hb5.size
        replace hb := chain hb hb5
        clear hb5
        obtain ⟨q0_BV, q1_BV, q2_BV, q3_BV, qf_BV, ql_BV⟩ := BV.four
        obtain ⟨q0_BG, q1_BG, q2_BG, q3_BG, q4_BG, q5_BG, q6_BG, q7_BG, q8_BG, qf_BG, ql_BG⟩ := BG.nine
        obtain ⟨q0_V0, q1_V0, q2_V0, q3_V0, q4_V0, q5_V0, q6_V0, q7_V0, q8_V0, qf_V0, ql_V0⟩ := V0.nine
        obtain ⟨q0_BX, q1_BX, q2_BX, q3_BX, q4_BX, q5_BX, q6_BX, q7_BX, q8_BX, qf_BX, ql_BX⟩ := BX.nine
        obtain ⟨q0_V1, q1_V1, q2_V1, q3_V1, q4_V1, q5_V1, q6_V1, q7_V1, q8_V1, qf_V1, ql_V1⟩ := V1.nine
        go_wp2_with fail
        clear q0_BV q1_BV q2_BV q3_BV qf_BV ql_BV
        clear q0_BG q1_BG q2_BG q3_BG q4_BG q5_BG q6_BG q7_BG q8_BG qf_BG ql_BG
        clear q0_V0 q1_V0 q2_V0 q3_V0 q4_V0 q5_V0 q6_V0 q7_V0 q8_V0 qf_V0 ql_V0
        clear q0_BX q1_BX q2_BX q3_BX q4_BX q5_BX q6_BX q7_BX q8_BX qf_BX ql_BX
        clear q0_V1 q1_V1 q2_V1 q3_V1 q4_V1 q5_V1 q6_V1 q7_V1 q8_V1 qf_V1 ql_V1
        have hd6 : w5.drew.heap.size = w5.heap.size := rfl
        replace BV := BV.drew
        replace BG := BG.drew
        replace r1 := r1.drew
        replace r2 := r2.drew
        replace V0 := V0.drew
        replace OV0 := OV0.drew
        replace OX := OX.drew
        replace BX := BX.drew
        replace V1 := V1.drew
        replace OV1 := OV1.drew
        replace hb := hb.drew
        refine wp_region_held_drew (S := fun w' => w'.cell? ⟨w.heap.size, 0, none⟩ = some (.int .i64 p) ∧ w'.cell? ⟨w.heap.size, 1, none⟩ = some (.int .i64 c) ∧ w'.cell? ⟨w.heap.size, 2, none⟩ = some (.int .i64 h) ∧ w'.cell? ⟨w.heap.size, 3, none⟩ = some (.int .i64 s) ∧ w'.cell? ⟨(w.heap.size + 1), 0, none⟩ = some (.slice a1 G.xs.length c1) ∧ w'.cell? ⟨(w.heap.size + 1), 1, none⟩ = some (.slice a2 G.ys.length c2) ∧ w'.cell? ⟨(w.heap.size + 1), 2, none⟩ = some (.int .i64 G.pl) ∧ w'.cell? ⟨(w.heap.size + 1), 3, none⟩ = some (.int .i64 G.ra) ∧ w'.cell? ⟨(w.heap.size + 1), 4, none⟩ = some (.int .i64 G.rb) ∧ w'.cell? ⟨(w.heap.size + 1), 5, none⟩ = some (.int .i64 G.ph) ∧ w'.cell? ⟨(w.heap.size + 1), 6, none⟩ = some (.int .i64 G.wi) ∧ w'.cell? ⟨(w.heap.size + 1), 7, none⟩ = some (.int .i64 G.re) ∧ w'.cell? ⟨(w.heap.size + 1), 8, none⟩ = some (.int .i64 G.tu) ∧ w'.cell? ⟨BV0, 0, none⟩ = some (.slice d1V0 X.xs.length k1V0) ∧ w'.cell? ⟨BV0, 1, none⟩ = some (.slice d2V0 X.ys.length k2V0) ∧ w'.cell? ⟨BV0, 2, none⟩ = some (.int .i64 X.pl) ∧ w'.cell? ⟨BV0, 3, none⟩ = some (.int .i64 X.ra) ∧ w'.cell? ⟨BV0, 4, none⟩ = some (.int .i64 X.rb) ∧ w'.cell? ⟨BV0, 5, none⟩ = some (.int .i64 X.ph) ∧ w'.cell? ⟨BV0, 6, none⟩ = some (.int .i64 X.wi) ∧ w'.cell? ⟨BV0, 7, none⟩ = some (.int .i64 X.re) ∧ w'.cell? ⟨BV0, 8, none⟩ = some (.int .i64 X.tu) ∧ w'.cell? ⟨w2.heap.size, 0, none⟩ = some (.slice (some ⟨b1, 0, none⟩) G.xs.length G.xs.length) ∧ w'.cell? ⟨w2.heap.size, 1, none⟩ = some (.slice (some ⟨b2, 0, none⟩) G.ys.length G.ys.length) ∧ w'.cell? ⟨w2.heap.size, 2, none⟩ = some (.int .i64 G.pl) ∧ w'.cell? ⟨w2.heap.size, 3, none⟩ = some (.int .i64 G.ra) ∧ w'.cell? ⟨w2.heap.size, 4, none⟩ = some (.int .i64 G.rb) ∧ w'.cell? ⟨w2.heap.size, 5, none⟩ = some (.int .i64 G.ph) ∧ w'.cell? ⟨w2.heap.size, 6, none⟩ = some (.int .i64 G.wi) ∧ w'.cell? ⟨w2.heap.size, 7, none⟩ = some (.int .i64 G.re) ∧ w'.cell? ⟨w2.heap.size, 8, none⟩ = some (.int .i64 G.tu) ∧ w'.cell? ⟨BV1, 0, none⟩ = some (.slice d1V1 X.xs.length k1V1) ∧ w'.cell? ⟨BV1, 1, none⟩ = some (.slice d2V1 X.ys.length k2V1) ∧ w'.cell? ⟨BV1, 2, none⟩ = some (.int .i64 X.pl) ∧ w'.cell? ⟨BV1, 3, none⟩ = some (.int .i64 X.ra) ∧ w'.cell? ⟨BV1, 4, none⟩ = some (.int .i64 X.rb) ∧ w'.cell? ⟨BV1, 5, none⟩ = some (.int .i64 X.ph) ∧ w'.cell? ⟨BV1, 6, none⟩ = some (.int .i64 X.wi) ∧ w'.cell? ⟨BV1, 7, none⟩ = some (.int .i64 X.re) ∧ w'.cell? ⟨BV1, 8, none⟩ = some (.int .i64 X.tu)) (by kernel_rfl) ⟨BV.four.1, BV.four.2.1, BV.four.2.2.1, BV.four.2.2.2.1, BG.nine.1, BG.nine.2.1, BG.nine.2.2.1, BG.nine.2.2.2.1, BG.nine.2.2.2.2.1, BG.nine.2.2.2.2.2.1, BG.nine.2.2.2.2.2.2.1, BG.nine.2.2.2.2.2.2.2.1, BG.nine.2.2.2.2.2.2.2.2.1, V0.nine.1, V0.nine.2.1, V0.nine.2.2.1, V0.nine.2.2.2.1, V0.nine.2.2.2.2.1, V0.nine.2.2.2.2.2.1, V0.nine.2.2.2.2.2.2.1, V0.nine.2.2.2.2.2.2.2.1, V0.nine.2.2.2.2.2.2.2.2.1, BX.nine.1, BX.nine.2.1, BX.nine.2.2.1, BX.nine.2.2.2.1, BX.nine.2.2.2.2.1, BX.nine.2.2.2.2.2.1, BX.nine.2.2.2.2.2.2.1, BX.nine.2.2.2.2.2.2.2.1, BX.nine.2.2.2.2.2.2.2.2.1, V1.nine.1, V1.nine.2.1, V1.nine.2.2.1, V1.nine.2.2.2.1, V1.nine.2.2.2.2.1, V1.nine.2.2.2.2.2.1, V1.nine.2.2.2.2.2.2.1, V1.nine.2.2.2.2.2.2.2.1, V1.nine.2.2.2.2.2.2.2.2.1⟩ (fun hHeld => ?_)
        clear hHeld
        generalize w5.drew = vd6 at *
        have hHeld : vd6.cell? ⟨w.heap.size, 0, none⟩ = some (.int .i64 p) ∧ vd6.cell? ⟨w.heap.size, 1, none⟩ = some (.int .i64 c) ∧ vd6.cell? ⟨w.heap.size, 2, none⟩ = some (.int .i64 h) ∧ vd6.cell? ⟨w.heap.size, 3, none⟩ = some (.int .i64 s) ∧ vd6.cell? ⟨(w.heap.size + 1), 0, none⟩ = some (.slice a1 G.xs.length c1) ∧ vd6.cell? ⟨(w.heap.size + 1), 1, none⟩ = some (.slice a2 G.ys.length c2) ∧ vd6.cell? ⟨(w.heap.size + 1), 2, none⟩ = some (.int .i64 G.pl) ∧ vd6.cell? ⟨(w.heap.size + 1), 3, none⟩ = some (.int .i64 G.ra) ∧ vd6.cell? ⟨(w.heap.size + 1), 4, none⟩ = some (.int .i64 G.rb) ∧ vd6.cell? ⟨(w.heap.size + 1), 5, none⟩ = some (.int .i64 G.ph) ∧ vd6.cell? ⟨(w.heap.size + 1), 6, none⟩ = some (.int .i64 G.wi) ∧ vd6.cell? ⟨(w.heap.size + 1), 7, none⟩ = some (.int .i64 G.re) ∧ vd6.cell? ⟨(w.heap.size + 1), 8, none⟩ = some (.int .i64 G.tu) ∧ vd6.cell? ⟨BV0, 0, none⟩ = some (.slice d1V0 X.xs.length k1V0) ∧ vd6.cell? ⟨BV0, 1, none⟩ = some (.slice d2V0 X.ys.length k2V0) ∧ vd6.cell? ⟨BV0, 2, none⟩ = some (.int .i64 X.pl) ∧ vd6.cell? ⟨BV0, 3, none⟩ = some (.int .i64 X.ra) ∧ vd6.cell? ⟨BV0, 4, none⟩ = some (.int .i64 X.rb) ∧ vd6.cell? ⟨BV0, 5, none⟩ = some (.int .i64 X.ph) ∧ vd6.cell? ⟨BV0, 6, none⟩ = some (.int .i64 X.wi) ∧ vd6.cell? ⟨BV0, 7, none⟩ = some (.int .i64 X.re) ∧ vd6.cell? ⟨BV0, 8, none⟩ = some (.int .i64 X.tu) ∧ vd6.cell? ⟨w2.heap.size, 0, none⟩ = some (.slice (some ⟨b1, 0, none⟩) G.xs.length G.xs.length) ∧ vd6.cell? ⟨w2.heap.size, 1, none⟩ = some (.slice (some ⟨b2, 0, none⟩) G.ys.length G.ys.length) ∧ vd6.cell? ⟨w2.heap.size, 2, none⟩ = some (.int .i64 G.pl) ∧ vd6.cell? ⟨w2.heap.size, 3, none⟩ = some (.int .i64 G.ra) ∧ vd6.cell? ⟨w2.heap.size, 4, none⟩ = some (.int .i64 G.rb) ∧ vd6.cell? ⟨w2.heap.size, 5, none⟩ = some (.int .i64 G.ph) ∧ vd6.cell? ⟨w2.heap.size, 6, none⟩ = some (.int .i64 G.wi) ∧ vd6.cell? ⟨w2.heap.size, 7, none⟩ = some (.int .i64 G.re) ∧ vd6.cell? ⟨w2.heap.size, 8, none⟩ = some (.int .i64 G.tu) ∧ vd6.cell? ⟨BV1, 0, none⟩ = some (.slice d1V1 X.xs.length k1V1) ∧ vd6.cell? ⟨BV1, 1, none⟩ = some (.slice d2V1 X.ys.length k2V1) ∧ vd6.cell? ⟨BV1, 2, none⟩ = some (.int .i64 X.pl) ∧ vd6.cell? ⟨BV1, 3, none⟩ = some (.int .i64 X.ra) ∧ vd6.cell? ⟨BV1, 4, none⟩ = some (.int .i64 X.rb) ∧ vd6.cell? ⟨BV1, 5, none⟩ = some (.int .i64 X.ph) ∧ vd6.cell? ⟨BV1, 6, none⟩ = some (.int .i64 X.wi) ∧ vd6.cell? ⟨BV1, 7, none⟩ = some (.int .i64 X.re) ∧ vd6.cell? ⟨BV1, 8, none⟩ = some (.int .i64 X.tu) := ⟨BV.four.1, BV.four.2.1, BV.four.2.2.1, BV.four.2.2.2.1, BG.nine.1, BG.nine.2.1, BG.nine.2.2.1, BG.nine.2.2.2.1, BG.nine.2.2.2.2.1, BG.nine.2.2.2.2.2.1, BG.nine.2.2.2.2.2.2.1, BG.nine.2.2.2.2.2.2.2.1, BG.nine.2.2.2.2.2.2.2.2.1, V0.nine.1, V0.nine.2.1, V0.nine.2.2.1, V0.nine.2.2.2.1, V0.nine.2.2.2.2.1, V0.nine.2.2.2.2.2.1, V0.nine.2.2.2.2.2.2.1, V0.nine.2.2.2.2.2.2.2.1, V0.nine.2.2.2.2.2.2.2.2.1, BX.nine.1, BX.nine.2.1, BX.nine.2.2.1, BX.nine.2.2.2.1, BX.nine.2.2.2.2.1, BX.nine.2.2.2.2.2.1, BX.nine.2.2.2.2.2.2.1, BX.nine.2.2.2.2.2.2.2.1, BX.nine.2.2.2.2.2.2.2.2.1, V1.nine.1, V1.nine.2.1, V1.nine.2.2.1, V1.nine.2.2.2.1, V1.nine.2.2.2.2.1, V1.nine.2.2.2.2.2.1, V1.nine.2.2.2.2.2.2.1, V1.nine.2.2.2.2.2.2.2.1, V1.nine.2.2.2.2.2.2.2.2.1⟩
        refine wpAnyH_take (i := 0) (oi := { dst := some 55, op := _, type := _, pos := _, after := _, guard := _ }) (v := ?_) rfl (by kernel_rfl) (by kernel_rfl) (by kernel_rfl) (fun _ _ _ h => h) (Or.inl ⟨by rfl, ?_⟩) (by assumption) ?_
        rotate_left
        · intro w hSw
          (try dsimp only at hSw)
          go_simp
          (try (with_reducible rfl))
        try simp only [Act.put, List.setIfInBounds_toArray, List.set_cons_zero, List.set_cons_succ]
        refine wpAnyH_take (i := 1) (oi := { dst := some 56, op := _, type := _, pos := _, after := _, guard := _ }) (v := ?_) rfl (by kernel_rfl) (by kernel_rfl) (by kernel_rfl) (fun _ _ _ h => h) (Or.inl ⟨by rfl, ?_⟩) (by assumption) ?_
        rotate_left
        · intro w hSw
          (try dsimp only at hSw)
          go_simp
          (try (with_reducible rfl))
        try simp only [Act.put, List.setIfInBounds_toArray, List.set_cons_zero, List.set_cons_succ]
        refine wpAnyH_ready (rs := [2]) (by kernel_rfl) (by simp) ?_
        refine AllReadyH.cons (o := { dst := some 57, op := _, type := _, pos := _, after := _, guard := _ }) rfl (fun K hK => ?_) AllReadyH.nil
        go_simp
        refine (toGame_any G a1 a2 c1 c2 _ l1 l2 r1 r2).mono ?_
        rintro e w7 ⟨q1, q2, rfl, gg1, gg2, R1, R2, hb7⟩
        replace BV := BV.below hb7
        replace BG := BG.below hb7
        replace r1 := r1.below hb7
        replace r2 := r2.below hb7
        replace V0 := V0.below hb7
        replace OV0 := OV0.below hb7
        replace OX := OX.below hb7
        replace BX := BX.below hb7
        replace V1 := V1.below hb7
        replace OV1 := OV1.below hb7
        have hz7 := hb7.size
        replace hb := chain hb hb7
        clear hb7
        (try go_wp2_with fail)
        refine hK.out _ _ ⟨BV.four.1, BV.four.2.1, BV.four.2.2.1, BV.four.2.2.2.1, BG.nine.1, BG.nine.2.1, BG.nine.2.2.1, BG.nine.2.2.2.1, BG.nine.2.2.2.2.1, BG.nine.2.2.2.2.2.1, BG.nine.2.2.2.2.2.2.1, BG.nine.2.2.2.2.2.2.2.1, BG.nine.2.2.2.2.2.2.2.2.1, V0.nine.1, V0.nine.2.1, V0.nine.2.2.1, V0.nine.2.2.2.1, V0.nine.2.2.2.2.1, V0.nine.2.2.2.2.2.1, V0.nine.2.2.2.2.2.2.1, V0.nine.2.2.2.2.2.2.2.1, V0.nine.2.2.2.2.2.2.2.2.1, BX.nine.1, BX.nine.2.1, BX.nine.2.2.1, BX.nine.2.2.2.1, BX.nine.2.2.2.2.1, BX.nine.2.2.2.2.2.1, BX.nine.2.2.2.2.2.2.1, BX.nine.2.2.2.2.2.2.2.1, BX.nine.2.2.2.2.2.2.2.2.1, V1.nine.1, V1.nine.2.1, V1.nine.2.2.1, V1.nine.2.2.2.1, V1.nine.2.2.2.2.1, V1.nine.2.2.2.2.2.1, V1.nine.2.2.2.2.2.2.1, V1.nine.2.2.2.2.2.2.2.1, V1.nine.2.2.2.2.2.2.2.2.1⟩ (fun hHeld => ?_)
        clear hK K
        try simp only [Act.put, List.setIfInBounds_toArray, List.set_cons_zero, List.set_cons_succ]
        refine wpAnyH_ready (rs := [3]) (by kernel_rfl) (by simp) ?_
        refine AllReadyH.cons (o := { dst := some 58, op := _, type := _, pos := _, after := _, guard := _ }) rfl (fun K hK => ?_) AllReadyH.nil
        go_simp
        refine (eqGame_same G _ _ _ _ _ _ _ _ _ l1 l2 OX.irow1 OX.irow2 R1.irow R2.irow).mono ?_
        rintro e w8 ⟨rfl, hb8⟩
        replace BV := BV.below hb8
        replace BG := BG.below hb8
        replace r1 := r1.below hb8
        replace r2 := r2.below hb8
        replace V0 := V0.below hb8
        replace OV0 := OV0.below hb8
        replace OX := OX.below hb8
        replace BX := BX.below hb8
        replace V1 := V1.below hb8
        replace OV1 := OV1.below hb8
        replace R1 := R1.below hb8
        replace R2 := R2.below hb8
        have hz8 := hb8.size
        replace hb := chain hb hb8
        clear hb8
        (try go_wp2_with fail)
        refine hK.out _ _ ⟨BV.four.1, BV.four.2.1, BV.four.2.2.1, BV.four.2.2.2.1, BG.nine.1, BG.nine.2.1, BG.nine.2.2.1, BG.nine.2.2.2.1, BG.nine.2.2.2.2.1, BG.nine.2.2.2.2.2.1, BG.nine.2.2.2.2.2.2.1, BG.nine.2.2.2.2.2.2.2.1, BG.nine.2.2.2.2.2.2.2.2.1, V0.nine.1, V0.nine.2.1, V0.nine.2.2.1, V0.nine.2.2.2.1, V0.nine.2.2.2.2.1, V0.nine.2.2.2.2.2.1, V0.nine.2.2.2.2.2.2.1, V0.nine.2.2.2.2.2.2.2.1, V0.nine.2.2.2.2.2.2.2.2.1, BX.nine.1, BX.nine.2.1, BX.nine.2.2.1, BX.nine.2.2.2.1, BX.nine.2.2.2.2.1, BX.nine.2.2.2.2.2.1, BX.nine.2.2.2.2.2.2.1, BX.nine.2.2.2.2.2.2.2.1, BX.nine.2.2.2.2.2.2.2.2.1, V1.nine.1, V1.nine.2.1, V1.nine.2.2.1, V1.nine.2.2.2.1, V1.nine.2.2.2.2.1, V1.nine.2.2.2.2.2.1, V1.nine.2.2.2.2.2.2.1, V1.nine.2.2.2.2.2.2.2.1, V1.nine.2.2.2.2.2.2.2.2.1⟩ (fun hHeld => ?_)
        clear hK K
        try simp only [Act.put, List.setIfInBounds_toArray, List.set_cons_zero, List.set_cons_succ]
        refine wpAnyH_take (i := 4) (oi := { dst := some 59, op := _, type := _, pos := _, after := _, guard := _ }) (v := ?_) rfl (by kernel_rfl) (by kernel_rfl) (by kernel_rfl) (fun _ _ _ h => h) (Or.inl ⟨by rfl, ?_⟩) (by assumption) ?_
        rotate_left
        · intro w hSw
          (try dsimp only at hSw)
          go_simp
          (try (with_reducible rfl))
        try simp only [Act.put, List.setIfInBounds_toArray, List.set_cons_zero, List.set_cons_succ]
        refine wpAnyH_done (by kernel_rfl) ?_ _
        clear hHeld
        clear R1 R2 gg1 gg2
        have hr1k := r1
        have hr2k := r2
        obtain ⟨q0_BV, q1_BV, q2_BV, q3_BV, qf_BV, ql_BV⟩ := BV.four
        obtain ⟨q0_BG, q1_BG, q2_BG, q3_BG, q4_BG, q5_BG, q6_BG, q7_BG, q8_BG, qf_BG, ql_BG⟩ := BG.nine
        obtain ⟨q0_V0, q1_V0, q2_V0, q3_V0, q4_V0, q5_V0, q6_V0, q7_V0, q8_V0, qf_V0, ql_V0⟩ := V0.nine
        obtain ⟨q0_BX, q1_BX, q2_BX, q3_BX, q4_BX, q5_BX, q6_BX, q7_BX, q8_BX, qf_BX, ql_BX⟩ := BX.nine
        obtain ⟨q0_V1, q1_V1, q2_V1, q3_V1, q4_V1, q5_V1, q6_V1, q7_V1, q8_V1, qf_V1, ql_V1⟩ := V1.nine
        go_wp2_with fail
        clear q0_BV q1_BV q2_BV q3_BV qf_BV ql_BV
        clear q0_BG q1_BG q2_BG q3_BG q4_BG q5_BG q6_BG q7_BG q8_BG qf_BG ql_BG
        clear q0_V0 q1_V0 q2_V0 q3_V0 q4_V0 q5_V0 q6_V0 q7_V0 q8_V0 qf_V0 ql_V0
        clear q0_BX q1_BX q2_BX q3_BX q4_BX q5_BX q6_BX q7_BX q8_BX qf_BX ql_BX
        clear q0_V1 q1_V1 q2_V1 q3_V1 q4_V1 q5_V1 q6_V1 q7_V1 q8_V1 qf_V1 ql_V1
        refine (markGame_own _ _ G _ _ _ _ 1 _ l1 l2 (by omega) (by omega) (by omega) OX).mono ?_
        rintro e w9 ⟨rfl, OX, hs9⟩
        replace BV := BV.same hs9 (by omega)
        replace BG := BG.same hs9 (by omega)
        replace V0 := V0.same hs9 (by omega)
        replace OV0 := OV0.same hs9 (by omega)
        replace BX := BX.same hs9 (by omega)
        replace V1 := V1.same hs9 (by omega)
        replace OV1 := OV1.same hs9 (by omega)
        have hz9 := hs9.size
        replace hb := below_same hb hs9 (by omega) (by omega)
        clear hs9
        have hk0 : ¬ ((1 : Int) + (G.xs.length : Int) + (G.ys.length : Int) < 0) := by omega
        have hq0 : ¬ ((1 : Int) + (X.xs.length : Int) + (X.ys.length : Int) < 0) := by omega
        clear OX hr1k hr2k r1 r2
        have r1 := r10.below hb
        have r2 := r20.below hb
        obtain ⟨q0_BV, q1_BV, q2_BV, q3_BV, qf_BV, ql_BV⟩ := BV.four
        obtain ⟨q0_BG, q1_BG, q2_BG, q3_BG, q4_BG, q5_BG, q6_BG, q7_BG, q8_BG, qf_BG, ql_BG⟩ := BG.nine
        obtain ⟨q0_V0, q1_V0, q2_V0, q3_V0, q4_V0, q5_V0, q6_V0, q7_V0, q8_V0, qf_V0, ql_V0⟩ := V0.nine
        obtain ⟨q0_BX, q1_BX, q2_BX, q3_BX, q4_BX, q5_BX, q6_BX, q7_BX, q8_BX, qf_BX, ql_BX⟩ := BX.nine
        obtain ⟨q0_V1, q1_V1, q2_V1, q3_V1, q4_V1, q5_V1, q6_V1, q7_V1, q8_V1, qf_V1, ql_V1⟩ := V1.nine
        go_wp2_with fail
        clear q0_BV q1_BV q2_BV q3_BV qf_BV ql_BV
        clear q0_BG q1_BG q2_BG q3_BG q4_BG q5_BG q6_BG q7_BG q8_BG qf_BG ql_BG
        clear q0_V0 q1_V0 q2_V0 q3_V0 q4_V0 q5_V0 q6_V0 q7_V0 q8_V0 qf_V0 ql_V0
        clear q0_BX q1_BX q2_BX q3_BX q4_BX q5_BX q6_BX q7_BX q8_BX qf_BX ql_BX
        clear q0_V1 q1_V1 q2_V1 q3_V1 q4_V1 q5_V1 q6_V1 q7_V1 q8_V1 qf_V1 ql_V1
        refine (eqGame_same X _ _ _ _ _ _ _ _ _ lX lY OV1.irow1 OV1.irow2 OV0.irow1 OV0.irow2).mono ?_
        rintro e w10 ⟨rfl, hb10⟩
        replace BV := BV.below hb10
        replace BG := BG.below hb10
        replace V0 := V0.below hb10
        replace OV0 := OV0.below hb10
        replace BX := BX.below hb10
        replace V1 := V1.below hb10
        replace OV1 := OV1.below hb10
        replace r1 := r1.below hb10
        replace r2 := r2.below hb10
        have hz10 := hb10.size
        replace hb := chain hb hb10
        clear hb10
        clear r1 r2
        obtain ⟨q0_BV, q1_BV, q2_BV, q3_BV, qf_BV, ql_BV⟩ := BV.four
        obtain ⟨q0_BG, q1_BG, q2_BG, q3_BG, q4_BG, q5_BG, q6_BG, q7_BG, q8_BG, qf_BG, ql_BG⟩ := BG.nine
        obtain ⟨q0_V0, q1_V0, q2_V0, q3_V0, q4_V0, q5_V0, q6_V0, q7_V0, q8_V0, qf_V0, ql_V0⟩ := V0.nine
        obtain ⟨q0_BX, q1_BX, q2_BX, q3_BX, q4_BX, q5_BX, q6_BX, q7_BX, q8_BX, qf_BX, ql_BX⟩ := BX.nine
        obtain ⟨q0_V1, q1_V1, q2_V1, q3_V1, q4_V1, q5_V1, q6_V1, q7_V1, q8_V1, qf_V1, ql_V1⟩ := V1.nine
        go_wp2_with fail
        clear q0_BV q1_BV q2_BV q3_BV qf_BV ql_BV
        clear q0_BG q1_BG q2_BG q3_BG q4_BG q5_BG q6_BG q7_BG q8_BG qf_BG ql_BG
        clear q0_V0 q1_V0 q2_V0 q3_V0 q4_V0 q5_V0 q6_V0 q7_V0 q8_V0 qf_V0 ql_V0
        clear q0_BX q1_BX q2_BX q3_BX q4_BX q5_BX q6_BX q7_BX q8_BX qf_BX ql_BX
        clear q0_V1 q1_V1 q2_V1 q3_V1 q4_V1 q5_V1 q6_V1 q7_V1 q8_V1 qf_V1 ql_V1
        refine (markGame_own _ _ X _ _ _ _ 1 _ lX lY (by omega) (by omega) (by omega) OV1).mono ?_
        rintro e w11 ⟨rfl, OV1, hs11⟩
        replace BV := BV.same hs11 (by omega)
        replace BG := BG.same hs11 (by omega)
        replace V0 := V0.same hs11 (by omega)
        replace OV0 := OV0.same hs11 (by omega)
        replace BX := BX.same hs11 (by omega)
        replace V1 := V1.same hs11 (by omega)
        have hz11 := hs11.size
        replace hb := below_same hb hs11 (by omega) (by omega)
        clear hs11
        have r1 := r10.below hb
        have r2 := r20.below hb
        obtain ⟨q0_BV, q1_BV, q2_BV, q3_BV, qf_BV, ql_BV⟩ := BV.four
        obtain ⟨q0_BG, q1_BG, q2_BG, q3_BG, q4_BG, q5_BG, q6_BG, q7_BG, q8_BG, qf_BG, ql_BG⟩ := BG.nine
        obtain ⟨q0_V0, q1_V0, q2_V0, q3_V0, q4_V0, q5_V0, q6_V0, q7_V0, q8_V0, qf_V0, ql_V0⟩ := V0.nine
        obtain ⟨q0_BX, q1_BX, q2_BX, q3_BX, q4_BX, q5_BX, q6_BX, q7_BX, q8_BX, qf_BX, ql_BX⟩ := BX.nine
        obtain ⟨q0_V1, q1_V1, q2_V1, q3_V1, q4_V1, q5_V1, q6_V1, q7_V1, q8_V1, qf_V1, ql_V1⟩ := V1.nine
        go_wp2_with fail
        clear q0_BV q1_BV q2_BV q3_BV qf_BV ql_BV
        clear q0_BG q1_BG q2_BG q3_BG q4_BG q5_BG q6_BG q7_BG q8_BG qf_BG ql_BG
        clear q0_V0 q1_V0 q2_V0 q3_V0 q4_V0 q5_V0 q6_V0 q7_V0 q8_V0 qf_V0 ql_V0
        clear q0_BX q1_BX q2_BX q3_BX q4_BX q5_BX q6_BX q7_BX q8_BX qf_BX ql_BX
        clear q0_V1 q1_V1 q2_V1 q3_V1 q4_V1 q5_V1 q6_V1 q7_V1 q8_V1 qf_V1 ql_V1
        refine (heldGame_any X _ _ _ _ 1 _ lX lY (by omega) (by omega) OV1.irow1 OV1.irow2).mono ?_
        rintro e w12 ⟨rfl, hb12⟩
        replace BV := BV.below hb12
        replace BG := BG.below hb12
        replace V0 := V0.below hb12
        replace OV0 := OV0.below hb12
        replace BX := BX.below hb12
        replace V1 := V1.below hb12
        replace OV1 := OV1.below hb12
        replace r1 := r1.below hb12
        replace r2 := r2.below hb12
        have hz12 := hb12.size
        replace hb := chain hb hb12
        clear hb12
        obtain ⟨q0_BV, q1_BV, q2_BV, q3_BV, qf_BV, ql_BV⟩ := BV.four
        obtain ⟨q0_BG, q1_BG, q2_BG, q3_BG, q4_BG, q5_BG, q6_BG, q7_BG, q8_BG, qf_BG, ql_BG⟩ := BG.nine
        obtain ⟨q0_V0, q1_V0, q2_V0, q3_V0, q4_V0, q5_V0, q6_V0, q7_V0, q8_V0, qf_V0, ql_V0⟩ := V0.nine
        obtain ⟨q0_BX, q1_BX, q2_BX, q3_BX, q4_BX, q5_BX, q6_BX, q7_BX, q8_BX, qf_BX, ql_BX⟩ := BX.nine
        obtain ⟨q0_V1, q1_V1, q2_V1, q3_V1, q4_V1, q5_V1, q6_V1, q7_V1, q8_V1, qf_V1, ql_V1⟩ := V1.nine
        go_wp2_with fail
        clear q0_BV q1_BV q2_BV q3_BV qf_BV ql_BV
        clear q0_BG q1_BG q2_BG q3_BG q4_BG q5_BG q6_BG q7_BG q8_BG qf_BG ql_BG
        clear q0_V0 q1_V0 q2_V0 q3_V0 q4_V0 q5_V0 q6_V0 q7_V0 q8_V0 qf_V0 ql_V0
        clear q0_BX q1_BX q2_BX q3_BX q4_BX q5_BX q6_BX q7_BX q8_BX qf_BX ql_BX
        clear q0_V1 q1_V1 q2_V1 q3_V1 q4_V1 q5_V1 q6_V1 q7_V1 q8_V1 qf_V1 ql_V1
        obtain ⟨J, hJ⟩ : ∃ J : Act → Act → World → Prop, J = fun a a' w' => ∃ B d1 d2 k1 k2 lo hi q1 q2, a' = ((((((((((((a.put (some 88) (.agg #[.int .i64 p, .int .i64 c, .int .i64 h, .int .i64 s])).put (some 89) (.agg #[.int .i64 p, .int .i64 c, .int .i64 h, .int .i64 s])).put (some 90) (.agg #[.slice a1 G.xs.length c1, .slice a2 G.ys.length c2, .int .i64 G.pl, .int .i64 G.ra, .int .i64 G.rb, .int .i64 G.ph, .int .i64 G.wi, .int .i64 G.re, .int .i64 G.tu])).put (some 91) (.agg #[.slice (some ⟨q1, 0, none⟩) G.xs.length G.xs.length, .slice (some ⟨q2, 0, none⟩) G.ys.length G.ys.length, .int .i64 G.pl, .int .i64 G.ra, .int .i64 G.rb, .int .i64 G.ph, .int .i64 G.wi, .int .i64 G.re, .int .i64 G.tu])).put (some 92) (.int .i64 ra)).put (some 93) (.int .i64 rb)).put (some 94) (.tuple #[.agg #[.slice d1 X.xs.length k1, .slice d2 X.ys.length k2, .int .i64 X.pl, .int .i64 X.ra, .int .i64 X.rb, .int .i64 X.ph, .int .i64 X.wi, .int .i64 X.re, .int .i64 X.tu], .int .i64 r])).put (some 87) (.tuple #[.agg #[.slice d1 X.xs.length k1, .slice d2 X.ys.length k2, .int .i64 X.pl, .int .i64 X.ra, .int .i64 X.rb, .int .i64 X.ph, .int .i64 X.wi, .int .i64 X.re, .int .i64 X.tu], .int .i64 r])).put (some 95) (.agg #[.slice d1 X.xs.length k1, .slice d2 X.ys.length k2, .int .i64 X.pl, .int .i64 X.ra, .int .i64 X.rb, .int .i64 X.ph, .int .i64 X.wi, .int .i64 X.re, .int .i64 X.tu])).put (some 96) (.int .i64 r)).put (some 19) (.int .i64 r)).put (some 18) (.pointer (some ⟨B, 0, none⟩))) ∧ Blk w' B #[.slice d1 X.xs.length k1, .slice d2 X.ys.length k2, .int .i64 X.pl, .int .i64 X.ra, .int .i64 X.rb, .int .i64 X.ph, .int .i64 X.wi, .int .i64 X.re, .int .i64 X.tu] 70 ∧ OBd lo hi w' d1 d2 X.xs X.ys ∧ (w12.heap.size ≤ lo ∧ hi ≤ w'.heap.size ∧ w12.heap.size ≤ B ∧ (B < lo ∨ hi ≤ B)) ∧ Below w12.heap.size w12 w' := ⟨_, rfl⟩
        have HJ := Lib.hid hJ
        clear hJ
        refine wp_region_join J ?_ ?_
        · skip
          refine wp_region_held_drew (S := fun w' => w'.cell? ⟨w.heap.size, 0, none⟩ = some (.int .i64 p) ∧ w'.cell? ⟨w.heap.size, 1, none⟩ = some (.int .i64 c) ∧ w'.cell? ⟨w.heap.size, 2, none⟩ = some (.int .i64 h) ∧ w'.cell? ⟨w.heap.size, 3, none⟩ = some (.int .i64 s) ∧ w'.cell? ⟨(w.heap.size + 1), 0, none⟩ = some (.slice a1 G.xs.length c1) ∧ w'.cell? ⟨(w.heap.size + 1), 1, none⟩ = some (.slice a2 G.ys.length c2) ∧ w'.cell? ⟨(w.heap.size + 1), 2, none⟩ = some (.int .i64 G.pl) ∧ w'.cell? ⟨(w.heap.size + 1), 3, none⟩ = some (.int .i64 G.ra) ∧ w'.cell? ⟨(w.heap.size + 1), 4, none⟩ = some (.int .i64 G.rb) ∧ w'.cell? ⟨(w.heap.size + 1), 5, none⟩ = some (.int .i64 G.ph) ∧ w'.cell? ⟨(w.heap.size + 1), 6, none⟩ = some (.int .i64 G.wi) ∧ w'.cell? ⟨(w.heap.size + 1), 7, none⟩ = some (.int .i64 G.re) ∧ w'.cell? ⟨(w.heap.size + 1), 8, none⟩ = some (.int .i64 G.tu) ∧ w'.cell? ⟨BV0, 0, none⟩ = some (.slice d1V0 X.xs.length k1V0) ∧ w'.cell? ⟨BV0, 1, none⟩ = some (.slice d2V0 X.ys.length k2V0) ∧ w'.cell? ⟨BV0, 2, none⟩ = some (.int .i64 X.pl) ∧ w'.cell? ⟨BV0, 3, none⟩ = some (.int .i64 X.ra) ∧ w'.cell? ⟨BV0, 4, none⟩ = some (.int .i64 X.rb) ∧ w'.cell? ⟨BV0, 5, none⟩ = some (.int .i64 X.ph) ∧ w'.cell? ⟨BV0, 6, none⟩ = some (.int .i64 X.wi) ∧ w'.cell? ⟨BV0, 7, none⟩ = some (.int .i64 X.re) ∧ w'.cell? ⟨BV0, 8, none⟩ = some (.int .i64 X.tu) ∧ w'.cell? ⟨w2.heap.size, 0, none⟩ = some (.slice (some ⟨b1, 0, none⟩) G.xs.length G.xs.length) ∧ w'.cell? ⟨w2.heap.size, 1, none⟩ = some (.slice (some ⟨b2, 0, none⟩) G.ys.length G.ys.length) ∧ w'.cell? ⟨w2.heap.size, 2, none⟩ = some (.int .i64 G.pl) ∧ w'.cell? ⟨w2.heap.size, 3, none⟩ = some (.int .i64 G.ra) ∧ w'.cell? ⟨w2.heap.size, 4, none⟩ = some (.int .i64 G.rb) ∧ w'.cell? ⟨w2.heap.size, 5, none⟩ = some (.int .i64 G.ph) ∧ w'.cell? ⟨w2.heap.size, 6, none⟩ = some (.int .i64 G.wi) ∧ w'.cell? ⟨w2.heap.size, 7, none⟩ = some (.int .i64 G.re) ∧ w'.cell? ⟨w2.heap.size, 8, none⟩ = some (.int .i64 G.tu) ∧ w'.cell? ⟨BV1, 0, none⟩ = some (.slice d1V1 X.xs.length k1V1) ∧ w'.cell? ⟨BV1, 1, none⟩ = some (.slice d2V1 X.ys.length k2V1) ∧ w'.cell? ⟨BV1, 2, none⟩ = some (.int .i64 X.pl) ∧ w'.cell? ⟨BV1, 3, none⟩ = some (.int .i64 X.ra) ∧ w'.cell? ⟨BV1, 4, none⟩ = some (.int .i64 X.rb) ∧ w'.cell? ⟨BV1, 5, none⟩ = some (.int .i64 X.ph) ∧ w'.cell? ⟨BV1, 6, none⟩ = some (.int .i64 X.wi) ∧ w'.cell? ⟨BV1, 7, none⟩ = some (.int .i64 X.re) ∧ w'.cell? ⟨BV1, 8, none⟩ = some (.int .i64 X.tu)) (by kernel_rfl) ⟨(BV.below (Below.refl _ _).drew).four.1, (BV.below (Below.refl _ _).drew).four.2.1, (BV.below (Below.refl _ _).drew).four.2.2.1, (BV.below (Below.refl _ _).drew).four.2.2.2.1, (BG.below (Below.refl _ _).drew).nine.1, (BG.below (Below.refl _ _).drew).nine.2.1, (BG.below (Below.refl _ _).drew).nine.2.2.1, (BG.below (Below.refl _ _).drew).nine.2.2.2.1, (BG.below (Below.refl _ _).drew).nine.2.2.2.2.1, (BG.below (Below.refl _ _).drew).nine.2.2.2.2.2.1, (BG.below (Below.refl _ _).drew).nine.2.2.2.2.2.2.1, (BG.below (Below.refl _ _).drew).nine.2.2.2.2.2.2.2.1, (BG.below (Below.refl _ _).drew).nine.2.2.2.2.2.2.2.2.1, (V0.below (Below.refl _ _).drew).nine.1, (V0.below (Below.refl _ _).drew).nine.2.1, (V0.below (Below.refl _ _).drew).nine.2.2.1, (V0.below (Below.refl _ _).drew).nine.2.2.2.1, (V0.below (Below.refl _ _).drew).nine.2.2.2.2.1, (V0.below (Below.refl _ _).drew).nine.2.2.2.2.2.1, (V0.below (Below.refl _ _).drew).nine.2.2.2.2.2.2.1, (V0.below (Below.refl _ _).drew).nine.2.2.2.2.2.2.2.1, (V0.below (Below.refl _ _).drew).nine.2.2.2.2.2.2.2.2.1, (BX.below (Below.refl _ _).drew).nine.1, (BX.below (Below.refl _ _).drew).nine.2.1, (BX.below (Below.refl _ _).drew).nine.2.2.1, (BX.below (Below.refl _ _).drew).nine.2.2.2.1, (BX.below (Below.refl _ _).drew).nine.2.2.2.2.1, (BX.below (Below.refl _ _).drew).nine.2.2.2.2.2.1, (BX.below (Below.refl _ _).drew).nine.2.2.2.2.2.2.1, (BX.below (Below.refl _ _).drew).nine.2.2.2.2.2.2.2.1, (BX.below (Below.refl _ _).drew).nine.2.2.2.2.2.2.2.2.1, (V1.below (Below.refl _ _).drew).nine.1, (V1.below (Below.refl _ _).drew).nine.2.1, (V1.below (Below.refl _ _).drew).nine.2.2.1, (V1.below (Below.refl _ _).drew).nine.2.2.2.1, (V1.below (Below.refl _ _).drew).nine.2.2.2.2.1, (V1.below (Below.refl _ _).drew).nine.2.2.2.2.2.1, (V1.below (Below.refl _ _).drew).nine.2.2.2.2.2.2.1, (V1.below (Below.refl _ _).drew).nine.2.2.2.2.2.2.2.1, (V1.below (Below.refl _ _).drew).nine.2.2.2.2.2.2.2.2.1⟩ (fun hHeld => ?_)
          clear hHeld
          have hbS : Below w12.heap.size w12 w12.drew := (Below.refl _ _).drew
          have hzd := hbS.size
          generalize w12.drew = vd at *
          have hHeld := (show vd.cell? ⟨w.heap.size, 0, none⟩ = some (.int .i64 p) ∧ vd.cell? ⟨w.heap.size, 1, none⟩ = some (.int .i64 c) ∧ vd.cell? ⟨w.heap.size, 2, none⟩ = some (.int .i64 h) ∧ vd.cell? ⟨w.heap.size, 3, none⟩ = some (.int .i64 s) ∧ vd.cell? ⟨(w.heap.size + 1), 0, none⟩ = some (.slice a1 G.xs.length c1) ∧ vd.cell? ⟨(w.heap.size + 1), 1, none⟩ = some (.slice a2 G.ys.length c2) ∧ vd.cell? ⟨(w.heap.size + 1), 2, none⟩ = some (.int .i64 G.pl) ∧ vd.cell? ⟨(w.heap.size + 1), 3, none⟩ = some (.int .i64 G.ra) ∧ vd.cell? ⟨(w.heap.size + 1), 4, none⟩ = some (.int .i64 G.rb) ∧ vd.cell? ⟨(w.heap.size + 1), 5, none⟩ = some (.int .i64 G.ph) ∧ vd.cell? ⟨(w.heap.size + 1), 6, none⟩ = some (.int .i64 G.wi) ∧ vd.cell? ⟨(w.heap.size + 1), 7, none⟩ = some (.int .i64 G.re) ∧ vd.cell? ⟨(w.heap.size + 1), 8, none⟩ = some (.int .i64 G.tu) ∧ vd.cell? ⟨BV0, 0, none⟩ = some (.slice d1V0 X.xs.length k1V0) ∧ vd.cell? ⟨BV0, 1, none⟩ = some (.slice d2V0 X.ys.length k2V0) ∧ vd.cell? ⟨BV0, 2, none⟩ = some (.int .i64 X.pl) ∧ vd.cell? ⟨BV0, 3, none⟩ = some (.int .i64 X.ra) ∧ vd.cell? ⟨BV0, 4, none⟩ = some (.int .i64 X.rb) ∧ vd.cell? ⟨BV0, 5, none⟩ = some (.int .i64 X.ph) ∧ vd.cell? ⟨BV0, 6, none⟩ = some (.int .i64 X.wi) ∧ vd.cell? ⟨BV0, 7, none⟩ = some (.int .i64 X.re) ∧ vd.cell? ⟨BV0, 8, none⟩ = some (.int .i64 X.tu) ∧ vd.cell? ⟨w2.heap.size, 0, none⟩ = some (.slice (some ⟨b1, 0, none⟩) G.xs.length G.xs.length) ∧ vd.cell? ⟨w2.heap.size, 1, none⟩ = some (.slice (some ⟨b2, 0, none⟩) G.ys.length G.ys.length) ∧ vd.cell? ⟨w2.heap.size, 2, none⟩ = some (.int .i64 G.pl) ∧ vd.cell? ⟨w2.heap.size, 3, none⟩ = some (.int .i64 G.ra) ∧ vd.cell? ⟨w2.heap.size, 4, none⟩ = some (.int .i64 G.rb) ∧ vd.cell? ⟨w2.heap.size, 5, none⟩ = some (.int .i64 G.ph) ∧ vd.cell? ⟨w2.heap.size, 6, none⟩ = some (.int .i64 G.wi) ∧ vd.cell? ⟨w2.heap.size, 7, none⟩ = some (.int .i64 G.re) ∧ vd.cell? ⟨w2.heap.size, 8, none⟩ = some (.int .i64 G.tu) ∧ vd.cell? ⟨BV1, 0, none⟩ = some (.slice d1V1 X.xs.length k1V1) ∧ vd.cell? ⟨BV1, 1, none⟩ = some (.slice d2V1 X.ys.length k2V1) ∧ vd.cell? ⟨BV1, 2, none⟩ = some (.int .i64 X.pl) ∧ vd.cell? ⟨BV1, 3, none⟩ = some (.int .i64 X.ra) ∧ vd.cell? ⟨BV1, 4, none⟩ = some (.int .i64 X.rb) ∧ vd.cell? ⟨BV1, 5, none⟩ = some (.int .i64 X.ph) ∧ vd.cell? ⟨BV1, 6, none⟩ = some (.int .i64 X.wi) ∧ vd.cell? ⟨BV1, 7, none⟩ = some (.int .i64 X.re) ∧ vd.cell? ⟨BV1, 8, none⟩ = some (.int .i64 X.tu) from ⟨(BV.below hbS).four.1, (BV.below hbS).four.2.1, (BV.below hbS).four.2.2.1, (BV.below hbS).four.2.2.2.1, (BG.below hbS).nine.1, (BG.below hbS).nine.2.1, (BG.below hbS).nine.2.2.1, (BG.below hbS).nine.2.2.2.1, (BG.below hbS).nine.2.2.2.2.1, (BG.below hbS).nine.2.2.2.2.2.1, (BG.below hbS).nine.2.2.2.2.2.2.1, (BG.below hbS).nine.2.2.2.2.2.2.2.1, (BG.below hbS).nine.2.2.2.2.2.2.2.2.1, (V0.below hbS).nine.1, (V0.below hbS).nine.2.1, (V0.below hbS).nine.2.2.1, (V0.below hbS).nine.2.2.2.1, (V0.below hbS).nine.2.2.2.2.1, (V0.below hbS).nine.2.2.2.2.2.1, (V0.below hbS).nine.2.2.2.2.2.2.1, (V0.below hbS).nine.2.2.2.2.2.2.2.1, (V0.below hbS).nine.2.2.2.2.2.2.2.2.1, (BX.below hbS).nine.1, (BX.below hbS).nine.2.1, (BX.below hbS).nine.2.2.1, (BX.below hbS).nine.2.2.2.1, (BX.below hbS).nine.2.2.2.2.1, (BX.below hbS).nine.2.2.2.2.2.1, (BX.below hbS).nine.2.2.2.2.2.2.1, (BX.below hbS).nine.2.2.2.2.2.2.2.1, (BX.below hbS).nine.2.2.2.2.2.2.2.2.1, (V1.below hbS).nine.1, (V1.below hbS).nine.2.1, (V1.below hbS).nine.2.2.1, (V1.below hbS).nine.2.2.2.1, (V1.below hbS).nine.2.2.2.2.1, (V1.below hbS).nine.2.2.2.2.2.1, (V1.below hbS).nine.2.2.2.2.2.2.1, (V1.below hbS).nine.2.2.2.2.2.2.2.1, (V1.below hbS).nine.2.2.2.2.2.2.2.2.1⟩)
          refine wpAnyH_take (i := 0) (oi := { dst := some 88, op := _, type := _, pos := _, after := _, guard := _ }) (v := ?_) rfl (by kernel_rfl) (by kernel_rfl) (by kernel_rfl) (fun _ _ _ h => absurd h.1 (by simp)) (Or.inl ⟨by rfl, ?_⟩) (by assumption) ?_
          rotate_left
          · intro w hSw
            (try dsimp only at hSw)
            go_simp
            (try (with_reducible rfl))
          try simp only [Act.put, List.setIfInBounds_toArray, List.set_cons_zero, List.set_cons_succ]
          refine wpAnyH_take (i := 2) (oi := { dst := some 90, op := _, type := _, pos := _, after := _, guard := _ }) (v := ?_) rfl (by kernel_rfl) (by kernel_rfl) (by kernel_rfl) (fun _ _ _ h => absurd h.1 (by simp)) (Or.inl ⟨by rfl, ?_⟩) (by assumption) ?_
          rotate_left
          · intro w hSw
            (try dsimp only at hSw)
            go_simp
            (try (with_reducible rfl))
          try simp only [Act.put, List.setIfInBounds_toArray, List.set_cons_zero, List.set_cons_succ]
          refine wpAnyH_take (i := 4) (oi := { dst := some 92, op := _, type := _, pos := _, after := _, guard := _ }) (v := ?_) rfl (by kernel_rfl) (by kernel_rfl) (by kernel_rfl) (fun _ _ _ h => absurd h.1 (by simp)) (Or.inl ⟨by rfl, ?_⟩) (by assumption) ?_
          rotate_left
          · intro w hSw
            (try dsimp only at hSw)
            go_simp
            (try (with_reducible rfl))
          try simp only [Act.put, List.setIfInBounds_toArray, List.set_cons_zero, List.set_cons_succ]
          refine wpAnyH_take (i := 5) (oi := { dst := some 93, op := _, type := _, pos := _, after := _, guard := _ }) (v := ?_) rfl (by kernel_rfl) (by kernel_rfl) (by kernel_rfl) (fun _ _ _ h => absurd h.1 (by simp)) (Or.inl ⟨by rfl, ?_⟩) (by assumption) ?_
          rotate_left
          · intro w hSw
            (try dsimp only at hSw)
            go_simp
            (try (with_reducible rfl))
          try simp only [Act.put, List.setIfInBounds_toArray, List.set_cons_zero, List.set_cons_succ]
          refine wpAnyH_ready (rs := [1, 10]) (by kernel_rfl) (by simp) ?_
          refine AllReadyH.cons (o := { dst := some 89, op := _, type := _, pos := _, after := _, guard := _ }) rfl (fun K hK => ?_) (AllReadyH.cons (o := { dst := some 18, op := _, type := _, pos := _, after := _, guard := _ }) rfl (fun K hK => ?_) AllReadyH.nil)
          · go_simp
            refine (toVariant_any _ _ _ _ _).mono ?_
            rintro e wt0 ⟨rfl, hbt0⟩
            have hz_hbt0 := hbt0.size
            replace hbS := chain hbS hbt0
            clear hbt0
            (try go_wp2_with fail)
            refine hK.out _ _ ⟨(BV.below hbS).four.1, (BV.below hbS).four.2.1, (BV.below hbS).four.2.2.1, (BV.below hbS).four.2.2.2.1, (BG.below hbS).nine.1, (BG.below hbS).nine.2.1, (BG.below hbS).nine.2.2.1, (BG.below hbS).nine.2.2.2.1, (BG.below hbS).nine.2.2.2.2.1, (BG.below hbS).nine.2.2.2.2.2.1, (BG.below hbS).nine.2.2.2.2.2.2.1, (BG.below hbS).nine.2.2.2.2.2.2.2.1, (BG.below hbS).nine.2.2.2.2.2.2.2.2.1, (V0.below hbS).nine.1, (V0.below hbS).nine.2.1, (V0.below hbS).nine.2.2.1, (V0.below hbS).nine.2.2.2.1, (V0.below hbS).nine.2.2.2.2.1, (V0.below hbS).nine.2.2.2.2.2.1, (V0.below hbS).nine.2.2.2.2.2.2.1, (V0.below hbS).nine.2.2.2.2.2.2.2.1, (V0.below hbS).nine.2.2.2.2.2.2.2.2.1, (BX.below hbS).nine.1, (BX.below hbS).nine.2.1, (BX.below hbS).nine.2.2.1, (BX.below hbS).nine.2.2.2.1, (BX.below hbS).nine.2.2.2.2.1, (BX.below hbS).nine.2.2.2.2.2.1, (BX.below hbS).nine.2.2.2.2.2.2.1, (BX.below hbS).nine.2.2.2.2.2.2.2.1, (BX.below hbS).nine.2.2.2.2.2.2.2.2.1, (V1.below hbS).nine.1, (V1.below hbS).nine.2.1, (V1.below hbS).nine.2.2.1, (V1.below hbS).nine.2.2.2.1, (V1.below hbS).nine.2.2.2.2.1, (V1.below hbS).nine.2.2.2.2.2.1, (V1.below hbS).nine.2.2.2.2.2.2.1, (V1.below hbS).nine.2.2.2.2.2.2.2.1, (V1.below hbS).nine.2.2.2.2.2.2.2.2.1⟩ (fun hHeld => ?_)
            clear hK K
            try simp only [Act.put, List.setIfInBounds_toArray, List.set_cons_zero, List.set_cons_succ]
            refine wpAnyH_ready (rs := [3, 10]) (by kernel_rfl) (by simp) ?_
            refine AllReadyH.cons (o := { dst := some 91, op := _, type := _, pos := _, after := _, guard := _ }) rfl (fun K hK => ?_) (AllReadyH.cons (o := { dst := some 18, op := _, type := _, pos := _, after := _, guard := _ }) rfl (fun K hK => ?_) AllReadyH.nil)
            · go_simp
              refine (toGame_any G a1 a2 c1 c2 _ l1 l2 (r1.below hbS) (r2.below hbS)).mono ?_
              rintro e wt1 ⟨q1, q2, rfl, gg1, gg2, R1, R2, hbt1⟩
              have hz_hbt1 := hbt1.size
              replace hbS := chain hbS hbt1
              clear hbt1
              (try go_wp2_with fail)
              refine hK.out _ _ ⟨(BV.below hbS).four.1, (BV.below hbS).four.2.1, (BV.below hbS).four.2.2.1, (BV.below hbS).four.2.2.2.1, (BG.below hbS).nine.1, (BG.below hbS).nine.2.1, (BG.below hbS).nine.2.2.1, (BG.below hbS).nine.2.2.2.1, (BG.below hbS).nine.2.2.2.2.1, (BG.below hbS).nine.2.2.2.2.2.1, (BG.below hbS).nine.2.2.2.2.2.2.1, (BG.below hbS).nine.2.2.2.2.2.2.2.1, (BG.below hbS).nine.2.2.2.2.2.2.2.2.1, (V0.below hbS).nine.1, (V0.below hbS).nine.2.1, (V0.below hbS).nine.2.2.1, (V0.below hbS).nine.2.2.2.1, (V0.below hbS).nine.2.2.2.2.1, (V0.below hbS).nine.2.2.2.2.2.1, (V0.below hbS).nine.2.2.2.2.2.2.1, (V0.below hbS).nine.2.2.2.2.2.2.2.1, (V0.below hbS).nine.2.2.2.2.2.2.2.2.1, (BX.below hbS).nine.1, (BX.below hbS).nine.2.1, (BX.below hbS).nine.2.2.1, (BX.below hbS).nine.2.2.2.1, (BX.below hbS).nine.2.2.2.2.1, (BX.below hbS).nine.2.2.2.2.2.1, (BX.below hbS).nine.2.2.2.2.2.2.1, (BX.below hbS).nine.2.2.2.2.2.2.2.1, (BX.below hbS).nine.2.2.2.2.2.2.2.2.1, (V1.below hbS).nine.1, (V1.below hbS).nine.2.1, (V1.below hbS).nine.2.2.1, (V1.below hbS).nine.2.2.2.1, (V1.below hbS).nine.2.2.2.2.1, (V1.below hbS).nine.2.2.2.2.2.1, (V1.below hbS).nine.2.2.2.2.2.2.1, (V1.below hbS).nine.2.2.2.2.2.2.2.1, (V1.below hbS).nine.2.2.2.2.2.2.2.2.1⟩ (fun hHeld => ?_)
              clear hK K
              try simp only [Act.put, List.setIfInBounds_toArray, List.set_cons_zero, List.set_cons_succ]
              refine wpAnyH_ready (rs := [6, 10]) (by kernel_rfl) (by simp) ?_
              refine AllReadyH.cons (o := { dst := some 94, op := _, type := _, pos := _, after := _, guard := _ }) rfl (fun K hK => ?_) (AllReadyH.cons (o := { dst := some 18, op := _, type := _, pos := _, after := _, guard := _ }) rfl (fun K hK => ?_) AllReadyH.nil)
              · go_simp
                refine (HIM.out _ _ _ _ _ R1.irow R2.irow).mono ?_
                rintro e wt2 ⟨d1, d2, k1, k2, rfl, hO, hbt2⟩
                replace R1 := R1.below hbt2
                replace R2 := R2.below hbt2
                have hz_hbt2 := hbt2.size
                replace hbS := chain hbS hbt2
                clear hbt2
                (try go_wp2_with fail)
                refine hK.out _ _ ⟨(BV.below hbS).four.1, (BV.below hbS).four.2.1, (BV.below hbS).four.2.2.1, (BV.below hbS).four.2.2.2.1, (BG.below hbS).nine.1, (BG.below hbS).nine.2.1, (BG.below hbS).nine.2.2.1, (BG.below hbS).nine.2.2.2.1, (BG.below hbS).nine.2.2.2.2.1, (BG.below hbS).nine.2.2.2.2.2.1, (BG.below hbS).nine.2.2.2.2.2.2.1, (BG.below hbS).nine.2.2.2.2.2.2.2.1, (BG.below hbS).nine.2.2.2.2.2.2.2.2.1, (V0.below hbS).nine.1, (V0.below hbS).nine.2.1, (V0.below hbS).nine.2.2.1, (V0.below hbS).nine.2.2.2.1, (V0.below hbS).nine.2.2.2.2.1, (V0.below hbS).nine.2.2.2.2.2.1, (V0.below hbS).nine.2.2.2.2.2.2.1, (V0.below hbS).nine.2.2.2.2.2.2.2.1, (V0.below hbS).nine.2.2.2.2.2.2.2.2.1, (BX.below hbS).nine.1, (BX.below hbS).nine.2.1, (BX.below hbS).nine.2.2.1, (BX.below hbS).nine.2.2.2.1, (BX.below hbS).nine.2.2.2.2.1, (BX.below hbS).nine.2.2.2.2.2.1, (BX.below hbS).nine.2.2.2.2.2.2.1, (BX.below hbS).nine.2.2.2.2.2.2.2.1, (BX.below hbS).nine.2.2.2.2.2.2.2.2.1, (V1.below hbS).nine.1, (V1.below hbS).nine.2.1, (V1.below hbS).nine.2.2.1, (V1.below hbS).nine.2.2.2.1, (V1.below hbS).nine.2.2.2.2.1, (V1.below hbS).nine.2.2.2.2.2.1, (V1.below hbS).nine.2.2.2.2.2.2.1, (V1.below hbS).nine.2.2.2.2.2.2.2.1, (V1.below hbS).nine.2.2.2.2.2.2.2.2.1⟩ (fun hHeld => ?_)
                clear hK K
                try simp only [Act.put, List.setIfInBounds_toArray, List.set_cons_zero, List.set_cons_succ]
                refine wpAnyH_take (i := 7) (oi := { dst := some 87, op := _, type := _, pos := _, after := _, guard := _ }) (v := ?_) rfl (by kernel_rfl) (by kernel_rfl) (by kernel_rfl) (fun _ _ _ h => absurd h.1 (by simp)) (Or.inl ⟨by rfl, ?_⟩) (by assumption) ?_
                rotate_left
                · intro w hSw
                  (try dsimp only at hSw)
                  go_simp
                  (try (with_reducible rfl))
                try simp only [Act.put, List.setIfInBounds_toArray, List.set_cons_zero, List.set_cons_succ]
                refine wpAnyH_take (i := 8) (oi := { dst := some 95, op := _, type := _, pos := _, after := _, guard := _ }) (v := ?_) rfl (by kernel_rfl) (by kernel_rfl) (by kernel_rfl) (fun _ _ _ h => absurd h.1 (by simp)) (Or.inl ⟨by rfl, ?_⟩) (by assumption) ?_
                rotate_left
                · intro w hSw
                  (try dsimp only at hSw)
                  go_simp
                  (try (with_reducible rfl))
                try simp only [Act.put, List.setIfInBounds_toArray, List.set_cons_zero, List.set_cons_succ]
                refine wpAnyH_take (i := 9) (oi := { dst := some 96, op := _, type := _, pos := _, after := _, guard := _ }) (v := ?_) rfl (by kernel_rfl) (by kernel_rfl) (by kernel_rfl) (fun _ _ _ h => absurd h.1 (by simp)) (Or.inl ⟨by rfl, ?_⟩) (by assumption) ?_
                rotate_left
                · intro w hSw
                  (try dsimp only at hSw)
                  go_simp
                  (try (with_reducible rfl))
                try simp only [Act.put, List.setIfInBounds_toArray, List.set_cons_zero, List.set_cons_succ]
                refine wpAnyH_ready (rs := [10]) (by kernel_rfl) (by simp) ?_
                refine AllReadyH.cons (o := { dst := some 18, op := _, type := _, pos := _, after := _, guard := _ }) rfl (fun K hK => ?_) AllReadyH.nil
                go_simp
                refine hK.out _ _ ⟨(BV.below (hbS.alloc hbS.size _)).four.1, (BV.below (hbS.alloc hbS.size _)).four.2.1, (BV.below (hbS.alloc hbS.size _)).four.2.2.1, (BV.below (hbS.alloc hbS.size _)).four.2.2.2.1, (BG.below (hbS.alloc hbS.size _)).nine.1, (BG.below (hbS.alloc hbS.size _)).nine.2.1, (BG.below (hbS.alloc hbS.size _)).nine.2.2.1, (BG.below (hbS.alloc hbS.size _)).nine.2.2.2.1, (BG.below (hbS.alloc hbS.size _)).nine.2.2.2.2.1, (BG.below (hbS.alloc hbS.size _)).nine.2.2.2.2.2.1, (BG.below (hbS.alloc hbS.size _)).nine.2.2.2.2.2.2.1, (BG.below (hbS.alloc hbS.size _)).nine.2.2.2.2.2.2.2.1, (BG.below (hbS.alloc hbS.size _)).nine.2.2.2.2.2.2.2.2.1, (V0.below (hbS.alloc hbS.size _)).nine.1, (V0.below (hbS.alloc hbS.size _)).nine.2.1, (V0.below (hbS.alloc hbS.size _)).nine.2.2.1, (V0.below (hbS.alloc hbS.size _)).nine.2.2.2.1, (V0.below (hbS.alloc hbS.size _)).nine.2.2.2.2.1, (V0.below (hbS.alloc hbS.size _)).nine.2.2.2.2.2.1, (V0.below (hbS.alloc hbS.size _)).nine.2.2.2.2.2.2.1, (V0.below (hbS.alloc hbS.size _)).nine.2.2.2.2.2.2.2.1, (V0.below (hbS.alloc hbS.size _)).nine.2.2.2.2.2.2.2.2.1, (BX.below (hbS.alloc hbS.size _)).nine.1, (BX.below (hbS.alloc hbS.size _)).nine.2.1, (BX.below (hbS.alloc hbS.size _)).nine.2.2.1, (BX.below (hbS.alloc hbS.size _)).nine.2.2.2.1, (BX.below (hbS.alloc hbS.size _)).nine.2.2.2.2.1, (BX.below (hbS.alloc hbS.size _)).nine.2.2.2.2.2.1, (BX.below (hbS.alloc hbS.size _)).nine.2.2.2.2.2.2.1, (BX.below (hbS.alloc hbS.size _)).nine.2.2.2.2.2.2.2.1, (BX.below (hbS.alloc hbS.size _)).nine.2.2.2.2.2.2.2.2.1, (V1.below (hbS.alloc hbS.size _)).nine.1, (V1.below (hbS.alloc hbS.size _)).nine.2.1, (V1.below (hbS.alloc hbS.size _)).nine.2.2.1, (V1.below (hbS.alloc hbS.size _)).nine.2.2.2.1, (V1.below (hbS.alloc hbS.size _)).nine.2.2.2.2.1, (V1.below (hbS.alloc hbS.size _)).nine.2.2.2.2.2.1, (V1.below (hbS.alloc hbS.size _)).nine.2.2.2.2.2.2.1, (V1.below (hbS.alloc hbS.size _)).nine.2.2.2.2.2.2.2.1, (V1.below (hbS.alloc hbS.size _)).nine.2.2.2.2.2.2.2.2.1⟩ (fun hHeld => ?_)
                clear hK K
                try simp only [Act.put, List.setIfInBounds_toArray, List.set_cons_zero, List.set_cons_succ]
                have BA := Blk.new wt2 #[.slice none 0 0, .slice none 0 0, .int .i64 0, .int .i64 0, .int .i64 0, .int .i64 0, .int .i64 0, .int .i64 0, .int .i64 0] 70
                have hal : Below wt2.heap.size wt2 (wt2.alloc (.cells #[.slice none 0 0, .slice none 0 0, .int .i64 0, .int .i64 0, .int .i64 0, .int .i64 0, .int .i64 0, .int .i64 0, .int .i64 0] 70)) := (Below.refl _ _).alloc (Nat.le_refl _) _
                have hlN : wt2.heap.size + 1 ≤ (wt2.alloc (.cells #[.slice none 0 0, .slice none 0 0, .int .i64 0, .int .i64 0, .int .i64 0, .int .i64 0, .int .i64 0, .int .i64 0, .int .i64 0] 70)).heap.size ∧ (wt2.alloc (.cells #[.slice none 0 0, .slice none 0 0, .int .i64 0, .int .i64 0, .int .i64 0, .int .i64 0, .int .i64 0, .int .i64 0, .int .i64 0] 70)).heap.size ≤ wt2.heap.size + 1 := by simp
                have hzS := hbS.size
                replace R1 := R1.below hal
                replace R2 := R2.below hal
                replace hO := hO.below hal
                replace hbS := chain hbS hal
                clear hal
                generalize wt2.alloc (.cells #[.slice none 0 0, .slice none 0 0, .int .i64 0, .int .i64 0, .int .i64 0, .int .i64 0, .int .i64 0, .int .i64 0, .int .i64 0] 70) = wN at *
                refine wpAnyH_ready (rs := [11]) (by kernel_rfl) (by simp) ?_
                refine AllReadyH.cons (o := { dst := none, op := _, type := _, pos := _, after := _, guard := _ }) rfl (fun K hK => ?_) AllReadyH.nil
                obtain ⟨go0, go1, go2, go3, go4, go5, go6, go7, go8, gof, gol⟩ := BA.nine
                go_simp
                (try go_wp2_with fail)
                refine hK.out _ _ ⟨(BV.below (below9s BA hbS (by omega))).four.1, (BV.below (below9s BA hbS (by omega))).four.2.1, (BV.below (below9s BA hbS (by omega))).four.2.2.1, (BV.below (below9s BA hbS (by omega))).four.2.2.2.1, (BG.below (below9s BA hbS (by omega))).nine.1, (BG.below (below9s BA hbS (by omega))).nine.2.1, (BG.below (below9s BA hbS (by omega))).nine.2.2.1, (BG.below (below9s BA hbS (by omega))).nine.2.2.2.1, (BG.below (below9s BA hbS (by omega))).nine.2.2.2.2.1, (BG.below (below9s BA hbS (by omega))).nine.2.2.2.2.2.1, (BG.below (below9s BA hbS (by omega))).nine.2.2.2.2.2.2.1, (BG.below (below9s BA hbS (by omega))).nine.2.2.2.2.2.2.2.1, (BG.below (below9s BA hbS (by omega))).nine.2.2.2.2.2.2.2.2.1, (V0.below (below9s BA hbS (by omega))).nine.1, (V0.below (below9s BA hbS (by omega))).nine.2.1, (V0.below (below9s BA hbS (by omega))).nine.2.2.1, (V0.below (below9s BA hbS (by omega))).nine.2.2.2.1, (V0.below (below9s BA hbS (by omega))).nine.2.2.2.2.1, (V0.below (below9s BA hbS (by omega))).nine.2.2.2.2.2.1, (V0.below (below9s BA hbS (by omega))).nine.2.2.2.2.2.2.1, (V0.below (below9s BA hbS (by omega))).nine.2.2.2.2.2.2.2.1, (V0.below (below9s BA hbS (by omega))).nine.2.2.2.2.2.2.2.2.1, (BX.below (below9s BA hbS (by omega))).nine.1, (BX.below (below9s BA hbS (by omega))).nine.2.1, (BX.below (below9s BA hbS (by omega))).nine.2.2.1, (BX.below (below9s BA hbS (by omega))).nine.2.2.2.1, (BX.below (below9s BA hbS (by omega))).nine.2.2.2.2.1, (BX.below (below9s BA hbS (by omega))).nine.2.2.2.2.2.1, (BX.below (below9s BA hbS (by omega))).nine.2.2.2.2.2.2.1, (BX.below (below9s BA hbS (by omega))).nine.2.2.2.2.2.2.2.1, (BX.below (below9s BA hbS (by omega))).nine.2.2.2.2.2.2.2.2.1, (V1.below (below9s BA hbS (by omega))).nine.1, (V1.below (below9s BA hbS (by omega))).nine.2.1, (V1.below (below9s BA hbS (by omega))).nine.2.2.1, (V1.below (below9s BA hbS (by omega))).nine.2.2.2.1, (V1.below (below9s BA hbS (by omega))).nine.2.2.2.2.1, (V1.below (below9s BA hbS (by omega))).nine.2.2.2.2.2.1, (V1.below (below9s BA hbS (by omega))).nine.2.2.2.2.2.2.1, (V1.below (below9s BA hbS (by omega))).nine.2.2.2.2.2.2.2.1, (V1.below (below9s BA hbS (by omega))).nine.2.2.2.2.2.2.2.2.1⟩ (fun hHeld => ?_)
                clear hK K
                try simp only [Act.put, List.setIfInBounds_toArray, List.set_cons_zero, List.set_cons_succ]
                refine wpAnyH_take (i := 12) (oi := { dst := some 19, op := _, type := _, pos := _, after := _, guard := _ }) (v := ?_) rfl (by kernel_rfl) (by kernel_rfl) (by kernel_rfl) (fun _ _ _ h => absurd h.1 (by simp)) (Or.inl ⟨by rfl, ?_⟩) (by assumption) ?_
                rotate_left
                · intro w hSw
                  (try dsimp only at hSw)
                  go_simp
                  (try (with_reducible rfl))
                try simp only [Act.put, List.setIfInBounds_toArray, List.set_cons_zero, List.set_cons_succ]
                refine wpAnyH_done (by kernel_rfl) ?_ _
                rw [HJ.out]
                refine ⟨rfl, _, d1, d2, k1, k2, _, _, q1, q2, ?_, BA.setG9 _ _ _ _ _ _ _ _ _, hO.farG9 ?_ _ _ _ _ _ _ _ _ _, ⟨?_, ?_, ?_, ?_⟩, below9s BA hbS (by omega)⟩
                · simp only [Act.put, List.setIfInBounds_toArray, List.set_cons_zero, List.set_cons_succ]
                all_goals (first | omega | (simp <;> omega))
              · go_simp
                refine hK.out _ _ ⟨(BV.below (hbS.alloc hbS.size _)).four.1, (BV.below (hbS.alloc hbS.size _)).four.2.1, (BV.below (hbS.alloc hbS.size _)).four.2.2.1, (BV.below (hbS.alloc hbS.size _)).four.2.2.2.1, (BG.below (hbS.alloc hbS.size _)).nine.1, (BG.below (hbS.alloc hbS.size _)).nine.2.1, (BG.below (hbS.alloc hbS.size _)).nine.2.2.1, (BG.below (hbS.alloc hbS.size _)).nine.2.2.2.1, (BG.below (hbS.alloc hbS.size _)).nine.2.2.2.2.1, (BG.below (hbS.alloc hbS.size _)).nine.2.2.2.2.2.1, (BG.below (hbS.alloc hbS.size _)).nine.2.2.2.2.2.2.1, (BG.below (hbS.alloc hbS.size _)).nine.2.2.2.2.2.2.2.1, (BG.below (hbS.alloc hbS.size _)).nine.2.2.2.2.2.2.2.2.1, (V0.below (hbS.alloc hbS.size _)).nine.1, (V0.below (hbS.alloc hbS.size _)).nine.2.1, (V0.below (hbS.alloc hbS.size _)).nine.2.2.1, (V0.below (hbS.alloc hbS.size _)).nine.2.2.2.1, (V0.below (hbS.alloc hbS.size _)).nine.2.2.2.2.1, (V0.below (hbS.alloc hbS.size _)).nine.2.2.2.2.2.1, (V0.below (hbS.alloc hbS.size _)).nine.2.2.2.2.2.2.1, (V0.below (hbS.alloc hbS.size _)).nine.2.2.2.2.2.2.2.1, (V0.below (hbS.alloc hbS.size _)).nine.2.2.2.2.2.2.2.2.1, (BX.below (hbS.alloc hbS.size _)).nine.1, (BX.below (hbS.alloc hbS.size _)).nine.2.1, (BX.below (hbS.alloc hbS.size _)).nine.2.2.1, (BX.below (hbS.alloc hbS.size _)).nine.2.2.2.1, (BX.below (hbS.alloc hbS.size _)).nine.2.2.2.2.1, (BX.below (hbS.alloc hbS.size _)).nine.2.2.2.2.2.1, (BX.below (hbS.alloc hbS.size _)).nine.2.2.2.2.2.2.1, (BX.below (hbS.alloc hbS.size _)).nine.2.2.2.2.2.2.2.1, (BX.below (hbS.alloc hbS.size _)).nine.2.2.2.2.2.2.2.2.1, (V1.below (hbS.alloc hbS.size _)).nine.1, (V1.below (hbS.alloc hbS.size _)).nine.2.1, (V1.below (hbS.alloc hbS.size _)).nine.2.2.1, (V1.below (hbS.alloc hbS.size _)).nine.2.2.2.1, (V1.below (hbS.alloc hbS.size _)).nine.2.2.2.2.1, (V1.below (hbS.alloc hbS.size _)).nine.2.2.2.2.2.1, (V1.below (hbS.alloc hbS.size _)).nine.2.2.2.2.2.2.1, (V1.below (hbS.alloc hbS.size _)).nine.2.2.2.2.2.2.2.1, (V1.below (hbS.alloc hbS.size _)).nine.2.2.2.2.2.2.2.2.1⟩ (fun hHeld => ?_)
                clear hK K
                try simp only [Act.put, List.setIfInBounds_toArray, List.set_cons_zero, List.set_cons_succ]
                have BA := Blk.new wt1 #[.slice none 0 0, .slice none 0 0, .int .i64 0, .int .i64 0, .int .i64 0, .int .i64 0, .int .i64 0, .int .i64 0, .int .i64 0] 70
                have hal : Below wt1.heap.size wt1 (wt1.alloc (.cells #[.slice none 0 0, .slice none 0 0, .int .i64 0, .int .i64 0, .int .i64 0, .int .i64 0, .int .i64 0, .int .i64 0, .int .i64 0] 70)) := (Below.refl _ _).alloc (Nat.le_refl _) _
                have hlN : wt1.heap.size + 1 ≤ (wt1.alloc (.cells #[.slice none 0 0, .slice none 0 0, .int .i64 0, .int .i64 0, .int .i64 0, .int .i64 0, .int .i64 0, .int .i64 0, .int .i64 0] 70)).heap.size ∧ (wt1.alloc (.cells #[.slice none 0 0, .slice none 0 0, .int .i64 0, .int .i64 0, .int .i64 0, .int .i64 0, .int .i64 0, .int .i64 0, .int .i64 0] 70)).heap.size ≤ wt1.heap.size + 1 := by simp
                have hzS := hbS.size
                replace R1 := R1.below hal
                replace R2 := R2.below hal
                replace hbS := chain hbS hal
                clear hal
                generalize wt1.alloc (.cells #[.slice none 0 0, .slice none 0 0, .int .i64 0, .int .i64 0, .int .i64 0, .int .i64 0, .int .i64 0, .int .i64 0, .int .i64 0] 70) = wN at *
                refine wpAnyH_ready (rs := [6]) (by kernel_rfl) (by simp) ?_
                refine AllReadyH.cons (o := { dst := some 94, op := _, type := _, pos := _, after := _, guard := _ }) rfl (fun K hK => ?_) AllReadyH.nil
                go_simp
                refine (HIM.out _ _ _ _ _ R1.irow R2.irow).mono ?_
                rintro e wt2 ⟨d1, d2, k1, k2, rfl, hO, hbt2⟩
                replace R1 := R1.below hbt2
                replace R2 := R2.below hbt2
                replace BA := BA.below hbt2
                have hz_hbt2 := hbt2.size
                replace hbS := chain hbS hbt2
                clear hbt2
                (try go_wp2_with fail)
                refine hK.out _ _ ⟨(BV.below hbS).four.1, (BV.below hbS).four.2.1, (BV.below hbS).four.2.2.1, (BV.below hbS).four.2.2.2.1, (BG.below hbS).nine.1, (BG.below hbS).nine.2.1, (BG.below hbS).nine.2.2.1, (BG.below hbS).nine.2.2.2.1, (BG.below hbS).nine.2.2.2.2.1, (BG.below hbS).nine.2.2.2.2.2.1, (BG.below hbS).nine.2.2.2.2.2.2.1, (BG.below hbS).nine.2.2.2.2.2.2.2.1, (BG.below hbS).nine.2.2.2.2.2.2.2.2.1, (V0.below hbS).nine.1, (V0.below hbS).nine.2.1, (V0.below hbS).nine.2.2.1, (V0.below hbS).nine.2.2.2.1, (V0.below hbS).nine.2.2.2.2.1, (V0.below hbS).nine.2.2.2.2.2.1, (V0.below hbS).nine.2.2.2.2.2.2.1, (V0.below hbS).nine.2.2.2.2.2.2.2.1, (V0.below hbS).nine.2.2.2.2.2.2.2.2.1, (BX.below hbS).nine.1, (BX.below hbS).nine.2.1, (BX.below hbS).nine.2.2.1, (BX.below hbS).nine.2.2.2.1, (BX.below hbS).nine.2.2.2.2.1, (BX.below hbS).nine.2.2.2.2.2.1, (BX.below hbS).nine.2.2.2.2.2.2.1, (BX.below hbS).nine.2.2.2.2.2.2.2.1, (BX.below hbS).nine.2.2.2.2.2.2.2.2.1, (V1.below hbS).nine.1, (V1.below hbS).nine.2.1, (V1.below hbS).nine.2.2.1, (V1.below hbS).nine.2.2.2.1, (V1.below hbS).nine.2.2.2.2.1, (V1.below hbS).nine.2.2.2.2.2.1, (V1.below hbS).nine.2.2.2.2.2.2.1, (V1.below hbS).nine.2.2.2.2.2.2.2.1, (V1.below hbS).nine.2.2.2.2.2.2.2.2.1⟩ (fun hHeld => ?_)
                clear hK K
                try simp only [Act.put, List.setIfInBounds_toArray, List.set_cons_zero, List.set_cons_succ]
                refine wpAnyH_take (i := 7) (oi := { dst := some 87, op := _, type := _, pos := _, after := _, guard := _ }) (v := ?_) rfl (by kernel_rfl) (by kernel_rfl) (by kernel_rfl) (fun _ _ _ h => absurd h.1 (by simp)) (Or.inl ⟨by rfl, ?_⟩) (by assumption) ?_
                rotate_left
                · intro w hSw
                  (try dsimp only at hSw)
                  go_simp
                  (try (with_reducible rfl))
                try simp only [Act.put, List.setIfInBounds_toArray, List.set_cons_zero, List.set_cons_succ]
                refine wpAnyH_take (i := 8) (oi := { dst := some 95, op := _, type := _, pos := _, after := _, guard := _ }) (v := ?_) rfl (by kernel_rfl) (by kernel_rfl) (by kernel_rfl) (fun _ _ _ h => absurd h.1 (by simp)) (Or.inl ⟨by rfl, ?_⟩) (by assumption) ?_
                rotate_left
                · intro w hSw
                  (try dsimp only at hSw)
                  go_simp
                  (try (with_reducible rfl))
                try simp only [Act.put, List.setIfInBounds_toArray, List.set_cons_zero, List.set_cons_succ]
                refine wpAnyH_take (i := 9) (oi := { dst := some 96, op := _, type := _, pos := _, after := _, guard := _ }) (v := ?_) rfl (by kernel_rfl) (by kernel_rfl) (by kernel_rfl) (fun _ _ _ h => absurd h.1 (by simp)) (Or.inl ⟨by rfl, ?_⟩) (by assumption) ?_
                rotate_left
                · intro w hSw
                  (try dsimp only at hSw)
                  go_simp
                  (try (with_reducible rfl))
                try simp only [Act.put, List.setIfInBounds_toArray, List.set_cons_zero, List.set_cons_succ]
                refine wpAnyH_ready (rs := [11]) (by kernel_rfl) (by simp) ?_
                refine AllReadyH.cons (o := { dst := none, op := _, type := _, pos := _, after := _, guard := _ }) rfl (fun K hK => ?_) AllReadyH.nil
                obtain ⟨go0, go1, go2, go3, go4, go5, go6, go7, go8, gof, gol⟩ := BA.nine
                go_simp
                (try go_wp2_with fail)
                refine hK.out _ _ ⟨(BV.below (below9s BA hbS (by omega))).four.1, (BV.below (below9s BA hbS (by omega))).four.2.1, (BV.below (below9s BA hbS (by omega))).four.2.2.1, (BV.below (below9s BA hbS (by omega))).four.2.2.2.1, (BG.below (below9s BA hbS (by omega))).nine.1, (BG.below (below9s BA hbS (by omega))).nine.2.1, (BG.below (below9s BA hbS (by omega))).nine.2.2.1, (BG.below (below9s BA hbS (by omega))).nine.2.2.2.1, (BG.below (below9s BA hbS (by omega))).nine.2.2.2.2.1, (BG.below (below9s BA hbS (by omega))).nine.2.2.2.2.2.1, (BG.below (below9s BA hbS (by omega))).nine.2.2.2.2.2.2.1, (BG.below (below9s BA hbS (by omega))).nine.2.2.2.2.2.2.2.1, (BG.below (below9s BA hbS (by omega))).nine.2.2.2.2.2.2.2.2.1, (V0.below (below9s BA hbS (by omega))).nine.1, (V0.below (below9s BA hbS (by omega))).nine.2.1, (V0.below (below9s BA hbS (by omega))).nine.2.2.1, (V0.below (below9s BA hbS (by omega))).nine.2.2.2.1, (V0.below (below9s BA hbS (by omega))).nine.2.2.2.2.1, (V0.below (below9s BA hbS (by omega))).nine.2.2.2.2.2.1, (V0.below (below9s BA hbS (by omega))).nine.2.2.2.2.2.2.1, (V0.below (below9s BA hbS (by omega))).nine.2.2.2.2.2.2.2.1, (V0.below (below9s BA hbS (by omega))).nine.2.2.2.2.2.2.2.2.1, (BX.below (below9s BA hbS (by omega))).nine.1, (BX.below (below9s BA hbS (by omega))).nine.2.1, (BX.below (below9s BA hbS (by omega))).nine.2.2.1, (BX.below (below9s BA hbS (by omega))).nine.2.2.2.1, (BX.below (below9s BA hbS (by omega))).nine.2.2.2.2.1, (BX.below (below9s BA hbS (by omega))).nine.2.2.2.2.2.1, (BX.below (below9s BA hbS (by omega))).nine.2.2.2.2.2.2.1, (BX.below (below9s BA hbS (by omega))).nine.2.2.2.2.2.2.2.1, (BX.below (below9s BA hbS (by omega))).nine.2.2.2.2.2.2.2.2.1, (V1.below (below9s BA hbS (by omega))).nine.1, (V1.below (below9s BA hbS (by omega))).nine.2.1, (V1.below (below9s BA hbS (by omega))).nine.2.2.1, (V1.below (below9s BA hbS (by omega))).nine.2.2.2.1, (V1.below (below9s BA hbS (by omega))).nine.2.2.2.2.1, (V1.below (below9s BA hbS (by omega))).nine.2.2.2.2.2.1, (V1.below (below9s BA hbS (by omega))).nine.2.2.2.2.2.2.1, (V1.below (below9s BA hbS (by omega))).nine.2.2.2.2.2.2.2.1, (V1.below (below9s BA hbS (by omega))).nine.2.2.2.2.2.2.2.2.1⟩ (fun hHeld => ?_)
                clear hK K
                try simp only [Act.put, List.setIfInBounds_toArray, List.set_cons_zero, List.set_cons_succ]
                refine wpAnyH_take (i := 12) (oi := { dst := some 19, op := _, type := _, pos := _, after := _, guard := _ }) (v := ?_) rfl (by kernel_rfl) (by kernel_rfl) (by kernel_rfl) (fun _ _ _ h => absurd h.1 (by simp)) (Or.inl ⟨by rfl, ?_⟩) (by assumption) ?_
                rotate_left
                · intro w hSw
                  (try dsimp only at hSw)
                  go_simp
                  (try (with_reducible rfl))
                try simp only [Act.put, List.setIfInBounds_toArray, List.set_cons_zero, List.set_cons_succ]
                refine wpAnyH_done (by kernel_rfl) ?_ _
                rw [HJ.out]
                refine ⟨rfl, _, d1, d2, k1, k2, _, _, q1, q2, ?_, BA.setG9 _ _ _ _ _ _ _ _ _, hO.farG9 ?_ _ _ _ _ _ _ _ _ _, ⟨?_, ?_, ?_, ?_⟩, below9s BA hbS (by omega)⟩
                · simp only [Act.put, List.setIfInBounds_toArray, List.set_cons_zero, List.set_cons_succ]
                all_goals (first | omega | (simp <;> omega))
            · go_simp
              refine hK.out _ _ ⟨(BV.below (hbS.alloc hbS.size _)).four.1, (BV.below (hbS.alloc hbS.size _)).four.2.1, (BV.below (hbS.alloc hbS.size _)).four.2.2.1, (BV.below (hbS.alloc hbS.size _)).four.2.2.2.1, (BG.below (hbS.alloc hbS.size _)).nine.1, (BG.below (hbS.alloc hbS.size _)).nine.2.1, (BG.below (hbS.alloc hbS.size _)).nine.2.2.1, (BG.below (hbS.alloc hbS.size _)).nine.2.2.2.1, (BG.below (hbS.alloc hbS.size _)).nine.2.2.2.2.1, (BG.below (hbS.alloc hbS.size _)).nine.2.2.2.2.2.1, (BG.below (hbS.alloc hbS.size _)).nine.2.2.2.2.2.2.1, (BG.below (hbS.alloc hbS.size _)).nine.2.2.2.2.2.2.2.1, (BG.below (hbS.alloc hbS.size _)).nine.2.2.2.2.2.2.2.2.1, (V0.below (hbS.alloc hbS.size _)).nine.1, (V0.below (hbS.alloc hbS.size _)).nine.2.1, (V0.below (hbS.alloc hbS.size _)).nine.2.2.1, (V0.below (hbS.alloc hbS.size _)).nine.2.2.2.1, (V0.below (hbS.alloc hbS.size _)).nine.2.2.2.2.1, (V0.below (hbS.alloc hbS.size _)).nine.2.2.2.2.2.1, (V0.below (hbS.alloc hbS.size _)).nine.2.2.2.2.2.2.1, (V0.below (hbS.alloc hbS.size _)).nine.2.2.2.2.2.2.2.1, (V0.below (hbS.alloc hbS.size _)).nine.2.2.2.2.2.2.2.2.1, (BX.below (hbS.alloc hbS.size _)).nine.1, (BX.below (hbS.alloc hbS.size _)).nine.2.1, (BX.below (hbS.alloc hbS.size _)).nine.2.2.1, (BX.below (hbS.alloc hbS.size _)).nine.2.2.2.1, (BX.below (hbS.alloc hbS.size _)).nine.2.2.2.2.1, (BX.below (hbS.alloc hbS.size _)).nine.2.2.2.2.2.1, (BX.below (hbS.alloc hbS.size _)).nine.2.2.2.2.2.2.1, (BX.below (hbS.alloc hbS.size _)).nine.2.2.2.2.2.2.2.1, (BX.below (hbS.alloc hbS.size _)).nine.2.2.2.2.2.2.2.2.1, (V1.below (hbS.alloc hbS.size _)).nine.1, (V1.below (hbS.alloc hbS.size _)).nine.2.1, (V1.below (hbS.alloc hbS.size _)).nine.2.2.1, (V1.below (hbS.alloc hbS.size _)).nine.2.2.2.1, (V1.below (hbS.alloc hbS.size _)).nine.2.2.2.2.1, (V1.below (hbS.alloc hbS.size _)).nine.2.2.2.2.2.1, (V1.below (hbS.alloc hbS.size _)).nine.2.2.2.2.2.2.1, (V1.below (hbS.alloc hbS.size _)).nine.2.2.2.2.2.2.2.1, (V1.below (hbS.alloc hbS.size _)).nine.2.2.2.2.2.2.2.2.1⟩ (fun hHeld => ?_)
              clear hK K
              try simp only [Act.put, List.setIfInBounds_toArray, List.set_cons_zero, List.set_cons_succ]
              have BA := Blk.new wt0 #[.slice none 0 0, .slice none 0 0, .int .i64 0, .int .i64 0, .int .i64 0, .int .i64 0, .int .i64 0, .int .i64 0, .int .i64 0] 70
              have hal : Below wt0.heap.size wt0 (wt0.alloc (.cells #[.slice none 0 0, .slice none 0 0, .int .i64 0, .int .i64 0, .int .i64 0, .int .i64 0, .int .i64 0, .int .i64 0, .int .i64 0] 70)) := (Below.refl _ _).alloc (Nat.le_refl _) _
              have hlN : wt0.heap.size + 1 ≤ (wt0.alloc (.cells #[.slice none 0 0, .slice none 0 0, .int .i64 0, .int .i64 0, .int .i64 0, .int .i64 0, .int .i64 0, .int .i64 0, .int .i64 0] 70)).heap.size ∧ (wt0.alloc (.cells #[.slice none 0 0, .slice none 0 0, .int .i64 0, .int .i64 0, .int .i64 0, .int .i64 0, .int .i64 0, .int .i64 0, .int .i64 0] 70)).heap.size ≤ wt0.heap.size + 1 := by simp
              have hzS := hbS.size
              replace hbS := chain hbS hal
              clear hal
              generalize wt0.alloc (.cells #[.slice none 0 0, .slice none 0 0, .int .i64 0, .int .i64 0, .int .i64 0, .int .i64 0, .int .i64 0, .int .i64 0, .int .i64 0] 70) = wN at *
              refine wpAnyH_ready (rs := [3]) (by kernel_rfl) (by simp) ?_
              refine AllReadyH.cons (o := { dst := some 91, op := _, type := _, pos := _, after := _, guard := _ }) rfl (fun K hK => ?_) AllReadyH.nil
              go_simp
              refine (toGame_any G a1 a2 c1 c2 _ l1 l2 (r1.below hbS) (r2.below hbS)).mono ?_
              rintro e wt1 ⟨q1, q2, rfl, gg1, gg2, R1, R2, hbt1⟩
              replace BA := BA.below hbt1
              have hz_hbt1 := hbt1.size
              replace hbS := chain hbS hbt1
              clear hbt1
              (try go_wp2_with fail)
              refine hK.out _ _ ⟨(BV.below hbS).four.1, (BV.below hbS).four.2.1, (BV.below hbS).four.2.2.1, (BV.below hbS).four.2.2.2.1, (BG.below hbS).nine.1, (BG.below hbS).nine.2.1, (BG.below hbS).nine.2.2.1, (BG.below hbS).nine.2.2.2.1, (BG.below hbS).nine.2.2.2.2.1, (BG.below hbS).nine.2.2.2.2.2.1, (BG.below hbS).nine.2.2.2.2.2.2.1, (BG.below hbS).nine.2.2.2.2.2.2.2.1, (BG.below hbS).nine.2.2.2.2.2.2.2.2.1, (V0.below hbS).nine.1, (V0.below hbS).nine.2.1, (V0.below hbS).nine.2.2.1, (V0.below hbS).nine.2.2.2.1, (V0.below hbS).nine.2.2.2.2.1, (V0.below hbS).nine.2.2.2.2.2.1, (V0.below hbS).nine.2.2.2.2.2.2.1, (V0.below hbS).nine.2.2.2.2.2.2.2.1, (V0.below hbS).nine.2.2.2.2.2.2.2.2.1, (BX.below hbS).nine.1, (BX.below hbS).nine.2.1, (BX.below hbS).nine.2.2.1, (BX.below hbS).nine.2.2.2.1, (BX.below hbS).nine.2.2.2.2.1, (BX.below hbS).nine.2.2.2.2.2.1, (BX.below hbS).nine.2.2.2.2.2.2.1, (BX.below hbS).nine.2.2.2.2.2.2.2.1, (BX.below hbS).nine.2.2.2.2.2.2.2.2.1, (V1.below hbS).nine.1, (V1.below hbS).nine.2.1, (V1.below hbS).nine.2.2.1, (V1.below hbS).nine.2.2.2.1, (V1.below hbS).nine.2.2.2.2.1, (V1.below hbS).nine.2.2.2.2.2.1, (V1.below hbS).nine.2.2.2.2.2.2.1, (V1.below hbS).nine.2.2.2.2.2.2.2.1, (V1.below hbS).nine.2.2.2.2.2.2.2.2.1⟩ (fun hHeld => ?_)
              clear hK K
              try simp only [Act.put, List.setIfInBounds_toArray, List.set_cons_zero, List.set_cons_succ]
              refine wpAnyH_ready (rs := [6]) (by kernel_rfl) (by simp) ?_
              refine AllReadyH.cons (o := { dst := some 94, op := _, type := _, pos := _, after := _, guard := _ }) rfl (fun K hK => ?_) AllReadyH.nil
              go_simp
              refine (HIM.out _ _ _ _ _ R1.irow R2.irow).mono ?_
              rintro e wt2 ⟨d1, d2, k1, k2, rfl, hO, hbt2⟩
              replace R1 := R1.below hbt2
              replace R2 := R2.below hbt2
              replace BA := BA.below hbt2
              have hz_hbt2 := hbt2.size
              replace hbS := chain hbS hbt2
              clear hbt2
              (try go_wp2_with fail)
              refine hK.out _ _ ⟨(BV.below hbS).four.1, (BV.below hbS).four.2.1, (BV.below hbS).four.2.2.1, (BV.below hbS).four.2.2.2.1, (BG.below hbS).nine.1, (BG.below hbS).nine.2.1, (BG.below hbS).nine.2.2.1, (BG.below hbS).nine.2.2.2.1, (BG.below hbS).nine.2.2.2.2.1, (BG.below hbS).nine.2.2.2.2.2.1, (BG.below hbS).nine.2.2.2.2.2.2.1, (BG.below hbS).nine.2.2.2.2.2.2.2.1, (BG.below hbS).nine.2.2.2.2.2.2.2.2.1, (V0.below hbS).nine.1, (V0.below hbS).nine.2.1, (V0.below hbS).nine.2.2.1, (V0.below hbS).nine.2.2.2.1, (V0.below hbS).nine.2.2.2.2.1, (V0.below hbS).nine.2.2.2.2.2.1, (V0.below hbS).nine.2.2.2.2.2.2.1, (V0.below hbS).nine.2.2.2.2.2.2.2.1, (V0.below hbS).nine.2.2.2.2.2.2.2.2.1, (BX.below hbS).nine.1, (BX.below hbS).nine.2.1, (BX.below hbS).nine.2.2.1, (BX.below hbS).nine.2.2.2.1, (BX.below hbS).nine.2.2.2.2.1, (BX.below hbS).nine.2.2.2.2.2.1, (BX.below hbS).nine.2.2.2.2.2.2.1, (BX.below hbS).nine.2.2.2.2.2.2.2.1, (BX.below hbS).nine.2.2.2.2.2.2.2.2.1, (V1.below hbS).nine.1, (V1.below hbS).nine.2.1, (V1.below hbS).nine.2.2.1, (V1.below hbS).nine.2.2.2.1, (V1.below hbS).nine.2.2.2.2.1, (V1.below hbS).nine.2.2.2.2.2.1, (V1.below hbS).nine.2.2.2.2.2.2.1, (V1.below hbS).nine.2.2.2.2.2.2.2.1, (V1.below hbS).nine.2.2.2.2.2.2.2.2.1⟩ (fun hHeld => ?_)
              clear hK K
              try simp only [Act.put, List.setIfInBounds_toArray, List.set_cons_zero, List.set_cons_succ]
              refine wpAnyH_take (i := 7) (oi := { dst := some 87, op := _, type := _, pos := _, after := _, guard := _ }) (v := ?_) rfl (by kernel_rfl) (by kernel_rfl) (by kernel_rfl) (fun _ _ _ h => absurd h.1 (by simp)) (Or.inl ⟨by rfl, ?_⟩) (by assumption) ?_
              rotate_left
              · intro w hSw
                (try dsimp only at hSw)
                go_simp
                (try (with_reducible rfl))
              try simp only [Act.put, List.setIfInBounds_toArray, List.set_cons_zero, List.set_cons_succ]
              refine wpAnyH_take (i := 8) (oi := { dst := some 95, op := _, type := _, pos := _, after := _, guard := _ }) (v := ?_) rfl (by kernel_rfl) (by kernel_rfl) (by kernel_rfl) (fun _ _ _ h => absurd h.1 (by simp)) (Or.inl ⟨by rfl, ?_⟩) (by assumption) ?_
              rotate_left
              · intro w hSw
                (try dsimp only at hSw)
                go_simp
                (try (with_reducible rfl))
              try simp only [Act.put, List.setIfInBounds_toArray, List.set_cons_zero, List.set_cons_succ]
              refine wpAnyH_take (i := 9) (oi := { dst := some 96, op := _, type := _, pos := _, after := _, guard := _ }) (v := ?_) rfl (by kernel_rfl) (by kernel_rfl) (by kernel_rfl) (fun _ _ _ h => absurd h.1 (by simp)) (Or.inl ⟨by rfl, ?_⟩) (by assumption) ?_
              rotate_left
              · intro w hSw
                (try dsimp only at hSw)
                go_simp
                (try (with_reducible rfl))
              try simp only [Act.put, List.setIfInBounds_toArray, List.set_cons_zero, List.set_cons_succ]
              refine wpAnyH_ready (rs := [11]) (by kernel_rfl) (by simp) ?_
              refine AllReadyH.cons (o := { dst := none, op := _, type := _, pos := _, after := _, guard := _ }) rfl (fun K hK => ?_) AllReadyH.nil
              obtain ⟨go0, go1, go2, go3, go4, go5, go6, go7, go8, gof, gol⟩ := BA.nine
              go_simp
              (try go_wp2_with fail)
              refine hK.out _ _ ⟨(BV.below (below9s BA hbS (by omega))).four.1, (BV.below (below9s BA hbS (by omega))).four.2.1, (BV.below (below9s BA hbS (by omega))).four.2.2.1, (BV.below (below9s BA hbS (by omega))).four.2.2.2.1, (BG.below (below9s BA hbS (by omega))).nine.1, (BG.below (below9s BA hbS (by omega))).nine.2.1, (BG.below (below9s BA hbS (by omega))).nine.2.2.1, (BG.below (below9s BA hbS (by omega))).nine.2.2.2.1, (BG.below (below9s BA hbS (by omega))).nine.2.2.2.2.1, (BG.below (below9s BA hbS (by omega))).nine.2.2.2.2.2.1, (BG.below (below9s BA hbS (by omega))).nine.2.2.2.2.2.2.1, (BG.below (below9s BA hbS (by omega))).nine.2.2.2.2.2.2.2.1, (BG.below (below9s BA hbS (by omega))).nine.2.2.2.2.2.2.2.2.1, (V0.below (below9s BA hbS (by omega))).nine.1, (V0.below (below9s BA hbS (by omega))).nine.2.1, (V0.below (below9s BA hbS (by omega))).nine.2.2.1, (V0.below (below9s BA hbS (by omega))).nine.2.2.2.1, (V0.below (below9s BA hbS (by omega))).nine.2.2.2.2.1, (V0.below (below9s BA hbS (by omega))).nine.2.2.2.2.2.1, (V0.below (below9s BA hbS (by omega))).nine.2.2.2.2.2.2.1, (V0.below (below9s BA hbS (by omega))).nine.2.2.2.2.2.2.2.1, (V0.below (below9s BA hbS (by omega))).nine.2.2.2.2.2.2.2.2.1, (BX.below (below9s BA hbS (by omega))).nine.1, (BX.below (below9s BA hbS (by omega))).nine.2.1, (BX.below (below9s BA hbS (by omega))).nine.2.2.1, (BX.below (below9s BA hbS (by omega))).nine.2.2.2.1, (BX.below (below9s BA hbS (by omega))).nine.2.2.2.2.1, (BX.below (below9s BA hbS (by omega))).nine.2.2.2.2.2.1, (BX.below (below9s BA hbS (by omega))).nine.2.2.2.2.2.2.1, (BX.below (below9s BA hbS (by omega))).nine.2.2.2.2.2.2.2.1, (BX.below (below9s BA hbS (by omega))).nine.2.2.2.2.2.2.2.2.1, (V1.below (below9s BA hbS (by omega))).nine.1, (V1.below (below9s BA hbS (by omega))).nine.2.1, (V1.below (below9s BA hbS (by omega))).nine.2.2.1, (V1.below (below9s BA hbS (by omega))).nine.2.2.2.1, (V1.below (below9s BA hbS (by omega))).nine.2.2.2.2.1, (V1.below (below9s BA hbS (by omega))).nine.2.2.2.2.2.1, (V1.below (below9s BA hbS (by omega))).nine.2.2.2.2.2.2.1, (V1.below (below9s BA hbS (by omega))).nine.2.2.2.2.2.2.2.1, (V1.below (below9s BA hbS (by omega))).nine.2.2.2.2.2.2.2.2.1⟩ (fun hHeld => ?_)
              clear hK K
              try simp only [Act.put, List.setIfInBounds_toArray, List.set_cons_zero, List.set_cons_succ]
              refine wpAnyH_take (i := 12) (oi := { dst := some 19, op := _, type := _, pos := _, after := _, guard := _ }) (v := ?_) rfl (by kernel_rfl) (by kernel_rfl) (by kernel_rfl) (fun _ _ _ h => absurd h.1 (by simp)) (Or.inl ⟨by rfl, ?_⟩) (by assumption) ?_
              rotate_left
              · intro w hSw
                (try dsimp only at hSw)
                go_simp
                (try (with_reducible rfl))
              try simp only [Act.put, List.setIfInBounds_toArray, List.set_cons_zero, List.set_cons_succ]
              refine wpAnyH_done (by kernel_rfl) ?_ _
              rw [HJ.out]
              refine ⟨rfl, _, d1, d2, k1, k2, _, _, q1, q2, ?_, BA.setG9 _ _ _ _ _ _ _ _ _, hO.farG9 ?_ _ _ _ _ _ _ _ _ _, ⟨?_, ?_, ?_, ?_⟩, below9s BA hbS (by omega)⟩
              · simp only [Act.put, List.setIfInBounds_toArray, List.set_cons_zero, List.set_cons_succ]
              all_goals (first | omega | (simp <;> omega))
          · go_simp
            refine hK.out _ _ ⟨(BV.below (hbS.alloc hbS.size _)).four.1, (BV.below (hbS.alloc hbS.size _)).four.2.1, (BV.below (hbS.alloc hbS.size _)).four.2.2.1, (BV.below (hbS.alloc hbS.size _)).four.2.2.2.1, (BG.below (hbS.alloc hbS.size _)).nine.1, (BG.below (hbS.alloc hbS.size _)).nine.2.1, (BG.below (hbS.alloc hbS.size _)).nine.2.2.1, (BG.below (hbS.alloc hbS.size _)).nine.2.2.2.1, (BG.below (hbS.alloc hbS.size _)).nine.2.2.2.2.1, (BG.below (hbS.alloc hbS.size _)).nine.2.2.2.2.2.1, (BG.below (hbS.alloc hbS.size _)).nine.2.2.2.2.2.2.1, (BG.below (hbS.alloc hbS.size _)).nine.2.2.2.2.2.2.2.1, (BG.below (hbS.alloc hbS.size _)).nine.2.2.2.2.2.2.2.2.1, (V0.below (hbS.alloc hbS.size _)).nine.1, (V0.below (hbS.alloc hbS.size _)).nine.2.1, (V0.below (hbS.alloc hbS.size _)).nine.2.2.1, (V0.below (hbS.alloc hbS.size _)).nine.2.2.2.1, (V0.below (hbS.alloc hbS.size _)).nine.2.2.2.2.1, (V0.below (hbS.alloc hbS.size _)).nine.2.2.2.2.2.1, (V0.below (hbS.alloc hbS.size _)).nine.2.2.2.2.2.2.1, (V0.below (hbS.alloc hbS.size _)).nine.2.2.2.2.2.2.2.1, (V0.below (hbS.alloc hbS.size _)).nine.2.2.2.2.2.2.2.2.1, (BX.below (hbS.alloc hbS.size _)).nine.1, (BX.below (hbS.alloc hbS.size _)).nine.2.1, (BX.below (hbS.alloc hbS.size _)).nine.2.2.1, (BX.below (hbS.alloc hbS.size _)).nine.2.2.2.1, (BX.below (hbS.alloc hbS.size _)).nine.2.2.2.2.1, (BX.below (hbS.alloc hbS.size _)).nine.2.2.2.2.2.1, (BX.below (hbS.alloc hbS.size _)).nine.2.2.2.2.2.2.1, (BX.below (hbS.alloc hbS.size _)).nine.2.2.2.2.2.2.2.1, (BX.below (hbS.alloc hbS.size _)).nine.2.2.2.2.2.2.2.2.1, (V1.below (hbS.alloc hbS.size _)).nine.1, (V1.below (hbS.alloc hbS.size _)).nine.2.1, (V1.below (hbS.alloc hbS.size _)).nine.2.2.1, (V1.below (hbS.alloc hbS.size _)).nine.2.2.2.1, (V1.below (hbS.alloc hbS.size _)).nine.2.2.2.2.1, (V1.below (hbS.alloc hbS.size _)).nine.2.2.2.2.2.1, (V1.below (hbS.alloc hbS.size _)).nine.2.2.2.2.2.2.1, (V1.below (hbS.alloc hbS.size _)).nine.2.2.2.2.2.2.2.1, (V1.below (hbS.alloc hbS.size _)).nine.2.2.2.2.2.2.2.2.1⟩ (fun hHeld => ?_)
            clear hK K
            try simp only [Act.put, List.setIfInBounds_toArray, List.set_cons_zero, List.set_cons_succ]
            have BA := Blk.new vd #[.slice none 0 0, .slice none 0 0, .int .i64 0, .int .i64 0, .int .i64 0, .int .i64 0, .int .i64 0, .int .i64 0, .int .i64 0] 70
            have hal : Below vd.heap.size vd (vd.alloc (.cells #[.slice none 0 0, .slice none 0 0, .int .i64 0, .int .i64 0, .int .i64 0, .int .i64 0, .int .i64 0, .int .i64 0, .int .i64 0] 70)) := (Below.refl _ _).alloc (Nat.le_refl _) _
            have hlN : vd.heap.size + 1 ≤ (vd.alloc (.cells #[.slice none 0 0, .slice none 0 0, .int .i64 0, .int .i64 0, .int .i64 0, .int .i64 0, .int .i64 0, .int .i64 0, .int .i64 0] 70)).heap.size ∧ (vd.alloc (.cells #[.slice none 0 0, .slice none 0 0, .int .i64 0, .int .i64 0, .int .i64 0, .int .i64 0, .int .i64 0, .int .i64 0, .int .i64 0] 70)).heap.size ≤ vd.heap.size + 1 := by simp
            have hzS := hbS.size
            replace hbS := chain hbS hal
            clear hal
            generalize vd.alloc (.cells #[.slice none 0 0, .slice none 0 0, .int .i64 0, .int .i64 0, .int .i64 0, .int .i64 0, .int .i64 0, .int .i64 0, .int .i64 0] 70) = wN at *
            refine wpAnyH_ready (rs := [1]) (by kernel_rfl) (by simp) ?_
            refine AllReadyH.cons (o := { dst := some 89, op := _, type := _, pos := _, after := _, guard := _ }) rfl (fun K hK => ?_) AllReadyH.nil
            go_simp
            refine (toVariant_any _ _ _ _ _).mono ?_
            rintro e wt0 ⟨rfl, hbt0⟩
            replace BA := BA.below hbt0
            have hz_hbt0 := hbt0.size
            replace hbS := chain hbS hbt0
            clear hbt0
            (try go_wp2_with fail)
            refine hK.out _ _ ⟨(BV.below hbS).four.1, (BV.below hbS).four.2.1, (BV.below hbS).four.2.2.1, (BV.below hbS).four.2.2.2.1, (BG.below hbS).nine.1, (BG.below hbS).nine.2.1, (BG.below hbS).nine.2.2.1, (BG.below hbS).nine.2.2.2.1, (BG.below hbS).nine.2.2.2.2.1, (BG.below hbS).nine.2.2.2.2.2.1, (BG.below hbS).nine.2.2.2.2.2.2.1, (BG.below hbS).nine.2.2.2.2.2.2.2.1, (BG.below hbS).nine.2.2.2.2.2.2.2.2.1, (V0.below hbS).nine.1, (V0.below hbS).nine.2.1, (V0.below hbS).nine.2.2.1, (V0.below hbS).nine.2.2.2.1, (V0.below hbS).nine.2.2.2.2.1, (V0.below hbS).nine.2.2.2.2.2.1, (V0.below hbS).nine.2.2.2.2.2.2.1, (V0.below hbS).nine.2.2.2.2.2.2.2.1, (V0.below hbS).nine.2.2.2.2.2.2.2.2.1, (BX.below hbS).nine.1, (BX.below hbS).nine.2.1, (BX.below hbS).nine.2.2.1, (BX.below hbS).nine.2.2.2.1, (BX.below hbS).nine.2.2.2.2.1, (BX.below hbS).nine.2.2.2.2.2.1, (BX.below hbS).nine.2.2.2.2.2.2.1, (BX.below hbS).nine.2.2.2.2.2.2.2.1, (BX.below hbS).nine.2.2.2.2.2.2.2.2.1, (V1.below hbS).nine.1, (V1.below hbS).nine.2.1, (V1.below hbS).nine.2.2.1, (V1.below hbS).nine.2.2.2.1, (V1.below hbS).nine.2.2.2.2.1, (V1.below hbS).nine.2.2.2.2.2.1, (V1.below hbS).nine.2.2.2.2.2.2.1, (V1.below hbS).nine.2.2.2.2.2.2.2.1, (V1.below hbS).nine.2.2.2.2.2.2.2.2.1⟩ (fun hHeld => ?_)
            clear hK K
            try simp only [Act.put, List.setIfInBounds_toArray, List.set_cons_zero, List.set_cons_succ]
            refine wpAnyH_ready (rs := [3]) (by kernel_rfl) (by simp) ?_
            refine AllReadyH.cons (o := { dst := some 91, op := _, type := _, pos := _, after := _, guard := _ }) rfl (fun K hK => ?_) AllReadyH.nil
            go_simp
            refine (toGame_any G a1 a2 c1 c2 _ l1 l2 (r1.below hbS) (r2.below hbS)).mono ?_
            rintro e wt1 ⟨q1, q2, rfl, gg1, gg2, R1, R2, hbt1⟩
            replace BA := BA.below hbt1
            have hz_hbt1 := hbt1.size
            replace hbS := chain hbS hbt1
            clear hbt1
            (try go_wp2_with fail)
            refine hK.out _ _ ⟨(BV.below hbS).four.1, (BV.below hbS).four.2.1, (BV.below hbS).four.2.2.1, (BV.below hbS).four.2.2.2.1, (BG.below hbS).nine.1, (BG.below hbS).nine.2.1, (BG.below hbS).nine.2.2.1, (BG.below hbS).nine.2.2.2.1, (BG.below hbS).nine.2.2.2.2.1, (BG.below hbS).nine.2.2.2.2.2.1, (BG.below hbS).nine.2.2.2.2.2.2.1, (BG.below hbS).nine.2.2.2.2.2.2.2.1, (BG.below hbS).nine.2.2.2.2.2.2.2.2.1, (V0.below hbS).nine.1, (V0.below hbS).nine.2.1, (V0.below hbS).nine.2.2.1, (V0.below hbS).nine.2.2.2.1, (V0.below hbS).nine.2.2.2.2.1, (V0.below hbS).nine.2.2.2.2.2.1, (V0.below hbS).nine.2.2.2.2.2.2.1, (V0.below hbS).nine.2.2.2.2.2.2.2.1, (V0.below hbS).nine.2.2.2.2.2.2.2.2.1, (BX.below hbS).nine.1, (BX.below hbS).nine.2.1, (BX.below hbS).nine.2.2.1, (BX.below hbS).nine.2.2.2.1, (BX.below hbS).nine.2.2.2.2.1, (BX.below hbS).nine.2.2.2.2.2.1, (BX.below hbS).nine.2.2.2.2.2.2.1, (BX.below hbS).nine.2.2.2.2.2.2.2.1, (BX.below hbS).nine.2.2.2.2.2.2.2.2.1, (V1.below hbS).nine.1, (V1.below hbS).nine.2.1, (V1.below hbS).nine.2.2.1, (V1.below hbS).nine.2.2.2.1, (V1.below hbS).nine.2.2.2.2.1, (V1.below hbS).nine.2.2.2.2.2.1, (V1.below hbS).nine.2.2.2.2.2.2.1, (V1.below hbS).nine.2.2.2.2.2.2.2.1, (V1.below hbS).nine.2.2.2.2.2.2.2.2.1⟩ (fun hHeld => ?_)
            clear hK K
            try simp only [Act.put, List.setIfInBounds_toArray, List.set_cons_zero, List.set_cons_succ]
            refine wpAnyH_ready (rs := [6]) (by kernel_rfl) (by simp) ?_
            refine AllReadyH.cons (o := { dst := some 94, op := _, type := _, pos := _, after := _, guard := _ }) rfl (fun K hK => ?_) AllReadyH.nil
            go_simp
            refine (HIM.out _ _ _ _ _ R1.irow R2.irow).mono ?_
            rintro e wt2 ⟨d1, d2, k1, k2, rfl, hO, hbt2⟩
            replace R1 := R1.below hbt2
            replace R2 := R2.below hbt2
            replace BA := BA.below hbt2
            have hz_hbt2 := hbt2.size
            replace hbS := chain hbS hbt2
            clear hbt2
            (try go_wp2_with fail)
            refine hK.out _ _ ⟨(BV.below hbS).four.1, (BV.below hbS).four.2.1, (BV.below hbS).four.2.2.1, (BV.below hbS).four.2.2.2.1, (BG.below hbS).nine.1, (BG.below hbS).nine.2.1, (BG.below hbS).nine.2.2.1, (BG.below hbS).nine.2.2.2.1, (BG.below hbS).nine.2.2.2.2.1, (BG.below hbS).nine.2.2.2.2.2.1, (BG.below hbS).nine.2.2.2.2.2.2.1, (BG.below hbS).nine.2.2.2.2.2.2.2.1, (BG.below hbS).nine.2.2.2.2.2.2.2.2.1, (V0.below hbS).nine.1, (V0.below hbS).nine.2.1, (V0.below hbS).nine.2.2.1, (V0.below hbS).nine.2.2.2.1, (V0.below hbS).nine.2.2.2.2.1, (V0.below hbS).nine.2.2.2.2.2.1, (V0.below hbS).nine.2.2.2.2.2.2.1, (V0.below hbS).nine.2.2.2.2.2.2.2.1, (V0.below hbS).nine.2.2.2.2.2.2.2.2.1, (BX.below hbS).nine.1, (BX.below hbS).nine.2.1, (BX.below hbS).nine.2.2.1, (BX.below hbS).nine.2.2.2.1, (BX.below hbS).nine.2.2.2.2.1, (BX.below hbS).nine.2.2.2.2.2.1, (BX.below hbS).nine.2.2.2.2.2.2.1, (BX.below hbS).nine.2.2.2.2.2.2.2.1, (BX.below hbS).nine.2.2.2.2.2.2.2.2.1, (V1.below hbS).nine.1, (V1.below hbS).nine.2.1, (V1.below hbS).nine.2.2.1, (V1.below hbS).nine.2.2.2.1, (V1.below hbS).nine.2.2.2.2.1, (V1.below hbS).nine.2.2.2.2.2.1, (V1.below hbS).nine.2.2.2.2.2.2.1, (V1.below hbS).nine.2.2.2.2.2.2.2.1, (V1.below hbS).nine.2.2.2.2.2.2.2.2.1⟩ (fun hHeld => ?_)
            clear hK K
            try simp only [Act.put, List.setIfInBounds_toArray, List.set_cons_zero, List.set_cons_succ]
            refine wpAnyH_take (i := 7) (oi := { dst := some 87, op := _, type := _, pos := _, after := _, guard := _ }) (v := ?_) rfl (by kernel_rfl) (by kernel_rfl) (by kernel_rfl) (fun _ _ _ h => absurd h.1 (by simp)) (Or.inl ⟨by rfl, ?_⟩) (by assumption) ?_
            rotate_left
            · intro w hSw
              (try dsimp only at hSw)
              go_simp
              (try (with_reducible rfl))
            try simp only [Act.put, List.setIfInBounds_toArray, List.set_cons_zero, List.set_cons_succ]
            refine wpAnyH_take (i := 8) (oi := { dst := some 95, op := _, type := _, pos := _, after := _, guard := _ }) (v := ?_) rfl (by kernel_rfl) (by kernel_rfl) (by kernel_rfl) (fun _ _ _ h => absurd h.1 (by simp)) (Or.inl ⟨by rfl, ?_⟩) (by assumption) ?_
            rotate_left
            · intro w hSw
              (try dsimp only at hSw)
              go_simp
              (try (with_reducible rfl))
            try simp only [Act.put, List.setIfInBounds_toArray, List.set_cons_zero, List.set_cons_succ]
            refine wpAnyH_take (i := 9) (oi := { dst := some 96, op := _, type := _, pos := _, after := _, guard := _ }) (v := ?_) rfl (by kernel_rfl) (by kernel_rfl) (by kernel_rfl) (fun _ _ _ h => absurd h.1 (by simp)) (Or.inl ⟨by rfl, ?_⟩) (by assumption) ?_
            rotate_left
            · intro w hSw
              (try dsimp only at hSw)
              go_simp
              (try (with_reducible rfl))
            try simp only [Act.put, List.setIfInBounds_toArray, List.set_cons_zero, List.set_cons_succ]
            refine wpAnyH_ready (rs := [11]) (by kernel_rfl) (by simp) ?_
            refine AllReadyH.cons (o := { dst := none, op := _, type := _, pos := _, after := _, guard := _ }) rfl (fun K hK => ?_) AllReadyH.nil
            obtain ⟨go0, go1, go2, go3, go4, go5, go6, go7, go8, gof, gol⟩ := BA.nine
            go_simp
            (try go_wp2_with fail)
            refine hK.out _ _ ⟨(BV.below (below9s BA hbS (by omega))).four.1, (BV.below (below9s BA hbS (by omega))).four.2.1, (BV.below (below9s BA hbS (by omega))).four.2.2.1, (BV.below (below9s BA hbS (by omega))).four.2.2.2.1, (BG.below (below9s BA hbS (by omega))).nine.1, (BG.below (below9s BA hbS (by omega))).nine.2.1, (BG.below (below9s BA hbS (by omega))).nine.2.2.1, (BG.below (below9s BA hbS (by omega))).nine.2.2.2.1, (BG.below (below9s BA hbS (by omega))).nine.2.2.2.2.1, (BG.below (below9s BA hbS (by omega))).nine.2.2.2.2.2.1, (BG.below (below9s BA hbS (by omega))).nine.2.2.2.2.2.2.1, (BG.below (below9s BA hbS (by omega))).nine.2.2.2.2.2.2.2.1, (BG.below (below9s BA hbS (by omega))).nine.2.2.2.2.2.2.2.2.1, (V0.below (below9s BA hbS (by omega))).nine.1, (V0.below (below9s BA hbS (by omega))).nine.2.1, (V0.below (below9s BA hbS (by omega))).nine.2.2.1, (V0.below (below9s BA hbS (by omega))).nine.2.2.2.1, (V0.below (below9s BA hbS (by omega))).nine.2.2.2.2.1, (V0.below (below9s BA hbS (by omega))).nine.2.2.2.2.2.1, (V0.below (below9s BA hbS (by omega))).nine.2.2.2.2.2.2.1, (V0.below (below9s BA hbS (by omega))).nine.2.2.2.2.2.2.2.1, (V0.below (below9s BA hbS (by omega))).nine.2.2.2.2.2.2.2.2.1, (BX.below (below9s BA hbS (by omega))).nine.1, (BX.below (below9s BA hbS (by omega))).nine.2.1, (BX.below (below9s BA hbS (by omega))).nine.2.2.1, (BX.below (below9s BA hbS (by omega))).nine.2.2.2.1, (BX.below (below9s BA hbS (by omega))).nine.2.2.2.2.1, (BX.below (below9s BA hbS (by omega))).nine.2.2.2.2.2.1, (BX.below (below9s BA hbS (by omega))).nine.2.2.2.2.2.2.1, (BX.below (below9s BA hbS (by omega))).nine.2.2.2.2.2.2.2.1, (BX.below (below9s BA hbS (by omega))).nine.2.2.2.2.2.2.2.2.1, (V1.below (below9s BA hbS (by omega))).nine.1, (V1.below (below9s BA hbS (by omega))).nine.2.1, (V1.below (below9s BA hbS (by omega))).nine.2.2.1, (V1.below (below9s BA hbS (by omega))).nine.2.2.2.1, (V1.below (below9s BA hbS (by omega))).nine.2.2.2.2.1, (V1.below (below9s BA hbS (by omega))).nine.2.2.2.2.2.1, (V1.below (below9s BA hbS (by omega))).nine.2.2.2.2.2.2.1, (V1.below (below9s BA hbS (by omega))).nine.2.2.2.2.2.2.2.1, (V1.below (below9s BA hbS (by omega))).nine.2.2.2.2.2.2.2.2.1⟩ (fun hHeld => ?_)
            clear hK K
            try simp only [Act.put, List.setIfInBounds_toArray, List.set_cons_zero, List.set_cons_succ]
            refine wpAnyH_take (i := 12) (oi := { dst := some 19, op := _, type := _, pos := _, after := _, guard := _ }) (v := ?_) rfl (by kernel_rfl) (by kernel_rfl) (by kernel_rfl) (fun _ _ _ h => absurd h.1 (by simp)) (Or.inl ⟨by rfl, ?_⟩) (by assumption) ?_
            rotate_left
            · intro w hSw
              (try dsimp only at hSw)
              go_simp
              (try (with_reducible rfl))
            try simp only [Act.put, List.setIfInBounds_toArray, List.set_cons_zero, List.set_cons_succ]
            refine wpAnyH_done (by kernel_rfl) ?_ _
            rw [HJ.out]
            refine ⟨rfl, _, d1, d2, k1, k2, _, _, q1, q2, ?_, BA.setG9 _ _ _ _ _ _ _ _ _, hO.farG9 ?_ _ _ _ _ _ _ _ _ _, ⟨?_, ?_, ?_, ?_⟩, below9s BA hbS (by omega)⟩
            · simp only [Act.put, List.setIfInBounds_toArray, List.set_cons_zero, List.set_cons_succ]
            all_goals (first | omega | (simp <;> omega))
        · intro a' w13 hj
          rw [HJ.out] at hj
          clear HJ
          obtain ⟨BV2, d1V2, d2V2, k1V2, k2V2, loV2, hiV2, q1V2, q2V2, rfl, V2, OV2, ⟨e1V2, e2V2, e3V2, e4V2⟩, hbS⟩ := hj
          try simp only [Act.put, List.setIfInBounds_toArray, List.set_cons_zero, List.set_cons_succ]
          replace BV := BV.below hbS
          replace BG := BG.below hbS
          replace V0 := V0.below hbS
          replace OV0 := OV0.below hbS
          replace BX := BX.below hbS
          replace V1 := V1.below hbS
          replace OV1 := OV1.below hbS
          replace r1 := r1.below hbS
          replace r2 := r2.below hbS
          have hz13 := hbS.size
          replace hb := chain hb hbS
          clear hbS
          have e5V2 := V2.lt
          obtain ⟨q0_BV, q1_BV, q2_BV, q3_BV, qf_BV, ql_BV⟩ := BV.four
          obtain ⟨q0_BG, q1_BG, q2_BG, q3_BG, q4_BG, q5_BG, q6_BG, q7_BG, q8_BG, qf_BG, ql_BG⟩ := BG.nine
          obtain ⟨q0_V0, q1_V0, q2_V0, q3_V0, q4_V0, q5_V0, q6_V0, q7_V0, q8_V0, qf_V0, ql_V0⟩ := V0.nine
          obtain ⟨q0_BX, q1_BX, q2_BX, q3_BX, q4_BX, q5_BX, q6_BX, q7_BX, q8_BX, qf_BX, ql_BX⟩ := BX.nine
          obtain ⟨q0_V1, q1_V1, q2_V1, q3_V1, q4_V1, q5_V1, q6_V1, q7_V1, q8_V1, qf_V1, ql_V1⟩ := V1.nine
          obtain ⟨q0_V2, q1_V2, q2_V2, q3_V2, q4_V2, q5_V2, q6_V2, q7_V2, q8_V2, qf_V2, ql_V2⟩ := V2.nine
          go_wp2_with fail
          clear q0_BV q1_BV q2_BV q3_BV qf_BV ql_BV
          clear q0_BG q1_BG q2_BG q3_BG q4_BG q5_BG q6_BG q7_BG q8_BG qf_BG ql_BG
          clear q0_V0 q1_V0 q2_V0 q3_V0 q4_V0 q5_V0 q6_V0 q7_V0 q8_V0 qf_V0 ql_V0
          clear q0_BX q1_BX q2_BX q3_BX q4_BX q5_BX q6_BX q7_BX q8_BX qf_BX ql_BX
          clear q0_V1 q1_V1 q2_V1 q3_V1 q4_V1 q5_V1 q6_V1 q7_V1 q8_V1 qf_V1 ql_V1
          clear q0_V2 q1_V2 q2_V2 q3_V2 q4_V2 q5_V2 q6_V2 q7_V2 q8_V2 qf_V2 ql_V2
          refine (eqGame_same X _ _ _ _ _ _ _ _ _ lX lY OV2.irow1 OV2.irow2 OV0.irow1 OV0.irow2).mono ?_
          rintro e w14 ⟨rfl, hb14⟩
          replace BV := BV.below hb14
          replace BG := BG.below hb14
          replace V0 := V0.below hb14
          replace OV0 := OV0.below hb14
          replace BX := BX.below hb14
          replace V1 := V1.below hb14
          replace OV1 := OV1.below hb14
          replace r1 := r1.below hb14
          replace r2 := r2.below hb14
          replace V2 := V2.below hb14
          replace OV2 := OV2.below hb14
          have hz14 := hb14.size
          replace hb := chain hb hb14
          clear hb14
          obtain ⟨q0_BV, q1_BV, q2_BV, q3_BV, qf_BV, ql_BV⟩ := BV.four
          obtain ⟨q0_BG, q1_BG, q2_BG, q3_BG, q4_BG, q5_BG, q6_BG, q7_BG, q8_BG, qf_BG, ql_BG⟩ := BG.nine
          obtain ⟨q0_V0, q1_V0, q2_V0, q3_V0, q4_V0, q5_V0, q6_V0, q7_V0, q8_V0, qf_V0, ql_V0⟩ := V0.nine
          obtain ⟨q0_BX, q1_BX, q2_BX, q3_BX, q4_BX, q5_BX, q6_BX, q7_BX, q8_BX, qf_BX, ql_BX⟩ := BX.nine
          obtain ⟨q0_V1, q1_V1, q2_V1, q3_V1, q4_V1, q5_V1, q6_V1, q7_V1, q8_V1, qf_V1, ql_V1⟩ := V1.nine
          obtain ⟨q0_V2, q1_V2, q2_V2, q3_V2, q4_V2, q5_V2, q6_V2, q7_V2, q8_V2, qf_V2, ql_V2⟩ := V2.nine
          go_wp2_with fail
          clear q0_BV q1_BV q2_BV q3_BV qf_BV ql_BV
          clear q0_BG q1_BG q2_BG q3_BG q4_BG q5_BG q6_BG q7_BG q8_BG qf_BG ql_BG
          clear q0_V0 q1_V0 q2_V0 q3_V0 q4_V0 q5_V0 q6_V0 q7_V0 q8_V0 qf_V0 ql_V0
          clear q0_BX q1_BX q2_BX q3_BX q4_BX q5_BX q6_BX q7_BX q8_BX qf_BX ql_BX
          clear q0_V1 q1_V1 q2_V1 q3_V1 q4_V1 q5_V1 q6_V1 q7_V1 q8_V1 qf_V1 ql_V1
          clear q0_V2 q1_V2 q2_V2 q3_V2 q4_V2 q5_V2 q6_V2 q7_V2 q8_V2 qf_V2 ql_V2
          refine (heldGame_any X _ _ _ _ 1 _ lX lY (by omega) (by omega) OV1.irow1 OV1.irow2).mono ?_
          rintro e w15 ⟨rfl, hb15⟩
          replace BV := BV.below hb15
          replace BG := BG.below hb15
          replace V0 := V0.below hb15
          replace OV0 := OV0.below hb15
          replace BX := BX.below hb15
          replace V1 := V1.below hb15
          replace OV1 := OV1.below hb15
          replace r1 := r1.below hb15
          replace r2 := r2.below hb15
          replace V2 := V2.below hb15
          replace OV2 := OV2.below hb15
          have hz15 := hb15.size
          replace hb := chain hb hb15
          clear hb15
          obtain ⟨q0_BV, q1_BV, q2_BV, q3_BV, qf_BV, ql_BV⟩ := BV.four
          obtain ⟨q0_BG, q1_BG, q2_BG, q3_BG, q4_BG, q5_BG, q6_BG, q7_BG, q8_BG, qf_BG, ql_BG⟩ := BG.nine
          obtain ⟨q0_V0, q1_V0, q2_V0, q3_V0, q4_V0, q5_V0, q6_V0, q7_V0, q8_V0, qf_V0, ql_V0⟩ := V0.nine
          obtain ⟨q0_BX, q1_BX, q2_BX, q3_BX, q4_BX, q5_BX, q6_BX, q7_BX, q8_BX, qf_BX, ql_BX⟩ := BX.nine
          obtain ⟨q0_V1, q1_V1, q2_V1, q3_V1, q4_V1, q5_V1, q6_V1, q7_V1, q8_V1, qf_V1, ql_V1⟩ := V1.nine
          obtain ⟨q0_V2, q1_V2, q2_V2, q3_V2, q4_V2, q5_V2, q6_V2, q7_V2, q8_V2, qf_V2, ql_V2⟩ := V2.nine
          go_wp2_with fail
          go_ret
          exact ⟨rfl, hb⟩
set_option maxRecDepth 100000 in
theorem fnExactOpeningRoll_lifted (os : Os) (started : os.Started) (H : Type) (enc : TypeId × Value → H) :
    ReturnsInHanded {} Try.checked os 11 .any (Rows.fnExactOpeningRollSpec.pre6 enc Try.prog Try.f11 Rows.fnExactOpeningRollRow.domain false) (Rows.fnExactOpeningRollSpec.post enc Try.prog Try.f11 false true false false) := by
  refine returnsInHanded_of_change (C := Try.checked) own started (by kernel_rfl) Try.func11
    (ChangeSpec.witness6 (enc := enc) (C := Try.checked) false ⟨#[], #[.agg #[.int .i64 0, .int .i64 0, .int .i64 0, .int .i64 0], .agg #[.slice none 0 0, .slice none 0 0, .int .i64 0, .int .i64 0, .int .i64 0, .int .i64 0, .int .i64 0, .int .i64 0, .int .i64 0], .int .i64 0, .int .i64 0], []⟩ 8 (by kernel_rfl) (by kernel_rfl) (by kernel_rfl) (by kernel_rfl)) ?_
  intro W base args ds gs before hval0 hW hcnd _
  have hval : ∀ (j : Nat) t v, Try.f11.params[j]? = some t → args[j]? = some v → Value.okWide Try.prog W .any base t v := hval0
  have hW' := hW
  obtain ⟨p, q, hA0, hV, rfl, hfz, hnd⟩ := hW
  have hA : DataW.TrodAll enc Try.prog W 0 (fun _ => true) true Try.f11.params.toList args.toList ds p := hA0
  rw [Try.params11] at hA hval
  obtain ⟨v0, vs0, d0, ds0, p0, q0, hargs, rfl, rfl, h0, r0⟩ := trodAll_cons hA
  obtain ⟨v1, vs1, d1, ds1, p1, q1, rfl, rfl, rfl, h1, r1⟩ := trodAll_cons r0
  obtain ⟨v2, vs2, d2, ds2, p2, q2, rfl, rfl, rfl, h2, r2⟩ := trodAll_cons r1
  obtain ⟨v3, vs3, d3, ds3, p3, q3, rfl, rfl, rfl, h3, r3⟩ := trodAll_cons r2
  obtain ⟨rfl, rfl, rfl⟩ := trodAll_nil r3
  obtain rfl : args = #[v0, v1, v2, v3] := by cases args; simp_all
  obtain ⟨rfl, rfl⟩ := trodVars_none hV
  have k0 := h0
  have lt0 : ∀ x ∈ p0, x.block < W.heap.size := by obtain ⟨m, hm⟩ := k0; exact DataW.trod_lt m _ _ _ hm
  have k1 := h1
  have lt1 : ∀ x ∈ p1, x.block < W.heap.size := by obtain ⟨m, hm⟩ := k1; exact DataW.trod_lt m _ _ _ hm
  have k2 := h2
  have lt2 : ∀ x ∈ p2, x.block < W.heap.size := by obtain ⟨m, hm⟩ := k2; exact DataW.trod_lt m _ _ _ hm
  have k3 := h3
  have lt3 : ∀ x ∈ p3, x.block < W.heap.size := by obtain ⟨m, hm⟩ := k3; exact DataW.trod_lt m _ _ _ hm
  obtain ⟨x0_0, x1_0, x2_0, x3_0, y0_0, y1_0, y2_0, y3_0, m_0, rfl, _, _, hy0_0, hy1_0, hy2_0, hy3_0⟩ := Joins.open_agg4 Try.underlying23 (by kernel_rfl) (show Try.prog.cellsOf 23 = 4 by kernel_rfl) (hval 0 23 v0 rfl rfl) h0
  obtain ⟨a0_0, e0_0, _, wa0_0⟩ := DataW.trod_int Try.underlying2 hy0_0
  obtain ⟨a1_0, e1_0, _, wa1_0⟩ := DataW.trod_int Try.underlying2 hy1_0
  obtain ⟨a2_0, e2_0, _, wa2_0⟩ := DataW.trod_int Try.underlying2 hy2_0
  obtain ⟨a3_0, e3_0, _, wa3_0⟩ := DataW.trod_int Try.underlying2 hy3_0
  simp at e0_0 e1_0 e2_0 e3_0
  subst e0_0 e1_0 e2_0 e3_0
  obtain ⟨G_1, ga_1, gb_1, gc_1, gd_1, rfl, gl_1, gm_1, gr_1, gs_1⟩ := open_game (hval 1 66 v1 rfl rfl) h1
  obtain ⟨n_2, rfl, _, _, wn_2⟩ := open_int Try.underlying2 (hval 2 2 v2 rfl rfl) h2
  obtain ⟨n_3, rfl, _, _, wn_3⟩ := open_int Try.underlying2 (hval 3 2 v3 rfl rfl) h3
  clear hA0 hval0
  refine (fnExactOpeningRoll_walk a0_0 a1_0 a2_0 a3_0 G_1 ga_1 gb_1 gc_1 gd_1 n_2 n_3 W gl_1 gm_1 gr_1 gs_1).mono fun e W' ⟨he, bel⟩ => ?_
  subst he
  exact ⟨_, rfl, _, _, _, [], _, [], hW', trodAll_mk1 (shut_bool Try.underlying4 _), (trodAll_cons_mk (Below.trod laidOut (by kernel_rfl) (of_decide_eq_true (by kernel_rfl)) k0 bel lt0) (trodAll_cons_mk (Below.trod laidOut (by kernel_rfl) (of_decide_eq_true (by kernel_rfl)) k1 bel lt1) (trodAll_cons_mk (Below.trod laidOut (by kernel_rfl) (of_decide_eq_true (by kernel_rfl)) k2 bel lt2) (trodAll_cons_mk (Below.trod laidOut (by kernel_rfl) (of_decide_eq_true (by kernel_rfl)) k3 bel lt3) trodAll_mk0)))), rfl, bel.frame _, fun h => by cases h⟩
theorem fnExactOpeningRoll_holds : Rows.FnExactOpeningRollSaid :=
  OpenClaim.holds_of_wide 11 Try.f11 rfl rfl rfl rfl rfl rfl rfl ⟨rfl, rfl, rfl, rfl, rfl⟩ rfl rfl rfl rfl rfl (by kernel_rfl) Try.func11 (by kernel_rfl)
    (of_decide_eq_true (by kernel_rfl)) (by unfold Func.isWrapper; first | (rw [if_pos (by decide +kernel)]; kernel_rfl) | (rw [if_neg (by decide +kernel)]; exact ⟨rfl, rfl⟩))
    (fun os started H enc _ => fnExactOpeningRoll_lifted os started H enc)
end Go.Proofs.Ytokjkcnjmfbfiaa
