/- The exact law of chapter 8 on valid games holds: for every input the law returns true and its arguments read behind the call as they read before. No conditions. -/
import Derived.Test.Ytokjkcnjmfbfiaa08h
import Derived.Test.YtokjkcnjmfbfiaaGamL
import Derived.Test.YtokjkcnjmfbfiaaGamArg
import Derived.Test.YtokjkcnjmfbfiaaRows
import Derived.ChangeOld
namespace Go.Proofs.Ytokjkcnjmfbfiaa
open Go.ChangeMaps (open_string shut_string)
open Go.ChangeShapes Go.WideShapes Go.ChangeAt Go.RowKit
set_option linter.unusedVariables false
set_option linter.unusedSimpArgs false
set_option maxRecDepth 4000

set_option maxRecDepth 8000 in
set_option maxHeartbeats 4000000 in
theorem fnExactIsGame_walk (p c h s : Int) (G : Gm) (a1 a2 : Option Addr) (c1 c2 : Nat) (w : World) (m1 : G.xs.length ≤ 9223372036854775807) (m2 : G.ys.length ≤ 9223372036854775807) (r1 : IRow w a1 G.xs) (r2 : IRow w a2 G.ys) :
    Calls Try.prog 10 #[.agg #[.int .i64 p, .int .i64 c, .int .i64 h, .int .i64 s], .agg #[.slice a1 G.xs.length c1, .slice a2 G.ys.length c2, .int .i64 G.pl, .int .i64 G.ra, .int .i64 G.rb, .int .i64 G.ph, .int .i64 G.wi, .int .i64 G.re, .int .i64 G.tu]] w fun e w' => e = .returned (.bool true) ∧ Below w.heap.size w w' := by
  obtain ⟨BV, BG, hb, hz0⟩ := two_new' w #[.int .i64 p, .int .i64 c, .int .i64 h, .int .i64 s] #[.slice a1 G.xs.length c1, .slice a2 G.ys.length c2, .int .i64 G.pl, .int .i64 G.ra, .int .i64 G.rb, .int .i64 G.ph, .int .i64 G.wi, .int .i64 G.re, .int .i64 G.tu] 23 66
  have hsz := fun w => szGame_any G a1 a2 c1 c2 1048576 w (by omega) (by omega) m1 m2
  replace r1 := r1.below hb
  replace r2 := r2.below hb
  obtain ⟨ga0, ga1, ga2, ga3, ga4, ga5, ga6, ga7, ga8, gaf, gal⟩ := BG.nine
  by_cases hneg : szAfter 1048576 G.xs.length G.ys.length = -1
  · rw [hneg] at hsz
    have HZ := Lib.hid hsz
    clear hsz hneg
    go_enter Try.func10, Try.ntmps10
    go_wp2_with fail
    generalize ((w.alloc (.cells #[.int .i64 p, .int .i64 c, .int .i64 h, .int .i64 s] 23)).alloc (.cells #[.slice a1 G.xs.length c1, .slice a2 G.ys.length c2, .int .i64 G.pl, .int .i64 G.ra, .int .i64 G.rb, .int .i64 G.ph, .int .i64 G.wi, .int .i64 G.re, .int .i64 G.tu] 66)) = v0 at *
    refine (HZ.out _).mono ?_
    rintro e w1 ⟨rfl, hb1⟩
    go_wp2
    go_ret
    exact ⟨rfl, chain hb hb1⟩
  · have hle : (G.xs.length : Int) + G.ys.length ≤ 1048576 := by
      unfold szAfter at hneg
      split at hneg
      · exact absurd rfl hneg
      · split at hneg
        · exact absurd rfl hneg
        · omega
    obtain ⟨z, hzz⟩ : ∃ z, szAfter 1048576 G.xs.length G.ys.length = z := ⟨_, rfl⟩
    have hzp : 0 ≤ z := by
      rw [← hzz]
      unfold szAfter
      rw [if_neg (by omega), if_neg (by omega)]
      omega
    rw [hzz] at hsz
    have HZ := Lib.hid hsz
    clear hsz hneg hzz
    have l1 : G.xs.length ≤ 1048576 := by omega
    have l2 : G.ys.length ≤ 1048576 := by omega
    have hsp : ∀ (a1 a2 : Option Addr) (k1 k2 : Nat) (W : World), IRow W a1 G.xs → IRow W a2 G.ys → Calls Try.prog 47 #[.agg #[.int .i64 p, .int .i64 c, .int .i64 h, .int .i64 s], .agg #[.slice a1 G.xs.length k1, .slice a2 G.ys.length k2, .int .i64 G.pl, .int .i64 G.ra, .int .i64 G.rb, .int .i64 G.ph, .int .i64 G.wi, .int .i64 G.re, .int .i64 G.tu]] W fun e w' => e = .returned (.bool (gmB p c h s G.xs G.ys G.pl G.ra G.rb G.ph G.wi G.re G.tu)) ∧ Below W.heap.size W w' := fun a1 a2 k1 k2 W r1 r2 => specIsGame_any p c h s a1 a2 _ _ k1 k2 G.xs G.ys W rfl rfl l1 l2 r1 r2 _ _ _ _ _ _ _
    have him : ∀ (a1 a2 : Option Addr) (k1 k2 : Nat) (W : World), IRow W a1 G.xs → IRow W a2 G.ys → Calls Try.prog 49 #[.agg #[.int .i64 p, .int .i64 c, .int .i64 h, .int .i64 s], .agg #[.slice a1 G.xs.length k1, .slice a2 G.ys.length k2, .int .i64 G.pl, .int .i64 G.ra, .int .i64 G.rb, .int .i64 G.ph, .int .i64 G.wi, .int .i64 G.re, .int .i64 G.tu]] W fun e w' => e = .returned (.bool (gmB p c h s G.xs G.ys G.pl G.ra G.rb G.ph G.wi G.re G.tu)) ∧ Below W.heap.size W w' := fun a1 a2 k1 k2 W r1 r2 => isGame_any p c h s a1 a2 _ _ k1 k2 G.xs G.ys W rfl rfl l1 l2 r1 r2 _ _ _ _ _ _ _
    obtain ⟨R, hR⟩ : ∃ R, gmB p c h s G.xs G.ys G.pl G.ra G.rb G.ph G.wi G.re G.tu = R := ⟨_, rfl⟩
    rw [hR] at hsp him
    have HSP := Lib.hid hsp
    have HIM := Lib.hid him
    clear hsp him hR
    go_enter Try.func10, Try.ntmps10
    go_wp2_with fail
    clear ga0 ga1 ga2 ga3 ga4 ga5 ga6 ga7 ga8 gaf gal
    generalize ((w.alloc (.cells #[.int .i64 p, .int .i64 c, .int .i64 h, .int .i64 s] 23)).alloc (.cells #[.slice a1 G.xs.length c1, .slice a2 G.ys.length c2, .int .i64 G.pl, .int .i64 G.ra, .int .i64 G.rb, .int .i64 G.ph, .int .i64 G.wi, .int .i64 G.re, .int .i64 G.tu] 66)) = v0 at *
    refine (HZ.out _).mono ?_
    rintro e w0 ⟨rfl, hb1⟩
    replace BV := BV.below hb1
    replace BG := BG.below hb1
    replace r1 := r1.below hb1
    replace r2 := r2.below hb1
    have hlt0 : w.heap.size + 1 < w0.heap.size := BG.lt
    replace hb := chain hb hb1
    clear hb1 hz0 HZ
    obtain ⟨q0_BV, q1_BV, q2_BV, q3_BV, qf_BV, ql_BV⟩ := BV.four
    obtain ⟨q0_BG, q1_BG, q2_BG, q3_BG, q4_BG, q5_BG, q6_BG, q7_BG, q8_BG, qf_BG, ql_BG⟩ := BG.nine
    go_wp2_with fail
    clear q0_BV q1_BV q2_BV q3_BV qf_BV ql_BV
    clear q0_BG q1_BG q2_BG q3_BG q4_BG q5_BG q6_BG q7_BG q8_BG qf_BG ql_BG
    have hd1 : w0.drew.heap.size = w0.heap.size := rfl
    replace BV := BV.drew
    replace BG := BG.drew
    replace r1 := r1.drew
    replace r2 := r2.drew
    replace hb := hb.drew
    refine wp_region_held_drew (S := fun w' => w'.cell? ⟨w.heap.size, 0, none⟩ = some (.int .i64 p) ∧ w'.cell? ⟨w.heap.size, 1, none⟩ = some (.int .i64 c) ∧ w'.cell? ⟨w.heap.size, 2, none⟩ = some (.int .i64 h) ∧ w'.cell? ⟨w.heap.size, 3, none⟩ = some (.int .i64 s) ∧ w'.cell? ⟨(w.heap.size + 1), 0, none⟩ = some (.slice a1 G.xs.length c1) ∧ w'.cell? ⟨(w.heap.size + 1), 1, none⟩ = some (.slice a2 G.ys.length c2) ∧ w'.cell? ⟨(w.heap.size + 1), 2, none⟩ = some (.int .i64 G.pl) ∧ w'.cell? ⟨(w.heap.size + 1), 3, none⟩ = some (.int .i64 G.ra) ∧ w'.cell? ⟨(w.heap.size + 1), 4, none⟩ = some (.int .i64 G.rb) ∧ w'.cell? ⟨(w.heap.size + 1), 5, none⟩ = some (.int .i64 G.ph) ∧ w'.cell? ⟨(w.heap.size + 1), 6, none⟩ = some (.int .i64 G.wi) ∧ w'.cell? ⟨(w.heap.size + 1), 7, none⟩ = some (.int .i64 G.re) ∧ w'.cell? ⟨(w.heap.size + 1), 8, none⟩ = some (.int .i64 G.tu)) (by kernel_rfl) ⟨BV.four.1, BV.four.2.1, BV.four.2.2.1, BV.four.2.2.2.1, BG.nine.1, BG.nine.2.1, BG.nine.2.2.1, BG.nine.2.2.2.1, BG.nine.2.2.2.2.1, BG.nine.2.2.2.2.2.1, BG.nine.2.2.2.2.2.2.1, BG.nine.2.2.2.2.2.2.2.1, BG.nine.2.2.2.2.2.2.2.2.1⟩ (fun hHeld => ?_)
    clear hHeld
    generalize w0.drew = vd1 at *
    have hHeld : vd1.cell? ⟨w.heap.size, 0, none⟩ = some (.int .i64 p) ∧ vd1.cell? ⟨w.heap.size, 1, none⟩ = some (.int .i64 c) ∧ vd1.cell? ⟨w.heap.size, 2, none⟩ = some (.int .i64 h) ∧ vd1.cell? ⟨w.heap.size, 3, none⟩ = some (.int .i64 s) ∧ vd1.cell? ⟨(w.heap.size + 1), 0, none⟩ = some (.slice a1 G.xs.length c1) ∧ vd1.cell? ⟨(w.heap.size + 1), 1, none⟩ = some (.slice a2 G.ys.length c2) ∧ vd1.cell? ⟨(w.heap.size + 1), 2, none⟩ = some (.int .i64 G.pl) ∧ vd1.cell? ⟨(w.heap.size + 1), 3, none⟩ = some (.int .i64 G.ra) ∧ vd1.cell? ⟨(w.heap.size + 1), 4, none⟩ = some (.int .i64 G.rb) ∧ vd1.cell? ⟨(w.heap.size + 1), 5, none⟩ = some (.int .i64 G.ph) ∧ vd1.cell? ⟨(w.heap.size + 1), 6, none⟩ = some (.int .i64 G.wi) ∧ vd1.cell? ⟨(w.heap.size + 1), 7, none⟩ = some (.int .i64 G.re) ∧ vd1.cell? ⟨(w.heap.size + 1), 8, none⟩ = some (.int .i64 G.tu) := ⟨BV.four.1, BV.four.2.1, BV.four.2.2.1, BV.four.2.2.2.1, BG.nine.1, BG.nine.2.1, BG.nine.2.2.1, BG.nine.2.2.2.1, BG.nine.2.2.2.2.1, BG.nine.2.2.2.2.2.1, BG.nine.2.2.2.2.2.2.1, BG.nine.2.2.2.2.2.2.2.1, BG.nine.2.2.2.2.2.2.2.2.1⟩
    refine wpAnyH_take (i := 0) (oi := { dst := some 14, op := _, type := _, pos := _, after := _, guard := _ }) (v := ?_) rfl (by kernel_rfl) (by kernel_rfl) (by kernel_rfl) (fun _ _ _ h => h) (Or.inl ⟨by rfl, ?_⟩) (by assumption) ?_
    rotate_left
    · intro w hSw
      (try dsimp only at hSw)
      go_simp
      (try (with_reducible rfl))
    try simp only [Act.put, List.setIfInBounds_toArray, List.set_cons_zero, List.set_cons_succ]
    refine wpAnyH_take (i := 2) (oi := { dst := some 16, op := _, type := _, pos := _, after := _, guard := _ }) (v := ?_) rfl (by kernel_rfl) (by kernel_rfl) (by kernel_rfl) (fun _ _ _ h => h) (Or.inl ⟨by rfl, ?_⟩) (by assumption) ?_
    rotate_left
    · intro w hSw
      (try dsimp only at hSw)
      go_simp
      (try (with_reducible rfl))
    try simp only [Act.put, List.setIfInBounds_toArray, List.set_cons_zero, List.set_cons_succ]
    refine wpAnyH_ready (rs := [1]) (by kernel_rfl) (by simp) ?_
    refine AllReadyH.cons (o := { dst := some 15, op := _, type := _, pos := _, after := _, guard := _ }) rfl (fun K hK => ?_) AllReadyH.nil
    go_simp
    refine (toVariant_any _ _ _ _ _).mono ?_
    rintro e w2 ⟨rfl, hb2⟩
    replace BV := BV.below hb2
    replace BG := BG.below hb2
    replace r1 := r1.below hb2
    replace r2 := r2.below hb2
    have hz2 := hb2.size
    replace hb := chain hb hb2
    clear hb2
    (try go_wp2_with fail)
    refine hK.out _ _ ⟨BV.four.1, BV.four.2.1, BV.four.2.2.1, BV.four.2.2.2.1, BG.nine.1, BG.nine.2.1, BG.nine.2.2.1, BG.nine.2.2.2.1, BG.nine.2.2.2.2.1, BG.nine.2.2.2.2.2.1, BG.nine.2.2.2.2.2.2.1, BG.nine.2.2.2.2.2.2.2.1, BG.nine.2.2.2.2.2.2.2.2.1⟩ (fun hHeld => ?_)
    clear hK K
    try simp only [Act.put, List.setIfInBounds_toArray, List.set_cons_zero, List.set_cons_succ]
    refine wpAnyH_ready (rs := [3]) (by kernel_rfl) (by simp) ?_
    refine AllReadyH.cons (o := { dst := some 17, op := _, type := _, pos := _, after := _, guard := _ }) rfl (fun K hK => ?_) AllReadyH.nil
    go_simp
    refine (toGame_any G a1 a2 c1 c2 _ l1 l2 r1 r2).mono ?_
    rintro e w3 ⟨q1, q2, rfl, gg1, gg2, R1, R2, hb3⟩
    replace BV := BV.below hb3
    replace BG := BG.below hb3
    replace r1 := r1.below hb3
    replace r2 := r2.below hb3
    have hz3 := hb3.size
    replace hb := chain hb hb3
    clear hb3
    (try go_wp2_with fail)
    refine hK.out _ _ ⟨BV.four.1, BV.four.2.1, BV.four.2.2.1, BV.four.2.2.2.1, BG.nine.1, BG.nine.2.1, BG.nine.2.2.1, BG.nine.2.2.2.1, BG.nine.2.2.2.2.1, BG.nine.2.2.2.2.2.1, BG.nine.2.2.2.2.2.2.1, BG.nine.2.2.2.2.2.2.2.1, BG.nine.2.2.2.2.2.2.2.2.1⟩ (fun hHeld => ?_)
    clear hK K
    try simp only [Act.put, List.setIfInBounds_toArray, List.set_cons_zero, List.set_cons_succ]
    refine wpAnyH_ready (rs := [4]) (by kernel_rfl) (by simp) ?_
    refine AllReadyH.cons (o := { dst := some 18, op := _, type := _, pos := _, after := _, guard := _ }) rfl (fun K hK => ?_) AllReadyH.nil
    go_simp
    refine (HSP.out _ _ _ _ _ R1.irow R2.irow).mono ?_
    rintro e w4 ⟨rfl, hb4⟩
    replace BV := BV.below hb4
    replace BG := BG.below hb4
    replace r1 := r1.below hb4
    replace r2 := r2.below hb4
    replace R1 := R1.below hb4
    replace R2 := R2.below hb4
    have hz4 := hb4.size
    replace hb := chain hb hb4
    clear hb4
    (try go_wp2_with fail)
    refine hK.out _ _ ⟨BV.four.1, BV.four.2.1, BV.four.2.2.1, BV.four.2.2.2.1, BG.nine.1, BG.nine.2.1, BG.nine.2.2.1, BG.nine.2.2.2.1, BG.nine.2.2.2.2.1, BG.nine.2.2.2.2.2.1, BG.nine.2.2.2.2.2.2.1, BG.nine.2.2.2.2.2.2.2.1, BG.nine.2.2.2.2.2.2.2.2.1⟩ (fun hHeld => ?_)
    clear hK K
    try simp only [Act.put, List.setIfInBounds_toArray, List.set_cons_zero, List.set_cons_succ]
    refine wpAnyH_take (i := 5) (oi := { dst := some 6, op := _, type := _, pos := _, after := _, guard := _ }) (v := ?_) rfl (by kernel_rfl) (by kernel_rfl) (by kernel_rfl) (fun _ _ _ h => h) (Or.inl ⟨by rfl, ?_⟩) (by assumption) ?_
    rotate_left
    · intro w hSw
      (try dsimp only at hSw)
      go_simp
      (try (with_reducible rfl))
    try simp only [Act.put, List.setIfInBounds_toArray, List.set_cons_zero, List.set_cons_succ]
    refine wpAnyH_done (by kernel_rfl) ?_ _
    clear hHeld
    clear R1 R2 gg1 gg2
    obtain ⟨q0_BV, q1_BV, q2_BV, q3_BV, qf_BV, ql_BV⟩ := BV.four
    obtain ⟨q0_BG, q1_BG, q2_BG, q3_BG, q4_BG, q5_BG, q6_BG, q7_BG, q8_BG, qf_BG, ql_BG⟩ := BG.nine
    go_wp2_with fail
    clear q0_BV q1_BV q2_BV q3_BV qf_BV ql_BV
    clear q0_BG q1_BG q2_BG q3_BG q4_BG q5_BG q6_BG q7_BG q8_BG qf_BG ql_BG
    refine (toGame_any G a1 a2 c1 c2 _ l1 l2 r1 r2).mono ?_
    rintro e w5 ⟨b1, b2, rfl, gb1, gb2, R1, R2, hb5⟩
    replace BV := BV.below hb5
    replace BG := BG.below hb5
    replace r1 := r1.below hb5
    replace r2 := r2.below hb5
    have hz5 := hb5.size
    replace hb := chain hb hb5
    clear hb5
    have BX := Blk.new w5 #[.slice (some ⟨b1, 0, none⟩) G.xs.length G.xs.length, .slice (some ⟨b2, 0, none⟩) G.ys.length G.ys.length, .int .i64 G.pl, .int .i64 G.ra, .int .i64 G.rb, .int .i64 G.ph, .int .i64 G.wi, .int .i64 G.re, .int .i64 G.tu] 70
    have hal6 : Below w5.heap.size w5 (w5.alloc (.cells #[.slice (some ⟨b1, 0, none⟩) G.xs.length G.xs.length, .slice (some ⟨b2, 0, none⟩) G.ys.length G.ys.length, .int .i64 G.pl, .int .i64 G.ra, .int .i64 G.rb, .int .i64 G.ph, .int .i64 G.wi, .int .i64 G.re, .int .i64 G.tu] 70)) := (Below.refl _ _).alloc (Nat.le_refl _) _
    have hz6 : (w5.alloc (.cells #[.slice (some ⟨b1, 0, none⟩) G.xs.length G.xs.length, .slice (some ⟨b2, 0, none⟩) G.ys.length G.ys.length, .int .i64 G.pl, .int .i64 G.ra, .int .i64 G.rb, .int .i64 G.ph, .int .i64 G.wi, .int .i64 G.re, .int .i64 G.tu] 70)).heap.size = w5.heap.size + 1 := by simp
    replace BV := BV.below hal6
    replace BG := BG.below hal6
    replace r1 := r1.below hal6
    replace r2 := r2.below hal6
    replace R1 := R1.below hal6
    replace R2 := R2.below hal6
    replace hb := chain hb hal6
    clear hal6
    obtain ⟨q0_BV, q1_BV, q2_BV, q3_BV, qf_BV, ql_BV⟩ := BV.four
    obtain ⟨q0_BG, q1_BG, q2_BG, q3_BG, q4_BG, q5_BG, q6_BG, q7_BG, q8_BG, qf_BG, ql_BG⟩ := BG.nine
    obtain ⟨q0_BX, q1_BX, q2_BX, q3_BX, q4_BX, q5_BX, q6_BX, q7_BX, q8_BX, qf_BX, ql_BX⟩ := BX.nine
    go_wp2_with fail
    clear q0_BV q1_BV q2_BV q3_BV qf_BV ql_BV
    clear q0_BG q1_BG q2_BG q3_BG q4_BG q5_BG q6_BG q7_BG q8_BG qf_BG ql_BG
    clear q0_BX q1_BX q2_BX q3_BX q4_BX q5_BX q6_BX q7_BX q8_BX qf_BX ql_BX
    generalize (w5.alloc (.cells #[.slice (some ⟨b1, 0, none⟩) G.xs.length G.xs.length, .slice (some ⟨b2, 0, none⟩) G.ys.length G.ys.length, .int .i64 G.pl, .int .i64 G.ra, .int .i64 G.rb, .int .i64 G.ph, .int .i64 G.wi, .int .i64 G.re, .int .i64 G.tu] 70)) = w6 at *
    obtain ⟨q0_BV, q1_BV, q2_BV, q3_BV, qf_BV, ql_BV⟩ := BV.four
    obtain ⟨q0_BG, q1_BG, q2_BG, q3_BG, q4_BG, q5_BG, q6_BG, q7_BG, q8_BG, qf_BG, ql_BG⟩ := BG.nine
    obtain ⟨q0_BX, q1_BX, q2_BX, q3_BX, q4_BX, q5_BX, q6_BX, q7_BX, q8_BX, qf_BX, ql_BX⟩ := BX.nine
    go_wp2_with fail
    clear q0_BV q1_BV q2_BV q3_BV qf_BV ql_BV
    clear q0_BG q1_BG q2_BG q3_BG q4_BG q5_BG q6_BG q7_BG q8_BG qf_BG ql_BG
    clear q0_BX q1_BX q2_BX q3_BX q4_BX q5_BX q6_BX q7_BX q8_BX qf_BX ql_BX
    have hd7 : w6.drew.heap.size = w6.heap.size := rfl
    replace BV := BV.drew
    replace BG := BG.drew
    replace r1 := r1.drew
    replace r2 := r2.drew
    replace R1 := R1.drew
    replace R2 := R2.drew
    replace BX := BX.drew
    replace hb := hb.drew
    refine wp_region_held_drew (S := fun w' => w'.cell? ⟨w.heap.size, 0, none⟩ = some (.int .i64 p) ∧ w'.cell? ⟨w.heap.size, 1, none⟩ = some (.int .i64 c) ∧ w'.cell? ⟨w.heap.size, 2, none⟩ = some (.int .i64 h) ∧ w'.cell? ⟨w.heap.size, 3, none⟩ = some (.int .i64 s) ∧ w'.cell? ⟨(w.heap.size + 1), 0, none⟩ = some (.slice a1 G.xs.length c1) ∧ w'.cell? ⟨(w.heap.size + 1), 1, none⟩ = some (.slice a2 G.ys.length c2) ∧ w'.cell? ⟨(w.heap.size + 1), 2, none⟩ = some (.int .i64 G.pl) ∧ w'.cell? ⟨(w.heap.size + 1), 3, none⟩ = some (.int .i64 G.ra) ∧ w'.cell? ⟨(w.heap.size + 1), 4, none⟩ = some (.int .i64 G.rb) ∧ w'.cell? ⟨(w.heap.size + 1), 5, none⟩ = some (.int .i64 G.ph) ∧ w'.cell? ⟨(w.heap.size + 1), 6, none⟩ = some (.int .i64 G.wi) ∧ w'.cell? ⟨(w.heap.size + 1), 7, none⟩ = some (.int .i64 G.re) ∧ w'.cell? ⟨(w.heap.size + 1), 8, none⟩ = some (.int .i64 G.tu) ∧ w'.cell? ⟨w5.heap.size, 0, none⟩ = some (.slice (some ⟨b1, 0, none⟩) G.xs.length G.xs.length) ∧ w'.cell? ⟨w5.heap.size, 1, none⟩ = some (.slice (some ⟨b2, 0, none⟩) G.ys.length G.ys.length) ∧ w'.cell? ⟨w5.heap.size, 2, none⟩ = some (.int .i64 G.pl) ∧ w'.cell? ⟨w5.heap.size, 3, none⟩ = some (.int .i64 G.ra) ∧ w'.cell? ⟨w5.heap.size, 4, none⟩ = some (.int .i64 G.rb) ∧ w'.cell? ⟨w5.heap.size, 5, none⟩ = some (.int .i64 G.ph) ∧ w'.cell? ⟨w5.heap.size, 6, none⟩ = some (.int .i64 G.wi) ∧ w'.cell? ⟨w5.heap.size, 7, none⟩ = some (.int .i64 G.re) ∧ w'.cell? ⟨w5.heap.size, 8, none⟩ = some (.int .i64 G.tu)) (by kernel_rfl) ⟨BV.four.1, BV.four.2.1, BV.four.2.2.1, BV.four.2.2.2.1, BG.nine.1, BG.nine.2.1, BG.nine.2.2.1, BG.nine.2.2.2.1, BG.nine.2.2.2.2.1, BG.nine.2.2.2.2.2.1, BG.nine.2.2.2.2.2.2.1, BG.nine.2.2.2.2.2.2.2.1, BG.nine.2.2.2.2.2.2.2.2.1, BX.nine.1, BX.nine.2.1, BX.nine.2.2.1, BX.nine.2.2.2.1, BX.nine.2.2.2.2.1, BX.nine.2.2.2.2.2.1, BX.nine.2.2.2.2.2.2.1, BX.nine.2.2.2.2.2.2.2.1, BX.nine.2.2.2.2.2.2.2.2.1⟩ (fun hHeld => ?_)
    clear hHeld
    generalize w6.drew = vd7 at *
    have hHeld : vd7.cell? ⟨w.heap.size, 0, none⟩ = some (.int .i64 p) ∧ vd7.cell? ⟨w.heap.size, 1, none⟩ = some (.int .i64 c) ∧ vd7.cell? ⟨w.heap.size, 2, none⟩ = some (.int .i64 h) ∧ vd7.cell? ⟨w.heap.size, 3, none⟩ = some (.int .i64 s) ∧ vd7.cell? ⟨(w.heap.size + 1), 0, none⟩ = some (.slice a1 G.xs.length c1) ∧ vd7.cell? ⟨(w.heap.size + 1), 1, none⟩ = some (.slice a2 G.ys.length c2) ∧ vd7.cell? ⟨(w.heap.size + 1), 2, none⟩ = some (.int .i64 G.pl) ∧ vd7.cell? ⟨(w.heap.size + 1), 3, none⟩ = some (.int .i64 G.ra) ∧ vd7.cell? ⟨(w.heap.size + 1), 4, none⟩ = some (.int .i64 G.rb) ∧ vd7.cell? ⟨(w.heap.size + 1), 5, none⟩ = some (.int .i64 G.ph) ∧ vd7.cell? ⟨(w.heap.size + 1), 6, none⟩ = some (.int .i64 G.wi) ∧ vd7.cell? ⟨(w.heap.size + 1), 7, none⟩ = some (.int .i64 G.re) ∧ vd7.cell? ⟨(w.heap.size + 1), 8, none⟩ = some (.int .i64 G.tu) ∧ vd7.cell? ⟨w5.heap.size, 0, none⟩ = some (.slice (some ⟨b1, 0, none⟩) G.xs.length G.xs.length) ∧ vd7.cell? ⟨w5.heap.size, 1, none⟩ = some (.slice (some ⟨b2, 0, none⟩) G.ys.length G.ys.length) ∧ vd7.cell? ⟨w5.heap.size, 2, none⟩ = some (.int .i64 G.pl) ∧ vd7.cell? ⟨w5.heap.size, 3, none⟩ = some (.int .i64 G.ra) ∧ vd7.cell? ⟨w5.heap.size, 4, none⟩ = some (.int .i64 G.rb) ∧ vd7.cell? ⟨w5.heap.size, 5, none⟩ = some (.int .i64 G.ph) ∧ vd7.cell? ⟨w5.heap.size, 6, none⟩ = some (.int .i64 G.wi) ∧ vd7.cell? ⟨w5.heap.size, 7, none⟩ = some (.int .i64 G.re) ∧ vd7.cell? ⟨w5.heap.size, 8, none⟩ = some (.int .i64 G.tu) := ⟨BV.four.1, BV.four.2.1, BV.four.2.2.1, BV.four.2.2.2.1, BG.nine.1, BG.nine.2.1, BG.nine.2.2.1, BG.nine.2.2.2.1, BG.nine.2.2.2.2.1, BG.nine.2.2.2.2.2.1, BG.nine.2.2.2.2.2.2.1, BG.nine.2.2.2.2.2.2.2.1, BG.nine.2.2.2.2.2.2.2.2.1, BX.nine.1, BX.nine.2.1, BX.nine.2.2.1, BX.nine.2.2.2.1, BX.nine.2.2.2.2.1, BX.nine.2.2.2.2.2.1, BX.nine.2.2.2.2.2.2.1, BX.nine.2.2.2.2.2.2.2.1, BX.nine.2.2.2.2.2.2.2.2.1⟩
    refine wpAnyH_take (i := 0) (oi := { dst := some 21, op := _, type := _, pos := _, after := _, guard := _ }) (v := ?_) rfl (by kernel_rfl) (by kernel_rfl) (by kernel_rfl) (fun _ _ _ h => h) (Or.inl ⟨by rfl, ?_⟩) (by assumption) ?_
    rotate_left
    · intro w hSw
      (try dsimp only at hSw)
      go_simp
      (try (with_reducible rfl))
    try simp only [Act.put, List.setIfInBounds_toArray, List.set_cons_zero, List.set_cons_succ]
    refine wpAnyH_take (i := 2) (oi := { dst := some 23, op := _, type := _, pos := _, after := _, guard := _ }) (v := ?_) rfl (by kernel_rfl) (by kernel_rfl) (by kernel_rfl) (fun _ _ _ h => h) (Or.inl ⟨by rfl, ?_⟩) (by assumption) ?_
    rotate_left
    · intro w hSw
      (try dsimp only at hSw)
      go_simp
      (try (with_reducible rfl))
    try simp only [Act.put, List.setIfInBounds_toArray, List.set_cons_zero, List.set_cons_succ]
    refine wpAnyH_ready (rs := [1]) (by kernel_rfl) (by simp) ?_
    refine AllReadyH.cons (o := { dst := some 22, op := _, type := _, pos := _, after := _, guard := _ }) rfl (fun K hK => ?_) AllReadyH.nil
    go_simp
    refine (toVariant_any _ _ _ _ _).mono ?_
    rintro e w8 ⟨rfl, hb8⟩
    replace BV := BV.below hb8
    replace BG := BG.below hb8
    replace r1 := r1.below hb8
    replace r2 := r2.below hb8
    replace R1 := R1.below hb8
    replace R2 := R2.below hb8
    replace BX := BX.below hb8
    have hz8 := hb8.size
    replace hb := chain hb hb8
    clear hb8
    (try go_wp2_with fail)
    refine hK.out _ _ ⟨BV.four.1, BV.four.2.1, BV.four.2.2.1, BV.four.2.2.2.1, BG.nine.1, BG.nine.2.1, BG.nine.2.2.1, BG.nine.2.2.2.1, BG.nine.2.2.2.2.1, BG.nine.2.2.2.2.2.1, BG.nine.2.2.2.2.2.2.1, BG.nine.2.2.2.2.2.2.2.1, BG.nine.2.2.2.2.2.2.2.2.1, BX.nine.1, BX.nine.2.1, BX.nine.2.2.1, BX.nine.2.2.2.1, BX.nine.2.2.2.2.1, BX.nine.2.2.2.2.2.1, BX.nine.2.2.2.2.2.2.1, BX.nine.2.2.2.2.2.2.2.1, BX.nine.2.2.2.2.2.2.2.2.1⟩ (fun hHeld => ?_)
    clear hK K
    try simp only [Act.put, List.setIfInBounds_toArray, List.set_cons_zero, List.set_cons_succ]
    refine wpAnyH_ready (rs := [3]) (by kernel_rfl) (by simp) ?_
    refine AllReadyH.cons (o := { dst := some 24, op := _, type := _, pos := _, after := _, guard := _ }) rfl (fun K hK => ?_) AllReadyH.nil
    go_simp
    refine (HIM.out _ _ _ _ _ R1.irow R2.irow).mono ?_
    rintro e w9 ⟨rfl, hb9⟩
    replace BV := BV.below hb9
    replace BG := BG.below hb9
    replace r1 := r1.below hb9
    replace r2 := r2.below hb9
    replace R1 := R1.below hb9
    replace R2 := R2.below hb9
    replace BX := BX.below hb9
    have hz9 := hb9.size
    replace hb := chain hb hb9
    clear hb9
    (try go_wp2_with fail)
    refine hK.out _ _ ⟨BV.four.1, BV.four.2.1, BV.four.2.2.1, BV.four.2.2.2.1, BG.nine.1, BG.nine.2.1, BG.nine.2.2.1, BG.nine.2.2.2.1, BG.nine.2.2.2.2.1, BG.nine.2.2.2.2.2.1, BG.nine.2.2.2.2.2.2.1, BG.nine.2.2.2.2.2.2.2.1, BG.nine.2.2.2.2.2.2.2.2.1, BX.nine.1, BX.nine.2.1, BX.nine.2.2.1, BX.nine.2.2.2.1, BX.nine.2.2.2.2.1, BX.nine.2.2.2.2.2.1, BX.nine.2.2.2.2.2.2.1, BX.nine.2.2.2.2.2.2.2.1, BX.nine.2.2.2.2.2.2.2.2.1⟩ (fun hHeld => ?_)
    clear hK K
    try simp only [Act.put, List.setIfInBounds_toArray, List.set_cons_zero, List.set_cons_succ]
    refine wpAnyH_take (i := 4) (oi := { dst := some 8, op := _, type := _, pos := _, after := _, guard := _ }) (v := ?_) rfl (by kernel_rfl) (by kernel_rfl) (by kernel_rfl) (fun _ _ _ h => h) (Or.inl ⟨by rfl, ?_⟩) (by assumption) ?_
    rotate_left
    · intro w hSw
      (try dsimp only at hSw)
      go_simp
      (try (with_reducible rfl))
    try simp only [Act.put, List.setIfInBounds_toArray, List.set_cons_zero, List.set_cons_succ]
    refine wpAnyH_done (by kernel_rfl) ?_ _
    clear hHeld
    obtain ⟨q0_BV, q1_BV, q2_BV, q3_BV, qf_BV, ql_BV⟩ := BV.four
    obtain ⟨q0_BG, q1_BG, q2_BG, q3_BG, q4_BG, q5_BG, q6_BG, q7_BG, q8_BG, qf_BG, ql_BG⟩ := BG.nine
    obtain ⟨q0_BX, q1_BX, q2_BX, q3_BX, q4_BX, q5_BX, q6_BX, q7_BX, q8_BX, qf_BX, ql_BX⟩ := BX.nine
    go_wp2_with fail
    clear q0_BV q1_BV q2_BV q3_BV qf_BV ql_BV
    clear q0_BG q1_BG q2_BG q3_BG q4_BG q5_BG q6_BG q7_BG q8_BG qf_BG ql_BG
    clear q0_BX q1_BX q2_BX q3_BX q4_BX q5_BX q6_BX q7_BX q8_BX qf_BX ql_BX
    have hd10 : w9.drew.heap.size = w9.heap.size := rfl
    replace BV := BV.drew
    replace BG := BG.drew
    replace r1 := r1.drew
    replace r2 := r2.drew
    replace R1 := R1.drew
    replace R2 := R2.drew
    replace BX := BX.drew
    replace hb := hb.drew
    refine wp_region_held_drew (S := fun w' => w'.cell? ⟨w.heap.size, 0, none⟩ = some (.int .i64 p) ∧ w'.cell? ⟨w.heap.size, 1, none⟩ = some (.int .i64 c) ∧ w'.cell? ⟨w.heap.size, 2, none⟩ = some (.int .i64 h) ∧ w'.cell? ⟨w.heap.size, 3, none⟩ = some (.int .i64 s) ∧ w'.cell? ⟨(w.heap.size + 1), 0, none⟩ = some (.slice a1 G.xs.length c1) ∧ w'.cell? ⟨(w.heap.size + 1), 1, none⟩ = some (.slice a2 G.ys.length c2) ∧ w'.cell? ⟨(w.heap.size + 1), 2, none⟩ = some (.int .i64 G.pl) ∧ w'.cell? ⟨(w.heap.size + 1), 3, none⟩ = some (.int .i64 G.ra) ∧ w'.cell? ⟨(w.heap.size + 1), 4, none⟩ = some (.int .i64 G.rb) ∧ w'.cell? ⟨(w.heap.size + 1), 5, none⟩ = some (.int .i64 G.ph) ∧ w'.cell? ⟨(w.heap.size + 1), 6, none⟩ = some (.int .i64 G.wi) ∧ w'.cell? ⟨(w.heap.size + 1), 7, none⟩ = some (.int .i64 G.re) ∧ w'.cell? ⟨(w.heap.size + 1), 8, none⟩ = some (.int .i64 G.tu) ∧ w'.cell? ⟨w5.heap.size, 0, none⟩ = some (.slice (some ⟨b1, 0, none⟩) G.xs.length G.xs.length) ∧ w'.cell? ⟨w5.heap.size, 1, none⟩ = some (.slice (some ⟨b2, 0, none⟩) G.ys.length G.ys.length) ∧ w'.cell? ⟨w5.heap.size, 2, none⟩ = some (.int .i64 G.pl) ∧ w'.cell? ⟨w5.heap.size, 3, none⟩ = some (.int .i64 G.ra) ∧ w'.cell? ⟨w5.heap.size, 4, none⟩ = some (.int .i64 G.rb) ∧ w'.cell? ⟨w5.heap.size, 5, none⟩ = some (.int .i64 G.ph) ∧ w'.cell? ⟨w5.heap.size, 6, none⟩ = some (.int .i64 G.wi) ∧ w'.cell? ⟨w5.heap.size, 7, none⟩ = some (.int .i64 G.re) ∧ w'.cell? ⟨w5.heap.size, 8, none⟩ = some (.int .i64 G.tu)) (by kernel_rfl) ⟨BV.four.1, BV.four.2.1, BV.four.2.2.1, BV.four.2.2.2.1, BG.nine.1, BG.nine.2.1, BG.nine.2.2.1, BG.nine.2.2.2.1, BG.nine.2.2.2.2.1, BG.nine.2.2.2.2.2.1, BG.nine.2.2.2.2.2.2.1, BG.nine.2.2.2.2.2.2.2.1, BG.nine.2.2.2.2.2.2.2.2.1, BX.nine.1, BX.nine.2.1, BX.nine.2.2.1, BX.nine.2.2.2.1, BX.nine.2.2.2.2.1, BX.nine.2.2.2.2.2.1, BX.nine.2.2.2.2.2.2.1, BX.nine.2.2.2.2.2.2.2.1, BX.nine.2.2.2.2.2.2.2.2.1⟩ (fun hHeld => ?_)
    clear hHeld
    generalize w9.drew = vd10 at *
    have hHeld : vd10.cell? ⟨w.heap.size, 0, none⟩ = some (.int .i64 p) ∧ vd10.cell? ⟨w.heap.size, 1, none⟩ = some (.int .i64 c) ∧ vd10.cell? ⟨w.heap.size, 2, none⟩ = some (.int .i64 h) ∧ vd10.cell? ⟨w.heap.size, 3, none⟩ = some (.int .i64 s) ∧ vd10.cell? ⟨(w.heap.size + 1), 0, none⟩ = some (.slice a1 G.xs.length c1) ∧ vd10.cell? ⟨(w.heap.size + 1), 1, none⟩ = some (.slice a2 G.ys.length c2) ∧ vd10.cell? ⟨(w.heap.size + 1), 2, none⟩ = some (.int .i64 G.pl) ∧ vd10.cell? ⟨(w.heap.size + 1), 3, none⟩ = some (.int .i64 G.ra) ∧ vd10.cell? ⟨(w.heap.size + 1), 4, none⟩ = some (.int .i64 G.rb) ∧ vd10.cell? ⟨(w.heap.size + 1), 5, none⟩ = some (.int .i64 G.ph) ∧ vd10.cell? ⟨(w.heap.size + 1), 6, none⟩ = some (.int .i64 G.wi) ∧ vd10.cell? ⟨(w.heap.size + 1), 7, none⟩ = some (.int .i64 G.re) ∧ vd10.cell? ⟨(w.heap.size + 1), 8, none⟩ = some (.int .i64 G.tu) ∧ vd10.cell? ⟨w5.heap.size, 0, none⟩ = some (.slice (some ⟨b1, 0, none⟩) G.xs.length G.xs.length) ∧ vd10.cell? ⟨w5.heap.size, 1, none⟩ = some (.slice (some ⟨b2, 0, none⟩) G.ys.length G.ys.length) ∧ vd10.cell? ⟨w5.heap.size, 2, none⟩ = some (.int .i64 G.pl) ∧ vd10.cell? ⟨w5.heap.size, 3, none⟩ = some (.int .i64 G.ra) ∧ vd10.cell? ⟨w5.heap.size, 4, none⟩ = some (.int .i64 G.rb) ∧ vd10.cell? ⟨w5.heap.size, 5, none⟩ = some (.int .i64 G.ph) ∧ vd10.cell? ⟨w5.heap.size, 6, none⟩ = some (.int .i64 G.wi) ∧ vd10.cell? ⟨w5.heap.size, 7, none⟩ = some (.int .i64 G.re) ∧ vd10.cell? ⟨w5.heap.size, 8, none⟩ = some (.int .i64 G.tu) := ⟨BV.four.1, BV.four.2.1, BV.four.2.2.1, BV.four.2.2.2.1, BG.nine.1, BG.nine.2.1, BG.nine.2.2.1, BG.nine.2.2.2.1, BG.nine.2.2.2.2.1, BG.nine.2.2.2.2.2.1, BG.nine.2.2.2.2.2.2.1, BG.nine.2.2.2.2.2.2.2.1, BG.nine.2.2.2.2.2.2.2.2.1, BX.nine.1, BX.nine.2.1, BX.nine.2.2.1, BX.nine.2.2.2.1, BX.nine.2.2.2.2.1, BX.nine.2.2.2.2.2.1, BX.nine.2.2.2.2.2.2.1, BX.nine.2.2.2.2.2.2.2.1, BX.nine.2.2.2.2.2.2.2.2.1⟩
    refine wpAnyH_take (i := 0) (oi := { dst := some 28, op := _, type := _, pos := _, after := _, guard := _ }) (v := ?_) rfl (by kernel_rfl) (by kernel_rfl) (by kernel_rfl) (fun _ _ _ h => h) (Or.inl ⟨by rfl, ?_⟩) (by assumption) ?_
    rotate_left
    · intro w hSw
      (try dsimp only at hSw)
      go_simp
      (try (with_reducible rfl))
    try simp only [Act.put, List.setIfInBounds_toArray, List.set_cons_zero, List.set_cons_succ]
    refine wpAnyH_take (i := 1) (oi := { dst := some 29, op := _, type := _, pos := _, after := _, guard := _ }) (v := ?_) rfl (by kernel_rfl) (by kernel_rfl) (by kernel_rfl) (fun _ _ _ h => h) (Or.inl ⟨by rfl, ?_⟩) (by assumption) ?_
    rotate_left
    · intro w hSw
      (try dsimp only at hSw)
      go_simp
      (try (with_reducible rfl))
    try simp only [Act.put, List.setIfInBounds_toArray, List.set_cons_zero, List.set_cons_succ]
    refine wpAnyH_ready (rs := [2]) (by kernel_rfl) (by simp) ?_
    refine AllReadyH.cons (o := { dst := some 30, op := _, type := _, pos := _, after := _, guard := _ }) rfl (fun K hK => ?_) AllReadyH.nil
    go_simp
    refine (toGame_any G a1 a2 c1 c2 _ l1 l2 r1 r2).mono ?_
    rintro e w11 ⟨q1, q2, rfl, gg1, gg2, Q1, Q2, hb11⟩
    replace BV := BV.below hb11
    replace BG := BG.below hb11
    replace r1 := r1.below hb11
    replace r2 := r2.below hb11
    replace R1 := R1.below hb11
    replace R2 := R2.below hb11
    replace BX := BX.below hb11
    have hz11 := hb11.size
    replace hb := chain hb hb11
    clear hb11
    (try go_wp2_with fail)
    refine hK.out _ _ ⟨BV.four.1, BV.four.2.1, BV.four.2.2.1, BV.four.2.2.2.1, BG.nine.1, BG.nine.2.1, BG.nine.2.2.1, BG.nine.2.2.2.1, BG.nine.2.2.2.2.1, BG.nine.2.2.2.2.2.1, BG.nine.2.2.2.2.2.2.1, BG.nine.2.2.2.2.2.2.2.1, BG.nine.2.2.2.2.2.2.2.2.1, BX.nine.1, BX.nine.2.1, BX.nine.2.2.1, BX.nine.2.2.2.1, BX.nine.2.2.2.2.1, BX.nine.2.2.2.2.2.1, BX.nine.2.2.2.2.2.2.1, BX.nine.2.2.2.2.2.2.2.1, BX.nine.2.2.2.2.2.2.2.2.1⟩ (fun hHeld => ?_)
    clear hK K
    try simp only [Act.put, List.setIfInBounds_toArray, List.set_cons_zero, List.set_cons_succ]
    refine wpAnyH_ready (rs := [3]) (by kernel_rfl) (by simp) ?_
    refine AllReadyH.cons (o := { dst := some 31, op := _, type := _, pos := _, after := _, guard := _ }) rfl (fun K hK => ?_) AllReadyH.nil
    go_simp
    refine (eqGame_same G _ _ _ _ _ _ _ _ _ l1 l2 R1.irow R2.irow Q1.irow Q2.irow).mono ?_
    rintro e w12 ⟨rfl, hb12⟩
    replace BV := BV.below hb12
    replace BG := BG.below hb12
    replace r1 := r1.below hb12
    replace r2 := r2.below hb12
    replace R1 := R1.below hb12
    replace R2 := R2.below hb12
    replace BX := BX.below hb12
    replace Q1 := Q1.below hb12
    replace Q2 := Q2.below hb12
    have hz12 := hb12.size
    replace hb := chain hb hb12
    clear hb12
    (try go_wp2_with fail)
    refine hK.out _ _ ⟨BV.four.1, BV.four.2.1, BV.four.2.2.1, BV.four.2.2.2.1, BG.nine.1, BG.nine.2.1, BG.nine.2.2.1, BG.nine.2.2.2.1, BG.nine.2.2.2.2.1, BG.nine.2.2.2.2.2.1, BG.nine.2.2.2.2.2.2.1, BG.nine.2.2.2.2.2.2.2.1, BG.nine.2.2.2.2.2.2.2.2.1, BX.nine.1, BX.nine.2.1, BX.nine.2.2.1, BX.nine.2.2.2.1, BX.nine.2.2.2.2.1, BX.nine.2.2.2.2.2.1, BX.nine.2.2.2.2.2.2.1, BX.nine.2.2.2.2.2.2.2.1, BX.nine.2.2.2.2.2.2.2.2.1⟩ (fun hHeld => ?_)
    clear hK K
    try simp only [Act.put, List.setIfInBounds_toArray, List.set_cons_zero, List.set_cons_succ]
    refine wpAnyH_take (i := 4) (oi := { dst := some 32, op := _, type := _, pos := _, after := _, guard := _ }) (v := ?_) rfl (by kernel_rfl) (by kernel_rfl) (by kernel_rfl) (fun _ _ _ h => h) (Or.inl ⟨by rfl, ?_⟩) (by assumption) ?_
    rotate_left
    · intro w hSw
      (try dsimp only at hSw)
      go_simp
      (try (with_reducible rfl))
    try simp only [Act.put, List.setIfInBounds_toArray, List.set_cons_zero, List.set_cons_succ]
    refine wpAnyH_done (by kernel_rfl) ?_ _
    clear hHeld
    obtain ⟨q0_BV, q1_BV, q2_BV, q3_BV, qf_BV, ql_BV⟩ := BV.four
    obtain ⟨q0_BG, q1_BG, q2_BG, q3_BG, q4_BG, q5_BG, q6_BG, q7_BG, q8_BG, qf_BG, ql_BG⟩ := BG.nine
    obtain ⟨q0_BX, q1_BX, q2_BX, q3_BX, q4_BX, q5_BX, q6_BX, q7_BX, q8_BX, qf_BX, ql_BX⟩ := BX.nine
    go_wp2_with fail
    go_ret
    exact ⟨rfl, hb⟩
set_option maxRecDepth 100000 in
theorem fnExactIsGame_lifted (os : Os) (started : os.Started) (H : Type) (enc : TypeId × Value → H) :
    ReturnsInHanded {} Try.checked os 10 .any (Rows.fnExactIsGameSpec.pre6 enc Try.prog Try.f10 Rows.fnExactIsGameRow.domain false) (Rows.fnExactIsGameSpec.post enc Try.prog Try.f10 false true false false) := by
  refine returnsInHanded_of_change (C := Try.checked) own started (by kernel_rfl) Try.func10
    (ChangeSpec.witness6 (enc := enc) (C := Try.checked) false ⟨#[], #[.agg #[.int .i64 0, .int .i64 0, .int .i64 0, .int .i64 0], .agg #[.slice none 0 0, .slice none 0 0, .int .i64 0, .int .i64 0, .int .i64 0, .int .i64 0, .int .i64 0, .int .i64 0, .int .i64 0]], []⟩ 8 (by kernel_rfl) (by kernel_rfl) (by kernel_rfl) (by kernel_rfl)) ?_
  intro W base args ds gs before hval0 hW hcnd _
  have hval : ∀ (j : Nat) t v, Try.f10.params[j]? = some t → args[j]? = some v → Value.okWide Try.prog W .any base t v := hval0
  have hW' := hW
  obtain ⟨p, q, hA0, hV, rfl, hfz, hnd⟩ := hW
  have hA : DataW.TrodAll enc Try.prog W 0 (fun _ => true) true Try.f10.params.toList args.toList ds p := hA0
  rw [Try.params10] at hA hval
  obtain ⟨v0, vs0, d0, ds0, p0, q0, hargs, rfl, rfl, h0, r0⟩ := trodAll_cons hA
  obtain ⟨v1, vs1, d1, ds1, p1, q1, rfl, rfl, rfl, h1, r1⟩ := trodAll_cons r0
  obtain ⟨rfl, rfl, rfl⟩ := trodAll_nil r1
  obtain rfl : args = #[v0, v1] := by cases args; simp_all
  obtain ⟨rfl, rfl⟩ := trodVars_none hV
  have k0 := h0
  have lt0 : ∀ x ∈ p0, x.block < W.heap.size := by obtain ⟨m, hm⟩ := k0; exact DataW.trod_lt m _ _ _ hm
  have k1 := h1
  have lt1 : ∀ x ∈ p1, x.block < W.heap.size := by obtain ⟨m, hm⟩ := k1; exact DataW.trod_lt m _ _ _ hm
  obtain ⟨x0_0, x1_0, x2_0, x3_0, y0_0, y1_0, y2_0, y3_0, m_0, rfl, _, _, hy0_0, hy1_0, hy2_0, hy3_0⟩ := Joins.open_agg4 Try.underlying23 (by kernel_rfl) (show Try.prog.cellsOf 23 = 4 by kernel_rfl) (hval 0 23 v0 rfl rfl) h0
  obtain ⟨a0_0, e0_0, _, wa0_0⟩ := DataW.trod_int Try.underlying2 hy0_0
  obtain ⟨a1_0, e1_0, _, wa1_0⟩ := DataW.trod_int Try.underlying2 hy1_0
  obtain ⟨a2_0, e2_0, _, wa2_0⟩ := DataW.trod_int Try.underlying2 hy2_0
  obtain ⟨a3_0, e3_0, _, wa3_0⟩ := DataW.trod_int Try.underlying2 hy3_0
  simp at e0_0 e1_0 e2_0 e3_0
  subst e0_0 e1_0 e2_0 e3_0
  obtain ⟨G_1, ga_1, gb_1, gc_1, gd_1, rfl, gl_1, gm_1, gr_1, gs_1⟩ := open_game (hval 1 66 v1 rfl rfl) h1
  clear hA0 hval0
  refine (fnExactIsGame_walk a0_0 a1_0 a2_0 a3_0 G_1 ga_1 gb_1 gc_1 gd_1 W gl_1 gm_1 gr_1 gs_1).mono fun e W' ⟨he, bel⟩ => ?_
  subst he
  exact ⟨_, rfl, _, _, _, [], _, [], hW', trodAll_mk1 (shut_bool Try.underlying4 _), (trodAll_cons_mk (Below.trod laidOut (by kernel_rfl) (of_decide_eq_true (by kernel_rfl)) k0 bel lt0) (trodAll_cons_mk (Below.trod laidOut (by kernel_rfl) (of_decide_eq_true (by kernel_rfl)) k1 bel lt1) trodAll_mk0)), rfl, bel.frame _, fun h => by cases h⟩
theorem fnExactIsGame_holds : Rows.FnExactIsGameSaid :=
  OpenClaim.holds_of_wide 10 Try.f10 rfl rfl rfl rfl rfl rfl rfl ⟨rfl, rfl, rfl, rfl, rfl⟩ rfl rfl rfl rfl rfl (by kernel_rfl) Try.func10 (by kernel_rfl)
    (of_decide_eq_true (by kernel_rfl)) (by unfold Func.isWrapper; first | (rw [if_pos (by decide +kernel)]; kernel_rfl) | (rw [if_neg (by decide +kernel)]; exact ⟨rfl, rfl⟩))
    (fun os started H enc _ => fnExactIsGame_lifted os started H enc)
end Go.Proofs.Ytokjkcnjmfbfiaa
