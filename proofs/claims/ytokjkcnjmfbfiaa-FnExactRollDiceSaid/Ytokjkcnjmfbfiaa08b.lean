/- Contracts of the model on the result of a board that is over. -/
import Derived.Test.YtokjkcnjmfbfiaaM08
import Derived.Test.YtokjkcnjmfbfiaaL02d
namespace Go.Proofs.Ytokjkcnjmfbfiaa
open Go.ChangeShapes Go.WideShapes Go.ChangeAt Go.RowKit
set_option linter.unusedVariables false
set_option linter.unusedSimpArgs false
set_option maxRecDepth 4000

set_option maxRecDepth 8000 in
set_option maxHeartbeats 1000000 in
theorem l08Result_any (p c h s : Int) (a1 a2 : Option Addr) (n1 n2 c1 c2 : Nat) (xs ys : List Int) (w : World) (h1 : xs.length = n1) (h2 : ys.length = n2) (l1 : n1 ≤ 1048576) (l2 : n2 ≤ 1048576) (r1 : IRow w a1 xs) (r2 : IRow w a2 ys) (g : isB p c h s xs ys = true) :
    Calls Try.prog 105 #[.agg #[.int .i64 p, .int .i64 c, .int .i64 h, .int .i64 s], .agg #[.slice a1 n1 c1, .slice a2 n2 c2]] w fun e w' => e = .returned (.int .i64 (resV p c h xs ys)) ∧ Below w.heap.size w w' := by
  obtain ⟨p0, p1, k0, k1, k2, k3, N1, N2, hx, hy, s0, s1, s2, s3⟩ := isB_parts g
  obtain ⟨R, hR⟩ : ∃ R, resV p c h xs ys = R := ⟨_, rfl⟩
  rw [hR]
  have HR := Lib.hid hR
  clear hR
  obtain ⟨BV, BB, hb, hz⟩ := two_new w #[.int .i64 p, .int .i64 c, .int .i64 h, .int .i64 s] #[.slice a1 n1 c1, .slice a2 n2 c2] 32 34
  have hz1 : w.heap.size + 1 < ((w.alloc (.cells #[.int .i64 p, .int .i64 c, .int .i64 h, .int .i64 s] 32)).alloc (.cells #[.slice a1 n1 c1, .slice a2 n2 c2] 34)).heap.size := by rw [hz]; omega
  clear hz
  obtain ⟨x0, x1, x2, x3, xf, xl⟩ := BV.four
  obtain ⟨y0, y1, yf, yl⟩ := BB.two
  replace r1 := r1.below hb
  replace r2 := r2.below hb
  by_cases e0 : xs.sum = 0
  · skip
    have hF := fun (W : World) (hq : IRow W a1 xs) => (l02Sum_any a1 n1 c1 xs W h1 (by omega) hx hq).mono (R' := fun e w' => e = .returned (.int .i64 xs.sum) ∧ Below W.heap.size W w') (by rintro e w' ⟨rfl, rfl⟩; exact ⟨rfl, Below.refl _ _⟩)
    have hC := fun (W : World) (hq : IRow W a2 ys) => (l02Sum_any a2 n2 c2 ys W h2 (by omega) hy hq).mono (R' := fun e w' => e = .returned (.int .i64 ys.sum) ∧ Below W.heap.size W w') (by rintro e w' ⟨rfl, rfl⟩; exact ⟨rfl, Below.refl _ _⟩)
    have hL := fun (W : World) (hq : IRow W a2 ys) => (l02Last_any a2 n2 c2 ys W h2 l2 hq).mono (R' := fun e w' => e = .returned (.int .i64 (lastL ys ys.length)) ∧ Below W.heap.size W w') (by rintro e w' ⟨rfl, rfl⟩; exact ⟨by rw [h2], Below.refl _ _⟩)
    have lby := lastL_bound ys ys.length
    obtain ⟨s1, hs1⟩ : ∃ u, xs.sum = u := ⟨_, rfl⟩
    have e1 : (s1 == 0) = true := by rw [← hs1]; simpa using e0
    rw [hs1] at hF
    obtain ⟨v, hv⟩ : ∃ v, lastL ys ys.length = v := ⟨_, rfl⟩
    rw [hv] at hL lby
    obtain ⟨S, hS⟩ : ∃ S, ys.sum = S := ⟨_, rfl⟩
    rw [hS] at hC
    have lb2 := lby.1
    have HF := Lib.hid hF
    have HC := Lib.hid hC
    have HL := Lib.hid hL
    have wz : IntKind.i64.wrap (p - h) = p - h := IntWalk.i64_in _ (by omega)
    have HV := Lib.hid hv
    have HS := Lib.hid hS
    have hR1 : S < c → R = 1 := fun k => by
      rw [← HR.out]; unfold resV
      rw [if_pos e0, if_pos (by rw [HS.out]; exact k)]
    have hR2 : ¬ S < c → p - h ≤ v → R = 3 := fun k j => by
      rw [← HR.out]; unfold resV
      rw [if_pos e0, if_neg (by rw [HS.out]; exact k), if_pos (by rw [HV.out]; exact j)]
    have hR3 : ¬ S < c → ¬ p - h ≤ v → R = 2 := fun k j => by
      rw [← HR.out]; unfold resV
      rw [if_pos e0, if_neg (by rw [HS.out]; exact k), if_neg (by rw [HV.out]; exact j)]
    have HR1 := Lib.hid hR1
    have HR2 := Lib.hid hR2
    have HR3 := Lib.hid hR3
    clear hR1 hR2 hR3
    clear hF hC hL hs1 hv hS lby e0
    go_enter Try.func105, Try.ntmps105
    go_wp2_with fail
    generalize ((w.alloc (.cells #[.int .i64 p, .int .i64 c, .int .i64 h, .int .i64 s] 32)).alloc (.cells #[.slice a1 n1 c1, .slice a2 n2 c2] 34)) = v0 at *
    refine (HF.out _ r1).mono ?_
    rintro e w3 ⟨rfl, hb3⟩
    replace BV := BV.below hb3
    replace BB := BB.below hb3
    replace r1 := r1.below hb3
    replace r2 := r2.below hb3
    replace hb := chain hb hb3
    clear x0 x1 x2 x3 xf xl y0 y1 yf yl
    obtain ⟨x0, x1, x2, x3, xf, xl⟩ := BV.four
    obtain ⟨y0, y1, yf, yl⟩ := BB.two
    go_wp2_with fail
    clear x0 x1 x2 x3 xf xl y0 y1 yf yl
    replace BV := BV.drew
    replace BB := BB.drew
    replace r1 := r1.drew
    replace r2 := r2.drew
    replace hb := hb.drew
    refine wp_region_held_drew (S := fun w' => w'.cell? ⟨w.heap.size, 0, none⟩ = some (.int .i64 p) ∧ w'.cell? ⟨w.heap.size, 1, none⟩ = some (.int .i64 c) ∧ w'.cell? ⟨w.heap.size, 2, none⟩ = some (.int .i64 h) ∧ w'.cell? ⟨w.heap.size, 3, none⟩ = some (.int .i64 s) ∧ w'.cell? ⟨(w.heap.size + 1), 0, none⟩ = some (.slice a1 n1 c1) ∧ w'.cell? ⟨(w.heap.size + 1), 1, none⟩ = some (.slice a2 n2 c2) ∧ Blk w' w.heap.size #[.int .i64 p, .int .i64 c, .int .i64 h, .int .i64 s] 32 ∧ Blk w' ((w.heap.size + 1)) #[.slice a1 n1 c1, .slice a2 n2 c2] 34 ∧ (IRow w' a1 xs) ∧ (IRow w' a2 ys) ∧ Below w.heap.size w w') (by kernel_rfl) ⟨BV.four.1, BV.four.2.1, BV.four.2.2.1, BV.four.2.2.2.1, BB.two.1, BB.two.2.1, BV, BB, r1, r2, hb⟩ (fun hHeld => ?_)
    refine wpAnyH_take (i := 0) (oi := { dst := some 14, op := _, type := _, pos := _, after := _, guard := _ }) (v := ?_) rfl (by kernel_rfl) (by kernel_rfl) (by kernel_rfl) (fun _ _ _ h => h) (Or.inl ⟨by rfl, ?_⟩) (by assumption) ?_
    rotate_left
    · intro w hSw
      (try dsimp only at hSw)
      go_simp
      (try (with_reducible rfl))
    try simp only [Act.put, List.setIfInBounds_toArray, List.set_cons_zero, List.set_cons_succ]
    refine wpAnyH_take (i := 2) (oi := { dst := some 16, op := _, type := _, pos := _, after := _, guard := _ }) (v := ?_) rfl (by kernel_rfl) (by kernel_rfl) (by kernel_rfl) (fun _ _ _ h => h) (Or.inl ⟨by rfl, ?_⟩) (by assumption) ?_
    rotate_left
    · intro w hSw
      (try dsimp only at hSw)
      go_simp
      (try (with_reducible rfl))
    try simp only [Act.put, List.setIfInBounds_toArray, List.set_cons_zero, List.set_cons_succ]
    refine wpAnyH_take (i := 3) (oi := { dst := some 17, op := _, type := _, pos := _, after := _, guard := _ }) (v := ?_) rfl (by kernel_rfl) (by kernel_rfl) (by kernel_rfl) (fun _ _ _ h => h) (Or.inl ⟨by rfl, ?_⟩) (by assumption) ?_
    rotate_left
    · intro w hSw
      (try dsimp only at hSw)
      go_simp
      (try (with_reducible rfl))
    try simp only [Act.put, List.setIfInBounds_toArray, List.set_cons_zero, List.set_cons_succ]
    refine wpAnyH_ready (rs := [1]) (by kernel_rfl) (by simp) ?_
    refine AllReadyH.cons (o := { dst := some 15, op := _, type := _, pos := _, after := _, guard := _ }) rfl (fun K hK => ?_) AllReadyH.nil
    go_simp
    -- call
    have BV := hHeld.2.2.2.2.2.2.1
    have BB := hHeld.2.2.2.2.2.2.2.1
    have r1 := hHeld.2.2.2.2.2.2.2.2.1
    have r2 := hHeld.2.2.2.2.2.2.2.2.2.1
    have hb := hHeld.2.2.2.2.2.2.2.2.2.2
    clear hHeld
    refine (HC.out _ r2).mono ?_
    rintro e wq1 ⟨rfl, hq1⟩
    replace BV := BV.below hq1
    replace BB := BB.below hq1
    replace r1 := r1.below hq1
    replace r2 := r2.below hq1
    replace hb := chain hb hq1
    (try go_wp2_with fail)
    refine hK.out _ _ ⟨BV.four.1, BV.four.2.1, BV.four.2.2.1, BV.four.2.2.2.1, BB.two.1, BB.two.2.1, BV, BB, r1, r2, hb⟩ (fun hHeld => ?_)
    clear hK K
    try simp only [Act.put, List.setIfInBounds_toArray, List.set_cons_zero, List.set_cons_succ]
    refine wpAnyH_take (i := 4) (oi := { dst := some 18, op := _, type := _, pos := _, after := _, guard := _ }) (v := ?_) rfl (by kernel_rfl) (by kernel_rfl) (by kernel_rfl) (fun _ _ _ h => h) (Or.inl ⟨by rfl, ?_⟩) (by assumption) ?_
    rotate_left
    · intro w hSw
      (try dsimp only at hSw)
      go_simp
      (try (with_reducible rfl))
    try simp only [Act.put, List.setIfInBounds_toArray, List.set_cons_zero, List.set_cons_succ]
    refine wpAnyH_done (by kernel_rfl) ?_ _
    have BV := hHeld.2.2.2.2.2.2.1
    have BB := hHeld.2.2.2.2.2.2.2.1
    have r1 := hHeld.2.2.2.2.2.2.2.2.1
    have r2 := hHeld.2.2.2.2.2.2.2.2.2.1
    have hb := hHeld.2.2.2.2.2.2.2.2.2.2
    clear hHeld
    obtain ⟨x0, x1, x2, x3, xf, xl⟩ := BV.four
    obtain ⟨y0, y1, yf, yl⟩ := BB.two
    by_cases hS1 : S < c
    · have hR := HR1.out hS1
      clear HR1 HR2 HR3 HS HV
      subst hR
      go_wp2_with fail
      go_ret
      exact ⟨rfl, hb⟩
    · skip
      go_wp2_with fail
      clear x0 x1 x2 x3 xf xl y0 y1 yf yl
      replace BV := BV.drew
      replace BB := BB.drew
      replace r1 := r1.drew
      replace r2 := r2.drew
      replace hb := hb.drew
      refine wp_region_held_drew (S := fun w' => w'.cell? ⟨w.heap.size, 0, none⟩ = some (.int .i64 p) ∧ w'.cell? ⟨w.heap.size, 1, none⟩ = some (.int .i64 c) ∧ w'.cell? ⟨w.heap.size, 2, none⟩ = some (.int .i64 h) ∧ w'.cell? ⟨w.heap.size, 3, none⟩ = some (.int .i64 s) ∧ w'.cell? ⟨(w.heap.size + 1), 0, none⟩ = some (.slice a1 n1 c1) ∧ w'.cell? ⟨(w.heap.size + 1), 1, none⟩ = some (.slice a2 n2 c2) ∧ Blk w' w.heap.size #[.int .i64 p, .int .i64 c, .int .i64 h, .int .i64 s] 32 ∧ Blk w' ((w.heap.size + 1)) #[.slice a1 n1 c1, .slice a2 n2 c2] 34 ∧ (IRow w' a1 xs) ∧ (IRow w' a2 ys) ∧ Below w.heap.size w w') (by kernel_rfl) ⟨BV.four.1, BV.four.2.1, BV.four.2.2.1, BV.four.2.2.2.1, BB.two.1, BB.two.2.1, BV, BB, r1, r2, hb⟩ (fun hHeld => ?_)
      refine wpAnyH_take (i := 0) (oi := { dst := some 19, op := _, type := _, pos := _, after := _, guard := _ }) (v := ?_) rfl (by kernel_rfl) (by kernel_rfl) (by kernel_rfl) (fun _ _ _ h => h) (Or.inl ⟨by rfl, ?_⟩) (by assumption) ?_
      rotate_left
      · intro w hSw
        (try dsimp only at hSw)
        go_simp
        (try (with_reducible rfl))
      try simp only [Act.put, List.setIfInBounds_toArray, List.set_cons_zero, List.set_cons_succ]
      refine wpAnyH_take (i := 2) (oi := { dst := some 21, op := _, type := _, pos := _, after := _, guard := _ }) (v := ?_) rfl (by kernel_rfl) (by kernel_rfl) (by kernel_rfl) (fun _ _ _ h => h) (Or.inl ⟨by rfl, ?_⟩) (by assumption) ?_
      rotate_left
      · intro w hSw
        (try dsimp only at hSw)
        go_simp
        (try (with_reducible rfl))
      try simp only [Act.put, List.setIfInBounds_toArray, List.set_cons_zero, List.set_cons_succ]
      refine wpAnyH_take (i := 3) (oi := { dst := some 22, op := _, type := _, pos := _, after := _, guard := _ }) (v := ?_) rfl (by kernel_rfl) (by kernel_rfl) (by kernel_rfl) (fun _ _ _ h => h) (Or.inl ⟨by rfl, ?_⟩) (by assumption) ?_
      rotate_left
      · intro w hSw
        (try dsimp only at hSw)
        go_simp
        (try (with_reducible rfl))
      try simp only [Act.put, List.setIfInBounds_toArray, List.set_cons_zero, List.set_cons_succ]
      refine wpAnyH_take (i := 4) (oi := { dst := some 23, op := _, type := _, pos := _, after := _, guard := _ }) (v := ?_) rfl (by kernel_rfl) (by kernel_rfl) (by kernel_rfl) (fun _ _ _ h => h) (Or.inl ⟨by rfl, ?_⟩) (by assumption) ?_
      rotate_left
      · intro w hSw
        (try dsimp only at hSw)
        go_simp
        (try (with_reducible rfl))
      try simp only [Act.put, List.setIfInBounds_toArray, List.set_cons_zero, List.set_cons_succ]
      refine wpAnyH_take (i := 5) (oi := { dst := some 24, op := _, type := _, pos := _, after := _, guard := _ }) (v := ?_) rfl (by kernel_rfl) (by kernel_rfl) (by kernel_rfl) (fun _ _ _ h => h) (Or.inl ⟨by rfl, ?_⟩) (by assumption) ?_
      rotate_left
      · intro w hSw
        (try dsimp only at hSw)
        go_simp
        (try (with_reducible rfl))
      try simp only [Act.put, List.setIfInBounds_toArray, List.set_cons_zero, List.set_cons_succ]
      refine wpAnyH_take (i := 6) (oi := { dst := some 25, op := _, type := _, pos := _, after := _, guard := _ }) (v := ?_) rfl (by kernel_rfl) (by kernel_rfl) (by kernel_rfl) (fun _ _ _ h => h) (Or.inl ⟨by rfl, ?_⟩) (by assumption) ?_
      rotate_left
      · intro w hSw
        (try dsimp only at hSw)
        go_simp
        (try (with_reducible rfl))
      try simp only [Act.put, List.setIfInBounds_toArray, List.set_cons_zero, List.set_cons_succ]
      refine wpAnyH_ready (rs := [1]) (by kernel_rfl) (by simp) ?_
      refine AllReadyH.cons (o := { dst := some 20, op := _, type := _, pos := _, after := _, guard := _ }) rfl (fun K hK => ?_) AllReadyH.nil
      go_simp
      -- call
      have BV := hHeld.2.2.2.2.2.2.1
      have BB := hHeld.2.2.2.2.2.2.2.1
      have r1 := hHeld.2.2.2.2.2.2.2.2.1
      have r2 := hHeld.2.2.2.2.2.2.2.2.2.1
      have hb := hHeld.2.2.2.2.2.2.2.2.2.2
      clear hHeld
      refine (HL.out _ r2).mono ?_
      rintro e wq1 ⟨rfl, hq1⟩
      replace BV := BV.below hq1
      replace BB := BB.below hq1
      replace r1 := r1.below hq1
      replace r2 := r2.below hq1
      replace hb := chain hb hq1
      (try go_wp2_with fail)
      refine hK.out _ _ ⟨BV.four.1, BV.four.2.1, BV.four.2.2.1, BV.four.2.2.2.1, BB.two.1, BB.two.2.1, BV, BB, r1, r2, hb⟩ (fun hHeld => ?_)
      clear hK K
      try simp only [Act.put, List.setIfInBounds_toArray, List.set_cons_zero, List.set_cons_succ]
      refine wpAnyH_take (i := 7) (oi := { dst := some 26, op := _, type := _, pos := _, after := _, guard := _ }) (v := ?_) rfl (by kernel_rfl) (by kernel_rfl) (by kernel_rfl) (fun _ _ _ h => h) (Or.inl ⟨by rfl, ?_⟩) (by assumption) ?_
      rotate_left
      · intro w hSw
        (try dsimp only at hSw)
        go_simp
        (try (with_reducible rfl))
      try simp only [Act.put, List.setIfInBounds_toArray, List.set_cons_zero, List.set_cons_succ]
      refine wpAnyH_done (by kernel_rfl) ?_ _
      have BV := hHeld.2.2.2.2.2.2.1
      have BB := hHeld.2.2.2.2.2.2.2.1
      have r1 := hHeld.2.2.2.2.2.2.2.2.1
      have r2 := hHeld.2.2.2.2.2.2.2.2.2.1
      have hb := hHeld.2.2.2.2.2.2.2.2.2.2
      clear hHeld
      obtain ⟨x0, x1, x2, x3, xf, xl⟩ := BV.four
      obtain ⟨y0, y1, yf, yl⟩ := BB.two
      by_cases hv1 : p - h ≤ v
      · have hR := HR2.out hS1 (by omega)
        clear HR1 HR2 HR3 HS HV
        subst hR
        go_wp2_with fail
        go_ret
        exact ⟨rfl, hb⟩
      · have hR := HR3.out hS1 (by omega)
        clear HR1 HR2 HR3 HS HV
        subst hR
        go_wp2_with fail
        go_ret
        exact ⟨rfl, hb⟩
  · skip
    have hF := fun (W : World) (hq : IRow W a1 xs) => (l02Sum_any a1 n1 c1 xs W h1 (by omega) hx hq).mono (R' := fun e w' => e = .returned (.int .i64 xs.sum) ∧ Below W.heap.size W w') (by rintro e w' ⟨rfl, rfl⟩; exact ⟨rfl, Below.refl _ _⟩)
    have hC := fun (W : World) (hq : IRow W a1 xs) => (l02Sum_any a1 n1 c1 xs W h1 (by omega) hx hq).mono (R' := fun e w' => e = .returned (.int .i64 xs.sum) ∧ Below W.heap.size W w') (by rintro e w' ⟨rfl, rfl⟩; exact ⟨rfl, Below.refl _ _⟩)
    have hL := fun (W : World) (hq : IRow W a1 xs) => (l02Last_any a1 n1 c1 xs W h1 l1 hq).mono (R' := fun e w' => e = .returned (.int .i64 (lastL xs xs.length)) ∧ Below W.heap.size W w') (by rintro e w' ⟨rfl, rfl⟩; exact ⟨by rw [h1], Below.refl _ _⟩)
    have lby := lastL_bound xs xs.length
    obtain ⟨s1, hs1⟩ : ∃ u, xs.sum = u := ⟨_, rfl⟩
    have e1 : (s1 == 0) = false := by rw [← hs1]; simpa using e0
    rw [hs1] at hF
    obtain ⟨v, hv⟩ : ∃ v, lastL xs xs.length = v := ⟨_, rfl⟩
    rw [hv] at hL lby
    obtain ⟨S, hS⟩ : ∃ S, xs.sum = S := ⟨_, rfl⟩
    rw [hS] at hC
    have lb2 := lby.1
    have HF := Lib.hid hF
    have HC := Lib.hid hC
    have HL := Lib.hid hL
    have wz : IntKind.i64.wrap (p - h) = p - h := IntWalk.i64_in _ (by omega)
    have HV := Lib.hid hv
    have HS := Lib.hid hS
    have hR1 : S < c → R = 1 := fun k => by
      rw [← HR.out]; unfold resV
      rw [if_neg e0, if_pos (by rw [HS.out]; exact k)]
    have hR2 : ¬ S < c → p - h ≤ v → R = 3 := fun k j => by
      rw [← HR.out]; unfold resV
      rw [if_neg e0, if_neg (by rw [HS.out]; exact k), if_pos (by rw [HV.out]; exact j)]
    have hR3 : ¬ S < c → ¬ p - h ≤ v → R = 2 := fun k j => by
      rw [← HR.out]; unfold resV
      rw [if_neg e0, if_neg (by rw [HS.out]; exact k), if_neg (by rw [HV.out]; exact j)]
    have HR1 := Lib.hid hR1
    have HR2 := Lib.hid hR2
    have HR3 := Lib.hid hR3
    clear hR1 hR2 hR3
    clear hF hC hL hs1 hv hS lby e0
    go_enter Try.func105, Try.ntmps105
    go_wp2_with fail
    generalize ((w.alloc (.cells #[.int .i64 p, .int .i64 c, .int .i64 h, .int .i64 s] 32)).alloc (.cells #[.slice a1 n1 c1, .slice a2 n2 c2] 34)) = v0 at *
    refine (HF.out _ r1).mono ?_
    rintro e w3 ⟨rfl, hb3⟩
    replace BV := BV.below hb3
    replace BB := BB.below hb3
    replace r1 := r1.below hb3
    replace r2 := r2.below hb3
    replace hb := chain hb hb3
    clear x0 x1 x2 x3 xf xl y0 y1 yf yl
    obtain ⟨x0, x1, x2, x3, xf, xl⟩ := BV.four
    obtain ⟨y0, y1, yf, yl⟩ := BB.two
    go_wp2_with fail
    clear x0 x1 x2 x3 xf xl y0 y1 yf yl
    replace BV := BV.drew
    replace BB := BB.drew
    replace r1 := r1.drew
    replace r2 := r2.drew
    replace hb := hb.drew
    refine wp_region_held_drew (S := fun w' => w'.cell? ⟨w.heap.size, 0, none⟩ = some (.int .i64 p) ∧ w'.cell? ⟨w.heap.size, 1, none⟩ = some (.int .i64 c) ∧ w'.cell? ⟨w.heap.size, 2, none⟩ = some (.int .i64 h) ∧ w'.cell? ⟨w.heap.size, 3, none⟩ = some (.int .i64 s) ∧ w'.cell? ⟨(w.heap.size + 1), 0, none⟩ = some (.slice a1 n1 c1) ∧ w'.cell? ⟨(w.heap.size + 1), 1, none⟩ = some (.slice a2 n2 c2) ∧ Blk w' w.heap.size #[.int .i64 p, .int .i64 c, .int .i64 h, .int .i64 s] 32 ∧ Blk w' ((w.heap.size + 1)) #[.slice a1 n1 c1, .slice a2 n2 c2] 34 ∧ (IRow w' a1 xs) ∧ (IRow w' a2 ys) ∧ Below w.heap.size w w') (by kernel_rfl) ⟨BV.four.1, BV.four.2.1, BV.four.2.2.1, BV.four.2.2.2.1, BB.two.1, BB.two.2.1, BV, BB, r1, r2, hb⟩ (fun hHeld => ?_)
    refine wpAnyH_take (i := 0) (oi := { dst := some 14, op := _, type := _, pos := _, after := _, guard := _ }) (v := ?_) rfl (by kernel_rfl) (by kernel_rfl) (by kernel_rfl) (fun _ _ _ h => h) (Or.inl ⟨by rfl, ?_⟩) (by assumption) ?_
    rotate_left
    · intro w hSw
      (try dsimp only at hSw)
      go_simp
      (try (with_reducible rfl))
    try simp only [Act.put, List.setIfInBounds_toArray, List.set_cons_zero, List.set_cons_succ]
    refine wpAnyH_take (i := 2) (oi := { dst := some 16, op := _, type := _, pos := _, after := _, guard := _ }) (v := ?_) rfl (by kernel_rfl) (by kernel_rfl) (by kernel_rfl) (fun _ _ _ h => h) (Or.inl ⟨by rfl, ?_⟩) (by assumption) ?_
    rotate_left
    · intro w hSw
      (try dsimp only at hSw)
      go_simp
      (try (with_reducible rfl))
    try simp only [Act.put, List.setIfInBounds_toArray, List.set_cons_zero, List.set_cons_succ]
    refine wpAnyH_take (i := 3) (oi := { dst := some 17, op := _, type := _, pos := _, after := _, guard := _ }) (v := ?_) rfl (by kernel_rfl) (by kernel_rfl) (by kernel_rfl) (fun _ _ _ h => h) (Or.inl ⟨by rfl, ?_⟩) (by assumption) ?_
    rotate_left
    · intro w hSw
      (try dsimp only at hSw)
      go_simp
      (try (with_reducible rfl))
    try simp only [Act.put, List.setIfInBounds_toArray, List.set_cons_zero, List.set_cons_succ]
    refine wpAnyH_ready (rs := [1]) (by kernel_rfl) (by simp) ?_
    refine AllReadyH.cons (o := { dst := some 15, op := _, type := _, pos := _, after := _, guard := _ }) rfl (fun K hK => ?_) AllReadyH.nil
    go_simp
    -- call
    have BV := hHeld.2.2.2.2.2.2.1
    have BB := hHeld.2.2.2.2.2.2.2.1
    have r1 := hHeld.2.2.2.2.2.2.2.2.1
    have r2 := hHeld.2.2.2.2.2.2.2.2.2.1
    have hb := hHeld.2.2.2.2.2.2.2.2.2.2
    clear hHeld
    refine (HC.out _ r1).mono ?_
    rintro e wq1 ⟨rfl, hq1⟩
    replace BV := BV.below hq1
    replace BB := BB.below hq1
    replace r1 := r1.below hq1
    replace r2 := r2.below hq1
    replace hb := chain hb hq1
    (try go_wp2_with fail)
    refine hK.out _ _ ⟨BV.four.1, BV.four.2.1, BV.four.2.2.1, BV.four.2.2.2.1, BB.two.1, BB.two.2.1, BV, BB, r1, r2, hb⟩ (fun hHeld => ?_)
    clear hK K
    try simp only [Act.put, List.setIfInBounds_toArray, List.set_cons_zero, List.set_cons_succ]
    refine wpAnyH_take (i := 4) (oi := { dst := some 18, op := _, type := _, pos := _, after := _, guard := _ }) (v := ?_) rfl (by kernel_rfl) (by kernel_rfl) (by kernel_rfl) (fun _ _ _ h => h) (Or.inl ⟨by rfl, ?_⟩) (by assumption) ?_
    rotate_left
    · intro w hSw
      (try dsimp only at hSw)
      go_simp
      (try (with_reducible rfl))
    try simp only [Act.put, List.setIfInBounds_toArray, List.set_cons_zero, List.set_cons_succ]
    refine wpAnyH_done (by kernel_rfl) ?_ _
    have BV := hHeld.2.2.2.2.2.2.1
    have BB := hHeld.2.2.2.2.2.2.2.1
    have r1 := hHeld.2.2.2.2.2.2.2.2.1
    have r2 := hHeld.2.2.2.2.2.2.2.2.2.1
    have hb := hHeld.2.2.2.2.2.2.2.2.2.2
    clear hHeld
    obtain ⟨x0, x1, x2, x3, xf, xl⟩ := BV.four
    obtain ⟨y0, y1, yf, yl⟩ := BB.two
    by_cases hS1 : S < c
    · have hR := HR1.out hS1
      clear HR1 HR2 HR3 HS HV
      subst hR
      go_wp2_with fail
      go_ret
      exact ⟨rfl, hb⟩
    · skip
      go_wp2_with fail
      clear x0 x1 x2 x3 xf xl y0 y1 yf yl
      replace BV := BV.drew
      replace BB := BB.drew
      replace r1 := r1.drew
      replace r2 := r2.drew
      replace hb := hb.drew
      refine wp_region_held_drew (S := fun w' => w'.cell? ⟨w.heap.size, 0, none⟩ = some (.int .i64 p) ∧ w'.cell? ⟨w.heap.size, 1, none⟩ = some (.int .i64 c) ∧ w'.cell? ⟨w.heap.size, 2, none⟩ = some (.int .i64 h) ∧ w'.cell? ⟨w.heap.size, 3, none⟩ = some (.int .i64 s) ∧ w'.cell? ⟨(w.heap.size + 1), 0, none⟩ = some (.slice a1 n1 c1) ∧ w'.cell? ⟨(w.heap.size + 1), 1, none⟩ = some (.slice a2 n2 c2) ∧ Blk w' w.heap.size #[.int .i64 p, .int .i64 c, .int .i64 h, .int .i64 s] 32 ∧ Blk w' ((w.heap.size + 1)) #[.slice a1 n1 c1, .slice a2 n2 c2] 34 ∧ (IRow w' a1 xs) ∧ (IRow w' a2 ys) ∧ Below w.heap.size w w') (by kernel_rfl) ⟨BV.four.1, BV.four.2.1, BV.four.2.2.1, BV.four.2.2.2.1, BB.two.1, BB.two.2.1, BV, BB, r1, r2, hb⟩ (fun hHeld => ?_)
      refine wpAnyH_take (i := 0) (oi := { dst := some 19, op := _, type := _, pos := _, after := _, guard := _ }) (v := ?_) rfl (by kernel_rfl) (by kernel_rfl) (by kernel_rfl) (fun _ _ _ h => h) (Or.inl ⟨by rfl, ?_⟩) (by assumption) ?_
      rotate_left
      · intro w hSw
        (try dsimp only at hSw)
        go_simp
        (try (with_reducible rfl))
      try simp only [Act.put, List.setIfInBounds_toArray, List.set_cons_zero, List.set_cons_succ]
      refine wpAnyH_take (i := 2) (oi := { dst := some 21, op := _, type := _, pos := _, after := _, guard := _ }) (v := ?_) rfl (by kernel_rfl) (by kernel_rfl) (by kernel_rfl) (fun _ _ _ h => h) (Or.inl ⟨by rfl, ?_⟩) (by assumption) ?_
      rotate_left
      · intro w hSw
        (try dsimp only at hSw)
        go_simp
        (try (with_reducible rfl))
      try simp only [Act.put, List.setIfInBounds_toArray, List.set_cons_zero, List.set_cons_succ]
      refine wpAnyH_take (i := 3) (oi := { dst := some 22, op := _, type := _, pos := _, after := _, guard := _ }) (v := ?_) rfl (by kernel_rfl) (by kernel_rfl) (by kernel_rfl) (fun _ _ _ h => h) (Or.inl ⟨by rfl, ?_⟩) (by assumption) ?_
      rotate_left
      · intro w hSw
        (try dsimp only at hSw)
        go_simp
        (try (with_reducible rfl))
      try simp only [Act.put, List.setIfInBounds_toArray, List.set_cons_zero, List.set_cons_succ]
      refine wpAnyH_take (i := 4) (oi := { dst := some 23, op := _, type := _, pos := _, after := _, guard := _ }) (v := ?_) rfl (by kernel_rfl) (by kernel_rfl) (by kernel_rfl) (fun _ _ _ h => h) (Or.inl ⟨by rfl, ?_⟩) (by assumption) ?_
      rotate_left
      · intro w hSw
        (try dsimp only at hSw)
        go_simp
        (try (with_reducible rfl))
      try simp only [Act.put, List.setIfInBounds_toArray, List.set_cons_zero, List.set_cons_succ]
      refine wpAnyH_take (i := 5) (oi := { dst := some 24, op := _, type := _, pos := _, after := _, guard := _ }) (v := ?_) rfl (by kernel_rfl) (by kernel_rfl) (by kernel_rfl) (fun _ _ _ h => h) (Or.inl ⟨by rfl, ?_⟩) (by assumption) ?_
      rotate_left
      · intro w hSw
        (try dsimp only at hSw)
        go_simp
        (try (with_reducible rfl))
      try simp only [Act.put, List.setIfInBounds_toArray, List.set_cons_zero, List.set_cons_succ]
      refine wpAnyH_take (i := 6) (oi := { dst := some 25, op := _, type := _, pos := _, after := _, guard := _ }) (v := ?_) rfl (by kernel_rfl) (by kernel_rfl) (by kernel_rfl) (fun _ _ _ h => h) (Or.inl ⟨by rfl, ?_⟩) (by assumption) ?_
      rotate_left
      · intro w hSw
        (try dsimp only at hSw)
        go_simp
        (try (with_reducible rfl))
      try simp only [Act.put, List.setIfInBounds_toArray, List.set_cons_zero, List.set_cons_succ]
      refine wpAnyH_ready (rs := [1]) (by kernel_rfl) (by simp) ?_
      refine AllReadyH.cons (o := { dst := some 20, op := _, type := _, pos := _, after := _, guard := _ }) rfl (fun K hK => ?_) AllReadyH.nil
      go_simp
      -- call
      have BV := hHeld.2.2.2.2.2.2.1
      have BB := hHeld.2.2.2.2.2.2.2.1
      have r1 := hHeld.2.2.2.2.2.2.2.2.1
      have r2 := hHeld.2.2.2.2.2.2.2.2.2.1
      have hb := hHeld.2.2.2.2.2.2.2.2.2.2
      clear hHeld
      refine (HL.out _ r1).mono ?_
      rintro e wq1 ⟨rfl, hq1⟩
      replace BV := BV.below hq1
      replace BB := BB.below hq1
      replace r1 := r1.below hq1
      replace r2 := r2.below hq1
      replace hb := chain hb hq1
      (try go_wp2_with fail)
      refine hK.out _ _ ⟨BV.four.1, BV.four.2.1, BV.four.2.2.1, BV.four.2.2.2.1, BB.two.1, BB.two.2.1, BV, BB, r1, r2, hb⟩ (fun hHeld => ?_)
      clear hK K
      try simp only [Act.put, List.setIfInBounds_toArray, List.set_cons_zero, List.set_cons_succ]
      refine wpAnyH_take (i := 7) (oi := { dst := some 26, op := _, type := _, pos := _, after := _, guard := _ }) (v := ?_) rfl (by kernel_rfl) (by kernel_rfl) (by kernel_rfl) (fun _ _ _ h => h) (Or.inl ⟨by rfl, ?_⟩) (by assumption) ?_
      rotate_left
      · intro w hSw
        (try dsimp only at hSw)
        go_simp
        (try (with_reducible rfl))
      try simp only [Act.put, List.setIfInBounds_toArray, List.set_cons_zero, List.set_cons_succ]
      refine wpAnyH_done (by kernel_rfl) ?_ _
      have BV := hHeld.2.2.2.2.2.2.1
      have BB := hHeld.2.2.2.2.2.2.2.1
      have r1 := hHeld.2.2.2.2.2.2.2.2.1
      have r2 := hHeld.2.2.2.2.2.2.2.2.2.1
      have hb := hHeld.2.2.2.2.2.2.2.2.2.2
      clear hHeld
      obtain ⟨x0, x1, x2, x3, xf, xl⟩ := BV.four
      obtain ⟨y0, y1, yf, yl⟩ := BB.two
      by_cases hv1 : p - h ≤ v
      · have hR := HR2.out hS1 (by omega)
        clear HR1 HR2 HR3 HS HV
        subst hR
        go_wp2_with fail
        go_ret
        exact ⟨rfl, hb⟩
      · have hR := HR3.out hS1 (by omega)
        clear HR1 HR2 HR3 HS HV
        subst hR
        go_wp2_with fail
        go_ret
        exact ⟨rfl, hb⟩
set_option maxRecDepth 8000 in
set_option maxHeartbeats 1000000 in
theorem specResultOf_any (p c h s : Int) (a1 a2 : Option Addr) (n1 n2 c1 c2 : Nat) (xs ys : List Int) (w : World) (h1 : xs.length = n1) (h2 : ys.length = n2) (l1 : n1 ≤ 1048576) (l2 : n2 ≤ 1048576) (r1 : IRow w a1 xs) (r2 : IRow w a2 ys) :
    Calls Try.prog 57 #[.agg #[.int .i64 p, .int .i64 c, .int .i64 h, .int .i64 s], .agg #[.slice a1 n1 c1, .slice a2 n2 c2]] w fun e w' => e = .returned (.int .i64 (if (isB p c h s xs ys && overB xs ys) = true then resV p c h xs ys else 0)) ∧ Below w.heap.size w w' := by
  obtain ⟨BV, BB, hb, hz⟩ := two_new w #[.int .i64 p, .int .i64 c, .int .i64 h, .int .i64 s] #[.slice a1 n1 c1, .slice a2 n2 c2] 32 34
  have hz1 : w.heap.size + 1 < ((w.alloc (.cells #[.int .i64 p, .int .i64 c, .int .i64 h, .int .i64 s] 32)).alloc (.cells #[.slice a1 n1 c1, .slice a2 n2 c2] 34)).heap.size := by rw [hz]; omega
  clear hz
  obtain ⟨x0, x1, x2, x3, xf, xl⟩ := BV.four
  obtain ⟨y0, y1, yf, yl⟩ := BB.two
  have hO := fun (W : World) (q1 : IRow W a1 xs) (q2 : IRow W a2 ys) => specIsOver_any p c h s a1 a2 n1 n2 c1 c2 xs ys W h1 h2 l1 l2 q1 q2
  by_cases g : (isB p c h s xs ys && overB xs ys) = true
  · rw [if_pos g]
    rw [g] at hO
    have HO := Lib.hid hO
    have gi : isB p c h s xs ys = true := (Bool.and_eq_true _ _ ▸ g).1
    clear hO g
    go_enter Try.func57, Try.ntmps57
    go_wp2_with fail
    refine (HO.out _ (r1.below hb) (r2.below hb)).mono ?_
    rintro e w1 ⟨rfl, hb1⟩
    replace BV := BV.below hb1
    replace BB := BB.below hb1
    replace hb := chain hb hb1
    clear x0 x1 x2 x3 xf xl y0 y1 yf yl
    obtain ⟨x0, x1, x2, x3, xf, xl⟩ := BV.four
    obtain ⟨y0, y1, yf, yl⟩ := BB.two
    go_wp2_with fail
    refine (l08Result_any p c h s a1 a2 n1 n2 c1 c2 xs ys _ h1 h2 l1 l2 (r1.below hb) (r2.below hb) gi).mono ?_
    rintro e w3 ⟨rfl, hb3⟩
    go_wp2_with fail
    go_ret
    exact ⟨rfl, chain hb hb3⟩
  · rw [if_neg g]
    replace g : (isB p c h s xs ys && overB xs ys) = false := by simpa using g
    rw [g] at hO
    have HO := Lib.hid hO
    clear hO g
    go_enter Try.func57, Try.ntmps57
    go_wp2_with fail
    refine (HO.out _ (r1.below hb) (r2.below hb)).mono ?_
    rintro e w1 ⟨rfl, hb1⟩
    go_wp2_with fail
    go_ret
    exact ⟨rfl, chain hb hb1⟩
end Go.Proofs.Ytokjkcnjmfbfiaa
