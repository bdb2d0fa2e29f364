/- The law of chapter 14 on advice holds: for every code the law returns true and the code reads behind the call as it read before. No conditions. -/
import Derived.Test.YtjepbhainidpgaaDraw14
import Derived.Test.YtjepbhainidpgaaSwapM
import Derived.Test.Ytjepbhainidpgaa14e
import Derived.Test.Ytjepbhainidpgaa14g
import Derived.Test.YtjepbhainidpgaaOpen
import Derived.ChangeOld
namespace Go.Proofs.Ytjepbhainidpgaa
open Go.ChangeMaps (open_string shut_string)
open Go.ChangeShapes Go.WideShapes Go.ChangeAt Go.RowKit
set_option linter.unusedVariables false
set_option linter.unusedSimpArgs false
set_option maxRecDepth 4000

theorem code_of_ints {w : World} {x : Addr} {len : Nat} {zs : List Int} (hl : len ≤ zs.length) (_hz : True) (hcell : ∀ i, i < zs.length → w.cell? (x.add i) = some (.int .u8 (zs.getD i 0))) (hwz : ∀ n ∈ zs, (Lit.int .u8 n).wf = true) : CodeIn w.heap.size w (some x) len := by
  intro i hi
  obtain ⟨b, o, spot⟩ := x
  have hc := hcell i (by omega)
  have hspot : spot = none := by
    have hc0 := hcell 0 (by omega)
    simpa [Addr.add] using World.cell?_spot hc0
  subst hspot
  rw [show (⟨b, o, none⟩ : Addr).add i = ⟨b, o + i, none⟩ from by unfold Addr.add; split <;> simp_all] at hc
  have hm : zs.getD i 0 ∈ zs := by
    have : i < zs.length := by omega
    simp [List.getD, this]
  have hw := hwz _ hm
  have hr : 0 ≤ zs.getD i 0 ∧ zs.getD i 0 ≤ 255 := by simpa [Lit.wf, IntKind.min, IntKind.max, IntKind.signed, IntKind.bits] using hw
  exact ⟨b, o, zs.getD i 0, rfl, World.block_lt_of_cell? w _ hc, hc, hr.1, hr.2⟩
theorem raceB_swap {p c h s : Int} {xs ys : List Int} (g : raceB p c h s xs ys = true) : raceB p c h s ys xs = true := by
  obtain ⟨g0, g1, g2⟩ := raceB_parts g
  simp only [raceB, isB_swap g0, overB_swap, contB_swap, g1, g2]
  rfl
set_option maxRecDepth 8000 in
set_option maxHeartbeats 4000000 in
theorem fnAdvice_walk (a : Option Addr) (len cap : Nat) (w : World) (hcode : CodeIn w.heap.size w a len) :
    Calls Try.prog 9 #[.slice a len cap] w fun e w' => e = .returned (.bool true) ∧ Below w.heap.size w w' := by
  by_cases hbig : 4096 < len
  · have f0 : decide (4096 < (len : Int)) = true := by simp; omega
    go_enter Try.func9, Try.ntmps9
    go_wp2_with fail
    refine (big_any _ _ _ _).mono ?_
    rintro e w1 ⟨rfl, rfl⟩
    go_wp2
    go_ret
    exact ⟨rfl, Below.refl _ _⟩
  · have f0 : decide (4096 < (len : Int)) = false := by simp; omega
    go_enter Try.func9, Try.ntmps9
    go_wp2_with fail
    refine (big_any _ _ _ _).mono ?_
    rintro e w0 ⟨rfl, rfl⟩
    go_wp2_with fail
    refine (drawRaceAdvice_any w.heap.size a len cap w (Nat.le_refl _) (by omega) hcode).mono ?_
    rintro e w1 ⟨p, c, h, s, g1, g2, n1, n2, c1, c2, xs, ys, rfl, hx, hy, l1, l2, R1, R2, hbw⟩
    subst hx hy
    replace l1 : xs.length ≤ 1048576 := by omega
    replace l2 : ys.length ≤ 1048576 := by omega
    obtain ⟨BV, BB, hb2, hz⟩ := two_new w1 #[.int .i64 p, .int .i64 c, .int .i64 h, .int .i64 s] #[.slice (some ⟨g1, 0, none⟩) xs.length c1, .slice (some ⟨g2, 0, none⟩) ys.length c2] 26 34
    have r1 := R1.irow.below hb2
    have r2 := R2.irow.below hb2
    replace hbw := chain hbw hb2
    clear R1 R2 hb2
    obtain ⟨x0, x1, x2, x3, xf, xl⟩ := BV.four; obtain ⟨y0, y1, yf, yl⟩ := BB.two
    by_cases g : raceB p c h s xs ys = true
    · obtain ⟨gi, -, -⟩ := raceB_parts g
      have gs := raceB_swap g
      have gis := isB_swap gi
      have hIA := fun W (q1 : IRow W (some ⟨g1, 0, none⟩) xs) (q2 : IRow W (some ⟨g2, 0, none⟩) ys) => advice_any p c h s _ _ _ _ c1 c2 xs ys W rfl rfl l1 l2 q1 q2
      rw [if_pos g, rcC_race g] at hIA
      have HIA := Lib.hid hIA
      clear hIA
      have hSA := fun W (q1 : IRow W (some ⟨g1, 0, none⟩) xs) (q2 : IRow W (some ⟨g2, 0, none⟩) ys) => specAdvice_any p c h s _ _ _ _ c1 c2 xs ys W rfl rfl l1 l2 q1 q2
      rw [if_pos g, rcC_race g] at hSA
      have HSA := Lib.hid hSA
      clear hSA
      have hIJ := fun W (q1 : IRow W (some ⟨g1, 0, none⟩) xs) (q2 : IRow W (some ⟨g2, 0, none⟩) ys) => adjusted_any p c h s _ _ _ _ c1 c2 xs ys W rfl rfl l1 l2 q1 q2
      rw [if_pos g, if_pos g, rcC_race g] at hIJ
      have HIJ := Lib.hid hIJ
      clear hIJ
      have hIP := fun W (q1 : IRow W (some ⟨g1, 0, none⟩) xs) (q2 : IRow W (some ⟨g2, 0, none⟩) ys) => pipLead_any p c h s _ _ _ _ c1 c2 xs ys W rfl rfl l1 l2 q1 q2
      rw [if_pos g, rcC_race g] at hIP
      have HIP := Lib.hid hIP
      clear hIP
      have hIC := fun W (q1 : IRow W (some ⟨g1, 0, none⟩) xs) (q2 : IRow W (some ⟨g2, 0, none⟩) ys) => crossovers_any p c h s _ _ _ _ c1 c2 xs ys W rfl rfl l1 l2 q1 q2
      rw [if_pos g, rcC_race g] at hIC
      have HIC := Lib.hid hIC
      clear hIC
      have hIH := fun W (q1 : IRow W (some ⟨g1, 0, none⟩) xs) (q2 : IRow W (some ⟨g2, 0, none⟩) ys) => allHome_any p c h s _ _ _ _ c1 c2 xs ys W rfl rfl l1 l2 q1 q2
      rw [if_pos gi] at hIH
      have HIH := Lib.hid hIH
      clear hIH
      have hSW := fun W (q1 : IRow W (some ⟨g1, 0, none⟩) xs) (q2 : IRow W (some ⟨g2, 0, none⟩) ys) => swapBoard_any p c h s _ _ _ _ c1 c2 xs ys W rfl rfl l1 l2 q1 q2
      rw [swL, swL, if_pos gi, if_pos gi] at hSW
      have HSW := Lib.hid hSW
      clear hSW
      have hps := fun W d1 d2 k1 k2 (q1 : IRow W d1 ys) (q2 : IRow W d2 xs) => pipLead_any p c h s d1 d2 _ _ k1 k2 ys xs W rfl rfl l2 l1 q1 q2
      rw [if_pos gs, rcC_race gs] at hps
      obtain ⟨p0, p1, k0, k1, k2, k3, N1, N2, hx, hy, s0, s1, s2, s3⟩ := isB_parts gi
      have b1 := pipsL_bound xs hx xs.length (Nat.le_refl _) (by omega)
      have b2 := pipsL_bound ys hy ys.length (Nat.le_refl _) (by omega)
      have bc := crossL_bound h k2 xs hx (by omega) xs.length (Nat.le_refl _)
      have cz := crossL_zero h k2 xs hx (by omega) xs.length (Nat.le_refl _)
      have bs1 := sumV_bound h.toNat xs hx (by omega) (by omega) (by omega) (by omega)
      have bs2 := sumV_bound h.toNat ys hy (by omega) (by omega) (by omega) (by omega)
      have ba : -300 ≤ adjV h.toNat xs ∧ adjV h.toNat xs ≤ 330000000 := by unfold adjV; split <;> omega
      have bl1 : xs.length ≤ 25 := by omega
      have bl2 : ys.length ≤ 25 := by omega
      have hps' := hps
      have hia := HIA.out
      have hsa := HSA.out
      have hij := HIJ.out
      have hip := HIP.out
      have hic := HIC.out
      have hih := HIH.out
      clear HIA HSA HIJ HIP HIC HIH hps
      obtain ⟨X, hX⟩ : ∃ X, pipsL xs xs.length = X := ⟨_, rfl⟩
      obtain ⟨Y, hY⟩ : ∃ Y, pipsL ys ys.length = Y := ⟨_, rfl⟩
      obtain ⟨C, hC⟩ : ∃ C, crossL h xs xs.length = C := ⟨_, rfl⟩
      obtain ⟨J, hJ⟩ : ∃ J, adjV h.toNat xs = J := ⟨_, rfl⟩
      obtain ⟨K, hK⟩ : ∃ K, 10 * sumV h.toNat ys = K := ⟨_, rfl⟩
      obtain ⟨LH, hLH⟩ : ∃ LH, decide (lastL xs xs.length < h) = LH := ⟨_, rfl⟩
      have hadv : advV J K = if K + 20 < J then 0 else if J < K - 20 then 2 else 1 := rfl
      obtain ⟨A, hA⟩ : ∃ A, advV J K = A := ⟨_, rfl⟩
      have bK : -300 ≤ K ∧ K ≤ 330000000 := by omega
      rw [hX, hY] at hip hps'
      rw [hC] at hic bc cz
      rw [hJ, hK] at hia hsa hij
      rw [hA] at hia hsa hadv
      rw [hLH] at hih
      rw [hX] at b1
      rw [hY] at b2
      rw [hJ] at ba
      have hCL : (C == 0) = LH := by rw [← hLH, Bool.eq_iff_iff, beq_iff_eq, decide_eq_true_eq]; exact cz
      have wz1 : IntKind.i64.wrap (-(X - Y)) = Y - X := by rw [IntWalk.i64_in _ (by omega)]; omega
      have wz2 : IntKind.i64.wrap (J - K) = J - K := IntWalk.i64_in _ (by omega)
      have wz3 : IntKind.i64.wrap (K - J) = K - J := IntWalk.i64_in _ (by omega)
      have wc0 : decide (C < 0) = false := by rw [decide_eq_false_iff_not]; omega
      obtain ⟨U, hU⟩ : ∃ U, Y - X = U := ⟨_, rfl⟩
      obtain ⟨U2, hU2⟩ : ∃ U2, X - Y = U2 := ⟨_, rfl⟩
      rw [hU] at hip wz1
      rw [hU2] at hps' wz1
      have HIA := Lib.hid hia
      have HSA := Lib.hid hsa
      have HIJ := Lib.hid hij
      have HIP := Lib.hid hip
      have HIC := Lib.hid hic
      have HIH := Lib.hid hih
      have HPS := Lib.hid hps'
      have HAD := Lib.hid hadv
      have BJ := Lib.hid (And.intro ba bK)
      clear hia hsa hij hip hic hih hps' hX hY hC hJ hK hLH hA hU hU2 b1 b2 bc cz bs1 bs2 ba bK bl1 bl2 hx hy N1 N2 g gs gi gis hadv p0 p1 k0 k1 k2 k3 s0 s1 s2 s3
      have hb := Below.refl ((w1.alloc (.cells #[.int .i64 p, .int .i64 c, .int .i64 h, .int .i64 s] 26)).alloc (.cells #[.slice (some ⟨g1, 0, none⟩) xs.length c1, .slice (some ⟨g2, 0, none⟩) ys.length c2] 34)).heap.size ((w1.alloc (.cells #[.int .i64 p, .int .i64 c, .int .i64 h, .int .i64 s] 26)).alloc (.cells #[.slice (some ⟨g1, 0, none⟩) xs.length c1, .slice (some ⟨g2, 0, none⟩) ys.length c2] 34))
      go_wp2_with fail
      generalize ((w1.alloc (.cells #[.int .i64 p, .int .i64 c, .int .i64 h, .int .i64 s] 26)).alloc (.cells #[.slice (some ⟨g1, 0, none⟩) xs.length c1, .slice (some ⟨g2, 0, none⟩) ys.length c2] 34)) = v1 at *
      go_wp2_with (first | (go_at_call 25; refine (HIA.out _ (r1.below hb) (r2.below hb)).mono ?_; clear HIA; rintro e wq ⟨rfl, hbq⟩; replace BV := BV.below hbq; replace BB := BB.below hbq; replace hb := chain hb hbq; clear hbq x0 x1 x2 x3 xf xl y0 y1 yf yl; obtain ⟨x0, x1, x2, x3, xf, xl⟩ := BV.four; obtain ⟨y0, y1, yf, yl⟩ := BB.two) | (go_at_call 24; refine (HSA.out _ (r1.below hb) (r2.below hb)).mono ?_; clear HSA; rintro e wq ⟨rfl, hbq⟩; replace BV := BV.below hbq; replace BB := BB.below hbq; replace hb := chain hb hbq; clear hbq x0 x1 x2 x3 xf xl y0 y1 yf yl; obtain ⟨x0, x1, x2, x3, xf, xl⟩ := BV.four; obtain ⟨y0, y1, yf, yl⟩ := BB.two) | (go_at_call 23; refine (HIJ.out _ (r1.below hb) (r2.below hb)).mono ?_; clear HIJ; rintro e wq ⟨rfl, hbq⟩; replace BV := BV.below hbq; replace BB := BB.below hbq; replace hb := chain hb hbq; clear hbq x0 x1 x2 x3 xf xl y0 y1 yf yl; obtain ⟨x0, x1, x2, x3, xf, xl⟩ := BV.four; obtain ⟨y0, y1, yf, yl⟩ := BB.two) | (go_at_call 16; refine (HIP.out _ (r1.below hb) (r2.below hb)).mono ?_; clear HIP; rintro e wq ⟨rfl, hbq⟩; replace BV := BV.below hbq; replace BB := BB.below hbq; replace hb := chain hb hbq; clear hbq x0 x1 x2 x3 xf xl y0 y1 yf yl; obtain ⟨x0, x1, x2, x3, xf, xl⟩ := BV.four; obtain ⟨y0, y1, yf, yl⟩ := BB.two))
      clear x0 x1 x2 x3 xf xl y0 y1 yf yl
      have hd_ : wq.drew.heap.size = wq.heap.size := rfl
      replace BV := BV.drew
      replace BB := BB.drew
      replace hb := hb.drew
      refine wp_region_held_drew (S := fun w' => w'.cell? ⟨w1.heap.size, 0, none⟩ = some (.int .i64 p) ∧ w'.cell? ⟨w1.heap.size, 1, none⟩ = some (.int .i64 c) ∧ w'.cell? ⟨w1.heap.size, 2, none⟩ = some (.int .i64 h) ∧ w'.cell? ⟨w1.heap.size, 3, none⟩ = some (.int .i64 s) ∧ w'.cell? ⟨(w1.heap.size + 1), 0, none⟩ = some (.slice (some ⟨g1, 0, none⟩) xs.length c1) ∧ w'.cell? ⟨(w1.heap.size + 1), 1, none⟩ = some (.slice (some ⟨g2, 0, none⟩) ys.length c2)) (by kernel_rfl) ⟨BV.four.1, BV.four.2.1, BV.four.2.2.1, BV.four.2.2.2.1, BB.two.1, BB.two.2.1⟩ (fun hHeld => ?_)
      clear hHeld
      generalize wq.drew = vd at *
      have hHeld : vd.cell? ⟨w1.heap.size, 0, none⟩ = some (.int .i64 p) ∧ vd.cell? ⟨w1.heap.size, 1, none⟩ = some (.int .i64 c) ∧ vd.cell? ⟨w1.heap.size, 2, none⟩ = some (.int .i64 h) ∧ vd.cell? ⟨w1.heap.size, 3, none⟩ = some (.int .i64 s) ∧ vd.cell? ⟨(w1.heap.size + 1), 0, none⟩ = some (.slice (some ⟨g1, 0, none⟩) xs.length c1) ∧ vd.cell? ⟨(w1.heap.size + 1), 1, none⟩ = some (.slice (some ⟨g2, 0, none⟩) ys.length c2) := ⟨BV.four.1, BV.four.2.1, BV.four.2.2.1, BV.four.2.2.2.1, BB.two.1, BB.two.2.1⟩
      refine wpAnyH_take (i := 0) (oi := { dst := some 61, op := _, type := _, pos := _, after := _, guard := _ }) (v := ?_) rfl (by kernel_rfl) (by kernel_rfl) (by kernel_rfl) (fun _ _ _ h => h) (Or.inl ⟨by rfl, ?_⟩) (by assumption) ?_
      rotate_left
      · intro w hSw
        (try dsimp only at hSw)
        go_simp
        (try (with_reducible rfl))
      try simp only [Act.put, List.setIfInBounds_toArray, List.set_cons_zero, List.set_cons_succ]
      refine wpAnyH_take (i := 1) (oi := { dst := some 62, op := _, type := _, pos := _, after := _, guard := _ }) (v := ?_) rfl (by kernel_rfl) (by kernel_rfl) (by kernel_rfl) (fun _ _ _ h => h) (Or.inl ⟨by rfl, ?_⟩) (by assumption) ?_
      rotate_left
      · intro w hSw
        (try dsimp only at hSw)
        go_simp
        (try (with_reducible rfl))
      try simp only [Act.put, List.setIfInBounds_toArray, List.set_cons_zero, List.set_cons_succ]
      refine wpAnyH_take (i := 2) (oi := { dst := some 63, op := _, type := _, pos := _, after := _, guard := _ }) (v := ?_) rfl (by kernel_rfl) (by kernel_rfl) (by kernel_rfl) (fun _ _ _ h => h) (Or.inl ⟨by rfl, ?_⟩) (by assumption) ?_
      rotate_left
      · intro w hSw
        (try dsimp only at hSw)
        go_simp
        (try (with_reducible rfl))
      try simp only [Act.put, List.setIfInBounds_toArray, List.set_cons_zero, List.set_cons_succ]
      refine wpAnyH_ready (rs := [3]) (by kernel_rfl) (by simp) ?_
      refine AllReadyH.cons (o := { dst := some 64, op := _, type := _, pos := _, after := _, guard := _ }) rfl (fun K hK => ?_) AllReadyH.nil
      go_simp
      refine (HSW.out _ (r1.below hb) (r2.below hb)).mono ?_
      rintro e w8 ⟨d1, d2, k1, k2, rfl, hO, hb8⟩
      have o1 := hO.irow1
      have o2 := hO.irow2
      replace BV := BV.below hb8
      replace BB := BB.below hb8
      replace hb := chain hb hb8
      clear HSW hO hb8
      (try go_wp2_with fail)
      refine hK.out _ _ ⟨BV.four.1, BV.four.2.1, BV.four.2.2.1, BV.four.2.2.2.1, BB.two.1, BB.two.2.1⟩ (fun hHeld => ?_)
      clear hK K
      try simp only [Act.put, List.setIfInBounds_toArray, List.set_cons_zero, List.set_cons_succ]
      refine wpAnyH_ready (rs := [4]) (by kernel_rfl) (by simp) ?_
      refine AllReadyH.cons (o := { dst := some 65, op := _, type := _, pos := _, after := _, guard := _ }) rfl (fun K hK => ?_) AllReadyH.nil
      go_simp
      refine (HPS.out _ _ _ _ _ o1 o2).mono ?_
      rintro e w9 ⟨rfl, hb9⟩
      replace BV := BV.below hb9
      replace BB := BB.below hb9
      replace hb := chain hb hb9
      clear HPS hb9 o1 o2
      (try go_wp2_with fail)
      refine hK.out _ _ ⟨BV.four.1, BV.four.2.1, BV.four.2.2.1, BV.four.2.2.2.1, BB.two.1, BB.two.2.1⟩ (fun hHeld => ?_)
      clear hK K
      try simp only [Act.put, List.setIfInBounds_toArray, List.set_cons_zero, List.set_cons_succ]
      refine wpAnyH_take (i := 5) (oi := { dst := some 60, op := _, type := _, pos := _, after := _, guard := _ }) (v := ?_) rfl (by kernel_rfl) (by kernel_rfl) (by kernel_rfl) (fun _ _ _ h => h) (Or.inl ⟨by rfl, ?_⟩) (by assumption) ?_
      rotate_left
      · intro w hSw
        (try dsimp only at hSw)
        go_simp
        (try (with_reducible rfl))
      try simp only [Act.put, List.setIfInBounds_toArray, List.set_cons_zero, List.set_cons_succ]
      refine wpAnyH_take (i := 6) (oi := { dst := some 66, op := _, type := _, pos := _, after := _, guard := _ }) (v := ?_) rfl (by kernel_rfl) (by kernel_rfl) (by kernel_rfl) (fun _ _ _ h => h) (Or.inl ⟨by rfl, ?_⟩) (by assumption) ?_
      rotate_left
      · intro w hSw
        (try dsimp only at hSw)
        go_simp
        (try (with_reducible rfl))
      try simp only [Act.put, List.setIfInBounds_toArray, List.set_cons_zero, List.set_cons_succ]
      refine wpAnyH_take (i := 7) (oi := { dst := some 67, op := _, type := _, pos := _, after := _, guard := _ }) (v := ?_) rfl (by kernel_rfl) (by kernel_rfl) (by kernel_rfl) (fun _ _ _ h => h) (Or.inl ⟨by rfl, ?_⟩) (by assumption) ?_
      rotate_left
      · intro w hSw
        (try dsimp only at hSw)
        go_simp
        (try (with_reducible rfl))
      try simp only [Act.put, List.setIfInBounds_toArray, List.set_cons_zero, List.set_cons_succ]
      refine wpAnyH_take (i := 8) (oi := { dst := some 14, op := _, type := _, pos := _, after := _, guard := _ }) (v := ?_) rfl (by kernel_rfl) (by kernel_rfl) (by kernel_rfl) (fun _ _ _ h => h) (Or.inl ⟨by rfl, ?_⟩) (by assumption) ?_
      rotate_left
      · intro w hSw
        (try dsimp only at hSw)
        go_simp
        (try (with_reducible rfl))
      try simp only [Act.put, List.setIfInBounds_toArray, List.set_cons_zero, List.set_cons_succ]
      refine wpAnyH_take (i := 9) (oi := { dst := some 15, op := _, type := _, pos := _, after := _, guard := _ }) (v := ?_) rfl (by kernel_rfl) (by kernel_rfl) (by kernel_rfl) (fun _ _ _ h => h) (Or.inl ⟨by rfl, ?_⟩) (by assumption) ?_
      rotate_left
      · intro w hSw
        (try dsimp only at hSw)
        go_simp
        (try (with_reducible rfl))
      try simp only [Act.put, List.setIfInBounds_toArray, List.set_cons_zero, List.set_cons_succ]
      refine wpAnyH_done (by kernel_rfl) ?_ _
      clear hHeld
      obtain ⟨x0, x1, x2, x3, xf, xl⟩ := BV.four; obtain ⟨y0, y1, yf, yl⟩ := BB.two
      have hadv := HAD.out
      have bj := BJ.out
      clear HAD BJ
      by_cases d1 : K + 20 < J
      · rw [if_pos d1] at hadv
        subst hadv
        have g1 : decide (20 < J - K) = true := by rw [decide_eq_true_iff]; omega
        clear d1 bj
        go_wp2_with (first | (go_at_call 19; refine (HIC.out _ (r1.below hb) (r2.below hb)).mono ?_; clear HIC; rintro e wq ⟨rfl, hbq⟩; replace BV := BV.below hbq; replace BB := BB.below hbq; replace hb := chain hb hbq; clear hbq x0 x1 x2 x3 xf xl y0 y1 yf yl; obtain ⟨x0, x1, x2, x3, xf, xl⟩ := BV.four; obtain ⟨y0, y1, yf, yl⟩ := BB.two) | (go_at_call 29; refine (HIH.out _ (r1.below hb) (r2.below hb)).mono ?_; clear HIH; rintro e wq ⟨rfl, hbq⟩; replace BV := BV.below hbq; replace BB := BB.below hbq; replace hb := chain hb hbq; clear hbq x0 x1 x2 x3 xf xl y0 y1 yf yl; obtain ⟨x0, x1, x2, x3, xf, xl⟩ := BV.four; obtain ⟨y0, y1, yf, yl⟩ := BB.two))
        go_ret
        exact ⟨rfl, chain hbw hb⟩
      · rw [if_neg d1] at hadv
        by_cases d2 : J < K - 20
        · rw [if_pos d2] at hadv
          subst hadv
          have g1 : decide (20 < K - J) = true := by rw [decide_eq_true_iff]; omega
          clear d1 d2 bj
          go_wp2_with (first | (go_at_call 19; refine (HIC.out _ (r1.below hb) (r2.below hb)).mono ?_; clear HIC; rintro e wq ⟨rfl, hbq⟩; replace BV := BV.below hbq; replace BB := BB.below hbq; replace hb := chain hb hbq; clear hbq x0 x1 x2 x3 xf xl y0 y1 yf yl; obtain ⟨x0, x1, x2, x3, xf, xl⟩ := BV.four; obtain ⟨y0, y1, yf, yl⟩ := BB.two) | (go_at_call 29; refine (HIH.out _ (r1.below hb) (r2.below hb)).mono ?_; clear HIH; rintro e wq ⟨rfl, hbq⟩; replace BV := BV.below hbq; replace BB := BB.below hbq; replace hb := chain hb hbq; clear hbq x0 x1 x2 x3 xf xl y0 y1 yf yl; obtain ⟨x0, x1, x2, x3, xf, xl⟩ := BV.four; obtain ⟨y0, y1, yf, yl⟩ := BB.two))
          go_ret
          exact ⟨rfl, chain hbw hb⟩
        · rw [if_neg d2] at hadv
          subst hadv
          have g1 : decide (J - K ≤ 20) = true := by rw [decide_eq_true_iff]; omega
          have g2 : decide (K - J ≤ 20) = true := by rw [decide_eq_true_iff]; omega
          clear d1 d2 bj
          go_wp2_with (first | (go_at_call 19; refine (HIC.out _ (r1.below hb) (r2.below hb)).mono ?_; clear HIC; rintro e wq ⟨rfl, hbq⟩; replace BV := BV.below hbq; replace BB := BB.below hbq; replace hb := chain hb hbq; clear hbq x0 x1 x2 x3 xf xl y0 y1 yf yl; obtain ⟨x0, x1, x2, x3, xf, xl⟩ := BV.four; obtain ⟨y0, y1, yf, yl⟩ := BB.two) | (go_at_call 29; refine (HIH.out _ (r1.below hb) (r2.below hb)).mono ?_; clear HIH; rintro e wq ⟨rfl, hbq⟩; replace BV := BV.below hbq; replace BB := BB.below hbq; replace hb := chain hb hbq; clear hbq x0 x1 x2 x3 xf xl y0 y1 yf yl; obtain ⟨x0, x1, x2, x3, xf, xl⟩ := BV.four; obtain ⟨y0, y1, yf, yl⟩ := BB.two))
          go_ret
          exact ⟨rfl, chain hbw hb⟩
    · have hk := rcC_not (by simpa using g : raceB p c h s xs ys = false)
      have hIA := fun W (q1 : IRow W (some ⟨g1, 0, none⟩) xs) (q2 : IRow W (some ⟨g2, 0, none⟩) ys) => advice_any p c h s _ _ _ _ c1 c2 xs ys W rfl rfl l1 l2 q1 q2
      rw [if_neg g] at hIA
      have HIA := Lib.hid hIA
      clear hIA
      have hSA := fun W (q1 : IRow W (some ⟨g1, 0, none⟩) xs) (q2 : IRow W (some ⟨g2, 0, none⟩) ys) => specAdvice_any p c h s _ _ _ _ c1 c2 xs ys W rfl rfl l1 l2 q1 q2
      rw [if_neg g] at hSA
      have HSA := Lib.hid hSA
      clear hSA
      have hia := HIA.out
      have hsa := HSA.out
      clear HIA HSA
      obtain ⟨E, hE⟩ : ∃ E, rcC p c h s xs ys = E := ⟨_, rfl⟩
      rw [hE] at hia hsa hk
      have ne : (E != 0) = true := by rw [bne_iff_ne]; omega
      have HIA := Lib.hid hia
      have HSA := Lib.hid hsa
      clear hia hsa hE hk g
      have hb := Below.refl ((w1.alloc (.cells #[.int .i64 p, .int .i64 c, .int .i64 h, .int .i64 s] 26)).alloc (.cells #[.slice (some ⟨g1, 0, none⟩) xs.length c1, .slice (some ⟨g2, 0, none⟩) ys.length c2] 34)).heap.size ((w1.alloc (.cells #[.int .i64 p, .int .i64 c, .int .i64 h, .int .i64 s] 26)).alloc (.cells #[.slice (some ⟨g1, 0, none⟩) xs.length c1, .slice (some ⟨g2, 0, none⟩) ys.length c2] 34))
      go_wp2_with fail
      generalize ((w1.alloc (.cells #[.int .i64 p, .int .i64 c, .int .i64 h, .int .i64 s] 26)).alloc (.cells #[.slice (some ⟨g1, 0, none⟩) xs.length c1, .slice (some ⟨g2, 0, none⟩) ys.length c2] 34)) = v1 at *
      go_wp2_with (first | (go_at_call 25; refine (HIA.out _ (r1.below hb) (r2.below hb)).mono ?_; clear HIA; rintro e wq ⟨rfl, hbq⟩; replace BV := BV.below hbq; replace BB := BB.below hbq; replace hb := chain hb hbq; clear hbq x0 x1 x2 x3 xf xl y0 y1 yf yl; obtain ⟨x0, x1, x2, x3, xf, xl⟩ := BV.four; obtain ⟨y0, y1, yf, yl⟩ := BB.two) | (go_at_call 24; refine (HSA.out _ (r1.below hb) (r2.below hb)).mono ?_; clear HSA; rintro e wq ⟨rfl, hbq⟩; replace BV := BV.below hbq; replace BB := BB.below hbq; replace hb := chain hb hbq; clear hbq x0 x1 x2 x3 xf xl y0 y1 yf yl; obtain ⟨x0, x1, x2, x3, xf, xl⟩ := BV.four; obtain ⟨y0, y1, yf, yl⟩ := BB.two))
      go_ret
      exact ⟨rfl, chain hbw hb⟩
set_option maxRecDepth 100000 in
theorem fnAdvice_lifted (os : Os) (started : os.Started) (H : Type) (enc : TypeId × Value → H) :
    ReturnsInHanded {} Try.checked os 9 .any (Rows.fnAdviceSpec.pre6 enc Try.prog Try.f9 Rows.fnAdviceRow.domain false) (Rows.fnAdviceSpec.post enc Try.prog Try.f9 false true false false) := by
  refine returnsInHanded_of_change (C := Try.checked) own started (by kernel_rfl) Try.func9
    (ChangeSpec.witness6 (enc := enc) (C := Try.checked) false ⟨#[], #[.slice none 0 0], []⟩ 8 (by kernel_rfl) (by kernel_rfl) (by kernel_rfl) (by kernel_rfl)) ?_
  intro W base args ds gs before hval0 hW hcnd _
  have hval : ∀ (j : Nat) t v, Try.f9.params[j]? = some t → args[j]? = some v → Value.okWide Try.prog W .any base t v := hval0
  have hW' := hW
  obtain ⟨p, q, hA0, hV, rfl, hfz, hnd⟩ := hW
  have hA : DataW.TrodAll enc Try.prog W 0 (fun _ => true) true Try.f9.params.toList args.toList ds p := hA0
  rw [Try.params9] at hA hval
  obtain ⟨v0, vs0, d0, ds0, p0, q0, hargs, rfl, rfl, h0, r0⟩ := trodAll_cons hA
  obtain ⟨rfl, rfl, rfl⟩ := trodAll_nil r0
  obtain rfl : args = #[v0] := by cases args; simp_all
  obtain ⟨rfl, rfl⟩ := trodVars_none hV
  have k0 := h0
  have lt0 : ∀ x ∈ p0, x.block < W.heap.size := by obtain ⟨m, hm⟩ := k0; exact DataW.trod_lt m _ _ _ hm
  obtain ⟨sa_0, sl_0, sc_0, rfl⟩ := okWide_slice Try.underlying40 (hval 0 40 v0 rfl rfl)
  have hcode_0 : CodeIn W.heap.size W sa_0 sl_0 := by
    obtain ⟨fuel, hf⟩ := h0
    rcases open_ints Try.underlying40 Try.underlying5 (by kernel_rfl) hf with ⟨hcs, _⟩ | ⟨x, l, c, zs, hcs, _, hl, hm, hz, _, hcell, hwz⟩
    · simp [Value.cells] at hcs
      obtain ⟨rfl, rfl, rfl⟩ := hcs
      intro i hi
      omega
    · simp [Value.cells] at hcs
      obtain ⟨rfl, rfl, rfl⟩ := hcs
      exact code_of_ints (by have hz2 := hz; simp at hz2; omega) trivial hcell hwz
  clear hA0 hval0
  refine (fnAdvice_walk sa_0 sl_0 sc_0 W hcode_0).mono fun e W' ⟨he, bel⟩ => ?_
  subst he
  exact ⟨_, rfl, _, _, _, [], _, [], hW', trodAll_mk1 (shut_bool Try.underlying4 _), (trodAll_cons_mk (Below.trod laidOut (by kernel_rfl) (of_decide_eq_true (by kernel_rfl)) k0 bel lt0) trodAll_mk0), rfl, bel.frame _, fun h => by cases h⟩
theorem fnAdvice_holds : Rows.FnAdviceSaid :=
  OpenClaim.holds_of_wide 9 Try.f9 rfl rfl rfl rfl rfl rfl rfl ⟨rfl, rfl, rfl, rfl, rfl⟩ rfl rfl rfl rfl rfl (by kernel_rfl) Try.func9 (by kernel_rfl)
    (of_decide_eq_true (by kernel_rfl)) (by unfold Func.isWrapper; first | (rw [if_pos (by decide +kernel)]; kernel_rfl) | (rw [if_neg (by decide +kernel)]; exact ⟨rfl, rfl⟩))
    (fun os started H enc _ => fnAdvice_lifted os started H enc)
end Go.Proofs.Ytjepbhainidpgaa
