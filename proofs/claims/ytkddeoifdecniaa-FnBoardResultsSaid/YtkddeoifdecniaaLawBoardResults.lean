/- The law of chapter 8 on the results of boards holds: for every code the law returns true and the code reads behind the call as it read before. No conditions. -/
import Derived.Test.YtkddeoifdecniaaDraw08
import Derived.Test.Ytkddeoifdecniaa08a
import Derived.Test.Ytkddeoifdecniaa08b
import Derived.Test.YtkddeoifdecniaaRows
import Derived.ChangeOld
namespace Go.Proofs.Ytkddeoifdecniaa
open Go.ChangeMaps (open_string shut_string)
open Go.ChangeShapes Go.WideShapes Go.ChangeAt Go.RowKit
set_option linter.unusedVariables false
set_option linter.unusedSimpArgs false

theorem code_of_ints {w : World} {x : Addr} {len : Nat} {zs : List Int} (hl : len ≤ zs.length) (_hz : True) (hcell : ∀ i, i < zs.length → w.cell? (x.add i) = some (.int .u8 (zs.getD i 0))) (hwz : ∀ n ∈ zs, (Lit.int .u8 n).wf = true) : CodeIn w.heap.size w (some x) len := by
  intro i hi
  obtain ⟨b, o, spot⟩ := x
  have hc := hcell i (by omega)
  have hspot : spot = none := by
    have hc0 := hcell 0 (by omega)
    simpa [Addr.add] using World.cell?_spot hc0
  subst hspot
  rw [show (⟨b, o, none⟩ : Addr).add i = ⟨b, o + i, none⟩ from by unfold Addr.add; split <;> simp_all] at hc
  have hm : zs.getD i 0 ∈ zs := by
    have : i < zs.length := by omega
    simp [List.getD, this]
  have hw := hwz _ hm
  have hr : 0 ≤ zs.getD i 0 ∧ zs.getD i 0 ≤ 255 := by simpa [Lit.wf, IntKind.min, IntKind.max, IntKind.signed, IntKind.bits] using hw
  exact ⟨b, o, zs.getD i 0, rfl, World.block_lt_of_cell? w _ hc, hc, hr.1, hr.2⟩
theorem resV_swap {p c h s : Int} {xs ys : List Int} (g : isB p c h s xs ys = true) (ho : overB xs ys = true) : resV p c h ys xs = resV p c h xs ys := by
  obtain ⟨-, -, -, -, -, -, -, -, hx, hy, x0, x1, y0, y1⟩ := isB_parts g
  have h1 := lastL_sum xs (fun x h => (hx x h).1) xs.length (Nat.le_refl _)
  have h2 := lastL_sum ys (fun x h => (hy x h).1) ys.length (Nat.le_refl _)
  rw [List.take_length] at h1 h2
  have hn : ¬ (xs.sum + ys.sum = 0) := by
    simp only [isB, Bool.and_eq_true, Bool.not_eq_true', decide_eq_false_iff_not] at g
    exact g.2.2.2.1
  unfold overB at ho
  simp only [Bool.or_eq_true, decide_eq_true_eq] at ho
  rw [h1, h2] at ho
  unfold resV
  by_cases e : xs.sum = 0
  · rw [if_pos e, if_neg (show ¬ ys.sum = 0 by omega)]
  · rw [if_neg e, if_pos (show ys.sum = 0 by omega)]
theorem resV_pos (p c h : Int) (xs ys : List Int) : 0 < resV p c h xs ys := by
  unfold resV
  split
  · omega
  · split <;> omega
set_option maxRecDepth 8000 in
set_option maxHeartbeats 4000000 in
theorem fnBoardResults_walk (a : Option Addr) (len cap : Nat) (w : World) (hcode : CodeIn w.heap.size w a len) :
    Calls Try.prog 11 #[.slice a len cap] w fun e w' => e = .returned (.bool true) ∧ Below w.heap.size w w' := by
  by_cases hbig : 4096 < len
  · have f0 : decide (4096 < (len : Int)) = true := by simp; omega
    go_enter Try.func11, Try.ntmps11
    go_wp2_with fail
    refine (big_any _ _ _ _).mono ?_
    rintro e w1 ⟨rfl, rfl⟩
    go_wp2
    go_ret
    exact ⟨rfl, Below.refl _ _⟩
  · have f0 : decide (4096 < (len : Int)) = false := by simp; omega
    go_enter Try.func11, Try.ntmps11
    go_wp2_with fail
    refine (big_any _ _ _ _).mono ?_
    rintro e w0 ⟨rfl, rfl⟩
    go_wp2_with fail
    refine (drawResultOf_any w.heap.size a len cap w (Nat.le_refl _) (by omega) hcode).mono ?_
    rintro e wD ⟨p, c, h, s, g1, g2, n1, n2, c1, c2, xs, ys, rfl, hx, hy, l1, l2, R1, R2, hb⟩
    subst hx hy
    replace l1 : xs.length ≤ 1048576 := by omega
    replace l2 : ys.length ≤ 1048576 := by omega
    obtain ⟨BV, BB, hb2, hz⟩ := two_new wD #[.int .i64 p, .int .i64 c, .int .i64 h, .int .i64 s] #[.slice (some ⟨g1, 0, none⟩) xs.length c1, .slice (some ⟨g2, 0, none⟩) ys.length c2] 25 28
    have r1 := R1.irow.below hb2
    have r2 := R2.irow.below hb2
    replace hb := chain hb hb2
    clear R1 R2 hb2
    have hi := fun (W : World) (r1 : IRow W (some ⟨g1, 0, none⟩) xs) (r2 : IRow W (some ⟨g2, 0, none⟩) ys) => resultOf_any p c h s _ _ _ _ c1 c2 xs ys W rfl rfl l1 l2 r1 r2
    have hs := fun (W : World) (r1 : IRow W (some ⟨g1, 0, none⟩) xs) (r2 : IRow W (some ⟨g2, 0, none⟩) ys) => specResultOf_any p c h s _ _ _ _ c1 c2 xs ys W rfl rfl l1 l2 r1 r2
    have hB := fun (W : World) (r1 : IRow W (some ⟨g1, 0, none⟩) xs) (r2 : IRow W (some ⟨g2, 0, none⟩) ys) => specIsBoard_any p c h s _ _ _ _ c1 c2 xs ys W rfl rfl l1 l2 r1 r2
    have hW := fun (W : World) (r1 : IRow W (some ⟨g1, 0, none⟩) xs) (r2 : IRow W (some ⟨g2, 0, none⟩) ys) => swapBoard_any p c h s _ _ _ _ c1 c2 xs ys W rfl rfl l1 l2 r1 r2
    have ho := fun (W : World) (r1 : IRow W (some ⟨g1, 0, none⟩) xs) (r2 : IRow W (some ⟨g2, 0, none⟩) ys) => isOver_any p c h s _ _ _ _ c1 c2 xs ys W rfl rfl l1 l2 r1 r2
    have hj := fun (d1 d2 : Option Addr) (k1 k2 : Nat) (W : World) (r1 : IRow W d1 ys) (r2 : IRow W d2 xs) => resultOf_any p c h s d1 d2 _ _ k1 k2 ys xs W rfl rfl l2 l1 r1 r2
    by_cases g : isB p c h s xs ys = true
    · have gs := isB_swap g
      have hsw := fun hov : overB xs ys = true => resV_swap g hov
      simp only [swL, if_pos g] at hW
      simp only [g, Bool.true_and] at hi hs ho
      simp only [gs, Bool.true_and, overB_swap] at hj
      rw [g] at hB
      obtain ⟨Q, hQ⟩ : ∃ q, overB xs ys = q := ⟨_, rfl⟩
      rw [hQ] at hi hs ho hj hsw
      obtain ⟨R, hR⟩ : ∃ R, (if Q = true then resV p c h xs ys else 0) = R := ⟨_, rfl⟩
      have hR2 : (if Q = true then resV p c h ys xs else 0) = R := by
        rw [← hR]
        split
        · rename_i q
          exact hsw q
        · rfl
      have hpos : decide (0 < R) = Q := by
        rw [← hR]
        cases Q with
        | false => simp
        | true => simpa using resV_pos p c h xs ys
      rw [hR] at hi hs
      rw [hR2] at hj
      have HI := Lib.hid hi
      have HS := Lib.hid hs
      have HB := Lib.hid hB
      have HW := Lib.hid hW
      have HO := Lib.hid ho
      have HJ := Lib.hid hj
      clear hi hs hB hW ho hj hsw hR hR2 g gs hQ
      obtain ⟨x0, x1, x2, x3, xf, xl⟩ := BV.four
      obtain ⟨y0, y1, yf, yl⟩ := BB.two
      go_wp2_with fail
      clear x0 x1 x2 x3 xf xl y0 y1 yf yl
      generalize ((wD.alloc (.cells #[.int .i64 p, .int .i64 c, .int .i64 h, .int .i64 s] 25)).alloc (.cells #[.slice (some ⟨g1, 0, none⟩) xs.length c1, .slice (some ⟨g2, 0, none⟩) ys.length c2] 28)) = v0 at *
      cases Q with
      | false =>
        obtain ⟨q0_BV, q1_BV, q2_BV, q3_BV, qf_BV, ql_BV⟩ := BV.four
        obtain ⟨q0_BB, q1_BB, qf_BB, ql_BB⟩ := BB.two
        go_wp2_with fail
        clear q0_BV q1_BV q2_BV q3_BV qf_BV ql_BV
        clear q0_BB q1_BB qf_BB ql_BB
        refine (HI.out _ r1 r2).mono ?_
        rintro e w1 ⟨rfl, hb1⟩
        replace BV := BV.below hb1
        replace BB := BB.below hb1
        replace r1 := r1.below hb1
        replace r2 := r2.below hb1
        have hz1 := hb1.size
        replace hb := chain hb hb1
        clear hb1
        obtain ⟨q0_BV, q1_BV, q2_BV, q3_BV, qf_BV, ql_BV⟩ := BV.four
        obtain ⟨q0_BB, q1_BB, qf_BB, ql_BB⟩ := BB.two
        go_wp2_with fail
        clear q0_BV q1_BV q2_BV q3_BV qf_BV ql_BV
        clear q0_BB q1_BB qf_BB ql_BB
        refine (HS.out _ r1 r2).mono ?_
        rintro e w2 ⟨rfl, hb2⟩
        replace BV := BV.below hb2
        replace BB := BB.below hb2
        replace r1 := r1.below hb2
        replace r2 := r2.below hb2
        have hz2 := hb2.size
        replace hb := chain hb hb2
        clear hb2
        obtain ⟨q0_BV, q1_BV, q2_BV, q3_BV, qf_BV, ql_BV⟩ := BV.four
        obtain ⟨q0_BB, q1_BB, qf_BB, ql_BB⟩ := BB.two
        go_wp2_with fail
        clear q0_BV q1_BV q2_BV q3_BV qf_BV ql_BV
        clear q0_BB q1_BB qf_BB ql_BB
        refine (HB.out _ r1 r2).mono ?_
        rintro e w3 ⟨rfl, hb3⟩
        replace BV := BV.below hb3
        replace BB := BB.below hb3
        replace r1 := r1.below hb3
        replace r2 := r2.below hb3
        have hz3 := hb3.size
        replace hb := chain hb hb3
        clear hb3
        obtain ⟨q0_BV, q1_BV, q2_BV, q3_BV, qf_BV, ql_BV⟩ := BV.four
        obtain ⟨q0_BB, q1_BB, qf_BB, ql_BB⟩ := BB.two
        go_wp2_with fail
        clear q0_BV q1_BV q2_BV q3_BV qf_BV ql_BV
        clear q0_BB q1_BB qf_BB ql_BB
        have hd4 : w3.drew.heap.size = w3.heap.size := rfl
        replace BV := BV.drew
        replace BB := BB.drew
        replace r1 := r1.drew
        replace r2 := r2.drew
        replace hb := hb.drew
        refine wp_region_held_drew (S := fun w' => w'.cell? ⟨wD.heap.size, 0, none⟩ = some (.int .i64 p) ∧ w'.cell? ⟨wD.heap.size, 1, none⟩ = some (.int .i64 c) ∧ w'.cell? ⟨wD.heap.size, 2, none⟩ = some (.int .i64 h) ∧ w'.cell? ⟨wD.heap.size, 3, none⟩ = some (.int .i64 s) ∧ w'.cell? ⟨(wD.heap.size + 1), 0, none⟩ = some (.slice (some ⟨g1, 0, none⟩) xs.length c1) ∧ w'.cell? ⟨(wD.heap.size + 1), 1, none⟩ = some (.slice (some ⟨g2, 0, none⟩) ys.length c2)) (by kernel_rfl) ⟨BV.four.1, BV.four.2.1, BV.four.2.2.1, BV.four.2.2.2.1, BB.two.1, BB.two.2.1⟩ (fun hHeld => ?_)
        clear hHeld
        generalize w3.drew = vd4 at *
        have hHeld : vd4.cell? ⟨wD.heap.size, 0, none⟩ = some (.int .i64 p) ∧ vd4.cell? ⟨wD.heap.size, 1, none⟩ = some (.int .i64 c) ∧ vd4.cell? ⟨wD.heap.size, 2, none⟩ = some (.int .i64 h) ∧ vd4.cell? ⟨wD.heap.size, 3, none⟩ = some (.int .i64 s) ∧ vd4.cell? ⟨(wD.heap.size + 1), 0, none⟩ = some (.slice (some ⟨g1, 0, none⟩) xs.length c1) ∧ vd4.cell? ⟨(wD.heap.size + 1), 1, none⟩ = some (.slice (some ⟨g2, 0, none⟩) ys.length c2) := ⟨BV.four.1, BV.four.2.1, BV.four.2.2.1, BV.four.2.2.2.1, BB.two.1, BB.two.2.1⟩
        refine wpAnyH_take (i := 0) (oi := { dst := some 27, op := _, type := _, pos := _, after := _, guard := _ }) (v := ?_) rfl (by kernel_rfl) (by kernel_rfl) (by kernel_rfl) (fun _ _ _ h => h) (Or.inl ⟨by rfl, ?_⟩) (by assumption) ?_
        rotate_left
        · intro w hSw
          (try dsimp only at hSw)
          go_simp
          (try (with_reducible rfl))
        try simp only [Act.put, List.setIfInBounds_toArray, List.set_cons_zero, List.set_cons_succ]
        refine wpAnyH_take (i := 1) (oi := { dst := some 28, op := _, type := _, pos := _, after := _, guard := _ }) (v := ?_) rfl (by kernel_rfl) (by kernel_rfl) (by kernel_rfl) (fun _ _ _ h => h) (Or.inl ⟨by rfl, ?_⟩) (by assumption) ?_
        rotate_left
        · intro w hSw
          (try dsimp only at hSw)
          go_simp
          (try (with_reducible rfl))
        try simp only [Act.put, List.setIfInBounds_toArray, List.set_cons_zero, List.set_cons_succ]
        refine wpAnyH_take (i := 2) (oi := { dst := some 29, op := _, type := _, pos := _, after := _, guard := _ }) (v := ?_) rfl (by kernel_rfl) (by kernel_rfl) (by kernel_rfl) (fun _ _ _ h => h) (Or.inl ⟨by rfl, ?_⟩) (by assumption) ?_
        rotate_left
        · intro w hSw
          (try dsimp only at hSw)
          go_simp
          (try (with_reducible rfl))
        try simp only [Act.put, List.setIfInBounds_toArray, List.set_cons_zero, List.set_cons_succ]
        refine wpAnyH_take (i := 3) (oi := { dst := some 30, op := _, type := _, pos := _, after := _, guard := _ }) (v := ?_) rfl (by kernel_rfl) (by kernel_rfl) (by kernel_rfl) (fun _ _ _ h => h) (Or.inl ⟨by rfl, ?_⟩) (by assumption) ?_
        rotate_left
        · intro w hSw
          (try dsimp only at hSw)
          go_simp
          (try (with_reducible rfl))
        try simp only [Act.put, List.setIfInBounds_toArray, List.set_cons_zero, List.set_cons_succ]
        refine wpAnyH_ready (rs := [4]) (by kernel_rfl) (by simp) ?_
        refine AllReadyH.cons (o := { dst := some 31, op := _, type := _, pos := _, after := _, guard := _ }) rfl (fun K hK => ?_) AllReadyH.nil
        go_simp
        refine (HW.out _ r1 r2).mono ?_
        rintro e w5 ⟨d1, d2, k1, k2, rfl, hO, hb5⟩
        replace BV := BV.below hb5
        replace BB := BB.below hb5
        replace r1 := r1.below hb5
        replace r2 := r2.below hb5
        have hz5 := hb5.size
        replace hb := chain hb hb5
        clear hb5
        have O1 := hO.irow1
        have O2 := hO.irow2
        clear hO
        (try go_wp2_with fail)
        refine hK.out _ _ ⟨BV.four.1, BV.four.2.1, BV.four.2.2.1, BV.four.2.2.2.1, BB.two.1, BB.two.2.1⟩ (fun hHeld => ?_)
        clear hK K
        try simp only [Act.put, List.setIfInBounds_toArray, List.set_cons_zero, List.set_cons_succ]
        refine wpAnyH_ready (rs := [5]) (by kernel_rfl) (by simp) ?_
        refine AllReadyH.cons (o := { dst := some 32, op := _, type := _, pos := _, after := _, guard := _ }) rfl (fun K hK => ?_) AllReadyH.nil
        go_simp
        refine (HJ.out _ _ _ _ _ O1 O2).mono ?_
        rintro e w6 ⟨rfl, hb6⟩
        replace BV := BV.below hb6
        replace BB := BB.below hb6
        replace r1 := r1.below hb6
        replace r2 := r2.below hb6
        replace O1 := O1.below hb6
        replace O2 := O2.below hb6
        have hz6 := hb6.size
        replace hb := chain hb hb6
        clear hb6
        (try go_wp2_with fail)
        refine hK.out _ _ ⟨BV.four.1, BV.four.2.1, BV.four.2.2.1, BV.four.2.2.2.1, BB.two.1, BB.two.2.1⟩ (fun hHeld => ?_)
        clear hK K
        try simp only [Act.put, List.setIfInBounds_toArray, List.set_cons_zero, List.set_cons_succ]
        refine wpAnyH_take (i := 6) (oi := { dst := some 33, op := _, type := _, pos := _, after := _, guard := _ }) (v := ?_) rfl (by kernel_rfl) (by kernel_rfl) (by kernel_rfl) (fun _ _ _ h => h) (Or.inl ⟨by rfl, ?_⟩) (by assumption) ?_
        rotate_left
        · intro w hSw
          (try dsimp only at hSw)
          go_simp
          (try (with_reducible rfl))
        try simp only [Act.put, List.setIfInBounds_toArray, List.set_cons_zero, List.set_cons_succ]
        refine wpAnyH_take (i := 7) (oi := { dst := some 34, op := _, type := _, pos := _, after := _, guard := _ }) (v := ?_) rfl (by kernel_rfl) (by kernel_rfl) (by kernel_rfl) (fun _ _ _ h => h) (Or.inl ⟨by rfl, ?_⟩) (by assumption) ?_
        rotate_left
        · intro w hSw
          (try dsimp only at hSw)
          go_simp
          (try (with_reducible rfl))
        try simp only [Act.put, List.setIfInBounds_toArray, List.set_cons_zero, List.set_cons_succ]
        refine wpAnyH_take (i := 8) (oi := { dst := some 35, op := _, type := _, pos := _, after := _, guard := _ }) (v := ?_) rfl (by kernel_rfl) (by kernel_rfl) (by kernel_rfl) (fun _ _ _ h => h) (Or.inl ⟨by rfl, ?_⟩) (by assumption) ?_
        rotate_left
        · intro w hSw
          (try dsimp only at hSw)
          go_simp
          (try (with_reducible rfl))
        try simp only [Act.put, List.setIfInBounds_toArray, List.set_cons_zero, List.set_cons_succ]
        refine wpAnyH_take (i := 9) (oi := { dst := some 36, op := _, type := _, pos := _, after := _, guard := _ }) (v := ?_) rfl (by kernel_rfl) (by kernel_rfl) (by kernel_rfl) (fun _ _ _ h => h) (Or.inl ⟨by rfl, ?_⟩) (by assumption) ?_
        rotate_left
        · intro w hSw
          (try dsimp only at hSw)
          go_simp
          (try (with_reducible rfl))
        try simp only [Act.put, List.setIfInBounds_toArray, List.set_cons_zero, List.set_cons_succ]
        refine wpAnyH_take (i := 10) (oi := { dst := some 37, op := _, type := _, pos := _, after := _, guard := _ }) (v := ?_) rfl (by kernel_rfl) (by kernel_rfl) (by kernel_rfl) (fun _ _ _ h => h) (Or.inl ⟨by rfl, ?_⟩) (by assumption) ?_
        rotate_left
        · intro w hSw
          (try dsimp only at hSw)
          go_simp
          (try (with_reducible rfl))
        try simp only [Act.put, List.setIfInBounds_toArray, List.set_cons_zero, List.set_cons_succ]
        refine wpAnyH_take (i := 11) (oi := { dst := some 38, op := _, type := _, pos := _, after := _, guard := _ }) (v := ?_) rfl (by kernel_rfl) (by kernel_rfl) (by kernel_rfl) (fun _ _ _ h => h) (Or.inl ⟨by rfl, ?_⟩) (by assumption) ?_
        rotate_left
        · intro w hSw
          (try dsimp only at hSw)
          go_simp
          (try (with_reducible rfl))
        try simp only [Act.put, List.setIfInBounds_toArray, List.set_cons_zero, List.set_cons_succ]
        refine wpAnyH_ready (rs := [12]) (by kernel_rfl) (by simp) ?_
        refine AllReadyH.cons (o := { dst := some 39, op := _, type := _, pos := _, after := _, guard := _ }) rfl (fun K hK => ?_) AllReadyH.nil
        go_simp
        refine (HO.out _ r1 r2).mono ?_
        rintro e w7 ⟨rfl, hb7⟩
        replace BV := BV.below hb7
        replace BB := BB.below hb7
        replace r1 := r1.below hb7
        replace r2 := r2.below hb7
        replace O1 := O1.below hb7
        replace O2 := O2.below hb7
        have hz7 := hb7.size
        replace hb := chain hb hb7
        clear hb7
        (try go_wp2_with fail)
        refine hK.out _ _ ⟨BV.four.1, BV.four.2.1, BV.four.2.2.1, BV.four.2.2.2.1, BB.two.1, BB.two.2.1⟩ (fun hHeld => ?_)
        clear hK K
        try simp only [Act.put, List.setIfInBounds_toArray, List.set_cons_zero, List.set_cons_succ]
        refine wpAnyH_take (i := 13) (oi := { dst := some 40, op := _, type := _, pos := _, after := _, guard := _ }) (v := ?_) rfl (by kernel_rfl) (by kernel_rfl) (by kernel_rfl) (fun _ _ _ h => h) (Or.inl ⟨by rfl, ?_⟩) (by assumption) ?_
        rotate_left
        · intro w hSw
          (try dsimp only at hSw)
          go_simp
          (try (with_reducible rfl))
        try simp only [Act.put, List.setIfInBounds_toArray, List.set_cons_zero, List.set_cons_succ]
        refine wpAnyH_take (i := 14) (oi := { dst := some 41, op := _, type := _, pos := _, after := _, guard := _ }) (v := ?_) rfl (by kernel_rfl) (by kernel_rfl) (by kernel_rfl) (fun _ _ _ h => h) (Or.inl ⟨by rfl, ?_⟩) (by assumption) ?_
        rotate_left
        · intro w hSw
          (try dsimp only at hSw)
          go_simp
          (try (with_reducible rfl))
        try simp only [Act.put, List.setIfInBounds_toArray, List.set_cons_zero, List.set_cons_succ]
        refine wpAnyH_take (i := 15) (oi := { dst := some 2, op := _, type := _, pos := _, after := _, guard := _ }) (v := ?_) rfl (by kernel_rfl) (by kernel_rfl) (by kernel_rfl) (fun _ _ _ h => h) (Or.inl ⟨by rfl, ?_⟩) (by assumption) ?_
        rotate_left
        · intro w hSw
          (try dsimp only at hSw)
          go_simp
          (try (with_reducible rfl))
        try simp only [Act.put, List.setIfInBounds_toArray, List.set_cons_zero, List.set_cons_succ]
        refine wpAnyH_done (by kernel_rfl) ?_ _
        clear hHeld
        obtain ⟨q0_BV, q1_BV, q2_BV, q3_BV, qf_BV, ql_BV⟩ := BV.four
        obtain ⟨q0_BB, q1_BB, qf_BB, ql_BB⟩ := BB.two
        go_wp2_with fail
        go_ret
        exact ⟨rfl, hb⟩
      | true =>
        obtain ⟨q0_BV, q1_BV, q2_BV, q3_BV, qf_BV, ql_BV⟩ := BV.four
        obtain ⟨q0_BB, q1_BB, qf_BB, ql_BB⟩ := BB.two
        go_wp2_with fail
        clear q0_BV q1_BV q2_BV q3_BV qf_BV ql_BV
        clear q0_BB q1_BB qf_BB ql_BB
        refine (HI.out _ r1 r2).mono ?_
        rintro e w1 ⟨rfl, hb1⟩
        replace BV := BV.below hb1
        replace BB := BB.below hb1
        replace r1 := r1.below hb1
        replace r2 := r2.below hb1
        have hz1 := hb1.size
        replace hb := chain hb hb1
        clear hb1
        obtain ⟨q0_BV, q1_BV, q2_BV, q3_BV, qf_BV, ql_BV⟩ := BV.four
        obtain ⟨q0_BB, q1_BB, qf_BB, ql_BB⟩ := BB.two
        go_wp2_with fail
        clear q0_BV q1_BV q2_BV q3_BV qf_BV ql_BV
        clear q0_BB q1_BB qf_BB ql_BB
        refine (HS.out _ r1 r2).mono ?_
        rintro e w2 ⟨rfl, hb2⟩
        replace BV := BV.below hb2
        replace BB := BB.below hb2
        replace r1 := r1.below hb2
        replace r2 := r2.below hb2
        have hz2 := hb2.size
        replace hb := chain hb hb2
        clear hb2
        obtain ⟨q0_BV, q1_BV, q2_BV, q3_BV, qf_BV, ql_BV⟩ := BV.four
        obtain ⟨q0_BB, q1_BB, qf_BB, ql_BB⟩ := BB.two
        go_wp2_with fail
        clear q0_BV q1_BV q2_BV q3_BV qf_BV ql_BV
        clear q0_BB q1_BB qf_BB ql_BB
        refine (HB.out _ r1 r2).mono ?_
        rintro e w3 ⟨rfl, hb3⟩
        replace BV := BV.below hb3
        replace BB := BB.below hb3
        replace r1 := r1.below hb3
        replace r2 := r2.below hb3
        have hz3 := hb3.size
        replace hb := chain hb hb3
        clear hb3
        obtain ⟨q0_BV, q1_BV, q2_BV, q3_BV, qf_BV, ql_BV⟩ := BV.four
        obtain ⟨q0_BB, q1_BB, qf_BB, ql_BB⟩ := BB.two
        go_wp2_with fail
        clear q0_BV q1_BV q2_BV q3_BV qf_BV ql_BV
        clear q0_BB q1_BB qf_BB ql_BB
        have hd4 : w3.drew.heap.size = w3.heap.size := rfl
        replace BV := BV.drew
        replace BB := BB.drew
        replace r1 := r1.drew
        replace r2 := r2.drew
        replace hb := hb.drew
        refine wp_region_held_drew (S := fun w' => w'.cell? ⟨wD.heap.size, 0, none⟩ = some (.int .i64 p) ∧ w'.cell? ⟨wD.heap.size, 1, none⟩ = some (.int .i64 c) ∧ w'.cell? ⟨wD.heap.size, 2, none⟩ = some (.int .i64 h) ∧ w'.cell? ⟨wD.heap.size, 3, none⟩ = some (.int .i64 s) ∧ w'.cell? ⟨(wD.heap.size + 1), 0, none⟩ = some (.slice (some ⟨g1, 0, none⟩) xs.length c1) ∧ w'.cell? ⟨(wD.heap.size + 1), 1, none⟩ = some (.slice (some ⟨g2, 0, none⟩) ys.length c2)) (by kernel_rfl) ⟨BV.four.1, BV.four.2.1, BV.four.2.2.1, BV.four.2.2.2.1, BB.two.1, BB.two.2.1⟩ (fun hHeld => ?_)
        clear hHeld
        generalize w3.drew = vd4 at *
        have hHeld : vd4.cell? ⟨wD.heap.size, 0, none⟩ = some (.int .i64 p) ∧ vd4.cell? ⟨wD.heap.size, 1, none⟩ = some (.int .i64 c) ∧ vd4.cell? ⟨wD.heap.size, 2, none⟩ = some (.int .i64 h) ∧ vd4.cell? ⟨wD.heap.size, 3, none⟩ = some (.int .i64 s) ∧ vd4.cell? ⟨(wD.heap.size + 1), 0, none⟩ = some (.slice (some ⟨g1, 0, none⟩) xs.length c1) ∧ vd4.cell? ⟨(wD.heap.size + 1), 1, none⟩ = some (.slice (some ⟨g2, 0, none⟩) ys.length c2) := ⟨BV.four.1, BV.four.2.1, BV.four.2.2.1, BV.four.2.2.2.1, BB.two.1, BB.two.2.1⟩
        refine wpAnyH_take (i := 0) (oi := { dst := some 27, op := _, type := _, pos := _, after := _, guard := _ }) (v := ?_) rfl (by kernel_rfl) (by kernel_rfl) (by kernel_rfl) (fun _ _ _ h => h) (Or.inl ⟨by rfl, ?_⟩) (by assumption) ?_
        rotate_left
        · intro w hSw
          (try dsimp only at hSw)
          go_simp
          (try (with_reducible rfl))
        try simp only [Act.put, List.setIfInBounds_toArray, List.set_cons_zero, List.set_cons_succ]
        refine wpAnyH_take (i := 1) (oi := { dst := some 28, op := _, type := _, pos := _, after := _, guard := _ }) (v := ?_) rfl (by kernel_rfl) (by kernel_rfl) (by kernel_rfl) (fun _ _ _ h => h) (Or.inl ⟨by rfl, ?_⟩) (by assumption) ?_
        rotate_left
        · intro w hSw
          (try dsimp only at hSw)
          go_simp
          (try (with_reducible rfl))
        try simp only [Act.put, List.setIfInBounds_toArray, List.set_cons_zero, List.set_cons_succ]
        refine wpAnyH_take (i := 2) (oi := { dst := some 29, op := _, type := _, pos := _, after := _, guard := _ }) (v := ?_) rfl (by kernel_rfl) (by kernel_rfl) (by kernel_rfl) (fun _ _ _ h => h) (Or.inl ⟨by rfl, ?_⟩) (by assumption) ?_
        rotate_left
        · intro w hSw
          (try dsimp only at hSw)
          go_simp
          (try (with_reducible rfl))
        try simp only [Act.put, List.setIfInBounds_toArray, List.set_cons_zero, List.set_cons_succ]
        refine wpAnyH_take (i := 3) (oi := { dst := some 30, op := _, type := _, pos := _, after := _, guard := _ }) (v := ?_) rfl (by kernel_rfl) (by kernel_rfl) (by kernel_rfl) (fun _ _ _ h => h) (Or.inl ⟨by rfl, ?_⟩) (by assumption) ?_
        rotate_left
        · intro w hSw
          (try dsimp only at hSw)
          go_simp
          (try (with_reducible rfl))
        try simp only [Act.put, List.setIfInBounds_toArray, List.set_cons_zero, List.set_cons_succ]
        refine wpAnyH_ready (rs := [4]) (by kernel_rfl) (by simp) ?_
        refine AllReadyH.cons (o := { dst := some 31, op := _, type := _, pos := _, after := _, guard := _ }) rfl (fun K hK => ?_) AllReadyH.nil
        go_simp
        refine (HW.out _ r1 r2).mono ?_
        rintro e w5 ⟨d1, d2, k1, k2, rfl, hO, hb5⟩
        replace BV := BV.below hb5
        replace BB := BB.below hb5
        replace r1 := r1.below hb5
        replace r2 := r2.below hb5
        have hz5 := hb5.size
        replace hb := chain hb hb5
        clear hb5
        have O1 := hO.irow1
        have O2 := hO.irow2
        clear hO
        (try go_wp2_with fail)
        refine hK.out _ _ ⟨BV.four.1, BV.four.2.1, BV.four.2.2.1, BV.four.2.2.2.1, BB.two.1, BB.two.2.1⟩ (fun hHeld => ?_)
        clear hK K
        try simp only [Act.put, List.setIfInBounds_toArray, List.set_cons_zero, List.set_cons_succ]
        refine wpAnyH_ready (rs := [5]) (by kernel_rfl) (by simp) ?_
        refine AllReadyH.cons (o := { dst := some 32, op := _, type := _, pos := _, after := _, guard := _ }) rfl (fun K hK => ?_) AllReadyH.nil
        go_simp
        refine (HJ.out _ _ _ _ _ O1 O2).mono ?_
        rintro e w6 ⟨rfl, hb6⟩
        replace BV := BV.below hb6
        replace BB := BB.below hb6
        replace r1 := r1.below hb6
        replace r2 := r2.below hb6
        replace O1 := O1.below hb6
        replace O2 := O2.below hb6
        have hz6 := hb6.size
        replace hb := chain hb hb6
        clear hb6
        (try go_wp2_with fail)
        refine hK.out _ _ ⟨BV.four.1, BV.four.2.1, BV.four.2.2.1, BV.four.2.2.2.1, BB.two.1, BB.two.2.1⟩ (fun hHeld => ?_)
        clear hK K
        try simp only [Act.put, List.setIfInBounds_toArray, List.set_cons_zero, List.set_cons_succ]
        refine wpAnyH_take (i := 6) (oi := { dst := some 33, op := _, type := _, pos := _, after := _, guard := _ }) (v := ?_) rfl (by kernel_rfl) (by kernel_rfl) (by kernel_rfl) (fun _ _ _ h => h) (Or.inl ⟨by rfl, ?_⟩) (by assumption) ?_
        rotate_left
        · intro w hSw
          (try dsimp only at hSw)
          go_simp
          (try (with_reducible rfl))
        try simp only [Act.put, List.setIfInBounds_toArray, List.set_cons_zero, List.set_cons_succ]
        refine wpAnyH_take (i := 7) (oi := { dst := some 34, op := _, type := _, pos := _, after := _, guard := _ }) (v := ?_) rfl (by kernel_rfl) (by kernel_rfl) (by kernel_rfl) (fun _ _ _ h => h) (Or.inl ⟨by rfl, ?_⟩) (by assumption) ?_
        rotate_left
        · intro w hSw
          (try dsimp only at hSw)
          go_simp
          (try (with_reducible rfl))
        try simp only [Act.put, List.setIfInBounds_toArray, List.set_cons_zero, List.set_cons_succ]
        refine wpAnyH_take (i := 8) (oi := { dst := some 35, op := _, type := _, pos := _, after := _, guard := _ }) (v := ?_) rfl (by kernel_rfl) (by kernel_rfl) (by kernel_rfl) (fun _ _ _ h => h) (Or.inl ⟨by rfl, ?_⟩) (by assumption) ?_
        rotate_left
        · intro w hSw
          (try dsimp only at hSw)
          go_simp
          (try (with_reducible rfl))
        try simp only [Act.put, List.setIfInBounds_toArray, List.set_cons_zero, List.set_cons_succ]
        refine wpAnyH_take (i := 9) (oi := { dst := some 36, op := _, type := _, pos := _, after := _, guard := _ }) (v := ?_) rfl (by kernel_rfl) (by kernel_rfl) (by kernel_rfl) (fun _ _ _ h => h) (Or.inl ⟨by rfl, ?_⟩) (by assumption) ?_
        rotate_left
        · intro w hSw
          (try dsimp only at hSw)
          go_simp
          (try (with_reducible rfl))
        try simp only [Act.put, List.setIfInBounds_toArray, List.set_cons_zero, List.set_cons_succ]
        refine wpAnyH_take (i := 10) (oi := { dst := some 37, op := _, type := _, pos := _, after := _, guard := _ }) (v := ?_) rfl (by kernel_rfl) (by kernel_rfl) (by kernel_rfl) (fun _ _ _ h => h) (Or.inl ⟨by rfl, ?_⟩) (by assumption) ?_
        rotate_left
        · intro w hSw
          (try dsimp only at hSw)
          go_simp
          (try (with_reducible rfl))
        try simp only [Act.put, List.setIfInBounds_toArray, List.set_cons_zero, List.set_cons_succ]
        refine wpAnyH_take (i := 11) (oi := { dst := some 38, op := _, type := _, pos := _, after := _, guard := _ }) (v := ?_) rfl (by kernel_rfl) (by kernel_rfl) (by kernel_rfl) (fun _ _ _ h => h) (Or.inl ⟨by rfl, ?_⟩) (by assumption) ?_
        rotate_left
        · intro w hSw
          (try dsimp only at hSw)
          go_simp
          (try (with_reducible rfl))
        try simp only [Act.put, List.setIfInBounds_toArray, List.set_cons_zero, List.set_cons_succ]
        refine wpAnyH_ready (rs := [12]) (by kernel_rfl) (by simp) ?_
        refine AllReadyH.cons (o := { dst := some 39, op := _, type := _, pos := _, after := _, guard := _ }) rfl (fun K hK => ?_) AllReadyH.nil
        go_simp
        refine (HO.out _ r1 r2).mono ?_
        rintro e w7 ⟨rfl, hb7⟩
        replace BV := BV.below hb7
        replace BB := BB.below hb7
        replace r1 := r1.below hb7
        replace r2 := r2.below hb7
        replace O1 := O1.below hb7
        replace O2 := O2.below hb7
        have hz7 := hb7.size
        replace hb := chain hb hb7
        clear hb7
        (try go_wp2_with fail)
        refine hK.out _ _ ⟨BV.four.1, BV.four.2.1, BV.four.2.2.1, BV.four.2.2.2.1, BB.two.1, BB.two.2.1⟩ (fun hHeld => ?_)
        clear hK K
        try simp only [Act.put, List.setIfInBounds_toArray, List.set_cons_zero, List.set_cons_succ]
        refine wpAnyH_take (i := 13) (oi := { dst := some 40, op := _, type := _, pos := _, after := _, guard := _ }) (v := ?_) rfl (by kernel_rfl) (by kernel_rfl) (by kernel_rfl) (fun _ _ _ h => h) (Or.inl ⟨by rfl, ?_⟩) (by assumption) ?_
        rotate_left
        · intro w hSw
          (try dsimp only at hSw)
          go_simp
          (try (with_reducible rfl))
        try simp only [Act.put, List.setIfInBounds_toArray, List.set_cons_zero, List.set_cons_succ]
        refine wpAnyH_take (i := 14) (oi := { dst := some 41, op := _, type := _, pos := _, after := _, guard := _ }) (v := ?_) rfl (by kernel_rfl) (by kernel_rfl) (by kernel_rfl) (fun _ _ _ h => h) (Or.inl ⟨by rfl, ?_⟩) (by assumption) ?_
        rotate_left
        · intro w hSw
          (try dsimp only at hSw)
          go_simp
          (try (with_reducible rfl))
        try simp only [Act.put, List.setIfInBounds_toArray, List.set_cons_zero, List.set_cons_succ]
        refine wpAnyH_take (i := 15) (oi := { dst := some 2, op := _, type := _, pos := _, after := _, guard := _ }) (v := ?_) rfl (by kernel_rfl) (by kernel_rfl) (by kernel_rfl) (fun _ _ _ h => h) (Or.inl ⟨by rfl, ?_⟩) (by assumption) ?_
        rotate_left
        · intro w hSw
          (try dsimp only at hSw)
          go_simp
          (try (with_reducible rfl))
        try simp only [Act.put, List.setIfInBounds_toArray, List.set_cons_zero, List.set_cons_succ]
        refine wpAnyH_done (by kernel_rfl) ?_ _
        clear hHeld
        obtain ⟨q0_BV, q1_BV, q2_BV, q3_BV, qf_BV, ql_BV⟩ := BV.four
        obtain ⟨q0_BB, q1_BB, qf_BB, ql_BB⟩ := BB.two
        go_wp2_with fail
        go_ret
        exact ⟨rfl, hb⟩
    · replace g : isB p c h s xs ys = false := by simpa using g
      simp only [g, Bool.false_and, Bool.false_eq_true, if_false] at hi hs
      rw [g] at hB
      have HI := Lib.hid hi
      have HS := Lib.hid hs
      have HB := Lib.hid hB
      clear hi hs hB hW ho hj g
      obtain ⟨x0, x1, x2, x3, xf, xl⟩ := BV.four
      obtain ⟨y0, y1, yf, yl⟩ := BB.two
      go_wp2_with fail
      clear x0 x1 x2 x3 xf xl y0 y1 yf yl
      generalize ((wD.alloc (.cells #[.int .i64 p, .int .i64 c, .int .i64 h, .int .i64 s] 25)).alloc (.cells #[.slice (some ⟨g1, 0, none⟩) xs.length c1, .slice (some ⟨g2, 0, none⟩) ys.length c2] 28)) = v0 at *
      obtain ⟨q0_BV, q1_BV, q2_BV, q3_BV, qf_BV, ql_BV⟩ := BV.four
      obtain ⟨q0_BB, q1_BB, qf_BB, ql_BB⟩ := BB.two
      go_wp2_with fail
      clear q0_BV q1_BV q2_BV q3_BV qf_BV ql_BV
      clear q0_BB q1_BB qf_BB ql_BB
      refine (HI.out _ r1 r2).mono ?_
      rintro e w1 ⟨rfl, hb1⟩
      replace BV := BV.below hb1
      replace BB := BB.below hb1
      replace r1 := r1.below hb1
      replace r2 := r2.below hb1
      have hz1 := hb1.size
      replace hb := chain hb hb1
      clear hb1
      obtain ⟨q0_BV, q1_BV, q2_BV, q3_BV, qf_BV, ql_BV⟩ := BV.four
      obtain ⟨q0_BB, q1_BB, qf_BB, ql_BB⟩ := BB.two
      go_wp2_with fail
      clear q0_BV q1_BV q2_BV q3_BV qf_BV ql_BV
      clear q0_BB q1_BB qf_BB ql_BB
      refine (HS.out _ r1 r2).mono ?_
      rintro e w2 ⟨rfl, hb2⟩
      replace BV := BV.below hb2
      replace BB := BB.below hb2
      replace r1 := r1.below hb2
      replace r2 := r2.below hb2
      have hz2 := hb2.size
      replace hb := chain hb hb2
      clear hb2
      obtain ⟨q0_BV, q1_BV, q2_BV, q3_BV, qf_BV, ql_BV⟩ := BV.four
      obtain ⟨q0_BB, q1_BB, qf_BB, ql_BB⟩ := BB.two
      go_wp2_with fail
      clear q0_BV q1_BV q2_BV q3_BV qf_BV ql_BV
      clear q0_BB q1_BB qf_BB ql_BB
      refine (HB.out _ r1 r2).mono ?_
      rintro e w3 ⟨rfl, hb3⟩
      replace BV := BV.below hb3
      replace BB := BB.below hb3
      replace r1 := r1.below hb3
      replace r2 := r2.below hb3
      have hz3 := hb3.size
      replace hb := chain hb hb3
      clear hb3
      obtain ⟨q0_BV, q1_BV, q2_BV, q3_BV, qf_BV, ql_BV⟩ := BV.four
      obtain ⟨q0_BB, q1_BB, qf_BB, ql_BB⟩ := BB.two
      go_wp2_with fail
      go_ret
      exact ⟨rfl, hb⟩
set_option maxRecDepth 100000 in
theorem fnBoardResults_lifted (os : Os) (started : os.Started) (H : Type) (enc : TypeId × Value → H) :
    ReturnsInHanded {} Try.checked os 11 .any (Rows.fnBoardResultsSpec.pre6 enc Try.prog Try.f11 Rows.fnBoardResultsRow.domain false) (Rows.fnBoardResultsSpec.post enc Try.prog Try.f11 false true false false) := by
  refine returnsInHanded_of_change (C := Try.checked) own started (by kernel_rfl) Try.func11
    (ChangeSpec.witness6 (enc := enc) (C := Try.checked) false ⟨#[], #[.slice none 0 0], []⟩ 8 (by kernel_rfl) (by kernel_rfl) (by kernel_rfl) (by kernel_rfl)) ?_
  intro W base args ds gs before hval0 hW hcnd _
  have hval : ∀ (j : Nat) t v, Try.f11.params[j]? = some t → args[j]? = some v → Value.okWide Try.prog W .any base t v := hval0
  have hW' := hW
  obtain ⟨p, q, hA0, hV, rfl, hfz, hnd⟩ := hW
  have hA : DataW.TrodAll enc Try.prog W 0 (fun _ => true) true Try.f11.params.toList args.toList ds p := hA0
  rw [Try.params11] at hA hval
  obtain ⟨v0, vs0, d0, ds0, p0, q0, hargs, rfl, rfl, h0, r0⟩ := trodAll_cons hA
  obtain ⟨rfl, rfl, rfl⟩ := trodAll_nil r0
  obtain rfl : args = #[v0] := by cases args; simp_all
  obtain ⟨rfl, rfl⟩ := trodVars_none hV
  have k0 := h0
  have lt0 : ∀ x ∈ p0, x.block < W.heap.size := by obtain ⟨m, hm⟩ := k0; exact DataW.trod_lt m _ _ _ hm
  obtain ⟨sa_0, sl_0, sc_0, rfl⟩ := okWide_slice Try.underlying22 (hval 0 22 v0 rfl rfl)
  have hcode_0 : CodeIn W.heap.size W sa_0 sl_0 := by
    obtain ⟨fuel, hf⟩ := h0
    rcases open_ints Try.underlying22 Try.underlying5 (by kernel_rfl) hf with ⟨hcs, _⟩ | ⟨x, l, c, zs, hcs, _, hl, hm, hz, _, hcell, hwz⟩
    · simp [Value.cells] at hcs
      obtain ⟨rfl, rfl, rfl⟩ := hcs
      intro i hi
      omega
    · simp [Value.cells] at hcs
      obtain ⟨rfl, rfl, rfl⟩ := hcs
      exact code_of_ints (by have hz2 := hz; simp at hz2; omega) trivial hcell hwz
  clear hA0 hval0
  refine (fnBoardResults_walk sa_0 sl_0 sc_0 W hcode_0).mono fun e W' ⟨he, bel⟩ => ?_
  subst he
  exact ⟨_, rfl, _, _, _, [], _, [], hW', trodAll_mk1 (shut_bool Try.underlying4 _), (trodAll_cons_mk (Below.trod laidOut (by kernel_rfl) (of_decide_eq_true (by kernel_rfl)) k0 bel lt0) trodAll_mk0), rfl, bel.frame _, fun h => by cases h⟩
theorem fnBoardResults_holds : Rows.FnBoardResultsSaid :=
  OpenClaim.holds_of_wide 11 Try.f11 rfl rfl rfl rfl rfl rfl rfl ⟨rfl, rfl, rfl, rfl, rfl⟩ rfl rfl rfl rfl rfl (by kernel_rfl) Try.func11 (by kernel_rfl)
    (of_decide_eq_true (by kernel_rfl)) (by unfold Func.isWrapper; first | (rw [if_pos (by decide +kernel)]; kernel_rfl) | (rw [if_neg (by decide +kernel)]; exact ⟨rfl, rfl⟩))
    (fun os started H enc _ => fnBoardResults_lifted os started H enc)
end Go.Proofs.Ytkddeoifdecniaa
