/- Contracts on legal steps and on the board behind a step, of the program and of its model. -/
import Derived.Test.Ytjglempkmenacaa04k
import Derived.Test.Ytjglempkmenacaa04m
namespace Go.Proofs.Ytjglempkmenacaa
open Go.ChangeShapes Go.WideShapes Go.ChangeAt Go.RowKit
set_option linter.unusedVariables false
set_option linter.unusedSimpArgs false
set_option maxRecDepth 4000

theorem moved_any (P : Nat) (f1 f2 B : Nat) (xs ys : List Int) (w : World) (p0 : 2 ≤ P) (p1 : P ≤ 24) (n1 : xs.length = P + 1) (n2 : ys.length = P + 1) (hx : ∀ x ∈ xs, 0 ≤ x ∧ x ≤ 1000) (hy : ∀ y ∈ ys, 0 ≤ y ∧ y ≤ 1000) (q1 : Pays f1 B xs w) (q2 : Pays f2 B ys w) (t : Stp) (n : Int) (m0 : -1 ≤ n) (m1 : n ≤ 1) (hp : placesB (P : Int) t = true) :
    Calls Try.prog 60 #[tv (P : Int) f1 f2 B, stV t, .int .i64 n] w (BoardMade (mvX xs t.1 t.2.1 n) (mvY P ys t.2.1 t.2.2.2 n) w) := by
  obtain ⟨a, b, d, q⟩ := t
  simp only [placesB, Bool.and_eq_true, decide_eq_true_eq] at hp
  obtain ⟨h1, h2, h3, h4⟩ := hp
  obtain ⟨f, rfl⟩ := Int.eq_ofNat_of_zero_le h1
  dsimp only
  by_cases hb : b = -1
  · subst hb
    cases q with
    | false => exact moved_off_false P f1 f2 B B xs ys w p0 p1 n1 n2 hx hy q1 q2 f d n m0 m1 (by omega)
    | true => exact moved_off_true P f1 f2 B B xs ys w p0 p1 n1 n2 hx hy q1 q2 f d n m0 m1 (by omega)
  · obtain ⟨t, rfl⟩ := Int.eq_ofNat_of_zero_le (by omega : 0 ≤ b)
    by_cases hne : t = f
    · subst hne
      cases q with
      | false => exact moved_same_false P f1 f2 B B xs ys w p0 p1 n1 n2 hx hy q1 q2 t d n m0 m1 (by omega) (by omega)
      | true => exact moved_same_true P f1 f2 B B xs ys w p0 p1 n1 n2 hx hy q1 q2 t d n m0 m1 (by omega) (by omega)
    · cases q with
      | false => exact moved_far_false P f1 f2 B B xs ys w p0 p1 n1 n2 hx hy q1 q2 f d n m0 m1 (by omega) t (by omega) hne
      | true => exact moved_far_true P f1 f2 B B xs ys w p0 p1 n1 n2 hx hy q1 q2 f d n m0 m1 (by omega) t (by omega) hne
set_option maxRecDepth 8000 in
set_option maxHeartbeats 4000000 in
theorem isLegalStep_any (t : Stp) (p c h s : Int) (a1 a2 : Option Addr) (n1 n2 c1 c2 : Nat) (xs ys : List Int) (w : World) (h1 : xs.length = n1) (h2 : ys.length = n2) (l1 : n1 ≤ 1048576) (l2 : n2 ≤ 1048576) (r1 : IRow w a1 xs) (r2 : IRow w a2 ys) :
    Calls Try.prog 18 #[.agg #[.int .i64 p, .int .i64 c, .int .i64 h, .int .i64 s], .agg #[.slice a1 n1 c1, .slice a2 n2 c2], stV t] w fun e w' => e = .returned (.bool (lgB p c h s xs ys t)) ∧ Below w.heap.size w w' := by
  unfold lgB
  by_cases g : isB p c h s xs ys = true
  · rw [g, Bool.true_and]
    obtain ⟨p0, p1, k0, k1, k2, k3, N1, N2, hx, hy, s0, s1, s2, s3⟩ := isB_parts g
    obtain ⟨P, rfl⟩ := Int.eq_ofNat_of_zero_le (by omega : 0 ≤ p)
    rw [show (P : Int).toNat = P by simp]
    have hs6 := isB_sides g
    have hB := fun W (q1 : IRow W a1 xs) (q2 : IRow W a2 ys) => isBoard_any (P : Int) c h s a1 a2 n1 n2 c1 c2 xs ys W h1 h2 l1 l2 q1 q2
    simp only [g] at hB
    have HB := Lib.hid hB
    clear hB
    have hl0 := fun W f1 f2 B (q1 : Pays f1 B xs W) (q2 : Pays f2 B ys W) => isLegal_any P c h s f1 f2 B xs ys W (by omega) (by omega) (by omega) (by omega) hx hy q1 q2 (by omega) t
    obtain ⟨Q, hQ⟩ : ∃ Q, legB P h s xs ys t = Q := ⟨_, rfl⟩
    rw [hQ] at hl0 ⊢
    obtain ⟨ta, tb, td, tq⟩ := t
    have HL := Lib.hid hl0
    clear hl0 hQ
    obtain ⟨BV, BB, BS, hb, hz⟩ := three_new w #[.int .i64 (P : Int), .int .i64 c, .int .i64 h, .int .i64 s] #[.slice a1 n1 c1, .slice a2 n2 c2] #[.int .i64 ta, .int .i64 tb, .int .i64 td, .bool tq] 25 28 30
    obtain ⟨x0, x1, x2, x3, xf, xl⟩ := BV.four
    obtain ⟨y0, y1, yf, yl⟩ := BB.two
    obtain ⟨s0, s1, s2, s3, sf, sl⟩ := BS.four
    go_enter Try.func18, Try.ntmps18
    go_wp2_with fail
    clear x0 x1 x2 x3 xf xl y0 y1 yf yl s0 s1 s2 s3 sf sl hz
    replace r1 := r1.below hb
    replace r2 := r2.below hb
    generalize (((w.alloc (.cells #[.int .i64 (P : Int), .int .i64 c, .int .i64 h, .int .i64 s] 25)).alloc (.cells #[.slice a1 n1 c1, .slice a2 n2 c2] 28)).alloc (.cells #[.int .i64 ta, .int .i64 tb, .int .i64 td, .bool tq] 30)) = v0 at *
    replace BV := BV.drew
    replace BB := BB.drew
    replace BS := BS.drew
    replace r1 := r1.drew
    replace r2 := r2.drew
    replace hb := hb.drew
    refine wp_region_held_drew (S := fun w' => w'.cell? ⟨w.heap.size, 0, none⟩ = some (.int .i64 (P : Int)) ∧ w'.cell? ⟨w.heap.size, 1, none⟩ = some (.int .i64 c) ∧ w'.cell? ⟨w.heap.size, 2, none⟩ = some (.int .i64 h) ∧ w'.cell? ⟨w.heap.size, 3, none⟩ = some (.int .i64 s) ∧ w'.cell? ⟨(w.heap.size + 1), 0, none⟩ = some (.slice a1 n1 c1) ∧ w'.cell? ⟨(w.heap.size + 1), 1, none⟩ = some (.slice a2 n2 c2) ∧ w'.cell? ⟨(w.heap.size + 1 + 1), 0, none⟩ = some (.int .i64 ta) ∧ w'.cell? ⟨(w.heap.size + 1 + 1), 1, none⟩ = some (.int .i64 tb) ∧ w'.cell? ⟨(w.heap.size + 1 + 1), 2, none⟩ = some (.int .i64 td) ∧ w'.cell? ⟨(w.heap.size + 1 + 1), 3, none⟩ = some (.bool tq) ∧ Blk w' w.heap.size #[.int .i64 (P : Int), .int .i64 c, .int .i64 h, .int .i64 s] 25 ∧ Blk w' ((w.heap.size + 1)) #[.slice a1 n1 c1, .slice a2 n2 c2] 28 ∧ Blk w' ((w.heap.size + 1 + 1)) #[.int .i64 ta, .int .i64 tb, .int .i64 td, .bool tq] 30 ∧ (IRow w' a1 xs) ∧ (IRow w' a2 ys) ∧ Below w.heap.size w w') (by kernel_rfl) ⟨BV.four.1, BV.four.2.1, BV.four.2.2.1, BV.four.2.2.2.1, BB.two.1, BB.two.2.1, BS.four.1, BS.four.2.1, BS.four.2.2.1, BS.four.2.2.2.1, BV, BB, BS, r1, r2, hb⟩ (fun hHeld => ?_)
    refine wpAnyH_take (i := 0) (oi := { dst := some 7, op := _, type := _, pos := _, after := _, guard := _ }) (v := ?_) rfl (by kernel_rfl) (by kernel_rfl) (by kernel_rfl) (fun _ _ _ h => h) (Or.inl ⟨by rfl, ?_⟩) (by assumption) ?_
    rotate_left
    · intro w hSw
      (try dsimp only at hSw)
      go_simp
      (try (with_reducible rfl))
    try simp only [Act.put, List.setIfInBounds_toArray, List.set_cons_zero, List.set_cons_succ]
    refine wpAnyH_take (i := 1) (oi := { dst := some 8, op := _, type := _, pos := _, after := _, guard := _ }) (v := ?_) rfl (by kernel_rfl) (by kernel_rfl) (by kernel_rfl) (fun _ _ _ h => h) (Or.inl ⟨by rfl, ?_⟩) (by assumption) ?_
    rotate_left
    · intro w hSw
      (try dsimp only at hSw)
      go_simp
      (try (with_reducible rfl))
    try simp only [Act.put, List.setIfInBounds_toArray, List.set_cons_zero, List.set_cons_succ]
    refine wpAnyH_ready (rs := [2]) (by kernel_rfl) (by simp) ?_
    refine AllReadyH.cons (o := { dst := some 9, op := _, type := _, pos := _, after := _, guard := _ }) rfl (fun K hK => ?_) AllReadyH.nil
    go_simp
    -- call
    have BV := hHeld.2.2.2.2.2.2.2.2.2.2.1
    have BB := hHeld.2.2.2.2.2.2.2.2.2.2.2.1
    have BS := hHeld.2.2.2.2.2.2.2.2.2.2.2.2.1
    have r1 := hHeld.2.2.2.2.2.2.2.2.2.2.2.2.2.1
    have r2 := hHeld.2.2.2.2.2.2.2.2.2.2.2.2.2.2.1
    have hb := hHeld.2.2.2.2.2.2.2.2.2.2.2.2.2.2.2
    clear hHeld
    refine (HB.out _ r1 r2).mono ?_
    rintro e wq1 ⟨rfl, hq1⟩
    replace BV := BV.below hq1
    replace BB := BB.below hq1
    replace BS := BS.below hq1
    replace r1 := r1.below hq1
    replace r2 := r2.below hq1
    replace hb := chain hb hq1
    (try go_wp2_with fail)
    refine hK.out _ _ ⟨BV.four.1, BV.four.2.1, BV.four.2.2.1, BV.four.2.2.2.1, BB.two.1, BB.two.2.1, BS.four.1, BS.four.2.1, BS.four.2.2.1, BS.four.2.2.2.1, BV, BB, BS, r1, r2, hb⟩ (fun hHeld => ?_)
    clear hK K
    try simp only [Act.put, List.setIfInBounds_toArray, List.set_cons_zero, List.set_cons_succ]
    refine wpAnyH_take (i := 3) (oi := { dst := some 10, op := _, type := _, pos := _, after := _, guard := _ }) (v := ?_) rfl (by kernel_rfl) (by kernel_rfl) (by kernel_rfl) (fun _ _ _ h => h) (Or.inl ⟨by rfl, ?_⟩) (by assumption) ?_
    rotate_left
    · intro w hSw
      (try dsimp only at hSw)
      go_simp
      (try (with_reducible rfl))
    try simp only [Act.put, List.setIfInBounds_toArray, List.set_cons_zero, List.set_cons_succ]
    refine wpAnyH_take (i := 4) (oi := { dst := some 11, op := _, type := _, pos := _, after := _, guard := _ }) (v := ?_) rfl (by kernel_rfl) (by kernel_rfl) (by kernel_rfl) (fun _ _ _ h => h) (Or.inl ⟨by rfl, ?_⟩) (by assumption) ?_
    rotate_left
    · intro w hSw
      (try dsimp only at hSw)
      go_simp
      (try (with_reducible rfl))
    try simp only [Act.put, List.setIfInBounds_toArray, List.set_cons_zero, List.set_cons_succ]
    refine wpAnyH_take (i := 5) (oi := { dst := some 12, op := _, type := _, pos := _, after := _, guard := _ }) (v := ?_) rfl (by kernel_rfl) (by kernel_rfl) (by kernel_rfl) (fun _ _ _ h => h) (Or.inl ⟨by rfl, ?_⟩) (by assumption) ?_
    rotate_left
    · intro w hSw
      (try dsimp only at hSw)
      go_simp
      (try (with_reducible rfl))
    try simp only [Act.put, List.setIfInBounds_toArray, List.set_cons_zero, List.set_cons_succ]
    refine wpAnyH_take (i := 6) (oi := { dst := some 13, op := _, type := _, pos := _, after := _, guard := _ }) (v := ?_) rfl (by kernel_rfl) (by kernel_rfl) (by kernel_rfl) (fun _ _ _ h => h) (Or.inl ⟨by rfl, ?_⟩) (by assumption) ?_
    rotate_left
    · intro w hSw
      (try dsimp only at hSw)
      go_simp
      (try (with_reducible rfl))
    try simp only [Act.put, List.setIfInBounds_toArray, List.set_cons_zero, List.set_cons_succ]
    refine wpAnyH_take (i := 8) (oi := { dst := some 15, op := _, type := _, pos := _, after := _, guard := _ }) (v := ?_) rfl (by kernel_rfl) (by kernel_rfl) (by kernel_rfl) (fun _ _ _ h => h) (Or.inl ⟨by rfl, ?_⟩) (by assumption) ?_
    rotate_left
    · intro w hSw
      (try dsimp only at hSw)
      go_simp
      (try (with_reducible rfl))
    try simp only [Act.put, List.setIfInBounds_toArray, List.set_cons_zero, List.set_cons_succ]
    refine wpAnyH_ready (rs := [7]) (by kernel_rfl) (by simp) ?_
    refine AllReadyH.cons (o := { dst := some 14, op := _, type := _, pos := _, after := _, guard := _ }) rfl (fun K hK => ?_) AllReadyH.nil
    go_simp
    -- call
    have BV := hHeld.2.2.2.2.2.2.2.2.2.2.1
    have BB := hHeld.2.2.2.2.2.2.2.2.2.2.2.1
    have BS := hHeld.2.2.2.2.2.2.2.2.2.2.2.2.1
    have r1 := hHeld.2.2.2.2.2.2.2.2.2.2.2.2.2.1
    have r2 := hHeld.2.2.2.2.2.2.2.2.2.2.2.2.2.2.1
    have hb := hHeld.2.2.2.2.2.2.2.2.2.2.2.2.2.2.2
    clear hHeld
    refine (countsOf_any (P : Int) c h s a1 a2 n1 c1 n2 c2 xs ys _ h1 h2 r1 r2).mono ?_
    rintro e wq2 ⟨B, rfl, q1, q2, hq2⟩
    replace BV := BV.below hq2
    replace BB := BB.below hq2
    replace BS := BS.below hq2
    replace r1 := r1.below hq2
    replace r2 := r2.below hq2
    replace hb := chain hb hq2
    (try go_wp2_with fail)
    refine hK.out _ _ ⟨BV.four.1, BV.four.2.1, BV.four.2.2.1, BV.four.2.2.2.1, BB.two.1, BB.two.2.1, BS.four.1, BS.four.2.1, BS.four.2.2.1, BS.four.2.2.2.1, BV, BB, BS, r1, r2, hb⟩ (fun hHeld => ?_)
    clear hK K
    try simp only [Act.put, List.setIfInBounds_toArray, List.set_cons_zero, List.set_cons_succ]
    refine wpAnyH_ready (rs := [9]) (by kernel_rfl) (by simp) ?_
    refine AllReadyH.cons (o := { dst := some 16, op := _, type := _, pos := _, after := _, guard := _ }) rfl (fun K hK => ?_) AllReadyH.nil
    go_simp
    -- call
    have BV := hHeld.2.2.2.2.2.2.2.2.2.2.1
    have BB := hHeld.2.2.2.2.2.2.2.2.2.2.2.1
    have BS := hHeld.2.2.2.2.2.2.2.2.2.2.2.2.1
    have r1 := hHeld.2.2.2.2.2.2.2.2.2.2.2.2.2.1
    have r2 := hHeld.2.2.2.2.2.2.2.2.2.2.2.2.2.2.1
    have hb := hHeld.2.2.2.2.2.2.2.2.2.2.2.2.2.2.2
    clear hHeld
    refine (HL.out _ _ _ _ q1 q2).mono ?_
    rintro e wq3 ⟨rfl, hq3⟩
    replace BV := BV.below hq3
    replace BB := BB.below hq3
    replace BS := BS.below hq3
    replace r1 := r1.below hq3
    replace r2 := r2.below hq3
    replace hb := chain hb hq3
    (try go_wp2_with fail)
    refine hK.out _ _ ⟨BV.four.1, BV.four.2.1, BV.four.2.2.1, BV.four.2.2.2.1, BB.two.1, BB.two.2.1, BS.four.1, BS.four.2.1, BS.four.2.2.1, BS.four.2.2.2.1, BV, BB, BS, r1, r2, hb⟩ (fun hHeld => ?_)
    clear hK K
    try simp only [Act.put, List.setIfInBounds_toArray, List.set_cons_zero, List.set_cons_succ]
    refine wpAnyH_take (i := 10) (oi := { dst := some 17, op := _, type := _, pos := _, after := _, guard := _ }) (v := ?_) rfl (by kernel_rfl) (by kernel_rfl) (by kernel_rfl) (fun _ _ _ h => h) (Or.inl ⟨by rfl, ?_⟩) (by assumption) ?_
    rotate_left
    · intro w hSw
      (try dsimp only at hSw)
      go_simp
      (try (with_reducible rfl))
    try simp only [Act.put, List.setIfInBounds_toArray, List.set_cons_zero, List.set_cons_succ]
    refine wpAnyH_take (i := 11) (oi := { dst := some 6, op := _, type := _, pos := _, after := _, guard := _ }) (v := ?_) rfl (by kernel_rfl) (by kernel_rfl) (by kernel_rfl) (fun _ _ _ h => h) (Or.inl ⟨by rfl, ?_⟩) (by assumption) ?_
    rotate_left
    · intro w hSw
      (try dsimp only at hSw)
      go_simp
      (try (with_reducible rfl))
    try simp only [Act.put, List.setIfInBounds_toArray, List.set_cons_zero, List.set_cons_succ]
    refine wpAnyH_done (by kernel_rfl) ?_ _
    have BV := hHeld.2.2.2.2.2.2.2.2.2.2.1
    have BB := hHeld.2.2.2.2.2.2.2.2.2.2.2.1
    have BS := hHeld.2.2.2.2.2.2.2.2.2.2.2.2.1
    have r1 := hHeld.2.2.2.2.2.2.2.2.2.2.2.2.2.1
    have r2 := hHeld.2.2.2.2.2.2.2.2.2.2.2.2.2.2.1
    have hb := hHeld.2.2.2.2.2.2.2.2.2.2.2.2.2.2.2
    clear hHeld
    go_wp2
    go_ret
    exact ⟨rfl, hb⟩
  · replace g : isB p c h s xs ys = false := by simpa using g
    rw [g, Bool.false_and]
    obtain ⟨ta, tb, td, tq⟩ := t
    have hB := fun W (q1 : IRow W a1 xs) (q2 : IRow W a2 ys) => isBoard_any p c h s a1 a2 n1 n2 c1 c2 xs ys W h1 h2 l1 l2 q1 q2
    simp only [g] at hB
    have HB := Lib.hid hB
    clear hB
    obtain ⟨BV, BB, BS, hb, hz⟩ := three_new w #[.int .i64 p, .int .i64 c, .int .i64 h, .int .i64 s] #[.slice a1 n1 c1, .slice a2 n2 c2] #[.int .i64 ta, .int .i64 tb, .int .i64 td, .bool tq] 25 28 30
    obtain ⟨x0, x1, x2, x3, xf, xl⟩ := BV.four
    obtain ⟨y0, y1, yf, yl⟩ := BB.two
    obtain ⟨s0, s1, s2, s3, sf, sl⟩ := BS.four
    go_enter Try.func18, Try.ntmps18
    go_wp2_with fail
    clear x0 x1 x2 x3 xf xl y0 y1 yf yl s0 s1 s2 s3 sf sl hz
    replace r1 := r1.below hb
    replace r2 := r2.below hb
    generalize (((w.alloc (.cells #[.int .i64 p, .int .i64 c, .int .i64 h, .int .i64 s] 25)).alloc (.cells #[.slice a1 n1 c1, .slice a2 n2 c2] 28)).alloc (.cells #[.int .i64 ta, .int .i64 tb, .int .i64 td, .bool tq] 30)) = v0 at *
    replace BV := BV.drew
    replace BB := BB.drew
    replace BS := BS.drew
    replace r1 := r1.drew
    replace r2 := r2.drew
    replace hb := hb.drew
    refine wp_region_held_drew (S := fun w' => w'.cell? ⟨w.heap.size, 0, none⟩ = some (.int .i64 p) ∧ w'.cell? ⟨w.heap.size, 1, none⟩ = some (.int .i64 c) ∧ w'.cell? ⟨w.heap.size, 2, none⟩ = some (.int .i64 h) ∧ w'.cell? ⟨w.heap.size, 3, none⟩ = some (.int .i64 s) ∧ w'.cell? ⟨(w.heap.size + 1), 0, none⟩ = some (.slice a1 n1 c1) ∧ w'.cell? ⟨(w.heap.size + 1), 1, none⟩ = some (.slice a2 n2 c2) ∧ w'.cell? ⟨(w.heap.size + 1 + 1), 0, none⟩ = some (.int .i64 ta) ∧ w'.cell? ⟨(w.heap.size + 1 + 1), 1, none⟩ = some (.int .i64 tb) ∧ w'.cell? ⟨(w.heap.size + 1 + 1), 2, none⟩ = some (.int .i64 td) ∧ w'.cell? ⟨(w.heap.size + 1 + 1), 3, none⟩ = some (.bool tq) ∧ Blk w' w.heap.size #[.int .i64 p, .int .i64 c, .int .i64 h, .int .i64 s] 25 ∧ Blk w' ((w.heap.size + 1)) #[.slice a1 n1 c1, .slice a2 n2 c2] 28 ∧ Blk w' ((w.heap.size + 1 + 1)) #[.int .i64 ta, .int .i64 tb, .int .i64 td, .bool tq] 30 ∧ (IRow w' a1 xs) ∧ (IRow w' a2 ys) ∧ Below w.heap.size w w') (by kernel_rfl) ⟨BV.four.1, BV.four.2.1, BV.four.2.2.1, BV.four.2.2.2.1, BB.two.1, BB.two.2.1, BS.four.1, BS.four.2.1, BS.four.2.2.1, BS.four.2.2.2.1, BV, BB, BS, r1, r2, hb⟩ (fun hHeld => ?_)
    refine wpAnyH_take (i := 0) (oi := { dst := some 7, op := _, type := _, pos := _, after := _, guard := _ }) (v := ?_) rfl (by kernel_rfl) (by kernel_rfl) (by kernel_rfl) (fun _ _ _ h => h) (Or.inl ⟨by rfl, ?_⟩) (by assumption) ?_
    rotate_left
    · intro w hSw
      (try dsimp only at hSw)
      go_simp
      (try (with_reducible rfl))
    try simp only [Act.put, List.setIfInBounds_toArray, List.set_cons_zero, List.set_cons_succ]
    refine wpAnyH_take (i := 1) (oi := { dst := some 8, op := _, type := _, pos := _, after := _, guard := _ }) (v := ?_) rfl (by kernel_rfl) (by kernel_rfl) (by kernel_rfl) (fun _ _ _ h => h) (Or.inl ⟨by rfl, ?_⟩) (by assumption) ?_
    rotate_left
    · intro w hSw
      (try dsimp only at hSw)
      go_simp
      (try (with_reducible rfl))
    try simp only [Act.put, List.setIfInBounds_toArray, List.set_cons_zero, List.set_cons_succ]
    refine wpAnyH_ready (rs := [2]) (by kernel_rfl) (by simp) ?_
    refine AllReadyH.cons (o := { dst := some 9, op := _, type := _, pos := _, after := _, guard := _ }) rfl (fun K hK => ?_) AllReadyH.nil
    go_simp
    -- call
    have BV := hHeld.2.2.2.2.2.2.2.2.2.2.1
    have BB := hHeld.2.2.2.2.2.2.2.2.2.2.2.1
    have BS := hHeld.2.2.2.2.2.2.2.2.2.2.2.2.1
    have r1 := hHeld.2.2.2.2.2.2.2.2.2.2.2.2.2.1
    have r2 := hHeld.2.2.2.2.2.2.2.2.2.2.2.2.2.2.1
    have hb := hHeld.2.2.2.2.2.2.2.2.2.2.2.2.2.2.2
    clear hHeld
    refine (HB.out _ r1 r2).mono ?_
    rintro e wq1 ⟨rfl, hq1⟩
    replace BV := BV.below hq1
    replace BB := BB.below hq1
    replace BS := BS.below hq1
    replace r1 := r1.below hq1
    replace r2 := r2.below hq1
    replace hb := chain hb hq1
    (try go_wp2_with fail)
    refine hK.out _ _ ⟨BV.four.1, BV.four.2.1, BV.four.2.2.1, BV.four.2.2.2.1, BB.two.1, BB.two.2.1, BS.four.1, BS.four.2.1, BS.four.2.2.1, BS.four.2.2.2.1, BV, BB, BS, r1, r2, hb⟩ (fun hHeld => ?_)
    clear hK K
    try simp only [Act.put, List.setIfInBounds_toArray, List.set_cons_zero, List.set_cons_succ]
    refine wpAnyH_take (i := 3) (oi := { dst := some 10, op := _, type := _, pos := _, after := _, guard := _ }) (v := ?_) rfl (by kernel_rfl) (by kernel_rfl) (by kernel_rfl) (fun _ _ _ h => h) (Or.inl ⟨by rfl, ?_⟩) (by assumption) ?_
    rotate_left
    · intro w hSw
      (try dsimp only at hSw)
      go_simp
      (try (with_reducible rfl))
    try simp only [Act.put, List.setIfInBounds_toArray, List.set_cons_zero, List.set_cons_succ]
    refine wpAnyH_take (i := 4) (oi := { dst := some 11, op := _, type := _, pos := _, after := _, guard := _ }) (v := undef) rfl (by kernel_rfl) (by kernel_rfl) (by kernel_rfl) (fun _ _ _ h => h) (Or.inr ⟨by rfl, rfl⟩) (by assumption) ?_
    try simp only [Act.put, List.setIfInBounds_toArray, List.set_cons_zero, List.set_cons_succ]
    refine wpAnyH_take (i := 5) (oi := { dst := some 12, op := _, type := _, pos := _, after := _, guard := _ }) (v := undef) rfl (by kernel_rfl) (by kernel_rfl) (by kernel_rfl) (fun _ _ _ h => h) (Or.inr ⟨by rfl, rfl⟩) (by assumption) ?_
    try simp only [Act.put, List.setIfInBounds_toArray, List.set_cons_zero, List.set_cons_succ]
    refine wpAnyH_take (i := 6) (oi := { dst := some 13, op := _, type := _, pos := _, after := _, guard := _ }) (v := undef) rfl (by kernel_rfl) (by kernel_rfl) (by kernel_rfl) (fun _ _ _ h => h) (Or.inr ⟨by rfl, rfl⟩) (by assumption) ?_
    try simp only [Act.put, List.setIfInBounds_toArray, List.set_cons_zero, List.set_cons_succ]
    refine wpAnyH_take (i := 7) (oi := { dst := some 14, op := _, type := _, pos := _, after := _, guard := _ }) (v := undef) rfl (by kernel_rfl) (by kernel_rfl) (by kernel_rfl) (fun _ _ _ h => h) (Or.inr ⟨by rfl, rfl⟩) (by assumption) ?_
    try simp only [Act.put, List.setIfInBounds_toArray, List.set_cons_zero, List.set_cons_succ]
    refine wpAnyH_take (i := 8) (oi := { dst := some 15, op := _, type := _, pos := _, after := _, guard := _ }) (v := undef) rfl (by kernel_rfl) (by kernel_rfl) (by kernel_rfl) (fun _ _ _ h => h) (Or.inr ⟨by rfl, rfl⟩) (by assumption) ?_
    try simp only [Act.put, List.setIfInBounds_toArray, List.set_cons_zero, List.set_cons_succ]
    refine wpAnyH_take (i := 9) (oi := { dst := some 16, op := _, type := _, pos := _, after := _, guard := _ }) (v := undef) rfl (by kernel_rfl) (by kernel_rfl) (by kernel_rfl) (fun _ _ _ h => h) (Or.inr ⟨by rfl, rfl⟩) (by assumption) ?_
    try simp only [Act.put, List.setIfInBounds_toArray, List.set_cons_zero, List.set_cons_succ]
    refine wpAnyH_take (i := 10) (oi := { dst := some 17, op := _, type := _, pos := _, after := _, guard := _ }) (v := ?_) rfl (by kernel_rfl) (by kernel_rfl) (by kernel_rfl) (fun _ _ _ h => h) (Or.inl ⟨by rfl, ?_⟩) (by assumption) ?_
    rotate_left
    · intro w hSw
      (try dsimp only at hSw)
      go_simp
      (try (with_reducible rfl))
    try simp only [Act.put, List.setIfInBounds_toArray, List.set_cons_zero, List.set_cons_succ]
    refine wpAnyH_take (i := 11) (oi := { dst := some 6, op := _, type := _, pos := _, after := _, guard := _ }) (v := ?_) rfl (by kernel_rfl) (by kernel_rfl) (by kernel_rfl) (fun _ _ _ h => h) (Or.inl ⟨by rfl, ?_⟩) (by assumption) ?_
    rotate_left
    · intro w hSw
      (try dsimp only at hSw)
      go_simp
      (try (with_reducible rfl))
    try simp only [Act.put, List.setIfInBounds_toArray, List.set_cons_zero, List.set_cons_succ]
    refine wpAnyH_done (by kernel_rfl) ?_ _
    have BV := hHeld.2.2.2.2.2.2.2.2.2.2.1
    have BB := hHeld.2.2.2.2.2.2.2.2.2.2.2.1
    have BS := hHeld.2.2.2.2.2.2.2.2.2.2.2.2.1
    have r1 := hHeld.2.2.2.2.2.2.2.2.2.2.2.2.2.1
    have r2 := hHeld.2.2.2.2.2.2.2.2.2.2.2.2.2.2.1
    have hb := hHeld.2.2.2.2.2.2.2.2.2.2.2.2.2.2.2
    clear hHeld
    go_wp2
    go_ret
    exact ⟨rfl, hb⟩
set_option maxRecDepth 8000 in
set_option maxHeartbeats 4000000 in
theorem specIsLegalStep_any (t : Stp) (p c h s : Int) (a1 a2 : Option Addr) (n1 n2 c1 c2 : Nat) (xs ys : List Int) (w : World) (h1 : xs.length = n1) (h2 : ys.length = n2) (l1 : n1 ≤ 1048576) (l2 : n2 ≤ 1048576) (r1 : IRow w a1 xs) (r2 : IRow w a2 ys) :
    Calls Try.prog 45 #[.agg #[.int .i64 p, .int .i64 c, .int .i64 h, .int .i64 s], .agg #[.slice a1 n1 c1, .slice a2 n2 c2], stV t] w fun e w' => e = .returned (.bool (lgB p c h s xs ys t)) ∧ Below w.heap.size w w' := by
  unfold lgB
  by_cases g : isB p c h s xs ys = true
  · rw [g, Bool.true_and]
    obtain ⟨p0, p1, k0, k1, k2, k3, N1, N2, hx, hy, s0, s1, s2, s3⟩ := isB_parts g
    obtain ⟨P, rfl⟩ := Int.eq_ofNat_of_zero_le (by omega : 0 ≤ p)
    rw [show (P : Int).toNat = P by simp]
    have hs6 := isB_sides g
    have hB := fun W (q1 : IRow W a1 xs) (q2 : IRow W a2 ys) => specIsBoard_any (P : Int) c h s a1 a2 n1 n2 c1 c2 xs ys W h1 h2 l1 l2 q1 q2
    simp only [g] at hB
    have HB := Lib.hid hB
    clear hB
    have hl0 := fun W (hW : Below w.heap.size w W) => l04IsLegal_any P c h s a1 a2 n1 n2 c1 c2 xs ys W h1 h2 (by omega) (by omega) (by omega) (by omega) (by omega) (by omega) hx hy (r1.below hW) (r2.below hW) (by omega) t
    obtain ⟨Q, hQ⟩ : ∃ Q, legB P h s xs ys t = Q := ⟨_, rfl⟩
    rw [hQ] at hl0 ⊢
    obtain ⟨ta, tb, td, tq⟩ := t
    have HL := Lib.hid hl0
    clear hl0 hQ
    obtain ⟨BV, BB, BS, hb, hz⟩ := three_new w #[.int .i64 (P : Int), .int .i64 c, .int .i64 h, .int .i64 s] #[.slice a1 n1 c1, .slice a2 n2 c2] #[.int .i64 ta, .int .i64 tb, .int .i64 td, .bool tq] 25 28 30
    obtain ⟨x0, x1, x2, x3, xf, xl⟩ := BV.four
    obtain ⟨y0, y1, yf, yl⟩ := BB.two
    obtain ⟨s0, s1, s2, s3, sf, sl⟩ := BS.four
    go_enter Try.func45, Try.ntmps45
    go_wp2_with (first | (go_at_call 21; refine (HB.out _ (r1.below hb) (r2.below hb)).mono ?_; rintro e w1 ⟨rfl, hb1⟩; obtain ⟨x0, x1, x2, x3, xf, xl⟩ := (BV.below hb1).four; obtain ⟨y0, y1, yf, yl⟩ := (BB.below hb1).two; obtain ⟨s0, s1, s2, s3, sf, sl⟩ := (BS.below hb1).four) | (go_at_call 61; refine (HL.out _ (chain hb hb1)).mono ?_; rintro e w2 ⟨rfl, hb2⟩))
    go_ret
    exact ⟨rfl, chain (chain hb hb1) hb2⟩
  · replace g : isB p c h s xs ys = false := by simpa using g
    rw [g, Bool.false_and]
    obtain ⟨ta, tb, td, tq⟩ := t
    have hB := fun W (q1 : IRow W a1 xs) (q2 : IRow W a2 ys) => specIsBoard_any p c h s a1 a2 n1 n2 c1 c2 xs ys W h1 h2 l1 l2 q1 q2
    simp only [g] at hB
    have HB := Lib.hid hB
    clear hB
    obtain ⟨BV, BB, BS, hb, hz⟩ := three_new w #[.int .i64 p, .int .i64 c, .int .i64 h, .int .i64 s] #[.slice a1 n1 c1, .slice a2 n2 c2] #[.int .i64 ta, .int .i64 tb, .int .i64 td, .bool tq] 25 28 30
    obtain ⟨x0, x1, x2, x3, xf, xl⟩ := BV.four
    obtain ⟨y0, y1, yf, yl⟩ := BB.two
    obtain ⟨s0, s1, s2, s3, sf, sl⟩ := BS.four
    go_enter Try.func45, Try.ntmps45
    go_wp2_with (go_at_call 21; refine (HB.out _ (r1.below hb) (r2.below hb)).mono ?_; rintro e w1 ⟨rfl, hb1⟩; obtain ⟨x0, x1, x2, x3, xf, xl⟩ := (BV.below hb1).four; obtain ⟨y0, y1, yf, yl⟩ := (BB.below hb1).two; obtain ⟨s0, s1, s2, s3, sf, sl⟩ := (BS.below hb1).four)
    go_ret
    exact ⟨rfl, chain hb hb1⟩
end Go.Proofs.Ytjglempkmenacaa
