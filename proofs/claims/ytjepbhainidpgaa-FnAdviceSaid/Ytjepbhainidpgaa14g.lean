/- Contracts of the program's functions on races. -/
import Derived.Test.Ytjepbhainidpgaa14c2
namespace Go.Proofs.Ytjepbhainidpgaa
open Go.ChangeShapes Go.WideShapes Go.ChangeAt Go.RowKit
set_option linter.unusedVariables false
set_option linter.unusedSimpArgs false
set_option maxRecDepth 4000

theorem two_below {w : World} {a b : Array Value} {t1 t2 : TypeId} : Below w.heap.size w ((w.alloc (.cells a t1)).alloc (.cells b t2)) := ((Below.refl _ _).alloc (Nat.le_refl _) _).alloc (by simp) _
theorem racersOf_not (p c h s : Int) (a1 a2 : Option Addr) (n1 n2 c1 c2 : Nat) (xs ys : List Int) (w : World) (h1 : xs.length = n1) (h2 : ys.length = n2) (l1 : n1 ≤ 1048576) (l2 : n2 ≤ 1048576) (r1 : IRow w a1 xs) (r2 : IRow w a2 ys) (g : raceB p c h s xs ys = false) :
    Calls Try.prog 38 #[.agg #[.int .i64 p, .int .i64 c, .int .i64 h, .int .i64 s], .agg #[.slice a1 n1 c1, .slice a2 n2 c2]] w fun e w' => e = .returned (.tuple #[.agg #[.int .i64 0, .int .i64 0, .int .i64 0, .int .i64 0, .int .i64 0, .nilFunc, .nilFunc, .nilFunc], .agg #[.int .i64 0, .int .i64 0, .int .i64 0, .int .i64 0, .int .i64 0, .nilFunc, .nilFunc, .nilFunc], .int .i64 (rcC p c h s xs ys)]) ∧ Below w.heap.size w w' := by
  by_cases gi : isB p c h s xs ys = true
  · have gr : (overB xs ys || contB p xs ys) = true := by
      by_cases q : (overB xs ys || contB p xs ys) = true
      · exact q
      · exfalso
        simp only [raceB, gi, Bool.true_and] at g
        simp only [Bool.not_eq_true] at q
        rw [q] at g
        exact absurd g (by decide)
    have e0 : rcC p c h s xs ys = 5 := by unfold rcC; rw [if_pos gi, if_pos gr]
    rw [e0]
    exact racersOf_no p c h s a1 a2 n1 n2 c1 c2 xs ys w h1 h2 l1 l2 r1 r2 gi gr
  · have e0 : rcC p c h s xs ys = 1 := by unfold rcC; rw [if_neg gi]
    rw [e0]
    exact racersOf_bad p c h s a1 a2 n1 n2 c1 c2 xs ys w h1 h2 l1 l2 r1 r2 (by simpa using gi)
set_option maxRecDepth 8000 in
set_option maxHeartbeats 2000000 in
theorem pipLead_any (p c h s : Int) (a1 a2 : Option Addr) (n1 n2 c1 c2 : Nat) (xs ys : List Int) (w : World) (h1 : xs.length = n1) (h2 : ys.length = n2) (l1 : n1 ≤ 1048576) (l2 : n2 ≤ 1048576) (r1 : IRow w a1 xs) (r2 : IRow w a2 ys) :
    Calls Try.prog 16 #[.agg #[.int .i64 p, .int .i64 c, .int .i64 h, .int .i64 s], .agg #[.slice a1 n1 c1, .slice a2 n2 c2]] w fun e w' => e = .returned (.tuple #[.int .i64 (if raceB p c h s xs ys = true then pipsL ys ys.length - pipsL xs xs.length else 0), .int .i64 (rcC p c h s xs ys)]) ∧ Below w.heap.size w w' := by
  obtain ⟨BV, BB, hb, hz⟩ := two_new w #[.int .i64 p, .int .i64 c, .int .i64 h, .int .i64 s] #[.slice a1 n1 c1, .slice a2 n2 c2] 26 34
  have hz1 : w.heap.size + 1 < ((w.alloc (.cells #[.int .i64 p, .int .i64 c, .int .i64 h, .int .i64 s] 26)).alloc (.cells #[.slice a1 n1 c1, .slice a2 n2 c2] 34)).heap.size := by rw [hz]; omega
  clear hz
  obtain ⟨x0, x1, x2, x3, xf, xl⟩ := BV.four
  obtain ⟨y0, y1, yf, yl⟩ := BB.two
  by_cases g : raceB p c h s xs ys = true
  rotate_left
  · rw [if_neg g]
    replace g : raceB p c h s xs ys = false := by simpa using g
    have hk := rcC_not g
    have hr := fun W (q1 : IRow W a1 xs) (q2 : IRow W a2 ys) => racersOf_not p c h s a1 a2 n1 n2 c1 c2 xs ys W h1 h2 l1 l2 q1 q2 g
    obtain ⟨K, hK⟩ : ∃ K, rcC p c h s xs ys = K := ⟨_, rfl⟩
    rw [hK] at hk hr ⊢
    have ne : (K != 0) = true := by rw [bne_iff_ne]; omega
    have HR := Lib.hid hr
    clear hK hk g hr
    go_enter Try.func16, Try.ntmps16
    go_wp2_with (go_at_call 38; refine (HR.out _ (r1.below hb) (r2.below hb)).mono ?_; rintro e w1 ⟨rfl, hb1⟩)
    go_ret2
    exact ⟨rfl, ((chain hb hb1).alloc (chain hb hb1).size _).alloc (Nat.le_trans (chain hb hb1).size (by simp)) _⟩
  · rw [if_pos g, rcC_race g]
    have gb := (raceB_parts g).1
    obtain ⟨p0, p1, k0, k1, k2, k3, N1, N2, hx, hy, s0, s1, s2, s3⟩ := isB_parts gb
    have b1 := pipsL_bound xs hx xs.length (Nat.le_refl _) (by omega)
    have b2 := pipsL_bound ys hy ys.length (Nat.le_refl _) (by omega)
    have bl1 : xs.length ≤ 25 := by omega
    have bl2 : ys.length ≤ 25 := by omega
    have hd1 := fun B W (q : Pays 79 B xs W) => rx_distance_any p c h s 79 80 B 79 B xs W (by omega) p1 N1 hx q
    have hd2 := fun B W (q : Pays 80 B ys W) => rx_distance_any p c h s 79 80 B 80 B ys W (by omega) p1 N2 hy q
    obtain ⟨X, hX⟩ : ∃ X, pipsL xs xs.length = X := ⟨_, rfl⟩
    obtain ⟨Y, hY⟩ : ∃ Y, pipsL ys ys.length = Y := ⟨_, rfl⟩
    rw [hX] at hd1 b1 ⊢
    rw [hY] at hd2 b2 ⊢
    have wz : IntKind.i64.wrap (Y - X) = Y - X := IntWalk.i64_in _ (by omega)
    have HD1 := Lib.hid hd1
    have HD2 := Lib.hid hd2
    have hr := fun W (q1 : IRow W a1 xs) (q2 : IRow W a2 ys) => racersOf_any p c h s a1 a2 n1 n2 c1 c2 xs ys W h1 h2 l1 l2 q1 q2 g
    have HR := Lib.hid hr
    clear hr
    clear hd1 hd2 hX hY b1 b2 bl1 bl2 hx hy N1 N2 g gb
    go_enter Try.func16, Try.ntmps16
    go_wp2_with (go_at_call 38; refine (HR.out _ (r1.below hb) (r2.below hb)).mono ?_; rintro e w1 ⟨B, rfl, q1, q2, hb1⟩)
    obtain ⟨BR1, BR2, hbn, hzn⟩ := two_new w1 #[.int .i64 p, .int .i64 c, .int .i64 h, .int .i64 s, .int .i64 p, fv 79 B, fv 80 B, fv 79 B] #[.int .i64 p, .int .i64 c, .int .i64 h, .int .i64 s, .int .i64 p, fv 79 B, fv 80 B, fv 80 B] 61 61
    clear hzn
    replace q1 := q1.below hbn
    replace q2 := q2.below hbn
    replace hb := chain (chain hb hb1) hbn
    clear hb1 hbn BV BB x0 x1 x2 x3 xf xl y0 y1 yf yl
    generalize ((w1.alloc (.cells #[.int .i64 p, .int .i64 c, .int .i64 h, .int .i64 s, .int .i64 p, fv 79 B, fv 80 B, fv 79 B] 61)).alloc (.cells #[.int .i64 p, .int .i64 c, .int .i64 h, .int .i64 s, .int .i64 p, fv 79 B, fv 80 B, fv 80 B] 61)) = v1 at *
    have hd_ : v1.drew.heap.size = v1.heap.size := rfl
    replace BR1 := BR1.drew
    replace BR2 := BR2.drew
    replace q1 := q1.drew
    replace q2 := q2.drew
    replace hb := hb.drew
    refine wp_region_held_drew (S := fun w' => w'.cell? ⟨w1.heap.size, 0, none⟩ = some (.int .i64 p) ∧ w'.cell? ⟨w1.heap.size, 1, none⟩ = some (.int .i64 c) ∧ w'.cell? ⟨w1.heap.size, 2, none⟩ = some (.int .i64 h) ∧ w'.cell? ⟨w1.heap.size, 3, none⟩ = some (.int .i64 s) ∧ w'.cell? ⟨w1.heap.size, 4, none⟩ = some (.int .i64 p) ∧ w'.cell? ⟨w1.heap.size, 5, none⟩ = some (fv 79 B) ∧ w'.cell? ⟨w1.heap.size, 6, none⟩ = some (fv 80 B) ∧ w'.cell? ⟨w1.heap.size, 7, none⟩ = some (fv 79 B) ∧ w'.cell? ⟨(w1.heap.size + 1), 0, none⟩ = some (.int .i64 p) ∧ w'.cell? ⟨(w1.heap.size + 1), 1, none⟩ = some (.int .i64 c) ∧ w'.cell? ⟨(w1.heap.size + 1), 2, none⟩ = some (.int .i64 h) ∧ w'.cell? ⟨(w1.heap.size + 1), 3, none⟩ = some (.int .i64 s) ∧ w'.cell? ⟨(w1.heap.size + 1), 4, none⟩ = some (.int .i64 p) ∧ w'.cell? ⟨(w1.heap.size + 1), 5, none⟩ = some (fv 79 B) ∧ w'.cell? ⟨(w1.heap.size + 1), 6, none⟩ = some (fv 80 B) ∧ w'.cell? ⟨(w1.heap.size + 1), 7, none⟩ = some (fv 80 B)) (by kernel_rfl) ⟨BR1.eight.1, BR1.eight.2.1, BR1.eight.2.2.1, BR1.eight.2.2.2.1, BR1.eight.2.2.2.2.1, BR1.eight.2.2.2.2.2.1, BR1.eight.2.2.2.2.2.2.1, BR1.eight.2.2.2.2.2.2.2.1, BR2.eight.1, BR2.eight.2.1, BR2.eight.2.2.1, BR2.eight.2.2.2.1, BR2.eight.2.2.2.2.1, BR2.eight.2.2.2.2.2.1, BR2.eight.2.2.2.2.2.2.1, BR2.eight.2.2.2.2.2.2.2.1⟩ (fun hHeld => ?_)
    clear hHeld
    generalize v1.drew = vd at *
    have hHeld : vd.cell? ⟨w1.heap.size, 0, none⟩ = some (.int .i64 p) ∧ vd.cell? ⟨w1.heap.size, 1, none⟩ = some (.int .i64 c) ∧ vd.cell? ⟨w1.heap.size, 2, none⟩ = some (.int .i64 h) ∧ vd.cell? ⟨w1.heap.size, 3, none⟩ = some (.int .i64 s) ∧ vd.cell? ⟨w1.heap.size, 4, none⟩ = some (.int .i64 p) ∧ vd.cell? ⟨w1.heap.size, 5, none⟩ = some (fv 79 B) ∧ vd.cell? ⟨w1.heap.size, 6, none⟩ = some (fv 80 B) ∧ vd.cell? ⟨w1.heap.size, 7, none⟩ = some (fv 79 B) ∧ vd.cell? ⟨(w1.heap.size + 1), 0, none⟩ = some (.int .i64 p) ∧ vd.cell? ⟨(w1.heap.size + 1), 1, none⟩ = some (.int .i64 c) ∧ vd.cell? ⟨(w1.heap.size + 1), 2, none⟩ = some (.int .i64 h) ∧ vd.cell? ⟨(w1.heap.size + 1), 3, none⟩ = some (.int .i64 s) ∧ vd.cell? ⟨(w1.heap.size + 1), 4, none⟩ = some (.int .i64 p) ∧ vd.cell? ⟨(w1.heap.size + 1), 5, none⟩ = some (fv 79 B) ∧ vd.cell? ⟨(w1.heap.size + 1), 6, none⟩ = some (fv 80 B) ∧ vd.cell? ⟨(w1.heap.size + 1), 7, none⟩ = some (fv 80 B) := ⟨BR1.eight.1, BR1.eight.2.1, BR1.eight.2.2.1, BR1.eight.2.2.2.1, BR1.eight.2.2.2.2.1, BR1.eight.2.2.2.2.2.1, BR1.eight.2.2.2.2.2.2.1, BR1.eight.2.2.2.2.2.2.2.1, BR2.eight.1, BR2.eight.2.1, BR2.eight.2.2.1, BR2.eight.2.2.2.1, BR2.eight.2.2.2.2.1, BR2.eight.2.2.2.2.2.1, BR2.eight.2.2.2.2.2.2.1, BR2.eight.2.2.2.2.2.2.2.1⟩
    refine wpAnyH_take (i := 0) (oi := { dst := some 19, op := _, type := _, pos := _, after := _, guard := _ }) (v := ?_) rfl (by kernel_rfl) (by kernel_rfl) (by kernel_rfl) (fun _ _ _ h => h) (Or.inl ⟨by rfl, ?_⟩) (by assumption) ?_
    rotate_left
    · intro w hSw
      (try dsimp only at hSw)
      go_simp
      (try (with_reducible rfl))
    try simp only [Act.put, List.setIfInBounds_toArray, List.set_cons_zero, List.set_cons_succ]
    refine wpAnyH_take (i := 2) (oi := { dst := some 21, op := _, type := _, pos := _, after := _, guard := _ }) (v := ?_) rfl (by kernel_rfl) (by kernel_rfl) (by kernel_rfl) (fun _ _ _ h => h) (Or.inl ⟨by rfl, ?_⟩) (by assumption) ?_
    rotate_left
    · intro w hSw
      (try dsimp only at hSw)
      go_simp
      (try (with_reducible rfl))
    try simp only [Act.put, List.setIfInBounds_toArray, List.set_cons_zero, List.set_cons_succ]
    refine wpAnyH_ready (rs := [1]) (by kernel_rfl) (by simp) ?_
    refine AllReadyH.cons (o := { dst := some 20, op := _, type := _, pos := _, after := _, guard := _ }) rfl (fun K hK => ?_) AllReadyH.nil
    go_simp
    refine (HD2.out _ _ q2).mono ?_
    rintro e w2 ⟨rfl, hb2⟩
    replace BR1 := BR1.below hb2
    replace BR2 := BR2.below hb2
    replace q1 := q1.below hb2
    replace q2 := q2.below hb2
    replace hb := chain hb hb2
    (try go_wp2_with fail)
    refine hK.out _ _ ⟨BR1.eight.1, BR1.eight.2.1, BR1.eight.2.2.1, BR1.eight.2.2.2.1, BR1.eight.2.2.2.2.1, BR1.eight.2.2.2.2.2.1, BR1.eight.2.2.2.2.2.2.1, BR1.eight.2.2.2.2.2.2.2.1, BR2.eight.1, BR2.eight.2.1, BR2.eight.2.2.1, BR2.eight.2.2.2.1, BR2.eight.2.2.2.2.1, BR2.eight.2.2.2.2.2.1, BR2.eight.2.2.2.2.2.2.1, BR2.eight.2.2.2.2.2.2.2.1⟩ (fun hHeld => ?_)
    clear hK K
    try simp only [Act.put, List.setIfInBounds_toArray, List.set_cons_zero, List.set_cons_succ]
    refine wpAnyH_ready (rs := [3]) (by kernel_rfl) (by simp) ?_
    refine AllReadyH.cons (o := { dst := some 22, op := _, type := _, pos := _, after := _, guard := _ }) rfl (fun K hK => ?_) AllReadyH.nil
    go_simp
    refine (HD1.out _ _ q1).mono ?_
    rintro e w2 ⟨rfl, hb2⟩
    replace BR1 := BR1.below hb2
    replace BR2 := BR2.below hb2
    replace q1 := q1.below hb2
    replace q2 := q2.below hb2
    replace hb := chain hb hb2
    (try go_wp2_with fail)
    refine hK.out _ _ ⟨BR1.eight.1, BR1.eight.2.1, BR1.eight.2.2.1, BR1.eight.2.2.2.1, BR1.eight.2.2.2.2.1, BR1.eight.2.2.2.2.2.1, BR1.eight.2.2.2.2.2.2.1, BR1.eight.2.2.2.2.2.2.2.1, BR2.eight.1, BR2.eight.2.1, BR2.eight.2.2.1, BR2.eight.2.2.2.1, BR2.eight.2.2.2.2.1, BR2.eight.2.2.2.2.2.1, BR2.eight.2.2.2.2.2.2.1, BR2.eight.2.2.2.2.2.2.2.1⟩ (fun hHeld => ?_)
    clear hK K
    try simp only [Act.put, List.setIfInBounds_toArray, List.set_cons_zero, List.set_cons_succ]
    refine wpAnyH_take (i := 4) (oi := { dst := some 23, op := _, type := _, pos := _, after := _, guard := _ }) (v := ?_) rfl (by kernel_rfl) (by kernel_rfl) (by kernel_rfl) (fun _ _ _ h => h) (Or.inl ⟨by rfl, ?_⟩) (by assumption) ?_
    rotate_left
    · intro w hSw
      (try dsimp only at hSw)
      go_simp
      (try (with_reducible rfl))
    try simp only [Act.put, List.setIfInBounds_toArray, List.set_cons_zero, List.set_cons_succ]
    refine wpAnyH_take (i := 5) (oi := { dst := some 4, op := _, type := _, pos := _, after := _, guard := _ }) (v := ?_) rfl (by kernel_rfl) (by kernel_rfl) (by kernel_rfl) (fun _ _ _ h => h) (Or.inl ⟨by rfl, ?_⟩) (by assumption) ?_
    rotate_left
    · intro w hSw
      (try dsimp only at hSw)
      go_simp
      (try (with_reducible rfl))
    try simp only [Act.put, List.setIfInBounds_toArray, List.set_cons_zero, List.set_cons_succ]
    refine wpAnyH_take (i := 6) (oi := { dst := some 5, op := _, type := _, pos := _, after := _, guard := _ }) (v := ?_) rfl (by kernel_rfl) (by kernel_rfl) (by kernel_rfl) (fun _ _ _ h => h) (Or.inl ⟨by rfl, ?_⟩) (by assumption) ?_
    rotate_left
    · intro w hSw
      (try dsimp only at hSw)
      go_simp
      (try (with_reducible rfl))
    try simp only [Act.put, List.setIfInBounds_toArray, List.set_cons_zero, List.set_cons_succ]
    refine wpAnyH_done (by kernel_rfl) ?_ _
    clear hHeld
    go_wp2
    go_ret2
    exact ⟨rfl, hb⟩
set_option maxRecDepth 8000 in
set_option maxHeartbeats 2000000 in
theorem crossovers_any (p c h s : Int) (a1 a2 : Option Addr) (n1 n2 c1 c2 : Nat) (xs ys : List Int) (w : World) (h1 : xs.length = n1) (h2 : ys.length = n2) (l1 : n1 ≤ 1048576) (l2 : n2 ≤ 1048576) (r1 : IRow w a1 xs) (r2 : IRow w a2 ys) :
    Calls Try.prog 19 #[.agg #[.int .i64 p, .int .i64 c, .int .i64 h, .int .i64 s], .agg #[.slice a1 n1 c1, .slice a2 n2 c2]] w fun e w' => e = .returned (.tuple #[.int .i64 (if raceB p c h s xs ys = true then crossL h xs xs.length else 0), .int .i64 (rcC p c h s xs ys)]) ∧ Below w.heap.size w w' := by
  obtain ⟨BV, BB, hb, hz⟩ := two_new w #[.int .i64 p, .int .i64 c, .int .i64 h, .int .i64 s] #[.slice a1 n1 c1, .slice a2 n2 c2] 26 34
  have hz1 : w.heap.size + 1 < ((w.alloc (.cells #[.int .i64 p, .int .i64 c, .int .i64 h, .int .i64 s] 26)).alloc (.cells #[.slice a1 n1 c1, .slice a2 n2 c2] 34)).heap.size := by rw [hz]; omega
  clear hz
  obtain ⟨x0, x1, x2, x3, xf, xl⟩ := BV.four
  obtain ⟨y0, y1, yf, yl⟩ := BB.two
  by_cases g : raceB p c h s xs ys = true
  rotate_left
  · rw [if_neg g]
    replace g : raceB p c h s xs ys = false := by simpa using g
    have hk := rcC_not g
    have hr := fun W (q1 : IRow W a1 xs) (q2 : IRow W a2 ys) => racersOf_not p c h s a1 a2 n1 n2 c1 c2 xs ys W h1 h2 l1 l2 q1 q2 g
    obtain ⟨K, hK⟩ : ∃ K, rcC p c h s xs ys = K := ⟨_, rfl⟩
    rw [hK] at hk hr ⊢
    have ne : (K != 0) = true := by rw [bne_iff_ne]; omega
    have HR := Lib.hid hr
    clear hK hk g hr
    go_enter Try.func19, Try.ntmps19
    go_wp2_with (go_at_call 38; refine (HR.out _ (r1.below hb) (r2.below hb)).mono ?_; rintro e w1 ⟨rfl, hb1⟩)
    go_ret2
    exact ⟨rfl, ((chain hb hb1).alloc (chain hb hb1).size _).alloc (Nat.le_trans (chain hb hb1).size (by simp)) _⟩
  · rw [if_pos g, rcC_race g]
    have gb := (raceB_parts g).1
    obtain ⟨p0, p1, k0, k1, k2, k3, N1, N2, hx, hy, s0, s1, s2, s3⟩ := isB_parts gb
    have hd1 := fun B W (q : Pays 79 B xs W) => rx_crossovers_any p c h s 79 80 B 79 B xs W (by omega) p1 N1 hx q k2 k3
    obtain ⟨C, hC⟩ : ∃ C, crossL h xs xs.length = C := ⟨_, rfl⟩
    rw [hC] at hd1 ⊢
    have HD1 := Lib.hid hd1
    have hr := fun W (q1 : IRow W a1 xs) (q2 : IRow W a2 ys) => racersOf_any p c h s a1 a2 n1 n2 c1 c2 xs ys W h1 h2 l1 l2 q1 q2 g
    have HR := Lib.hid hr
    clear hr
    clear hd1 hC hx hy N1 N2 g gb
    go_enter Try.func19, Try.ntmps19
    go_wp2_with (first | (go_at_call 38; refine (HR.out _ (r1.below hb) (r2.below hb)).mono ?_; rintro e w1 ⟨B, rfl, q1, q2, hb1⟩) | (go_at_call 41; refine (HD1.out _ _ (q1.below two_below)).mono ?_; rintro e w2 ⟨rfl, hb2⟩))
    go_ret2
    exact ⟨rfl, chain (chain (chain hb hb1) two_below) hb2⟩
set_option maxRecDepth 8000 in
set_option maxHeartbeats 2000000 in
theorem greatest_any (p c h s : Int) (a1 a2 : Option Addr) (n1 n2 c1 c2 : Nat) (xs ys : List Int) (w : World) (h1 : xs.length = n1) (h2 : ys.length = n2) (l1 : n1 ≤ 1048576) (l2 : n2 ≤ 1048576) (r1 : IRow w a1 xs) (r2 : IRow w a2 ys) :
    Calls Try.prog 21 #[.agg #[.int .i64 p, .int .i64 c, .int .i64 h, .int .i64 s], .agg #[.slice a1 n1 c1, .slice a2 n2 c2]] w fun e w' => e = .returned (.tuple #[.int .i64 (grI p c h s xs ys), .int .i64 (grE p c h s xs ys)]) ∧ Below w.heap.size w w' := by
  obtain ⟨BV, BB, hb, hz⟩ := two_new w #[.int .i64 p, .int .i64 c, .int .i64 h, .int .i64 s] #[.slice a1 n1 c1, .slice a2 n2 c2] 26 34
  have hz1 : w.heap.size + 1 < ((w.alloc (.cells #[.int .i64 p, .int .i64 c, .int .i64 h, .int .i64 s] 26)).alloc (.cells #[.slice a1 n1 c1, .slice a2 n2 c2] 34)).heap.size := by rw [hz]; omega
  clear hz
  obtain ⟨x0, x1, x2, x3, xf, xl⟩ := BV.four
  obtain ⟨y0, y1, yf, yl⟩ := BB.two
  by_cases g : raceB p c h s xs ys = true
  rotate_left
  · rw [grI, grE, if_neg g, if_neg (fun q => g q.1)]
    replace g : raceB p c h s xs ys = false := by simpa using g
    have hk := rcC_not g
    have hr := fun W (q1 : IRow W a1 xs) (q2 : IRow W a2 ys) => racersOf_not p c h s a1 a2 n1 n2 c1 c2 xs ys W h1 h2 l1 l2 q1 q2 g
    obtain ⟨K, hK⟩ : ∃ K, rcC p c h s xs ys = K := ⟨_, rfl⟩
    rw [hK] at hk hr ⊢
    have ne : (K != 0) = true := by rw [bne_iff_ne]; omega
    have HR := Lib.hid hr
    clear hK hk g hr
    go_enter Try.func21, Try.ntmps21
    go_wp2_with (go_at_call 38; refine (HR.out _ (r1.below hb) (r2.below hb)).mono ?_; rintro e w1 ⟨rfl, hb1⟩)
    go_ret2
    exact ⟨rfl, ((chain hb hb1).alloc (chain hb hb1).size _).alloc (Nat.le_trans (chain hb hb1).size (by simp)) _⟩
  · have gb := (raceB_parts g).1
    obtain ⟨p0, p1, k0, k1, k2, k3, N1, N2, hx, hy, s0, s1, s2, s3⟩ := isB_parts gb
    rw [grI, grE, if_pos g]
    have hr := fun W (q1 : IRow W a1 xs) (q2 : IRow W a2 ys) => racersOf_any p c h s a1 a2 n1 n2 c1 c2 xs ys W h1 h2 l1 l2 q1 q2 g
    have HR := Lib.hid hr
    clear hr
    by_cases q : h < s ∧ h ≤ lastL xs xs.length
    · have e0 : mostV h s xs = -1 := by unfold mostV; rw [if_pos q]
      have hd1 := fun B W (r : Pays 79 B xs W) => rx_greatest_no p c h s 79 80 B 79 B xs W (by omega) p1 N1 hx r q
      rw [e0, if_pos (show (-1 : Int) < 0 by omega), if_neg (fun (q : raceB p c h s xs ys = true ∧ ¬ (-1 : Int) < 0) => q.2 (by omega))]
      have HD1 := Lib.hid hd1
      clear hd1 hx hy N1 N2 g gb q e0
      go_enter Try.func21, Try.ntmps21
      go_wp2_with (first | (go_at_call 38; refine (HR.out _ (r1.below hb) (r2.below hb)).mono ?_; rintro e w1 ⟨B, rfl, q1, q2, hb1⟩) | (go_at_call 43; refine (HD1.out _ _ (q1.below two_below)).mono ?_; rintro e w2 ⟨rfl, hb2⟩))
      go_ret2
      exact ⟨rfl, chain (chain (chain hb hb1) two_below) hb2⟩
    · have e0 : mostV h s xs = (pipsL xs xs.length + 2 - 1) / 2 := by unfold mostV; rw [if_neg q]
      have hd1 := fun B W (r : Pays 79 B xs W) => rx_greatest_yes p c h s 79 80 B 79 B xs W (by omega) p1 N1 hx r q
      have bd := pipsL_bound xs hx xs.length (Nat.le_refl _) (by omega)
      have bq : 0 ≤ (pipsL xs xs.length + 2 - 1) / 2 := Int.ediv_nonneg (by omega) (by omega)
      rw [← e0] at hd1 bq
      rw [if_neg (show ¬ mostV h s xs < 0 by omega), if_pos ⟨g, show ¬ mostV h s xs < 0 by omega⟩]
      obtain ⟨K, hK⟩ : ∃ K, mostV h s xs = K := ⟨_, rfl⟩
      rw [hK] at hd1 ⊢
      have HD1 := Lib.hid hd1
      clear hd1 hx hy N1 N2 g gb q e0 hK bq bd
      go_enter Try.func21, Try.ntmps21
      go_wp2_with (first | (go_at_call 38; refine (HR.out _ (r1.below hb) (r2.below hb)).mono ?_; rintro e w1 ⟨B, rfl, q1, q2, hb1⟩) | (go_at_call 43; refine (HD1.out _ _ (q1.below two_below)).mono ?_; rintro e w2 ⟨rfl, hb2⟩))
      go_ret2
      exact ⟨rfl, chain (chain (chain hb hb1) two_below) hb2⟩
set_option maxRecDepth 8000 in
set_option maxHeartbeats 2000000 in
theorem adjusted_any (p c h s : Int) (a1 a2 : Option Addr) (n1 n2 c1 c2 : Nat) (xs ys : List Int) (w : World) (h1 : xs.length = n1) (h2 : ys.length = n2) (l1 : n1 ≤ 1048576) (l2 : n2 ≤ 1048576) (r1 : IRow w a1 xs) (r2 : IRow w a2 ys) :
    Calls Try.prog 23 #[.agg #[.int .i64 p, .int .i64 c, .int .i64 h, .int .i64 s], .agg #[.slice a1 n1 c1, .slice a2 n2 c2]] w fun e w' => e = .returned (.tuple #[.int .i64 (if raceB p c h s xs ys = true then adjV h.toNat xs else 0), .int .i64 (if raceB p c h s xs ys = true then 10 * sumV h.toNat ys else 0), .int .i64 (rcC p c h s xs ys)]) ∧ Below w.heap.size w w' := by
  obtain ⟨BV, BB, hb, hz⟩ := two_new w #[.int .i64 p, .int .i64 c, .int .i64 h, .int .i64 s] #[.slice a1 n1 c1, .slice a2 n2 c2] 26 34
  have hz1 : w.heap.size + 1 < ((w.alloc (.cells #[.int .i64 p, .int .i64 c, .int .i64 h, .int .i64 s] 26)).alloc (.cells #[.slice a1 n1 c1, .slice a2 n2 c2] 34)).heap.size := by rw [hz]; omega
  clear hz
  obtain ⟨x0, x1, x2, x3, xf, xl⟩ := BV.four
  obtain ⟨y0, y1, yf, yl⟩ := BB.two
  by_cases g : raceB p c h s xs ys = true
  rotate_left
  · rw [if_neg g, if_neg g]
    replace g : raceB p c h s xs ys = false := by simpa using g
    have hk := rcC_not g
    have hr := fun W (q1 : IRow W a1 xs) (q2 : IRow W a2 ys) => racersOf_not p c h s a1 a2 n1 n2 c1 c2 xs ys W h1 h2 l1 l2 q1 q2 g
    obtain ⟨K, hK⟩ : ∃ K, rcC p c h s xs ys = K := ⟨_, rfl⟩
    rw [hK] at hk hr ⊢
    have ne : (K != 0) = true := by rw [bne_iff_ne]; omega
    have HR := Lib.hid hr
    clear hK hk g hr
    go_enter Try.func23, Try.ntmps23
    go_wp2_with (go_at_call 38; refine (HR.out _ (r1.below hb) (r2.below hb)).mono ?_; rintro e w1 ⟨rfl, hb1⟩)
    go_ret3
    exact ⟨rfl, ((chain hb hb1).alloc (chain hb hb1).size _).alloc (Nat.le_trans (chain hb hb1).size (by simp)) _⟩
  · rw [if_pos g, if_pos g, rcC_race g]
    have gb := (raceB_parts g).1
    obtain ⟨p0, p1, k0, k1, k2, k3, N1, N2, hx, hy, s0, s1, s2, s3⟩ := isB_parts gb
    obtain ⟨H, rfl⟩ := Int.eq_ofNat_of_zero_le (by omega : 0 ≤ h)
    have e9 : ((H : Nat) : Int).toNat = H := by omega
    rw [e9]
    have hd1 := fun B W (q : Pays 79 B xs W) => rx_sum_any p c s H 79 80 B 79 B xs W (by omega) p1 N1 hx q k3 (by omega)
    have hd2 := fun B W (q : Pays 80 B ys W) => rx_sum_any p c s H 79 80 B 80 B ys W (by omega) p1 N2 hy q k3 (by omega)
    have b1 := sumV_bound H xs hx (by omega) (by omega) (by omega) (by omega)
    have b2 := sumV_bound H ys hy (by omega) (by omega) (by omega) (by omega)
    unfold adjV
    obtain ⟨X, hX⟩ : ∃ X, sumV H xs = X := ⟨_, rfl⟩
    obtain ⟨Y, hY⟩ : ∃ Y, sumV H ys = Y := ⟨_, rfl⟩
    rw [hX] at hd1 b1 ⊢
    rw [hY] at hd2 b2 ⊢
    have wz1 : IntKind.i64.wrap (11 * X) = 11 * X := IntWalk.i64_in _ (by omega)
    have wz2 : IntKind.i64.wrap (10 * X) = 10 * X := IntWalk.i64_in _ (by omega)
    have wz3 : IntKind.i64.wrap (10 * Y) = 10 * Y := IntWalk.i64_in _ (by omega)
    have HD1 := Lib.hid hd1
    have HD2 := Lib.hid hd2
    have hr := fun W (q1 : IRow W a1 xs) (q2 : IRow W a2 ys) => racersOf_any p c (H : Int) s a1 a2 n1 n2 c1 c2 xs ys W h1 h2 l1 l2 q1 q2 g
    have HR := Lib.hid hr
    clear hr
    clear hd1 hd2 hX hY b1 b2 hx hy N1 N2 g gb e9 s0 s1 s2 s3
    by_cases d : 30 < X
    · have g1 : decide (30 < X) = true := by simpa using d
      rw [if_pos d]
      clear d
      go_enter Try.func23, Try.ntmps23
      go_wp2_with (go_at_call 38; refine (HR.out _ (r1.below hb) (r2.below hb)).mono ?_; rintro e w1 ⟨B, rfl, q1, q2, hb1⟩)
      obtain ⟨BR1, BR2, hbn, hzn⟩ := two_new w1 #[.int .i64 p, .int .i64 c, .int .i64 (H : Int), .int .i64 s, .int .i64 p, fv 79 B, fv 80 B, fv 79 B] #[.int .i64 p, .int .i64 c, .int .i64 (H : Int), .int .i64 s, .int .i64 p, fv 79 B, fv 80 B, fv 80 B] 61 61
      clear hzn
      replace q1 := q1.below hbn
      replace q2 := q2.below hbn
      replace hb := chain (chain hb hb1) hbn
      clear hb1 hbn BV BB x0 x1 x2 x3 xf xl y0 y1 yf yl
      generalize ((w1.alloc (.cells #[.int .i64 p, .int .i64 c, .int .i64 (H : Int), .int .i64 s, .int .i64 p, fv 79 B, fv 80 B, fv 79 B] 61)).alloc (.cells #[.int .i64 p, .int .i64 c, .int .i64 (H : Int), .int .i64 s, .int .i64 p, fv 79 B, fv 80 B, fv 80 B] 61)) = v1 at *
      refine (HD1.out _ _ q1).mono ?_
      rintro e w2 ⟨rfl, hb2⟩
      replace BR1 := BR1.below hb2
      replace BR2 := BR2.below hb2
      replace q1 := q1.below hb2
      replace q2 := q2.below hb2
      replace hb := chain hb hb2
      clear hb2
      go_wp2_with fail
      have hd_ : w2.drew.heap.size = w2.heap.size := rfl
      replace BR1 := BR1.drew
      replace BR2 := BR2.drew
      replace q1 := q1.drew
      replace q2 := q2.drew
      replace hb := hb.drew
      refine wp_region_held_drew (S := fun w' => w'.cell? ⟨w1.heap.size, 0, none⟩ = some (.int .i64 p) ∧ w'.cell? ⟨w1.heap.size, 1, none⟩ = some (.int .i64 c) ∧ w'.cell? ⟨w1.heap.size, 2, none⟩ = some (.int .i64 (H : Int)) ∧ w'.cell? ⟨w1.heap.size, 3, none⟩ = some (.int .i64 s) ∧ w'.cell? ⟨w1.heap.size, 4, none⟩ = some (.int .i64 p) ∧ w'.cell? ⟨w1.heap.size, 5, none⟩ = some (fv 79 B) ∧ w'.cell? ⟨w1.heap.size, 6, none⟩ = some (fv 80 B) ∧ w'.cell? ⟨w1.heap.size, 7, none⟩ = some (fv 79 B) ∧ w'.cell? ⟨(w1.heap.size + 1), 0, none⟩ = some (.int .i64 p) ∧ w'.cell? ⟨(w1.heap.size + 1), 1, none⟩ = some (.int .i64 c) ∧ w'.cell? ⟨(w1.heap.size + 1), 2, none⟩ = some (.int .i64 (H : Int)) ∧ w'.cell? ⟨(w1.heap.size + 1), 3, none⟩ = some (.int .i64 s) ∧ w'.cell? ⟨(w1.heap.size + 1), 4, none⟩ = some (.int .i64 p) ∧ w'.cell? ⟨(w1.heap.size + 1), 5, none⟩ = some (fv 79 B) ∧ w'.cell? ⟨(w1.heap.size + 1), 6, none⟩ = some (fv 80 B) ∧ w'.cell? ⟨(w1.heap.size + 1), 7, none⟩ = some (fv 80 B)) (by kernel_rfl) ⟨BR1.eight.1, BR1.eight.2.1, BR1.eight.2.2.1, BR1.eight.2.2.2.1, BR1.eight.2.2.2.2.1, BR1.eight.2.2.2.2.2.1, BR1.eight.2.2.2.2.2.2.1, BR1.eight.2.2.2.2.2.2.2.1, BR2.eight.1, BR2.eight.2.1, BR2.eight.2.2.1, BR2.eight.2.2.2.1, BR2.eight.2.2.2.2.1, BR2.eight.2.2.2.2.2.1, BR2.eight.2.2.2.2.2.2.1, BR2.eight.2.2.2.2.2.2.2.1⟩ (fun hHeld => ?_)
      clear hHeld
      generalize w2.drew = vd at *
      have hHeld : vd.cell? ⟨w1.heap.size, 0, none⟩ = some (.int .i64 p) ∧ vd.cell? ⟨w1.heap.size, 1, none⟩ = some (.int .i64 c) ∧ vd.cell? ⟨w1.heap.size, 2, none⟩ = some (.int .i64 (H : Int)) ∧ vd.cell? ⟨w1.heap.size, 3, none⟩ = some (.int .i64 s) ∧ vd.cell? ⟨w1.heap.size, 4, none⟩ = some (.int .i64 p) ∧ vd.cell? ⟨w1.heap.size, 5, none⟩ = some (fv 79 B) ∧ vd.cell? ⟨w1.heap.size, 6, none⟩ = some (fv 80 B) ∧ vd.cell? ⟨w1.heap.size, 7, none⟩ = some (fv 79 B) ∧ vd.cell? ⟨(w1.heap.size + 1), 0, none⟩ = some (.int .i64 p) ∧ vd.cell? ⟨(w1.heap.size + 1), 1, none⟩ = some (.int .i64 c) ∧ vd.cell? ⟨(w1.heap.size + 1), 2, none⟩ = some (.int .i64 (H : Int)) ∧ vd.cell? ⟨(w1.heap.size + 1), 3, none⟩ = some (.int .i64 s) ∧ vd.cell? ⟨(w1.heap.size + 1), 4, none⟩ = some (.int .i64 p) ∧ vd.cell? ⟨(w1.heap.size + 1), 5, none⟩ = some (fv 79 B) ∧ vd.cell? ⟨(w1.heap.size + 1), 6, none⟩ = some (fv 80 B) ∧ vd.cell? ⟨(w1.heap.size + 1), 7, none⟩ = some (fv 80 B) := ⟨BR1.eight.1, BR1.eight.2.1, BR1.eight.2.2.1, BR1.eight.2.2.2.1, BR1.eight.2.2.2.2.1, BR1.eight.2.2.2.2.2.1, BR1.eight.2.2.2.2.2.2.1, BR1.eight.2.2.2.2.2.2.2.1, BR2.eight.1, BR2.eight.2.1, BR2.eight.2.2.1, BR2.eight.2.2.2.1, BR2.eight.2.2.2.2.1, BR2.eight.2.2.2.2.2.1, BR2.eight.2.2.2.2.2.2.1, BR2.eight.2.2.2.2.2.2.2.1⟩
      refine wpAnyH_take (i := 0) (oi := { dst := some 24, op := _, type := _, pos := _, after := _, guard := _ }) (v := ?_) rfl (by kernel_rfl) (by kernel_rfl) (by kernel_rfl) (fun _ _ _ h => h) (Or.inl ⟨by rfl, ?_⟩) (by assumption) ?_
      rotate_left
      · intro w hSw
        (try dsimp only at hSw)
        go_simp
        (try (with_reducible rfl))
      try simp only [Act.put, List.setIfInBounds_toArray, List.set_cons_zero, List.set_cons_succ]
      refine wpAnyH_take (i := 1) (oi := { dst := some 25, op := _, type := _, pos := _, after := _, guard := _ }) (v := ?_) rfl (by kernel_rfl) (by kernel_rfl) (by kernel_rfl) (fun _ _ _ h => h) (Or.inl ⟨by rfl, ?_⟩) (by assumption) ?_
      rotate_left
      · intro w hSw
        (try dsimp only at hSw)
        go_simp
        (try (with_reducible rfl))
      try simp only [Act.put, List.setIfInBounds_toArray, List.set_cons_zero, List.set_cons_succ]
      refine wpAnyH_take (i := 4) (oi := { dst := some 28, op := _, type := _, pos := _, after := _, guard := _ }) (v := ?_) rfl (by kernel_rfl) (by kernel_rfl) (by kernel_rfl) (fun _ _ _ h => h) (Or.inl ⟨by rfl, ?_⟩) (by assumption) ?_
      rotate_left
      · intro w hSw
        (try dsimp only at hSw)
        go_simp
        (try (with_reducible rfl))
      try simp only [Act.put, List.setIfInBounds_toArray, List.set_cons_zero, List.set_cons_succ]
      refine wpAnyH_ready (rs := [2]) (by kernel_rfl) (by simp) ?_
      refine AllReadyH.cons (o := { dst := some 26, op := _, type := _, pos := _, after := _, guard := _ }) rfl (fun K hK => ?_) AllReadyH.nil
      go_simp
      refine (HD1.out _ _ q1).mono ?_
      rintro e w3 ⟨rfl, hb3⟩
      replace BR1 := BR1.below hb3
      replace BR2 := BR2.below hb3
      replace q1 := q1.below hb3
      replace q2 := q2.below hb3
      replace hb := chain hb hb3
      (try go_wp2_with fail)
      refine hK.out _ _ ⟨BR1.eight.1, BR1.eight.2.1, BR1.eight.2.2.1, BR1.eight.2.2.2.1, BR1.eight.2.2.2.2.1, BR1.eight.2.2.2.2.2.1, BR1.eight.2.2.2.2.2.2.1, BR1.eight.2.2.2.2.2.2.2.1, BR2.eight.1, BR2.eight.2.1, BR2.eight.2.2.1, BR2.eight.2.2.2.1, BR2.eight.2.2.2.2.1, BR2.eight.2.2.2.2.2.1, BR2.eight.2.2.2.2.2.2.1, BR2.eight.2.2.2.2.2.2.2.1⟩ (fun hHeld => ?_)
      clear hK K
      try simp only [Act.put, List.setIfInBounds_toArray, List.set_cons_zero, List.set_cons_succ]
      refine wpAnyH_take (i := 3) (oi := { dst := some 27, op := _, type := _, pos := _, after := _, guard := _ }) (v := ?_) rfl (by kernel_rfl) (by kernel_rfl) (by kernel_rfl) (fun _ _ _ h => h) (Or.inl ⟨by rfl, ?_⟩) (by assumption) ?_
      rotate_left
      · intro w hSw
        (try dsimp only at hSw)
        go_simp
        (try (with_reducible rfl))
      try simp only [Act.put, List.setIfInBounds_toArray, List.set_cons_zero, List.set_cons_succ]
      refine wpAnyH_ready (rs := [5]) (by kernel_rfl) (by simp) ?_
      refine AllReadyH.cons (o := { dst := some 29, op := _, type := _, pos := _, after := _, guard := _ }) rfl (fun K hK => ?_) AllReadyH.nil
      go_simp
      refine (HD2.out _ _ q2).mono ?_
      rintro e w3 ⟨rfl, hb3⟩
      replace BR1 := BR1.below hb3
      replace BR2 := BR2.below hb3
      replace q1 := q1.below hb3
      replace q2 := q2.below hb3
      replace hb := chain hb hb3
      (try go_wp2_with fail)
      refine hK.out _ _ ⟨BR1.eight.1, BR1.eight.2.1, BR1.eight.2.2.1, BR1.eight.2.2.2.1, BR1.eight.2.2.2.2.1, BR1.eight.2.2.2.2.2.1, BR1.eight.2.2.2.2.2.2.1, BR1.eight.2.2.2.2.2.2.2.1, BR2.eight.1, BR2.eight.2.1, BR2.eight.2.2.1, BR2.eight.2.2.2.1, BR2.eight.2.2.2.2.1, BR2.eight.2.2.2.2.2.1, BR2.eight.2.2.2.2.2.2.1, BR2.eight.2.2.2.2.2.2.2.1⟩ (fun hHeld => ?_)
      clear hK K
      try simp only [Act.put, List.setIfInBounds_toArray, List.set_cons_zero, List.set_cons_succ]
      refine wpAnyH_take (i := 6) (oi := { dst := some 30, op := _, type := _, pos := _, after := _, guard := _ }) (v := ?_) rfl (by kernel_rfl) (by kernel_rfl) (by kernel_rfl) (fun _ _ _ h => h) (Or.inl ⟨by rfl, ?_⟩) (by assumption) ?_
      rotate_left
      · intro w hSw
        (try dsimp only at hSw)
        go_simp
        (try (with_reducible rfl))
      try simp only [Act.put, List.setIfInBounds_toArray, List.set_cons_zero, List.set_cons_succ]
      refine wpAnyH_take (i := 7) (oi := { dst := some 4, op := _, type := _, pos := _, after := _, guard := _ }) (v := ?_) rfl (by kernel_rfl) (by kernel_rfl) (by kernel_rfl) (fun _ _ _ h => h) (Or.inl ⟨by rfl, ?_⟩) (by assumption) ?_
      rotate_left
      · intro w hSw
        (try dsimp only at hSw)
        go_simp
        (try (with_reducible rfl))
      try simp only [Act.put, List.setIfInBounds_toArray, List.set_cons_zero, List.set_cons_succ]
      refine wpAnyH_take (i := 8) (oi := { dst := some 5, op := _, type := _, pos := _, after := _, guard := _ }) (v := ?_) rfl (by kernel_rfl) (by kernel_rfl) (by kernel_rfl) (fun _ _ _ h => h) (Or.inl ⟨by rfl, ?_⟩) (by assumption) ?_
      rotate_left
      · intro w hSw
        (try dsimp only at hSw)
        go_simp
        (try (with_reducible rfl))
      try simp only [Act.put, List.setIfInBounds_toArray, List.set_cons_zero, List.set_cons_succ]
      refine wpAnyH_take (i := 9) (oi := { dst := some 6, op := _, type := _, pos := _, after := _, guard := _ }) (v := ?_) rfl (by kernel_rfl) (by kernel_rfl) (by kernel_rfl) (fun _ _ _ h => h) (Or.inl ⟨by rfl, ?_⟩) (by assumption) ?_
      rotate_left
      · intro w hSw
        (try dsimp only at hSw)
        go_simp
        (try (with_reducible rfl))
      try simp only [Act.put, List.setIfInBounds_toArray, List.set_cons_zero, List.set_cons_succ]
      refine wpAnyH_done (by kernel_rfl) ?_ _
      clear hHeld
      go_wp2
      go_ret3
      exact ⟨rfl, hb⟩
    · have g1 : decide (30 < X) = false := by simpa using d
      rw [if_neg d]
      clear d
      go_enter Try.func23, Try.ntmps23
      go_wp2_with (go_at_call 38; refine (HR.out _ (r1.below hb) (r2.below hb)).mono ?_; rintro e w1 ⟨B, rfl, q1, q2, hb1⟩)
      obtain ⟨BR1, BR2, hbn, hzn⟩ := two_new w1 #[.int .i64 p, .int .i64 c, .int .i64 (H : Int), .int .i64 s, .int .i64 p, fv 79 B, fv 80 B, fv 79 B] #[.int .i64 p, .int .i64 c, .int .i64 (H : Int), .int .i64 s, .int .i64 p, fv 79 B, fv 80 B, fv 80 B] 61 61
      clear hzn
      replace q1 := q1.below hbn
      replace q2 := q2.below hbn
      replace hb := chain (chain hb hb1) hbn
      clear hb1 hbn BV BB x0 x1 x2 x3 xf xl y0 y1 yf yl
      generalize ((w1.alloc (.cells #[.int .i64 p, .int .i64 c, .int .i64 (H : Int), .int .i64 s, .int .i64 p, fv 79 B, fv 80 B, fv 79 B] 61)).alloc (.cells #[.int .i64 p, .int .i64 c, .int .i64 (H : Int), .int .i64 s, .int .i64 p, fv 79 B, fv 80 B, fv 80 B] 61)) = v1 at *
      refine (HD1.out _ _ q1).mono ?_
      rintro e w2 ⟨rfl, hb2⟩
      replace BR1 := BR1.below hb2
      replace BR2 := BR2.below hb2
      replace q1 := q1.below hb2
      replace q2 := q2.below hb2
      replace hb := chain hb hb2
      clear hb2
      go_wp2_with fail
      have hd_ : w2.drew.heap.size = w2.heap.size := rfl
      replace BR1 := BR1.drew
      replace BR2 := BR2.drew
      replace q1 := q1.drew
      replace q2 := q2.drew
      replace hb := hb.drew
      refine wp_region_held_drew (S := fun w' => w'.cell? ⟨w1.heap.size, 0, none⟩ = some (.int .i64 p) ∧ w'.cell? ⟨w1.heap.size, 1, none⟩ = some (.int .i64 c) ∧ w'.cell? ⟨w1.heap.size, 2, none⟩ = some (.int .i64 (H : Int)) ∧ w'.cell? ⟨w1.heap.size, 3, none⟩ = some (.int .i64 s) ∧ w'.cell? ⟨w1.heap.size, 4, none⟩ = some (.int .i64 p) ∧ w'.cell? ⟨w1.heap.size, 5, none⟩ = some (fv 79 B) ∧ w'.cell? ⟨w1.heap.size, 6, none⟩ = some (fv 80 B) ∧ w'.cell? ⟨w1.heap.size, 7, none⟩ = some (fv 79 B) ∧ w'.cell? ⟨(w1.heap.size + 1), 0, none⟩ = some (.int .i64 p) ∧ w'.cell? ⟨(w1.heap.size + 1), 1, none⟩ = some (.int .i64 c) ∧ w'.cell? ⟨(w1.heap.size + 1), 2, none⟩ = some (.int .i64 (H : Int)) ∧ w'.cell? ⟨(w1.heap.size + 1), 3, none⟩ = some (.int .i64 s) ∧ w'.cell? ⟨(w1.heap.size + 1), 4, none⟩ = some (.int .i64 p) ∧ w'.cell? ⟨(w1.heap.size + 1), 5, none⟩ = some (fv 79 B) ∧ w'.cell? ⟨(w1.heap.size + 1), 6, none⟩ = some (fv 80 B) ∧ w'.cell? ⟨(w1.heap.size + 1), 7, none⟩ = some (fv 80 B)) (by kernel_rfl) ⟨BR1.eight.1, BR1.eight.2.1, BR1.eight.2.2.1, BR1.eight.2.2.2.1, BR1.eight.2.2.2.2.1, BR1.eight.2.2.2.2.2.1, BR1.eight.2.2.2.2.2.2.1, BR1.eight.2.2.2.2.2.2.2.1, BR2.eight.1, BR2.eight.2.1, BR2.eight.2.2.1, BR2.eight.2.2.2.1, BR2.eight.2.2.2.2.1, BR2.eight.2.2.2.2.2.1, BR2.eight.2.2.2.2.2.2.1, BR2.eight.2.2.2.2.2.2.2.1⟩ (fun hHeld => ?_)
      clear hHeld
      generalize w2.drew = vd at *
      have hHeld : vd.cell? ⟨w1.heap.size, 0, none⟩ = some (.int .i64 p) ∧ vd.cell? ⟨w1.heap.size, 1, none⟩ = some (.int .i64 c) ∧ vd.cell? ⟨w1.heap.size, 2, none⟩ = some (.int .i64 (H : Int)) ∧ vd.cell? ⟨w1.heap.size, 3, none⟩ = some (.int .i64 s) ∧ vd.cell? ⟨w1.heap.size, 4, none⟩ = some (.int .i64 p) ∧ vd.cell? ⟨w1.heap.size, 5, none⟩ = some (fv 79 B) ∧ vd.cell? ⟨w1.heap.size, 6, none⟩ = some (fv 80 B) ∧ vd.cell? ⟨w1.heap.size, 7, none⟩ = some (fv 79 B) ∧ vd.cell? ⟨(w1.heap.size + 1), 0, none⟩ = some (.int .i64 p) ∧ vd.cell? ⟨(w1.heap.size + 1), 1, none⟩ = some (.int .i64 c) ∧ vd.cell? ⟨(w1.heap.size + 1), 2, none⟩ = some (.int .i64 (H : Int)) ∧ vd.cell? ⟨(w1.heap.size + 1), 3, none⟩ = some (.int .i64 s) ∧ vd.cell? ⟨(w1.heap.size + 1), 4, none⟩ = some (.int .i64 p) ∧ vd.cell? ⟨(w1.heap.size + 1), 5, none⟩ = some (fv 79 B) ∧ vd.cell? ⟨(w1.heap.size + 1), 6, none⟩ = some (fv 80 B) ∧ vd.cell? ⟨(w1.heap.size + 1), 7, none⟩ = some (fv 80 B) := ⟨BR1.eight.1, BR1.eight.2.1, BR1.eight.2.2.1, BR1.eight.2.2.2.1, BR1.eight.2.2.2.2.1, BR1.eight.2.2.2.2.2.1, BR1.eight.2.2.2.2.2.2.1, BR1.eight.2.2.2.2.2.2.2.1, BR2.eight.1, BR2.eight.2.1, BR2.eight.2.2.1, BR2.eight.2.2.2.1, BR2.eight.2.2.2.2.1, BR2.eight.2.2.2.2.2.1, BR2.eight.2.2.2.2.2.2.1, BR2.eight.2.2.2.2.2.2.2.1⟩
      refine wpAnyH_take (i := 0) (oi := { dst := some 24, op := _, type := _, pos := _, after := _, guard := _ }) (v := ?_) rfl (by kernel_rfl) (by kernel_rfl) (by kernel_rfl) (fun _ _ _ h => h) (Or.inl ⟨by rfl, ?_⟩) (by assumption) ?_
      rotate_left
      · intro w hSw
        (try dsimp only at hSw)
        go_simp
        (try (with_reducible rfl))
      try simp only [Act.put, List.setIfInBounds_toArray, List.set_cons_zero, List.set_cons_succ]
      refine wpAnyH_take (i := 1) (oi := { dst := some 25, op := _, type := _, pos := _, after := _, guard := _ }) (v := ?_) rfl (by kernel_rfl) (by kernel_rfl) (by kernel_rfl) (fun _ _ _ h => h) (Or.inl ⟨by rfl, ?_⟩) (by assumption) ?_
      rotate_left
      · intro w hSw
        (try dsimp only at hSw)
        go_simp
        (try (with_reducible rfl))
      try simp only [Act.put, List.setIfInBounds_toArray, List.set_cons_zero, List.set_cons_succ]
      refine wpAnyH_take (i := 4) (oi := { dst := some 28, op := _, type := _, pos := _, after := _, guard := _ }) (v := ?_) rfl (by kernel_rfl) (by kernel_rfl) (by kernel_rfl) (fun _ _ _ h => h) (Or.inl ⟨by rfl, ?_⟩) (by assumption) ?_
      rotate_left
      · intro w hSw
        (try dsimp only at hSw)
        go_simp
        (try (with_reducible rfl))
      try simp only [Act.put, List.setIfInBounds_toArray, List.set_cons_zero, List.set_cons_succ]
      refine wpAnyH_ready (rs := [2]) (by kernel_rfl) (by simp) ?_
      refine AllReadyH.cons (o := { dst := some 26, op := _, type := _, pos := _, after := _, guard := _ }) rfl (fun K hK => ?_) AllReadyH.nil
      go_simp
      refine (HD1.out _ _ q1).mono ?_
      rintro e w3 ⟨rfl, hb3⟩
      replace BR1 := BR1.below hb3
      replace BR2 := BR2.below hb3
      replace q1 := q1.below hb3
      replace q2 := q2.below hb3
      replace hb := chain hb hb3
      (try go_wp2_with fail)
      refine hK.out _ _ ⟨BR1.eight.1, BR1.eight.2.1, BR1.eight.2.2.1, BR1.eight.2.2.2.1, BR1.eight.2.2.2.2.1, BR1.eight.2.2.2.2.2.1, BR1.eight.2.2.2.2.2.2.1, BR1.eight.2.2.2.2.2.2.2.1, BR2.eight.1, BR2.eight.2.1, BR2.eight.2.2.1, BR2.eight.2.2.2.1, BR2.eight.2.2.2.2.1, BR2.eight.2.2.2.2.2.1, BR2.eight.2.2.2.2.2.2.1, BR2.eight.2.2.2.2.2.2.2.1⟩ (fun hHeld => ?_)
      clear hK K
      try simp only [Act.put, List.setIfInBounds_toArray, List.set_cons_zero, List.set_cons_succ]
      refine wpAnyH_take (i := 3) (oi := { dst := some 27, op := _, type := _, pos := _, after := _, guard := _ }) (v := ?_) rfl (by kernel_rfl) (by kernel_rfl) (by kernel_rfl) (fun _ _ _ h => h) (Or.inl ⟨by rfl, ?_⟩) (by assumption) ?_
      rotate_left
      · intro w hSw
        (try dsimp only at hSw)
        go_simp
        (try (with_reducible rfl))
      try simp only [Act.put, List.setIfInBounds_toArray, List.set_cons_zero, List.set_cons_succ]
      refine wpAnyH_ready (rs := [5]) (by kernel_rfl) (by simp) ?_
      refine AllReadyH.cons (o := { dst := some 29, op := _, type := _, pos := _, after := _, guard := _ }) rfl (fun K hK => ?_) AllReadyH.nil
      go_simp
      refine (HD2.out _ _ q2).mono ?_
      rintro e w3 ⟨rfl, hb3⟩
      replace BR1 := BR1.below hb3
      replace BR2 := BR2.below hb3
      replace q1 := q1.below hb3
      replace q2 := q2.below hb3
      replace hb := chain hb hb3
      (try go_wp2_with fail)
      refine hK.out _ _ ⟨BR1.eight.1, BR1.eight.2.1, BR1.eight.2.2.1, BR1.eight.2.2.2.1, BR1.eight.2.2.2.2.1, BR1.eight.2.2.2.2.2.1, BR1.eight.2.2.2.2.2.2.1, BR1.eight.2.2.2.2.2.2.2.1, BR2.eight.1, BR2.eight.2.1, BR2.eight.2.2.1, BR2.eight.2.2.2.1, BR2.eight.2.2.2.2.1, BR2.eight.2.2.2.2.2.1, BR2.eight.2.2.2.2.2.2.1, BR2.eight.2.2.2.2.2.2.2.1⟩ (fun hHeld => ?_)
      clear hK K
      try simp only [Act.put, List.setIfInBounds_toArray, List.set_cons_zero, List.set_cons_succ]
      refine wpAnyH_take (i := 6) (oi := { dst := some 30, op := _, type := _, pos := _, after := _, guard := _ }) (v := ?_) rfl (by kernel_rfl) (by kernel_rfl) (by kernel_rfl) (fun _ _ _ h => h) (Or.inl ⟨by rfl, ?_⟩) (by assumption) ?_
      rotate_left
      · intro w hSw
        (try dsimp only at hSw)
        go_simp
        (try (with_reducible rfl))
      try simp only [Act.put, List.setIfInBounds_toArray, List.set_cons_zero, List.set_cons_succ]
      refine wpAnyH_take (i := 7) (oi := { dst := some 4, op := _, type := _, pos := _, after := _, guard := _ }) (v := ?_) rfl (by kernel_rfl) (by kernel_rfl) (by kernel_rfl) (fun _ _ _ h => h) (Or.inl ⟨by rfl, ?_⟩) (by assumption) ?_
      rotate_left
      · intro w hSw
        (try dsimp only at hSw)
        go_simp
        (try (with_reducible rfl))
      try simp only [Act.put, List.setIfInBounds_toArray, List.set_cons_zero, List.set_cons_succ]
      refine wpAnyH_take (i := 8) (oi := { dst := some 5, op := _, type := _, pos := _, after := _, guard := _ }) (v := ?_) rfl (by kernel_rfl) (by kernel_rfl) (by kernel_rfl) (fun _ _ _ h => h) (Or.inl ⟨by rfl, ?_⟩) (by assumption) ?_
      rotate_left
      · intro w hSw
        (try dsimp only at hSw)
        go_simp
        (try (with_reducible rfl))
      try simp only [Act.put, List.setIfInBounds_toArray, List.set_cons_zero, List.set_cons_succ]
      refine wpAnyH_take (i := 9) (oi := { dst := some 6, op := _, type := _, pos := _, after := _, guard := _ }) (v := ?_) rfl (by kernel_rfl) (by kernel_rfl) (by kernel_rfl) (fun _ _ _ h => h) (Or.inl ⟨by rfl, ?_⟩) (by assumption) ?_
      rotate_left
      · intro w hSw
        (try dsimp only at hSw)
        go_simp
        (try (with_reducible rfl))
      try simp only [Act.put, List.setIfInBounds_toArray, List.set_cons_zero, List.set_cons_succ]
      refine wpAnyH_done (by kernel_rfl) ?_ _
      clear hHeld
      go_wp2
      go_ret3
      exact ⟨rfl, hb⟩
set_option maxRecDepth 8000 in
set_option maxHeartbeats 2000000 in
theorem advice_any (p c h s : Int) (a1 a2 : Option Addr) (n1 n2 c1 c2 : Nat) (xs ys : List Int) (w : World) (h1 : xs.length = n1) (h2 : ys.length = n2) (l1 : n1 ≤ 1048576) (l2 : n2 ≤ 1048576) (r1 : IRow w a1 xs) (r2 : IRow w a2 ys) :
    Calls Try.prog 25 #[.agg #[.int .i64 p, .int .i64 c, .int .i64 h, .int .i64 s], .agg #[.slice a1 n1 c1, .slice a2 n2 c2]] w fun e w' => e = .returned (.tuple #[.int .i64 (if raceB p c h s xs ys = true then advV (adjV h.toNat xs) (10 * sumV h.toNat ys) else 0), .int .i64 (rcC p c h s xs ys)]) ∧ Below w.heap.size w w' := by
  obtain ⟨BV, BB, hb, hz⟩ := two_new w #[.int .i64 p, .int .i64 c, .int .i64 h, .int .i64 s] #[.slice a1 n1 c1, .slice a2 n2 c2] 26 34
  have hz1 : w.heap.size + 1 < ((w.alloc (.cells #[.int .i64 p, .int .i64 c, .int .i64 h, .int .i64 s] 26)).alloc (.cells #[.slice a1 n1 c1, .slice a2 n2 c2] 34)).heap.size := by rw [hz]; omega
  clear hz
  obtain ⟨x0, x1, x2, x3, xf, xl⟩ := BV.four
  obtain ⟨y0, y1, yf, yl⟩ := BB.two
  by_cases g : raceB p c h s xs ys = true
  rotate_left
  · rw [if_neg g]
    have hj := fun W (q1 : IRow W a1 xs) (q2 : IRow W a2 ys) => adjusted_any p c h s a1 a2 n1 n2 c1 c2 xs ys W h1 h2 l1 l2 q1 q2
    rw [if_neg g, if_neg g] at hj
    replace g : raceB p c h s xs ys = false := by simpa using g
    have hk := rcC_not g
    obtain ⟨K, hK⟩ : ∃ K, rcC p c h s xs ys = K := ⟨_, rfl⟩
    rw [hK] at hk hj ⊢
    have ne : (K != 0) = true := by rw [bne_iff_ne]; omega
    have HJ := Lib.hid hj
    clear hK hk g hj
    go_enter Try.func25, Try.ntmps25
    go_wp2_with (go_at_call 23; refine (HJ.out _ (r1.below hb) (r2.below hb)).mono ?_; rintro e w1 ⟨rfl, hb1⟩)
    go_ret2
    exact ⟨rfl, chain hb hb1⟩
  · have hj := fun W (q1 : IRow W a1 xs) (q2 : IRow W a2 ys) => adjusted_any p c h s a1 a2 n1 n2 c1 c2 xs ys W h1 h2 l1 l2 q1 q2
    rw [if_pos g, if_pos g, rcC_race g] at hj
    rw [if_pos g, rcC_race g]
    have gb := (raceB_parts g).1
    obtain ⟨p0, p1, k0, k1, k2, k3, N1, N2, hx, hy, s0, s1, s2, s3⟩ := isB_parts gb
    obtain ⟨H, rfl⟩ := Int.eq_ofNat_of_zero_le (by omega : 0 ≤ h)
    have e9 : ((H : Nat) : Int).toNat = H := by omega
    rw [e9] at hj ⊢
    have b1 := sumV_bound H xs hx (by omega) (by omega) (by omega) (by omega)
    have b2 := sumV_bound H ys hy (by omega) (by omega) (by omega) (by omega)
    have b3 : -300 ≤ adjV H xs ∧ adjV H xs ≤ 330000000 := by unfold adjV; split <;> omega
    obtain ⟨X, hX⟩ : ∃ X, adjV H xs = X := ⟨_, rfl⟩
    obtain ⟨Y, hY⟩ : ∃ Y, 10 * sumV H ys = Y := ⟨_, rfl⟩
    rw [hX, hY] at hj ⊢
    rw [hX] at b3
    have b4 : -300 ≤ Y ∧ Y ≤ 330000000 := by omega
    have wz1 : IntKind.i64.wrap (Y + 20) = Y + 20 := IntWalk.i64_in _ (by omega)
    have wz2 : IntKind.i64.wrap (Y - 20) = Y - 20 := IntWalk.i64_in _ (by omega)
    have HJ := Lib.hid hj
    unfold advV
    clear hj hx hy N1 N2 g gb e9 hX hY b1 b2 b3 b4
    by_cases d1 : Y + 20 < X
    · have g1 : decide (Y + 20 < X) = true := by simpa using d1
      rw [if_pos d1]
      clear d1
      go_enter Try.func25, Try.ntmps25
      go_wp2_with (go_at_call 23; refine (HJ.out _ (r1.below hb) (r2.below hb)).mono ?_; rintro e w1 ⟨rfl, hb1⟩)
      go_ret2
      exact ⟨rfl, chain hb hb1⟩
    · have g1 : decide (Y + 20 < X) = false := by simpa using d1
      rw [if_neg d1]
      by_cases d2 : X < Y - 20
      · have g2 : decide (X < Y - 20) = true := by simpa using d2
        rw [if_pos d2]
        clear d1 d2
        go_enter Try.func25, Try.ntmps25
        go_wp2_with (go_at_call 23; refine (HJ.out _ (r1.below hb) (r2.below hb)).mono ?_; rintro e w1 ⟨rfl, hb1⟩)
        go_ret2
        exact ⟨rfl, chain hb hb1⟩
      · have g2 : decide (X < Y - 20) = false := by simpa using d2
        rw [if_neg d2]
        clear d1 d2
        go_enter Try.func25, Try.ntmps25
        go_wp2_with (go_at_call 23; refine (HJ.out _ (r1.below hb) (r2.below hb)).mono ?_; rintro e w1 ⟨rfl, hb1⟩)
        go_ret2
        exact ⟨rfl, chain hb hb1⟩
end Go.Proofs.Ytjepbhainidpgaa
