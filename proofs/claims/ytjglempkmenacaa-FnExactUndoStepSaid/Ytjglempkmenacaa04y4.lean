/- Contract of the model's board ahead of a step, case by case. -/
import Derived.Test.Ytjglempkmenacaa04v
import Derived.Test.Ytjglempkmenacaa04x
namespace Go.Proofs.Ytjglempkmenacaa
open Go.ChangeShapes Go.WideShapes Go.ChangeAt Go.RowKit
set_option linter.unusedVariables false
set_option linter.unusedSimpArgs false
set_option maxRecDepth 4000

set_option maxRecDepth 8000 in
set_option maxHeartbeats 8000000 in
theorem specUndo_same_false (P : Nat) (c h s : Int) (a1 a2 : Option Addr) (n1 n2 c1 c2 : Nat) (xs ys : List Int) (w : World) (h1 : xs.length = n1) (h2 : ys.length = n2) (l1 : n1 ≤ 1048576) (l2 : n2 ≤ 1048576) (r1 : IRow w a1 xs) (r2 : IRow w a2 ys) (g : isB (P : Int) c h s xs ys = true) (f : Nat) (td : Int) (fP : f ≤ P) (tP : f < P) :
    Calls Try.prog 48 #[.agg #[.int .i64 (P : Int), .int .i64 c, .int .i64 h, .int .i64 s], .agg #[.slice a1 n1 c1, .slice a2 n2 c2], stV ((f : Int), (f : Int), td, false)] w (BoardGotN (if lgB (P : Int) c h s (mvX xs f ((f : Int)) (-1)) (mvY P ys ((f : Int)) false (-1)) ((f : Int), (f : Int), td, false) = true then mvX xs f ((f : Int)) (-1) else []) (if lgB (P : Int) c h s (mvX xs f ((f : Int)) (-1)) (mvY P ys ((f : Int)) false (-1)) ((f : Int), (f : Int), td, false) = true then mvY P ys ((f : Int)) false (-1) else []) (if lgB (P : Int) c h s (mvX xs f ((f : Int)) (-1)) (mvY P ys ((f : Int)) false (-1)) ((f : Int), (f : Int), td, false) = true then 0 else 4) w) := by
  obtain ⟨p0, p1, k0, k1, k2, k3, N1, N2, hx, hy, s0, s1, s2, s3⟩ := isB_parts g
  have hs6 := isB_sides g
  have hi1 := fun W => l01In_any (f : Int) 0 (P : Int) W
  have hi2 := fun W => l01In_any ((f : Int)) (-1) ((P : Int) - 1) W
  rw [show inB (f : Int) 0 (P : Int) = true by simp [inB]; omega] at hi1
  rw [show inB ((f : Int)) (-1) ((P : Int) - 1) = true by simp [inB]; omega] at hi2
  have HI1 := Lib.hid hi1
  have HI2 := Lib.hid hi2
  have hB := fun W (q1 : IRow W a1 xs) (q2 : IRow W a2 ys) => specIsBoard_any (P : Int) c h s a1 a2 n1 n2 c1 c2 xs ys W h1 h2 l1 l2 q1 q2
  simp only [g] at hB
  have HB := Lib.hid hB
  clear hB
  have hK1 := fun W (hr : IRow W a1 xs) => l02Own_any a1 n1 c1 xs W h1 (by omega) (by omega) hr
  have hK2 := fun W (hr : IRow W a2 ys) => l02Own_any a2 n2 c2 ys W h2 (by omega) (by omega) hr
  have HK1 := Lib.hid hK1
  have HK2 := Lib.hid hK2
  clear hK1 hK2 hi1 hi2
  obtain ⟨BV, BB, BS, BR, hb, hz⟩ := four_new w #[.int .i64 (P : Int), .int .i64 c, .int .i64 h, .int .i64 s] #[.slice a1 n1 c1, .slice a2 n2 c2] #[.int .i64 (f : Int), .int .i64 ((f : Int)), .int .i64 td, .bool false] #[.slice none 0 0, .slice none 0 0] 25 28 30 28
  obtain ⟨x0, x1, x2, x3, xf, xl⟩ := BV.four
  obtain ⟨y0, y1, yf, yl⟩ := BB.two
  obtain ⟨s0, s1, s2, s3, sf, sl⟩ := BS.four
  obtain ⟨u0, u1, uf, ul⟩ := BR.two
  have hPI : (P : Int) ≤ 24 := p1
  have hft : (f : Int) < (n1 : Int) := by omega
  have hPt : (P : Int) < (n2 : Int) := by omega
  have hfn : f < n1 := by omega
  have hPn : P < n2 := by omega
  obtain ⟨u, hu⟩ : ∃ u, xs.getD f 0 = u := ⟨_, rfl⟩
  have ub := hx _ (getD_mem (show f < xs.length by omega))
  rw [hu] at ub
  have ua : 0 ≤ u := ub.1
  have uz : u ≤ 1000 := ub.2
  have hm1 : decide ((0 : Int) ≤ (f : Int)) = true := by simp
  have htt : (f : Int) < (n1 : Int) := by omega
  have htn : f < n1 := by omega
  obtain ⟨X, hX⟩ : ∃ X, mvX xs (f : Int) ((f : Int)) (-1) = X := ⟨_, rfl⟩
  obtain ⟨Y, hY⟩ : ∃ Y, mvY P ys ((f : Int)) false (-1) = Y := ⟨_, rfl⟩
  have eX : (xs.set f (u + 1)).set f u = X := by
    rw [← hX]
    unfold mvX
    rw [if_neg (by omega)]
    simp only [Int.toNat_natCast]
    rw [hu, show u - -1 = u + 1 by omega, getD_set_eq xs _ (by omega), show u + 1 + -1 = u by omega]
  have eY : ys = Y := by
    rw [← hY]
    unfold mvY
    rw [if_neg (by simp)]
  have hXl : X.length = n1 := by rw [← hX, mvX_length, h1]
  have hYl : Y.length = n2 := by rw [← hY, mvY_length, h2]
  rw [hX, hY]
  have Hu := Lib.hid hu
  have EX := Lib.hid eX
  have EY := Lib.hid eY
  have HXl := Lib.hid hXl
  have HYl := Lib.hid hYl
  clear hX hY eX eY hXl hYl
  clear hu ub
  obtain ⟨Q, hQ⟩ : ∃ Q, lgB (P : Int) c h s X Y ((f : Int), (f : Int), td, false) = Q := ⟨_, rfl⟩
  rw [hQ]
  obtain ⟨XR, hXR⟩ : ∃ z, (if Q = true then X else []) = z := ⟨_, rfl⟩
  obtain ⟨YR, hYR⟩ : ∃ z, (if Q = true then Y else []) = z := ⟨_, rfl⟩
  obtain ⟨RR, hRR⟩ : ∃ z : Int, (if Q = true then 0 else 4) = z := ⟨_, rfl⟩
  rw [hXR, hYR, hRR]
  have HXR := Lib.hid hXR
  have HYR := Lib.hid hYR
  have HRR := Lib.hid hRR
  have HQ := Lib.hid hQ
  clear hQ hXR hYR hRR
  go_enter Try.func48, Try.ntmps48
  go_wp2_with (first | (go_at_call 21; refine (HB.out _ (r1.below hb) (r2.below hb)).mono ?_; rintro e w1 ⟨rfl, hb1⟩; obtain ⟨x0, x1, x2, x3, xf, xl⟩ := (BV.below hb1).four; obtain ⟨y0, y1, yf, yl⟩ := (BB.below hb1).two; obtain ⟨s0, s1, s2, s3, sf, sl⟩ := (BS.below hb1).four; obtain ⟨u0, u1, uf, ul⟩ := (BR.below hb1).two) | (go_at_call 71; with_reducible first | (refine (HI1.out _).mono ?_; rintro e w2 ⟨rfl, rfl⟩) | (refine (HI2.out _).mono ?_; rintro e w3 ⟨rfl, rfl⟩)))
  replace BV := BV.below hb1
  replace BB := BB.below hb1
  replace BS := BS.below hb1
  replace BR := BR.below hb1
  replace hb := chain hb hb1
  clear x0 x1 x2 x3 xf xl y0 y1 yf yl s0 s1 s2 s3 sf sl u0 u1 uf ul hz HI1 HI2 HB hb1
  replace r1 := r1.below hb
  replace r2 := r2.below hb
  have hz4 := BR.lt
  have hz5 : w1.drew.heap.size = w1.heap.size := rfl
  replace BV := BV.drew
  replace BB := BB.drew
  replace BS := BS.drew
  replace BR := BR.drew
  replace r1 := r1.drew
  replace r2 := r2.drew
  replace hb := hb.drew
  refine wp_region_held_drew (S := fun w' => w'.cell? ⟨w.heap.size, 0, none⟩ = some (.int .i64 (P : Int)) ∧ w'.cell? ⟨w.heap.size, 1, none⟩ = some (.int .i64 c) ∧ w'.cell? ⟨w.heap.size, 2, none⟩ = some (.int .i64 h) ∧ w'.cell? ⟨w.heap.size, 3, none⟩ = some (.int .i64 s) ∧ w'.cell? ⟨(w.heap.size + 1), 0, none⟩ = some (.slice a1 n1 c1) ∧ w'.cell? ⟨(w.heap.size + 1), 1, none⟩ = some (.slice a2 n2 c2) ∧ w'.cell? ⟨(w.heap.size + 1 + 1), 0, none⟩ = some (.int .i64 (f : Int)) ∧ w'.cell? ⟨(w.heap.size + 1 + 1), 1, none⟩ = some (.int .i64 ((f : Int))) ∧ w'.cell? ⟨(w.heap.size + 1 + 1), 2, none⟩ = some (.int .i64 td) ∧ w'.cell? ⟨(w.heap.size + 1 + 1), 3, none⟩ = some (.bool false) ∧ w'.cell? ⟨(w.heap.size + 1 + 1 + 1), 0, none⟩ = some (.slice none 0 0) ∧ w'.cell? ⟨(w.heap.size + 1 + 1 + 1), 1, none⟩ = some (.slice none 0 0) ∧ Blk w' w.heap.size #[.int .i64 (P : Int), .int .i64 c, .int .i64 h, .int .i64 s] 25 ∧ Blk w' ((w.heap.size + 1)) #[.slice a1 n1 c1, .slice a2 n2 c2] 28 ∧ Blk w' ((w.heap.size + 1 + 1)) #[.int .i64 (f : Int), .int .i64 ((f : Int)), .int .i64 td, .bool false] 30 ∧ Blk w' ((w.heap.size + 1 + 1 + 1)) #[.slice none 0 0, .slice none 0 0] 28 ∧ (IRow w' a1 xs) ∧ (IRow w' a2 ys) ∧ Below w.heap.size w w') (by kernel_rfl) ⟨BV.four.1, BV.four.2.1, BV.four.2.2.1, BV.four.2.2.2.1, BB.two.1, BB.two.2.1, BS.four.1, BS.four.2.1, BS.four.2.2.1, BS.four.2.2.2.1, BR.two.1, BR.two.2.1, BV, BB, BS, BR, r1, r2, hb⟩ (fun hHeld => ?_)
  refine wpAnyH_take (i := 0) (oi := { dst := some 42, op := _, type := _, pos := _, after := _, guard := _ }) (v := ?_) rfl (by kernel_rfl) (by kernel_rfl) (by kernel_rfl) (fun _ _ _ h => h) (Or.inl ⟨by rfl, ?_⟩) (by assumption) ?_
  rotate_left
  · intro w hSw
    (try dsimp only at hSw)
    go_simp
    (try (with_reducible rfl))
  try simp only [Act.put, List.setIfInBounds_toArray, List.set_cons_zero, List.set_cons_succ]
  refine wpAnyH_take (i := 1) (oi := { dst := some 43, op := _, type := _, pos := _, after := _, guard := _ }) (v := ?_) rfl (by kernel_rfl) (by kernel_rfl) (by kernel_rfl) (fun _ _ _ h => h) (Or.inl ⟨by rfl, ?_⟩) (by assumption) ?_
  rotate_left
  · intro w hSw
    (try dsimp only at hSw)
    go_simp
    (try (with_reducible rfl))
  try simp only [Act.put, List.setIfInBounds_toArray, List.set_cons_zero, List.set_cons_succ]
  refine wpAnyH_take (i := 3) (oi := { dst := some 45, op := _, type := _, pos := _, after := _, guard := _ }) (v := ?_) rfl (by kernel_rfl) (by kernel_rfl) (by kernel_rfl) (fun _ _ _ h => h) (Or.inl ⟨by rfl, ?_⟩) (by assumption) ?_
  rotate_left
  · intro w hSw
    (try dsimp only at hSw)
    go_simp
    (try (with_reducible rfl))
  try simp only [Act.put, List.setIfInBounds_toArray, List.set_cons_zero, List.set_cons_succ]
  refine wpAnyH_take (i := 4) (oi := { dst := some 46, op := _, type := _, pos := _, after := _, guard := _ }) (v := ?_) rfl (by kernel_rfl) (by kernel_rfl) (by kernel_rfl) (fun _ _ _ h => h) (Or.inl ⟨by rfl, ?_⟩) (by assumption) ?_
  rotate_left
  · intro w hSw
    (try dsimp only at hSw)
    go_simp
    (try (with_reducible rfl))
  try simp only [Act.put, List.setIfInBounds_toArray, List.set_cons_zero, List.set_cons_succ]
  refine wpAnyH_ready (rs := [2]) (by kernel_rfl) (by simp) ?_
  refine AllReadyH.cons (o := { dst := some 44, op := _, type := _, pos := _, after := _, guard := _ }) rfl (fun K hK => ?_) AllReadyH.nil
  go_simp
  -- call
  have BV := hHeld.2.2.2.2.2.2.2.2.2.2.2.2.1
  have BB := hHeld.2.2.2.2.2.2.2.2.2.2.2.2.2.1
  have BS := hHeld.2.2.2.2.2.2.2.2.2.2.2.2.2.2.1
  have BR := hHeld.2.2.2.2.2.2.2.2.2.2.2.2.2.2.2.1
  have r1 := hHeld.2.2.2.2.2.2.2.2.2.2.2.2.2.2.2.2.1
  have r2 := hHeld.2.2.2.2.2.2.2.2.2.2.2.2.2.2.2.2.2.1
  have hb := hHeld.2.2.2.2.2.2.2.2.2.2.2.2.2.2.2.2.2.2
  clear hHeld
  refine (HK1.out _ r1).mono ?_
  rintro e wq1 ⟨g1, k1, rfl, gg1, R1, hq1⟩
  replace BV := BV.below hq1
  replace BB := BB.below hq1
  replace BS := BS.below hq1
  replace BR := BR.below hq1
  replace r1 := r1.below hq1
  replace r2 := r2.below hq1
  replace hb := chain hb hq1
  have hs1 := hb.size
  have gl1 := R1.lt
  (try go_wp2_with fail)
  refine hK.out _ _ ⟨BV.four.1, BV.four.2.1, BV.four.2.2.1, BV.four.2.2.2.1, BB.two.1, BB.two.2.1, BS.four.1, BS.four.2.1, BS.four.2.2.1, BS.four.2.2.2.1, BR.two.1, BR.two.2.1, BV, BB, BS, BR, r1, r2, hb⟩ (fun hHeld => ?_)
  clear hK K
  try simp only [Act.put, List.setIfInBounds_toArray, List.set_cons_zero, List.set_cons_succ]
  refine wpAnyH_ready (rs := [5]) (by kernel_rfl) (by simp) ?_
  refine AllReadyH.cons (o := { dst := some 47, op := _, type := _, pos := _, after := _, guard := _ }) rfl (fun K hK => ?_) AllReadyH.nil
  go_simp
  -- call
  have BV := hHeld.2.2.2.2.2.2.2.2.2.2.2.2.1
  have BB := hHeld.2.2.2.2.2.2.2.2.2.2.2.2.2.1
  have BS := hHeld.2.2.2.2.2.2.2.2.2.2.2.2.2.2.1
  have BR := hHeld.2.2.2.2.2.2.2.2.2.2.2.2.2.2.2.1
  have r1 := hHeld.2.2.2.2.2.2.2.2.2.2.2.2.2.2.2.2.1
  have r2 := hHeld.2.2.2.2.2.2.2.2.2.2.2.2.2.2.2.2.2.1
  have hb := hHeld.2.2.2.2.2.2.2.2.2.2.2.2.2.2.2.2.2.2
  clear hHeld
  refine (HK2.out _ r2).mono ?_
  rintro e wq2 ⟨g2, k2, rfl, gg2, R2, hq2⟩
  replace BV := BV.below hq2
  replace BB := BB.below hq2
  replace BS := BS.below hq2
  replace BR := BR.below hq2
  replace r1 := r1.below hq2
  replace r2 := r2.below hq2
  replace hb := chain hb hq2
  replace R1 := R1.below hq2
  (try go_wp2_with fail)
  refine hK.out _ _ ⟨BV.four.1, BV.four.2.1, BV.four.2.2.1, BV.four.2.2.2.1, BB.two.1, BB.two.2.1, BS.four.1, BS.four.2.1, BS.four.2.2.1, BS.four.2.2.2.1, BR.two.1, BR.two.2.1, BV, BB, BS, BR, r1, r2, hb⟩ (fun hHeld => ?_)
  clear hK K
  try simp only [Act.put, List.setIfInBounds_toArray, List.set_cons_zero, List.set_cons_succ]
  refine wpAnyH_take (i := 6) (oi := { dst := some 8, op := _, type := _, pos := _, after := _, guard := _ }) (v := ?_) rfl (by kernel_rfl) (by kernel_rfl) (by kernel_rfl) (fun _ _ _ h => h) (Or.inl ⟨by rfl, ?_⟩) (by assumption) ?_
  rotate_left
  · intro w hSw
    (try dsimp only at hSw)
    go_simp
    (try (with_reducible rfl))
  try simp only [Act.put, List.setIfInBounds_toArray, List.set_cons_zero, List.set_cons_succ]
  refine wpAnyH_take (i := 7) (oi := { dst := some 9, op := _, type := _, pos := _, after := _, guard := _ }) (v := ?_) rfl (by kernel_rfl) (by kernel_rfl) (by kernel_rfl) (fun _ _ _ h => h) (Or.inl ⟨by rfl, ?_⟩) (by assumption) ?_
  rotate_left
  · intro w hSw
    (try dsimp only at hSw)
    go_simp
    (try (with_reducible rfl))
  try simp only [Act.put, List.setIfInBounds_toArray, List.set_cons_zero, List.set_cons_succ]
  refine wpAnyH_done (by kernel_rfl) ?_ _
  have BV := hHeld.2.2.2.2.2.2.2.2.2.2.2.2.1
  have BB := hHeld.2.2.2.2.2.2.2.2.2.2.2.2.2.1
  have BS := hHeld.2.2.2.2.2.2.2.2.2.2.2.2.2.2.1
  have BR := hHeld.2.2.2.2.2.2.2.2.2.2.2.2.2.2.2.1
  have r1 := hHeld.2.2.2.2.2.2.2.2.2.2.2.2.2.2.2.2.1
  have r2 := hHeld.2.2.2.2.2.2.2.2.2.2.2.2.2.2.2.2.2.1
  have hb := hHeld.2.2.2.2.2.2.2.2.2.2.2.2.2.2.2.2.2.2
  clear hHeld
  have gl2 := R2.lt
  have gl1b := R1.lt
  have hne1 : ¬ g1 = g2 := by omega
  have hne2 : ¬ g2 = g1 := by omega
  have hng10a : ¬ g1 = w.heap.size := by omega
  have hng10b : ¬ w.heap.size = g1 := by omega
  have hng11a : ¬ g1 = w.heap.size + 1 := by omega
  have hng11b : ¬ w.heap.size + 1 = g1 := by omega
  have hng12a : ¬ g1 = w.heap.size + 1 + 1 := by omega
  have hng12b : ¬ w.heap.size + 1 + 1 = g1 := by omega
  have hng13a : ¬ g1 = w.heap.size + 1 + 1 + 1 := by omega
  have hng13b : ¬ w.heap.size + 1 + 1 + 1 = g1 := by omega
  have hng20a : ¬ g2 = w.heap.size := by omega
  have hng20b : ¬ w.heap.size = g2 := by omega
  have hng21a : ¬ g2 = w.heap.size + 1 := by omega
  have hng21b : ¬ w.heap.size + 1 = g2 := by omega
  have hng22a : ¬ g2 = w.heap.size + 1 + 1 := by omega
  have hng22b : ¬ w.heap.size + 1 + 1 = g2 := by omega
  have hng23a : ¬ g2 = w.heap.size + 1 + 1 + 1 := by omega
  have hng23b : ¬ w.heap.size + 1 + 1 + 1 = g2 := by omega
  have fr1 := fun i => R1.free i
  have fr2 := fun i => R2.free i
  obtain ⟨x0, x1, x2, x3, xf, xl⟩ := BV.four
  obtain ⟨s0, s1, s2, s3, sf, sl⟩ := BS.four
  obtain ⟨u0, u1, uf, ul⟩ := BR.two
  have cu := R1.cell f (by omega); rw [Hu.out] at cu
  go_wp2_with fail
  go_region
  go_wp2_with fail
  go_region
  have hbZ : Below w.heap.size w (((wq2.setCell ⟨g1, f, none⟩ (.int .i64 (u + 1))).setCell ⟨g1, f, none⟩ (.int .i64 u)).drew.drew) := ((hb.setCell (by simp; omega) _).setCell (by simp; omega) _).drew.drew
  have R1Z : Row (((wq2.setCell ⟨g1, f, none⟩ (.int .i64 (u + 1))).setCell ⟨g1, f, none⟩ (.int .i64 u)).drew.drew) g1 X := ((R1.set f (u + 1)).set f u).drew.drew.wf EX.out
  have R2Z : Row (((wq2.setCell ⟨g1, f, none⟩ (.int .i64 (u + 1))).setCell ⟨g1, f, none⟩ (.int .i64 u)).drew.drew) g2 Y := ((R2.other (by omega)).other (by omega)).drew.drew.wf EY.out
  have BVZ : Blk (((wq2.setCell ⟨g1, f, none⟩ (.int .i64 (u + 1))).setCell ⟨g1, f, none⟩ (.int .i64 u)).drew.drew) w.heap.size #[.int .i64 (P : Int), .int .i64 c, .int .i64 h, .int .i64 s] 25 := ((BV.other (by omega)).other (by omega)).drew.drew
  have BSZ : Blk (((wq2.setCell ⟨g1, f, none⟩ (.int .i64 (u + 1))).setCell ⟨g1, f, none⟩ (.int .i64 u)).drew.drew) (w.heap.size + 1 + 1) #[.int .i64 (f : Int), .int .i64 ((f : Int)), .int .i64 td, .bool false] 30 := ((BS.other (by omega)).other (by omega)).drew.drew
  have BRZ : Blk (((wq2.setCell ⟨g1, f, none⟩ (.int .i64 (u + 1))).setCell ⟨g1, f, none⟩ (.int .i64 u)).drew.drew) (w.heap.size + 1 + 1 + 1) #[.slice none 0 0, .slice none 0 0] 28 := ((BR.other (by omega)).other (by omega)).drew.drew
  have hszZ : wq2.heap.size ≤ (((wq2.setCell ⟨g1, f, none⟩ (.int .i64 (u + 1))).setCell ⟨g1, f, none⟩ (.int .i64 u)).drew.drew).heap.size := by simp
  clear R1 R2 BV BS BR BB hb fr1 fr2 x0 x1 x2 x3 xf xl s0 s1 s2 s3 sf sl u0 u1 uf ul r1 r2 cu
  generalize ((wq2.setCell ⟨g1, f, none⟩ (.int .i64 (u + 1))).setCell ⟨g1, f, none⟩ (.int .i64 u)).drew.drew = W12 at *
  have R1 := R1Z
  have R2 := R2Z
  have BV := BVZ
  have BS := BSZ
  have BR := BRZ
  have hb := hbZ
  clear R1Z R2Z BVZ BSZ BRZ hbZ
  obtain ⟨x0, x1, x2, x3, xf, xl⟩ := BV.four
  obtain ⟨s0, s1, s2, s3, sf, sl⟩ := BS.four
  obtain ⟨u0, u1, uf, ul⟩ := BR.two
  have hb2 := fun W (q1 : IRow W (some ⟨g1, 0, none⟩) X) (q2 : IRow W (some ⟨g2, 0, none⟩) Y) => specIsBoard_any (P : Int) c h s (some ⟨g1, 0, none⟩) (some ⟨g2, 0, none⟩) n1 n2 k1 k2 X Y W HXl.out HYl.out l1 l2 q1 q2
  have hQ := HQ.out
  unfold lgB at hQ
  rw [show (P : Int).toNat = P by simp] at hQ
  cases gx : isB (P : Int) c h s X Y with
  | false =>
    rw [gx, Bool.false_and] at hQ
    subst hQ
    rw [gx] at hb2
    obtain rfl : XR = [] := by rw [← HXR.out]; simp
    obtain rfl : YR = [] := by rw [← HYR.out]; simp
    obtain rfl : RR = 4 := by rw [← HRR.out]; simp
    have HB2 := Lib.hid hb2
    clear hb2 gx HQ
    go_wp2_with (go_at_call 21; refine (HB2.out _ (R1.alloc _).irow (R2.alloc _).irow).mono ?_; rintro e w5 ⟨rfl, hb5⟩; obtain ⟨x0, x1, x2, x3, xf, xl⟩ := (BV.below (from_alloc hb5)).four; obtain ⟨s0, s1, s2, s3, sf, sl⟩ := (BS.below (from_alloc hb5)).four; obtain ⟨u0, u1, uf, ul⟩ := (BR.below (from_alloc hb5)).two; obtain ⟨v0, v1, vf, vl⟩ := ((Blk.new W12 #[.slice (some ⟨g1, 0, none⟩) n1 k1, .slice (some ⟨g2, 0, none⟩) n2 k2] 28).below hb5).two)
    refine bodyPost_ret (v := .tuple #[.agg #[.slice none 0 0, .slice none 0 0], .int .i64 4]) (by first | (simp [results, Try.results48, go_sem, u0, u1]; done) | (simp [results, Try.results48, go_sem, *]; done)) rfl ?_
    exact ⟨none, none, 0, 0, rfl, .inl ⟨rfl, rfl, rfl, rfl⟩, ((chain hb (from_alloc hb5)).setCell (by simp; omega) _).setCell (by simp; omega) _⟩
  | true =>
    rw [gx, Bool.true_and] at hQ
    rw [gx] at hb2
    have HB2 := Lib.hid hb2
    obtain ⟨_, _, _, _, _, _, M1, M2, hXX, hYY, _, _, _, _⟩ := isB_parts gx
    have hl2 := fun W (q1 : IRow W (some ⟨g1, 0, none⟩) X) (q2 : IRow W (some ⟨g2, 0, none⟩) Y) => l04IsLegal_any P c h s (some ⟨g1, 0, none⟩) (some ⟨g2, 0, none⟩) n1 n2 k1 k2 X Y W HXl.out HYl.out (by omega) (by omega) (by omega) (by omega) (by omega) (by omega) hXX hYY q1 q2 (by omega) ((f : Int), (f : Int), td, false)
    rw [hQ] at hl2
    have HL2 := Lib.hid hl2
    clear hb2 gx hl2 M1 M2 hXX hYY HQ hQ
    cases Q with
    | false =>
      obtain rfl : XR = [] := by rw [← HXR.out]; simp
      obtain rfl : YR = [] := by rw [← HYR.out]; simp
      obtain rfl : RR = 4 := by rw [← HRR.out]; simp
      go_wp2_with (first | (go_at_call 21; refine (HB2.out _ (R1.alloc _).irow (R2.alloc _).irow).mono ?_; rintro e w5 ⟨rfl, hb5⟩; obtain ⟨x0, x1, x2, x3, xf, xl⟩ := (BV.below (from_alloc hb5)).four; obtain ⟨s0, s1, s2, s3, sf, sl⟩ := (BS.below (from_alloc hb5)).four; obtain ⟨u0, u1, uf, ul⟩ := (BR.below (from_alloc hb5)).two; obtain ⟨v0, v1, vf, vl⟩ := ((Blk.new W12 #[.slice (some ⟨g1, 0, none⟩) n1 k1, .slice (some ⟨g2, 0, none⟩) n2 k2] 28).below hb5).two) | (go_at_call 61; refine (HL2.out _ ((R1.alloc _).below hb5).irow ((R2.alloc _).below hb5).irow).mono ?_; rintro e w6 ⟨rfl, hb6⟩; obtain ⟨u0, u1, uf, ul⟩ := (BR.below (chain (from_alloc hb5) hb6)).two; obtain ⟨v0, v1, vf, vl⟩ := ((Blk.new W12 #[.slice (some ⟨g1, 0, none⟩) n1 k1, .slice (some ⟨g2, 0, none⟩) n2 k2] 28).below (chain hb5 hb6)).two))
      refine bodyPost_ret (v := .tuple #[.agg #[.slice none 0 0, .slice none 0 0], .int .i64 4]) (by first | (simp [results, Try.results48, go_sem, u0, u1]; done) | (simp [results, Try.results48, go_sem, *]; done)) rfl ?_
      exact ⟨none, none, 0, 0, rfl, .inl ⟨rfl, rfl, rfl, rfl⟩, ((chain hb (chain (from_alloc hb5) hb6)).setCell (by simp; omega) _).setCell (by simp; omega) _⟩
    | true =>
      obtain rfl : XR = X := by rw [← HXR.out]; simp
      obtain rfl : YR = Y := by rw [← HYR.out]; simp
      obtain rfl : RR = 0 := by rw [← HRR.out]; simp
      go_wp2_with (first | (go_at_call 21; refine (HB2.out _ (R1.alloc _).irow (R2.alloc _).irow).mono ?_; rintro e w5 ⟨rfl, hb5⟩; obtain ⟨x0, x1, x2, x3, xf, xl⟩ := (BV.below (from_alloc hb5)).four; obtain ⟨s0, s1, s2, s3, sf, sl⟩ := (BS.below (from_alloc hb5)).four; obtain ⟨u0, u1, uf, ul⟩ := (BR.below (from_alloc hb5)).two; obtain ⟨v0, v1, vf, vl⟩ := ((Blk.new W12 #[.slice (some ⟨g1, 0, none⟩) n1 k1, .slice (some ⟨g2, 0, none⟩) n2 k2] 28).below hb5).two) | (go_at_call 61; refine (HL2.out _ ((R1.alloc _).below hb5).irow ((R2.alloc _).below hb5).irow).mono ?_; rintro e w6 ⟨rfl, hb6⟩; obtain ⟨u0, u1, uf, ul⟩ := (BR.below (chain (from_alloc hb5) hb6)).two; obtain ⟨v0, v1, vf, vl⟩ := ((Blk.new W12 #[.slice (some ⟨g1, 0, none⟩) n1 k1, .slice (some ⟨g2, 0, none⟩) n2 k2] 28).below (chain hb5 hb6)).two))
      have q1 := ((R1.alloc (.cells #[.slice (some ⟨g1, 0, none⟩) n1 k1, .slice (some ⟨g2, 0, none⟩) n2 k2] 28)).below hb5).below hb6
      have q2 := ((R2.alloc (.cells #[.slice (some ⟨g1, 0, none⟩) n1 k1, .slice (some ⟨g2, 0, none⟩) n2 k2] 28)).below hb5).below hb6
      refine bodyPost_ret (v := .tuple #[.agg #[.slice (some ⟨g1, 0, none⟩) n1 k1, .slice (some ⟨g2, 0, none⟩) n2 k2], .int .i64 0]) (by first | (simp [results, Try.results48, go_sem, u0, u1]; done) | (simp [results, Try.results48, go_sem, *]; done)) rfl ?_
      exact ⟨some ⟨g1, 0, none⟩, some ⟨g2, 0, none⟩, k1, k2, by rw [HXl.out, HYl.out], .inr ⟨g1, g2, rfl, rfl, by omega, by omega, by simpa using q1.lt, by omega, by simpa using q2.lt, (q1.other (by omega)).other (by omega), (q2.other (by omega)).other (by omega)⟩, ((chain hb (chain (from_alloc hb5) hb6)).setCell (by simp; omega) _).setCell (by simp; omega) _⟩
end Go.Proofs.Ytjglempkmenacaa
