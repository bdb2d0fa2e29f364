/- Contracts of the program and of its model on a roll from a seed. -/
import Derived.Test.Ytcmfknkdfkchmaa07a
namespace Go.Proofs.Ytcmfknkdfkchmaa
open Go.ChangeShapes Go.WideShapes Go.ChangeAt Go.RowKit
set_option linter.unusedVariables false
set_option linter.unusedSimpArgs false

theorem grown_newR {w w1 : World} {g g' o : Nat} {v : Value} (h : w.grownBy w1 (some g)) (hn : w.heap.size ≤ g') : w.grownBy (w1.setCell ⟨g', o, none⟩ v) (some g) := by
  have hb := Below.setCell (Below.refl g' w1) (p := ⟨g', o, none⟩) (Nat.le_refl _) v
  refine ⟨hb.os.trans h.os, hb.tape.trans h.tape, hb.output.trans h.output, Nat.le_trans h.size hb.size, fun i hi hr => ?_⟩
  rw [Below.heap_setCell w1 ⟨g', o, none⟩ v i (fun e => by simp only at e; omega)]
  exact h.block i hi hr
/-- A roll has been made by the generator in block g. -/
def RollGot (S x : Int) (g : Nat) (w : World) (e : Ending) (w' : World) : Prop :=
  e = .returned (.agg #[.int .i64 (frR S x).1, .int .i64 (frR S x).2]) ∧ Blk w' g #[.int .i64 (nxS (nxS x))] 68 ∧ w.grownBy w' (some g)
set_option maxRecDepth 8000 in
set_option maxHeartbeats 1000000 in
theorem roll_any (p c h : Int) (S : Nat) (g : Nat) (x : Int) (w : World) (hx : 1 ≤ x ∧ x ≤ 2147483646) (hS : 1 ≤ S ∧ S ≤ 6) (hG : Blk w g #[.int .i64 x] 68) :
    Calls Try.prog 56 #[.agg #[.int .i64 p, .int .i64 c, .int .i64 h, .int .i64 (S : Int)], .pointer (some ⟨g, 0, none⟩)] w (RollGot (S : Int) x g w) := by
  have hro := fun W => rollOfFaces_any (1 + nxS x % (S : Int)) (1 + nxS (nxS x) % (S : Int)) W
  unfold RollGot
  obtain ⟨FR, hFR⟩ : ∃ r, frR (S : Int) x = r := ⟨_, rfl⟩
  rw [show prR (1 + nxS x % (S : Int)) (1 + nxS (nxS x) % (S : Int)) = FR from hFR] at hro
  rw [hFR]
  obtain ⟨fa, fb⟩ := FR
  dsimp only at hro ⊢
  have HRO := Lib.hid hro
  clear hro hFR
  have hgl := hG.lt
  obtain ⟨BV, BR, hb, hz⟩ := two_new w #[.int .i64 p, .int .i64 c, .int .i64 h, .int .i64 (S : Int)] #[.int .i64 0, .int .i64 0] 25 33
  replace hG := hG.below hb
  have hgr : w.grownBy ((w.alloc (.cells #[.int .i64 p, .int .i64 c, .int .i64 h, .int .i64 (S : Int)] 25)).alloc (.cells #[.int .i64 0, .int .i64 0] 33)) (some g) := grown_of_below hb _
  go_enter Try.func56, Try.ntmps56
  obtain ⟨x0, x1, x2, x3, xf, xl⟩ := BV.four
  go_wp2_with fail
  clear x0 x1 x2 x3 xf xl
  generalize ((w.alloc (.cells #[.int .i64 p, .int .i64 c, .int .i64 h, .int .i64 (S : Int)] 25)).alloc (.cells #[.int .i64 0, .int .i64 0] 33)) = v0 at *
  have hd_ : v0.drew.heap.size = v0.heap.size := rfl
  replace BV := BV.drew
  replace BR := BR.drew
  replace hG := hG.drew
  replace hgr := grown_drew hgr
  refine wp_region_held_drew (S := fun w' => w'.cell? ⟨w.heap.size, 0, none⟩ = some (.int .i64 p) ∧ w'.cell? ⟨w.heap.size, 1, none⟩ = some (.int .i64 c) ∧ w'.cell? ⟨w.heap.size, 2, none⟩ = some (.int .i64 h) ∧ w'.cell? ⟨w.heap.size, 3, none⟩ = some (.int .i64 (S : Int))) (by kernel_rfl) ⟨BV.four.1, BV.four.2.1, BV.four.2.2.1, BV.four.2.2.2.1⟩ (fun hHeld => ?_)
  clear hHeld
  generalize v0.drew = vd1 at *
  have hHeld : vd1.cell? ⟨w.heap.size, 0, none⟩ = some (.int .i64 p) ∧ vd1.cell? ⟨w.heap.size, 1, none⟩ = some (.int .i64 c) ∧ vd1.cell? ⟨w.heap.size, 2, none⟩ = some (.int .i64 h) ∧ vd1.cell? ⟨w.heap.size, 3, none⟩ = some (.int .i64 (S : Int)) := ⟨BV.four.1, BV.four.2.1, BV.four.2.2.1, BV.four.2.2.2.1⟩
  refine wpAnyH_take (i := 0) (oi := { dst := some 7, op := _, type := _, pos := _, after := _, guard := _ }) (v := ?_) rfl (by kernel_rfl) (by kernel_rfl) (by kernel_rfl) (fun _ _ _ h => h) (Or.inl ⟨by rfl, ?_⟩) (by assumption) ?_
  rotate_left
  · intro w hSw
    (try dsimp only at hSw)
    go_simp
    (try (with_reducible rfl))
  try simp only [Act.put, List.setIfInBounds_toArray, List.set_cons_zero, List.set_cons_succ]
  refine wpAnyH_take (i := 1) (oi := { dst := some 8, op := _, type := _, pos := _, after := _, guard := _ }) (v := ?_) rfl (by kernel_rfl) (by kernel_rfl) (by kernel_rfl) (fun _ _ _ h => h) (Or.inl ⟨by rfl, ?_⟩) (by assumption) ?_
  rotate_left
  · intro w hSw
    (try dsimp only at hSw)
    go_simp
    (try (with_reducible rfl))
  try simp only [Act.put, List.setIfInBounds_toArray, List.set_cons_zero, List.set_cons_succ]
  refine wpAnyH_ready (rs := [2]) (by kernel_rfl) (by simp) ?_
  refine AllReadyH.cons (o := { dst := some 9, op := _, type := _, pos := _, after := _, guard := _ }) rfl (fun K hK => ?_) AllReadyH.nil
  go_simp
  refine (gnext_any g (x) _ hx hG).mono ?_
  rintro e w1a ⟨rfl, hG, hg⟩
  replace BV := BV.grown hg (by omega)
  replace BR := BR.grown hg (by omega)
  replace hgr := grown_trans hgr hg
  clear hg
  (try go_wp2_with fail)
  refine hK.out _ _ ⟨BV.four.1, BV.four.2.1, BV.four.2.2.1, BV.four.2.2.2.1⟩ (fun hHeld => ?_)
  clear hK K
  try simp only [Act.put, List.setIfInBounds_toArray, List.set_cons_zero, List.set_cons_succ]
  refine wpAnyH_ready (rs := [3]) (by kernel_rfl) (by simp) ?_
  refine AllReadyH.cons (o := { dst := some 10, op := _, type := _, pos := _, after := _, guard := _ }) rfl (fun K hK => ?_) AllReadyH.nil
  go_simp
  refine (face_any p c h S (nxS (x)) _ (nxS_seed hx) hS).mono ?_
  rintro e w1b ⟨rfl, hq⟩
  replace BV := BV.below hq
  replace BR := BR.below hq
  replace hG := hG.below hq
  replace hgr := grown_trans hgr (grown_of_below hq _)
  clear hq
  (try go_wp2_with fail)
  refine hK.out _ _ ⟨BV.four.1, BV.four.2.1, BV.four.2.2.1, BV.four.2.2.2.1⟩ (fun hHeld => ?_)
  clear hK K
  try simp only [Act.put, List.setIfInBounds_toArray, List.set_cons_zero, List.set_cons_succ]
  refine wpAnyH_take (i := 4) (oi := { dst := some 5, op := _, type := _, pos := _, after := _, guard := _ }) (v := ?_) rfl (by kernel_rfl) (by kernel_rfl) (by kernel_rfl) (fun _ _ _ h => h) (Or.inl ⟨by rfl, ?_⟩) (by assumption) ?_
  rotate_left
  · intro w hSw
    (try dsimp only at hSw)
    go_simp
    (try (with_reducible rfl))
  try simp only [Act.put, List.setIfInBounds_toArray, List.set_cons_zero, List.set_cons_succ]
  refine wpAnyH_done (by kernel_rfl) ?_ _
  clear hHeld
  obtain ⟨x0, x1, x2, x3, xf, xl⟩ := BV.four
  go_wp2_with fail
  clear x0 x1 x2 x3 xf xl
  have hd_ : w1b.drew.heap.size = w1b.heap.size := rfl
  replace BV := BV.drew
  replace BR := BR.drew
  replace hG := hG.drew
  replace hgr := grown_drew hgr
  refine wp_region_held_drew (S := fun w' => w'.cell? ⟨w.heap.size, 0, none⟩ = some (.int .i64 p) ∧ w'.cell? ⟨w.heap.size, 1, none⟩ = some (.int .i64 c) ∧ w'.cell? ⟨w.heap.size, 2, none⟩ = some (.int .i64 h) ∧ w'.cell? ⟨w.heap.size, 3, none⟩ = some (.int .i64 (S : Int))) (by kernel_rfl) ⟨BV.four.1, BV.four.2.1, BV.four.2.2.1, BV.four.2.2.2.1⟩ (fun hHeld => ?_)
  clear hHeld
  generalize w1b.drew = vd2 at *
  have hHeld : vd2.cell? ⟨w.heap.size, 0, none⟩ = some (.int .i64 p) ∧ vd2.cell? ⟨w.heap.size, 1, none⟩ = some (.int .i64 c) ∧ vd2.cell? ⟨w.heap.size, 2, none⟩ = some (.int .i64 h) ∧ vd2.cell? ⟨w.heap.size, 3, none⟩ = some (.int .i64 (S : Int)) := ⟨BV.four.1, BV.four.2.1, BV.four.2.2.1, BV.four.2.2.2.1⟩
  refine wpAnyH_take (i := 0) (oi := { dst := some 11, op := _, type := _, pos := _, after := _, guard := _ }) (v := ?_) rfl (by kernel_rfl) (by kernel_rfl) (by kernel_rfl) (fun _ _ _ h => h) (Or.inl ⟨by rfl, ?_⟩) (by assumption) ?_
  rotate_left
  · intro w hSw
    (try dsimp only at hSw)
    go_simp
    (try (with_reducible rfl))
  try simp only [Act.put, List.setIfInBounds_toArray, List.set_cons_zero, List.set_cons_succ]
  refine wpAnyH_take (i := 1) (oi := { dst := some 12, op := _, type := _, pos := _, after := _, guard := _ }) (v := ?_) rfl (by kernel_rfl) (by kernel_rfl) (by kernel_rfl) (fun _ _ _ h => h) (Or.inl ⟨by rfl, ?_⟩) (by assumption) ?_
  rotate_left
  · intro w hSw
    (try dsimp only at hSw)
    go_simp
    (try (with_reducible rfl))
  try simp only [Act.put, List.setIfInBounds_toArray, List.set_cons_zero, List.set_cons_succ]
  refine wpAnyH_ready (rs := [2]) (by kernel_rfl) (by simp) ?_
  refine AllReadyH.cons (o := { dst := some 13, op := _, type := _, pos := _, after := _, guard := _ }) rfl (fun K hK => ?_) AllReadyH.nil
  go_simp
  refine (gnext_any g (nxS x) _ (nxS_seed hx) hG).mono ?_
  rintro e w2a ⟨rfl, hG, hg⟩
  replace BV := BV.grown hg (by omega)
  replace BR := BR.grown hg (by omega)
  replace hgr := grown_trans hgr hg
  clear hg
  (try go_wp2_with fail)
  refine hK.out _ _ ⟨BV.four.1, BV.four.2.1, BV.four.2.2.1, BV.four.2.2.2.1⟩ (fun hHeld => ?_)
  clear hK K
  try simp only [Act.put, List.setIfInBounds_toArray, List.set_cons_zero, List.set_cons_succ]
  refine wpAnyH_ready (rs := [3]) (by kernel_rfl) (by simp) ?_
  refine AllReadyH.cons (o := { dst := some 14, op := _, type := _, pos := _, after := _, guard := _ }) rfl (fun K hK => ?_) AllReadyH.nil
  go_simp
  refine (face_any p c h S (nxS (nxS x)) _ (nxS_seed (nxS_seed hx)) hS).mono ?_
  rintro e w2b ⟨rfl, hq⟩
  replace BV := BV.below hq
  replace BR := BR.below hq
  replace hG := hG.below hq
  replace hgr := grown_trans hgr (grown_of_below hq _)
  clear hq
  (try go_wp2_with fail)
  refine hK.out _ _ ⟨BV.four.1, BV.four.2.1, BV.four.2.2.1, BV.four.2.2.2.1⟩ (fun hHeld => ?_)
  clear hK K
  try simp only [Act.put, List.setIfInBounds_toArray, List.set_cons_zero, List.set_cons_succ]
  refine wpAnyH_take (i := 4) (oi := { dst := some 6, op := _, type := _, pos := _, after := _, guard := _ }) (v := ?_) rfl (by kernel_rfl) (by kernel_rfl) (by kernel_rfl) (fun _ _ _ h => h) (Or.inl ⟨by rfl, ?_⟩) (by assumption) ?_
  rotate_left
  · intro w hSw
    (try dsimp only at hSw)
    go_simp
    (try (with_reducible rfl))
  try simp only [Act.put, List.setIfInBounds_toArray, List.set_cons_zero, List.set_cons_succ]
  refine wpAnyH_done (by kernel_rfl) ?_ _
  clear hHeld
  obtain ⟨x0, x1, x2, x3, xf, xl⟩ := BV.four
  obtain ⟨z0, z1, zf, zl⟩ := BR.two
  go_wp2_with (go_at_call 71; refine (HRO.out _).mono ?_; rintro e w3 ⟨rfl, hq⟩; obtain ⟨z0, z1, zf, zl⟩ := (BR.below hq).two; replace BR := BR.below hq; replace hG := hG.below hq; replace hgr := grown_trans hgr (grown_of_below hq _))
  have BRn := (BR.set (i := 0) (.int .i64 fa)).set (i := 1) (.int .i64 fb)
  obtain ⟨z0, z1, zf, zl⟩ := BRn.two
  refine bodyPost_ret (v := .agg #[.int .i64 fa, .int .i64 fb]) (by simp [results, Try.results56, go_sem, z0, z1]) rfl ?_
  exact ⟨rfl, (hG.other (by omega)).other (by omega), grown_newR (grown_newR hgr (by omega)) (by omega)⟩
set_option maxRecDepth 8000 in
set_option maxHeartbeats 1000000 in
theorem l07From_any (p c h : Int) (S : Nat) (x : Int) (w : World) (hx : 1 ≤ x ∧ x ≤ 2147483646) (hS : 1 ≤ S ∧ S ≤ 6) :
    Calls Try.prog 58 #[.agg #[.int .i64 p, .int .i64 c, .int .i64 h, .int .i64 (S : Int)], .int .i64 x] w fun e w' => e = .returned (.tuple #[.agg #[.int .i64 (frR (S : Int) x).1, .int .i64 (frR (S : Int) x).2], .int .i64 (nxS (nxS x))]) ∧ Below w.heap.size w w' := by
  obtain ⟨BV, BR, hb, hz⟩ := two_new w #[.int .i64 p, .int .i64 c, .int .i64 h, .int .i64 (S : Int)] #[.int .i64 0, .int .i64 0] 25 33
  have hy := nxS_seed hx
  have hyy := nxS_seed hy
  have hn1 := fun W => l07Next_any x W hx
  have hn2 := fun W => l07Next_any (nxS x) W hy
  unfold frR
  obtain ⟨y, hye⟩ : ∃ y, nxS x = y := ⟨_, rfl⟩
  rw [hye] at hn1 hn2 hy hyy ⊢
  obtain ⟨z, hze⟩ : ∃ z, nxS y = z := ⟨_, rfl⟩
  rw [hze] at hn2 hyy ⊢
  obtain ⟨y1, y2⟩ := hy
  obtain ⟨z1, z2⟩ := hyy
  have HN1 := Lib.hid hn1
  have HN2 := Lib.hid hn2
  have hS0 : ¬ S = 0 := by omega
  obtain ⟨Y, hY⟩ : ∃ Y, y % (S : Int) = Y := ⟨_, rfl⟩
  obtain ⟨Z, hZ⟩ : ∃ Z, z % (S : Int) = Z := ⟨_, rfl⟩
  have my1 : 0 ≤ Y := by rw [← hY]; exact Int.emod_nonneg y (show (S : Int) ≠ 0 by omega)
  have my2 : Y ≤ 6 := by have := Int.emod_lt_of_pos y (show 0 < (S : Int) by omega); omega
  have mz1 : 0 ≤ Z := by rw [← hZ]; exact Int.emod_nonneg z (show (S : Int) ≠ 0 by omega)
  have mz2 : Z ≤ 6 := by have := Int.emod_lt_of_pos z (show 0 < (S : Int) by omega); omega
  have t1 : y.tmod (S : Int) = Y := by rw [Int.tmod_eq_emod_of_nonneg (by omega)]; exact hY
  have t2 : z.tmod (S : Int) = Z := by rw [Int.tmod_eq_emod_of_nonneg (by omega)]; exact hZ
  have w1_ : IntKind.i64.wrap (1 + Y) = 1 + Y := IntWalk.i64_in _ (by omega)
  have w2_ : IntKind.i64.wrap (1 + Z) = 1 + Z := IntWalk.i64_in _ (by omega)
  have hpr := fun W => l07Pair_any (1 + Y) (1 + Z) W
  rw [hY, hZ]
  obtain ⟨⟨fa, fb⟩, hFR⟩ : ∃ r : Rl, prR (1 + Y) (1 + Z) = r := ⟨_, rfl⟩
  rw [hFR] at hpr ⊢
  dsimp only at hpr ⊢
  have HPR := Lib.hid hpr
  clear hpr hFR hY hZ
  clear hn1 hn2 hye hze hx hS
  go_enter Try.func58, Try.ntmps58
  obtain ⟨x0, x1, x2, x3, xf, xl⟩ := BV.four
  go_wp2_with (first | (go_at_call 66; refine (HN1.out _).mono ?_; clear HN1; rintro e w1 ⟨rfl, rfl⟩) | (go_at_call 66; refine (HN2.out _).mono ?_; clear HN2; rintro e w2 ⟨rfl, rfl⟩))
  clear x0 x1 x2 x3 xf xl
  generalize ((w.alloc (.cells #[.int .i64 p, .int .i64 c, .int .i64 h, .int .i64 (S : Int)] 25)).alloc (.cells #[.int .i64 0, .int .i64 0] 33)) = v0 at *
  have hd_ : v0.drew.heap.size = v0.heap.size := rfl
  replace BV := BV.drew
  replace BR := BR.drew
  replace hb := hb.drew
  refine wp_region_held_drew (S := fun w' => w'.cell? ⟨w.heap.size, 0, none⟩ = some (.int .i64 p) ∧ w'.cell? ⟨w.heap.size, 1, none⟩ = some (.int .i64 c) ∧ w'.cell? ⟨w.heap.size, 2, none⟩ = some (.int .i64 h) ∧ w'.cell? ⟨w.heap.size, 3, none⟩ = some (.int .i64 (S : Int))) (by kernel_rfl) ⟨BV.four.1, BV.four.2.1, BV.four.2.2.1, BV.four.2.2.2.1⟩ (fun hHeld => ?_)
  clear hHeld
  generalize v0.drew = vd at *
  have hHeld : vd.cell? ⟨w.heap.size, 0, none⟩ = some (.int .i64 p) ∧ vd.cell? ⟨w.heap.size, 1, none⟩ = some (.int .i64 c) ∧ vd.cell? ⟨w.heap.size, 2, none⟩ = some (.int .i64 h) ∧ vd.cell? ⟨w.heap.size, 3, none⟩ = some (.int .i64 (S : Int)) := ⟨BV.four.1, BV.four.2.1, BV.four.2.2.1, BV.four.2.2.2.1⟩
  refine wpAnyH_take (i := 0) (oi := { dst := some 12, op := _, type := _, pos := _, after := _, guard := _ }) (v := ?_) rfl (by kernel_rfl) (by kernel_rfl) (by kernel_rfl) (fun _ _ _ h => h) (Or.inl ⟨by rfl, ?_⟩) (by assumption) ?_
  rotate_left
  · intro w hSw
    (try dsimp only at hSw)
    go_simp
    (try (with_reducible rfl))
  try simp only [Act.put, List.setIfInBounds_toArray, List.set_cons_zero, List.set_cons_succ]
  refine wpAnyH_take (i := 1) (oi := { dst := some 13, op := _, type := _, pos := _, after := _, guard := _ }) (v := ?_) rfl (by kernel_rfl) (by kernel_rfl) (by kernel_rfl) (fun _ _ _ h => h) (Or.inl ⟨by rfl, ?_⟩) (by assumption) ?_
  rotate_left
  · intro w hSw
    (try dsimp only at hSw)
    go_simp
    (try (with_reducible rfl))
  try simp only [Act.put, List.setIfInBounds_toArray, List.set_cons_zero, List.set_cons_succ]
  refine wpAnyH_take (i := 2) (oi := { dst := some 14, op := _, type := _, pos := _, after := _, guard := _ }) (v := ?_) rfl (by kernel_rfl) (by kernel_rfl) (by kernel_rfl) (fun _ _ _ h => h) (Or.inl ⟨by rfl, ?_⟩) (by assumption) ?_
  rotate_left
  · intro w hSw
    (try dsimp only at hSw)
    go_simp
    (try (with_reducible rfl))
  try simp only [Act.put, List.setIfInBounds_toArray, List.set_cons_zero, List.set_cons_succ]
  refine wpAnyH_take (i := 3) (oi := { dst := some 15, op := _, type := _, pos := _, after := _, guard := _ }) (v := ?_) rfl (by kernel_rfl) (by kernel_rfl) (by kernel_rfl) (fun _ _ _ h => h) (Or.inl ⟨by rfl, ?_⟩) (by assumption) ?_
  rotate_left
  · intro w hSw
    (try dsimp only at hSw)
    go_simp
    (try (with_reducible rfl))
  try simp only [Act.put, List.setIfInBounds_toArray, List.set_cons_zero, List.set_cons_succ]
  refine wpAnyH_take (i := 4) (oi := { dst := some 16, op := _, type := _, pos := _, after := _, guard := _ }) (v := ?_) rfl (by kernel_rfl) (by kernel_rfl) (by kernel_rfl) (fun _ _ _ h => h) (Or.inl ⟨by rfl, ?_⟩) (by assumption) ?_
  rotate_left
  · intro w hSw
    (try dsimp only at hSw)
    go_simp
    (try (with_reducible rfl))
  try simp only [Act.put, List.setIfInBounds_toArray, List.set_cons_zero, List.set_cons_succ]
  refine wpAnyH_take (i := 5) (oi := { dst := some 17, op := _, type := _, pos := _, after := _, guard := _ }) (v := ?_) rfl (by kernel_rfl) (by kernel_rfl) (by kernel_rfl) (fun _ _ _ h => h) (Or.inl ⟨by rfl, ?_⟩) (by assumption) ?_
  rotate_left
  · intro w hSw
    (try dsimp only at hSw)
    go_simp
    (try (with_reducible rfl))
  try simp only [Act.put, List.setIfInBounds_toArray, List.set_cons_zero, List.set_cons_succ]
  refine wpAnyH_take (i := 6) (oi := { dst := some 18, op := _, type := _, pos := _, after := _, guard := _ }) (v := ?_) rfl (by kernel_rfl) (by kernel_rfl) (by kernel_rfl) (fun _ _ _ h => h) (Or.inl ⟨by rfl, ?_⟩) (by assumption) ?_
  rotate_left
  · intro w hSw
    (try dsimp only at hSw)
    go_simp
    (try (with_reducible rfl))
  try simp only [Act.put, List.setIfInBounds_toArray, List.set_cons_zero, List.set_cons_succ]
  refine wpAnyH_take (i := 7) (oi := { dst := some 19, op := _, type := _, pos := _, after := _, guard := _ }) (v := ?_) rfl (by kernel_rfl) (by kernel_rfl) (by kernel_rfl) (fun _ _ _ h => h) (Or.inl ⟨by rfl, ?_⟩) (by assumption) ?_
  rotate_left
  · intro w hSw
    (try dsimp only at hSw)
    go_simp
    (try (with_reducible rfl))
  try simp only [Act.put, List.setIfInBounds_toArray, List.set_cons_zero, List.set_cons_succ]
  refine wpAnyH_take (i := 8) (oi := { dst := some 20, op := _, type := _, pos := _, after := _, guard := _ }) (v := ?_) rfl (by kernel_rfl) (by kernel_rfl) (by kernel_rfl) (fun _ _ _ h => h) (Or.inl ⟨by rfl, ?_⟩) (by assumption) ?_
  rotate_left
  · intro w hSw
    (try dsimp only at hSw)
    go_simp
    (try (with_reducible rfl))
  try simp only [Act.put, List.setIfInBounds_toArray, List.set_cons_zero, List.set_cons_succ]
  refine wpAnyH_take (i := 9) (oi := { dst := some 21, op := _, type := _, pos := _, after := _, guard := _ }) (v := ?_) rfl (by kernel_rfl) (by kernel_rfl) (by kernel_rfl) (fun _ _ _ h => h) (Or.inl ⟨by rfl, ?_⟩) (by assumption) ?_
  rotate_left
  · intro w hSw
    (try dsimp only at hSw)
    go_simp
    (try (with_reducible rfl))
  try simp only [Act.put, List.setIfInBounds_toArray, List.set_cons_zero, List.set_cons_succ]
  refine wpAnyH_take (i := 11) (oi := { dst := some 23, op := _, type := _, pos := _, after := _, guard := _ }) (v := ?_) rfl (by kernel_rfl) (by kernel_rfl) (by kernel_rfl) (fun _ _ _ h => h) (Or.inl ⟨by rfl, ?_⟩) (by assumption) ?_
  rotate_left
  · intro w hSw
    (try dsimp only at hSw)
    go_simp
    (try (with_reducible rfl))
  try simp only [Act.put, List.setIfInBounds_toArray, List.set_cons_zero, List.set_cons_succ]
  refine wpAnyH_ready (rs := [10]) (by kernel_rfl) (by simp) ?_
  refine AllReadyH.cons (o := { dst := some 22, op := _, type := _, pos := _, after := _, guard := _ }) rfl (fun K hK => ?_) AllReadyH.nil
  go_simp
  refine (HPR.out _).mono ?_
  rintro e w3 ⟨rfl, hq⟩
  replace BV := BV.below hq
  replace BR := BR.below hq
  replace hb := chain hb hq
  clear hq
  (try go_wp2_with fail)
  refine hK.out _ _ ⟨BV.four.1, BV.four.2.1, BV.four.2.2.1, BV.four.2.2.2.1⟩ (fun hHeld => ?_)
  clear hK K
  try simp only [Act.put, List.setIfInBounds_toArray, List.set_cons_zero, List.set_cons_succ]
  refine wpAnyH_ready (rs := [12]) (by kernel_rfl) (by simp) ?_
  refine AllReadyH.cons (o := { dst := none, op := _, type := _, pos := _, after := _, guard := _ }) rfl (fun K hK => ?_) AllReadyH.nil
  obtain ⟨u0, u1, uf, ul⟩ := BR.two
  go_simp
  (try go_wp2_with fail)
  refine hK.out _ _ ⟨((BV.other (by omega)).other (by omega)).four.1, ((BV.other (by omega)).other (by omega)).four.2.1, ((BV.other (by omega)).other (by omega)).four.2.2.1, ((BV.other (by omega)).other (by omega)).four.2.2.2.1⟩ (fun hHeld => ?_)
  clear hK K
  try simp only [Act.put, List.setIfInBounds_toArray, List.set_cons_zero, List.set_cons_succ]
  refine wpAnyH_take (i := 13) (oi := { dst := some 5, op := _, type := _, pos := _, after := _, guard := _ }) (v := ?_) rfl (by kernel_rfl) (by kernel_rfl) (by kernel_rfl) (fun _ _ _ h => h) (Or.inl ⟨by rfl, ?_⟩) (by assumption) ?_
  rotate_left
  · intro w hSw
    (try dsimp only at hSw)
    go_simp
    (try (with_reducible rfl))
  try simp only [Act.put, List.setIfInBounds_toArray, List.set_cons_zero, List.set_cons_succ]
  refine wpAnyH_done (by kernel_rfl) ?_ _
  clear hHeld
  have BRn := (BR.set (i := 0) (.int .i64 fa)).set (i := 1) (.int .i64 fb)
  obtain ⟨u0, u1, uf, ul⟩ := BRn.two
  go_wp2_with fail
  refine bodyPost_ret (v := .tuple #[.agg #[.int .i64 fa, .int .i64 fb], .int .i64 z]) (by simp [results, Try.results58, go_sem, u0, u1]) rfl ?_
  exact ⟨rfl, (hb.setCell (by show _ ≤ w.heap.size + 1; omega) _).setCell (by show _ ≤ w.heap.size + 1; omega) _⟩
theorem specNextSeed_any (x : Int) (w : World) :
    Calls Try.prog 41 #[.int .i64 x] w fun e w' => e = .returned (.int .i64 (if sdB x = true then nxS x else 0)) ∧ w = w' := by
  have hs := fun W => l07Seed_any x W
  by_cases g : sdB x = true
  · rw [if_pos g]
    have hn := fun W => l07Next_any x W ((sdB_iff x).1 g)
    rw [g] at hs
    have HS := Lib.hid hs
    have HN := Lib.hid hn
    clear hs hn g
    go_enter Try.func41, Try.ntmps41
    go_wp2_with (first | (go_at_call 65; refine (HS.out _).mono ?_; rintro e w1 ⟨rfl, rfl⟩) | (go_at_call 66; refine (HN.out _).mono ?_; rintro e w2 ⟨rfl, rfl⟩))
    go_ret
    exact ⟨rfl, rfl⟩
  · rw [if_neg g]
    replace g : sdB x = false := by simpa using g
    rw [g] at hs
    have HS := Lib.hid hs
    clear hs g
    go_enter Try.func41, Try.ntmps41
    go_wp2_with (go_at_call 65; refine (HS.out _).mono ?_; rintro e w1 ⟨rfl, rfl⟩)
    go_ret
    exact ⟨rfl, rfl⟩
theorem nextSeed_any (x : Int) (w : World) :
    Calls Try.prog 28 #[.int .i64 x] w fun e w' => e = .returned (.int .i64 (if sdB x = true then nxS x else 0)) ∧ Below w.heap.size w w' := by
  have hs := fun W => isSeed_any x W
  by_cases g : sdB x = true
  · rw [if_pos g]
    have hn := fun G W B => gnext_any G x W ((sdB_iff x).1 g) B
    rw [g] at hs
    have HS := Lib.hid hs
    have HN := Lib.hid hn
    clear hs hn g
    have BG := Blk.new w #[.int .i64 x] 68
    have hb : Below w.heap.size w (w.alloc (.cells #[.int .i64 x] 68)) := (Below.refl _ _).alloc (Nat.le_refl _) _
    go_enter Try.func28, Try.ntmps28
    go_wp2_with (first | (go_at_call 59; refine (HS.out _).mono ?_; rintro e w1 ⟨rfl, rfl⟩) | (go_at_call 60; refine (HN.out _ _ BG).mono ?_; rintro e w2 ⟨rfl, hG, hg⟩))
    go_ret
    exact ⟨rfl, hb.grown hg hb.size (fun k hk => by cases hk; exact Nat.le_refl _)⟩
  · rw [if_neg g]
    replace g : sdB x = false := by simpa using g
    rw [g] at hs
    have HS := Lib.hid hs
    clear hs g
    go_enter Try.func28, Try.ntmps28
    go_wp2_with (go_at_call 59; refine (HS.out _).mono ?_; rintro e w1 ⟨rfl, rfl⟩)
    go_ret
    exact ⟨rfl, Below.refl _ _⟩
end Go.Proofs.Ytcmfknkdfkchmaa
