/- Contracts of the model of races: sums, adjusted counts and advice. -/
import Derived.Test.Ytjepbhainidpgaa14d
import Derived.Test.YtjepbhainidpgaaStp
namespace Go.Proofs.Ytjepbhainidpgaa
open Go.ChangeShapes Go.WideShapes Go.ChangeAt Go.RowKit
set_option linter.unusedVariables false
set_option linter.unusedSimpArgs false
set_option maxRecDepth 4000

set_option maxRecDepth 8000 in
set_option maxHeartbeats 2000000 in
theorem l14Sum_any (p c s : Int) (H : Nat) (a1 : Option Addr) (n1 c1 : Nat) (xs : List Int) (w : World) (h1 : xs.length = n1) (hl : n1 ≤ 25) (hH : H < n1) (hx : ∀ x ∈ xs, 0 ≤ x ∧ x ≤ 1000) (s0 : 0 ≤ xs.sum ∧ xs.sum ≤ 15) (r1 : IRow w a1 xs) :
    Calls Try.prog 69 #[.agg #[.int .i64 p, .int .i64 c, .int .i64 (H : Int), .int .i64 s], .slice a1 n1 c1] w fun e w' => e = .returned (.int .i64 (sumV H xs)) ∧ Below w.heap.size w w' := by
  have BV := Blk.new w #[.int .i64 p, .int .i64 c, .int .i64 (H : Int), .int .i64 s] 26
  have hb : Below w.heap.size w (w.alloc (.cells #[.int .i64 p, .int .i64 c, .int .i64 (H : Int), .int .i64 s] 26)) := (Below.refl _ _).alloc (Nat.le_refl _) _
  have hp := fun W (q : IRow W a1 xs) => l02Pips_any a1 n1 c1 xs W h1 (by omega) hx q
  have hk := fun W (q : IRow W a1 xs) => l02Sum_any a1 n1 c1 xs W h1 (by omega) hx q
  have b1 := pipsL_bound xs hx xs.length (Nat.le_refl _) (by omega)
  have b3 := hx _ (getD_mem (show 0 < xs.length by omega))
  have e0 : ∀ k : Nat, pipsL xs xs.length + 2 * xs.sum + xs.getD 0 0 - occL xs k = pipsL xs xs.length + 2 * xs.sum + xs.getD 0 0 - occL xs k := fun _ => rfl
  unfold sumV
  rw [h1] at b1 ⊢
  obtain ⟨b, oo, rfl, hcell⟩ := r1.below hb 0 (by omega)
  obtain ⟨D, hD⟩ : ∃ D, pipsL xs n1 = D := ⟨_, rfl⟩
  obtain ⟨K, hK⟩ : ∃ K, xs.sum = K := ⟨_, rfl⟩
  obtain ⟨X, hX⟩ : ∃ X, xs.getD 0 0 = X := ⟨_, rfl⟩
  rw [hD] at hp b1 ⊢
  rw [hK] at hk s0 ⊢
  rw [hX] at hcell b3 ⊢
  replace hcell : (w.alloc (.cells #[.int .i64 p, .int .i64 c, .int .i64 (H : Int), .int .i64 s] 26)).cell? ⟨b, oo, none⟩ = some (.int .i64 X) := hcell
  have wz1 : IntKind.i64.wrap (2 * K) = 2 * K := IntWalk.i64_in _ (by omega)
  have wz2 : IntKind.i64.wrap (D + 2 * K) = D + 2 * K := IntWalk.i64_in _ (by omega)
  have wz3 : IntKind.i64.wrap (D + 2 * K + X) = D + 2 * K + X := IntWalk.i64_in _ (by omega)
  have hn0 : (0 : Int) < (n1 : Int) := by omega
  have hn0' : 0 < n1 := by omega
  obtain ⟨T, hT⟩ : ∃ T, D + 2 * K + X = T := ⟨_, rfl⟩
  have ht : 0 ≤ T ∧ T ≤ 30000000 := by omega
  rw [hT] at wz3
  have HP := Lib.hid hp
  have HK := Lib.hid hk
  have HT := Lib.hid hT
  have HN := Lib.hid h1
  clear hp hk hD hK hX b1 b3 s0 hT h1 e0
  obtain ⟨x0, x1, x2, x3, xf, xl⟩ := BV.four
  go_enter Try.func69, Try.ntmps69
  go_wp2_with fail
  clear x0 x1 x2 x3 xf xl
  generalize (w.alloc (.cells #[.int .i64 p, .int .i64 c, .int .i64 (H : Int), .int .i64 s] 26)) = v0 at *
  have hd_ : v0.drew.heap.size = v0.heap.size := rfl
  replace BV := BV.drew
  replace hb := hb.drew
  replace hcell := CellIs.drew hcell
  refine wp_region_held_drew (S := fun w' => w'.cell? ⟨w.heap.size, 0, none⟩ = some (.int .i64 p) ∧ w'.cell? ⟨w.heap.size, 1, none⟩ = some (.int .i64 c) ∧ w'.cell? ⟨w.heap.size, 2, none⟩ = some (.int .i64 (H : Int)) ∧ w'.cell? ⟨w.heap.size, 3, none⟩ = some (.int .i64 s) ∧ w'.cell? ⟨b, oo, none⟩ = some (.int .i64 X)) (by kernel_rfl) ⟨BV.four.1, BV.four.2.1, BV.four.2.2.1, BV.four.2.2.2.1, hcell⟩ (fun hHeld => ?_)
  clear hHeld
  generalize v0.drew = vd at *
  have hHeld : vd.cell? ⟨w.heap.size, 0, none⟩ = some (.int .i64 p) ∧ vd.cell? ⟨w.heap.size, 1, none⟩ = some (.int .i64 c) ∧ vd.cell? ⟨w.heap.size, 2, none⟩ = some (.int .i64 (H : Int)) ∧ vd.cell? ⟨w.heap.size, 3, none⟩ = some (.int .i64 s) ∧ vd.cell? ⟨b, oo, none⟩ = some (.int .i64 X) := ⟨BV.four.1, BV.four.2.1, BV.four.2.2.1, BV.four.2.2.2.1, hcell⟩
  refine wpAnyH_take (i := 0) (oi := { dst := some 7, op := _, type := _, pos := _, after := _, guard := _ }) (v := ?_) rfl (by kernel_rfl) (by kernel_rfl) (by kernel_rfl) (fun _ _ _ h => h) (Or.inl ⟨by rfl, ?_⟩) (by assumption) ?_
  rotate_left
  · intro w hSw
    (try dsimp only at hSw)
    go_simp
    (try (with_reducible rfl))
  try simp only [Act.put, List.setIfInBounds_toArray, List.set_cons_zero, List.set_cons_succ]
  refine wpAnyH_take (i := 2) (oi := { dst := some 9, op := _, type := _, pos := _, after := _, guard := _ }) (v := ?_) rfl (by kernel_rfl) (by kernel_rfl) (by kernel_rfl) (fun _ _ _ h => h) (Or.inl ⟨by rfl, ?_⟩) (by assumption) ?_
  rotate_left
  · intro w hSw
    (try dsimp only at hSw)
    go_simp
    (try (with_reducible rfl))
  try simp only [Act.put, List.setIfInBounds_toArray, List.set_cons_zero, List.set_cons_succ]
  refine wpAnyH_take (i := 6) (oi := { dst := some 13, op := _, type := _, pos := _, after := _, guard := _ }) (v := ?_) rfl (by kernel_rfl) (by kernel_rfl) (by kernel_rfl) (fun _ _ _ h => h) (Or.inl ⟨by rfl, ?_⟩) (by assumption) ?_
  rotate_left
  · intro w hSw
    (try dsimp only at hSw)
    go_simp
    (try (with_reducible rfl))
  try simp only [Act.put, List.setIfInBounds_toArray, List.set_cons_zero, List.set_cons_succ]
  refine wpAnyH_take (i := 7) (oi := { dst := some 14, op := _, type := _, pos := _, after := _, guard := _ }) (v := ?_) rfl (by kernel_rfl) (by kernel_rfl) (by kernel_rfl) (fun _ _ _ h => h) (Or.inl ⟨by rfl, ?_⟩) (by assumption) ?_
  rotate_left
  · intro w hSw
    (try dsimp only at hSw)
    go_simp
    (try (with_reducible rfl))
  try simp only [Act.put, List.setIfInBounds_toArray, List.set_cons_zero, List.set_cons_succ]
  refine wpAnyH_take (i := 8) (oi := { dst := some 15, op := _, type := _, pos := _, after := _, guard := _ }) (v := ?_) rfl (by kernel_rfl) (by kernel_rfl) (by kernel_rfl) (fun _ _ _ h => h) (Or.inl ⟨by rfl, ?_⟩) (by assumption) ?_
  rotate_left
  · intro w hSw
    (try dsimp only at hSw)
    go_simp
    (try (with_reducible rfl))
  try simp only [Act.put, List.setIfInBounds_toArray, List.set_cons_zero, List.set_cons_succ]
  refine wpAnyH_ready (rs := [1]) (by kernel_rfl) (by simp) ?_
  refine AllReadyH.cons (o := { dst := some 8, op := _, type := _, pos := _, after := _, guard := _ }) rfl (fun K hK => ?_) AllReadyH.nil
  go_simp
  refine (HP.out _ (r1.below hb)).mono ?_
  rintro e w2 ⟨rfl, rfl⟩
  (try go_wp2_with fail)
  refine hK.out _ _ ⟨BV.four.1, BV.four.2.1, BV.four.2.2.1, BV.four.2.2.2.1, hcell⟩ (fun hHeld => ?_)
  clear hK K
  try simp only [Act.put, List.setIfInBounds_toArray, List.set_cons_zero, List.set_cons_succ]
  refine wpAnyH_ready (rs := [3]) (by kernel_rfl) (by simp) ?_
  refine AllReadyH.cons (o := { dst := some 10, op := _, type := _, pos := _, after := _, guard := _ }) rfl (fun K hK => ?_) AllReadyH.nil
  go_simp
  refine (HK.out _ (r1.below hb)).mono ?_
  rintro e w2 ⟨rfl, rfl⟩
  (try go_wp2_with fail)
  refine hK.out _ _ ⟨BV.four.1, BV.four.2.1, BV.four.2.2.1, BV.four.2.2.2.1, hcell⟩ (fun hHeld => ?_)
  clear hK K
  try simp only [Act.put, List.setIfInBounds_toArray, List.set_cons_zero, List.set_cons_succ]
  refine wpAnyH_take (i := 4) (oi := { dst := some 11, op := _, type := _, pos := _, after := _, guard := _ }) (v := ?_) rfl (by kernel_rfl) (by kernel_rfl) (by kernel_rfl) (fun _ _ _ h => h) (Or.inl ⟨by rfl, ?_⟩) (by assumption) ?_
  rotate_left
  · intro w hSw
    (try dsimp only at hSw)
    go_simp
    (try (with_reducible rfl))
  try simp only [Act.put, List.setIfInBounds_toArray, List.set_cons_zero, List.set_cons_succ]
  refine wpAnyH_take (i := 5) (oi := { dst := some 12, op := _, type := _, pos := _, after := _, guard := _ }) (v := ?_) rfl (by kernel_rfl) (by kernel_rfl) (by kernel_rfl) (fun _ _ _ h => h) (Or.inl ⟨by rfl, ?_⟩) (by assumption) ?_
  rotate_left
  · intro w hSw
    (try dsimp only at hSw)
    go_simp
    (try (with_reducible rfl))
  try simp only [Act.put, List.setIfInBounds_toArray, List.set_cons_zero, List.set_cons_succ]
  refine wpAnyH_take (i := 9) (oi := { dst := some 16, op := _, type := _, pos := _, after := _, guard := _ }) (v := ?_) rfl (by kernel_rfl) (by kernel_rfl) (by kernel_rfl) (fun _ _ _ h => h) (Or.inl ⟨by rfl, ?_⟩) (by assumption) ?_
  rotate_left
  · intro w hSw
    (try dsimp only at hSw)
    go_simp
    (try (with_reducible rfl))
  try simp only [Act.put, List.setIfInBounds_toArray, List.set_cons_zero, List.set_cons_succ]
  refine wpAnyH_take (i := 10) (oi := { dst := some 5, op := _, type := _, pos := _, after := _, guard := _ }) (v := ?_) rfl (by kernel_rfl) (by kernel_rfl) (by kernel_rfl) (fun _ _ _ h => h) (Or.inl ⟨by rfl, ?_⟩) (by assumption) ?_
  rotate_left
  · intro w hSw
    (try dsimp only at hSw)
    go_simp
    (try (with_reducible rfl))
  try simp only [Act.put, List.setIfInBounds_toArray, List.set_cons_zero, List.set_cons_succ]
  refine wpAnyH_done (by kernel_rfl) ?_ _
  clear hHeld
  clear hcell
  go_wp2
  go_loopg [5, 6] H (fun m q i wr => ∃ k : Nat, k ≤ H ∧ m = H - k ∧ i = .int .i64 k ∧ q = .int .i64 (T - occL xs k) ∧ Blk wr w.heap.size #[.int .i64 p, .int .i64 c, .int .i64 (H : Int), .int .i64 s] 26 ∧ Below w.heap.size w wr)
  case atStart => exact ⟨0, by omega, by omega, rfl, by simp [occL, HT.out, wz3], BV, hb⟩
  case round =>
    clear BV hb
    obtain ⟨k, hk, hm, rfl, rfl, BV, hb⟩ := hrel
    by_cases hlt : k < H
    · have hlt' : (k : Int) < (H : Int) := by omega
      have hkn : (k : Int) < (n1 : Int) := by omega
      have hk0 : (0 : Int) ≤ (k : Int) := by omega
      have hbd := occL_bound xs k
      obtain ⟨b', oo', e', hcell⟩ := r1.below hb k (by have := HN.out; omega)
      simp only [Option.some.injEq, Addr.mk.injEq, and_true] at e'
      obtain ⟨rfl, rfl⟩ := e'
      have hst : occL xs (k + 1) = if 0 < xs.getD k 0 then occL xs k + 1 else occL xs k := rfl
      obtain ⟨v, hv⟩ : ∃ v, xs.getD k 0 = v := ⟨_, rfl⟩
      obtain ⟨C, hC⟩ : ∃ C, occL xs k = C := ⟨_, rfl⟩
      rw [hv, hC] at hst
      rw [hv] at hcell
      rw [hC] at hbd ⊢
      have wz5 : IntKind.i64.wrap (T - C - 1) = T - C - 1 := IntWalk.i64_in _ (by omega)
      obtain ⟨x0, x1, x2, x3, xf, xl⟩ := BV.four
      by_cases d : 0 < v
      · rw [if_pos d] at hst
        have HS := Lib.hid hst
        have g1 : decide (0 < v) = true := by simpa using d
        clear hst d hv hC
        go_wp2
        go_roundg (H - (k + 1))
        case measure => omega
        case rel => exact ⟨k + 1, by omega, rfl, by go_num, by rw [HS.out]; congr 1; omega, BV, hb⟩
      · rw [if_neg d] at hst
        have HS := Lib.hid hst
        have g1 : decide (0 < v) = false := by simpa using d
        clear hst d hv hC
        go_wp2
        go_roundg (H - (k + 1))
        case measure => omega
        case rel => exact ⟨k + 1, by omega, rfl, by go_num, by rw [HS.out], BV, hb⟩
    · obtain rfl : k = H := by omega
      have hlt' : ¬ ((k : Nat) : Int) < (k : Int) := by omega
      obtain ⟨x0, x1, x2, x3, xf, xl⟩ := BV.four
      go_wp2
      go_ret
      exact ⟨by rw [HT.out]; rfl, hb⟩
set_option maxRecDepth 8000 in
set_option maxHeartbeats 2000000 in
theorem l14Counts_any (p c s : Int) (H : Nat) (a1 a2 : Option Addr) (n1 n2 c1 c2 : Nat) (xs ys : List Int) (w : World) (h1 : xs.length = n1) (h2 : ys.length = n2) (l1 : n1 ≤ 1048576) (l2 : n2 ≤ 1048576) (r1 : IRow w a1 xs) (r2 : IRow w a2 ys) (g : isB p c (H : Int) s xs ys = true) :
    Calls Try.prog 44 #[.agg #[.int .i64 p, .int .i64 c, .int .i64 (H : Int), .int .i64 s], .agg #[.slice a1 n1 c1, .slice a2 n2 c2]] w fun e w' => e = .returned (.tuple #[.int .i64 (adjV H xs), .int .i64 (10 * sumV H ys)]) ∧ Below w.heap.size w w' := by
  obtain ⟨p0, p1, k0, k1, k2, k3, N1, N2, hx, hy, s0, s1, s2, s3⟩ := isB_parts g
  obtain ⟨BV, BB, hb, hz⟩ := two_new w #[.int .i64 p, .int .i64 c, .int .i64 (H : Int), .int .i64 s] #[.slice a1 n1 c1, .slice a2 n2 c2] 26 34
  clear hz
  obtain ⟨x0, x1, x2, x3, xf, xl⟩ := BV.four
  obtain ⟨y0, y1, yf, yl⟩ := BB.two
  have hs1 := fun W (q : IRow W a1 xs) => l14Sum_any p c s H a1 n1 c1 xs W h1 (by omega) (by omega) hx (by omega) q
  have hs2 := fun W (q : IRow W a2 ys) => l14Sum_any p c s H a2 n2 c2 ys W h2 (by omega) (by omega) hy (by omega) q
  have b1 := sumV_bound H xs hx (by omega) (by omega) (by omega) (by omega)
  have b2 := sumV_bound H ys hy (by omega) (by omega) (by omega) (by omega)
  have e0 : adjV H xs = if 30 < sumV H xs then 11 * sumV H xs else 10 * sumV H xs := rfl
  rw [e0]
  obtain ⟨X, hX⟩ : ∃ X, sumV H xs = X := ⟨_, rfl⟩
  obtain ⟨Y, hY⟩ : ∃ Y, sumV H ys = Y := ⟨_, rfl⟩
  rw [hX] at hs1 b1 ⊢
  rw [hY] at hs2 b2 ⊢
  have wz1 : IntKind.i64.wrap (11 * X) = 11 * X := IntWalk.i64_in _ (by omega)
  have wz2 : IntKind.i64.wrap (10 * X) = 10 * X := IntWalk.i64_in _ (by omega)
  have wz3 : IntKind.i64.wrap (10 * Y) = 10 * Y := IntWalk.i64_in _ (by omega)
  have HS1 := Lib.hid hs1
  have HS2 := Lib.hid hs2
  clear hs1 hs2 hX hY e0 b1 b2 hx hy N1 N2 g s0 s1 s2 s3
  by_cases d : 30 < X
  · have g1 : decide (30 < X) = true := by simpa using d
    rw [if_pos d]
    clear d
    go_enter Try.func44, Try.ntmps44
    go_wp2_with fail
    clear x0 x1 x2 x3 xf xl y0 y1 yf yl
    generalize ((w.alloc (.cells #[.int .i64 p, .int .i64 c, .int .i64 (H : Int), .int .i64 s] 26)).alloc (.cells #[.slice a1 n1 c1, .slice a2 n2 c2] 34)) = v0 at *
    have hd_ : v0.drew.heap.size = v0.heap.size := rfl
    replace BV := BV.drew
    replace BB := BB.drew
    replace hb := hb.drew
    refine wp_region_held_drew (S := fun w' => w'.cell? ⟨w.heap.size, 0, none⟩ = some (.int .i64 p) ∧ w'.cell? ⟨w.heap.size, 1, none⟩ = some (.int .i64 c) ∧ w'.cell? ⟨w.heap.size, 2, none⟩ = some (.int .i64 (H : Int)) ∧ w'.cell? ⟨w.heap.size, 3, none⟩ = some (.int .i64 s) ∧ w'.cell? ⟨(w.heap.size + 1), 0, none⟩ = some (.slice a1 n1 c1) ∧ w'.cell? ⟨(w.heap.size + 1), 1, none⟩ = some (.slice a2 n2 c2)) (by kernel_rfl) ⟨BV.four.1, BV.four.2.1, BV.four.2.2.1, BV.four.2.2.2.1, BB.two.1, BB.two.2.1⟩ (fun hHeld => ?_)
    clear hHeld
    generalize v0.drew = vd at *
    have hHeld : vd.cell? ⟨w.heap.size, 0, none⟩ = some (.int .i64 p) ∧ vd.cell? ⟨w.heap.size, 1, none⟩ = some (.int .i64 c) ∧ vd.cell? ⟨w.heap.size, 2, none⟩ = some (.int .i64 (H : Int)) ∧ vd.cell? ⟨w.heap.size, 3, none⟩ = some (.int .i64 s) ∧ vd.cell? ⟨(w.heap.size + 1), 0, none⟩ = some (.slice a1 n1 c1) ∧ vd.cell? ⟨(w.heap.size + 1), 1, none⟩ = some (.slice a2 n2 c2) := ⟨BV.four.1, BV.four.2.1, BV.four.2.2.1, BV.four.2.2.2.1, BB.two.1, BB.two.2.1⟩
    refine wpAnyH_take (i := 0) (oi := { dst := some 8, op := _, type := _, pos := _, after := _, guard := _ }) (v := ?_) rfl (by kernel_rfl) (by kernel_rfl) (by kernel_rfl) (fun _ _ _ h => h) (Or.inl ⟨by rfl, ?_⟩) (by assumption) ?_
    rotate_left
    · intro w hSw
      (try dsimp only at hSw)
      go_simp
      (try (with_reducible rfl))
    try simp only [Act.put, List.setIfInBounds_toArray, List.set_cons_zero, List.set_cons_succ]
    refine wpAnyH_take (i := 1) (oi := { dst := some 9, op := _, type := _, pos := _, after := _, guard := _ }) (v := ?_) rfl (by kernel_rfl) (by kernel_rfl) (by kernel_rfl) (fun _ _ _ h => h) (Or.inl ⟨by rfl, ?_⟩) (by assumption) ?_
    rotate_left
    · intro w hSw
      (try dsimp only at hSw)
      go_simp
      (try (with_reducible rfl))
    try simp only [Act.put, List.setIfInBounds_toArray, List.set_cons_zero, List.set_cons_succ]
    refine wpAnyH_take (i := 2) (oi := { dst := some 10, op := _, type := _, pos := _, after := _, guard := _ }) (v := ?_) rfl (by kernel_rfl) (by kernel_rfl) (by kernel_rfl) (fun _ _ _ h => h) (Or.inl ⟨by rfl, ?_⟩) (by assumption) ?_
    rotate_left
    · intro w hSw
      (try dsimp only at hSw)
      go_simp
      (try (with_reducible rfl))
    try simp only [Act.put, List.setIfInBounds_toArray, List.set_cons_zero, List.set_cons_succ]
    refine wpAnyH_take (i := 4) (oi := { dst := some 12, op := _, type := _, pos := _, after := _, guard := _ }) (v := ?_) rfl (by kernel_rfl) (by kernel_rfl) (by kernel_rfl) (fun _ _ _ h => h) (Or.inl ⟨by rfl, ?_⟩) (by assumption) ?_
    rotate_left
    · intro w hSw
      (try dsimp only at hSw)
      go_simp
      (try (with_reducible rfl))
    try simp only [Act.put, List.setIfInBounds_toArray, List.set_cons_zero, List.set_cons_succ]
    refine wpAnyH_take (i := 5) (oi := { dst := some 13, op := _, type := _, pos := _, after := _, guard := _ }) (v := ?_) rfl (by kernel_rfl) (by kernel_rfl) (by kernel_rfl) (fun _ _ _ h => h) (Or.inl ⟨by rfl, ?_⟩) (by assumption) ?_
    rotate_left
    · intro w hSw
      (try dsimp only at hSw)
      go_simp
      (try (with_reducible rfl))
    try simp only [Act.put, List.setIfInBounds_toArray, List.set_cons_zero, List.set_cons_succ]
    refine wpAnyH_take (i := 6) (oi := { dst := some 14, op := _, type := _, pos := _, after := _, guard := _ }) (v := ?_) rfl (by kernel_rfl) (by kernel_rfl) (by kernel_rfl) (fun _ _ _ h => h) (Or.inl ⟨by rfl, ?_⟩) (by assumption) ?_
    rotate_left
    · intro w hSw
      (try dsimp only at hSw)
      go_simp
      (try (with_reducible rfl))
    try simp only [Act.put, List.setIfInBounds_toArray, List.set_cons_zero, List.set_cons_succ]
    refine wpAnyH_ready (rs := [3]) (by kernel_rfl) (by simp) ?_
    refine AllReadyH.cons (o := { dst := some 11, op := _, type := _, pos := _, after := _, guard := _ }) rfl (fun K hK => ?_) AllReadyH.nil
    go_simp
    refine (HS1.out _ (r1.below hb)).mono ?_
    rintro e w2 ⟨rfl, hb2⟩
    replace BV := BV.below hb2
    replace BB := BB.below hb2
    replace hb := chain hb hb2
    (try go_wp2_with fail)
    refine hK.out _ _ ⟨BV.four.1, BV.four.2.1, BV.four.2.2.1, BV.four.2.2.2.1, BB.two.1, BB.two.2.1⟩ (fun hHeld => ?_)
    clear hK K
    try simp only [Act.put, List.setIfInBounds_toArray, List.set_cons_zero, List.set_cons_succ]
    refine wpAnyH_ready (rs := [7]) (by kernel_rfl) (by simp) ?_
    refine AllReadyH.cons (o := { dst := some 15, op := _, type := _, pos := _, after := _, guard := _ }) rfl (fun K hK => ?_) AllReadyH.nil
    go_simp
    refine (HS2.out _ (r2.below hb)).mono ?_
    rintro e w2 ⟨rfl, hb2⟩
    replace BV := BV.below hb2
    replace BB := BB.below hb2
    replace hb := chain hb hb2
    (try go_wp2_with fail)
    refine hK.out _ _ ⟨BV.four.1, BV.four.2.1, BV.four.2.2.1, BV.four.2.2.2.1, BB.two.1, BB.two.2.1⟩ (fun hHeld => ?_)
    clear hK K
    try simp only [Act.put, List.setIfInBounds_toArray, List.set_cons_zero, List.set_cons_succ]
    refine wpAnyH_take (i := 8) (oi := { dst := some 6, op := _, type := _, pos := _, after := _, guard := _ }) (v := ?_) rfl (by kernel_rfl) (by kernel_rfl) (by kernel_rfl) (fun _ _ _ h => h) (Or.inl ⟨by rfl, ?_⟩) (by assumption) ?_
    rotate_left
    · intro w hSw
      (try dsimp only at hSw)
      go_simp
      (try (with_reducible rfl))
    try simp only [Act.put, List.setIfInBounds_toArray, List.set_cons_zero, List.set_cons_succ]
    refine wpAnyH_take (i := 9) (oi := { dst := some 7, op := _, type := _, pos := _, after := _, guard := _ }) (v := ?_) rfl (by kernel_rfl) (by kernel_rfl) (by kernel_rfl) (fun _ _ _ h => h) (Or.inl ⟨by rfl, ?_⟩) (by assumption) ?_
    rotate_left
    · intro w hSw
      (try dsimp only at hSw)
      go_simp
      (try (with_reducible rfl))
    try simp only [Act.put, List.setIfInBounds_toArray, List.set_cons_zero, List.set_cons_succ]
    refine wpAnyH_done (by kernel_rfl) ?_ _
    clear hHeld
    go_wp2
    go_ret2
    exact ⟨rfl, hb⟩
  · have g1 : decide (30 < X) = false := by simpa using d
    rw [if_neg d]
    clear d
    go_enter Try.func44, Try.ntmps44
    go_wp2_with fail
    clear x0 x1 x2 x3 xf xl y0 y1 yf yl
    generalize ((w.alloc (.cells #[.int .i64 p, .int .i64 c, .int .i64 (H : Int), .int .i64 s] 26)).alloc (.cells #[.slice a1 n1 c1, .slice a2 n2 c2] 34)) = v0 at *
    have hd_ : v0.drew.heap.size = v0.heap.size := rfl
    replace BV := BV.drew
    replace BB := BB.drew
    replace hb := hb.drew
    refine wp_region_held_drew (S := fun w' => w'.cell? ⟨w.heap.size, 0, none⟩ = some (.int .i64 p) ∧ w'.cell? ⟨w.heap.size, 1, none⟩ = some (.int .i64 c) ∧ w'.cell? ⟨w.heap.size, 2, none⟩ = some (.int .i64 (H : Int)) ∧ w'.cell? ⟨w.heap.size, 3, none⟩ = some (.int .i64 s) ∧ w'.cell? ⟨(w.heap.size + 1), 0, none⟩ = some (.slice a1 n1 c1) ∧ w'.cell? ⟨(w.heap.size + 1), 1, none⟩ = some (.slice a2 n2 c2)) (by kernel_rfl) ⟨BV.four.1, BV.four.2.1, BV.four.2.2.1, BV.four.2.2.2.1, BB.two.1, BB.two.2.1⟩ (fun hHeld => ?_)
    clear hHeld
    generalize v0.drew = vd at *
    have hHeld : vd.cell? ⟨w.heap.size, 0, none⟩ = some (.int .i64 p) ∧ vd.cell? ⟨w.heap.size, 1, none⟩ = some (.int .i64 c) ∧ vd.cell? ⟨w.heap.size, 2, none⟩ = some (.int .i64 (H : Int)) ∧ vd.cell? ⟨w.heap.size, 3, none⟩ = some (.int .i64 s) ∧ vd.cell? ⟨(w.heap.size + 1), 0, none⟩ = some (.slice a1 n1 c1) ∧ vd.cell? ⟨(w.heap.size + 1), 1, none⟩ = some (.slice a2 n2 c2) := ⟨BV.four.1, BV.four.2.1, BV.four.2.2.1, BV.four.2.2.2.1, BB.two.1, BB.two.2.1⟩
    refine wpAnyH_take (i := 0) (oi := { dst := some 8, op := _, type := _, pos := _, after := _, guard := _ }) (v := ?_) rfl (by kernel_rfl) (by kernel_rfl) (by kernel_rfl) (fun _ _ _ h => h) (Or.inl ⟨by rfl, ?_⟩) (by assumption) ?_
    rotate_left
    · intro w hSw
      (try dsimp only at hSw)
      go_simp
      (try (with_reducible rfl))
    try simp only [Act.put, List.setIfInBounds_toArray, List.set_cons_zero, List.set_cons_succ]
    refine wpAnyH_take (i := 1) (oi := { dst := some 9, op := _, type := _, pos := _, after := _, guard := _ }) (v := ?_) rfl (by kernel_rfl) (by kernel_rfl) (by kernel_rfl) (fun _ _ _ h => h) (Or.inl ⟨by rfl, ?_⟩) (by assumption) ?_
    rotate_left
    · intro w hSw
      (try dsimp only at hSw)
      go_simp
      (try (with_reducible rfl))
    try simp only [Act.put, List.setIfInBounds_toArray, List.set_cons_zero, List.set_cons_succ]
    refine wpAnyH_take (i := 2) (oi := { dst := some 10, op := _, type := _, pos := _, after := _, guard := _ }) (v := ?_) rfl (by kernel_rfl) (by kernel_rfl) (by kernel_rfl) (fun _ _ _ h => h) (Or.inl ⟨by rfl, ?_⟩) (by assumption) ?_
    rotate_left
    · intro w hSw
      (try dsimp only at hSw)
      go_simp
      (try (with_reducible rfl))
    try simp only [Act.put, List.setIfInBounds_toArray, List.set_cons_zero, List.set_cons_succ]
    refine wpAnyH_take (i := 4) (oi := { dst := some 12, op := _, type := _, pos := _, after := _, guard := _ }) (v := ?_) rfl (by kernel_rfl) (by kernel_rfl) (by kernel_rfl) (fun _ _ _ h => h) (Or.inl ⟨by rfl, ?_⟩) (by assumption) ?_
    rotate_left
    · intro w hSw
      (try dsimp only at hSw)
      go_simp
      (try (with_reducible rfl))
    try simp only [Act.put, List.setIfInBounds_toArray, List.set_cons_zero, List.set_cons_succ]
    refine wpAnyH_take (i := 5) (oi := { dst := some 13, op := _, type := _, pos := _, after := _, guard := _ }) (v := ?_) rfl (by kernel_rfl) (by kernel_rfl) (by kernel_rfl) (fun _ _ _ h => h) (Or.inl ⟨by rfl, ?_⟩) (by assumption) ?_
    rotate_left
    · intro w hSw
      (try dsimp only at hSw)
      go_simp
      (try (with_reducible rfl))
    try simp only [Act.put, List.setIfInBounds_toArray, List.set_cons_zero, List.set_cons_succ]
    refine wpAnyH_take (i := 6) (oi := { dst := some 14, op := _, type := _, pos := _, after := _, guard := _ }) (v := ?_) rfl (by kernel_rfl) (by kernel_rfl) (by kernel_rfl) (fun _ _ _ h => h) (Or.inl ⟨by rfl, ?_⟩) (by assumption) ?_
    rotate_left
    · intro w hSw
      (try dsimp only at hSw)
      go_simp
      (try (with_reducible rfl))
    try simp only [Act.put, List.setIfInBounds_toArray, List.set_cons_zero, List.set_cons_succ]
    refine wpAnyH_ready (rs := [3]) (by kernel_rfl) (by simp) ?_
    refine AllReadyH.cons (o := { dst := some 11, op := _, type := _, pos := _, after := _, guard := _ }) rfl (fun K hK => ?_) AllReadyH.nil
    go_simp
    refine (HS1.out _ (r1.below hb)).mono ?_
    rintro e w2 ⟨rfl, hb2⟩
    replace BV := BV.below hb2
    replace BB := BB.below hb2
    replace hb := chain hb hb2
    (try go_wp2_with fail)
    refine hK.out _ _ ⟨BV.four.1, BV.four.2.1, BV.four.2.2.1, BV.four.2.2.2.1, BB.two.1, BB.two.2.1⟩ (fun hHeld => ?_)
    clear hK K
    try simp only [Act.put, List.setIfInBounds_toArray, List.set_cons_zero, List.set_cons_succ]
    refine wpAnyH_ready (rs := [7]) (by kernel_rfl) (by simp) ?_
    refine AllReadyH.cons (o := { dst := some 15, op := _, type := _, pos := _, after := _, guard := _ }) rfl (fun K hK => ?_) AllReadyH.nil
    go_simp
    refine (HS2.out _ (r2.below hb)).mono ?_
    rintro e w2 ⟨rfl, hb2⟩
    replace BV := BV.below hb2
    replace BB := BB.below hb2
    replace hb := chain hb hb2
    (try go_wp2_with fail)
    refine hK.out _ _ ⟨BV.four.1, BV.four.2.1, BV.four.2.2.1, BV.four.2.2.2.1, BB.two.1, BB.two.2.1⟩ (fun hHeld => ?_)
    clear hK K
    try simp only [Act.put, List.setIfInBounds_toArray, List.set_cons_zero, List.set_cons_succ]
    refine wpAnyH_take (i := 8) (oi := { dst := some 6, op := _, type := _, pos := _, after := _, guard := _ }) (v := ?_) rfl (by kernel_rfl) (by kernel_rfl) (by kernel_rfl) (fun _ _ _ h => h) (Or.inl ⟨by rfl, ?_⟩) (by assumption) ?_
    rotate_left
    · intro w hSw
      (try dsimp only at hSw)
      go_simp
      (try (with_reducible rfl))
    try simp only [Act.put, List.setIfInBounds_toArray, List.set_cons_zero, List.set_cons_succ]
    refine wpAnyH_take (i := 9) (oi := { dst := some 7, op := _, type := _, pos := _, after := _, guard := _ }) (v := ?_) rfl (by kernel_rfl) (by kernel_rfl) (by kernel_rfl) (fun _ _ _ h => h) (Or.inl ⟨by rfl, ?_⟩) (by assumption) ?_
    rotate_left
    · intro w hSw
      (try dsimp only at hSw)
      go_simp
      (try (with_reducible rfl))
    try simp only [Act.put, List.setIfInBounds_toArray, List.set_cons_zero, List.set_cons_succ]
    refine wpAnyH_done (by kernel_rfl) ?_ _
    clear hHeld
    go_wp2
    go_ret2
    exact ⟨rfl, hb⟩
set_option maxRecDepth 8000 in
set_option maxHeartbeats 2000000 in
theorem specAdjusted_any (p c h s : Int) (a1 a2 : Option Addr) (n1 n2 c1 c2 : Nat) (xs ys : List Int) (w : World) (h1 : xs.length = n1) (h2 : ys.length = n2) (l1 : n1 ≤ 1048576) (l2 : n2 ≤ 1048576) (r1 : IRow w a1 xs) (r2 : IRow w a2 ys) :
    Calls Try.prog 22 #[.agg #[.int .i64 p, .int .i64 c, .int .i64 h, .int .i64 s], .agg #[.slice a1 n1 c1, .slice a2 n2 c2]] w fun e w' => e = .returned (.tuple #[.int .i64 (if raceB p c h s xs ys = true then adjV h.toNat xs else 0), .int .i64 (if raceB p c h s xs ys = true then 10 * sumV h.toNat ys else 0), .int .i64 (rcC p c h s xs ys)]) ∧ Below w.heap.size w w' := by
  obtain ⟨BV, BB, hb, hz⟩ := two_new w #[.int .i64 p, .int .i64 c, .int .i64 h, .int .i64 s] #[.slice a1 n1 c1, .slice a2 n2 c2] 26 34
  have hz1 : w.heap.size + 1 < ((w.alloc (.cells #[.int .i64 p, .int .i64 c, .int .i64 h, .int .i64 s] 26)).alloc (.cells #[.slice a1 n1 c1, .slice a2 n2 c2] 34)).heap.size := by rw [hz]; omega
  clear hz
  obtain ⟨x0, x1, x2, x3, xf, xl⟩ := BV.four
  obtain ⟨y0, y1, yf, yl⟩ := BB.two
  by_cases g : raceB p c h s xs ys = true
  rotate_left
  · rw [if_neg g, if_neg g]
    replace g : raceB p c h s xs ys = false := by simpa using g
    have hk := rcC_not g
    obtain ⟨K, hK⟩ : ∃ K, rcC p c h s xs ys = K := ⟨_, rfl⟩
    rw [hK] at hk ⊢
    have ne : (K != 0) = true := by rw [bne_iff_ne]; omega
    have hc := fun W (q1 : IRow W a1 xs) (q2 : IRow W a2 ys) => l14Code_any p c h s a1 a2 n1 n2 c1 c2 xs ys W h1 h2 l1 l2 q1 q2
    rw [hK] at hc
    have HC := Lib.hid hc
    clear hc
    clear hK hk g
    go_enter Try.func22, Try.ntmps22
    go_wp2_with (go_at_call 35; refine (HC.out _ (r1.below hb) (r2.below hb)).mono ?_; rintro e w1 ⟨rfl, hb1⟩; replace BV := BV.below hb1; replace BB := BB.below hb1; replace hb := chain hb hb1; clear x0 x1 x2 x3 xf xl y0 y1 yf yl hb1; obtain ⟨x0, x1, x2, x3, xf, xl⟩ := BV.four; obtain ⟨y0, y1, yf, yl⟩ := BB.two)
    go_ret3
    exact ⟨rfl, hb⟩
  · rw [if_pos g, if_pos g]
    have gb := (raceB_parts g).1
    obtain ⟨p0, p1, k0, k1, k2, k3, N1, N2, hx, hy, s0, s1, s2, s3⟩ := isB_parts gb
    rw [rcC_race g]
    have hc := fun W (q1 : IRow W a1 xs) (q2 : IRow W a2 ys) => l14Code_any p c h s a1 a2 n1 n2 c1 c2 xs ys W h1 h2 l1 l2 q1 q2
    rw [rcC_race g] at hc
    have HC := Lib.hid hc
    clear hc
    obtain ⟨H, rfl⟩ := Int.eq_ofNat_of_zero_le (by omega : 0 ≤ h)
    have e9 : ((H : Nat) : Int).toNat = H := by omega
    rw [e9]
    have hq := fun W (q1 : IRow W a1 xs) (q2 : IRow W a2 ys) => l14Counts_any p c s H a1 a2 n1 n2 c1 c2 xs ys W h1 h2 l1 l2 q1 q2 gb
    have HQ := Lib.hid hq
    clear hq hx hy N1 N2 g gb e9
    go_enter Try.func22, Try.ntmps22
    go_wp2_with (first | (go_at_call 35; refine (HC.out _ (r1.below hb) (r2.below hb)).mono ?_; rintro e w1 ⟨rfl, hb1⟩; replace BV := BV.below hb1; replace BB := BB.below hb1; replace hb := chain hb hb1; clear x0 x1 x2 x3 xf xl y0 y1 yf yl hb1; obtain ⟨x0, x1, x2, x3, xf, xl⟩ := BV.four; obtain ⟨y0, y1, yf, yl⟩ := BB.two) | (go_at_call 44; refine (HQ.out _ (r1.below hb) (r2.below hb)).mono ?_; rintro e w2 ⟨rfl, hb2⟩; replace hb := chain hb hb2; clear hb2))
    go_ret3
    exact ⟨rfl, hb⟩
set_option maxRecDepth 8000 in
set_option maxHeartbeats 2000000 in
theorem specAdvice_any (p c h s : Int) (a1 a2 : Option Addr) (n1 n2 c1 c2 : Nat) (xs ys : List Int) (w : World) (h1 : xs.length = n1) (h2 : ys.length = n2) (l1 : n1 ≤ 1048576) (l2 : n2 ≤ 1048576) (r1 : IRow w a1 xs) (r2 : IRow w a2 ys) :
    Calls Try.prog 24 #[.agg #[.int .i64 p, .int .i64 c, .int .i64 h, .int .i64 s], .agg #[.slice a1 n1 c1, .slice a2 n2 c2]] w fun e w' => e = .returned (.tuple #[.int .i64 (if raceB p c h s xs ys = true then advV (adjV h.toNat xs) (10 * sumV h.toNat ys) else 0), .int .i64 (rcC p c h s xs ys)]) ∧ Below w.heap.size w w' := by
  obtain ⟨BV, BB, hb, hz⟩ := two_new w #[.int .i64 p, .int .i64 c, .int .i64 h, .int .i64 s] #[.slice a1 n1 c1, .slice a2 n2 c2] 26 34
  have hz1 : w.heap.size + 1 < ((w.alloc (.cells #[.int .i64 p, .int .i64 c, .int .i64 h, .int .i64 s] 26)).alloc (.cells #[.slice a1 n1 c1, .slice a2 n2 c2] 34)).heap.size := by rw [hz]; omega
  clear hz
  obtain ⟨x0, x1, x2, x3, xf, xl⟩ := BV.four
  obtain ⟨y0, y1, yf, yl⟩ := BB.two
  by_cases g : raceB p c h s xs ys = true
  rotate_left
  · rw [if_neg g]
    replace g : raceB p c h s xs ys = false := by simpa using g
    have hk := rcC_not g
    obtain ⟨K, hK⟩ : ∃ K, rcC p c h s xs ys = K := ⟨_, rfl⟩
    rw [hK] at hk ⊢
    have ne : (K != 0) = true := by rw [bne_iff_ne]; omega
    have hc := fun W (q1 : IRow W a1 xs) (q2 : IRow W a2 ys) => l14Code_any p c h s a1 a2 n1 n2 c1 c2 xs ys W h1 h2 l1 l2 q1 q2
    rw [hK] at hc
    have HC := Lib.hid hc
    clear hc
    clear hK hk g
    go_enter Try.func24, Try.ntmps24
    go_wp2_with (go_at_call 35; refine (HC.out _ (r1.below hb) (r2.below hb)).mono ?_; rintro e w1 ⟨rfl, hb1⟩; replace BV := BV.below hb1; replace BB := BB.below hb1; replace hb := chain hb hb1; clear x0 x1 x2 x3 xf xl y0 y1 yf yl hb1; obtain ⟨x0, x1, x2, x3, xf, xl⟩ := BV.four; obtain ⟨y0, y1, yf, yl⟩ := BB.two)
    go_ret2
    exact ⟨rfl, hb⟩
  · rw [if_pos g]
    have gb := (raceB_parts g).1
    obtain ⟨p0, p1, k0, k1, k2, k3, N1, N2, hx, hy, s0, s1, s2, s3⟩ := isB_parts gb
    rw [rcC_race g]
    have hc := fun W (q1 : IRow W a1 xs) (q2 : IRow W a2 ys) => l14Code_any p c h s a1 a2 n1 n2 c1 c2 xs ys W h1 h2 l1 l2 q1 q2
    rw [rcC_race g] at hc
    have HC := Lib.hid hc
    clear hc
    obtain ⟨H, rfl⟩ := Int.eq_ofNat_of_zero_le (by omega : 0 ≤ h)
    have e9 : ((H : Nat) : Int).toNat = H := by omega
    rw [e9]
    have hq := fun W (q1 : IRow W a1 xs) (q2 : IRow W a2 ys) => l14Counts_any p c s H a1 a2 n1 n2 c1 c2 xs ys W h1 h2 l1 l2 q1 q2 gb
    have b1 := sumV_bound H xs hx (by omega) (by omega) (by omega) (by omega)
    have b2 := sumV_bound H ys hy (by omega) (by omega) (by omega) (by omega)
    have b3 : -300 ≤ adjV H xs ∧ adjV H xs ≤ 330000000 := by unfold adjV; split <;> omega
    obtain ⟨X, hX⟩ : ∃ X, adjV H xs = X := ⟨_, rfl⟩
    obtain ⟨Y, hY⟩ : ∃ Y, 10 * sumV H ys = Y := ⟨_, rfl⟩
    rw [hX, hY] at hq ⊢
    rw [hX] at b3
    have b4 : -300 ≤ Y ∧ Y ≤ 330000000 := by omega
    have wz1 : IntKind.i64.wrap (Y + 20) = Y + 20 := IntWalk.i64_in _ (by omega)
    have wz2 : IntKind.i64.wrap (Y - 20) = Y - 20 := IntWalk.i64_in _ (by omega)
    have HQ := Lib.hid hq
    unfold advV
    clear hq hx hy N1 N2 g gb e9 hX hY b1 b2 b3 b4
    by_cases d1 : Y + 20 < X
    · have g1 : decide (Y + 20 < X) = true := by simpa using d1
      rw [if_pos d1]
      clear d1
      go_enter Try.func24, Try.ntmps24
      go_wp2_with (first | (go_at_call 35; refine (HC.out _ (r1.below hb) (r2.below hb)).mono ?_; rintro e w1 ⟨rfl, hb1⟩; replace BV := BV.below hb1; replace BB := BB.below hb1; replace hb := chain hb hb1; clear x0 x1 x2 x3 xf xl y0 y1 yf yl hb1; obtain ⟨x0, x1, x2, x3, xf, xl⟩ := BV.four; obtain ⟨y0, y1, yf, yl⟩ := BB.two) | (go_at_call 44; refine (HQ.out _ (r1.below hb) (r2.below hb)).mono ?_; rintro e w2 ⟨rfl, hb2⟩; replace hb := chain hb hb2; clear hb2))
      go_ret2
      exact ⟨rfl, hb⟩
    · have g1 : decide (Y + 20 < X) = false := by simpa using d1
      rw [if_neg d1]
      by_cases d2 : X < Y - 20
      · have g2 : decide (X < Y - 20) = true := by simpa using d2
        rw [if_pos d2]
        clear d1 d2
        go_enter Try.func24, Try.ntmps24
        go_wp2_with (first | (go_at_call 35; refine (HC.out _ (r1.below hb) (r2.below hb)).mono ?_; rintro e w1 ⟨rfl, hb1⟩; replace BV := BV.below hb1; replace BB := BB.below hb1; replace hb := chain hb hb1; clear x0 x1 x2 x3 xf xl y0 y1 yf yl hb1; obtain ⟨x0, x1, x2, x3, xf, xl⟩ := BV.four; obtain ⟨y0, y1, yf, yl⟩ := BB.two) | (go_at_call 44; refine (HQ.out _ (r1.below hb) (r2.below hb)).mono ?_; rintro e w2 ⟨rfl, hb2⟩; replace hb := chain hb hb2; clear hb2))
        go_ret2
        exact ⟨rfl, hb⟩
      · have g2 : decide (X < Y - 20) = false := by simpa using d2
        rw [if_neg d2]
        clear d1 d2
        go_enter Try.func24, Try.ntmps24
        go_wp2_with (first | (go_at_call 35; refine (HC.out _ (r1.below hb) (r2.below hb)).mono ?_; rintro e w1 ⟨rfl, hb1⟩; replace BV := BV.below hb1; replace BB := BB.below hb1; replace hb := chain hb hb1; clear x0 x1 x2 x3 xf xl y0 y1 yf yl hb1; obtain ⟨x0, x1, x2, x3, xf, xl⟩ := BV.four; obtain ⟨y0, y1, yf, yl⟩ := BB.two) | (go_at_call 44; refine (HQ.out _ (r1.below hb) (r2.below hb)).mono ?_; rintro e w2 ⟨rfl, hb2⟩; replace hb := chain hb hb2; clear hb2))
        go_ret2
        exact ⟨rfl, hb⟩
end Go.Proofs.Ytjepbhainidpgaa
