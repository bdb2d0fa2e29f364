/- Contracts of a racer: the sum of its adjusted count, its greatest number of rolls. -/
import Derived.Test.Ytjepbhainidpgaa14a
import Derived.Test.YtjepbhainidpgaaImpl02d
namespace Go.Proofs.Ytjepbhainidpgaa
open Go.ChangeShapes Go.WideShapes Go.ChangeAt Go.RowKit
set_option linter.unusedVariables false
set_option linter.unusedSimpArgs false
set_option maxRecDepth 4000

set_option maxHeartbeats 2000000 in
theorem rx_sum_any (p c s : Int) (H : Nat) (f1 f2 B0 fn B : Nat) (xs : List Int) (w : World) (p0 : 0 ≤ p) (p1 : p ≤ 24) (hn : (xs.length : Int) = p + 1) (hx : ∀ x ∈ xs, 0 ≤ x ∧ x ≤ 1000) (hp : Pays fn B xs w) (h2 : (H : Int) ≤ p) (s0 : 0 ≤ xs.sum ∧ xs.sum ≤ 15) :
    Calls Try.prog 45 #[.agg #[.int .i64 p, .int .i64 c, .int .i64 (H : Int), .int .i64 s, .int .i64 p, fv f1 B0, fv f2 B0, fv fn B]] w fun e w' => e = .returned (.int .i64 (sumV H xs)) ∧ Below w.heap.size w w' := by
  have BR := Blk.new w #[.int .i64 p, .int .i64 c, .int .i64 (H : Int), .int .i64 s, .int .i64 p, fv f1 B0, fv f2 B0, fv fn B] 61
  have hb : Below w.heap.size w (w.alloc (.cells #[.int .i64 p, .int .i64 c, .int .i64 (H : Int), .int .i64 s, .int .i64 p, fv f1 B0, fv f2 B0, fv fn B] 61)) := (Below.refl _ _).alloc (Nat.le_refl _) _
  replace hp := hp.below hb
  have e199 := hp.1
  have q1 := fun W (hW : Pays fn B xs W) => rx_distance_any p c (H : Int) s f1 f2 B0 fn B xs W p0 p1 hn hx hW
  have q2 := fun W (hW : Pays fn B xs W) => rx_checkers_any p c (H : Int) s f1 f2 B0 fn B xs W p0 p1 hn hx hW
  have q3 := fun W (hW : Pays fn B xs W) => hW.2 W (Below.refl _ _) 0 (by omega)
  have q4 := fun W (hW : Pays fn B xs W) => rx_occupied_any p c s H f1 f2 B0 fn B xs W p0 p1 hn hx hW h2
  have b1 := pipsL_bound xs hx xs.length (Nat.le_refl _) (by omega)
  have b4 := occL_bound xs H
  have b3 := hx _ (getD_mem (show 0 < xs.length by omega))
  have bl : xs.length ≤ 25 := by omega
  have bH : H ≤ 24 := by omega
  have e0 : sumV H xs = pipsL xs xs.length + 2 * xs.sum + xs.getD 0 0 - occL xs H := rfl
  obtain ⟨D, hD⟩ : ∃ D, pipsL xs xs.length = D := ⟨_, rfl⟩
  obtain ⟨K, hK⟩ : ∃ K, xs.sum = K := ⟨_, rfl⟩
  obtain ⟨X, hX⟩ : ∃ X, xs.getD 0 0 = X := ⟨_, rfl⟩
  obtain ⟨O, hO⟩ : ∃ O, occL xs H = O := ⟨_, rfl⟩
  rw [hD, hK, hX, hO] at e0
  rw [hD] at q1 b1
  rw [hK] at q2 s0
  rw [hX] at q3 b3
  rw [hO] at q4 b4
  rw [e0]
  have wz1 : IntKind.i64.wrap (2 * K) = 2 * K := IntWalk.i64_in _ (by omega)
  have wz2 : IntKind.i64.wrap (D + 2 * K) = D + 2 * K := IntWalk.i64_in _ (by omega)
  have wz3 : IntKind.i64.wrap (D + 2 * K + X) = D + 2 * K + X := IntWalk.i64_in _ (by omega)
  have wz4 : IntKind.i64.wrap (D + 2 * K + X - O) = D + 2 * K + X - O := IntWalk.i64_in _ (by omega)
  have H1 := Lib.hid q1
  have H2 := Lib.hid q2
  have H3 := Lib.hid q3
  have H4 := Lib.hid q4
  clear q1 q2 q3 q4 hD hK hX hO e0 hn hx b1 b3 b4 bl bH s0 h2
  obtain ⟨x0, x1, x2, x3, x4, x5, x6, x7, xf, xl⟩ := BR.eight
  go_enter Try.func45, Try.ntmps45
  go_wp2_with fail
  clear x0 x1 x2 x3 x4 x5 x6 x7 xf xl
  generalize (w.alloc (.cells #[.int .i64 p, .int .i64 c, .int .i64 (H : Int), .int .i64 s, .int .i64 p, fv f1 B0, fv f2 B0, fv fn B] 61)) = v0 at *
  have hd_ : v0.drew.heap.size = v0.heap.size := rfl
  replace BR := BR.drew
  replace hp := hp.drew
  replace hb := hb.drew
  refine wp_region_held_drew (S := fun w' => w'.cell? ⟨w.heap.size, 0, none⟩ = some (.int .i64 p) ∧ w'.cell? ⟨w.heap.size, 1, none⟩ = some (.int .i64 c) ∧ w'.cell? ⟨w.heap.size, 2, none⟩ = some (.int .i64 (H : Int)) ∧ w'.cell? ⟨w.heap.size, 3, none⟩ = some (.int .i64 s) ∧ w'.cell? ⟨w.heap.size, 4, none⟩ = some (.int .i64 p) ∧ w'.cell? ⟨w.heap.size, 5, none⟩ = some (fv f1 B0) ∧ w'.cell? ⟨w.heap.size, 6, none⟩ = some (fv f2 B0) ∧ w'.cell? ⟨w.heap.size, 7, none⟩ = some (fv fn B)) (by kernel_rfl) ⟨BR.eight.1, BR.eight.2.1, BR.eight.2.2.1, BR.eight.2.2.2.1, BR.eight.2.2.2.2.1, BR.eight.2.2.2.2.2.1, BR.eight.2.2.2.2.2.2.1, BR.eight.2.2.2.2.2.2.2.1⟩ (fun hHeld => ?_)
  clear hHeld
  generalize v0.drew = vd at *
  have hHeld : vd.cell? ⟨w.heap.size, 0, none⟩ = some (.int .i64 p) ∧ vd.cell? ⟨w.heap.size, 1, none⟩ = some (.int .i64 c) ∧ vd.cell? ⟨w.heap.size, 2, none⟩ = some (.int .i64 (H : Int)) ∧ vd.cell? ⟨w.heap.size, 3, none⟩ = some (.int .i64 s) ∧ vd.cell? ⟨w.heap.size, 4, none⟩ = some (.int .i64 p) ∧ vd.cell? ⟨w.heap.size, 5, none⟩ = some (fv f1 B0) ∧ vd.cell? ⟨w.heap.size, 6, none⟩ = some (fv f2 B0) ∧ vd.cell? ⟨w.heap.size, 7, none⟩ = some (fv fn B) := ⟨BR.eight.1, BR.eight.2.1, BR.eight.2.2.1, BR.eight.2.2.2.1, BR.eight.2.2.2.2.1, BR.eight.2.2.2.2.2.1, BR.eight.2.2.2.2.2.2.1, BR.eight.2.2.2.2.2.2.2.1⟩
  refine wpAnyH_take (i := 0) (oi := { dst := some 3, op := _, type := _, pos := _, after := _, guard := _ }) (v := ?_) rfl (by kernel_rfl) (by kernel_rfl) (by kernel_rfl) (fun _ _ _ h => h) (Or.inl ⟨by rfl, ?_⟩) (by assumption) ?_
  rotate_left
  · intro w hSw
    (try dsimp only at hSw)
    go_simp
    (try (with_reducible rfl))
  try simp only [Act.put, List.setIfInBounds_toArray, List.set_cons_zero, List.set_cons_succ]
  refine wpAnyH_take (i := 2) (oi := { dst := some 5, op := _, type := _, pos := _, after := _, guard := _ }) (v := ?_) rfl (by kernel_rfl) (by kernel_rfl) (by kernel_rfl) (fun _ _ _ h => h) (Or.inl ⟨by rfl, ?_⟩) (by assumption) ?_
  rotate_left
  · intro w hSw
    (try dsimp only at hSw)
    go_simp
    (try (with_reducible rfl))
  try simp only [Act.put, List.setIfInBounds_toArray, List.set_cons_zero, List.set_cons_succ]
  refine wpAnyH_take (i := 6) (oi := { dst := some 9, op := _, type := _, pos := _, after := _, guard := _ }) (v := ?_) rfl (by kernel_rfl) (by kernel_rfl) (by kernel_rfl) (fun _ _ _ h => h) (Or.inl ⟨by rfl, ?_⟩) (by assumption) ?_
  rotate_left
  · intro w hSw
    (try dsimp only at hSw)
    go_simp
    (try (with_reducible rfl))
  try simp only [Act.put, List.setIfInBounds_toArray, List.set_cons_zero, List.set_cons_succ]
  refine wpAnyH_take (i := 7) (oi := { dst := some 10, op := _, type := _, pos := _, after := _, guard := _ }) (v := ?_) rfl (by kernel_rfl) (by kernel_rfl) (by kernel_rfl) (fun _ _ _ h => h) (Or.inl ⟨by rfl, ?_⟩) (by assumption) ?_
  rotate_left
  · intro w hSw
    (try dsimp only at hSw)
    go_simp
    (try (with_reducible rfl))
  try simp only [Act.put, List.setIfInBounds_toArray, List.set_cons_zero, List.set_cons_succ]
  refine wpAnyH_take (i := 10) (oi := { dst := some 13, op := _, type := _, pos := _, after := _, guard := _ }) (v := ?_) rfl (by kernel_rfl) (by kernel_rfl) (by kernel_rfl) (fun _ _ _ h => h) (Or.inl ⟨by rfl, ?_⟩) (by assumption) ?_
  rotate_left
  · intro w hSw
    (try dsimp only at hSw)
    go_simp
    (try (with_reducible rfl))
  try simp only [Act.put, List.setIfInBounds_toArray, List.set_cons_zero, List.set_cons_succ]
  refine wpAnyH_ready (rs := [1]) (by kernel_rfl) (by simp) ?_
  refine AllReadyH.cons (o := { dst := some 4, op := _, type := _, pos := _, after := _, guard := _ }) rfl (fun K hK => ?_) AllReadyH.nil
  go_simp
  refine (H1.out _ hp).mono ?_
  rintro e w2 ⟨rfl, hb2⟩
  replace BR := BR.below hb2
  replace hp := hp.below hb2
  replace hb := chain hb hb2
  (try go_wp2_with fail)
  refine hK.out _ _ ⟨BR.eight.1, BR.eight.2.1, BR.eight.2.2.1, BR.eight.2.2.2.1, BR.eight.2.2.2.2.1, BR.eight.2.2.2.2.2.1, BR.eight.2.2.2.2.2.2.1, BR.eight.2.2.2.2.2.2.2.1⟩ (fun hHeld => ?_)
  clear hK K
  try simp only [Act.put, List.setIfInBounds_toArray, List.set_cons_zero, List.set_cons_succ]
  refine wpAnyH_ready (rs := [3]) (by kernel_rfl) (by simp) ?_
  refine AllReadyH.cons (o := { dst := some 6, op := _, type := _, pos := _, after := _, guard := _ }) rfl (fun K hK => ?_) AllReadyH.nil
  go_simp
  refine (H2.out _ hp).mono ?_
  rintro e w2 ⟨rfl, hb2⟩
  replace BR := BR.below hb2
  replace hp := hp.below hb2
  replace hb := chain hb hb2
  (try go_wp2_with fail)
  refine hK.out _ _ ⟨BR.eight.1, BR.eight.2.1, BR.eight.2.2.1, BR.eight.2.2.2.1, BR.eight.2.2.2.2.1, BR.eight.2.2.2.2.2.1, BR.eight.2.2.2.2.2.2.1, BR.eight.2.2.2.2.2.2.2.1⟩ (fun hHeld => ?_)
  clear hK K
  try simp only [Act.put, List.setIfInBounds_toArray, List.set_cons_zero, List.set_cons_succ]
  refine wpAnyH_take (i := 4) (oi := { dst := some 7, op := _, type := _, pos := _, after := _, guard := _ }) (v := ?_) rfl (by kernel_rfl) (by kernel_rfl) (by kernel_rfl) (fun _ _ _ h => h) (Or.inl ⟨by rfl, ?_⟩) (by assumption) ?_
  rotate_left
  · intro w hSw
    (try dsimp only at hSw)
    go_simp
    (try (with_reducible rfl))
  try simp only [Act.put, List.setIfInBounds_toArray, List.set_cons_zero, List.set_cons_succ]
  refine wpAnyH_take (i := 5) (oi := { dst := some 8, op := _, type := _, pos := _, after := _, guard := _ }) (v := ?_) rfl (by kernel_rfl) (by kernel_rfl) (by kernel_rfl) (fun _ _ _ h => h) (Or.inl ⟨by rfl, ?_⟩) (by assumption) ?_
  rotate_left
  · intro w hSw
    (try dsimp only at hSw)
    go_simp
    (try (with_reducible rfl))
  try simp only [Act.put, List.setIfInBounds_toArray, List.set_cons_zero, List.set_cons_succ]
  refine wpAnyH_ready (rs := [8]) (by kernel_rfl) (by simp) ?_
  refine AllReadyH.cons (o := { dst := some 11, op := _, type := _, pos := _, after := _, guard := _ }) rfl (fun K hK => ?_) AllReadyH.nil
  go_simp
  refine (H3.out _ hp).mono ?_
  rintro e w2 ⟨rfl, hb2⟩
  replace BR := BR.below hb2
  replace hp := hp.below hb2
  replace hb := chain hb hb2
  (try go_wp2_with fail)
  refine hK.out _ _ ⟨BR.eight.1, BR.eight.2.1, BR.eight.2.2.1, BR.eight.2.2.2.1, BR.eight.2.2.2.2.1, BR.eight.2.2.2.2.2.1, BR.eight.2.2.2.2.2.2.1, BR.eight.2.2.2.2.2.2.2.1⟩ (fun hHeld => ?_)
  clear hK K
  try simp only [Act.put, List.setIfInBounds_toArray, List.set_cons_zero, List.set_cons_succ]
  refine wpAnyH_take (i := 9) (oi := { dst := some 12, op := _, type := _, pos := _, after := _, guard := _ }) (v := ?_) rfl (by kernel_rfl) (by kernel_rfl) (by kernel_rfl) (fun _ _ _ h => h) (Or.inl ⟨by rfl, ?_⟩) (by assumption) ?_
  rotate_left
  · intro w hSw
    (try dsimp only at hSw)
    go_simp
    (try (with_reducible rfl))
  try simp only [Act.put, List.setIfInBounds_toArray, List.set_cons_zero, List.set_cons_succ]
  refine wpAnyH_ready (rs := [11]) (by kernel_rfl) (by simp) ?_
  refine AllReadyH.cons (o := { dst := some 14, op := _, type := _, pos := _, after := _, guard := _ }) rfl (fun K hK => ?_) AllReadyH.nil
  go_simp
  refine (H4.out _ hp).mono ?_
  rintro e w2 ⟨rfl, hb2⟩
  replace BR := BR.below hb2
  replace hp := hp.below hb2
  replace hb := chain hb hb2
  (try go_wp2_with fail)
  refine hK.out _ _ ⟨BR.eight.1, BR.eight.2.1, BR.eight.2.2.1, BR.eight.2.2.2.1, BR.eight.2.2.2.2.1, BR.eight.2.2.2.2.2.1, BR.eight.2.2.2.2.2.2.1, BR.eight.2.2.2.2.2.2.2.1⟩ (fun hHeld => ?_)
  clear hK K
  try simp only [Act.put, List.setIfInBounds_toArray, List.set_cons_zero, List.set_cons_succ]
  refine wpAnyH_take (i := 12) (oi := { dst := some 15, op := _, type := _, pos := _, after := _, guard := _ }) (v := ?_) rfl (by kernel_rfl) (by kernel_rfl) (by kernel_rfl) (fun _ _ _ h => h) (Or.inl ⟨by rfl, ?_⟩) (by assumption) ?_
  rotate_left
  · intro w hSw
    (try dsimp only at hSw)
    go_simp
    (try (with_reducible rfl))
  try simp only [Act.put, List.setIfInBounds_toArray, List.set_cons_zero, List.set_cons_succ]
  refine wpAnyH_take (i := 13) (oi := { dst := some 2, op := _, type := _, pos := _, after := _, guard := _ }) (v := ?_) rfl (by kernel_rfl) (by kernel_rfl) (by kernel_rfl) (fun _ _ _ h => h) (Or.inl ⟨by rfl, ?_⟩) (by assumption) ?_
  rotate_left
  · intro w hSw
    (try dsimp only at hSw)
    go_simp
    (try (with_reducible rfl))
  try simp only [Act.put, List.setIfInBounds_toArray, List.set_cons_zero, List.set_cons_succ]
  refine wpAnyH_done (by kernel_rfl) ?_ _
  clear hHeld
  go_wp2
  go_ret
  exact ⟨rfl, hb⟩
set_option maxHeartbeats 1000000 in
theorem roundedUp_any (a b : Int) (w : World) (a0 : 0 ≤ a) (a1 : a ≤ 1000000000) (b0 : 1 ≤ b) (b1 : b ≤ 1000000000) :
    Calls Try.prog 68 #[.agg #[.int .i64 a, .int .i64 b]] w fun e w' => e = .returned (.int .i64 ((a + b - 1) / b)) ∧ Below w.heap.size w w' := by
  have BR := Blk.new w #[.int .i64 a, .int .i64 b] 87
  have hb : Below w.heap.size w (w.alloc (.cells #[.int .i64 a, .int .i64 b] 87)) := (Below.refl _ _).alloc (Nat.le_refl _) _
  have htd : (a + b - 1).tdiv b = (a + b - 1) / b := Int.tdiv_eq_ediv_of_nonneg (by omega)
  have hq0 : 0 ≤ (a + b - 1) / b := Int.ediv_nonneg (by omega) (by omega)
  have hq1 : (a + b - 1) / b ≤ a + b - 1 := Int.ediv_le_self _ (by omega)
  obtain ⟨Q, hQ⟩ : ∃ Q, (a + b - 1) / b = Q := ⟨_, rfl⟩
  rw [hQ] at htd hq0 hq1 ⊢
  have wz1 : IntKind.i64.wrap (a + b) = a + b := IntWalk.i64_in _ (by omega)
  have wz2 : IntKind.i64.wrap (a + b - 1) = a + b - 1 := IntWalk.i64_in _ (by omega)
  have wz3 : IntKind.i64.wrap Q = Q := IntWalk.i64_in _ (by omega)
  have hh0 : (b = 0) = False := by simp; omega
  have hh0b : (b == 0) = false := by rw [beq_eq_false_iff_ne]; omega
  obtain ⟨x0, x1, xf, xl⟩ := BR.two
  go_enter Try.func68, Try.ntmps68
  go_wp2
  go_ret
  exact ⟨rfl, hb⟩
set_option maxHeartbeats 2000000 in
theorem rx_greatest_no (p c h s : Int) (f1 f2 B0 fn B : Nat) (xs : List Int) (w : World) (p0 : 0 ≤ p) (p1 : p ≤ 24) (hn : (xs.length : Int) = p + 1) (hx : ∀ x ∈ xs, 0 ≤ x ∧ x ≤ 1000) (hp : Pays fn B xs w) (q : h < s ∧ h ≤ lastL xs xs.length) :
    Calls Try.prog 43 #[.agg #[.int .i64 p, .int .i64 c, .int .i64 h, .int .i64 s, .int .i64 p, fv f1 B0, fv f2 B0, fv fn B]] w fun e w' => e = .returned (.tuple #[.int .i64 0, .bool false]) ∧ Below w.heap.size w w' := by
  have BR := Blk.new w #[.int .i64 p, .int .i64 c, .int .i64 h, .int .i64 s, .int .i64 p, fv f1 B0, fv f2 B0, fv fn B] 61
  have hb : Below w.heap.size w (w.alloc (.cells #[.int .i64 p, .int .i64 c, .int .i64 h, .int .i64 s, .int .i64 p, fv f1 B0, fv f2 B0, fv fn B] 61)) := (Below.refl _ _).alloc (Nat.le_refl _) _
  replace hp := hp.below hb
  have hh := fun W (hW : Pays fn B xs W) => rx_isHome_any p c h s f1 f2 B0 fn B xs W p0 p1 hn hx hW
  have hd := fun W (hW : Pays fn B xs W) => rx_distance_any p c h s f1 f2 B0 fn B xs W p0 p1 hn hx hW
  have bd := pipsL_bound xs hx xs.length (Nat.le_refl _) (by omega)
  have bl : xs.length ≤ 25 := by omega
  obtain ⟨L, hL⟩ : ∃ L, lastL xs xs.length = L := ⟨_, rfl⟩
  obtain ⟨D, hD⟩ : ∃ D, pipsL xs xs.length = D := ⟨_, rfl⟩
  rw [hL] at hh q
  rw [hD] at hd bd
  have g1 : decide (h < s) = true := by simpa using q.1
  have g2 : decide (L < h) = false := by rw [decide_eq_false_iff_not]; omega
  rw [g2] at hh
  have HH := Lib.hid hh
  have HD := Lib.hid hd
  clear hh hd hL hD hn hx q bd bl g2
  obtain ⟨x0, x1, x2, x3, x4, x5, x6, x7, xf, xl⟩ := BR.eight
  go_enter Try.func43, Try.ntmps43
  go_wp2_with (first | (go_at_call 67; refine (HH.out _ hp).mono ?_; rintro e w1 ⟨rfl, hbq⟩; replace BR := BR.below hbq; clear x0 x1 x2 x3 x4 x5 x6 x7 xf xl; obtain ⟨x0, x1, x2, x3, x4, x5, x6, x7, xf, xl⟩ := BR.eight) | (fail; go_at_call 39; refine (HD.out _ (hp.below hbq)).mono ?_; rintro e w2 ⟨rfl, hb2⟩; replace hbq := chain hbq hb2) | (fail; go_at_call 68; refine (HU.out _).mono ?_; rintro e w3 ⟨rfl, hb3⟩; replace hbq := chain hbq hb3))
  go_ret2
  exact ⟨rfl, chain hb hbq⟩

theorem rx_greatest_yes (p c h s : Int) (f1 f2 B0 fn B : Nat) (xs : List Int) (w : World) (p0 : 0 ≤ p) (p1 : p ≤ 24) (hn : (xs.length : Int) = p + 1) (hx : ∀ x ∈ xs, 0 ≤ x ∧ x ≤ 1000) (hp : Pays fn B xs w) (q : ¬ (h < s ∧ h ≤ lastL xs xs.length)) :
    Calls Try.prog 43 #[.agg #[.int .i64 p, .int .i64 c, .int .i64 h, .int .i64 s, .int .i64 p, fv f1 B0, fv f2 B0, fv fn B]] w fun e w' => e = .returned (.tuple #[.int .i64 ((pipsL xs xs.length + 2 - 1) / 2), .bool true]) ∧ Below w.heap.size w w' := by
  have BR := Blk.new w #[.int .i64 p, .int .i64 c, .int .i64 h, .int .i64 s, .int .i64 p, fv f1 B0, fv f2 B0, fv fn B] 61
  have hb : Below w.heap.size w (w.alloc (.cells #[.int .i64 p, .int .i64 c, .int .i64 h, .int .i64 s, .int .i64 p, fv f1 B0, fv f2 B0, fv fn B] 61)) := (Below.refl _ _).alloc (Nat.le_refl _) _
  replace hp := hp.below hb
  have hh := fun W (hW : Pays fn B xs W) => rx_isHome_any p c h s f1 f2 B0 fn B xs W p0 p1 hn hx hW
  have hd := fun W (hW : Pays fn B xs W) => rx_distance_any p c h s f1 f2 B0 fn B xs W p0 p1 hn hx hW
  have bd := pipsL_bound xs hx xs.length (Nat.le_refl _) (by omega)
  have bl : xs.length ≤ 25 := by omega
  obtain ⟨L, hL⟩ : ∃ L, lastL xs xs.length = L := ⟨_, rfl⟩
  obtain ⟨D, hD⟩ : ∃ D, pipsL xs xs.length = D := ⟨_, rfl⟩
  rw [hL] at hh q
  rw [hD] at hd bd ⊢
  have hu := fun W => roundedUp_any D 2 W bd.1 (by omega) (by omega) (by omega)
  obtain ⟨Q, hQ⟩ : ∃ Q, (D + 2 - 1) / 2 = Q := ⟨_, rfl⟩
  rw [hQ] at hu ⊢
  have HH := Lib.hid hh
  have HD := Lib.hid hd
  have HU := Lib.hid hu
  clear hh hd hu hL hD hQ hn hx bd bl
  by_cases d : h < s
  · have g1 : decide (h < s) = true := by simpa using d
    have g2 : decide (L < h) = true := by rw [decide_eq_true_iff]; omega
    have hh := HH.out
    rw [g2] at hh
    clear HH g2 q
    have HH := Lib.hid hh
    clear hh
    obtain ⟨x0, x1, x2, x3, x4, x5, x6, x7, xf, xl⟩ := BR.eight
    go_enter Try.func43, Try.ntmps43
    go_wp2_with (first | (go_at_call 67; refine (HH.out _ hp).mono ?_; rintro e w1 ⟨rfl, hbq⟩; replace BR := BR.below hbq; clear x0 x1 x2 x3 x4 x5 x6 x7 xf xl; obtain ⟨x0, x1, x2, x3, x4, x5, x6, x7, xf, xl⟩ := BR.eight) | (go_at_call 39; refine (HD.out _ (hp.below hbq)).mono ?_; rintro e w2 ⟨rfl, hb2⟩; replace hbq := chain hbq hb2) | (go_at_call 68; refine (HU.out _).mono ?_; rintro e w3 ⟨rfl, hb3⟩; replace hbq := chain hbq hb3))
    go_ret2
    exact ⟨rfl, chain hb hbq⟩
  · have g1 : decide (h < s) = false := by simpa using d
    clear HH q
    obtain ⟨x0, x1, x2, x3, x4, x5, x6, x7, xf, xl⟩ := BR.eight
    go_enter Try.func43, Try.ntmps43
    have hbq := Below.refl (w.alloc (.cells #[.int .i64 p, .int .i64 c, .int .i64 h, .int .i64 s, .int .i64 p, fv f1 B0, fv f2 B0, fv fn B] 61)).heap.size (w.alloc (.cells #[.int .i64 p, .int .i64 c, .int .i64 h, .int .i64 s, .int .i64 p, fv f1 B0, fv f2 B0, fv fn B] 61))
    go_wp2_with (first | (fail; go_at_call 67; refine (HH.out _ hp).mono ?_; rintro e w1 ⟨rfl, hbq⟩; replace BR := BR.below hbq; clear x0 x1 x2 x3 x4 x5 x6 x7 xf xl; obtain ⟨x0, x1, x2, x3, x4, x5, x6, x7, xf, xl⟩ := BR.eight) | (go_at_call 39; refine (HD.out _ (hp.below hbq)).mono ?_; rintro e w2 ⟨rfl, hb2⟩; replace hbq := chain hbq hb2) | (go_at_call 68; refine (HU.out _).mono ?_; rintro e w3 ⟨rfl, hb3⟩; replace hbq := chain hbq hb3))
    go_ret2
    exact ⟨rfl, chain hb hbq⟩
end Go.Proofs.Ytjepbhainidpgaa
