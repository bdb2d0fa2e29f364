/- Contracts of a racer: how it lies, its distance, checkers, crossovers, occupied home points. -/
import Derived.Test.YtjepbhainidpgaaM14
import Derived.ChangeOld
namespace Go.Proofs.Ytjepbhainidpgaa
open Go.ChangeShapes Go.WideShapes Go.ChangeAt Go.RowKit
set_option linter.unusedVariables false
set_option linter.unusedSimpArgs false
set_option maxRecDepth 4000

/-- A racer's cells. -/
abbrev rxC (p c h s : Int) (f1 f2 B0 fn B : Nat) : Array Value := #[.int .i64 p, .int .i64 c, .int .i64 h, .int .i64 s, .int .i64 p, fv f1 B0, fv f2 B0, fv fn B]
/-- A block of eight cells: each cell by itself, and the marks. -/
theorem Blk.eight {w : World} {g : Nat} {v0 v1 v2 v3 v4 v5 v6 v7 : Value} {t : TypeId} (h : Blk w g #[v0, v1, v2, v3, v4, v5, v6, v7] t) :
    w.cell? ⟨g, 0, none⟩ = some v0 ∧ w.cell? ⟨g, 1, none⟩ = some v1 ∧ w.cell? ⟨g, 2, none⟩ = some v2 ∧ w.cell? ⟨g, 3, none⟩ = some v3 ∧ w.cell? ⟨g, 4, none⟩ = some v4 ∧ w.cell? ⟨g, 5, none⟩ = some v5 ∧ w.cell? ⟨g, 6, none⟩ = some v6 ∧ w.cell? ⟨g, 7, none⟩ = some v7 ∧ (∀ i, w.frozen? ⟨g, i, none⟩ = false) ∧ g < w.heap.size :=
  ⟨by simpa using h.cell 0, by simpa using h.cell 1, by simpa using h.cell 2, by simpa using h.cell 3, by simpa using h.cell 4, by simpa using h.cell 5, by simpa using h.cell 6, by simpa using h.cell 7, fun i => h.free i, h.lt⟩
set_option maxHeartbeats 1000000 in
theorem rx_distance_any (p c h s : Int) (f1 f2 B0 fn B : Nat) (xs : List Int) (w : World) (p0 : 0 ≤ p) (p1 : p ≤ 24) (hn : (xs.length : Int) = p + 1) (hx : ∀ x ∈ xs, 0 ≤ x ∧ x ≤ 1000) (hp : Pays fn B xs w) :
    Calls Try.prog 39 #[.agg #[.int .i64 p, .int .i64 c, .int .i64 h, .int .i64 s, .int .i64 p, fv f1 B0, fv f2 B0, fv fn B]] w fun e w' => e = .returned (.int .i64 (pipsL xs xs.length)) ∧ Below w.heap.size w w' := by
  have BR := Blk.new w #[.int .i64 p, .int .i64 c, .int .i64 h, .int .i64 s, .int .i64 p, fv f1 B0, fv f2 B0, fv fn B] 61
  have hb : Below w.heap.size w (w.alloc (.cells #[.int .i64 p, .int .i64 c, .int .i64 h, .int .i64 s, .int .i64 p, fv f1 B0, fv f2 B0, fv fn B] 61)) := (Below.refl _ _).alloc (Nat.le_refl _) _
  have hq := pips_any p f1 f2 B0 fn B xs _ p0 p1 hn hx (hp.below hb)
  have HQ := Lib.hid hq
  clear hq hn hx hp
  obtain ⟨x0, x1, x2, x3, x4, x5, x6, x7, xf, xl⟩ := BR.eight
  go_enter Try.func39, Try.ntmps39
  go_wp2_with (go_at_call 64; refine HQ.out.mono ?_; rintro e w1 ⟨rfl, hb1⟩)
  go_ret
  exact ⟨rfl, chain hb hb1⟩
set_option maxHeartbeats 1000000 in
theorem rx_checkers_any (p c h s : Int) (f1 f2 B0 fn B : Nat) (xs : List Int) (w : World) (p0 : 0 ≤ p) (p1 : p ≤ 24) (hn : (xs.length : Int) = p + 1) (hx : ∀ x ∈ xs, 0 ≤ x ∧ x ≤ 1000) (hp : Pays fn B xs w) :
    Calls Try.prog 70 #[.agg #[.int .i64 p, .int .i64 c, .int .i64 h, .int .i64 s, .int .i64 p, fv f1 B0, fv f2 B0, fv fn B]] w fun e w' => e = .returned (.int .i64 xs.sum) ∧ Below w.heap.size w w' := by
  have BR := Blk.new w #[.int .i64 p, .int .i64 c, .int .i64 h, .int .i64 s, .int .i64 p, fv f1 B0, fv f2 B0, fv fn B] 61
  have hb : Below w.heap.size w (w.alloc (.cells #[.int .i64 p, .int .i64 c, .int .i64 h, .int .i64 s, .int .i64 p, fv f1 B0, fv f2 B0, fv fn B] 61)) := (Below.refl _ _).alloc (Nat.le_refl _) _
  have hq := checkers_any p f1 f2 B0 fn B xs _ p0 p1 hn hx (hp.below hb)
  have HQ := Lib.hid hq
  clear hq hn hx hp
  obtain ⟨x0, x1, x2, x3, x4, x5, x6, x7, xf, xl⟩ := BR.eight
  go_enter Try.func70, Try.ntmps70
  go_wp2_with (go_at_call 77; refine HQ.out.mono ?_; rintro e w1 ⟨rfl, hb1⟩)
  go_ret
  exact ⟨rfl, chain hb hb1⟩
set_option maxHeartbeats 1000000 in
theorem rx_isHome_any (p c h s : Int) (f1 f2 B0 fn B : Nat) (xs : List Int) (w : World) (p0 : 0 ≤ p) (p1 : p ≤ 24) (hn : (xs.length : Int) = p + 1) (hx : ∀ x ∈ xs, 0 ≤ x ∧ x ≤ 1000) (hp : Pays fn B xs w) :
    Calls Try.prog 67 #[.agg #[.int .i64 p, .int .i64 c, .int .i64 h, .int .i64 s, .int .i64 p, fv f1 B0, fv f2 B0, fv fn B]] w fun e w' => e = .returned (.bool (decide (lastL xs xs.length < h))) ∧ Below w.heap.size w w' := by
  have BR := Blk.new w #[.int .i64 p, .int .i64 c, .int .i64 h, .int .i64 s, .int .i64 p, fv f1 B0, fv f2 B0, fv fn B] 61
  have hb : Below w.heap.size w (w.alloc (.cells #[.int .i64 p, .int .i64 c, .int .i64 h, .int .i64 s, .int .i64 p, fv f1 B0, fv f2 B0, fv fn B] 61)) := (Below.refl _ _).alloc (Nat.le_refl _) _
  have hq := fun W (hW : Pays fn B xs W) => farthest_any p f1 f2 B0 fn B xs W p0 p1 hn hx hW
  obtain ⟨L, hL⟩ : ∃ L, lastL xs xs.length = L := ⟨_, rfl⟩
  rw [hL] at hq ⊢
  have HQ := Lib.hid hq
  replace hp := hp.below hb
  clear hq hn hx hL
  obtain ⟨x0, x1, x2, x3, x4, x5, x6, x7, xf, xl⟩ := BR.eight
  go_enter Try.func67, Try.ntmps67
  go_wp2_with fail
  clear x0 x1 x2 x3 x4 x5 x6 x7 xf xl
  generalize (w.alloc (.cells #[.int .i64 p, .int .i64 c, .int .i64 h, .int .i64 s, .int .i64 p, fv f1 B0, fv f2 B0, fv fn B] 61)) = v0 at *
  have hd_ : v0.drew.heap.size = v0.heap.size := rfl
  replace BR := BR.drew
  replace hp := hp.drew
  replace hb := hb.drew
  refine wp_region_held_drew (S := fun w' => w'.cell? ⟨w.heap.size, 0, none⟩ = some (.int .i64 p) ∧ w'.cell? ⟨w.heap.size, 1, none⟩ = some (.int .i64 c) ∧ w'.cell? ⟨w.heap.size, 2, none⟩ = some (.int .i64 h) ∧ w'.cell? ⟨w.heap.size, 3, none⟩ = some (.int .i64 s) ∧ w'.cell? ⟨w.heap.size, 4, none⟩ = some (.int .i64 p) ∧ w'.cell? ⟨w.heap.size, 5, none⟩ = some (fv f1 B0) ∧ w'.cell? ⟨w.heap.size, 6, none⟩ = some (fv f2 B0) ∧ w'.cell? ⟨w.heap.size, 7, none⟩ = some (fv fn B)) (by kernel_rfl) ⟨BR.eight.1, BR.eight.2.1, BR.eight.2.2.1, BR.eight.2.2.2.1, BR.eight.2.2.2.2.1, BR.eight.2.2.2.2.2.1, BR.eight.2.2.2.2.2.2.1, BR.eight.2.2.2.2.2.2.2.1⟩ (fun hHeld => ?_)
  clear hHeld
  generalize v0.drew = vd at *
  have hHeld : vd.cell? ⟨w.heap.size, 0, none⟩ = some (.int .i64 p) ∧ vd.cell? ⟨w.heap.size, 1, none⟩ = some (.int .i64 c) ∧ vd.cell? ⟨w.heap.size, 2, none⟩ = some (.int .i64 h) ∧ vd.cell? ⟨w.heap.size, 3, none⟩ = some (.int .i64 s) ∧ vd.cell? ⟨w.heap.size, 4, none⟩ = some (.int .i64 p) ∧ vd.cell? ⟨w.heap.size, 5, none⟩ = some (fv f1 B0) ∧ vd.cell? ⟨w.heap.size, 6, none⟩ = some (fv f2 B0) ∧ vd.cell? ⟨w.heap.size, 7, none⟩ = some (fv fn B) := ⟨BR.eight.1, BR.eight.2.1, BR.eight.2.2.1, BR.eight.2.2.2.1, BR.eight.2.2.2.2.1, BR.eight.2.2.2.2.2.1, BR.eight.2.2.2.2.2.2.1, BR.eight.2.2.2.2.2.2.2.1⟩
  refine wpAnyH_take (i := 0) (oi := { dst := some 3, op := _, type := _, pos := _, after := _, guard := _ }) (v := ?_) rfl (by kernel_rfl) (by kernel_rfl) (by kernel_rfl) (fun _ _ _ h => h) (Or.inl ⟨by rfl, ?_⟩) (by assumption) ?_
  rotate_left
  · intro w hSw
    (try dsimp only at hSw)
    go_simp
    (try (with_reducible rfl))
  try simp only [Act.put, List.setIfInBounds_toArray, List.set_cons_zero, List.set_cons_succ]
  refine wpAnyH_take (i := 1) (oi := { dst := some 4, op := _, type := _, pos := _, after := _, guard := _ }) (v := ?_) rfl (by kernel_rfl) (by kernel_rfl) (by kernel_rfl) (fun _ _ _ h => h) (Or.inl ⟨by rfl, ?_⟩) (by assumption) ?_
  rotate_left
  · intro w hSw
    (try dsimp only at hSw)
    go_simp
    (try (with_reducible rfl))
  try simp only [Act.put, List.setIfInBounds_toArray, List.set_cons_zero, List.set_cons_succ]
  refine wpAnyH_take (i := 2) (oi := { dst := some 5, op := _, type := _, pos := _, after := _, guard := _ }) (v := ?_) rfl (by kernel_rfl) (by kernel_rfl) (by kernel_rfl) (fun _ _ _ h => h) (Or.inl ⟨by rfl, ?_⟩) (by assumption) ?_
  rotate_left
  · intro w hSw
    (try dsimp only at hSw)
    go_simp
    (try (with_reducible rfl))
  try simp only [Act.put, List.setIfInBounds_toArray, List.set_cons_zero, List.set_cons_succ]
  refine wpAnyH_take (i := 3) (oi := { dst := some 6, op := _, type := _, pos := _, after := _, guard := _ }) (v := ?_) rfl (by kernel_rfl) (by kernel_rfl) (by kernel_rfl) (fun _ _ _ h => h) (Or.inl ⟨by rfl, ?_⟩) (by assumption) ?_
  rotate_left
  · intro w hSw
    (try dsimp only at hSw)
    go_simp
    (try (with_reducible rfl))
  try simp only [Act.put, List.setIfInBounds_toArray, List.set_cons_zero, List.set_cons_succ]
  refine wpAnyH_take (i := 5) (oi := { dst := some 8, op := _, type := _, pos := _, after := _, guard := _ }) (v := ?_) rfl (by kernel_rfl) (by kernel_rfl) (by kernel_rfl) (fun _ _ _ h => h) (Or.inl ⟨by rfl, ?_⟩) (by assumption) ?_
  rotate_left
  · intro w hSw
    (try dsimp only at hSw)
    go_simp
    (try (with_reducible rfl))
  try simp only [Act.put, List.setIfInBounds_toArray, List.set_cons_zero, List.set_cons_succ]
  refine wpAnyH_take (i := 6) (oi := { dst := some 9, op := _, type := _, pos := _, after := _, guard := _ }) (v := ?_) rfl (by kernel_rfl) (by kernel_rfl) (by kernel_rfl) (fun _ _ _ h => h) (Or.inl ⟨by rfl, ?_⟩) (by assumption) ?_
  rotate_left
  · intro w hSw
    (try dsimp only at hSw)
    go_simp
    (try (with_reducible rfl))
  try simp only [Act.put, List.setIfInBounds_toArray, List.set_cons_zero, List.set_cons_succ]
  refine wpAnyH_take (i := 7) (oi := { dst := some 10, op := _, type := _, pos := _, after := _, guard := _ }) (v := ?_) rfl (by kernel_rfl) (by kernel_rfl) (by kernel_rfl) (fun _ _ _ h => h) (Or.inl ⟨by rfl, ?_⟩) (by assumption) ?_
  rotate_left
  · intro w hSw
    (try dsimp only at hSw)
    go_simp
    (try (with_reducible rfl))
  try simp only [Act.put, List.setIfInBounds_toArray, List.set_cons_zero, List.set_cons_succ]
  refine wpAnyH_ready (rs := [4]) (by kernel_rfl) (by simp) ?_
  refine AllReadyH.cons (o := { dst := some 7, op := _, type := _, pos := _, after := _, guard := _ }) rfl (fun K hK => ?_) AllReadyH.nil
  go_simp
  refine (HQ.out _ hp).mono ?_
  rintro e w2 ⟨rfl, hb2⟩
  replace BR := BR.below hb2
  replace hb := chain hb hb2
  (try go_wp2_with fail)
  refine hK.out _ _ ⟨BR.eight.1, BR.eight.2.1, BR.eight.2.2.1, BR.eight.2.2.2.1, BR.eight.2.2.2.2.1, BR.eight.2.2.2.2.2.1, BR.eight.2.2.2.2.2.2.1, BR.eight.2.2.2.2.2.2.2.1⟩ (fun hHeld => ?_)
  clear hK K
  try simp only [Act.put, List.setIfInBounds_toArray, List.set_cons_zero, List.set_cons_succ]
  refine wpAnyH_take (i := 8) (oi := { dst := some 11, op := _, type := _, pos := _, after := _, guard := _ }) (v := ?_) rfl (by kernel_rfl) (by kernel_rfl) (by kernel_rfl) (fun _ _ _ h => h) (Or.inl ⟨by rfl, ?_⟩) (by assumption) ?_
  rotate_left
  · intro w hSw
    (try dsimp only at hSw)
    go_simp
    (try (with_reducible rfl))
  try simp only [Act.put, List.setIfInBounds_toArray, List.set_cons_zero, List.set_cons_succ]
  refine wpAnyH_take (i := 9) (oi := { dst := some 2, op := _, type := _, pos := _, after := _, guard := _ }) (v := ?_) rfl (by kernel_rfl) (by kernel_rfl) (by kernel_rfl) (fun _ _ _ h => h) (Or.inl ⟨by rfl, ?_⟩) (by assumption) ?_
  rotate_left
  · intro w hSw
    (try dsimp only at hSw)
    go_simp
    (try (with_reducible rfl))
  try simp only [Act.put, List.setIfInBounds_toArray, List.set_cons_zero, List.set_cons_succ]
  refine wpAnyH_done (by kernel_rfl) ?_ _
  clear hHeld
  go_wp2
  go_ret
  exact ⟨by simp, hb⟩
set_option maxHeartbeats 2000000 in
theorem rx_crossovers_any (p c h s : Int) (f1 f2 B0 fn B : Nat) (xs : List Int) (w : World) (p0 : 0 ≤ p) (p1 : p ≤ 24) (hn : (xs.length : Int) = p + 1) (hx : ∀ x ∈ xs, 0 ≤ x ∧ x ≤ 1000) (hp : Pays fn B xs w) (h1 : 1 ≤ h) (h2 : h ≤ p) :
    Calls Try.prog 41 #[.agg #[.int .i64 p, .int .i64 c, .int .i64 h, .int .i64 s, .int .i64 p, fv f1 B0, fv f2 B0, fv fn B]] w fun e w' => e = .returned (.int .i64 (crossL h xs xs.length)) ∧ Below w.heap.size w w' := by
  have BR := Blk.new w #[.int .i64 p, .int .i64 c, .int .i64 h, .int .i64 s, .int .i64 p, fv f1 B0, fv f2 B0, fv fn B] 61
  have hb : Below w.heap.size w (w.alloc (.cells #[.int .i64 p, .int .i64 c, .int .i64 h, .int .i64 s, .int .i64 p, fv f1 B0, fv f2 B0, fv fn B] 61)) := (Below.refl _ _).alloc (Nat.le_refl _) _
  replace hp := hp.below hb
  have e199 := hp.1
  obtain ⟨x0, x1, x2, x3, x4, x5, x6, x7, xf, xl⟩ := BR.eight
  go_enter Try.func41, Try.ntmps41
  go_wp2
  clear x0 x1 x2 x3 x4 x5 x6 x7 xf xl
  generalize (w.alloc (.cells #[.int .i64 p, .int .i64 c, .int .i64 h, .int .i64 s, .int .i64 p, fv f1 B0, fv f2 B0, fv fn B] 61)) = v0 at *
  go_loopg [3, 9] xs.length (fun m q i wr => ∃ k : Nat, k ≤ xs.length ∧ m = xs.length - k ∧ i = .int .i64 k ∧ q = .int .i64 (crossL h xs k) ∧ Blk wr w.heap.size #[.int .i64 p, .int .i64 c, .int .i64 h, .int .i64 s, .int .i64 p, fv f1 B0, fv f2 B0, fv fn B] 61 ∧ Pays fn B xs wr ∧ Below w.heap.size w wr)
  case atStart => exact ⟨0, by omega, by omega, rfl, rfl, BR, hp, hb⟩
  case round =>
    clear BR hb hp
    obtain ⟨k, hk, hm, rfl, rfl, BR, hpw, hbel⟩ := hrel
    by_cases hlt : k < xs.length
    · have hlt' : (k : Int) < p + 1 := by omega
      have hbd := crossL_bound h h1 xs hx (by omega) k hk
      have hg := hx _ (getD_mem hlt)
      have hqb := quot_bound (h := h) (k := k) h1 (by omega)
      have hpk := fun W (hW : Pays fn B xs W) => hW.2 W (Below.refl _ _) k hlt
      have hst : crossL h xs (k + 1) = crossL h xs k + xs.getD k 0 * ((k : Int) / h) := rfl
      have htd : (k : Int).tdiv h = (k : Int) / h := Int.tdiv_eq_ediv_of_nonneg (by omega)
      obtain ⟨v, hv⟩ : ∃ v, xs.getD k 0 = v := ⟨_, rfl⟩
      obtain ⟨Q, hQ⟩ : ∃ Q, (k : Int) / h = Q := ⟨_, rfl⟩
      obtain ⟨C, hC⟩ : ∃ C, crossL h xs k = C := ⟨_, rfl⟩
      rw [hv, hQ, hC] at hst
      rw [hv] at hpk hg
      rw [hQ] at hqb htd
      rw [hC] at hbd ⊢
      have hpr := quot_prod hg.1 hg.2 hqb.1 hqb.2
      obtain ⟨T, hT⟩ : ∃ T, v * Q = T := ⟨_, rfl⟩
      rw [hT] at hst hpr
      have wz1 : IntKind.i64.wrap Q = Q := IntWalk.i64_in _ (by omega)
      have wz2 : IntKind.i64.wrap (v * Q) = T := by rw [hT]; exact IntWalk.i64_in _ (by omega)
      have wz3 : IntKind.i64.wrap (C + T) = C + T := IntWalk.i64_in _ (by omega)
      have hh0 : (h = 0) = False := by simp; omega
      have hh0b : (h == 0) = false := by rw [beq_eq_false_iff_ne]; omega
      have HS := Lib.hid hst
      have HP := Lib.hid hpk
      clear hst hv hg hpk hbd hQ hC hT hpr hqb
      go_wp2_with fail
      have hd_ : wr.drew.heap.size = wr.heap.size := rfl
      replace BR := BR.drew
      replace hpw := hpw.drew
      replace hbel := hbel.drew
      refine wp_region_held_drew (S := fun w' => w'.cell? ⟨w.heap.size, 0, none⟩ = some (.int .i64 p) ∧ w'.cell? ⟨w.heap.size, 1, none⟩ = some (.int .i64 c) ∧ w'.cell? ⟨w.heap.size, 2, none⟩ = some (.int .i64 h) ∧ w'.cell? ⟨w.heap.size, 3, none⟩ = some (.int .i64 s) ∧ w'.cell? ⟨w.heap.size, 4, none⟩ = some (.int .i64 p) ∧ w'.cell? ⟨w.heap.size, 5, none⟩ = some (fv f1 B0) ∧ w'.cell? ⟨w.heap.size, 6, none⟩ = some (fv f2 B0) ∧ w'.cell? ⟨w.heap.size, 7, none⟩ = some (fv fn B)) (by kernel_rfl) ⟨BR.eight.1, BR.eight.2.1, BR.eight.2.2.1, BR.eight.2.2.2.1, BR.eight.2.2.2.2.1, BR.eight.2.2.2.2.2.1, BR.eight.2.2.2.2.2.2.1, BR.eight.2.2.2.2.2.2.2.1⟩ (fun hHeld => ?_)
      clear hHeld
      generalize wr.drew = vd at *
      have hHeld : vd.cell? ⟨w.heap.size, 0, none⟩ = some (.int .i64 p) ∧ vd.cell? ⟨w.heap.size, 1, none⟩ = some (.int .i64 c) ∧ vd.cell? ⟨w.heap.size, 2, none⟩ = some (.int .i64 h) ∧ vd.cell? ⟨w.heap.size, 3, none⟩ = some (.int .i64 s) ∧ vd.cell? ⟨w.heap.size, 4, none⟩ = some (.int .i64 p) ∧ vd.cell? ⟨w.heap.size, 5, none⟩ = some (fv f1 B0) ∧ vd.cell? ⟨w.heap.size, 6, none⟩ = some (fv f2 B0) ∧ vd.cell? ⟨w.heap.size, 7, none⟩ = some (fv fn B) := ⟨BR.eight.1, BR.eight.2.1, BR.eight.2.2.1, BR.eight.2.2.2.1, BR.eight.2.2.2.2.1, BR.eight.2.2.2.2.2.1, BR.eight.2.2.2.2.2.2.1, BR.eight.2.2.2.2.2.2.2.1⟩
      refine wpAnyH_take (i := 0) (oi := { dst := some 12, op := _, type := _, pos := _, after := _, guard := _ }) (v := ?_) rfl (by kernel_rfl) (by kernel_rfl) (by kernel_rfl) (fun _ _ _ h => h) (Or.inl ⟨by rfl, ?_⟩) (by assumption) ?_
      rotate_left
      · intro w hSw
        (try dsimp only at hSw)
        go_simp
        (try (with_reducible rfl))
      try simp only [Act.put, List.setIfInBounds_toArray, List.set_cons_zero, List.set_cons_succ]
      refine wpAnyH_take (i := 1) (oi := { dst := some 13, op := _, type := _, pos := _, after := _, guard := _ }) (v := ?_) rfl (by kernel_rfl) (by kernel_rfl) (by kernel_rfl) (fun _ _ _ h => h) (Or.inl ⟨by rfl, ?_⟩) (by assumption) ?_
      rotate_left
      · intro w hSw
        (try dsimp only at hSw)
        go_simp
        (try (with_reducible rfl))
      try simp only [Act.put, List.setIfInBounds_toArray, List.set_cons_zero, List.set_cons_succ]
      refine wpAnyH_take (i := 2) (oi := { dst := some 14, op := _, type := _, pos := _, after := _, guard := _ }) (v := ?_) rfl (by kernel_rfl) (by kernel_rfl) (by kernel_rfl) (fun _ _ _ h => h) (Or.inl ⟨by rfl, ?_⟩) (by assumption) ?_
      rotate_left
      · intro w hSw
        (try dsimp only at hSw)
        go_simp
        (try (with_reducible rfl))
      try simp only [Act.put, List.setIfInBounds_toArray, List.set_cons_zero, List.set_cons_succ]
      refine wpAnyH_take (i := 3) (oi := { dst := some 15, op := _, type := _, pos := _, after := _, guard := _ }) (v := ?_) rfl (by kernel_rfl) (by kernel_rfl) (by kernel_rfl) (fun _ _ _ h => h) (Or.inl ⟨by rfl, ?_⟩) (by assumption) ?_
      rotate_left
      · intro w hSw
        (try dsimp only at hSw)
        go_simp
        (try (with_reducible rfl))
      try simp only [Act.put, List.setIfInBounds_toArray, List.set_cons_zero, List.set_cons_succ]
      refine wpAnyH_take (i := 5) (oi := { dst := some 17, op := _, type := _, pos := _, after := _, guard := _ }) (v := ?_) rfl (by kernel_rfl) (by kernel_rfl) (by kernel_rfl) (fun _ _ _ h => h) (Or.inl ⟨by rfl, ?_⟩) (by assumption) ?_
      rotate_left
      · intro w hSw
        (try dsimp only at hSw)
        go_simp
        (try (with_reducible rfl))
      try simp only [Act.put, List.setIfInBounds_toArray, List.set_cons_zero, List.set_cons_succ]
      refine wpAnyH_take (i := 6) (oi := { dst := some 18, op := _, type := _, pos := _, after := _, guard := _ }) (v := ?_) rfl (by kernel_rfl) (by kernel_rfl) (by kernel_rfl) (fun _ _ _ h => h) (Or.inl ⟨by rfl, ?_⟩) (by assumption) ?_
      rotate_left
      · intro w hSw
        (try dsimp only at hSw)
        go_simp
        (try (with_reducible rfl))
      try simp only [Act.put, List.setIfInBounds_toArray, List.set_cons_zero, List.set_cons_succ]
      refine wpAnyH_take (i := 7) (oi := { dst := some 19, op := _, type := _, pos := _, after := _, guard := _ }) (v := ?_) rfl (by kernel_rfl) (by kernel_rfl) (by kernel_rfl) (fun _ _ _ h => h) (Or.inl ⟨by rfl, ?_⟩) (by assumption) ?_
      rotate_left
      · intro w hSw
        (try dsimp only at hSw)
        go_simp
        (try (with_reducible rfl))
      try simp only [Act.put, List.setIfInBounds_toArray, List.set_cons_zero, List.set_cons_succ]
      refine wpAnyH_take (i := 8) (oi := { dst := some 20, op := _, type := _, pos := _, after := _, guard := _ }) (v := ?_) rfl (by kernel_rfl) (by kernel_rfl) (by kernel_rfl) (fun _ _ _ h => h) (Or.inl ⟨by rfl, ?_⟩) (by assumption) ?_
      rotate_left
      · intro w hSw
        (try dsimp only at hSw)
        go_simp
        (try (with_reducible rfl))
      try simp only [Act.put, List.setIfInBounds_toArray, List.set_cons_zero, List.set_cons_succ]
      refine wpAnyH_take (i := 9) (oi := { dst := some 21, op := _, type := _, pos := _, after := _, guard := _ }) (v := ?_) rfl (by kernel_rfl) (by kernel_rfl) (by kernel_rfl) (fun _ _ _ h => h) (Or.inl ⟨by rfl, ?_⟩) (by assumption) ?_
      rotate_left
      · intro w hSw
        (try dsimp only at hSw)
        go_simp
        (try (with_reducible rfl))
      try simp only [Act.put, List.setIfInBounds_toArray, List.set_cons_zero, List.set_cons_succ]
      refine wpAnyH_ready (rs := [4]) (by kernel_rfl) (by simp) ?_
      refine AllReadyH.cons (o := { dst := some 16, op := _, type := _, pos := _, after := _, guard := _ }) rfl (fun K hK => ?_) AllReadyH.nil
      go_simp
      refine (HP.out _ hpw).mono ?_
      rintro e w5 ⟨rfl, hb5⟩
      replace BR := BR.below hb5
      replace hpw := hpw.below hb5
      replace hbel := chain hbel hb5
      (try go_wp2_with fail)
      refine hK.out _ _ ⟨BR.eight.1, BR.eight.2.1, BR.eight.2.2.1, BR.eight.2.2.2.1, BR.eight.2.2.2.2.1, BR.eight.2.2.2.2.2.1, BR.eight.2.2.2.2.2.2.1, BR.eight.2.2.2.2.2.2.2.1⟩ (fun hHeld => ?_)
      clear hK K
      try simp only [Act.put, List.setIfInBounds_toArray, List.set_cons_zero, List.set_cons_succ]
      refine wpAnyH_take (i := 10) (oi := { dst := some 22, op := _, type := _, pos := _, after := _, guard := _ }) (v := ?_) rfl (by kernel_rfl) (by kernel_rfl) (by kernel_rfl) (fun _ _ _ h => h) (Or.inl ⟨by rfl, ?_⟩) (by assumption) ?_
      rotate_left
      · intro w hSw
        (try dsimp only at hSw)
        go_simp
        (try (with_reducible rfl))
      try simp only [Act.put, List.setIfInBounds_toArray, List.set_cons_zero, List.set_cons_succ]
      refine wpAnyH_take (i := 11) (oi := { dst := some 23, op := _, type := _, pos := _, after := _, guard := _ }) (v := ?_) rfl (by kernel_rfl) (by kernel_rfl) (by kernel_rfl) (fun _ _ _ h => h) (Or.inl ⟨by rfl, ?_⟩) (by assumption) ?_
      rotate_left
      · intro w hSw
        (try dsimp only at hSw)
        go_simp
        (try (with_reducible rfl))
      try simp only [Act.put, List.setIfInBounds_toArray, List.set_cons_zero, List.set_cons_succ]
      refine wpAnyH_take (i := 12) (oi := { dst := some 3, op := _, type := _, pos := _, after := _, guard := _ }) (v := ?_) rfl (by kernel_rfl) (by kernel_rfl) (by kernel_rfl) (fun _ _ _ h => h) (Or.inl ⟨by rfl, ?_⟩) (by assumption) ?_
      rotate_left
      · intro w hSw
        (try dsimp only at hSw)
        go_simp
        (try (with_reducible rfl))
      try simp only [Act.put, List.setIfInBounds_toArray, List.set_cons_zero, List.set_cons_succ]
      refine wpAnyH_done (by kernel_rfl) ?_ _
      clear hHeld
      go_wp2
      go_roundg (xs.length - (k + 1))
      case measure => omega
      case rel => exact ⟨k + 1, by omega, rfl, by go_num, by rw [HS.out], BR, hpw, hbel⟩
    · obtain rfl : k = xs.length := by omega
      have hlt' : ¬ ((xs.length : Nat) : Int) < p + 1 := by omega
      go_wp2
      go_ret
      exact ⟨rfl, hbel⟩
theorem hasChecker_any (n : Int) (w : World) : Calls Try.prog 86 #[.int .i64 n] w fun e w' => e = .returned (.bool (decide (0 < n))) ∧ w' = w := by
  go_enter Try.func86, Try.ntmps86
  go_wp2
  go_ret
  exact ⟨rfl, rfl⟩
set_option maxHeartbeats 2000000 in
theorem rx_occupied_any (p c s : Int) (H : Nat) (f1 f2 B0 fn B : Nat) (xs : List Int) (w : World) (p0 : 0 ≤ p) (p1 : p ≤ 24) (hn : (xs.length : Int) = p + 1) (hx : ∀ x ∈ xs, 0 ≤ x ∧ x ≤ 1000) (hp : Pays fn B xs w) (h2 : (H : Int) ≤ p) :
    Calls Try.prog 71 #[.agg #[.int .i64 p, .int .i64 c, .int .i64 (H : Int), .int .i64 s, .int .i64 p, fv f1 B0, fv f2 B0, fv fn B]] w fun e w' => e = .returned (.int .i64 (occL xs H)) ∧ Below w.heap.size w w' := by
  have BR := Blk.new w #[.int .i64 p, .int .i64 c, .int .i64 (H : Int), .int .i64 s, .int .i64 p, fv f1 B0, fv f2 B0, fv fn B] 61
  have hb : Below w.heap.size w (w.alloc (.cells #[.int .i64 p, .int .i64 c, .int .i64 (H : Int), .int .i64 s, .int .i64 p, fv f1 B0, fv f2 B0, fv fn B] 61)) := (Below.refl _ _).alloc (Nat.le_refl _) _
  replace hp := hp.below hb
  have e199 := hp.1
  obtain ⟨x0, x1, x2, x3, x4, x5, x6, x7, xf, xl⟩ := BR.eight
  go_enter Try.func71, Try.ntmps71
  go_wp2
  clear x0 x1 x2 x3 x4 x5 x6 x7 xf xl
  generalize (w.alloc (.cells #[.int .i64 p, .int .i64 c, .int .i64 (H : Int), .int .i64 s, .int .i64 p, fv f1 B0, fv f2 B0, fv fn B] 61)) = v0 at *
  go_loopg [3, 8] H (fun m q i wr => ∃ k : Nat, k ≤ H ∧ m = H - k ∧ i = .int .i64 k ∧ q = .int .i64 (occL xs k) ∧ Blk wr w.heap.size #[.int .i64 p, .int .i64 c, .int .i64 (H : Int), .int .i64 s, .int .i64 p, fv f1 B0, fv f2 B0, fv fn B] 61 ∧ Pays fn B xs wr ∧ Below w.heap.size w wr)
  case atStart => exact ⟨0, by omega, by omega, rfl, rfl, BR, hp, hb⟩
  case round =>
    clear BR hb hp
    obtain ⟨k, hk, hm, rfl, rfl, BR, hpw, hbel⟩ := hrel
    by_cases hlt : k < H
    · have hlt' : (k : Int) < (H : Int) := by omega
      have hbd := occL_bound xs k
      have hpk := fun W (hW : Pays fn B xs W) => hW.2 W (Below.refl _ _) k (by omega)
      have hst : occL xs (k + 1) = if 0 < xs.getD k 0 then occL xs k + 1 else occL xs k := rfl
      obtain ⟨v, hv⟩ : ∃ v, xs.getD k 0 = v := ⟨_, rfl⟩
      obtain ⟨C, hC⟩ : ∃ C, occL xs k = C := ⟨_, rfl⟩
      rw [hv, hC] at hst
      rw [hv] at hpk
      rw [hC] at hbd ⊢
      have hc0 : 0 ≤ C := hbd.1
      have hc1 : C ≤ 1000 := by omega
      have HP := Lib.hid hpk
      clear hv hpk hbd hC
      obtain ⟨x0, x1, x2, x3, x4, x5, x6, x7, xf, xl⟩ := BR.eight
      by_cases d : 0 < v
      · rw [if_pos d] at hst
        have HS := Lib.hid hst
        have g1 : decide (0 < v) = true := by simpa using d
        clear hst d
        go_wp2_with (first | (go_at_fn fn; refine (HP.out _ hpw).mono ?_; rintro e w5 ⟨rfl, hb5⟩) | (go_at_call 86; refine (hasChecker_any _ _).mono ?_; rintro e w6 ⟨rfl, rfl⟩))
        go_roundg (H - (k + 1))
        case measure => omega
        case rel => exact ⟨k + 1, by omega, rfl, by go_num, by rw [HS.out], BR.below hb5, hpw.below hb5, chain hbel hb5⟩
      · rw [if_neg d] at hst
        have HS := Lib.hid hst
        have g1 : decide (0 < v) = false := by simpa using d
        clear hst d
        go_wp2_with (first | (go_at_fn fn; refine (HP.out _ hpw).mono ?_; rintro e w5 ⟨rfl, hb5⟩) | (go_at_call 86; refine (hasChecker_any _ _).mono ?_; rintro e w6 ⟨rfl, rfl⟩))
        go_roundg (H - (k + 1))
        case measure => omega
        case rel => exact ⟨k + 1, by omega, rfl, by go_num, by rw [HS.out], BR.below hb5, hpw.below hb5, chain hbel hb5⟩
    · obtain rfl : k = H := by omega
      have hlt' : ¬ ((k : Nat) : Int) < (k : Int) := by omega
      obtain ⟨x0, x1, x2, x3, x4, x5, x6, x7, xf, xl⟩ := BR.eight
      go_wp2
      go_ret
      exact ⟨rfl, hbel⟩
end Go.Proofs.Ytjepbhainidpgaa
