/- Contracts of the first board's sides, of the program and of its model. -/
import Derived.Test.YtjepbhainidpgaaOwnB
import Derived.Test.YtjepbhainidpgaaL01b
import Derived.Test.YtjepbhainidpgaaM02
import Derived.Test.YtjepbhainidpgaaVarB
namespace Go.Proofs.Ytjepbhainidpgaa
open Go.ChangeShapes Go.WideShapes Go.ChangeAt Go.RowKit
set_option linter.unusedVariables false
set_option linter.unusedSimpArgs false
set_option maxRecDepth 4000

/-- One side of the first board. -/
def startL (p c h s : Int) : List Int :=
  if p = 24 ∧ c = 15 ∧ h = 6 ∧ s = 6 then ((((List.replicate 25 (0 : Int)).set 5 5).set 7 3).set 12 5).set 23 2
  else ((List.replicate (p.toNat + 1) (0 : Int)).set (p - 1).toNat (c.tdiv 2)).set (p.tdiv 2 - 1).toNat (c - c.tdiv 2)
theorem startL_length (p c h s : Int) : (startL p c h s).length = p.toNat + 1 := by
  unfold startL
  split
  · rename_i g
    obtain ⟨rfl, _⟩ := g
    simp
  · simp
theorem heldVRow {w W w2 : World} {p c h s : Int} {G : Nat} {L : List Int} (hS : W.cell? ⟨w.heap.size, 0, none⟩ = some (.int .i64 p) ∧ W.cell? ⟨w.heap.size, 1, none⟩ = some (.int .i64 c) ∧ W.cell? ⟨w.heap.size, 2, none⟩ = some (.int .i64 h) ∧ W.cell? ⟨w.heap.size, 3, none⟩ = some (.int .i64 s) ∧ Below w.heap.size w W ∧ w.heap.size < W.heap.size ∧ Row W G L) (hb : Below W.heap.size W w2) : w2.cell? ⟨w.heap.size, 0, none⟩ = some (.int .i64 p) ∧ w2.cell? ⟨w.heap.size, 1, none⟩ = some (.int .i64 c) ∧ w2.cell? ⟨w.heap.size, 2, none⟩ = some (.int .i64 h) ∧ w2.cell? ⟨w.heap.size, 3, none⟩ = some (.int .i64 s) ∧ Below w.heap.size w w2 ∧ w.heap.size < w2.heap.size ∧ Row w2 G L := by
  obtain ⟨h0, h1, h2, h3, h4, h5, h6⟩ := hS
  obtain ⟨hc, _⟩ := bcell hb
  exact ⟨by rw [hc _ _ h5]; exact h0, by rw [hc _ _ h5]; exact h1, by rw [hc _ _ h5]; exact h2, by rw [hc _ _ h5]; exact h3, chain h4 hb, Nat.lt_of_lt_of_le h5 hb.size, h6.below hb⟩
set_option maxHeartbeats 1000000 in
theorem l02Empty_any (P : Nat) (c h s : Int) (w : World) (p1 : P ≤ 24) : Calls Try.prog 75 #[.agg #[.int .i64 (P : Int), .int .i64 c, .int .i64 h, .int .i64 s]] w (Copied (List.replicate (P + 1) 0) w) := by
  obtain ⟨i0, hi, hz0, hz1, hz2⟩ := info_parts infoI64
  have hb : Below w.heap.size w (w.alloc (.cells #[.int .i64 (P : Int), .int .i64 c, .int .i64 h, .int .i64 s] 26)) := (Below.refl _ _).alloc (Nat.le_refl _) _
  obtain ⟨x0, x1, x2, x3, xf, xl⟩ := (Blk.new w #[.int .i64 (P : Int), .int .i64 c, .int .i64 h, .int .i64 s] 26).four
  go_enter Try.func75, Try.ntmps75
  go_wp2_with (at_make; refine wpList_make_row _ rfl _ _ 29 rfl 2 i0 (.int .i64 0) Try.underlying29 hi hz0 hz1 rfl .i64 .i64 (P + 1) (by rfl) (by rfl) (by rw [hz2]; omega) (by omega) ?_)
  have hR := made_row (w.alloc (.cells #[.int .i64 (P : Int), .int .i64 c, .int .i64 h, .int .i64 s] 26)) (P + 1)
  have hsz : (w.alloc (.cells #[.int .i64 (P : Int), .int .i64 c, .int .i64 h, .int .i64 s] 26)).heap.size = w.heap.size + 1 := by simp
  rw [hsz] at hR
  go_wp2
  go_ret
  exact ⟨w.heap.size + 1, by simp, by omega, hR, chain_alloc hb _⟩
set_option maxHeartbeats 1000000 in
theorem l02Start_any (p c h s : Int) (w : World) (g : vB p c h s = true) (p4 : 4 ≤ p) : Calls Try.prog 96 #[.agg #[.int .i64 p, .int .i64 c, .int .i64 h, .int .i64 s]] w (Copied (startL p c h s) w) := by
  obtain ⟨v0, v1, v2, v3, v4, v5, v6, v7⟩ := vB_iff.1 g
  by_cases f : p = 24 ∧ c = 15 ∧ h = 6 ∧ s = 6
  · rw [startL, if_pos f]
    obtain ⟨rfl, rfl, rfl, rfl⟩ := f
    clear v0 v1 v2 v3 v4 v5 v6 v7 g p4
    have hb : Below w.heap.size w (w.alloc (.cells #[.int .i64 24, .int .i64 15, .int .i64 6, .int .i64 6] 26)) := (Below.refl _ _).alloc (Nat.le_refl _) _
    have B0 := Blk.new w #[.int .i64 24, .int .i64 15, .int .i64 6, .int .i64 6] 26
    obtain ⟨x0, x1, x2, x3, xf, xl⟩ := B0.four
    go_enter Try.func96, Try.ntmps96
    go_wp2_with fail
    refine (l02Empty_any 24 _ _ _ _ (by omega)).mono ?_
    rintro e w1 ⟨G, rfl, hG, hR, hb1⟩
    clear x0 x1 x2 x3 xf xl
    obtain ⟨x0, x1, x2, x3, xf, xl⟩ := (B0.below hb1).four
    replace hb := chain hb hb1
    replace hG : w.heap.size ≤ G := by simp at hG; omega
    have hrl : (List.replicate (24 + 1) (0 : Int)).length = 24 + 1 := by simp
    rw [hrl]
    clear hb1 B0
    go_wp2_with fail
    refine wp_region_held_drew (S := fun w' => w'.cell? ⟨w.heap.size, 0, none⟩ = some (.int .i64 24) ∧ w'.cell? ⟨w.heap.size, 1, none⟩ = some (.int .i64 15) ∧ w'.cell? ⟨w.heap.size, 2, none⟩ = some (.int .i64 6) ∧ w'.cell? ⟨w.heap.size, 3, none⟩ = some (.int .i64 6) ∧ Below w.heap.size w w' ∧ w.heap.size < w'.heap.size ∧ Row w' G (List.replicate 25 0)) (by kernel_rfl) ⟨x0, x1, x2, x3, hb.drew, xl, hR.drew⟩ (fun hHeld => ?_)
    refine wpAnyH_take (i := 0) (oi := { dst := some 6, op := _, type := _, pos := _, after := _, guard := _ }) (v := ?_) rfl (by kernel_rfl) (by kernel_rfl) (by kernel_rfl) (fun _ _ _ h => h) (Or.inl ⟨by rfl, ?_⟩) (by assumption) ?_
    rotate_left
    · intro w hSw
      (try dsimp only at hSw)
      go_simp
      (try (with_reducible rfl))
    try simp only [Act.put, List.setIfInBounds_toArray, List.set_cons_zero, List.set_cons_succ]
    refine wpAnyH_ready (rs := [1]) (by kernel_rfl) (by simp) ?_
    refine AllReadyH.cons (o := { dst := some 7, op := _, type := _, pos := _, after := _, guard := _ }) rfl (fun K hK => ?_) AllReadyH.nil
    go_simp
    refine (specFull_any _).mono ?_
    rintro e w7 ⟨rfl, hb7⟩
    have hS := heldVRow hHeld hb7
    (try go_wp2_with fail)
    refine hK.out _ _ hS (fun hHeld => ?_)
    clear hK K
    try simp only [Act.put, List.setIfInBounds_toArray, List.set_cons_zero, List.set_cons_succ]
    refine wpAnyH_take (i := 2) (oi := { dst := some 8, op := _, type := _, pos := _, after := _, guard := _ }) (v := ?_) rfl (by kernel_rfl) (by kernel_rfl) (by kernel_rfl) (fun _ _ _ h => h) (Or.inl ⟨by rfl, ?_⟩) (by assumption) ?_
    rotate_left
    · intro w hSw
      (try dsimp only at hSw)
      go_simp
      (try (with_reducible rfl))
    try simp only [Act.put, List.setIfInBounds_toArray, List.set_cons_zero, List.set_cons_succ]
    refine wpAnyH_done (by kernel_rfl) ?_ _
    obtain ⟨-, -, -, -, hbw, hlw, R⟩ := hHeld
    have f0 := fun i => R.free i
    have c5 := R.cell 5 (by simp)
    have c7 := R.cell 7 (by simp)
    have c12 := R.cell 12 (by simp)
    have c23 := R.cell 23 (by simp)
    go_wp2
    go_ret
    exact ⟨G, by simp, by omega, (((R.set 5 5).set 7 3).set 12 5).set 23 2, (((hbw.setCell (by simp; omega) _).setCell (by simp; omega) _).setCell (by simp; omega) _).setCell (by simp; omega) _⟩
  · rw [startL, if_neg f]
    obtain ⟨P, rfl⟩ := Int.eq_ofNat_of_zero_le (by omega : 0 ≤ p)
    obtain ⟨C, rfl⟩ := Int.eq_ofNat_of_zero_le (by omega : 0 ≤ c)
    have ff := f
    clear g
    have hb : Below w.heap.size w (w.alloc (.cells #[.int .i64 (P : Int), .int .i64 (C : Int), .int .i64 h, .int .i64 s] 26)) := (Below.refl _ _).alloc (Nat.le_refl _) _
    have B0 := Blk.new w #[.int .i64 (P : Int), .int .i64 (C : Int), .int .i64 h, .int .i64 s] 26
    obtain ⟨x0, x1, x2, x3, xf, xl⟩ := B0.four
    go_enter Try.func96, Try.ntmps96
    go_wp2_with fail
    refine (l02Empty_any P _ _ _ _ (by omega)).mono ?_
    rintro e w1 ⟨G, rfl, hG, hR, hb1⟩
    clear x0 x1 x2 x3 xf xl
    obtain ⟨x0, x1, x2, x3, xf, xl⟩ := (B0.below hb1).four
    replace hb := chain hb hb1
    replace hG : w.heap.size ≤ G := by simp at hG; omega
    have hrl : (List.replicate (P + 1) (0 : Int)).length = P + 1 := by simp
    rw [hrl]
    clear hb1 B0
    go_wp2_with fail
    refine wp_region_held_drew (S := fun w' => w'.cell? ⟨w.heap.size, 0, none⟩ = some (.int .i64 (P : Int)) ∧ w'.cell? ⟨w.heap.size, 1, none⟩ = some (.int .i64 (C : Int)) ∧ w'.cell? ⟨w.heap.size, 2, none⟩ = some (.int .i64 h) ∧ w'.cell? ⟨w.heap.size, 3, none⟩ = some (.int .i64 s) ∧ Below w.heap.size w w' ∧ w.heap.size < w'.heap.size ∧ Row w' G (List.replicate (P + 1) 0)) (by kernel_rfl) ⟨x0, x1, x2, x3, hb.drew, xl, hR.drew⟩ (fun hHeld => ?_)
    refine wpAnyH_take (i := 0) (oi := { dst := some 6, op := _, type := _, pos := _, after := _, guard := _ }) (v := ?_) rfl (by kernel_rfl) (by kernel_rfl) (by kernel_rfl) (fun _ _ _ h => h) (Or.inl ⟨by rfl, ?_⟩) (by assumption) ?_
    rotate_left
    · intro w hSw
      (try dsimp only at hSw)
      go_simp
      (try (with_reducible rfl))
      (try ((repeat' split) <;> first | (exfalso; omega) | rfl))
    try simp only [Act.put, List.setIfInBounds_toArray, List.set_cons_zero, List.set_cons_succ]
    refine wpAnyH_ready (rs := [1]) (by kernel_rfl) (by simp) ?_
    refine AllReadyH.cons (o := { dst := some 7, op := _, type := _, pos := _, after := _, guard := _ }) rfl (fun K hK => ?_) AllReadyH.nil
    go_simp
    refine (specFull_any _).mono ?_
    rintro e w7 ⟨rfl, hb7⟩
    have hS := heldVRow hHeld hb7
    (try go_wp2_with fail)
    refine hK.out _ _ hS (fun hHeld => ?_)
    clear hK K
    try simp only [Act.put, List.setIfInBounds_toArray, List.set_cons_zero, List.set_cons_succ]
    refine wpAnyH_take (i := 2) (oi := { dst := some 8, op := _, type := _, pos := _, after := _, guard := _ }) (v := ?_) rfl (by kernel_rfl) (by kernel_rfl) (by kernel_rfl) (fun _ _ _ h => h) (Or.inl ⟨by rfl, ?_⟩) (by assumption) ?_
    rotate_left
    · intro w hSw
      (try dsimp only at hSw)
      go_simp
      (try (with_reducible rfl))
      (try ((repeat' split) <;> first | (exfalso; omega) | rfl))
    try simp only [Act.put, List.setIfInBounds_toArray, List.set_cons_zero, List.set_cons_succ]
    refine wpAnyH_done (by kernel_rfl) ?_ _
    obtain ⟨-, y1, -, -, hbw, hlw, R⟩ := hHeld
    have f0 := fun i => R.free i
    have hH : ∃ H : Nat, (P : Int).tdiv 2 = H ∧ 2 ≤ H ∧ H * 2 ≤ P := ⟨P / 2, by rw [Int.tdiv_eq_ediv_of_nonneg (by omega)]; omega, by omega, by omega⟩
    have hE : ∃ E : Nat, (C : Int).tdiv 2 = E ∧ E ≤ C := ⟨C / 2, by rw [Int.tdiv_eq_ediv_of_nonneg (by omega)]; omega, by omega⟩
    obtain ⟨H, hH, H2, HP⟩ := hH
    obtain ⟨E, hE, EC⟩ := hE
    have cA := R.cell (P - 1) (by simp; omega)
    have cB := (R.set (P - 1) E).cell (H - 1) (by simp; omega)
    rw [hH, hE]
    have i1 : (0 : Int) ≤ (P : Int) - 1 := by omega
    have i2 : (P : Int) - 1 < (P : Int) + 1 := by omega
    have i3 : (0 : Int) ≤ (H : Int) - 1 := by omega
    have i4 : (H : Int) - 1 < (P : Int) + 1 := by omega
    clear f ff
    go_wp2
    go_ret
    have hL : ((List.replicate ((P : Int).toNat + 1) (0 : Int)).set ((P : Int) - 1).toNat ((C : Int).tdiv 2)).set ((P : Int).tdiv 2 - 1).toNat ((C : Int) - (C : Int).tdiv 2) = ((List.replicate (P + 1) (0 : Int)).set (P - 1) (E : Int)).set (H - 1) ((C : Int) - (E : Int)) := by
      rw [hH, hE, show ((P : Int)).toNat = P by omega, show ((P : Int) - 1).toNat = P - 1 by omega, show ((H : Int) - 1).toNat = H - 1 by omega]
    exact ⟨G, by simp, by omega, ((R.set (P - 1) E).set (H - 1) ((C : Int) - (E : Int))).wf hL.symm, (hbw.setCell (by simp; omega) _).setCell (by simp; omega) _⟩
end Go.Proofs.Ytjepbhainidpgaa
