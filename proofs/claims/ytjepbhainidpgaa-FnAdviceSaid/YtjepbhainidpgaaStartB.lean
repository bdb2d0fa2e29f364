/- Contracts of the first board, of the program and of its model. -/
import Derived.Test.YtjepbhainidpgaaStart
namespace Go.Proofs.Ytjepbhainidpgaa
open Go.ChangeShapes Go.WideShapes Go.ChangeAt Go.RowKit
set_option linter.unusedVariables false
set_option linter.unusedSimpArgs false
set_option maxRecDepth 4000

/-- Whether there is a first board, and its side. -/
def stB (p c h s : Int) : Bool := vB p c h s && decide (4 ≤ p)
def stL (p c h s : Int) : List Int := if stB p c h s = true then startL p c h s else []
theorem stL_length (p c h s : Int) : (stL p c h s).length ≤ 1048576 := by
  unfold stL
  split
  · rename_i g
    simp only [stB, Bool.and_eq_true] at g
    have := (vB_iff.1 g.1).2.1
    rw [startL_length]
    omega
  · simp
def StartGot (b : Bool) (xs ys : List Int) (w : World) (e : Ending) (w' : World) : Prop :=
  ∃ a1 a2 k1 k2, e = .returned (.tuple #[.agg #[.slice a1 xs.length k1, .slice a2 ys.length k2], .bool b]) ∧ OBd w.heap.size w'.heap.size w' a1 a2 xs ys ∧ Below w.heap.size w w'
theorem heldVR {w W w2 : World} {p c h s : Int} (hS : W.cell? ⟨w.heap.size, 0, none⟩ = some (.int .i64 p) ∧ W.cell? ⟨w.heap.size, 1, none⟩ = some (.int .i64 c) ∧ W.cell? ⟨w.heap.size, 2, none⟩ = some (.int .i64 h) ∧ W.cell? ⟨w.heap.size, 3, none⟩ = some (.int .i64 s) ∧ Below w.heap.size w W ∧ ∃ u0 u1, Blk W (w.heap.size + 1) #[u0, u1] 34) (hb : Below W.heap.size W w2) : w2.cell? ⟨w.heap.size, 0, none⟩ = some (.int .i64 p) ∧ w2.cell? ⟨w.heap.size, 1, none⟩ = some (.int .i64 c) ∧ w2.cell? ⟨w.heap.size, 2, none⟩ = some (.int .i64 h) ∧ w2.cell? ⟨w.heap.size, 3, none⟩ = some (.int .i64 s) ∧ Below w.heap.size w w2 ∧ ∃ u0 u1, Blk w2 (w.heap.size + 1) #[u0, u1] 34 := by
  obtain ⟨h0, h1, h2, h3, h4, u0, u1, h6⟩ := hS
  obtain ⟨hc, _⟩ := bcell hb
  have h5 : w.heap.size < W.heap.size := by have := h6.lt; omega
  exact ⟨by rw [hc _ _ h5]; exact h0, by rw [hc _ _ h5]; exact h1, by rw [hc _ _ h5]; exact h2, by rw [hc _ _ h5]; exact h3, chain h4 hb, u0, u1, h6.below hb⟩
theorem storeVR {w W : World} {p c h s : Int} (hS : W.cell? ⟨w.heap.size, 0, none⟩ = some (.int .i64 p) ∧ W.cell? ⟨w.heap.size, 1, none⟩ = some (.int .i64 c) ∧ W.cell? ⟨w.heap.size, 2, none⟩ = some (.int .i64 h) ∧ W.cell? ⟨w.heap.size, 3, none⟩ = some (.int .i64 s) ∧ Below w.heap.size w W ∧ ∃ u0 u1, Blk W (w.heap.size + 1) #[u0, u1] 34) (q0 q1 : Value) : ((W.setCell ⟨w.heap.size + 1, 0, none⟩ q0).setCell ⟨w.heap.size + 1, 1, none⟩ q1).cell? ⟨w.heap.size, 0, none⟩ = some (.int .i64 p) ∧ ((W.setCell ⟨w.heap.size + 1, 0, none⟩ q0).setCell ⟨w.heap.size + 1, 1, none⟩ q1).cell? ⟨w.heap.size, 1, none⟩ = some (.int .i64 c) ∧ ((W.setCell ⟨w.heap.size + 1, 0, none⟩ q0).setCell ⟨w.heap.size + 1, 1, none⟩ q1).cell? ⟨w.heap.size, 2, none⟩ = some (.int .i64 h) ∧ ((W.setCell ⟨w.heap.size + 1, 0, none⟩ q0).setCell ⟨w.heap.size + 1, 1, none⟩ q1).cell? ⟨w.heap.size, 3, none⟩ = some (.int .i64 s) ∧ Below w.heap.size w ((W.setCell ⟨w.heap.size + 1, 0, none⟩ q0).setCell ⟨w.heap.size + 1, 1, none⟩ q1) ∧ ∃ u0 u1, Blk ((W.setCell ⟨w.heap.size + 1, 0, none⟩ q0).setCell ⟨w.heap.size + 1, 1, none⟩ q1) (w.heap.size + 1) #[u0, u1] 34 := by
  obtain ⟨h0, h1, h2, h3, h4, u0, u1, h6⟩ := hS
  refine ⟨?_, ?_, ?_, ?_, (h4.setCell (by simp) _).setCell (by simp) _, q0, q1, (h6.set q0).set q1⟩ <;> (rw [World.cell?_setCell_far _ _ _ _ (by simp), World.cell?_setCell_far _ _ _ _ (by simp)]; assumption)
set_option maxRecDepth 8000 in
set_option maxHeartbeats 1000000 in
theorem specStartBoard_any (p c h s : Int) (w : World) : Calls Try.prog 94 #[.agg #[.int .i64 p, .int .i64 c, .int .i64 h, .int .i64 s]] w (StartGot (stB p c h s) (stL p c h s) (stL p c h s) w) := by
  obtain ⟨BV, BR, hb, hz⟩ := two_new w #[.int .i64 p, .int .i64 c, .int .i64 h, .int .i64 s] #[.slice none 0 0, .slice none 0 0] 26 34
  obtain ⟨x0, x1, x2, x3, xf, xl⟩ := BV.four
  obtain ⟨y0, y1, yf, yl⟩ := BR.two
  by_cases g : vB p c h s = true
  · by_cases p4 : 4 ≤ p
    · have e0 : stB p c h s = true := by simp [stB, g, p4]
      rw [stL, if_pos e0, e0]
      clear e0
      have hv := fun W => specIsVariant_any p c h s W
      simp only [g] at hv
      have HV := Lib.hid hv
      clear hv
      have hSL := startL_length p c h s
      go_enter Try.func94, Try.ntmps94
      go_wp2_with (go_at_call 30; refine (HV.out _).mono ?_; rintro e w1 ⟨rfl, hb0⟩; obtain ⟨x0, x1, x2, x3, xf, xl⟩ := (BV.below hb0).four; obtain ⟨y0, y1, yf, yl⟩ := (BR.below hb0).two)
      have hz0 : w.heap.size + 1 + 1 ≤ w1.heap.size := by have := hb0.size; omega
      refine wp_region_held_drew (S := fun w' => w'.cell? ⟨w.heap.size, 0, none⟩ = some (.int .i64 p) ∧ w'.cell? ⟨w.heap.size, 1, none⟩ = some (.int .i64 c) ∧ w'.cell? ⟨w.heap.size, 2, none⟩ = some (.int .i64 h) ∧ w'.cell? ⟨w.heap.size, 3, none⟩ = some (.int .i64 s) ∧ Below w.heap.size w w' ∧ ∃ u0 u1, Blk w' (w.heap.size + 1) #[u0, u1] 34) (by kernel_rfl) ⟨x0, x1, x2, x3, (chain hb hb0).drew, _, _, (BR.below hb0).drew⟩ (fun hHeld => ?_)
      refine wpAnyH_take (i := 0) (oi := { dst := some 13, op := _, type := _, pos := _, after := _, guard := _ }) (v := ?_) rfl (by kernel_rfl) (by kernel_rfl) (by kernel_rfl) (fun _ _ _ h => h) (Or.inl ⟨by rfl, ?_⟩) (by assumption) ?_
      rotate_left
      · intro w hSw
        (try dsimp only at hSw)
        go_simp
        (try (with_reducible rfl))
      try simp only [Act.put, List.setIfInBounds_toArray, List.set_cons_zero, List.set_cons_succ]
      refine wpAnyH_take (i := 2) (oi := { dst := some 15, op := _, type := _, pos := _, after := _, guard := _ }) (v := ?_) rfl (by kernel_rfl) (by kernel_rfl) (by kernel_rfl) (fun _ _ _ h => h) (Or.inl ⟨by rfl, ?_⟩) (by assumption) ?_
      rotate_left
      · intro w hSw
        (try dsimp only at hSw)
        go_simp
        (try (with_reducible rfl))
      try simp only [Act.put, List.setIfInBounds_toArray, List.set_cons_zero, List.set_cons_succ]
      refine wpAnyH_ready (rs := [1]) (by kernel_rfl) (by simp) ?_
      refine AllReadyH.cons (o := { dst := some 14, op := _, type := _, pos := _, after := _, guard := _ }) rfl (fun K hK => ?_) AllReadyH.nil
      go_simp
      refine (l02Start_any p c h s _ g p4).mono ?_
      rintro e w5 ⟨g1, rfl, hg1, R1, hb1⟩
      have hS := heldVR hHeld hb1
      (try go_wp2_with fail)
      refine hK.out _ _ hS (fun hHeld => ?_)
      clear hK K
      try simp only [Act.put, List.setIfInBounds_toArray, List.set_cons_zero, List.set_cons_succ]
      refine wpAnyH_ready (rs := [3]) (by kernel_rfl) (by simp) ?_
      refine AllReadyH.cons (o := { dst := some 16, op := _, type := _, pos := _, after := _, guard := _ }) rfl (fun K hK => ?_) AllReadyH.nil
      go_simp
      refine (l02Start_any p c h s _ g p4).mono ?_
      rintro e w6 ⟨g2, rfl, hg2, R2, hb2⟩
      have R1b := R1.below hb2
      have hl0 := R1.lt
      have hS := heldVR hHeld hb2
      (try go_wp2_with fail)
      refine hK.out _ _ hS (fun hHeld => ?_)
      clear hK K
      try simp only [Act.put, List.setIfInBounds_toArray, List.set_cons_zero, List.set_cons_succ]
      refine wpAnyH_take (i := 4) (oi := { dst := some 17, op := _, type := _, pos := _, after := _, guard := _ }) (v := ?_) rfl (by kernel_rfl) (by kernel_rfl) (by kernel_rfl) (fun _ _ _ h => h) (Or.inl ⟨by rfl, ?_⟩) (by assumption) ?_
      rotate_left
      · intro w hSw
        (try dsimp only at hSw)
        go_simp
        (try (with_reducible rfl))
      try simp only [Act.put, List.setIfInBounds_toArray, List.set_cons_zero, List.set_cons_succ]
      refine wpAnyH_ready (rs := [5]) (by kernel_rfl) (by simp) ?_
      refine AllReadyH.cons (o := { dst := none, op := _, type := _, pos := _, after := _, guard := _ }) rfl (fun K hK => ?_) AllReadyH.nil
      obtain ⟨u0, u1, BU⟩ := hHeld.2.2.2.2.2
      have y0 := BU.two.1
      have y1 := BU.two.2.1
      have yf := BU.two.2.2.1
      have yl := BU.two.2.2.2
      go_simp
      (try go_wp2_with fail)
      refine hK.out _ _ (storeVR hHeld _ _) (fun hHeld => ?_)
      clear hK K
      try simp only [Act.put, List.setIfInBounds_toArray, List.set_cons_zero, List.set_cons_succ]
      refine wpAnyH_take (i := 6) (oi := { dst := some 3, op := _, type := _, pos := _, after := _, guard := _ }) (v := ?_) rfl (by kernel_rfl) (by kernel_rfl) (by kernel_rfl) (fun _ _ _ h => h) (Or.inl ⟨by rfl, ?_⟩) (by assumption) ?_
      rotate_left
      · intro w hSw
        (try dsimp only at hSw)
        go_simp
        (try (with_reducible rfl))
      try simp only [Act.put, List.setIfInBounds_toArray, List.set_cons_zero, List.set_cons_succ]
      refine wpAnyH_done (by kernel_rfl) ?_ _
      go_wp2
      have hl2 := R2.lt
      have hbz := hHeld.2.2.2.2.1
      have hg1' : w1.heap.size ≤ g1 := hg1
      refine bodyPost_ret (v := .tuple #[.agg #[.slice (some ⟨g1, 0, none⟩) (p.toNat + 1) (p.toNat + 1), .slice (some ⟨g2, 0, none⟩) (p.toNat + 1) (p.toNat + 1)], .bool true]) (by simp [results, Try.results94, go_sem, y0, y1]) rfl ?_
      exact ⟨some ⟨g1, 0, none⟩, some ⟨g2, 0, none⟩, p.toNat + 1, p.toNat + 1, by rw [hSL], .inr ⟨g1, g2, rfl, rfl, by omega, by omega, by have := R1b.lt; simpa using this, by omega, by simpa using hl2, (R1b.other (by omega)).other (by omega), (R2.other (by omega)).other (by omega)⟩, hbz⟩
    · have e0 : stB p c h s = false := by simp [stB, g, p4]
      rw [stL, e0, if_neg (by simp)]
      clear e0
      have hv := fun W => specIsVariant_any p c h s W
      simp only [g] at hv
      have HV := Lib.hid hv
      clear hv
      go_enter Try.func94, Try.ntmps94
      go_wp2_with (go_at_call 30; refine (HV.out _).mono ?_; rintro e w1 ⟨rfl, hb0⟩; obtain ⟨x0, x1, x2, x3, xf, xl⟩ := (BV.below hb0).four; obtain ⟨y0, y1, yf, yl⟩ := (BR.below hb0).two)
      refine bodyPost_ret (v := .tuple #[.agg #[.slice none 0 0, .slice none 0 0], .bool false]) (by simp [results, Try.results94, go_sem, y0, y1]) rfl ?_
      exact ⟨none, none, 0, 0, rfl, .inl ⟨rfl, rfl, rfl, rfl⟩, ((chain hb hb0).setCell (by simp) _).setCell (by simp) _⟩
  · replace g : vB p c h s = false := by simpa using g
    have e0 : stB p c h s = false := by simp [stB, g]
    rw [stL, e0, if_neg (by simp)]
    clear e0
    have hv := fun W => specIsVariant_any p c h s W
    simp only [g] at hv
    have HV := Lib.hid hv
    clear hv
    go_enter Try.func94, Try.ntmps94
    go_wp2_with (go_at_call 30; refine (HV.out _).mono ?_; rintro e w1 ⟨rfl, hb0⟩; obtain ⟨x0, x1, x2, x3, xf, xl⟩ := (BV.below hb0).four; obtain ⟨y0, y1, yf, yl⟩ := (BR.below hb0).two)
    refine bodyPost_ret (v := .tuple #[.agg #[.slice none 0 0, .slice none 0 0], .bool false]) (by simp [results, Try.results94, go_sem, y0, y1]) rfl ?_
    exact ⟨none, none, 0, 0, rfl, .inl ⟨rfl, rfl, rfl, rfl⟩, ((chain hb hb0).setCell (by simp) _).setCell (by simp) _⟩
end Go.Proofs.Ytjepbhainidpgaa
