/- Contracts of the functions that read a roll from a text, of the program and of its model. -/
import Derived.Test.YthfhiggageejbaaDoorM06r
import Derived.Test.YthfhiggageejbaaDoorSrcLaws
import Derived.Deep.RegionHeld3
namespace Go.Proofs.YthfhiggageejbaaDoor
open Go.ChangeShapes Go.WideShapes Go.ChangeAt Go.RowKit
set_option linter.unusedVariables false
set_option linter.unusedSimpArgs false

theorem wp_region_joinR {P : Program} {c : Code} {Q : Exit → Act → World → Prop} {a : Act} {w : World} (J : Act → Act → World → Prop) (h1 : Code.wp P c (fun e a' w' => e = .normal ∧ J a a' w') a w)
    (h2 : ∀ a' w', J a a' w' → Q .normal a' w') : Code.wp P c Q a w :=
  Code.wp_mono (fun e a w h => by obtain ⟨rfl, hj⟩ := h; exact h2 _ _ hj) h1
theorem cell_keepR {W w2 : World} {b o : Nat} {v : Value} (h : W.cell? ⟨b, o, none⟩ = some v) (hb : Below W.heap.size W w2) : w2.cell? ⟨b, o, none⟩ = some v :=
  (hb.cell (p := ⟨b, o, none⟩) (World.block_lt_of_cell? W _ h)).trans h
theorem heldR {w W w2 : World} {p c h s : Int} (hS : W.cell? ⟨w.heap.size, 0, none⟩ = some (.int .i64 p) ∧ W.cell? ⟨w.heap.size, 1, none⟩ = some (.int .i64 c) ∧ W.cell? ⟨w.heap.size, 2, none⟩ = some (.int .i64 h) ∧ W.cell? ⟨w.heap.size, 3, none⟩ = some (.int .i64 s) ∧ Blk W (w.heap.size + 1) #[.int .i64 0, .int .i64 0] 25 ∧ Below w.heap.size w W) (hb : Below W.heap.size W w2) : w2.cell? ⟨w.heap.size, 0, none⟩ = some (.int .i64 p) ∧ w2.cell? ⟨w.heap.size, 1, none⟩ = some (.int .i64 c) ∧ w2.cell? ⟨w.heap.size, 2, none⟩ = some (.int .i64 h) ∧ w2.cell? ⟨w.heap.size, 3, none⟩ = some (.int .i64 s) ∧ Blk w2 (w.heap.size + 1) #[.int .i64 0, .int .i64 0] 25 ∧ Below w.heap.size w w2 := by
  obtain ⟨a0, a1, a2, a3, B, h⟩ := hS
  exact ⟨cell_keepR a0 hb, cell_keepR a1 hb, cell_keepR a2 hb, cell_keepR a3 hb, B.below hb, chain h hb⟩
theorem storeR {w W : World} {p c h s : Int} {B : Nat} {v0 v1 : Value} (hS : W.cell? ⟨w.heap.size, 0, none⟩ = some (.int .i64 p) ∧ W.cell? ⟨w.heap.size, 1, none⟩ = some (.int .i64 c) ∧ W.cell? ⟨w.heap.size, 2, none⟩ = some (.int .i64 h) ∧ W.cell? ⟨w.heap.size, 3, none⟩ = some (.int .i64 s) ∧ Blk W (w.heap.size + 1) #[.int .i64 0, .int .i64 0] 25 ∧ Below w.heap.size w W) (hB : w.heap.size + 1 < B) : ((W.setCell ⟨B, 0, none⟩ (v0)).setCell ⟨B, 1, none⟩ (v1)).cell? ⟨w.heap.size, 0, none⟩ = some (.int .i64 p) ∧ ((W.setCell ⟨B, 0, none⟩ (v0)).setCell ⟨B, 1, none⟩ (v1)).cell? ⟨w.heap.size, 1, none⟩ = some (.int .i64 c) ∧ ((W.setCell ⟨B, 0, none⟩ (v0)).setCell ⟨B, 1, none⟩ (v1)).cell? ⟨w.heap.size, 2, none⟩ = some (.int .i64 h) ∧ ((W.setCell ⟨B, 0, none⟩ (v0)).setCell ⟨B, 1, none⟩ (v1)).cell? ⟨w.heap.size, 3, none⟩ = some (.int .i64 s) ∧ Blk ((W.setCell ⟨B, 0, none⟩ (v0)).setCell ⟨B, 1, none⟩ (v1)) (w.heap.size + 1) #[.int .i64 0, .int .i64 0] 25 ∧ Below w.heap.size w ((W.setCell ⟨B, 0, none⟩ (v0)).setCell ⟨B, 1, none⟩ (v1)) := by
  obtain ⟨a0, a1, a2, a3, Bk, h⟩ := hS
  have e : ∀ (W' : World) (j b o : Nat) (u : Value), b ≠ B → (W'.setCell ⟨B, j, none⟩ u).cell? ⟨b, o, none⟩ = W'.cell? ⟨b, o, none⟩ := fun W' j b o u hne => World.cell?_setCell_far _ _ _ _ (by simpa using fun q => hne q.symm)
  refine ⟨?_, ?_, ?_, ?_, (Bk.other (by omega)).other (by omega), (h.setCell (p := ⟨B, 0, none⟩) (by show _ ≤ B; omega) _).setCell (p := ⟨B, 1, none⟩) (by show _ ≤ B; omega) _⟩
  · rw [e _ _ _ _ _ (by omega), e _ _ _ _ _ (by omega)]; exact a0
  · rw [e _ _ _ _ _ (by omega), e _ _ _ _ _ (by omega)]; exact a1
  · rw [e _ _ _ _ _ (by omega), e _ _ _ _ _ (by omega)]; exact a2
  · rw [e _ _ _ _ _ (by omega), e _ _ _ _ _ (by omega)]; exact a3
theorem Blk.self2 {W : World} {B : Nat} {q0 q1 v0 v1 : Value} {t : TypeId} (h : Blk W B #[q0, q1] t) : Blk ((W.setCell ⟨B, 0, none⟩ (v0)).setCell ⟨B, 1, none⟩ (v1)) B #[v0, v1] t := by
  have := (h.set (i := 0) v0).set (i := 1) v1
  simp only [List.setIfInBounds_toArray, List.set_cons_zero, List.set_cons_succ] at this
  exact this
theorem indexR_named (t : ByteArray) (j : Nat) (h : j < t.size) : ∃ b : Int, b = ((t.data.toList.getD j 0).toNat : Int) ∧ 0 ≤ b ∧ b ≤ 255 ∧ ∀ W : World, (Instr.index 9 (.string t) (.int .i64 (j : Int))).run Tryd.prog W = .ok (.int .u8 b) W := by
  refine ⟨_, rfl, by omega, by have := (t.data.toList.getD j 0).toNat_lt; omega, fun W => ?_⟩
  rw [run_index_string W 9 t .i64 (j : Int) Tryd.underlying9, dif_pos ⟨by omega, by omega⟩]
  have hj : j < t.data.toList.length := by simpa using h
  rw [List.getD_eq_getElem?_getD, List.getElem?_eq_getElem hj]
  rfl
/-- What a reader of rolls hands back. -/
def rrV : Option (Int × Int) → Value
  | some x => .tuple #[.agg #[.int .i64 x.1, .int .i64 x.2], .bool true]
  | none => .tuple #[.agg #[.int .i64 0, .int .i64 0], .bool false]
set_option maxRecDepth 8000 in
set_option maxHeartbeats 4000000 in
theorem readRoll_any (p c h s : Int) (t : ByteArray) (w : World) :
    Calls Tryd.prog 33 #[.agg #[.int .i64 p, .int .i64 c, .int .i64 h, .int .i64 s], .string t] w fun e w' => e = .returned (rrV (rdR s t.data.toList)) ∧ Below w.heap.size w w' := by
  obtain ⟨BV, BG, hb, hz⟩ := two_new w #[.int .i64 p, .int .i64 c, .int .i64 h, .int .i64 s] #[.int .i64 0, .int .i64 0] 29 25
  clear hz
  obtain ⟨x0, x1, x2, x3, xf, xl⟩ := BV.four
  obtain ⟨y0, y1, yf, yl⟩ := BG.two
  have hlen : t.data.toList.length = t.size := by simp
  by_cases h2 : t.size = 2
  · have e1 : ((t.size : Int) != 2) = false := by rw [bne_eq_false_iff_eq]; omega
    have e2 : (t.size != 2) = false := by rw [bne_eq_false_iff_eq]; omega
    obtain ⟨b0, eb0, l0, u0, hi0⟩ := indexR_named t 0 (by omega)
    obtain ⟨b1, eb1, l1, u1, hi1⟩ := indexR_named t 1 (by omega)
    have hi0 : ∀ W : World, (Instr.index 9 (.string t) (.int .i64 0)).run Tryd.prog W = .ok (.int .u8 b0) W := hi0
    have hi1 : ∀ W : World, (Instr.index 9 (.string t) (.int .i64 1)).run Tryd.prog W = .ok (.int .u8 b1) W := hi1
    have er : rdR s t.data.toList = if rlB s (b0 - 48) (b1 - 48) = true then some (b0 - 48, b1 - 48) else none := by
      unfold rdR
      rw [hlen, ← eb0, ← eb1]
      simp [h2]
    rw [er]
    obtain ⟨ra, hra⟩ : ∃ z, b0 - 48 = z := ⟨_, rfl⟩
    obtain ⟨rb, hrb⟩ : ∃ z, b1 - 48 = z := ⟨_, rfl⟩
    rw [hra, hrb]
    have wa : IntKind.i64.wrap (b0 - 48) = ra := by rw [hra]; exact IntWalk.i64_in _ (by omega)
    have wb : IntKind.i64.wrap (b1 - 48) = rb := by rw [hrb]; exact IntWalk.i64_in _ (by omega)
    have wc : IntKind.i64.wrap b0 = b0 := IntWalk.i64_in _ (by omega)
    have wd : IntKind.i64.wrap b1 = b1 := IntWalk.i64_in _ (by omega)
    have hp := fun W => hasRoll_any p c h s ra rb W
    by_cases q : rlB s ra rb = true
    · rw [if_pos q]
      rw [q] at hp
      have HP := Lib.hid hp
      clear hp q hlen h2 er eb0 eb1 hra hrb l0 l1 u0 u1
      show Calls Tryd.prog 33 #[.agg #[.int .i64 p, .int .i64 c, .int .i64 h, .int .i64 s], .string t] w fun e w' => e = .returned (.tuple #[.agg #[.int .i64 ra, .int .i64 rb], .bool true]) ∧ Below w.heap.size w w'
      go_enter Tryd.func33, Tryd.ntmps33
      go_wp2_with fail
      clear xf xl yf yl
      obtain ⟨J, hJ⟩ : ∃ J : Act → Act → World → Prop, J = fun a a' w' => ∃ B, a' = ((((((((((a.put (some 11) (.string t)).put (some 12) (.int .u8 b0)).put (some 13) (.int .i64 b0)).put (some 14) (.int .i64 ra)).put (some 15) (.string t)).put (some 16) (.int .u8 b1)).put (some 17) (.int .i64 b1)).put (some 18) (.int .i64 rb)).put (some 19) (.agg #[.int .i64 ra, .int .i64 rb])).put (some 6) (.pointer (some ⟨B, 0, none⟩))) ∧ Blk w' B #[.int .i64 ra, .int .i64 rb] 25 ∧ w.heap.size + 1 < B ∧ (w'.cell? ⟨w.heap.size, 0, none⟩ = some (.int .i64 p) ∧ w'.cell? ⟨w.heap.size, 1, none⟩ = some (.int .i64 c) ∧ w'.cell? ⟨w.heap.size, 2, none⟩ = some (.int .i64 h) ∧ w'.cell? ⟨w.heap.size, 3, none⟩ = some (.int .i64 s) ∧ Blk w' (w.heap.size + 1) #[.int .i64 0, .int .i64 0] 25 ∧ Below w.heap.size w w') := ⟨_, rfl⟩
      have HJ := Lib.hid hJ
      clear hJ
      refine wp_region_joinR J ?_ ?_
      · skip
        refine wp_region_held_drew (S := fun w' => w'.cell? ⟨w.heap.size, 0, none⟩ = some (.int .i64 p) ∧ w'.cell? ⟨w.heap.size, 1, none⟩ = some (.int .i64 c) ∧ w'.cell? ⟨w.heap.size, 2, none⟩ = some (.int .i64 h) ∧ w'.cell? ⟨w.heap.size, 3, none⟩ = some (.int .i64 s) ∧ Blk w' (w.heap.size + 1) #[.int .i64 0, .int .i64 0] 25 ∧ Below w.heap.size w w') (by kernel_rfl) ⟨x0, x1, x2, x3, BG, hb.drew⟩ (fun hHeld => ?_)
        clear x0 x1 x2 x3 y0 y1 hb BG BV
        generalize ((w.alloc (.cells #[.int .i64 p, .int .i64 c, .int .i64 h, .int .i64 s] 29)).alloc (.cells #[.int .i64 0, .int .i64 0] 25)).drew = vd at *
        have hprev := hHeld.2.2.2.2.1.lt
        refine wpAnyH_take (i := 0) (oi := { dst := some 11, op := _, type := _, pos := _, after := _, guard := _ }) (v := ?_) rfl (by kernel_rfl) (by kernel_rfl) (by kernel_rfl) (fun _ _ _ h => absurd h.1 (by simp)) (Or.inl ⟨by rfl, ?_⟩) (by assumption) ?_
        rotate_left
        · intro w hSw
          (try dsimp only at hSw)
          go_simp
          (try (with_reducible rfl))
        try simp only [Act.put, List.setIfInBounds_toArray, List.set_cons_zero, List.set_cons_succ]
        refine wpAnyH_take (i := 1) (oi := { dst := some 12, op := _, type := _, pos := _, after := _, guard := _ }) (v := ?_) rfl (by kernel_rfl) (by kernel_rfl) (by kernel_rfl) (fun _ _ _ h => absurd h.1 (by simp)) (Or.inl ⟨by rfl, ?_⟩) (by assumption) ?_
        rotate_left
        · intro w hSw
          (try dsimp only at hSw)
          go_simp
          (try (with_reducible rfl))
        try simp only [Act.put, List.setIfInBounds_toArray, List.set_cons_zero, List.set_cons_succ]
        refine wpAnyH_take (i := 2) (oi := { dst := some 13, op := _, type := _, pos := _, after := _, guard := _ }) (v := ?_) rfl (by kernel_rfl) (by kernel_rfl) (by kernel_rfl) (fun _ _ _ h => absurd h.1 (by simp)) (Or.inl ⟨by rfl, ?_⟩) (by assumption) ?_
        rotate_left
        · intro w hSw
          (try dsimp only at hSw)
          go_simp
          (try (with_reducible rfl))
        try simp only [Act.put, List.setIfInBounds_toArray, List.set_cons_zero, List.set_cons_succ]
        refine wpAnyH_take (i := 3) (oi := { dst := some 14, op := _, type := _, pos := _, after := _, guard := _ }) (v := ?_) rfl (by kernel_rfl) (by kernel_rfl) (by kernel_rfl) (fun _ _ _ h => absurd h.1 (by simp)) (Or.inl ⟨by rfl, ?_⟩) (by assumption) ?_
        rotate_left
        · intro w hSw
          (try dsimp only at hSw)
          go_simp
          (try (with_reducible rfl))
        try simp only [Act.put, List.setIfInBounds_toArray, List.set_cons_zero, List.set_cons_succ]
        refine wpAnyH_take (i := 4) (oi := { dst := some 15, op := _, type := _, pos := _, after := _, guard := _ }) (v := ?_) rfl (by kernel_rfl) (by kernel_rfl) (by kernel_rfl) (fun _ _ _ h => absurd h.1 (by simp)) (Or.inl ⟨by rfl, ?_⟩) (by assumption) ?_
        rotate_left
        · intro w hSw
          (try dsimp only at hSw)
          go_simp
          (try (with_reducible rfl))
        try simp only [Act.put, List.setIfInBounds_toArray, List.set_cons_zero, List.set_cons_succ]
        refine wpAnyH_take (i := 5) (oi := { dst := some 16, op := _, type := _, pos := _, after := _, guard := _ }) (v := ?_) rfl (by kernel_rfl) (by kernel_rfl) (by kernel_rfl) (fun _ _ _ h => absurd h.1 (by simp)) (Or.inl ⟨by rfl, ?_⟩) (by assumption) ?_
        rotate_left
        · intro w hSw
          (try dsimp only at hSw)
          go_simp
          (try (with_reducible rfl))
        try simp only [Act.put, List.setIfInBounds_toArray, List.set_cons_zero, List.set_cons_succ]
        refine wpAnyH_take (i := 6) (oi := { dst := some 17, op := _, type := _, pos := _, after := _, guard := _ }) (v := ?_) rfl (by kernel_rfl) (by kernel_rfl) (by kernel_rfl) (fun _ _ _ h => absurd h.1 (by simp)) (Or.inl ⟨by rfl, ?_⟩) (by assumption) ?_
        rotate_left
        · intro w hSw
          (try dsimp only at hSw)
          go_simp
          (try (with_reducible rfl))
        try simp only [Act.put, List.setIfInBounds_toArray, List.set_cons_zero, List.set_cons_succ]
        refine wpAnyH_take (i := 7) (oi := { dst := some 18, op := _, type := _, pos := _, after := _, guard := _ }) (v := ?_) rfl (by kernel_rfl) (by kernel_rfl) (by kernel_rfl) (fun _ _ _ h => absurd h.1 (by simp)) (Or.inl ⟨by rfl, ?_⟩) (by assumption) ?_
        rotate_left
        · intro w hSw
          (try dsimp only at hSw)
          go_simp
          (try (with_reducible rfl))
        try simp only [Act.put, List.setIfInBounds_toArray, List.set_cons_zero, List.set_cons_succ]
        refine wpAnyH_take (i := 8) (oi := { dst := some 19, op := _, type := _, pos := _, after := _, guard := _ }) (v := ?_) rfl (by kernel_rfl) (by kernel_rfl) (by kernel_rfl) (fun _ _ _ h => absurd h.1 (by simp)) (Or.inl ⟨by rfl, ?_⟩) (by assumption) ?_
        rotate_left
        · intro w hSw
          (try dsimp only at hSw)
          go_simp
          (try (with_reducible rfl))
        try simp only [Act.put, List.setIfInBounds_toArray, List.set_cons_zero, List.set_cons_succ]
        refine wpAnyH_ready (rs := [9]) (by kernel_rfl) (by simp) ?_
        refine AllReadyH.cons (o := { dst := some 6, op := _, type := _, pos := _, after := _, guard := _ }) rfl (fun K hK => ?_) AllReadyH.nil
        go_simp
        refine hK.out _ _ (heldR hHeld ((Below.refl _ _).alloc (Nat.le_refl _) _)) (fun hHeld => ?_)
        clear hK K
        try simp only [Act.put, List.setIfInBounds_toArray, List.set_cons_zero, List.set_cons_succ]
        have BA := Blk.new vd #[.int .i64 0, .int .i64 0] 25
        have hlt : w.heap.size + 1 < vd.heap.size := hprev
        generalize vd.heap.size = BX at *
        generalize vd.alloc (.cells #[.int .i64 0, .int .i64 0] 25) = wN at *
        refine wpAnyH_ready (rs := [10]) (by kernel_rfl) (by simp) ?_
        refine AllReadyH.cons (o := { dst := none, op := _, type := _, pos := _, after := _, guard := _ }) rfl (fun K hK => ?_) AllReadyH.nil
        obtain ⟨q0, q1, qf, ql⟩ := BA.two
        go_simp
        (try go_wp2_with fail)
        refine hK.out _ _ (storeR hHeld hlt) (fun hHeld => ?_)
        clear hK K
        try simp only [Act.put, List.setIfInBounds_toArray, List.set_cons_zero, List.set_cons_succ]
        refine wpAnyH_done (by kernel_rfl) ?_ _
        rw [HJ.out]
        refine ⟨rfl, _, ?_, BA.self2, hlt, hHeld⟩
        (first | (simp only [Act.put, List.setIfInBounds_toArray, List.set_cons_zero, List.set_cons_succ]; done) | rfl)
      · intro a' w6 hj
        rw [HJ.out] at hj
        obtain ⟨B, rfl, B6, hlt, x0, x1, x2, x3, BG6, hb6⟩ := hj
        clear HJ BG hb BV
        try simp only [Act.put, List.setIfInBounds_toArray, List.set_cons_zero, List.set_cons_succ]
        obtain ⟨k0, k1, kf, kl⟩ := B6.two
        go_wp2_with (first | (go_at_call 55; refine (HP.out _).mono ?_; clear HP; rintro e w5 ⟨rfl, hb5⟩; obtain ⟨k0, k1, kf, kl⟩ := (B6.below hb5).two; obtain ⟨j0, j1, jf, jl⟩ := (BG6.below hb5).two))
        have hbL := chain hb6 hb5
        refine bodyPost_ret (v := .tuple #[.agg #[.int .i64 ra, .int .i64 rb], .bool true]) (by simp [results, Tryd.results33, go_sem, j0, j1]) rfl ?_
        exact ⟨rfl, ((hbL.setCell (p := ⟨w.heap.size + 1, 0, none⟩) (by show _ ≤ w.heap.size + 1; omega) _).setCell (p := ⟨w.heap.size + 1, 1, none⟩) (by show _ ≤ w.heap.size + 1; omega) _)⟩
    · rw [if_neg q]
      replace q : rlB s ra rb = false := by simpa using q
      rw [q] at hp
      have HP := Lib.hid hp
      clear hp q hlen h2 er eb0 eb1 hra hrb l0 l1 u0 u1
      show Calls Tryd.prog 33 #[.agg #[.int .i64 p, .int .i64 c, .int .i64 h, .int .i64 s], .string t] w fun e w' => e = .returned (.tuple #[.agg #[.int .i64 0, .int .i64 0], .bool false]) ∧ Below w.heap.size w w'
      go_enter Tryd.func33, Tryd.ntmps33
      go_wp2_with fail
      clear xf xl yf yl
      obtain ⟨J, hJ⟩ : ∃ J : Act → Act → World → Prop, J = fun a a' w' => ∃ B, a' = ((((((((((a.put (some 11) (.string t)).put (some 12) (.int .u8 b0)).put (some 13) (.int .i64 b0)).put (some 14) (.int .i64 ra)).put (some 15) (.string t)).put (some 16) (.int .u8 b1)).put (some 17) (.int .i64 b1)).put (some 18) (.int .i64 rb)).put (some 19) (.agg #[.int .i64 ra, .int .i64 rb])).put (some 6) (.pointer (some ⟨B, 0, none⟩))) ∧ Blk w' B #[.int .i64 ra, .int .i64 rb] 25 ∧ w.heap.size + 1 < B ∧ (w'.cell? ⟨w.heap.size, 0, none⟩ = some (.int .i64 p) ∧ w'.cell? ⟨w.heap.size, 1, none⟩ = some (.int .i64 c) ∧ w'.cell? ⟨w.heap.size, 2, none⟩ = some (.int .i64 h) ∧ w'.cell? ⟨w.heap.size, 3, none⟩ = some (.int .i64 s) ∧ Blk w' (w.heap.size + 1) #[.int .i64 0, .int .i64 0] 25 ∧ Below w.heap.size w w') := ⟨_, rfl⟩
      have HJ := Lib.hid hJ
      clear hJ
      refine wp_region_joinR J ?_ ?_
      · skip
        refine wp_region_held_drew (S := fun w' => w'.cell? ⟨w.heap.size, 0, none⟩ = some (.int .i64 p) ∧ w'.cell? ⟨w.heap.size, 1, none⟩ = some (.int .i64 c) ∧ w'.cell? ⟨w.heap.size, 2, none⟩ = some (.int .i64 h) ∧ w'.cell? ⟨w.heap.size, 3, none⟩ = some (.int .i64 s) ∧ Blk w' (w.heap.size + 1) #[.int .i64 0, .int .i64 0] 25 ∧ Below w.heap.size w w') (by kernel_rfl) ⟨x0, x1, x2, x3, BG, hb.drew⟩ (fun hHeld => ?_)
        clear x0 x1 x2 x3 y0 y1 hb BG BV
        generalize ((w.alloc (.cells #[.int .i64 p, .int .i64 c, .int .i64 h, .int .i64 s] 29)).alloc (.cells #[.int .i64 0, .int .i64 0] 25)).drew = vd at *
        have hprev := hHeld.2.2.2.2.1.lt
        refine wpAnyH_take (i := 0) (oi := { dst := some 11, op := _, type := _, pos := _, after := _, guard := _ }) (v := ?_) rfl (by kernel_rfl) (by kernel_rfl) (by kernel_rfl) (fun _ _ _ h => absurd h.1 (by simp)) (Or.inl ⟨by rfl, ?_⟩) (by assumption) ?_
        rotate_left
        · intro w hSw
          (try dsimp only at hSw)
          go_simp
          (try (with_reducible rfl))
        try simp only [Act.put, List.setIfInBounds_toArray, List.set_cons_zero, List.set_cons_succ]
        refine wpAnyH_take (i := 1) (oi := { dst := some 12, op := _, type := _, pos := _, after := _, guard := _ }) (v := ?_) rfl (by kernel_rfl) (by kernel_rfl) (by kernel_rfl) (fun _ _ _ h => absurd h.1 (by simp)) (Or.inl ⟨by rfl, ?_⟩) (by assumption) ?_
        rotate_left
        · intro w hSw
          (try dsimp only at hSw)
          go_simp
          (try (with_reducible rfl))
        try simp only [Act.put, List.setIfInBounds_toArray, List.set_cons_zero, List.set_cons_succ]
        refine wpAnyH_take (i := 2) (oi := { dst := some 13, op := _, type := _, pos := _, after := _, guard := _ }) (v := ?_) rfl (by kernel_rfl) (by kernel_rfl) (by kernel_rfl) (fun _ _ _ h => absurd h.1 (by simp)) (Or.inl ⟨by rfl, ?_⟩) (by assumption) ?_
        rotate_left
        · intro w hSw
          (try dsimp only at hSw)
          go_simp
          (try (with_reducible rfl))
        try simp only [Act.put, List.setIfInBounds_toArray, List.set_cons_zero, List.set_cons_succ]
        refine wpAnyH_take (i := 3) (oi := { dst := some 14, op := _, type := _, pos := _, after := _, guard := _ }) (v := ?_) rfl (by kernel_rfl) (by kernel_rfl) (by kernel_rfl) (fun _ _ _ h => absurd h.1 (by simp)) (Or.inl ⟨by rfl, ?_⟩) (by assumption) ?_
        rotate_left
        · intro w hSw
          (try dsimp only at hSw)
          go_simp
          (try (with_reducible rfl))
        try simp only [Act.put, List.setIfInBounds_toArray, List.set_cons_zero, List.set_cons_succ]
        refine wpAnyH_take (i := 4) (oi := { dst := some 15, op := _, type := _, pos := _, after := _, guard := _ }) (v := ?_) rfl (by kernel_rfl) (by kernel_rfl) (by kernel_rfl) (fun _ _ _ h => absurd h.1 (by simp)) (Or.inl ⟨by rfl, ?_⟩) (by assumption) ?_
        rotate_left
        · intro w hSw
          (try dsimp only at hSw)
          go_simp
          (try (with_reducible rfl))
        try simp only [Act.put, List.setIfInBounds_toArray, List.set_cons_zero, List.set_cons_succ]
        refine wpAnyH_take (i := 5) (oi := { dst := some 16, op := _, type := _, pos := _, after := _, guard := _ }) (v := ?_) rfl (by kernel_rfl) (by kernel_rfl) (by kernel_rfl) (fun _ _ _ h => absurd h.1 (by simp)) (Or.inl ⟨by rfl, ?_⟩) (by assumption) ?_
        rotate_left
        · intro w hSw
          (try dsimp only at hSw)
          go_simp
          (try (with_reducible rfl))
        try simp only [Act.put, List.setIfInBounds_toArray, List.set_cons_zero, List.set_cons_succ]
        refine wpAnyH_take (i := 6) (oi := { dst := some 17, op := _, type := _, pos := _, after := _, guard := _ }) (v := ?_) rfl (by kernel_rfl) (by kernel_rfl) (by kernel_rfl) (fun _ _ _ h => absurd h.1 (by simp)) (Or.inl ⟨by rfl, ?_⟩) (by assumption) ?_
        rotate_left
        · intro w hSw
          (try dsimp only at hSw)
          go_simp
          (try (with_reducible rfl))
        try simp only [Act.put, List.setIfInBounds_toArray, List.set_cons_zero, List.set_cons_succ]
        refine wpAnyH_take (i := 7) (oi := { dst := some 18, op := _, type := _, pos := _, after := _, guard := _ }) (v := ?_) rfl (by kernel_rfl) (by kernel_rfl) (by kernel_rfl) (fun _ _ _ h => absurd h.1 (by simp)) (Or.inl ⟨by rfl, ?_⟩) (by assumption) ?_
        rotate_left
        · intro w hSw
          (try dsimp only at hSw)
          go_simp
          (try (with_reducible rfl))
        try simp only [Act.put, List.setIfInBounds_toArray, List.set_cons_zero, List.set_cons_succ]
        refine wpAnyH_take (i := 8) (oi := { dst := some 19, op := _, type := _, pos := _, after := _, guard := _ }) (v := ?_) rfl (by kernel_rfl) (by kernel_rfl) (by kernel_rfl) (fun _ _ _ h => absurd h.1 (by simp)) (Or.inl ⟨by rfl, ?_⟩) (by assumption) ?_
        rotate_left
        · intro w hSw
          (try dsimp only at hSw)
          go_simp
          (try (with_reducible rfl))
        try simp only [Act.put, List.setIfInBounds_toArray, List.set_cons_zero, List.set_cons_succ]
        refine wpAnyH_ready (rs := [9]) (by kernel_rfl) (by simp) ?_
        refine AllReadyH.cons (o := { dst := some 6, op := _, type := _, pos := _, after := _, guard := _ }) rfl (fun K hK => ?_) AllReadyH.nil
        go_simp
        refine hK.out _ _ (heldR hHeld ((Below.refl _ _).alloc (Nat.le_refl _) _)) (fun hHeld => ?_)
        clear hK K
        try simp only [Act.put, List.setIfInBounds_toArray, List.set_cons_zero, List.set_cons_succ]
        have BA := Blk.new vd #[.int .i64 0, .int .i64 0] 25
        have hlt : w.heap.size + 1 < vd.heap.size := hprev
        generalize vd.heap.size = BX at *
        generalize vd.alloc (.cells #[.int .i64 0, .int .i64 0] 25) = wN at *
        refine wpAnyH_ready (rs := [10]) (by kernel_rfl) (by simp) ?_
        refine AllReadyH.cons (o := { dst := none, op := _, type := _, pos := _, after := _, guard := _ }) rfl (fun K hK => ?_) AllReadyH.nil
        obtain ⟨q0, q1, qf, ql⟩ := BA.two
        go_simp
        (try go_wp2_with fail)
        refine hK.out _ _ (storeR hHeld hlt) (fun hHeld => ?_)
        clear hK K
        try simp only [Act.put, List.setIfInBounds_toArray, List.set_cons_zero, List.set_cons_succ]
        refine wpAnyH_done (by kernel_rfl) ?_ _
        rw [HJ.out]
        refine ⟨rfl, _, ?_, BA.self2, hlt, hHeld⟩
        (first | (simp only [Act.put, List.setIfInBounds_toArray, List.set_cons_zero, List.set_cons_succ]; done) | rfl)
      · intro a' w6 hj
        rw [HJ.out] at hj
        obtain ⟨B, rfl, B6, hlt, x0, x1, x2, x3, BG6, hb6⟩ := hj
        clear HJ BG hb BV
        try simp only [Act.put, List.setIfInBounds_toArray, List.set_cons_zero, List.set_cons_succ]
        obtain ⟨k0, k1, kf, kl⟩ := B6.two
        go_wp2_with (first | (go_at_call 55; refine (HP.out _).mono ?_; clear HP; rintro e w5 ⟨rfl, hb5⟩; obtain ⟨k0, k1, kf, kl⟩ := (B6.below hb5).two; obtain ⟨j0, j1, jf, jl⟩ := (BG6.below hb5).two))
        have hbL := chain hb6 hb5
        refine bodyPost_ret (v := .tuple #[.agg #[.int .i64 0, .int .i64 0], .bool false]) (by simp [results, Tryd.results33, go_sem, j0, j1]) rfl ?_
        exact ⟨rfl, ((hbL.setCell (p := ⟨w.heap.size + 1, 0, none⟩) (by show _ ≤ w.heap.size + 1; omega) _).setCell (p := ⟨w.heap.size + 1, 1, none⟩) (by show _ ≤ w.heap.size + 1; omega) _)⟩

  · have e1 : ((t.size : Int) != 2) = true := by rw [bne_iff_ne]; omega
    have e2 : (t.size != 2) = true := by rw [bne_iff_ne]; omega
    have er : rdR s t.data.toList = none := by unfold rdR; rw [if_neg (fun q => h2 (hlen ▸ q.1))]
    rw [er]
    have hbL := hb
    clear hlen h2 er
    show Calls Tryd.prog 33 #[.agg #[.int .i64 p, .int .i64 c, .int .i64 h, .int .i64 s], .string t] w fun e w' => e = .returned (.tuple #[.agg #[.int .i64 0, .int .i64 0], .bool false]) ∧ Below w.heap.size w w'
    obtain ⟨j0, j1, jf, jl⟩ := BG.two
    go_enter Tryd.func33, Tryd.ntmps33
    go_wp2
    first | (refine bodyPost_ret (v := .tuple #[.agg #[.int .i64 0, .int .i64 0], .bool false]) (by simp [results, Tryd.results33, go_sem, j0, j1]) rfl ?_; exact ⟨rfl, ((hbL.setCell (p := ⟨w.heap.size + 1, 0, none⟩) (by show _ ≤ w.heap.size + 1; omega) _).setCell (p := ⟨w.heap.size + 1, 1, none⟩) (by show _ ≤ w.heap.size + 1; omega) _)⟩) | (refine bodyPost_ret (v := .tuple #[.agg #[.int .i64 0, .int .i64 0], .bool false]) (by simp [results, Tryd.results33, go_sem, j0, j1]) rfl ?_; exact ⟨rfl, hbL⟩)
set_option maxRecDepth 8000 in
set_option maxHeartbeats 1000000 in
theorem isRoll_noR (p c h s ra rb : Int) (w : World) (g : vB p c h s = false) :
    Calls Tryd.prog 51 #[.agg #[.int .i64 p, .int .i64 c, .int .i64 h, .int .i64 s], .agg #[.int .i64 ra, .int .i64 rb]] w fun e w' => e = .returned (.bool false) ∧ Below w.heap.size w w' := by
  obtain ⟨BV, BR, hb, hz⟩ := two_new w #[.int .i64 p, .int .i64 c, .int .i64 h, .int .i64 s] #[.int .i64 ra, .int .i64 rb] 29 25
  clear hz
  obtain ⟨x0, x1, x2, x3, xf, xl⟩ := BV.four
  obtain ⟨z0, z1, zf, zl⟩ := BR.two
  have hV := fun W => specIsVariant_any p c h s W
  rw [g] at hV
  have HV := Lib.hid hV
  clear hV g
  go_enter Tryd.func51, Tryd.ntmps51
  go_wp2_with (first | (go_at_call 28; refine (HV.out _).mono ?_; rintro e w1 ⟨rfl, hb1⟩))
  go_ret
  exact ⟨rfl, chain hb hb1⟩
set_option maxRecDepth 8000 in
set_option maxHeartbeats 4000000 in
theorem specReadRoll_any (p c h s : Int) (t : ByteArray) (w : World) :
    Calls Tryd.prog 29 #[.agg #[.int .i64 p, .int .i64 c, .int .i64 h, .int .i64 s], .string t] w fun e w' => e = .returned (rrV (if vB p c h s = true then rdR s t.data.toList else none)) ∧ Below w.heap.size w w' := by
  obtain ⟨BV, BG, hb, hz⟩ := two_new w #[.int .i64 p, .int .i64 c, .int .i64 h, .int .i64 s] #[.int .i64 0, .int .i64 0] 29 25
  clear hz
  obtain ⟨x0, x1, x2, x3, xf, xl⟩ := BV.four
  obtain ⟨y0, y1, yf, yl⟩ := BG.two
  have hlen : t.data.toList.length = t.size := by simp
  by_cases h2 : t.size = 2
  · have e1 : ((t.size : Int) != 2) = false := by rw [bne_eq_false_iff_eq]; omega
    have e2 : (t.size != 2) = false := by rw [bne_eq_false_iff_eq]; omega
    obtain ⟨b0, eb0, l0, u0, hi0⟩ := indexR_named t 0 (by omega)
    obtain ⟨b1, eb1, l1, u1, hi1⟩ := indexR_named t 1 (by omega)
    have hi0 : ∀ W : World, (Instr.index 9 (.string t) (.int .i64 0)).run Tryd.prog W = .ok (.int .u8 b0) W := hi0
    have hi1 : ∀ W : World, (Instr.index 9 (.string t) (.int .i64 1)).run Tryd.prog W = .ok (.int .u8 b1) W := hi1
    have er : rdR s t.data.toList = if rlB s (b0 - 48) (b1 - 48) = true then some (b0 - 48, b1 - 48) else none := by
      unfold rdR
      rw [hlen, ← eb0, ← eb1]
      simp [h2]
    rw [er]
    obtain ⟨ra, hra⟩ : ∃ z, b0 - 48 = z := ⟨_, rfl⟩
    obtain ⟨rb, hrb⟩ : ∃ z, b1 - 48 = z := ⟨_, rfl⟩
    rw [hra, hrb]
    have wa : IntKind.i64.wrap (b0 - 48) = ra := by rw [hra]; exact IntWalk.i64_in _ (by omega)
    have wb : IntKind.i64.wrap (b1 - 48) = rb := by rw [hrb]; exact IntWalk.i64_in _ (by omega)
    have wc : IntKind.i64.wrap b0 = b0 := IntWalk.i64_in _ (by omega)
    have wd : IntKind.i64.wrap b1 = b1 := IntWalk.i64_in _ (by omega)
    by_cases g : vB p c h s = true
    · rw [if_pos g]
      have hp := fun W => isRoll_any p c h s ra rb W g
      by_cases q : rlB s ra rb = true
      · rw [if_pos q]
        rw [q] at hp
        have HP := Lib.hid hp
        clear hp q hlen h2 er eb0 eb1 hra hrb l0 l1 u0 u1 g
        show Calls Tryd.prog 29 #[.agg #[.int .i64 p, .int .i64 c, .int .i64 h, .int .i64 s], .string t] w fun e w' => e = .returned (.tuple #[.agg #[.int .i64 ra, .int .i64 rb], .bool true]) ∧ Below w.heap.size w w'
        go_enter Tryd.func29, Tryd.ntmps29
        go_wp2_with fail
        clear xf xl yf yl
        obtain ⟨J, hJ⟩ : ∃ J : Act → Act → World → Prop, J = fun a a' w' => ∃ B, a' = ((((((((((a.put (some 11) (.string t)).put (some 12) (.int .u8 b0)).put (some 13) (.int .i64 b0)).put (some 14) (.int .i64 ra)).put (some 15) (.string t)).put (some 16) (.int .u8 b1)).put (some 17) (.int .i64 b1)).put (some 18) (.int .i64 rb)).put (some 19) (.agg #[.int .i64 ra, .int .i64 rb])).put (some 6) (.pointer (some ⟨B, 0, none⟩))) ∧ Blk w' B #[.int .i64 ra, .int .i64 rb] 25 ∧ w.heap.size + 1 < B ∧ (w'.cell? ⟨w.heap.size, 0, none⟩ = some (.int .i64 p) ∧ w'.cell? ⟨w.heap.size, 1, none⟩ = some (.int .i64 c) ∧ w'.cell? ⟨w.heap.size, 2, none⟩ = some (.int .i64 h) ∧ w'.cell? ⟨w.heap.size, 3, none⟩ = some (.int .i64 s) ∧ Blk w' (w.heap.size + 1) #[.int .i64 0, .int .i64 0] 25 ∧ Below w.heap.size w w') := ⟨_, rfl⟩
        have HJ := Lib.hid hJ
        clear hJ
        refine wp_region_joinR J ?_ ?_
        · skip
          refine wp_region_held_drew (S := fun w' => w'.cell? ⟨w.heap.size, 0, none⟩ = some (.int .i64 p) ∧ w'.cell? ⟨w.heap.size, 1, none⟩ = some (.int .i64 c) ∧ w'.cell? ⟨w.heap.size, 2, none⟩ = some (.int .i64 h) ∧ w'.cell? ⟨w.heap.size, 3, none⟩ = some (.int .i64 s) ∧ Blk w' (w.heap.size + 1) #[.int .i64 0, .int .i64 0] 25 ∧ Below w.heap.size w w') (by kernel_rfl) ⟨x0, x1, x2, x3, BG, hb.drew⟩ (fun hHeld => ?_)
          clear x0 x1 x2 x3 y0 y1 hb BG BV
          generalize ((w.alloc (.cells #[.int .i64 p, .int .i64 c, .int .i64 h, .int .i64 s] 29)).alloc (.cells #[.int .i64 0, .int .i64 0] 25)).drew = vd at *
          have hprev := hHeld.2.2.2.2.1.lt
          refine wpAnyH_take (i := 0) (oi := { dst := some 11, op := _, type := _, pos := _, after := _, guard := _ }) (v := ?_) rfl (by kernel_rfl) (by kernel_rfl) (by kernel_rfl) (fun _ _ _ h => absurd h.1 (by simp)) (Or.inl ⟨by rfl, ?_⟩) (by assumption) ?_
          rotate_left
          · intro w hSw
            (try dsimp only at hSw)
            go_simp
            (try (with_reducible rfl))
          try simp only [Act.put, List.setIfInBounds_toArray, List.set_cons_zero, List.set_cons_succ]
          refine wpAnyH_take (i := 1) (oi := { dst := some 12, op := _, type := _, pos := _, after := _, guard := _ }) (v := ?_) rfl (by kernel_rfl) (by kernel_rfl) (by kernel_rfl) (fun _ _ _ h => absurd h.1 (by simp)) (Or.inl ⟨by rfl, ?_⟩) (by assumption) ?_
          rotate_left
          · intro w hSw
            (try dsimp only at hSw)
            go_simp
            (try (with_reducible rfl))
          try simp only [Act.put, List.setIfInBounds_toArray, List.set_cons_zero, List.set_cons_succ]
          refine wpAnyH_take (i := 2) (oi := { dst := some 13, op := _, type := _, pos := _, after := _, guard := _ }) (v := ?_) rfl (by kernel_rfl) (by kernel_rfl) (by kernel_rfl) (fun _ _ _ h => absurd h.1 (by simp)) (Or.inl ⟨by rfl, ?_⟩) (by assumption) ?_
          rotate_left
          · intro w hSw
            (try dsimp only at hSw)
            go_simp
            (try (with_reducible rfl))
          try simp only [Act.put, List.setIfInBounds_toArray, List.set_cons_zero, List.set_cons_succ]
          refine wpAnyH_take (i := 3) (oi := { dst := some 14, op := _, type := _, pos := _, after := _, guard := _ }) (v := ?_) rfl (by kernel_rfl) (by kernel_rfl) (by kernel_rfl) (fun _ _ _ h => absurd h.1 (by simp)) (Or.inl ⟨by rfl, ?_⟩) (by assumption) ?_
          rotate_left
          · intro w hSw
            (try dsimp only at hSw)
            go_simp
            (try (with_reducible rfl))
          try simp only [Act.put, List.setIfInBounds_toArray, List.set_cons_zero, List.set_cons_succ]
          refine wpAnyH_take (i := 4) (oi := { dst := some 15, op := _, type := _, pos := _, after := _, guard := _ }) (v := ?_) rfl (by kernel_rfl) (by kernel_rfl) (by kernel_rfl) (fun _ _ _ h => absurd h.1 (by simp)) (Or.inl ⟨by rfl, ?_⟩) (by assumption) ?_
          rotate_left
          · intro w hSw
            (try dsimp only at hSw)
            go_simp
            (try (with_reducible rfl))
          try simp only [Act.put, List.setIfInBounds_toArray, List.set_cons_zero, List.set_cons_succ]
          refine wpAnyH_take (i := 5) (oi := { dst := some 16, op := _, type := _, pos := _, after := _, guard := _ }) (v := ?_) rfl (by kernel_rfl) (by kernel_rfl) (by kernel_rfl) (fun _ _ _ h => absurd h.1 (by simp)) (Or.inl ⟨by rfl, ?_⟩) (by assumption) ?_
          rotate_left
          · intro w hSw
            (try dsimp only at hSw)
            go_simp
            (try (with_reducible rfl))
          try simp only [Act.put, List.setIfInBounds_toArray, List.set_cons_zero, List.set_cons_succ]
          refine wpAnyH_take (i := 6) (oi := { dst := some 17, op := _, type := _, pos := _, after := _, guard := _ }) (v := ?_) rfl (by kernel_rfl) (by kernel_rfl) (by kernel_rfl) (fun _ _ _ h => absurd h.1 (by simp)) (Or.inl ⟨by rfl, ?_⟩) (by assumption) ?_
          rotate_left
          · intro w hSw
            (try dsimp only at hSw)
            go_simp
            (try (with_reducible rfl))
          try simp only [Act.put, List.setIfInBounds_toArray, List.set_cons_zero, List.set_cons_succ]
          refine wpAnyH_take (i := 7) (oi := { dst := some 18, op := _, type := _, pos := _, after := _, guard := _ }) (v := ?_) rfl (by kernel_rfl) (by kernel_rfl) (by kernel_rfl) (fun _ _ _ h => absurd h.1 (by simp)) (Or.inl ⟨by rfl, ?_⟩) (by assumption) ?_
          rotate_left
          · intro w hSw
            (try dsimp only at hSw)
            go_simp
            (try (with_reducible rfl))
          try simp only [Act.put, List.setIfInBounds_toArray, List.set_cons_zero, List.set_cons_succ]
          refine wpAnyH_take (i := 8) (oi := { dst := some 19, op := _, type := _, pos := _, after := _, guard := _ }) (v := ?_) rfl (by kernel_rfl) (by kernel_rfl) (by kernel_rfl) (fun _ _ _ h => absurd h.1 (by simp)) (Or.inl ⟨by rfl, ?_⟩) (by assumption) ?_
          rotate_left
          · intro w hSw
            (try dsimp only at hSw)
            go_simp
            (try (with_reducible rfl))
          try simp only [Act.put, List.setIfInBounds_toArray, List.set_cons_zero, List.set_cons_succ]
          refine wpAnyH_ready (rs := [9]) (by kernel_rfl) (by simp) ?_
          refine AllReadyH.cons (o := { dst := some 6, op := _, type := _, pos := _, after := _, guard := _ }) rfl (fun K hK => ?_) AllReadyH.nil
          go_simp
          refine hK.out _ _ (heldR hHeld ((Below.refl _ _).alloc (Nat.le_refl _) _)) (fun hHeld => ?_)
          clear hK K
          try simp only [Act.put, List.setIfInBounds_toArray, List.set_cons_zero, List.set_cons_succ]
          have BA := Blk.new vd #[.int .i64 0, .int .i64 0] 25
          have hlt : w.heap.size + 1 < vd.heap.size := hprev
          generalize vd.heap.size = BX at *
          generalize vd.alloc (.cells #[.int .i64 0, .int .i64 0] 25) = wN at *
          refine wpAnyH_ready (rs := [10]) (by kernel_rfl) (by simp) ?_
          refine AllReadyH.cons (o := { dst := none, op := _, type := _, pos := _, after := _, guard := _ }) rfl (fun K hK => ?_) AllReadyH.nil
          obtain ⟨q0, q1, qf, ql⟩ := BA.two
          go_simp
          (try go_wp2_with fail)
          refine hK.out _ _ (storeR hHeld hlt) (fun hHeld => ?_)
          clear hK K
          try simp only [Act.put, List.setIfInBounds_toArray, List.set_cons_zero, List.set_cons_succ]
          refine wpAnyH_done (by kernel_rfl) ?_ _
          rw [HJ.out]
          refine ⟨rfl, _, ?_, BA.self2, hlt, hHeld⟩
          (first | (simp only [Act.put, List.setIfInBounds_toArray, List.set_cons_zero, List.set_cons_succ]; done) | rfl)
        · intro a' w6 hj
          rw [HJ.out] at hj
          obtain ⟨B, rfl, B6, hlt, x0, x1, x2, x3, BG6, hb6⟩ := hj
          clear HJ BG hb BV
          try simp only [Act.put, List.setIfInBounds_toArray, List.set_cons_zero, List.set_cons_succ]
          obtain ⟨k0, k1, kf, kl⟩ := B6.two
          go_wp2_with (first | (go_at_call 51; refine (HP.out _).mono ?_; clear HP; rintro e w5 ⟨rfl, hb5⟩; obtain ⟨k0, k1, kf, kl⟩ := (B6.below hb5).two; obtain ⟨j0, j1, jf, jl⟩ := (BG6.below hb5).two))
          have hbL := chain hb6 hb5
          refine bodyPost_ret (v := .tuple #[.agg #[.int .i64 ra, .int .i64 rb], .bool true]) (by simp [results, Tryd.results29, go_sem, j0, j1]) rfl ?_
          exact ⟨rfl, ((hbL.setCell (p := ⟨w.heap.size + 1, 0, none⟩) (by show _ ≤ w.heap.size + 1; omega) _).setCell (p := ⟨w.heap.size + 1, 1, none⟩) (by show _ ≤ w.heap.size + 1; omega) _)⟩
      · rw [if_neg q]
        replace q : rlB s ra rb = false := by simpa using q
        rw [q] at hp
        have HP := Lib.hid hp
        clear hp q hlen h2 er eb0 eb1 hra hrb l0 l1 u0 u1 g
        show Calls Tryd.prog 29 #[.agg #[.int .i64 p, .int .i64 c, .int .i64 h, .int .i64 s], .string t] w fun e w' => e = .returned (.tuple #[.agg #[.int .i64 0, .int .i64 0], .bool false]) ∧ Below w.heap.size w w'
        go_enter Tryd.func29, Tryd.ntmps29
        go_wp2_with fail
        clear xf xl yf yl
        obtain ⟨J, hJ⟩ : ∃ J : Act → Act → World → Prop, J = fun a a' w' => ∃ B, a' = ((((((((((a.put (some 11) (.string t)).put (some 12) (.int .u8 b0)).put (some 13) (.int .i64 b0)).put (some 14) (.int .i64 ra)).put (some 15) (.string t)).put (some 16) (.int .u8 b1)).put (some 17) (.int .i64 b1)).put (some 18) (.int .i64 rb)).put (some 19) (.agg #[.int .i64 ra, .int .i64 rb])).put (some 6) (.pointer (some ⟨B, 0, none⟩))) ∧ Blk w' B #[.int .i64 ra, .int .i64 rb] 25 ∧ w.heap.size + 1 < B ∧ (w'.cell? ⟨w.heap.size, 0, none⟩ = some (.int .i64 p) ∧ w'.cell? ⟨w.heap.size, 1, none⟩ = some (.int .i64 c) ∧ w'.cell? ⟨w.heap.size, 2, none⟩ = some (.int .i64 h) ∧ w'.cell? ⟨w.heap.size, 3, none⟩ = some (.int .i64 s) ∧ Blk w' (w.heap.size + 1) #[.int .i64 0, .int .i64 0] 25 ∧ Below w.heap.size w w') := ⟨_, rfl⟩
        have HJ := Lib.hid hJ
        clear hJ
        refine wp_region_joinR J ?_ ?_
        · skip
          refine wp_region_held_drew (S := fun w' => w'.cell? ⟨w.heap.size, 0, none⟩ = some (.int .i64 p) ∧ w'.cell? ⟨w.heap.size, 1, none⟩ = some (.int .i64 c) ∧ w'.cell? ⟨w.heap.size, 2, none⟩ = some (.int .i64 h) ∧ w'.cell? ⟨w.heap.size, 3, none⟩ = some (.int .i64 s) ∧ Blk w' (w.heap.size + 1) #[.int .i64 0, .int .i64 0] 25 ∧ Below w.heap.size w w') (by kernel_rfl) ⟨x0, x1, x2, x3, BG, hb.drew⟩ (fun hHeld => ?_)
          clear x0 x1 x2 x3 y0 y1 hb BG BV
          generalize ((w.alloc (.cells #[.int .i64 p, .int .i64 c, .int .i64 h, .int .i64 s] 29)).alloc (.cells #[.int .i64 0, .int .i64 0] 25)).drew = vd at *
          have hprev := hHeld.2.2.2.2.1.lt
          refine wpAnyH_take (i := 0) (oi := { dst := some 11, op := _, type := _, pos := _, after := _, guard := _ }) (v := ?_) rfl (by kernel_rfl) (by kernel_rfl) (by kernel_rfl) (fun _ _ _ h => absurd h.1 (by simp)) (Or.inl ⟨by rfl, ?_⟩) (by assumption) ?_
          rotate_left
          · intro w hSw
            (try dsimp only at hSw)
            go_simp
            (try (with_reducible rfl))
          try simp only [Act.put, List.setIfInBounds_toArray, List.set_cons_zero, List.set_cons_succ]
          refine wpAnyH_take (i := 1) (oi := { dst := some 12, op := _, type := _, pos := _, after := _, guard := _ }) (v := ?_) rfl (by kernel_rfl) (by kernel_rfl) (by kernel_rfl) (fun _ _ _ h => absurd h.1 (by simp)) (Or.inl ⟨by rfl, ?_⟩) (by assumption) ?_
          rotate_left
          · intro w hSw
            (try dsimp only at hSw)
            go_simp
            (try (with_reducible rfl))
          try simp only [Act.put, List.setIfInBounds_toArray, List.set_cons_zero, List.set_cons_succ]
          refine wpAnyH_take (i := 2) (oi := { dst := some 13, op := _, type := _, pos := _, after := _, guard := _ }) (v := ?_) rfl (by kernel_rfl) (by kernel_rfl) (by kernel_rfl) (fun _ _ _ h => absurd h.1 (by simp)) (Or.inl ⟨by rfl, ?_⟩) (by assumption) ?_
          rotate_left
          · intro w hSw
            (try dsimp only at hSw)
            go_simp
            (try (with_reducible rfl))
          try simp only [Act.put, List.setIfInBounds_toArray, List.set_cons_zero, List.set_cons_succ]
          refine wpAnyH_take (i := 3) (oi := { dst := some 14, op := _, type := _, pos := _, after := _, guard := _ }) (v := ?_) rfl (by kernel_rfl) (by kernel_rfl) (by kernel_rfl) (fun _ _ _ h => absurd h.1 (by simp)) (Or.inl ⟨by rfl, ?_⟩) (by assumption) ?_
          rotate_left
          · intro w hSw
            (try dsimp only at hSw)
            go_simp
            (try (with_reducible rfl))
          try simp only [Act.put, List.setIfInBounds_toArray, List.set_cons_zero, List.set_cons_succ]
          refine wpAnyH_take (i := 4) (oi := { dst := some 15, op := _, type := _, pos := _, after := _, guard := _ }) (v := ?_) rfl (by kernel_rfl) (by kernel_rfl) (by kernel_rfl) (fun _ _ _ h => absurd h.1 (by simp)) (Or.inl ⟨by rfl, ?_⟩) (by assumption) ?_
          rotate_left
          · intro w hSw
            (try dsimp only at hSw)
            go_simp
            (try (with_reducible rfl))
          try simp only [Act.put, List.setIfInBounds_toArray, List.set_cons_zero, List.set_cons_succ]
          refine wpAnyH_take (i := 5) (oi := { dst := some 16, op := _, type := _, pos := _, after := _, guard := _ }) (v := ?_) rfl (by kernel_rfl) (by kernel_rfl) (by kernel_rfl) (fun _ _ _ h => absurd h.1 (by simp)) (Or.inl ⟨by rfl, ?_⟩) (by assumption) ?_
          rotate_left
          · intro w hSw
            (try dsimp only at hSw)
            go_simp
            (try (with_reducible rfl))
          try simp only [Act.put, List.setIfInBounds_toArray, List.set_cons_zero, List.set_cons_succ]
          refine wpAnyH_take (i := 6) (oi := { dst := some 17, op := _, type := _, pos := _, after := _, guard := _ }) (v := ?_) rfl (by kernel_rfl) (by kernel_rfl) (by kernel_rfl) (fun _ _ _ h => absurd h.1 (by simp)) (Or.inl ⟨by rfl, ?_⟩) (by assumption) ?_
          rotate_left
          · intro w hSw
            (try dsimp only at hSw)
            go_simp
            (try (with_reducible rfl))
          try simp only [Act.put, List.setIfInBounds_toArray, List.set_cons_zero, List.set_cons_succ]
          refine wpAnyH_take (i := 7) (oi := { dst := some 18, op := _, type := _, pos := _, after := _, guard := _ }) (v := ?_) rfl (by kernel_rfl) (by kernel_rfl) (by kernel_rfl) (fun _ _ _ h => absurd h.1 (by simp)) (Or.inl ⟨by rfl, ?_⟩) (by assumption) ?_
          rotate_left
          · intro w hSw
            (try dsimp only at hSw)
            go_simp
            (try (with_reducible rfl))
          try simp only [Act.put, List.setIfInBounds_toArray, List.set_cons_zero, List.set_cons_succ]
          refine wpAnyH_take (i := 8) (oi := { dst := some 19, op := _, type := _, pos := _, after := _, guard := _ }) (v := ?_) rfl (by kernel_rfl) (by kernel_rfl) (by kernel_rfl) (fun _ _ _ h => absurd h.1 (by simp)) (Or.inl ⟨by rfl, ?_⟩) (by assumption) ?_
          rotate_left
          · intro w hSw
            (try dsimp only at hSw)
            go_simp
            (try (with_reducible rfl))
          try simp only [Act.put, List.setIfInBounds_toArray, List.set_cons_zero, List.set_cons_succ]
          refine wpAnyH_ready (rs := [9]) (by kernel_rfl) (by simp) ?_
          refine AllReadyH.cons (o := { dst := some 6, op := _, type := _, pos := _, after := _, guard := _ }) rfl (fun K hK => ?_) AllReadyH.nil
          go_simp
          refine hK.out _ _ (heldR hHeld ((Below.refl _ _).alloc (Nat.le_refl _) _)) (fun hHeld => ?_)
          clear hK K
          try simp only [Act.put, List.setIfInBounds_toArray, List.set_cons_zero, List.set_cons_succ]
          have BA := Blk.new vd #[.int .i64 0, .int .i64 0] 25
          have hlt : w.heap.size + 1 < vd.heap.size := hprev
          generalize vd.heap.size = BX at *
          generalize vd.alloc (.cells #[.int .i64 0, .int .i64 0] 25) = wN at *
          refine wpAnyH_ready (rs := [10]) (by kernel_rfl) (by simp) ?_
          refine AllReadyH.cons (o := { dst := none, op := _, type := _, pos := _, after := _, guard := _ }) rfl (fun K hK => ?_) AllReadyH.nil
          obtain ⟨q0, q1, qf, ql⟩ := BA.two
          go_simp
          (try go_wp2_with fail)
          refine hK.out _ _ (storeR hHeld hlt) (fun hHeld => ?_)
          clear hK K
          try simp only [Act.put, List.setIfInBounds_toArray, List.set_cons_zero, List.set_cons_succ]
          refine wpAnyH_done (by kernel_rfl) ?_ _
          rw [HJ.out]
          refine ⟨rfl, _, ?_, BA.self2, hlt, hHeld⟩
          (first | (simp only [Act.put, List.setIfInBounds_toArray, List.set_cons_zero, List.set_cons_succ]; done) | rfl)
        · intro a' w6 hj
          rw [HJ.out] at hj
          obtain ⟨B, rfl, B6, hlt, x0, x1, x2, x3, BG6, hb6⟩ := hj
          clear HJ BG hb BV
          try simp only [Act.put, List.setIfInBounds_toArray, List.set_cons_zero, List.set_cons_succ]
          obtain ⟨k0, k1, kf, kl⟩ := B6.two
          go_wp2_with (first | (go_at_call 51; refine (HP.out _).mono ?_; clear HP; rintro e w5 ⟨rfl, hb5⟩; obtain ⟨k0, k1, kf, kl⟩ := (B6.below hb5).two; obtain ⟨j0, j1, jf, jl⟩ := (BG6.below hb5).two))
          have hbL := chain hb6 hb5
          refine bodyPost_ret (v := .tuple #[.agg #[.int .i64 0, .int .i64 0], .bool false]) (by simp [results, Tryd.results29, go_sem, j0, j1]) rfl ?_
          exact ⟨rfl, ((hbL.setCell (p := ⟨w.heap.size + 1, 0, none⟩) (by show _ ≤ w.heap.size + 1; omega) _).setCell (p := ⟨w.heap.size + 1, 1, none⟩) (by show _ ≤ w.heap.size + 1; omega) _)⟩
    · rw [if_neg g]
      replace g : vB p c h s = false := by simpa using g
      have hp := fun W => isRoll_noR p c h s ra rb W g
      have HP := Lib.hid hp
      clear hp hlen h2 er eb0 eb1 hra hrb l0 l1 u0 u1 g
      show Calls Tryd.prog 29 #[.agg #[.int .i64 p, .int .i64 c, .int .i64 h, .int .i64 s], .string t] w fun e w' => e = .returned (.tuple #[.agg #[.int .i64 0, .int .i64 0], .bool false]) ∧ Below w.heap.size w w'
      go_enter Tryd.func29, Tryd.ntmps29
      go_wp2_with fail
      clear xf xl yf yl
      obtain ⟨J, hJ⟩ : ∃ J : Act → Act → World → Prop, J = fun a a' w' => ∃ B, a' = ((((((((((a.put (some 11) (.string t)).put (some 12) (.int .u8 b0)).put (some 13) (.int .i64 b0)).put (some 14) (.int .i64 ra)).put (some 15) (.string t)).put (some 16) (.int .u8 b1)).put (some 17) (.int .i64 b1)).put (some 18) (.int .i64 rb)).put (some 19) (.agg #[.int .i64 ra, .int .i64 rb])).put (some 6) (.pointer (some ⟨B, 0, none⟩))) ∧ Blk w' B #[.int .i64 ra, .int .i64 rb] 25 ∧ w.heap.size + 1 < B ∧ (w'.cell? ⟨w.heap.size, 0, none⟩ = some (.int .i64 p) ∧ w'.cell? ⟨w.heap.size, 1, none⟩ = some (.int .i64 c) ∧ w'.cell? ⟨w.heap.size, 2, none⟩ = some (.int .i64 h) ∧ w'.cell? ⟨w.heap.size, 3, none⟩ = some (.int .i64 s) ∧ Blk w' (w.heap.size + 1) #[.int .i64 0, .int .i64 0] 25 ∧ Below w.heap.size w w') := ⟨_, rfl⟩
      have HJ := Lib.hid hJ
      clear hJ
      refine wp_region_joinR J ?_ ?_
      · skip
        refine wp_region_held_drew (S := fun w' => w'.cell? ⟨w.heap.size, 0, none⟩ = some (.int .i64 p) ∧ w'.cell? ⟨w.heap.size, 1, none⟩ = some (.int .i64 c) ∧ w'.cell? ⟨w.heap.size, 2, none⟩ = some (.int .i64 h) ∧ w'.cell? ⟨w.heap.size, 3, none⟩ = some (.int .i64 s) ∧ Blk w' (w.heap.size + 1) #[.int .i64 0, .int .i64 0] 25 ∧ Below w.heap.size w w') (by kernel_rfl) ⟨x0, x1, x2, x3, BG, hb.drew⟩ (fun hHeld => ?_)
        clear x0 x1 x2 x3 y0 y1 hb BG BV
        generalize ((w.alloc (.cells #[.int .i64 p, .int .i64 c, .int .i64 h, .int .i64 s] 29)).alloc (.cells #[.int .i64 0, .int .i64 0] 25)).drew = vd at *
        have hprev := hHeld.2.2.2.2.1.lt
        refine wpAnyH_take (i := 0) (oi := { dst := some 11, op := _, type := _, pos := _, after := _, guard := _ }) (v := ?_) rfl (by kernel_rfl) (by kernel_rfl) (by kernel_rfl) (fun _ _ _ h => absurd h.1 (by simp)) (Or.inl ⟨by rfl, ?_⟩) (by assumption) ?_
        rotate_left
        · intro w hSw
          (try dsimp only at hSw)
          go_simp
          (try (with_reducible rfl))
        try simp only [Act.put, List.setIfInBounds_toArray, List.set_cons_zero, List.set_cons_succ]
        refine wpAnyH_take (i := 1) (oi := { dst := some 12, op := _, type := _, pos := _, after := _, guard := _ }) (v := ?_) rfl (by kernel_rfl) (by kernel_rfl) (by kernel_rfl) (fun _ _ _ h => absurd h.1 (by simp)) (Or.inl ⟨by rfl, ?_⟩) (by assumption) ?_
        rotate_left
        · intro w hSw
          (try dsimp only at hSw)
          go_simp
          (try (with_reducible rfl))
        try simp only [Act.put, List.setIfInBounds_toArray, List.set_cons_zero, List.set_cons_succ]
        refine wpAnyH_take (i := 2) (oi := { dst := some 13, op := _, type := _, pos := _, after := _, guard := _ }) (v := ?_) rfl (by kernel_rfl) (by kernel_rfl) (by kernel_rfl) (fun _ _ _ h => absurd h.1 (by simp)) (Or.inl ⟨by rfl, ?_⟩) (by assumption) ?_
        rotate_left
        · intro w hSw
          (try dsimp only at hSw)
          go_simp
          (try (with_reducible rfl))
        try simp only [Act.put, List.setIfInBounds_toArray, List.set_cons_zero, List.set_cons_succ]
        refine wpAnyH_take (i := 3) (oi := { dst := some 14, op := _, type := _, pos := _, after := _, guard := _ }) (v := ?_) rfl (by kernel_rfl) (by kernel_rfl) (by kernel_rfl) (fun _ _ _ h => absurd h.1 (by simp)) (Or.inl ⟨by rfl, ?_⟩) (by assumption) ?_
        rotate_left
        · intro w hSw
          (try dsimp only at hSw)
          go_simp
          (try (with_reducible rfl))
        try simp only [Act.put, List.setIfInBounds_toArray, List.set_cons_zero, List.set_cons_succ]
        refine wpAnyH_take (i := 4) (oi := { dst := some 15, op := _, type := _, pos := _, after := _, guard := _ }) (v := ?_) rfl (by kernel_rfl) (by kernel_rfl) (by kernel_rfl) (fun _ _ _ h => absurd h.1 (by simp)) (Or.inl ⟨by rfl, ?_⟩) (by assumption) ?_
        rotate_left
        · intro w hSw
          (try dsimp only at hSw)
          go_simp
          (try (with_reducible rfl))
        try simp only [Act.put, List.setIfInBounds_toArray, List.set_cons_zero, List.set_cons_succ]
        refine wpAnyH_take (i := 5) (oi := { dst := some 16, op := _, type := _, pos := _, after := _, guard := _ }) (v := ?_) rfl (by kernel_rfl) (by kernel_rfl) (by kernel_rfl) (fun _ _ _ h => absurd h.1 (by simp)) (Or.inl ⟨by rfl, ?_⟩) (by assumption) ?_
        rotate_left
        · intro w hSw
          (try dsimp only at hSw)
          go_simp
          (try (with_reducible rfl))
        try simp only [Act.put, List.setIfInBounds_toArray, List.set_cons_zero, List.set_cons_succ]
        refine wpAnyH_take (i := 6) (oi := { dst := some 17, op := _, type := _, pos := _, after := _, guard := _ }) (v := ?_) rfl (by kernel_rfl) (by kernel_rfl) (by kernel_rfl) (fun _ _ _ h => absurd h.1 (by simp)) (Or.inl ⟨by rfl, ?_⟩) (by assumption) ?_
        rotate_left
        · intro w hSw
          (try dsimp only at hSw)
          go_simp
          (try (with_reducible rfl))
        try simp only [Act.put, List.setIfInBounds_toArray, List.set_cons_zero, List.set_cons_succ]
        refine wpAnyH_take (i := 7) (oi := { dst := some 18, op := _, type := _, pos := _, after := _, guard := _ }) (v := ?_) rfl (by kernel_rfl) (by kernel_rfl) (by kernel_rfl) (fun _ _ _ h => absurd h.1 (by simp)) (Or.inl ⟨by rfl, ?_⟩) (by assumption) ?_
        rotate_left
        · intro w hSw
          (try dsimp only at hSw)
          go_simp
          (try (with_reducible rfl))
        try simp only [Act.put, List.setIfInBounds_toArray, List.set_cons_zero, List.set_cons_succ]
        refine wpAnyH_take (i := 8) (oi := { dst := some 19, op := _, type := _, pos := _, after := _, guard := _ }) (v := ?_) rfl (by kernel_rfl) (by kernel_rfl) (by kernel_rfl) (fun _ _ _ h => absurd h.1 (by simp)) (Or.inl ⟨by rfl, ?_⟩) (by assumption) ?_
        rotate_left
        · intro w hSw
          (try dsimp only at hSw)
          go_simp
          (try (with_reducible rfl))
        try simp only [Act.put, List.setIfInBounds_toArray, List.set_cons_zero, List.set_cons_succ]
        refine wpAnyH_ready (rs := [9]) (by kernel_rfl) (by simp) ?_
        refine AllReadyH.cons (o := { dst := some 6, op := _, type := _, pos := _, after := _, guard := _ }) rfl (fun K hK => ?_) AllReadyH.nil
        go_simp
        refine hK.out _ _ (heldR hHeld ((Below.refl _ _).alloc (Nat.le_refl _) _)) (fun hHeld => ?_)
        clear hK K
        try simp only [Act.put, List.setIfInBounds_toArray, List.set_cons_zero, List.set_cons_succ]
        have BA := Blk.new vd #[.int .i64 0, .int .i64 0] 25
        have hlt : w.heap.size + 1 < vd.heap.size := hprev
        generalize vd.heap.size = BX at *
        generalize vd.alloc (.cells #[.int .i64 0, .int .i64 0] 25) = wN at *
        refine wpAnyH_ready (rs := [10]) (by kernel_rfl) (by simp) ?_
        refine AllReadyH.cons (o := { dst := none, op := _, type := _, pos := _, after := _, guard := _ }) rfl (fun K hK => ?_) AllReadyH.nil
        obtain ⟨q0, q1, qf, ql⟩ := BA.two
        go_simp
        (try go_wp2_with fail)
        refine hK.out _ _ (storeR hHeld hlt) (fun hHeld => ?_)
        clear hK K
        try simp only [Act.put, List.setIfInBounds_toArray, List.set_cons_zero, List.set_cons_succ]
        refine wpAnyH_done (by kernel_rfl) ?_ _
        rw [HJ.out]
        refine ⟨rfl, _, ?_, BA.self2, hlt, hHeld⟩
        (first | (simp only [Act.put, List.setIfInBounds_toArray, List.set_cons_zero, List.set_cons_succ]; done) | rfl)
      · intro a' w6 hj
        rw [HJ.out] at hj
        obtain ⟨B, rfl, B6, hlt, x0, x1, x2, x3, BG6, hb6⟩ := hj
        clear HJ BG hb BV
        try simp only [Act.put, List.setIfInBounds_toArray, List.set_cons_zero, List.set_cons_succ]
        obtain ⟨k0, k1, kf, kl⟩ := B6.two
        go_wp2_with (first | (go_at_call 51; refine (HP.out _).mono ?_; clear HP; rintro e w5 ⟨rfl, hb5⟩; obtain ⟨k0, k1, kf, kl⟩ := (B6.below hb5).two; obtain ⟨j0, j1, jf, jl⟩ := (BG6.below hb5).two))
        have hbL := chain hb6 hb5
        refine bodyPost_ret (v := .tuple #[.agg #[.int .i64 0, .int .i64 0], .bool false]) (by simp [results, Tryd.results29, go_sem, j0, j1]) rfl ?_
        exact ⟨rfl, ((hbL.setCell (p := ⟨w.heap.size + 1, 0, none⟩) (by show _ ≤ w.heap.size + 1; omega) _).setCell (p := ⟨w.heap.size + 1, 1, none⟩) (by show _ ≤ w.heap.size + 1; omega) _)⟩

  · have e1 : ((t.size : Int) != 2) = true := by rw [bne_iff_ne]; omega
    have e2 : (t.size != 2) = true := by rw [bne_iff_ne]; omega
    have er : rdR s t.data.toList = none := by unfold rdR; rw [if_neg (fun q => h2 (hlen ▸ q.1))]
    rw [er]; try rw [ite_self]
    have hbL := hb
    clear hlen h2 er
    show Calls Tryd.prog 29 #[.agg #[.int .i64 p, .int .i64 c, .int .i64 h, .int .i64 s], .string t] w fun e w' => e = .returned (.tuple #[.agg #[.int .i64 0, .int .i64 0], .bool false]) ∧ Below w.heap.size w w'
    obtain ⟨j0, j1, jf, jl⟩ := BG.two
    go_enter Tryd.func29, Tryd.ntmps29
    go_wp2
    first | (refine bodyPost_ret (v := .tuple #[.agg #[.int .i64 0, .int .i64 0], .bool false]) (by simp [results, Tryd.results29, go_sem, j0, j1]) rfl ?_; exact ⟨rfl, ((hbL.setCell (p := ⟨w.heap.size + 1, 0, none⟩) (by show _ ≤ w.heap.size + 1; omega) _).setCell (p := ⟨w.heap.size + 1, 1, none⟩) (by show _ ≤ w.heap.size + 1; omega) _)⟩) | (refine bodyPost_ret (v := .tuple #[.agg #[.int .i64 0, .int .i64 0], .bool false]) (by simp [results, Tryd.results29, go_sem, j0, j1]) rfl ?_; exact ⟨rfl, hbL⟩)
end Go.Proofs.YthfhiggageejbaaDoor
