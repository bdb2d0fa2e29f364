/- Contract of the model's function that reads a turn from a text. -/
import Derived.Test.YthfhiggageejbaaDoor06s
import Derived.Test.YthfhiggageejbaaDoor06u
namespace Go.Proofs.YthfhiggageejbaaDoor
open Go.ChangeShapes Go.WideShapes Go.ChangeAt Go.RowKit
set_option linter.unusedVariables false
set_option linter.unusedSimpArgs false

theorem OSt.fresh (w1 : World) : OSt w1.heap.size (w1.heap.size + 1) (w1.alloc (.cells #[] 38)) (some ⟨w1.heap.size, 0, none⟩) [] :=
  .inr ⟨w1.heap.size, rfl, Nat.le_refl _, Nat.lt_succ_self _, #[], Blk.new w1 #[] 38, by simp [stepsC], rfl⟩
theorem ext_take (t : ByteArray) (j : Nat) : (t.extract 0 j).data.toList = t.data.toList.take j := by simp [ByteArray.data_extract]
theorem ext_drop (t : ByteArray) (j : Nat) : (t.extract j t.size).data.toList = t.data.toList.drop j := by
  simp [ByteArray.data_extract, List.extract_eq_take_drop]
  rw [List.take_of_length_le (by simp)]
theorem ext_mid (t : ByteArray) (i j : Nat) : (t.extract i j).data.toList = (t.data.toList.take j).drop i := by simp [ByteArray.data_extract, List.extract_eq_take_drop, List.drop_take]
set_option maxRecDepth 8000 in
set_option maxHeartbeats 16000000 in
theorem specReadTurn_any (p c h s : Int) (t : ByteArray) (w : World) (ht : t.size ≤ 1048576) :
    Calls Tryd.prog 7 #[.agg #[.int .i64 p, .int .i64 c, .int .i64 h, .int .i64 s], .string t] w (TurnGot (tnA p c h s t.data.toList) w) := by
  obtain ⟨BV, BG, hb, hz⟩ := two_new w #[.int .i64 p, .int .i64 c, .int .i64 h, .int .i64 s] #[.int .i64 0, .int .i64 0] 29 25
  clear hz
  obtain ⟨x0, x1, x2, x3, xf, xl⟩ := BV.four
  obtain ⟨j0, j1, jf, jl⟩ := BG.two
  have hlen : t.data.toList.length = t.size := by simp
  have hv := fun W => specIsVariant_any p c h s W
  unfold tnA
  by_cases g : vB p c h s = true
  · rw [if_pos g]
    rw [g] at hv
    have HV := Lib.hid hv
    clear hv
    by_cases h80 : 80 < t.size
    · rw [if_pos (by omega)]
      have e1 : decide (80 < (t.size : Int)) = true := by simp; omega
      have e2 : decide (80 < t.size) = true := by simp; omega
      clear g h80 hlen
      go_enter Tryd.func7, Tryd.ntmps7
      go_wp2_with (first | (go_at_call 28; refine (HV.out _).mono ?_; clear HV; rintro e w1 ⟨rfl, hb1⟩; obtain ⟨x0, x1, x2, x3, xf, xl⟩ := (BV.below hb1).four; obtain ⟨j0, j1, jf, jl⟩ := (BG.below hb1).two; obtain ⟨m0, m1, mf, ml⟩ := ((Blk.self2 (v0 := .int .i64 0) (v1 := .int .i64 0) (BG.below hb1)).alloc (.cells #[] 38)).two))
      have hbn := chain hb hb1
      have hlo := (BG.below hb1).lt
      refine bodyPost_ret (v := .tuple #[.agg #[.int .i64 0, .int .i64 0], .slice (some ⟨w1.heap.size, 0, none⟩) 0 0, .int .i64 3]) (by simp [results, Tryd.results7, go_sem, m0, m1]) rfl ?_
      have hfr := OSt.fresh ((w1.setCell ⟨(w.heap.size + 1), 0, none⟩ (.int .i64 0)).setCell ⟨(w.heap.size + 1), 1, none⟩ (.int .i64 0))
      have hsz : ((w1.setCell ⟨(w.heap.size + 1), 0, none⟩ (.int .i64 0)).setCell ⟨(w.heap.size + 1), 1, none⟩ (.int .i64 0)).heap.size = w1.heap.size := by simp
      rw [hsz] at hfr
      exact ⟨some ⟨w1.heap.size, 0, none⟩, 0, rfl, hfr.mono hbn.size (by simp), ((((hbn).setCell (p := ⟨w.heap.size + 1, 0, none⟩) (by show _ ≤ w.heap.size + 1; omega) _).setCell (p := ⟨w.heap.size + 1, 1, none⟩) (by show _ ≤ w.heap.size + 1; omega) _)).alloc (by rw [hsz]; exact hbn.size) _⟩
    · rw [if_neg (by omega)]
      have e1 : decide (80 < (t.size : Int)) = false := by simp; omega
      have e2 : decide (80 < t.size) = false := by simp; omega
      unfold rdT
      by_cases h4 : t.size < 4
      · rw [if_neg (by omega)]
        have e3 : decide ((t.size : Int) < 4) = true := by simp; omega
        have e4 : decide (t.size < 4) = true := by simp; omega
        clear g h80 h4 hlen
        go_enter Tryd.func7, Tryd.ntmps7
        go_wp2_with (first | (go_at_call 28; refine (HV.out _).mono ?_; clear HV; rintro e w1 ⟨rfl, hb1⟩; obtain ⟨x0, x1, x2, x3, xf, xl⟩ := (BV.below hb1).four; obtain ⟨j0, j1, jf, jl⟩ := (BG.below hb1).two; obtain ⟨m0, m1, mf, ml⟩ := ((Blk.self2 (v0 := .int .i64 0) (v1 := .int .i64 0) (BG.below hb1)).alloc (.cells #[] 38)).two))
        have hbn := chain hb hb1
        have hlo := (BG.below hb1).lt
        refine bodyPost_ret (v := .tuple #[.agg #[.int .i64 0, .int .i64 0], .slice (some ⟨w1.heap.size, 0, none⟩) 0 0, .int .i64 6]) (by simp [results, Tryd.results7, go_sem, m0, m1]) rfl ?_
        have hfr := OSt.fresh ((w1.setCell ⟨(w.heap.size + 1), 0, none⟩ (.int .i64 0)).setCell ⟨(w.heap.size + 1), 1, none⟩ (.int .i64 0))
        have hsz : ((w1.setCell ⟨(w.heap.size + 1), 0, none⟩ (.int .i64 0)).setCell ⟨(w.heap.size + 1), 1, none⟩ (.int .i64 0)).heap.size = w1.heap.size := by simp
        rw [hsz] at hfr
        exact ⟨some ⟨w1.heap.size, 0, none⟩, 0, rfl, hfr.mono hbn.size (by simp), ((((hbn).setCell (p := ⟨w.heap.size + 1, 0, none⟩) (by show _ ≤ w.heap.size + 1; omega) _).setCell (p := ⟨w.heap.size + 1, 1, none⟩) (by show _ ≤ w.heap.size + 1; omega) _)).alloc (by rw [hsz]; exact hbn.size) _⟩
      · have e3 : decide ((t.size : Int) < 4) = false := by simp; omega
        have e4 : decide (t.size < 4) = false := by simp; omega
        obtain ⟨MI, hMI⟩ : ∃ X, t.extract 2 4 = X := ⟨_, rfl⟩
        have hsm : ∀ W : World, (Instr.slice 9 (.string t) (some (.int .i64 2)) (some (.int .i64 4)) none).run Tryd.prog W = .ok (.string MI) W := fun W => by
          rw [run_slice_string W 9 t .i64 .i64 2 4 Tryd.underlying9 (by omega) (by omega) (by omega), ← hMI]
          rfl
        have hMl := ext_mid t 2 4
        rw [hMI] at hMl
        rw [← hMl]
        by_cases hq : MI.data.toList = [58, 32]
        · rw [if_pos ⟨by omega, hq⟩]
          have qT : (MI.toList == [58, 32]) = true := by rw [beq_iff_eq, ByteArray.toList_eq]; exact hq
          have qN : (MI.toList != [58, 32]) = false := by rw [bne_eq_false_iff_eq, ByteArray.toList_eq]; exact hq
          obtain ⟨A, hA⟩ : ∃ X, t.extract 0 2 = X := ⟨_, rfl⟩
          obtain ⟨R, hR⟩ : ∃ X, t.extract 4 t.size = X := ⟨_, rfl⟩
          have hsa : ∀ W : World, (Instr.slice 9 (.string t) none (some (.int .i64 2)) none).run Tryd.prog W = .ok (.string A) W := fun W => by
            rw [run_slice_string_to_if W 9 t .i64 2 Tryd.underlying9, if_pos (by omega), ← hA]
            rfl
          have hsr : ∀ W : World, (Instr.slice 9 (.string t) (some (.int .i64 4)) none none).run Tryd.prog W = .ok (.string R) W := fun W => by
            rw [run_slice_string_from_if W 9 t .i64 4 Tryd.underlying9, if_pos (by omega), ← hR]
            rfl
          have hAl := ext_take t 2
          have hRl := ext_drop t 4
          rw [hA] at hAl
          rw [hR] at hRl
          have hzR : R.size ≤ 1048576 := by rw [← hR, ByteArray.size_extract]; omega
          rw [← hAl, ← hRl]
          have hr := fun W => specReadRoll_any p c h s A W
          rw [if_pos g] at hr
          have hs := fun W => specSteps_any p c h s R W g hzR
          generalize rdR s A.data.toList = Q1 at *
          generalize rds p s R.data.toList = Q2 at *
          clear hA hR hAl hRl hMI hMl hzR hq g h80 h4 hlen
          cases Q1 with
          | none =>
            cases Q2 with
            | none =>
              have hr : ∀ W, Calls Tryd.prog 29 #[.agg #[.int .i64 p, .int .i64 c, .int .i64 h, .int .i64 s], .string A] W fun e w' => e = .returned (.tuple #[.agg #[.int .i64 0, .int .i64 0], .bool false]) ∧ Below W.heap.size W w' := hr
              have HRX := Lib.hid hr
              have HSX := Lib.hid hs
              clear hr hs
              show Calls Tryd.prog 7 #[.agg #[.int .i64 p, .int .i64 c, .int .i64 h, .int .i64 s], .string t] w (TurnGot ((0, 0), 6, []) w)
              go_enter Tryd.func7, Tryd.ntmps7
              go_wp2_with (first | (go_at_call 28; refine (HV.out _).mono ?_; clear HV; rintro e w1 ⟨rfl, hb1⟩; obtain ⟨x0, x1, x2, x3, xf, xl⟩ := (BV.below hb1).four; obtain ⟨j0, j1, jf, jl⟩ := (BG.below hb1).two; obtain ⟨m0, m1, mf, ml⟩ := ((Blk.self2 (v0 := .int .i64 0) (v1 := .int .i64 0) (BG.below hb1)).alloc (.cells #[] 38)).two))
              have BG1 := BG.below hb1
              have hbq := chain hb hb1
              clear j0 j1 jf jl m0 m1 mf ml xf xl BV BG hb hb1
              obtain ⟨J, hJ⟩ : ∃ J : Act → Act → World → Prop, J = fun a a' w' => ∃ B, a' = (((((((((a.put (some 32) (.agg #[.int .i64 p, .int .i64 c, .int .i64 h, .int .i64 s])).put (some 33) (.string t)).put (some 34) (.string A)).put (some 35) (.tuple #[.agg #[.int .i64 0, .int .i64 0], .bool false])).put (some 31) (.tuple #[.agg #[.int .i64 0, .int .i64 0], .bool false])).put (some 36) (.agg #[.int .i64 0, .int .i64 0])).put (some 37) (.bool false)).put (some 7) (.pointer (some ⟨B, 0, none⟩))).put (some 8) (.bool false)) ∧ Blk w' B #[.int .i64 0, .int .i64 0] 25 ∧ w.heap.size + 1 < B ∧ (w'.cell? ⟨w.heap.size, 0, none⟩ = some (.int .i64 p) ∧ w'.cell? ⟨w.heap.size, 1, none⟩ = some (.int .i64 c) ∧ w'.cell? ⟨w.heap.size, 2, none⟩ = some (.int .i64 h) ∧ w'.cell? ⟨w.heap.size, 3, none⟩ = some (.int .i64 s) ∧ Blk w' (w.heap.size + 1) #[.int .i64 0, .int .i64 0] 25 ∧ Below w.heap.size w w') := ⟨_, rfl⟩
              have HJ := Lib.hid hJ
              clear hJ
              refine wp_region_joinR J ?_ ?_
              · skip
                refine wp_region_held_drew (S := fun w' => w'.cell? ⟨w.heap.size, 0, none⟩ = some (.int .i64 p) ∧ w'.cell? ⟨w.heap.size, 1, none⟩ = some (.int .i64 c) ∧ w'.cell? ⟨w.heap.size, 2, none⟩ = some (.int .i64 h) ∧ w'.cell? ⟨w.heap.size, 3, none⟩ = some (.int .i64 s) ∧ Blk w' (w.heap.size + 1) #[.int .i64 0, .int .i64 0] 25 ∧ Below w.heap.size w w') (by kernel_rfl) ⟨x0, x1, x2, x3, BG1, hbq.drew⟩ (fun hHeld => ?_)
                clear x0 x1 x2 x3 BG1 hbq
                generalize w1.drew = vd at *
                have hprev := hHeld.2.2.2.2.1.lt
                refine wpAnyH_take (i := 0) (oi := { dst := some 32, op := _, type := _, pos := _, after := _, guard := _ }) (v := ?_) rfl (by kernel_rfl) (by kernel_rfl) (by kernel_rfl) (fun _ _ _ h => absurd h.1 (by simp)) (Or.inl ⟨by rfl, ?_⟩) (by assumption) ?_
                rotate_left
                · intro w hSw
                  (try dsimp only at hSw)
                  go_simp
                  (try (with_reducible rfl))
                try simp only [Act.put, List.setIfInBounds_toArray, List.set_cons_zero, List.set_cons_succ]
                refine wpAnyH_take (i := 1) (oi := { dst := some 33, op := _, type := _, pos := _, after := _, guard := _ }) (v := ?_) rfl (by kernel_rfl) (by kernel_rfl) (by kernel_rfl) (fun _ _ _ h => absurd h.1 (by simp)) (Or.inl ⟨by rfl, ?_⟩) (by assumption) ?_
                rotate_left
                · intro w hSw
                  (try dsimp only at hSw)
                  go_simp
                  (try (with_reducible rfl))
                try simp only [Act.put, List.setIfInBounds_toArray, List.set_cons_zero, List.set_cons_succ]
                refine wpAnyH_take (i := 2) (oi := { dst := some 34, op := _, type := _, pos := _, after := _, guard := _ }) (v := ?_) rfl (by kernel_rfl) (by kernel_rfl) (by kernel_rfl) (fun _ _ _ h => absurd h.1 (by simp)) (Or.inl ⟨by rfl, ?_⟩) (by assumption) ?_
                rotate_left
                · intro w hSw
                  (try dsimp only at hSw)
                  go_simp
                  (try (with_reducible rfl))
                try simp only [Act.put, List.setIfInBounds_toArray, List.set_cons_zero, List.set_cons_succ]
                refine wpAnyH_ready (rs := [3, 7]) (by kernel_rfl) (by simp) ?_
                refine AllReadyH.cons (o := { dst := some 35, op := _, type := _, pos := _, after := _, guard := _ }) rfl (fun K hK => ?_) (AllReadyH.cons (o := { dst := some 7, op := _, type := _, pos := _, after := _, guard := _ }) rfl (fun K hK => ?_) AllReadyH.nil)
                · go_simp
                  refine (HRX.out _).mono ?_
                  rintro e wA ⟨rfl, hbwA⟩
                  have hprev := (heldR hHeld hbwA).2.2.2.2.1.lt
                  (try go_wp2_with fail)
                  refine hK.out _ _ (heldR hHeld hbwA) (fun hHeld => ?_)
                  clear hK K
                  try simp only [Act.put, List.setIfInBounds_toArray, List.set_cons_zero, List.set_cons_succ]
                  refine wpAnyH_take (i := 4) (oi := { dst := some 31, op := _, type := _, pos := _, after := _, guard := _ }) (v := ?_) rfl (by kernel_rfl) (by kernel_rfl) (by kernel_rfl) (fun _ _ _ h => absurd h.1 (by simp)) (Or.inl ⟨by rfl, ?_⟩) (by assumption) ?_
                  rotate_left
                  · intro w hSw
                    (try dsimp only at hSw)
                    go_simp
                    (try (with_reducible rfl))
                  try simp only [Act.put, List.setIfInBounds_toArray, List.set_cons_zero, List.set_cons_succ]
                  refine wpAnyH_take (i := 5) (oi := { dst := some 36, op := _, type := _, pos := _, after := _, guard := _ }) (v := ?_) rfl (by kernel_rfl) (by kernel_rfl) (by kernel_rfl) (fun _ _ _ h => absurd h.1 (by simp)) (Or.inl ⟨by rfl, ?_⟩) (by assumption) ?_
                  rotate_left
                  · intro w hSw
                    (try dsimp only at hSw)
                    go_simp
                    (try (with_reducible rfl))
                  try simp only [Act.put, List.setIfInBounds_toArray, List.set_cons_zero, List.set_cons_succ]
                  refine wpAnyH_take (i := 6) (oi := { dst := some 37, op := _, type := _, pos := _, after := _, guard := _ }) (v := ?_) rfl (by kernel_rfl) (by kernel_rfl) (by kernel_rfl) (fun _ _ _ h => absurd h.1 (by simp)) (Or.inl ⟨by rfl, ?_⟩) (by assumption) ?_
                  rotate_left
                  · intro w hSw
                    (try dsimp only at hSw)
                    go_simp
                    (try (with_reducible rfl))
                  try simp only [Act.put, List.setIfInBounds_toArray, List.set_cons_zero, List.set_cons_succ]
                  refine wpAnyH_ready (rs := [7]) (by kernel_rfl) (by simp) ?_
                  refine AllReadyH.cons (o := { dst := some 7, op := _, type := _, pos := _, after := _, guard := _ }) rfl (fun K hK => ?_) AllReadyH.nil
                  go_simp
                  refine hK.out _ _ (heldR hHeld ((Below.refl _ _).alloc (Nat.le_refl _) _)) (fun hHeld => ?_)
                  clear hK K
                  try simp only [Act.put, List.setIfInBounds_toArray, List.set_cons_zero, List.set_cons_succ]
                  have BA := Blk.new wA #[.int .i64 0, .int .i64 0] 25
                  have hlt : w.heap.size + 1 < wA.heap.size := hprev
                  generalize hBX : wA.heap.size = BX at *
                  clear hBX
                  generalize wA.alloc (.cells #[.int .i64 0, .int .i64 0] 25) = wN at *
                  refine wpAnyH_ready (rs := [8]) (by kernel_rfl) (by simp) ?_
                  refine AllReadyH.cons (o := { dst := none, op := _, type := _, pos := _, after := _, guard := _ }) rfl (fun K hK => ?_) AllReadyH.nil
                  obtain ⟨q0, q1, qf, ql⟩ := BA.two
                  go_simp
                  (try go_wp2_with fail)
                  refine hK.out _ _ (storeR hHeld hlt) (fun hHeld => ?_)
                  clear hK K
                  try simp only [Act.put, List.setIfInBounds_toArray, List.set_cons_zero, List.set_cons_succ]
                  refine wpAnyH_take (i := 9) (oi := { dst := some 8, op := _, type := _, pos := _, after := _, guard := _ }) (v := ?_) rfl (by kernel_rfl) (by kernel_rfl) (by kernel_rfl) (fun _ _ _ h => absurd h.1 (by simp)) (Or.inl ⟨by rfl, ?_⟩) (by assumption) ?_
                  rotate_left
                  · intro w hSw
                    (try dsimp only at hSw)
                    go_simp
                    (try (with_reducible rfl))
                  try simp only [Act.put, List.setIfInBounds_toArray, List.set_cons_zero, List.set_cons_succ]
                  refine wpAnyH_done (by kernel_rfl) ?_ _
                  rw [HJ.out]
                  refine ⟨rfl, _, ?_, BA.self2, hlt, hHeld⟩
                  (first | (simp only [Act.put, List.setIfInBounds_toArray, List.set_cons_zero, List.set_cons_succ]; done) | rfl)
                · go_simp
                  refine hK.out _ _ (heldR hHeld ((Below.refl _ _).alloc (Nat.le_refl _) _)) (fun hHeld => ?_)
                  clear hK K
                  try simp only [Act.put, List.setIfInBounds_toArray, List.set_cons_zero, List.set_cons_succ]
                  have BA := Blk.new vd #[.int .i64 0, .int .i64 0] 25
                  have hlt : w.heap.size + 1 < vd.heap.size := hprev
                  generalize hBX : vd.heap.size = BX at *
                  clear hBX
                  generalize vd.alloc (.cells #[.int .i64 0, .int .i64 0] 25) = wN at *
                  refine wpAnyH_ready (rs := [3]) (by kernel_rfl) (by simp) ?_
                  refine AllReadyH.cons (o := { dst := some 35, op := _, type := _, pos := _, after := _, guard := _ }) rfl (fun K hK => ?_) AllReadyH.nil
                  go_simp
                  refine (HRX.out _).mono ?_
                  rintro e wA ⟨rfl, hbwA⟩
                  replace BA := BA.below hbwA
                  have hprev := (heldR hHeld hbwA).2.2.2.2.1.lt
                  (try go_wp2_with fail)
                  refine hK.out _ _ (heldR hHeld hbwA) (fun hHeld => ?_)
                  clear hK K
                  try simp only [Act.put, List.setIfInBounds_toArray, List.set_cons_zero, List.set_cons_succ]
                  refine wpAnyH_take (i := 4) (oi := { dst := some 31, op := _, type := _, pos := _, after := _, guard := _ }) (v := ?_) rfl (by kernel_rfl) (by kernel_rfl) (by kernel_rfl) (fun _ _ _ h => absurd h.1 (by simp)) (Or.inl ⟨by rfl, ?_⟩) (by assumption) ?_
                  rotate_left
                  · intro w hSw
                    (try dsimp only at hSw)
                    go_simp
                    (try (with_reducible rfl))
                  try simp only [Act.put, List.setIfInBounds_toArray, List.set_cons_zero, List.set_cons_succ]
                  refine wpAnyH_take (i := 5) (oi := { dst := some 36, op := _, type := _, pos := _, after := _, guard := _ }) (v := ?_) rfl (by kernel_rfl) (by kernel_rfl) (by kernel_rfl) (fun _ _ _ h => absurd h.1 (by simp)) (Or.inl ⟨by rfl, ?_⟩) (by assumption) ?_
                  rotate_left
                  · intro w hSw
                    (try dsimp only at hSw)
                    go_simp
                    (try (with_reducible rfl))
                  try simp only [Act.put, List.setIfInBounds_toArray, List.set_cons_zero, List.set_cons_succ]
                  refine wpAnyH_take (i := 6) (oi := { dst := some 37, op := _, type := _, pos := _, after := _, guard := _ }) (v := ?_) rfl (by kernel_rfl) (by kernel_rfl) (by kernel_rfl) (fun _ _ _ h => absurd h.1 (by simp)) (Or.inl ⟨by rfl, ?_⟩) (by assumption) ?_
                  rotate_left
                  · intro w hSw
                    (try dsimp only at hSw)
                    go_simp
                    (try (with_reducible rfl))
                  try simp only [Act.put, List.setIfInBounds_toArray, List.set_cons_zero, List.set_cons_succ]
                  refine wpAnyH_ready (rs := [8]) (by kernel_rfl) (by simp) ?_
                  refine AllReadyH.cons (o := { dst := none, op := _, type := _, pos := _, after := _, guard := _ }) rfl (fun K hK => ?_) AllReadyH.nil
                  obtain ⟨q0, q1, qf, ql⟩ := BA.two
                  go_simp
                  (try go_wp2_with fail)
                  refine hK.out _ _ (storeR hHeld hlt) (fun hHeld => ?_)
                  clear hK K
                  try simp only [Act.put, List.setIfInBounds_toArray, List.set_cons_zero, List.set_cons_succ]
                  refine wpAnyH_take (i := 9) (oi := { dst := some 8, op := _, type := _, pos := _, after := _, guard := _ }) (v := ?_) rfl (by kernel_rfl) (by kernel_rfl) (by kernel_rfl) (fun _ _ _ h => absurd h.1 (by simp)) (Or.inl ⟨by rfl, ?_⟩) (by assumption) ?_
                  rotate_left
                  · intro w hSw
                    (try dsimp only at hSw)
                    go_simp
                    (try (with_reducible rfl))
                  try simp only [Act.put, List.setIfInBounds_toArray, List.set_cons_zero, List.set_cons_succ]
                  refine wpAnyH_done (by kernel_rfl) ?_ _
                  rw [HJ.out]
                  refine ⟨rfl, _, ?_, BA.self2, hlt, hHeld⟩
                  (first | (simp only [Act.put, List.setIfInBounds_toArray, List.set_cons_zero, List.set_cons_succ]; done) | rfl)
              · intro a' w6 hj
                rw [HJ.out] at hj
                obtain ⟨B, rfl, B6, hlt, x0, x1, x2, x3, BG6, hb6⟩ := hj
                clear HJ HRX BG1 hbq
                try simp only [Act.put, List.setIfInBounds_toArray, List.set_cons_zero, List.set_cons_succ]
                have hl6 := BG6.lt
                have hz6 := hb6.size
                go_wp2_with fail
                refine wp_region_held_drew (S := fun w' => w'.cell? ⟨w.heap.size, 0, none⟩ = some (.int .i64 p) ∧ w'.cell? ⟨w.heap.size, 1, none⟩ = some (.int .i64 c) ∧ w'.cell? ⟨w.heap.size, 2, none⟩ = some (.int .i64 h) ∧ w'.cell? ⟨w.heap.size, 3, none⟩ = some (.int .i64 s) ∧ Blk w' (w.heap.size + 1) #[.int .i64 0, .int .i64 0] 25 ∧ Below w.heap.size w w' ∧ Blk w' B #[.int .i64 0, .int .i64 0] 25) (by kernel_rfl) ⟨x0, x1, x2, x3, BG6, hb6.drew, B6⟩ (fun hHeld => ?_)
                refine wpAnyH_take (i := 0) (oi := { dst := some 39, op := _, type := _, pos := _, after := _, guard := _ }) (v := ?_) rfl (by kernel_rfl) (by kernel_rfl) (by kernel_rfl) (fun _ _ _ h => h) (Or.inl ⟨by rfl, ?_⟩) (by assumption) ?_
                rotate_left
                · intro w hSw
                  (try dsimp only at hSw)
                  go_simp
                  (try (with_reducible rfl))
                try simp only [Act.put, List.setIfInBounds_toArray, List.set_cons_zero, List.set_cons_succ]
                refine wpAnyH_take (i := 1) (oi := { dst := some 40, op := _, type := _, pos := _, after := _, guard := _ }) (v := ?_) rfl (by kernel_rfl) (by kernel_rfl) (by kernel_rfl) (fun _ _ _ h => h) (Or.inl ⟨by rfl, ?_⟩) (by assumption) ?_
                rotate_left
                · intro w hSw
                  (try dsimp only at hSw)
                  go_simp
                  (try (with_reducible rfl))
                try simp only [Act.put, List.setIfInBounds_toArray, List.set_cons_zero, List.set_cons_succ]
                refine wpAnyH_take (i := 2) (oi := { dst := some 41, op := _, type := _, pos := _, after := _, guard := _ }) (v := ?_) rfl (by kernel_rfl) (by kernel_rfl) (by kernel_rfl) (fun _ _ _ h => h) (Or.inl ⟨by rfl, ?_⟩) (by assumption) ?_
                rotate_left
                · intro w hSw
                  (try dsimp only at hSw)
                  go_simp
                  (try (with_reducible rfl))
                try simp only [Act.put, List.setIfInBounds_toArray, List.set_cons_zero, List.set_cons_succ]
                refine wpAnyH_ready (rs := [3]) (by kernel_rfl) (by simp) ?_
                refine AllReadyH.cons (o := { dst := some 42, op := _, type := _, pos := _, after := _, guard := _ }) rfl (fun K hK => ?_) AllReadyH.nil
                go_simp
                clear x0 x1 x2 x3 BG6 hb6 B6
                obtain ⟨x0, x1, x2, x3, BG6, hb6, B6⟩ := hHeld
                refine (HSX.out _).mono ?_
                rintro e w9 ⟨a, k, rfl, ho, hb9⟩
                (try go_wp2_with fail)
                refine hK.out _ _ ⟨cell_keepR x0 hb9, cell_keepR x1 hb9, cell_keepR x2 hb9, cell_keepR x3 hb9, BG6.below hb9, chain hb6 hb9, B6.below hb9⟩ (fun hHeld => ?_)
                clear hK K
                try simp only [Act.put, List.setIfInBounds_toArray, List.set_cons_zero, List.set_cons_succ]
                refine wpAnyH_take (i := 4) (oi := { dst := some 38, op := _, type := _, pos := _, after := _, guard := _ }) (v := ?_) rfl (by kernel_rfl) (by kernel_rfl) (by kernel_rfl) (fun _ _ _ h => h) (Or.inl ⟨by rfl, ?_⟩) (by assumption) ?_
                rotate_left
                · intro w hSw
                  (try dsimp only at hSw)
                  go_simp
                  (try (with_reducible rfl))
                try simp only [Act.put, List.setIfInBounds_toArray, List.set_cons_zero, List.set_cons_succ]
                refine wpAnyH_take (i := 5) (oi := { dst := some 43, op := _, type := _, pos := _, after := _, guard := _ }) (v := ?_) rfl (by kernel_rfl) (by kernel_rfl) (by kernel_rfl) (fun _ _ _ h => h) (Or.inl ⟨by rfl, ?_⟩) (by assumption) ?_
                rotate_left
                · intro w hSw
                  (try dsimp only at hSw)
                  go_simp
                  (try (with_reducible rfl))
                try simp only [Act.put, List.setIfInBounds_toArray, List.set_cons_zero, List.set_cons_succ]
                refine wpAnyH_take (i := 6) (oi := { dst := some 44, op := _, type := _, pos := _, after := _, guard := _ }) (v := ?_) rfl (by kernel_rfl) (by kernel_rfl) (by kernel_rfl) (fun _ _ _ h => h) (Or.inl ⟨by rfl, ?_⟩) (by assumption) ?_
                rotate_left
                · intro w hSw
                  (try dsimp only at hSw)
                  go_simp
                  (try (with_reducible rfl))
                try simp only [Act.put, List.setIfInBounds_toArray, List.set_cons_zero, List.set_cons_succ]
                refine wpAnyH_take (i := 7) (oi := { dst := some 9, op := _, type := _, pos := _, after := _, guard := _ }) (v := ?_) rfl (by kernel_rfl) (by kernel_rfl) (by kernel_rfl) (fun _ _ _ h => h) (Or.inl ⟨by rfl, ?_⟩) (by assumption) ?_
                rotate_left
                · intro w hSw
                  (try dsimp only at hSw)
                  go_simp
                  (try (with_reducible rfl))
                try simp only [Act.put, List.setIfInBounds_toArray, List.set_cons_zero, List.set_cons_succ]
                refine wpAnyH_take (i := 8) (oi := { dst := some 10, op := _, type := _, pos := _, after := _, guard := _ }) (v := ?_) rfl (by kernel_rfl) (by kernel_rfl) (by kernel_rfl) (fun _ _ _ h => h) (Or.inl ⟨by rfl, ?_⟩) (by assumption) ?_
                rotate_left
                · intro w hSw
                  (try dsimp only at hSw)
                  go_simp
                  (try (with_reducible rfl))
                try simp only [Act.put, List.setIfInBounds_toArray, List.set_cons_zero, List.set_cons_succ]
                refine wpAnyH_done (by kernel_rfl) ?_ _
                clear x0 x1 x2 x3 BG6 hb6 B6
                obtain ⟨x0, x1, x2, x3, BG9, hbz, B9⟩ := hHeld
                obtain ⟨j0, j1, jf, jl⟩ := BG9.two
                obtain ⟨k0, k1, kf, kl⟩ := B9.two
                obtain ⟨m0, m1, mf, ml⟩ := ((Blk.self2 (v0 := .int .i64 0) (v1 := .int .i64 0) (BG9)).alloc (.cells #[] 38)).two
                go_wp2_with fail
                have hbn := hbz
                have hlo := BG9.lt
                refine bodyPost_ret (v := .tuple #[.agg #[.int .i64 0, .int .i64 0], .slice (some ⟨w9.heap.size, 0, none⟩) 0 0, .int .i64 6]) (by simp [results, Tryd.results7, go_sem, m0, m1]) rfl ?_
                have hfr := OSt.fresh ((w9.setCell ⟨(w.heap.size + 1), 0, none⟩ (.int .i64 0)).setCell ⟨(w.heap.size + 1), 1, none⟩ (.int .i64 0))
                have hsz : ((w9.setCell ⟨(w.heap.size + 1), 0, none⟩ (.int .i64 0)).setCell ⟨(w.heap.size + 1), 1, none⟩ (.int .i64 0)).heap.size = w9.heap.size := by simp
                rw [hsz] at hfr
                exact ⟨some ⟨w9.heap.size, 0, none⟩, 0, rfl, hfr.mono hbn.size (by simp), ((((hbn).setCell (p := ⟨w.heap.size + 1, 0, none⟩) (by show _ ≤ w.heap.size + 1; omega) _).setCell (p := ⟨w.heap.size + 1, 1, none⟩) (by show _ ≤ w.heap.size + 1; omega) _)).alloc (by rw [hsz]; exact hbn.size) _⟩
            | some D =>
              have hr : ∀ W, Calls Tryd.prog 29 #[.agg #[.int .i64 p, .int .i64 c, .int .i64 h, .int .i64 s], .string A] W fun e w' => e = .returned (.tuple #[.agg #[.int .i64 0, .int .i64 0], .bool false]) ∧ Below W.heap.size W w' := hr
              have HRX := Lib.hid hr
              have HSX := Lib.hid hs
              clear hr hs
              show Calls Tryd.prog 7 #[.agg #[.int .i64 p, .int .i64 c, .int .i64 h, .int .i64 s], .string t] w (TurnGot ((0, 0), 6, []) w)
              go_enter Tryd.func7, Tryd.ntmps7
              go_wp2_with (first | (go_at_call 28; refine (HV.out _).mono ?_; clear HV; rintro e w1 ⟨rfl, hb1⟩; obtain ⟨x0, x1, x2, x3, xf, xl⟩ := (BV.below hb1).four; obtain ⟨j0, j1, jf, jl⟩ := (BG.below hb1).two; obtain ⟨m0, m1, mf, ml⟩ := ((Blk.self2 (v0 := .int .i64 0) (v1 := .int .i64 0) (BG.below hb1)).alloc (.cells #[] 38)).two))
              have BG1 := BG.below hb1
              have hbq := chain hb hb1
              clear j0 j1 jf jl m0 m1 mf ml xf xl BV BG hb hb1
              obtain ⟨J, hJ⟩ : ∃ J : Act → Act → World → Prop, J = fun a a' w' => ∃ B, a' = (((((((((a.put (some 32) (.agg #[.int .i64 p, .int .i64 c, .int .i64 h, .int .i64 s])).put (some 33) (.string t)).put (some 34) (.string A)).put (some 35) (.tuple #[.agg #[.int .i64 0, .int .i64 0], .bool false])).put (some 31) (.tuple #[.agg #[.int .i64 0, .int .i64 0], .bool false])).put (some 36) (.agg #[.int .i64 0, .int .i64 0])).put (some 37) (.bool false)).put (some 7) (.pointer (some ⟨B, 0, none⟩))).put (some 8) (.bool false)) ∧ Blk w' B #[.int .i64 0, .int .i64 0] 25 ∧ w.heap.size + 1 < B ∧ (w'.cell? ⟨w.heap.size, 0, none⟩ = some (.int .i64 p) ∧ w'.cell? ⟨w.heap.size, 1, none⟩ = some (.int .i64 c) ∧ w'.cell? ⟨w.heap.size, 2, none⟩ = some (.int .i64 h) ∧ w'.cell? ⟨w.heap.size, 3, none⟩ = some (.int .i64 s) ∧ Blk w' (w.heap.size + 1) #[.int .i64 0, .int .i64 0] 25 ∧ Below w.heap.size w w') := ⟨_, rfl⟩
              have HJ := Lib.hid hJ
              clear hJ
              refine wp_region_joinR J ?_ ?_
              · skip
                refine wp_region_held_drew (S := fun w' => w'.cell? ⟨w.heap.size, 0, none⟩ = some (.int .i64 p) ∧ w'.cell? ⟨w.heap.size, 1, none⟩ = some (.int .i64 c) ∧ w'.cell? ⟨w.heap.size, 2, none⟩ = some (.int .i64 h) ∧ w'.cell? ⟨w.heap.size, 3, none⟩ = some (.int .i64 s) ∧ Blk w' (w.heap.size + 1) #[.int .i64 0, .int .i64 0] 25 ∧ Below w.heap.size w w') (by kernel_rfl) ⟨x0, x1, x2, x3, BG1, hbq.drew⟩ (fun hHeld => ?_)
                clear x0 x1 x2 x3 BG1 hbq
                generalize w1.drew = vd at *
                have hprev := hHeld.2.2.2.2.1.lt
                refine wpAnyH_take (i := 0) (oi := { dst := some 32, op := _, type := _, pos := _, after := _, guard := _ }) (v := ?_) rfl (by kernel_rfl) (by kernel_rfl) (by kernel_rfl) (fun _ _ _ h => absurd h.1 (by simp)) (Or.inl ⟨by rfl, ?_⟩) (by assumption) ?_
                rotate_left
                · intro w hSw
                  (try dsimp only at hSw)
                  go_simp
                  (try (with_reducible rfl))
                try simp only [Act.put, List.setIfInBounds_toArray, List.set_cons_zero, List.set_cons_succ]
                refine wpAnyH_take (i := 1) (oi := { dst := some 33, op := _, type := _, pos := _, after := _, guard := _ }) (v := ?_) rfl (by kernel_rfl) (by kernel_rfl) (by kernel_rfl) (fun _ _ _ h => absurd h.1 (by simp)) (Or.inl ⟨by rfl, ?_⟩) (by assumption) ?_
                rotate_left
                · intro w hSw
                  (try dsimp only at hSw)
                  go_simp
                  (try (with_reducible rfl))
                try simp only [Act.put, List.setIfInBounds_toArray, List.set_cons_zero, List.set_cons_succ]
                refine wpAnyH_take (i := 2) (oi := { dst := some 34, op := _, type := _, pos := _, after := _, guard := _ }) (v := ?_) rfl (by kernel_rfl) (by kernel_rfl) (by kernel_rfl) (fun _ _ _ h => absurd h.1 (by simp)) (Or.inl ⟨by rfl, ?_⟩) (by assumption) ?_
                rotate_left
                · intro w hSw
                  (try dsimp only at hSw)
                  go_simp
                  (try (with_reducible rfl))
                try simp only [Act.put, List.setIfInBounds_toArray, List.set_cons_zero, List.set_cons_succ]
                refine wpAnyH_ready (rs := [3, 7]) (by kernel_rfl) (by simp) ?_
                refine AllReadyH.cons (o := { dst := some 35, op := _, type := _, pos := _, after := _, guard := _ }) rfl (fun K hK => ?_) (AllReadyH.cons (o := { dst := some 7, op := _, type := _, pos := _, after := _, guard := _ }) rfl (fun K hK => ?_) AllReadyH.nil)
                · go_simp
                  refine (HRX.out _).mono ?_
                  rintro e wA ⟨rfl, hbwA⟩
                  have hprev := (heldR hHeld hbwA).2.2.2.2.1.lt
                  (try go_wp2_with fail)
                  refine hK.out _ _ (heldR hHeld hbwA) (fun hHeld => ?_)
                  clear hK K
                  try simp only [Act.put, List.setIfInBounds_toArray, List.set_cons_zero, List.set_cons_succ]
                  refine wpAnyH_take (i := 4) (oi := { dst := some 31, op := _, type := _, pos := _, after := _, guard := _ }) (v := ?_) rfl (by kernel_rfl) (by kernel_rfl) (by kernel_rfl) (fun _ _ _ h => absurd h.1 (by simp)) (Or.inl ⟨by rfl, ?_⟩) (by assumption) ?_
                  rotate_left
                  · intro w hSw
                    (try dsimp only at hSw)
                    go_simp
                    (try (with_reducible rfl))
                  try simp only [Act.put, List.setIfInBounds_toArray, List.set_cons_zero, List.set_cons_succ]
                  refine wpAnyH_take (i := 5) (oi := { dst := some 36, op := _, type := _, pos := _, after := _, guard := _ }) (v := ?_) rfl (by kernel_rfl) (by kernel_rfl) (by kernel_rfl) (fun _ _ _ h => absurd h.1 (by simp)) (Or.inl ⟨by rfl, ?_⟩) (by assumption) ?_
                  rotate_left
                  · intro w hSw
                    (try dsimp only at hSw)
                    go_simp
                    (try (with_reducible rfl))
                  try simp only [Act.put, List.setIfInBounds_toArray, List.set_cons_zero, List.set_cons_succ]
                  refine wpAnyH_take (i := 6) (oi := { dst := some 37, op := _, type := _, pos := _, after := _, guard := _ }) (v := ?_) rfl (by kernel_rfl) (by kernel_rfl) (by kernel_rfl) (fun _ _ _ h => absurd h.1 (by simp)) (Or.inl ⟨by rfl, ?_⟩) (by assumption) ?_
                  rotate_left
                  · intro w hSw
                    (try dsimp only at hSw)
                    go_simp
                    (try (with_reducible rfl))
                  try simp only [Act.put, List.setIfInBounds_toArray, List.set_cons_zero, List.set_cons_succ]
                  refine wpAnyH_ready (rs := [7]) (by kernel_rfl) (by simp) ?_
                  refine AllReadyH.cons (o := { dst := some 7, op := _, type := _, pos := _, after := _, guard := _ }) rfl (fun K hK => ?_) AllReadyH.nil
                  go_simp
                  refine hK.out _ _ (heldR hHeld ((Below.refl _ _).alloc (Nat.le_refl _) _)) (fun hHeld => ?_)
                  clear hK K
                  try simp only [Act.put, List.setIfInBounds_toArray, List.set_cons_zero, List.set_cons_succ]
                  have BA := Blk.new wA #[.int .i64 0, .int .i64 0] 25
                  have hlt : w.heap.size + 1 < wA.heap.size := hprev
                  generalize hBX : wA.heap.size = BX at *
                  clear hBX
                  generalize wA.alloc (.cells #[.int .i64 0, .int .i64 0] 25) = wN at *
                  refine wpAnyH_ready (rs := [8]) (by kernel_rfl) (by simp) ?_
                  refine AllReadyH.cons (o := { dst := none, op := _, type := _, pos := _, after := _, guard := _ }) rfl (fun K hK => ?_) AllReadyH.nil
                  obtain ⟨q0, q1, qf, ql⟩ := BA.two
                  go_simp
                  (try go_wp2_with fail)
                  refine hK.out _ _ (storeR hHeld hlt) (fun hHeld => ?_)
                  clear hK K
                  try simp only [Act.put, List.setIfInBounds_toArray, List.set_cons_zero, List.set_cons_succ]
                  refine wpAnyH_take (i := 9) (oi := { dst := some 8, op := _, type := _, pos := _, after := _, guard := _ }) (v := ?_) rfl (by kernel_rfl) (by kernel_rfl) (by kernel_rfl) (fun _ _ _ h => absurd h.1 (by simp)) (Or.inl ⟨by rfl, ?_⟩) (by assumption) ?_
                  rotate_left
                  · intro w hSw
                    (try dsimp only at hSw)
                    go_simp
                    (try (with_reducible rfl))
                  try simp only [Act.put, List.setIfInBounds_toArray, List.set_cons_zero, List.set_cons_succ]
                  refine wpAnyH_done (by kernel_rfl) ?_ _
                  rw [HJ.out]
                  refine ⟨rfl, _, ?_, BA.self2, hlt, hHeld⟩
                  (first | (simp only [Act.put, List.setIfInBounds_toArray, List.set_cons_zero, List.set_cons_succ]; done) | rfl)
                · go_simp
                  refine hK.out _ _ (heldR hHeld ((Below.refl _ _).alloc (Nat.le_refl _) _)) (fun hHeld => ?_)
                  clear hK K
                  try simp only [Act.put, List.setIfInBounds_toArray, List.set_cons_zero, List.set_cons_succ]
                  have BA := Blk.new vd #[.int .i64 0, .int .i64 0] 25
                  have hlt : w.heap.size + 1 < vd.heap.size := hprev
                  generalize hBX : vd.heap.size = BX at *
                  clear hBX
                  generalize vd.alloc (.cells #[.int .i64 0, .int .i64 0] 25) = wN at *
                  refine wpAnyH_ready (rs := [3]) (by kernel_rfl) (by simp) ?_
                  refine AllReadyH.cons (o := { dst := some 35, op := _, type := _, pos := _, after := _, guard := _ }) rfl (fun K hK => ?_) AllReadyH.nil
                  go_simp
                  refine (HRX.out _).mono ?_
                  rintro e wA ⟨rfl, hbwA⟩
                  replace BA := BA.below hbwA
                  have hprev := (heldR hHeld hbwA).2.2.2.2.1.lt
                  (try go_wp2_with fail)
                  refine hK.out _ _ (heldR hHeld hbwA) (fun hHeld => ?_)
                  clear hK K
                  try simp only [Act.put, List.setIfInBounds_toArray, List.set_cons_zero, List.set_cons_succ]
                  refine wpAnyH_take (i := 4) (oi := { dst := some 31, op := _, type := _, pos := _, after := _, guard := _ }) (v := ?_) rfl (by kernel_rfl) (by kernel_rfl) (by kernel_rfl) (fun _ _ _ h => absurd h.1 (by simp)) (Or.inl ⟨by rfl, ?_⟩) (by assumption) ?_
                  rotate_left
                  · intro w hSw
                    (try dsimp only at hSw)
                    go_simp
                    (try (with_reducible rfl))
                  try simp only [Act.put, List.setIfInBounds_toArray, List.set_cons_zero, List.set_cons_succ]
                  refine wpAnyH_take (i := 5) (oi := { dst := some 36, op := _, type := _, pos := _, after := _, guard := _ }) (v := ?_) rfl (by kernel_rfl) (by kernel_rfl) (by kernel_rfl) (fun _ _ _ h => absurd h.1 (by simp)) (Or.inl ⟨by rfl, ?_⟩) (by assumption) ?_
                  rotate_left
                  · intro w hSw
                    (try dsimp only at hSw)
                    go_simp
                    (try (with_reducible rfl))
                  try simp only [Act.put, List.setIfInBounds_toArray, List.set_cons_zero, List.set_cons_succ]
                  refine wpAnyH_take (i := 6) (oi := { dst := some 37, op := _, type := _, pos := _, after := _, guard := _ }) (v := ?_) rfl (by kernel_rfl) (by kernel_rfl) (by kernel_rfl) (fun _ _ _ h => absurd h.1 (by simp)) (Or.inl ⟨by rfl, ?_⟩) (by assumption) ?_
                  rotate_left
                  · intro w hSw
                    (try dsimp only at hSw)
                    go_simp
                    (try (with_reducible rfl))
                  try simp only [Act.put, List.setIfInBounds_toArray, List.set_cons_zero, List.set_cons_succ]
                  refine wpAnyH_ready (rs := [8]) (by kernel_rfl) (by simp) ?_
                  refine AllReadyH.cons (o := { dst := none, op := _, type := _, pos := _, after := _, guard := _ }) rfl (fun K hK => ?_) AllReadyH.nil
                  obtain ⟨q0, q1, qf, ql⟩ := BA.two
                  go_simp
                  (try go_wp2_with fail)
                  refine hK.out _ _ (storeR hHeld hlt) (fun hHeld => ?_)
                  clear hK K
                  try simp only [Act.put, List.setIfInBounds_toArray, List.set_cons_zero, List.set_cons_succ]
                  refine wpAnyH_take (i := 9) (oi := { dst := some 8, op := _, type := _, pos := _, after := _, guard := _ }) (v := ?_) rfl (by kernel_rfl) (by kernel_rfl) (by kernel_rfl) (fun _ _ _ h => absurd h.1 (by simp)) (Or.inl ⟨by rfl, ?_⟩) (by assumption) ?_
                  rotate_left
                  · intro w hSw
                    (try dsimp only at hSw)
                    go_simp
                    (try (with_reducible rfl))
                  try simp only [Act.put, List.setIfInBounds_toArray, List.set_cons_zero, List.set_cons_succ]
                  refine wpAnyH_done (by kernel_rfl) ?_ _
                  rw [HJ.out]
                  refine ⟨rfl, _, ?_, BA.self2, hlt, hHeld⟩
                  (first | (simp only [Act.put, List.setIfInBounds_toArray, List.set_cons_zero, List.set_cons_succ]; done) | rfl)
              · intro a' w6 hj
                rw [HJ.out] at hj
                obtain ⟨B, rfl, B6, hlt, x0, x1, x2, x3, BG6, hb6⟩ := hj
                clear HJ HRX BG1 hbq
                try simp only [Act.put, List.setIfInBounds_toArray, List.set_cons_zero, List.set_cons_succ]
                have hl6 := BG6.lt
                have hz6 := hb6.size
                go_wp2_with fail
                refine wp_region_held_drew (S := fun w' => w'.cell? ⟨w.heap.size, 0, none⟩ = some (.int .i64 p) ∧ w'.cell? ⟨w.heap.size, 1, none⟩ = some (.int .i64 c) ∧ w'.cell? ⟨w.heap.size, 2, none⟩ = some (.int .i64 h) ∧ w'.cell? ⟨w.heap.size, 3, none⟩ = some (.int .i64 s) ∧ Blk w' (w.heap.size + 1) #[.int .i64 0, .int .i64 0] 25 ∧ Below w.heap.size w w' ∧ Blk w' B #[.int .i64 0, .int .i64 0] 25) (by kernel_rfl) ⟨x0, x1, x2, x3, BG6, hb6.drew, B6⟩ (fun hHeld => ?_)
                refine wpAnyH_take (i := 0) (oi := { dst := some 39, op := _, type := _, pos := _, after := _, guard := _ }) (v := ?_) rfl (by kernel_rfl) (by kernel_rfl) (by kernel_rfl) (fun _ _ _ h => h) (Or.inl ⟨by rfl, ?_⟩) (by assumption) ?_
                rotate_left
                · intro w hSw
                  (try dsimp only at hSw)
                  go_simp
                  (try (with_reducible rfl))
                try simp only [Act.put, List.setIfInBounds_toArray, List.set_cons_zero, List.set_cons_succ]
                refine wpAnyH_take (i := 1) (oi := { dst := some 40, op := _, type := _, pos := _, after := _, guard := _ }) (v := ?_) rfl (by kernel_rfl) (by kernel_rfl) (by kernel_rfl) (fun _ _ _ h => h) (Or.inl ⟨by rfl, ?_⟩) (by assumption) ?_
                rotate_left
                · intro w hSw
                  (try dsimp only at hSw)
                  go_simp
                  (try (with_reducible rfl))
                try simp only [Act.put, List.setIfInBounds_toArray, List.set_cons_zero, List.set_cons_succ]
                refine wpAnyH_take (i := 2) (oi := { dst := some 41, op := _, type := _, pos := _, after := _, guard := _ }) (v := ?_) rfl (by kernel_rfl) (by kernel_rfl) (by kernel_rfl) (fun _ _ _ h => h) (Or.inl ⟨by rfl, ?_⟩) (by assumption) ?_
                rotate_left
                · intro w hSw
                  (try dsimp only at hSw)
                  go_simp
                  (try (with_reducible rfl))
                try simp only [Act.put, List.setIfInBounds_toArray, List.set_cons_zero, List.set_cons_succ]
                refine wpAnyH_ready (rs := [3]) (by kernel_rfl) (by simp) ?_
                refine AllReadyH.cons (o := { dst := some 42, op := _, type := _, pos := _, after := _, guard := _ }) rfl (fun K hK => ?_) AllReadyH.nil
                go_simp
                clear x0 x1 x2 x3 BG6 hb6 B6
                obtain ⟨x0, x1, x2, x3, BG6, hb6, B6⟩ := hHeld
                refine (HSX.out _).mono ?_
                rintro e w9 ⟨a, k, rfl, ho, hb9⟩
                (try go_wp2_with fail)
                refine hK.out _ _ ⟨cell_keepR x0 hb9, cell_keepR x1 hb9, cell_keepR x2 hb9, cell_keepR x3 hb9, BG6.below hb9, chain hb6 hb9, B6.below hb9⟩ (fun hHeld => ?_)
                clear hK K
                try simp only [Act.put, List.setIfInBounds_toArray, List.set_cons_zero, List.set_cons_succ]
                refine wpAnyH_take (i := 4) (oi := { dst := some 38, op := _, type := _, pos := _, after := _, guard := _ }) (v := ?_) rfl (by kernel_rfl) (by kernel_rfl) (by kernel_rfl) (fun _ _ _ h => h) (Or.inl ⟨by rfl, ?_⟩) (by assumption) ?_
                rotate_left
                · intro w hSw
                  (try dsimp only at hSw)
                  go_simp
                  (try (with_reducible rfl))
                try simp only [Act.put, List.setIfInBounds_toArray, List.set_cons_zero, List.set_cons_succ]
                refine wpAnyH_take (i := 5) (oi := { dst := some 43, op := _, type := _, pos := _, after := _, guard := _ }) (v := ?_) rfl (by kernel_rfl) (by kernel_rfl) (by kernel_rfl) (fun _ _ _ h => h) (Or.inl ⟨by rfl, ?_⟩) (by assumption) ?_
                rotate_left
                · intro w hSw
                  (try dsimp only at hSw)
                  go_simp
                  (try (with_reducible rfl))
                try simp only [Act.put, List.setIfInBounds_toArray, List.set_cons_zero, List.set_cons_succ]
                refine wpAnyH_take (i := 6) (oi := { dst := some 44, op := _, type := _, pos := _, after := _, guard := _ }) (v := ?_) rfl (by kernel_rfl) (by kernel_rfl) (by kernel_rfl) (fun _ _ _ h => h) (Or.inl ⟨by rfl, ?_⟩) (by assumption) ?_
                rotate_left
                · intro w hSw
                  (try dsimp only at hSw)
                  go_simp
                  (try (with_reducible rfl))
                try simp only [Act.put, List.setIfInBounds_toArray, List.set_cons_zero, List.set_cons_succ]
                refine wpAnyH_take (i := 7) (oi := { dst := some 9, op := _, type := _, pos := _, after := _, guard := _ }) (v := ?_) rfl (by kernel_rfl) (by kernel_rfl) (by kernel_rfl) (fun _ _ _ h => h) (Or.inl ⟨by rfl, ?_⟩) (by assumption) ?_
                rotate_left
                · intro w hSw
                  (try dsimp only at hSw)
                  go_simp
                  (try (with_reducible rfl))
                try simp only [Act.put, List.setIfInBounds_toArray, List.set_cons_zero, List.set_cons_succ]
                refine wpAnyH_take (i := 8) (oi := { dst := some 10, op := _, type := _, pos := _, after := _, guard := _ }) (v := ?_) rfl (by kernel_rfl) (by kernel_rfl) (by kernel_rfl) (fun _ _ _ h => h) (Or.inl ⟨by rfl, ?_⟩) (by assumption) ?_
                rotate_left
                · intro w hSw
                  (try dsimp only at hSw)
                  go_simp
                  (try (with_reducible rfl))
                try simp only [Act.put, List.setIfInBounds_toArray, List.set_cons_zero, List.set_cons_succ]
                refine wpAnyH_done (by kernel_rfl) ?_ _
                clear x0 x1 x2 x3 BG6 hb6 B6
                obtain ⟨x0, x1, x2, x3, BG9, hbz, B9⟩ := hHeld
                obtain ⟨j0, j1, jf, jl⟩ := BG9.two
                obtain ⟨k0, k1, kf, kl⟩ := B9.two
                obtain ⟨m0, m1, mf, ml⟩ := ((Blk.self2 (v0 := .int .i64 0) (v1 := .int .i64 0) (BG9)).alloc (.cells #[] 38)).two
                go_wp2_with fail
                have hbn := hbz
                have hlo := BG9.lt
                refine bodyPost_ret (v := .tuple #[.agg #[.int .i64 0, .int .i64 0], .slice (some ⟨w9.heap.size, 0, none⟩) 0 0, .int .i64 6]) (by simp [results, Tryd.results7, go_sem, m0, m1]) rfl ?_
                have hfr := OSt.fresh ((w9.setCell ⟨(w.heap.size + 1), 0, none⟩ (.int .i64 0)).setCell ⟨(w.heap.size + 1), 1, none⟩ (.int .i64 0))
                have hsz : ((w9.setCell ⟨(w.heap.size + 1), 0, none⟩ (.int .i64 0)).setCell ⟨(w.heap.size + 1), 1, none⟩ (.int .i64 0)).heap.size = w9.heap.size := by simp
                rw [hsz] at hfr
                exact ⟨some ⟨w9.heap.size, 0, none⟩, 0, rfl, hfr.mono hbn.size (by simp), ((((hbn).setCell (p := ⟨w.heap.size + 1, 0, none⟩) (by show _ ≤ w.heap.size + 1; omega) _).setCell (p := ⟨w.heap.size + 1, 1, none⟩) (by show _ ≤ w.heap.size + 1; omega) _)).alloc (by rw [hsz]; exact hbn.size) _⟩
          | some x =>
            obtain ⟨ra, rb⟩ := x
            cases Q2 with
            | none =>
              have hr : ∀ W, Calls Tryd.prog 29 #[.agg #[.int .i64 p, .int .i64 c, .int .i64 h, .int .i64 s], .string A] W fun e w' => e = .returned (.tuple #[.agg #[.int .i64 ra, .int .i64 rb], .bool true]) ∧ Below W.heap.size W w' := hr
              have HRX := Lib.hid hr
              have HSX := Lib.hid hs
              clear hr hs
              show Calls Tryd.prog 7 #[.agg #[.int .i64 p, .int .i64 c, .int .i64 h, .int .i64 s], .string t] w (TurnGot ((0, 0), 6, []) w)
              go_enter Tryd.func7, Tryd.ntmps7
              go_wp2_with (first | (go_at_call 28; refine (HV.out _).mono ?_; clear HV; rintro e w1 ⟨rfl, hb1⟩; obtain ⟨x0, x1, x2, x3, xf, xl⟩ := (BV.below hb1).four; obtain ⟨j0, j1, jf, jl⟩ := (BG.below hb1).two; obtain ⟨m0, m1, mf, ml⟩ := ((Blk.self2 (v0 := .int .i64 0) (v1 := .int .i64 0) (BG.below hb1)).alloc (.cells #[] 38)).two))
              have BG1 := BG.below hb1
              have hbq := chain hb hb1
              clear j0 j1 jf jl m0 m1 mf ml xf xl BV BG hb hb1
              obtain ⟨J, hJ⟩ : ∃ J : Act → Act → World → Prop, J = fun a a' w' => ∃ B, a' = (((((((((a.put (some 32) (.agg #[.int .i64 p, .int .i64 c, .int .i64 h, .int .i64 s])).put (some 33) (.string t)).put (some 34) (.string A)).put (some 35) (.tuple #[.agg #[.int .i64 ra, .int .i64 rb], .bool true])).put (some 31) (.tuple #[.agg #[.int .i64 ra, .int .i64 rb], .bool true])).put (some 36) (.agg #[.int .i64 ra, .int .i64 rb])).put (some 37) (.bool true)).put (some 7) (.pointer (some ⟨B, 0, none⟩))).put (some 8) (.bool true)) ∧ Blk w' B #[.int .i64 ra, .int .i64 rb] 25 ∧ w.heap.size + 1 < B ∧ (w'.cell? ⟨w.heap.size, 0, none⟩ = some (.int .i64 p) ∧ w'.cell? ⟨w.heap.size, 1, none⟩ = some (.int .i64 c) ∧ w'.cell? ⟨w.heap.size, 2, none⟩ = some (.int .i64 h) ∧ w'.cell? ⟨w.heap.size, 3, none⟩ = some (.int .i64 s) ∧ Blk w' (w.heap.size + 1) #[.int .i64 0, .int .i64 0] 25 ∧ Below w.heap.size w w') := ⟨_, rfl⟩
              have HJ := Lib.hid hJ
              clear hJ
              refine wp_region_joinR J ?_ ?_
              · skip
                refine wp_region_held_drew (S := fun w' => w'.cell? ⟨w.heap.size, 0, none⟩ = some (.int .i64 p) ∧ w'.cell? ⟨w.heap.size, 1, none⟩ = some (.int .i64 c) ∧ w'.cell? ⟨w.heap.size, 2, none⟩ = some (.int .i64 h) ∧ w'.cell? ⟨w.heap.size, 3, none⟩ = some (.int .i64 s) ∧ Blk w' (w.heap.size + 1) #[.int .i64 0, .int .i64 0] 25 ∧ Below w.heap.size w w') (by kernel_rfl) ⟨x0, x1, x2, x3, BG1, hbq.drew⟩ (fun hHeld => ?_)
                clear x0 x1 x2 x3 BG1 hbq
                generalize w1.drew = vd at *
                have hprev := hHeld.2.2.2.2.1.lt
                refine wpAnyH_take (i := 0) (oi := { dst := some 32, op := _, type := _, pos := _, after := _, guard := _ }) (v := ?_) rfl (by kernel_rfl) (by kernel_rfl) (by kernel_rfl) (fun _ _ _ h => absurd h.1 (by simp)) (Or.inl ⟨by rfl, ?_⟩) (by assumption) ?_
                rotate_left
                · intro w hSw
                  (try dsimp only at hSw)
                  go_simp
                  (try (with_reducible rfl))
                try simp only [Act.put, List.setIfInBounds_toArray, List.set_cons_zero, List.set_cons_succ]
                refine wpAnyH_take (i := 1) (oi := { dst := some 33, op := _, type := _, pos := _, after := _, guard := _ }) (v := ?_) rfl (by kernel_rfl) (by kernel_rfl) (by kernel_rfl) (fun _ _ _ h => absurd h.1 (by simp)) (Or.inl ⟨by rfl, ?_⟩) (by assumption) ?_
                rotate_left
                · intro w hSw
                  (try dsimp only at hSw)
                  go_simp
                  (try (with_reducible rfl))
                try simp only [Act.put, List.setIfInBounds_toArray, List.set_cons_zero, List.set_cons_succ]
                refine wpAnyH_take (i := 2) (oi := { dst := some 34, op := _, type := _, pos := _, after := _, guard := _ }) (v := ?_) rfl (by kernel_rfl) (by kernel_rfl) (by kernel_rfl) (fun _ _ _ h => absurd h.1 (by simp)) (Or.inl ⟨by rfl, ?_⟩) (by assumption) ?_
                rotate_left
                · intro w hSw
                  (try dsimp only at hSw)
                  go_simp
                  (try (with_reducible rfl))
                try simp only [Act.put, List.setIfInBounds_toArray, List.set_cons_zero, List.set_cons_succ]
                refine wpAnyH_ready (rs := [3, 7]) (by kernel_rfl) (by simp) ?_
                refine AllReadyH.cons (o := { dst := some 35, op := _, type := _, pos := _, after := _, guard := _ }) rfl (fun K hK => ?_) (AllReadyH.cons (o := { dst := some 7, op := _, type := _, pos := _, after := _, guard := _ }) rfl (fun K hK => ?_) AllReadyH.nil)
                · go_simp
                  refine (HRX.out _).mono ?_
                  rintro e wA ⟨rfl, hbwA⟩
                  have hprev := (heldR hHeld hbwA).2.2.2.2.1.lt
                  (try go_wp2_with fail)
                  refine hK.out _ _ (heldR hHeld hbwA) (fun hHeld => ?_)
                  clear hK K
                  try simp only [Act.put, List.setIfInBounds_toArray, List.set_cons_zero, List.set_cons_succ]
                  refine wpAnyH_take (i := 4) (oi := { dst := some 31, op := _, type := _, pos := _, after := _, guard := _ }) (v := ?_) rfl (by kernel_rfl) (by kernel_rfl) (by kernel_rfl) (fun _ _ _ h => absurd h.1 (by simp)) (Or.inl ⟨by rfl, ?_⟩) (by assumption) ?_
                  rotate_left
                  · intro w hSw
                    (try dsimp only at hSw)
                    go_simp
                    (try (with_reducible rfl))
                  try simp only [Act.put, List.setIfInBounds_toArray, List.set_cons_zero, List.set_cons_succ]
                  refine wpAnyH_take (i := 5) (oi := { dst := some 36, op := _, type := _, pos := _, after := _, guard := _ }) (v := ?_) rfl (by kernel_rfl) (by kernel_rfl) (by kernel_rfl) (fun _ _ _ h => absurd h.1 (by simp)) (Or.inl ⟨by rfl, ?_⟩) (by assumption) ?_
                  rotate_left
                  · intro w hSw
                    (try dsimp only at hSw)
                    go_simp
                    (try (with_reducible rfl))
                  try simp only [Act.put, List.setIfInBounds_toArray, List.set_cons_zero, List.set_cons_succ]
                  refine wpAnyH_take (i := 6) (oi := { dst := some 37, op := _, type := _, pos := _, after := _, guard := _ }) (v := ?_) rfl (by kernel_rfl) (by kernel_rfl) (by kernel_rfl) (fun _ _ _ h => absurd h.1 (by simp)) (Or.inl ⟨by rfl, ?_⟩) (by assumption) ?_
                  rotate_left
                  · intro w hSw
                    (try dsimp only at hSw)
                    go_simp
                    (try (with_reducible rfl))
                  try simp only [Act.put, List.setIfInBounds_toArray, List.set_cons_zero, List.set_cons_succ]
                  refine wpAnyH_ready (rs := [7]) (by kernel_rfl) (by simp) ?_
                  refine AllReadyH.cons (o := { dst := some 7, op := _, type := _, pos := _, after := _, guard := _ }) rfl (fun K hK => ?_) AllReadyH.nil
                  go_simp
                  refine hK.out _ _ (heldR hHeld ((Below.refl _ _).alloc (Nat.le_refl _) _)) (fun hHeld => ?_)
                  clear hK K
                  try simp only [Act.put, List.setIfInBounds_toArray, List.set_cons_zero, List.set_cons_succ]
                  have BA := Blk.new wA #[.int .i64 0, .int .i64 0] 25
                  have hlt : w.heap.size + 1 < wA.heap.size := hprev
                  generalize hBX : wA.heap.size = BX at *
                  clear hBX
                  generalize wA.alloc (.cells #[.int .i64 0, .int .i64 0] 25) = wN at *
                  refine wpAnyH_ready (rs := [8]) (by kernel_rfl) (by simp) ?_
                  refine AllReadyH.cons (o := { dst := none, op := _, type := _, pos := _, after := _, guard := _ }) rfl (fun K hK => ?_) AllReadyH.nil
                  obtain ⟨q0, q1, qf, ql⟩ := BA.two
                  go_simp
                  (try go_wp2_with fail)
                  refine hK.out _ _ (storeR hHeld hlt) (fun hHeld => ?_)
                  clear hK K
                  try simp only [Act.put, List.setIfInBounds_toArray, List.set_cons_zero, List.set_cons_succ]
                  refine wpAnyH_take (i := 9) (oi := { dst := some 8, op := _, type := _, pos := _, after := _, guard := _ }) (v := ?_) rfl (by kernel_rfl) (by kernel_rfl) (by kernel_rfl) (fun _ _ _ h => absurd h.1 (by simp)) (Or.inl ⟨by rfl, ?_⟩) (by assumption) ?_
                  rotate_left
                  · intro w hSw
                    (try dsimp only at hSw)
                    go_simp
                    (try (with_reducible rfl))
                  try simp only [Act.put, List.setIfInBounds_toArray, List.set_cons_zero, List.set_cons_succ]
                  refine wpAnyH_done (by kernel_rfl) ?_ _
                  rw [HJ.out]
                  refine ⟨rfl, _, ?_, BA.self2, hlt, hHeld⟩
                  (first | (simp only [Act.put, List.setIfInBounds_toArray, List.set_cons_zero, List.set_cons_succ]; done) | rfl)
                · go_simp
                  refine hK.out _ _ (heldR hHeld ((Below.refl _ _).alloc (Nat.le_refl _) _)) (fun hHeld => ?_)
                  clear hK K
                  try simp only [Act.put, List.setIfInBounds_toArray, List.set_cons_zero, List.set_cons_succ]
                  have BA := Blk.new vd #[.int .i64 0, .int .i64 0] 25
                  have hlt : w.heap.size + 1 < vd.heap.size := hprev
                  generalize hBX : vd.heap.size = BX at *
                  clear hBX
                  generalize vd.alloc (.cells #[.int .i64 0, .int .i64 0] 25) = wN at *
                  refine wpAnyH_ready (rs := [3]) (by kernel_rfl) (by simp) ?_
                  refine AllReadyH.cons (o := { dst := some 35, op := _, type := _, pos := _, after := _, guard := _ }) rfl (fun K hK => ?_) AllReadyH.nil
                  go_simp
                  refine (HRX.out _).mono ?_
                  rintro e wA ⟨rfl, hbwA⟩
                  replace BA := BA.below hbwA
                  have hprev := (heldR hHeld hbwA).2.2.2.2.1.lt
                  (try go_wp2_with fail)
                  refine hK.out _ _ (heldR hHeld hbwA) (fun hHeld => ?_)
                  clear hK K
                  try simp only [Act.put, List.setIfInBounds_toArray, List.set_cons_zero, List.set_cons_succ]
                  refine wpAnyH_take (i := 4) (oi := { dst := some 31, op := _, type := _, pos := _, after := _, guard := _ }) (v := ?_) rfl (by kernel_rfl) (by kernel_rfl) (by kernel_rfl) (fun _ _ _ h => absurd h.1 (by simp)) (Or.inl ⟨by rfl, ?_⟩) (by assumption) ?_
                  rotate_left
                  · intro w hSw
                    (try dsimp only at hSw)
                    go_simp
                    (try (with_reducible rfl))
                  try simp only [Act.put, List.setIfInBounds_toArray, List.set_cons_zero, List.set_cons_succ]
                  refine wpAnyH_take (i := 5) (oi := { dst := some 36, op := _, type := _, pos := _, after := _, guard := _ }) (v := ?_) rfl (by kernel_rfl) (by kernel_rfl) (by kernel_rfl) (fun _ _ _ h => absurd h.1 (by simp)) (Or.inl ⟨by rfl, ?_⟩) (by assumption) ?_
                  rotate_left
                  · intro w hSw
                    (try dsimp only at hSw)
                    go_simp
                    (try (with_reducible rfl))
                  try simp only [Act.put, List.setIfInBounds_toArray, List.set_cons_zero, List.set_cons_succ]
                  refine wpAnyH_take (i := 6) (oi := { dst := some 37, op := _, type := _, pos := _, after := _, guard := _ }) (v := ?_) rfl (by kernel_rfl) (by kernel_rfl) (by kernel_rfl) (fun _ _ _ h => absurd h.1 (by simp)) (Or.inl ⟨by rfl, ?_⟩) (by assumption) ?_
                  rotate_left
                  · intro w hSw
                    (try dsimp only at hSw)
                    go_simp
                    (try (with_reducible rfl))
                  try simp only [Act.put, List.setIfInBounds_toArray, List.set_cons_zero, List.set_cons_succ]
                  refine wpAnyH_ready (rs := [8]) (by kernel_rfl) (by simp) ?_
                  refine AllReadyH.cons (o := { dst := none, op := _, type := _, pos := _, after := _, guard := _ }) rfl (fun K hK => ?_) AllReadyH.nil
                  obtain ⟨q0, q1, qf, ql⟩ := BA.two
                  go_simp
                  (try go_wp2_with fail)
                  refine hK.out _ _ (storeR hHeld hlt) (fun hHeld => ?_)
                  clear hK K
                  try simp only [Act.put, List.setIfInBounds_toArray, List.set_cons_zero, List.set_cons_succ]
                  refine wpAnyH_take (i := 9) (oi := { dst := some 8, op := _, type := _, pos := _, after := _, guard := _ }) (v := ?_) rfl (by kernel_rfl) (by kernel_rfl) (by kernel_rfl) (fun _ _ _ h => absurd h.1 (by simp)) (Or.inl ⟨by rfl, ?_⟩) (by assumption) ?_
                  rotate_left
                  · intro w hSw
                    (try dsimp only at hSw)
                    go_simp
                    (try (with_reducible rfl))
                  try simp only [Act.put, List.setIfInBounds_toArray, List.set_cons_zero, List.set_cons_succ]
                  refine wpAnyH_done (by kernel_rfl) ?_ _
                  rw [HJ.out]
                  refine ⟨rfl, _, ?_, BA.self2, hlt, hHeld⟩
                  (first | (simp only [Act.put, List.setIfInBounds_toArray, List.set_cons_zero, List.set_cons_succ]; done) | rfl)
              · intro a' w6 hj
                rw [HJ.out] at hj
                obtain ⟨B, rfl, B6, hlt, x0, x1, x2, x3, BG6, hb6⟩ := hj
                clear HJ HRX BG1 hbq
                try simp only [Act.put, List.setIfInBounds_toArray, List.set_cons_zero, List.set_cons_succ]
                have hl6 := BG6.lt
                have hz6 := hb6.size
                go_wp2_with fail
                refine wp_region_held_drew (S := fun w' => w'.cell? ⟨w.heap.size, 0, none⟩ = some (.int .i64 p) ∧ w'.cell? ⟨w.heap.size, 1, none⟩ = some (.int .i64 c) ∧ w'.cell? ⟨w.heap.size, 2, none⟩ = some (.int .i64 h) ∧ w'.cell? ⟨w.heap.size, 3, none⟩ = some (.int .i64 s) ∧ Blk w' (w.heap.size + 1) #[.int .i64 0, .int .i64 0] 25 ∧ Below w.heap.size w w' ∧ Blk w' B #[.int .i64 ra, .int .i64 rb] 25) (by kernel_rfl) ⟨x0, x1, x2, x3, BG6, hb6.drew, B6⟩ (fun hHeld => ?_)
                refine wpAnyH_take (i := 0) (oi := { dst := some 39, op := _, type := _, pos := _, after := _, guard := _ }) (v := ?_) rfl (by kernel_rfl) (by kernel_rfl) (by kernel_rfl) (fun _ _ _ h => h) (Or.inl ⟨by rfl, ?_⟩) (by assumption) ?_
                rotate_left
                · intro w hSw
                  (try dsimp only at hSw)
                  go_simp
                  (try (with_reducible rfl))
                try simp only [Act.put, List.setIfInBounds_toArray, List.set_cons_zero, List.set_cons_succ]
                refine wpAnyH_take (i := 1) (oi := { dst := some 40, op := _, type := _, pos := _, after := _, guard := _ }) (v := ?_) rfl (by kernel_rfl) (by kernel_rfl) (by kernel_rfl) (fun _ _ _ h => h) (Or.inl ⟨by rfl, ?_⟩) (by assumption) ?_
                rotate_left
                · intro w hSw
                  (try dsimp only at hSw)
                  go_simp
                  (try (with_reducible rfl))
                try simp only [Act.put, List.setIfInBounds_toArray, List.set_cons_zero, List.set_cons_succ]
                refine wpAnyH_take (i := 2) (oi := { dst := some 41, op := _, type := _, pos := _, after := _, guard := _ }) (v := ?_) rfl (by kernel_rfl) (by kernel_rfl) (by kernel_rfl) (fun _ _ _ h => h) (Or.inl ⟨by rfl, ?_⟩) (by assumption) ?_
                rotate_left
                · intro w hSw
                  (try dsimp only at hSw)
                  go_simp
                  (try (with_reducible rfl))
                try simp only [Act.put, List.setIfInBounds_toArray, List.set_cons_zero, List.set_cons_succ]
                refine wpAnyH_ready (rs := [3]) (by kernel_rfl) (by simp) ?_
                refine AllReadyH.cons (o := { dst := some 42, op := _, type := _, pos := _, after := _, guard := _ }) rfl (fun K hK => ?_) AllReadyH.nil
                go_simp
                clear x0 x1 x2 x3 BG6 hb6 B6
                obtain ⟨x0, x1, x2, x3, BG6, hb6, B6⟩ := hHeld
                refine (HSX.out _).mono ?_
                rintro e w9 ⟨a, k, rfl, ho, hb9⟩
                (try go_wp2_with fail)
                refine hK.out _ _ ⟨cell_keepR x0 hb9, cell_keepR x1 hb9, cell_keepR x2 hb9, cell_keepR x3 hb9, BG6.below hb9, chain hb6 hb9, B6.below hb9⟩ (fun hHeld => ?_)
                clear hK K
                try simp only [Act.put, List.setIfInBounds_toArray, List.set_cons_zero, List.set_cons_succ]
                refine wpAnyH_take (i := 4) (oi := { dst := some 38, op := _, type := _, pos := _, after := _, guard := _ }) (v := ?_) rfl (by kernel_rfl) (by kernel_rfl) (by kernel_rfl) (fun _ _ _ h => h) (Or.inl ⟨by rfl, ?_⟩) (by assumption) ?_
                rotate_left
                · intro w hSw
                  (try dsimp only at hSw)
                  go_simp
                  (try (with_reducible rfl))
                try simp only [Act.put, List.setIfInBounds_toArray, List.set_cons_zero, List.set_cons_succ]
                refine wpAnyH_take (i := 5) (oi := { dst := some 43, op := _, type := _, pos := _, after := _, guard := _ }) (v := ?_) rfl (by kernel_rfl) (by kernel_rfl) (by kernel_rfl) (fun _ _ _ h => h) (Or.inl ⟨by rfl, ?_⟩) (by assumption) ?_
                rotate_left
                · intro w hSw
                  (try dsimp only at hSw)
                  go_simp
                  (try (with_reducible rfl))
                try simp only [Act.put, List.setIfInBounds_toArray, List.set_cons_zero, List.set_cons_succ]
                refine wpAnyH_take (i := 6) (oi := { dst := some 44, op := _, type := _, pos := _, after := _, guard := _ }) (v := ?_) rfl (by kernel_rfl) (by kernel_rfl) (by kernel_rfl) (fun _ _ _ h => h) (Or.inl ⟨by rfl, ?_⟩) (by assumption) ?_
                rotate_left
                · intro w hSw
                  (try dsimp only at hSw)
                  go_simp
                  (try (with_reducible rfl))
                try simp only [Act.put, List.setIfInBounds_toArray, List.set_cons_zero, List.set_cons_succ]
                refine wpAnyH_take (i := 7) (oi := { dst := some 9, op := _, type := _, pos := _, after := _, guard := _ }) (v := ?_) rfl (by kernel_rfl) (by kernel_rfl) (by kernel_rfl) (fun _ _ _ h => h) (Or.inl ⟨by rfl, ?_⟩) (by assumption) ?_
                rotate_left
                · intro w hSw
                  (try dsimp only at hSw)
                  go_simp
                  (try (with_reducible rfl))
                try simp only [Act.put, List.setIfInBounds_toArray, List.set_cons_zero, List.set_cons_succ]
                refine wpAnyH_take (i := 8) (oi := { dst := some 10, op := _, type := _, pos := _, after := _, guard := _ }) (v := ?_) rfl (by kernel_rfl) (by kernel_rfl) (by kernel_rfl) (fun _ _ _ h => h) (Or.inl ⟨by rfl, ?_⟩) (by assumption) ?_
                rotate_left
                · intro w hSw
                  (try dsimp only at hSw)
                  go_simp
                  (try (with_reducible rfl))
                try simp only [Act.put, List.setIfInBounds_toArray, List.set_cons_zero, List.set_cons_succ]
                refine wpAnyH_done (by kernel_rfl) ?_ _
                clear x0 x1 x2 x3 BG6 hb6 B6
                obtain ⟨x0, x1, x2, x3, BG9, hbz, B9⟩ := hHeld
                obtain ⟨j0, j1, jf, jl⟩ := BG9.two
                obtain ⟨k0, k1, kf, kl⟩ := B9.two
                obtain ⟨m0, m1, mf, ml⟩ := ((Blk.self2 (v0 := .int .i64 0) (v1 := .int .i64 0) (BG9)).alloc (.cells #[] 38)).two
                go_wp2_with fail
                have hbn := hbz
                have hlo := BG9.lt
                refine bodyPost_ret (v := .tuple #[.agg #[.int .i64 0, .int .i64 0], .slice (some ⟨w9.heap.size, 0, none⟩) 0 0, .int .i64 6]) (by simp [results, Tryd.results7, go_sem, m0, m1]) rfl ?_
                have hfr := OSt.fresh ((w9.setCell ⟨(w.heap.size + 1), 0, none⟩ (.int .i64 0)).setCell ⟨(w.heap.size + 1), 1, none⟩ (.int .i64 0))
                have hsz : ((w9.setCell ⟨(w.heap.size + 1), 0, none⟩ (.int .i64 0)).setCell ⟨(w.heap.size + 1), 1, none⟩ (.int .i64 0)).heap.size = w9.heap.size := by simp
                rw [hsz] at hfr
                exact ⟨some ⟨w9.heap.size, 0, none⟩, 0, rfl, hfr.mono hbn.size (by simp), ((((hbn).setCell (p := ⟨w.heap.size + 1, 0, none⟩) (by show _ ≤ w.heap.size + 1; omega) _).setCell (p := ⟨w.heap.size + 1, 1, none⟩) (by show _ ≤ w.heap.size + 1; omega) _)).alloc (by rw [hsz]; exact hbn.size) _⟩
            | some D =>
              have hr : ∀ W, Calls Tryd.prog 29 #[.agg #[.int .i64 p, .int .i64 c, .int .i64 h, .int .i64 s], .string A] W fun e w' => e = .returned (.tuple #[.agg #[.int .i64 ra, .int .i64 rb], .bool true]) ∧ Below W.heap.size W w' := hr
              have HRX := Lib.hid hr
              have HSX := Lib.hid hs
              clear hr hs
              show Calls Tryd.prog 7 #[.agg #[.int .i64 p, .int .i64 c, .int .i64 h, .int .i64 s], .string t] w (TurnGot ((ra, rb), 0, D) w)
              go_enter Tryd.func7, Tryd.ntmps7
              go_wp2_with (first | (go_at_call 28; refine (HV.out _).mono ?_; clear HV; rintro e w1 ⟨rfl, hb1⟩; obtain ⟨x0, x1, x2, x3, xf, xl⟩ := (BV.below hb1).four; obtain ⟨j0, j1, jf, jl⟩ := (BG.below hb1).two; obtain ⟨m0, m1, mf, ml⟩ := ((Blk.self2 (v0 := .int .i64 0) (v1 := .int .i64 0) (BG.below hb1)).alloc (.cells #[] 38)).two))
              have BG1 := BG.below hb1
              have hbq := chain hb hb1
              clear j0 j1 jf jl m0 m1 mf ml xf xl BV BG hb hb1
              obtain ⟨J, hJ⟩ : ∃ J : Act → Act → World → Prop, J = fun a a' w' => ∃ B, a' = (((((((((a.put (some 32) (.agg #[.int .i64 p, .int .i64 c, .int .i64 h, .int .i64 s])).put (some 33) (.string t)).put (some 34) (.string A)).put (some 35) (.tuple #[.agg #[.int .i64 ra, .int .i64 rb], .bool true])).put (some 31) (.tuple #[.agg #[.int .i64 ra, .int .i64 rb], .bool true])).put (some 36) (.agg #[.int .i64 ra, .int .i64 rb])).put (some 37) (.bool true)).put (some 7) (.pointer (some ⟨B, 0, none⟩))).put (some 8) (.bool true)) ∧ Blk w' B #[.int .i64 ra, .int .i64 rb] 25 ∧ w.heap.size + 1 < B ∧ (w'.cell? ⟨w.heap.size, 0, none⟩ = some (.int .i64 p) ∧ w'.cell? ⟨w.heap.size, 1, none⟩ = some (.int .i64 c) ∧ w'.cell? ⟨w.heap.size, 2, none⟩ = some (.int .i64 h) ∧ w'.cell? ⟨w.heap.size, 3, none⟩ = some (.int .i64 s) ∧ Blk w' (w.heap.size + 1) #[.int .i64 0, .int .i64 0] 25 ∧ Below w.heap.size w w') := ⟨_, rfl⟩
              have HJ := Lib.hid hJ
              clear hJ
              refine wp_region_joinR J ?_ ?_
              · skip
                refine wp_region_held_drew (S := fun w' => w'.cell? ⟨w.heap.size, 0, none⟩ = some (.int .i64 p) ∧ w'.cell? ⟨w.heap.size, 1, none⟩ = some (.int .i64 c) ∧ w'.cell? ⟨w.heap.size, 2, none⟩ = some (.int .i64 h) ∧ w'.cell? ⟨w.heap.size, 3, none⟩ = some (.int .i64 s) ∧ Blk w' (w.heap.size + 1) #[.int .i64 0, .int .i64 0] 25 ∧ Below w.heap.size w w') (by kernel_rfl) ⟨x0, x1, x2, x3, BG1, hbq.drew⟩ (fun hHeld => ?_)
                clear x0 x1 x2 x3 BG1 hbq
                generalize w1.drew = vd at *
                have hprev := hHeld.2.2.2.2.1.lt
                refine wpAnyH_take (i := 0) (oi := { dst := some 32, op := _, type := _, pos := _, after := _, guard := _ }) (v := ?_) rfl (by kernel_rfl) (by kernel_rfl) (by kernel_rfl) (fun _ _ _ h => absurd h.1 (by simp)) (Or.inl ⟨by rfl, ?_⟩) (by assumption) ?_
                rotate_left
                · intro w hSw
                  (try dsimp only at hSw)
                  go_simp
                  (try (with_reducible rfl))
                try simp only [Act.put, List.setIfInBounds_toArray, List.set_cons_zero, List.set_cons_succ]
                refine wpAnyH_take (i := 1) (oi := { dst := some 33, op := _, type := _, pos := _, after := _, guard := _ }) (v := ?_) rfl (by kernel_rfl) (by kernel_rfl) (by kernel_rfl) (fun _ _ _ h => absurd h.1 (by simp)) (Or.inl ⟨by rfl, ?_⟩) (by assumption) ?_
                rotate_left
                · intro w hSw
                  (try dsimp only at hSw)
                  go_simp
                  (try (with_reducible rfl))
                try simp only [Act.put, List.setIfInBounds_toArray, List.set_cons_zero, List.set_cons_succ]
                refine wpAnyH_take (i := 2) (oi := { dst := some 34, op := _, type := _, pos := _, after := _, guard := _ }) (v := ?_) rfl (by kernel_rfl) (by kernel_rfl) (by kernel_rfl) (fun _ _ _ h => absurd h.1 (by simp)) (Or.inl ⟨by rfl, ?_⟩) (by assumption) ?_
                rotate_left
                · intro w hSw
                  (try dsimp only at hSw)
                  go_simp
                  (try (with_reducible rfl))
                try simp only [Act.put, List.setIfInBounds_toArray, List.set_cons_zero, List.set_cons_succ]
                refine wpAnyH_ready (rs := [3, 7]) (by kernel_rfl) (by simp) ?_
                refine AllReadyH.cons (o := { dst := some 35, op := _, type := _, pos := _, after := _, guard := _ }) rfl (fun K hK => ?_) (AllReadyH.cons (o := { dst := some 7, op := _, type := _, pos := _, after := _, guard := _ }) rfl (fun K hK => ?_) AllReadyH.nil)
                · go_simp
                  refine (HRX.out _).mono ?_
                  rintro e wA ⟨rfl, hbwA⟩
                  have hprev := (heldR hHeld hbwA).2.2.2.2.1.lt
                  (try go_wp2_with fail)
                  refine hK.out _ _ (heldR hHeld hbwA) (fun hHeld => ?_)
                  clear hK K
                  try simp only [Act.put, List.setIfInBounds_toArray, List.set_cons_zero, List.set_cons_succ]
                  refine wpAnyH_take (i := 4) (oi := { dst := some 31, op := _, type := _, pos := _, after := _, guard := _ }) (v := ?_) rfl (by kernel_rfl) (by kernel_rfl) (by kernel_rfl) (fun _ _ _ h => absurd h.1 (by simp)) (Or.inl ⟨by rfl, ?_⟩) (by assumption) ?_
                  rotate_left
                  · intro w hSw
                    (try dsimp only at hSw)
                    go_simp
                    (try (with_reducible rfl))
                  try simp only [Act.put, List.setIfInBounds_toArray, List.set_cons_zero, List.set_cons_succ]
                  refine wpAnyH_take (i := 5) (oi := { dst := some 36, op := _, type := _, pos := _, after := _, guard := _ }) (v := ?_) rfl (by kernel_rfl) (by kernel_rfl) (by kernel_rfl) (fun _ _ _ h => absurd h.1 (by simp)) (Or.inl ⟨by rfl, ?_⟩) (by assumption) ?_
                  rotate_left
                  · intro w hSw
                    (try dsimp only at hSw)
                    go_simp
                    (try (with_reducible rfl))
                  try simp only [Act.put, List.setIfInBounds_toArray, List.set_cons_zero, List.set_cons_succ]
                  refine wpAnyH_take (i := 6) (oi := { dst := some 37, op := _, type := _, pos := _, after := _, guard := _ }) (v := ?_) rfl (by kernel_rfl) (by kernel_rfl) (by kernel_rfl) (fun _ _ _ h => absurd h.1 (by simp)) (Or.inl ⟨by rfl, ?_⟩) (by assumption) ?_
                  rotate_left
                  · intro w hSw
                    (try dsimp only at hSw)
                    go_simp
                    (try (with_reducible rfl))
                  try simp only [Act.put, List.setIfInBounds_toArray, List.set_cons_zero, List.set_cons_succ]
                  refine wpAnyH_ready (rs := [7]) (by kernel_rfl) (by simp) ?_
                  refine AllReadyH.cons (o := { dst := some 7, op := _, type := _, pos := _, after := _, guard := _ }) rfl (fun K hK => ?_) AllReadyH.nil
                  go_simp
                  refine hK.out _ _ (heldR hHeld ((Below.refl _ _).alloc (Nat.le_refl _) _)) (fun hHeld => ?_)
                  clear hK K
                  try simp only [Act.put, List.setIfInBounds_toArray, List.set_cons_zero, List.set_cons_succ]
                  have BA := Blk.new wA #[.int .i64 0, .int .i64 0] 25
                  have hlt : w.heap.size + 1 < wA.heap.size := hprev
                  generalize hBX : wA.heap.size = BX at *
                  clear hBX
                  generalize wA.alloc (.cells #[.int .i64 0, .int .i64 0] 25) = wN at *
                  refine wpAnyH_ready (rs := [8]) (by kernel_rfl) (by simp) ?_
                  refine AllReadyH.cons (o := { dst := none, op := _, type := _, pos := _, after := _, guard := _ }) rfl (fun K hK => ?_) AllReadyH.nil
                  obtain ⟨q0, q1, qf, ql⟩ := BA.two
                  go_simp
                  (try go_wp2_with fail)
                  refine hK.out _ _ (storeR hHeld hlt) (fun hHeld => ?_)
                  clear hK K
                  try simp only [Act.put, List.setIfInBounds_toArray, List.set_cons_zero, List.set_cons_succ]
                  refine wpAnyH_take (i := 9) (oi := { dst := some 8, op := _, type := _, pos := _, after := _, guard := _ }) (v := ?_) rfl (by kernel_rfl) (by kernel_rfl) (by kernel_rfl) (fun _ _ _ h => absurd h.1 (by simp)) (Or.inl ⟨by rfl, ?_⟩) (by assumption) ?_
                  rotate_left
                  · intro w hSw
                    (try dsimp only at hSw)
                    go_simp
                    (try (with_reducible rfl))
                  try simp only [Act.put, List.setIfInBounds_toArray, List.set_cons_zero, List.set_cons_succ]
                  refine wpAnyH_done (by kernel_rfl) ?_ _
                  rw [HJ.out]
                  refine ⟨rfl, _, ?_, BA.self2, hlt, hHeld⟩
                  (first | (simp only [Act.put, List.setIfInBounds_toArray, List.set_cons_zero, List.set_cons_succ]; done) | rfl)
                · go_simp
                  refine hK.out _ _ (heldR hHeld ((Below.refl _ _).alloc (Nat.le_refl _) _)) (fun hHeld => ?_)
                  clear hK K
                  try simp only [Act.put, List.setIfInBounds_toArray, List.set_cons_zero, List.set_cons_succ]
                  have BA := Blk.new vd #[.int .i64 0, .int .i64 0] 25
                  have hlt : w.heap.size + 1 < vd.heap.size := hprev
                  generalize hBX : vd.heap.size = BX at *
                  clear hBX
                  generalize vd.alloc (.cells #[.int .i64 0, .int .i64 0] 25) = wN at *
                  refine wpAnyH_ready (rs := [3]) (by kernel_rfl) (by simp) ?_
                  refine AllReadyH.cons (o := { dst := some 35, op := _, type := _, pos := _, after := _, guard := _ }) rfl (fun K hK => ?_) AllReadyH.nil
                  go_simp
                  refine (HRX.out _).mono ?_
                  rintro e wA ⟨rfl, hbwA⟩
                  replace BA := BA.below hbwA
                  have hprev := (heldR hHeld hbwA).2.2.2.2.1.lt
                  (try go_wp2_with fail)
                  refine hK.out _ _ (heldR hHeld hbwA) (fun hHeld => ?_)
                  clear hK K
                  try simp only [Act.put, List.setIfInBounds_toArray, List.set_cons_zero, List.set_cons_succ]
                  refine wpAnyH_take (i := 4) (oi := { dst := some 31, op := _, type := _, pos := _, after := _, guard := _ }) (v := ?_) rfl (by kernel_rfl) (by kernel_rfl) (by kernel_rfl) (fun _ _ _ h => absurd h.1 (by simp)) (Or.inl ⟨by rfl, ?_⟩) (by assumption) ?_
                  rotate_left
                  · intro w hSw
                    (try dsimp only at hSw)
                    go_simp
                    (try (with_reducible rfl))
                  try simp only [Act.put, List.setIfInBounds_toArray, List.set_cons_zero, List.set_cons_succ]
                  refine wpAnyH_take (i := 5) (oi := { dst := some 36, op := _, type := _, pos := _, after := _, guard := _ }) (v := ?_) rfl (by kernel_rfl) (by kernel_rfl) (by kernel_rfl) (fun _ _ _ h => absurd h.1 (by simp)) (Or.inl ⟨by rfl, ?_⟩) (by assumption) ?_
                  rotate_left
                  · intro w hSw
                    (try dsimp only at hSw)
                    go_simp
                    (try (with_reducible rfl))
                  try simp only [Act.put, List.setIfInBounds_toArray, List.set_cons_zero, List.set_cons_succ]
                  refine wpAnyH_take (i := 6) (oi := { dst := some 37, op := _, type := _, pos := _, after := _, guard := _ }) (v := ?_) rfl (by kernel_rfl) (by kernel_rfl) (by kernel_rfl) (fun _ _ _ h => absurd h.1 (by simp)) (Or.inl ⟨by rfl, ?_⟩) (by assumption) ?_
                  rotate_left
                  · intro w hSw
                    (try dsimp only at hSw)
                    go_simp
                    (try (with_reducible rfl))
                  try simp only [Act.put, List.setIfInBounds_toArray, List.set_cons_zero, List.set_cons_succ]
                  refine wpAnyH_ready (rs := [8]) (by kernel_rfl) (by simp) ?_
                  refine AllReadyH.cons (o := { dst := none, op := _, type := _, pos := _, after := _, guard := _ }) rfl (fun K hK => ?_) AllReadyH.nil
                  obtain ⟨q0, q1, qf, ql⟩ := BA.two
                  go_simp
                  (try go_wp2_with fail)
                  refine hK.out _ _ (storeR hHeld hlt) (fun hHeld => ?_)
                  clear hK K
                  try simp only [Act.put, List.setIfInBounds_toArray, List.set_cons_zero, List.set_cons_succ]
                  refine wpAnyH_take (i := 9) (oi := { dst := some 8, op := _, type := _, pos := _, after := _, guard := _ }) (v := ?_) rfl (by kernel_rfl) (by kernel_rfl) (by kernel_rfl) (fun _ _ _ h => absurd h.1 (by simp)) (Or.inl ⟨by rfl, ?_⟩) (by assumption) ?_
                  rotate_left
                  · intro w hSw
                    (try dsimp only at hSw)
                    go_simp
                    (try (with_reducible rfl))
                  try simp only [Act.put, List.setIfInBounds_toArray, List.set_cons_zero, List.set_cons_succ]
                  refine wpAnyH_done (by kernel_rfl) ?_ _
                  rw [HJ.out]
                  refine ⟨rfl, _, ?_, BA.self2, hlt, hHeld⟩
                  (first | (simp only [Act.put, List.setIfInBounds_toArray, List.set_cons_zero, List.set_cons_succ]; done) | rfl)
              · intro a' w6 hj
                rw [HJ.out] at hj
                obtain ⟨B, rfl, B6, hlt, x0, x1, x2, x3, BG6, hb6⟩ := hj
                clear HJ HRX BG1 hbq
                try simp only [Act.put, List.setIfInBounds_toArray, List.set_cons_zero, List.set_cons_succ]
                have hl6 := BG6.lt
                have hz6 := hb6.size
                go_wp2_with fail
                refine wp_region_held_drew (S := fun w' => w'.cell? ⟨w.heap.size, 0, none⟩ = some (.int .i64 p) ∧ w'.cell? ⟨w.heap.size, 1, none⟩ = some (.int .i64 c) ∧ w'.cell? ⟨w.heap.size, 2, none⟩ = some (.int .i64 h) ∧ w'.cell? ⟨w.heap.size, 3, none⟩ = some (.int .i64 s) ∧ Blk w' (w.heap.size + 1) #[.int .i64 0, .int .i64 0] 25 ∧ Below w.heap.size w w' ∧ Blk w' B #[.int .i64 ra, .int .i64 rb] 25) (by kernel_rfl) ⟨x0, x1, x2, x3, BG6, hb6.drew, B6⟩ (fun hHeld => ?_)
                refine wpAnyH_take (i := 0) (oi := { dst := some 39, op := _, type := _, pos := _, after := _, guard := _ }) (v := ?_) rfl (by kernel_rfl) (by kernel_rfl) (by kernel_rfl) (fun _ _ _ h => h) (Or.inl ⟨by rfl, ?_⟩) (by assumption) ?_
                rotate_left
                · intro w hSw
                  (try dsimp only at hSw)
                  go_simp
                  (try (with_reducible rfl))
                try simp only [Act.put, List.setIfInBounds_toArray, List.set_cons_zero, List.set_cons_succ]
                refine wpAnyH_take (i := 1) (oi := { dst := some 40, op := _, type := _, pos := _, after := _, guard := _ }) (v := ?_) rfl (by kernel_rfl) (by kernel_rfl) (by kernel_rfl) (fun _ _ _ h => h) (Or.inl ⟨by rfl, ?_⟩) (by assumption) ?_
                rotate_left
                · intro w hSw
                  (try dsimp only at hSw)
                  go_simp
                  (try (with_reducible rfl))
                try simp only [Act.put, List.setIfInBounds_toArray, List.set_cons_zero, List.set_cons_succ]
                refine wpAnyH_take (i := 2) (oi := { dst := some 41, op := _, type := _, pos := _, after := _, guard := _ }) (v := ?_) rfl (by kernel_rfl) (by kernel_rfl) (by kernel_rfl) (fun _ _ _ h => h) (Or.inl ⟨by rfl, ?_⟩) (by assumption) ?_
                rotate_left
                · intro w hSw
                  (try dsimp only at hSw)
                  go_simp
                  (try (with_reducible rfl))
                try simp only [Act.put, List.setIfInBounds_toArray, List.set_cons_zero, List.set_cons_succ]
                refine wpAnyH_ready (rs := [3]) (by kernel_rfl) (by simp) ?_
                refine AllReadyH.cons (o := { dst := some 42, op := _, type := _, pos := _, after := _, guard := _ }) rfl (fun K hK => ?_) AllReadyH.nil
                go_simp
                clear x0 x1 x2 x3 BG6 hb6 B6
                obtain ⟨x0, x1, x2, x3, BG6, hb6, B6⟩ := hHeld
                refine (HSX.out _).mono ?_
                rintro e w9 ⟨a, k, rfl, ho, hb9⟩
                (try go_wp2_with fail)
                refine hK.out _ _ ⟨cell_keepR x0 hb9, cell_keepR x1 hb9, cell_keepR x2 hb9, cell_keepR x3 hb9, BG6.below hb9, chain hb6 hb9, B6.below hb9⟩ (fun hHeld => ?_)
                clear hK K
                try simp only [Act.put, List.setIfInBounds_toArray, List.set_cons_zero, List.set_cons_succ]
                refine wpAnyH_take (i := 4) (oi := { dst := some 38, op := _, type := _, pos := _, after := _, guard := _ }) (v := ?_) rfl (by kernel_rfl) (by kernel_rfl) (by kernel_rfl) (fun _ _ _ h => h) (Or.inl ⟨by rfl, ?_⟩) (by assumption) ?_
                rotate_left
                · intro w hSw
                  (try dsimp only at hSw)
                  go_simp
                  (try (with_reducible rfl))
                try simp only [Act.put, List.setIfInBounds_toArray, List.set_cons_zero, List.set_cons_succ]
                refine wpAnyH_take (i := 5) (oi := { dst := some 43, op := _, type := _, pos := _, after := _, guard := _ }) (v := ?_) rfl (by kernel_rfl) (by kernel_rfl) (by kernel_rfl) (fun _ _ _ h => h) (Or.inl ⟨by rfl, ?_⟩) (by assumption) ?_
                rotate_left
                · intro w hSw
                  (try dsimp only at hSw)
                  go_simp
                  (try (with_reducible rfl))
                try simp only [Act.put, List.setIfInBounds_toArray, List.set_cons_zero, List.set_cons_succ]
                refine wpAnyH_take (i := 6) (oi := { dst := some 44, op := _, type := _, pos := _, after := _, guard := _ }) (v := ?_) rfl (by kernel_rfl) (by kernel_rfl) (by kernel_rfl) (fun _ _ _ h => h) (Or.inl ⟨by rfl, ?_⟩) (by assumption) ?_
                rotate_left
                · intro w hSw
                  (try dsimp only at hSw)
                  go_simp
                  (try (with_reducible rfl))
                try simp only [Act.put, List.setIfInBounds_toArray, List.set_cons_zero, List.set_cons_succ]
                refine wpAnyH_take (i := 7) (oi := { dst := some 9, op := _, type := _, pos := _, after := _, guard := _ }) (v := ?_) rfl (by kernel_rfl) (by kernel_rfl) (by kernel_rfl) (fun _ _ _ h => h) (Or.inl ⟨by rfl, ?_⟩) (by assumption) ?_
                rotate_left
                · intro w hSw
                  (try dsimp only at hSw)
                  go_simp
                  (try (with_reducible rfl))
                try simp only [Act.put, List.setIfInBounds_toArray, List.set_cons_zero, List.set_cons_succ]
                refine wpAnyH_take (i := 8) (oi := { dst := some 10, op := _, type := _, pos := _, after := _, guard := _ }) (v := ?_) rfl (by kernel_rfl) (by kernel_rfl) (by kernel_rfl) (fun _ _ _ h => h) (Or.inl ⟨by rfl, ?_⟩) (by assumption) ?_
                rotate_left
                · intro w hSw
                  (try dsimp only at hSw)
                  go_simp
                  (try (with_reducible rfl))
                try simp only [Act.put, List.setIfInBounds_toArray, List.set_cons_zero, List.set_cons_succ]
                refine wpAnyH_done (by kernel_rfl) ?_ _
                clear x0 x1 x2 x3 BG6 hb6 B6
                obtain ⟨x0, x1, x2, x3, BG9, hbz, B9⟩ := hHeld
                obtain ⟨j0, j1, jf, jl⟩ := BG9.two
                obtain ⟨k0, k1, kf, kl⟩ := B9.two
                obtain ⟨m0, m1, mf, ml⟩ := ((Blk.self2 (v0 := .int .i64 0) (v1 := .int .i64 0) (BG9)).alloc (.cells #[] 38)).two
                go_wp2_with fail
                refine bodyPost_ret (v := .tuple #[.agg #[.int .i64 ra, .int .i64 rb], .slice a D.length k, .int .i64 0]) (by simp [results, Tryd.results7, go_sem, j0, j1]) rfl ?_
                exact ⟨a, k, rfl, ((ho.other (.inl hl6)).other (.inl hl6)).mono hz6 (by simp), (((hbz).setCell (p := ⟨w.heap.size + 1, 0, none⟩) (by show _ ≤ w.heap.size + 1; omega) _).setCell (p := ⟨w.heap.size + 1, 1, none⟩) (by show _ ≤ w.heap.size + 1; omega) _)⟩
        · rw [if_neg (fun z => hq z.2)]
          have qT : (MI.toList == [58, 32]) = false := by rw [beq_eq_false_iff_ne, ByteArray.toList_eq]; exact hq
          have qN : (MI.toList != [58, 32]) = true := by rw [bne_iff_ne, ne_eq, ByteArray.toList_eq]; exact hq
          clear g h80 h4 hlen hMI hMl hq
          go_enter Tryd.func7, Tryd.ntmps7
          go_wp2_with (first | (go_at_call 28; refine (HV.out _).mono ?_; clear HV; rintro e w1 ⟨rfl, hb1⟩; obtain ⟨x0, x1, x2, x3, xf, xl⟩ := (BV.below hb1).four; obtain ⟨j0, j1, jf, jl⟩ := (BG.below hb1).two; obtain ⟨m0, m1, mf, ml⟩ := ((Blk.self2 (v0 := .int .i64 0) (v1 := .int .i64 0) (BG.below hb1)).alloc (.cells #[] 38)).two))
          have hbn := chain hb hb1
          have hlo := (BG.below hb1).lt
          refine bodyPost_ret (v := .tuple #[.agg #[.int .i64 0, .int .i64 0], .slice (some ⟨w1.heap.size, 0, none⟩) 0 0, .int .i64 6]) (by simp [results, Tryd.results7, go_sem, m0, m1]) rfl ?_
          have hfr := OSt.fresh ((w1.setCell ⟨(w.heap.size + 1), 0, none⟩ (.int .i64 0)).setCell ⟨(w.heap.size + 1), 1, none⟩ (.int .i64 0))
          have hsz : ((w1.setCell ⟨(w.heap.size + 1), 0, none⟩ (.int .i64 0)).setCell ⟨(w.heap.size + 1), 1, none⟩ (.int .i64 0)).heap.size = w1.heap.size := by simp
          rw [hsz] at hfr
          exact ⟨some ⟨w1.heap.size, 0, none⟩, 0, rfl, hfr.mono hbn.size (by simp), ((((hbn).setCell (p := ⟨w.heap.size + 1, 0, none⟩) (by show _ ≤ w.heap.size + 1; omega) _).setCell (p := ⟨w.heap.size + 1, 1, none⟩) (by show _ ≤ w.heap.size + 1; omega) _)).alloc (by rw [hsz]; exact hbn.size) _⟩
  · rw [if_neg g]
    replace g : vB p c h s = false := by simpa using g
    rw [g] at hv
    have HV := Lib.hid hv
    clear hv g hlen
    go_enter Tryd.func7, Tryd.ntmps7
    go_wp2_with (first | (go_at_call 28; refine (HV.out _).mono ?_; clear HV; rintro e w1 ⟨rfl, hb1⟩; obtain ⟨x0, x1, x2, x3, xf, xl⟩ := (BV.below hb1).four; obtain ⟨j0, j1, jf, jl⟩ := (BG.below hb1).two; obtain ⟨m0, m1, mf, ml⟩ := ((Blk.self2 (v0 := .int .i64 0) (v1 := .int .i64 0) (BG.below hb1)).alloc (.cells #[] 38)).two))
    have hbn := chain hb hb1
    have hlo := (BG.below hb1).lt
    refine bodyPost_ret (v := .tuple #[.agg #[.int .i64 0, .int .i64 0], .slice (some ⟨w1.heap.size, 0, none⟩) 0 0, .int .i64 1]) (by simp [results, Tryd.results7, go_sem, m0, m1]) rfl ?_
    have hfr := OSt.fresh ((w1.setCell ⟨(w.heap.size + 1), 0, none⟩ (.int .i64 0)).setCell ⟨(w.heap.size + 1), 1, none⟩ (.int .i64 0))
    have hsz : ((w1.setCell ⟨(w.heap.size + 1), 0, none⟩ (.int .i64 0)).setCell ⟨(w.heap.size + 1), 1, none⟩ (.int .i64 0)).heap.size = w1.heap.size := by simp
    rw [hsz] at hfr
    exact ⟨some ⟨w1.heap.size, 0, none⟩, 0, rfl, hfr.mono hbn.size (by simp), ((((hbn).setCell (p := ⟨w.heap.size + 1, 0, none⟩) (by show _ ≤ w.heap.size + 1; omega) _).setCell (p := ⟨w.heap.size + 1, 1, none⟩) (by show _ ≤ w.heap.size + 1; omega) _)).alloc (by rw [hsz]; exact hbn.size) _⟩
end Go.Proofs.YthfhiggageejbaaDoor
