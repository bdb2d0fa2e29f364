/- Contracts of the program's rules of motions. -/
import Derived.Test.Ytokjkcnjmfbfiaa04a
namespace Go.Proofs.Ytokjkcnjmfbfiaa
open Go.ChangeShapes Go.WideShapes Go.ChangeAt Go.RowKit
set_option linter.unusedVariables false
set_option linter.unusedSimpArgs false
set_option maxRecDepth 4000

theorem ta_entering_entering (x : Value) (w : World) : (Instr.typeAssert (.iface 195 x) 189 195 true).run Try.prog w = .ok (.tuple #[x, .bool true]) w := by kernel_rfl
theorem ta_entering_moving (x : Value) (w : World) : (Instr.typeAssert (.iface 195 x) 189 197 true).run Try.prog w = .ok (.tuple #[.agg #[.int .i64 0, .int .i64 0], .bool false]) w := by kernel_rfl
theorem ta_entering_bearingOff (x : Value) (w : World) : (Instr.typeAssert (.iface 195 x) 189 198 true).run Try.prog w = .ok (.tuple #[.agg #[.int .i64 0, .int .i64 0], .bool false]) w := by kernel_rfl
theorem ta_moving_entering (x : Value) (w : World) : (Instr.typeAssert (.iface 197 x) 189 195 true).run Try.prog w = .ok (.tuple #[.agg #[.int .i64 0, .int .i64 0], .bool false]) w := by kernel_rfl
theorem ta_moving_moving (x : Value) (w : World) : (Instr.typeAssert (.iface 197 x) 189 197 true).run Try.prog w = .ok (.tuple #[x, .bool true]) w := by kernel_rfl
theorem ta_moving_bearingOff (x : Value) (w : World) : (Instr.typeAssert (.iface 197 x) 189 198 true).run Try.prog w = .ok (.tuple #[.agg #[.int .i64 0, .int .i64 0], .bool false]) w := by kernel_rfl
theorem ta_bearingOff_entering (x : Value) (w : World) : (Instr.typeAssert (.iface 198 x) 189 195 true).run Try.prog w = .ok (.tuple #[.agg #[.int .i64 0, .int .i64 0], .bool false]) w := by kernel_rfl
theorem ta_bearingOff_moving (x : Value) (w : World) : (Instr.typeAssert (.iface 198 x) 189 197 true).run Try.prog w = .ok (.tuple #[.agg #[.int .i64 0, .int .i64 0], .bool false]) w := by kernel_rfl
theorem ta_bearingOff_bearingOff (x : Value) (w : World) : (Instr.typeAssert (.iface 198 x) 189 198 true).run Try.prog w = .ok (.tuple #[x, .bool true]) w := by kernel_rfl
set_option maxRecDepth 8000 in
set_option maxHeartbeats 1000000 in
theorem allowsOff_any (P : Nat) (c h s : Int) (f1 f2 B : Nat) (xs ys : List Int) (w : World) (p0 : 2 ≤ P) (p1 : P ≤ 24) (n1 : xs.length = P + 1) (n2 : ys.length = P + 1) (hx : ∀ x ∈ xs, 0 ≤ x ∧ x ≤ 1000) (hy : ∀ y ∈ ys, 0 ≤ y ∧ y ≤ 1000) (q1 : Pays f1 B xs w) (q2 : Pays f2 B ys w) (k d : Int) (k0 : 0 ≤ k) (k1 : k ≤ (P : Int)) (d0 : 1 ≤ d) (d1 : d ≤ 1000) (kd : k < d) (kp : k ≠ (P : Int)) :
    Calls Try.prog 175 #[.agg #[.int .i64 (P : Int), .int .i64 c, .int .i64 h, .int .i64 s], tv (P : Int) f1 f2 B, .iface 198 (.agg #[.int .i64 k, .int .i64 d])] w fun e w' => e = .returned (.bool (decide (lastL xs xs.length < h) && (decide (k = d - 1) || decide (k = lastL xs xs.length)))) ∧ Below w.heap.size w w' := by
  obtain ⟨BV, BT, hb, hz⟩ := two_new w #[.int .i64 (P : Int), .int .i64 c, .int .i64 h, .int .i64 s] #[.int .i64 (P : Int), fv f1 B, fv f2 B] 32 151
  obtain ⟨z0, z1, z2, zf, zl⟩ := BT.tri
  have hf := fun W (hW : Below w.heap.size w W) => farthest_any (P : Int) f1 f2 B f1 B xs W (by omega) (by omega) (by omega) hx (q1.below hW)
  have lb := lastL_bound xs xs.length
  obtain ⟨L, hL⟩ : ∃ L, lastL xs xs.length = L := ⟨_, rfl⟩
  rw [hL] at hf lb ⊢
  have HF := Lib.hid hf
  have lb0 : -1 ≤ L := lb.1
  have lb1 : L ≤ (P : Int) := by omega
  clear hf lb hL
  have ta := ta_bearingOff_entering
  have tb := ta_bearingOff_moving
  have tc := ta_bearingOff_bearingOff
  by_cases g1 : L < h
  · rw [decide_eq_true g1, Bool.true_and]
    by_cases g2 : k = d - 1
    · rw [decide_eq_true g2, Bool.true_or]
      go_enter Try.func175, Try.ntmps175
      go_wp2_with (go_at_call 147; refine (HF.out _ hb).mono ?_; rintro e w5 ⟨rfl, hb5⟩; obtain ⟨x0, x1, x2, x3, xf, xl⟩ := (BV.below hb5).four; obtain ⟨z0, z1, z2, zf, zl⟩ := (BT.below hb5).tri)
      go_ret
      exact ⟨by first | rfl | (simp; done), (chain hb hb5).alloc (chain hb hb5).size _⟩
    · rw [decide_eq_false g2, Bool.false_or]
      go_enter Try.func175, Try.ntmps175
      go_wp2_with (go_at_call 147; refine (HF.out _ hb).mono ?_; rintro e w5 ⟨rfl, hb5⟩; obtain ⟨x0, x1, x2, x3, xf, xl⟩ := (BV.below hb5).four; obtain ⟨z0, z1, z2, zf, zl⟩ := (BT.below hb5).tri)
      go_ret
      exact ⟨by first | rfl | (simp; done), (chain hb hb5).alloc (chain hb hb5).size _⟩
  · rw [decide_eq_false g1, Bool.false_and]
    go_enter Try.func175, Try.ntmps175
    go_wp2_with (go_at_call 147; refine (HF.out _ hb).mono ?_; rintro e w5 ⟨rfl, hb5⟩; obtain ⟨x0, x1, x2, x3, xf, xl⟩ := (BV.below hb5).four; obtain ⟨z0, z1, z2, zf, zl⟩ := (BT.below hb5).tri)
    go_ret
    exact ⟨by first | rfl | (simp; done), (chain hb hb5).alloc (chain hb hb5).size _⟩
set_option maxRecDepth 8000 in
set_option maxHeartbeats 1000000 in
theorem allowsEnter_any (P : Nat) (c h s : Int) (f1 f2 B : Nat) (xs ys : List Int) (w : World) (p0 : 2 ≤ P) (p1 : P ≤ 24) (n1 : xs.length = P + 1) (n2 : ys.length = P + 1) (hx : ∀ x ∈ xs, 0 ≤ x ∧ x ≤ 1000) (hy : ∀ y ∈ ys, 0 ≤ y ∧ y ≤ 1000) (q1 : Pays f1 B xs w) (q2 : Pays f2 B ys w) (k d : Int) (k0 : 0 ≤ k) (k1 : k ≤ (P : Int)) (d0 : 1 ≤ d) (d1 : d ≤ 1000)  :
    Calls Try.prog 175 #[.agg #[.int .i64 (P : Int), .int .i64 c, .int .i64 h, .int .i64 s], tv (P : Int) f1 f2 B, .iface 195 (.agg #[.int .i64 k, .int .i64 d])] w fun e w' => e = .returned (.bool (openB P ys (k - d))) ∧ Below w.heap.size w w' := by
  obtain ⟨BV, BT, hb, hz⟩ := two_new w #[.int .i64 (P : Int), .int .i64 c, .int .i64 h, .int .i64 s] #[.int .i64 (P : Int), fv f1 B, fv f2 B] 32 151
  obtain ⟨z0, z1, z2, zf, zl⟩ := BT.tri
  have hf := fun W (hW : Below w.heap.size w W) => farthest_any (P : Int) f1 f2 B f1 B xs W (by omega) (by omega) (by omega) hx (q1.below hW)
  have lb := lastL_bound xs xs.length
  obtain ⟨L, hL⟩ : ∃ L, lastL xs xs.length = L := ⟨_, rfl⟩
  rw [hL] at hf lb 
  have HF := Lib.hid hf
  have lb0 : -1 ≤ L := lb.1
  have lb1 : L ≤ (P : Int) := by omega
  clear hf lb hL
  have ta := ta_entering_entering
  have tb := ta_entering_moving
  have tc := ta_entering_bearingOff
  have HO0 := fun W (hW : Below w.heap.size w W) => isOpen_any P f1 f2 B ys (k - d) W p1 n2 hy (q2.below hW)
  obtain ⟨O, hO⟩ : ∃ O, openB P ys (k - d) = O := ⟨_, rfl⟩
  rw [hO] at HO0 ⊢
  have HO := Lib.hid HO0
  clear hO HO0
  go_enter Try.func175, Try.ntmps175
  go_wp2_with (go_at_call 147; refine (HF.out _ hb).mono ?_; rintro e w5 ⟨rfl, hb5⟩; obtain ⟨x0, x1, x2, x3, xf, xl⟩ := (BV.below hb5).four; obtain ⟨z0, z1, z2, zf, zl⟩ := (BT.below hb5).tri)
  have BM := Blk.new w5 #[.int .i64 k, .int .i64 d] 195
  have ha : Below w5.heap.size w5 (w5.alloc (.cells #[.int .i64 k, .int .i64 d] 195)) := (Below.refl _ _).alloc (Nat.le_refl _) _
  replace BV := (BV.below hb5).below ha
  replace BT := (BT.below hb5).below ha
  replace hb := chain (chain hb hb5) ha
  clear ha x0 x1 x2 x3 xf xl z0 z1 z2 zf zl
  generalize w5.alloc (.cells #[.int .i64 k, .int .i64 d] 195) = v2 at *
  obtain ⟨x0, x1, x2, x3, xf, xl⟩ := BV.four
  obtain ⟨z0, z1, z2, zf, zl⟩ := BT.tri
  obtain ⟨m0, m1, mf, ml⟩ := BM.two
  replace BV := BV.drew
  replace BT := BT.drew
  replace BM := BM.drew
  replace hb := hb.drew
  refine wp_region_held_drew (S := fun w' => w'.cell? ⟨w.heap.size, 0, none⟩ = some (.int .i64 (P : Int)) ∧ w'.cell? ⟨w.heap.size, 1, none⟩ = some (.int .i64 c) ∧ w'.cell? ⟨w.heap.size, 2, none⟩ = some (.int .i64 h) ∧ w'.cell? ⟨w.heap.size, 3, none⟩ = some (.int .i64 s) ∧ w'.cell? ⟨(w.heap.size + 1), 0, none⟩ = some (.int .i64 (P : Int)) ∧ w'.cell? ⟨(w.heap.size + 1), 1, none⟩ = some (fv f1 B) ∧ w'.cell? ⟨(w.heap.size + 1), 2, none⟩ = some (fv f2 B) ∧ w'.cell? ⟨w5.heap.size, 0, none⟩ = some (.int .i64 k) ∧ w'.cell? ⟨w5.heap.size, 1, none⟩ = some (.int .i64 d) ∧ Blk w' w.heap.size #[.int .i64 (P : Int), .int .i64 c, .int .i64 h, .int .i64 s] 32 ∧ Blk w' ((w.heap.size + 1)) #[.int .i64 (P : Int), fv f1 B, fv f2 B] 151 ∧ Blk w' w5.heap.size #[.int .i64 k, .int .i64 d] 195 ∧ Below w.heap.size w w') (by kernel_rfl) ⟨BV.four.1, BV.four.2.1, BV.four.2.2.1, BV.four.2.2.2.1, BT.tri.1, BT.tri.2.1, BT.tri.2.2.1, BM.two.1, BM.two.2.1, BV, BT, BM, hb⟩ (fun hHeld => ?_)
  refine wpAnyH_take (i := 0) (oi := { dst := some 20, op := _, type := _, pos := _, after := _, guard := _ }) (v := ?_) rfl (by kernel_rfl) (by kernel_rfl) (by kernel_rfl) (fun _ _ _ h => h) (Or.inl ⟨by rfl, ?_⟩) (by assumption) ?_
  rotate_left
  · intro w hSw
    (try dsimp only at hSw)
    go_simp
    (try (with_reducible rfl))
  try simp only [Act.put, List.setIfInBounds_toArray, List.set_cons_zero, List.set_cons_succ]
  refine wpAnyH_take (i := 1) (oi := { dst := some 21, op := _, type := _, pos := _, after := _, guard := _ }) (v := ?_) rfl (by kernel_rfl) (by kernel_rfl) (by kernel_rfl) (fun _ _ _ h => h) (Or.inl ⟨by rfl, ?_⟩) (by assumption) ?_
  rotate_left
  · intro w hSw
    (try dsimp only at hSw)
    go_simp
    (try (with_reducible rfl))
  try simp only [Act.put, List.setIfInBounds_toArray, List.set_cons_zero, List.set_cons_succ]
  refine wpAnyH_ready (rs := [2]) (by kernel_rfl) (by simp) ?_
  refine AllReadyH.cons (o := { dst := some 22, op := _, type := _, pos := _, after := _, guard := _ }) rfl (fun K hK => ?_) AllReadyH.nil
  go_simp
  -- call
  have BV := hHeld.2.2.2.2.2.2.2.2.2.1
  have BT := hHeld.2.2.2.2.2.2.2.2.2.2.1
  have BM := hHeld.2.2.2.2.2.2.2.2.2.2.2.1
  have hb := hHeld.2.2.2.2.2.2.2.2.2.2.2.2
  clear hHeld
  refine (enterTo_any k d _ k0 (by omega) (by omega) d1).mono ?_
  rintro e wq1 ⟨rfl, hq1⟩
  replace BV := BV.below hq1
  replace BT := BT.below hq1
  replace BM := BM.below hq1
  replace hb := chain hb hq1
  (try go_wp2_with fail)
  refine hK.out _ _ ⟨BV.four.1, BV.four.2.1, BV.four.2.2.1, BV.four.2.2.2.1, BT.tri.1, BT.tri.2.1, BT.tri.2.2.1, BM.two.1, BM.two.2.1, BV, BT, BM, hb⟩ (fun hHeld => ?_)
  clear hK K
  try simp only [Act.put, List.setIfInBounds_toArray, List.set_cons_zero, List.set_cons_succ]
  refine wpAnyH_ready (rs := [3]) (by kernel_rfl) (by simp) ?_
  refine AllReadyH.cons (o := { dst := some 23, op := _, type := _, pos := _, after := _, guard := _ }) rfl (fun K hK => ?_) AllReadyH.nil
  go_simp
  -- call
  have BV := hHeld.2.2.2.2.2.2.2.2.2.1
  have BT := hHeld.2.2.2.2.2.2.2.2.2.2.1
  have BM := hHeld.2.2.2.2.2.2.2.2.2.2.2.1
  have hb := hHeld.2.2.2.2.2.2.2.2.2.2.2.2
  clear hHeld
  refine (HO.out _ hb).mono ?_
  rintro e wq2 ⟨rfl, hq2⟩
  replace BV := BV.below hq2
  replace BT := BT.below hq2
  replace BM := BM.below hq2
  replace hb := chain hb hq2
  (try go_wp2_with fail)
  refine hK.out _ _ ⟨BV.four.1, BV.four.2.1, BV.four.2.2.1, BV.four.2.2.2.1, BT.tri.1, BT.tri.2.1, BT.tri.2.2.1, BM.two.1, BM.two.2.1, BV, BT, BM, hb⟩ (fun hHeld => ?_)
  clear hK K
  try simp only [Act.put, List.setIfInBounds_toArray, List.set_cons_zero, List.set_cons_succ]
  refine wpAnyH_take (i := 4) (oi := { dst := some 6, op := _, type := _, pos := _, after := _, guard := _ }) (v := ?_) rfl (by kernel_rfl) (by kernel_rfl) (by kernel_rfl) (fun _ _ _ h => h) (Or.inl ⟨by rfl, ?_⟩) (by assumption) ?_
  rotate_left
  · intro w hSw
    (try dsimp only at hSw)
    go_simp
    (try (with_reducible rfl))
  try simp only [Act.put, List.setIfInBounds_toArray, List.set_cons_zero, List.set_cons_succ]
  refine wpAnyH_done (by kernel_rfl) ?_ _
  have BV := hHeld.2.2.2.2.2.2.2.2.2.1
  have BT := hHeld.2.2.2.2.2.2.2.2.2.2.1
  have BM := hHeld.2.2.2.2.2.2.2.2.2.2.2.1
  have hb := hHeld.2.2.2.2.2.2.2.2.2.2.2.2
  clear hHeld
  go_wp2
  go_ret
  exact ⟨rfl, hb⟩
set_option maxRecDepth 8000 in
set_option maxHeartbeats 1000000 in
theorem allowsMove_any (P : Nat) (c h s : Int) (f1 f2 B : Nat) (xs ys : List Int) (w : World) (p0 : 2 ≤ P) (p1 : P ≤ 24) (n1 : xs.length = P + 1) (n2 : ys.length = P + 1) (hx : ∀ x ∈ xs, 0 ≤ x ∧ x ≤ 1000) (hy : ∀ y ∈ ys, 0 ≤ y ∧ y ≤ 1000) (q1 : Pays f1 B xs w) (q2 : Pays f2 B ys w) (k d : Int) (k0 : 0 ≤ k) (k1 : k ≤ (P : Int)) (d0 : 1 ≤ d) (d1 : d ≤ 1000) (kd : d ≤ k) (kp : k ≠ (P : Int)) :
    Calls Try.prog 175 #[.agg #[.int .i64 (P : Int), .int .i64 c, .int .i64 h, .int .i64 s], tv (P : Int) f1 f2 B, .iface 197 (.agg #[.int .i64 k, .int .i64 d])] w fun e w' => e = .returned (.bool (decide (lastL xs xs.length < (P : Int)) && openB P ys (k - d))) ∧ Below w.heap.size w w' := by
  obtain ⟨BV, BT, hb, hz⟩ := two_new w #[.int .i64 (P : Int), .int .i64 c, .int .i64 h, .int .i64 s] #[.int .i64 (P : Int), fv f1 B, fv f2 B] 32 151
  obtain ⟨z0, z1, z2, zf, zl⟩ := BT.tri
  have hf := fun W (hW : Below w.heap.size w W) => farthest_any (P : Int) f1 f2 B f1 B xs W (by omega) (by omega) (by omega) hx (q1.below hW)
  have lb := lastL_bound xs xs.length
  obtain ⟨L, hL⟩ : ∃ L, lastL xs xs.length = L := ⟨_, rfl⟩
  rw [hL] at hf lb ⊢
  have HF := Lib.hid hf
  have lb0 : -1 ≤ L := lb.1
  have lb1 : L ≤ (P : Int) := by omega
  clear hf lb hL
  have ta := ta_moving_entering
  have tb := ta_moving_moving
  have tc := ta_moving_bearingOff
  have HO0 := fun W (hW : Below w.heap.size w W) => isOpen_any P f1 f2 B ys (k - d) W p1 n2 hy (q2.below hW)
  obtain ⟨O, hO⟩ : ∃ O, openB P ys (k - d) = O := ⟨_, rfl⟩
  rw [hO] at HO0 ⊢
  have HO := Lib.hid HO0
  clear hO HO0
  by_cases g1 : L < (P : Int)
  · rw [decide_eq_true g1, Bool.true_and]
    have hd : decide (L < (P : Int)) = true := decide_eq_true g1
    go_enter Try.func175, Try.ntmps175
    go_wp2_with (go_at_call 147; refine (HF.out _ hb).mono ?_; rintro e w5 ⟨rfl, hb5⟩; obtain ⟨x0, x1, x2, x3, xf, xl⟩ := (BV.below hb5).four; obtain ⟨z0, z1, z2, zf, zl⟩ := (BT.below hb5).tri)
    have BM := Blk.new w5 #[.int .i64 k, .int .i64 d] 197
    have ha : Below w5.heap.size w5 (w5.alloc (.cells #[.int .i64 k, .int .i64 d] 197)) := (Below.refl _ _).alloc (Nat.le_refl _) _
    replace BV := (BV.below hb5).below ha
    replace BT := (BT.below hb5).below ha
    replace hb := chain (chain hb hb5) ha
    clear ha x0 x1 x2 x3 xf xl z0 z1 z2 zf zl
    generalize w5.alloc (.cells #[.int .i64 k, .int .i64 d] 197) = v2 at *
    obtain ⟨x0, x1, x2, x3, xf, xl⟩ := BV.four
    obtain ⟨z0, z1, z2, zf, zl⟩ := BT.tri
    obtain ⟨m0, m1, mf, ml⟩ := BM.two
    replace BV := BV.drew
    replace BT := BT.drew
    replace BM := BM.drew
    replace hb := hb.drew
    refine wp_region_held_drew (S := fun w' => w'.cell? ⟨w.heap.size, 0, none⟩ = some (.int .i64 (P : Int)) ∧ w'.cell? ⟨w.heap.size, 1, none⟩ = some (.int .i64 c) ∧ w'.cell? ⟨w.heap.size, 2, none⟩ = some (.int .i64 h) ∧ w'.cell? ⟨w.heap.size, 3, none⟩ = some (.int .i64 s) ∧ w'.cell? ⟨(w.heap.size + 1), 0, none⟩ = some (.int .i64 (P : Int)) ∧ w'.cell? ⟨(w.heap.size + 1), 1, none⟩ = some (fv f1 B) ∧ w'.cell? ⟨(w.heap.size + 1), 2, none⟩ = some (fv f2 B) ∧ w'.cell? ⟨w5.heap.size, 0, none⟩ = some (.int .i64 k) ∧ w'.cell? ⟨w5.heap.size, 1, none⟩ = some (.int .i64 d) ∧ Blk w' w.heap.size #[.int .i64 (P : Int), .int .i64 c, .int .i64 h, .int .i64 s] 32 ∧ Blk w' ((w.heap.size + 1)) #[.int .i64 (P : Int), fv f1 B, fv f2 B] 151 ∧ Blk w' w5.heap.size #[.int .i64 k, .int .i64 d] 197 ∧ Below w.heap.size w w') (by kernel_rfl) ⟨BV.four.1, BV.four.2.1, BV.four.2.2.1, BV.four.2.2.2.1, BT.tri.1, BT.tri.2.1, BT.tri.2.2.1, BM.two.1, BM.two.2.1, BV, BT, BM, hb⟩ (fun hHeld => ?_)
    refine wpAnyH_take (i := 0) (oi := { dst := some 27, op := _, type := _, pos := _, after := _, guard := _ }) (v := ?_) rfl (by kernel_rfl) (by kernel_rfl) (by kernel_rfl) (fun _ _ _ h => h) (Or.inl ⟨by rfl, ?_⟩) (by assumption) ?_
    rotate_left
    · intro w hSw
      (try dsimp only at hSw)
      go_simp
      (try (with_reducible rfl))
    try simp only [Act.put, List.setIfInBounds_toArray, List.set_cons_zero, List.set_cons_succ]
    refine wpAnyH_take (i := 1) (oi := { dst := some 28, op := _, type := _, pos := _, after := _, guard := _ }) (v := ?_) rfl (by kernel_rfl) (by kernel_rfl) (by kernel_rfl) (fun _ _ _ h => h) (Or.inl ⟨by rfl, ?_⟩) (by assumption) ?_
    rotate_left
    · intro w hSw
      (try dsimp only at hSw)
      go_simp
      (try (with_reducible rfl))
    try simp only [Act.put, List.setIfInBounds_toArray, List.set_cons_zero, List.set_cons_succ]
    refine wpAnyH_take (i := 2) (oi := { dst := some 29, op := _, type := _, pos := _, after := _, guard := _ }) (v := ?_) rfl (by kernel_rfl) (by kernel_rfl) (by kernel_rfl) (fun _ _ _ h => h) (Or.inl ⟨by rfl, ?_⟩) (by assumption) ?_
    rotate_left
    · intro w hSw
      (try dsimp only at hSw)
      go_simp
      (try (with_reducible rfl))
    try simp only [Act.put, List.setIfInBounds_toArray, List.set_cons_zero, List.set_cons_succ]
    refine wpAnyH_take (i := 3) (oi := { dst := some 30, op := _, type := _, pos := _, after := _, guard := _ }) (v := ?_) rfl (by kernel_rfl) (by kernel_rfl) (by kernel_rfl) (fun _ _ _ h => h) (Or.inl ⟨by rfl, ?_⟩) (by assumption) ?_
    rotate_left
    · intro w hSw
      (try dsimp only at hSw)
      go_simp
      (try (with_reducible rfl))
    try simp only [Act.put, List.setIfInBounds_toArray, List.set_cons_zero, List.set_cons_succ]
    refine wpAnyH_take (i := 4) (oi := { dst := some 31, op := _, type := _, pos := _, after := _, guard := _ }) (v := ?_) rfl (by kernel_rfl) (by kernel_rfl) (by kernel_rfl) (fun _ _ _ h => h) (Or.inl ⟨by rfl, ?_⟩) (by assumption) ?_
    rotate_left
    · intro w hSw
      (try dsimp only at hSw)
      go_simp
      (try (with_reducible rfl))
    try simp only [Act.put, List.setIfInBounds_toArray, List.set_cons_zero, List.set_cons_succ]
    refine wpAnyH_take (i := 5) (oi := { dst := some 32, op := _, type := _, pos := _, after := _, guard := _ }) (v := ?_) rfl (by kernel_rfl) (by kernel_rfl) (by kernel_rfl) (fun _ _ _ h => h) (Or.inl ⟨by rfl, ?_⟩) (by assumption) ?_
    rotate_left
    · intro w hSw
      (try dsimp only at hSw)
      go_simp
      (try (with_reducible rfl))
    try simp only [Act.put, List.setIfInBounds_toArray, List.set_cons_zero, List.set_cons_succ]
    refine wpAnyH_take (i := 6) (oi := { dst := some 33, op := _, type := _, pos := _, after := _, guard := _ }) (v := ?_) rfl (by kernel_rfl) (by kernel_rfl) (by kernel_rfl) (fun _ _ _ h => h) (Or.inl ⟨by rfl, ?_⟩) (by assumption) ?_
    rotate_left
    · intro w hSw
      (try dsimp only at hSw)
      go_simp
      (try (with_reducible rfl))
    try simp only [Act.put, List.setIfInBounds_toArray, List.set_cons_zero, List.set_cons_succ]
    refine wpAnyH_ready (rs := [7]) (by kernel_rfl) (by simp) ?_
    refine AllReadyH.cons (o := { dst := some 34, op := _, type := _, pos := _, after := _, guard := _ }) rfl (fun K hK => ?_) AllReadyH.nil
    go_simp
    -- call
    have BV := hHeld.2.2.2.2.2.2.2.2.2.1
    have BT := hHeld.2.2.2.2.2.2.2.2.2.2.1
    have BM := hHeld.2.2.2.2.2.2.2.2.2.2.2.1
    have hb := hHeld.2.2.2.2.2.2.2.2.2.2.2.2
    clear hHeld
    refine (moveTo_any k d _ k0 (by omega) (by omega) d1).mono ?_
    rintro e wq1 ⟨rfl, hq1⟩
    replace BV := BV.below hq1
    replace BT := BT.below hq1
    replace BM := BM.below hq1
    replace hb := chain hb hq1
    (try go_wp2_with fail)
    refine hK.out _ _ ⟨BV.four.1, BV.four.2.1, BV.four.2.2.1, BV.four.2.2.2.1, BT.tri.1, BT.tri.2.1, BT.tri.2.2.1, BM.two.1, BM.two.2.1, BV, BT, BM, hb⟩ (fun hHeld => ?_)
    clear hK K
    try simp only [Act.put, List.setIfInBounds_toArray, List.set_cons_zero, List.set_cons_succ]
    refine wpAnyH_ready (rs := [8]) (by kernel_rfl) (by simp) ?_
    refine AllReadyH.cons (o := { dst := some 35, op := _, type := _, pos := _, after := _, guard := _ }) rfl (fun K hK => ?_) AllReadyH.nil
    go_simp
    -- call
    have BV := hHeld.2.2.2.2.2.2.2.2.2.1
    have BT := hHeld.2.2.2.2.2.2.2.2.2.2.1
    have BM := hHeld.2.2.2.2.2.2.2.2.2.2.2.1
    have hb := hHeld.2.2.2.2.2.2.2.2.2.2.2.2
    clear hHeld
    refine (HO.out _ hb).mono ?_
    rintro e wq2 ⟨rfl, hq2⟩
    replace BV := BV.below hq2
    replace BT := BT.below hq2
    replace BM := BM.below hq2
    replace hb := chain hb hq2
    (try go_wp2_with fail)
    refine hK.out _ _ ⟨BV.four.1, BV.four.2.1, BV.four.2.2.1, BV.four.2.2.2.1, BT.tri.1, BT.tri.2.1, BT.tri.2.2.1, BM.two.1, BM.two.2.1, BV, BT, BM, hb⟩ (fun hHeld => ?_)
    clear hK K
    try simp only [Act.put, List.setIfInBounds_toArray, List.set_cons_zero, List.set_cons_succ]
    refine wpAnyH_take (i := 9) (oi := { dst := some 36, op := _, type := _, pos := _, after := _, guard := _ }) (v := ?_) rfl (by kernel_rfl) (by kernel_rfl) (by kernel_rfl) (fun _ _ _ h => h) (Or.inl ⟨by rfl, ?_⟩) (by assumption) ?_
    rotate_left
    · intro w hSw
      (try dsimp only at hSw)
      go_simp
      (try (with_reducible rfl))
    try simp only [Act.put, List.setIfInBounds_toArray, List.set_cons_zero, List.set_cons_succ]
    refine wpAnyH_take (i := 10) (oi := { dst := some 6, op := _, type := _, pos := _, after := _, guard := _ }) (v := ?_) rfl (by kernel_rfl) (by kernel_rfl) (by kernel_rfl) (fun _ _ _ h => h) (Or.inl ⟨by rfl, ?_⟩) (by assumption) ?_
    rotate_left
    · intro w hSw
      (try dsimp only at hSw)
      go_simp
      (try (with_reducible rfl))
    try simp only [Act.put, List.setIfInBounds_toArray, List.set_cons_zero, List.set_cons_succ]
    refine wpAnyH_done (by kernel_rfl) ?_ _
    have BV := hHeld.2.2.2.2.2.2.2.2.2.1
    have BT := hHeld.2.2.2.2.2.2.2.2.2.2.1
    have BM := hHeld.2.2.2.2.2.2.2.2.2.2.2.1
    have hb := hHeld.2.2.2.2.2.2.2.2.2.2.2.2
    clear hHeld
    go_wp2
    go_ret
    exact ⟨rfl, hb⟩
  · rw [decide_eq_false g1, Bool.false_and]
    have hd : decide (L < (P : Int)) = false := decide_eq_false g1
    go_enter Try.func175, Try.ntmps175
    go_wp2_with (go_at_call 147; refine (HF.out _ hb).mono ?_; rintro e w5 ⟨rfl, hb5⟩; obtain ⟨x0, x1, x2, x3, xf, xl⟩ := (BV.below hb5).four; obtain ⟨z0, z1, z2, zf, zl⟩ := (BT.below hb5).tri)
    have BM := Blk.new w5 #[.int .i64 k, .int .i64 d] 197
    have ha : Below w5.heap.size w5 (w5.alloc (.cells #[.int .i64 k, .int .i64 d] 197)) := (Below.refl _ _).alloc (Nat.le_refl _) _
    replace BV := (BV.below hb5).below ha
    replace BT := (BT.below hb5).below ha
    replace hb := chain (chain hb hb5) ha
    clear ha x0 x1 x2 x3 xf xl z0 z1 z2 zf zl
    generalize w5.alloc (.cells #[.int .i64 k, .int .i64 d] 197) = v2 at *
    obtain ⟨x0, x1, x2, x3, xf, xl⟩ := BV.four
    obtain ⟨z0, z1, z2, zf, zl⟩ := BT.tri
    obtain ⟨m0, m1, mf, ml⟩ := BM.two
    replace BV := BV.drew
    replace BT := BT.drew
    replace BM := BM.drew
    replace hb := hb.drew
    refine wp_region_held_drew (S := fun w' => w'.cell? ⟨w.heap.size, 0, none⟩ = some (.int .i64 (P : Int)) ∧ w'.cell? ⟨w.heap.size, 1, none⟩ = some (.int .i64 c) ∧ w'.cell? ⟨w.heap.size, 2, none⟩ = some (.int .i64 h) ∧ w'.cell? ⟨w.heap.size, 3, none⟩ = some (.int .i64 s) ∧ w'.cell? ⟨(w.heap.size + 1), 0, none⟩ = some (.int .i64 (P : Int)) ∧ w'.cell? ⟨(w.heap.size + 1), 1, none⟩ = some (fv f1 B) ∧ w'.cell? ⟨(w.heap.size + 1), 2, none⟩ = some (fv f2 B) ∧ w'.cell? ⟨w5.heap.size, 0, none⟩ = some (.int .i64 k) ∧ w'.cell? ⟨w5.heap.size, 1, none⟩ = some (.int .i64 d) ∧ Blk w' w.heap.size #[.int .i64 (P : Int), .int .i64 c, .int .i64 h, .int .i64 s] 32 ∧ Blk w' ((w.heap.size + 1)) #[.int .i64 (P : Int), fv f1 B, fv f2 B] 151 ∧ Blk w' w5.heap.size #[.int .i64 k, .int .i64 d] 197 ∧ Below w.heap.size w w') (by kernel_rfl) ⟨BV.four.1, BV.four.2.1, BV.four.2.2.1, BV.four.2.2.2.1, BT.tri.1, BT.tri.2.1, BT.tri.2.2.1, BM.two.1, BM.two.2.1, BV, BT, BM, hb⟩ (fun hHeld => ?_)
    refine wpAnyH_take (i := 0) (oi := { dst := some 27, op := _, type := _, pos := _, after := _, guard := _ }) (v := ?_) rfl (by kernel_rfl) (by kernel_rfl) (by kernel_rfl) (fun _ _ _ h => h) (Or.inl ⟨by rfl, ?_⟩) (by assumption) ?_
    rotate_left
    · intro w hSw
      (try dsimp only at hSw)
      go_simp
      (try (with_reducible rfl))
    try simp only [Act.put, List.setIfInBounds_toArray, List.set_cons_zero, List.set_cons_succ]
    refine wpAnyH_take (i := 1) (oi := { dst := some 28, op := _, type := _, pos := _, after := _, guard := _ }) (v := ?_) rfl (by kernel_rfl) (by kernel_rfl) (by kernel_rfl) (fun _ _ _ h => h) (Or.inl ⟨by rfl, ?_⟩) (by assumption) ?_
    rotate_left
    · intro w hSw
      (try dsimp only at hSw)
      go_simp
      (try (with_reducible rfl))
    try simp only [Act.put, List.setIfInBounds_toArray, List.set_cons_zero, List.set_cons_succ]
    refine wpAnyH_take (i := 2) (oi := { dst := some 29, op := _, type := _, pos := _, after := _, guard := _ }) (v := ?_) rfl (by kernel_rfl) (by kernel_rfl) (by kernel_rfl) (fun _ _ _ h => h) (Or.inl ⟨by rfl, ?_⟩) (by assumption) ?_
    rotate_left
    · intro w hSw
      (try dsimp only at hSw)
      go_simp
      (try (with_reducible rfl))
    try simp only [Act.put, List.setIfInBounds_toArray, List.set_cons_zero, List.set_cons_succ]
    refine wpAnyH_take (i := 3) (oi := { dst := some 30, op := _, type := _, pos := _, after := _, guard := _ }) (v := ?_) rfl (by kernel_rfl) (by kernel_rfl) (by kernel_rfl) (fun _ _ _ h => h) (Or.inl ⟨by rfl, ?_⟩) (by assumption) ?_
    rotate_left
    · intro w hSw
      (try dsimp only at hSw)
      go_simp
      (try (with_reducible rfl))
    try simp only [Act.put, List.setIfInBounds_toArray, List.set_cons_zero, List.set_cons_succ]
    refine wpAnyH_take (i := 4) (oi := { dst := some 31, op := _, type := _, pos := _, after := _, guard := _ }) (v := ?_) rfl (by kernel_rfl) (by kernel_rfl) (by kernel_rfl) (fun _ _ _ h => h) (Or.inl ⟨by rfl, ?_⟩) (by assumption) ?_
    rotate_left
    · intro w hSw
      (try dsimp only at hSw)
      go_simp
      (try (with_reducible rfl))
    try simp only [Act.put, List.setIfInBounds_toArray, List.set_cons_zero, List.set_cons_succ]
    refine wpAnyH_take (i := 5) (oi := { dst := some 32, op := _, type := _, pos := _, after := _, guard := _ }) (v := undef) rfl (by kernel_rfl) (by kernel_rfl) (by kernel_rfl) (fun _ _ _ h => h) (Or.inr ⟨by rfl, rfl⟩) (by assumption) ?_
    try simp only [Act.put, List.setIfInBounds_toArray, List.set_cons_zero, List.set_cons_succ]
    refine wpAnyH_take (i := 6) (oi := { dst := some 33, op := _, type := _, pos := _, after := _, guard := _ }) (v := undef) rfl (by kernel_rfl) (by kernel_rfl) (by kernel_rfl) (fun _ _ _ h => h) (Or.inr ⟨by rfl, rfl⟩) (by assumption) ?_
    try simp only [Act.put, List.setIfInBounds_toArray, List.set_cons_zero, List.set_cons_succ]
    refine wpAnyH_take (i := 7) (oi := { dst := some 34, op := _, type := _, pos := _, after := _, guard := _ }) (v := undef) rfl (by kernel_rfl) (by kernel_rfl) (by kernel_rfl) (fun _ _ _ h => h) (Or.inr ⟨by rfl, rfl⟩) (by assumption) ?_
    try simp only [Act.put, List.setIfInBounds_toArray, List.set_cons_zero, List.set_cons_succ]
    refine wpAnyH_take (i := 8) (oi := { dst := some 35, op := _, type := _, pos := _, after := _, guard := _ }) (v := undef) rfl (by kernel_rfl) (by kernel_rfl) (by kernel_rfl) (fun _ _ _ h => h) (Or.inr ⟨by rfl, rfl⟩) (by assumption) ?_
    try simp only [Act.put, List.setIfInBounds_toArray, List.set_cons_zero, List.set_cons_succ]
    refine wpAnyH_take (i := 9) (oi := { dst := some 36, op := _, type := _, pos := _, after := _, guard := _ }) (v := ?_) rfl (by kernel_rfl) (by kernel_rfl) (by kernel_rfl) (fun _ _ _ h => h) (Or.inl ⟨by rfl, ?_⟩) (by assumption) ?_
    rotate_left
    · intro w hSw
      (try dsimp only at hSw)
      go_simp
      (try (with_reducible rfl))
    try simp only [Act.put, List.setIfInBounds_toArray, List.set_cons_zero, List.set_cons_succ]
    refine wpAnyH_take (i := 10) (oi := { dst := some 6, op := _, type := _, pos := _, after := _, guard := _ }) (v := ?_) rfl (by kernel_rfl) (by kernel_rfl) (by kernel_rfl) (fun _ _ _ h => h) (Or.inl ⟨by rfl, ?_⟩) (by assumption) ?_
    rotate_left
    · intro w hSw
      (try dsimp only at hSw)
      go_simp
      (try (with_reducible rfl))
    try simp only [Act.put, List.setIfInBounds_toArray, List.set_cons_zero, List.set_cons_succ]
    refine wpAnyH_done (by kernel_rfl) ?_ _
    have BV := hHeld.2.2.2.2.2.2.2.2.2.1
    have BT := hHeld.2.2.2.2.2.2.2.2.2.2.1
    have BM := hHeld.2.2.2.2.2.2.2.2.2.2.2.1
    have hb := hHeld.2.2.2.2.2.2.2.2.2.2.2.2
    clear hHeld
    go_wp2
    go_ret
    exact ⟨rfl, hb⟩
end Go.Proofs.Ytokjkcnjmfbfiaa
