/- Texts of a proof, laid together. -/
import Derived.Test.YtodlofabffenoaaV05
namespace Go.Proofs.Ytodlofabffenoaa
open Go.ChangeShapes Go.WideShapes Go.ChangeAt Go.RowKit
set_option linter.unusedVariables false
set_option linter.unusedSimpArgs false
set_option maxRecDepth 4000
theorem ta_entering_entering (x : Value) (w : World) : (Instr.typeAssert (.iface 127 x) 121 127 true).run Try.prog w = .ok (.tuple #[x, .bool true]) w := by kernel_rfl
theorem ta_entering_moving (x : Value) (w : World) : (Instr.typeAssert (.iface 127 x) 121 129 true).run Try.prog w = .ok (.tuple #[.agg #[.int .i64 0, .int .i64 0], .bool false]) w := by kernel_rfl
theorem ta_entering_bearingOff (x : Value) (w : World) : (Instr.typeAssert (.iface 127 x) 121 130 true).run Try.prog w = .ok (.tuple #[.agg #[.int .i64 0, .int .i64 0], .bool false]) w := by kernel_rfl
theorem ta_moving_entering (x : Value) (w : World) : (Instr.typeAssert (.iface 129 x) 121 127 true).run Try.prog w = .ok (.tuple #[.agg #[.int .i64 0, .int .i64 0], .bool false]) w := by kernel_rfl
theorem ta_moving_moving (x : Value) (w : World) : (Instr.typeAssert (.iface 129 x) 121 129 true).run Try.prog w = .ok (.tuple #[x, .bool true]) w := by kernel_rfl
theorem ta_moving_bearingOff (x : Value) (w : World) : (Instr.typeAssert (.iface 129 x) 121 130 true).run Try.prog w = .ok (.tuple #[.agg #[.int .i64 0, .int .i64 0], .bool false]) w := by kernel_rfl
theorem ta_bearingOff_entering (x : Value) (w : World) : (Instr.typeAssert (.iface 130 x) 121 127 true).run Try.prog w = .ok (.tuple #[.agg #[.int .i64 0, .int .i64 0], .bool false]) w := by kernel_rfl
theorem ta_bearingOff_moving (x : Value) (w : World) : (Instr.typeAssert (.iface 130 x) 121 129 true).run Try.prog w = .ok (.tuple #[.agg #[.int .i64 0, .int .i64 0], .bool false]) w := by kernel_rfl
theorem ta_bearingOff_bearingOff (x : Value) (w : World) : (Instr.typeAssert (.iface 130 x) 121 130 true).run Try.prog w = .ok (.tuple #[x, .bool true]) w := by kernel_rfl
set_option maxRecDepth 8000 in
set_option maxHeartbeats 1000000 in
theorem allowsOff_any (P : Nat) (c h s : Int) (f1 f2 B : Nat) (xs ys : List Int) (w : World) (p0 : 2 ≤ P) (p1 : P ≤ 24) (n1 : xs.length = P + 1) (n2 : ys.length = P + 1) (hx : ∀ x ∈ xs, 0 ≤ x ∧ x ≤ 1000) (hy : ∀ y ∈ ys, 0 ≤ y ∧ y ≤ 1000) (q1 : Pays f1 B xs w) (q2 : Pays f2 B ys w) (k d : Int) (k0 : 0 ≤ k) (k1 : k ≤ (P : Int)) (d0 : 1 ≤ d) (d1 : d ≤ 1000) (kd : k < d) (kp : k ≠ (P : Int)) :
    Calls Try.prog 82 #[.agg #[.int .i64 (P : Int), .int .i64 c, .int .i64 h, .int .i64 s], tv (P : Int) f1 f2 B, .iface 130 (.agg #[.int .i64 k, .int .i64 d])] w fun e w' => e = .returned (.bool (decide (lastL xs xs.length < h) && (decide (k = d - 1) || decide (k = lastL xs xs.length)))) ∧ Below w.heap.size w w' := by
  obtain ⟨BV, BT, hb, hz⟩ := two_new w #[.int .i64 (P : Int), .int .i64 c, .int .i64 h, .int .i64 s] #[.int .i64 (P : Int), fv f1 B, fv f2 B] 35 86
  obtain ⟨z0, z1, z2, zf, zl⟩ := BT.tri
  have hf := fun W (hW : Below w.heap.size w W) => farthest_any (P : Int) f1 f2 B f1 B xs W (by omega) (by omega) (by omega) hx (q1.below hW)
  have lb := lastL_bound xs xs.length
  obtain ⟨L, hL⟩ : ∃ L, lastL xs xs.length = L := ⟨_, rfl⟩
  rw [hL] at hf lb ⊢
  have HF := Lib.hid hf
  have lb0 : -1 ≤ L := lb.1
  have lb1 : L ≤ (P : Int) := by omega
  clear hf lb hL
  have ta := ta_bearingOff_entering
  have tb := ta_bearingOff_moving
  have tc := ta_bearingOff_bearingOff
  by_cases g1 : L < h
  · rw [decide_eq_true g1, Bool.true_and]
    by_cases g2 : k = d - 1
    · rw [decide_eq_true g2, Bool.true_or]
      go_enter Try.func82, Try.ntmps82
      go_wp2_with (go_at_call 80; refine (HF.out _ hb).mono ?_; rintro e w5 ⟨rfl, hb5⟩; obtain ⟨x0, x1, x2, x3, xf, xl⟩ := (BV.below hb5).four; obtain ⟨z0, z1, z2, zf, zl⟩ := (BT.below hb5).tri)
      go_ret
      exact ⟨by first | rfl | (simp; done), (chain hb hb5).alloc (chain hb hb5).size _⟩
    · rw [decide_eq_false g2, Bool.false_or]
      go_enter Try.func82, Try.ntmps82
      go_wp2_with (go_at_call 80; refine (HF.out _ hb).mono ?_; rintro e w5 ⟨rfl, hb5⟩; obtain ⟨x0, x1, x2, x3, xf, xl⟩ := (BV.below hb5).four; obtain ⟨z0, z1, z2, zf, zl⟩ := (BT.below hb5).tri)
      go_ret
      exact ⟨by first | rfl | (simp; done), (chain hb hb5).alloc (chain hb hb5).size _⟩
  · rw [decide_eq_false g1, Bool.false_and]
    go_enter Try.func82, Try.ntmps82
    go_wp2_with (go_at_call 80; refine (HF.out _ hb).mono ?_; rintro e w5 ⟨rfl, hb5⟩; obtain ⟨x0, x1, x2, x3, xf, xl⟩ := (BV.below hb5).four; obtain ⟨z0, z1, z2, zf, zl⟩ := (BT.below hb5).tri)
    go_ret
    exact ⟨by first | rfl | (simp; done), (chain hb hb5).alloc (chain hb hb5).size _⟩
set_option maxRecDepth 8000 in
set_option maxHeartbeats 1000000 in
theorem allowsEnter_any (P : Nat) (c h s : Int) (f1 f2 B : Nat) (xs ys : List Int) (w : World) (p0 : 2 ≤ P) (p1 : P ≤ 24) (n1 : xs.length = P + 1) (n2 : ys.length = P + 1) (hx : ∀ x ∈ xs, 0 ≤ x ∧ x ≤ 1000) (hy : ∀ y ∈ ys, 0 ≤ y ∧ y ≤ 1000) (q1 : Pays f1 B xs w) (q2 : Pays f2 B ys w) (k d : Int) (k0 : 0 ≤ k) (k1 : k ≤ (P : Int)) (d0 : 1 ≤ d) (d1 : d ≤ 1000)  :
    Calls Try.prog 82 #[.agg #[.int .i64 (P : Int), .int .i64 c, .int .i64 h, .int .i64 s], tv (P : Int) f1 f2 B, .iface 127 (.agg #[.int .i64 k, .int .i64 d])] w fun e w' => e = .returned (.bool (openB P ys (k - d))) ∧ Below w.heap.size w w' := by
  obtain ⟨BV, BT, hb, hz⟩ := two_new w #[.int .i64 (P : Int), .int .i64 c, .int .i64 h, .int .i64 s] #[.int .i64 (P : Int), fv f1 B, fv f2 B] 35 86
  obtain ⟨z0, z1, z2, zf, zl⟩ := BT.tri
  have hf := fun W (hW : Below w.heap.size w W) => farthest_any (P : Int) f1 f2 B f1 B xs W (by omega) (by omega) (by omega) hx (q1.below hW)
  have lb := lastL_bound xs xs.length
  obtain ⟨L, hL⟩ : ∃ L, lastL xs xs.length = L := ⟨_, rfl⟩
  rw [hL] at hf lb 
  have HF := Lib.hid hf
  have lb0 : -1 ≤ L := lb.1
  have lb1 : L ≤ (P : Int) := by omega
  clear hf lb hL
  have ta := ta_entering_entering
  have tb := ta_entering_moving
  have tc := ta_entering_bearingOff
  have HO0 := fun W (hW : Below w.heap.size w W) => isOpen_any P f1 f2 B ys (k - d) W p1 n2 hy (q2.below hW)
  obtain ⟨O, hO⟩ : ∃ O, openB P ys (k - d) = O := ⟨_, rfl⟩
  rw [hO] at HO0 ⊢
  have HO := Lib.hid HO0
  clear hO HO0
  go_enter Try.func82, Try.ntmps82
  go_wp2_with (go_at_call 80; refine (HF.out _ hb).mono ?_; rintro e w5 ⟨rfl, hb5⟩; obtain ⟨x0, x1, x2, x3, xf, xl⟩ := (BV.below hb5).four; obtain ⟨z0, z1, z2, zf, zl⟩ := (BT.below hb5).tri)
  have BM := Blk.new w5 #[.int .i64 k, .int .i64 d] 127
  have ha : Below w5.heap.size w5 (w5.alloc (.cells #[.int .i64 k, .int .i64 d] 127)) := (Below.refl _ _).alloc (Nat.le_refl _) _
  replace BV := (BV.below hb5).below ha
  replace BT := (BT.below hb5).below ha
  replace hb := chain (chain hb hb5) ha
  clear ha x0 x1 x2 x3 xf xl z0 z1 z2 zf zl
  generalize w5.alloc (.cells #[.int .i64 k, .int .i64 d] 127) = v2 at *
  obtain ⟨x0, x1, x2, x3, xf, xl⟩ := BV.four
  obtain ⟨z0, z1, z2, zf, zl⟩ := BT.tri
  obtain ⟨m0, m1, mf, ml⟩ := BM.two
  replace BV := BV.drew
  replace BT := BT.drew
  replace BM := BM.drew
  replace hb := hb.drew
  refine wp_region_held_drew (S := fun w' => w'.cell? ⟨w.heap.size, 0, none⟩ = some (.int .i64 (P : Int)) ∧ w'.cell? ⟨w.heap.size, 1, none⟩ = some (.int .i64 c) ∧ w'.cell? ⟨w.heap.size, 2, none⟩ = some (.int .i64 h) ∧ w'.cell? ⟨w.heap.size, 3, none⟩ = some (.int .i64 s) ∧ w'.cell? ⟨(w.heap.size + 1), 0, none⟩ = some (.int .i64 (P : Int)) ∧ w'.cell? ⟨(w.heap.size + 1), 1, none⟩ = some (fv f1 B) ∧ w'.cell? ⟨(w.heap.size + 1), 2, none⟩ = some (fv f2 B) ∧ w'.cell? ⟨w5.heap.size, 0, none⟩ = some (.int .i64 k) ∧ w'.cell? ⟨w5.heap.size, 1, none⟩ = some (.int .i64 d) ∧ Blk w' w.heap.size #[.int .i64 (P : Int), .int .i64 c, .int .i64 h, .int .i64 s] 35 ∧ Blk w' ((w.heap.size + 1)) #[.int .i64 (P : Int), fv f1 B, fv f2 B] 86 ∧ Blk w' w5.heap.size #[.int .i64 k, .int .i64 d] 127 ∧ Below w.heap.size w w') (by kernel_rfl) ⟨BV.four.1, BV.four.2.1, BV.four.2.2.1, BV.four.2.2.2.1, BT.tri.1, BT.tri.2.1, BT.tri.2.2.1, BM.two.1, BM.two.2.1, BV, BT, BM, hb⟩ (fun hHeld => ?_)
  refine wpAnyH_take (i := 0) (oi := ⟨some 20, _, _, _, _, _⟩) (v := ?_) rfl (by kernel_rfl) (by kernel_rfl) (by kernel_rfl) (fun _ _ _ h => h) (Or.inl ⟨by rfl, ?_⟩) (by assumption) ?_
  rotate_left
  · intro w hSw; (try dsimp only at hSw); go_simp; (try (with_reducible rfl))
  try simp only [Act.put, List.setIfInBounds_toArray, List.set_cons_zero, List.set_cons_succ]
  refine wpAnyH_take (i := 1) (oi := ⟨some 21, _, _, _, _, _⟩) (v := ?_) rfl (by kernel_rfl) (by kernel_rfl) (by kernel_rfl) (fun _ _ _ h => h) (Or.inl ⟨by rfl, ?_⟩) (by assumption) ?_
  rotate_left
  · intro w hSw; (try dsimp only at hSw); go_simp; (try (with_reducible rfl))
  try simp only [Act.put, List.setIfInBounds_toArray, List.set_cons_zero, List.set_cons_succ]
  refine wpAnyH_ready (rs := [2]) (by kernel_rfl) (by simp) ?_
  refine AllReadyH.cons (o := ⟨some 22, _, _, _, _, _⟩) rfl (fun K hK => ?_) AllReadyH.nil
  go_simp
  -- call
  have BV := hHeld.2.2.2.2.2.2.2.2.2.1
  have BT := hHeld.2.2.2.2.2.2.2.2.2.2.1
  have BM := hHeld.2.2.2.2.2.2.2.2.2.2.2.1
  have hb := hHeld.2.2.2.2.2.2.2.2.2.2.2.2
  clear hHeld
  refine (enterTo_any k d _ k0 (by omega) (by omega) d1).mono ?_
  rintro e wq1 ⟨rfl, hq1⟩
  replace BV := BV.below hq1
  replace BT := BT.below hq1
  replace BM := BM.below hq1
  replace hb := chain hb hq1
  (try go_wp2_with fail)
  refine hK.out _ _ ⟨BV.four.1, BV.four.2.1, BV.four.2.2.1, BV.four.2.2.2.1, BT.tri.1, BT.tri.2.1, BT.tri.2.2.1, BM.two.1, BM.two.2.1, BV, BT, BM, hb⟩ (fun hHeld => ?_)
  clear hK K
  try simp only [Act.put, List.setIfInBounds_toArray, List.set_cons_zero, List.set_cons_succ]
  refine wpAnyH_ready (rs := [3]) (by kernel_rfl) (by simp) ?_
  refine AllReadyH.cons (o := ⟨some 23, _, _, _, _, _⟩) rfl (fun K hK => ?_) AllReadyH.nil
  go_simp
  -- call
  have BV := hHeld.2.2.2.2.2.2.2.2.2.1
  have BT := hHeld.2.2.2.2.2.2.2.2.2.2.1
  have BM := hHeld.2.2.2.2.2.2.2.2.2.2.2.1
  have hb := hHeld.2.2.2.2.2.2.2.2.2.2.2.2
  clear hHeld
  refine (HO.out _ hb).mono ?_
  rintro e wq2 ⟨rfl, hq2⟩
  replace BV := BV.below hq2
  replace BT := BT.below hq2
  replace BM := BM.below hq2
  replace hb := chain hb hq2
  (try go_wp2_with fail)
  refine hK.out _ _ ⟨BV.four.1, BV.four.2.1, BV.four.2.2.1, BV.four.2.2.2.1, BT.tri.1, BT.tri.2.1, BT.tri.2.2.1, BM.two.1, BM.two.2.1, BV, BT, BM, hb⟩ (fun hHeld => ?_)
  clear hK K
  try simp only [Act.put, List.setIfInBounds_toArray, List.set_cons_zero, List.set_cons_succ]
  refine wpAnyH_take (i := 4) (oi := ⟨some 6, _, _, _, _, _⟩) (v := ?_) rfl (by kernel_rfl) (by kernel_rfl) (by kernel_rfl) (fun _ _ _ h => h) (Or.inl ⟨by rfl, ?_⟩) (by assumption) ?_
  rotate_left
  · intro w hSw; (try dsimp only at hSw); go_simp; (try (with_reducible rfl))
  try simp only [Act.put, List.setIfInBounds_toArray, List.set_cons_zero, List.set_cons_succ]
  refine wpAnyH_done (by kernel_rfl) ?_ _
  have BV := hHeld.2.2.2.2.2.2.2.2.2.1
  have BT := hHeld.2.2.2.2.2.2.2.2.2.2.1
  have BM := hHeld.2.2.2.2.2.2.2.2.2.2.2.1
  have hb := hHeld.2.2.2.2.2.2.2.2.2.2.2.2
  clear hHeld
  go_wp2
  go_ret
  exact ⟨rfl, hb⟩
set_option maxRecDepth 8000 in
set_option maxHeartbeats 1000000 in
theorem allowsMove_any (P : Nat) (c h s : Int) (f1 f2 B : Nat) (xs ys : List Int) (w : World) (p0 : 2 ≤ P) (p1 : P ≤ 24) (n1 : xs.length = P + 1) (n2 : ys.length = P + 1) (hx : ∀ x ∈ xs, 0 ≤ x ∧ x ≤ 1000) (hy : ∀ y ∈ ys, 0 ≤ y ∧ y ≤ 1000) (q1 : Pays f1 B xs w) (q2 : Pays f2 B ys w) (k d : Int) (k0 : 0 ≤ k) (k1 : k ≤ (P : Int)) (d0 : 1 ≤ d) (d1 : d ≤ 1000) (kd : d ≤ k) (kp : k ≠ (P : Int)) :
    Calls Try.prog 82 #[.agg #[.int .i64 (P : Int), .int .i64 c, .int .i64 h, .int .i64 s], tv (P : Int) f1 f2 B, .iface 129 (.agg #[.int .i64 k, .int .i64 d])] w fun e w' => e = .returned (.bool (decide (lastL xs xs.length < (P : Int)) && openB P ys (k - d))) ∧ Below w.heap.size w w' := by
  obtain ⟨BV, BT, hb, hz⟩ := two_new w #[.int .i64 (P : Int), .int .i64 c, .int .i64 h, .int .i64 s] #[.int .i64 (P : Int), fv f1 B, fv f2 B] 35 86
  obtain ⟨z0, z1, z2, zf, zl⟩ := BT.tri
  have hf := fun W (hW : Below w.heap.size w W) => farthest_any (P : Int) f1 f2 B f1 B xs W (by omega) (by omega) (by omega) hx (q1.below hW)
  have lb := lastL_bound xs xs.length
  obtain ⟨L, hL⟩ : ∃ L, lastL xs xs.length = L := ⟨_, rfl⟩
  rw [hL] at hf lb ⊢
  have HF := Lib.hid hf
  have lb0 : -1 ≤ L := lb.1
  have lb1 : L ≤ (P : Int) := by omega
  clear hf lb hL
  have ta := ta_moving_entering
  have tb := ta_moving_moving
  have tc := ta_moving_bearingOff
  have HO0 := fun W (hW : Below w.heap.size w W) => isOpen_any P f1 f2 B ys (k - d) W p1 n2 hy (q2.below hW)
  obtain ⟨O, hO⟩ : ∃ O, openB P ys (k - d) = O := ⟨_, rfl⟩
  rw [hO] at HO0 ⊢
  have HO := Lib.hid HO0
  clear hO HO0
  by_cases g1 : L < (P : Int)
  · rw [decide_eq_true g1, Bool.true_and]
    have hd : decide (L < (P : Int)) = true := decide_eq_true g1
    go_enter Try.func82, Try.ntmps82
    go_wp2_with (go_at_call 80; refine (HF.out _ hb).mono ?_; rintro e w5 ⟨rfl, hb5⟩; obtain ⟨x0, x1, x2, x3, xf, xl⟩ := (BV.below hb5).four; obtain ⟨z0, z1, z2, zf, zl⟩ := (BT.below hb5).tri)
    have BM := Blk.new w5 #[.int .i64 k, .int .i64 d] 129
    have ha : Below w5.heap.size w5 (w5.alloc (.cells #[.int .i64 k, .int .i64 d] 129)) := (Below.refl _ _).alloc (Nat.le_refl _) _
    replace BV := (BV.below hb5).below ha
    replace BT := (BT.below hb5).below ha
    replace hb := chain (chain hb hb5) ha
    clear ha x0 x1 x2 x3 xf xl z0 z1 z2 zf zl
    generalize w5.alloc (.cells #[.int .i64 k, .int .i64 d] 129) = v2 at *
    obtain ⟨x0, x1, x2, x3, xf, xl⟩ := BV.four
    obtain ⟨z0, z1, z2, zf, zl⟩ := BT.tri
    obtain ⟨m0, m1, mf, ml⟩ := BM.two
    replace BV := BV.drew
    replace BT := BT.drew
    replace BM := BM.drew
    replace hb := hb.drew
    refine wp_region_held_drew (S := fun w' => w'.cell? ⟨w.heap.size, 0, none⟩ = some (.int .i64 (P : Int)) ∧ w'.cell? ⟨w.heap.size, 1, none⟩ = some (.int .i64 c) ∧ w'.cell? ⟨w.heap.size, 2, none⟩ = some (.int .i64 h) ∧ w'.cell? ⟨w.heap.size, 3, none⟩ = some (.int .i64 s) ∧ w'.cell? ⟨(w.heap.size + 1), 0, none⟩ = some (.int .i64 (P : Int)) ∧ w'.cell? ⟨(w.heap.size + 1), 1, none⟩ = some (fv f1 B) ∧ w'.cell? ⟨(w.heap.size + 1), 2, none⟩ = some (fv f2 B) ∧ w'.cell? ⟨w5.heap.size, 0, none⟩ = some (.int .i64 k) ∧ w'.cell? ⟨w5.heap.size, 1, none⟩ = some (.int .i64 d) ∧ Blk w' w.heap.size #[.int .i64 (P : Int), .int .i64 c, .int .i64 h, .int .i64 s] 35 ∧ Blk w' ((w.heap.size + 1)) #[.int .i64 (P : Int), fv f1 B, fv f2 B] 86 ∧ Blk w' w5.heap.size #[.int .i64 k, .int .i64 d] 129 ∧ Below w.heap.size w w') (by kernel_rfl) ⟨BV.four.1, BV.four.2.1, BV.four.2.2.1, BV.four.2.2.2.1, BT.tri.1, BT.tri.2.1, BT.tri.2.2.1, BM.two.1, BM.two.2.1, BV, BT, BM, hb⟩ (fun hHeld => ?_)
    refine wpAnyH_take (i := 0) (oi := ⟨some 27, _, _, _, _, _⟩) (v := ?_) rfl (by kernel_rfl) (by kernel_rfl) (by kernel_rfl) (fun _ _ _ h => h) (Or.inl ⟨by rfl, ?_⟩) (by assumption) ?_
    rotate_left
    · intro w hSw; (try dsimp only at hSw); go_simp; (try (with_reducible rfl))
    try simp only [Act.put, List.setIfInBounds_toArray, List.set_cons_zero, List.set_cons_succ]
    refine wpAnyH_take (i := 1) (oi := ⟨some 28, _, _, _, _, _⟩) (v := ?_) rfl (by kernel_rfl) (by kernel_rfl) (by kernel_rfl) (fun _ _ _ h => h) (Or.inl ⟨by rfl, ?_⟩) (by assumption) ?_
    rotate_left
    · intro w hSw; (try dsimp only at hSw); go_simp; (try (with_reducible rfl))
    try simp only [Act.put, List.setIfInBounds_toArray, List.set_cons_zero, List.set_cons_succ]
    refine wpAnyH_take (i := 2) (oi := ⟨some 29, _, _, _, _, _⟩) (v := ?_) rfl (by kernel_rfl) (by kernel_rfl) (by kernel_rfl) (fun _ _ _ h => h) (Or.inl ⟨by rfl, ?_⟩) (by assumption) ?_
    rotate_left
    · intro w hSw; (try dsimp only at hSw); go_simp; (try (with_reducible rfl))
    try simp only [Act.put, List.setIfInBounds_toArray, List.set_cons_zero, List.set_cons_succ]
    refine wpAnyH_take (i := 3) (oi := ⟨some 30, _, _, _, _, _⟩) (v := ?_) rfl (by kernel_rfl) (by kernel_rfl) (by kernel_rfl) (fun _ _ _ h => h) (Or.inl ⟨by rfl, ?_⟩) (by assumption) ?_
    rotate_left
    · intro w hSw; (try dsimp only at hSw); go_simp; (try (with_reducible rfl))
    try simp only [Act.put, List.setIfInBounds_toArray, List.set_cons_zero, List.set_cons_succ]
    refine wpAnyH_take (i := 4) (oi := ⟨some 31, _, _, _, _, _⟩) (v := ?_) rfl (by kernel_rfl) (by kernel_rfl) (by kernel_rfl) (fun _ _ _ h => h) (Or.inl ⟨by rfl, ?_⟩) (by assumption) ?_
    rotate_left
    · intro w hSw; (try dsimp only at hSw); go_simp; (try (with_reducible rfl))
    try simp only [Act.put, List.setIfInBounds_toArray, List.set_cons_zero, List.set_cons_succ]
    refine wpAnyH_take (i := 5) (oi := ⟨some 32, _, _, _, _, _⟩) (v := ?_) rfl (by kernel_rfl) (by kernel_rfl) (by kernel_rfl) (fun _ _ _ h => h) (Or.inl ⟨by rfl, ?_⟩) (by assumption) ?_
    rotate_left
    · intro w hSw; (try dsimp only at hSw); go_simp; (try (with_reducible rfl))
    try simp only [Act.put, List.setIfInBounds_toArray, List.set_cons_zero, List.set_cons_succ]
    refine wpAnyH_take (i := 6) (oi := ⟨some 33, _, _, _, _, _⟩) (v := ?_) rfl (by kernel_rfl) (by kernel_rfl) (by kernel_rfl) (fun _ _ _ h => h) (Or.inl ⟨by rfl, ?_⟩) (by assumption) ?_
    rotate_left
    · intro w hSw; (try dsimp only at hSw); go_simp; (try (with_reducible rfl))
    try simp only [Act.put, List.setIfInBounds_toArray, List.set_cons_zero, List.set_cons_succ]
    refine wpAnyH_ready (rs := [7]) (by kernel_rfl) (by simp) ?_
    refine AllReadyH.cons (o := ⟨some 34, _, _, _, _, _⟩) rfl (fun K hK => ?_) AllReadyH.nil
    go_simp
    -- call
    have BV := hHeld.2.2.2.2.2.2.2.2.2.1
    have BT := hHeld.2.2.2.2.2.2.2.2.2.2.1
    have BM := hHeld.2.2.2.2.2.2.2.2.2.2.2.1
    have hb := hHeld.2.2.2.2.2.2.2.2.2.2.2.2
    clear hHeld
    refine (moveTo_any k d _ k0 (by omega) (by omega) d1).mono ?_
    rintro e wq1 ⟨rfl, hq1⟩
    replace BV := BV.below hq1
    replace BT := BT.below hq1
    replace BM := BM.below hq1
    replace hb := chain hb hq1
    (try go_wp2_with fail)
    refine hK.out _ _ ⟨BV.four.1, BV.four.2.1, BV.four.2.2.1, BV.four.2.2.2.1, BT.tri.1, BT.tri.2.1, BT.tri.2.2.1, BM.two.1, BM.two.2.1, BV, BT, BM, hb⟩ (fun hHeld => ?_)
    clear hK K
    try simp only [Act.put, List.setIfInBounds_toArray, List.set_cons_zero, List.set_cons_succ]
    refine wpAnyH_ready (rs := [8]) (by kernel_rfl) (by simp) ?_
    refine AllReadyH.cons (o := ⟨some 35, _, _, _, _, _⟩) rfl (fun K hK => ?_) AllReadyH.nil
    go_simp
    -- call
    have BV := hHeld.2.2.2.2.2.2.2.2.2.1
    have BT := hHeld.2.2.2.2.2.2.2.2.2.2.1
    have BM := hHeld.2.2.2.2.2.2.2.2.2.2.2.1
    have hb := hHeld.2.2.2.2.2.2.2.2.2.2.2.2
    clear hHeld
    refine (HO.out _ hb).mono ?_
    rintro e wq2 ⟨rfl, hq2⟩
    replace BV := BV.below hq2
    replace BT := BT.below hq2
    replace BM := BM.below hq2
    replace hb := chain hb hq2
    (try go_wp2_with fail)
    refine hK.out _ _ ⟨BV.four.1, BV.four.2.1, BV.four.2.2.1, BV.four.2.2.2.1, BT.tri.1, BT.tri.2.1, BT.tri.2.2.1, BM.two.1, BM.two.2.1, BV, BT, BM, hb⟩ (fun hHeld => ?_)
    clear hK K
    try simp only [Act.put, List.setIfInBounds_toArray, List.set_cons_zero, List.set_cons_succ]
    refine wpAnyH_take (i := 9) (oi := ⟨some 36, _, _, _, _, _⟩) (v := ?_) rfl (by kernel_rfl) (by kernel_rfl) (by kernel_rfl) (fun _ _ _ h => h) (Or.inl ⟨by rfl, ?_⟩) (by assumption) ?_
    rotate_left
    · intro w hSw; (try dsimp only at hSw); go_simp; (try (with_reducible rfl))
    try simp only [Act.put, List.setIfInBounds_toArray, List.set_cons_zero, List.set_cons_succ]
    refine wpAnyH_take (i := 10) (oi := ⟨some 6, _, _, _, _, _⟩) (v := ?_) rfl (by kernel_rfl) (by kernel_rfl) (by kernel_rfl) (fun _ _ _ h => h) (Or.inl ⟨by rfl, ?_⟩) (by assumption) ?_
    rotate_left
    · intro w hSw; (try dsimp only at hSw); go_simp; (try (with_reducible rfl))
    try simp only [Act.put, List.setIfInBounds_toArray, List.set_cons_zero, List.set_cons_succ]
    refine wpAnyH_done (by kernel_rfl) ?_ _
    have BV := hHeld.2.2.2.2.2.2.2.2.2.1
    have BT := hHeld.2.2.2.2.2.2.2.2.2.2.1
    have BM := hHeld.2.2.2.2.2.2.2.2.2.2.2.1
    have hb := hHeld.2.2.2.2.2.2.2.2.2.2.2.2
    clear hHeld
    go_wp2
    go_ret
    exact ⟨rfl, hb⟩
  · rw [decide_eq_false g1, Bool.false_and]
    have hd : decide (L < (P : Int)) = false := decide_eq_false g1
    go_enter Try.func82, Try.ntmps82
    go_wp2_with (go_at_call 80; refine (HF.out _ hb).mono ?_; rintro e w5 ⟨rfl, hb5⟩; obtain ⟨x0, x1, x2, x3, xf, xl⟩ := (BV.below hb5).four; obtain ⟨z0, z1, z2, zf, zl⟩ := (BT.below hb5).tri)
    have BM := Blk.new w5 #[.int .i64 k, .int .i64 d] 129
    have ha : Below w5.heap.size w5 (w5.alloc (.cells #[.int .i64 k, .int .i64 d] 129)) := (Below.refl _ _).alloc (Nat.le_refl _) _
    replace BV := (BV.below hb5).below ha
    replace BT := (BT.below hb5).below ha
    replace hb := chain (chain hb hb5) ha
    clear ha x0 x1 x2 x3 xf xl z0 z1 z2 zf zl
    generalize w5.alloc (.cells #[.int .i64 k, .int .i64 d] 129) = v2 at *
    obtain ⟨x0, x1, x2, x3, xf, xl⟩ := BV.four
    obtain ⟨z0, z1, z2, zf, zl⟩ := BT.tri
    obtain ⟨m0, m1, mf, ml⟩ := BM.two
    replace BV := BV.drew
    replace BT := BT.drew
    replace BM := BM.drew
    replace hb := hb.drew
    refine wp_region_held_drew (S := fun w' => w'.cell? ⟨w.heap.size, 0, none⟩ = some (.int .i64 (P : Int)) ∧ w'.cell? ⟨w.heap.size, 1, none⟩ = some (.int .i64 c) ∧ w'.cell? ⟨w.heap.size, 2, none⟩ = some (.int .i64 h) ∧ w'.cell? ⟨w.heap.size, 3, none⟩ = some (.int .i64 s) ∧ w'.cell? ⟨(w.heap.size + 1), 0, none⟩ = some (.int .i64 (P : Int)) ∧ w'.cell? ⟨(w.heap.size + 1), 1, none⟩ = some (fv f1 B) ∧ w'.cell? ⟨(w.heap.size + 1), 2, none⟩ = some (fv f2 B) ∧ w'.cell? ⟨w5.heap.size, 0, none⟩ = some (.int .i64 k) ∧ w'.cell? ⟨w5.heap.size, 1, none⟩ = some (.int .i64 d) ∧ Blk w' w.heap.size #[.int .i64 (P : Int), .int .i64 c, .int .i64 h, .int .i64 s] 35 ∧ Blk w' ((w.heap.size + 1)) #[.int .i64 (P : Int), fv f1 B, fv f2 B] 86 ∧ Blk w' w5.heap.size #[.int .i64 k, .int .i64 d] 129 ∧ Below w.heap.size w w') (by kernel_rfl) ⟨BV.four.1, BV.four.2.1, BV.four.2.2.1, BV.four.2.2.2.1, BT.tri.1, BT.tri.2.1, BT.tri.2.2.1, BM.two.1, BM.two.2.1, BV, BT, BM, hb⟩ (fun hHeld => ?_)
    refine wpAnyH_take (i := 0) (oi := ⟨some 27, _, _, _, _, _⟩) (v := ?_) rfl (by kernel_rfl) (by kernel_rfl) (by kernel_rfl) (fun _ _ _ h => h) (Or.inl ⟨by rfl, ?_⟩) (by assumption) ?_
    rotate_left
    · intro w hSw; (try dsimp only at hSw); go_simp; (try (with_reducible rfl))
    try simp only [Act.put, List.setIfInBounds_toArray, List.set_cons_zero, List.set_cons_succ]
    refine wpAnyH_take (i := 1) (oi := ⟨some 28, _, _, _, _, _⟩) (v := ?_) rfl (by kernel_rfl) (by kernel_rfl) (by kernel_rfl) (fun _ _ _ h => h) (Or.inl ⟨by rfl, ?_⟩) (by assumption) ?_
    rotate_left
    · intro w hSw; (try dsimp only at hSw); go_simp; (try (with_reducible rfl))
    try simp only [Act.put, List.setIfInBounds_toArray, List.set_cons_zero, List.set_cons_succ]
    refine wpAnyH_take (i := 2) (oi := ⟨some 29, _, _, _, _, _⟩) (v := ?_) rfl (by kernel_rfl) (by kernel_rfl) (by kernel_rfl) (fun _ _ _ h => h) (Or.inl ⟨by rfl, ?_⟩) (by assumption) ?_
    rotate_left
    · intro w hSw; (try dsimp only at hSw); go_simp; (try (with_reducible rfl))
    try simp only [Act.put, List.setIfInBounds_toArray, List.set_cons_zero, List.set_cons_succ]
    refine wpAnyH_take (i := 3) (oi := ⟨some 30, _, _, _, _, _⟩) (v := ?_) rfl (by kernel_rfl) (by kernel_rfl) (by kernel_rfl) (fun _ _ _ h => h) (Or.inl ⟨by rfl, ?_⟩) (by assumption) ?_
    rotate_left
    · intro w hSw; (try dsimp only at hSw); go_simp; (try (with_reducible rfl))
    try simp only [Act.put, List.setIfInBounds_toArray, List.set_cons_zero, List.set_cons_succ]
    refine wpAnyH_take (i := 4) (oi := ⟨some 31, _, _, _, _, _⟩) (v := ?_) rfl (by kernel_rfl) (by kernel_rfl) (by kernel_rfl) (fun _ _ _ h => h) (Or.inl ⟨by rfl, ?_⟩) (by assumption) ?_
    rotate_left
    · intro w hSw; (try dsimp only at hSw); go_simp; (try (with_reducible rfl))
    try simp only [Act.put, List.setIfInBounds_toArray, List.set_cons_zero, List.set_cons_succ]
    refine wpAnyH_take (i := 5) (oi := ⟨some 32, _, _, _, _, _⟩) (v := undef) rfl (by kernel_rfl) (by kernel_rfl) (by kernel_rfl) (fun _ _ _ h => h) (Or.inr ⟨by rfl, rfl⟩) (by assumption) ?_
    try simp only [Act.put, List.setIfInBounds_toArray, List.set_cons_zero, List.set_cons_succ]
    refine wpAnyH_take (i := 6) (oi := ⟨some 33, _, _, _, _, _⟩) (v := undef) rfl (by kernel_rfl) (by kernel_rfl) (by kernel_rfl) (fun _ _ _ h => h) (Or.inr ⟨by rfl, rfl⟩) (by assumption) ?_
    try simp only [Act.put, List.setIfInBounds_toArray, List.set_cons_zero, List.set_cons_succ]
    refine wpAnyH_take (i := 7) (oi := ⟨some 34, _, _, _, _, _⟩) (v := undef) rfl (by kernel_rfl) (by kernel_rfl) (by kernel_rfl) (fun _ _ _ h => h) (Or.inr ⟨by rfl, rfl⟩) (by assumption) ?_
    try simp only [Act.put, List.setIfInBounds_toArray, List.set_cons_zero, List.set_cons_succ]
    refine wpAnyH_take (i := 8) (oi := ⟨some 35, _, _, _, _, _⟩) (v := undef) rfl (by kernel_rfl) (by kernel_rfl) (by kernel_rfl) (fun _ _ _ h => h) (Or.inr ⟨by rfl, rfl⟩) (by assumption) ?_
    try simp only [Act.put, List.setIfInBounds_toArray, List.set_cons_zero, List.set_cons_succ]
    refine wpAnyH_take (i := 9) (oi := ⟨some 36, _, _, _, _, _⟩) (v := ?_) rfl (by kernel_rfl) (by kernel_rfl) (by kernel_rfl) (fun _ _ _ h => h) (Or.inl ⟨by rfl, ?_⟩) (by assumption) ?_
    rotate_left
    · intro w hSw; (try dsimp only at hSw); go_simp; (try (with_reducible rfl))
    try simp only [Act.put, List.setIfInBounds_toArray, List.set_cons_zero, List.set_cons_succ]
    refine wpAnyH_take (i := 10) (oi := ⟨some 6, _, _, _, _, _⟩) (v := ?_) rfl (by kernel_rfl) (by kernel_rfl) (by kernel_rfl) (fun _ _ _ h => h) (Or.inl ⟨by rfl, ?_⟩) (by assumption) ?_
    rotate_left
    · intro w hSw; (try dsimp only at hSw); go_simp; (try (with_reducible rfl))
    try simp only [Act.put, List.setIfInBounds_toArray, List.set_cons_zero, List.set_cons_succ]
    refine wpAnyH_done (by kernel_rfl) ?_ _
    have BV := hHeld.2.2.2.2.2.2.2.2.2.1
    have BT := hHeld.2.2.2.2.2.2.2.2.2.2.1
    have BM := hHeld.2.2.2.2.2.2.2.2.2.2.2.1
    have hb := hHeld.2.2.2.2.2.2.2.2.2.2.2.2
    clear hHeld
    go_wp2
    go_ret
    exact ⟨rfl, hb⟩
def toI (P k : Nat) (d : Int) : Int := if k = P ∨ d ≤ (k : Int) then (k : Int) - d else -1
def alB (P : Nat) (h : Int) (xs ys : List Int) (k : Nat) (d : Int) : Bool :=
  if k = P then openB P ys ((k : Int) - d) else if d ≤ (k : Int) then decide (lastL xs xs.length < (P : Int)) && openB P ys ((k : Int) - d)
  else decide (lastL xs xs.length < h) && (decide ((k : Int) = d - 1) || decide ((k : Int) = lastL xs xs.length))
def stepI (P : Nat) (h : Int) (xs ys : List Int) (k : Nat) (d : Int) : Option Stp :=
  if xs.getD k 0 = 0 then none else if alB P h xs ys k d = true then some ((k : Int), toI P k d, d, decide (toI P k d ≠ -1) && decide (0 < ys.getD (P - 1 - (toI P k d).toNat) 0)) else none
def StepGot (r : Option Stp) (w : World) (e : Ending) (w' : World) : Prop :=
  ∃ (x : Stp) (ok : Bool), e = .returned (.tuple #[stV x, .bool ok]) ∧ r = (if ok = true then some x else none) ∧ Below w.heap.size w w'
theorem below_set4 {B g : Nat} {w W : World} (h : Below B w W) (hg : B ≤ g) (a b c d : Value) : Below B w ((((W.setCell ⟨g, 0, none⟩ a).setCell ⟨g, 1, none⟩ b).setCell ⟨g, 2, none⟩ c).setCell ⟨g, 3, none⟩ d) :=
  (((h.setCell hg _).setCell hg _).setCell hg _).setCell hg _
set_option maxRecDepth 8000 in
set_option maxHeartbeats 2000000 in
theorem stepFrom_none (P : Nat) (c h s : Int) (f1 f2 B : Nat) (xs ys : List Int) (w : World) (p0 : 2 ≤ P) (p1 : P ≤ 24) (n1 : xs.length = P + 1) (n2 : ys.length = P + 1) (hx : ∀ x ∈ xs, 0 ≤ x ∧ x ≤ 1000) (hy : ∀ y ∈ ys, 0 ≤ y ∧ y ≤ 1000) (q1 : Pays f1 B xs w) (q2 : Pays f2 B ys w) (k : Nat) (d : Int) (k1 : k ≤ P) (g0 : xs.getD k 0 = 0) :
    Calls Try.prog 71 #[.agg #[.int .i64 (P : Int), .int .i64 c, .int .i64 h, .int .i64 s], tv (P : Int) f1 f2 B, .int .i64 (k : Int), .int .i64 d] w (StepGot none w) := by
  have e199 := q1.1
  have hpk := fun W (hW : Below w.heap.size w W) => (q1.below hW).2 W (Below.refl _ _) k (by omega)
  rw [g0] at hpk
  have HP := Lib.hid hpk
  clear hpk g0
  obtain ⟨BV, BT, BR, hb, hz⟩ := three_new w #[.int .i64 (P : Int), .int .i64 c, .int .i64 h, .int .i64 s] #[.int .i64 (P : Int), fv f1 B, fv f2 B] #[.int .i64 0, .int .i64 0, .int .i64 0, .bool false] 35 86 56
  obtain ⟨x0, x1, x2, x3, xf, xl⟩ := BV.four
  obtain ⟨z0, z1, z2, zf, zl⟩ := BT.tri
  obtain ⟨r0, r1, r2, r3, rf, rl⟩ := BR.four
  go_enter Try.func71, Try.ntmps71
  go_wp2_with (first | (go_at_fn f1; refine (HP.out _ hb).mono ?_; rintro e w1 ⟨rfl, hb1⟩; obtain ⟨x0, x1, x2, x3, xf, xl⟩ := (BV.below hb1).four; obtain ⟨z0, z1, z2, zf, zl⟩ := (BT.below hb1).tri; obtain ⟨r0, r1, r2, r3, rf, rl⟩ := (BR.below hb1).four))
  refine bodyPost_ret (v := .tuple #[stV (0, 0, 0, false), .bool false]) (by simp [results, Try.results71, go_sem, *]) rfl ⟨(0, 0, 0, false), false, rfl, rfl, ?_⟩
  exact below_set4 (chain hb hb1) (by omega) _ _ _ _
theorem met_entering_from (x : Value) (w : World) : (method 248 127 x "loop.example/g00885/impl.from").run Try.prog w = .ok (108, x) w := by kernel_rfl
theorem met_entering_to (x : Value) (w : World) : (method 248 127 x "loop.example/g00885/impl.to").run Try.prog w = .ok (86, x) w := by kernel_rfl
theorem met_moving_from (x : Value) (w : World) : (method 248 129 x "loop.example/g00885/impl.from").run Try.prog w = .ok (109, x) w := by kernel_rfl
theorem met_moving_to (x : Value) (w : World) : (method 248 129 x "loop.example/g00885/impl.to").run Try.prog w = .ok (87, x) w := by kernel_rfl
theorem met_bearingOff_from (x : Value) (w : World) : (method 248 130 x "loop.example/g00885/impl.from").run Try.prog w = .ok (110, x) w := by kernel_rfl
theorem met_bearingOff_to (x : Value) (w : World) : (method 248 130 x "loop.example/g00885/impl.to").run Try.prog w = .ok (111, x) w := by kernel_rfl
set_option maxRecDepth 8000 in
set_option maxHeartbeats 2000000 in
theorem stepFrom_enter_false (P : Nat) (c h s : Int) (f1 f2 B : Nat) (xs ys : List Int) (w : World) (p0 : 2 ≤ P) (p1 : P ≤ 24) (n1 : xs.length = P + 1) (n2 : ys.length = P + 1) (hx : ∀ x ∈ xs, 0 ≤ x ∧ x ≤ 1000) (hy : ∀ y ∈ ys, 0 ≤ y ∧ y ≤ 1000) (q1 : Pays f1 B xs w) (q2 : Pays f2 B ys w) (d : Int) (d0 : 1 ≤ d) (d1 : d ≤ 1000) (g0 : ¬ xs.getD P 0 = 0) (hal : openB P ys ((P : Int) - d) = false) :
    Calls Try.prog 71 #[.agg #[.int .i64 (P : Int), .int .i64 c, .int .i64 h, .int .i64 s], tv (P : Int) f1 f2 B, .int .i64 (P : Int), .int .i64 d] w (StepGot none w) := by
  have e199 := q1.1
  have hpk := fun W (hW : Below w.heap.size w W) => (q1.below hW).2 W (Below.refl _ _) P (by omega)
  have hal0 := fun W (hW : Below w.heap.size w W) => allowsEnter_any P c h s f1 f2 B xs ys W p0 p1 n1 n2 hx hy (q1.below hW) (q2.below hW) (P : Int) d (by omega) (by omega) d0 d1
  rw [hal] at hal0
  have hmo : ∀ W, Calls Try.prog 81 #[tv (P : Int) f1 f2 B, .int .i64 (P : Int), .int .i64 d] W fun e w' => e = .returned (.iface 127 (.agg #[.int .i64 (P : Int), .int .i64 d])) ∧ Below W.heap.size W w' := fun W => by
    have q := motionOf_any P f1 f2 B (P : Int) d W
    rwa [show motV P (P : Int) d = .iface 127 (.agg #[.int .i64 (P : Int), .int .i64 d]) from by rw [motV, if_pos (by omega)]] at q
  obtain ⟨u, hu⟩ : ∃ u, xs.getD P 0 = u := ⟨_, rfl⟩
  rw [hu] at hpk g0
  have HP := Lib.hid hpk
  have HM := Lib.hid hmo
  have HA := Lib.hid hal0
  clear hpk hmo hal0 hal hu
  obtain ⟨BV, BT, BR, hb, hz⟩ := three_new w #[.int .i64 (P : Int), .int .i64 c, .int .i64 h, .int .i64 s] #[.int .i64 (P : Int), fv f1 B, fv f2 B] #[.int .i64 0, .int .i64 0, .int .i64 0, .bool false] 35 86 56
  obtain ⟨x0, x1, x2, x3, xf, xl⟩ := BV.four
  obtain ⟨z0, z1, z2, zf, zl⟩ := BT.tri
  obtain ⟨r0, r1, r2, r3, rf, rl⟩ := BR.four
  go_enter Try.func71, Try.ntmps71
  go_wp2_with (first | (go_at_fn f1; refine (HP.out _ hb).mono ?_; rintro e w1 ⟨rfl, hb1⟩; obtain ⟨x0, x1, x2, x3, xf, xl⟩ := (BV.below hb1).four; obtain ⟨z0, z1, z2, zf, zl⟩ := (BT.below hb1).tri; obtain ⟨r0, r1, r2, r3, rf, rl⟩ := (BR.below hb1).four) | (go_at_call 81; refine (HM.out _).mono ?_; rintro e w2 ⟨rfl, hb2⟩; obtain ⟨x0, x1, x2, x3, xf, xl⟩ := (BV.below (chain hb1 hb2)).four; obtain ⟨z0, z1, z2, zf, zl⟩ := (BT.below (chain hb1 hb2)).tri; obtain ⟨r0, r1, r2, r3, rf, rl⟩ := (BR.below (chain hb1 hb2)).four) | (go_at_call 82; refine (HA.out _ (chain hb (chain hb1 hb2))).mono ?_; rintro e w3 ⟨rfl, hb3⟩; obtain ⟨x0, x1, x2, x3, xf, xl⟩ := (BV.below (chain (chain hb1 hb2) hb3)).four; obtain ⟨z0, z1, z2, zf, zl⟩ := (BT.below (chain (chain hb1 hb2) hb3)).tri; obtain ⟨r0, r1, r2, r3, rf, rl⟩ := (BR.below (chain (chain hb1 hb2) hb3)).four))
  refine bodyPost_ret (v := .tuple #[stV (0, 0, 0, false), .bool false]) (by simp [results, Try.results71, go_sem, *]) rfl ⟨(0, 0, 0, false), false, rfl, rfl, ?_⟩
  exact below_set4 (chain hb (chain (chain hb1 hb2) hb3)) (by omega) _ _ _ _
set_option maxRecDepth 8000 in
set_option maxHeartbeats 2000000 in
theorem stepFrom_enter_true (P : Nat) (c h s : Int) (f1 f2 B : Nat) (xs ys : List Int) (w : World) (p0 : 2 ≤ P) (p1 : P ≤ 24) (n1 : xs.length = P + 1) (n2 : ys.length = P + 1) (hx : ∀ x ∈ xs, 0 ≤ x ∧ x ≤ 1000) (hy : ∀ y ∈ ys, 0 ≤ y ∧ y ≤ 1000) (q1 : Pays f1 B xs w) (q2 : Pays f2 B ys w) (d : Int) (d0 : 1 ≤ d) (d1 : d ≤ 1000) (g0 : ¬ xs.getD P 0 = 0) (hal : openB P ys ((P : Int) - d) = true) (t : Nat) (v : Int) (ht : (P : Int) - d = (t : Int)) (tP : t < P) (hv : ys.getD (P - 1 - t) 0 = v) :
    Calls Try.prog 71 #[.agg #[.int .i64 (P : Int), .int .i64 c, .int .i64 h, .int .i64 s], tv (P : Int) f1 f2 B, .int .i64 (P : Int), .int .i64 d] w (StepGot (some ((P : Int), (t : Int), d, decide (0 < v))) w) := by
  have e199 := q1.1
  have hpk := fun W (hW : Below w.heap.size w W) => (q1.below hW).2 W (Below.refl _ _) P (by omega)
  have hal0 := fun W (hW : Below w.heap.size w W) => allowsEnter_any P c h s f1 f2 B xs ys W p0 p1 n1 n2 hx hy (q1.below hW) (q2.below hW) (P : Int) d (by omega) (by omega) d0 d1
  rw [hal] at hal0
  have hmo : ∀ W, Calls Try.prog 81 #[tv (P : Int) f1 f2 B, .int .i64 (P : Int), .int .i64 d] W fun e w' => e = .returned (.iface 127 (.agg #[.int .i64 (P : Int), .int .i64 d])) ∧ Below W.heap.size W w' := fun W => by
    have q := motionOf_any P f1 f2 B (P : Int) d W
    rwa [show motV P (P : Int) d = .iface 127 (.agg #[.int .i64 (P : Int), .int .i64 d]) from by rw [motV, if_pos (by omega)]] at q
  obtain ⟨u, hu⟩ : ∃ u, xs.getD P 0 = u := ⟨_, rfl⟩
  rw [hu] at hpk g0
  have HP := Lib.hid hpk
  have HM := Lib.hid hmo
  have HA := Lib.hid hal0
  have hmf := fun (x : Value) (W : World) => met_entering_from x W
  have hmt := fun (x : Value) (W : World) => met_entering_to x W
  have hto := fun W => enterTo_any (P : Int) d W (by omega) (by omega) (by omega) d1
  rw [ht] at hto
  have HT := Lib.hid hto
  clear hto
  have hfk := fun W (hW : Below w.heap.size w W) => facing_any P t f1 f2 B ys W p1 tP n2 (q2.below hW)
  rw [hv] at hfk
  have HF := Lib.hid hfk
  clear hfk hv
  clear hpk hmo hal0 hal hu
  obtain ⟨BV, BT, BR, hb, hz⟩ := three_new w #[.int .i64 (P : Int), .int .i64 c, .int .i64 h, .int .i64 s] #[.int .i64 (P : Int), fv f1 B, fv f2 B] #[.int .i64 0, .int .i64 0, .int .i64 0, .bool false] 35 86 56
  obtain ⟨x0, x1, x2, x3, xf, xl⟩ := BV.four
  obtain ⟨z0, z1, z2, zf, zl⟩ := BT.tri
  obtain ⟨r0, r1, r2, r3, rf, rl⟩ := BR.four
  go_enter Try.func71, Try.ntmps71
  go_wp2_with (first | (go_at_fn f1; refine (HP.out _ hb).mono ?_; rintro e w1 ⟨rfl, hb1⟩; obtain ⟨x0, x1, x2, x3, xf, xl⟩ := (BV.below hb1).four; obtain ⟨z0, z1, z2, zf, zl⟩ := (BT.below hb1).tri; obtain ⟨r0, r1, r2, r3, rf, rl⟩ := (BR.below hb1).four) | (go_at_call 81; refine (HM.out _).mono ?_; rintro e w2 ⟨rfl, hb2⟩; obtain ⟨x0, x1, x2, x3, xf, xl⟩ := (BV.below (chain hb1 hb2)).four; obtain ⟨z0, z1, z2, zf, zl⟩ := (BT.below (chain hb1 hb2)).tri; obtain ⟨r0, r1, r2, r3, rf, rl⟩ := (BR.below (chain hb1 hb2)).four) | (go_at_call 82; refine (HA.out _ (chain hb (chain hb1 hb2))).mono ?_; rintro e w3 ⟨rfl, hb3⟩; obtain ⟨x0, x1, x2, x3, xf, xl⟩ := (BV.below (chain (chain hb1 hb2) hb3)).four; obtain ⟨z0, z1, z2, zf, zl⟩ := (BT.below (chain (chain hb1 hb2) hb3)).tri; obtain ⟨r0, r1, r2, r3, rf, rl⟩ := (BR.below (chain (chain hb1 hb2) hb3)).four) | (go_at_call 108; refine (enterFrom_any _ _ _).mono ?_; rintro e w4 ⟨rfl, hb4⟩; obtain ⟨x0, x1, x2, x3, xf, xl⟩ := (BV.below (chain (chain (chain hb1 hb2) hb3) hb4)).four; obtain ⟨z0, z1, z2, zf, zl⟩ := (BT.below (chain (chain (chain hb1 hb2) hb3) hb4)).tri; obtain ⟨r0, r1, r2, r3, rf, rl⟩ := (BR.below (chain (chain (chain hb1 hb2) hb3) hb4)).four) | (go_at_call 86; refine (HT.out _).mono ?_; rintro e w5 ⟨rfl, hb5⟩; obtain ⟨x0, x1, x2, x3, xf, xl⟩ := (BV.below (chain (chain (chain (chain hb1 hb2) hb3) hb4) hb5)).four; obtain ⟨z0, z1, z2, zf, zl⟩ := (BT.below (chain (chain (chain (chain hb1 hb2) hb3) hb4) hb5)).tri; obtain ⟨r0, r1, r2, r3, rf, rl⟩ := (BR.below (chain (chain (chain (chain hb1 hb2) hb3) hb4) hb5)).four) | (go_at_call 75; refine (HF.out _ ((chain hb (chain (chain (chain (chain hb1 hb2) hb3) hb4) hb5)).alloc (chain hb (chain (chain (chain (chain hb1 hb2) hb3) hb4) hb5)).size _)).mono ?_; rintro e w6 ⟨rfl, hb6⟩; obtain ⟨x0, x1, x2, x3, xf, xl⟩ := (BV.below (chain (chain (chain (chain (chain hb1 hb2) hb3) hb4) hb5) (from_alloc hb6))).four; obtain ⟨z0, z1, z2, zf, zl⟩ := (BT.below (chain (chain (chain (chain (chain hb1 hb2) hb3) hb4) hb5) (from_alloc hb6))).tri; obtain ⟨r0, r1, r2, r3, rf, rl⟩ := (BR.below (chain (chain (chain (chain (chain hb1 hb2) hb3) hb4) hb5) (from_alloc hb6))).four; obtain ⟨s0, s1, s2, s3, sf, sl⟩ := ((Blk.new w5 #[.int .i64 (P : Int), .int .i64 (t : Int), .int .i64 d, .bool false] 56).below hb6).four))
  refine bodyPost_ret (v := .tuple #[stV ((P : Int), (t : Int), d, decide (0 < v)), .bool true]) (by simp [results, Try.results71, go_sem, *]) rfl ⟨((P : Int), (t : Int), d, decide (0 < v)), true, rfl, rfl, ?_⟩
  exact below_set4 ((chain (chain hb (chain (chain (chain (chain hb1 hb2) hb3) hb4) hb5)) (from_alloc hb6)).setCell (chain hb (chain (chain (chain (chain hb1 hb2) hb3) hb4) hb5)).size _) (by omega) _ _ _ _
set_option maxRecDepth 8000 in
set_option maxHeartbeats 2000000 in
theorem stepFrom_move_false (P : Nat) (c h s : Int) (f1 f2 B : Nat) (xs ys : List Int) (w : World) (p0 : 2 ≤ P) (p1 : P ≤ 24) (n1 : xs.length = P + 1) (n2 : ys.length = P + 1) (hx : ∀ x ∈ xs, 0 ≤ x ∧ x ≤ 1000) (hy : ∀ y ∈ ys, 0 ≤ y ∧ y ≤ 1000) (q1 : Pays f1 B xs w) (q2 : Pays f2 B ys w) (k : Nat) (d : Int) (k1 : k ≤ P) (d0 : 1 ≤ d) (d1 : d ≤ 1000) (g0 : ¬ xs.getD k 0 = 0) (hk : k ≠ P) (hd : d ≤ (k : Int)) (hal : (decide (lastL xs xs.length < (P : Int)) && openB P ys ((k : Int) - d)) = false) :
    Calls Try.prog 71 #[.agg #[.int .i64 (P : Int), .int .i64 c, .int .i64 h, .int .i64 s], tv (P : Int) f1 f2 B, .int .i64 (k : Int), .int .i64 d] w (StepGot none w) := by
  have e199 := q1.1
  have hpk := fun W (hW : Below w.heap.size w W) => (q1.below hW).2 W (Below.refl _ _) k (by omega)
  have hal0 := fun W (hW : Below w.heap.size w W) => allowsMove_any P c h s f1 f2 B xs ys W p0 p1 n1 n2 hx hy (q1.below hW) (q2.below hW) (k : Int) d (by omega) (by omega) d0 d1 (by omega) (by omega)
  rw [hal] at hal0
  have hmo : ∀ W, Calls Try.prog 81 #[tv (P : Int) f1 f2 B, .int .i64 (k : Int), .int .i64 d] W fun e w' => e = .returned (.iface 129 (.agg #[.int .i64 (k : Int), .int .i64 d])) ∧ Below W.heap.size W w' := fun W => by
    have q := motionOf_any P f1 f2 B (k : Int) d W
    rwa [show motV P (k : Int) d = .iface 129 (.agg #[.int .i64 (k : Int), .int .i64 d]) from by rw [motV, if_neg (by omega), if_pos (by omega)]] at q
  obtain ⟨u, hu⟩ : ∃ u, xs.getD k 0 = u := ⟨_, rfl⟩
  rw [hu] at hpk g0
  have HP := Lib.hid hpk
  have HM := Lib.hid hmo
  have HA := Lib.hid hal0
  clear hpk hmo hal0 hal hu
  obtain ⟨BV, BT, BR, hb, hz⟩ := three_new w #[.int .i64 (P : Int), .int .i64 c, .int .i64 h, .int .i64 s] #[.int .i64 (P : Int), fv f1 B, fv f2 B] #[.int .i64 0, .int .i64 0, .int .i64 0, .bool false] 35 86 56
  obtain ⟨x0, x1, x2, x3, xf, xl⟩ := BV.four
  obtain ⟨z0, z1, z2, zf, zl⟩ := BT.tri
  obtain ⟨r0, r1, r2, r3, rf, rl⟩ := BR.four
  go_enter Try.func71, Try.ntmps71
  go_wp2_with (first | (go_at_fn f1; refine (HP.out _ hb).mono ?_; rintro e w1 ⟨rfl, hb1⟩; obtain ⟨x0, x1, x2, x3, xf, xl⟩ := (BV.below hb1).four; obtain ⟨z0, z1, z2, zf, zl⟩ := (BT.below hb1).tri; obtain ⟨r0, r1, r2, r3, rf, rl⟩ := (BR.below hb1).four) | (go_at_call 81; refine (HM.out _).mono ?_; rintro e w2 ⟨rfl, hb2⟩; obtain ⟨x0, x1, x2, x3, xf, xl⟩ := (BV.below (chain hb1 hb2)).four; obtain ⟨z0, z1, z2, zf, zl⟩ := (BT.below (chain hb1 hb2)).tri; obtain ⟨r0, r1, r2, r3, rf, rl⟩ := (BR.below (chain hb1 hb2)).four) | (go_at_call 82; refine (HA.out _ (chain hb (chain hb1 hb2))).mono ?_; rintro e w3 ⟨rfl, hb3⟩; obtain ⟨x0, x1, x2, x3, xf, xl⟩ := (BV.below (chain (chain hb1 hb2) hb3)).four; obtain ⟨z0, z1, z2, zf, zl⟩ := (BT.below (chain (chain hb1 hb2) hb3)).tri; obtain ⟨r0, r1, r2, r3, rf, rl⟩ := (BR.below (chain (chain hb1 hb2) hb3)).four))
  refine bodyPost_ret (v := .tuple #[stV (0, 0, 0, false), .bool false]) (by simp [results, Try.results71, go_sem, *]) rfl ⟨(0, 0, 0, false), false, rfl, rfl, ?_⟩
  exact below_set4 (chain hb (chain (chain hb1 hb2) hb3)) (by omega) _ _ _ _
set_option maxRecDepth 8000 in
set_option maxHeartbeats 2000000 in
theorem stepFrom_move_true (P : Nat) (c h s : Int) (f1 f2 B : Nat) (xs ys : List Int) (w : World) (p0 : 2 ≤ P) (p1 : P ≤ 24) (n1 : xs.length = P + 1) (n2 : ys.length = P + 1) (hx : ∀ x ∈ xs, 0 ≤ x ∧ x ≤ 1000) (hy : ∀ y ∈ ys, 0 ≤ y ∧ y ≤ 1000) (q1 : Pays f1 B xs w) (q2 : Pays f2 B ys w) (k : Nat) (d : Int) (k1 : k ≤ P) (d0 : 1 ≤ d) (d1 : d ≤ 1000) (g0 : ¬ xs.getD k 0 = 0) (hk : k ≠ P) (hd : d ≤ (k : Int)) (hal : (decide (lastL xs xs.length < (P : Int)) && openB P ys ((k : Int) - d)) = true) (t : Nat) (v : Int) (ht : (k : Int) - d = (t : Int)) (tP : t < P) (hv : ys.getD (P - 1 - t) 0 = v) :
    Calls Try.prog 71 #[.agg #[.int .i64 (P : Int), .int .i64 c, .int .i64 h, .int .i64 s], tv (P : Int) f1 f2 B, .int .i64 (k : Int), .int .i64 d] w (StepGot (some ((k : Int), (t : Int), d, decide (0 < v))) w) := by
  have e199 := q1.1
  have hpk := fun W (hW : Below w.heap.size w W) => (q1.below hW).2 W (Below.refl _ _) k (by omega)
  have hal0 := fun W (hW : Below w.heap.size w W) => allowsMove_any P c h s f1 f2 B xs ys W p0 p1 n1 n2 hx hy (q1.below hW) (q2.below hW) (k : Int) d (by omega) (by omega) d0 d1 (by omega) (by omega)
  rw [hal] at hal0
  have hmo : ∀ W, Calls Try.prog 81 #[tv (P : Int) f1 f2 B, .int .i64 (k : Int), .int .i64 d] W fun e w' => e = .returned (.iface 129 (.agg #[.int .i64 (k : Int), .int .i64 d])) ∧ Below W.heap.size W w' := fun W => by
    have q := motionOf_any P f1 f2 B (k : Int) d W
    rwa [show motV P (k : Int) d = .iface 129 (.agg #[.int .i64 (k : Int), .int .i64 d]) from by rw [motV, if_neg (by omega), if_pos (by omega)]] at q
  obtain ⟨u, hu⟩ : ∃ u, xs.getD k 0 = u := ⟨_, rfl⟩
  rw [hu] at hpk g0
  have HP := Lib.hid hpk
  have HM := Lib.hid hmo
  have HA := Lib.hid hal0
  have hmf := fun (x : Value) (W : World) => met_moving_from x W
  have hmt := fun (x : Value) (W : World) => met_moving_to x W
  have hto := fun W => moveTo_any (k : Int) d W (by omega) (by omega) (by omega) d1
  rw [ht] at hto
  have HT := Lib.hid hto
  clear hto
  have hfk := fun W (hW : Below w.heap.size w W) => facing_any P t f1 f2 B ys W p1 tP n2 (q2.below hW)
  rw [hv] at hfk
  have HF := Lib.hid hfk
  clear hfk hv
  clear hpk hmo hal0 hal hu
  obtain ⟨BV, BT, BR, hb, hz⟩ := three_new w #[.int .i64 (P : Int), .int .i64 c, .int .i64 h, .int .i64 s] #[.int .i64 (P : Int), fv f1 B, fv f2 B] #[.int .i64 0, .int .i64 0, .int .i64 0, .bool false] 35 86 56
  obtain ⟨x0, x1, x2, x3, xf, xl⟩ := BV.four
  obtain ⟨z0, z1, z2, zf, zl⟩ := BT.tri
  obtain ⟨r0, r1, r2, r3, rf, rl⟩ := BR.four
  go_enter Try.func71, Try.ntmps71
  go_wp2_with (first | (go_at_fn f1; refine (HP.out _ hb).mono ?_; rintro e w1 ⟨rfl, hb1⟩; obtain ⟨x0, x1, x2, x3, xf, xl⟩ := (BV.below hb1).four; obtain ⟨z0, z1, z2, zf, zl⟩ := (BT.below hb1).tri; obtain ⟨r0, r1, r2, r3, rf, rl⟩ := (BR.below hb1).four) | (go_at_call 81; refine (HM.out _).mono ?_; rintro e w2 ⟨rfl, hb2⟩; obtain ⟨x0, x1, x2, x3, xf, xl⟩ := (BV.below (chain hb1 hb2)).four; obtain ⟨z0, z1, z2, zf, zl⟩ := (BT.below (chain hb1 hb2)).tri; obtain ⟨r0, r1, r2, r3, rf, rl⟩ := (BR.below (chain hb1 hb2)).four) | (go_at_call 82; refine (HA.out _ (chain hb (chain hb1 hb2))).mono ?_; rintro e w3 ⟨rfl, hb3⟩; obtain ⟨x0, x1, x2, x3, xf, xl⟩ := (BV.below (chain (chain hb1 hb2) hb3)).four; obtain ⟨z0, z1, z2, zf, zl⟩ := (BT.below (chain (chain hb1 hb2) hb3)).tri; obtain ⟨r0, r1, r2, r3, rf, rl⟩ := (BR.below (chain (chain hb1 hb2) hb3)).four) | (go_at_call 109; refine (moveFrom_any _ _ _).mono ?_; rintro e w4 ⟨rfl, hb4⟩; obtain ⟨x0, x1, x2, x3, xf, xl⟩ := (BV.below (chain (chain (chain hb1 hb2) hb3) hb4)).four; obtain ⟨z0, z1, z2, zf, zl⟩ := (BT.below (chain (chain (chain hb1 hb2) hb3) hb4)).tri; obtain ⟨r0, r1, r2, r3, rf, rl⟩ := (BR.below (chain (chain (chain hb1 hb2) hb3) hb4)).four) | (go_at_call 87; refine (HT.out _).mono ?_; rintro e w5 ⟨rfl, hb5⟩; obtain ⟨x0, x1, x2, x3, xf, xl⟩ := (BV.below (chain (chain (chain (chain hb1 hb2) hb3) hb4) hb5)).four; obtain ⟨z0, z1, z2, zf, zl⟩ := (BT.below (chain (chain (chain (chain hb1 hb2) hb3) hb4) hb5)).tri; obtain ⟨r0, r1, r2, r3, rf, rl⟩ := (BR.below (chain (chain (chain (chain hb1 hb2) hb3) hb4) hb5)).four) | (go_at_call 75; refine (HF.out _ ((chain hb (chain (chain (chain (chain hb1 hb2) hb3) hb4) hb5)).alloc (chain hb (chain (chain (chain (chain hb1 hb2) hb3) hb4) hb5)).size _)).mono ?_; rintro e w6 ⟨rfl, hb6⟩; obtain ⟨x0, x1, x2, x3, xf, xl⟩ := (BV.below (chain (chain (chain (chain (chain hb1 hb2) hb3) hb4) hb5) (from_alloc hb6))).four; obtain ⟨z0, z1, z2, zf, zl⟩ := (BT.below (chain (chain (chain (chain (chain hb1 hb2) hb3) hb4) hb5) (from_alloc hb6))).tri; obtain ⟨r0, r1, r2, r3, rf, rl⟩ := (BR.below (chain (chain (chain (chain (chain hb1 hb2) hb3) hb4) hb5) (from_alloc hb6))).four; obtain ⟨s0, s1, s2, s3, sf, sl⟩ := ((Blk.new w5 #[.int .i64 (k : Int), .int .i64 (t : Int), .int .i64 d, .bool false] 56).below hb6).four))
  refine bodyPost_ret (v := .tuple #[stV ((k : Int), (t : Int), d, decide (0 < v)), .bool true]) (by simp [results, Try.results71, go_sem, *]) rfl ⟨((k : Int), (t : Int), d, decide (0 < v)), true, rfl, rfl, ?_⟩
  exact below_set4 ((chain (chain hb (chain (chain (chain (chain hb1 hb2) hb3) hb4) hb5)) (from_alloc hb6)).setCell (chain hb (chain (chain (chain (chain hb1 hb2) hb3) hb4) hb5)).size _) (by omega) _ _ _ _
set_option maxRecDepth 8000 in
set_option maxHeartbeats 2000000 in
theorem stepFrom_off_false (P : Nat) (c h s : Int) (f1 f2 B : Nat) (xs ys : List Int) (w : World) (p0 : 2 ≤ P) (p1 : P ≤ 24) (n1 : xs.length = P + 1) (n2 : ys.length = P + 1) (hx : ∀ x ∈ xs, 0 ≤ x ∧ x ≤ 1000) (hy : ∀ y ∈ ys, 0 ≤ y ∧ y ≤ 1000) (q1 : Pays f1 B xs w) (q2 : Pays f2 B ys w) (k : Nat) (d : Int) (k1 : k ≤ P) (d0 : 1 ≤ d) (d1 : d ≤ 1000) (g0 : ¬ xs.getD k 0 = 0) (hk : k ≠ P) (hd : (k : Int) < d) (hal : (decide (lastL xs xs.length < h) && (decide ((k : Int) = d - 1) || decide ((k : Int) = lastL xs xs.length))) = false) :
    Calls Try.prog 71 #[.agg #[.int .i64 (P : Int), .int .i64 c, .int .i64 h, .int .i64 s], tv (P : Int) f1 f2 B, .int .i64 (k : Int), .int .i64 d] w (StepGot none w) := by
  have e199 := q1.1
  have hpk := fun W (hW : Below w.heap.size w W) => (q1.below hW).2 W (Below.refl _ _) k (by omega)
  have hal0 := fun W (hW : Below w.heap.size w W) => allowsOff_any P c h s f1 f2 B xs ys W p0 p1 n1 n2 hx hy (q1.below hW) (q2.below hW) (k : Int) d (by omega) (by omega) d0 d1 (by omega) (by omega)
  rw [hal] at hal0
  have hmo : ∀ W, Calls Try.prog 81 #[tv (P : Int) f1 f2 B, .int .i64 (k : Int), .int .i64 d] W fun e w' => e = .returned (.iface 130 (.agg #[.int .i64 (k : Int), .int .i64 d])) ∧ Below W.heap.size W w' := fun W => by
    have q := motionOf_any P f1 f2 B (k : Int) d W
    rwa [show motV P (k : Int) d = .iface 130 (.agg #[.int .i64 (k : Int), .int .i64 d]) from by rw [motV, if_neg (by omega), if_neg (by omega)]] at q
  obtain ⟨u, hu⟩ : ∃ u, xs.getD k 0 = u := ⟨_, rfl⟩
  rw [hu] at hpk g0
  have HP := Lib.hid hpk
  have HM := Lib.hid hmo
  have HA := Lib.hid hal0
  clear hpk hmo hal0 hal hu
  obtain ⟨BV, BT, BR, hb, hz⟩ := three_new w #[.int .i64 (P : Int), .int .i64 c, .int .i64 h, .int .i64 s] #[.int .i64 (P : Int), fv f1 B, fv f2 B] #[.int .i64 0, .int .i64 0, .int .i64 0, .bool false] 35 86 56
  obtain ⟨x0, x1, x2, x3, xf, xl⟩ := BV.four
  obtain ⟨z0, z1, z2, zf, zl⟩ := BT.tri
  obtain ⟨r0, r1, r2, r3, rf, rl⟩ := BR.four
  go_enter Try.func71, Try.ntmps71
  go_wp2_with (first | (go_at_fn f1; refine (HP.out _ hb).mono ?_; rintro e w1 ⟨rfl, hb1⟩; obtain ⟨x0, x1, x2, x3, xf, xl⟩ := (BV.below hb1).four; obtain ⟨z0, z1, z2, zf, zl⟩ := (BT.below hb1).tri; obtain ⟨r0, r1, r2, r3, rf, rl⟩ := (BR.below hb1).four) | (go_at_call 81; refine (HM.out _).mono ?_; rintro e w2 ⟨rfl, hb2⟩; obtain ⟨x0, x1, x2, x3, xf, xl⟩ := (BV.below (chain hb1 hb2)).four; obtain ⟨z0, z1, z2, zf, zl⟩ := (BT.below (chain hb1 hb2)).tri; obtain ⟨r0, r1, r2, r3, rf, rl⟩ := (BR.below (chain hb1 hb2)).four) | (go_at_call 82; refine (HA.out _ (chain hb (chain hb1 hb2))).mono ?_; rintro e w3 ⟨rfl, hb3⟩; obtain ⟨x0, x1, x2, x3, xf, xl⟩ := (BV.below (chain (chain hb1 hb2) hb3)).four; obtain ⟨z0, z1, z2, zf, zl⟩ := (BT.below (chain (chain hb1 hb2) hb3)).tri; obtain ⟨r0, r1, r2, r3, rf, rl⟩ := (BR.below (chain (chain hb1 hb2) hb3)).four))
  refine bodyPost_ret (v := .tuple #[stV (0, 0, 0, false), .bool false]) (by simp [results, Try.results71, go_sem, *]) rfl ⟨(0, 0, 0, false), false, rfl, rfl, ?_⟩
  exact below_set4 (chain hb (chain (chain hb1 hb2) hb3)) (by omega) _ _ _ _
set_option maxRecDepth 8000 in
set_option maxHeartbeats 2000000 in
theorem stepFrom_off_true (P : Nat) (c h s : Int) (f1 f2 B : Nat) (xs ys : List Int) (w : World) (p0 : 2 ≤ P) (p1 : P ≤ 24) (n1 : xs.length = P + 1) (n2 : ys.length = P + 1) (hx : ∀ x ∈ xs, 0 ≤ x ∧ x ≤ 1000) (hy : ∀ y ∈ ys, 0 ≤ y ∧ y ≤ 1000) (q1 : Pays f1 B xs w) (q2 : Pays f2 B ys w) (k : Nat) (d : Int) (k1 : k ≤ P) (d0 : 1 ≤ d) (d1 : d ≤ 1000) (g0 : ¬ xs.getD k 0 = 0) (hk : k ≠ P) (hd : (k : Int) < d) (hal : (decide (lastL xs xs.length < h) && (decide ((k : Int) = d - 1) || decide ((k : Int) = lastL xs xs.length))) = true) :
    Calls Try.prog 71 #[.agg #[.int .i64 (P : Int), .int .i64 c, .int .i64 h, .int .i64 s], tv (P : Int) f1 f2 B, .int .i64 (k : Int), .int .i64 d] w (StepGot (some ((k : Int), -1, d, false)) w) := by
  have e199 := q1.1
  have hpk := fun W (hW : Below w.heap.size w W) => (q1.below hW).2 W (Below.refl _ _) k (by omega)
  have hal0 := fun W (hW : Below w.heap.size w W) => allowsOff_any P c h s f1 f2 B xs ys W p0 p1 n1 n2 hx hy (q1.below hW) (q2.below hW) (k : Int) d (by omega) (by omega) d0 d1 (by omega) (by omega)
  rw [hal] at hal0
  have hmo : ∀ W, Calls Try.prog 81 #[tv (P : Int) f1 f2 B, .int .i64 (k : Int), .int .i64 d] W fun e w' => e = .returned (.iface 130 (.agg #[.int .i64 (k : Int), .int .i64 d])) ∧ Below W.heap.size W w' := fun W => by
    have q := motionOf_any P f1 f2 B (k : Int) d W
    rwa [show motV P (k : Int) d = .iface 130 (.agg #[.int .i64 (k : Int), .int .i64 d]) from by rw [motV, if_neg (by omega), if_neg (by omega)]] at q
  obtain ⟨u, hu⟩ : ∃ u, xs.getD k 0 = u := ⟨_, rfl⟩
  rw [hu] at hpk g0
  have HP := Lib.hid hpk
  have HM := Lib.hid hmo
  have HA := Lib.hid hal0
  have hmf := fun (x : Value) (W : World) => met_bearingOff_from x W
  have hmt := fun (x : Value) (W : World) => met_bearingOff_to x W
  have hto := fun W => offTo_any (k : Int) d W
  have HT := Lib.hid hto
  clear hto
  clear hpk hmo hal0 hal hu
  obtain ⟨BV, BT, BR, hb, hz⟩ := three_new w #[.int .i64 (P : Int), .int .i64 c, .int .i64 h, .int .i64 s] #[.int .i64 (P : Int), fv f1 B, fv f2 B] #[.int .i64 0, .int .i64 0, .int .i64 0, .bool false] 35 86 56
  obtain ⟨x0, x1, x2, x3, xf, xl⟩ := BV.four
  obtain ⟨z0, z1, z2, zf, zl⟩ := BT.tri
  obtain ⟨r0, r1, r2, r3, rf, rl⟩ := BR.four
  go_enter Try.func71, Try.ntmps71
  go_wp2_with (first | (go_at_fn f1; refine (HP.out _ hb).mono ?_; rintro e w1 ⟨rfl, hb1⟩; obtain ⟨x0, x1, x2, x3, xf, xl⟩ := (BV.below hb1).four; obtain ⟨z0, z1, z2, zf, zl⟩ := (BT.below hb1).tri; obtain ⟨r0, r1, r2, r3, rf, rl⟩ := (BR.below hb1).four) | (go_at_call 81; refine (HM.out _).mono ?_; rintro e w2 ⟨rfl, hb2⟩; obtain ⟨x0, x1, x2, x3, xf, xl⟩ := (BV.below (chain hb1 hb2)).four; obtain ⟨z0, z1, z2, zf, zl⟩ := (BT.below (chain hb1 hb2)).tri; obtain ⟨r0, r1, r2, r3, rf, rl⟩ := (BR.below (chain hb1 hb2)).four) | (go_at_call 82; refine (HA.out _ (chain hb (chain hb1 hb2))).mono ?_; rintro e w3 ⟨rfl, hb3⟩; obtain ⟨x0, x1, x2, x3, xf, xl⟩ := (BV.below (chain (chain hb1 hb2) hb3)).four; obtain ⟨z0, z1, z2, zf, zl⟩ := (BT.below (chain (chain hb1 hb2) hb3)).tri; obtain ⟨r0, r1, r2, r3, rf, rl⟩ := (BR.below (chain (chain hb1 hb2) hb3)).four) | (go_at_call 110; refine (offFrom_any _ _ _).mono ?_; rintro e w4 ⟨rfl, hb4⟩; obtain ⟨x0, x1, x2, x3, xf, xl⟩ := (BV.below (chain (chain (chain hb1 hb2) hb3) hb4)).four; obtain ⟨z0, z1, z2, zf, zl⟩ := (BT.below (chain (chain (chain hb1 hb2) hb3) hb4)).tri; obtain ⟨r0, r1, r2, r3, rf, rl⟩ := (BR.below (chain (chain (chain hb1 hb2) hb3) hb4)).four) | (go_at_call 111; refine (HT.out _).mono ?_; rintro e w5 ⟨rfl, hb5⟩; obtain ⟨x0, x1, x2, x3, xf, xl⟩ := (BV.below (chain (chain (chain (chain hb1 hb2) hb3) hb4) hb5)).four; obtain ⟨z0, z1, z2, zf, zl⟩ := (BT.below (chain (chain (chain (chain hb1 hb2) hb3) hb4) hb5)).tri; obtain ⟨r0, r1, r2, r3, rf, rl⟩ := (BR.below (chain (chain (chain (chain hb1 hb2) hb3) hb4) hb5)).four))
  refine bodyPost_ret (v := .tuple #[stV ((k : Int), -1, d, false), .bool true]) (by simp [results, Try.results71, go_sem, *]) rfl ⟨((k : Int), -1, d, false), true, rfl, rfl, ?_⟩
  exact (below_set4 (chain hb (chain (chain (chain (chain hb1 hb2) hb3) hb4) hb5)) (by omega) _ _ _ _).alloc (by simpa using (chain hb (chain (chain (chain (chain hb1 hb2) hb3) hb4) hb5)).size) _
theorem stepFrom_any (P : Nat) (c h s : Int) (f1 f2 B : Nat) (xs ys : List Int) (w : World) (p0 : 2 ≤ P) (p1 : P ≤ 24) (n1 : xs.length = P + 1) (n2 : ys.length = P + 1) (hx : ∀ x ∈ xs, 0 ≤ x ∧ x ≤ 1000) (hy : ∀ y ∈ ys, 0 ≤ y ∧ y ≤ 1000) (q1 : Pays f1 B xs w) (q2 : Pays f2 B ys w) (k : Nat) (d : Int) (k1 : k ≤ P) (d0 : 1 ≤ d) (d1 : d ≤ 1000) :
    Calls Try.prog 71 #[.agg #[.int .i64 (P : Int), .int .i64 c, .int .i64 h, .int .i64 s], tv (P : Int) f1 f2 B, .int .i64 (k : Int), .int .i64 d] w (StepGot (stepI P h xs ys k d) w) := by
  unfold stepI
  by_cases g0 : xs.getD k 0 = 0
  · rw [if_pos g0]
    exact stepFrom_none P c h s f1 f2 B xs ys w p0 p1 n1 n2 hx hy q1 q2 k d k1 g0
  rw [if_neg g0]
  have A1 : ∀ i : Int, openB P ys i = true → 0 ≤ i ∧ i < (P : Int) := fun i hi => by simp [openB] at hi; exact ⟨hi.1, hi.2.1⟩
  have D1 : ∀ t : Nat, decide ((t : Int) ≠ -1) = true := fun t => by simp
  unfold alB toI
  by_cases hk : k = P
  · subst hk
    simp only [if_true, true_or]
    cases hal : openB k ys ((k : Int) - d) with
    | false => exact stepFrom_enter_false k c h s f1 f2 B xs ys w p0 p1 n1 n2 hx hy q1 q2 d d0 d1 g0 hal
    | true =>
      obtain ⟨t0, t1⟩ := A1 _ hal
      obtain ⟨t, ht⟩ := Int.eq_ofNat_of_zero_le t0
      have q := stepFrom_enter_true k c h s f1 f2 B xs ys w p0 p1 n1 n2 hx hy q1 q2 d d0 d1 g0 hal t _ ht (by omega) rfl
      rw [if_pos rfl, ht, D1, Bool.true_and]
      exact q
  · rw [if_neg hk]
    by_cases hd : d ≤ (k : Int)
    · rw [if_pos hd, if_pos (Or.inr hd)]
      cases hal : (decide (lastL xs xs.length < (P : Int)) && openB P ys ((k : Int) - d)) with
      | false => exact stepFrom_move_false P c h s f1 f2 B xs ys w p0 p1 n1 n2 hx hy q1 q2 k d k1 d0 d1 g0 hk hd hal
      | true =>
        obtain ⟨t0, t1⟩ := A1 _ ((Bool.and_eq_true _ _).mp hal).2
        obtain ⟨t, ht⟩ := Int.eq_ofNat_of_zero_le t0
        have q := stepFrom_move_true P c h s f1 f2 B xs ys w p0 p1 n1 n2 hx hy q1 q2 k d k1 d0 d1 g0 hk hd hal t _ ht (by omega) rfl
        rw [if_pos rfl, ht, D1, Bool.true_and]
        exact q
    · rw [if_neg hd, if_neg (show ¬(k = P ∨ d ≤ (k : Int)) by simp [hk, hd])]
      cases hal : (decide (lastL xs xs.length < h) && (decide ((k : Int) = d - 1) || decide ((k : Int) = lastL xs xs.length))) with
      | false => exact stepFrom_off_false P c h s f1 f2 B xs ys w p0 p1 n1 n2 hx hy q1 q2 k d k1 d0 d1 g0 hk (by omega) hal
      | true => exact stepFrom_off_true P c h s f1 f2 B xs ys w p0 p1 n1 n2 hx hy q1 q2 k d k1 d0 d1 g0 hk (by omega) hal
end Go.Proofs.Ytodlofabffenoaa
