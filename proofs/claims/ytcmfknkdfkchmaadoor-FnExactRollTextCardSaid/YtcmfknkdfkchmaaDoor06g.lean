/- Contracts on the texts of rolls, of the program and of its model. -/
import Derived.Test.YtcmfknkdfkchmaaDoor05h0
import Derived.Test.YtcmfknkdfkchmaaDoorL01u
import Derived.Deep.RegionHeld3
namespace Go.Proofs.YtcmfknkdfkchmaaDoor
open Go.ChangeShapes Go.WideShapes Go.ChangeAt Go.RowKit
set_option linter.unusedVariables false
set_option linter.unusedSimpArgs false

theorem fmt_strB (n : Int) (h0 : 0 ≤ n) (h1 : n < 100) : ∃ T : ByteArray, T = ⟨(num2 n).toArray⟩ ∧ T.size ≤ 2 ∧ (∀ w : World, Calls Tryd.prog 17 #[.int .i64 n, .int .i64 10] w fun e w' => e = .returned (.string T) ∧ Below w.heap.size w w') :=
  ⟨_, rfl, num2_len n, fun w => (fmt_small n h0 h1 w).mono fun e w' q => ⟨q.1, q.2 ▸ Below.refl _ _⟩⟩
/-- The text of a roll; empty if it is none of the variant. -/
def rlT (p c h s ra rb : Int) : List UInt8 := if vB p c h s = true then (if rlB s ra rb = true then num2 ra ++ num2 rb else []) else []
theorem rlB_iff {s ra rb : Int} : rlB s ra rb = true ↔ 1 ≤ ra ∧ ra ≤ s ∧ 1 ≤ rb ∧ rb ≤ ra := by
  unfold rlB inB
  simp only [Bool.and_eq_true, decide_eq_true_eq]
  omega
set_option maxRecDepth 8000 in
set_option maxHeartbeats 1000000 in
theorem rollText0_any (ra rb : Int) (w : World) (ha : 0 ≤ ra ∧ ra < 100) (hb_ : 0 ≤ rb ∧ rb < 100) :
    Calls Tryd.prog 12 #[.agg #[.int .i64 ra, .int .i64 rb]] w fun e w' => e = .returned (.string ⟨(num2 ra ++ num2 rb).toArray⟩) ∧ Below w.heap.size w w' := by
  have BR := Blk.new w #[.int .i64 ra, .int .i64 rb] 29
  have hb : Below w.heap.size w (w.alloc (.cells #[.int .i64 ra, .int .i64 rb] 29)) := (Below.refl _ _).alloc (Nat.le_refl _) _
  obtain ⟨t1, e1, s1, ka⟩ := fmt_strB ra ha.1 ha.2
  obtain ⟨t2, e2, s2, kb⟩ := fmt_strB rb hb_.1 hb_.2
  obtain ⟨t3, e3, s3, k3⟩ := cat_run s1 s2 (by omega)
  have e0 : (⟨(num2 ra ++ num2 rb).toArray⟩ : ByteArray) = t3 := by
    rw [e3, e1, e2]
    apply ByteArray.ext
    simp [ByteArray.data_append]
  rw [e0]
  have KA := Lib.hid ka
  have KB := Lib.hid kb
  clear ka kb e0 e1 e2 e3 s1 s2 s3 ha hb_
  go_enter Tryd.func12, Tryd.ntmps12
  go_wp2_with fail
  generalize w.alloc (.cells #[.int .i64 ra, .int .i64 rb] 29) = v0 at *
  replace BR := BR.drew
  replace hb := hb.drew
  refine wp_region_held_drew (S := fun w' => w'.cell? ⟨w.heap.size, 0, none⟩ = some (.int .i64 ra) ∧ w'.cell? ⟨w.heap.size, 1, none⟩ = some (.int .i64 rb) ∧ Blk w' w.heap.size #[.int .i64 ra, .int .i64 rb] 29 ∧ Below w.heap.size w w') (by kernel_rfl) ⟨BR.two.1, BR.two.2.1, BR, hb⟩ (fun hHeld => ?_)
  refine wpAnyH_take (i := 0) (oi := { dst := some 3, op := _, type := _, pos := _, after := _, guard := _ }) (v := ?_) rfl (by kernel_rfl) (by kernel_rfl) (by kernel_rfl) (fun _ _ _ h => h) (Or.inl ⟨by rfl, ?_⟩) (by assumption) ?_
  rotate_left
  · intro w hSw
    (try dsimp only at hSw)
    go_simp
    (try (with_reducible rfl))
  try simp only [Act.put, List.setIfInBounds_toArray, List.set_cons_zero, List.set_cons_succ]
  refine wpAnyH_take (i := 1) (oi := { dst := some 4, op := _, type := _, pos := _, after := _, guard := _ }) (v := ?_) rfl (by kernel_rfl) (by kernel_rfl) (by kernel_rfl) (fun _ _ _ h => h) (Or.inl ⟨by rfl, ?_⟩) (by assumption) ?_
  rotate_left
  · intro w hSw
    (try dsimp only at hSw)
    go_simp
    (try (with_reducible rfl))
  try simp only [Act.put, List.setIfInBounds_toArray, List.set_cons_zero, List.set_cons_succ]
  refine wpAnyH_take (i := 3) (oi := { dst := some 6, op := _, type := _, pos := _, after := _, guard := _ }) (v := ?_) rfl (by kernel_rfl) (by kernel_rfl) (by kernel_rfl) (fun _ _ _ h => h) (Or.inl ⟨by rfl, ?_⟩) (by assumption) ?_
  rotate_left
  · intro w hSw
    (try dsimp only at hSw)
    go_simp
    (try (with_reducible rfl))
  try simp only [Act.put, List.setIfInBounds_toArray, List.set_cons_zero, List.set_cons_succ]
  refine wpAnyH_take (i := 4) (oi := { dst := some 7, op := _, type := _, pos := _, after := _, guard := _ }) (v := ?_) rfl (by kernel_rfl) (by kernel_rfl) (by kernel_rfl) (fun _ _ _ h => h) (Or.inl ⟨by rfl, ?_⟩) (by assumption) ?_
  rotate_left
  · intro w hSw
    (try dsimp only at hSw)
    go_simp
    (try (with_reducible rfl))
  try simp only [Act.put, List.setIfInBounds_toArray, List.set_cons_zero, List.set_cons_succ]
  refine wpAnyH_ready (rs := [2]) (by kernel_rfl) (by simp) ?_
  refine AllReadyH.cons (o := { dst := some 5, op := _, type := _, pos := _, after := _, guard := _ }) rfl (fun K hK => ?_) AllReadyH.nil
  go_simp
  -- call
  have BR := hHeld.2.2.1
  have hb := hHeld.2.2.2
  clear hHeld
  refine (KA.out _).mono ?_
  rintro e wq1 ⟨rfl, hq1⟩
  replace BR := BR.below hq1
  replace hb := chain hb hq1
  (try go_wp2_with fail)
  refine hK.out _ _ ⟨BR.two.1, BR.two.2.1, BR, hb⟩ (fun hHeld => ?_)
  clear hK K
  try simp only [Act.put, List.setIfInBounds_toArray, List.set_cons_zero, List.set_cons_succ]
  refine wpAnyH_ready (rs := [5]) (by kernel_rfl) (by simp) ?_
  refine AllReadyH.cons (o := { dst := some 8, op := _, type := _, pos := _, after := _, guard := _ }) rfl (fun K hK => ?_) AllReadyH.nil
  go_simp
  -- call
  have BR := hHeld.2.2.1
  have hb := hHeld.2.2.2
  clear hHeld
  refine (KB.out _).mono ?_
  rintro e wq2 ⟨rfl, hq2⟩
  replace BR := BR.below hq2
  replace hb := chain hb hq2
  (try go_wp2_with fail)
  refine hK.out _ _ ⟨BR.two.1, BR.two.2.1, BR, hb⟩ (fun hHeld => ?_)
  clear hK K
  try simp only [Act.put, List.setIfInBounds_toArray, List.set_cons_zero, List.set_cons_succ]
  refine wpAnyH_take (i := 6) (oi := { dst := some 9, op := _, type := _, pos := _, after := _, guard := _ }) (v := ?_) rfl (by kernel_rfl) (by kernel_rfl) (by kernel_rfl) (fun _ _ _ h => h) (Or.inl ⟨by rfl, ?_⟩) (by assumption) ?_
  rotate_left
  · intro w hSw
    (try dsimp only at hSw)
    go_simp
    (try (with_reducible rfl))
  try simp only [Act.put, List.setIfInBounds_toArray, List.set_cons_zero, List.set_cons_succ]
  refine wpAnyH_take (i := 7) (oi := { dst := some 2, op := _, type := _, pos := _, after := _, guard := _ }) (v := ?_) rfl (by kernel_rfl) (by kernel_rfl) (by kernel_rfl) (fun _ _ _ h => h) (Or.inl ⟨by rfl, ?_⟩) (by assumption) ?_
  rotate_left
  · intro w hSw
    (try dsimp only at hSw)
    go_simp
    (try (with_reducible rfl))
  try simp only [Act.put, List.setIfInBounds_toArray, List.set_cons_zero, List.set_cons_succ]
  refine wpAnyH_done (by kernel_rfl) ?_ _
  have BR := hHeld.2.2.1
  have hb := hHeld.2.2.2
  clear hHeld
  go_wp2
  go_ret
  exact ⟨rfl, hb⟩
set_option maxRecDepth 8000 in
set_option maxHeartbeats 1000000 in
theorem rollText_any (p c h s ra rb : Int) (w : World) :
    Calls Tryd.prog 7 #[.agg #[.int .i64 p, .int .i64 c, .int .i64 h, .int .i64 s], .agg #[.int .i64 ra, .int .i64 rb]] w fun e w' => e = .returned (.string ⟨(rlT p c h s ra rb).toArray⟩) ∧ Below w.heap.size w w' := by
  obtain ⟨BV, BR, hb, hz⟩ := two_new w #[.int .i64 p, .int .i64 c, .int .i64 h, .int .i64 s] #[.int .i64 ra, .int .i64 rb] 27 29
  clear hz
  obtain ⟨x0, x1, x2, x3, xf, xl⟩ := BV.four
  obtain ⟨z0, z1, zf, zl⟩ := BR.two
  unfold rlT
  have hv := fun W => valid_any p c h s W
  by_cases g : vB p c h s = true
  · rw [if_pos g]
    rw [g] at hv
    have HV := Lib.hid hv
    clear hv
    have hp := fun W => hasRoll_any p c h s ra rb W
    by_cases g0 : rlB s ra rb = true
    · rw [if_pos g0]
      rw [g0] at hp
      have HP := Lib.hid hp
      clear hp
      have hs6 := vB_iff.1 g
      have hr := rlB_iff.1 g0
      have ht := fun W => rollText0_any ra rb W (by omega) (by omega)
      obtain ⟨T, hT⟩ : ∃ T : ByteArray, T = ⟨(num2 ra ++ num2 rb).toArray⟩ := ⟨_, rfl⟩
      rw [← hT] at ht ⊢
      have HT := Lib.hid ht
      clear ht hT g g0 hs6 hr
      go_enter Tryd.func7, Tryd.ntmps7
      go_wp2_with (first | (go_at_call 10; refine (HV.out _).mono ?_; clear HV; rintro e w1 ⟨rfl, hb1⟩; obtain ⟨x0, x1, x2, x3, xf, xl⟩ := (BV.below hb1).four; obtain ⟨z0, z1, zf, zl⟩ := (BR.below hb1).two) | (go_at_call 11; refine (HP.out _).mono ?_; clear HP; rintro e w2 ⟨rfl, hb2⟩; obtain ⟨x0, x1, x2, x3, xf, xl⟩ := (BV.below (chain hb1 hb2)).four; obtain ⟨z0, z1, zf, zl⟩ := (BR.below (chain hb1 hb2)).two) | (go_at_call 12; refine (HT.out _).mono ?_; clear HT; rintro e w3 ⟨rfl, hb3⟩))
      go_ret
      exact ⟨rfl, chain (chain (chain hb hb1) hb2) hb3⟩
    · rw [if_neg g0]
      replace g0 : rlB s ra rb = false := by simpa using g0
      rw [g0] at hp
      have HP := Lib.hid hp
      clear hp g g0
      go_enter Tryd.func7, Tryd.ntmps7
      go_wp2_with (first | (go_at_call 10; refine (HV.out _).mono ?_; clear HV; rintro e w1 ⟨rfl, hb1⟩; obtain ⟨x0, x1, x2, x3, xf, xl⟩ := (BV.below hb1).four; obtain ⟨z0, z1, zf, zl⟩ := (BR.below hb1).two) | (go_at_call 11; refine (HP.out _).mono ?_; clear HP; rintro e w2 ⟨rfl, hb2⟩; obtain ⟨x0, x1, x2, x3, xf, xl⟩ := (BV.below (chain hb1 hb2)).four; obtain ⟨z0, z1, zf, zl⟩ := (BR.below (chain hb1 hb2)).two))
      go_ret
      exact ⟨rfl, chain (chain hb hb1) hb2⟩
  · rw [if_neg g]
    replace g : vB p c h s = false := by simpa using g
    rw [g] at hv
    have HV := Lib.hid hv
    clear hv g
    go_enter Tryd.func7, Tryd.ntmps7
    go_wp2_with (first | (go_at_call 10; refine (HV.out _).mono ?_; clear HV; rintro e w1 ⟨rfl, hb1⟩; obtain ⟨x0, x1, x2, x3, xf, xl⟩ := (BV.below hb1).four; obtain ⟨z0, z1, zf, zl⟩ := (BR.below hb1).two))
    go_ret
    exact ⟨rfl, chain hb hb1⟩
set_option maxRecDepth 8000 in
set_option maxHeartbeats 1000000 in
theorem isRoll_no (p c h s ra rb : Int) (w : World) (g : vB p c h s = false) :
    Calls Tryd.prog 8 #[.agg #[.int .i64 p, .int .i64 c, .int .i64 h, .int .i64 s], .agg #[.int .i64 ra, .int .i64 rb]] w fun e w' => e = .returned (.bool false) ∧ Below w.heap.size w w' := by
  obtain ⟨BV, BR, hb, hz⟩ := two_new w #[.int .i64 p, .int .i64 c, .int .i64 h, .int .i64 s] #[.int .i64 ra, .int .i64 rb] 27 29
  clear hz
  obtain ⟨x0, x1, x2, x3, xf, xl⟩ := BV.four
  obtain ⟨z0, z1, zf, zl⟩ := BR.two
  have hV := fun W => specIsVariant_any p c h s W
  rw [g] at hV
  have HV := Lib.hid hV
  clear hV g
  go_enter Tryd.func8, Tryd.ntmps8
  go_wp2_with (first | (go_at_call 13; refine (HV.out _).mono ?_; rintro e w1 ⟨rfl, hb1⟩; obtain ⟨x0, x1, x2, x3, xf, xl⟩ := (BV.below hb1).four; obtain ⟨z0, z1, zf, zl⟩ := (BR.below hb1).two))
  go_ret
  exact ⟨rfl, chain hb hb1⟩

set_option maxRecDepth 8000 in
set_option maxHeartbeats 1000000 in
theorem specRollText_any (p c h s ra rb : Int) (w : World) :
    Calls Tryd.prog 4 #[.agg #[.int .i64 p, .int .i64 c, .int .i64 h, .int .i64 s], .agg #[.int .i64 ra, .int .i64 rb]] w fun e w' => e = .returned (.string ⟨(rlT p c h s ra rb).toArray⟩) ∧ Below w.heap.size w w' := by
  obtain ⟨BV, BR, hb, hz⟩ := two_new w #[.int .i64 p, .int .i64 c, .int .i64 h, .int .i64 s] #[.int .i64 ra, .int .i64 rb] 27 29
  clear hz
  obtain ⟨x0, x1, x2, x3, xf, xl⟩ := BV.four
  obtain ⟨z0, z1, zf, zl⟩ := BR.two
  unfold rlT
  by_cases g : vB p c h s = true
  · rw [if_pos g]
    have hp := fun W => isRoll_any p c h s ra rb W g
    by_cases g0 : rlB s ra rb = true
    · rw [if_pos g0]
      rw [g0] at hp
      have HP := Lib.hid hp
      clear hp
      have hs6 := vB_iff.1 g
      have hr := rlB_iff.1 g0
      obtain ⟨t1, e1, s1, ka⟩ := num2_str ra (by omega) (by omega)
      obtain ⟨t2, e2, s2, kb⟩ := num2_str rb (by omega) (by omega)
      obtain ⟨t3, e3, s3, k3⟩ := cat_run s1 s2 (by omega)
      have e0 : (⟨(num2 ra ++ num2 rb).toArray⟩ : ByteArray) = t3 := by
        rw [e3, e1, e2]
        apply ByteArray.ext
        simp [ByteArray.data_append]
      rw [e0]
      have KA := Lib.hid ka
      have KB := Lib.hid kb
      clear ka kb e0 e1 e2 e3 s1 s2 s3 g g0 hs6 hr
      go_enter Tryd.func4, Tryd.ntmps4
      go_wp2_with fail
      clear x0 x1 x2 x3 xf xl z0 z1 zf zl
      refine (HP.out _).mono ?_
      rintro e v0 ⟨rfl, hb1⟩
      replace BV := BV.below hb1
      replace BR := BR.below hb1
      replace hb := chain hb hb1
      clear hb1
      obtain ⟨x0, x1, x2, x3, xf, xl⟩ := BV.four
      obtain ⟨z0, z1, zf, zl⟩ := BR.two
      go_wp2_with fail
      clear x0 x1 x2 x3 xf xl z0 z1 zf zl
      replace BV := BV.drew
      replace BR := BR.drew
      replace hb := hb.drew
      refine wp_region_held_drew (S := fun w' => w'.cell? ⟨w.heap.size, 0, none⟩ = some (.int .i64 p) ∧ w'.cell? ⟨w.heap.size, 1, none⟩ = some (.int .i64 c) ∧ w'.cell? ⟨w.heap.size, 2, none⟩ = some (.int .i64 h) ∧ w'.cell? ⟨w.heap.size, 3, none⟩ = some (.int .i64 s) ∧ w'.cell? ⟨(w.heap.size + 1), 0, none⟩ = some (.int .i64 ra) ∧ w'.cell? ⟨(w.heap.size + 1), 1, none⟩ = some (.int .i64 rb) ∧ Blk w' w.heap.size #[.int .i64 p, .int .i64 c, .int .i64 h, .int .i64 s] 27 ∧ Blk w' ((w.heap.size + 1)) #[.int .i64 ra, .int .i64 rb] 29 ∧ Below w.heap.size w w') (by kernel_rfl) ⟨BV.four.1, BV.four.2.1, BV.four.2.2.1, BV.four.2.2.2.1, BR.two.1, BR.two.2.1, BV, BR, hb⟩ (fun hHeld => ?_)
      refine wpAnyH_take (i := 0) (oi := { dst := some 9, op := _, type := _, pos := _, after := _, guard := _ }) (v := ?_) rfl (by kernel_rfl) (by kernel_rfl) (by kernel_rfl) (fun _ _ _ h => h) (Or.inl ⟨by rfl, ?_⟩) (by assumption) ?_
      rotate_left
      · intro w hSw
        (try dsimp only at hSw)
        go_simp
        (try (with_reducible rfl))
      try simp only [Act.put, List.setIfInBounds_toArray, List.set_cons_zero, List.set_cons_succ]
      refine wpAnyH_take (i := 1) (oi := { dst := some 10, op := _, type := _, pos := _, after := _, guard := _ }) (v := ?_) rfl (by kernel_rfl) (by kernel_rfl) (by kernel_rfl) (fun _ _ _ h => h) (Or.inl ⟨by rfl, ?_⟩) (by assumption) ?_
      rotate_left
      · intro w hSw
        (try dsimp only at hSw)
        go_simp
        (try (with_reducible rfl))
      try simp only [Act.put, List.setIfInBounds_toArray, List.set_cons_zero, List.set_cons_succ]
      refine wpAnyH_take (i := 3) (oi := { dst := some 12, op := _, type := _, pos := _, after := _, guard := _ }) (v := ?_) rfl (by kernel_rfl) (by kernel_rfl) (by kernel_rfl) (fun _ _ _ h => h) (Or.inl ⟨by rfl, ?_⟩) (by assumption) ?_
      rotate_left
      · intro w hSw
        (try dsimp only at hSw)
        go_simp
        (try (with_reducible rfl))
      try simp only [Act.put, List.setIfInBounds_toArray, List.set_cons_zero, List.set_cons_succ]
      refine wpAnyH_take (i := 4) (oi := { dst := some 13, op := _, type := _, pos := _, after := _, guard := _ }) (v := ?_) rfl (by kernel_rfl) (by kernel_rfl) (by kernel_rfl) (fun _ _ _ h => h) (Or.inl ⟨by rfl, ?_⟩) (by assumption) ?_
      rotate_left
      · intro w hSw
        (try dsimp only at hSw)
        go_simp
        (try (with_reducible rfl))
      try simp only [Act.put, List.setIfInBounds_toArray, List.set_cons_zero, List.set_cons_succ]
      refine wpAnyH_ready (rs := [2]) (by kernel_rfl) (by simp) ?_
      refine AllReadyH.cons (o := { dst := some 11, op := _, type := _, pos := _, after := _, guard := _ }) rfl (fun K hK => ?_) AllReadyH.nil
      go_simp
      -- call
      have BV := hHeld.2.2.2.2.2.2.1
      have BR := hHeld.2.2.2.2.2.2.2.1
      have hb := hHeld.2.2.2.2.2.2.2.2
      clear hHeld
      refine (KA.out _).mono ?_
      rintro e wq1 ⟨rfl, hq1⟩
      replace BV := BV.below hq1
      replace BR := BR.below hq1
      replace hb := chain hb hq1
      (try go_wp2_with fail)
      refine hK.out _ _ ⟨BV.four.1, BV.four.2.1, BV.four.2.2.1, BV.four.2.2.2.1, BR.two.1, BR.two.2.1, BV, BR, hb⟩ (fun hHeld => ?_)
      clear hK K
      try simp only [Act.put, List.setIfInBounds_toArray, List.set_cons_zero, List.set_cons_succ]
      refine wpAnyH_ready (rs := [5]) (by kernel_rfl) (by simp) ?_
      refine AllReadyH.cons (o := { dst := some 14, op := _, type := _, pos := _, after := _, guard := _ }) rfl (fun K hK => ?_) AllReadyH.nil
      go_simp
      -- call
      have BV := hHeld.2.2.2.2.2.2.1
      have BR := hHeld.2.2.2.2.2.2.2.1
      have hb := hHeld.2.2.2.2.2.2.2.2
      clear hHeld
      refine (KB.out _).mono ?_
      rintro e wq2 ⟨rfl, hq2⟩
      replace BV := BV.below hq2
      replace BR := BR.below hq2
      replace hb := chain hb hq2
      (try go_wp2_with fail)
      refine hK.out _ _ ⟨BV.four.1, BV.four.2.1, BV.four.2.2.1, BV.four.2.2.2.1, BR.two.1, BR.two.2.1, BV, BR, hb⟩ (fun hHeld => ?_)
      clear hK K
      try simp only [Act.put, List.setIfInBounds_toArray, List.set_cons_zero, List.set_cons_succ]
      refine wpAnyH_take (i := 6) (oi := { dst := some 15, op := _, type := _, pos := _, after := _, guard := _ }) (v := ?_) rfl (by kernel_rfl) (by kernel_rfl) (by kernel_rfl) (fun _ _ _ h => h) (Or.inl ⟨by rfl, ?_⟩) (by assumption) ?_
      rotate_left
      · intro w hSw
        (try dsimp only at hSw)
        go_simp
        (try (with_reducible rfl))
      try simp only [Act.put, List.setIfInBounds_toArray, List.set_cons_zero, List.set_cons_succ]
      refine wpAnyH_take (i := 7) (oi := { dst := some 4, op := _, type := _, pos := _, after := _, guard := _ }) (v := ?_) rfl (by kernel_rfl) (by kernel_rfl) (by kernel_rfl) (fun _ _ _ h => h) (Or.inl ⟨by rfl, ?_⟩) (by assumption) ?_
      rotate_left
      · intro w hSw
        (try dsimp only at hSw)
        go_simp
        (try (with_reducible rfl))
      try simp only [Act.put, List.setIfInBounds_toArray, List.set_cons_zero, List.set_cons_succ]
      refine wpAnyH_done (by kernel_rfl) ?_ _
      have BV := hHeld.2.2.2.2.2.2.1
      have BR := hHeld.2.2.2.2.2.2.2.1
      have hb := hHeld.2.2.2.2.2.2.2.2
      clear hHeld
      go_wp2
      go_ret
      exact ⟨rfl, hb⟩
    · rw [if_neg g0]
      replace g0 : rlB s ra rb = false := by simpa using g0
      rw [g0] at hp
      have HP := Lib.hid hp
      clear hp g g0
      go_enter Tryd.func4, Tryd.ntmps4
      go_wp2_with (first | (go_at_call 8; refine (HP.out _).mono ?_; clear HP; rintro e w1 ⟨rfl, hb1⟩))
      go_ret
      exact ⟨rfl, chain hb hb1⟩
  · rw [if_neg g]
    replace g : vB p c h s = false := by simpa using g
    have hp := fun W => isRoll_no p c h s ra rb W g
    have HP := Lib.hid hp
    clear hp g
    go_enter Tryd.func4, Tryd.ntmps4
    go_wp2_with (first | (go_at_call 8; refine (HP.out _).mono ?_; clear HP; rintro e w1 ⟨rfl, hb1⟩))
    go_ret
    exact ⟨rfl, chain hb hb1⟩
theorem toRoll_any (ra rb : Int) (w : World) :
    Calls Tryd.prog 6 #[.agg #[.int .i64 ra, .int .i64 rb]] w fun e w' => e = .returned (.agg #[.int .i64 ra, .int .i64 rb]) ∧ Below w.heap.size w w' := by
  go_enter Tryd.func6, Tryd.ntmps6
  go_wp2
  refine bodyPost_ret (v := .agg #[.int .i64 ra, .int .i64 rb]) (by simp [results, Tryd.results6, go_sem]) rfl ⟨rfl, ?_⟩
  exact (((Below.refl _ _).alloc (Nat.le_refl _) _).alloc (by simp) _).alloc (by simp; omega) _
end Go.Proofs.YtcmfknkdfkchmaaDoor
