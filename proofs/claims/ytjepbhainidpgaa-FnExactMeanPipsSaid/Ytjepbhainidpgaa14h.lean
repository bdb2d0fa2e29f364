/- Contracts of the mean number of pips: the program and its model. -/
import Derived.Test.Ytjepbhainidpgaa14f
import Derived.Test.YtjepbhainidpgaaL01a
namespace Go.Proofs.Ytjepbhainidpgaa
open Go.ChangeShapes Go.WideShapes Go.ChangeAt Go.RowKit
set_option linter.unusedVariables false
set_option linter.unusedSimpArgs false
set_option maxRecDepth 4000

/-- The pips of a roll. -/
def pipR (ra rb : Int) : Int := if ra = rb then 4 * ra else ra + rb
set_option maxHeartbeats 1000000 in
theorem l14Pips_any (ra rb : Int) (w : World) (ha : 1 ≤ ra ∧ ra ≤ 6) (hc : 1 ≤ rb ∧ rb ≤ 6) :
    Calls Try.prog 56 #[.agg #[.int .i64 ra, .int .i64 rb]] w fun e w' => e = .returned (.int .i64 (pipR ra rb)) ∧ Below w.heap.size w w' := by
  have hb : Below w.heap.size w (w.alloc (.cells #[.int .i64 ra, .int .i64 rb] 81)) := (Below.refl _ _).alloc (Nat.le_refl _) _
  obtain ⟨x0, x1, xf, xl⟩ := (Blk.new w #[.int .i64 ra, .int .i64 rb] 81).two
  unfold pipR
  by_cases e : ra = rb
  · rw [if_pos e]
    have f0 : (ra == rb) = true := by rw [beq_iff_eq]; exact e
    have wz : IntKind.i64.wrap (4 * ra) = 4 * ra := IntWalk.i64_in _ (by omega)
    clear e
    go_enter Try.func56, Try.ntmps56
    go_wp2
    go_ret
    exact ⟨rfl, hb⟩
  · rw [if_neg e]
    have f0 : (ra == rb) = false := by rw [beq_eq_false_iff_ne]; exact e
    have wz : IntKind.i64.wrap (ra + rb) = ra + rb := IntWalk.i64_in _ (by omega)
    clear e
    go_enter Try.func56, Try.ntmps56
    go_wp2
    go_ret
    exact ⟨rfl, hb⟩
set_option maxRecDepth 8000 in
set_option maxHeartbeats 2000000 in
theorem l14Mean_any (p c h : Int) (S : Nat) (w : World) (h1 : 1 ≤ S) (h6 : S ≤ 6) :
    Calls Try.prog 31 #[.agg #[.int .i64 p, .int .i64 c, .int .i64 h, .int .i64 (S : Int)]] w fun e w' => e = .returned (.int .i64 (wpTo (rollsTo S) (rollsTo S).length)) ∧ Below w.heap.size w w' := by
  have BV := Blk.new w #[.int .i64 p, .int .i64 c, .int .i64 h, .int .i64 (S : Int)] 26
  have hb : Below w.heap.size w (w.alloc (.cells #[.int .i64 p, .int .i64 c, .int .i64 h, .int .i64 (S : Int)] 26)) := (Below.refl _ _).alloc (Nat.le_refl _) _
  have hp := fun W => l07All_any p c h S W h6
  have hbd := wpTo_bound S h6
  have hm := rollsTo_mem S
  have hlen := rollsTo_length S
  have hle2 : S * S ≤ 6 * 6 := Nat.mul_le_mul h6 h6
  have hS6 : (S : Int) ≤ 6 := by omega
  obtain ⟨R, hR⟩ : ∃ R, rollsTo S = R := ⟨_, rfl⟩
  rw [hR] at hp hbd hm hlen ⊢
  have HP := Lib.hid hp
  clear hp hR
  obtain ⟨x0, x1, x2, x3, xf, xl⟩ := BV.four
  go_enter Try.func31, Try.ntmps31
  go_wp2_with (go_at_call 54; refine (HP.out _).mono ?_; rintro e w1 ⟨a1, k1, rfl, hr, hb1⟩)
  clear x0 x1 x2 x3 xf xl BV
  have hr := hr
  replace hb := chain hb hb1
  clear hb1
  go_loopg [3, 5] R.length (fun m q i wr => ∃ k : Nat, k ≤ R.length ∧ m = R.length - k ∧ i = .int .i64 k ∧ q = .int .i64 (wpTo R k) ∧ (∃ lo hi, ORl lo hi wr a1 R) ∧ Below w.heap.size w wr)
  case atStart => exact ⟨0, by omega, by omega, rfl, rfl, ⟨_, _, hr⟩, hb⟩
  case round =>
    clear hr hb
    obtain ⟨k, hk, hm2, rfl, rfl, ⟨lo, hi, hr⟩, hb⟩ := hrel
    by_cases hlt : k < R.length
    · have hlt' : (k : Int) < (R.length : Int) := by omega
      have hk0 : (0 : Int) ≤ (k : Int) := by omega
      obtain ⟨g, rfl, rr⟩ := hr.row hlt
      obtain ⟨⟨ra, rb⟩, hrk⟩ : ∃ r, R[k]? = some r := ⟨R[k]'hlt, List.getElem?_eq_getElem hlt⟩
      obtain ⟨c0, c1⟩ := rr.two k _ hrk
      have hmem := hm _ (List.mem_of_getElem? hrk)
      dsimp only at c0 c1 hmem
      have hst := wpTo_succ R k _ hrk
      have hbk := hbd k hk
      have hww := fun W => l07Weight_any ra rb W
      have hpp := fun W => l14Pips_any ra rb W (by omega) (by omega)
      have e1 : wgR (ra, rb) = if ra = rb then 1 else 2 := rfl
      have e2 : (if (ra, rb).1 = (ra, rb).2 then 4 * (ra, rb).1 else (ra, rb).1 + (ra, rb).2) = pipR ra rb := rfl
      rw [e1, e2] at hst
      have b1 : 0 ≤ pipR ra rb ∧ pipR ra rb ≤ 24 := by unfold pipR; split <;> omega
      have b0 : 1 ≤ (if ra = rb then (1 : Int) else 2) ∧ (if ra = rb then (1 : Int) else 2) ≤ 2 := by split <;> omega
      obtain ⟨G, hG⟩ : ∃ G, (if ra = rb then (1 : Int) else 2) = G := ⟨_, rfl⟩
      obtain ⟨Q, hQ⟩ : ∃ Q, pipR ra rb = Q := ⟨_, rfl⟩
      obtain ⟨C, hC⟩ : ∃ C, wpTo R k = C := ⟨_, rfl⟩
      rw [hG] at hww hst b0
      rw [hQ] at hpp hst b1
      rw [hC] at hst hbk ⊢
      have b2 : 0 ≤ G * Q ∧ G * Q ≤ 48 := ⟨Int.mul_nonneg (by omega) b1.1, Int.le_trans (Int.mul_le_mul b0.2 b1.2 b1.1 (by omega)) (by decide)⟩
      obtain ⟨T, hT⟩ : ∃ T, G * Q = T := ⟨_, rfl⟩
      rw [hT] at hst b2
      have wz1 : IntKind.i64.wrap (G * Q) = T := by rw [hT]; exact IntWalk.i64_in _ (by omega)
      have wz2 : IntKind.i64.wrap (C + T) = C + T := IntWalk.i64_in _ (by omega)
      have HW := Lib.hid hww
      have HQ := Lib.hid hpp
      have HS := Lib.hid hst
      have HBD := Lib.hid hbd
      have HM := Lib.hid hm
      clear hww hpp hst hmem hbk e1 e2 b0 b1 b2 hG hQ hC hT hrk rr hbd hm
      go_wp2_with fail
      have hd_ : wr.drew.heap.size = wr.heap.size := rfl
      replace hr := hr.drew
      replace hb := hb.drew
      replace c0 := CellIs.drew c0
      replace c1 := CellIs.drew c1
      refine wp_region_held_drew (S := fun w' => w'.cell? ⟨g, k * 2, none⟩ = some (.int .i64 ra) ∧ w'.cell? ⟨g, k * 2 + 1, none⟩ = some (.int .i64 rb)) (by kernel_rfl) ⟨c0, c1⟩ (fun hHeld => ?_)
      clear hHeld
      generalize wr.drew = vd at *
      have hHeld : vd.cell? ⟨g, k * 2, none⟩ = some (.int .i64 ra) ∧ vd.cell? ⟨g, k * 2 + 1, none⟩ = some (.int .i64 rb) := ⟨c0, c1⟩
      refine wpAnyH_take (i := 0) (oi := { dst := some 14, op := _, type := _, pos := _, after := _, guard := _ }) (v := ?_) rfl (by kernel_rfl) (by kernel_rfl) (by kernel_rfl) (fun _ _ _ h => h) (Or.inl ⟨by rfl, ?_⟩) (by assumption) ?_
      rotate_left
      · intro w hSw
        (try dsimp only at hSw)
        go_simp
        (try (with_reducible rfl))
      try simp only [Act.put, List.setIfInBounds_toArray, List.set_cons_zero, List.set_cons_succ]
      refine wpAnyH_take (i := 1) (oi := { dst := some 15, op := _, type := _, pos := _, after := _, guard := _ }) (v := ?_) rfl (by kernel_rfl) (by kernel_rfl) (by kernel_rfl) (fun _ _ _ h => h) (Or.inl ⟨by rfl, ?_⟩) (by assumption) ?_
      rotate_left
      · intro w hSw
        (try dsimp only at hSw)
        go_simp
        (try (with_reducible rfl))
      try simp only [Act.put, List.setIfInBounds_toArray, List.set_cons_zero, List.set_cons_succ]
      refine wpAnyH_take (i := 2) (oi := { dst := some 16, op := _, type := _, pos := _, after := _, guard := _ }) (v := ?_) rfl (by kernel_rfl) (by kernel_rfl) (by kernel_rfl) (fun _ _ _ h => h) (Or.inl ⟨by rfl, ?_⟩) (by assumption) ?_
      rotate_left
      · intro w hSw
        (try dsimp only at hSw)
        go_simp
        (try (with_reducible rfl))
      try simp only [Act.put, List.setIfInBounds_toArray, List.set_cons_zero, List.set_cons_succ]
      refine wpAnyH_take (i := 3) (oi := { dst := some 17, op := _, type := _, pos := _, after := _, guard := _ }) (v := ?_) rfl (by kernel_rfl) (by kernel_rfl) (by kernel_rfl) (fun _ _ _ h => h) (Or.inl ⟨by rfl, ?_⟩) (by assumption) ?_
      rotate_left
      · intro w hSw
        (try dsimp only at hSw)
        go_simp
        (try (with_reducible rfl))
      try simp only [Act.put, List.setIfInBounds_toArray, List.set_cons_zero, List.set_cons_succ]
      refine wpAnyH_take (i := 4) (oi := { dst := some 18, op := _, type := _, pos := _, after := _, guard := _ }) (v := ?_) rfl (by kernel_rfl) (by kernel_rfl) (by kernel_rfl) (fun _ _ _ h => h) (Or.inl ⟨by rfl, ?_⟩) (by assumption) ?_
      rotate_left
      · intro w hSw
        (try dsimp only at hSw)
        go_simp
        (try (with_reducible rfl))
      try simp only [Act.put, List.setIfInBounds_toArray, List.set_cons_zero, List.set_cons_succ]
      refine wpAnyH_take (i := 6) (oi := { dst := some 20, op := _, type := _, pos := _, after := _, guard := _ }) (v := ?_) rfl (by kernel_rfl) (by kernel_rfl) (by kernel_rfl) (fun _ _ _ h => h) (Or.inl ⟨by rfl, ?_⟩) (by assumption) ?_
      rotate_left
      · intro w hSw
        (try dsimp only at hSw)
        go_simp
        (try (with_reducible rfl))
      try simp only [Act.put, List.setIfInBounds_toArray, List.set_cons_zero, List.set_cons_succ]
      refine wpAnyH_take (i := 7) (oi := { dst := some 21, op := _, type := _, pos := _, after := _, guard := _ }) (v := ?_) rfl (by kernel_rfl) (by kernel_rfl) (by kernel_rfl) (fun _ _ _ h => h) (Or.inl ⟨by rfl, ?_⟩) (by assumption) ?_
      rotate_left
      · intro w hSw
        (try dsimp only at hSw)
        go_simp
        (try (with_reducible rfl))
      try simp only [Act.put, List.setIfInBounds_toArray, List.set_cons_zero, List.set_cons_succ]
      refine wpAnyH_take (i := 8) (oi := { dst := some 22, op := _, type := _, pos := _, after := _, guard := _ }) (v := ?_) rfl (by kernel_rfl) (by kernel_rfl) (by kernel_rfl) (fun _ _ _ h => h) (Or.inl ⟨by rfl, ?_⟩) (by assumption) ?_
      rotate_left
      · intro w hSw
        (try dsimp only at hSw)
        go_simp
        (try (with_reducible rfl))
      try simp only [Act.put, List.setIfInBounds_toArray, List.set_cons_zero, List.set_cons_succ]
      refine wpAnyH_take (i := 9) (oi := { dst := some 23, op := _, type := _, pos := _, after := _, guard := _ }) (v := ?_) rfl (by kernel_rfl) (by kernel_rfl) (by kernel_rfl) (fun _ _ _ h => h) (Or.inl ⟨by rfl, ?_⟩) (by assumption) ?_
      rotate_left
      · intro w hSw
        (try dsimp only at hSw)
        go_simp
        (try (with_reducible rfl))
      try simp only [Act.put, List.setIfInBounds_toArray, List.set_cons_zero, List.set_cons_succ]
      refine wpAnyH_ready (rs := [5]) (by kernel_rfl) (by simp) ?_
      refine AllReadyH.cons (o := { dst := some 19, op := _, type := _, pos := _, after := _, guard := _ }) rfl (fun K hK => ?_) AllReadyH.nil
      go_simp
      refine (HW.out _).mono ?_
      rintro e w5 ⟨rfl, hb5⟩
      replace c0 := CellIs.below c0 hb5
      replace c1 := CellIs.below c1 hb5
      replace hr := hr.below hb5
      replace hb := chain hb hb5
      (try go_wp2_with fail)
      refine hK.out _ _ ⟨c0, c1⟩ (fun hHeld => ?_)
      clear hK K
      try simp only [Act.put, List.setIfInBounds_toArray, List.set_cons_zero, List.set_cons_succ]
      refine wpAnyH_ready (rs := [10]) (by kernel_rfl) (by simp) ?_
      refine AllReadyH.cons (o := { dst := some 24, op := _, type := _, pos := _, after := _, guard := _ }) rfl (fun K hK => ?_) AllReadyH.nil
      go_simp
      refine (HQ.out _).mono ?_
      rintro e w5 ⟨rfl, hb5⟩
      replace c0 := CellIs.below c0 hb5
      replace c1 := CellIs.below c1 hb5
      replace hr := hr.below hb5
      replace hb := chain hb hb5
      (try go_wp2_with fail)
      refine hK.out _ _ ⟨c0, c1⟩ (fun hHeld => ?_)
      clear hK K
      try simp only [Act.put, List.setIfInBounds_toArray, List.set_cons_zero, List.set_cons_succ]
      refine wpAnyH_take (i := 11) (oi := { dst := some 25, op := _, type := _, pos := _, after := _, guard := _ }) (v := ?_) rfl (by kernel_rfl) (by kernel_rfl) (by kernel_rfl) (fun _ _ _ h => h) (Or.inl ⟨by rfl, ?_⟩) (by assumption) ?_
      rotate_left
      · intro w hSw
        (try dsimp only at hSw)
        go_simp
        (try (with_reducible rfl))
      try simp only [Act.put, List.setIfInBounds_toArray, List.set_cons_zero, List.set_cons_succ]
      refine wpAnyH_take (i := 12) (oi := { dst := some 26, op := _, type := _, pos := _, after := _, guard := _ }) (v := ?_) rfl (by kernel_rfl) (by kernel_rfl) (by kernel_rfl) (fun _ _ _ h => h) (Or.inl ⟨by rfl, ?_⟩) (by assumption) ?_
      rotate_left
      · intro w hSw
        (try dsimp only at hSw)
        go_simp
        (try (with_reducible rfl))
      try simp only [Act.put, List.setIfInBounds_toArray, List.set_cons_zero, List.set_cons_succ]
      refine wpAnyH_take (i := 13) (oi := { dst := some 3, op := _, type := _, pos := _, after := _, guard := _ }) (v := ?_) rfl (by kernel_rfl) (by kernel_rfl) (by kernel_rfl) (fun _ _ _ h => h) (Or.inl ⟨by rfl, ?_⟩) (by assumption) ?_
      rotate_left
      · intro w hSw
        (try dsimp only at hSw)
        go_simp
        (try (with_reducible rfl))
      try simp only [Act.put, List.setIfInBounds_toArray, List.set_cons_zero, List.set_cons_succ]
      refine wpAnyH_done (by kernel_rfl) ?_ _
      clear hHeld
      go_wp2
      go_roundg (R.length - (k + 1))
      case measure => omega
      case rel => exact ⟨k + 1, by omega, rfl, by go_num, by rw [HS.out], ⟨_, _, hr⟩, hb⟩
    · obtain rfl : k = R.length := by omega
      have hlt' : ¬ ((R.length : Nat) : Int) < (R.length : Int) := by omega
      go_wp2
      go_ret
      exact ⟨rfl, hb⟩
theorem mean_zero (p c h s : Int) (g : ¬ vB p c h s = true) : mpI p c h s = 0 ∧ mpN p c h s = 0 := by unfold mpI mpN; rw [if_neg g, if_neg g]; exact ⟨rfl, rfl⟩
set_option maxRecDepth 8000 in
set_option maxHeartbeats 2000000 in
theorem specMeanPips_any (p c h s : Int) (w : World) :
    Calls Try.prog 10 #[.agg #[.int .i64 p, .int .i64 c, .int .i64 h, .int .i64 s]] w fun e w' => e = .returned (.tuple #[.int .i64 (mpI p c h s), .int .i64 (mpN p c h s)]) ∧ Below w.heap.size w w' := by
  have hv0 := fun W => specIsVariant_any p c h s W
  by_cases g : vB p c h s = true
  · have hv := vB_iff.1 g
    have s1 : 1 ≤ s := hv.2.2.2.2.2.2.1
    have s6 : s ≤ 6 := hv.2.2.2.2.2.2.2
    unfold mpI mpN
    rw [if_pos g, if_pos g]
    rw [g] at hv0
    obtain ⟨S, rfl⟩ := Int.eq_ofNat_of_zero_le (by omega : 0 ≤ s)
    have e9 : ((S : Nat) : Int).toNat = S := by omega
    rw [e9]
    have hq := fun W => l14Mean_any p c h S W (by omega) (by omega)
    rw [(wp_pp S (by omega) (by omega)).1] at hq
    obtain ⟨X, hX⟩ : ∃ X, ppTo (prs S) (prs S).length = X := ⟨_, rfl⟩
    rw [hX] at hq ⊢
    have b2 : 0 ≤ (S : Int) * S ∧ (S : Int) * S ≤ 36 := ⟨Int.mul_nonneg (by omega) (by omega), Int.le_trans (Int.mul_le_mul s6 s6 (by omega) (by omega)) (by decide)⟩
    obtain ⟨Z, hZ⟩ : ∃ Z, (S : Int) * S = Z := ⟨_, rfl⟩
    rw [hZ] at b2 ⊢
    have wz : IntKind.i64.wrap ((S : Int) * S) = Z := by rw [hZ]; exact IntWalk.i64_in _ (by omega)
    have HV := Lib.hid hv0
    have HQ := Lib.hid hq
    have BV := Blk.new w #[.int .i64 p, .int .i64 c, .int .i64 h, .int .i64 (S : Int)] 26
    have hb : Below w.heap.size w (w.alloc (.cells #[.int .i64 p, .int .i64 c, .int .i64 h, .int .i64 (S : Int)] 26)) := (Below.refl _ _).alloc (Nat.le_refl _) _
    clear hv0 hq hX hZ hv g e9
    obtain ⟨x0, x1, x2, x3, xf, xl⟩ := BV.four
    go_enter Try.func10, Try.ntmps10
    go_wp2_with (go_at_call 30; refine (HV.out _).mono ?_; rintro e w1 ⟨rfl, hb1⟩; replace BV := BV.below hb1; replace hb := chain hb hb1; clear hb1 x0 x1 x2 x3 xf xl; obtain ⟨x0, x1, x2, x3, xf, xl⟩ := BV.four)
    clear x0 x1 x2 x3 xf xl
    have hd_ : w1.drew.heap.size = w1.heap.size := rfl
    replace BV := BV.drew
    replace hb := hb.drew
    refine wp_region_held_drew (S := fun w' => w'.cell? ⟨w.heap.size, 0, none⟩ = some (.int .i64 p) ∧ w'.cell? ⟨w.heap.size, 1, none⟩ = some (.int .i64 c) ∧ w'.cell? ⟨w.heap.size, 2, none⟩ = some (.int .i64 h) ∧ w'.cell? ⟨w.heap.size, 3, none⟩ = some (.int .i64 (S : Int))) (by kernel_rfl) ⟨BV.four.1, BV.four.2.1, BV.four.2.2.1, BV.four.2.2.2.1⟩ (fun hHeld => ?_)
    clear hHeld
    generalize w1.drew = vd at *
    have hHeld : vd.cell? ⟨w.heap.size, 0, none⟩ = some (.int .i64 p) ∧ vd.cell? ⟨w.heap.size, 1, none⟩ = some (.int .i64 c) ∧ vd.cell? ⟨w.heap.size, 2, none⟩ = some (.int .i64 h) ∧ vd.cell? ⟨w.heap.size, 3, none⟩ = some (.int .i64 (S : Int)) := ⟨BV.four.1, BV.four.2.1, BV.four.2.2.1, BV.four.2.2.2.1⟩
    refine wpAnyH_take (i := 0) (oi := { dst := some 7, op := _, type := _, pos := _, after := _, guard := _ }) (v := ?_) rfl (by kernel_rfl) (by kernel_rfl) (by kernel_rfl) (fun _ _ _ h => h) (Or.inl ⟨by rfl, ?_⟩) (by assumption) ?_
    rotate_left
    · intro w hSw
      (try dsimp only at hSw)
      go_simp
      (try (with_reducible rfl))
    try simp only [Act.put, List.setIfInBounds_toArray, List.set_cons_zero, List.set_cons_succ]
    refine wpAnyH_take (i := 2) (oi := { dst := some 9, op := _, type := _, pos := _, after := _, guard := _ }) (v := ?_) rfl (by kernel_rfl) (by kernel_rfl) (by kernel_rfl) (fun _ _ _ h => h) (Or.inl ⟨by rfl, ?_⟩) (by assumption) ?_
    rotate_left
    · intro w hSw
      (try dsimp only at hSw)
      go_simp
      (try (with_reducible rfl))
    try simp only [Act.put, List.setIfInBounds_toArray, List.set_cons_zero, List.set_cons_succ]
    refine wpAnyH_take (i := 3) (oi := { dst := some 10, op := _, type := _, pos := _, after := _, guard := _ }) (v := ?_) rfl (by kernel_rfl) (by kernel_rfl) (by kernel_rfl) (fun _ _ _ h => h) (Or.inl ⟨by rfl, ?_⟩) (by assumption) ?_
    rotate_left
    · intro w hSw
      (try dsimp only at hSw)
      go_simp
      (try (with_reducible rfl))
    try simp only [Act.put, List.setIfInBounds_toArray, List.set_cons_zero, List.set_cons_succ]
    refine wpAnyH_take (i := 4) (oi := { dst := some 11, op := _, type := _, pos := _, after := _, guard := _ }) (v := ?_) rfl (by kernel_rfl) (by kernel_rfl) (by kernel_rfl) (fun _ _ _ h => h) (Or.inl ⟨by rfl, ?_⟩) (by assumption) ?_
    rotate_left
    · intro w hSw
      (try dsimp only at hSw)
      go_simp
      (try (with_reducible rfl))
    try simp only [Act.put, List.setIfInBounds_toArray, List.set_cons_zero, List.set_cons_succ]
    refine wpAnyH_take (i := 5) (oi := { dst := some 12, op := _, type := _, pos := _, after := _, guard := _ }) (v := ?_) rfl (by kernel_rfl) (by kernel_rfl) (by kernel_rfl) (fun _ _ _ h => h) (Or.inl ⟨by rfl, ?_⟩) (by assumption) ?_
    rotate_left
    · intro w hSw
      (try dsimp only at hSw)
      go_simp
      (try (with_reducible rfl))
    try simp only [Act.put, List.setIfInBounds_toArray, List.set_cons_zero, List.set_cons_succ]
    refine wpAnyH_take (i := 6) (oi := { dst := some 13, op := _, type := _, pos := _, after := _, guard := _ }) (v := ?_) rfl (by kernel_rfl) (by kernel_rfl) (by kernel_rfl) (fun _ _ _ h => h) (Or.inl ⟨by rfl, ?_⟩) (by assumption) ?_
    rotate_left
    · intro w hSw
      (try dsimp only at hSw)
      go_simp
      (try (with_reducible rfl))
    try simp only [Act.put, List.setIfInBounds_toArray, List.set_cons_zero, List.set_cons_succ]
    refine wpAnyH_ready (rs := [1]) (by kernel_rfl) (by simp) ?_
    refine AllReadyH.cons (o := { dst := some 8, op := _, type := _, pos := _, after := _, guard := _ }) rfl (fun K hK => ?_) AllReadyH.nil
    go_simp
    refine (HQ.out _).mono ?_
    rintro e w2 ⟨rfl, hb2⟩
    replace BV := BV.below hb2
    replace hb := chain hb hb2
    (try go_wp2_with fail)
    refine hK.out _ _ ⟨BV.four.1, BV.four.2.1, BV.four.2.2.1, BV.four.2.2.2.1⟩ (fun hHeld => ?_)
    clear hK K
    try simp only [Act.put, List.setIfInBounds_toArray, List.set_cons_zero, List.set_cons_succ]
    refine wpAnyH_take (i := 7) (oi := { dst := some 2, op := _, type := _, pos := _, after := _, guard := _ }) (v := ?_) rfl (by kernel_rfl) (by kernel_rfl) (by kernel_rfl) (fun _ _ _ h => h) (Or.inl ⟨by rfl, ?_⟩) (by assumption) ?_
    rotate_left
    · intro w hSw
      (try dsimp only at hSw)
      go_simp
      (try (with_reducible rfl))
    try simp only [Act.put, List.setIfInBounds_toArray, List.set_cons_zero, List.set_cons_succ]
    refine wpAnyH_take (i := 8) (oi := { dst := some 3, op := _, type := _, pos := _, after := _, guard := _ }) (v := ?_) rfl (by kernel_rfl) (by kernel_rfl) (by kernel_rfl) (fun _ _ _ h => h) (Or.inl ⟨by rfl, ?_⟩) (by assumption) ?_
    rotate_left
    · intro w hSw
      (try dsimp only at hSw)
      go_simp
      (try (with_reducible rfl))
    try simp only [Act.put, List.setIfInBounds_toArray, List.set_cons_zero, List.set_cons_succ]
    refine wpAnyH_done (by kernel_rfl) ?_ _
    clear hHeld
    go_wp2
    go_ret2
    exact ⟨rfl, hb⟩
  · obtain ⟨z1, z2⟩ := mean_zero p c h s g
    rw [z1, z2]
    replace g : vB p c h s = false := by simpa using g
    rw [g] at hv0
    have HV := Lib.hid hv0
    have BV := Blk.new w #[.int .i64 p, .int .i64 c, .int .i64 h, .int .i64 s] 26
    have hb : Below w.heap.size w (w.alloc (.cells #[.int .i64 p, .int .i64 c, .int .i64 h, .int .i64 s] 26)) := (Below.refl _ _).alloc (Nat.le_refl _) _
    clear hv0 z1 z2 g
    obtain ⟨x0, x1, x2, x3, xf, xl⟩ := BV.four
    go_enter Try.func10, Try.ntmps10
    go_wp2_with (go_at_call 30; refine (HV.out _).mono ?_; rintro e w1 ⟨rfl, hb1⟩)
    go_ret2
    exact ⟨rfl, chain hb hb1⟩
set_option maxRecDepth 8000 in
set_option maxHeartbeats 2000000 in
theorem meanPips_any (p c h s : Int) (w : World) :
    Calls Try.prog 12 #[.agg #[.int .i64 p, .int .i64 c, .int .i64 h, .int .i64 s]] w fun e w' => e = .returned (.tuple #[.int .i64 (mpI p c h s), .int .i64 (mpN p c h s)]) ∧ Below w.heap.size w w' := by
  have hv0 := fun W => valid_any p c h s W
  by_cases g : vB p c h s = true
  · have hv := vB_iff.1 g
    have s1 : 1 ≤ s := hv.2.2.2.2.2.2.1
    have s6 : s ≤ 6 := hv.2.2.2.2.2.2.2
    unfold mpI mpN
    rw [if_pos g, if_pos g]
    rw [g] at hv0
    obtain ⟨S, rfl⟩ := Int.eq_ofNat_of_zero_le (by omega : 0 ≤ s)
    have e9 : ((S : Nat) : Int).toNat = S := by omega
    rw [e9, ← (wp_pp S (by omega) (by omega)).2]
    have hq := fun W => meanPace_any p c h S W (by omega) (by omega)
    obtain ⟨X, hX⟩ : ∃ X, ppTo (prs S) (prs S).length = X := ⟨_, rfl⟩
    obtain ⟨Y, hY⟩ : ∃ Y, ddTo (prs S) (prs S).length = Y := ⟨_, rfl⟩
    obtain ⟨Z, hZ⟩ : ∃ Z, ((prs S).length : Int) = Z := ⟨_, rfl⟩
    rw [hX, hY, hZ] at hq
    rw [hX, hZ]
    have HV := Lib.hid hv0
    have HQ := Lib.hid hq
    have BV := Blk.new w #[.int .i64 p, .int .i64 c, .int .i64 h, .int .i64 (S : Int)] 26
    have hb : Below w.heap.size w (w.alloc (.cells #[.int .i64 p, .int .i64 c, .int .i64 h, .int .i64 (S : Int)] 26)) := (Below.refl _ _).alloc (Nat.le_refl _) _
    clear hv0 hq hX hY hZ hv g e9
    obtain ⟨x0, x1, x2, x3, xf, xl⟩ := BV.four
    go_enter Try.func12, Try.ntmps12
    go_wp2_with (first | (go_at_call 32; refine (HV.out _).mono ?_; rintro e w1 ⟨rfl, hb1⟩; replace BV := BV.below hb1; replace hb := chain hb hb1; clear hb1 x0 x1 x2 x3 xf xl; obtain ⟨x0, x1, x2, x3, xf, xl⟩ := BV.four) | (go_at_call 33; refine (HQ.out _).mono ?_; rintro e w2 ⟨rfl, hb2⟩; replace hb := chain hb hb2))
    clear x0 x1 x2 x3 xf xl BV hb2
    have BP := Blk.new w2 #[.int .i64 Z, .int .i64 X, .int .i64 Y] 50
    replace hb := hb.alloc hb.size (.cells #[.int .i64 Z, .int .i64 X, .int .i64 Y] 50)
    generalize (w2.alloc (.cells #[.int .i64 Z, .int .i64 X, .int .i64 Y] 50)) = w3 at *
    have hd_ : w3.drew.heap.size = w3.heap.size := rfl
    replace BP := BP.drew
    replace hb := hb.drew
    refine wp_region_held_drew (S := fun w' => w'.cell? ⟨w2.heap.size, 0, none⟩ = some (.int .i64 Z) ∧ w'.cell? ⟨w2.heap.size, 1, none⟩ = some (.int .i64 X) ∧ w'.cell? ⟨w2.heap.size, 2, none⟩ = some (.int .i64 Y)) (by kernel_rfl) ⟨BP.tri.1, BP.tri.2.1, BP.tri.2.2.1⟩ (fun hHeld => ?_)
    clear hHeld
    generalize w3.drew = vd at *
    have hHeld : vd.cell? ⟨w2.heap.size, 0, none⟩ = some (.int .i64 Z) ∧ vd.cell? ⟨w2.heap.size, 1, none⟩ = some (.int .i64 X) ∧ vd.cell? ⟨w2.heap.size, 2, none⟩ = some (.int .i64 Y) := ⟨BP.tri.1, BP.tri.2.1, BP.tri.2.2.1⟩
    refine wpAnyH_take (i := 0) (oi := { dst := some 10, op := _, type := _, pos := _, after := _, guard := _ }) (v := ?_) rfl (by kernel_rfl) (by kernel_rfl) (by kernel_rfl) (fun _ _ _ h => h) (Or.inl ⟨by rfl, ?_⟩) (by assumption) ?_
    rotate_left
    · intro w hSw
      (try dsimp only at hSw)
      go_simp
      (try (with_reducible rfl))
    try simp only [Act.put, List.setIfInBounds_toArray, List.set_cons_zero, List.set_cons_succ]
    refine wpAnyH_take (i := 1) (oi := { dst := some 11, op := _, type := _, pos := _, after := _, guard := _ }) (v := ?_) rfl (by kernel_rfl) (by kernel_rfl) (by kernel_rfl) (fun _ _ _ h => h) (Or.inl ⟨by rfl, ?_⟩) (by assumption) ?_
    rotate_left
    · intro w hSw
      (try dsimp only at hSw)
      go_simp
      (try (with_reducible rfl))
    try simp only [Act.put, List.setIfInBounds_toArray, List.set_cons_zero, List.set_cons_succ]
    refine wpAnyH_take (i := 2) (oi := { dst := some 12, op := _, type := _, pos := _, after := _, guard := _ }) (v := ?_) rfl (by kernel_rfl) (by kernel_rfl) (by kernel_rfl) (fun _ _ _ h => h) (Or.inl ⟨by rfl, ?_⟩) (by assumption) ?_
    rotate_left
    · intro w hSw
      (try dsimp only at hSw)
      go_simp
      (try (with_reducible rfl))
    try simp only [Act.put, List.setIfInBounds_toArray, List.set_cons_zero, List.set_cons_succ]
    refine wpAnyH_take (i := 3) (oi := { dst := some 13, op := _, type := _, pos := _, after := _, guard := _ }) (v := ?_) rfl (by kernel_rfl) (by kernel_rfl) (by kernel_rfl) (fun _ _ _ h => h) (Or.inl ⟨by rfl, ?_⟩) (by assumption) ?_
    rotate_left
    · intro w hSw
      (try dsimp only at hSw)
      go_simp
      (try (with_reducible rfl))
    try simp only [Act.put, List.setIfInBounds_toArray, List.set_cons_zero, List.set_cons_succ]
    refine wpAnyH_take (i := 4) (oi := { dst := some 2, op := _, type := _, pos := _, after := _, guard := _ }) (v := ?_) rfl (by kernel_rfl) (by kernel_rfl) (by kernel_rfl) (fun _ _ _ h => h) (Or.inl ⟨by rfl, ?_⟩) (by assumption) ?_
    rotate_left
    · intro w hSw
      (try dsimp only at hSw)
      go_simp
      (try (with_reducible rfl))
    try simp only [Act.put, List.setIfInBounds_toArray, List.set_cons_zero, List.set_cons_succ]
    refine wpAnyH_take (i := 5) (oi := { dst := some 3, op := _, type := _, pos := _, after := _, guard := _ }) (v := ?_) rfl (by kernel_rfl) (by kernel_rfl) (by kernel_rfl) (fun _ _ _ h => h) (Or.inl ⟨by rfl, ?_⟩) (by assumption) ?_
    rotate_left
    · intro w hSw
      (try dsimp only at hSw)
      go_simp
      (try (with_reducible rfl))
    try simp only [Act.put, List.setIfInBounds_toArray, List.set_cons_zero, List.set_cons_succ]
    refine wpAnyH_done (by kernel_rfl) ?_ _
    clear hHeld
    go_wp2
    go_ret2
    exact ⟨rfl, hb⟩
  · obtain ⟨z1, z2⟩ := mean_zero p c h s g
    rw [z1, z2]
    replace g : vB p c h s = false := by simpa using g
    rw [g] at hv0
    have HV := Lib.hid hv0
    have BV := Blk.new w #[.int .i64 p, .int .i64 c, .int .i64 h, .int .i64 s] 26
    have hb : Below w.heap.size w (w.alloc (.cells #[.int .i64 p, .int .i64 c, .int .i64 h, .int .i64 s] 26)) := (Below.refl _ _).alloc (Nat.le_refl _) _
    clear hv0 z1 z2 g
    obtain ⟨x0, x1, x2, x3, xf, xl⟩ := BV.four
    go_enter Try.func12, Try.ntmps12
    go_wp2_with (go_at_call 32; refine (HV.out _).mono ?_; rintro e w1 ⟨rfl, hb1⟩)
    go_ret2
    exact ⟨rfl, chain hb hb1⟩
end Go.Proofs.Ytjepbhainidpgaa
