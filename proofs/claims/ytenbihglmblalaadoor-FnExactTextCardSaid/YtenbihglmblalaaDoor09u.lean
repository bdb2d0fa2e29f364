/- Contracts of the program's millionths. -/
import Derived.Test.YtenbihglmblalaaDoor09t
import Derived.Test.YtenbihglmblalaaDoor09m
import Derived.Deep.Cut
namespace Go.Proofs.YtenbihglmblalaaDoor
open Go.ChangeShapes Go.WideShapes Go.ChangeAt Go.RowKit
set_option linter.unusedVariables false
set_option linter.unusedSimpArgs false
set_option maxRecDepth 4000

/-- The millionths of a number, with a code. -/
def mlV (S : Nat) (xn xd : Int) : Int × Int :=
  if -(1000 * ((scN S xd.toNat : Nat) : Int)) ≤ xn ∧ xn ≤ 1000 * ((scN S xd.toNat : Nat) : Int) then (xn * 1000000 / ((scN S xd.toNat : Nat) : Int), 0) else (0, 3)
set_option maxRecDepth 8000 in
set_option maxHeartbeats 1000000 in
theorem millionths_any (b S : Nat) (hS : 1 ≤ S ∧ S ≤ 6) (xn xd : Int) (hx : -1000000000000000000 ≤ xn ∧ xn ≤ 1000000000000000000) (hd : 0 ≤ xd ∧ xd < ((nn S : Nat) : Int)) (w : World) (HS : ScM w b S (nn S)) :
    Calls Tryd.prog 24 #[.map (some b), .agg #[.int .i64 xn, .int .i64 xd]] w fun e w' => e = .returned (.tuple #[.int .i64 (mlV S xn xd).1, .int .i64 (mlV S xn xd).2]) ∧ Below w.heap.size w w' := by
  have hn := nn_range hS
  have esc := scA_is (S := S) hd
  have hle := scN_in hS (show xd.toNat < nn S by omega)
  have hpos := scN_pos hS.1 xd.toNat
  have hsp := fun W H => split_any b S hS xn xd hx hd W H
  unfold mlV
  obtain ⟨Cn, hCn⟩ : ∃ Cn, scN S xd.toNat = Cn := ⟨_, rfl⟩
  rw [hCn] at esc hle hpos hsp ⊢
  obtain ⟨C, hC⟩ : ∃ C : Int, ((Cn : Nat) : Int) = C := ⟨_, rfl⟩
  rw [hC] at esc hsp ⊢
  obtain ⟨C1, C2⟩ : 1 ≤ C ∧ C ≤ 1000000000000000 := by omega
  have hr : -9223372036854775808 ≤ xd ∧ xd ≤ 9223372036854775807 := by omega
  have BX := Blk.new w #[.int .i64 xn, .int .i64 xd] 27
  have hb : Below w.heap.size w (w.alloc (.cells #[.int .i64 xn, .int .i64 xd] 27)) := (Below.refl _ _).alloc (Nat.le_refl _) _
  replace HS := HS.alloc (.cells #[.int .i64 xn, .int .i64 xd] 27)
  obtain ⟨x0, x1, xf, xl⟩ := BX.two
  by_cases c1 : xn < -(1000 * C)
  · rw [if_neg (by omega)]
    clear hsp
    go_enter Tryd.func24, Tryd.ntmps24
    go_wp2_with (at_lookup; refine wp_scale _ rfl _ _ rfl b S (nn S) rfl HS _ rfl hr ?_)
    go_ret2
    exact ⟨rfl, hb⟩
  · by_cases c2 : 1000 * C < xn
    · rw [if_neg (by omega)]
      clear hsp
      go_enter Tryd.func24, Tryd.ntmps24
      go_wp2_with (at_lookup; refine wp_scale _ rfl _ _ rfl b S (nn S) rfl HS _ rfl hr ?_)
      go_ret2
      exact ⟨rfl, hb⟩
    · rw [if_pos (by omega)]
      have r0 := Int.emod_nonneg xn (show C ≠ 0 by omega)
      have r1 := Int.emod_lt_of_pos xn (show 0 < C by omega)
      have w0 : -1000 ≤ xn / C := Int.le_ediv_of_mul_le (by omega) (by omega)
      have w1_ : xn / C ≤ 1000 := Int.ediv_le_of_le_mul (by omega) (by omega)
      have hform : xn * 1000000 / C = 1000000 * (xn / C) + xn % C * 1000000 / C := by
        have h1 := Int.mul_ediv_add_emod xn C
        have h2 : xn * 1000000 = xn % C * 1000000 + C * (1000000 * (xn / C)) := by
          conv => lhs; rw [← h1, Int.add_mul]
          rw [Int.add_comm]
          congr 1
          simp only [Int.mul_assoc, Int.mul_comm, Int.mul_left_comm]
        rw [h2, Int.add_mul_ediv_left _ _ (show C ≠ 0 by omega), Int.add_comm]
      rw [hform]
      obtain ⟨Q, hQ⟩ : ∃ Q, xn / C = Q := ⟨_, rfl⟩
      obtain ⟨R, hR⟩ : ∃ R, xn % C = R := ⟨_, rfl⟩
      rw [hQ] at hsp w0 w1_ ⊢
      rw [hR] at hsp r0 r1 ⊢
      have hg : ngB R 1000000 = false := by unfold ngB; rw [decide_eq_false (by omega), decide_eq_false (by omega)]; rfl
      have hp := fun W => product_any R 1000000 (by omega) (by omega) W
      rw [hg] at hp
      obtain ⟨m, hm⟩ : ∃ m, R.natAbs * (1000000 : Int).natAbs = m := ⟨_, rfl⟩
      have hm2 : R.natAbs * 1000000 = m := hm
      rw [hm] at hp
      have hdv := fun W hh ll H => divided_any false hh ll m Cn H (by omega) W
      obtain ⟨RM, hRM⟩ : ∃ x : Int, ((m % Cn : Nat) : Int) = x := ⟨_, rfl⟩
      rw [hRM, hC] at hdv
      have hq6 : m / Cn < 1000000 := by
        rw [Nat.div_lt_iff_lt_mul (by omega), ← hm2]
        omega
      have hna := fun W hh ll H => narrow_any false hh ll (m / Cn) H (by omega) W
      have hval : sgM false (m / Cn) = R * 1000000 / C := by
        unfold sgM
        rw [if_neg (by simp), Int.natCast_ediv, hC]
        congr 1
        omega
      rw [hval] at hna
      have hvb : 0 ≤ R * 1000000 / C ∧ R * 1000000 / C ≤ 1000000 := by
        rw [← hval]
        unfold sgM
        rw [if_neg (by simp)]
        exact ⟨Int.natCast_nonneg _, Int.ofNat_le.2 (Nat.le_of_lt hq6)⟩
      obtain ⟨Z, hZ⟩ : ∃ Z, R * 1000000 / C = Z := ⟨_, rfl⟩
      rw [hZ] at hna hvb ⊢
      have HSP := Lib.hid hsp
      have HP := Lib.hid hp
      have HD : Hid (∀ (W : World) hh ll, WD hh ll m → Calls Tryd.prog 40 #[.agg #[.bool false, .int .u64 hh, .int .u64 ll], .int .i64 C] W fun e w' => ∃ h2 l2, e = .returned (.tuple #[.agg #[.bool false, .int .u64 h2, .int .u64 l2], .int .u64 RM]) ∧ WD h2 l2 (m / Cn) ∧ Below W.heap.size W w') := Lib.hid hdv
      have HN := Lib.hid hna
      have c3 : ¬ xn < -(1000 * C) := c1
      have c4 : ¬ 1000 * C < xn := c2
      obtain ⟨v0_, v1_⟩ := hvb
      clear hsp hp hdv hna hval hform hQ hR hg hm hm2 hq6 hRM hZ c1 c2
      go_enter Tryd.func24, Tryd.ntmps24
      go_upto_region 5 with (first | (at_lookup; refine wp_scale _ rfl _ _ rfl b S (nn S) rfl HS _ rfl hr ?_) | (go_at_call 46; refine (HSP.out _ HS).mono ?_; clear HSP; rintro e w1 ⟨rfl, hb1⟩; replace BX := BX.below hb1; replace HS := HS.below hb1; replace hb := chain hb hb1; clear hb1; obtain ⟨x0, x1, xf, xl⟩ := BX.two))
      clear x0 x1 xf xl
      go_cut [9] from 11 (fun q9 wr => ∃ g h2 l2, q9 = .pointer (some ⟨g, 0, none⟩) ∧ WD h2 l2 (m / Cn) ∧ Blk wr g #[.bool false, .int .u64 h2, .int .u64 l2] 49 ∧ Below w.heap.size w wr)
      case first =>
        refine wp_region_held_drew (S := fun w' => w'.cell? ⟨w.heap.size, 0, none⟩ = some (.int .i64 xn) ∧ w'.cell? ⟨w.heap.size, 1, none⟩ = some (.int .i64 xd) ∧ (Instr.lookup 39 (.map (some b)) (.int .i64 xd) false).run Tryd.prog w' = .ok (.int .i64 C) w') (by kernel_rfl) ⟨BX.drew.two.1, BX.drew.two.2.1, ((HS.drew).look hr).trans (by rw [esc])⟩ (fun hHeld => ?_)
        clear hHeld
        replace BX := BX.drew
        replace HS := HS.drew
        replace hb := hb.drew
        generalize w1.drew = vd at *
        have hHeld : vd.cell? ⟨w.heap.size, 0, none⟩ = some (.int .i64 xn) ∧ vd.cell? ⟨w.heap.size, 1, none⟩ = some (.int .i64 xd) ∧ (Instr.lookup 39 (.map (some b)) (.int .i64 xd) false).run Tryd.prog vd = .ok (.int .i64 C) vd := ⟨BX.two.1, BX.two.2.1, ((HS).look hr).trans (by rw [esc])⟩
        refine wpAnyH_take (i := 0) (oi := { dst := some 34, op := _, type := _, pos := _, after := _, guard := _ }) (v := ?_) rfl (by kernel_rfl) (by kernel_rfl) (by kernel_rfl) (fun _ _ _ h => h) (Or.inl ⟨by rfl, ?_⟩) (by assumption) ?_
        rotate_left
        · intro w hSw
          (try dsimp only at hSw)
          go_simp
          (try (with_reducible rfl))
        try simp only [Act.put, List.setIfInBounds_toArray, List.set_cons_zero, List.set_cons_succ]
        refine wpAnyH_take (i := 2) (oi := { dst := some 36, op := _, type := _, pos := _, after := _, guard := _ }) (v := ?_) rfl (by kernel_rfl) (by kernel_rfl) (by kernel_rfl) (fun _ _ _ h => h) (Or.inl ⟨by rfl, ?_⟩) (by assumption) ?_
        rotate_left
        · intro w hSw
          (try dsimp only at hSw)
          go_simp
          (try (with_reducible rfl))
        try simp only [Act.put, List.setIfInBounds_toArray, List.set_cons_zero, List.set_cons_succ]
        refine wpAnyH_take (i := 3) (oi := { dst := some 37, op := _, type := _, pos := _, after := _, guard := _ }) (v := ?_) rfl (by kernel_rfl) (by kernel_rfl) (by kernel_rfl) (fun _ _ _ h => h) (Or.inl ⟨by rfl, ?_⟩) (by assumption) ?_
        rotate_left
        · intro w hSw
          (try dsimp only at hSw)
          go_simp
          (try (with_reducible rfl))
        try simp only [Act.put, List.setIfInBounds_toArray, List.set_cons_zero, List.set_cons_succ]
        refine wpAnyH_take (i := 4) (oi := { dst := some 38, op := _, type := _, pos := _, after := _, guard := _ }) (v := ?_) rfl (by kernel_rfl) (by kernel_rfl) (by kernel_rfl) (fun _ _ _ h => h) (Or.inl ⟨by rfl, ?_⟩) (by assumption) ?_
        rotate_left
        · intro w hSw
          (try dsimp only at hSw)
          go_simp
          (try (with_reducible rfl))
        try simp only [Act.put, List.setIfInBounds_toArray, List.set_cons_zero, List.set_cons_succ]
        refine wpAnyH_take (i := 5) (oi := { dst := some 39, op := _, type := _, pos := _, after := _, guard := _ }) (v := ?_) rfl (by kernel_rfl) (by kernel_rfl) (by kernel_rfl) (fun _ _ _ h => h) (Or.inl ⟨by rfl, ?_⟩) (by assumption) ?_
        rotate_left
        · intro w hSw
          (try dsimp only at hSw)
          go_simp
          (try (with_reducible rfl))
        try simp only [Act.put, List.setIfInBounds_toArray, List.set_cons_zero, List.set_cons_succ]
        refine wpAnyH_ready (rs := [1, 10]) (by kernel_rfl) (by simp) ?_
        refine AllReadyH.cons (o := { dst := some 35, op := _, type := _, pos := _, after := _, guard := _ }) rfl (fun K hK => ?_) (AllReadyH.cons (o := { dst := some 9, op := _, type := _, pos := _, after := _, guard := _ }) rfl (fun K hK => ?_) AllReadyH.nil)
        · go_simp
          refine (HP.out _).mono ?_
          rintro e w10 ⟨hh, ll, rfl, HWD, hb10⟩
          replace BX := BX.below hb10
          replace HS := HS.below hb10
          replace hb := chain hb hb10
          clear hb10
          (try go_wp2_with fail)
          refine hK.out _ _ ⟨BX.two.1, BX.two.2.1, ((HS).look hr).trans (by rw [esc])⟩ (fun hHeld => ?_)
          clear hK K
          try simp only [Act.put, List.setIfInBounds_toArray, List.set_cons_zero, List.set_cons_succ]
          refine wpAnyH_ready (rs := [6, 10]) (by kernel_rfl) (by simp) ?_
          refine AllReadyH.cons (o := { dst := some 40, op := _, type := _, pos := _, after := _, guard := _ }) rfl (fun K hK => ?_) (AllReadyH.cons (o := { dst := some 9, op := _, type := _, pos := _, after := _, guard := _ }) rfl (fun K hK => ?_) AllReadyH.nil)
          · go_simp
            refine (HD.out _ _ _ HWD).mono ?_
            rintro e w12 ⟨h2, l2, rfl, HW2, hb12⟩
            replace BX := BX.below hb12
            replace HS := HS.below hb12
            replace hb := chain hb hb12
            clear hb12
            (try go_wp2_with fail)
            refine hK.out _ _ ⟨BX.two.1, BX.two.2.1, ((HS).look hr).trans (by rw [esc])⟩ (fun hHeld => ?_)
            clear hK K
            try simp only [Act.put, List.setIfInBounds_toArray, List.set_cons_zero, List.set_cons_succ]
            refine wpAnyH_take (i := 7) (oi := { dst := some 33, op := _, type := _, pos := _, after := _, guard := _ }) (v := ?_) rfl (by kernel_rfl) (by kernel_rfl) (by kernel_rfl) (fun _ _ _ h => h) (Or.inl ⟨by rfl, ?_⟩) (by assumption) ?_
            rotate_left
            · intro w hSw
              (try dsimp only at hSw)
              go_simp
              (try (with_reducible rfl))
            try simp only [Act.put, List.setIfInBounds_toArray, List.set_cons_zero, List.set_cons_succ]
            refine wpAnyH_take (i := 8) (oi := { dst := some 41, op := _, type := _, pos := _, after := _, guard := _ }) (v := ?_) rfl (by kernel_rfl) (by kernel_rfl) (by kernel_rfl) (fun _ _ _ h => h) (Or.inl ⟨by rfl, ?_⟩) (by assumption) ?_
            rotate_left
            · intro w hSw
              (try dsimp only at hSw)
              go_simp
              (try (with_reducible rfl))
            try simp only [Act.put, List.setIfInBounds_toArray, List.set_cons_zero, List.set_cons_succ]
            refine wpAnyH_take (i := 9) (oi := { dst := some 42, op := _, type := _, pos := _, after := _, guard := _ }) (v := ?_) rfl (by kernel_rfl) (by kernel_rfl) (by kernel_rfl) (fun _ _ _ h => h) (Or.inl ⟨by rfl, ?_⟩) (by assumption) ?_
            rotate_left
            · intro w hSw
              (try dsimp only at hSw)
              go_simp
              (try (with_reducible rfl))
            try simp only [Act.put, List.setIfInBounds_toArray, List.set_cons_zero, List.set_cons_succ]
            refine wpAnyH_ready (rs := [10]) (by kernel_rfl) (by simp) ?_
            refine AllReadyH.cons (o := { dst := some 9, op := _, type := _, pos := _, after := _, guard := _ }) rfl (fun K hK => ?_) AllReadyH.nil
            go_simp
            (try go_wp2_with fail)
            refine hK.out _ _ ⟨(BX.alloc (.cells #[.bool false, .int .u64 0, .int .u64 0] 49)).two.1, (BX.alloc (.cells #[.bool false, .int .u64 0, .int .u64 0] 49)).two.2.1, ((HS.alloc (.cells #[.bool false, .int .u64 0, .int .u64 0] 49)).look hr).trans (by rw [esc])⟩ (fun hHeld => ?_)
            clear hK K
            try simp only [Act.put, List.setIfInBounds_toArray, List.set_cons_zero, List.set_cons_succ]
            have B8 := Blk.new w12 #[.bool false, .int .u64 0, .int .u64 0] 49
            have h8 : w.heap.size ≤ w12.heap.size := hb.size
            have l_BX := BX.lt
            have l_HS := HS.lt
            replace BX := BX.alloc (.cells #[.bool false, .int .u64 0, .int .u64 0] 49)
            replace HS := HS.alloc (.cells #[.bool false, .int .u64 0, .int .u64 0] 49)
            replace hb := chain_alloc hb (.cells #[.bool false, .int .u64 0, .int .u64 0] 49)
            generalize w12.alloc (.cells #[.bool false, .int .u64 0, .int .u64 0] 49) = wA at *
            generalize w12.heap.size = g8 at *
            refine wpAnyH_ready (rs := [11]) (by kernel_rfl) (by simp) ?_
            refine AllReadyH.cons (o := { dst := none, op := _, type := _, pos := _, after := _, guard := _ }) rfl (fun K hK => ?_) AllReadyH.nil
            clear hHeld
            obtain ⟨z0, z1, z2, zf, zl⟩ := B8.three
            have SBX := BX.far3 (B := g8) (by omega) (.bool false) (.int .u64 h2) (.int .u64 l2)
            have SHS := HS.far3 (B := g8) (by omega) (.bool false) (.int .u64 h2) (.int .u64 l2)
            have Shb := belowFar3 hb (B := g8) (by omega) (.bool false) (.int .u64 h2) (.int .u64 l2)
            have SB8 := B8.set3 (.bool false) (.int .u64 h2) (.int .u64 l2)
            go_simp
            (try go_wp2_with fail)
            refine hK.out _ _ ⟨SBX.two.1, SBX.two.2.1, ((SHS).look hr).trans (by rw [esc])⟩ (fun hHeld => ?_)
            clear hK K
            try simp only [Act.put, List.setIfInBounds_toArray, List.set_cons_zero, List.set_cons_succ]
            clear z0 z1 z2 zf zl hb B8 BX HS
            generalize (((wA.setCell ⟨g8, 0, none⟩ (.bool false)).setCell ⟨g8, 1, none⟩ (.int .u64 h2)).setCell ⟨g8, 2, none⟩ (.int .u64 l2)) = wS at *
            have BX := SBX
            have HS := SHS
            have hb := Shb
            have B8 := SB8
            clear SBX SHS Shb SB8
            refine wpAnyH_take (i := 12) (oi := { dst := some 10, op := _, type := _, pos := _, after := _, guard := _ }) (v := ?_) rfl (by kernel_rfl) (by kernel_rfl) (by kernel_rfl) (fun _ _ _ h => h) (Or.inl ⟨by rfl, ?_⟩) (by assumption) ?_
            rotate_left
            · intro w hSw
              (try dsimp only at hSw)
              go_simp
              (try (with_reducible rfl))
            try simp only [Act.put, List.setIfInBounds_toArray, List.set_cons_zero, List.set_cons_succ]
            refine wpAnyH_done (by kernel_rfl) ?_ _
            clear hHeld
            (try go_wp2_with fail)
            go_meet
            case rel => exact ⟨g8, h2, l2, rfl, HW2, B8, hb⟩
          · go_simp
            (try go_wp2_with fail)
            refine hK.out _ _ ⟨(BX.alloc (.cells #[.bool false, .int .u64 0, .int .u64 0] 49)).two.1, (BX.alloc (.cells #[.bool false, .int .u64 0, .int .u64 0] 49)).two.2.1, ((HS.alloc (.cells #[.bool false, .int .u64 0, .int .u64 0] 49)).look hr).trans (by rw [esc])⟩ (fun hHeld => ?_)
            clear hK K
            try simp only [Act.put, List.setIfInBounds_toArray, List.set_cons_zero, List.set_cons_succ]
            have B8 := Blk.new w10 #[.bool false, .int .u64 0, .int .u64 0] 49
            have h8 : w.heap.size ≤ w10.heap.size := hb.size
            have l_BX := BX.lt
            have l_HS := HS.lt
            replace BX := BX.alloc (.cells #[.bool false, .int .u64 0, .int .u64 0] 49)
            replace HS := HS.alloc (.cells #[.bool false, .int .u64 0, .int .u64 0] 49)
            replace hb := chain_alloc hb (.cells #[.bool false, .int .u64 0, .int .u64 0] 49)
            generalize w10.alloc (.cells #[.bool false, .int .u64 0, .int .u64 0] 49) = wA at *
            generalize w10.heap.size = g8 at *
            refine wpAnyH_ready (rs := [6]) (by kernel_rfl) (by simp) ?_
            refine AllReadyH.cons (o := { dst := some 40, op := _, type := _, pos := _, after := _, guard := _ }) rfl (fun K hK => ?_) AllReadyH.nil
            go_simp
            refine (HD.out _ _ _ HWD).mono ?_
            rintro e w12 ⟨h2, l2, rfl, HW2, hb12⟩
            replace BX := BX.below hb12
            replace HS := HS.below hb12
            replace B8 := B8.below hb12
            replace hb := chain hb hb12
            clear hb12
            (try go_wp2_with fail)
            refine hK.out _ _ ⟨BX.two.1, BX.two.2.1, ((HS).look hr).trans (by rw [esc])⟩ (fun hHeld => ?_)
            clear hK K
            try simp only [Act.put, List.setIfInBounds_toArray, List.set_cons_zero, List.set_cons_succ]
            refine wpAnyH_take (i := 7) (oi := { dst := some 33, op := _, type := _, pos := _, after := _, guard := _ }) (v := ?_) rfl (by kernel_rfl) (by kernel_rfl) (by kernel_rfl) (fun _ _ _ h => h) (Or.inl ⟨by rfl, ?_⟩) (by assumption) ?_
            rotate_left
            · intro w hSw
              (try dsimp only at hSw)
              go_simp
              (try (with_reducible rfl))
            try simp only [Act.put, List.setIfInBounds_toArray, List.set_cons_zero, List.set_cons_succ]
            refine wpAnyH_take (i := 8) (oi := { dst := some 41, op := _, type := _, pos := _, after := _, guard := _ }) (v := ?_) rfl (by kernel_rfl) (by kernel_rfl) (by kernel_rfl) (fun _ _ _ h => h) (Or.inl ⟨by rfl, ?_⟩) (by assumption) ?_
            rotate_left
            · intro w hSw
              (try dsimp only at hSw)
              go_simp
              (try (with_reducible rfl))
            try simp only [Act.put, List.setIfInBounds_toArray, List.set_cons_zero, List.set_cons_succ]
            refine wpAnyH_take (i := 9) (oi := { dst := some 42, op := _, type := _, pos := _, after := _, guard := _ }) (v := ?_) rfl (by kernel_rfl) (by kernel_rfl) (by kernel_rfl) (fun _ _ _ h => h) (Or.inl ⟨by rfl, ?_⟩) (by assumption) ?_
            rotate_left
            · intro w hSw
              (try dsimp only at hSw)
              go_simp
              (try (with_reducible rfl))
            try simp only [Act.put, List.setIfInBounds_toArray, List.set_cons_zero, List.set_cons_succ]
            refine wpAnyH_ready (rs := [11]) (by kernel_rfl) (by simp) ?_
            refine AllReadyH.cons (o := { dst := none, op := _, type := _, pos := _, after := _, guard := _ }) rfl (fun K hK => ?_) AllReadyH.nil
            clear hHeld
            obtain ⟨z0, z1, z2, zf, zl⟩ := B8.three
            have SBX := BX.far3 (B := g8) (by omega) (.bool false) (.int .u64 h2) (.int .u64 l2)
            have SHS := HS.far3 (B := g8) (by omega) (.bool false) (.int .u64 h2) (.int .u64 l2)
            have Shb := belowFar3 hb (B := g8) (by omega) (.bool false) (.int .u64 h2) (.int .u64 l2)
            have SB8 := B8.set3 (.bool false) (.int .u64 h2) (.int .u64 l2)
            go_simp
            (try go_wp2_with fail)
            refine hK.out _ _ ⟨SBX.two.1, SBX.two.2.1, ((SHS).look hr).trans (by rw [esc])⟩ (fun hHeld => ?_)
            clear hK K
            try simp only [Act.put, List.setIfInBounds_toArray, List.set_cons_zero, List.set_cons_succ]
            clear z0 z1 z2 zf zl hb B8 BX HS
            generalize (((w12.setCell ⟨g8, 0, none⟩ (.bool false)).setCell ⟨g8, 1, none⟩ (.int .u64 h2)).setCell ⟨g8, 2, none⟩ (.int .u64 l2)) = wS at *
            have BX := SBX
            have HS := SHS
            have hb := Shb
            have B8 := SB8
            clear SBX SHS Shb SB8
            refine wpAnyH_take (i := 12) (oi := { dst := some 10, op := _, type := _, pos := _, after := _, guard := _ }) (v := ?_) rfl (by kernel_rfl) (by kernel_rfl) (by kernel_rfl) (fun _ _ _ h => h) (Or.inl ⟨by rfl, ?_⟩) (by assumption) ?_
            rotate_left
            · intro w hSw
              (try dsimp only at hSw)
              go_simp
              (try (with_reducible rfl))
            try simp only [Act.put, List.setIfInBounds_toArray, List.set_cons_zero, List.set_cons_succ]
            refine wpAnyH_done (by kernel_rfl) ?_ _
            clear hHeld
            (try go_wp2_with fail)
            go_meet
            case rel => exact ⟨g8, h2, l2, rfl, HW2, B8, hb⟩
        · go_simp
          (try go_wp2_with fail)
          refine hK.out _ _ ⟨(BX.alloc (.cells #[.bool false, .int .u64 0, .int .u64 0] 49)).two.1, (BX.alloc (.cells #[.bool false, .int .u64 0, .int .u64 0] 49)).two.2.1, ((HS.alloc (.cells #[.bool false, .int .u64 0, .int .u64 0] 49)).look hr).trans (by rw [esc])⟩ (fun hHeld => ?_)
          clear hK K
          try simp only [Act.put, List.setIfInBounds_toArray, List.set_cons_zero, List.set_cons_succ]
          have B8 := Blk.new vd #[.bool false, .int .u64 0, .int .u64 0] 49
          have h8 : w.heap.size ≤ vd.heap.size := hb.size
          have l_BX := BX.lt
          have l_HS := HS.lt
          replace BX := BX.alloc (.cells #[.bool false, .int .u64 0, .int .u64 0] 49)
          replace HS := HS.alloc (.cells #[.bool false, .int .u64 0, .int .u64 0] 49)
          replace hb := chain_alloc hb (.cells #[.bool false, .int .u64 0, .int .u64 0] 49)
          generalize vd.alloc (.cells #[.bool false, .int .u64 0, .int .u64 0] 49) = wA at *
          generalize vd.heap.size = g8 at *
          refine wpAnyH_ready (rs := [1]) (by kernel_rfl) (by simp) ?_
          refine AllReadyH.cons (o := { dst := some 35, op := _, type := _, pos := _, after := _, guard := _ }) rfl (fun K hK => ?_) AllReadyH.nil
          go_simp
          refine (HP.out _).mono ?_
          rintro e w10 ⟨hh, ll, rfl, HWD, hb10⟩
          replace BX := BX.below hb10
          replace HS := HS.below hb10
          replace B8 := B8.below hb10
          replace hb := chain hb hb10
          clear hb10
          (try go_wp2_with fail)
          refine hK.out _ _ ⟨BX.two.1, BX.two.2.1, ((HS).look hr).trans (by rw [esc])⟩ (fun hHeld => ?_)
          clear hK K
          try simp only [Act.put, List.setIfInBounds_toArray, List.set_cons_zero, List.set_cons_succ]
          refine wpAnyH_ready (rs := [6]) (by kernel_rfl) (by simp) ?_
          refine AllReadyH.cons (o := { dst := some 40, op := _, type := _, pos := _, after := _, guard := _ }) rfl (fun K hK => ?_) AllReadyH.nil
          go_simp
          refine (HD.out _ _ _ HWD).mono ?_
          rintro e w12 ⟨h2, l2, rfl, HW2, hb12⟩
          replace BX := BX.below hb12
          replace HS := HS.below hb12
          replace B8 := B8.below hb12
          replace hb := chain hb hb12
          clear hb12
          (try go_wp2_with fail)
          refine hK.out _ _ ⟨BX.two.1, BX.two.2.1, ((HS).look hr).trans (by rw [esc])⟩ (fun hHeld => ?_)
          clear hK K
          try simp only [Act.put, List.setIfInBounds_toArray, List.set_cons_zero, List.set_cons_succ]
          refine wpAnyH_take (i := 7) (oi := { dst := some 33, op := _, type := _, pos := _, after := _, guard := _ }) (v := ?_) rfl (by kernel_rfl) (by kernel_rfl) (by kernel_rfl) (fun _ _ _ h => h) (Or.inl ⟨by rfl, ?_⟩) (by assumption) ?_
          rotate_left
          · intro w hSw
            (try dsimp only at hSw)
            go_simp
            (try (with_reducible rfl))
          try simp only [Act.put, List.setIfInBounds_toArray, List.set_cons_zero, List.set_cons_succ]
          refine wpAnyH_take (i := 8) (oi := { dst := some 41, op := _, type := _, pos := _, after := _, guard := _ }) (v := ?_) rfl (by kernel_rfl) (by kernel_rfl) (by kernel_rfl) (fun _ _ _ h => h) (Or.inl ⟨by rfl, ?_⟩) (by assumption) ?_
          rotate_left
          · intro w hSw
            (try dsimp only at hSw)
            go_simp
            (try (with_reducible rfl))
          try simp only [Act.put, List.setIfInBounds_toArray, List.set_cons_zero, List.set_cons_succ]
          refine wpAnyH_take (i := 9) (oi := { dst := some 42, op := _, type := _, pos := _, after := _, guard := _ }) (v := ?_) rfl (by kernel_rfl) (by kernel_rfl) (by kernel_rfl) (fun _ _ _ h => h) (Or.inl ⟨by rfl, ?_⟩) (by assumption) ?_
          rotate_left
          · intro w hSw
            (try dsimp only at hSw)
            go_simp
            (try (with_reducible rfl))
          try simp only [Act.put, List.setIfInBounds_toArray, List.set_cons_zero, List.set_cons_succ]
          refine wpAnyH_ready (rs := [11]) (by kernel_rfl) (by simp) ?_
          refine AllReadyH.cons (o := { dst := none, op := _, type := _, pos := _, after := _, guard := _ }) rfl (fun K hK => ?_) AllReadyH.nil
          clear hHeld
          obtain ⟨z0, z1, z2, zf, zl⟩ := B8.three
          have SBX := BX.far3 (B := g8) (by omega) (.bool false) (.int .u64 h2) (.int .u64 l2)
          have SHS := HS.far3 (B := g8) (by omega) (.bool false) (.int .u64 h2) (.int .u64 l2)
          have Shb := belowFar3 hb (B := g8) (by omega) (.bool false) (.int .u64 h2) (.int .u64 l2)
          have SB8 := B8.set3 (.bool false) (.int .u64 h2) (.int .u64 l2)
          go_simp
          (try go_wp2_with fail)
          refine hK.out _ _ ⟨SBX.two.1, SBX.two.2.1, ((SHS).look hr).trans (by rw [esc])⟩ (fun hHeld => ?_)
          clear hK K
          try simp only [Act.put, List.setIfInBounds_toArray, List.set_cons_zero, List.set_cons_succ]
          clear z0 z1 z2 zf zl hb B8 BX HS
          generalize (((w12.setCell ⟨g8, 0, none⟩ (.bool false)).setCell ⟨g8, 1, none⟩ (.int .u64 h2)).setCell ⟨g8, 2, none⟩ (.int .u64 l2)) = wS at *
          have BX := SBX
          have HS := SHS
          have hb := Shb
          have B8 := SB8
          clear SBX SHS Shb SB8
          refine wpAnyH_take (i := 12) (oi := { dst := some 10, op := _, type := _, pos := _, after := _, guard := _ }) (v := ?_) rfl (by kernel_rfl) (by kernel_rfl) (by kernel_rfl) (fun _ _ _ h => h) (Or.inl ⟨by rfl, ?_⟩) (by assumption) ?_
          rotate_left
          · intro w hSw
            (try dsimp only at hSw)
            go_simp
            (try (with_reducible rfl))
          try simp only [Act.put, List.setIfInBounds_toArray, List.set_cons_zero, List.set_cons_succ]
          refine wpAnyH_done (by kernel_rfl) ?_ _
          clear hHeld
          (try go_wp2_with fail)
          go_meet
          case rel => exact ⟨g8, h2, l2, rfl, HW2, B8, hb⟩
      case rest =>
        clear BX HS hb
        obtain ⟨g, h2, l2, rfl, HW2, B8, hb⟩ := hcut
        obtain ⟨z0, z1, z2, zf, zl⟩ := B8.three
        go_wp2_with (go_at_call 43; refine (HN.out _ _ _ HW2).mono ?_; rintro e wz ⟨rfl, hbz⟩)
        go_ret2
        exact ⟨rfl, chain hb hbz⟩
end Go.Proofs.YtenbihglmblalaaDoor
