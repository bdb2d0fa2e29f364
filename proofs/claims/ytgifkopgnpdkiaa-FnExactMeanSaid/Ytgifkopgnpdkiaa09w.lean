/- Contracts of the program's comparison of exact numbers. -/
import Derived.Test.Ytgifkopgnpdkiaa09t
import Derived.Test.Ytgifkopgnpdkiaa09m
import Derived.Test.YtgifkopgnpdkiaaOwn4
import Derived.Deep.LoopGhost
namespace Go.Proofs.Ytgifkopgnpdkiaa
open Go.ChangeShapes Go.WideShapes Go.ChangeAt Go.RowKit
set_option linter.unusedVariables false
set_option linter.unusedSimpArgs false

/-- -1, 0 or 1. -/
def sg3 (a b : Int) : Int := if a < b then -1 else if b < a then 1 else 0
/-- The comparison of two numbers: whole parts first, then the rests at one scale. -/
def cmV (S : Nat) (xn xd yn yd : Int) : Int :=
  if sg3 (xn / ((scN S xd.toNat : Nat) : Int)) (yn / ((scN S yd.toNat : Nat) : Int)) ≠ 0 then sg3 (xn / ((scN S xd.toNat : Nat) : Int)) (yn / ((scN S yd.toNat : Nat) : Int))
  else sg3 (xn % ((scN S xd.toNat : Nat) : Int) * ((scN S (max xd yd - xd).toNat : Nat) : Int)) (yn % ((scN S yd.toNat : Nat) : Int) * ((scN S (max xd yd - yd).toNat : Nat) : Int))
theorem isNaN_any (a : Int) (w : World) : Calls Try.prog 81 #[.int .i64 a] w fun e w' => e = .returned (.bool false) ∧ w = w' := by
  have f0 : (a != a) = false := by simp
  go_enter Try.func81, Try.ntmps81
  go_wp2
  go_ret
  exact ⟨rfl, rfl⟩
theorem compare64_any (a b : Int) (w : World) : Calls Try.prog 78 #[.int .i64 a, .int .i64 b] w fun e w' => e = .returned (.int .i64 (sg3 a b)) ∧ w = w' := by
  unfold sg3
  by_cases h1 : a < b
  · rw [if_pos h1]
    go_enter Try.func78, Try.ntmps78
    go_wp2_with (go_at_call 81; refine (isNaN_any _ _).mono ?_; rintro e w1 ⟨rfl, rfl⟩)
    go_ret
    exact ⟨rfl, rfl⟩
  · rw [if_neg h1]
    by_cases h2 : b < a
    · rw [if_pos h2]
      go_enter Try.func78, Try.ntmps78
      go_wp2_with (go_at_call 81; refine (isNaN_any _ _).mono ?_; rintro e w1 ⟨rfl, rfl⟩)
      go_ret
      exact ⟨rfl, rfl⟩
    · rw [if_neg h2]
      go_enter Try.func78, Try.ntmps78
      go_wp2_with (go_at_call 81; refine (isNaN_any _ _).mono ?_; rintro e w1 ⟨rfl, rfl⟩)
      go_ret
      exact ⟨rfl, rfl⟩
set_option maxRecDepth 8000 in
theorem or2_any (g : Nat) (q r : Int) (w : World) (HB : Blk w g #[.int .i64 q, .int .i64 r] 3) :
    Calls Try.prog 77 #[.slice (some ⟨g, 0, none⟩) 2 2] w fun e w' => e = .returned (.int .i64 (if q ≠ 0 then q else r)) ∧ w = w' := by
  obtain ⟨x0, x1, xf, xl⟩ := HB.two
  by_cases hq : q = 0
  · rw [if_neg (by simpa using hq)]
    have fq : (q != 0) = false := by rw [hq]; rfl
    by_cases hr : r = 0
    · subst hr
      clear hq
      go_enter Try.func77, Try.ntmps77
      go_wp2_with fail
      refine wp_loop_rounds 3 ?_
      rw [rounds_succ]; go_wp2
      rw [rounds_succ]; go_wp2
      rw [rounds_succ]; go_wp2
      go_ret
      exact ⟨rfl, rfl⟩
    · have fr : (r != 0) = true := by simpa using hr
      clear hq hr
      go_enter Try.func77, Try.ntmps77
      go_wp2_with fail
      refine wp_loop_rounds 2 ?_
      rw [rounds_succ]; go_wp2
      rw [rounds_succ]; go_wp2
      go_ret
      exact ⟨rfl, rfl⟩
  · rw [if_pos hq]
    have fq : (q != 0) = true := by simpa using hq
    clear hq
    go_enter Try.func77, Try.ntmps77
    go_wp2_with fail
    refine wp_loop_rounds 1 ?_
    rw [rounds_succ]; go_wp2
    go_ret
    exact ⟨rfl, rfl⟩
set_option maxRecDepth 8000 in
set_option maxHeartbeats 1000000 in
theorem compare_any (b S : Nat) (hS : 1 ≤ S ∧ S ≤ 6) (xn xd yn yd : Int) (hx : -1000000000000000000 ≤ xn ∧ xn ≤ 1000000000000000000) (hy : -1000000000000000000 ≤ yn ∧ yn ≤ 1000000000000000000) (hd : 0 ≤ xd ∧ xd < ((nn S : Nat) : Int)) (he : 0 ≤ yd ∧ yd < ((nn S : Nat) : Int)) (w : World) (HS : ScM w b S (nn S)) :
    Calls Try.prog 53 #[.map (some b), .agg #[.int .i64 xn, .int .i64 xd], .agg #[.int .i64 yn, .int .i64 yd]] w fun e w' => e = .returned (.int .i64 (cmV S xn xd yn yd)) ∧ Below w.heap.size w w' := by
  have hn := nn_range hS
  have hsx := fun W H => split_any b S hS xn xd hx hd W H
  have hsy := fun W H => split_any b S hS yn yd hy he W H
  unfold cmV
  obtain ⟨DP, hDP⟩ : ∃ D, max xd yd = D := ⟨_, rfl⟩
  have d0 : xd ≤ DP ∧ yd ≤ DP ∧ DP < ((nn S : Nat) : Int) := by omega
  rw [hDP]
  have wX : IntKind.i64.wrap (DP - xd) = DP - xd := IntWalk.i64_in _ (by omega)
  have wY : IntKind.i64.wrap (DP - yd) = DP - yd := IntWalk.i64_in _ (by omega)
  have rX : -9223372036854775808 ≤ DP - xd ∧ DP - xd ≤ 9223372036854775807 := by omega
  have rY : -9223372036854775808 ≤ DP - yd ∧ DP - yd ≤ 9223372036854775807 := by omega
  have eX := scA_is (S := S) (xd := DP - xd) ⟨by omega, by omega⟩
  have eY := scA_is (S := S) (xd := DP - yd) ⟨by omega, by omega⟩
  have bnd : ∀ (z d : Int), 0 ≤ d → d ≤ DP → 0 ≤ z % ((scN S d.toNat : Nat) : Int) * ((scN S (DP - d).toNat : Nat) : Int) ∧ z % ((scN S d.toNat : Nat) : Int) * ((scN S (DP - d).toNat : Nat) : Int) ≤ 1000000000000000 := by
    intro z d h0 h1
    have p1 := scN_pos hS.1 d.toNat
    have p2 := scN_pos hS.1 (DP - d).toNat
    have m0 := Int.emod_nonneg z (show ((scN S d.toNat : Nat) : Int) ≠ 0 by omega)
    have m1 := Int.emod_lt_of_pos z (show 0 < ((scN S d.toNat : Nat) : Int) by omega)
    have hp : scN S d.toNat * scN S (DP - d).toNat = scN S DP.toNat := by rw [← scN_add]; congr 1; omega
    have hle := scN_in hS (show DP.toNat < nn S by omega)
    refine ⟨Int.mul_nonneg m0 (by omega), ?_⟩
    have := Int.mul_le_mul_of_nonneg_right (show z % ((scN S d.toNat : Nat) : Int) ≤ ((scN S d.toNat : Nat) : Int) by omega) (show (0 : Int) ≤ ((scN S (DP - d).toNat : Nat) : Int) by omega)
    rw [← Int.natCast_mul, hp] at this
    omega
  have bx := bnd xn xd hd.1 d0.1
  have by_ := bnd yn yd he.1 d0.2.1
  obtain ⟨KX, hKX⟩ : ∃ x, DP - xd = x := ⟨_, rfl⟩
  obtain ⟨KY, hKY⟩ : ∃ x, DP - yd = x := ⟨_, rfl⟩
  rw [hKX] at rX eX bx
  rw [hKY] at rY eY by_
  rw [hKX] at wX
  rw [hKY] at wY
  rw [hKX, hKY]
  obtain ⟨FX, hFX⟩ : ∃ x, ((scN S KX.toNat : Nat) : Int) = x := ⟨_, rfl⟩
  obtain ⟨FY, hFY⟩ : ∃ x, ((scN S KY.toNat : Nat) : Int) = x := ⟨_, rfl⟩
  obtain ⟨CX, hCX⟩ : ∃ x, ((scN S xd.toNat : Nat) : Int) = x := ⟨_, rfl⟩
  obtain ⟨CY, hCY⟩ : ∃ x, ((scN S yd.toNat : Nat) : Int) = x := ⟨_, rfl⟩
  rw [hFX] at eX bx
  rw [hFY] at eY by_
  rw [hCX] at bx hsx
  rw [hCY] at by_ hsy
  rw [hFX, hFY, hCX, hCY]
  obtain ⟨WX, hWX⟩ : ∃ x, xn / CX = x := ⟨_, rfl⟩
  obtain ⟨WY, hWY⟩ : ∃ x, yn / CY = x := ⟨_, rfl⟩
  obtain ⟨RX, hRX⟩ : ∃ x, xn % CX = x := ⟨_, rfl⟩
  obtain ⟨RY, hRY⟩ : ∃ x, yn % CY = x := ⟨_, rfl⟩
  rw [hWX, hRX] at hsx
  rw [hWY, hRY] at hsy
  rw [hRX] at bx
  rw [hRY] at by_
  rw [hWX, hWY, hRX, hRY]
  obtain ⟨MX, hMX⟩ : ∃ x, RX * FX = x := ⟨_, rfl⟩
  obtain ⟨MY, hMY⟩ : ∃ x, RY * FY = x := ⟨_, rfl⟩
  have wMX : IntKind.i64.wrap (RX * FX) = MX := by rw [← hMX]; exact IntWalk.i64_in _ (by omega)
  have wMY : IntKind.i64.wrap (RY * FY) = MY := by rw [← hMY]; exact IntWalk.i64_in _ (by omega)
  rw [hMX, hMY]
  have hc1 := fun W => compare64_any WX WY W
  have hc2 := fun W => compare64_any MX MY W
  obtain ⟨Q1, hQ1⟩ : ∃ x, sg3 WX WY = x := ⟨_, rfl⟩
  obtain ⟨Q2, hQ2⟩ : ∃ x, sg3 MX MY = x := ⟨_, rfl⟩
  rw [hQ1] at hc1
  rw [hQ2] at hc2
  rw [hQ1, hQ2]
  have hor := fun g W (B : Blk W g #[.int .i64 Q1, .int .i64 Q2] 3) => or2_any g Q1 Q2 W B
  obtain ⟨Q3, hQ3⟩ : ∃ x, (if Q1 ≠ 0 then Q1 else Q2) = x := ⟨_, rfl⟩
  rw [hQ3] at hor ⊢
  have HO := Lib.hid hor
  clear hor hQ3
  have HSX := Lib.hid hsx
  have HSY := Lib.hid hsy
  have HC1 := Lib.hid hc1
  have HC2 := Lib.hid hc2
  have wX2 : IntKind.i64.wrap (DP - xd) = KX := by rw [IntWalk.i64_in _ (by omega)]; exact hKX
  have wY2 : IntKind.i64.wrap (DP - yd) = KY := by rw [IntWalk.i64_in _ (by omega)]; exact hKY
  clear bnd hsx hsy hc1 hc2 wX wY hFX hFY hCX hCY hWX hWY hRX hRY hMX hMY hQ1 hQ2 hn hx hy bx by_
  obtain ⟨BX, BY, hb, hz⟩ := two_new w #[.int .i64 xn, .int .i64 xd] #[.int .i64 yn, .int .i64 yd] 29 29
  replace HS := HS.below hb
  obtain ⟨x0, x1, xf, xl⟩ := BX.two
  obtain ⟨y0, y1, yf, yl⟩ := BY.two
  go_enter Try.func53, Try.ntmps53
  go_wp2_with (go_at_call 76; (first | (refine (HSX.out _ HS).mono ?_; clear HSX) | (refine (HSY.out _ HS).mono ?_; clear HSY)); rintro e w1 ⟨rfl, hb1⟩; replace BX := BX.below hb1; replace BY := BY.below hb1; replace HS := HS.below hb1; replace hb := chain hb hb1; clear hb1; obtain ⟨x0, x1, xf, xl⟩ := BX.two; obtain ⟨y0, y1, yf, yl⟩ := BY.two)
  clear x0 x1 xf xl y0 y1 yf yl hKX hKY
  refine wp_region_held_drew (S := fun w' => w'.cell? ⟨w.heap.size, 0, none⟩ = some (.int .i64 xn) ∧ w'.cell? ⟨w.heap.size, 1, none⟩ = some (.int .i64 xd) ∧ w'.cell? ⟨w.heap.size + 1, 0, none⟩ = some (.int .i64 yn) ∧ w'.cell? ⟨w.heap.size + 1, 1, none⟩ = some (.int .i64 yd) ∧ (Instr.lookup 60 (.map (some b)) (.int .i64 KX) false).run Try.prog w' = .ok (.int .i64 FX) w' ∧ (Instr.lookup 60 (.map (some b)) (.int .i64 KY) false).run Try.prog w' = .ok (.int .i64 FY) w') (by kernel_rfl) ⟨BX.drew.two.1, BX.drew.two.2.1, BY.drew.two.1, BY.drew.two.2.1, ((HS.drew).look rX).trans (by rw [eX]), ((HS.drew).look rY).trans (by rw [eY])⟩ (fun hHeld => ?_)
  clear hHeld
  replace BX := BX.drew
  replace BY := BY.drew
  replace HS := HS.drew
  replace hb := hb.drew
  generalize w1.drew = vd at *
  have hHeld : vd.cell? ⟨w.heap.size, 0, none⟩ = some (.int .i64 xn) ∧ vd.cell? ⟨w.heap.size, 1, none⟩ = some (.int .i64 xd) ∧ vd.cell? ⟨w.heap.size + 1, 0, none⟩ = some (.int .i64 yn) ∧ vd.cell? ⟨w.heap.size + 1, 1, none⟩ = some (.int .i64 yd) ∧ (Instr.lookup 60 (.map (some b)) (.int .i64 KX) false).run Try.prog vd = .ok (.int .i64 FX) vd ∧ (Instr.lookup 60 (.map (some b)) (.int .i64 KY) false).run Try.prog vd = .ok (.int .i64 FY) vd := ⟨BX.two.1, BX.two.2.1, BY.two.1, BY.two.2.1, ((HS).look rX).trans (by rw [eX]), ((HS).look rY).trans (by rw [eY])⟩
  refine wpAnyH_take (i := 0) (oi := { dst := some 29, op := _, type := _, pos := _, after := _, guard := _ }) (v := ?_) rfl (by kernel_rfl) (by kernel_rfl) (by kernel_rfl) (fun _ _ _ h => h) (Or.inl ⟨by rfl, ?_⟩) (by assumption) ?_
  rotate_left
  · intro w hSw
    (try dsimp only at hSw)
    go_simp
    (try (with_reducible rfl))
  try simp only [Act.put, List.setIfInBounds_toArray, List.set_cons_zero, List.set_cons_succ]
  refine wpAnyH_take (i := 1) (oi := { dst := some 30, op := _, type := _, pos := _, after := _, guard := _ }) (v := ?_) rfl (by kernel_rfl) (by kernel_rfl) (by kernel_rfl) (fun _ _ _ h => h) (Or.inl ⟨by rfl, ?_⟩) (by assumption) ?_
  rotate_left
  · intro w hSw
    (try dsimp only at hSw)
    go_simp
    (try (with_reducible rfl))
  try simp only [Act.put, List.setIfInBounds_toArray, List.set_cons_zero, List.set_cons_succ]
  refine wpAnyH_take (i := 3) (oi := { dst := some 32, op := _, type := _, pos := _, after := _, guard := _ }) (v := ?_) rfl (by kernel_rfl) (by kernel_rfl) (by kernel_rfl) (fun _ _ _ h => h) (Or.inl ⟨by rfl, ?_⟩) (by assumption) ?_
  rotate_left
  · intro w hSw
    (try dsimp only at hSw)
    go_simp
    (try (with_reducible rfl))
  try simp only [Act.put, List.setIfInBounds_toArray, List.set_cons_zero, List.set_cons_succ]
  refine wpAnyH_take (i := 4) (oi := { dst := some 33, op := _, type := _, pos := _, after := _, guard := _ }) (v := ?_) rfl (by kernel_rfl) (by kernel_rfl) (by kernel_rfl) (fun _ _ _ h => h) (Or.inl ⟨by rfl, ?_⟩) (by assumption) ?_
  rotate_left
  · intro w hSw
    (try dsimp only at hSw)
    go_simp
    (try (with_reducible rfl))
  try simp only [Act.put, List.setIfInBounds_toArray, List.set_cons_zero, List.set_cons_succ]
  refine wpAnyH_take (i := 5) (oi := { dst := some 34, op := _, type := _, pos := _, after := _, guard := _ }) (v := ?_) rfl (by kernel_rfl) (by kernel_rfl) (by kernel_rfl) (fun _ _ _ h => h) (Or.inl ⟨by rfl, ?_⟩) (by assumption) ?_
  rotate_left
  · intro w hSw
    (try dsimp only at hSw)
    go_simp
    (try (with_reducible rfl))
  try simp only [Act.put, List.setIfInBounds_toArray, List.set_cons_zero, List.set_cons_succ]
  refine wpAnyH_take (i := 6) (oi := { dst := some 35, op := _, type := _, pos := _, after := _, guard := _ }) (v := ?_) rfl (by kernel_rfl) (by kernel_rfl) (by kernel_rfl) (fun _ _ _ h => h) (Or.inl ⟨by rfl, ?_⟩) (by assumption) ?_
  rotate_left
  · intro w hSw
    (try dsimp only at hSw)
    go_simp
    (try (with_reducible rfl))
  try simp only [Act.put, List.setIfInBounds_toArray, List.set_cons_zero, List.set_cons_succ]
  refine wpAnyH_take (i := 7) (oi := { dst := some 36, op := _, type := _, pos := _, after := _, guard := _ }) (v := ?_) rfl (by kernel_rfl) (by kernel_rfl) (by kernel_rfl) (fun _ _ _ h => h) (Or.inl ⟨by rfl, ?_⟩) (by assumption) ?_
  rotate_left
  · intro w hSw
    (try dsimp only at hSw)
    go_simp
    (try (with_reducible rfl))
  try simp only [Act.put, List.setIfInBounds_toArray, List.set_cons_zero, List.set_cons_succ]
  refine wpAnyH_take (i := 8) (oi := { dst := some 37, op := _, type := _, pos := _, after := _, guard := _ }) (v := ?_) rfl (by kernel_rfl) (by kernel_rfl) (by kernel_rfl) (fun _ _ _ h => h) (Or.inl ⟨by rfl, ?_⟩) (by assumption) ?_
  rotate_left
  · intro w hSw
    (try dsimp only at hSw)
    go_simp
    (try (with_reducible rfl))
  try simp only [Act.put, List.setIfInBounds_toArray, List.set_cons_zero, List.set_cons_succ]
  refine wpAnyH_take (i := 9) (oi := { dst := some 38, op := _, type := _, pos := _, after := _, guard := _ }) (v := ?_) rfl (by kernel_rfl) (by kernel_rfl) (by kernel_rfl) (fun _ _ _ h => h) (Or.inl ⟨by rfl, ?_⟩) (by assumption) ?_
  rotate_left
  · intro w hSw
    (try dsimp only at hSw)
    go_simp
    (try (with_reducible rfl))
  try simp only [Act.put, List.setIfInBounds_toArray, List.set_cons_zero, List.set_cons_succ]
  refine wpAnyH_take (i := 10) (oi := { dst := some 39, op := _, type := _, pos := _, after := _, guard := _ }) (v := ?_) rfl (by kernel_rfl) (by kernel_rfl) (by kernel_rfl) (fun _ _ _ h => h) (Or.inl ⟨by rfl, ?_⟩) (by assumption) ?_
  rotate_left
  · intro w hSw
    (try dsimp only at hSw)
    go_simp
    (try (with_reducible rfl))
  try simp only [Act.put, List.setIfInBounds_toArray, List.set_cons_zero, List.set_cons_succ]
  refine wpAnyH_take (i := 11) (oi := { dst := some 40, op := _, type := _, pos := _, after := _, guard := _ }) (v := ?_) rfl (by kernel_rfl) (by kernel_rfl) (by kernel_rfl) (fun _ _ _ h => h) (Or.inl ⟨by rfl, ?_⟩) (by assumption) ?_
  rotate_left
  · intro w hSw
    (try dsimp only at hSw)
    go_simp
    (try (with_reducible rfl))
  try simp only [Act.put, List.setIfInBounds_toArray, List.set_cons_zero, List.set_cons_succ]
  refine wpAnyH_take (i := 12) (oi := { dst := some 41, op := _, type := _, pos := _, after := _, guard := _ }) (v := ?_) rfl (by kernel_rfl) (by kernel_rfl) (by kernel_rfl) (fun _ _ _ h => h) (Or.inl ⟨by rfl, ?_⟩) (by assumption) ?_
  rotate_left
  · intro w hSw
    (try dsimp only at hSw)
    go_simp
    (try (with_reducible rfl))
  try simp only [Act.put, List.setIfInBounds_toArray, List.set_cons_zero, List.set_cons_succ]
  refine wpAnyH_take (i := 13) (oi := { dst := some 42, op := _, type := _, pos := _, after := _, guard := _ }) (v := ?_) rfl (by kernel_rfl) (by kernel_rfl) (by kernel_rfl) (fun _ _ _ h => h) (Or.inl ⟨by rfl, ?_⟩) (by assumption) ?_
  rotate_left
  · intro w hSw
    (try dsimp only at hSw)
    go_simp
    (try (with_reducible rfl))
  try simp only [Act.put, List.setIfInBounds_toArray, List.set_cons_zero, List.set_cons_succ]
  refine wpAnyH_take (i := 14) (oi := { dst := some 43, op := _, type := _, pos := _, after := _, guard := _ }) (v := ?_) rfl (by kernel_rfl) (by kernel_rfl) (by kernel_rfl) (fun _ _ _ h => h) (Or.inl ⟨by rfl, ?_⟩) (by assumption) ?_
  rotate_left
  · intro w hSw
    (try dsimp only at hSw)
    go_simp
    (try (with_reducible rfl))
  try simp only [Act.put, List.setIfInBounds_toArray, List.set_cons_zero, List.set_cons_succ]
  refine wpAnyH_take (i := 15) (oi := { dst := some 44, op := _, type := _, pos := _, after := _, guard := _ }) (v := ?_) rfl (by kernel_rfl) (by kernel_rfl) (by kernel_rfl) (fun _ _ _ h => h) (Or.inl ⟨by rfl, ?_⟩) (by assumption) ?_
  rotate_left
  · intro w hSw
    (try dsimp only at hSw)
    go_simp
    (try (with_reducible rfl))
  try simp only [Act.put, List.setIfInBounds_toArray, List.set_cons_zero, List.set_cons_succ]
  refine wpAnyH_take (i := 16) (oi := { dst := some 45, op := _, type := _, pos := _, after := _, guard := _ }) (v := ?_) rfl (by kernel_rfl) (by kernel_rfl) (by kernel_rfl) (fun _ _ _ h => h) (Or.inl ⟨by rfl, ?_⟩) (by assumption) ?_
  rotate_left
  · intro w hSw
    (try dsimp only at hSw)
    go_simp
    (try (with_reducible rfl))
  try simp only [Act.put, List.setIfInBounds_toArray, List.set_cons_zero, List.set_cons_succ]
  refine wpAnyH_take (i := 17) (oi := { dst := some 46, op := _, type := _, pos := _, after := _, guard := _ }) (v := ?_) rfl (by kernel_rfl) (by kernel_rfl) (by kernel_rfl) (fun _ _ _ h => h) (Or.inl ⟨by rfl, ?_⟩) (by assumption) ?_
  rotate_left
  · intro w hSw
    (try dsimp only at hSw)
    go_simp
    (try (with_reducible rfl))
  try simp only [Act.put, List.setIfInBounds_toArray, List.set_cons_zero, List.set_cons_succ]
  refine wpAnyH_take (i := 18) (oi := { dst := some 47, op := _, type := _, pos := _, after := _, guard := _ }) (v := ?_) rfl (by kernel_rfl) (by kernel_rfl) (by kernel_rfl) (fun _ _ _ h => h) (Or.inl ⟨by rfl, ?_⟩) (by assumption) ?_
  rotate_left
  · intro w hSw
    (try dsimp only at hSw)
    go_simp
    (try (with_reducible rfl))
  try simp only [Act.put, List.setIfInBounds_toArray, List.set_cons_zero, List.set_cons_succ]
  refine wpAnyH_ready (rs := [2]) (by kernel_rfl) (by simp) ?_
  refine AllReadyH.cons (o := { dst := some 31, op := _, type := _, pos := _, after := _, guard := _ }) rfl (fun K hK => ?_) AllReadyH.nil
  go_simp
  refine (HC1.out _).mono ?_
  rintro e wa ⟨rfl, rfl⟩
  (try go_wp2_with fail)
  refine hK.out _ _ ⟨BX.two.1, BX.two.2.1, BY.two.1, BY.two.2.1, ((HS).look rX).trans (by rw [eX]), ((HS).look rY).trans (by rw [eY])⟩ (fun hHeld => ?_)
  clear hK K
  try simp only [Act.put, List.setIfInBounds_toArray, List.set_cons_zero, List.set_cons_succ]
  refine wpAnyH_ready (rs := [19]) (by kernel_rfl) (by simp) ?_
  refine AllReadyH.cons (o := { dst := some 48, op := _, type := _, pos := _, after := _, guard := _ }) rfl (fun K hK => ?_) AllReadyH.nil
  go_simp
  refine (HC2.out _).mono ?_
  rintro e wb ⟨rfl, rfl⟩
  (try go_wp2_with fail)
  refine hK.out _ _ ⟨BX.two.1, BX.two.2.1, BY.two.1, BY.two.2.1, ((HS).look rX).trans (by rw [eX]), ((HS).look rY).trans (by rw [eY])⟩ (fun hHeld => ?_)
  clear hK K
  try simp only [Act.put, List.setIfInBounds_toArray, List.set_cons_zero, List.set_cons_succ]
  refine wpAnyH_ready (rs := [20]) (by kernel_rfl) (by simp) ?_
  refine AllReadyH.cons (o := { dst := some 49, op := _, type := _, pos := _, after := _, guard := _ }) rfl (fun K hK => ?_) AllReadyH.nil
  go_simp
  (try go_wp2_with fail)
  refine hK.out _ _ ⟨(BX.alloc (.cells #[.int .i64 Q1, .int .i64 Q2] 3)).two.1, (BX.alloc (.cells #[.int .i64 Q1, .int .i64 Q2] 3)).two.2.1, (BY.alloc (.cells #[.int .i64 Q1, .int .i64 Q2] 3)).two.1, (BY.alloc (.cells #[.int .i64 Q1, .int .i64 Q2] 3)).two.2.1, ((HS.alloc (.cells #[.int .i64 Q1, .int .i64 Q2] 3)).look rX).trans (by rw [eX]), ((HS.alloc (.cells #[.int .i64 Q1, .int .i64 Q2] 3)).look rY).trans (by rw [eY])⟩ (fun hHeld => ?_)
  clear hK K
  try simp only [Act.put, List.setIfInBounds_toArray, List.set_cons_zero, List.set_cons_succ]
  have B8 := Blk.new vd #[.int .i64 Q1, .int .i64 Q2] 3
  replace BX := BX.alloc (.cells #[.int .i64 Q1, .int .i64 Q2] 3)
  replace BY := BY.alloc (.cells #[.int .i64 Q1, .int .i64 Q2] 3)
  replace HS := HS.alloc (.cells #[.int .i64 Q1, .int .i64 Q2] 3)
  replace hb := chain_alloc hb (.cells #[.int .i64 Q1, .int .i64 Q2] 3)
  generalize vd.alloc (.cells #[.int .i64 Q1, .int .i64 Q2] 3) = wA at *
  generalize vd.heap.size = g8 at *
  refine wpAnyH_ready (rs := [21]) (by kernel_rfl) (by simp) ?_
  refine AllReadyH.cons (o := { dst := some 50, op := _, type := _, pos := _, after := _, guard := _ }) rfl (fun K hK => ?_) AllReadyH.nil
  go_simp
  refine (HO.out _ _ B8).mono ?_
  rintro e wc ⟨rfl, rfl⟩
  (try go_wp2_with fail)
  refine hK.out _ _ ⟨BX.two.1, BX.two.2.1, BY.two.1, BY.two.2.1, ((HS).look rX).trans (by rw [eX]), ((HS).look rY).trans (by rw [eY])⟩ (fun hHeld => ?_)
  clear hK K
  try simp only [Act.put, List.setIfInBounds_toArray, List.set_cons_zero, List.set_cons_succ]
  refine wpAnyH_take (i := 22) (oi := { dst := some 6, op := _, type := _, pos := _, after := _, guard := _ }) (v := ?_) rfl (by kernel_rfl) (by kernel_rfl) (by kernel_rfl) (fun _ _ _ h => h) (Or.inl ⟨by rfl, ?_⟩) (by assumption) ?_
  rotate_left
  · intro w hSw
    (try dsimp only at hSw)
    go_simp
    (try (with_reducible rfl))
  try simp only [Act.put, List.setIfInBounds_toArray, List.set_cons_zero, List.set_cons_succ]
  refine wpAnyH_done (by kernel_rfl) ?_ _
  clear hHeld
  (try go_wp2_with fail)
  go_ret
  exact ⟨rfl, hb⟩
/-- What CompareExact says. -/
def ceV (p c h s xn xd yn yd : Int) : Int × Int := if sfC p c h s [(xn, xd), (yn, yd)] = 0 then (cmV s.toNat xn xd yn yd, 0) else (0, sfC p c h s [(xn, xd), (yn, yd)])
abbrev ceE (r : Int × Int) : Value := .tuple #[.int .i64 r.1, .int .i64 r.2]
set_option maxRecDepth 8000 in
set_option maxHeartbeats 1000000 in
theorem implCompareExact_any (p c h s xn xd yn yd : Int) (hxd : -9223372036854775808 ≤ xd ∧ xd ≤ 9223372036854775807) (hyd : -9223372036854775808 ≤ yd ∧ yd ≤ 9223372036854775807) (w : World) :
    Calls Try.prog 25 #[.agg #[.int .i64 p, .int .i64 c, .int .i64 h, .int .i64 s], .agg #[.int .i64 xn, .int .i64 xd], .agg #[.int .i64 yn, .int .i64 yd]] w fun e w' => e = .returned (ceE (ceV p c h s xn xd yn yd)) ∧ Below w.heap.size w w' := by
  have hsf : ∀ (g : Nat) (W : World), Blk W g #[.int .i64 xn, .int .i64 xd, .int .i64 yn, .int .i64 yd] 29 → Calls Try.prog 39 #[.agg #[.int .i64 p, .int .i64 c, .int .i64 h, .int .i64 s], .slice (some ⟨g, 0, none⟩) 2 2] W (ScGot s (sfC p c h s [(xn, xd), (yn, yd)]) W) := fun g W B => scalesFor_any p c h s (some ⟨g, 0, none⟩) [(xn, xd), (yn, yd)] 2 W (by simp) (OX.two B) (by simp only [List.mem_cons, List.not_mem_nil, or_false]; intro r hr; rcases hr with rfl | rfl <;> (dsimp only; omega))
  by_cases h0 : sfC p c h s [(xn, xd), (yn, yd)] = 0
  · obtain ⟨g, hall⟩ := sfC_zero h0
    obtain ⟨S, rfl, hS⟩ := vB_side g
    have q1 := hall (xn, xd) (by simp)
    have q2 := hall (yn, yd) (by simp)
    rw [Int.toNat_natCast] at q1 q2
    obtain ⟨q11, q12, q13, q14⟩ := xvB_parts q1
    obtain ⟨q21, q22, q23, q24⟩ := xvB_parts q2
    dsimp only at q11 q12 q13 q14 q21 q22 q23 q24
    have ev : ceV p c h (S : Int) xn xd yn yd = (cmV S xn xd yn yd, 0) := by unfold ceV; rw [if_pos h0, Int.toNat_natCast]
    rw [ev]
    dsimp only [ceE]
    rw [h0] at hsf
    have HSF := Lib.hid hsf
    have hcm := fun b W (H : ScM W b S (nn S)) => compare_any b S hS xn xd yn yd ⟨q13, q14⟩ ⟨q23, q24⟩ ⟨q11, q12⟩ ⟨q21, q22⟩ W H
    obtain ⟨r1, hv⟩ : ∃ r, cmV S xn xd yn yd = r := ⟨_, rfl⟩
    rw [hv] at hcm ⊢
    have HMI := Lib.hid hcm
    clear hsf ev h0 g hall q1 q2 hv hcm hS
    obtain ⟨BV, BX, BY, hb, hz⟩ := three_new w #[.int .i64 p, .int .i64 c, .int .i64 h, .int .i64 (S : Int)] #[.int .i64 xn, .int .i64 xd] #[.int .i64 yn, .int .i64 yd] 27 29 29
    obtain ⟨x0, x1, x2, x3, xf, xl⟩ := BV.four
    obtain ⟨a0, a1, af, al⟩ := BX.two
    obtain ⟨b0, b1, bf, bl⟩ := BY.two
    go_enter Try.func25, Try.ntmps25
    go_wp2_with fail
    clear x0 x1 x2 x3 xf xl a0 a1 af al b0 b1 bf bl
    generalize (((w.alloc (.cells #[.int .i64 p, .int .i64 c, .int .i64 h, .int .i64 (S : Int)] 27)).alloc (.cells #[.int .i64 xn, .int .i64 xd] 29)).alloc (.cells #[.int .i64 yn, .int .i64 yd] 29)) = v0 at *
    have BL := Blk.new v0 #[.int .i64 xn, .int .i64 xd, .int .i64 yn, .int .i64 yd] 29
    rw [hz] at BL
    replace BV := BV.alloc (.cells #[.int .i64 xn, .int .i64 xd, .int .i64 yn, .int .i64 yd] 29)
    replace BX := BX.alloc (.cells #[.int .i64 xn, .int .i64 xd, .int .i64 yn, .int .i64 yd] 29)
    replace BY := BY.alloc (.cells #[.int .i64 xn, .int .i64 xd, .int .i64 yn, .int .i64 yd] 29)
    replace hb := chain_alloc hb (.cells #[.int .i64 xn, .int .i64 xd, .int .i64 yn, .int .i64 yd] 29)
    refine (HSF.out _ _ BL).mono ?_
    rintro e w1 ⟨mv, rfl, hm, -, hb1⟩
    obtain ⟨b, rfl, HS⟩ := hm rfl
    rw [Int.toNat_natCast] at HS
    replace BV := BV.below hb1
    replace BX := BX.below hb1
    replace BY := BY.below hb1
    replace hb := chain hb hb1
    clear hb1 hm HSF
    obtain ⟨x0, x1, x2, x3, xf, xl⟩ := BV.four
    obtain ⟨a0, a1, af, al⟩ := BX.two
    obtain ⟨b0, b1, bf, bl⟩ := BY.two
    go_wp2_with (go_at_call 53; refine (HMI.out _ _ HS).mono ?_; rintro e w2 ⟨rfl, hb2⟩)
    go_ret2
    exact ⟨rfl, chain hb hb2⟩
  · have ev : ceV p c h s xn xd yn yd = (0, sfC p c h s [(xn, xd), (yn, yd)]) := by unfold ceV; rw [if_neg h0]
    rw [ev]
    dsimp only [ceE]
    obtain ⟨r, hr⟩ : ∃ r, sfC p c h s [(xn, xd), (yn, yd)] = r := ⟨_, rfl⟩
    rw [hr] at hsf h0 ⊢
    have f0 : (r == 0) = false := by rw [beq_eq_false_iff_ne]; exact h0
    have HSF := Lib.hid hsf
    have HR0 := Lib.hid h0
    clear hsf ev hr h0
    obtain ⟨BV, BX, BY, hb, hz⟩ := three_new w #[.int .i64 p, .int .i64 c, .int .i64 h, .int .i64 s] #[.int .i64 xn, .int .i64 xd] #[.int .i64 yn, .int .i64 yd] 27 29 29
    obtain ⟨x0, x1, x2, x3, xf, xl⟩ := BV.four
    obtain ⟨a0, a1, af, al⟩ := BX.two
    obtain ⟨b0, b1, bf, bl⟩ := BY.two
    go_enter Try.func25, Try.ntmps25
    go_wp2_with fail
    clear x0 x1 x2 x3 xf xl a0 a1 af al b0 b1 bf bl
    generalize (((w.alloc (.cells #[.int .i64 p, .int .i64 c, .int .i64 h, .int .i64 s] 27)).alloc (.cells #[.int .i64 xn, .int .i64 xd] 29)).alloc (.cells #[.int .i64 yn, .int .i64 yd] 29)) = v0 at *
    have BL := Blk.new v0 #[.int .i64 xn, .int .i64 xd, .int .i64 yn, .int .i64 yd] 29
    rw [hz] at BL
    replace BV := BV.alloc (.cells #[.int .i64 xn, .int .i64 xd, .int .i64 yn, .int .i64 yd] 29)
    replace BX := BX.alloc (.cells #[.int .i64 xn, .int .i64 xd, .int .i64 yn, .int .i64 yd] 29)
    replace BY := BY.alloc (.cells #[.int .i64 xn, .int .i64 xd, .int .i64 yn, .int .i64 yd] 29)
    replace hb := chain_alloc hb (.cells #[.int .i64 xn, .int .i64 xd, .int .i64 yn, .int .i64 yd] 29)
    refine (HSF.out _ _ BL).mono ?_
    rintro e w1 ⟨mv, rfl, -, hm, hb1⟩
    have hm2 := hm HR0.out
    subst hm2
    replace hb := chain hb hb1
    clear hb1 hm HSF HR0
    go_wp2_with fail
    go_ret2
    exact ⟨rfl, hb⟩
end Go.Proofs.Ytgifkopgnpdkiaa
