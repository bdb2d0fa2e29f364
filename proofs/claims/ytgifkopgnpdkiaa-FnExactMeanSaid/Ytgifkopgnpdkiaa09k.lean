/- Contract of the program's sums of exact numbers. -/
import Derived.Test.Ytgifkopgnpdkiaa09j
import Derived.Deep.Cut
namespace Go.Proofs.Ytgifkopgnpdkiaa
open Go.ChangeShapes Go.WideShapes Go.ChangeAt Go.RowKit
set_option linter.unusedVariables false
set_option linter.unusedSimpArgs false

/-- A sum of two numbers, the depth of the first at most that of the second. -/
def adO (S : Nat) (a : Int) (i : Nat) (b : Int) (j : Nat) : Option (Int × Int) :=
  if 2000000000000000000 < (a * (scN S (j - i) : Int)).natAbs then none else rdX S (a * (scN S (j - i) : Int) + b) j
theorem adX_le {S : Nat} {a b : Int} {i j : Nat} (h : i ≤ j) : adX S a i b j = adO S a i b j := by unfold adX; rw [if_pos h]; rfl
theorem adX_gt {S : Nat} {a b : Int} {i j : Nat} (h : ¬ i ≤ j) : adX S a i b j = adO S b j a i := by unfold adX; rw [if_neg h]; rfl
set_option maxRecDepth 8000 in
set_option maxHeartbeats 1000000 in
theorem sum_any (b S : Nat) (hS : 1 ≤ S ∧ S ≤ 6) (xn yn : Int) (i j : Nat) (hx : -1000000000000000000 ≤ xn ∧ xn ≤ 1000000000000000000) (hy : -1000000000000000000 ≤ yn ∧ yn ≤ 1000000000000000000) (hi : i < nn S) (hj : j < nn S) (w : World) (HS : ScM w b S (nn S)) :
    Calls Try.prog 49 #[.map (some b), .agg #[.int .i64 xn, .int .i64 (i : Int)], .agg #[.int .i64 yn, .int .i64 (j : Int)]] w fun e w' => e = .returned (xoV (xo3 (adX S xn i yn j) 3)) ∧ Below w.heap.size w w' := by
  have hbw := HS.lt
  have hn := nn_range hS
  obtain ⟨⟨r1, r2, r3⟩, hv⟩ : ∃ r, xo3 (adX S xn i yn j) 3 = r := ⟨_, rfl⟩
  rw [hv]
  dsimp only [xoV]
  obtain ⟨BX, BY, BO, hb, hz⟩ := three_new w #[.int .i64 xn, .int .i64 (i : Int)] #[.int .i64 yn, .int .i64 (j : Int)] #[.int .i64 0, .int .i64 0] 29 29 29
  replace HS := HS.below hb
  obtain ⟨x0, x1, xf, xl⟩ := BX.two
  obtain ⟨y0, y1, yf, yl⟩ := BY.two
  obtain ⟨z0, z1, zf, zl⟩ := BO.two
  go_enter Try.func49, Try.ntmps49
  go_upto_if 13 with (fail)
  clear x0 x1 xf xl y0 y1 yf yl z0 z1 zf zl
  generalize (((w.alloc (.cells #[.int .i64 xn, .int .i64 (i : Int)] 29)).alloc (.cells #[.int .i64 yn, .int .i64 (j : Int)] 29)).alloc (.cells #[.int .i64 0, .int .i64 0] 29)) = v0 at *
  go_cut [] from 9 (fun wr => ∃ (A B : Int) (m n : Nat), m ≤ n ∧ n < nn S ∧ (-1000000000000000000 ≤ A ∧ A ≤ 1000000000000000000) ∧ (-1000000000000000000 ≤ B ∧ B ≤ 1000000000000000000) ∧ xo3 (adO S A m B n) 3 = (r1, r2, r3) ∧ Blk wr w.heap.size #[.int .i64 A, .int .i64 (m : Int)] 29 ∧ Blk wr (w.heap.size + 1) #[.int .i64 B, .int .i64 (n : Int)] 29 ∧ Blk wr (w.heap.size + 1 + 1) #[.int .i64 0, .int .i64 0] 29 ∧ ScM wr b S (nn S) ∧ Below w.heap.size w wr)
  case first =>
    obtain ⟨x0, x1, xf, xl⟩ := BX.two
    obtain ⟨y0, y1, yf, yl⟩ := BY.two
    obtain ⟨z0, z1, zf, zl⟩ := BO.two
    by_cases c : i ≤ j
    · have cI : ¬ (j : Int) < (i : Int) := by omega
      go_wp2
      go_meet
      case rel => exact ⟨xn, yn, i, j, c, hj, hx, hy, by rw [← adX_le c]; exact hv, BX, BY, BO, HS, hb⟩
    · have cI : (j : Int) < (i : Int) := by omega
      go_wp2
      go_meet
      case rel => exact ⟨yn, xn, j, i, by omega, hi, hy, hx, by rw [← adX_gt c]; exact hv, (BX.set2 _ _).far2 (by omega) _ _, (BY.far2 (by omega) _ _).set2 _ _, (BO.far2 (by omega) _ _).far2 (by omega) _ _, (HS.far2 (by omega) _ _).far2 (by omega) _ _, belowFar2 (belowFar2 hb (by omega) _ _) (by omega) _ _⟩
  case rest =>
    clear BX BY BO HS hb hv hx hy hi hj hz
    obtain ⟨A, B, m, n, hmn, hnS, hA, hB, hv, BX, BY, BO, HS, hb⟩ := hcut
    have kJ : -9223372036854775808 ≤ ((n : Int) - (m : Int)) ∧ ((n : Int) - (m : Int)) ≤ 9223372036854775807 := by omega
    have esc : scA S (nn S) ((n : Int) - (m : Int)) = ((scN S (n - m) : Nat) : Int) := by
      unfold scA
      rw [if_pos (by omega), show ((n : Int) - (m : Int)).toNat = n - m by omega]
    have hsc := scN_in hS (show n - m < nn S by omega)
    have hsc1 := scN_pos hS.1 (n - m)
    unfold adO at hv
    obtain ⟨C, hC⟩ : ∃ C : Int, ((scN S (n - m) : Nat) : Int) = C := ⟨_, rfl⟩
    rw [hC] at esc hv
    have hp := fun W => product_any A C (by omega) (by omega) W
    have HP := Lib.hid hp
    clear hp
    obtain ⟨x0, x1, xf, xl⟩ := BX.two
    obtain ⟨y0, y1, yf, yl⟩ := BY.two
    obtain ⟨z0, z1, zf, zl⟩ := BO.two
    go_wp2_with (first | (at_lookup; refine wp_scale _ rfl _ _ rfl b S (nn S) rfl HS _ rfl kJ ?_) | (go_at_call 46; refine (HP.out _).mono ?_; rintro e w2 ⟨hh, ll, rfl, HWD, hb2⟩; clear HP; replace BX := BX.below hb2; replace BY := BY.below hb2; replace BO := BO.below hb2; replace HS := HS.below hb2; replace hb := chain hb hb2; clear hb2; obtain ⟨x0, x1, xf, xl⟩ := BX.two; obtain ⟨y0, y1, yf, yl⟩ := BY.two; obtain ⟨z0, z1, zf, zl⟩ := BO.two))
    clear x0 x1 xf xl y0 y1 yf yl z0 z1 zf zl
    have B8 := Blk.new w2 #[.bool (ngB A C), .int .u64 hh, .int .u64 ll] 72
    have h8 : w.heap.size + 1 + 1 < w2.heap.size := BO.lt
    replace BY := BY.alloc (.cells #[.bool (ngB A C), .int .u64 hh, .int .u64 ll] 72)
    replace BO := BO.alloc (.cells #[.bool (ngB A C), .int .u64 hh, .int .u64 ll] 72)
    replace HS := HS.alloc (.cells #[.bool (ngB A C), .int .u64 hh, .int .u64 ll] 72)
    replace hb := chain_alloc hb (.cells #[.bool (ngB A C), .int .u64 hh, .int .u64 ll] 72)
    generalize w2.alloc (.cells #[.bool (ngB A C), .int .u64 hh, .int .u64 ll] 72) = w3 at *
    generalize w2.heap.size = g8 at *
    have hab : (A * C).natAbs = A.natAbs * C.natAbs := Int.natAbs_mul A C
    refine (within_any (ngB A C) hh ll _ 2000000000000000000 HWD (by omega) w3).mono ?_
    rintro e w4 ⟨rfl, hb4⟩
    replace BY := BY.below hb4
    replace B8 := B8.below hb4
    replace BO := BO.below hb4
    replace HS := HS.below hb4
    replace hb := chain hb hb4
    clear hb4
    by_cases c : 2000000000000000000 < (A * C).natAbs
    · rw [if_pos c] at hv
      simp only [xo3, Prod.mk.injEq] at hv
      obtain ⟨rfl, rfl, rfl⟩ := hv
      rw [decide_eq_false (show ¬ ((A.natAbs * C.natAbs : Nat) : Int) ≤ 2000000000000000000 by rw [← hab]; omega)]
      clear c hab HWD esc hsc hsc1
      obtain ⟨z0, z1, zf, zl⟩ := BO.two
      go_wp2_with fail
      have BRn := BO.set2 (.int .i64 0) (.int .i64 0)
      obtain ⟨u0, u1, uf, ul⟩ := BRn.two
      refine bodyPost_ret (v := .tuple #[.agg #[.int .i64 0, .int .i64 0], .int .i64 3]) (by simp [results, Try.results49, go_sem, u0, u1]) rfl ?_
      exact ⟨rfl, belowFar2 hb (by omega) _ _⟩
    · rw [if_neg c] at hv
      rw [decide_eq_true (show ((A.natAbs * C.natAbs : Nat) : Int) ≤ 2000000000000000000 by rw [← hab]; omega)]
      have hna := fun W => narrow_any (ngB A C) hh ll _ HWD (by rw [← hab]; omega) W
      rw [sgM_mul] at hna
      obtain ⟨L0, L1⟩ : -2000000000000000000 ≤ A * C ∧ A * C ≤ 2000000000000000000 := by omega
      obtain ⟨L, hL⟩ : ∃ L, A * C = L := ⟨_, rfl⟩
      rw [hL] at hna hv L0 L1
      obtain ⟨B0, B1⟩ := hB
      have hp2 := fun W => product_any (L + B) 1 (by omega) (by omega) W
      have hr := fun W hh ll (H : ScM W b S (nn S)) (HW : WD hh ll ((L + B).natAbs * (1 : Int).natAbs)) => product_reduced b S hS (L + B) 1 n (by omega) W hh ll H HW
      rw [Int.mul_one, hv] at hr
      dsimp only [xoV] at hr
      obtain ⟨K, hK⟩ : ∃ K, L + B = K := ⟨_, rfl⟩
      have wz2 : IntKind.i64.wrap (L + B) = K := by rw [IntWalk.i64_in _ (by omega)]; exact hK
      rw [hK] at hp2 hr
      have HN := Lib.hid hna
      have HP2 := Lib.hid hp2
      have HR := Lib.hid hr
      clear hna hp2 hr hv c hab hK HWD esc hsc hsc1 hL hA hmn hnS BX
      obtain ⟨y0, y1, yf, yl⟩ := BY.two
      obtain ⟨q0, q1, q2, qf, ql⟩ := B8.three
      obtain ⟨z0, z1, zf, zl⟩ := BO.two
      go_wp2_with fail
      clear y0 y1 yf yl q0 q1 q2 qf ql z0 z1 zf zl
      have hd_ : w4.drew.heap.size = w4.heap.size := rfl
      replace BY := BY.drew
      replace B8 := B8.drew
      replace BO := BO.drew
      replace HS := HS.drew
      replace hb := hb.drew
      refine wp_region_held_drew (S := fun w' => w'.cell? ⟨(w.heap.size + 1), 0, none⟩ = some (.int .i64 B) ∧ w'.cell? ⟨(w.heap.size + 1), 1, none⟩ = some (.int .i64 (n : Int)) ∧ w'.cell? ⟨g8, 0, none⟩ = some (.bool (ngB A C)) ∧ w'.cell? ⟨g8, 1, none⟩ = some (.int .u64 hh) ∧ w'.cell? ⟨g8, 2, none⟩ = some (.int .u64 ll)) (by kernel_rfl) ⟨BY.two.1, BY.two.2.1, B8.three.1, B8.three.2.1, B8.three.2.2.1⟩ (fun hHeld => ?_)
      clear hHeld
      generalize w4.drew = vd at *
      have hHeld : vd.cell? ⟨(w.heap.size + 1), 0, none⟩ = some (.int .i64 B) ∧ vd.cell? ⟨(w.heap.size + 1), 1, none⟩ = some (.int .i64 (n : Int)) ∧ vd.cell? ⟨g8, 0, none⟩ = some (.bool (ngB A C)) ∧ vd.cell? ⟨g8, 1, none⟩ = some (.int .u64 hh) ∧ vd.cell? ⟨g8, 2, none⟩ = some (.int .u64 ll) := ⟨BY.two.1, BY.two.2.1, B8.three.1, B8.three.2.1, B8.three.2.2.1⟩
      refine wpAnyH_take (i := 0) (oi := { dst := some 30, op := _, type := _, pos := _, after := _, guard := _ }) (v := ?_) rfl (by kernel_rfl) (by kernel_rfl) (by kernel_rfl) (fun _ _ _ h => h) (Or.inl ⟨by rfl, ?_⟩) (by assumption) ?_
      rotate_left
      · intro w hSw
        (try dsimp only at hSw)
        go_simp
        (try (with_reducible rfl))
      try simp only [Act.put, List.setIfInBounds_toArray, List.set_cons_zero, List.set_cons_succ]
      refine wpAnyH_take (i := 1) (oi := { dst := some 31, op := _, type := _, pos := _, after := _, guard := _ }) (v := ?_) rfl (by kernel_rfl) (by kernel_rfl) (by kernel_rfl) (fun _ _ _ h => h) (Or.inl ⟨by rfl, ?_⟩) (by assumption) ?_
      rotate_left
      · intro w hSw
        (try dsimp only at hSw)
        go_simp
        (try (with_reducible rfl))
      try simp only [Act.put, List.setIfInBounds_toArray, List.set_cons_zero, List.set_cons_succ]
      refine wpAnyH_take (i := 3) (oi := { dst := some 33, op := _, type := _, pos := _, after := _, guard := _ }) (v := ?_) rfl (by kernel_rfl) (by kernel_rfl) (by kernel_rfl) (fun _ _ _ h => h) (Or.inl ⟨by rfl, ?_⟩) (by assumption) ?_
      rotate_left
      · intro w hSw
        (try dsimp only at hSw)
        go_simp
        (try (with_reducible rfl))
      try simp only [Act.put, List.setIfInBounds_toArray, List.set_cons_zero, List.set_cons_succ]
      refine wpAnyH_take (i := 4) (oi := { dst := some 34, op := _, type := _, pos := _, after := _, guard := _ }) (v := ?_) rfl (by kernel_rfl) (by kernel_rfl) (by kernel_rfl) (fun _ _ _ h => h) (Or.inl ⟨by rfl, ?_⟩) (by assumption) ?_
      rotate_left
      · intro w hSw
        (try dsimp only at hSw)
        go_simp
        (try (with_reducible rfl))
      try simp only [Act.put, List.setIfInBounds_toArray, List.set_cons_zero, List.set_cons_succ]
      refine wpAnyH_take (i := 7) (oi := { dst := some 37, op := _, type := _, pos := _, after := _, guard := _ }) (v := ?_) rfl (by kernel_rfl) (by kernel_rfl) (by kernel_rfl) (fun _ _ _ h => h) (Or.inl ⟨by rfl, ?_⟩) (by assumption) ?_
      rotate_left
      · intro w hSw
        (try dsimp only at hSw)
        go_simp
        (try (with_reducible rfl))
      try simp only [Act.put, List.setIfInBounds_toArray, List.set_cons_zero, List.set_cons_succ]
      refine wpAnyH_take (i := 8) (oi := { dst := some 38, op := _, type := _, pos := _, after := _, guard := _ }) (v := ?_) rfl (by kernel_rfl) (by kernel_rfl) (by kernel_rfl) (fun _ _ _ h => h) (Or.inl ⟨by rfl, ?_⟩) (by assumption) ?_
      rotate_left
      · intro w hSw
        (try dsimp only at hSw)
        go_simp
        (try (with_reducible rfl))
      try simp only [Act.put, List.setIfInBounds_toArray, List.set_cons_zero, List.set_cons_succ]
      refine wpAnyH_ready (rs := [2]) (by kernel_rfl) (by simp) ?_
      refine AllReadyH.cons (o := { dst := some 32, op := _, type := _, pos := _, after := _, guard := _ }) rfl (fun K hK => ?_) AllReadyH.nil
      go_simp
      refine (HN.out _).mono ?_
      rintro e w4 ⟨rfl, hb4⟩
      replace BY := BY.below hb4
      replace B8 := B8.below hb4
      replace BO := BO.below hb4
      replace HS := HS.below hb4
      replace hb := chain hb hb4
      clear hb4
      (try go_wp2_with fail)
      refine hK.out _ _ ⟨BY.two.1, BY.two.2.1, B8.three.1, B8.three.2.1, B8.three.2.2.1⟩ (fun hHeld => ?_)
      clear hK K
      try simp only [Act.put, List.setIfInBounds_toArray, List.set_cons_zero, List.set_cons_succ]
      refine wpAnyH_take (i := 5) (oi := { dst := some 35, op := _, type := _, pos := _, after := _, guard := _ }) (v := ?_) rfl (by kernel_rfl) (by kernel_rfl) (by kernel_rfl) (fun _ _ _ h => h) (Or.inl ⟨by rfl, ?_⟩) (by assumption) ?_
      rotate_left
      · intro w hSw
        (try dsimp only at hSw)
        go_simp
        (try (with_reducible rfl))
      try simp only [Act.put, List.setIfInBounds_toArray, List.set_cons_zero, List.set_cons_succ]
      refine wpAnyH_ready (rs := [6]) (by kernel_rfl) (by simp) ?_
      refine AllReadyH.cons (o := { dst := some 36, op := _, type := _, pos := _, after := _, guard := _ }) rfl (fun K hK => ?_) AllReadyH.nil
      go_simp
      refine (HP2.out _).mono ?_
      rintro e w5 ⟨h2, l2, rfl, HWD2, hb5⟩
      replace BY := BY.below hb5
      replace B8 := B8.below hb5
      replace BO := BO.below hb5
      replace HS := HS.below hb5
      replace hb := chain hb hb5
      clear hb5
      (try go_wp2_with fail)
      refine hK.out _ _ ⟨BY.two.1, BY.two.2.1, B8.three.1, B8.three.2.1, B8.three.2.2.1⟩ (fun hHeld => ?_)
      clear hK K
      try simp only [Act.put, List.setIfInBounds_toArray, List.set_cons_zero, List.set_cons_succ]
      refine wpAnyH_ready (rs := [9]) (by kernel_rfl) (by simp) ?_
      refine AllReadyH.cons (o := { dst := some 39, op := _, type := _, pos := _, after := _, guard := _ }) rfl (fun K hK => ?_) AllReadyH.nil
      go_simp
      refine (HR.out _ _ _ HS HWD2).mono ?_
      rintro e w6 ⟨rfl, hb6⟩
      replace BY := BY.below hb6
      replace B8 := B8.below hb6
      replace BO := BO.below hb6
      replace HS := HS.below hb6
      replace hb := chain hb hb6
      clear hb6
      (try go_wp2_with fail)
      refine hK.out _ _ ⟨BY.two.1, BY.two.2.1, B8.three.1, B8.three.2.1, B8.three.2.2.1⟩ (fun hHeld => ?_)
      clear hK K
      try simp only [Act.put, List.setIfInBounds_toArray, List.set_cons_zero, List.set_cons_succ]
      refine wpAnyH_take (i := 10) (oi := { dst := some 40, op := _, type := _, pos := _, after := _, guard := _ }) (v := ?_) rfl (by kernel_rfl) (by kernel_rfl) (by kernel_rfl) (fun _ _ _ h => h) (Or.inl ⟨by rfl, ?_⟩) (by assumption) ?_
      rotate_left
      · intro w hSw
        (try dsimp only at hSw)
        go_simp
        (try (with_reducible rfl))
      try simp only [Act.put, List.setIfInBounds_toArray, List.set_cons_zero, List.set_cons_succ]
      refine wpAnyH_take (i := 11) (oi := { dst := some 41, op := _, type := _, pos := _, after := _, guard := _ }) (v := ?_) rfl (by kernel_rfl) (by kernel_rfl) (by kernel_rfl) (fun _ _ _ h => h) (Or.inl ⟨by rfl, ?_⟩) (by assumption) ?_
      rotate_left
      · intro w hSw
        (try dsimp only at hSw)
        go_simp
        (try (with_reducible rfl))
      try simp only [Act.put, List.setIfInBounds_toArray, List.set_cons_zero, List.set_cons_succ]
      refine wpAnyH_ready (rs := [12]) (by kernel_rfl) (by simp) ?_
      refine AllReadyH.cons (o := { dst := none, op := _, type := _, pos := _, after := _, guard := _ }) rfl (fun K hK => ?_) AllReadyH.nil
      obtain ⟨u0, u1, uf, ul⟩ := BO.two
      go_simp
      (try go_wp2_with fail)
      refine hK.out _ _ ⟨(BY.far2 (B := (w.heap.size + 1 + 1)) (by omega) (.int .i64 r1) (.int .i64 r2)).two.1, (BY.far2 (B := (w.heap.size + 1 + 1)) (by omega) (.int .i64 r1) (.int .i64 r2)).two.2.1, (B8.far2 (B := (w.heap.size + 1 + 1)) (by omega) (.int .i64 r1) (.int .i64 r2)).three.1, (B8.far2 (B := (w.heap.size + 1 + 1)) (by omega) (.int .i64 r1) (.int .i64 r2)).three.2.1, (B8.far2 (B := (w.heap.size + 1 + 1)) (by omega) (.int .i64 r1) (.int .i64 r2)).three.2.2.1⟩ (fun hHeld => ?_)
      clear hK K
      try simp only [Act.put, List.setIfInBounds_toArray, List.set_cons_zero, List.set_cons_succ]
      refine wpAnyH_take (i := 13) (oi := { dst := some 7, op := _, type := _, pos := _, after := _, guard := _ }) (v := ?_) rfl (by kernel_rfl) (by kernel_rfl) (by kernel_rfl) (fun _ _ _ h => h) (Or.inl ⟨by rfl, ?_⟩) (by assumption) ?_
      rotate_left
      · intro w hSw
        (try dsimp only at hSw)
        go_simp
        (try (with_reducible rfl))
      try simp only [Act.put, List.setIfInBounds_toArray, List.set_cons_zero, List.set_cons_succ]
      refine wpAnyH_done (by kernel_rfl) ?_ _
      clear hHeld
      have BRn := BO.set2 (.int .i64 r1) (.int .i64 r2)
      obtain ⟨u0, u1, uf, ul⟩ := BRn.two
      go_wp2_with fail
      refine bodyPost_ret (v := .tuple #[.agg #[.int .i64 r1, .int .i64 r2], .int .i64 r3]) (by simp [results, Try.results49, go_sem, u0, u1]) rfl ?_
      exact ⟨rfl, belowFar2 hb (by omega) _ _⟩
end Go.Proofs.Ytgifkopgnpdkiaa
