/- Texts of a proof, laid together. -/
import Derived.Test.YtfomfbfcnenhbaaGreatV12
import Derived.Deep.LoopGhost
namespace Go.Proofs.YtfomfbfcnenhbaaGreat
open Go.ChangeShapes Go.WideShapes Go.ChangeAt Go.RowKit
set_option linter.unusedVariables false
set_option linter.unusedSimpArgs false
set_option maxRecDepth 4000
def slB (S : Nat) (d : Int) : Bool := decide (S = 1 ∨ d < nn S)
def slV (S : Nat) (d : Int) : Int := if slB S d = true then (scN S d.toNat : Int) else 0
theorem scN_one : ∀ k, scN 1 k = 1
  | 0 => rfl
  | k + 1 => by rw [scN_succ, scN_one k]
theorem slV_is {S : Nat} {d : Int} {k : Nat} (hb : slB S d = true) (hk : d.toNat = k ∨ S = 1) : slV S d = ((scN S k : Nat) : Int) := by
  unfold slV
  rw [if_pos hb]
  rcases hk with rfl | rfl
  · rfl
  · rw [scN_one, scN_one]
set_option maxRecDepth 8000 in
set_option maxHeartbeats 1000000 in
theorem l09Scale_any (p c h : Int) (S : Nat) (hS : 1 ≤ S ∧ S ≤ 6) (d : Int) (hd : d ≤ 9223372036854775807) (w : World) :
    Calls Tryz.prog 104 #[.agg #[.int .i64 p, .int .i64 c, .int .i64 h, .int .i64 (S : Int)], .int .i64 d] w fun e w' => e = .returned (.tuple #[.int .i64 (slV S d), .bool (slB S d)]) ∧ Below w.heap.size w w' := by
  have hn := nn_range hS
  have hbr := base_range hS
  have BV := Blk.new w #[.int .i64 p, .int .i64 c, .int .i64 h, .int .i64 (S : Int)] 25
  have hb : Below w.heap.size w (w.alloc (.cells #[.int .i64 p, .int .i64 c, .int .i64 h, .int .i64 (S : Int)] 25)) := (Below.refl _ _).alloc (Nat.le_refl _) _
  have hba := fun W => l09Base_any p c h S hS.2 W
  obtain ⟨B, hB⟩ : ∃ B : Int, ((S * S : Nat) : Int) = B := ⟨_, rfl⟩
  rw [hB] at hba
  have HB := Lib.hid hba
  have HBe := Lib.hid hB
  have B0 : 1 ≤ B ∧ B ≤ 36 := by omega
  obtain ⟨rV, hrV⟩ : ∃ x, slV S d = x := ⟨_, rfl⟩
  obtain ⟨rB, hrB⟩ : ∃ x, slB S d = x := ⟨_, rfl⟩
  rw [hrV, hrB]
  have HrV := Lib.hid hrV
  have HrB := Lib.hid hrB
  clear hba hB hrV hrB hbr
  go_enter Tryz.func104, Tryz.ntmps104
  go_wp2_with fail
  generalize (w.alloc (.cells #[.int .i64 p, .int .i64 c, .int .i64 h, .int .i64 (S : Int)] 25)) = v0 at *
  go_loopg [6, 7] (nn S) (fun m q6 q7 wr => ∃ (k : Nat) (C : Int), k < nn S ∧ m = nn S - k ∧ (k = 0 ∨ (k : Int) ≤ d) ∧ (S = 1 → k = 0) ∧ q6 = .int .i64 C ∧ q7 = .int .i64 (k : Int) ∧ Hid (C = ((scN S k : Nat) : Int)) ∧ Blk wr w.heap.size #[.int .i64 p, .int .i64 c, .int .i64 h, .int .i64 (S : Int)] 25 ∧ Below w.heap.size w wr)
  case atStart => exact ⟨0, 1, by omega, by omega, .inl rfl, fun _ => rfl, rfl, rfl, Lib.hid (by rw [scN_zero]; rfl), BV, hb⟩
  case round =>
    clear BV hb
    obtain ⟨k, C, hk, hm, hkd, hk1, rfl, rfl, HC, BV, hb⟩ := hrel
    obtain ⟨x0, x1, x2, x3, xf, xl⟩ := BV.four
    have hC := scN_in hS hk
    have hC1 := scN_pos hS.1 k
    obtain ⟨C1, C2⟩ : 1 ≤ C ∧ C ≤ 1000000000000000 := by have := HC.out; omega
    clear hC hC1
    have fin : slB S d = true → (d.toNat = k ∨ S = 1) → rV = C ∧ rB = true := fun q1 q2 => ⟨by rw [← HrV.out, slV_is q1 q2, HC.out], by rw [← HrB.out, q1]⟩
    have FIN := Lib.hid fin
    clear fin
    by_cases hlt : (k : Int) < d
    · by_cases hS1 : S = 1
      · obtain ⟨rfl, rfl⟩ := FIN.out (by unfold slB; rw [decide_eq_true (Or.inl hS1)]) (.inr hS1)
        have hB1 : B = 1 := by have := HBe.out; subst hS1; omega
        subst hB1
        clear FIN hkd hk1 hS1
        go_wp2_with (go_at_call 118; refine (HB.out _).mono ?_; rintro e w1 ⟨rfl, hb1⟩; replace BV := BV.below hb1; replace hb := chain hb hb1; clear hb1; obtain ⟨x0, x1, x2, x3, xf, xl⟩ := BV.four)
        go_ret2
        exact ⟨rfl, hb⟩
      · have hB4 : 1 < B := by
          have h2 := HBe.out
          have h3 : 2 * 2 ≤ S * S := Nat.mul_le_mul (by omega) (by omega)
          omega
        obtain ⟨D, wD, HD⟩ : ∃ D : Int, IntKind.i64.wrap (C * B) = D ∧ Hid (D = ((scN S (k + 1) : Nat) : Int)) := by
          refine ⟨C * B, ?_, Lib.hid (by rw [HC.out, ← HBe.out, scN_succ]; rfl)⟩
          have h1 : 0 ≤ C * B := Int.mul_nonneg (by omega) (by omega)
          have h2 : C * B ≤ 1000000000000000 * 36 := Int.mul_le_mul C2 B0.2 (by omega) (by omega)
          exact IntWalk.i64_in _ (by omega)
        by_cases hkn : k + 1 < nn S
        · have hD := scN_in hS hkn
          have D1 : D ≤ 1000000000000000 := by have := HD.out; omega
          clear hD FIN
          go_wp2_with (go_at_call 118; refine (HB.out _).mono ?_; rintro e w1 ⟨rfl, hb1⟩; replace BV := BV.below hb1; replace hb := chain hb hb1; clear hb1; obtain ⟨x0, x1, x2, x3, xf, xl⟩ := BV.four)
          go_roundg (nn S - (k + 1))
          case measure => omega
          case rel => exact ⟨k + 1, D, hkn, rfl, .inr (by omega), fun q => absurd q hS1, rfl, by go_num, HD, BV, hb⟩
        · have hD := (scN_top hS).2 (by omega)
          rw [show nn S = k + 1 by omega] at hD
          have D1 : 1000000000000000 < D := by have := HD.out; omega
          have hno : slB S d = false := by
            unfold slB
            rw [decide_eq_false (by omega)]
          obtain rfl : rB = false := by rw [← HrB.out]; exact hno
          obtain rfl : rV = 0 := by rw [← HrV.out]; unfold slV; rw [hno]; rfl
          clear hD FIN hno
          go_wp2_with (go_at_call 118; refine (HB.out _).mono ?_; rintro e w1 ⟨rfl, hb1⟩; replace BV := BV.below hb1; replace hb := chain hb hb1; clear hb1; obtain ⟨x0, x1, x2, x3, xf, xl⟩ := BV.four)
          go_ret2
          exact ⟨rfl, hb⟩
    · obtain ⟨rfl, rfl⟩ := FIN.out (by unfold slB; rw [decide_eq_true (by omega)]) (.inl (by omega))
      clear FIN
      go_wp2
      go_ret2
      exact ⟨rfl, hb⟩
theorem xvB_scale {S : Nat} {n d : Int} (hS : 1 ≤ S ∧ S ≤ 6) (h0 : 0 < d) (h : inB n (-1000000000000000000) 1000000000000000000 = true) :
    xvB S n d = (slB S d && (decide (1 < ((S * S : Nat) : Int)) && decide (n.tmod ((S * S : Nat) : Int) ≠ 0))) := by
  by_cases h1 : d < nn S
  · rw [xvB_rest (by omega) ⟨by omega, h1⟩ h, show slB S d = true by unfold slB; rw [decide_eq_true (.inr h1)], Bool.true_and]
    by_cases hS1 : S = 1
    · subst hS1
      simp
    · have h3 : 2 * 2 ≤ S * S := Nat.mul_le_mul (by omega) (by omega)
      rw [decide_eq_true (show 1 < ((S * S : Nat) : Int) by omega), Bool.true_and]
  · rw [xvB_depth (by omega)]
    by_cases hS1 : S = 1
    · subst hS1
      simp
    · rw [show slB S d = false by unfold slB; rw [decide_eq_false (by omega)], Bool.false_and]
set_option maxRecDepth 8000 in
set_option maxHeartbeats 2000000 in
theorem l09Valid_any (p c h : Int) (S : Nat) (hS : 1 ≤ S ∧ S ≤ 6) (xn xd : Int) (hd : xd ≤ 9223372036854775807) (w : World) :
    Calls Tryz.prog 80 #[.agg #[.int .i64 p, .int .i64 c, .int .i64 h, .int .i64 (S : Int)], .agg #[.int .i64 xn, .int .i64 xd]] w fun e w' => e = .returned (.bool (xvB S xn xd)) ∧ Below w.heap.size w w' := by
  obtain ⟨BV, BX, hb, hz⟩ := two_new w #[.int .i64 p, .int .i64 c, .int .i64 h, .int .i64 (S : Int)] #[.int .i64 xn, .int .i64 xd] 25 30
  have hin := fun W => l01In_any xn (-1000000000000000000) 1000000000000000000 W
  have hsc := fun W => l09Scale_any p c h S hS xd hd W
  have hba := fun W => l09Base_any p c h S hS.2 W
  by_cases c0 : xd < 0
  · rw [xvB_depth (by omega)]
    clear hin hsc hba
    obtain ⟨x0, x1, x2, x3, xf, xl⟩ := BV.four
    obtain ⟨z0, z1, zf, zl⟩ := BX.two
    go_enter Tryz.func80, Tryz.ntmps80
    go_wp2_with (first | fail)
    go_ret
    exact ⟨rfl, hb⟩
  · cases c1 : inB xn (-1000000000000000000) 1000000000000000000 with
    | false =>
      rw [xvB_num c1]
      rw [c1] at hin
      have HI := Lib.hid hin
      clear hin hsc hba c1
      obtain ⟨x0, x1, x2, x3, xf, xl⟩ := BV.four
      obtain ⟨z0, z1, zf, zl⟩ := BX.two
      go_enter Tryz.func80, Tryz.ntmps80
      go_wp2_with (first | (go_at_call 98; refine (HI.out _).mono ?_; clear HI; rintro e w1 ⟨rfl, rfl⟩))
      go_ret
      exact ⟨rfl, hb⟩
    | true =>
      by_cases c2 : xd = 0
      · have hv : xvB S xn xd = true := by rw [c2]; exact xvB_zero hS c1
        rw [hv]
        rw [c1] at hin
        have HI := Lib.hid hin
        have f0 : (xd == 0) = true := by rw [c2]; rfl
        clear hin hsc hba c1 hv c2
        obtain ⟨x0, x1, x2, x3, xf, xl⟩ := BV.four
        obtain ⟨z0, z1, zf, zl⟩ := BX.two
        go_enter Tryz.func80, Tryz.ntmps80
        go_wp2_with (first | (go_at_call 98; refine (HI.out _).mono ?_; clear HI; rintro e w1 ⟨rfl, rfl⟩))
        go_ret
        exact ⟨rfl, hb⟩
      · rw [xvB_scale hS (by omega) c1]
        rw [c1] at hin
        have HI := Lib.hid hin
        have f0 : (xd == 0) = false := by rw [beq_eq_false_iff_ne]; exact c2
        have hbr := base_range hS
        obtain ⟨B, hB⟩ : ∃ B : Int, ((S * S : Nat) : Int) = B := ⟨_, rfl⟩
        have hB0 : B ≠ 0 := by omega
        rw [hB] at hba ⊢
        obtain ⟨T, hT⟩ : ∃ T : Int, xn.tmod B = T := ⟨_, rfl⟩
        rw [hT, show decide (T ≠ 0) = (T != 0) by rw [Bool.eq_iff_iff]; simp]
        have HB := Lib.hid hba
        clear hba hin c1 hB hbr
        obtain ⟨sv, hsv⟩ : ∃ x, slV S xd = x := ⟨_, rfl⟩
        rw [hsv] at hsc
        cases hs : slB S xd with
        | false =>
          rw [hs] at hsc
          rw [Bool.false_and]
          have HSC := Lib.hid hsc
          clear hsc hs hsv
          obtain ⟨x0, x1, x2, x3, xf, xl⟩ := BV.four
          obtain ⟨z0, z1, zf, zl⟩ := BX.two
          go_enter Tryz.func80, Tryz.ntmps80
          go_wp2_with (first | (go_at_call 98; refine (HI.out _).mono ?_; clear HI; rintro e w1 ⟨rfl, rfl⟩) | (go_at_call 104; refine (HSC.out _).mono ?_; clear HSC; rintro e w2 ⟨rfl, hb2⟩; replace BV := BV.below hb2; replace BX := BX.below hb2; replace hb := chain hb hb2; clear hb2; obtain ⟨x0, x1, x2, x3, xf, xl⟩ := BV.four; obtain ⟨z0, z1, zf, zl⟩ := BX.two))
          clear x0 x1 x2 x3 xf xl z0 z1 zf zl
          have hd_ : w2.drew.heap.size = w2.heap.size := rfl
          replace BV := BV.drew
          replace BX := BX.drew
          replace hb := hb.drew
          refine wp_region_held_drew (S := fun w' => w'.cell? ⟨w.heap.size, 0, none⟩ = some (.int .i64 p) ∧ w'.cell? ⟨w.heap.size, 1, none⟩ = some (.int .i64 c) ∧ w'.cell? ⟨w.heap.size, 2, none⟩ = some (.int .i64 h) ∧ w'.cell? ⟨w.heap.size, 3, none⟩ = some (.int .i64 (S : Int)) ∧ w'.cell? ⟨(w.heap.size + 1), 0, none⟩ = some (.int .i64 xn) ∧ w'.cell? ⟨(w.heap.size + 1), 1, none⟩ = some (.int .i64 xd)) (by kernel_rfl) ⟨BV.four.1, BV.four.2.1, BV.four.2.2.1, BV.four.2.2.2.1, BX.two.1, BX.two.2.1⟩ (fun hHeld => ?_)
          clear hHeld
          generalize w2.drew = vd at *
          have hHeld : vd.cell? ⟨w.heap.size, 0, none⟩ = some (.int .i64 p) ∧ vd.cell? ⟨w.heap.size, 1, none⟩ = some (.int .i64 c) ∧ vd.cell? ⟨w.heap.size, 2, none⟩ = some (.int .i64 h) ∧ vd.cell? ⟨w.heap.size, 3, none⟩ = some (.int .i64 (S : Int)) ∧ vd.cell? ⟨(w.heap.size + 1), 0, none⟩ = some (.int .i64 xn) ∧ vd.cell? ⟨(w.heap.size + 1), 1, none⟩ = some (.int .i64 xd) := ⟨BV.four.1, BV.four.2.1, BV.four.2.2.1, BV.four.2.2.2.1, BX.two.1, BX.two.2.1⟩
          refine wpAnyH_take (i := 0) (oi := ⟨some 26, _, _, _, _, _⟩) (v := ?_) rfl (by kernel_rfl) (by kernel_rfl) (by kernel_rfl) (fun _ _ _ h => h) (Or.inl ⟨by rfl, ?_⟩) (by assumption) ?_
          rotate_left
          · intro w hSw; (try dsimp only at hSw); go_simp; (try (with_reducible rfl))
          try simp only [Act.put, List.setIfInBounds_toArray, List.set_cons_zero, List.set_cons_succ]
          refine wpAnyH_take (i := 1) (oi := ⟨some 27, _, _, _, _, _⟩) (v := ?_) rfl (by kernel_rfl) (by kernel_rfl) (by kernel_rfl) (fun _ _ _ h => h) (Or.inl ⟨by rfl, ?_⟩) (by assumption) ?_
          rotate_left
          · intro w hSw; (try dsimp only at hSw); go_simp; (try (with_reducible rfl))
          try simp only [Act.put, List.setIfInBounds_toArray, List.set_cons_zero, List.set_cons_succ]
          refine wpAnyH_take (i := 2) (oi := ⟨some 28, _, _, _, _, _⟩) (v := undef) rfl (by kernel_rfl) (by kernel_rfl) (by kernel_rfl) (fun _ _ _ h => h) (Or.inr ⟨by rfl, rfl⟩) (by assumption) ?_
          try simp only [Act.put, List.setIfInBounds_toArray, List.set_cons_zero, List.set_cons_succ]
          refine wpAnyH_take (i := 3) (oi := ⟨some 29, _, _, _, _, _⟩) (v := undef) rfl (by kernel_rfl) (by kernel_rfl) (by kernel_rfl) (fun _ _ _ h => h) (Or.inr ⟨by rfl, rfl⟩) (by assumption) ?_
          try simp only [Act.put, List.setIfInBounds_toArray, List.set_cons_zero, List.set_cons_succ]
          refine wpAnyH_take (i := 4) (oi := ⟨some 30, _, _, _, _, _⟩) (v := undef) rfl (by kernel_rfl) (by kernel_rfl) (by kernel_rfl) (fun _ _ _ h => h) (Or.inr ⟨by rfl, rfl⟩) (by assumption) ?_
          try simp only [Act.put, List.setIfInBounds_toArray, List.set_cons_zero, List.set_cons_succ]
          refine wpAnyH_take (i := 5) (oi := ⟨some 31, _, _, _, _, _⟩) (v := ?_) rfl (by kernel_rfl) (by kernel_rfl) (by kernel_rfl) (fun _ _ _ h => h) (Or.inl ⟨by rfl, ?_⟩) (by assumption) ?_
          rotate_left
          · intro w hSw; (try dsimp only at hSw); go_simp; (try (with_reducible rfl))
          try simp only [Act.put, List.setIfInBounds_toArray, List.set_cons_zero, List.set_cons_succ]
          refine wpAnyH_take (i := 6) (oi := ⟨some 32, _, _, _, _, _⟩) (v := ?_) rfl (by kernel_rfl) (by kernel_rfl) (by kernel_rfl) (fun _ _ _ h => h) (Or.inl ⟨by rfl, ?_⟩) (by assumption) ?_
          rotate_left
          · intro w hSw; (try dsimp only at hSw); go_simp; (try (with_reducible rfl))
          try simp only [Act.put, List.setIfInBounds_toArray, List.set_cons_zero, List.set_cons_succ]
          refine wpAnyH_take (i := 7) (oi := ⟨some 33, _, _, _, _, _⟩) (v := undef) rfl (by kernel_rfl) (by kernel_rfl) (by kernel_rfl) (fun _ _ _ h => h) (Or.inr ⟨by rfl, rfl⟩) (by assumption) ?_
          try simp only [Act.put, List.setIfInBounds_toArray, List.set_cons_zero, List.set_cons_succ]
          refine wpAnyH_take (i := 8) (oi := ⟨some 34, _, _, _, _, _⟩) (v := undef) rfl (by kernel_rfl) (by kernel_rfl) (by kernel_rfl) (fun _ _ _ h => h) (Or.inr ⟨by rfl, rfl⟩) (by assumption) ?_
          try simp only [Act.put, List.setIfInBounds_toArray, List.set_cons_zero, List.set_cons_succ]
          refine wpAnyH_take (i := 9) (oi := ⟨some 35, _, _, _, _, _⟩) (v := undef) rfl (by kernel_rfl) (by kernel_rfl) (by kernel_rfl) (fun _ _ _ h => h) (Or.inr ⟨by rfl, rfl⟩) (by assumption) ?_
          try simp only [Act.put, List.setIfInBounds_toArray, List.set_cons_zero, List.set_cons_succ]
          refine wpAnyH_take (i := 10) (oi := ⟨some 36, _, _, _, _, _⟩) (v := undef) rfl (by kernel_rfl) (by kernel_rfl) (by kernel_rfl) (fun _ _ _ h => h) (Or.inr ⟨by rfl, rfl⟩) (by assumption) ?_
          try simp only [Act.put, List.setIfInBounds_toArray, List.set_cons_zero, List.set_cons_succ]
          refine wpAnyH_take (i := 11) (oi := ⟨some 37, _, _, _, _, _⟩) (v := undef) rfl (by kernel_rfl) (by kernel_rfl) (by kernel_rfl) (fun _ _ _ h => h) (Or.inr ⟨by rfl, rfl⟩) (by assumption) ?_
          try simp only [Act.put, List.setIfInBounds_toArray, List.set_cons_zero, List.set_cons_succ]
          refine wpAnyH_take (i := 12) (oi := ⟨some 38, _, _, _, _, _⟩) (v := undef) rfl (by kernel_rfl) (by kernel_rfl) (by kernel_rfl) (fun _ _ _ h => h) (Or.inr ⟨by rfl, rfl⟩) (by assumption) ?_
          try simp only [Act.put, List.setIfInBounds_toArray, List.set_cons_zero, List.set_cons_succ]
          refine wpAnyH_take (i := 13) (oi := ⟨some 39, _, _, _, _, _⟩) (v := ?_) rfl (by kernel_rfl) (by kernel_rfl) (by kernel_rfl) (fun _ _ _ h => h) (Or.inl ⟨by rfl, ?_⟩) (by assumption) ?_
          rotate_left
          · intro w hSw; (try dsimp only at hSw); go_simp; (try (with_reducible rfl))
          try simp only [Act.put, List.setIfInBounds_toArray, List.set_cons_zero, List.set_cons_succ]
          refine wpAnyH_take (i := 14) (oi := ⟨some 4, _, _, _, _, _⟩) (v := ?_) rfl (by kernel_rfl) (by kernel_rfl) (by kernel_rfl) (fun _ _ _ h => h) (Or.inl ⟨by rfl, ?_⟩) (by assumption) ?_
          rotate_left
          · intro w hSw; (try dsimp only at hSw); go_simp; (try (with_reducible rfl))
          try simp only [Act.put, List.setIfInBounds_toArray, List.set_cons_zero, List.set_cons_succ]
          refine wpAnyH_done (by kernel_rfl) ?_ _
          clear hHeld
          go_wp2_with fail
          go_ret
          exact ⟨rfl, hb⟩
        | true =>
          rw [hs] at hsc
          rw [Bool.true_and]
          have HSC := Lib.hid hsc
          clear hsc hs hsv
          by_cases c3 : 1 < B
          · have f3 : decide (1 < B) = true := decide_eq_true c3
            rw [f3, Bool.true_and]
            clear c3
            obtain ⟨x0, x1, x2, x3, xf, xl⟩ := BV.four
            obtain ⟨z0, z1, zf, zl⟩ := BX.two
            go_enter Tryz.func80, Tryz.ntmps80
            go_wp2_with (first | (go_at_call 98; refine (HI.out _).mono ?_; clear HI; rintro e w1 ⟨rfl, rfl⟩) | (go_at_call 104; refine (HSC.out _).mono ?_; clear HSC; rintro e w2 ⟨rfl, hb2⟩; replace BV := BV.below hb2; replace BX := BX.below hb2; replace hb := chain hb hb2; clear hb2; obtain ⟨x0, x1, x2, x3, xf, xl⟩ := BV.four; obtain ⟨z0, z1, zf, zl⟩ := BX.two))
            clear x0 x1 x2 x3 xf xl z0 z1 zf zl
            have hd_ : w2.drew.heap.size = w2.heap.size := rfl
            replace BV := BV.drew
            replace BX := BX.drew
            replace hb := hb.drew
            refine wp_region_held_drew (S := fun w' => w'.cell? ⟨w.heap.size, 0, none⟩ = some (.int .i64 p) ∧ w'.cell? ⟨w.heap.size, 1, none⟩ = some (.int .i64 c) ∧ w'.cell? ⟨w.heap.size, 2, none⟩ = some (.int .i64 h) ∧ w'.cell? ⟨w.heap.size, 3, none⟩ = some (.int .i64 (S : Int)) ∧ w'.cell? ⟨(w.heap.size + 1), 0, none⟩ = some (.int .i64 xn) ∧ w'.cell? ⟨(w.heap.size + 1), 1, none⟩ = some (.int .i64 xd)) (by kernel_rfl) ⟨BV.four.1, BV.four.2.1, BV.four.2.2.1, BV.four.2.2.2.1, BX.two.1, BX.two.2.1⟩ (fun hHeld => ?_)
            clear hHeld
            generalize w2.drew = vd at *
            have hHeld : vd.cell? ⟨w.heap.size, 0, none⟩ = some (.int .i64 p) ∧ vd.cell? ⟨w.heap.size, 1, none⟩ = some (.int .i64 c) ∧ vd.cell? ⟨w.heap.size, 2, none⟩ = some (.int .i64 h) ∧ vd.cell? ⟨w.heap.size, 3, none⟩ = some (.int .i64 (S : Int)) ∧ vd.cell? ⟨(w.heap.size + 1), 0, none⟩ = some (.int .i64 xn) ∧ vd.cell? ⟨(w.heap.size + 1), 1, none⟩ = some (.int .i64 xd) := ⟨BV.four.1, BV.four.2.1, BV.four.2.2.1, BV.four.2.2.2.1, BX.two.1, BX.two.2.1⟩
            refine wpAnyH_take (i := 0) (oi := ⟨some 26, _, _, _, _, _⟩) (v := ?_) rfl (by kernel_rfl) (by kernel_rfl) (by kernel_rfl) (fun _ _ _ h => h) (Or.inl ⟨by rfl, ?_⟩) (by assumption) ?_
            rotate_left
            · intro w hSw; (try dsimp only at hSw); go_simp; (try (with_reducible rfl))
            try simp only [Act.put, List.setIfInBounds_toArray, List.set_cons_zero, List.set_cons_succ]
            refine wpAnyH_take (i := 1) (oi := ⟨some 27, _, _, _, _, _⟩) (v := ?_) rfl (by kernel_rfl) (by kernel_rfl) (by kernel_rfl) (fun _ _ _ h => h) (Or.inl ⟨by rfl, ?_⟩) (by assumption) ?_
            rotate_left
            · intro w hSw; (try dsimp only at hSw); go_simp; (try (with_reducible rfl))
            try simp only [Act.put, List.setIfInBounds_toArray, List.set_cons_zero, List.set_cons_succ]
            refine wpAnyH_take (i := 2) (oi := ⟨some 28, _, _, _, _, _⟩) (v := ?_) rfl (by kernel_rfl) (by kernel_rfl) (by kernel_rfl) (fun _ _ _ h => h) (Or.inl ⟨by rfl, ?_⟩) (by assumption) ?_
            rotate_left
            · intro w hSw; (try dsimp only at hSw); go_simp; (try (with_reducible rfl))
            try simp only [Act.put, List.setIfInBounds_toArray, List.set_cons_zero, List.set_cons_succ]
            refine wpAnyH_ready (rs := [3]) (by kernel_rfl) (by simp) ?_
            refine AllReadyH.cons (o := ⟨some 29, _, _, _, _, _⟩) rfl (fun K hK => ?_) AllReadyH.nil
            go_simp
            refine (HB.out _).mono ?_
            rintro e w3 ⟨rfl, hb3⟩
            replace BV := BV.below hb3
            replace BX := BX.below hb3
            replace hb := chain hb hb3
            clear hb3
            (try go_wp2_with fail)
            refine hK.out _ _ ⟨BV.four.1, BV.four.2.1, BV.four.2.2.1, BV.four.2.2.2.1, BX.two.1, BX.two.2.1⟩ (fun hHeld => ?_)
            clear hK K
            try simp only [Act.put, List.setIfInBounds_toArray, List.set_cons_zero, List.set_cons_succ]
            refine wpAnyH_take (i := 4) (oi := ⟨some 30, _, _, _, _, _⟩) (v := ?_) rfl (by kernel_rfl) (by kernel_rfl) (by kernel_rfl) (fun _ _ _ h => h) (Or.inl ⟨by rfl, ?_⟩) (by assumption) ?_
            rotate_left
            · intro w hSw; (try dsimp only at hSw); go_simp; (try (with_reducible rfl))
            try simp only [Act.put, List.setIfInBounds_toArray, List.set_cons_zero, List.set_cons_succ]
            refine wpAnyH_take (i := 5) (oi := ⟨some 31, _, _, _, _, _⟩) (v := ?_) rfl (by kernel_rfl) (by kernel_rfl) (by kernel_rfl) (fun _ _ _ h => h) (Or.inl ⟨by rfl, ?_⟩) (by assumption) ?_
            rotate_left
            · intro w hSw; (try dsimp only at hSw); go_simp; (try (with_reducible rfl))
            try simp only [Act.put, List.setIfInBounds_toArray, List.set_cons_zero, List.set_cons_succ]
            refine wpAnyH_take (i := 6) (oi := ⟨some 32, _, _, _, _, _⟩) (v := ?_) rfl (by kernel_rfl) (by kernel_rfl) (by kernel_rfl) (fun _ _ _ h => h) (Or.inl ⟨by rfl, ?_⟩) (by assumption) ?_
            rotate_left
            · intro w hSw; (try dsimp only at hSw); go_simp; (try (with_reducible rfl))
            try simp only [Act.put, List.setIfInBounds_toArray, List.set_cons_zero, List.set_cons_succ]
            refine wpAnyH_take (i := 7) (oi := ⟨some 33, _, _, _, _, _⟩) (v := ?_) rfl (by kernel_rfl) (by kernel_rfl) (by kernel_rfl) (fun _ _ _ h => h) (Or.inl ⟨by rfl, ?_⟩) (by assumption) ?_
            rotate_left
            · intro w hSw; (try dsimp only at hSw); go_simp; (try (with_reducible rfl))
            try simp only [Act.put, List.setIfInBounds_toArray, List.set_cons_zero, List.set_cons_succ]
            refine wpAnyH_take (i := 8) (oi := ⟨some 34, _, _, _, _, _⟩) (v := ?_) rfl (by kernel_rfl) (by kernel_rfl) (by kernel_rfl) (fun _ _ _ h => h) (Or.inl ⟨by rfl, ?_⟩) (by assumption) ?_
            rotate_left
            · intro w hSw; (try dsimp only at hSw); go_simp; (try (with_reducible rfl))
            try simp only [Act.put, List.setIfInBounds_toArray, List.set_cons_zero, List.set_cons_succ]
            refine wpAnyH_take (i := 9) (oi := ⟨some 35, _, _, _, _, _⟩) (v := ?_) rfl (by kernel_rfl) (by kernel_rfl) (by kernel_rfl) (fun _ _ _ h => h) (Or.inl ⟨by rfl, ?_⟩) (by assumption) ?_
            rotate_left
            · intro w hSw; (try dsimp only at hSw); go_simp; (try (with_reducible rfl))
            try simp only [Act.put, List.setIfInBounds_toArray, List.set_cons_zero, List.set_cons_succ]
            refine wpAnyH_ready (rs := [10]) (by kernel_rfl) (by simp) ?_
            refine AllReadyH.cons (o := ⟨some 36, _, _, _, _, _⟩) rfl (fun K hK => ?_) AllReadyH.nil
            go_simp
            refine (HB.out _).mono ?_
            rintro e w4 ⟨rfl, hb4⟩
            replace BV := BV.below hb4
            replace BX := BX.below hb4
            replace hb := chain hb hb4
            clear hb4
            (try go_wp2_with fail)
            refine hK.out _ _ ⟨BV.four.1, BV.four.2.1, BV.four.2.2.1, BV.four.2.2.2.1, BX.two.1, BX.two.2.1⟩ (fun hHeld => ?_)
            clear hK K
            try simp only [Act.put, List.setIfInBounds_toArray, List.set_cons_zero, List.set_cons_succ]
            refine wpAnyH_take (i := 11) (oi := ⟨some 37, _, _, _, _, _⟩) (v := ?_) rfl (by kernel_rfl) (by kernel_rfl) (by kernel_rfl) (fun _ _ _ h => h) (Or.inl ⟨by rfl, ?_⟩) (by assumption) ?_
            rotate_left
            · intro w hSw; (try dsimp only at hSw); go_simp; (try (with_reducible rfl))
            try simp only [Act.put, List.setIfInBounds_toArray, List.set_cons_zero, List.set_cons_succ]
            refine wpAnyH_take (i := 12) (oi := ⟨some 38, _, _, _, _, _⟩) (v := ?_) rfl (by kernel_rfl) (by kernel_rfl) (by kernel_rfl) (fun _ _ _ h => h) (Or.inl ⟨by rfl, ?_⟩) (by assumption) ?_
            rotate_left
            · intro w hSw; (try dsimp only at hSw); go_simp; (try (with_reducible rfl))
            try simp only [Act.put, List.setIfInBounds_toArray, List.set_cons_zero, List.set_cons_succ]
            refine wpAnyH_take (i := 13) (oi := ⟨some 39, _, _, _, _, _⟩) (v := ?_) rfl (by kernel_rfl) (by kernel_rfl) (by kernel_rfl) (fun _ _ _ h => h) (Or.inl ⟨by rfl, ?_⟩) (by assumption) ?_
            rotate_left
            · intro w hSw; (try dsimp only at hSw); go_simp; (try (with_reducible rfl))
            try simp only [Act.put, List.setIfInBounds_toArray, List.set_cons_zero, List.set_cons_succ]
            refine wpAnyH_take (i := 14) (oi := ⟨some 4, _, _, _, _, _⟩) (v := ?_) rfl (by kernel_rfl) (by kernel_rfl) (by kernel_rfl) (fun _ _ _ h => h) (Or.inl ⟨by rfl, ?_⟩) (by assumption) ?_
            rotate_left
            · intro w hSw; (try dsimp only at hSw); go_simp; (try (with_reducible rfl))
            try simp only [Act.put, List.setIfInBounds_toArray, List.set_cons_zero, List.set_cons_succ]
            refine wpAnyH_done (by kernel_rfl) ?_ _
            clear hHeld
            go_wp2_with fail
            go_ret
            exact ⟨rfl, hb⟩
          · have f3 : decide (1 < B) = false := decide_eq_false c3
            rw [f3, Bool.false_and]
            clear c3
            obtain ⟨x0, x1, x2, x3, xf, xl⟩ := BV.four
            obtain ⟨z0, z1, zf, zl⟩ := BX.two
            go_enter Tryz.func80, Tryz.ntmps80
            go_wp2_with (first | (go_at_call 98; refine (HI.out _).mono ?_; clear HI; rintro e w1 ⟨rfl, rfl⟩) | (go_at_call 104; refine (HSC.out _).mono ?_; clear HSC; rintro e w2 ⟨rfl, hb2⟩; replace BV := BV.below hb2; replace BX := BX.below hb2; replace hb := chain hb hb2; clear hb2; obtain ⟨x0, x1, x2, x3, xf, xl⟩ := BV.four; obtain ⟨z0, z1, zf, zl⟩ := BX.two))
            clear x0 x1 x2 x3 xf xl z0 z1 zf zl
            have hd_ : w2.drew.heap.size = w2.heap.size := rfl
            replace BV := BV.drew
            replace BX := BX.drew
            replace hb := hb.drew
            refine wp_region_held_drew (S := fun w' => w'.cell? ⟨w.heap.size, 0, none⟩ = some (.int .i64 p) ∧ w'.cell? ⟨w.heap.size, 1, none⟩ = some (.int .i64 c) ∧ w'.cell? ⟨w.heap.size, 2, none⟩ = some (.int .i64 h) ∧ w'.cell? ⟨w.heap.size, 3, none⟩ = some (.int .i64 (S : Int)) ∧ w'.cell? ⟨(w.heap.size + 1), 0, none⟩ = some (.int .i64 xn) ∧ w'.cell? ⟨(w.heap.size + 1), 1, none⟩ = some (.int .i64 xd)) (by kernel_rfl) ⟨BV.four.1, BV.four.2.1, BV.four.2.2.1, BV.four.2.2.2.1, BX.two.1, BX.two.2.1⟩ (fun hHeld => ?_)
            clear hHeld
            generalize w2.drew = vd at *
            have hHeld : vd.cell? ⟨w.heap.size, 0, none⟩ = some (.int .i64 p) ∧ vd.cell? ⟨w.heap.size, 1, none⟩ = some (.int .i64 c) ∧ vd.cell? ⟨w.heap.size, 2, none⟩ = some (.int .i64 h) ∧ vd.cell? ⟨w.heap.size, 3, none⟩ = some (.int .i64 (S : Int)) ∧ vd.cell? ⟨(w.heap.size + 1), 0, none⟩ = some (.int .i64 xn) ∧ vd.cell? ⟨(w.heap.size + 1), 1, none⟩ = some (.int .i64 xd) := ⟨BV.four.1, BV.four.2.1, BV.four.2.2.1, BV.four.2.2.2.1, BX.two.1, BX.two.2.1⟩
            refine wpAnyH_take (i := 0) (oi := ⟨some 26, _, _, _, _, _⟩) (v := ?_) rfl (by kernel_rfl) (by kernel_rfl) (by kernel_rfl) (fun _ _ _ h => h) (Or.inl ⟨by rfl, ?_⟩) (by assumption) ?_
            rotate_left
            · intro w hSw; (try dsimp only at hSw); go_simp; (try (with_reducible rfl))
            try simp only [Act.put, List.setIfInBounds_toArray, List.set_cons_zero, List.set_cons_succ]
            refine wpAnyH_take (i := 1) (oi := ⟨some 27, _, _, _, _, _⟩) (v := ?_) rfl (by kernel_rfl) (by kernel_rfl) (by kernel_rfl) (fun _ _ _ h => h) (Or.inl ⟨by rfl, ?_⟩) (by assumption) ?_
            rotate_left
            · intro w hSw; (try dsimp only at hSw); go_simp; (try (with_reducible rfl))
            try simp only [Act.put, List.setIfInBounds_toArray, List.set_cons_zero, List.set_cons_succ]
            refine wpAnyH_take (i := 2) (oi := ⟨some 28, _, _, _, _, _⟩) (v := ?_) rfl (by kernel_rfl) (by kernel_rfl) (by kernel_rfl) (fun _ _ _ h => h) (Or.inl ⟨by rfl, ?_⟩) (by assumption) ?_
            rotate_left
            · intro w hSw; (try dsimp only at hSw); go_simp; (try (with_reducible rfl))
            try simp only [Act.put, List.setIfInBounds_toArray, List.set_cons_zero, List.set_cons_succ]
            refine wpAnyH_ready (rs := [3]) (by kernel_rfl) (by simp) ?_
            refine AllReadyH.cons (o := ⟨some 29, _, _, _, _, _⟩) rfl (fun K hK => ?_) AllReadyH.nil
            go_simp
            refine (HB.out _).mono ?_
            rintro e w3 ⟨rfl, hb3⟩
            replace BV := BV.below hb3
            replace BX := BX.below hb3
            replace hb := chain hb hb3
            clear hb3
            (try go_wp2_with fail)
            refine hK.out _ _ ⟨BV.four.1, BV.four.2.1, BV.four.2.2.1, BV.four.2.2.2.1, BX.two.1, BX.two.2.1⟩ (fun hHeld => ?_)
            clear hK K
            try simp only [Act.put, List.setIfInBounds_toArray, List.set_cons_zero, List.set_cons_succ]
            refine wpAnyH_take (i := 4) (oi := ⟨some 30, _, _, _, _, _⟩) (v := ?_) rfl (by kernel_rfl) (by kernel_rfl) (by kernel_rfl) (fun _ _ _ h => h) (Or.inl ⟨by rfl, ?_⟩) (by assumption) ?_
            rotate_left
            · intro w hSw; (try dsimp only at hSw); go_simp; (try (with_reducible rfl))
            try simp only [Act.put, List.setIfInBounds_toArray, List.set_cons_zero, List.set_cons_succ]
            refine wpAnyH_take (i := 5) (oi := ⟨some 31, _, _, _, _, _⟩) (v := ?_) rfl (by kernel_rfl) (by kernel_rfl) (by kernel_rfl) (fun _ _ _ h => h) (Or.inl ⟨by rfl, ?_⟩) (by assumption) ?_
            rotate_left
            · intro w hSw; (try dsimp only at hSw); go_simp; (try (with_reducible rfl))
            try simp only [Act.put, List.setIfInBounds_toArray, List.set_cons_zero, List.set_cons_succ]
            refine wpAnyH_take (i := 6) (oi := ⟨some 32, _, _, _, _, _⟩) (v := ?_) rfl (by kernel_rfl) (by kernel_rfl) (by kernel_rfl) (fun _ _ _ h => h) (Or.inl ⟨by rfl, ?_⟩) (by assumption) ?_
            rotate_left
            · intro w hSw; (try dsimp only at hSw); go_simp; (try (with_reducible rfl))
            try simp only [Act.put, List.setIfInBounds_toArray, List.set_cons_zero, List.set_cons_succ]
            refine wpAnyH_take (i := 7) (oi := ⟨some 33, _, _, _, _, _⟩) (v := undef) rfl (by kernel_rfl) (by kernel_rfl) (by kernel_rfl) (fun _ _ _ h => h) (Or.inr ⟨by rfl, rfl⟩) (by assumption) ?_
            try simp only [Act.put, List.setIfInBounds_toArray, List.set_cons_zero, List.set_cons_succ]
            refine wpAnyH_take (i := 8) (oi := ⟨some 34, _, _, _, _, _⟩) (v := undef) rfl (by kernel_rfl) (by kernel_rfl) (by kernel_rfl) (fun _ _ _ h => h) (Or.inr ⟨by rfl, rfl⟩) (by assumption) ?_
            try simp only [Act.put, List.setIfInBounds_toArray, List.set_cons_zero, List.set_cons_succ]
            refine wpAnyH_take (i := 9) (oi := ⟨some 35, _, _, _, _, _⟩) (v := undef) rfl (by kernel_rfl) (by kernel_rfl) (by kernel_rfl) (fun _ _ _ h => h) (Or.inr ⟨by rfl, rfl⟩) (by assumption) ?_
            try simp only [Act.put, List.setIfInBounds_toArray, List.set_cons_zero, List.set_cons_succ]
            refine wpAnyH_take (i := 10) (oi := ⟨some 36, _, _, _, _, _⟩) (v := undef) rfl (by kernel_rfl) (by kernel_rfl) (by kernel_rfl) (fun _ _ _ h => h) (Or.inr ⟨by rfl, rfl⟩) (by assumption) ?_
            try simp only [Act.put, List.setIfInBounds_toArray, List.set_cons_zero, List.set_cons_succ]
            refine wpAnyH_take (i := 11) (oi := ⟨some 37, _, _, _, _, _⟩) (v := undef) rfl (by kernel_rfl) (by kernel_rfl) (by kernel_rfl) (fun _ _ _ h => h) (Or.inr ⟨by rfl, rfl⟩) (by assumption) ?_
            try simp only [Act.put, List.setIfInBounds_toArray, List.set_cons_zero, List.set_cons_succ]
            refine wpAnyH_take (i := 12) (oi := ⟨some 38, _, _, _, _, _⟩) (v := undef) rfl (by kernel_rfl) (by kernel_rfl) (by kernel_rfl) (fun _ _ _ h => h) (Or.inr ⟨by rfl, rfl⟩) (by assumption) ?_
            try simp only [Act.put, List.setIfInBounds_toArray, List.set_cons_zero, List.set_cons_succ]
            refine wpAnyH_take (i := 13) (oi := ⟨some 39, _, _, _, _, _⟩) (v := ?_) rfl (by kernel_rfl) (by kernel_rfl) (by kernel_rfl) (fun _ _ _ h => h) (Or.inl ⟨by rfl, ?_⟩) (by assumption) ?_
            rotate_left
            · intro w hSw; (try dsimp only at hSw); go_simp; (try (with_reducible rfl))
            try simp only [Act.put, List.setIfInBounds_toArray, List.set_cons_zero, List.set_cons_succ]
            refine wpAnyH_take (i := 14) (oi := ⟨some 4, _, _, _, _, _⟩) (v := ?_) rfl (by kernel_rfl) (by kernel_rfl) (by kernel_rfl) (fun _ _ _ h => h) (Or.inl ⟨by rfl, ?_⟩) (by assumption) ?_
            rotate_left
            · intro w hSw; (try dsimp only at hSw); go_simp; (try (with_reducible rfl))
            try simp only [Act.put, List.setIfInBounds_toArray, List.set_cons_zero, List.set_cons_succ]
            refine wpAnyH_done (by kernel_rfl) ?_ _
            clear hHeld
            go_wp2_with fail
            go_ret
            exact ⟨rfl, hb⟩
end Go.Proofs.YtfomfbfcnenhbaaGreat
