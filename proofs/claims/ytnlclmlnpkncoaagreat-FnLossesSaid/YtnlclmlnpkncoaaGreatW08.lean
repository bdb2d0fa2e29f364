/- Texts of a proof, laid together. -/
import Derived.Test.YtnlclmlnpkncoaaGreatW07
import Derived.Deep.LoopGhost
import Derived.Test.YtnlclmlnpkncoaaGreatW05
namespace Go.Proofs.YtnlclmlnpkncoaaGreat
open Go.ChangeShapes Go.WideShapes Go.ChangeAt Go.RowKit
set_option linter.unusedVariables false
set_option linter.unusedSimpArgs false
set_option maxRecDepth 4000
def slB (S : Nat) (d : Int) : Bool := decide (S = 1 ∨ d < nn S)
def slV (S : Nat) (d : Int) : Int := if slB S d = true then (scN S d.toNat : Int) else 0
theorem scN_one : ∀ k, scN 1 k = 1
  | 0 => rfl
  | k + 1 => by rw [scN_succ, scN_one k]
theorem slV_is {S : Nat} {d : Int} {k : Nat} (hb : slB S d = true) (hk : d.toNat = k ∨ S = 1) : slV S d = ((scN S k : Nat) : Int) := by
  unfold slV
  rw [if_pos hb]
  rcases hk with rfl | rfl
  · rfl
  · rw [scN_one, scN_one]
set_option maxRecDepth 8000 in
set_option maxHeartbeats 1000000 in
theorem l09Scale_any (p c h : Int) (S : Nat) (hS : 1 ≤ S ∧ S ≤ 6) (d : Int) (hd : d ≤ 9223372036854775807) (w : World) :
    Calls Tryz.prog 75 #[.agg #[.int .i64 p, .int .i64 c, .int .i64 h, .int .i64 (S : Int)], .int .i64 d] w fun e w' => e = .returned (.tuple #[.int .i64 (slV S d), .bool (slB S d)]) ∧ Below w.heap.size w w' := by
  have hn := nn_range hS
  have hbr := base_range hS
  have BV := Blk.new w #[.int .i64 p, .int .i64 c, .int .i64 h, .int .i64 (S : Int)] 25
  have hb : Below w.heap.size w (w.alloc (.cells #[.int .i64 p, .int .i64 c, .int .i64 h, .int .i64 (S : Int)] 25)) := (Below.refl _ _).alloc (Nat.le_refl _) _
  have hba := fun W => l09Base_any p c h S hS.2 W
  obtain ⟨B, hB⟩ : ∃ B : Int, ((S * S : Nat) : Int) = B := ⟨_, rfl⟩
  rw [hB] at hba
  have HB := Lib.hid hba
  have HBe := Lib.hid hB
  have B0 : 1 ≤ B ∧ B ≤ 36 := by omega
  obtain ⟨rV, hrV⟩ : ∃ x, slV S d = x := ⟨_, rfl⟩
  obtain ⟨rB, hrB⟩ : ∃ x, slB S d = x := ⟨_, rfl⟩
  rw [hrV, hrB]
  have HrV := Lib.hid hrV
  have HrB := Lib.hid hrB
  clear hba hB hrV hrB hbr
  go_enter Tryz.func75, Tryz.ntmps75
  go_wp2_with fail
  generalize (w.alloc (.cells #[.int .i64 p, .int .i64 c, .int .i64 h, .int .i64 (S : Int)] 25)) = v0 at *
  go_loopg [6, 7] (nn S) (fun m q6 q7 wr => ∃ (k : Nat) (C : Int), k < nn S ∧ m = nn S - k ∧ (k = 0 ∨ (k : Int) ≤ d) ∧ (S = 1 → k = 0) ∧ q6 = .int .i64 C ∧ q7 = .int .i64 (k : Int) ∧ Hid (C = ((scN S k : Nat) : Int)) ∧ Blk wr w.heap.size #[.int .i64 p, .int .i64 c, .int .i64 h, .int .i64 (S : Int)] 25 ∧ Below w.heap.size w wr)
  case atStart => exact ⟨0, 1, by omega, by omega, .inl rfl, fun _ => rfl, rfl, rfl, Lib.hid (by rw [scN_zero]; rfl), BV, hb⟩
  case round =>
    clear BV hb
    obtain ⟨k, C, hk, hm, hkd, hk1, rfl, rfl, HC, BV, hb⟩ := hrel
    obtain ⟨x0, x1, x2, x3, xf, xl⟩ := BV.four
    have hC := scN_in hS hk
    have hC1 := scN_pos hS.1 k
    obtain ⟨C1, C2⟩ : 1 ≤ C ∧ C ≤ 1000000000000000 := by have := HC.out; omega
    clear hC hC1
    have fin : slB S d = true → (d.toNat = k ∨ S = 1) → rV = C ∧ rB = true := fun q1 q2 => ⟨by rw [← HrV.out, slV_is q1 q2, HC.out], by rw [← HrB.out, q1]⟩
    have FIN := Lib.hid fin
    clear fin
    by_cases hlt : (k : Int) < d
    · by_cases hS1 : S = 1
      · obtain ⟨rfl, rfl⟩ := FIN.out (by unfold slB; rw [decide_eq_true (Or.inl hS1)]) (.inr hS1)
        have hB1 : B = 1 := by have := HBe.out; subst hS1; omega
        subst hB1
        clear FIN hkd hk1 hS1
        go_wp2_with (go_at_call 76; refine (HB.out _).mono ?_; rintro e w1 ⟨rfl, hb1⟩; replace BV := BV.below hb1; replace hb := chain hb hb1; clear hb1; obtain ⟨x0, x1, x2, x3, xf, xl⟩ := BV.four)
        go_ret2
        exact ⟨rfl, hb⟩
      · have hB4 : 1 < B := by
          have h2 := HBe.out
          have h3 : 2 * 2 ≤ S * S := Nat.mul_le_mul (by omega) (by omega)
          omega
        obtain ⟨D, wD, HD⟩ : ∃ D : Int, IntKind.i64.wrap (C * B) = D ∧ Hid (D = ((scN S (k + 1) : Nat) : Int)) := by
          refine ⟨C * B, ?_, Lib.hid (by rw [HC.out, ← HBe.out, scN_succ]; rfl)⟩
          have h1 : 0 ≤ C * B := Int.mul_nonneg (by omega) (by omega)
          have h2 : C * B ≤ 1000000000000000 * 36 := Int.mul_le_mul C2 B0.2 (by omega) (by omega)
          exact IntWalk.i64_in _ (by omega)
        by_cases hkn : k + 1 < nn S
        · have hD := scN_in hS hkn
          have D1 : D ≤ 1000000000000000 := by have := HD.out; omega
          clear hD FIN
          go_wp2_with (go_at_call 76; refine (HB.out _).mono ?_; rintro e w1 ⟨rfl, hb1⟩; replace BV := BV.below hb1; replace hb := chain hb hb1; clear hb1; obtain ⟨x0, x1, x2, x3, xf, xl⟩ := BV.four)
          go_roundg (nn S - (k + 1))
          case measure => omega
          case rel => exact ⟨k + 1, D, hkn, rfl, .inr (by omega), fun q => absurd q hS1, rfl, by go_num, HD, BV, hb⟩
        · have hD := (scN_top hS).2 (by omega)
          rw [show nn S = k + 1 by omega] at hD
          have D1 : 1000000000000000 < D := by have := HD.out; omega
          have hno : slB S d = false := by
            unfold slB
            rw [decide_eq_false (by omega)]
          obtain rfl : rB = false := by rw [← HrB.out]; exact hno
          obtain rfl : rV = 0 := by rw [← HrV.out]; unfold slV; rw [hno]; rfl
          clear hD FIN hno
          go_wp2_with (go_at_call 76; refine (HB.out _).mono ?_; rintro e w1 ⟨rfl, hb1⟩; replace BV := BV.below hb1; replace hb := chain hb hb1; clear hb1; obtain ⟨x0, x1, x2, x3, xf, xl⟩ := BV.four)
          go_ret2
          exact ⟨rfl, hb⟩
    · obtain ⟨rfl, rfl⟩ := FIN.out (by unfold slB; rw [decide_eq_true (by omega)]) (.inl (by omega))
      clear FIN
      go_wp2
      go_ret2
      exact ⟨rfl, hb⟩
theorem xvB_scale {S : Nat} {n d : Int} (hS : 1 ≤ S ∧ S ≤ 6) (h0 : 0 < d) (h : inB n (-1000000000000000000) 1000000000000000000 = true) :
    xvB S n d = (slB S d && (decide (1 < ((S * S : Nat) : Int)) && decide (n.tmod ((S * S : Nat) : Int) ≠ 0))) := by
  by_cases h1 : d < nn S
  · rw [xvB_rest (by omega) ⟨by omega, h1⟩ h, show slB S d = true by unfold slB; rw [decide_eq_true (.inr h1)], Bool.true_and]
    by_cases hS1 : S = 1
    · subst hS1
      simp
    · have h3 : 2 * 2 ≤ S * S := Nat.mul_le_mul (by omega) (by omega)
      rw [decide_eq_true (show 1 < ((S * S : Nat) : Int) by omega), Bool.true_and]
  · rw [xvB_depth (by omega)]
    by_cases hS1 : S = 1
    · subst hS1
      simp
    · rw [show slB S d = false by unfold slB; rw [decide_eq_false (by omega)], Bool.false_and]
set_option maxRecDepth 8000 in
set_option maxHeartbeats 2000000 in
theorem l09Valid_any (p c h : Int) (S : Nat) (hS : 1 ≤ S ∧ S ≤ 6) (xn xd : Int) (hd : xd ≤ 9223372036854775807) (w : World) :
    Calls Tryz.prog 39 #[.agg #[.int .i64 p, .int .i64 c, .int .i64 h, .int .i64 (S : Int)], .agg #[.int .i64 xn, .int .i64 xd]] w fun e w' => e = .returned (.bool (xvB S xn xd)) ∧ Below w.heap.size w w' := by
  obtain ⟨BV, BX, hb, hz⟩ := two_new w #[.int .i64 p, .int .i64 c, .int .i64 h, .int .i64 (S : Int)] #[.int .i64 xn, .int .i64 xd] 25 35
  have hin := fun W => l01In_any xn (-1000000000000000000) 1000000000000000000 W
  have hsc := fun W => l09Scale_any p c h S hS xd hd W
  have hba := fun W => l09Base_any p c h S hS.2 W
  by_cases c0 : xd < 0
  · rw [xvB_depth (by omega)]
    clear hin hsc hba
    obtain ⟨x0, x1, x2, x3, xf, xl⟩ := BV.four
    obtain ⟨z0, z1, zf, zl⟩ := BX.two
    go_enter Tryz.func39, Tryz.ntmps39
    go_wp2_with (first | fail)
    go_ret
    exact ⟨rfl, hb⟩
  · cases c1 : inB xn (-1000000000000000000) 1000000000000000000 with
    | false =>
      rw [xvB_num c1]
      rw [c1] at hin
      have HI := Lib.hid hin
      clear hin hsc hba c1
      obtain ⟨x0, x1, x2, x3, xf, xl⟩ := BV.four
      obtain ⟨z0, z1, zf, zl⟩ := BX.two
      go_enter Tryz.func39, Tryz.ntmps39
      go_wp2_with (first | (go_at_call 64; refine (HI.out _).mono ?_; clear HI; rintro e w1 ⟨rfl, rfl⟩))
      go_ret
      exact ⟨rfl, hb⟩
    | true =>
      by_cases c2 : xd = 0
      · have hv : xvB S xn xd = true := by rw [c2]; exact xvB_zero hS c1
        rw [hv]
        rw [c1] at hin
        have HI := Lib.hid hin
        have f0 : (xd == 0) = true := by rw [c2]; rfl
        clear hin hsc hba c1 hv c2
        obtain ⟨x0, x1, x2, x3, xf, xl⟩ := BV.four
        obtain ⟨z0, z1, zf, zl⟩ := BX.two
        go_enter Tryz.func39, Tryz.ntmps39
        go_wp2_with (first | (go_at_call 64; refine (HI.out _).mono ?_; clear HI; rintro e w1 ⟨rfl, rfl⟩))
        go_ret
        exact ⟨rfl, hb⟩
      · rw [xvB_scale hS (by omega) c1]
        rw [c1] at hin
        have HI := Lib.hid hin
        have f0 : (xd == 0) = false := by rw [beq_eq_false_iff_ne]; exact c2
        have hbr := base_range hS
        obtain ⟨B, hB⟩ : ∃ B : Int, ((S * S : Nat) : Int) = B := ⟨_, rfl⟩
        have hB0 : B ≠ 0 := by omega
        rw [hB] at hba ⊢
        obtain ⟨T, hT⟩ : ∃ T : Int, xn.tmod B = T := ⟨_, rfl⟩
        rw [hT, show decide (T ≠ 0) = (T != 0) by rw [Bool.eq_iff_iff]; simp]
        have HB := Lib.hid hba
        clear hba hin c1 hB hbr
        obtain ⟨sv, hsv⟩ : ∃ x, slV S xd = x := ⟨_, rfl⟩
        rw [hsv] at hsc
        cases hs : slB S xd with
        | false =>
          rw [hs] at hsc
          rw [Bool.false_and]
          have HSC := Lib.hid hsc
          clear hsc hs hsv
          obtain ⟨x0, x1, x2, x3, xf, xl⟩ := BV.four
          obtain ⟨z0, z1, zf, zl⟩ := BX.two
          go_enter Tryz.func39, Tryz.ntmps39
          go_wp2_with (first | (go_at_call 64; refine (HI.out _).mono ?_; clear HI; rintro e w1 ⟨rfl, rfl⟩) | (go_at_call 75; refine (HSC.out _).mono ?_; clear HSC; rintro e w2 ⟨rfl, hb2⟩; replace BV := BV.below hb2; replace BX := BX.below hb2; replace hb := chain hb hb2; clear hb2; obtain ⟨x0, x1, x2, x3, xf, xl⟩ := BV.four; obtain ⟨z0, z1, zf, zl⟩ := BX.two))
          clear x0 x1 x2 x3 xf xl z0 z1 zf zl
          have hd_ : w2.drew.heap.size = w2.heap.size := rfl
          replace BV := BV.drew
          replace BX := BX.drew
          replace hb := hb.drew
          refine wp_region_held_drew (S := fun w' => w'.cell? ⟨w.heap.size, 0, none⟩ = some (.int .i64 p) ∧ w'.cell? ⟨w.heap.size, 1, none⟩ = some (.int .i64 c) ∧ w'.cell? ⟨w.heap.size, 2, none⟩ = some (.int .i64 h) ∧ w'.cell? ⟨w.heap.size, 3, none⟩ = some (.int .i64 (S : Int)) ∧ w'.cell? ⟨(w.heap.size + 1), 0, none⟩ = some (.int .i64 xn) ∧ w'.cell? ⟨(w.heap.size + 1), 1, none⟩ = some (.int .i64 xd)) (by kernel_rfl) ⟨BV.four.1, BV.four.2.1, BV.four.2.2.1, BV.four.2.2.2.1, BX.two.1, BX.two.2.1⟩ (fun hHeld => ?_)
          clear hHeld
          generalize w2.drew = vd at *
          have hHeld : vd.cell? ⟨w.heap.size, 0, none⟩ = some (.int .i64 p) ∧ vd.cell? ⟨w.heap.size, 1, none⟩ = some (.int .i64 c) ∧ vd.cell? ⟨w.heap.size, 2, none⟩ = some (.int .i64 h) ∧ vd.cell? ⟨w.heap.size, 3, none⟩ = some (.int .i64 (S : Int)) ∧ vd.cell? ⟨(w.heap.size + 1), 0, none⟩ = some (.int .i64 xn) ∧ vd.cell? ⟨(w.heap.size + 1), 1, none⟩ = some (.int .i64 xd) := ⟨BV.four.1, BV.four.2.1, BV.four.2.2.1, BV.four.2.2.2.1, BX.two.1, BX.two.2.1⟩
          refine tk 0 26 ?_
          refine tk 1 27 ?_
          refine tkv 2 28 ?_
          refine tkv 3 29 ?_
          refine tkv 4 30 ?_
          refine tk 5 31 ?_
          refine tk 6 32 ?_
          refine tkv 7 33 ?_
          refine tkv 8 34 ?_
          refine tkv 9 35 ?_
          refine tkv 10 36 ?_
          refine tkv 11 37 ?_
          refine tkv 12 38 ?_
          refine tk 13 39 ?_
          refine tk 14 4 ?_
          refine wpAnyH_done (by kernel_rfl) ?_ _
          clear hHeld
          go_wp2_with fail
          go_ret
          exact ⟨rfl, hb⟩
        | true =>
          rw [hs] at hsc
          rw [Bool.true_and]
          have HSC := Lib.hid hsc
          clear hsc hs hsv
          by_cases c3 : 1 < B
          · have f3 : decide (1 < B) = true := decide_eq_true c3
            rw [f3, Bool.true_and]
            clear c3
            obtain ⟨x0, x1, x2, x3, xf, xl⟩ := BV.four
            obtain ⟨z0, z1, zf, zl⟩ := BX.two
            go_enter Tryz.func39, Tryz.ntmps39
            go_wp2_with (first | (go_at_call 64; refine (HI.out _).mono ?_; clear HI; rintro e w1 ⟨rfl, rfl⟩) | (go_at_call 75; refine (HSC.out _).mono ?_; clear HSC; rintro e w2 ⟨rfl, hb2⟩; replace BV := BV.below hb2; replace BX := BX.below hb2; replace hb := chain hb hb2; clear hb2; obtain ⟨x0, x1, x2, x3, xf, xl⟩ := BV.four; obtain ⟨z0, z1, zf, zl⟩ := BX.two))
            clear x0 x1 x2 x3 xf xl z0 z1 zf zl
            have hd_ : w2.drew.heap.size = w2.heap.size := rfl
            replace BV := BV.drew
            replace BX := BX.drew
            replace hb := hb.drew
            refine wp_region_held_drew (S := fun w' => w'.cell? ⟨w.heap.size, 0, none⟩ = some (.int .i64 p) ∧ w'.cell? ⟨w.heap.size, 1, none⟩ = some (.int .i64 c) ∧ w'.cell? ⟨w.heap.size, 2, none⟩ = some (.int .i64 h) ∧ w'.cell? ⟨w.heap.size, 3, none⟩ = some (.int .i64 (S : Int)) ∧ w'.cell? ⟨(w.heap.size + 1), 0, none⟩ = some (.int .i64 xn) ∧ w'.cell? ⟨(w.heap.size + 1), 1, none⟩ = some (.int .i64 xd)) (by kernel_rfl) ⟨BV.four.1, BV.four.2.1, BV.four.2.2.1, BV.four.2.2.2.1, BX.two.1, BX.two.2.1⟩ (fun hHeld => ?_)
            clear hHeld
            generalize w2.drew = vd at *
            have hHeld : vd.cell? ⟨w.heap.size, 0, none⟩ = some (.int .i64 p) ∧ vd.cell? ⟨w.heap.size, 1, none⟩ = some (.int .i64 c) ∧ vd.cell? ⟨w.heap.size, 2, none⟩ = some (.int .i64 h) ∧ vd.cell? ⟨w.heap.size, 3, none⟩ = some (.int .i64 (S : Int)) ∧ vd.cell? ⟨(w.heap.size + 1), 0, none⟩ = some (.int .i64 xn) ∧ vd.cell? ⟨(w.heap.size + 1), 1, none⟩ = some (.int .i64 xd) := ⟨BV.four.1, BV.four.2.1, BV.four.2.2.1, BV.four.2.2.2.1, BX.two.1, BX.two.2.1⟩
            refine tk 0 26 ?_
            refine tk 1 27 ?_
            refine tk 2 28 ?_
            refine rdk 3 29 fun K hK => ?_
            go_simp
            refine (HB.out _).mono ?_
            rintro e w3 ⟨rfl, hb3⟩
            replace BV := BV.below hb3
            replace BX := BX.below hb3
            replace hb := chain hb hb3
            clear hb3
            (try go_wp2_with fail)
            refine hko hK (Blk.f4 BV (Blk.l2 BX)) fun hHeld => ?_
            clear hK K
            refine tk 4 30 ?_
            refine tk 5 31 ?_
            refine tk 6 32 ?_
            refine tk 7 33 ?_
            refine tk 8 34 ?_
            refine tk 9 35 ?_
            refine rdk 10 36 fun K hK => ?_
            go_simp
            refine (HB.out _).mono ?_
            rintro e w4 ⟨rfl, hb4⟩
            replace BV := BV.below hb4
            replace BX := BX.below hb4
            replace hb := chain hb hb4
            clear hb4
            (try go_wp2_with fail)
            refine hko hK (Blk.f4 BV (Blk.l2 BX)) fun hHeld => ?_
            clear hK K
            refine tk 11 37 ?_
            refine tk 12 38 ?_
            refine tk 13 39 ?_
            refine tk 14 4 ?_
            refine wpAnyH_done (by kernel_rfl) ?_ _
            clear hHeld
            go_wp2_with fail
            go_ret
            exact ⟨rfl, hb⟩
          · have f3 : decide (1 < B) = false := decide_eq_false c3
            rw [f3, Bool.false_and]
            clear c3
            obtain ⟨x0, x1, x2, x3, xf, xl⟩ := BV.four
            obtain ⟨z0, z1, zf, zl⟩ := BX.two
            go_enter Tryz.func39, Tryz.ntmps39
            go_wp2_with (first | (go_at_call 64; refine (HI.out _).mono ?_; clear HI; rintro e w1 ⟨rfl, rfl⟩) | (go_at_call 75; refine (HSC.out _).mono ?_; clear HSC; rintro e w2 ⟨rfl, hb2⟩; replace BV := BV.below hb2; replace BX := BX.below hb2; replace hb := chain hb hb2; clear hb2; obtain ⟨x0, x1, x2, x3, xf, xl⟩ := BV.four; obtain ⟨z0, z1, zf, zl⟩ := BX.two))
            clear x0 x1 x2 x3 xf xl z0 z1 zf zl
            have hd_ : w2.drew.heap.size = w2.heap.size := rfl
            replace BV := BV.drew
            replace BX := BX.drew
            replace hb := hb.drew
            refine wp_region_held_drew (S := fun w' => w'.cell? ⟨w.heap.size, 0, none⟩ = some (.int .i64 p) ∧ w'.cell? ⟨w.heap.size, 1, none⟩ = some (.int .i64 c) ∧ w'.cell? ⟨w.heap.size, 2, none⟩ = some (.int .i64 h) ∧ w'.cell? ⟨w.heap.size, 3, none⟩ = some (.int .i64 (S : Int)) ∧ w'.cell? ⟨(w.heap.size + 1), 0, none⟩ = some (.int .i64 xn) ∧ w'.cell? ⟨(w.heap.size + 1), 1, none⟩ = some (.int .i64 xd)) (by kernel_rfl) ⟨BV.four.1, BV.four.2.1, BV.four.2.2.1, BV.four.2.2.2.1, BX.two.1, BX.two.2.1⟩ (fun hHeld => ?_)
            clear hHeld
            generalize w2.drew = vd at *
            have hHeld : vd.cell? ⟨w.heap.size, 0, none⟩ = some (.int .i64 p) ∧ vd.cell? ⟨w.heap.size, 1, none⟩ = some (.int .i64 c) ∧ vd.cell? ⟨w.heap.size, 2, none⟩ = some (.int .i64 h) ∧ vd.cell? ⟨w.heap.size, 3, none⟩ = some (.int .i64 (S : Int)) ∧ vd.cell? ⟨(w.heap.size + 1), 0, none⟩ = some (.int .i64 xn) ∧ vd.cell? ⟨(w.heap.size + 1), 1, none⟩ = some (.int .i64 xd) := ⟨BV.four.1, BV.four.2.1, BV.four.2.2.1, BV.four.2.2.2.1, BX.two.1, BX.two.2.1⟩
            refine tk 0 26 ?_
            refine tk 1 27 ?_
            refine tk 2 28 ?_
            refine rdk 3 29 fun K hK => ?_
            go_simp
            refine (HB.out _).mono ?_
            rintro e w3 ⟨rfl, hb3⟩
            replace BV := BV.below hb3
            replace BX := BX.below hb3
            replace hb := chain hb hb3
            clear hb3
            (try go_wp2_with fail)
            refine hko hK (Blk.f4 BV (Blk.l2 BX)) fun hHeld => ?_
            clear hK K
            refine tk 4 30 ?_
            refine tk 5 31 ?_
            refine tk 6 32 ?_
            refine tkv 7 33 ?_
            refine tkv 8 34 ?_
            refine tkv 9 35 ?_
            refine tkv 10 36 ?_
            refine tkv 11 37 ?_
            refine tkv 12 38 ?_
            refine tk 13 39 ?_
            refine tk 14 4 ?_
            refine wpAnyH_done (by kernel_rfl) ?_ _
            clear hHeld
            go_wp2_with fail
            go_ret
            exact ⟨rfl, hb⟩
theorem low_terms (S : Nat) (hS : 1 ≤ S) (a N b : Int) (D : Nat) (hb : 0 < b) (h : a * ((scN S D : Nat) : Int) = N * b) :
    ∃ (A B : Int) (g : Nat), Int.gcd a b = g ∧ 0 < g ∧ a.tdiv (g : Int) = A ∧ b / (g : Int) = B ∧ 0 < B ∧ B ≤ b ∧ A.natAbs ≤ a.natAbs ∧ Nat.Coprime A.natAbs B.natAbs ∧
      A.natAbs * scN S D = N.natAbs * B.natAbs ∧ (N < 0 ↔ A < 0) := by
  have hg : 0 < Int.gcd a b := Int.gcd_pos_of_ne_zero_right _ (by omega)
  obtain ⟨g, hge⟩ : ∃ g, Int.gcd a b = g := ⟨_, rfl⟩
  rw [hge] at hg
  have hg0 : (0 : Int) < (g : Int) := by omega
  obtain ⟨A, hA⟩ : ∃ A, a = (g : Int) * A := by have := Int.gcd_dvd_left a b; rw [hge] at this; exact this
  obtain ⟨B, hB⟩ : ∃ B, b = (g : Int) * B := by have := Int.gcd_dvd_right a b; rw [hge] at this; exact this
  have hBp : 0 < B := by
    rcases Int.lt_or_le 0 B with q | q
    · exact q
    · have := Int.mul_nonpos_of_nonneg_of_nonpos (show 0 ≤ (g : Int) by omega) q
      omega
  have hbn : b.natAbs = g * B.natAbs := by rw [hB, Int.natAbs_mul, Int.natAbs_natCast]
  have han : a.natAbs = g * A.natAbs := by rw [hA, Int.natAbs_mul, Int.natAbs_natCast]
  have hco : Nat.Coprime A.natAbs B.natAbs := by
    have h1 : Nat.gcd a.natAbs b.natAbs = g := hge
    rw [han, hbn, Nat.gcd_mul_left] at h1
    exact Nat.eq_of_mul_eq_mul_left hg (by rw [h1, Nat.mul_one])
  have hAB : A * ((scN S D : Nat) : Int) = N * B := by
    refine Int.eq_of_mul_eq_mul_left (show (g : Int) ≠ 0 by omega) ?_
    rw [← Int.mul_assoc, ← hA, h, hB]
    simp only [Int.mul_assoc, Int.mul_comm, Int.mul_left_comm]
  refine ⟨A, B, g, hge, hg, ?_, ?_, hBp, ?_, ?_, hco, ?_, ?_⟩
  · rw [hA]; exact Int.mul_tdiv_cancel_left _ (by omega)
  · rw [hB]; exact Int.mul_ediv_cancel_left _ (by omega)
  · have h2 := Nat.le_mul_of_pos_left B.natAbs hg
    rw [← hbn] at h2
    omega
  · rw [han]; exact Nat.le_mul_of_pos_left _ hg
  · have h2 := congrArg Int.natAbs hAB
    rw [Int.natAbs_mul, Int.natAbs_mul, Int.natAbs_natCast] at h2
    exact h2
  · have hsp := scN_pos hS D
    constructor
    · intro q
      have h3 := Int.mul_neg_of_neg_of_pos q hBp
      rw [← hAB] at h3
      rcases Int.lt_or_le A 0 with q2 | q2
      · exact q2
      · have := Int.mul_nonneg q2 (show (0 : Int) ≤ ((scN S D : Nat) : Int) by omega)
        omega
    · intro q
      have h3 := Int.mul_neg_of_neg_of_pos q (show (0 : Int) < ((scN S D : Nat) : Int) by omega)
      rw [hAB] at h3
      rcases Int.lt_or_le N 0 with q2 | q2
      · exact q2
      · have := Int.mul_nonneg q2 (show 0 ≤ B by omega)
        omega
theorem fit_found {S k D : Nat} {A B N : Int} (hS : 1 ≤ S ∧ S ≤ 6) (hB : 0 < B) (hco : Nat.Coprime A.natAbs B.natAbs) (h : A.natAbs * scN S D = N.natAbs * B.natAbs) (hs : N < 0 ↔ A < 0) (hk : k ≤ D) (hD : D < nn S)
    (h1 : scN S k % B.natAbs = 0) (h0 : ∀ j, j < k → scN S j % B.natAbs ≠ 0) :
    rdX S N D = if (A * ((scN S k / B.natAbs : Nat) : Int)).natAbs ≤ 1000000000000000000 then some (A * ((scN S k / B.natAbs : Nat) : Int), (k : Int)) else none := by
  have e := fit_end (B := S * S) (a := A.natAbs) (b := B.natAbs) (N := N.natAbs) (D := D) (k := k) (base_range hS).1 (by omega) hco h hk h1 h0
  unfold rdX
  rw [e]
  dsimp only
  have e2 : (A * ((scN S k / B.natAbs : Nat) : Int)).natAbs = A.natAbs * ((S * S) ^ k / B.natAbs) := by rw [Int.natAbs_mul, Int.natAbs_natCast]; rfl
  rw [e2]
  have e3 : sgI N (A.natAbs * ((S * S) ^ k / B.natAbs)) = A * ((scN S k / B.natAbs : Nat) : Int) := by
    unfold sgI scN
    generalize (S * S) ^ k / B.natAbs = T
    rw [Int.natCast_mul]
    by_cases q : N < 0
    · rw [if_pos q, ← Int.neg_mul]
      have := hs.1 q
      congr 1
      omega
    · rw [if_neg q]
      have : ¬ A < 0 := fun z => q (hs.2 z)
      congr 1
      omega
  rw [e3]
  by_cases q : A.natAbs * ((S * S) ^ k / B.natAbs) ≤ 1000000000000000000
  · rw [if_pos ⟨by omega, q⟩, if_pos q]
  · rw [if_neg (fun z => q z.2), if_neg q]
set_option maxRecDepth 8000 in
set_option maxHeartbeats 2000000 in
theorem l09Fit_any (p c h : Int) (S : Nat) (hS : 1 ≤ S ∧ S ≤ 6) (a N b : Int) (D : Nat) (hD : D < nn S) (hb0 : 0 < b ∧ b ≤ 1000000000000000) (ha : -9223372036854775807 ≤ a ∧ a ≤ 9223372036854775807) (hab : a * ((scN S D : Nat) : Int) = N * b) (w : World) :
    Calls Tryz.prog 109 #[.agg #[.int .i64 p, .int .i64 c, .int .i64 h, .int .i64 (S : Int)], .int .i64 a, .int .i64 b] w fun e w' => ∃ u v, e = .returned (.tuple #[.agg #[.int .i64 u, .int .i64 v], .bool (rdX S N D).isSome]) ∧ (∀ q, rdX S N D = some q → u = q.1 ∧ v = q.2) ∧ Below w.heap.size w w' := by
  obtain ⟨A, B, g, hg, hg0, hA, hB, hB0, hB1, hA1, hco, hAN, hsg⟩ := low_terms S hS.1 a N b D hb0.1 hab
  have hgc := fun W => l09Gcd_any a b ha (by omega) W
  rw [hg] at hgc
  obtain ⟨G, hG⟩ : ∃ G : Int, (g : Int) = G := ⟨_, rfl⟩
  rw [hG] at hgc hA hB
  have G0 : 0 < G := by omega
  have G1 : G ≠ 0 := by omega
  have hA3 : -9223372036854775807 ≤ A ∧ A ≤ 9223372036854775807 := by omega
  obtain ⟨A4, A5⟩ := hA3
  have wA : IntKind.i64.wrap A = A := IntWalk.i64_in _ (by omega)
  have wB : IntKind.i64.wrap B = B := IntWalk.i64_in _ (by omega)
  have hBt : b.tdiv G = B := by rw [← hB]; exact Int.tdiv_eq_ediv_of_nonneg (by omega)
  have hBn : B ≠ 0 := by omega
  have HG := Lib.hid hgc
  have HCO := Lib.hid hco
  have HAN := Lib.hid hAN
  have HSG := Lib.hid hsg
  have BB1 : B ≤ 1000000000000000 := by omega
  have hend : scN S D % B.natAbs = 0 := by
    rw [show scN S D = (S * S) ^ D from rfl, fit_iff (base_range hS).1 (by omega) hco hAN (Nat.le_refl D), Nat.sub_self, Nat.pow_zero, Nat.mod_one]
  have HEND := Lib.hid hend
  obtain ⟨R, hR⟩ : ∃ R, rdX S N D = R := ⟨_, rfl⟩
  rw [hR]
  have HR := Lib.hid hR
  clear hR
  obtain ⟨BV, BO, hb, hz⟩ := two_new w #[.int .i64 p, .int .i64 c, .int .i64 h, .int .i64 (S : Int)] #[.int .i64 0, .int .i64 0] 25 35
  obtain ⟨x0, x1, x2, x3, xf, xl⟩ := BV.four
  obtain ⟨z0, z1, zf, zl⟩ := BO.two
  clear hgc hco hAN hsg hend hab hg hG hA1 hg0 ha
  go_enter Tryz.func109, Tryz.ntmps109
  go_wp2_with (go_at_call 107; refine (HG.out _).mono ?_; clear HG; rintro e w1 ⟨rfl, rfl⟩)
  clear x0 x1 x2 x3 xf xl z0 z1 zf zl hA hB hBt
  generalize ((w.alloc (.cells #[.int .i64 p, .int .i64 c, .int .i64 h, .int .i64 (S : Int)] 25)).alloc (.cells #[.int .i64 0, .int .i64 0] 35)) = v0 at *
  go_loopg [9] D (fun m q9 wr => ∃ k : Nat, k ≤ D ∧ m = D - k ∧ q9 = .int .i64 (k : Int) ∧ Hid (∀ j, j < k → scN S j % B.natAbs ≠ 0) ∧ Blk wr w.heap.size #[.int .i64 p, .int .i64 c, .int .i64 h, .int .i64 (S : Int)] 25 ∧ Blk wr (w.heap.size + 1) #[.int .i64 0, .int .i64 0] 35 ∧ Below w.heap.size w wr)
  case atStart => exact ⟨0, by omega, by omega, rfl, Lib.hid (fun j hj => by omega), BV, BO, hb⟩
  case round =>
    clear BV BO hb
    obtain ⟨k, hk, hm, rfl, HALL, BV, BO, hb⟩ := hrel
    have hn := nn_range hS
    have hsc := fun W => l09Scale_any p c h S hS (k : Int) (by omega) W
    have hsb : slB S (k : Int) = true := by unfold slB; rw [decide_eq_true (.inr (by omega))]
    have hsv : slV S (k : Int) = ((scN S k : Nat) : Int) := slV_is hsb (.inl (Int.toNat_natCast k))
    have hCle := scN_in hS (show k < nn S by omega)
    have hCpos := scN_pos hS.1 k
    obtain ⟨C, hC⟩ : ∃ C : Int, ((scN S k : Nat) : Int) = C := ⟨_, rfl⟩
    rw [hsb, hsv, hC] at hsc
    have C0 : 1 ≤ C ∧ C ≤ 1000000000000000 := by omega
    obtain ⟨C1, C2⟩ := C0
    have HSC := Lib.hid hsc
    have hmod : ((scN S k % B.natAbs : Nat) : Int) = C % B := by rw [Int.natCast_emod, hC]; congr 1; omega
    have hmt : C.tmod B = C % B := Int.tmod_eq_emod_of_nonneg (by omega)
    by_cases cz : scN S k % B.natAbs = 0
    · have fz : (C % B == 0) = true := by rw [beq_iff_eq, ← hmod]; omega
      have hfound := fit_found hS hB0 HCO.out HAN.out HSG.out hk hD cz HALL.out
      obtain ⟨T, hT⟩ : ∃ T : Int, ((scN S k / B.natAbs : Nat) : Int) = T := ⟨_, rfl⟩
      rw [hT] at hfound
      have hdiv : C / B = T := by rw [← hT, Int.natCast_ediv, hC]; congr 1; omega
      have hdt : C.tdiv B = T := by rw [← hdiv]; exact Int.tdiv_eq_ediv_of_nonneg (by omega)
      have hT0 : 0 ≤ T ∧ T ≤ 1000000000000000 := by
        rw [← hT]
        exact ⟨Int.natCast_nonneg _, Int.ofNat_le.2 (Nat.le_trans (Nat.div_le_self _ _) hCle)⟩
      have wT : IntKind.i64.wrap T = T := IntWalk.i64_in _ (by omega)
      have htm := fun W => l09Times_any A T (by omega) (by omega) W
      unfold tmV tmB at htm
      by_cases c : (A * T).natAbs ≤ 1000000000000000000
      · rw [if_pos c] at hfound
        simp only [if_pos c, decide_eq_true c] at htm
        have hin := fun W => l01In_any (A * T) (-1000000000000000000) 1000000000000000000 W
        rw [show inB (A * T) (-1000000000000000000) 1000000000000000000 = true by unfold inB; rw [decide_eq_true (by omega)]] at hin
        obtain ⟨U, hU⟩ : ∃ U, A * T = U := ⟨_, rfl⟩
        rw [hU] at htm hin hfound
        obtain rfl : R = some (U, (k : Int)) := by rw [← HR.out]; exact hfound
        have HT := Lib.hid htm
        have HI := Lib.hid hin
        clear htm hin hfound c hU hmod hT hC hsc hsb hsv hCle hCpos cz hT0
        obtain ⟨x0, x1, x2, x3, xf, xl⟩ := BV.four
        obtain ⟨z0, z1, zf, zl⟩ := BO.two
        go_wp2_with (first | (go_at_call 75; refine (HSC.out _).mono ?_; clear HSC; rintro e w2 ⟨rfl, hb2⟩; replace BV := BV.below hb2; replace BO := BO.below hb2; replace hb := chain hb hb2; clear hb2; obtain ⟨x0, x1, x2, x3, xf, xl⟩ := BV.four; obtain ⟨z0, z1, zf, zl⟩ := BO.two) | (go_at_call 108; refine (HT.out _).mono ?_; clear HT; rintro e w3 ⟨rfl, rfl⟩) | (go_at_call 64; refine (HI.out _).mono ?_; clear HI; rintro e w4 ⟨rfl, rfl⟩))
        have BRn := BO.set2 (.int .i64 U) (.int .i64 (k : Int))
        obtain ⟨u0, u1, uf, ul⟩ := BRn.two
        refine bodyPost_ret (v := .tuple #[.agg #[.int .i64 U, .int .i64 (k : Int)], .bool true]) (by simp [results, Tryz.results109, go_sem, u0, u1]) rfl ?_
        exact ⟨_, _, rfl, fun q hq => by cases hq; exact ⟨rfl, rfl⟩, belowFar2 hb (by omega) _ _⟩
      · rw [if_neg c] at hfound
        simp only [if_neg c, decide_eq_false c] at htm
        obtain rfl : R = none := by rw [← HR.out]; exact hfound
        have HT := Lib.hid htm
        clear htm hfound c hmod hT hC hsc hsb hsv hCle hCpos cz hT0
        obtain ⟨x0, x1, x2, x3, xf, xl⟩ := BV.four
        obtain ⟨z0, z1, zf, zl⟩ := BO.two
        go_wp2_with (first | (go_at_call 75; refine (HSC.out _).mono ?_; clear HSC; rintro e w2 ⟨rfl, hb2⟩; replace BV := BV.below hb2; replace BO := BO.below hb2; replace hb := chain hb hb2; clear hb2; obtain ⟨x0, x1, x2, x3, xf, xl⟩ := BV.four; obtain ⟨z0, z1, zf, zl⟩ := BO.two) | (go_at_call 108; refine (HT.out _).mono ?_; clear HT; rintro e w3 ⟨rfl, rfl⟩))
        have BRn := BO.set2 (.int .i64 0) (.int .i64 (k : Int))
        obtain ⟨u0, u1, uf, ul⟩ := BRn.two
        refine bodyPost_ret (v := .tuple #[.agg #[.int .i64 0, .int .i64 (k : Int)], .bool false]) (by simp [results, Tryz.results109, go_sem, u0, u1]) rfl ?_
        exact ⟨_, _, rfl, (fun q hq => by cases hq), belowFar2 hb (by omega) _ _⟩
    · have fz : (C % B == 0) = false := by rw [beq_eq_false_iff_ne, ← hmod]; omega
      have hkD : k < D := by
        rcases Nat.lt_or_ge k D with q | q
        · exact q
        · exfalso
          have : k = D := by omega
          subst this
          exact cz HEND.out
      have HALL2 : Hid (∀ j, j < k + 1 → scN S j % B.natAbs ≠ 0) := Lib.hid (fun j hj => by
        by_cases e : j = k
        · subst e; exact cz
        · exact HALL.out j (by omega))
      clear cz hmod hC hsc hsb hsv hCle hCpos
      obtain ⟨x0, x1, x2, x3, xf, xl⟩ := BV.four
      obtain ⟨z0, z1, zf, zl⟩ := BO.two
      go_wp2_with (go_at_call 75; refine (HSC.out _).mono ?_; clear HSC; rintro e w2 ⟨rfl, hb2⟩; replace BV := BV.below hb2; replace BO := BO.below hb2; replace hb := chain hb hb2; clear hb2; obtain ⟨x0, x1, x2, x3, xf, xl⟩ := BV.four; obtain ⟨z0, z1, zf, zl⟩ := BO.two)
      go_roundg (D - (k + 1))
      case measure => omega
      case rel => exact ⟨k + 1, by omega, rfl, by go_num, HALL2, BV, BO, hb⟩
theorem rdX_some {S : Nat} {n : Int} {D : Nat} (hn : -1000000000000000000 ≤ n ∧ n ≤ 1000000000000000000) (hD : D < nn S) : ∃ u v, rdX S n D = some (u, v) := by
  have h := rdN_le (S * S) D n.natAbs
  unfold rdX
  rw [if_pos ⟨by omega, by omega⟩]
  exact ⟨_, _, rfl⟩
end Go.Proofs.YtnlclmlnpkncoaaGreat
