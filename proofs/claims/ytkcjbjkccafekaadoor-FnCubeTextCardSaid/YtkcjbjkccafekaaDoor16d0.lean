/- Contracts of the program's model on the validity of cubes. -/
import Derived.Test.YtkcjbjkccafekaaDoor16a
namespace Go.Proofs.YtkcjbjkccafekaaDoor
open Go.ChangeShapes Go.WideShapes Go.ChangeAt Go.RowKit
set_option linter.unusedVariables false
set_option linter.unusedSimpArgs false
set_option maxRecDepth 4000

theorem upB_no {n m : Int} (hm : m ≤ 1024) {k : Nat} (hk : m < p2 k) (h : ∀ j, j < k → n ≠ p2 j) : upB n m = false := by
  cases g : upB n m with
  | false => rfl
  | true =>
    obtain ⟨j, h1, h2⟩ := (upB_iff hm).1 g
    exact absurd h2 (h j (p2_lt (by omega)))
set_option maxRecDepth 8000 in
set_option maxHeartbeats 1000000 in
theorem l16Power_any (n m : Int) (w : World) (hm : m ≤ 1024) :
    Calls Tryd.prog 30 #[.int .i64 n, .int .i64 m] w fun e w' => e = .returned (.bool (upB n m)) ∧ w = w' := by
  have hno := fun (k : Nat) => @upB_no n m hm k
  have hyes := fun (k : Nat) (h1 : p2 k ≤ m) (h2 : n = p2 k) => (upB_iff hm).2 ⟨k, h1, h2⟩
  obtain ⟨B, hB⟩ : ∃ B, upB n m = B := ⟨_, rfl⟩
  rw [hB] at hno hyes ⊢
  have HNO := Lib.hid hno
  have HYES := Lib.hid hyes
  clear hno hyes hB
  go_enter Tryd.func30, Tryd.ntmps30
  go_wp2
  go_loopg [5] 11 (fun q i wr => w = wr ∧ ∃ k : Nat, k ≤ 11 ∧ q = 11 - k ∧ i = .int .i64 (p2 k) ∧ ∀ j, j < k → n ≠ p2 j)
  case atStart => exact ⟨rfl, 0, by omega, by omega, rfl, fun j h => absurd h (by omega)⟩
  case round =>
    obtain ⟨rfl, k, hk, hq, rfl, hj⟩ := hrel
    have p1 := p2_pos k
    have pm : p2 k ≤ p2 11 := p2_mono hk
    rw [show p2 11 = 2048 by decide] at pm
    have hst := p2_succ k
    have hno := HNO.out k
    have hyes := HYES.out k
    have hsm := @p2_small k
    have hjs : n ≠ p2 k → ∀ j, j < k + 1 → n ≠ p2 j := fun q j h => by
      rcases Nat.lt_succ_iff_lt_or_eq.1 h with h | rfl
      · exact hj j h
      · exact q
    obtain ⟨T, hT⟩ : ∃ T, p2 k = T := ⟨_, rfl⟩
    rw [hT] at p1 pm hst hno hyes hsm hjs
    (try rw [hT])
    by_cases hlt : T ≤ m
    · have hk10 := hsm (by omega)
      by_cases he : n = T
      · have hB := hyes hlt he
        subst he
        subst hB
        clear hno hyes hsm hjs hj hst hT
        go_wp2
        go_ret
        exact ⟨rfl, rfl⟩
      · have f0 : (T == n) = false := by rw [beq_eq_false_iff_ne]; exact fun q => he q.symm
        have HJ := Lib.hid (hjs he)
        have HST := Lib.hid hst
        clear hno hyes hsm hjs hj hst he hT
        go_wp2
        go_roundg (11 - (k + 1))
        case measure => omega
        case rel => exact ⟨rfl, k + 1, by omega, rfl, by rw [HST.out], HJ.out⟩
    · have hB := hno (by omega) hj
      subst hB
      clear hno hyes hsm hjs hj hst hT
      go_wp2
      go_ret
      exact ⟨rfl, rfl⟩
theorem specIsCubeRules_any (m : Int) (be ja : Bool) (w : World) :
    Calls Tryd.prog 29 #[.agg #[.int .i64 m, .bool be, .bool ja]] w fun e w' => e = .returned (.bool (pwB m)) ∧ Below w.heap.size w w' := by
  have hi := fun W => l16Power_any m 1024 W (by omega)
  have hb : Below w.heap.size w (w.alloc (.cells #[.int .i64 m, .bool be, .bool ja] 37)) := (Below.refl _ _).alloc (Nat.le_refl _) _
  obtain ⟨x0, x1, x2, xf, xl⟩ := (Blk.new w #[.int .i64 m, .bool be, .bool ja] 37).t3
  rw [upB_most] at hi
  obtain ⟨b, hbe⟩ : ∃ b, pwB m = b := ⟨_, rfl⟩
  rw [hbe] at hi ⊢
  have HI := Lib.hid hi
  clear hi hbe
  go_enter Tryd.func29, Tryd.ntmps29
  go_wp2_with (go_at_call 30; refine (HI.out _).mono ?_; rintro e w1 ⟨rfl, rfl⟩)
  go_ret
  exact ⟨rfl, hb⟩
set_option maxRecDepth 8000 in
set_option maxHeartbeats 1000000 in
theorem specIsCube_any (m v o : Int) (be ja : Bool) (w : World) :
    Calls Tryd.prog 20 #[.agg #[.int .i64 m, .bool be, .bool ja], .agg #[.int .i64 v, .int .i64 o]] w fun e w' => e = .returned (.bool (cbB m v o)) ∧ Below w.heap.size w w' := by
  have hv := fun W => specIsCubeRules_any m be ja W
  unfold cbB
  obtain ⟨BR, BC, hb, hz⟩ := two_new w #[.int .i64 m, .bool be, .bool ja] #[.int .i64 v, .int .i64 o] 37 25
  clear hz
  obtain ⟨x0, x1, x2, xf, xl⟩ := BR.t3
  obtain ⟨u0, u1, uf, ul⟩ := BC.two
  cases g1 : pwB m with
  | false =>
    rw [g1] at hv
    have HV := Lib.hid hv
    clear hv g1
    rw [Bool.false_and]
    go_enter Tryd.func20, Tryd.ntmps20
    go_wp2_with (go_at_call 29; refine (HV.out _).mono ?_; rintro e w1 ⟨rfl, hb_w1⟩; obtain ⟨y0w1, y1w1, y2w1, yfw1, ylw1⟩ := (BR.below hb_w1).t3; obtain ⟨z0w1, z1w1, zfw1, zlw1⟩ := (BC.below hb_w1).two)
    go_ret
    exact ⟨rfl, chain hb hb_w1⟩
  | true =>
    have hm := (pwB_range g1).2
    have hi := fun W => l16Power_any v m W hm
    rw [g1] at hv
    have HV := Lib.hid hv
    clear hv g1 hm
    rw [Bool.true_and]
    cases g2 : upB v m with
    | false =>
      rw [g2] at hi
      have HI := Lib.hid hi
      clear hi g2
      rw [Bool.false_and]
      go_enter Tryd.func20, Tryd.ntmps20
      go_wp2_with (first | (go_at_call 29; refine (HV.out _).mono ?_; rintro e w1 ⟨rfl, hb_w1⟩; obtain ⟨y0w1, y1w1, y2w1, yfw1, ylw1⟩ := (BR.below hb_w1).t3; obtain ⟨z0w1, z1w1, zfw1, zlw1⟩ := (BC.below hb_w1).two) | (go_at_call 30; refine (HI.out _).mono ?_; rintro e w2 ⟨rfl, rfl⟩))
      go_ret
      exact ⟨rfl, chain hb hb_w1⟩
    | true =>
      rw [g2] at hi
      have HI := Lib.hid hi
      clear hi g2
      rw [Bool.true_and]
      unfold fitB
      by_cases h1 : v = 1
      · have e1 : (v == 1) = true := by rw [beq_iff_eq]; exact h1
        rw [if_pos h1]
        clear h1
        by_cases h2 : o = 0
        · have e2 : (o == 0) = true := by rw [beq_iff_eq]; exact h2
          rw [decide_eq_true h2]
          clear h2
          go_enter Tryd.func20, Tryd.ntmps20
          go_wp2_with (first | (go_at_call 29; refine (HV.out _).mono ?_; rintro e w1 ⟨rfl, hb_w1⟩; obtain ⟨y0w1, y1w1, y2w1, yfw1, ylw1⟩ := (BR.below hb_w1).t3; obtain ⟨z0w1, z1w1, zfw1, zlw1⟩ := (BC.below hb_w1).two) | (go_at_call 30; refine (HI.out _).mono ?_; rintro e w2 ⟨rfl, rfl⟩))
          go_ret
          exact ⟨rfl, chain hb hb_w1⟩
        · have e2 : (o == 0) = false := by rw [beq_eq_false_iff_ne]; exact h2
          rw [decide_eq_false h2]
          clear h2
          go_enter Tryd.func20, Tryd.ntmps20
          go_wp2_with (first | (go_at_call 29; refine (HV.out _).mono ?_; rintro e w1 ⟨rfl, hb_w1⟩; obtain ⟨y0w1, y1w1, y2w1, yfw1, ylw1⟩ := (BR.below hb_w1).t3; obtain ⟨z0w1, z1w1, zfw1, zlw1⟩ := (BC.below hb_w1).two) | (go_at_call 30; refine (HI.out _).mono ?_; rintro e w2 ⟨rfl, rfl⟩))
          go_ret
          exact ⟨rfl, chain hb hb_w1⟩
      · have e1 : (v == 1) = false := by rw [beq_eq_false_iff_ne]; exact h1
        rw [if_neg h1]
        clear h1
        by_cases h2 : o = 1
        · have e2 : (o == 1) = true := by rw [beq_iff_eq]; exact h2
          rw [decide_eq_true h2, Bool.true_or]
          clear h2
          go_enter Tryd.func20, Tryd.ntmps20
          go_wp2_with (first | (go_at_call 29; refine (HV.out _).mono ?_; rintro e w1 ⟨rfl, hb_w1⟩; obtain ⟨y0w1, y1w1, y2w1, yfw1, ylw1⟩ := (BR.below hb_w1).t3; obtain ⟨z0w1, z1w1, zfw1, zlw1⟩ := (BC.below hb_w1).two) | (go_at_call 30; refine (HI.out _).mono ?_; rintro e w2 ⟨rfl, rfl⟩))
          go_ret
          exact ⟨rfl, chain hb hb_w1⟩
        · have e2 : (o == 1) = false := by rw [beq_eq_false_iff_ne]; exact h2
          rw [decide_eq_false h2, Bool.false_or]
          clear h2
          by_cases h3 : o = 2
          · have e3 : (o == 2) = true := by rw [beq_iff_eq]; exact h3
            rw [decide_eq_true h3]
            clear h3
            go_enter Tryd.func20, Tryd.ntmps20
            go_wp2_with (first | (go_at_call 29; refine (HV.out _).mono ?_; rintro e w1 ⟨rfl, hb_w1⟩; obtain ⟨y0w1, y1w1, y2w1, yfw1, ylw1⟩ := (BR.below hb_w1).t3; obtain ⟨z0w1, z1w1, zfw1, zlw1⟩ := (BC.below hb_w1).two) | (go_at_call 30; refine (HI.out _).mono ?_; rintro e w2 ⟨rfl, rfl⟩))
            go_ret
            exact ⟨rfl, chain hb hb_w1⟩
          · have e3 : (o == 2) = false := by rw [beq_eq_false_iff_ne]; exact h3
            rw [decide_eq_false h3]
            clear h3
            go_enter Tryd.func20, Tryd.ntmps20
            go_wp2_with (first | (go_at_call 29; refine (HV.out _).mono ?_; rintro e w1 ⟨rfl, hb_w1⟩; obtain ⟨y0w1, y1w1, y2w1, yfw1, ylw1⟩ := (BR.below hb_w1).t3; obtain ⟨z0w1, z1w1, zfw1, zlw1⟩ := (BC.below hb_w1).two) | (go_at_call 30; refine (HI.out _).mono ?_; rintro e w2 ⟨rfl, rfl⟩))
            go_ret
            exact ⟨rfl, chain hb hb_w1⟩
end Go.Proofs.YtkcjbjkccafekaaDoor
