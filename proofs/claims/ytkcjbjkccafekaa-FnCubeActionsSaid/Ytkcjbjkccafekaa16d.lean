/- Contracts of the program's model on the validity of cubes and possible actions; points of games on both sides. -/
import Derived.Test.Ytkcjbjkccafekaa16c
namespace Go.Proofs.Ytkcjbjkccafekaa
open Go.ChangeShapes Go.WideShapes Go.ChangeAt Go.RowKit
set_option linter.unusedVariables false
set_option linter.unusedSimpArgs false
set_option maxRecDepth 4000

theorem upB_no {n m : Int} (hm : m ≤ 1024) {k : Nat} (hk : m < p2 k) (h : ∀ j, j < k → n ≠ p2 j) : upB n m = false := by
  cases g : upB n m with
  | false => rfl
  | true =>
    obtain ⟨j, h1, h2⟩ := (upB_iff hm).1 g
    exact absurd h2 (h j (p2_lt (by omega)))
set_option maxRecDepth 8000 in
set_option maxHeartbeats 1000000 in
theorem l16Power_any (n m : Int) (w : World) (hm : m ≤ 1024) :
    Calls Try.prog 48 #[.int .i64 n, .int .i64 m] w fun e w' => e = .returned (.bool (upB n m)) ∧ w = w' := by
  have hno := fun (k : Nat) => @upB_no n m hm k
  have hyes := fun (k : Nat) (h1 : p2 k ≤ m) (h2 : n = p2 k) => (upB_iff hm).2 ⟨k, h1, h2⟩
  obtain ⟨B, hB⟩ : ∃ B, upB n m = B := ⟨_, rfl⟩
  rw [hB] at hno hyes ⊢
  have HNO := Lib.hid hno
  have HYES := Lib.hid hyes
  clear hno hyes hB
  go_enter Try.func48, Try.ntmps48
  go_wp2
  go_loopg [5] 11 (fun q i wr => w = wr ∧ ∃ k : Nat, k ≤ 11 ∧ q = 11 - k ∧ i = .int .i64 (p2 k) ∧ ∀ j, j < k → n ≠ p2 j)
  case atStart => exact ⟨rfl, 0, by omega, by omega, rfl, fun j h => absurd h (by omega)⟩
  case round =>
    obtain ⟨rfl, k, hk, hq, rfl, hj⟩ := hrel
    have p1 := p2_pos k
    have pm : p2 k ≤ p2 11 := p2_mono hk
    rw [show p2 11 = 2048 by decide] at pm
    have hst := p2_succ k
    have hno := HNO.out k
    have hyes := HYES.out k
    have hsm := @p2_small k
    have hjs : n ≠ p2 k → ∀ j, j < k + 1 → n ≠ p2 j := fun q j h => by
      rcases Nat.lt_succ_iff_lt_or_eq.1 h with h | rfl
      · exact hj j h
      · exact q
    obtain ⟨T, hT⟩ : ∃ T, p2 k = T := ⟨_, rfl⟩
    rw [hT] at p1 pm hst hno hyes hsm hjs
    (try rw [hT])
    by_cases hlt : T ≤ m
    · have hk10 := hsm (by omega)
      by_cases he : n = T
      · have hB := hyes hlt he
        subst he
        subst hB
        clear hno hyes hsm hjs hj hst hT
        go_wp2
        go_ret
        exact ⟨rfl, rfl⟩
      · have f0 : (T == n) = false := by rw [beq_eq_false_iff_ne]; exact fun q => he q.symm
        have HJ := Lib.hid (hjs he)
        have HST := Lib.hid hst
        clear hno hyes hsm hjs hj hst he hT
        go_wp2
        go_roundg (11 - (k + 1))
        case measure => omega
        case rel => exact ⟨rfl, k + 1, by omega, rfl, by rw [HST.out], HJ.out⟩
    · have hB := hno (by omega) hj
      subst hB
      clear hno hyes hsm hjs hj hst hT
      go_wp2
      go_ret
      exact ⟨rfl, rfl⟩
theorem specIsCubeRules_any (m : Int) (be ja : Bool) (w : World) :
    Calls Try.prog 24 #[.agg #[.int .i64 m, .bool be, .bool ja]] w fun e w' => e = .returned (.bool (pwB m)) ∧ Below w.heap.size w w' := by
  have hi := fun W => l16Power_any m 1024 W (by omega)
  have hb : Below w.heap.size w (w.alloc (.cells #[.int .i64 m, .bool be, .bool ja] 25)) := (Below.refl _ _).alloc (Nat.le_refl _) _
  obtain ⟨x0, x1, x2, xf, xl⟩ := (Blk.new w #[.int .i64 m, .bool be, .bool ja] 25).t3
  rw [upB_most] at hi
  obtain ⟨b, hbe⟩ : ∃ b, pwB m = b := ⟨_, rfl⟩
  rw [hbe] at hi ⊢
  have HI := Lib.hid hi
  clear hi hbe
  go_enter Try.func24, Try.ntmps24
  go_wp2_with (go_at_call 48; refine (HI.out _).mono ?_; rintro e w1 ⟨rfl, rfl⟩)
  go_ret
  exact ⟨rfl, hb⟩
set_option maxRecDepth 8000 in
set_option maxHeartbeats 1000000 in
theorem specIsCube_any (m v o : Int) (be ja : Bool) (w : World) :
    Calls Try.prog 23 #[.agg #[.int .i64 m, .bool be, .bool ja], .agg #[.int .i64 v, .int .i64 o]] w fun e w' => e = .returned (.bool (cbB m v o)) ∧ Below w.heap.size w w' := by
  have hv := fun W => specIsCubeRules_any m be ja W
  unfold cbB
  obtain ⟨BR, BC, hb, hz⟩ := two_new w #[.int .i64 m, .bool be, .bool ja] #[.int .i64 v, .int .i64 o] 25 27
  clear hz
  obtain ⟨x0, x1, x2, xf, xl⟩ := BR.t3
  obtain ⟨u0, u1, uf, ul⟩ := BC.two
  cases g1 : pwB m with
  | false =>
    rw [g1] at hv
    have HV := Lib.hid hv
    clear hv g1
    rw [Bool.false_and]
    go_enter Try.func23, Try.ntmps23
    go_wp2_with (go_at_call 24; refine (HV.out _).mono ?_; rintro e w1 ⟨rfl, hb_w1⟩; obtain ⟨y0w1, y1w1, y2w1, yfw1, ylw1⟩ := (BR.below hb_w1).t3; obtain ⟨z0w1, z1w1, zfw1, zlw1⟩ := (BC.below hb_w1).two)
    go_ret
    exact ⟨rfl, chain hb hb_w1⟩
  | true =>
    have hm := (pwB_range g1).2
    have hi := fun W => l16Power_any v m W hm
    rw [g1] at hv
    have HV := Lib.hid hv
    clear hv g1 hm
    rw [Bool.true_and]
    cases g2 : upB v m with
    | false =>
      rw [g2] at hi
      have HI := Lib.hid hi
      clear hi g2
      rw [Bool.false_and]
      go_enter Try.func23, Try.ntmps23
      go_wp2_with (first | (go_at_call 24; refine (HV.out _).mono ?_; rintro e w1 ⟨rfl, hb_w1⟩; obtain ⟨y0w1, y1w1, y2w1, yfw1, ylw1⟩ := (BR.below hb_w1).t3; obtain ⟨z0w1, z1w1, zfw1, zlw1⟩ := (BC.below hb_w1).two) | (go_at_call 48; refine (HI.out _).mono ?_; rintro e w2 ⟨rfl, rfl⟩))
      go_ret
      exact ⟨rfl, chain hb hb_w1⟩
    | true =>
      rw [g2] at hi
      have HI := Lib.hid hi
      clear hi g2
      rw [Bool.true_and]
      unfold fitB
      by_cases h1 : v = 1
      · have e1 : (v == 1) = true := by rw [beq_iff_eq]; exact h1
        rw [if_pos h1]
        clear h1
        by_cases h2 : o = 0
        · have e2 : (o == 0) = true := by rw [beq_iff_eq]; exact h2
          rw [decide_eq_true h2]
          clear h2
          go_enter Try.func23, Try.ntmps23
          go_wp2_with (first | (go_at_call 24; refine (HV.out _).mono ?_; rintro e w1 ⟨rfl, hb_w1⟩; obtain ⟨y0w1, y1w1, y2w1, yfw1, ylw1⟩ := (BR.below hb_w1).t3; obtain ⟨z0w1, z1w1, zfw1, zlw1⟩ := (BC.below hb_w1).two) | (go_at_call 48; refine (HI.out _).mono ?_; rintro e w2 ⟨rfl, rfl⟩))
          go_ret
          exact ⟨rfl, chain hb hb_w1⟩
        · have e2 : (o == 0) = false := by rw [beq_eq_false_iff_ne]; exact h2
          rw [decide_eq_false h2]
          clear h2
          go_enter Try.func23, Try.ntmps23
          go_wp2_with (first | (go_at_call 24; refine (HV.out _).mono ?_; rintro e w1 ⟨rfl, hb_w1⟩; obtain ⟨y0w1, y1w1, y2w1, yfw1, ylw1⟩ := (BR.below hb_w1).t3; obtain ⟨z0w1, z1w1, zfw1, zlw1⟩ := (BC.below hb_w1).two) | (go_at_call 48; refine (HI.out _).mono ?_; rintro e w2 ⟨rfl, rfl⟩))
          go_ret
          exact ⟨rfl, chain hb hb_w1⟩
      · have e1 : (v == 1) = false := by rw [beq_eq_false_iff_ne]; exact h1
        rw [if_neg h1]
        clear h1
        by_cases h2 : o = 1
        · have e2 : (o == 1) = true := by rw [beq_iff_eq]; exact h2
          rw [decide_eq_true h2, Bool.true_or]
          clear h2
          go_enter Try.func23, Try.ntmps23
          go_wp2_with (first | (go_at_call 24; refine (HV.out _).mono ?_; rintro e w1 ⟨rfl, hb_w1⟩; obtain ⟨y0w1, y1w1, y2w1, yfw1, ylw1⟩ := (BR.below hb_w1).t3; obtain ⟨z0w1, z1w1, zfw1, zlw1⟩ := (BC.below hb_w1).two) | (go_at_call 48; refine (HI.out _).mono ?_; rintro e w2 ⟨rfl, rfl⟩))
          go_ret
          exact ⟨rfl, chain hb hb_w1⟩
        · have e2 : (o == 1) = false := by rw [beq_eq_false_iff_ne]; exact h2
          rw [decide_eq_false h2, Bool.false_or]
          clear h2
          by_cases h3 : o = 2
          · have e3 : (o == 2) = true := by rw [beq_iff_eq]; exact h3
            rw [decide_eq_true h3]
            clear h3
            go_enter Try.func23, Try.ntmps23
            go_wp2_with (first | (go_at_call 24; refine (HV.out _).mono ?_; rintro e w1 ⟨rfl, hb_w1⟩; obtain ⟨y0w1, y1w1, y2w1, yfw1, ylw1⟩ := (BR.below hb_w1).t3; obtain ⟨z0w1, z1w1, zfw1, zlw1⟩ := (BC.below hb_w1).two) | (go_at_call 48; refine (HI.out _).mono ?_; rintro e w2 ⟨rfl, rfl⟩))
            go_ret
            exact ⟨rfl, chain hb hb_w1⟩
          · have e3 : (o == 2) = false := by rw [beq_eq_false_iff_ne]; exact h3
            rw [decide_eq_false h3]
            clear h3
            go_enter Try.func23, Try.ntmps23
            go_wp2_with (first | (go_at_call 24; refine (HV.out _).mono ?_; rintro e w1 ⟨rfl, hb_w1⟩; obtain ⟨y0w1, y1w1, y2w1, yfw1, ylw1⟩ := (BR.below hb_w1).t3; obtain ⟨z0w1, z1w1, zfw1, zlw1⟩ := (BC.below hb_w1).two) | (go_at_call 48; refine (HI.out _).mono ?_; rintro e w2 ⟨rfl, rfl⟩))
            go_ret
            exact ⟨rfl, chain hb hb_w1⟩
theorem l16May_any (m v o : Int) (be ja : Bool) (w : World) (hv : 1 ≤ v ∧ v ≤ 1024) :
    Calls Try.prog 50 #[.agg #[.int .i64 m, .bool be, .bool ja], .agg #[.int .i64 v, .int .i64 o]] w fun e w' => e = .returned (.bool (mayB m v o 1)) ∧ Below w.heap.size w w' := by
  unfold mayB
  rw [show p2 1 = 2 by decide]
  obtain ⟨BR, BC, hb, hz⟩ := two_new w #[.int .i64 m, .bool be, .bool ja] #[.int .i64 v, .int .i64 o] 25 27
  clear hz
  obtain ⟨x0, x1, x2, xf, xl⟩ := BR.t3
  obtain ⟨u0, u1, uf, ul⟩ := BC.two
  obtain ⟨v1, v2⟩ := hv
  by_cases ho : o = 2
  · have f0 : (o != 2) = false := by rw [ho]; rfl
    rw [decide_eq_false (show ¬ o ≠ 2 from fun q => q ho), Bool.false_and]
    clear ho
    go_enter Try.func50, Try.ntmps50
    go_wp2
    go_ret
    exact ⟨rfl, hb⟩
  · have f0 : (o != 2) = true := by simpa using ho
    rw [decide_eq_true (show o ≠ 2 from ho), Bool.true_and]
    clear ho
    by_cases g : v * 2 ≤ m
    · have f1 : decide (2 * v ≤ m) = true := decide_eq_true (by omega)
      rw [decide_eq_true g]
      clear g
      go_enter Try.func50, Try.ntmps50
      go_wp2
      go_ret
      exact ⟨rfl, hb⟩
    · have f1 : decide (2 * v ≤ m) = false := decide_eq_false (by omega)
      rw [decide_eq_false g]
      clear g
      go_enter Try.func50, Try.ntmps50
      go_wp2
      go_ret
      exact ⟨rfl, hb⟩
set_option maxRecDepth 8000 in
theorem specCanDouble_any (m v o : Int) (be ja : Bool) (w : World) :
    Calls Try.prog 30 #[.agg #[.int .i64 m, .bool be, .bool ja], .agg #[.int .i64 v, .int .i64 o]] w fun e w' => e = .returned (.bool (cbB m v o && mayB m v o 1)) ∧ Below w.heap.size w w' := by
  have hc := fun W => specIsCube_any m v o be ja W
  obtain ⟨BR, BC, hb, hz⟩ := two_new w #[.int .i64 m, .bool be, .bool ja] #[.int .i64 v, .int .i64 o] 25 27
  clear hz
  obtain ⟨x0, x1, x2, xf, xl⟩ := BR.t3
  obtain ⟨u0, u1, uf, ul⟩ := BC.two
  cases g1 : cbB m v o with
  | false =>
    rw [g1] at hc
    have HC := Lib.hid hc
    clear hc g1
    rw [Bool.false_and]
    go_enter Try.func30, Try.ntmps30
    go_wp2_with (go_at_call 23; refine (HC.out _).mono ?_; rintro e w1 ⟨rfl, hb_w1⟩; obtain ⟨y0w1, y1w1, y2w1, yfw1, ylw1⟩ := (BR.below hb_w1).t3; obtain ⟨z0w1, z1w1, zfw1, zlw1⟩ := (BC.below hb_w1).two)
    go_ret
    exact ⟨rfl, chain hb hb_w1⟩
  | true =>
    have hv : 1 ≤ v ∧ v ≤ 1024 := by have := cbB_parts g1; omega
    have hp := fun W => l16May_any m v o be ja W hv
    skip
    rw [g1] at hc
    rw [Bool.true_and]
    obtain ⟨B, hB⟩ : ∃ B, mayB m v o 1 = B := ⟨_, rfl⟩
    rw [hB] at hp ⊢
    have HC := Lib.hid hc
    have HP := Lib.hid hp
    clear hc hp g1 hB hv
    go_enter Try.func30, Try.ntmps30
    go_wp2_with (first | (go_at_call 23; refine (HC.out _).mono ?_; rintro e w1 ⟨rfl, hb_w1⟩; obtain ⟨y0w1, y1w1, y2w1, yfw1, ylw1⟩ := (BR.below hb_w1).t3; obtain ⟨z0w1, z1w1, zfw1, zlw1⟩ := (BC.below hb_w1).two) | (go_at_call 50; refine (HP.out _).mono ?_; rintro e w2 ⟨rfl, hb_w2⟩))
    go_ret
    exact ⟨rfl, chain (chain hb hb_w1) hb_w2⟩
set_option maxRecDepth 8000 in
theorem canDouble_any (m v o : Int) (be ja : Bool) (w : World) :
    Calls Try.prog 20 #[.agg #[.int .i64 m, .bool be, .bool ja], .agg #[.int .i64 v, .int .i64 o]] w fun e w' => e = .returned (.bool (cbB m v o && mayB m v o 1)) ∧ Below w.heap.size w w' := by
  have hc := fun W => hasCube_any m v o be ja W
  obtain ⟨BR, BC, hb, hz⟩ := two_new w #[.int .i64 m, .bool be, .bool ja] #[.int .i64 v, .int .i64 o] 25 27
  clear hz
  obtain ⟨x0, x1, x2, xf, xl⟩ := BR.t3
  obtain ⟨u0, u1, uf, ul⟩ := BC.two
  cases g1 : cbB m v o with
  | false =>
    rw [g1] at hc
    have HC := Lib.hid hc
    clear hc g1
    rw [Bool.false_and]
    go_enter Try.func20, Try.ntmps20
    go_wp2_with (go_at_call 37; refine (HC.out _).mono ?_; rintro e w1 ⟨rfl, hb_w1⟩; obtain ⟨y0w1, y1w1, y2w1, yfw1, ylw1⟩ := (BR.below hb_w1).t3; obtain ⟨z0w1, z1w1, zfw1, zlw1⟩ := (BC.below hb_w1).two)
    go_ret
    exact ⟨rfl, chain hb hb_w1⟩
  | true =>
    have hv : 1 ≤ v ∧ v ≤ 1024 := by have := cbB_parts g1; omega
    have hp := fun W => isPossible_any m v o 1 be ja W hv
    rw [posB_1] at hp
    rw [g1] at hc
    rw [Bool.true_and]
    obtain ⟨B, hB⟩ : ∃ B, mayB m v o 1 = B := ⟨_, rfl⟩
    rw [hB] at hp ⊢
    have HC := Lib.hid hc
    have HP := Lib.hid hp
    clear hc hp g1 hB hv
    go_enter Try.func20, Try.ntmps20
    go_wp2_with (first | (go_at_call 37; refine (HC.out _).mono ?_; rintro e w1 ⟨rfl, hb_w1⟩; obtain ⟨y0w1, y1w1, y2w1, yfw1, ylw1⟩ := (BR.below hb_w1).t3; obtain ⟨z0w1, z1w1, zfw1, zlw1⟩ := (BC.below hb_w1).two) | (go_at_call 42; refine (HP.out _).mono ?_; rintro e w2 ⟨rfl, hb_w2⟩))
    go_ret
    exact ⟨rfl, chain (chain hb hb_w1) hb_w2⟩
set_option maxRecDepth 8000 in
set_option maxHeartbeats 1000000 in
theorem l16Possible_any (m v o a : Int) (be ja : Bool) (w : World) (hv : 1 ≤ v ∧ v ≤ 1024) :
    Calls Try.prog 40 #[.agg #[.int .i64 m, .bool be, .bool ja], .agg #[.int .i64 v, .int .i64 o], .int .i64 a] w fun e w' => e = .returned (.bool (posB m be v o a)) ∧ Below w.heap.size w w' := by
  have hm := fun W => l16May_any m v o be ja W hv
  obtain ⟨v1, v2⟩ := hv
  obtain ⟨BR, BC, hb, hz⟩ := two_new w #[.int .i64 m, .bool be, .bool ja] #[.int .i64 v, .int .i64 o] 25 27
  clear hz
  obtain ⟨x0, x1, x2, xf, xl⟩ := BR.t3
  obtain ⟨u0, u1, uf, ul⟩ := BC.two
  by_cases h0 : a = 0
  · subst h0
    rw [posB_0]
    go_enter Try.func40, Try.ntmps40
    go_wp2
    go_ret
    exact ⟨rfl, hb⟩
  by_cases h1 : a = 1
  · subst h1
    rw [posB_1]
    obtain ⟨B, hB⟩ : ∃ B, mayB m v o 1 = B := ⟨_, rfl⟩
    rw [hB] at hm ⊢
    have HM := Lib.hid hm
    clear hm hB
    go_enter Try.func40, Try.ntmps40
    go_wp2_with (go_at_call 50; refine (HM.out _).mono ?_; rintro e w1 ⟨rfl, hb_w1⟩; obtain ⟨y0w1, y1w1, y2w1, yfw1, ylw1⟩ := (BR.below hb_w1).t3; obtain ⟨z0w1, z1w1, zfw1, zlw1⟩ := (BC.below hb_w1).two)
    go_ret
    exact ⟨rfl, chain hb hb_w1⟩
  by_cases h2 : a = 2
  · subst h2
    rw [posB_2]
    obtain ⟨B, hB⟩ : ∃ B, mayB m v o 1 = B := ⟨_, rfl⟩
    rw [hB] at hm ⊢
    have HM := Lib.hid hm
    clear hm hB
    go_enter Try.func40, Try.ntmps40
    go_wp2_with (go_at_call 50; refine (HM.out _).mono ?_; rintro e w1 ⟨rfl, hb_w1⟩; obtain ⟨y0w1, y1w1, y2w1, yfw1, ylw1⟩ := (BR.below hb_w1).t3; obtain ⟨z0w1, z1w1, zfw1, zlw1⟩ := (BC.below hb_w1).two)
    go_ret
    exact ⟨rfl, chain hb hb_w1⟩
  by_cases h3 : a = 3
  · subst h3
    rw [posB_3]
    clear h0 h1 h2
    by_cases ho : o = 2
    · rw [show mayB m v o 1 = false by simp [mayB, ho]] at hm
      rw [show mayB m v o 2 = false by simp [mayB, ho], Bool.and_false]
      have HM := Lib.hid hm
      clear hm ho
      go_enter Try.func40, Try.ntmps40
      go_wp2_with (go_at_call 50; refine (HM.out _).mono ?_; rintro e w1 ⟨rfl, hb_w1⟩; obtain ⟨y0w1, y1w1, y2w1, yfw1, ylw1⟩ := (BR.below hb_w1).t3; obtain ⟨z0w1, z1w1, zfw1, zlw1⟩ := (BC.below hb_w1).two)
      go_ret
      exact ⟨rfl, chain hb hb_w1⟩
    · by_cases h2 : v * 2 ≤ m
      · rw [show mayB m v o 1 = true by simp [mayB, ho, show p2 1 = 2 by decide]; omega] at hm
        have HM := Lib.hid hm
        by_cases g : v * 4 ≤ m
        · have f9 : decide (4 * v ≤ m) = true := decide_eq_true (by omega)
          rw [show mayB m v o 2 = true by simp [mayB, ho, show p2 2 = 4 by decide]; omega, Bool.and_true]
          clear hm ho h2 g
          cases be
          ·
            go_enter Try.func40, Try.ntmps40
            go_wp2_with (go_at_call 50; refine (HM.out _).mono ?_; rintro e w1 ⟨rfl, hb_w1⟩; obtain ⟨y0w1, y1w1, y2w1, yfw1, ylw1⟩ := (BR.below hb_w1).t3; obtain ⟨z0w1, z1w1, zfw1, zlw1⟩ := (BC.below hb_w1).two)
            go_ret
            exact ⟨rfl, chain hb hb_w1⟩
          ·
            go_enter Try.func40, Try.ntmps40
            go_wp2_with (go_at_call 50; refine (HM.out _).mono ?_; rintro e w1 ⟨rfl, hb_w1⟩; obtain ⟨y0w1, y1w1, y2w1, yfw1, ylw1⟩ := (BR.below hb_w1).t3; obtain ⟨z0w1, z1w1, zfw1, zlw1⟩ := (BC.below hb_w1).two)
            go_ret
            exact ⟨rfl, chain hb hb_w1⟩
        · have f9 : decide (4 * v ≤ m) = false := decide_eq_false (by omega)
          rw [show mayB m v o 2 = false by simp [mayB, ho, show p2 2 = 4 by decide]; omega, Bool.and_false]
          clear hm ho h2 g
          cases be
          ·
            go_enter Try.func40, Try.ntmps40
            go_wp2_with (go_at_call 50; refine (HM.out _).mono ?_; rintro e w1 ⟨rfl, hb_w1⟩; obtain ⟨y0w1, y1w1, y2w1, yfw1, ylw1⟩ := (BR.below hb_w1).t3; obtain ⟨z0w1, z1w1, zfw1, zlw1⟩ := (BC.below hb_w1).two)
            go_ret
            exact ⟨rfl, chain hb hb_w1⟩
          ·
            go_enter Try.func40, Try.ntmps40
            go_wp2_with (go_at_call 50; refine (HM.out _).mono ?_; rintro e w1 ⟨rfl, hb_w1⟩; obtain ⟨y0w1, y1w1, y2w1, yfw1, ylw1⟩ := (BR.below hb_w1).t3; obtain ⟨z0w1, z1w1, zfw1, zlw1⟩ := (BC.below hb_w1).two)
            go_ret
            exact ⟨rfl, chain hb hb_w1⟩
      · rw [show mayB m v o 1 = false by simp [mayB, show p2 1 = 2 by decide]; omega] at hm
        rw [show mayB m v o 2 = false by simp [mayB, show p2 2 = 4 by decide]; omega, Bool.and_false]
        have HM := Lib.hid hm
        clear hm ho h2
        go_enter Try.func40, Try.ntmps40
        go_wp2_with (go_at_call 50; refine (HM.out _).mono ?_; rintro e w1 ⟨rfl, hb_w1⟩; obtain ⟨y0w1, y1w1, y2w1, yfw1, ylw1⟩ := (BR.below hb_w1).t3; obtain ⟨z0w1, z1w1, zfw1, zlw1⟩ := (BC.below hb_w1).two)
        go_ret
        exact ⟨rfl, chain hb hb_w1⟩
  by_cases h4 : a = 4
  · subst h4
    rw [posB_4]
    clear h0 h1 h2 h3
    by_cases ho : o = 2
    · rw [show mayB m v o 1 = false by simp [mayB, ho]] at hm
      rw [show mayB m v o 3 = false by simp [mayB, ho], Bool.and_false]
      have HM := Lib.hid hm
      clear hm ho
      go_enter Try.func40, Try.ntmps40
      go_wp2_with (go_at_call 50; refine (HM.out _).mono ?_; rintro e w1 ⟨rfl, hb_w1⟩; obtain ⟨y0w1, y1w1, y2w1, yfw1, ylw1⟩ := (BR.below hb_w1).t3; obtain ⟨z0w1, z1w1, zfw1, zlw1⟩ := (BC.below hb_w1).two)
      go_ret
      exact ⟨rfl, chain hb hb_w1⟩
    · by_cases h2 : v * 2 ≤ m
      · rw [show mayB m v o 1 = true by simp [mayB, ho, show p2 1 = 2 by decide]; omega] at hm
        have HM := Lib.hid hm
        by_cases g : v * 8 ≤ m
        · have f9 : decide (8 * v ≤ m) = true := decide_eq_true (by omega)
          rw [show mayB m v o 3 = true by simp [mayB, ho, show p2 3 = 8 by decide]; omega, Bool.and_true]
          clear hm ho h2 g
          cases be
          ·
            go_enter Try.func40, Try.ntmps40
            go_wp2_with (go_at_call 50; refine (HM.out _).mono ?_; rintro e w1 ⟨rfl, hb_w1⟩; obtain ⟨y0w1, y1w1, y2w1, yfw1, ylw1⟩ := (BR.below hb_w1).t3; obtain ⟨z0w1, z1w1, zfw1, zlw1⟩ := (BC.below hb_w1).two)
            go_ret
            exact ⟨rfl, chain hb hb_w1⟩
          ·
            go_enter Try.func40, Try.ntmps40
            go_wp2_with (go_at_call 50; refine (HM.out _).mono ?_; rintro e w1 ⟨rfl, hb_w1⟩; obtain ⟨y0w1, y1w1, y2w1, yfw1, ylw1⟩ := (BR.below hb_w1).t3; obtain ⟨z0w1, z1w1, zfw1, zlw1⟩ := (BC.below hb_w1).two)
            go_ret
            exact ⟨rfl, chain hb hb_w1⟩
        · have f9 : decide (8 * v ≤ m) = false := decide_eq_false (by omega)
          rw [show mayB m v o 3 = false by simp [mayB, ho, show p2 3 = 8 by decide]; omega, Bool.and_false]
          clear hm ho h2 g
          cases be
          ·
            go_enter Try.func40, Try.ntmps40
            go_wp2_with (go_at_call 50; refine (HM.out _).mono ?_; rintro e w1 ⟨rfl, hb_w1⟩; obtain ⟨y0w1, y1w1, y2w1, yfw1, ylw1⟩ := (BR.below hb_w1).t3; obtain ⟨z0w1, z1w1, zfw1, zlw1⟩ := (BC.below hb_w1).two)
            go_ret
            exact ⟨rfl, chain hb hb_w1⟩
          ·
            go_enter Try.func40, Try.ntmps40
            go_wp2_with (go_at_call 50; refine (HM.out _).mono ?_; rintro e w1 ⟨rfl, hb_w1⟩; obtain ⟨y0w1, y1w1, y2w1, yfw1, ylw1⟩ := (BR.below hb_w1).t3; obtain ⟨z0w1, z1w1, zfw1, zlw1⟩ := (BC.below hb_w1).two)
            go_ret
            exact ⟨rfl, chain hb hb_w1⟩
      · rw [show mayB m v o 1 = false by simp [mayB, show p2 1 = 2 by decide]; omega] at hm
        rw [show mayB m v o 3 = false by simp [mayB, show p2 3 = 8 by decide]; omega, Bool.and_false]
        have HM := Lib.hid hm
        clear hm ho h2
        go_enter Try.func40, Try.ntmps40
        go_wp2_with (go_at_call 50; refine (HM.out _).mono ?_; rintro e w1 ⟨rfl, hb_w1⟩; obtain ⟨y0w1, y1w1, y2w1, yfw1, ylw1⟩ := (BR.below hb_w1).t3; obtain ⟨z0w1, z1w1, zfw1, zlw1⟩ := (BC.below hb_w1).two)
        go_ret
        exact ⟨rfl, chain hb hb_w1⟩
  rw [posB_else m be v o h0 h1 h2 h3 h4]
  have f0 : (a == 0) = false := by rw [beq_eq_false_iff_ne]; exact h0
  have f1 : (a == 1) = false := by rw [beq_eq_false_iff_ne]; exact h1
  have f2 : (a == 2) = false := by rw [beq_eq_false_iff_ne]; exact h2
  have f3 : (a == 3) = false := by rw [beq_eq_false_iff_ne]; exact h3
  have f4 : (a == 4) = false := by rw [beq_eq_false_iff_ne]; exact h4
  clear h0 h1 h2 h3 h4 hm
  go_enter Try.func40, Try.ntmps40
  go_wp2
  go_ret
  exact ⟨rfl, hb⟩
theorem isResult16_any (k : Int) (w : World) :
    Calls Try.prog 47 #[.int .i64 k] w fun e w' => e = .returned (.bool (decide (1 ≤ k ∧ k ≤ 3))) ∧ w = w' := by
  by_cases h1 : 1 ≤ k
  · by_cases h2 : k ≤ 3
    · rw [decide_eq_true ⟨h1, h2⟩]
      go_enter Try.func47, Try.ntmps47
      go_wp2
      go_ret
      exact ⟨rfl, rfl⟩
    · rw [decide_eq_false (fun q => h2 q.2)]
      go_enter Try.func47, Try.ntmps47
      go_wp2
      go_ret
      exact ⟨rfl, rfl⟩
  · rw [decide_eq_false (fun q => h1 q.1)]
    go_enter Try.func47, Try.ntmps47
    go_wp2
    go_ret
    exact ⟨rfl, rfl⟩
theorem l01In16_any (k : Int) (w : World) :
    Calls Try.prog 51 #[.int .i64 k, .int .i64 1, .int .i64 3] w fun e w' => e = .returned (.bool (decide (1 ≤ k ∧ k ≤ 3))) ∧ w = w' := by
  by_cases h1 : 1 ≤ k
  · by_cases h2 : k ≤ 3
    · rw [decide_eq_true ⟨h1, h2⟩]
      go_enter Try.func51, Try.ntmps51
      go_wp2
      go_ret
      exact ⟨rfl, rfl⟩
    · rw [decide_eq_false (fun q => h2 q.2)]
      go_enter Try.func51, Try.ntmps51
      go_wp2
      go_ret
      exact ⟨rfl, rfl⟩
  · rw [decide_eq_false (fun q => h1 q.1)]
    go_enter Try.func51, Try.ntmps51
    go_wp2
    go_ret
    exact ⟨rfl, rfl⟩
set_option maxRecDepth 8000 in
set_option maxHeartbeats 1000000 in
theorem gamePoints_any (m v o k : Int) (be ja : Bool) (w : World) :
    Calls Try.prog 22 #[.agg #[.int .i64 m, .bool be, .bool ja], .agg #[.int .i64 v, .int .i64 o], .int .i64 k] w fun e w' => e = .returned (.tuple #[.int .i64 (gpV m ja v o k).1, .int .i64 (gpV m ja v o k).2]) ∧ Below w.heap.size w w' := by
  have hc := fun W => hasCube_any m v o be ja W
  have hr := fun W => isResult16_any k W
  unfold gpV
  obtain ⟨BR, BC, hb, hz⟩ := two_new w #[.int .i64 m, .bool be, .bool ja] #[.int .i64 v, .int .i64 o] 25 27
  clear hz
  obtain ⟨x0, x1, x2, xf, xl⟩ := BR.t3
  obtain ⟨u0, u1, uf, ul⟩ := BC.two
  cases g1 : cbB m v o with
  | false =>
    rw [g1] at hc
    have HC := Lib.hid hc
    rw [if_pos rfl]
    clear hc g1 hr
    go_enter Try.func22, Try.ntmps22
    go_wp2_with (go_at_call 37; refine (HC.out _).mono ?_; rintro e w1 ⟨rfl, hb_w1⟩; obtain ⟨y0w1, y1w1, y2w1, yfw1, ylw1⟩ := (BR.below hb_w1).t3; obtain ⟨z0w1, z1w1, zfw1, zlw1⟩ := (BC.below hb_w1).two)
    refine bodyPost_ret (v := .tuple #[.int .i64 0, .int .i64 1]) (by simp [results, Try.results22, go_sem]) rfl ?_
    exact ⟨rfl, chain hb hb_w1⟩
  | true =>
    have hv : 1 ≤ v ∧ v ≤ 1024 := by have := cbB_parts g1; omega
    rw [g1] at hc
    have HC := Lib.hid hc
    rw [if_neg (show ¬ (true = false) by simp)]
    clear hc g1
    by_cases g2 : 1 ≤ k ∧ k ≤ 3
    · rw [decide_eq_true g2] at hr
      have HR := Lib.hid hr
      rw [if_neg (fun q => q g2)]
      clear hr
      cases ja
      · rw [if_neg (show ¬ (false = true ∧ o = 0) from fun q => by cases q.1)]
        rcases (show k = 1 ∨ k = 2 ∨ k = 3 by omega) with rfl | rfl | rfl
        all_goals clear g2
        ·
          go_enter Try.func22, Try.ntmps22
          go_wp2_with (first | (go_at_call 37; refine (HC.out _).mono ?_; rintro e w1 ⟨rfl, hb_w1⟩; obtain ⟨y0w1, y1w1, y2w1, yfw1, ylw1⟩ := (BR.below hb_w1).t3; obtain ⟨z0w1, z1w1, zfw1, zlw1⟩ := (BC.below hb_w1).two) | (go_at_call 47; refine (HR.out _).mono ?_; rintro e w2 ⟨rfl, rfl⟩))
          refine bodyPost_ret (v := .tuple #[.int .i64 (1 * v), .int .i64 0]) (by simp [results, Try.results22, go_sem]) rfl ?_
          exact ⟨rfl, chain hb hb_w1⟩
        ·
          go_enter Try.func22, Try.ntmps22
          go_wp2_with (first | (go_at_call 37; refine (HC.out _).mono ?_; rintro e w1 ⟨rfl, hb_w1⟩; obtain ⟨y0w1, y1w1, y2w1, yfw1, ylw1⟩ := (BR.below hb_w1).t3; obtain ⟨z0w1, z1w1, zfw1, zlw1⟩ := (BC.below hb_w1).two) | (go_at_call 47; refine (HR.out _).mono ?_; rintro e w2 ⟨rfl, rfl⟩))
          refine bodyPost_ret (v := .tuple #[.int .i64 (2 * v), .int .i64 0]) (by simp [results, Try.results22, go_sem]) rfl ?_
          exact ⟨rfl, chain hb hb_w1⟩
        ·
          go_enter Try.func22, Try.ntmps22
          go_wp2_with (first | (go_at_call 37; refine (HC.out _).mono ?_; rintro e w1 ⟨rfl, hb_w1⟩; obtain ⟨y0w1, y1w1, y2w1, yfw1, ylw1⟩ := (BR.below hb_w1).t3; obtain ⟨z0w1, z1w1, zfw1, zlw1⟩ := (BC.below hb_w1).two) | (go_at_call 47; refine (HR.out _).mono ?_; rintro e w2 ⟨rfl, rfl⟩))
          refine bodyPost_ret (v := .tuple #[.int .i64 (3 * v), .int .i64 0]) (by simp [results, Try.results22, go_sem]) rfl ?_
          exact ⟨rfl, chain hb hb_w1⟩
      · by_cases ho : o = 0
        · have f0 : (o == 0) = true := by rw [beq_iff_eq]; exact ho
          rw [if_pos ⟨rfl, ho⟩]
          clear ho
          go_enter Try.func22, Try.ntmps22
          go_wp2_with (first | (go_at_call 37; refine (HC.out _).mono ?_; rintro e w1 ⟨rfl, hb_w1⟩; obtain ⟨y0w1, y1w1, y2w1, yfw1, ylw1⟩ := (BR.below hb_w1).t3; obtain ⟨z0w1, z1w1, zfw1, zlw1⟩ := (BC.below hb_w1).two) | (go_at_call 47; refine (HR.out _).mono ?_; rintro e w2 ⟨rfl, rfl⟩))
          refine bodyPost_ret (v := .tuple #[.int .i64 v, .int .i64 0]) (by simp [results, Try.results22, go_sem]) rfl ?_
          exact ⟨rfl, chain hb hb_w1⟩
        · have f0 : (o == 0) = false := by rw [beq_eq_false_iff_ne]; exact ho
          rw [if_neg (fun q => ho q.2)]
          clear ho
          rcases (show k = 1 ∨ k = 2 ∨ k = 3 by omega) with rfl | rfl | rfl
          all_goals clear g2
          ·
            go_enter Try.func22, Try.ntmps22
            go_wp2_with (first | (go_at_call 37; refine (HC.out _).mono ?_; rintro e w1 ⟨rfl, hb_w1⟩; obtain ⟨y0w1, y1w1, y2w1, yfw1, ylw1⟩ := (BR.below hb_w1).t3; obtain ⟨z0w1, z1w1, zfw1, zlw1⟩ := (BC.below hb_w1).two) | (go_at_call 47; refine (HR.out _).mono ?_; rintro e w2 ⟨rfl, rfl⟩))
            refine bodyPost_ret (v := .tuple #[.int .i64 (1 * v), .int .i64 0]) (by simp [results, Try.results22, go_sem]) rfl ?_
            exact ⟨rfl, chain hb hb_w1⟩
          ·
            go_enter Try.func22, Try.ntmps22
            go_wp2_with (first | (go_at_call 37; refine (HC.out _).mono ?_; rintro e w1 ⟨rfl, hb_w1⟩; obtain ⟨y0w1, y1w1, y2w1, yfw1, ylw1⟩ := (BR.below hb_w1).t3; obtain ⟨z0w1, z1w1, zfw1, zlw1⟩ := (BC.below hb_w1).two) | (go_at_call 47; refine (HR.out _).mono ?_; rintro e w2 ⟨rfl, rfl⟩))
            refine bodyPost_ret (v := .tuple #[.int .i64 (2 * v), .int .i64 0]) (by simp [results, Try.results22, go_sem]) rfl ?_
            exact ⟨rfl, chain hb hb_w1⟩
          ·
            go_enter Try.func22, Try.ntmps22
            go_wp2_with (first | (go_at_call 37; refine (HC.out _).mono ?_; rintro e w1 ⟨rfl, hb_w1⟩; obtain ⟨y0w1, y1w1, y2w1, yfw1, ylw1⟩ := (BR.below hb_w1).t3; obtain ⟨z0w1, z1w1, zfw1, zlw1⟩ := (BC.below hb_w1).two) | (go_at_call 47; refine (HR.out _).mono ?_; rintro e w2 ⟨rfl, rfl⟩))
            refine bodyPost_ret (v := .tuple #[.int .i64 (3 * v), .int .i64 0]) (by simp [results, Try.results22, go_sem]) rfl ?_
            exact ⟨rfl, chain hb hb_w1⟩
    · rw [decide_eq_false g2] at hr
      have HR := Lib.hid hr
      rw [if_pos g2]
      clear hr g2
      go_enter Try.func22, Try.ntmps22
      go_wp2_with (first | (go_at_call 37; refine (HC.out _).mono ?_; rintro e w1 ⟨rfl, hb_w1⟩; obtain ⟨y0w1, y1w1, y2w1, yfw1, ylw1⟩ := (BR.below hb_w1).t3; obtain ⟨z0w1, z1w1, zfw1, zlw1⟩ := (BC.below hb_w1).two) | (go_at_call 47; refine (HR.out _).mono ?_; rintro e w2 ⟨rfl, rfl⟩))
      refine bodyPost_ret (v := .tuple #[.int .i64 0, .int .i64 2]) (by simp [results, Try.results22, go_sem]) rfl ?_
      exact ⟨rfl, chain hb hb_w1⟩
set_option maxRecDepth 8000 in
set_option maxHeartbeats 1000000 in
theorem specGamePoints_any (m v o k : Int) (be ja : Bool) (w : World) :
    Calls Try.prog 35 #[.agg #[.int .i64 m, .bool be, .bool ja], .agg #[.int .i64 v, .int .i64 o], .int .i64 k] w fun e w' => e = .returned (.tuple #[.int .i64 (gpV m ja v o k).1, .int .i64 (gpV m ja v o k).2]) ∧ Below w.heap.size w w' := by
  have hc := fun W => specIsCube_any m v o be ja W
  have hr := fun W => l01In16_any k W
  unfold gpV
  obtain ⟨BR, BC, hb, hz⟩ := two_new w #[.int .i64 m, .bool be, .bool ja] #[.int .i64 v, .int .i64 o] 25 27
  clear hz
  obtain ⟨x0, x1, x2, xf, xl⟩ := BR.t3
  obtain ⟨u0, u1, uf, ul⟩ := BC.two
  cases g1 : cbB m v o with
  | false =>
    rw [g1] at hc
    have HC := Lib.hid hc
    rw [if_pos rfl]
    clear hc g1 hr
    go_enter Try.func35, Try.ntmps35
    go_wp2_with (go_at_call 23; refine (HC.out _).mono ?_; rintro e w1 ⟨rfl, hb_w1⟩; obtain ⟨y0w1, y1w1, y2w1, yfw1, ylw1⟩ := (BR.below hb_w1).t3; obtain ⟨z0w1, z1w1, zfw1, zlw1⟩ := (BC.below hb_w1).two)
    refine bodyPost_ret (v := .tuple #[.int .i64 0, .int .i64 1]) (by simp [results, Try.results35, go_sem]) rfl ?_
    exact ⟨rfl, chain hb hb_w1⟩
  | true =>
    have hv : 1 ≤ v ∧ v ≤ 1024 := by have := cbB_parts g1; omega
    rw [g1] at hc
    have HC := Lib.hid hc
    rw [if_neg (show ¬ (true = false) by simp)]
    clear hc g1
    by_cases g2 : 1 ≤ k ∧ k ≤ 3
    · rw [decide_eq_true g2] at hr
      have HR := Lib.hid hr
      rw [if_neg (fun q => q g2)]
      clear hr
      cases ja
      · rw [if_neg (show ¬ (false = true ∧ o = 0) from fun q => by cases q.1)]
        rcases (show k = 1 ∨ k = 2 ∨ k = 3 by omega) with rfl | rfl | rfl
        all_goals clear g2
        ·
          go_enter Try.func35, Try.ntmps35
          go_wp2_with (first | (go_at_call 23; refine (HC.out _).mono ?_; rintro e w1 ⟨rfl, hb_w1⟩; obtain ⟨y0w1, y1w1, y2w1, yfw1, ylw1⟩ := (BR.below hb_w1).t3; obtain ⟨z0w1, z1w1, zfw1, zlw1⟩ := (BC.below hb_w1).two) | (go_at_call 51; refine (HR.out _).mono ?_; rintro e w2 ⟨rfl, rfl⟩))
          refine bodyPost_ret (v := .tuple #[.int .i64 (1 * v), .int .i64 0]) (by simp [results, Try.results35, go_sem]) rfl ?_
          exact ⟨rfl, chain hb hb_w1⟩
        ·
          go_enter Try.func35, Try.ntmps35
          go_wp2_with (first | (go_at_call 23; refine (HC.out _).mono ?_; rintro e w1 ⟨rfl, hb_w1⟩; obtain ⟨y0w1, y1w1, y2w1, yfw1, ylw1⟩ := (BR.below hb_w1).t3; obtain ⟨z0w1, z1w1, zfw1, zlw1⟩ := (BC.below hb_w1).two) | (go_at_call 51; refine (HR.out _).mono ?_; rintro e w2 ⟨rfl, rfl⟩))
          refine bodyPost_ret (v := .tuple #[.int .i64 (2 * v), .int .i64 0]) (by simp [results, Try.results35, go_sem]) rfl ?_
          exact ⟨rfl, chain hb hb_w1⟩
        ·
          go_enter Try.func35, Try.ntmps35
          go_wp2_with (first | (go_at_call 23; refine (HC.out _).mono ?_; rintro e w1 ⟨rfl, hb_w1⟩; obtain ⟨y0w1, y1w1, y2w1, yfw1, ylw1⟩ := (BR.below hb_w1).t3; obtain ⟨z0w1, z1w1, zfw1, zlw1⟩ := (BC.below hb_w1).two) | (go_at_call 51; refine (HR.out _).mono ?_; rintro e w2 ⟨rfl, rfl⟩))
          refine bodyPost_ret (v := .tuple #[.int .i64 (3 * v), .int .i64 0]) (by simp [results, Try.results35, go_sem]) rfl ?_
          exact ⟨rfl, chain hb hb_w1⟩
      · by_cases ho : o = 0
        · have f0 : (o == 0) = true := by rw [beq_iff_eq]; exact ho
          rw [if_pos ⟨rfl, ho⟩]
          clear ho
          go_enter Try.func35, Try.ntmps35
          go_wp2_with (first | (go_at_call 23; refine (HC.out _).mono ?_; rintro e w1 ⟨rfl, hb_w1⟩; obtain ⟨y0w1, y1w1, y2w1, yfw1, ylw1⟩ := (BR.below hb_w1).t3; obtain ⟨z0w1, z1w1, zfw1, zlw1⟩ := (BC.below hb_w1).two) | (go_at_call 51; refine (HR.out _).mono ?_; rintro e w2 ⟨rfl, rfl⟩))
          refine bodyPost_ret (v := .tuple #[.int .i64 v, .int .i64 0]) (by simp [results, Try.results35, go_sem]) rfl ?_
          exact ⟨rfl, chain hb hb_w1⟩
        · have f0 : (o == 0) = false := by rw [beq_eq_false_iff_ne]; exact ho
          rw [if_neg (fun q => ho q.2)]
          clear ho
          rcases (show k = 1 ∨ k = 2 ∨ k = 3 by omega) with rfl | rfl | rfl
          all_goals clear g2
          ·
            go_enter Try.func35, Try.ntmps35
            go_wp2_with (first | (go_at_call 23; refine (HC.out _).mono ?_; rintro e w1 ⟨rfl, hb_w1⟩; obtain ⟨y0w1, y1w1, y2w1, yfw1, ylw1⟩ := (BR.below hb_w1).t3; obtain ⟨z0w1, z1w1, zfw1, zlw1⟩ := (BC.below hb_w1).two) | (go_at_call 51; refine (HR.out _).mono ?_; rintro e w2 ⟨rfl, rfl⟩))
            refine bodyPost_ret (v := .tuple #[.int .i64 (1 * v), .int .i64 0]) (by simp [results, Try.results35, go_sem]) rfl ?_
            exact ⟨rfl, chain hb hb_w1⟩
          ·
            go_enter Try.func35, Try.ntmps35
            go_wp2_with (first | (go_at_call 23; refine (HC.out _).mono ?_; rintro e w1 ⟨rfl, hb_w1⟩; obtain ⟨y0w1, y1w1, y2w1, yfw1, ylw1⟩ := (BR.below hb_w1).t3; obtain ⟨z0w1, z1w1, zfw1, zlw1⟩ := (BC.below hb_w1).two) | (go_at_call 51; refine (HR.out _).mono ?_; rintro e w2 ⟨rfl, rfl⟩))
            refine bodyPost_ret (v := .tuple #[.int .i64 (2 * v), .int .i64 0]) (by simp [results, Try.results35, go_sem]) rfl ?_
            exact ⟨rfl, chain hb hb_w1⟩
          ·
            go_enter Try.func35, Try.ntmps35
            go_wp2_with (first | (go_at_call 23; refine (HC.out _).mono ?_; rintro e w1 ⟨rfl, hb_w1⟩; obtain ⟨y0w1, y1w1, y2w1, yfw1, ylw1⟩ := (BR.below hb_w1).t3; obtain ⟨z0w1, z1w1, zfw1, zlw1⟩ := (BC.below hb_w1).two) | (go_at_call 51; refine (HR.out _).mono ?_; rintro e w2 ⟨rfl, rfl⟩))
            refine bodyPost_ret (v := .tuple #[.int .i64 (3 * v), .int .i64 0]) (by simp [results, Try.results35, go_sem]) rfl ?_
            exact ⟨rfl, chain hb hb_w1⟩
    · rw [decide_eq_false g2] at hr
      have HR := Lib.hid hr
      rw [if_pos g2]
      clear hr g2
      go_enter Try.func35, Try.ntmps35
      go_wp2_with (first | (go_at_call 23; refine (HC.out _).mono ?_; rintro e w1 ⟨rfl, hb_w1⟩; obtain ⟨y0w1, y1w1, y2w1, yfw1, ylw1⟩ := (BR.below hb_w1).t3; obtain ⟨z0w1, z1w1, zfw1, zlw1⟩ := (BC.below hb_w1).two) | (go_at_call 51; refine (HR.out _).mono ?_; rintro e w2 ⟨rfl, rfl⟩))
      refine bodyPost_ret (v := .tuple #[.int .i64 0, .int .i64 2]) (by simp [results, Try.results35, go_sem]) rfl ?_
      exact ⟨rfl, chain hb hb_w1⟩
end Go.Proofs.Ytkcjbjkccafekaa
