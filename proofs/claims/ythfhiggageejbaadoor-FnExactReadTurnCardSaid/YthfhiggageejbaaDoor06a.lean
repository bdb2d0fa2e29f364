/- Contracts on plain steps, of the program and of its model. -/
import Derived.Test.YthfhiggageejbaaDoorM06
import Derived.Test.YthfhiggageejbaaDoor04a0
import Derived.Test.YthfhiggageejbaaDoorBoardLaws
namespace Go.Proofs.YthfhiggageejbaaDoor
open Go.ChangeShapes Go.WideShapes Go.ChangeAt Go.RowKit
set_option linter.unusedVariables false
set_option linter.unusedSimpArgs false

theorem plB_t {p s f t d : Int} {h : Bool} (q : 0 ≤ f ∧ f ≤ p ∧ 1 ≤ d ∧ d ≤ s ∧ ((t = -1 ∧ h = false ∧ f < p ∧ f < d) ∨ (0 ≤ t ∧ t = f - d))) : plB p s f t d h = true := plB_iff.2 q
theorem plB_f {p s f t d : Int} {h : Bool} (q : ¬ (0 ≤ f ∧ f ≤ p ∧ 1 ≤ d ∧ d ≤ s ∧ ((t = -1 ∧ h = false ∧ f < p ∧ f < d) ∨ (0 ≤ t ∧ t = f - d)))) : plB p s f t d h = false := by
  rw [Bool.eq_false_iff]
  exact fun e => q (plB_iff.1 e)
set_option maxRecDepth 8000 in
set_option maxHeartbeats 2000000 in
theorem specPlain_any (p c h s f t d : Int) (hh : Bool) (w : World) (g : vB p c h s = true) :
    Calls Tryd.prog 42 #[.agg #[.int .i64 p, .int .i64 c, .int .i64 h, .int .i64 s], .agg #[.int .i64 f, .int .i64 t, .int .i64 d, .bool hh]] w fun e w' => e = .returned (.bool (plB p s f t d hh)) ∧ Below w.heap.size w w' := by
  have hv := vB_iff.1 g
  clear g
  obtain ⟨BV, BS, hb, hz⟩ := two_new w #[.int .i64 p, .int .i64 c, .int .i64 h, .int .i64 s] #[.int .i64 f, .int .i64 t, .int .i64 d, .bool hh] 29 38
  clear hz
  obtain ⟨x0, x1, x2, x3, xf, xl⟩ := BV.four
  obtain ⟨z0, z1, z2, z3, zf, zl⟩ := BS.four
  have hA := fun W => l01In_any f 0 p W
  have hB := fun W => l01In_any d 1 s W
  by_cases c1 : 0 ≤ f ∧ f ≤ p
  · have i1 : inB f 0 p = true := by simp [inB, c1]
    rw [i1] at hA
    by_cases c2 : 1 ≤ d ∧ d ≤ s
    · have i2 : inB d 1 s = true := by simp [inB, c2]
      rw [i2] at hB
      have HA := Lib.hid hA
      have HB := Lib.hid hB
      clear hA hB i1 i2
      obtain ⟨q1, q2⟩ := c1
      obtain ⟨q3, q4⟩ := c2
      by_cases ht : t = -1
      · subst ht
        cases hh with
        | true =>
          rw [plB_f (by rintro ⟨_, _, _, _, ⟨_, q, _⟩ | ⟨q, _⟩⟩; exact absurd q (by decide); omega)]
          go_enter Tryd.func42, Tryd.ntmps42
          go_wp2_with (first | (go_at_call 50; refine (HA.out _).mono ?_; clear HA; rintro e w2 ⟨rfl, rfl⟩) | (go_at_call 50; refine (HB.out _).mono ?_; clear HB; rintro e w3 ⟨rfl, rfl⟩))
          go_ret
          exact ⟨rfl, hb⟩
        | false =>
          by_cases k1 : f < p
          · have e5 : decide (f < p) = true := by simp [k1]
            by_cases k2 : f < d
            · have e6 : decide (f < d) = true := by simp [k2]
              rw [plB_t ⟨by omega, by omega, by omega, by omega, .inl ⟨rfl, rfl, k1, k2⟩⟩]
              clear k1 k2
              go_enter Tryd.func42, Tryd.ntmps42
              go_wp2_with (first | (go_at_call 50; refine (HA.out _).mono ?_; clear HA; rintro e w2 ⟨rfl, rfl⟩) | (go_at_call 50; refine (HB.out _).mono ?_; clear HB; rintro e w3 ⟨rfl, rfl⟩))
              go_ret
              exact ⟨rfl, hb⟩
            · have e6 : decide (f < d) = false := by simp [k2]
              rw [plB_f (by rintro ⟨_, _, _, _, ⟨_, _, _, q⟩ | ⟨q, _⟩⟩; omega; omega)]
              clear k1 k2
              go_enter Tryd.func42, Tryd.ntmps42
              go_wp2_with (first | (go_at_call 50; refine (HA.out _).mono ?_; clear HA; rintro e w2 ⟨rfl, rfl⟩) | (go_at_call 50; refine (HB.out _).mono ?_; clear HB; rintro e w3 ⟨rfl, rfl⟩))
              go_ret
              exact ⟨rfl, hb⟩
          · have e5 : decide (f < p) = false := by simp [k1]
            rw [plB_f (by rintro ⟨_, _, _, _, ⟨_, _, q, _⟩ | ⟨q, _⟩⟩; omega; omega)]
            clear k1
            go_enter Tryd.func42, Tryd.ntmps42
            go_wp2_with (first | (go_at_call 50; refine (HA.out _).mono ?_; clear HA; rintro e w2 ⟨rfl, rfl⟩) | (go_at_call 50; refine (HB.out _).mono ?_; clear HB; rintro e w3 ⟨rfl, rfl⟩))
            go_ret
            exact ⟨rfl, hb⟩
      · have e4 : (t == -1) = false := by simpa using ht
        have wz : IntKind.i64.wrap (f - d) = f - d := IntWalk.i64_in _ (by omega)
        by_cases k1 : 0 ≤ t
        · have e5 : decide (0 ≤ t) = true := by simp [k1]
          by_cases k2 : t = f - d
          · have e6 : (t == f - d) = true := by simp [k2]
            rw [plB_t ⟨by omega, by omega, by omega, by omega, .inr ⟨k1, k2⟩⟩]
            clear ht k1 k2 q1 q2 q3 q4 hv
            go_enter Tryd.func42, Tryd.ntmps42
            go_wp2_with (first | (go_at_call 50; refine (HA.out _).mono ?_; clear HA; rintro e w2 ⟨rfl, rfl⟩) | (go_at_call 50; refine (HB.out _).mono ?_; clear HB; rintro e w3 ⟨rfl, rfl⟩))
            go_ret
            exact ⟨rfl, hb⟩
          · have e6 : (t == f - d) = false := by simpa using k2
            rw [plB_f (by rintro ⟨_, _, _, _, ⟨q, _⟩ | ⟨_, q⟩⟩; exact ht q; exact k2 q)]
            clear ht k1 k2 q1 q2 q3 q4 hv
            go_enter Tryd.func42, Tryd.ntmps42
            go_wp2_with (first | (go_at_call 50; refine (HA.out _).mono ?_; clear HA; rintro e w2 ⟨rfl, rfl⟩) | (go_at_call 50; refine (HB.out _).mono ?_; clear HB; rintro e w3 ⟨rfl, rfl⟩))
            go_ret
            exact ⟨rfl, hb⟩
        · have e5 : decide (0 ≤ t) = false := by simp [k1]
          rw [plB_f (by rintro ⟨_, _, _, _, ⟨q, _⟩ | ⟨q, _⟩⟩; exact ht q; exact k1 q)]
          obtain ⟨E, hE⟩ : ∃ z, (t == f - d) = z := ⟨_, rfl⟩
          cases E
          all_goals
            clear ht k1 q1 q2 q3 q4 hv
            go_enter Tryd.func42, Tryd.ntmps42
            go_wp2_with (first | (go_at_call 50; refine (HA.out _).mono ?_; clear HA; rintro e w2 ⟨rfl, rfl⟩) | (go_at_call 50; refine (HB.out _).mono ?_; clear HB; rintro e w3 ⟨rfl, rfl⟩))
            go_ret
            exact ⟨rfl, hb⟩
    · have i2 : inB d 1 s = false := by rw [Bool.eq_false_iff]; intro q; simp [inB] at q; exact c2 q
      rw [i2] at hB
      have HA := Lib.hid hA
      have HB := Lib.hid hB
      clear hA hB i1 i2
      rw [plB_f (by omega)]
      clear hv c1 c2
      go_enter Tryd.func42, Tryd.ntmps42
      go_wp2_with (first | (go_at_call 50; refine (HA.out _).mono ?_; clear HA; rintro e w2 ⟨rfl, rfl⟩) | (go_at_call 50; refine (HB.out _).mono ?_; clear HB; rintro e w3 ⟨rfl, rfl⟩))
      go_ret
      exact ⟨rfl, hb⟩
  · have i1 : inB f 0 p = false := by rw [Bool.eq_false_iff]; intro q; simp [inB] at q; exact c1 q
    rw [i1] at hA
    have HA := Lib.hid hA
    clear hA hB i1
    rw [plB_f (by omega)]
    clear hv c1
    go_enter Tryd.func42, Tryd.ntmps42
    go_wp2_with (first | (go_at_call 50; refine (HA.out _).mono ?_; clear HA; rintro e w2 ⟨rfl, rfl⟩))
    go_ret
    exact ⟨rfl, hb⟩
set_option maxRecDepth 8000 in
set_option maxHeartbeats 2000000 in
theorem isPlain_any (p c h s f t d : Int) (hh : Bool) (w : World) (g : vB p c h s = true) :
    Calls Tryd.prog 39 #[.agg #[.int .i64 p, .int .i64 c, .int .i64 h, .int .i64 s], .agg #[.int .i64 f, .int .i64 t, .int .i64 d, .bool hh]] w fun e w' => e = .returned (.bool (plB p s f t d hh)) ∧ Below w.heap.size w w' := by
  have hv := vB_iff.1 g
  clear g
  obtain ⟨BV, BS, hb, hz⟩ := two_new w #[.int .i64 p, .int .i64 c, .int .i64 h, .int .i64 s] #[.int .i64 f, .int .i64 t, .int .i64 d, .bool hh] 29 38
  clear hz
  obtain ⟨x0, x1, x2, x3, xf, xl⟩ := BV.four
  obtain ⟨z0, z1, z2, z3, zf, zl⟩ := BS.four
  have hA := fun W => hasDie_any p c h s d W
  by_cases c2 : 1 ≤ d ∧ d ≤ s
  · have i1 : inB d 1 s = true := by simp [inB, c2]
    rw [i1] at hA
    have HA := Lib.hid hA
    clear hA i1
    obtain ⟨q3, q4⟩ := c2
    by_cases q1 : 0 ≤ f
    · have e1 : decide (f < 0) = false := by simp; omega
      by_cases q2 : f ≤ p
      · have e2 : decide (p < f) = false := by simp; omega
        by_cases ht : t = -1
        · subst ht
          cases hh with
          | true =>
            rw [plB_f (by rintro ⟨_, _, _, _, ⟨_, q, _⟩ | ⟨q, _⟩⟩; exact absurd q (by decide); omega)]
            go_enter Tryd.func39, Tryd.ntmps39
            go_wp2_with (first | (go_at_call 59; refine (HA.out _).mono ?_; clear HA; rintro e w2 ⟨rfl, hb2⟩; obtain ⟨x0, x1, x2, x3, xf, xl⟩ := (BV.below hb2).four; obtain ⟨z0, z1, z2, z3, zf, zl⟩ := (BS.below hb2).four))
            go_ret
            exact ⟨rfl, chain hb hb2⟩
          | false =>
            by_cases k1 : f < p
            · have e5 : decide (f < p) = true := by simp [k1]
              by_cases k2 : f < d
              · have e6 : decide (f < d) = true := by simp [k2]
                rw [plB_t ⟨by omega, by omega, by omega, by omega, .inl ⟨rfl, rfl, k1, k2⟩⟩]
                clear k1 k2
                go_enter Tryd.func39, Tryd.ntmps39
                go_wp2_with (first | (go_at_call 59; refine (HA.out _).mono ?_; clear HA; rintro e w2 ⟨rfl, hb2⟩; obtain ⟨x0, x1, x2, x3, xf, xl⟩ := (BV.below hb2).four; obtain ⟨z0, z1, z2, z3, zf, zl⟩ := (BS.below hb2).four))
                go_ret
                exact ⟨rfl, chain hb hb2⟩
              · have e6 : decide (f < d) = false := by simp [k2]
                rw [plB_f (by rintro ⟨_, _, _, _, ⟨_, _, _, q⟩ | ⟨q, _⟩⟩; omega; omega)]
                clear k1 k2
                go_enter Tryd.func39, Tryd.ntmps39
                go_wp2_with (first | (go_at_call 59; refine (HA.out _).mono ?_; clear HA; rintro e w2 ⟨rfl, hb2⟩; obtain ⟨x0, x1, x2, x3, xf, xl⟩ := (BV.below hb2).four; obtain ⟨z0, z1, z2, z3, zf, zl⟩ := (BS.below hb2).four))
                go_ret
                exact ⟨rfl, chain hb hb2⟩
            · have e5 : decide (f < p) = false := by simp [k1]
              rw [plB_f (by rintro ⟨_, _, _, _, ⟨_, _, q, _⟩ | ⟨q, _⟩⟩; omega; omega)]
              clear k1
              go_enter Tryd.func39, Tryd.ntmps39
              go_wp2_with (first | (go_at_call 59; refine (HA.out _).mono ?_; clear HA; rintro e w2 ⟨rfl, hb2⟩; obtain ⟨x0, x1, x2, x3, xf, xl⟩ := (BV.below hb2).four; obtain ⟨z0, z1, z2, z3, zf, zl⟩ := (BS.below hb2).four))
              go_ret
              exact ⟨rfl, chain hb hb2⟩
        · have e4 : (t == -1) = false := by simpa using ht
          have wz : IntKind.i64.wrap (f - d) = f - d := IntWalk.i64_in _ (by omega)
          by_cases k1 : 0 ≤ t
          · have e5 : decide (0 ≤ t) = true := by simp [k1]
            by_cases k2 : t = f - d
            · have e6 : (t == f - d) = true := by simp [k2]
              rw [plB_t ⟨by omega, by omega, by omega, by omega, .inr ⟨k1, k2⟩⟩]
              clear ht k1 k2 q1 q2 q3 q4 hv
              go_enter Tryd.func39, Tryd.ntmps39
              go_wp2_with (first | (go_at_call 59; refine (HA.out _).mono ?_; clear HA; rintro e w2 ⟨rfl, hb2⟩; obtain ⟨x0, x1, x2, x3, xf, xl⟩ := (BV.below hb2).four; obtain ⟨z0, z1, z2, z3, zf, zl⟩ := (BS.below hb2).four))
              go_ret
              exact ⟨rfl, chain hb hb2⟩
            · have e6 : (t == f - d) = false := by simpa using k2
              rw [plB_f (by rintro ⟨_, _, _, _, ⟨q, _⟩ | ⟨_, q⟩⟩; exact ht q; exact k2 q)]
              clear ht k1 k2 q1 q2 q3 q4 hv
              go_enter Tryd.func39, Tryd.ntmps39
              go_wp2_with (first | (go_at_call 59; refine (HA.out _).mono ?_; clear HA; rintro e w2 ⟨rfl, hb2⟩; obtain ⟨x0, x1, x2, x3, xf, xl⟩ := (BV.below hb2).four; obtain ⟨z0, z1, z2, z3, zf, zl⟩ := (BS.below hb2).four))
              go_ret
              exact ⟨rfl, chain hb hb2⟩
          · have e5 : decide (0 ≤ t) = false := by simp [k1]
            rw [plB_f (by rintro ⟨_, _, _, _, ⟨q, _⟩ | ⟨q, _⟩⟩; exact ht q; exact k1 q)]
            obtain ⟨E, hE⟩ : ∃ z, (t == f - d) = z := ⟨_, rfl⟩
            cases E
            all_goals
              clear ht k1 q1 q2 q3 q4 hv
              go_enter Tryd.func39, Tryd.ntmps39
              go_wp2_with (first | (go_at_call 59; refine (HA.out _).mono ?_; clear HA; rintro e w2 ⟨rfl, hb2⟩; obtain ⟨x0, x1, x2, x3, xf, xl⟩ := (BV.below hb2).four; obtain ⟨z0, z1, z2, z3, zf, zl⟩ := (BS.below hb2).four))
              go_ret
              exact ⟨rfl, chain hb hb2⟩
      · have e2 : decide (p < f) = true := by simp; omega
        rw [plB_f (by omega)]
        clear hv q1 q2 q3 q4
        go_enter Tryd.func39, Tryd.ntmps39
        go_wp2_with (first | (go_at_call 59; refine (HA.out _).mono ?_; clear HA; rintro e w2 ⟨rfl, hb2⟩; obtain ⟨x0, x1, x2, x3, xf, xl⟩ := (BV.below hb2).four; obtain ⟨z0, z1, z2, z3, zf, zl⟩ := (BS.below hb2).four))
        go_ret
        exact ⟨rfl, chain hb hb2⟩
    · have e1 : decide (f < 0) = true := by simp; omega
      rw [plB_f (by omega)]
      clear hv q1 q3 q4
      go_enter Tryd.func39, Tryd.ntmps39
      go_wp2_with (first | (go_at_call 59; refine (HA.out _).mono ?_; clear HA; rintro e w2 ⟨rfl, hb2⟩; obtain ⟨x0, x1, x2, x3, xf, xl⟩ := (BV.below hb2).four; obtain ⟨z0, z1, z2, z3, zf, zl⟩ := (BS.below hb2).four))
      go_ret
      exact ⟨rfl, chain hb hb2⟩
  · have i1 : inB d 1 s = false := by rw [Bool.eq_false_iff]; intro q; simp [inB] at q; exact c2 q
    rw [i1] at hA
    have HA := Lib.hid hA
    clear hA i1
    rw [plB_f (by omega)]
    clear hv c2
    go_enter Tryd.func39, Tryd.ntmps39
    go_wp2_with (first | (go_at_call 59; refine (HA.out _).mono ?_; clear HA; rintro e w2 ⟨rfl, hb2⟩; obtain ⟨x0, x1, x2, x3, xf, xl⟩ := (BV.below hb2).four; obtain ⟨z0, z1, z2, z3, zf, zl⟩ := (BS.below hb2).four))
    go_ret
    exact ⟨rfl, chain hb hb2⟩
end Go.Proofs.YthfhiggageejbaaDoor
