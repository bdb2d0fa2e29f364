/- Contracts of the program on the validity of cubes. -/
import Derived.Test.YtkcjbjkccafekaaDoorBase
import Derived.Test.YtkcjbjkccafekaaDoorM16
import Derived.Test.YtkcjbjkccafekaaDoorSrcLaws
import Derived.Test.YtkcjbjkccafekaaDoorBoardLaws
import Derived.Laws.BitsAllLaws
import Derived.IntWalk
import Derived.Deep.QuietTactic
namespace Go.Proofs.YtkcjbjkccafekaaDoor
open Go.ChangeShapes Go.WideShapes Go.ChangeAt Go.RowKit
set_option linter.unusedVariables false
set_option linter.unusedSimpArgs false
set_option maxRecDepth 4000

theorem Blk.t3 {w : World} {g : Nat} {v0 v1 v2 : Value} {t : TypeId} (h : Blk w g #[v0, v1, v2] t) :
    w.cell? ⟨g, 0, none⟩ = some v0 ∧ w.cell? ⟨g, 1, none⟩ = some v1 ∧ w.cell? ⟨g, 2, none⟩ = some v2 ∧ (∀ i, w.frozen? ⟨g, i, none⟩ = false) ∧ g < w.heap.size :=
  ⟨by simpa using h.cell 0, by simpa using h.cell 1, by simpa using h.cell 2, fun i => h.free i, h.lt⟩
theorem and_small : ∀ k : Fin 1024, (bits .and .i64 (((k : Nat) : Int) + 1) ((k : Nat) : Int) == 0) = pwB (((k : Nat) : Int) + 1) := by decide +kernel
theorem and_pw {n : Int} (h1 : 1 ≤ n) (h2 : n ≤ 1024) : (bits .and .i64 n (n - 1) == 0) = pwB n := by
  have := and_small ⟨(n - 1).toNat, by omega⟩
  simp only [show (((n - 1).toNat : Nat) : Int) = n - 1 by omega, show n - 1 + 1 = n by omega] at this
  exact this
theorem pwB_low {n : Int} (h : n < 1) : pwB n = false := by
  cases g : pwB n with
  | false => rfl
  | true => have := pwB_range g; omega
theorem pwB_high {n : Int} (h : 1024 < n) : pwB n = false := by
  cases g : pwB n with
  | false => rfl
  | true => have := pwB_range g; omega
theorem isCubeValue_any (n : Int) (w : World) :
    Calls Tryd.prog 24 #[.int .i64 n] w fun e w' => e = .returned (.bool (pwB n)) ∧ w = w' := by
  by_cases h1 : 1 ≤ n
  · by_cases h2 : n ≤ 1024
    · have hA := and_pw h1 h2
      obtain ⟨A, hAe⟩ : ∃ A, bits .and .i64 n (n - 1) = A := ⟨_, rfl⟩
      have hw : IntKind.i64.wrap (n - 1) = n - 1 := IntWalk.i64_in _ (by omega)
      rw [hAe] at hA
      cases g : pwB n with
      | false =>
        rw [g] at hA
        clear g
        go_enter Tryd.func24, Tryd.ntmps24
        go_wp2
        go_ret
        exact ⟨rfl, rfl⟩
      | true =>
        rw [g] at hA
        clear g
        go_enter Tryd.func24, Tryd.ntmps24
        go_wp2
        go_ret
        exact ⟨rfl, rfl⟩
    · rw [pwB_high (by omega)]
      go_enter Tryd.func24, Tryd.ntmps24
      go_wp2
      go_ret
      exact ⟨rfl, rfl⟩
  · rw [pwB_low (by omega)]
    go_enter Tryd.func24, Tryd.ntmps24
    go_wp2
    go_ret
    exact ⟨rfl, rfl⟩
theorem valid16_any (m : Int) (be ja : Bool) (w : World) :
    Calls Tryd.prog 23 #[.agg #[.int .i64 m, .bool be, .bool ja]] w fun e w' => e = .returned (.bool (pwB m)) ∧ Below w.heap.size w w' := by
  have hi := fun W => isCubeValue_any m W
  have hb : Below w.heap.size w (w.alloc (.cells #[.int .i64 m, .bool be, .bool ja] 37)) := (Below.refl _ _).alloc (Nat.le_refl _) _
  obtain ⟨x0, x1, x2, xf, xl⟩ := (Blk.new w #[.int .i64 m, .bool be, .bool ja] 37).t3
  obtain ⟨b, hbe⟩ : ∃ b, pwB m = b := ⟨_, rfl⟩
  rw [hbe] at hi ⊢
  have HI := Lib.hid hi
  clear hi hbe
  go_enter Tryd.func23, Tryd.ntmps23
  go_wp2_with (go_at_call 24; refine (HI.out _).mono ?_; rintro e w1 ⟨rfl, rfl⟩)
  go_ret
  exact ⟨rfl, hb⟩
theorem fitsOwner_any (v o : Int) (w : World) :
    Calls Tryd.prog 25 #[.agg #[.int .i64 v, .int .i64 o]] w fun e w' => e = .returned (.bool (fitB v o)) ∧ Below w.heap.size w w' := by
  have hb : Below w.heap.size w (w.alloc (.cells #[.int .i64 v, .int .i64 o] 25)) := (Below.refl _ _).alloc (Nat.le_refl _) _
  obtain ⟨x0, x1, xf, xl⟩ := (Blk.new w #[.int .i64 v, .int .i64 o] 25).two
  unfold fitB
  by_cases h1 : v = 1
  · subst h1
    rw [if_pos rfl]
    by_cases h2 : o = 0
    · subst h2
      go_enter Tryd.func25, Tryd.ntmps25
      go_wp2
      go_ret
      exact ⟨rfl, hb⟩
    · have f0 : (o == 0) = false := by rw [beq_eq_false_iff_ne]; exact h2
      rw [decide_eq_false h2]
      clear h2
      go_enter Tryd.func25, Tryd.ntmps25
      go_wp2
      go_ret
      exact ⟨rfl, hb⟩
  · have f1 : (v == 1) = false := by rw [beq_eq_false_iff_ne]; exact h1
    rw [if_neg h1]
    clear h1
    by_cases h2 : o = 1
    · subst h2
      go_enter Tryd.func25, Tryd.ntmps25
      go_wp2
      go_ret
      exact ⟨rfl, hb⟩
    · have f0 : (o == 1) = false := by rw [beq_eq_false_iff_ne]; exact h2
      rw [decide_eq_false h2, Bool.false_or]
      clear h2
      by_cases h3 : o = 2
      · subst h3
        go_enter Tryd.func25, Tryd.ntmps25
        go_wp2
        go_ret
        exact ⟨rfl, hb⟩
      · have f2 : (o == 2) = false := by rw [beq_eq_false_iff_ne]; exact h3
        rw [decide_eq_false h3]
        clear h3
        go_enter Tryd.func25, Tryd.ntmps25
        go_wp2
        go_ret
        exact ⟨rfl, hb⟩
theorem hasCube_any (m v o : Int) (be ja : Bool) (w : World) :
    Calls Tryd.prog 17 #[.agg #[.int .i64 m, .bool be, .bool ja], .agg #[.int .i64 v, .int .i64 o]] w fun e w' => e = .returned (.bool (cbB m v o)) ∧ Below w.heap.size w w' := by
  have hv := fun W => valid16_any m be ja W
  have hi := fun W => isCubeValue_any v W
  have hf := fun W => fitsOwner_any v o W
  unfold cbB upB
  obtain ⟨BR, BC, hb, hz⟩ := two_new w #[.int .i64 m, .bool be, .bool ja] #[.int .i64 v, .int .i64 o] 37 25
  clear hz
  obtain ⟨x0, x1, x2, xf, xl⟩ := BR.t3
  obtain ⟨u0, u1, uf, ul⟩ := BC.two
  obtain ⟨F, hF⟩ : ∃ F, fitB v o = F := ⟨_, rfl⟩
  rw [hF] at hf ⊢
  have HF := Lib.hid hf
  clear hf hF
  cases g1 : pwB m with
  | false =>
    rw [g1] at hv
    have HV := Lib.hid hv
    clear hv hi g1
    rw [Bool.false_and]
    go_enter Tryd.func17, Tryd.ntmps17
    go_wp2_with (first | (go_at_call 23; refine (HV.out _).mono ?_; rintro e w1 ⟨rfl, hb1⟩; obtain ⟨y0, y1, y2, yf, yl⟩ := (BR.below hb1).t3; obtain ⟨z0, z1, zf, zl⟩ := (BC.below hb1).two) | (go_at_call 24; refine (HI.out _).mono ?_; rintro e w2 ⟨rfl, rfl⟩) | (go_at_call 25; refine (HF.out _).mono ?_; rintro e w3 ⟨rfl, hb3⟩))
    go_ret
    exact ⟨rfl, chain hb hb1⟩
  | true =>
    rw [g1] at hv
    have HV := Lib.hid hv
    clear hv g1
    rw [Bool.true_and]
    cases g2 : pwB v with
    | false =>
      rw [g2] at hi
      have HI := Lib.hid hi
      clear hi g2
      rw [Bool.false_and, Bool.false_and]
      go_enter Tryd.func17, Tryd.ntmps17
      go_wp2_with (first | (go_at_call 23; refine (HV.out _).mono ?_; rintro e w1 ⟨rfl, hb1⟩; obtain ⟨y0, y1, y2, yf, yl⟩ := (BR.below hb1).t3; obtain ⟨z0, z1, zf, zl⟩ := (BC.below hb1).two) | (go_at_call 24; refine (HI.out _).mono ?_; rintro e w2 ⟨rfl, rfl⟩) | (go_at_call 25; refine (HF.out _).mono ?_; rintro e w3 ⟨rfl, hb3⟩))
      go_ret
      exact ⟨rfl, chain hb hb1⟩
    | true =>
      rw [g2] at hi
      have HI := Lib.hid hi
      clear hi g2
      rw [Bool.true_and]
      by_cases g3 : v ≤ m
      · rw [decide_eq_true g3, Bool.true_and]
        go_enter Tryd.func17, Tryd.ntmps17
        go_wp2_with (first | (go_at_call 23; refine (HV.out _).mono ?_; rintro e w1 ⟨rfl, hb1⟩; obtain ⟨y0, y1, y2, yf, yl⟩ := (BR.below hb1).t3; obtain ⟨z0, z1, zf, zl⟩ := (BC.below hb1).two) | (go_at_call 24; refine (HI.out _).mono ?_; rintro e w2 ⟨rfl, rfl⟩) | (go_at_call 25; refine (HF.out _).mono ?_; rintro e w3 ⟨rfl, hb3⟩))
        go_ret
        exact ⟨rfl, chain (chain hb hb1) hb3⟩
      · rw [decide_eq_false g3, Bool.false_and]
        go_enter Tryd.func17, Tryd.ntmps17
        go_wp2_with (first | (go_at_call 23; refine (HV.out _).mono ?_; rintro e w1 ⟨rfl, hb1⟩; obtain ⟨y0, y1, y2, yf, yl⟩ := (BR.below hb1).t3; obtain ⟨z0, z1, zf, zl⟩ := (BC.below hb1).two) | (go_at_call 24; refine (HI.out _).mono ?_; rintro e w2 ⟨rfl, rfl⟩) | (go_at_call 25; refine (HF.out _).mono ?_; rintro e w3 ⟨rfl, hb3⟩))
        go_ret
        exact ⟨rfl, chain hb hb1⟩
end Go.Proofs.YtkcjbjkccafekaaDoor
