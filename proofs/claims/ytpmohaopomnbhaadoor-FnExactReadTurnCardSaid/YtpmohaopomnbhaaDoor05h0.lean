/- Contracts on the rolls of a variant, of the program and of its model. -/
import Derived.Test.YtpmohaopomnbhaaDoor04a0
import Derived.Test.YtpmohaopomnbhaaDoorL01a
import Derived.Test.YtpmohaopomnbhaaDoorBoardLaws
namespace Go.Proofs.YtpmohaopomnbhaaDoor
open Go.ChangeShapes Go.WideShapes Go.ChangeAt Go.RowKit
set_option linter.unusedVariables false
set_option linter.unusedSimpArgs false

/-- A roll of a variant: its greater die first. -/
def rlB (s ra rb : Int) : Bool := inB ra 1 s && (inB rb 1 s && decide (rb ≤ ra))
theorem rlB_in (s ra rb : Int) : rlB s ra rb = (inB ra 1 s && inB rb 1 ra) := by
  unfold rlB inB
  rw [Bool.eq_iff_iff]
  simp only [Bool.and_eq_true, decide_eq_true_eq]
  omega
set_option maxRecDepth 8000 in
set_option maxHeartbeats 1000000 in
theorem hasRoll_any (p c h s ra rb : Int) (w : World) :
    Calls Tryd.prog 57 #[.agg #[.int .i64 p, .int .i64 c, .int .i64 h, .int .i64 s], .agg #[.int .i64 ra, .int .i64 rb]] w fun e w' => e = .returned (.bool (rlB s ra rb)) ∧ Below w.heap.size w w' := by
  obtain ⟨BV, BR, hb, hz⟩ := two_new w #[.int .i64 p, .int .i64 c, .int .i64 h, .int .i64 s] #[.int .i64 ra, .int .i64 rb] 25 56
  clear hz
  obtain ⟨x0, x1, x2, x3, xf, xl⟩ := BV.four
  obtain ⟨z0, z1, zf, zl⟩ := BR.two
  have hA := fun W => hasDie_any p c h s ra W
  have hB := fun W => hasDie_any p c h s rb W
  unfold rlB
  obtain ⟨A, hAe⟩ : ∃ z, inB ra 1 s = z := ⟨_, rfl⟩
  obtain ⟨B, hBe⟩ : ∃ z, inB rb 1 s = z := ⟨_, rfl⟩
  rw [hAe] at hA
  rw [hBe] at hB
  rw [hAe, hBe]
  clear hAe hBe
  have HA := Lib.hid hA
  have HB := Lib.hid hB
  clear hA hB
  cases A with
  | false =>
    rw [Bool.false_and]
    go_enter Tryd.func57, Tryd.ntmps57
    go_wp2_with (first | (go_at_call 64; refine (HA.out _).mono ?_; clear HA; rintro e w2 ⟨rfl, hb2⟩; obtain ⟨x0, x1, x2, x3, xf, xl⟩ := (BV.below hb2).four; obtain ⟨z0, z1, zf, zl⟩ := (BR.below hb2).two))
    go_ret
    exact ⟨rfl, chain hb hb2⟩
  | true =>
    rw [Bool.true_and]
    cases B with
    | false =>
      rw [Bool.false_and]
      go_enter Tryd.func57, Tryd.ntmps57
      go_wp2_with (first | (go_at_call 64; refine (HA.out _).mono ?_; clear HA; rintro e w2 ⟨rfl, hb2⟩; obtain ⟨x0, x1, x2, x3, xf, xl⟩ := (BV.below hb2).four; obtain ⟨z0, z1, zf, zl⟩ := (BR.below hb2).two) | (go_at_call 64; refine (HB.out _).mono ?_; clear HB; rintro e w3 ⟨rfl, hb3⟩; obtain ⟨x0, x1, x2, x3, xf, xl⟩ := (BV.below (chain hb2 hb3)).four; obtain ⟨z0, z1, zf, zl⟩ := (BR.below (chain hb2 hb3)).two))
      go_ret
      exact ⟨rfl, chain (chain hb hb2) hb3⟩
    | true =>
      rw [Bool.true_and]
      go_enter Tryd.func57, Tryd.ntmps57
      go_wp2_with (first | (go_at_call 64; refine (HA.out _).mono ?_; clear HA; rintro e w2 ⟨rfl, hb2⟩; obtain ⟨x0, x1, x2, x3, xf, xl⟩ := (BV.below hb2).four; obtain ⟨z0, z1, zf, zl⟩ := (BR.below hb2).two) | (go_at_call 64; refine (HB.out _).mono ?_; clear HB; rintro e w3 ⟨rfl, hb3⟩; obtain ⟨x0, x1, x2, x3, xf, xl⟩ := (BV.below (chain hb2 hb3)).four; obtain ⟨z0, z1, zf, zl⟩ := (BR.below (chain hb2 hb3)).two))
      go_ret
      exact ⟨rfl, chain (chain hb hb2) hb3⟩
set_option maxRecDepth 8000 in
set_option maxHeartbeats 1000000 in
theorem isRoll_any (p c h s ra rb : Int) (w : World) (g : vB p c h s = true) :
    Calls Tryd.prog 55 #[.agg #[.int .i64 p, .int .i64 c, .int .i64 h, .int .i64 s], .agg #[.int .i64 ra, .int .i64 rb]] w fun e w' => e = .returned (.bool (rlB s ra rb)) ∧ Below w.heap.size w w' := by
  obtain ⟨BV, BR, hb, hz⟩ := two_new w #[.int .i64 p, .int .i64 c, .int .i64 h, .int .i64 s] #[.int .i64 ra, .int .i64 rb] 25 56
  clear hz
  obtain ⟨x0, x1, x2, x3, xf, xl⟩ := BV.four
  obtain ⟨z0, z1, zf, zl⟩ := BR.two
  have hV := fun W => specIsVariant_any p c h s W
  rw [g] at hV
  have hA := fun W => l01In_any ra 1 s W
  have hB := fun W => l01In_any rb 1 ra W
  rw [rlB_in]
  obtain ⟨A, hAe⟩ : ∃ z, inB ra 1 s = z := ⟨_, rfl⟩
  obtain ⟨B, hBe⟩ : ∃ z, inB rb 1 ra = z := ⟨_, rfl⟩
  rw [hAe] at hA
  rw [hBe] at hB
  rw [hAe, hBe]
  clear hAe hBe g
  have HV := Lib.hid hV
  have HA := Lib.hid hA
  have HB := Lib.hid hB
  clear hA hB hV
  cases A with
  | false =>
    rw [Bool.false_and]
    go_enter Tryd.func55, Tryd.ntmps55
    go_wp2_with (first | (go_at_call 46; refine (HV.out _).mono ?_; rintro e w1 ⟨rfl, hb1⟩; obtain ⟨x0, x1, x2, x3, xf, xl⟩ := (BV.below hb1).four; obtain ⟨z0, z1, zf, zl⟩ := (BR.below hb1).two) | (go_at_call 68; refine (HA.out _).mono ?_; clear HA; rintro e w2 ⟨rfl, rfl⟩))
    go_ret
    exact ⟨rfl, chain hb hb1⟩
  | true =>
    rw [Bool.true_and]
    go_enter Tryd.func55, Tryd.ntmps55
    go_wp2_with (first | (go_at_call 46; refine (HV.out _).mono ?_; rintro e w1 ⟨rfl, hb1⟩; obtain ⟨x0, x1, x2, x3, xf, xl⟩ := (BV.below hb1).four; obtain ⟨z0, z1, zf, zl⟩ := (BR.below hb1).two) | (go_at_call 68; refine (HA.out _).mono ?_; clear HA; rintro e w2 ⟨rfl, rfl⟩) | (go_at_call 68; refine (HB.out _).mono ?_; clear HB; rintro e w3 ⟨rfl, rfl⟩))
    go_ret
    exact ⟨rfl, chain hb hb1⟩
end Go.Proofs.YtpmohaopomnbhaaDoor
