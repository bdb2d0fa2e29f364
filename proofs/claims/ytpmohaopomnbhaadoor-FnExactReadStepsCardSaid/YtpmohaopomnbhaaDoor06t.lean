/- Contracts of ReadSteps, of the program and of its model. -/
import Derived.Test.YtpmohaopomnbhaaDoor06q
import Derived.Test.YtpmohaopomnbhaaDoor06s
import Derived.Test.YtpmohaopomnbhaaDoor06p
namespace Go.Proofs.YtpmohaopomnbhaaDoor
open Go.ChangeShapes Go.WideShapes Go.ChangeAt Go.RowKit
set_option linter.unusedVariables false
set_option linter.unusedSimpArgs false

set_option maxRecDepth 8000 in
set_option maxHeartbeats 2000000 in
theorem readStepsP_any (p c h s : Int) (t : ByteArray) (w : World) (ht : t.size ≤ 1048576) (hM : IntCell w 0) (hE : ErrCell w 2) :
    Calls Tryd.prog 28 #[.agg #[.int .i64 p, .int .i64 c, .int .i64 h, .int .i64 s], .string t] w (StepsGotB (if vB p c h s = true then rds p s t.data.toList else none) w) := by
  have BV := Blk.new w #[.int .i64 p, .int .i64 c, .int .i64 h, .int .i64 s] 25
  have hb : Below w.heap.size w (w.alloc (.cells #[.int .i64 p, .int .i64 c, .int .i64 h, .int .i64 s] 25)) := (Below.refl _ _).alloc (Nat.le_refl _) _
  obtain ⟨x0, x1, x2, x3, xf, xl⟩ := BV.four
  have hv := fun W => valid_any p c h s W
  by_cases g : vB p c h s = true
  · rw [if_pos g]
    rw [g] at hv
    have HV := Lib.hid hv
    have hr := fun W (q1 : IntCell W 0) (q2 : ErrCell W 2) => readSteps_any p c h s t W g ht q1 q2
    clear hv g
    generalize rds p s t.data.toList = R at *
    have HR := Lib.hid hr
    clear hr
    go_enter Tryd.func28, Tryd.ntmps28
    go_wp2_with (first | (go_at_call 42; refine (HV.out _).mono ?_; clear HV; rintro e w1 ⟨rfl, hb1⟩; obtain ⟨x0, x1, x2, x3, xf, xl⟩ := (BV.below hb1).four) | (go_at_call 54; refine (HR.out _ ((hM.below hb).below hb1) ((hE.below hb).below hb1)).mono ?_; clear HR; rintro e w2 ⟨a, k, rfl, ho, hb2⟩))
    go_ret2
    exact ⟨a, k, rfl, ho.mono (chain hb hb1).size (Nat.le_refl _), chain (chain hb hb1) hb2⟩
  · rw [if_neg g]
    replace g : vB p c h s = false := by simpa using g
    rw [g] at hv
    have HV := Lib.hid hv
    clear hv g
    go_enter Tryd.func28, Tryd.ntmps28
    go_wp2_with (first | (go_at_call 42; refine (HV.out _).mono ?_; clear HV; rintro e w1 ⟨rfl, hb1⟩; obtain ⟨x0, x1, x2, x3, xf, xl⟩ := (BV.below hb1).four))
    go_ret2
    exact ⟨none, 0, rfl, .inl ⟨rfl, rfl⟩, chain hb hb1⟩
set_option maxRecDepth 8000 in
set_option maxHeartbeats 2000000 in
theorem specReadStepsP_any (p c h s : Int) (t : ByteArray) (w : World) (ht : t.size ≤ 1048576) :
    Calls Tryd.prog 27 #[.agg #[.int .i64 p, .int .i64 c, .int .i64 h, .int .i64 s], .string t] w (StepsGotB (if vB p c h s = true then rds p s t.data.toList else none) w) := by
  have BV := Blk.new w #[.int .i64 p, .int .i64 c, .int .i64 h, .int .i64 s] 25
  have hb : Below w.heap.size w (w.alloc (.cells #[.int .i64 p, .int .i64 c, .int .i64 h, .int .i64 s] 25)) := (Below.refl _ _).alloc (Nat.le_refl _) _
  obtain ⟨x0, x1, x2, x3, xf, xl⟩ := BV.four
  have hv := fun W => specIsVariant_any p c h s W
  by_cases g : vB p c h s = true
  · rw [if_pos g]
    rw [g] at hv
    have HV := Lib.hid hv
    have hr := fun W => specSteps_any p c h s t W g ht
    clear hv g
    generalize rds p s t.data.toList = R at *
    have HR := Lib.hid hr
    clear hr
    go_enter Tryd.func27, Tryd.ntmps27
    go_wp2_with (first | (go_at_call 46; refine (HV.out _).mono ?_; clear HV; rintro e w1 ⟨rfl, hb1⟩; obtain ⟨x0, x1, x2, x3, xf, xl⟩ := (BV.below hb1).four) | (go_at_call 53; refine (HR.out _).mono ?_; clear HR; rintro e w2 ⟨a, k, rfl, ho, hb2⟩))
    go_ret2
    exact ⟨a, k, rfl, ho.mono (chain hb hb1).size (Nat.le_refl _), chain (chain hb hb1) hb2⟩
  · rw [if_neg g]
    replace g : vB p c h s = false := by simpa using g
    rw [g] at hv
    have HV := Lib.hid hv
    clear hv g
    go_enter Tryd.func27, Tryd.ntmps27
    go_wp2_with (first | (go_at_call 46; refine (HV.out _).mono ?_; clear HV; rintro e w1 ⟨rfl, hb1⟩; obtain ⟨x0, x1, x2, x3, xf, xl⟩ := (BV.below hb1).four))
    go_ret2
    exact ⟨some ⟨w1.heap.size, 0, none⟩, 0, rfl, .inr ⟨w1.heap.size, rfl, (chain hb hb1).size, by simp, #[], Blk.new w1 #[] 27, by simp [stepsC], rfl⟩, (chain hb hb1).alloc (chain hb hb1).size _⟩
end Go.Proofs.YtpmohaopomnbhaaDoor
