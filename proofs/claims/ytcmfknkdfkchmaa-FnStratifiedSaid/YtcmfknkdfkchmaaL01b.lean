/- Contracts of the functions of chapter 1 that reckon with a variant (home points apart, numbers of rolls, the full game), of the program and of its model. -/
import Derived.Test.YtcmfknkdfkchmaaL01a
namespace Go.Proofs.Ytcmfknkdfkchmaa
open Go.ChangeShapes Go.WideShapes Go.ChangeAt Go.RowKit
set_option linter.unusedVariables false
set_option linter.unusedSimpArgs false

def rkI (p c h s : Int) : Int := if vB p c h s = true then s * (s + 1) / 2 else -1
def rtI (p c h s : Int) : Int := if vB p c h s = true then s * s else -1
theorem six {p c h s : Int} (g : vB p c h s = true) : s = 1 ∨ s = 2 ∨ s = 3 ∨ s = 4 ∨ s = 5 ∨ s = 6 := by
  have := vB_iff.1 g; omega
theorem ret_int {k : IntKind} {a b : Int} (h : a = b) : Ending.returned (.int k a) = .returned (.int k b) := by rw [h]
theorem rollKinds_any (p c h s : Int) (w : World) :
    Calls Try.prog 19 #[.agg #[.int .i64 p, .int .i64 c, .int .i64 h, .int .i64 s]] w fun e w' => e = .returned (.int .i64 (rkI p c h s)) ∧ Below w.heap.size w w' := by
  by_cases g : vB p c h s = true
  · rcases six g with rfl | rfl | rfl | rfl | rfl | rfl
    all_goals
      go_enter Try.func19, Try.ntmps19
      go_wp2_with (go_at_call 48; refine (valid_any _ _ _ _ _).mono ?_; rintro e w1 ⟨rfl, hb1⟩; obtain ⟨hc1, hf1⟩ := bcell hb1)
      go_ret
      exact ⟨ret_int (by simp [rkI, g]), by first | exact (Below.refl _ _).alloc (Nat.le_refl _) _ | exact from_alloc hb1 | exact hb1⟩
  · go_enter Try.func19, Try.ntmps19
    go_wp2_with (go_at_call 48; refine (valid_any _ _ _ _ _).mono ?_; rintro e w1 ⟨rfl, hb1⟩; obtain ⟨hc1, hf1⟩ := bcell hb1)
    go_ret
    exact ⟨ret_int (by simp [rkI, g]), by first | exact (Below.refl _ _).alloc (Nat.le_refl _) _ | exact from_alloc hb1 | exact hb1⟩
theorem rollTotal_any (p c h s : Int) (w : World) :
    Calls Try.prog 23 #[.agg #[.int .i64 p, .int .i64 c, .int .i64 h, .int .i64 s]] w fun e w' => e = .returned (.int .i64 (rtI p c h s)) ∧ Below w.heap.size w w' := by
  by_cases g : vB p c h s = true
  · rcases six g with rfl | rfl | rfl | rfl | rfl | rfl
    all_goals
      go_enter Try.func23, Try.ntmps23
      go_wp2_with (go_at_call 48; refine (valid_any _ _ _ _ _).mono ?_; rintro e w1 ⟨rfl, hb1⟩; obtain ⟨hc1, hf1⟩ := bcell hb1)
      go_ret
      exact ⟨ret_int (by simp [rtI, g]), by first | exact (Below.refl _ _).alloc (Nat.le_refl _) _ | exact from_alloc hb1 | exact hb1⟩
  · go_enter Try.func23, Try.ntmps23
    go_wp2_with (go_at_call 48; refine (valid_any _ _ _ _ _).mono ?_; rintro e w1 ⟨rfl, hb1⟩; obtain ⟨hc1, hf1⟩ := bcell hb1)
    go_ret
    exact ⟨ret_int (by simp [rtI, g]), by first | exact (Below.refl _ _).alloc (Nat.le_refl _) _ | exact from_alloc hb1 | exact hb1⟩
theorem specFull_any (w : World) :
    Calls Try.prog 76 #[] w fun e w' => e = .returned (.agg #[.int .i64 24, .int .i64 15, .int .i64 6, .int .i64 6]) ∧ Below w.heap.size w w' := by
  go_enter Try.func76, Try.ntmps76
  go_wp2
  refine bodyPost_ret (v := .agg #[.int .i64 24, .int .i64 15, .int .i64 6, .int .i64 6]) (by simp [results, Try.results76, go_sem]) rfl ⟨rfl, ?_⟩
  first | exact (Below.refl _ _).alloc (Nat.le_refl _) _ | exact ((Below.refl _ _).alloc (Nat.le_refl _) _).alloc (by simp <;> omega) _
end Go.Proofs.Ytcmfknkdfkchmaa
