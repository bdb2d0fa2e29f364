/- Contracts of the functions of chapter 1 on validity and numbers of rolls, of the program and of its model. -/
import Derived.Test.YtdciiocmddlhfaaBase
namespace Go.Proofs.Ytdciiocmddlhfaa
open Go.ChangeShapes Go.WideShapes Go.ChangeAt Go.RowKit
set_option linter.unusedVariables false
set_option linter.unusedSimpArgs false

def vB (p c h s : Int) : Bool := decide (2 ≤ p ∧ p ≤ 24 ∧ 1 ≤ c ∧ c ≤ 15 ∧ 1 ≤ h ∧ h ≤ p ∧ 1 ≤ s ∧ s ≤ 6)
def smB (p c h s : Int) : Bool := vB p c h s && decide (p ≤ 6 ∧ c ≤ 3 ∧ s ≤ 3)
def apB (p c h s : Int) : Bool := vB p c h s && decide (2 * h ≤ p)
def inB (n lo hi : Int) : Bool := decide (lo ≤ n ∧ n ≤ hi)
theorem vB_iff {p c h s : Int} : vB p c h s = true ↔ (2 ≤ p ∧ p ≤ 24 ∧ 1 ≤ c ∧ c ≤ 15 ∧ 1 ≤ h ∧ h ≤ p ∧ 1 ≤ s ∧ s ≤ 6) := by simp [vB]
theorem l01In_any (n lo hi : Int) (w : World) :
    Calls Try.prog 24 #[.int .i64 n, .int .i64 lo, .int .i64 hi] w fun e w' => e = .returned (.bool (inB n lo hi)) ∧ w = w' := by
  by_cases g0 : lo ≤ n
  rotate_left
  · go_enter Try.func24, Try.ntmps24
    go_wp2
    go_ret
    exact ⟨by simp [inB, *] <;> omega, rfl⟩
  by_cases g1 : n ≤ hi
  rotate_left
  · go_enter Try.func24, Try.ntmps24
    go_wp2
    go_ret
    exact ⟨by simp [inB, *] <;> omega, rfl⟩
  go_enter Try.func24, Try.ntmps24
  go_wp2
  go_ret
  exact ⟨by simp [inB, *] <;> omega, rfl⟩
theorem valid_any (p c h s : Int) (w : World) :
    Calls Try.prog 28 #[.agg #[.int .i64 p, .int .i64 c, .int .i64 h, .int .i64 s]] w fun e w' => e = .returned (.bool (vB p c h s)) ∧ Below w.heap.size w w' := by
  by_cases g0 : 2 ≤ p
  rotate_left
  · go_enter Try.func28, Try.ntmps28
    go_wp2
    go_ret
    exact ⟨by simp [vB] <;> omega, by first | exact (Below.refl _ _).alloc (Nat.le_refl _) _ | exact from_alloc hb1 | exact hb1⟩
  by_cases g1 : p ≤ 24
  rotate_left
  · go_enter Try.func28, Try.ntmps28
    go_wp2
    go_ret
    exact ⟨by simp [vB] <;> omega, by first | exact (Below.refl _ _).alloc (Nat.le_refl _) _ | exact from_alloc hb1 | exact hb1⟩
  by_cases g2 : 1 ≤ c
  rotate_left
  · go_enter Try.func28, Try.ntmps28
    go_wp2
    go_ret
    exact ⟨by simp [vB] <;> omega, by first | exact (Below.refl _ _).alloc (Nat.le_refl _) _ | exact from_alloc hb1 | exact hb1⟩
  by_cases g3 : c ≤ 15
  rotate_left
  · go_enter Try.func28, Try.ntmps28
    go_wp2
    go_ret
    exact ⟨by simp [vB] <;> omega, by first | exact (Below.refl _ _).alloc (Nat.le_refl _) _ | exact from_alloc hb1 | exact hb1⟩
  by_cases g4 : 1 ≤ h
  rotate_left
  · go_enter Try.func28, Try.ntmps28
    go_wp2
    go_ret
    exact ⟨by simp [vB] <;> omega, by first | exact (Below.refl _ _).alloc (Nat.le_refl _) _ | exact from_alloc hb1 | exact hb1⟩
  by_cases g5 : h ≤ p
  rotate_left
  · go_enter Try.func28, Try.ntmps28
    go_wp2
    go_ret
    exact ⟨by simp [vB] <;> omega, by first | exact (Below.refl _ _).alloc (Nat.le_refl _) _ | exact from_alloc hb1 | exact hb1⟩
  by_cases g6 : 1 ≤ s
  rotate_left
  · go_enter Try.func28, Try.ntmps28
    go_wp2
    go_ret
    exact ⟨by simp [vB] <;> omega, by first | exact (Below.refl _ _).alloc (Nat.le_refl _) _ | exact from_alloc hb1 | exact hb1⟩
  by_cases g7 : s ≤ 6
  rotate_left
  · go_enter Try.func28, Try.ntmps28
    go_wp2
    go_ret
    exact ⟨by simp [vB] <;> omega, by first | exact (Below.refl _ _).alloc (Nat.le_refl _) _ | exact from_alloc hb1 | exact hb1⟩
  go_enter Try.func28, Try.ntmps28
  go_wp2
  go_ret
  exact ⟨by simp [vB] <;> omega, by first | exact (Below.refl _ _).alloc (Nat.le_refl _) _ | exact from_alloc hb1 | exact hb1⟩
theorem specIsVariant_any (p c h s : Int) (w : World) :
    Calls Try.prog 13 #[.agg #[.int .i64 p, .int .i64 c, .int .i64 h, .int .i64 s]] w fun e w' => e = .returned (.bool (vB p c h s)) ∧ Below w.heap.size w w' := by
  by_cases g0 : 2 ≤ p
  rotate_left
  · go_enter Try.func13, Try.ntmps13
    go_wp2
    go_ret
    exact ⟨by simp [vB] <;> omega, by first | exact (Below.refl _ _).alloc (Nat.le_refl _) _ | exact from_alloc hb1 | exact hb1⟩
  by_cases g1 : p ≤ 24
  rotate_left
  · go_enter Try.func13, Try.ntmps13
    go_wp2
    go_ret
    exact ⟨by simp [vB] <;> omega, by first | exact (Below.refl _ _).alloc (Nat.le_refl _) _ | exact from_alloc hb1 | exact hb1⟩
  by_cases g2 : 1 ≤ c
  rotate_left
  · go_enter Try.func13, Try.ntmps13
    go_wp2
    go_ret
    exact ⟨by simp [vB] <;> omega, by first | exact (Below.refl _ _).alloc (Nat.le_refl _) _ | exact from_alloc hb1 | exact hb1⟩
  by_cases g3 : c ≤ 15
  rotate_left
  · go_enter Try.func13, Try.ntmps13
    go_wp2
    go_ret
    exact ⟨by simp [vB] <;> omega, by first | exact (Below.refl _ _).alloc (Nat.le_refl _) _ | exact from_alloc hb1 | exact hb1⟩
  by_cases g4 : 1 ≤ h
  rotate_left
  · go_enter Try.func13, Try.ntmps13
    go_wp2
    go_ret
    exact ⟨by simp [vB] <;> omega, by first | exact (Below.refl _ _).alloc (Nat.le_refl _) _ | exact from_alloc hb1 | exact hb1⟩
  by_cases g5 : h ≤ p
  rotate_left
  · go_enter Try.func13, Try.ntmps13
    go_wp2
    go_ret
    exact ⟨by simp [vB] <;> omega, by first | exact (Below.refl _ _).alloc (Nat.le_refl _) _ | exact from_alloc hb1 | exact hb1⟩
  by_cases g6 : 1 ≤ s
  rotate_left
  · go_enter Try.func13, Try.ntmps13
    go_wp2
    go_ret
    exact ⟨by simp [vB] <;> omega, by first | exact (Below.refl _ _).alloc (Nat.le_refl _) _ | exact from_alloc hb1 | exact hb1⟩
  by_cases g7 : s ≤ 6
  rotate_left
  · go_enter Try.func13, Try.ntmps13
    go_wp2
    go_ret
    exact ⟨by simp [vB] <;> omega, by first | exact (Below.refl _ _).alloc (Nat.le_refl _) _ | exact from_alloc hb1 | exact hb1⟩
  go_enter Try.func13, Try.ntmps13
  go_wp2
  go_ret
  exact ⟨by simp [vB] <;> omega, by first | exact (Below.refl _ _).alloc (Nat.le_refl _) _ | exact from_alloc hb1 | exact hb1⟩
theorem toVariant_any (p c h s : Int) (w : World) :
    Calls Try.prog 5 #[.agg #[.int .i64 p, .int .i64 c, .int .i64 h, .int .i64 s]] w fun e w' => e = .returned (.agg #[.int .i64 p, .int .i64 c, .int .i64 h, .int .i64 s]) ∧ Below w.heap.size w w' := by
  go_enter Try.func5, Try.ntmps5
  go_wp2
  refine bodyPost_ret (v := .agg #[.int .i64 p, .int .i64 c, .int .i64 h, .int .i64 s]) (by simp [results, Try.results5, go_sem]) rfl ⟨rfl, ?_⟩
  exact (((Below.refl _ _).alloc (Nat.le_refl _) _).alloc (by simp) _).alloc (by simp <;> omega) _
end Go.Proofs.Ytdciiocmddlhfaa
