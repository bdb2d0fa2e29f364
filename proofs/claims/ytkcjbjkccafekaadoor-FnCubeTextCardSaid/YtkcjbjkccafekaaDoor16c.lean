/- Contracts of the program on possible actions. -/
import Derived.Test.YtkcjbjkccafekaaDoor16b
namespace Go.Proofs.YtkcjbjkccafekaaDoor
open Go.ChangeShapes Go.WideShapes Go.ChangeAt Go.RowKit
set_option linter.unusedVariables false
set_option linter.unusedSimpArgs false
set_option maxRecDepth 4000

theorem posB_0 (m : Int) (be : Bool) (v o : Int) : posB m be v o 0 = true := by simp [posB]
theorem posB_1 (m : Int) (be : Bool) (v o : Int) : posB m be v o 1 = mayB m v o 1 := by simp [posB]
theorem posB_2 (m : Int) (be : Bool) (v o : Int) : posB m be v o 2 = mayB m v o 1 := by simp [posB]
theorem posB_3 (m : Int) (be : Bool) (v o : Int) : posB m be v o 3 = (be && mayB m v o 2) := by simp [posB, dbN]
theorem posB_4 (m : Int) (be : Bool) (v o : Int) : posB m be v o 4 = (be && mayB m v o 3) := by simp [posB, dbN]
theorem posB_else (m : Int) (be : Bool) (v o : Int) {a : Int} (h0 : a ≠ 0) (h1 : a ≠ 1) (h2 : a ≠ 2) (h3 : a ≠ 3) (h4 : a ≠ 4) : posB m be v o a = false := by simp [posB, *]
theorem field_cube (u0 u1 : Value) (w : World) : (Instr.field 25 (.agg #[u0, u1]) 0).run Tryd.prog w = .ok u0 w := by kernel_rfl
set_option maxRecDepth 8000 in
set_option maxHeartbeats 1000000 in
theorem swapCube_any (v o : Int) (w : World) :
    Calls Tryd.prog 11 #[.agg #[.int .i64 v, .int .i64 o]] w fun e w' => e = .returned (.agg #[.int .i64 v, .int .i64 (swO o)]) ∧ Below w.heap.size w w' := by
  obtain ⟨BC, BZ, hb, hz⟩ := two_new w #[.int .i64 v, .int .i64 o] #[.int .i64 0, .int .i64 0] 25 25
  clear hz
  obtain ⟨u0, u1, uf, ul⟩ := BC.two
  obtain ⟨y0, y1, yf, yl⟩ := BZ.two
  unfold swO
  by_cases h1 : o = 1
  · subst h1
    rw [if_pos rfl]
    go_enter Tryd.func11, Tryd.ntmps11
    go_wp2
    refine bodyPost_ret (v := .agg #[.int .i64 v, .int .i64 2]) (by simp [results, Tryd.results11, go_sem]) rfl ?_
    exact ⟨rfl, ((Below.refl _ _).alloc (Nat.le_refl _) _).alloc (by simp) _⟩
  · have f1 : (o == 1) = false := by rw [beq_eq_false_iff_ne]; exact h1
    rw [if_neg h1]
    clear h1
    by_cases h2 : o = 2
    · subst h2
      rw [if_pos rfl]
      go_enter Tryd.func11, Tryd.ntmps11
      go_wp2
      refine bodyPost_ret (v := .agg #[.int .i64 v, .int .i64 1]) (by simp [results, Tryd.results11, go_sem]) rfl ?_
      exact ⟨rfl, ((Below.refl _ _).alloc (Nat.le_refl _) _).alloc (by simp) _⟩
    · have f2 : (o == 2) = false := by rw [beq_eq_false_iff_ne]; exact h2
      rw [if_neg h2]
      clear h2
      go_enter Tryd.func11, Tryd.ntmps11
      go_wp2
      refine bodyPost_ret (v := .agg #[.int .i64 v, .int .i64 o]) (by simp [results, Tryd.results11, go_sem]) rfl ?_
      exact ⟨rfl, ((Below.refl _ _).alloc (Nat.le_refl _) _).alloc (by simp) _⟩
end Go.Proofs.YtkcjbjkccafekaaDoor
