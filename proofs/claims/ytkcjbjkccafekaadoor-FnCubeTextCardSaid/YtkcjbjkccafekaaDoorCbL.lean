/- The law's own helpers on cubes and their rules: handed over, compared. -/
import Derived.Test.YtkcjbjkccafekaaDoorSrcLaws
import Derived.Test.YtkcjbjkccafekaaDoorBoardLaws
import Derived.BigQuiet
namespace Go.Proofs.YtkcjbjkccafekaaDoor
open Go.ChangeShapes Go.WideShapes Go.ChangeAt Go.RowKit
set_option linter.unusedVariables false
set_option linter.unusedSimpArgs false
set_option maxRecDepth 4000

theorem toCube_any (v o : Int) (w : World) :
    Calls Tryd.prog 12 #[.agg #[.int .i64 v, .int .i64 o]] w fun e w' => e = .returned (.agg #[.int .i64 v, .int .i64 o]) ∧ Below w.heap.size w w' := by
  go_enter Tryd.func12, Tryd.ntmps12
  go_wp2
  refine bodyPost_ret (v := .agg #[.int .i64 v, .int .i64 o]) (by simp [results, Tryd.results12, go_sem]) rfl ⟨rfl, ?_⟩
  exact (((Below.refl _ _).alloc (Nat.le_refl _) _).alloc (by simp) _).alloc (by simp; omega) _
theorem eqCube_same (v o : Int) (w : World) :
    Calls Tryd.prog 14 #[.agg #[.int .i64 v, .int .i64 o], .agg #[.int .i64 v, .int .i64 o]] w fun e w' => e = .returned (.bool true) ∧ Below w.heap.size w w' := by
  have hb : Below w.heap.size w ((w.alloc (.cells #[.int .i64 v, .int .i64 o] 25)).alloc (.cells #[.int .i64 v, .int .i64 o] 25)) := ((Below.refl _ _).alloc (Nat.le_refl _) _).alloc (by simp) _
  go_enter Tryd.func14, Tryd.ntmps14
  go_wp2
  go_ret
  exact ⟨rfl, hb⟩
end Go.Proofs.YtkcjbjkccafekaaDoor
