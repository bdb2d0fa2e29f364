/- The law's own helpers on cubes and their rules: handed over, compared. -/
import Derived.Test.YtkcjbjkccafekaaSrcLaws
import Derived.Test.YtkcjbjkccafekaaBoardLaws
import Derived.BigQuiet
namespace Go.Proofs.Ytkcjbjkccafekaa
open Go.ChangeShapes Go.WideShapes Go.ChangeAt Go.RowKit
set_option linter.unusedVariables false
set_option linter.unusedSimpArgs false
set_option maxRecDepth 4000

theorem toCubeRules_any (m : Int) (be ja : Bool) (w : World) :
    Calls Try.prog 25 #[.agg #[.int .i64 m, .bool be, .bool ja]] w fun e w' => e = .returned (.agg #[.int .i64 m, .bool be, .bool ja]) ∧ Below w.heap.size w w' := by
  go_enter Try.func25, Try.ntmps25
  go_wp2
  refine bodyPost_ret (v := .agg #[.int .i64 m, .bool be, .bool ja]) (by simp [results, Try.results25, go_sem]) rfl ⟨rfl, ?_⟩
  exact (((Below.refl _ _).alloc (Nat.le_refl _) _).alloc (by simp) _).alloc (by simp; omega) _
theorem toCube_any (v o : Int) (w : World) :
    Calls Try.prog 27 #[.agg #[.int .i64 v, .int .i64 o]] w fun e w' => e = .returned (.agg #[.int .i64 v, .int .i64 o]) ∧ Below w.heap.size w w' := by
  go_enter Try.func27, Try.ntmps27
  go_wp2
  refine bodyPost_ret (v := .agg #[.int .i64 v, .int .i64 o]) (by simp [results, Try.results27, go_sem]) rfl ⟨rfl, ?_⟩
  exact (((Below.refl _ _).alloc (Nat.le_refl _) _).alloc (by simp) _).alloc (by simp; omega) _
theorem eqCube_same (v o : Int) (w : World) :
    Calls Try.prog 29 #[.agg #[.int .i64 v, .int .i64 o], .agg #[.int .i64 v, .int .i64 o]] w fun e w' => e = .returned (.bool true) ∧ Below w.heap.size w w' := by
  have hb : Below w.heap.size w ((w.alloc (.cells #[.int .i64 v, .int .i64 o] 27)).alloc (.cells #[.int .i64 v, .int .i64 o] 27)) := ((Below.refl _ _).alloc (Nat.le_refl _) _).alloc (by simp) _
  go_enter Try.func29, Try.ntmps29
  go_wp2
  go_ret
  exact ⟨rfl, hb⟩
end Go.Proofs.Ytkcjbjkccafekaa
