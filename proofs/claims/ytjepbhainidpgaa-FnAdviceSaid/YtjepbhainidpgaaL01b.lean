/- Contracts of the functions of chapter 1 that reckon with a variant (home points apart, numbers of rolls, the full game), of the program and of its model. -/
import Derived.Test.YtjepbhainidpgaaL01a
namespace Go.Proofs.Ytjepbhainidpgaa
open Go.ChangeShapes Go.WideShapes Go.ChangeAt Go.RowKit
set_option linter.unusedVariables false
set_option linter.unusedSimpArgs false

def rkI (p c h s : Int) : Int := if vB p c h s = true then s * (s + 1) / 2 else -1
def rtI (p c h s : Int) : Int := if vB p c h s = true then s * s else -1
theorem six {p c h s : Int} (g : vB p c h s = true) : s = 1 ∨ s = 2 ∨ s = 3 ∨ s = 4 ∨ s = 5 ∨ s = 6 := by
  have := vB_iff.1 g; omega
theorem ret_int {k : IntKind} {a b : Int} (h : a = b) : Ending.returned (.int k a) = .returned (.int k b) := by rw [h]
theorem specFull_any (w : World) :
    Calls Try.prog 89 #[] w fun e w' => e = .returned (.agg #[.int .i64 24, .int .i64 15, .int .i64 6, .int .i64 6]) ∧ Below w.heap.size w w' := by
  go_enter Try.func89, Try.ntmps89
  go_wp2
  refine bodyPost_ret (v := .agg #[.int .i64 24, .int .i64 15, .int .i64 6, .int .i64 6]) (by simp [results, Try.results89, go_sem]) rfl ⟨rfl, ?_⟩
  first | exact (Below.refl _ _).alloc (Nat.le_refl _) _ | exact ((Below.refl _ _).alloc (Nat.le_refl _) _).alloc (by simp <;> omega) _
end Go.Proofs.Ytjepbhainidpgaa
