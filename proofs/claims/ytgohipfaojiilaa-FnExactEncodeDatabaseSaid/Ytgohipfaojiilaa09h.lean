/- Contracts of IsExact, of the program and of its model. -/
import Derived.Test.Ytgohipfaojiilaa09g
import Derived.Test.YtgohipfaojiilaaOwnB
import Derived.BigQuiet
import Derived.Deep.QuietTactic
namespace Go.Proofs.Ytgohipfaojiilaa
open Go.ChangeShapes Go.WideShapes Go.ChangeAt Go.RowKit
set_option linter.unusedVariables false
set_option linter.unusedSimpArgs false
set_option maxRecDepth 4000

/-- A variant and a number are valid. -/
def exB (p c h s n d : Int) : Bool := vB p c h s && xvB s.toNat n d
theorem sfC_one (p c h s n d : Int) : (sfC p c h s [(n, d)] == 0) = exB p c h s n d := by
  unfold sfC exB
  cases vB p c h s
  · rfl
  · cases hx : xvB s.toNat n d <;> simp [hx]
theorem l09Base_any (p c h : Int) (S : Nat) (hS : S ≤ 6) (w : World) :
    Calls Try.prog 59 #[.agg #[.int .i64 p, .int .i64 c, .int .i64 h, .int .i64 (S : Int)]] w fun e w' => e = .returned (.int .i64 ((S * S : Nat) : Int)) ∧ Below w.heap.size w w' := by
  have BV := Blk.new w #[.int .i64 p, .int .i64 c, .int .i64 h, .int .i64 (S : Int)] 31
  have hb : Below w.heap.size w (w.alloc (.cells #[.int .i64 p, .int .i64 c, .int .i64 h, .int .i64 (S : Int)] 31)) := (Below.refl _ _).alloc (Nat.le_refl _) _
  have hle : S * S ≤ 6 * 6 := Nat.mul_le_mul hS hS
  obtain ⟨B, wB, hB⟩ : ∃ B : Int, IntKind.i64.wrap ((S : Int) * (S : Int)) = B ∧ ((S * S : Nat) : Int) = B := by
    refine ⟨((S * S : Nat) : Int), ?_, rfl⟩
    rw [← Int.natCast_mul]
    exact IntWalk.i64_in _ (by omega)
  rw [hB]
  obtain ⟨x0, x1, x2, x3, xf, xl⟩ := BV.four
  clear hle hS hB
  go_enter Try.func59, Try.ntmps59
  go_wp2
  go_ret
  exact ⟨rfl, hb⟩
end Go.Proofs.Ytgohipfaojiilaa
