/- Contracts of the model's functions on whole boards. -/
import Derived.Test.YtgabhnhkoklgiaaL02b
import Derived.Test.YtgabhnhkoklgiaaImpl02d
namespace Go.Proofs.Ytgabhnhkoklgiaa
open Go.ChangeShapes Go.WideShapes Go.ChangeAt Go.RowKit
set_option linter.unusedVariables false
set_option linter.unusedSimpArgs false

theorem lastL_sum (xs : List Int) (hx : ∀ x ∈ xs, 0 ≤ x) : ∀ k : Nat, k ≤ xs.length → (lastL xs k < 0 ↔ (xs.take k).sum = 0)
  | 0, _ => by simp [lastL]
  | k + 1, h => by
    have ih := lastL_sum xs hx k (by omega)
    have h1 := sum_take xs k (by omega)
    have h2 := hx _ (getD_mem (show k < xs.length by omega))
    have h3 := sum_nonneg (xs.take k) (fun x hm => hx x (List.mem_of_mem_take hm))
    have h4 := (lastL_bound xs k).1
    rw [h1, lastL]
    split <;> omega
end Go.Proofs.Ytgabhnhkoklgiaa
