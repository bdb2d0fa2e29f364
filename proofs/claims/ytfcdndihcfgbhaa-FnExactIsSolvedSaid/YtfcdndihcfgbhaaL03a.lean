/- Contracts of chapter 3: how many lists have a bounded sum, of the program and of its model. -/
import Derived.Test.YtfcdndihcfgbhaaCnt
import Derived.Test.YtfcdndihcfgbhaaM02
import Derived.Deep.LoopGhost
namespace Go.Proofs.Ytfcdndihcfgbhaa
open Go.ChangeShapes Go.WideShapes Go.ChangeAt Go.RowKit
set_option linter.unusedVariables false
set_option linter.unusedSimpArgs false

theorem cnt_bnd (n m : Nat) (hn : n ≤ 25) (hm : m ≤ 15) : 1 ≤ (cnt n m : Int) ∧ (cnt n m : Int) ≤ 1099511627776 := by
  have h1 := cnt_pos n m
  have h2 := cnt_bound hn hm
  omega
theorem mul_bnd {a b : Int} (a0 : 1 ≤ a) (a1 : a ≤ 1099511627776) (b0 : 1 ≤ b) (b1 : b ≤ 100) : 0 ≤ a * b ∧ a * b ≤ 109951162777600 :=
  ⟨Int.mul_nonneg (by omega) (by omega), by
    have h := Int.mul_le_mul a1 b1 (by omega) (by omega)
    omega⟩
end Go.Proofs.Ytfcdndihcfgbhaa
