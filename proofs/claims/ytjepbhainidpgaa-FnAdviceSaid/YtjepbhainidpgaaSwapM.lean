/- The exchange of sides: mathematics, comparing two boards, the draw of a pair. -/
import Derived.Test.YtjepbhainidpgaaSwapS
import Derived.Test.YtjepbhainidpgaaDraw4
import Derived.Test.YtjepbhainidpgaaSrc2
namespace Go.Proofs.Ytjepbhainidpgaa
open Go.ChangeShapes Go.WideShapes Go.ChangeAt Go.RowKit
set_option linter.unusedVariables false
set_option linter.unusedSimpArgs false
set_option maxRecDepth 4000

theorem apartB_swap {P : Nat} {xs ys : List Int} (h : apartB P xs ys = true) : apartB P ys xs = true := by
  rw [apartB, List.all_eq_true] at h ⊢
  intro i hi
  have hi2 : i < P := by simpa using hi
  have h2 := h (P - 1 - i) (by simp; omega)
  rw [show P - 1 - (P - 1 - i) = i by omega] at h2
  rw [Bool.and_comm]
  exact h2
theorem isB_swap {p c h s : Int} {xs ys : List Int} (g : isB p c h s xs ys = true) : isB p c h s ys xs = true := by
  simp only [isB, Bool.and_eq_true] at g ⊢
  obtain ⟨g0, g1, g2, g3, g4⟩ := g
  exact ⟨g0, g2, g1, by rw [Int.add_comm]; exact g3, apartB_swap g4⟩
theorem overB_swap (xs ys : List Int) : overB ys xs = overB xs ys := by rw [overB, overB, Bool.or_comm]
theorem contB_swap (p : Int) (xs ys : List Int) : contB p ys xs = contB p xs ys := by rw [contB, contB, overB_swap, Int.add_comm]
theorem big_any (a : Option Addr) (len cap : Nat) (w : World) :
    Calls Try.prog 26 #[.slice a len cap] w fun e w' => e = .returned (.bool (decide (4096 < (len : Int)))) ∧ w = w' := by
  go_enter Try.func26, Try.ntmps26
  go_wp2
  go_ret
  exact ⟨rfl, rfl⟩
end Go.Proofs.Ytjepbhainidpgaa
