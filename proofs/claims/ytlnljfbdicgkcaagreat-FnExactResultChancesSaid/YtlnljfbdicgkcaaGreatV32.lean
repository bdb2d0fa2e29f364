/- Texts of a proof, laid together. -/
import Derived.Test.YtlnljfbdicgkcaaGreatV28
import Derived.Test.YtlnljfbdicgkcaaGreatV30
namespace Go.Proofs.YtlnljfbdicgkcaaGreat
open Go.ChangeShapes Go.WideShapes Go.ChangeAt Go.RowKit
set_option linter.unusedVariables false
set_option linter.unusedSimpArgs false
set_option maxRecDepth 4000
theorem rlsC_length : ∀ l : List Rl, (rlsC l).length = l.length * 2
  | [] => rfl
  | s :: l => by simp [rlsC, rlC, rlsC_length l]; omega
end Go.Proofs.YtlnljfbdicgkcaaGreat
namespace Go.Proofs.YtlnljfbdicgkcaaGreat
set_option maxRecDepth 20000
set_option linter.unusedVariables false
set_option linter.unusedSimpArgs false
theorem ex_some {S : Nat} (hS : 1 ≤ S ∧ S ≤ 6) {P : Int} (h : -1000000000000000000 ≤ P ∧ P ≤ 1000000000000000000) : ∃ n d, rdX S P (dm S) = some (n, d) ∧ IsP S n d P := by
  obtain ⟨n, d, e⟩ := rdX_some (S := S) h (dm_in hS).1
  refine ⟨n, d, e, xvB_of e, ?_⟩
  have := (rdX_val e (Nat.le_refl _)).1
  rw [Nat.sub_self, scN_zero] at this
  omega
end Go.Proofs.YtlnljfbdicgkcaaGreat
namespace Go.Proofs.YtlnljfbdicgkcaaGreat
open Go.ChangeShapes Go.WideShapes Go.ChangeAt Go.RowKit
set_option linter.unusedVariables false
set_option linter.unusedSimpArgs false
set_option maxRecDepth 4000
theorem PV.ex {S : Nat} {o : Option Int} {y cd : Int} (h : PV S o y cd) : exV S y cd = exO S o := by
  unfold PV at h
  unfold exV exO
  cases o with
  | none => dsimp only at h ⊢; rw [if_neg (by omega), h.1]
  | some x => dsimp only at h ⊢; rw [if_pos h.2, h.1]
end Go.Proofs.YtlnljfbdicgkcaaGreat
