/- Mathematics of a legal step: how many there are from a place. -/
import Derived.Test.Ytokjkcnjmfbfiaa04l
namespace Go.Proofs.Ytokjkcnjmfbfiaa
open Go.ChangeShapes Go.WideShapes Go.ChangeAt Go.RowKit
set_option linter.unusedVariables false
set_option linter.unusedSimpArgs false
set_option maxRecDepth 4000

theorem nonneg_getD {l : List Int} (h : ∀ x ∈ l, 0 ≤ x) (j : Nat) : 0 ≤ l.getD j 0 := by
  by_cases hj : j < l.length
  · exact h _ (getD_mem hj)
  · rw [getD_out (by omega)]
    omega
theorem stepI_form {P : Nat} {h : Int} {xs ys : List Int} {k : Nat} {d : Int} {t : Stp} (e : stepI P h xs ys k d = some t) : t.1 = (k : Int) ∧ t.2.1 = max (-1) ((k : Int) - d) ∧ t.2.2.1 = d ∧ xs.getD k 0 ≠ 0 ∧ t.2.1 = toI P k d ∧ alB P h xs ys k d = true := by
  unfold stepI at e
  split at e
  · simp at e
  · split at e
    · rename_i h0 ha
      simp only [Option.some.injEq] at e
      subst e
      refine ⟨rfl, ?_, rfl, h0, rfl, ha⟩
      dsimp only
      unfold toI
      split
      · rename_i hk
        by_cases hp : k = P
        · unfold alB at ha
          rw [if_pos hp] at ha
          simp only [openB, Bool.and_eq_true, decide_eq_true_eq] at ha
          omega
        · omega
      · omega
    · simp at e
/-- For a place, how many of the two steps with a die are legal. -/
theorem leg_two {P : Nat} {h s : Int} {xs ys : List Int} (f : Nat) (fP : f ≤ P) (d : Int) (hd : inB d 1 s = true) :
    (if legB P h s xs ys ((f : Int), max (-1) ((f : Int) - d), d, false) = true then 1 else 0) + (if legB P h s xs ys ((f : Int), max (-1) ((f : Int) - d), d, true) = true then 1 else 0) = (stepS P h xs ys f d).toList.length := by
  have hf : inB (f : Int) 0 (P : Int) = true := by simp [inB]; omega
  have hn : ((f : Int)).toNat = f := by simp
  rw [legB_S, legB_S]
  dsimp only
  rw [hd, hf, hn, Bool.true_and, Bool.true_and, Bool.true_and, Bool.true_and]
  cases e : stepS P h xs ys f d with
  | none => simp
  | some t =>
    have e2 : stepI P h xs ys f d = some t := by
      unfold stepS at e
      split at e
      · simp at e
      · exact e
    obtain ⟨q1, q2, q3, -⟩ := stepI_form e2
    obtain ⟨a, b, d', q⟩ := t
    dsimp only at q1 q2 q3
    subst q1 q2 q3
    cases q <;> simp
/-- The number of legal steps from the places below f. -/
def cntL (P : Nat) (h : Int) (xs ys : List Int) (d : Int) (f : Nat) : Nat := if overB xs ys = true then 0 else (legTo P h xs ys d f).length
theorem cntL_succ (P : Nat) (h : Int) (xs ys : List Int) (d : Int) (f : Nat) : cntL P h xs ys d (f + 1) = cntL P h xs ys d f + (stepS P h xs ys f d).toList.length := by
  unfold cntL stepS
  split
  · simp
  · rw [legTo, List.length_append]
    omega
theorem cntL_all (P : Nat) (h : Int) (xs ys : List Int) (d : Int) : cntL P h xs ys d (P + 1) = (legL P h xs ys d).length := by
  unfold cntL legL
  split <;> rfl
theorem cntL_le (P : Nat) (h : Int) (xs ys : List Int) (d : Int) (f : Nat) : cntL P h xs ys d f ≤ f := by
  unfold cntL
  split
  · omega
  · exact legTo_length _ _ _ _ _ _
theorem apart_iff {P : Nat} {xs ys : List Int} : apartB P xs ys = true ↔ ∀ i, i < P → ¬ (0 < xs.getD i 0 ∧ 0 < ys.getD (P - 1 - i) 0) := by
  rw [apartB, List.all_eq_true]
  constructor
  · intro h i hi
    have := h i (by simpa using hi)
    intro ⟨a, b⟩
    rw [decide_eq_true a, decide_eq_true b] at this
    simp at this
  · intro h i hi
    have := h i (by simpa using hi)
    by_cases a : 0 < xs.getD i 0
    · rw [decide_eq_false (show ¬ 0 < ys.getD (P - 1 - i) 0 from fun b => this ⟨a, b⟩)]
      simp
    · rw [decide_eq_false a]
      simp
theorem stepI_hitA {P : Nat} {h : Int} {A B : List Int} {k : Nat} {d : Int} {t : Stp} (e : stepI P h A B k d = some t) : t.2.2.2 = (decide (t.2.1 ≠ -1) && decide (0 < B.getD (P - 1 - t.2.1.toNat) 0)) := by
  unfold stepI at e
  split at e
  · simp at e
  · split at e
    · simp only [Option.some.injEq] at e
      rw [← e]
    · simp at e
end Go.Proofs.Ytokjkcnjmfbfiaa
