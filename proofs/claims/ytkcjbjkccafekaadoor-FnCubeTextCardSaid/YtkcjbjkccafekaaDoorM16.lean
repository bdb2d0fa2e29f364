/- The mathematics of the doubling cube: its values, valid cubes, possible actions. -/
import Derived.Test.YtkcjbjkccafekaaDoorBase
namespace Go.Proofs.YtkcjbjkccafekaaDoor
set_option maxRecDepth 20000
set_option linter.unusedVariables false

/-- The values that a cube can have. -/
def pwL : List Int := [1, 2, 4, 8, 16, 32, 64, 128, 256, 512, 1024]
def pwB (n : Int) : Bool := decide (n ∈ pwL)
theorem pwB_iff {n : Int} : pwB n = true ↔ n ∈ pwL := by unfold pwB; simp only [decide_eq_true_eq]
theorem pwB_range {n : Int} (h : pwB n = true) : 1 ≤ n ∧ n ≤ 1024 := by
  rw [pwB_iff] at h
  simp [pwL] at h
  omega
/-- Powers of two. -/
def p2 (k : Nat) : Int := ((2 ^ k : Nat) : Int)
theorem p2_zero : p2 0 = 1 := rfl
theorem p2_succ (k : Nat) : p2 (k + 1) = 2 * p2 k := by
  unfold p2
  rw [Nat.pow_succ]
  omega
theorem p2_pos (k : Nat) : 1 ≤ p2 k := by
  unfold p2
  have := Nat.one_le_two_pow (n := k)
  omega
theorem p2_mono {j k : Nat} (h : j ≤ k) : p2 j ≤ p2 k := by
  unfold p2
  have := Nat.pow_le_pow_right (show 0 < 2 by omega) h
  omega
theorem p2_lt {j k : Nat} (h : p2 j < p2 k) : j < k := by
  refine Nat.lt_of_not_le fun q => ?_
  have := p2_mono q
  omega
theorem p2_inj {j k : Nat} (h : p2 j = p2 k) : j = k := by
  rcases Nat.lt_trichotomy j k with q | q | q
  · have := p2_mono (show j + 1 ≤ k by omega)
    rw [p2_succ] at this
    have := p2_pos j
    omega
  · exact q
  · have := p2_mono (show k + 1 ≤ j by omega)
    rw [p2_succ] at this
    have := p2_pos k
    omega
theorem p2_ten : p2 10 = 1024 := by decide
theorem p2_small {k : Nat} (h : p2 k ≤ 1024) : k ≤ 10 := by
  have := @p2_lt k 11 (by have : p2 11 = 2048 := by decide
                          omega)
  omega
theorem pwB_p2 {n : Int} : pwB n = true ↔ ∃ k, k ≤ 10 ∧ n = p2 k := by
  rw [pwB_iff]
  constructor
  · intro h
    simp [pwL] at h
    rcases h with h | h | h | h | h | h | h | h | h | h | h
    · exact ⟨0, by omega, h⟩
    · exact ⟨1, by omega, h⟩
    · exact ⟨2, by omega, h⟩
    · exact ⟨3, by omega, h⟩
    · exact ⟨4, by omega, h⟩
    · exact ⟨5, by omega, h⟩
    · exact ⟨6, by omega, h⟩
    · exact ⟨7, by omega, h⟩
    · exact ⟨8, by omega, h⟩
    · exact ⟨9, by omega, h⟩
    · exact ⟨10, by omega, h⟩
  · rintro ⟨k, hk, rfl⟩
    revert k
    decide
/-- A power of two up to a bound. -/
def upB (n m : Int) : Bool := pwB n && decide (n ≤ m)
theorem upB_iff {n m : Int} (hm : m ≤ 1024) : upB n m = true ↔ ∃ k, p2 k ≤ m ∧ n = p2 k := by
  unfold upB
  rw [Bool.and_eq_true, pwB_p2, decide_eq_true_eq]
  constructor
  · rintro ⟨⟨k, _, rfl⟩, h⟩
    exact ⟨k, h, rfl⟩
  · rintro ⟨k, h, rfl⟩
    exact ⟨⟨k, p2_small (by omega), rfl⟩, h⟩
theorem upB_most (n : Int) : upB n 1024 = pwB n := by
  unfold upB
  cases h : pwB n with
  | false => rfl
  | true =>
    have := pwB_range h
    simp
    omega
/-- The owner fits the value. -/
def fitB (v o : Int) : Bool := if v = 1 then decide (o = 0) else (decide (o = 1) || decide (o = 2))
/-- A valid cube. -/
def cbB (m v o : Int) : Bool := pwB m && (upB v m && fitB v o)
theorem cbB_parts {m v o : Int} (h : cbB m v o = true) : pwB m = true ∧ pwB v = true ∧ 1 ≤ v ∧ v ≤ m ∧ m ≤ 1024 ∧ 0 ≤ o ∧ o ≤ 2 ∧ (o = 0 ↔ v = 1) := by
  unfold cbB upB fitB at h
  simp only [Bool.and_eq_true, decide_eq_true_eq] at h
  obtain ⟨h1, ⟨h2, h3⟩, h4⟩ := h
  have r1 := pwB_range h1
  have r2 := pwB_range h2
  split at h4
  · simp at h4
    refine ⟨h1, h2, r2.1, h3, r1.2, ?_, ?_, ?_⟩ <;> omega
  · simp at h4
    refine ⟨h1, h2, r2.1, h3, r1.2, ?_, ?_, ?_⟩ <;> omega
/-- The owner as the other player sees it. -/
def swO (o : Int) : Int := if o = 1 then 2 else if o = 2 then 1 else o
/-- How many times an action doubles. -/
def dbN (a : Int) : Nat := if a = 1 ∨ a = 2 then 1 else if a = 3 then 2 else if a = 4 then 3 else 0
def mayB (m v o : Int) (k : Nat) : Bool := decide (o ≠ 2) && decide (v * p2 k ≤ m)
/-- Possible actions. -/
def posB (m : Int) (be : Bool) (v o a : Int) : Bool :=
  if a = 0 then true else if a = 1 ∨ a = 2 then mayB m v o 1 else if a = 3 ∨ a = 4 then be && mayB m v o (dbN a) else false
def acL (m : Int) (be : Bool) (v o : Int) : List Int := ([0, 1, 2, 3, 4] : List Int).filter (posB m be v o)
theorem acL_mem {m : Int} {be : Bool} {v o a : Int} : a ∈ acL m be v o ↔ posB m be v o a = true := by
  unfold acL
  rw [List.mem_filter]
  refine ⟨fun h => h.2, fun h => ⟨?_, h⟩⟩
  unfold posB at h
  split at h
  · simp [*]
  · split at h
    · rename_i q
      rcases q with rfl | rfl <;> simp
    · split at h
      · rename_i q
        rcases q with rfl | rfl <;> simp
      · simp at h
theorem posB_cases {m : Int} {be : Bool} {v o a : Int} (h : posB m be v o a = true) : a = 0 ∨ a = 1 ∨ a = 2 ∨ a = 3 ∨ a = 4 := by
  have := acL_mem.2 h
  unfold acL at this
  have := (List.mem_filter.1 this).1
  simpa using this
/-- What an action leads to: value, owner, points, code. -/
def aaV (m : Int) (be : Bool) (v o a : Int) : Int × Int × Int × Int :=
  if cbB m v o = false then (0, 0, 0, 1) else if posB m be v o a = false then (0, 0, 0, 2) else if a = 0 then (v, o, 0, 0) else if a = 2 then (0, 0, v, 0) else (v * p2 (dbN a), 2, 0, 0)
/-- The points of a game. -/
def gpV (m : Int) (ja : Bool) (v o k : Int) : Int × Int :=
  if cbB m v o = false then (0, 1) else if ¬ (1 ≤ k ∧ k ≤ 3) then (0, 2) else if ja = true ∧ o = 0 then (v, 0) else (k * v, 0)
end Go.Proofs.YtkcjbjkccafekaaDoor
