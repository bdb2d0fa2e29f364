/- The mathematics of races: crossovers, occupied home points, the sum of an adjusted count, whether a board is a race, pips of rolls. -/
import Derived.Test.YtjepbhainidpgaaImpl02d
namespace Go.Proofs.Ytjepbhainidpgaa
set_option linter.unusedVariables false

/-- The crossovers of the first k places. -/
def crossL (h : Int) (xs : List Int) : Nat → Int
  | 0 => 0
  | k + 1 => crossL h xs k + xs.getD k 0 * ((k : Int) / h)
theorem quot_bound {h : Int} {k : Nat} (h1 : 1 ≤ h) (hk : k ≤ 24) : 0 ≤ (k : Int) / h ∧ (k : Int) / h ≤ 24 :=
  ⟨Int.ediv_nonneg (by omega) (by omega), Int.le_trans (Int.ediv_le_self _ (by omega)) (by omega)⟩
theorem quot_prod {v q : Int} (v0 : 0 ≤ v) (v1 : v ≤ 1000) (q0 : 0 ≤ q) (q1 : q ≤ 24) : 0 ≤ v * q ∧ v * q ≤ 24000 :=
  ⟨Int.mul_nonneg v0 q0, Int.le_trans (Int.mul_le_mul v1 q1 q0 (by omega)) (by decide)⟩
theorem crossL_bound (h : Int) (h1 : 1 ≤ h) (xs : List Int) (hx : ∀ x ∈ xs, 0 ≤ x ∧ x ≤ 1000) (hl : xs.length ≤ 25) : ∀ k : Nat, k ≤ xs.length → 0 ≤ crossL h xs k ∧ crossL h xs k ≤ 24000 * k
  | 0, _ => by simp [crossL]
  | k + 1, hk => by
    have ih := crossL_bound h h1 xs hx hl k (by omega)
    have hv := hx _ (getD_mem (show k < xs.length by omega))
    have hq := quot_bound (k := k) h1 (by omega)
    have hp := quot_prod hv.1 hv.2 hq.1 hq.2
    rw [crossL]
    omega
/-- The places below k that have a checker. -/
def occL (xs : List Int) : Nat → Int
  | 0 => 0
  | k + 1 => if 0 < xs.getD k 0 then occL xs k + 1 else occL xs k
theorem occL_bound (xs : List Int) : ∀ k : Nat, 0 ≤ occL xs k ∧ occL xs k ≤ k
  | 0 => by simp [occL]
  | k + 1 => by
    have ih := occL_bound xs k
    rw [occL]
    split <;> omega
/-- What is multiplied in an adjusted count. -/
def sumV (H : Nat) (xs : List Int) : Int := pipsL xs xs.length + 2 * xs.sum + xs.getD 0 0 - occL xs H
/-- The greatest number of rolls, or -1 if there is none. -/
def mostV (h s : Int) (xs : List Int) : Int := if h < s ∧ h ≤ lastL xs xs.length then -1 else (pipsL xs xs.length + 2 - 1) / 2
/-- The code of a function with a board. -/
def rcC (p c h s : Int) (xs ys : List Int) : Int := if isB p c h s xs ys = true then (if (overB xs ys || contB p xs ys) = true then 5 else 0) else 1
/-- A board that is a race. -/
def raceB (p c h s : Int) (xs ys : List Int) : Bool := isB p c h s xs ys && !(overB xs ys || contB p xs ys)
theorem raceB_parts {p c h s : Int} {xs ys : List Int} (g : raceB p c h s xs ys = true) : isB p c h s xs ys = true ∧ overB xs ys = false ∧ contB p xs ys = false := by
  simp only [raceB, Bool.and_eq_true, Bool.not_eq_true', Bool.or_eq_false_iff] at g
  exact g
theorem rcC_race {p c h s : Int} {xs ys : List Int} (g : raceB p c h s xs ys = true) : rcC p c h s xs ys = 0 := by
  obtain ⟨g0, g1, g2⟩ := raceB_parts g
  simp [rcC, g0, g1, g2]
theorem rcC_not {p c h s : Int} {xs ys : List Int} (g : raceB p c h s xs ys = false) : 0 < rcC p c h s xs ys ∧ rcC p c h s xs ys ≤ 5 := by
  unfold rcC
  split
  · rename_i g0
    split
    · omega
    · rename_i g1
      simp [raceB, g0] at g
      simp at g1
      simp [g1] at g
  · omega
/-- The adjusted count of the player on roll. -/
def adjV (H : Nat) (xs : List Int) : Int := if 30 < sumV H xs then 11 * sumV H xs else 10 * sumV H xs
/-- The advice that follows from two adjusted counts. -/
def advV (x y : Int) : Int := if y + 20 < x then 0 else if x < y - 20 then 2 else 1
theorem sumV_bound (H : Nat) (xs : List Int) (hx : ∀ x ∈ xs, 0 ≤ x ∧ x ≤ 1000) (hl : xs.length ≤ 25) (h0 : 0 < xs.length) (hH : H ≤ 24) (hs : 0 ≤ xs.sum ∧ xs.sum ≤ 15) : -24 ≤ sumV H xs ∧ sumV H xs ≤ 30000000 := by
  have h1 := pipsL_bound xs hx xs.length (Nat.le_refl _) (by omega)
  have h2 := occL_bound xs H
  have h3 := hx _ (getD_mem h0)
  unfold sumV
  omega
/-- Crossovers are 0 exactly if all checkers are at home. -/
theorem crossL_zero (h : Int) (h1 : 1 ≤ h) (xs : List Int) (hx : ∀ x ∈ xs, 0 ≤ x ∧ x ≤ 1000) (hl : xs.length ≤ 25) : ∀ k : Nat, k ≤ xs.length → (crossL h xs k = 0 ↔ lastL xs k < h)
  | 0, _ => by simp [crossL, lastL]; omega
  | k + 1, hk => by
    have ih := crossL_zero h h1 xs hx hl k (by omega)
    have hv := hx _ (getD_mem (show k < xs.length by omega))
    have hq := quot_bound (k := k) h1 (by omega)
    have hp := quot_prod hv.1 hv.2 hq.1 hq.2
    have hb := crossL_bound h h1 xs hx hl k (by omega)
    have hlb := lastL_bound xs k
    rw [crossL, lastL]
    split
    · rename_i hpos
      by_cases hkh : (k : Int) < h
      · have e : (k : Int) / h = 0 := Int.ediv_eq_zero_of_lt (by omega) hkh
        rw [e]
        omega
      · have e : 1 ≤ (k : Int) / h := by
          have := Int.le_ediv_of_mul_le (a := 1) (b := (k : Int)) (c := h) (by omega) (by omega)
          omega
        have e2 : 1 * 1 ≤ xs.getD k 0 * ((k : Int) / h) := Int.mul_le_mul (by omega) e (by omega) (by omega)
        omega
    · have e : xs.getD k 0 = 0 := by omega
      rw [e]
      omega
theorem mostV_low (h s : Int) (xs : List Int) (hx : ∀ x ∈ xs, 0 ≤ x ∧ x ≤ 1000) (hl : xs.length ≤ 25) : mostV h s xs = -1 ∨ 0 ≤ mostV h s xs := by
  have bd := pipsL_bound xs hx xs.length (Nat.le_refl _) (by omega)
  unfold mostV
  split
  · exact .inl rfl
  · exact .inr (Int.ediv_nonneg (by omega) (by omega))
/-- The code of the greatest number of rolls. -/
def grE (p c h s : Int) (xs ys : List Int) : Int := if raceB p c h s xs ys = true then (if mostV h s xs < 0 then 4 else 0) else rcC p c h s xs ys
def grI (p c h s : Int) (xs ys : List Int) : Int := if raceB p c h s xs ys = true ∧ ¬ mostV h s xs < 0 then mostV h s xs else 0
end Go.Proofs.Ytjepbhainidpgaa
