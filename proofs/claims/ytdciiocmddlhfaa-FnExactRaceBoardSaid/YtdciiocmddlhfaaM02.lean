/- Plain mathematics of boards: sums, pips, the last checker, validity. -/
import Derived.Test.YtdciiocmddlhfaaL01a
namespace Go.Proofs.Ytdciiocmddlhfaa
set_option linter.unusedVariables false
set_option linter.unusedSimpArgs false

theorem getD_mem {xs : List Int} {k : Nat} (h : k < xs.length) : xs.getD k 0 ∈ xs := by simp [List.getD, h]
theorem getD_out {l : List Int} {j : Nat} (h : l.length ≤ j) : l.getD j 0 = 0 := by
  rw [List.getD_eq_getElem?_getD, List.getElem?_eq_none h]
  rfl
theorem ext_getD : ∀ {l m : List Int}, l.length = m.length → (∀ j, l.getD j 0 = m.getD j 0) → l = m := by
  intro l m h e
  apply List.ext_getElem h
  intro i h1 h2
  have := e i
  rw [List.getD_eq_getElem?_getD, List.getD_eq_getElem?_getD, List.getElem?_eq_getElem h1, List.getElem?_eq_getElem h2] at this
  simpa using this
theorem take_snoc_int (xs : List Int) (k : Nat) (h : k < xs.length) : xs.take (k + 1) = xs.take k ++ [xs.getD k 0] := by
  rw [List.take_succ_eq_append_getElem h]; simp [h]
theorem sum_take (xs : List Int) (k : Nat) (h : k < xs.length) : (xs.take (k + 1)).sum = (xs.take k).sum + xs.getD k 0 := by
  rw [take_snoc_int xs k h]; simp
theorem sum_bound {c : Int} : ∀ (xs : List Int), (∀ x ∈ xs, 0 ≤ x ∧ x ≤ c) → 0 ≤ xs.sum ∧ xs.sum ≤ c * xs.length
  | [], _ => by simp
  | x :: xs, h => by
    have h1 := h x (by simp)
    have h2 := sum_bound xs (fun y hy => h y (by simp [hy]))
    simp only [List.sum_cons, List.length_cons, Int.natCast_add, Int.natCast_one, Int.mul_add, Int.mul_one]
    omega
/-- One side of a board of a variant with p points and c checkers. -/
def sideB (p c : Int) (xs : List Int) : Bool := decide ((xs.length : Int) = p + 1) && xs.all (fun x => inB x 0 c) && decide (xs.sum ≤ c)
/-- No point has checkers of both players. -/
def apartB (p : Nat) (xs ys : List Int) : Bool := (List.range p).all fun i => !(decide (0 < xs.getD i 0) && decide (0 < ys.getD (p - 1 - i) 0))
/-- A board is valid. -/
def isB (p c h s : Int) (xs ys : List Int) : Bool := vB p c h s && (sideB p c xs && (sideB p c ys && (!(decide (xs.sum + ys.sum = 0)) && apartB p.toNat xs ys)))
theorem inB_iff {n a b : Int} : inB n a b = true ↔ a ≤ n ∧ n ≤ b := by simp [inB]
theorem sideB_iff {p c : Int} {xs : List Int} : sideB p c xs = true ↔ (xs.length : Int) = p + 1 ∧ (∀ x ∈ xs, 0 ≤ x ∧ x ≤ c) ∧ xs.sum ≤ c := by
  simp [sideB, inB, and_assoc]
/-- The pips of the first k places. -/
def pipsL (xs : List Int) : Nat → Int
  | 0 => 0
  | k + 1 => pipsL xs k + ((k : Int) + 1) * xs.getD k 0
theorem prod_bound {k v : Int} (h0 : 0 ≤ k) (h1 : k ≤ 1000) (v0 : 0 ≤ v) (v1 : v ≤ 1000) : 0 ≤ (k + 1) * v ∧ (k + 1) * v ≤ 1001000 :=
  ⟨Int.mul_nonneg (by omega) v0, by
    have h := Int.mul_le_mul (show k + 1 ≤ 1001 by omega) v1 v0 (by omega)
    omega⟩
theorem pipsL_bound (xs : List Int) (hx : ∀ x ∈ xs, 0 ≤ x ∧ x ≤ 1000) : ∀ k : Nat, k ≤ xs.length → k ≤ 1000 → 0 ≤ pipsL xs k ∧ pipsL xs k ≤ 1001000 * k
  | 0, _, _ => by simp [pipsL]
  | k + 1, h, h1 => by
    have ih := pipsL_bound xs hx k (by omega) (by omega)
    have hm := hx _ (getD_mem (show k < xs.length by omega))
    have hp := prod_bound (k := (k : Int)) (by omega) (by omega) hm.1 hm.2
    unfold pipsL
    omega
/-- The greatest index of a checker below k, or -1. -/
def lastL (xs : List Int) : Nat → Int
  | 0 => -1
  | k + 1 => if 0 < xs.getD k 0 then (k : Int) else lastL xs k
theorem lastL_bound (xs : List Int) : ∀ k : Nat, -1 ≤ lastL xs k ∧ lastL xs k < k
  | 0 => by simp [lastL]
  | k + 1 => by
    have := lastL_bound xs k
    unfold lastL
    split <;> omega
end Go.Proofs.Ytdciiocmddlhfaa
