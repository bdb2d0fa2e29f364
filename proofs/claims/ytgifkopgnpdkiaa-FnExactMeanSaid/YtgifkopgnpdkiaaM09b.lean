/- The mathematics of comparing exact numbers digit by digit. -/
import Derived.Test.Ytgifkopgnpdkiaa09x
namespace Go.Proofs.Ytgifkopgnpdkiaa
set_option maxRecDepth 20000
set_option linter.unusedVariables false
set_option linter.unusedSimpArgs false
theorem sg3_lift {a b M u v : Int} (hu : 0 ≤ u ∧ u < M) (hv : 0 ≤ v ∧ v < M) : sg3 (a * M + u) (b * M + v) = if sg3 a b ≠ 0 then sg3 a b else sg3 u v := by
  unfold sg3
  rcases Int.lt_trichotomy a b with h | h | h
  · have h2 : (a + 1) * M ≤ b * M := Int.mul_le_mul_of_nonneg_right (by omega) (by omega)
    rw [Int.add_mul, Int.one_mul] at h2
    rw [if_pos (show a * M + u < b * M + v by omega), if_pos h, if_pos (by decide)]
  · subst h
    by_cases c1 : u < v
    · rw [if_pos (show a * M + u < a * M + v by omega)]
      simp [c1]
    · rw [if_neg (show ¬ a * M + u < a * M + v by omega)]
      by_cases c2 : v < u
      · rw [if_pos (show a * M + v < a * M + u by omega)]
        simp [c1, c2]
      · rw [if_neg (show ¬ a * M + v < a * M + u by omega)]
        simp [c1, c2]
  · have h2 : (b + 1) * M ≤ a * M := Int.mul_le_mul_of_nonneg_right (by omega) (by omega)
    rw [Int.add_mul, Int.one_mul] at h2
    rw [if_neg (show ¬ a * M + u < b * M + v by omega), if_pos (show b * M + v < a * M + u by omega), if_neg (show ¬ a < b by omega), if_pos h, if_pos (by decide)]
/-- Two rows of numbers compared from the front, the shorter one with noughts behind it. -/
def lexP : List Int → List Int → Int
  | [], [] => 0
  | a :: l, [] => if sg3 a 0 ≠ 0 then sg3 a 0 else lexP l []
  | [], b :: bs => if sg3 0 b ≠ 0 then sg3 0 b else lexP [] bs
  | a :: l, b :: m => if sg3 a b ≠ 0 then sg3 a b else lexP l m
theorem scN_cast (S i j : Nat) : ((scN S (i + j) : Nat) : Int) = ((scN S i : Nat) : Int) * ((scN S j : Nat) : Int) := by rw [scN_add, Int.natCast_mul]
theorem rest_split {S m : Nat} (r : Int) : r = r / ((scN S m : Nat) : Int) * ((scN S m : Nat) : Int) + r % ((scN S m : Nat) : Int) := by
  have := Int.mul_ediv_add_emod r ((scN S m : Nat) : Int)
  rw [Int.mul_comm] at this
  omega
theorem rest_less {S m j : Nat} (hS : 1 ≤ S) {u : Int} (h : 0 ≤ u ∧ u < ((scN S m : Nat) : Int)) : 0 ≤ u * ((scN S j : Nat) : Int) ∧ u * ((scN S j : Nat) : Int) < ((scN S (m + j) : Nat) : Int) := by
  have hp := scN_pos hS j
  refine ⟨Int.mul_nonneg h.1 (by omega), ?_⟩
  rw [scN_cast]
  exact Int.mul_lt_mul_of_pos_right h.2 (by omega)
theorem lexP_dg {S : Nat} (hS : 1 ≤ S) : ∀ (m n i j : Nat) (r s : Int), m + i = n + j → (0 ≤ r ∧ r < ((scN S m : Nat) : Int)) → (0 ≤ s ∧ s < ((scN S n : Nat) : Int)) →
    lexP (dgI S r m) (dgI S s n) = sg3 (r * ((scN S i : Nat) : Int)) (s * ((scN S j : Nat) : Int))
  | 0, 0, i, j, r, s, h, hr, hs => by
    rw [scN_zero] at hr hs
    obtain rfl : r = 0 := by omega
    obtain rfl : s = 0 := by omega
    rw [Int.zero_mul, Int.zero_mul]
    simp [dgI, lexP, sg3]
  | m + 1, 0, i, j, r, s, h, hr, hs => by
    have hs2 := hs
    rw [scN_zero] at hs2
    obtain rfl : s = 0 := by omega
    have hp := scN_pos hS m
    have u0 := Int.emod_nonneg r (show ((scN S m : Nat) : Int) ≠ 0 by omega)
    have u1 := Int.emod_lt_of_pos r (show 0 < ((scN S m : Nat) : Int) by omega)
    obtain ⟨j, rfl⟩ : ∃ k, j = k + 1 := ⟨j - 1, by omega⟩
    have ih := lexP_dg hS m 0 i j (r % ((scN S m : Nat) : Int)) 0 (by omega) ⟨u0, u1⟩ hs
    rw [dgI, dgI, lexP]
    rw [dgI] at ih
    rw [ih, Int.zero_mul, Int.zero_mul]
    have e : r * ((scN S i : Nat) : Int) = r / ((scN S m : Nat) : Int) * ((scN S (m + i) : Nat) : Int) + r % ((scN S m : Nat) : Int) * ((scN S i : Nat) : Int) := by
      conv => lhs; rw [rest_split (S := S) (m := m) r, Int.add_mul, Int.mul_assoc, ← scN_cast]
    have hl := rest_less (j := i) hS ⟨u0, u1⟩
    have hp2 := scN_pos hS (m + i)
    have := sg3_lift (a := r / ((scN S m : Nat) : Int)) (b := 0) (v := 0) hl ⟨by omega, by omega⟩
    rw [Int.zero_mul, Int.zero_add] at this
    rw [e, this]
  | 0, n + 1, i, j, r, s, h, hr, hs => by
    have hr2 := hr
    rw [scN_zero] at hr2
    obtain rfl : r = 0 := by omega
    have hp := scN_pos hS n
    have u0 := Int.emod_nonneg s (show ((scN S n : Nat) : Int) ≠ 0 by omega)
    have u1 := Int.emod_lt_of_pos s (show 0 < ((scN S n : Nat) : Int) by omega)
    obtain ⟨i, rfl⟩ : ∃ k, i = k + 1 := ⟨i - 1, by omega⟩
    have ih := lexP_dg hS 0 n i j 0 (s % ((scN S n : Nat) : Int)) (by omega) hr ⟨u0, u1⟩
    rw [dgI, dgI, lexP]
    rw [dgI] at ih
    rw [ih, Int.zero_mul, Int.zero_mul]
    have e : s * ((scN S j : Nat) : Int) = s / ((scN S n : Nat) : Int) * ((scN S (n + j) : Nat) : Int) + s % ((scN S n : Nat) : Int) * ((scN S j : Nat) : Int) := by
      conv => lhs; rw [rest_split (S := S) (m := n) s, Int.add_mul, Int.mul_assoc, ← scN_cast]
    have hl := rest_less (j := j) hS ⟨u0, u1⟩
    have hp2 := scN_pos hS (n + j)
    have := sg3_lift (a := 0) (u := 0) (b := s / ((scN S n : Nat) : Int)) (M := ((scN S (n + j) : Nat) : Int)) ⟨by omega, by omega⟩ hl
    rw [Int.zero_mul, Int.zero_add] at this
    rw [e, this]
  | m + 1, n + 1, i, j, r, s, h, hr, hs => by
    have hp := scN_pos hS m
    have hq := scN_pos hS n
    have u0 := Int.emod_nonneg r (show ((scN S m : Nat) : Int) ≠ 0 by omega)
    have u1 := Int.emod_lt_of_pos r (show 0 < ((scN S m : Nat) : Int) by omega)
    have v0 := Int.emod_nonneg s (show ((scN S n : Nat) : Int) ≠ 0 by omega)
    have v1 := Int.emod_lt_of_pos s (show 0 < ((scN S n : Nat) : Int) by omega)
    have ih := lexP_dg hS m n i j (r % ((scN S m : Nat) : Int)) (s % ((scN S n : Nat) : Int)) (by omega) ⟨u0, u1⟩ ⟨v0, v1⟩
    rw [dgI, dgI, lexP, ih]
    have e : r * ((scN S i : Nat) : Int) = r / ((scN S m : Nat) : Int) * ((scN S (m + i) : Nat) : Int) + r % ((scN S m : Nat) : Int) * ((scN S i : Nat) : Int) := by
      conv => lhs; rw [rest_split (S := S) (m := m) r, Int.add_mul, Int.mul_assoc, ← scN_cast]
    have e2 : s * ((scN S j : Nat) : Int) = s / ((scN S n : Nat) : Int) * ((scN S (m + i) : Nat) : Int) + s % ((scN S n : Nat) : Int) * ((scN S j : Nat) : Int) := by
      conv => lhs; rw [rest_split (S := S) (m := n) s, Int.add_mul, Int.mul_assoc, ← scN_cast, show n + j = m + i by omega]
    have hl := rest_less (j := i) hS ⟨u0, u1⟩
    have hl2 := rest_less (j := j) hS ⟨v0, v1⟩
    rw [show n + j = m + i by omega] at hl2
    rw [e, e2, sg3_lift hl hl2]
theorem cmV_lex {S : Nat} (hS : 1 ≤ S) {xn xd yn yd : Int} (hx : 0 ≤ xd) (hy : 0 ≤ yd) :
    cmV S xn xd yn yd = lexP (xn / ((scN S xd.toNat : Nat) : Int) :: dgI S (xn % ((scN S xd.toNat : Nat) : Int)) xd.toNat) (yn / ((scN S yd.toNat : Nat) : Int) :: dgI S (yn % ((scN S yd.toNat : Nat) : Int)) yd.toNat) := by
  have hp := scN_pos hS xd.toNat
  have hq := scN_pos hS yd.toNat
  have u0 := Int.emod_nonneg xn (show ((scN S xd.toNat : Nat) : Int) ≠ 0 by omega)
  have u1 := Int.emod_lt_of_pos xn (show 0 < ((scN S xd.toNat : Nat) : Int) by omega)
  have v0 := Int.emod_nonneg yn (show ((scN S yd.toNat : Nat) : Int) ≠ 0 by omega)
  have v1 := Int.emod_lt_of_pos yn (show 0 < ((scN S yd.toNat : Nat) : Int) by omega)
  unfold cmV
  rw [lexP, lexP_dg hS xd.toNat yd.toNat (max xd yd - xd).toNat (max xd yd - yd).toNat _ _ (by omega) ⟨u0, u1⟩ ⟨v0, v1⟩]
end Go.Proofs.Ytgifkopgnpdkiaa
