/- The mathematics of exact numbers: division of two words by one, powers of the base, numbers in lowest terms. -/
import Derived.Test.YtgohipfaojiilaaBase
namespace Go.Proofs.Ytgohipfaojiilaa
set_option maxRecDepth 20000
set_option linter.unusedVariables false
set_option linter.unusedSimpArgs false

/-! Division of two words by one. -/
theorem kd_init (u a b c : Nat) (ha : 0 < a) (hc : c < 4294967296) : (u * 4294967296 + c) / (a * 4294967296 + b) ≤ u / a := by
  rw [Nat.le_div_iff_mul_le ha]
  have h1 : (u * 4294967296 + c) / (a * 4294967296 + b) * (a * 4294967296 + b) ≤ u * 4294967296 + c := Nat.div_mul_le_self _ _
  generalize (u * 4294967296 + c) / (a * 4294967296 + b) = t at *
  rw [Nat.mul_add, ← Nat.mul_assoc] at h1
  omega
theorem kd_le (q a b c r u : Nat) (he : q * a + r = u) (h : q * b ≤ 4294967296 * r + c) : q * (a * 4294967296 + b) ≤ u * 4294967296 + c := by
  subst he
  rw [Nat.mul_add, ← Nat.mul_assoc, Nat.add_mul]
  omega
theorem kd_lt (q a b c r u : Nat) (he : q * a + r = u) (h : 4294967296 * r + c < q * b) : u * 4294967296 + c < q * (a * 4294967296 + b) := by
  subst he
  rw [Nat.mul_add, ← Nat.mul_assoc, Nat.add_mul]
  omega
theorem kd_exit (q a b c r u : Nat) (ha : 0 < a) (he : q * a + r = u) (hq : (u * 4294967296 + c) / (a * 4294967296 + b) ≤ q) (h : q * b ≤ 4294967296 * r + c) :
    (u * 4294967296 + c) / (a * 4294967296 + b) = q := by
  refine Nat.le_antisymm hq ?_
  rw [Nat.le_div_iff_mul_le (by omega)]
  exact kd_le q a b c r u he h
theorem kd_dec (q a b c r u : Nat) (ha : 0 < a) (he : q * a + r = u) (hq : (u * 4294967296 + c) / (a * 4294967296 + b) ≤ q) (h : 4294967296 * r + c < q * b) :
    (u * 4294967296 + c) / (a * 4294967296 + b) < q := by
  rw [Nat.div_lt_iff_lt_mul (by omega)]
  exact kd_lt q a b c r u he h
theorem kd_small (a b c u : Nat) (hc : c < 4294967296) (hu : u < a * 4294967296 + b) : (u * 4294967296 + c) / (a * 4294967296 + b) < 4294967296 := by
  rw [Nat.div_lt_iff_lt_mul (by omega)]
  omega
theorem kd_word (q a b r u : Nat) (hb : b < 4294967296) (he : q * a + r = u) (hu : u < a * 4294967296 + b) (hr : 4294967296 ≤ r) : q < 4294967296 := by
  rcases Nat.lt_or_ge q 4294967296 with h | h
  · exact h
  · have := Nat.mul_le_mul_right a h
    omega
theorem kd_break (q a b c r u : Nat) (ha : 0 < a) (hb : b < 4294967296) (he : q * a + r = u) (hq : (u * 4294967296 + c) / (a * 4294967296 + b) ≤ q) (hu : u < a * 4294967296 + b) (hr : 4294967296 ≤ r) :
    (u * 4294967296 + c) / (a * 4294967296 + b) = q := by
  refine kd_exit q a b c r u ha he hq ?_
  have h1 := kd_word q a b r u hb he hu hr
  have h2 : q * b ≤ 4294967295 * 4294967295 := Nat.mul_le_mul (by omega) (by omega)
  omega
/-- One digit: its place after the estimate has been put right. -/
theorem kd_rest (U V : Nat) : U - U / V * V = U % V := by
  have := Nat.mod_add_div U V
  rw [Nat.mul_comm] at this
  omega
theorem kd_two (A c V : Nat) (hV : 0 < V) : A / V * 4294967296 + (A % V * 4294967296 + c) / V = (A * 4294967296 + c) / V ∧ (A % V * 4294967296 + c) % V = (A * 4294967296 + c) % V := by
  have h : A * 4294967296 + c = A % V * 4294967296 + c + V * (A / V * 4294967296) := by
    have := Nat.mod_add_div A V
    have h2 : V * (A / V * 4294967296) = V * (A / V) * 4294967296 := by rw [Nat.mul_assoc]
    rw [h2]
    omega
  rw [h]
  refine ⟨?_, ?_⟩
  · rw [Nat.add_mul_div_left _ _ hV, Nat.add_comm]
  · rw [Nat.add_mul_mod_self_left]
theorem kd_all (N y s : Nat) (hs : 0 < s) : N * s / (y * s) = N / y ∧ N * s % (y * s) / s = N % y := by
  refine ⟨Nat.mul_div_mul_right _ _ hs, ?_⟩
  rw [Nat.mul_mod_mul_right, Nat.mul_div_cancel _ hs]

/-! Reduction of a number. -/
/-- A number without the powers of the base that it has, up to a depth. -/
def rdN (B : Nat) : Nat → Nat → Nat × Nat
  | m, 0 => (m, 0)
  | m, D + 1 => if m % B = 0 then rdN B (m / B) D else (m, D + 1)
theorem rdN_stop {B m D : Nat} (h : m % B ≠ 0) : rdN B m D = (m, D) := by
  cases D with
  | zero => rfl
  | succ D => rw [rdN, if_neg h]
theorem rdN_go {B m D : Nat} (h : m % B = 0) : rdN B m (D + 1) = rdN B (m / B) D := by
  rw [rdN, if_pos h]
theorem rdN_le (B : Nat) : ∀ D m : Nat, (rdN B m D).2 ≤ D ∧ (rdN B m D).1 ≤ m
  | 0, m => ⟨Nat.le_refl _, Nat.le_refl _⟩
  | D + 1, m => by
    by_cases h : m % B = 0
    · rw [rdN_go h]
      have := rdN_le B D (m / B)
      have h2 := Nat.div_le_self m B
      omega
    · rw [rdN_stop h]
      exact ⟨Nat.le_refl _, Nat.le_refl _⟩
theorem rdN_spec (B : Nat) : ∀ D m : Nat, m = (rdN B m D).1 * B ^ (D - (rdN B m D).2) ∧ ((rdN B m D).2 = 0 ∨ (rdN B m D).1 % B ≠ 0)
  | 0, m => ⟨by simp [rdN], .inl rfl⟩
  | D + 1, m => by
    by_cases h : m % B = 0
    · rw [rdN_go h]
      have hl := (rdN_le B D (m / B)).1
      obtain ⟨h1, h2⟩ := rdN_spec B D (m / B)
      refine ⟨?_, h2⟩
      rw [show D + 1 - (rdN B (m / B) D).2 = D - (rdN B (m / B) D).2 + 1 by omega, Nat.pow_succ, ← Nat.mul_assoc, ← h1]
      exact (Nat.div_mul_cancel (Nat.dvd_of_mod_eq_zero h)).symm
    · rw [rdN_stop h]
      exact ⟨by simp, .inr h⟩
theorem rdN_uniq {B : Nat} (hB : 0 < B) : ∀ {D m q k : Nat}, k ≤ D → m = q * B ^ (D - k) → (k = 0 ∨ q % B ≠ 0) → rdN B m D = (q, k)
  | 0, m, q, k, h1, h2, h3 => by
    obtain rfl : k = 0 := by omega
    rw [rdN, h2]
    simp
  | D + 1, m, q, k, h1, h2, h3 => by
    by_cases hk : k = D + 1
    · subst hk
      rw [Nat.sub_self, Nat.pow_zero, Nat.mul_one] at h2
      subst h2
      exact rdN_stop (by omega)
    · have e : D + 1 - k = D - k + 1 := by omega
      rw [e, Nat.pow_succ, ← Nat.mul_assoc] at h2
      have hd : m % B = 0 := by rw [h2]; exact Nat.mul_mod_left _ _
      rw [rdN_go hd]
      refine rdN_uniq hB (by omega) ?_ h3
      rw [h2, Nat.mul_div_cancel _ hB]
/-- The search for the depth of a number in lowest terms: where it stops the number is reduced. -/
theorem fit_iff {B a b N D k : Nat} (hB : 0 < B) (hb : 0 < b) (hco : Nat.Coprime a b) (h : a * B ^ D = N * b) (hk : k ≤ D) : B ^ k % b = 0 ↔ N % B ^ (D - k) = 0 := by
  have e : B ^ D = B ^ k * B ^ (D - k) := by rw [← Nat.pow_add]; congr 1; omega
  have hp : 0 < B ^ (D - k) := Nat.pow_pos hB
  constructor
  · intro h1
    obtain ⟨t, ht⟩ := Nat.dvd_of_mod_eq_zero h1
    have h2 : N * b = (a * t * B ^ (D - k)) * b := by
      rw [← h, e, ht]
      simp only [Nat.mul_assoc, Nat.mul_comm, Nat.mul_left_comm]
    have h3 := Nat.eq_of_mul_eq_mul_right hb h2
    rw [h3]
    exact Nat.mul_mod_left _ _
  · intro h1
    obtain ⟨q, hq⟩ := Nat.dvd_of_mod_eq_zero h1
    have h2 : (a * B ^ k) * B ^ (D - k) = (q * b) * B ^ (D - k) := by
      rw [Nat.mul_assoc, ← e, h, hq]
      simp only [Nat.mul_assoc, Nat.mul_comm, Nat.mul_left_comm]
    have h3 := Nat.eq_of_mul_eq_mul_right hp h2
    have h4 : b ∣ a * B ^ k := ⟨q, by rw [h3, Nat.mul_comm]⟩
    exact Nat.mod_eq_zero_of_dvd (hco.symm.dvd_of_dvd_mul_left h4)
theorem fit_end {B a b N D k : Nat} (hB : 0 < B) (hb : 0 < b) (hco : Nat.Coprime a b) (h : a * B ^ D = N * b) (hk : k ≤ D) (h1 : B ^ k % b = 0) (h0 : ∀ j, j < k → B ^ j % b ≠ 0) :
    rdN B N D = (a * (B ^ k / b), k) := by
  have e : B ^ D = B ^ k * B ^ (D - k) := by rw [← Nat.pow_add]; congr 1; omega
  have hN : N = a * (B ^ k / b) * B ^ (D - k) := by
    obtain ⟨t, ht⟩ := Nat.dvd_of_mod_eq_zero h1
    rw [ht, Nat.mul_div_cancel_left _ hb]
    refine Nat.eq_of_mul_eq_mul_right hb ?_
    rw [← h, e, ht]
    simp only [Nat.mul_assoc, Nat.mul_comm, Nat.mul_left_comm]
  refine rdN_uniq hB hk hN ?_
  rcases Nat.eq_zero_or_pos k with hk0 | hk0
  · exact .inl hk0
  · refine .inr fun hz => ?_
    refine h0 (k - 1) (by omega) ?_
    rw [fit_iff hB hb hco h (by omega)]
    obtain ⟨q, hq⟩ := Nat.dvd_of_mod_eq_zero hz
    rw [hN, hq, show D - (k - 1) = D - k + 1 by omega, Nat.pow_succ]
    refine Nat.mod_eq_zero_of_dvd ⟨q, ?_⟩
    simp only [Nat.mul_assoc, Nat.mul_comm, Nat.mul_left_comm]
/-! Numbers of a variant of S sides: the base is S * S. -/
/-- How many depths there are. -/
def nn : Nat → Nat
  | 1 => 61
  | 2 => 25
  | 3 => 16
  | 4 => 13
  | 5 => 11
  | 6 => 10
  | _ => 0
/-- The scale of a depth. -/
def scN (S k : Nat) : Nat := (S * S) ^ k
theorem scN_zero (S : Nat) : scN S 0 = 1 := rfl
theorem scN_succ (S k : Nat) : scN S (k + 1) = scN S k * (S * S) := Nat.pow_succ ..
theorem scN_add (S j k : Nat) : scN S (j + k) = scN S j * scN S k := Nat.pow_add ..
theorem scN_pos {S : Nat} (hS : 1 ≤ S) (k : Nat) : 1 ≤ scN S k := Nat.pow_pos (Nat.mul_pos hS hS)
theorem nn_range {S : Nat} (hS : 1 ≤ S ∧ S ≤ 6) : 10 ≤ nn S ∧ nn S ≤ 61 := by
  have h : S = 1 ∨ S = 2 ∨ S = 3 ∨ S = 4 ∨ S = 5 ∨ S = 6 := by omega
  rcases h with rfl | rfl | rfl | rfl | rfl | rfl <;> decide
theorem base_range {S : Nat} (hS : 1 ≤ S ∧ S ≤ 6) : 1 ≤ S * S ∧ S * S ≤ 36 := by
  have h : S = 1 ∨ S = 2 ∨ S = 3 ∨ S = 4 ∨ S = 5 ∨ S = 6 := by omega
  rcases h with rfl | rfl | rfl | rfl | rfl | rfl <;> decide
theorem scN_top {S : Nat} (hS : 1 ≤ S ∧ S ≤ 6) : scN S (nn S - 1) ≤ 1000000000000000 ∧ (2 ≤ S → 1000000000000000 < scN S (nn S)) := by
  have h : S = 1 ∨ S = 2 ∨ S = 3 ∨ S = 4 ∨ S = 5 ∨ S = 6 := by omega
  rcases h with rfl | rfl | rfl | rfl | rfl | rfl <;> decide
theorem scN_mono {S j k : Nat} (hS : 1 ≤ S) (h : j ≤ k) : scN S j ≤ scN S k := Nat.pow_le_pow_right (Nat.mul_pos hS hS) h
theorem scN_in {S k : Nat} (hS : 1 ≤ S ∧ S ≤ 6) (h : k < nn S) : scN S k ≤ 1000000000000000 :=
  Nat.le_trans (scN_mono hS.1 (by omega)) (scN_top hS).1
theorem scN_out {S k : Nat} (hS : 2 ≤ S ∧ S ≤ 6) (h : nn S ≤ k) : 1000000000000000 < scN S k :=
  Nat.lt_of_lt_of_le ((scN_top ⟨by omega, hS.2⟩).2 hS.1) (scN_mono (by omega) h)
theorem scN_dvd (S : Nat) {j k : Nat} (h : j ≤ k) : scN S k = scN S j * scN S (k - j) := by
  rw [← scN_add]; congr 1; omega
/-- An exact number is valid. -/
def xvB (S : Nat) (n d : Int) : Bool := decide (0 ≤ d ∧ d < nn S ∧ -1000000000000000000 ≤ n ∧ n ≤ 1000000000000000000 ∧ (d = 0 ∨ n % ((S * S : Nat) : Int) ≠ 0))
/-- The sign of a number, laid upon a magnitude. -/
def sgI (n : Int) (m : Nat) : Int := if n < 0 then -(m : Int) else m
/-- A number divided by the scale of a depth: what it is in lowest terms, if that is valid. -/
def rdX (S : Nat) (N : Int) (D : Nat) : Option (Int × Int) :=
  if (rdN (S * S) N.natAbs D).2 < nn S ∧ (rdN (S * S) N.natAbs D).1 ≤ 1000000000000000000 then some (sgI N (rdN (S * S) N.natAbs D).1, ((rdN (S * S) N.natAbs D).2 : Int)) else none
/-- What a function hands back: the number and its code. -/
def xoN (o : Option (Int × Int)) : Int := match o with | some r => r.1 | none => 0
def xoD (o : Option (Int × Int)) : Int := match o with | some r => r.2 | none => 0
def xoE (o : Option (Int × Int)) (c : Int) : Int := match o with | some _ => 0 | none => c
/-- A sum. -/
def adX (S : Nat) (a : Int) (i : Nat) (b : Int) (j : Nat) : Option (Int × Int) :=
  if i ≤ j then (if 2000000000000000000 < (a * (scN S (j - i) : Int)).natAbs then none else rdX S (a * (scN S (j - i) : Int) + b) j)
  else (if 2000000000000000000 < (b * (scN S (i - j) : Int)).natAbs then none else rdX S (b * (scN S (i - j) : Int) + a) i)
end Go.Proofs.Ytgohipfaojiilaa
