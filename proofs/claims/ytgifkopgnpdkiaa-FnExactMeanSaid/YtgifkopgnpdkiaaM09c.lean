/- The mathematics of exact numbers: sums of a number with itself, and three times a number. -/
import Derived.Test.Ytgifkopgnpdkiaa09s
namespace Go.Proofs.Ytgifkopgnpdkiaa
set_option maxRecDepth 20000
set_option linter.unusedVariables false
set_option linter.unusedSimpArgs false
theorem rdX_of {S D : Nat} {N n d : Int} (h : rdX S N D = some (n, d)) : ∃ k : Nat, d = (k : Int) ∧ k ≤ D ∧ k < nn S ∧ N = n * ((scN S (D - k) : Nat) : Int) ∧ -1000000000000000000 ≤ n ∧ n ≤ 1000000000000000000 ∧ (k = 0 ∨ n % ((S * S : Nat) : Int) ≠ 0) := by
  unfold rdX at h
  have hs := rdN_spec (S * S) D N.natAbs
  have hl := rdN_le (S * S) D N.natAbs
  obtain ⟨m, hm⟩ : ∃ m, (rdN (S * S) N.natAbs D).1 = m := ⟨_, rfl⟩
  obtain ⟨k, hk⟩ : ∃ k, (rdN (S * S) N.natAbs D).2 = k := ⟨_, rfl⟩
  rw [hm, hk] at h hs
  rw [hk] at hl
  split at h
  · rename_i q
    simp only [Option.some.injEq, Prod.mk.injEq] at h
    obtain ⟨rfl, rfl⟩ := h
    refine ⟨k, rfl, hl.1, q.1, ?_, ?_, ?_, ?_⟩
    · have e : ((N.natAbs : Nat) : Int) = (m : Int) * ((scN S (D - k) : Nat) : Int) := by rw [← Int.natCast_mul]; exact congrArg _ hs.1
      unfold sgI
      by_cases c : N < 0
      · rw [if_pos c, Int.neg_mul, ← e]
        omega
      · rw [if_neg c, ← e]
        omega
    · unfold sgI; split <;> omega
    · unfold sgI; split <;> omega
    · rcases hs.2 with q2 | q2
      · exact .inl q2
      · refine .inr fun z => q2 ?_
        have e1 : ((m % (S * S) : Nat) : Int) = (m : Int) % ((S * S : Nat) : Int) := Int.natCast_emod _ _
        have z2 : (m : Int) % ((S * S : Nat) : Int) = 0 := by
          unfold sgI at z
          split at z
          · have := Int.dvd_of_emod_eq_zero z
            exact Int.emod_eq_zero_of_dvd (Int.dvd_neg.1 this)
          · exact z
        omega
  · cases h
theorem xvB_of {S D : Nat} {N n d : Int} (h : rdX S N D = some (n, d)) : xvB S n d = true := by
  obtain ⟨k, rfl, h1, h2, h3, h4, h5, h6⟩ := rdX_of h
  unfold xvB
  rw [decide_eq_true]
  exact ⟨by omega, by omega, h4, h5, by rcases h6 with q | q; exact .inl (by omega); exact .inr q⟩
theorem adX_self {S D : Nat} {n : Int} (hn : -1000000000000000000 ≤ n ∧ n ≤ 1000000000000000000) : adX S n D n D = rdX S (n + n) D := by
  rw [adX_le (Nat.le_refl D)]
  unfold adO
  rw [Nat.sub_self, scN_zero, show n * ((1 : Nat) : Int) = n by omega, if_neg (by omega)]
theorem adX_back {S D k : Nat} {N n m : Int} (h : N = n * ((scN S (D - k) : Nat) : Int)) (hk : k ≤ D) (hN : N.natAbs ≤ 2000000000000000000) : adX S n k m D = rdX S (N + m) D := by
  rw [adX_le hk]
  unfold adO
  rw [← h, if_neg (by omega)]
theorem xo3_code {o : Option (Int × Int)} (h : (xo3 o 3).2.2 = 0) : ∃ n d, o = some (n, d) := by
  cases o with
  | none => simp [xo3] at h
  | some r => exact ⟨r.1, r.2, rfl⟩
theorem adV_depth {p c h s xn xd yn yd : Int} (hx : -9223372036854775808 ≤ xd ∧ xd ≤ 9223372036854775807) (hy : -9223372036854775808 ≤ yd ∧ yd ≤ 9223372036854775807) :
    -9223372036854775808 ≤ (adV p c h s xn xd yn yd).2.1 ∧ (adV p c h s xn xd yn yd).2.1 ≤ 9223372036854775807 := by
  have key : ∀ (S D : Nat) (N : Int), D ≤ 9223372036854775807 → -9223372036854775808 ≤ (xo3 (rdX S N D) 3).2.1 ∧ (xo3 (rdX S N D) 3).2.1 ≤ 9223372036854775807 := by
    intro S D N hD
    cases q : rdX S N D with
    | none => dsimp only [xo3]; omega
    | some r =>
      obtain ⟨n, d⟩ := r
      obtain ⟨k, rfl, h1, _⟩ := rdX_of q
      dsimp only [xo3]
      omega
  unfold adV
  split
  · unfold adX
    split
    · split
      · dsimp only [xo3]; omega
      · exact key _ _ _ (by omega)
    · split
      · dsimp only [xo3]; omega
      · exact key _ _ _ (by omega)
  · dsimp only; omega
/-- Three times a number is the sum of three of it. -/
theorem three_times {p c h s xn xd : Int} (h0 : sfC p c h s [(xn, xd)] = 0) (h1 : (adV p c h s xn xd xn xd).2.2 = 0) :
    adV p c h s (adV p c h s xn xd xn xd).1 (adV p c h s xn xd xn xd).2.1 xn xd = slcV p c h s xn xd 3 := by
  obtain ⟨g, hall⟩ := sfC_zero h0
  obtain ⟨S, rfl, hS⟩ := vB_side g
  have q1 := hall (xn, xd) (by simp)
  rw [Int.toNat_natCast] at q1
  obtain ⟨q11, q12, q13, q14⟩ := xvB_parts q1
  dsimp only at q1 q11 q12 q13 q14
  have e1 : adV p c h (S : Int) xn xd xn xd = xo3 (rdX S (xn + xn) xd.toNat) 3 := by
    unfold adV
    rw [sfC_same, if_pos h0, Int.toNat_natCast, adX_self ⟨q13, q14⟩]
  rw [e1] at h1 ⊢
  obtain ⟨n, d, hr⟩ := xo3_code h1
  rw [hr]
  dsimp only [xo3]
  obtain ⟨k, rfl, k1, k2, k3, k4, k5, k6⟩ := rdX_of hr
  have hv := xvB_of hr
  have e2 : sfC p c h (S : Int) [(n, (k : Int)), (xn, xd)] = 0 := by
    rw [sfC_two g, hv, q1]
    rfl
  unfold adV slcV
  rw [if_pos e2, if_pos h0, Int.toNat_natCast, Int.toNat_natCast, adX_back k3 k1 (by omega), show inB 3 (-1000) 1000 = true from rfl, if_pos rfl, show xn + xn + xn = xn * 3 by omega]
end Go.Proofs.Ytgifkopgnpdkiaa
