/- The mathematics of exact numbers: sums are commutative, undone by the opposite number, and agree with comparison. -/
import Derived.Test.YtgifkopgnpdkiaaM09c
import Derived.Test.YtgifkopgnpdkiaaM09b
namespace Go.Proofs.Ytgifkopgnpdkiaa
set_option maxRecDepth 20000
set_option linter.unusedVariables false
set_option linter.unusedSimpArgs false
theorem adX_comm {S : Nat} {a b : Int} {i j : Nat} (ha : -1000000000000000000 ≤ a ∧ a ≤ 1000000000000000000) (hb : -1000000000000000000 ≤ b ∧ b ≤ 1000000000000000000) : adX S a i b j = adX S b j a i := by
  by_cases h : i = j
  · subst h
    rw [adX_le (Nat.le_refl i), adX_le (Nat.le_refl i)]
    unfold adO
    rw [Nat.sub_self, scN_zero, show a * ((1 : Nat) : Int) = a by omega, show b * ((1 : Nat) : Int) = b by omega, if_neg (by omega), if_neg (by omega), Int.add_comm]
  · by_cases h2 : i ≤ j
    · rw [adX_le h2, adX_gt (by omega)]
    · rw [adX_gt h2, adX_le (by omega)]
/-- A valid number divided by the scale of its depth, lifted to another depth, is itself. -/
theorem rdX_valid {S D k : Nat} {n : Int} (hS : 1 ≤ S ∧ S ≤ 6) (hk : k ≤ D) (h : xvB S n (k : Int) = true) : rdX S (n * ((scN S (D - k) : Nat) : Int)) D = some (n, (k : Int)) := by
  obtain ⟨h1, h2, h3, h4⟩ := xvB_parts h
  have h5 : k = 0 ∨ n.natAbs % (S * S) ≠ 0 := by
    unfold xvB at h
    simp only [decide_eq_true_eq] at h
    rcases h.2.2.2.2 with q | q
    · exact .inl (by omega)
    · refine .inr fun z => q ?_
      have e1 : ((n.natAbs % (S * S) : Nat) : Int) = ((n.natAbs : Nat) : Int) % ((S * S : Nat) : Int) := Int.natCast_emod _ _
      have z2 : ((n.natAbs : Nat) : Int) % ((S * S : Nat) : Int) = 0 := by rw [← e1, z]; rfl
      have z3 := Int.dvd_of_emod_eq_zero z2
      exact Int.emod_eq_zero_of_dvd (Int.dvd_natAbs.1 z3)
  have e : rdN (S * S) (n * ((scN S (D - k) : Nat) : Int)).natAbs D = (n.natAbs, k) := by
    rw [Int.natAbs_mul, Int.natAbs_natCast]
    exact rdN_uniq (base_range hS).1 hk rfl h5
  unfold rdX
  rw [e, if_pos ⟨by omega, by omega⟩]
  have hp := scN_pos hS.1 (D - k)
  have hs : sgI (n * ((scN S (D - k) : Nat) : Int)) n.natAbs = n := by
    unfold sgI
    by_cases c : n < 0
    · rw [if_pos (Int.mul_neg_of_neg_of_pos c (by omega))]; omega
    · rw [if_neg (by have := Int.mul_nonneg (show 0 ≤ n by omega) (show (0 : Int) ≤ ((scN S (D - k) : Nat) : Int) by omega); omega)]; omega
  rw [hs]
/-- Comparison is that of the numbers at one scale. -/
theorem cmV_at {S : Nat} (hS : 1 ≤ S) {a b : Int} {i j M : Nat} (hM : max i j = M) : cmV S a (i : Int) b (j : Int) = sg3 (a * ((scN S (M - i) : Nat) : Int)) (b * ((scN S (M - j) : Nat) : Int)) := by
  have hp := scN_pos hS i
  have hq := scN_pos hS j
  have u0 := Int.emod_nonneg a (show ((scN S i : Nat) : Int) ≠ 0 by omega)
  have u1 := Int.emod_lt_of_pos a (show 0 < ((scN S i : Nat) : Int) by omega)
  have v0 := Int.emod_nonneg b (show ((scN S j : Nat) : Int) ≠ 0 by omega)
  have v1 := Int.emod_lt_of_pos b (show 0 < ((scN S j : Nat) : Int) by omega)
  have hl := rest_less (j := M - i) hS ⟨u0, u1⟩
  have hl2 := rest_less (j := M - j) hS ⟨v0, v1⟩
  rw [show i + (M - i) = M by omega] at hl
  rw [show j + (M - j) = M by omega] at hl2
  have e1 : a * ((scN S (M - i) : Nat) : Int) = a / ((scN S i : Nat) : Int) * ((scN S M : Nat) : Int) + a % ((scN S i : Nat) : Int) * ((scN S (M - i) : Nat) : Int) := by
    conv => lhs; rw [rest_split (S := S) (m := i) a, Int.add_mul, Int.mul_assoc, ← scN_cast, show i + (M - i) = M by omega]
  have e2 : b * ((scN S (M - j) : Nat) : Int) = b / ((scN S j : Nat) : Int) * ((scN S M : Nat) : Int) + b % ((scN S j : Nat) : Int) * ((scN S (M - j) : Nat) : Int) := by
    conv => lhs; rw [rest_split (S := S) (m := j) b, Int.add_mul, Int.mul_assoc, ← scN_cast, show j + (M - j) = M by omega]
  rw [e1, e2, sg3_lift hl hl2]
  unfold cmV
  rw [Int.toNat_natCast, Int.toNat_natCast, show (max (i : Int) (j : Int) - (i : Int)).toNat = M - i by omega, show (max (i : Int) (j : Int) - (j : Int)).toNat = M - j by omega]
/-- What a sum is, at the greater depth: and its own depth. -/
theorem sum_is {S : Nat} {a b n d : Int} {i j : Nat} (hS : 1 ≤ S ∧ S ≤ 6) (ha : xvB S a (i : Int) = true) (hb : xvB S b (j : Int) = true) (h : adX S a i b j = some (n, d)) :
    ∃ k : Nat, d = (k : Int) ∧ k ≤ max i j ∧ xvB S n (k : Int) = true ∧ n * ((scN S (max i j - k) : Nat) : Int) = a * ((scN S (max i j - i) : Nat) : Int) + b * ((scN S (max i j - j) : Nat) : Int) ∧ (i ≠ j → k = max i j) := by
  obtain ⟨a1, a2, a3, a4⟩ := xvB_parts ha
  obtain ⟨b1, b2, b3, b4⟩ := xvB_parts hb
  rw [ad_form ⟨a3, a4⟩ ⟨b3, b4⟩] at h
  split at h
  · cases h
  · obtain ⟨k, rfl, k1, k2, k3, k4, k5, k6⟩ := rdX_of h
    refine ⟨k, rfl, k1, xvB_of h, k3.symm, fun hne => ?_⟩
    rcases Nat.lt_or_ge k (max i j) with q | q
    · exfalso
      have hbase : ((scN S 1 : Nat) : Int) = ((S * S : Nat) : Int) := by unfold scN; rw [Nat.pow_one]
      have dv : ∀ (x : Int) (m : Nat), 1 ≤ m → ((S * S : Nat) : Int) ∣ x * ((scN S m : Nat) : Int) := by
        intro x m hm
        obtain ⟨m, rfl⟩ : ∃ t, m = t + 1 := ⟨m - 1, by omega⟩
        rw [scN_cast, hbase]
        exact ⟨x * ((scN S m : Nat) : Int), by simp only [Int.mul_assoc, Int.mul_comm, Int.mul_left_comm]⟩
      have d1 := dv n (max i j - k) (by omega)
      rw [← k3] at d1
      have no : ∀ (x : Int) (m : Nat), xvB S x (m : Int) = true → m ≠ 0 → ¬ ((S * S : Nat) : Int) ∣ x := by
        intro x m hx hm hd
        unfold xvB at hx
        simp only [decide_eq_true_eq] at hx
        rcases hx.2.2.2.2 with z | z
        · omega
        · exact z (Int.emod_eq_zero_of_dvd hd)
      rcases Nat.lt_or_ge i j with c | c
      · rw [show max i j = j by omega, Nat.sub_self, scN_zero, show b * ((1 : Nat) : Int) = b by omega] at d1
        have d2 := dv a (j - i) (by omega)
        exact no b j hb (by omega) ((Int.dvd_add_right d2).1 d1)
      · rw [show max i j = i by omega, Nat.sub_self, scN_zero, show a * ((1 : Nat) : Int) = a by omega] at d1
        have d2 := dv b (i - j) (by omega)
        exact no a i ha (by omega) ((Int.dvd_add_left d2).1 d1)
    · omega
theorem sum_back {S : Nat} {a b n d : Int} {i j : Nat} (hS : 1 ≤ S ∧ S ≤ 6) (ha : xvB S a (i : Int) = true) (hb : xvB S b (j : Int) = true) (h : adX S a i b j = some (n, d)) :
    ∃ k : Nat, d = (k : Int) ∧ xvB S n (k : Int) = true ∧ adX S n k (-b) j = some (a, (i : Int)) ∧ cmV S n (k : Int) a (i : Int) = sg3 b 0 := by
  obtain ⟨k, rfl, k1, hv, hE, hne⟩ := sum_is hS ha hb h
  obtain ⟨a1, a2, a3, a4⟩ := xvB_parts ha
  obtain ⟨b1, b2, b3, b4⟩ := xvB_parts hb
  obtain ⟨n1, n2, n3, n4⟩ := xvB_parts hv
  obtain ⟨M, hM⟩ : ∃ M, max i j = M := ⟨_, rfl⟩
  have m1 : max k j = M := by
    by_cases c : i = j
    · omega
    · have := hne c; omega
  have m2 : max k i = M := by
    by_cases c : i = j
    · omega
    · have := hne c; omega
  have hlim : ¬ 2000000000000000000 < (b * ((scN S (M - j) : Nat) : Int)).natAbs := by
    intro q
    rw [ad_form ⟨a3, a4⟩ ⟨b3, b4⟩, hM, if_pos (.inr q)] at h
    cases h
  rw [hM] at hE hne k1
  have hlim2 : ¬ 2000000000000000000 < (n * ((scN S (M - k) : Nat) : Int)).natAbs := by
    by_cases c : i = j
    · have e1 : M - i = 0 := by omega
      have e2 : M - j = 0 := by omega
      rw [hE, e1, e2, scN_zero, show a * ((1 : Nat) : Int) = a by omega, show b * ((1 : Nat) : Int) = b by omega]
      omega
    · have e1 : M - k = 0 := by have := hne c; omega
      rw [e1, scN_zero, show n * ((1 : Nat) : Int) = n by omega]
      omega
  have hp := scN_pos hS.1 (M - j)
  refine ⟨k, rfl, hv, ?_, ?_⟩
  · have e3 : -b * ((scN S (M - j) : Nat) : Int) = -(b * ((scN S (M - j) : Nat) : Int)) := Int.neg_mul _ _
    rw [ad_form ⟨n3, n4⟩ ⟨by omega, by omega⟩, m1, e3, if_neg (by intro z; rcases z with z | z; exact hlim2 z; omega), hE,
      show a * ((scN S (M - i) : Nat) : Int) + b * ((scN S (M - j) : Nat) : Int) + -(b * ((scN S (M - j) : Nat) : Int)) = a * ((scN S (M - i) : Nat) : Int) by omega]
    exact rdX_valid hS (by omega) ha
  · rw [cmV_at hS.1 m2, hE]
    have hl := sg3_lift (a := b) (b := 0) (M := ((scN S (M - j) : Nat) : Int)) (u := 0) (v := 0) ⟨by omega, by omega⟩ ⟨by omega, by omega⟩
    rw [Int.zero_mul, Int.add_zero, Int.add_zero] at hl
    have hl2 : sg3 (b * ((scN S (M - j) : Nat) : Int)) 0 = sg3 b 0 := by
      rw [hl]
      split
      · rfl
      · rename_i q
        simp only [ne_eq, Decidable.not_not] at q
        rw [q]
        rfl
    rw [← hl2]
    unfold sg3
    have t1 : (a * ((scN S (M - i) : Nat) : Int) + b * ((scN S (M - j) : Nat) : Int) < a * ((scN S (M - i) : Nat) : Int)) ↔ b * ((scN S (M - j) : Nat) : Int) < 0 := by omega
    have t2 : (a * ((scN S (M - i) : Nat) : Int) < a * ((scN S (M - i) : Nat) : Int) + b * ((scN S (M - j) : Nat) : Int)) ↔ 0 < b * ((scN S (M - j) : Nat) : Int) := by omega
    simp only [t1, t2]
theorem xvB_neg {S : Nat} {n d : Int} (h : xvB S n d = true) : xvB S (-n) d = true := by
  unfold xvB at h ⊢
  simp only [decide_eq_true_eq] at h ⊢
  refine ⟨h.1, h.2.1, by omega, by omega, ?_⟩
  rcases h.2.2.2.2 with q | q
  · exact .inl q
  · refine .inr fun z => q ?_
    have := Int.dvd_of_emod_eq_zero z
    exact Int.emod_eq_zero_of_dvd (Int.dvd_neg.1 this)
theorem sfC_swap (p c h s : Int) (x y : Rl) : sfC p c h s [x, y] = sfC p c h s [y, x] := by
  unfold sfC
  simp only [List.all_cons, List.all_nil, Bool.and_true]
  rw [Bool.and_comm]
theorem adV_comm (p c h s xn xd yn yd : Int) : adV p c h s xn xd yn yd = adV p c h s yn yd xn xd := by
  by_cases h0 : sfC p c h s [(xn, xd), (yn, yd)] = 0
  · obtain ⟨g, hall⟩ := sfC_zero h0
    have q1 := xvB_parts (hall (xn, xd) (by simp))
    have q2 := xvB_parts (hall (yn, yd) (by simp))
    dsimp only at q1 q2
    unfold adV
    rw [sfC_swap, if_pos (by rw [sfC_swap]; exact h0), if_pos (by rw [sfC_swap]; exact h0), adX_comm q1.2.2 q2.2.2]
  · unfold adV
    rw [sfC_swap p c h s (yn, yd)]
    rw [if_neg h0, if_neg h0]
/-- All that the law of sums asks where the sum is valid. -/
theorem sums_law {p c h s xn xd yn yd : Int} (h0 : (adV p c h s xn xd yn yd).2.2 = 0) :
    slcV p c h s yn yd (-1) = (-yn, yd, 0) ∧ adV p c h s (adV p c h s xn xd yn yd).1 (adV p c h s xn xd yn yd).2.1 (-yn) yd = (xn, xd, 0) ∧
      ceV p c h s (adV p c h s xn xd yn yd).1 (adV p c h s xn xd yn yd).2.1 xn xd = (sg3 yn 0, 0) ∧ exB p c h s (adV p c h s xn xd yn yd).1 (adV p c h s xn xd yn yd).2.1 = true := by
  by_cases hc : sfC p c h s [(xn, xd), (yn, yd)] = 0
  · obtain ⟨g, hall⟩ := sfC_zero hc
    obtain ⟨S, rfl, hS⟩ := vB_side g
    have hx := hall (xn, xd) (by simp)
    have hy := hall (yn, yd) (by simp)
    rw [Int.toNat_natCast] at hx hy
    dsimp only at hx hy
    have qx := xvB_parts hx
    have qy := xvB_parts hy
    obtain ⟨i, rfl⟩ := Int.eq_ofNat_of_zero_le qx.1
    obtain ⟨j, rfl⟩ := Int.eq_ofNat_of_zero_le qy.1
    have e1 : adV p c h (S : Int) xn (i : Int) yn (j : Int) = xo3 (adX S xn i yn j) 3 := by
      unfold adV
      rw [if_pos hc, Int.toNat_natCast, Int.toNat_natCast, Int.toNat_natCast]
    rw [e1] at h0 ⊢
    obtain ⟨n, d, hr⟩ := xo3_code h0
    obtain ⟨k, rfl, hv, hback, hcm⟩ := sum_back hS hx hy hr
    rw [hr]
    dsimp only [xo3]
    refine ⟨?_, ?_, ?_, ?_⟩
    · have hone : sfC p c h (S : Int) [(yn, (j : Int))] = 0 := by rw [← sfC_same, sfC_two g, hy]; rfl
      unfold slcV
      have hz := rdX_valid (D := j) hS (Nat.le_refl j) (xvB_neg hy)
      rw [Nat.sub_self, scN_zero, show -yn * ((1 : Nat) : Int) = yn * (-1) by omega] at hz
      rw [if_pos hone, show inB (-1) (-1000) 1000 = true from rfl, if_pos rfl, Int.toNat_natCast, Int.toNat_natCast, hz]
      rfl
    · have h2 : sfC p c h (S : Int) [(n, (k : Int)), (-yn, (j : Int))] = 0 := by rw [sfC_two g, hv, xvB_neg hy]; rfl
      unfold adV
      rw [if_pos h2, Int.toNat_natCast, Int.toNat_natCast, Int.toNat_natCast, hback]
      rfl
    · have h2 : sfC p c h (S : Int) [(n, (k : Int)), (xn, (i : Int))] = 0 := by rw [sfC_two g, hv, hx]; rfl
      unfold ceV
      rw [if_pos h2, Int.toNat_natCast, hcm]
    · unfold exB
      rw [g, Int.toNat_natCast, hv]
      rfl
  · unfold adV at h0
    rw [if_neg hc] at h0
    exact absurd h0 hc
end Go.Proofs.Ytgifkopgnpdkiaa
