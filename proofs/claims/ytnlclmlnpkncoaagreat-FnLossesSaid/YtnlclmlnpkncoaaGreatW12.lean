/- Texts of a proof, laid together. -/
import Derived.Test.YtnlclmlnpkncoaaGreatW11
import Derived.Test.YtnlclmlnpkncoaaGreatW10
import Derived.Test.YtnlclmlnpkncoaaGreatW09
namespace Go.Proofs.YtnlclmlnpkncoaaGreat
set_option maxRecDepth 20000
set_option linter.unusedVariables false
set_option linter.unusedSimpArgs false
theorem sg3_lift {a b M u v : Int} (hu : 0 ≤ u ∧ u < M) (hv : 0 ≤ v ∧ v < M) : sg3 (a * M + u) (b * M + v) = if sg3 a b ≠ 0 then sg3 a b else sg3 u v := by
  unfold sg3
  rcases Int.lt_trichotomy a b with h | h | h
  · have h2 : (a + 1) * M ≤ b * M := Int.mul_le_mul_of_nonneg_right (by omega) (by omega)
    rw [Int.add_mul, Int.one_mul] at h2
    rw [if_pos (show a * M + u < b * M + v by omega), if_pos h, if_pos (by decide)]
  · subst h
    by_cases c1 : u < v
    · rw [if_pos (show a * M + u < a * M + v by omega)]
      simp [c1]
    · rw [if_neg (show ¬ a * M + u < a * M + v by omega)]
      by_cases c2 : v < u
      · rw [if_pos (show a * M + v < a * M + u by omega)]
        simp [c1, c2]
      · rw [if_neg (show ¬ a * M + v < a * M + u by omega)]
        simp [c1, c2]
  · have h2 : (b + 1) * M ≤ a * M := Int.mul_le_mul_of_nonneg_right (by omega) (by omega)
    rw [Int.add_mul, Int.one_mul] at h2
    rw [if_neg (show ¬ a * M + u < b * M + v by omega), if_pos (show b * M + v < a * M + u by omega), if_neg (show ¬ a < b by omega), if_pos h, if_pos (by decide)]
def lexP : List Int → List Int → Int
  | [], [] => 0
  | a :: l, [] => if sg3 a 0 ≠ 0 then sg3 a 0 else lexP l []
  | [], b :: bs => if sg3 0 b ≠ 0 then sg3 0 b else lexP [] bs
  | a :: l, b :: m => if sg3 a b ≠ 0 then sg3 a b else lexP l m
theorem scN_cast (S i j : Nat) : ((scN S (i + j) : Nat) : Int) = ((scN S i : Nat) : Int) * ((scN S j : Nat) : Int) := by rw [scN_add, Int.natCast_mul]
theorem rest_split {S m : Nat} (r : Int) : r = r / ((scN S m : Nat) : Int) * ((scN S m : Nat) : Int) + r % ((scN S m : Nat) : Int) := by
  have := Int.mul_ediv_add_emod r ((scN S m : Nat) : Int)
  rw [Int.mul_comm] at this
  omega
theorem rest_less {S m j : Nat} (hS : 1 ≤ S) {u : Int} (h : 0 ≤ u ∧ u < ((scN S m : Nat) : Int)) : 0 ≤ u * ((scN S j : Nat) : Int) ∧ u * ((scN S j : Nat) : Int) < ((scN S (m + j) : Nat) : Int) := by
  have hp := scN_pos hS j
  refine ⟨Int.mul_nonneg h.1 (by omega), ?_⟩
  rw [scN_cast]
  exact Int.mul_lt_mul_of_pos_right h.2 (by omega)
theorem lexP_dg {S : Nat} (hS : 1 ≤ S) : ∀ (m n i j : Nat) (r s : Int), m + i = n + j → (0 ≤ r ∧ r < ((scN S m : Nat) : Int)) → (0 ≤ s ∧ s < ((scN S n : Nat) : Int)) →
    lexP (dgI S r m) (dgI S s n) = sg3 (r * ((scN S i : Nat) : Int)) (s * ((scN S j : Nat) : Int))
  | 0, 0, i, j, r, s, h, hr, hs => by
    rw [scN_zero] at hr hs
    obtain rfl : r = 0 := by omega
    obtain rfl : s = 0 := by omega
    rw [Int.zero_mul, Int.zero_mul]
    simp [dgI, lexP, sg3]
  | m + 1, 0, i, j, r, s, h, hr, hs => by
    have hs2 := hs
    rw [scN_zero] at hs2
    obtain rfl : s = 0 := by omega
    have hp := scN_pos hS m
    have u0 := Int.emod_nonneg r (show ((scN S m : Nat) : Int) ≠ 0 by omega)
    have u1 := Int.emod_lt_of_pos r (show 0 < ((scN S m : Nat) : Int) by omega)
    obtain ⟨j, rfl⟩ : ∃ k, j = k + 1 := ⟨j - 1, by omega⟩
    have ih := lexP_dg hS m 0 i j (r % ((scN S m : Nat) : Int)) 0 (by omega) ⟨u0, u1⟩ hs
    rw [dgI, dgI, lexP]
    rw [dgI] at ih
    rw [ih, Int.zero_mul, Int.zero_mul]
    have e : r * ((scN S i : Nat) : Int) = r / ((scN S m : Nat) : Int) * ((scN S (m + i) : Nat) : Int) + r % ((scN S m : Nat) : Int) * ((scN S i : Nat) : Int) := by
      conv => lhs; rw [rest_split (S := S) (m := m) r, Int.add_mul, Int.mul_assoc, ← scN_cast]
    have hl := rest_less (j := i) hS ⟨u0, u1⟩
    have hp2 := scN_pos hS (m + i)
    have := sg3_lift (a := r / ((scN S m : Nat) : Int)) (b := 0) (v := 0) hl ⟨by omega, by omega⟩
    rw [Int.zero_mul, Int.zero_add] at this
    rw [e, this]
  | 0, n + 1, i, j, r, s, h, hr, hs => by
    have hr2 := hr
    rw [scN_zero] at hr2
    obtain rfl : r = 0 := by omega
    have hp := scN_pos hS n
    have u0 := Int.emod_nonneg s (show ((scN S n : Nat) : Int) ≠ 0 by omega)
    have u1 := Int.emod_lt_of_pos s (show 0 < ((scN S n : Nat) : Int) by omega)
    obtain ⟨i, rfl⟩ : ∃ k, i = k + 1 := ⟨i - 1, by omega⟩
    have ih := lexP_dg hS 0 n i j 0 (s % ((scN S n : Nat) : Int)) (by omega) hr ⟨u0, u1⟩
    rw [dgI, dgI, lexP]
    rw [dgI] at ih
    rw [ih, Int.zero_mul, Int.zero_mul]
    have e : s * ((scN S j : Nat) : Int) = s / ((scN S n : Nat) : Int) * ((scN S (n + j) : Nat) : Int) + s % ((scN S n : Nat) : Int) * ((scN S j : Nat) : Int) := by
      conv => lhs; rw [rest_split (S := S) (m := n) s, Int.add_mul, Int.mul_assoc, ← scN_cast]
    have hl := rest_less (j := j) hS ⟨u0, u1⟩
    have hp2 := scN_pos hS (n + j)
    have := sg3_lift (a := 0) (u := 0) (b := s / ((scN S n : Nat) : Int)) (M := ((scN S (n + j) : Nat) : Int)) ⟨by omega, by omega⟩ hl
    rw [Int.zero_mul, Int.zero_add] at this
    rw [e, this]
  | m + 1, n + 1, i, j, r, s, h, hr, hs => by
    have hp := scN_pos hS m
    have hq := scN_pos hS n
    have u0 := Int.emod_nonneg r (show ((scN S m : Nat) : Int) ≠ 0 by omega)
    have u1 := Int.emod_lt_of_pos r (show 0 < ((scN S m : Nat) : Int) by omega)
    have v0 := Int.emod_nonneg s (show ((scN S n : Nat) : Int) ≠ 0 by omega)
    have v1 := Int.emod_lt_of_pos s (show 0 < ((scN S n : Nat) : Int) by omega)
    have ih := lexP_dg hS m n i j (r % ((scN S m : Nat) : Int)) (s % ((scN S n : Nat) : Int)) (by omega) ⟨u0, u1⟩ ⟨v0, v1⟩
    rw [dgI, dgI, lexP, ih]
    have e : r * ((scN S i : Nat) : Int) = r / ((scN S m : Nat) : Int) * ((scN S (m + i) : Nat) : Int) + r % ((scN S m : Nat) : Int) * ((scN S i : Nat) : Int) := by
      conv => lhs; rw [rest_split (S := S) (m := m) r, Int.add_mul, Int.mul_assoc, ← scN_cast]
    have e2 : s * ((scN S j : Nat) : Int) = s / ((scN S n : Nat) : Int) * ((scN S (m + i) : Nat) : Int) + s % ((scN S n : Nat) : Int) * ((scN S j : Nat) : Int) := by
      conv => lhs; rw [rest_split (S := S) (m := n) s, Int.add_mul, Int.mul_assoc, ← scN_cast, show n + j = m + i by omega]
    have hl := rest_less (j := i) hS ⟨u0, u1⟩
    have hl2 := rest_less (j := j) hS ⟨v0, v1⟩
    rw [show n + j = m + i by omega] at hl2
    rw [e, e2, sg3_lift hl hl2]
theorem cmV_lex {S : Nat} (hS : 1 ≤ S) {xn xd yn yd : Int} (hx : 0 ≤ xd) (hy : 0 ≤ yd) :
    cmV S xn xd yn yd = lexP (xn / ((scN S xd.toNat : Nat) : Int) :: dgI S (xn % ((scN S xd.toNat : Nat) : Int)) xd.toNat) (yn / ((scN S yd.toNat : Nat) : Int) :: dgI S (yn % ((scN S yd.toNat : Nat) : Int)) yd.toNat) := by
  have hp := scN_pos hS xd.toNat
  have hq := scN_pos hS yd.toNat
  have u0 := Int.emod_nonneg xn (show ((scN S xd.toNat : Nat) : Int) ≠ 0 by omega)
  have u1 := Int.emod_lt_of_pos xn (show 0 < ((scN S xd.toNat : Nat) : Int) by omega)
  have v0 := Int.emod_nonneg yn (show ((scN S yd.toNat : Nat) : Int) ≠ 0 by omega)
  have v1 := Int.emod_lt_of_pos yn (show 0 < ((scN S yd.toNat : Nat) : Int) by omega)
  unfold cmV
  rw [lexP, lexP_dg hS xd.toNat yd.toNat (max xd yd - xd).toNat (max xd yd - yd).toNat _ _ (by omega) ⟨u0, u1⟩ ⟨v0, v1⟩]
theorem rdX_valid {S D k : Nat} {n : Int} (hS : 1 ≤ S ∧ S ≤ 6) (hk : k ≤ D) (h : xvB S n (k : Int) = true) : rdX S (n * ((scN S (D - k) : Nat) : Int)) D = some (n, (k : Int)) := by
  obtain ⟨h1, h2, h3, h4⟩ := xvB_parts h
  have h5 : k = 0 ∨ n.natAbs % (S * S) ≠ 0 := by
    unfold xvB at h
    simp only [decide_eq_true_eq] at h
    rcases h.2.2.2.2 with q | q
    · exact .inl (by omega)
    · refine .inr fun z => q ?_
      have e1 : ((n.natAbs % (S * S) : Nat) : Int) = ((n.natAbs : Nat) : Int) % ((S * S : Nat) : Int) := Int.natCast_emod _ _
      have z2 : ((n.natAbs : Nat) : Int) % ((S * S : Nat) : Int) = 0 := by rw [← e1, z]; rfl
      have z3 := Int.dvd_of_emod_eq_zero z2
      exact Int.emod_eq_zero_of_dvd (Int.dvd_natAbs.1 z3)
  have e : rdN (S * S) (n * ((scN S (D - k) : Nat) : Int)).natAbs D = (n.natAbs, k) := by
    rw [Int.natAbs_mul, Int.natAbs_natCast]
    exact rdN_uniq (base_range hS).1 hk rfl h5
  unfold rdX
  rw [e, if_pos ⟨by omega, by omega⟩]
  have hp := scN_pos hS.1 (D - k)
  have hs : sgI (n * ((scN S (D - k) : Nat) : Int)) n.natAbs = n := by
    unfold sgI
    by_cases c : n < 0
    · rw [if_pos (Int.mul_neg_of_neg_of_pos c (by omega))]; omega
    · rw [if_neg (by have := Int.mul_nonneg (show 0 ≤ n by omega) (show (0 : Int) ≤ ((scN S (D - k) : Nat) : Int) by omega); omega)]; omega
  rw [hs]
theorem cmV_at {S : Nat} (hS : 1 ≤ S) {a b : Int} {i j M : Nat} (hM : max i j = M) : cmV S a (i : Int) b (j : Int) = sg3 (a * ((scN S (M - i) : Nat) : Int)) (b * ((scN S (M - j) : Nat) : Int)) := by
  have hp := scN_pos hS i
  have hq := scN_pos hS j
  have u0 := Int.emod_nonneg a (show ((scN S i : Nat) : Int) ≠ 0 by omega)
  have u1 := Int.emod_lt_of_pos a (show 0 < ((scN S i : Nat) : Int) by omega)
  have v0 := Int.emod_nonneg b (show ((scN S j : Nat) : Int) ≠ 0 by omega)
  have v1 := Int.emod_lt_of_pos b (show 0 < ((scN S j : Nat) : Int) by omega)
  have hl := rest_less (j := M - i) hS ⟨u0, u1⟩
  have hl2 := rest_less (j := M - j) hS ⟨v0, v1⟩
  rw [show i + (M - i) = M by omega] at hl
  rw [show j + (M - j) = M by omega] at hl2
  have e1 : a * ((scN S (M - i) : Nat) : Int) = a / ((scN S i : Nat) : Int) * ((scN S M : Nat) : Int) + a % ((scN S i : Nat) : Int) * ((scN S (M - i) : Nat) : Int) := by
    conv => lhs; rw [rest_split (S := S) (m := i) a, Int.add_mul, Int.mul_assoc, ← scN_cast, show i + (M - i) = M by omega]
  have e2 : b * ((scN S (M - j) : Nat) : Int) = b / ((scN S j : Nat) : Int) * ((scN S M : Nat) : Int) + b % ((scN S j : Nat) : Int) * ((scN S (M - j) : Nat) : Int) := by
    conv => lhs; rw [rest_split (S := S) (m := j) b, Int.add_mul, Int.mul_assoc, ← scN_cast, show j + (M - j) = M by omega]
  rw [e1, e2, sg3_lift hl hl2]
  unfold cmV
  rw [Int.toNat_natCast, Int.toNat_natCast, show (max (i : Int) (j : Int) - (i : Int)).toNat = M - i by omega, show (max (i : Int) (j : Int) - (j : Int)).toNat = M - j by omega]
theorem rdX_val {S D G : Nat} {N n d : Int} (h : rdX S N D = some (n, d)) (hG : D ≤ G) : n * ((scN S (G - d.toNat) : Nat) : Int) = N * ((scN S (G - D) : Nat) : Int) ∧ d.toNat ≤ D := by
  obtain ⟨k, rfl, h1, h2, h3, -⟩ := rdX_of h
  rw [Int.toNat_natCast, h3, Int.mul_assoc, ← scN_cast, show D - k + (G - D) = G - k by omega]
  exact ⟨rfl, h1⟩
theorem adO_val {S G i j : Nat} {a b n d : Int} (h : adO S a i b j = some (n, d)) (hij : i ≤ j) (hG : j ≤ G) : n * ((scN S (G - d.toNat) : Nat) : Int) = a * ((scN S (G - i) : Nat) : Int) + b * ((scN S (G - j) : Nat) : Int) ∧ d.toNat ≤ G := by
  unfold adO at h
  split at h
  · cases h
  · obtain ⟨e, hd⟩ := rdX_val h hG
    refine ⟨?_, by omega⟩
    rw [e, Int.add_mul, Int.mul_assoc, ← scN_cast, show j - i + (G - j) = G - i by omega]
theorem adX_val {S G i j : Nat} {a b n d : Int} (h : adX S a i b j = some (n, d)) (hi : i ≤ G) (hj : j ≤ G) : n * ((scN S (G - d.toNat) : Nat) : Int) = a * ((scN S (G - i) : Nat) : Int) + b * ((scN S (G - j) : Nat) : Int) ∧ d.toNat ≤ G := by
  by_cases c : i ≤ j
  · rw [adX_le c] at h
    exact adO_val h c hj
  · rw [adX_gt c] at h
    obtain ⟨e, hd⟩ := adO_val h (by omega) hi
    exact ⟨by omega, hd⟩
theorem sg3_scale {a b C : Int} (hC : 0 < C) : sg3 (a * C) (b * C) = sg3 a b := by
  unfold sg3
  rcases Int.lt_trichotomy a b with h | h | h
  · rw [if_pos (Int.mul_lt_mul_of_pos_right h hC), if_pos h]
  · subst h; simp
  · have := Int.mul_lt_mul_of_pos_right h hC
    rw [if_neg (by omega), if_pos this, if_neg (by omega), if_pos h]
theorem cmV_val {S : Nat} (hS : 1 ≤ S ∧ S ≤ 6) {a b : Int} {i j : Int} (ha : xvB S a i = true) (hb : xvB S b j = true) : cmV S a i b j = sg3 (a * ((scN S (61 - i.toNat) : Nat) : Int)) (b * ((scN S (61 - j.toNat) : Nat) : Int)) := by
  have hn := nn_range hS
  obtain ⟨a1, a2, -⟩ := xvB_parts ha
  obtain ⟨b1, b2, -⟩ := xvB_parts hb
  obtain ⟨i, rfl⟩ := Int.eq_ofNat_of_zero_le a1
  obtain ⟨j, rfl⟩ := Int.eq_ofNat_of_zero_le b1
  rw [Int.toNat_natCast, Int.toNat_natCast, cmV_at hS.1 (M := max i j) rfl]
  have hp := scN_pos hS.1 (61 - max i j)
  rw [show 61 - i = max i j - i + (61 - max i j) by omega, show 61 - j = max i j - j + (61 - max i j) by omega, scN_cast, scN_cast, ← Int.mul_assoc, ← Int.mul_assoc, sg3_scale (by omega)]
def dm (S : Nat) : Nat := nn S - 1
def tp (S : Nat) : Int := ((scN S (dm S) : Nat) : Int)
theorem dm_in {S : Nat} (hS : 1 ≤ S ∧ S ≤ 6) : dm S < nn S ∧ dm S + 1 = nn S ∧ 9 ≤ dm S := by
  have := nn_range hS
  unfold dm
  omega
theorem tp_in {S : Nat} (hS : 1 ≤ S ∧ S ≤ 6) : 1 ≤ tp S ∧ tp S ≤ 1000000000000000 := by
  have h1 := scN_pos hS.1 (dm S)
  have h2 := scN_in hS (dm_in hS).1
  unfold tp
  omega
def IsP (S : Nat) (n d P : Int) : Prop := xvB S n d = true ∧ n * ((scN S (dm S - d.toNat) : Nat) : Int) = P
theorem ex_some {S : Nat} (hS : 1 ≤ S ∧ S ≤ 6) {P : Int} (h : -1000000000000000000 ≤ P ∧ P ≤ 1000000000000000000) : ∃ n d, rdX S P (dm S) = some (n, d) ∧ IsP S n d P := by
  obtain ⟨n, d, e⟩ := rdX_some (S := S) h (dm_in hS).1
  refine ⟨n, d, e, xvB_of e, ?_⟩
  have := (rdX_val e (Nat.le_refl _)).1
  rw [Nat.sub_self, scN_zero] at this
  omega
theorem ex_of {S : Nat} (hS : 1 ≤ S ∧ S ≤ 6) {n d P : Int} (h : IsP S n d P) : rdX S P (dm S) = some (n, d) := by
  obtain ⟨h1, h2⟩ := h
  obtain ⟨a1, a2, -⟩ := xvB_parts h1
  obtain ⟨k, rfl⟩ := Int.eq_ofNat_of_zero_le a1
  rw [Int.toNat_natCast] at h2
  rw [← h2]
  exact rdX_valid hS (by have := (dm_in hS).2.1; omega) h1
theorem isP_depth {S : Nat} (hS : 1 ≤ S ∧ S ≤ 6) {n d P : Int} (h : IsP S n d P) : 0 ≤ d ∧ d.toNat ≤ dm S ∧ d < ((nn S : Nat) : Int) ∧ -1000000000000000000 ≤ n ∧ n ≤ 1000000000000000000 := by
  obtain ⟨a1, a2, a3, a4⟩ := xvB_parts h.1
  have := (dm_in hS).2.1
  omega
theorem isP_abs {S : Nat} (hS : 1 ≤ S ∧ S ≤ 6) {n d P : Int} (h : IsP S n d P) (j : Nat) (h1 : d.toNat ≤ j) (h2 : j ≤ dm S) : (n * ((scN S (j - d.toNat) : Nat) : Int)).natAbs ≤ P.natAbs := by
  rw [← h.2, scN_dvd S (show j - d.toNat ≤ dm S - d.toNat by omega), Int.natCast_mul, ← Int.mul_assoc, Int.natAbs_mul _ ((scN S (dm S - d.toNat - (j - d.toNat)) : Nat) : Int), Int.natAbs_natCast]
  exact Nat.le_mul_of_pos_right _ (scN_pos hS.1 _)
theorem isP_neg {S : Nat} {n d P : Int} (h : IsP S n d P) : IsP S (-n) d (-P) := by
  obtain ⟨h1, h2⟩ := h
  refine ⟨?_, by rw [Int.neg_mul, h2]⟩
  unfold xvB at h1 ⊢
  simp only [decide_eq_true_eq] at h1 ⊢
  refine ⟨h1.1, h1.2.1, by omega, by omega, ?_⟩
  rcases h1.2.2.2.2 with q | q
  · exact .inl q
  · refine .inr (fun e => q ?_)
    have := Int.dvd_of_emod_eq_zero e
    exact Int.emod_eq_zero_of_dvd ((Int.dvd_neg).1 this)
theorem isP_one {S : Nat} (hS : 1 ≤ S ∧ S ≤ 6) : IsP S 1 0 (tp S) := by
  have := nn_range hS
  refine ⟨?_, ?_⟩
  · unfold xvB
    simp only [decide_eq_true_eq]
    exact ⟨by omega, by omega, by omega, by omega, .inl (by trivial)⟩
  · show 1 * ((scN S (dm S - 0) : Nat) : Int) = tp S
    rw [Nat.sub_zero]
    unfold tp
    omega
theorem isP_zero {S : Nat} (hS : 1 ≤ S ∧ S ≤ 6) : IsP S 0 0 0 := by
  have := nn_range hS
  refine ⟨?_, by simp⟩
  unfold xvB
  simp only [decide_eq_true_eq]
  exact ⟨by omega, by omega, by omega, by omega, .inl (by trivial)⟩
theorem isP_add {S : Nat} (hS : 1 ≤ S ∧ S ≤ 6) {a i b j P Q : Int} (h1 : IsP S a i P) (h2 : IsP S b j Q) (hP : P.natAbs ≤ 400000000000000000) (hQ : Q.natAbs ≤ 400000000000000000) :
    ∃ n d, adX S a i.toNat b j.toNat = some (n, d) ∧ IsP S n d (P + Q) := by
  obtain ⟨i0, i1, i2, i3, i4⟩ := isP_depth hS h1
  obtain ⟨j0, j1, j2, j3, j4⟩ := isP_depth hS h2
  have hm : max i.toNat j.toNat ≤ dm S := Nat.max_le.2 ⟨i1, j1⟩
  have ha := isP_abs hS h1 (max i.toNat j.toNat) (Nat.le_max_left _ _) hm
  have hb := isP_abs hS h2 (max i.toNat j.toNat) (Nat.le_max_right _ _) hm
  have hf := ad_form (S := S) (i := i.toNat) (j := j.toNat) ⟨i3, i4⟩ ⟨j3, j4⟩
  rw [if_neg (by omega)] at hf
  obtain ⟨n, d, e⟩ := rdX_some (S := S) (n := a * ((scN S (max i.toNat j.toNat - i.toNat) : Nat) : Int) + b * ((scN S (max i.toNat j.toNat - j.toNat) : Nat) : Int)) (D := max i.toNat j.toNat) (by omega) (by have := (dm_in hS).1; omega)
  rw [e] at hf
  refine ⟨n, d, hf, adX_valid hf, ?_⟩
  have := (adX_val hf i1 j1).1
  rw [h1.2, h2.2] at this
  exact this
theorem isP_mul {S : Nat} (hS : 1 ≤ S ∧ S ≤ 6) {a i P k : Int} (h1 : IsP S a i P) (hk : 1 ≤ k ∧ k ≤ 2) (hP : P.natAbs ≤ 400000000000000000) :
    ∃ n d, rdX S (a * k) i.toNat = some (n, d) ∧ IsP S n d (P * k) := by
  obtain ⟨i0, i1, i2, i3, i4⟩ := isP_depth hS h1
  have ha := isP_abs hS h1 i.toNat (Nat.le_refl _) i1
  rw [Nat.sub_self, scN_zero] at ha
  have hk2 : k = 1 ∨ k = 2 := by omega
  obtain ⟨n, d, e⟩ := rdX_some (S := S) (n := a * k) (D := i.toNat) (by rcases hk2 with rfl | rfl <;> omega) (by have := (dm_in hS).1; omega)
  refine ⟨n, d, e, xvB_of e, ?_⟩
  rw [(rdX_val e i1).1, Int.mul_right_comm, h1.2]
theorem isP_div {S : Nat} (hS : 1 ≤ S ∧ S ≤ 6) {a i P : Int} (h1 : IsP S a i P) :
    (P % ((S * S : Nat) : Int) = 0 → ∃ n d, rdX S a (i.toNat + 1) = some (n, d) ∧ IsP S n d (P / ((S * S : Nat) : Int))) ∧ (P % ((S * S : Nat) : Int) ≠ 0 → rdX S a (i.toNat + 1) = none) := by
  obtain ⟨i0, i1, i2, i3, i4⟩ := isP_depth hS h1
  have hB := base_range hS
  have hd := dm_in hS
  have hv := h1.1
  unfold xvB at hv
  simp only [decide_eq_true_eq] at hv
  obtain ⟨k, rfl⟩ := Int.eq_ofNat_of_zero_le i0
  have hP := h1.2
  rw [Int.toNat_natCast] at i1 hP ⊢
  obtain ⟨B, hBe⟩ : ∃ B : Int, ((S * S : Nat) : Int) = B := ⟨_, rfl⟩
  rw [hBe] at hv ⊢
  have hsc : ∀ m : Nat, ((scN S (m + 1) : Nat) : Int) = ((scN S m : Nat) : Int) * B := fun m => by rw [scN_succ, Int.natCast_mul, hBe]
  by_cases hk : k = dm S
  · subst hk
    rw [Nat.sub_self, scN_zero] at hP
    have hne : a % B ≠ 0 := by
      rcases hv.2.2.2.2 with q | q
      · omega
      · exact q
    have haP : a = P := by omega
    subst haP
    refine ⟨fun q => absurd q hne, fun _ => ?_⟩
    have hr : rdN (S * S) a.natAbs (dm S + 1) = (a.natAbs, dm S + 1) := rdN_stop (fun q => hne (by
      rw [← hBe]
      have : ((S * S : Nat) : Int) ∣ a := Int.ofNat_dvd_left.2 (Nat.dvd_of_mod_eq_zero q)
      exact Int.emod_eq_zero_of_dvd this))
    unfold rdX
    rw [hr, if_neg (by dsimp only; omega)]
  · have hk2 : k + 1 ≤ dm S := by omega
    have hdv : P = a * ((scN S (dm S - (k + 1)) : Nat) : Int) * B := by
      rw [← hP, show dm S - k = dm S - (k + 1) + 1 by omega, hsc, Int.mul_assoc]
    have hB0 : B ≠ 0 := by omega
    refine ⟨fun _ => ?_, fun q => absurd (by rw [hdv]; exact Int.mul_emod_left _ _) q⟩
    obtain ⟨n, d, e⟩ := rdX_some (S := S) (n := a) (D := k + 1) ⟨i3, i4⟩ (by omega)
    refine ⟨n, d, e, xvB_of e, ?_⟩
    rw [(rdX_val e hk2).1, hdv, Int.mul_ediv_cancel _ hB0]
theorem isP_cmp {S : Nat} (hS : 1 ≤ S ∧ S ≤ 6) {a i b j P Q : Int} (h1 : IsP S a i P) (h2 : IsP S b j Q) : cmV S a i b j = sg3 P Q := by
  obtain ⟨i0, i1, i2, i3, i4⟩ := isP_depth hS h1
  obtain ⟨j0, j1, j2, j3, j4⟩ := isP_depth hS h2
  have hn := nn_range hS
  have hd := dm_in hS
  rw [cmV_val hS h1.1 h2.1, show 61 - i.toNat = dm S - i.toNat + (61 - dm S) by omega, show 61 - j.toNat = dm S - j.toNat + (61 - dm S) by omega, scN_add, scN_add, Int.natCast_mul, Int.natCast_mul, ← Int.mul_assoc, ← Int.mul_assoc, h1.2, h2.2]
  have hp := scN_pos hS.1 (61 - dm S)
  obtain ⟨c, hc⟩ : ∃ c : Int, ((scN S (61 - dm S) : Nat) : Int) = c := ⟨_, rfl⟩
  rw [hc]
  have hc1 : 0 < c := by omega
  unfold sg3
  have e1 : P * c < Q * c ↔ P < Q := ⟨fun h => Int.lt_of_mul_lt_mul_right h (by omega), fun h => Int.mul_lt_mul_of_pos_right h hc1⟩
  have e2 : Q * c < P * c ↔ Q < P := ⟨fun h => Int.lt_of_mul_lt_mul_right h (by omega), fun h => Int.mul_lt_mul_of_pos_right h hc1⟩
  simp only [e1, e2]
def IsPs (S : Nat) : List Rl → List Int → Prop
  | [], [] => True
  | x :: X, P :: L => IsP S x.1 x.2 P ∧ IsPs S X L
  | _, _ => False
def wsum : List (Rl × Int) → Int
  | [] => 0
  | q :: l => q.2 * wgt q.1 + wsum l
theorem mn_sum {S : Nat} (hS : 1 ≤ S ∧ S ≤ 6) {M : Int} (hM : M ≤ 1000000000000000) : ∀ (R : List Rl) (X : List Rl) (L : List Int) (a d A : Int), IsPs S X L → (∀ P ∈ L, 0 ≤ P ∧ P ≤ M) → IsP S a d A → 0 ≤ A → A + 2 * M * L.length ≤ 200000000000000000 →
    ∃ n e, mnSum S (R.zip X) a d.toNat = some (n, e) ∧ IsP S n e (A + wsum (R.zip L))
  | [], X, L, a, d, A, hX, hL, hA, h0, hb => by
    have i0 := (isP_depth hS hA).1
    refine ⟨a, (d.toNat : Int), rfl, ?_⟩
    simp only [List.zip_nil_left, wsum, Int.add_zero]
    rw [Int.toNat_of_nonneg i0]
    exact hA
  | r :: R, [], [], a, d, A, hX, hL, hA, h0, hb => by
    have i0 := (isP_depth hS hA).1
    refine ⟨a, (d.toNat : Int), rfl, ?_⟩
    simp only [List.zip_nil_right, wsum, Int.add_zero]
    rw [Int.toNat_of_nonneg i0]
    exact hA
  | r :: R, x :: X, P :: L, a, d, A, hX, hL, hA, h0, hb => by
    obtain ⟨hx, hX2⟩ := hX
    have hP := hL P (by simp)
    have hw := wgt_in r
    rw [List.length_cons] at hb
    have hM0 : 0 ≤ M := by omega
    have hmul : 0 ≤ P * wgt r ∧ P * wgt r ≤ 2 * M := by
      have hw2 : wgt r = 1 ∨ wgt r = 2 := by omega
      rcases hw2 with e | e <;> rw [e] <;> omega
    have hl0 : (0 : Int) ≤ (L.length : Int) := by omega
    have hexp : 2 * M * ((L.length + 1 : Nat) : Int) = 2 * M * (L.length : Int) + 2 * M := by
      rw [Int.natCast_add, Int.mul_add]
      omega
    rw [hexp] at hb
    have hpos : 0 ≤ 2 * M * (L.length : Int) := Int.mul_nonneg (by omega) hl0
    obtain ⟨n1, d1, e1, p1⟩ := isP_mul hS hx hw (by omega)
    obtain ⟨n2, d2, e2, p2⟩ := isP_add hS hA p1 (by omega) (by omega)
    obtain ⟨n3, d3, e3, p3⟩ := mn_sum hS hM R X L n2 d2 (A + P * wgt r) hX2 (fun q hq => hL q (by simp [hq])) p2 (by omega) (by omega)
    refine ⟨n3, d3, ?_, ?_⟩
    · show mnSum S ((r, x) :: R.zip X) a d.toNat = some (n3, d3)
      rw [mnSum_cons, e1]
      dsimp only
      rw [e2]
      dsimp only
      exact e3
    · show IsP S n3 d3 (A + (P * wgt r + wsum (R.zip L)))
      rw [← Int.add_assoc]
      exact p3
theorem mn_parts {S : Nat} (hS : 1 ≤ S ∧ S ≤ 6) {R X : List Rl} {L : List Int} (hX : IsPs S X L) (hL : ∀ P ∈ L, 0 ≤ P ∧ P ≤ tp S) (hl : L.length ≤ 36) :
    (wsum (R.zip L) % ((S * S : Nat) : Int) = 0 → ∃ n d, mnX S (R.zip X) = some (n, d) ∧ IsP S n d (wsum (R.zip L) / ((S * S : Nat) : Int))) ∧ (wsum (R.zip L) % ((S * S : Nat) : Int) ≠ 0 → mnX S (R.zip X) = none) := by
  have ht := tp_in hS
  have hl2 : (L.length : Int) ≤ 36 := by omega
  have hmu : 2 * tp S * (L.length : Int) ≤ 2 * tp S * 36 := Int.mul_le_mul_of_nonneg_left hl2 (by omega)
  obtain ⟨n, e, h1, h2⟩ := mn_sum hS ht.2 R X L 0 0 0 hX hL (isP_zero hS) (by omega) (by omega)
  rw [Int.zero_add] at h2
  have e0 : mnX S (R.zip X) = rdX S n (e.toNat + 1) := by
    unfold mnX
    have : mnSum S (R.zip X) 0 0 = some (n, e) := h1
    rw [this]
  rw [e0]
  exact isP_div hS h2
end Go.Proofs.YtnlclmlnpkncoaaGreat
