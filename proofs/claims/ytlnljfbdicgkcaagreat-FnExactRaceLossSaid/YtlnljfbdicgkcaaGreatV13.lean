/- Texts of a proof, laid together. -/
import Derived.Test.YtlnljfbdicgkcaaGreatV12
import Derived.Test.YtlnljfbdicgkcaaGreatV11
import Derived.Test.YtlnljfbdicgkcaaGreatV01
namespace Go.Proofs.YtlnljfbdicgkcaaGreat
set_option maxRecDepth 20000
set_option linter.unusedVariables false
set_option linter.unusedSimpArgs false
theorem rdX_val {S D G : Nat} {N n d : Int} (h : rdX S N D = some (n, d)) (hG : D ≤ G) : n * ((scN S (G - d.toNat) : Nat) : Int) = N * ((scN S (G - D) : Nat) : Int) ∧ d.toNat ≤ D := by
  obtain ⟨k, rfl, h1, h2, h3, -⟩ := rdX_of h
  rw [Int.toNat_natCast, h3, Int.mul_assoc, ← scN_cast, show D - k + (G - D) = G - k by omega]
  exact ⟨rfl, h1⟩
theorem adO_val {S G i j : Nat} {a b n d : Int} (h : adO S a i b j = some (n, d)) (hij : i ≤ j) (hG : j ≤ G) : n * ((scN S (G - d.toNat) : Nat) : Int) = a * ((scN S (G - i) : Nat) : Int) + b * ((scN S (G - j) : Nat) : Int) ∧ d.toNat ≤ G := by
  unfold adO at h
  split at h
  · cases h
  · obtain ⟨e, hd⟩ := rdX_val h hG
    refine ⟨?_, by omega⟩
    rw [e, Int.add_mul, Int.mul_assoc, ← scN_cast, show j - i + (G - j) = G - i by omega]
theorem adX_val {S G i j : Nat} {a b n d : Int} (h : adX S a i b j = some (n, d)) (hi : i ≤ G) (hj : j ≤ G) : n * ((scN S (G - d.toNat) : Nat) : Int) = a * ((scN S (G - i) : Nat) : Int) + b * ((scN S (G - j) : Nat) : Int) ∧ d.toNat ≤ G := by
  by_cases c : i ≤ j
  · rw [adX_le c] at h
    exact adO_val h c hj
  · rw [adX_gt c] at h
    obtain ⟨e, hd⟩ := adO_val h (by omega) hi
    exact ⟨by omega, hd⟩
theorem sg3_scale {a b C : Int} (hC : 0 < C) : sg3 (a * C) (b * C) = sg3 a b := by
  unfold sg3
  rcases Int.lt_trichotomy a b with h | h | h
  · rw [if_pos (Int.mul_lt_mul_of_pos_right h hC), if_pos h]
  · subst h; simp
  · have := Int.mul_lt_mul_of_pos_right h hC
    rw [if_neg (by omega), if_pos this, if_neg (by omega), if_pos h]
theorem cmV_val {S : Nat} (hS : 1 ≤ S ∧ S ≤ 6) {a b : Int} {i j : Int} (ha : xvB S a i = true) (hb : xvB S b j = true) : cmV S a i b j = sg3 (a * ((scN S (61 - i.toNat) : Nat) : Int)) (b * ((scN S (61 - j.toNat) : Nat) : Int)) := by
  have hn := nn_range hS
  obtain ⟨a1, a2, -⟩ := xvB_parts ha
  obtain ⟨b1, b2, -⟩ := xvB_parts hb
  obtain ⟨i, rfl⟩ := Int.eq_ofNat_of_zero_le a1
  obtain ⟨j, rfl⟩ := Int.eq_ofNat_of_zero_le b1
  rw [Int.toNat_natCast, Int.toNat_natCast, cmV_at hS.1 (M := max i j) rfl]
  have hp := scN_pos hS.1 (61 - max i j)
  rw [show 61 - i = max i j - i + (61 - max i j) by omega, show 61 - j = max i j - j + (61 - max i j) by omega, scN_cast, scN_cast, ← Int.mul_assoc, ← Int.mul_assoc, sg3_scale (by omega)]
def dm (S : Nat) : Nat := nn S - 1
def tp (S : Nat) : Int := ((scN S (dm S) : Nat) : Int)
theorem dm_in {S : Nat} (hS : 1 ≤ S ∧ S ≤ 6) : dm S < nn S ∧ dm S + 1 = nn S ∧ 9 ≤ dm S := by
  have := nn_range hS
  unfold dm
  omega
theorem tp_in {S : Nat} (hS : 1 ≤ S ∧ S ≤ 6) : 1 ≤ tp S ∧ tp S ≤ 1000000000000000 := by
  have h1 := scN_pos hS.1 (dm S)
  have h2 := scN_in hS (dm_in hS).1
  unfold tp
  omega
def IsP (S : Nat) (n d P : Int) : Prop := xvB S n d = true ∧ n * ((scN S (dm S - d.toNat) : Nat) : Int) = P
theorem ex_of {S : Nat} (hS : 1 ≤ S ∧ S ≤ 6) {n d P : Int} (h : IsP S n d P) : rdX S P (dm S) = some (n, d) := by
  obtain ⟨h1, h2⟩ := h
  obtain ⟨a1, a2, -⟩ := xvB_parts h1
  obtain ⟨k, rfl⟩ := Int.eq_ofNat_of_zero_le a1
  rw [Int.toNat_natCast] at h2
  rw [← h2]
  exact rdX_valid hS (by have := (dm_in hS).2.1; omega) h1
theorem isP_depth {S : Nat} (hS : 1 ≤ S ∧ S ≤ 6) {n d P : Int} (h : IsP S n d P) : 0 ≤ d ∧ d.toNat ≤ dm S ∧ d < ((nn S : Nat) : Int) ∧ -1000000000000000000 ≤ n ∧ n ≤ 1000000000000000000 := by
  obtain ⟨a1, a2, a3, a4⟩ := xvB_parts h.1
  have := (dm_in hS).2.1
  omega
theorem isP_abs {S : Nat} (hS : 1 ≤ S ∧ S ≤ 6) {n d P : Int} (h : IsP S n d P) (j : Nat) (h1 : d.toNat ≤ j) (h2 : j ≤ dm S) : (n * ((scN S (j - d.toNat) : Nat) : Int)).natAbs ≤ P.natAbs := by
  rw [← h.2, scN_dvd S (show j - d.toNat ≤ dm S - d.toNat by omega), Int.natCast_mul, ← Int.mul_assoc, Int.natAbs_mul _ ((scN S (dm S - d.toNat - (j - d.toNat)) : Nat) : Int), Int.natAbs_natCast]
  exact Nat.le_mul_of_pos_right _ (scN_pos hS.1 _)
theorem isP_neg {S : Nat} {n d P : Int} (h : IsP S n d P) : IsP S (-n) d (-P) := by
  obtain ⟨h1, h2⟩ := h
  refine ⟨?_, by rw [Int.neg_mul, h2]⟩
  unfold xvB at h1 ⊢
  simp only [decide_eq_true_eq] at h1 ⊢
  refine ⟨h1.1, h1.2.1, by omega, by omega, ?_⟩
  rcases h1.2.2.2.2 with q | q
  · exact .inl q
  · refine .inr (fun e => q ?_)
    have := Int.dvd_of_emod_eq_zero e
    exact Int.emod_eq_zero_of_dvd ((Int.dvd_neg).1 this)
theorem isP_one {S : Nat} (hS : 1 ≤ S ∧ S ≤ 6) : IsP S 1 0 (tp S) := by
  have := nn_range hS
  refine ⟨?_, ?_⟩
  · unfold xvB
    simp only [decide_eq_true_eq]
    exact ⟨by omega, by omega, by omega, by omega, .inl (by trivial)⟩
  · show 1 * ((scN S (dm S - 0) : Nat) : Int) = tp S
    rw [Nat.sub_zero]
    unfold tp
    omega
theorem isP_zero {S : Nat} (hS : 1 ≤ S ∧ S ≤ 6) : IsP S 0 0 0 := by
  have := nn_range hS
  refine ⟨?_, by simp⟩
  unfold xvB
  simp only [decide_eq_true_eq]
  exact ⟨by omega, by omega, by omega, by omega, .inl (by trivial)⟩
theorem isP_add {S : Nat} (hS : 1 ≤ S ∧ S ≤ 6) {a i b j P Q : Int} (h1 : IsP S a i P) (h2 : IsP S b j Q) (hP : P.natAbs ≤ 400000000000000000) (hQ : Q.natAbs ≤ 400000000000000000) :
    ∃ n d, adX S a i.toNat b j.toNat = some (n, d) ∧ IsP S n d (P + Q) := by
  obtain ⟨i0, i1, i2, i3, i4⟩ := isP_depth hS h1
  obtain ⟨j0, j1, j2, j3, j4⟩ := isP_depth hS h2
  have hm : max i.toNat j.toNat ≤ dm S := Nat.max_le.2 ⟨i1, j1⟩
  have ha := isP_abs hS h1 (max i.toNat j.toNat) (Nat.le_max_left _ _) hm
  have hb := isP_abs hS h2 (max i.toNat j.toNat) (Nat.le_max_right _ _) hm
  have hf := ad_form (S := S) (i := i.toNat) (j := j.toNat) ⟨i3, i4⟩ ⟨j3, j4⟩
  rw [if_neg (by omega)] at hf
  obtain ⟨n, d, e⟩ := rdX_some (S := S) (n := a * ((scN S (max i.toNat j.toNat - i.toNat) : Nat) : Int) + b * ((scN S (max i.toNat j.toNat - j.toNat) : Nat) : Int)) (D := max i.toNat j.toNat) (by omega) (by have := (dm_in hS).1; omega)
  rw [e] at hf
  refine ⟨n, d, hf, adX_valid hf, ?_⟩
  have := (adX_val hf i1 j1).1
  rw [h1.2, h2.2] at this
  exact this
theorem isP_mul {S : Nat} (hS : 1 ≤ S ∧ S ≤ 6) {a i P k : Int} (h1 : IsP S a i P) (hk : 1 ≤ k ∧ k ≤ 2) (hP : P.natAbs ≤ 400000000000000000) :
    ∃ n d, rdX S (a * k) i.toNat = some (n, d) ∧ IsP S n d (P * k) := by
  obtain ⟨i0, i1, i2, i3, i4⟩ := isP_depth hS h1
  have ha := isP_abs hS h1 i.toNat (Nat.le_refl _) i1
  rw [Nat.sub_self, scN_zero] at ha
  have hk2 : k = 1 ∨ k = 2 := by omega
  obtain ⟨n, d, e⟩ := rdX_some (S := S) (n := a * k) (D := i.toNat) (by rcases hk2 with rfl | rfl <;> omega) (by have := (dm_in hS).1; omega)
  refine ⟨n, d, e, xvB_of e, ?_⟩
  rw [(rdX_val e i1).1, Int.mul_right_comm, h1.2]
theorem isP_div {S : Nat} (hS : 1 ≤ S ∧ S ≤ 6) {a i P : Int} (h1 : IsP S a i P) :
    (P % ((S * S : Nat) : Int) = 0 → ∃ n d, rdX S a (i.toNat + 1) = some (n, d) ∧ IsP S n d (P / ((S * S : Nat) : Int))) ∧ (P % ((S * S : Nat) : Int) ≠ 0 → rdX S a (i.toNat + 1) = none) := by
  obtain ⟨i0, i1, i2, i3, i4⟩ := isP_depth hS h1
  have hB := base_range hS
  have hd := dm_in hS
  have hv := h1.1
  unfold xvB at hv
  simp only [decide_eq_true_eq] at hv
  obtain ⟨k, rfl⟩ := Int.eq_ofNat_of_zero_le i0
  have hP := h1.2
  rw [Int.toNat_natCast] at i1 hP ⊢
  obtain ⟨B, hBe⟩ : ∃ B : Int, ((S * S : Nat) : Int) = B := ⟨_, rfl⟩
  rw [hBe] at hv ⊢
  have hsc : ∀ m : Nat, ((scN S (m + 1) : Nat) : Int) = ((scN S m : Nat) : Int) * B := fun m => by rw [scN_succ, Int.natCast_mul, hBe]
  by_cases hk : k = dm S
  · subst hk
    rw [Nat.sub_self, scN_zero] at hP
    have hne : a % B ≠ 0 := by
      rcases hv.2.2.2.2 with q | q
      · omega
      · exact q
    have haP : a = P := by omega
    subst haP
    refine ⟨fun q => absurd q hne, fun _ => ?_⟩
    have hr : rdN (S * S) a.natAbs (dm S + 1) = (a.natAbs, dm S + 1) := rdN_stop (fun q => hne (by
      rw [← hBe]
      have : ((S * S : Nat) : Int) ∣ a := Int.ofNat_dvd_left.2 (Nat.dvd_of_mod_eq_zero q)
      exact Int.emod_eq_zero_of_dvd this))
    unfold rdX
    rw [hr, if_neg (by dsimp only; omega)]
  · have hk2 : k + 1 ≤ dm S := by omega
    have hdv : P = a * ((scN S (dm S - (k + 1)) : Nat) : Int) * B := by
      rw [← hP, show dm S - k = dm S - (k + 1) + 1 by omega, hsc, Int.mul_assoc]
    have hB0 : B ≠ 0 := by omega
    refine ⟨fun _ => ?_, fun q => absurd (by rw [hdv]; exact Int.mul_emod_left _ _) q⟩
    obtain ⟨n, d, e⟩ := rdX_some (S := S) (n := a) (D := k + 1) ⟨i3, i4⟩ (by omega)
    refine ⟨n, d, e, xvB_of e, ?_⟩
    rw [(rdX_val e hk2).1, hdv, Int.mul_ediv_cancel _ hB0]
theorem isP_cmp {S : Nat} (hS : 1 ≤ S ∧ S ≤ 6) {a i b j P Q : Int} (h1 : IsP S a i P) (h2 : IsP S b j Q) : cmV S a i b j = sg3 P Q := by
  obtain ⟨i0, i1, i2, i3, i4⟩ := isP_depth hS h1
  obtain ⟨j0, j1, j2, j3, j4⟩ := isP_depth hS h2
  have hn := nn_range hS
  have hd := dm_in hS
  rw [cmV_val hS h1.1 h2.1, show 61 - i.toNat = dm S - i.toNat + (61 - dm S) by omega, show 61 - j.toNat = dm S - j.toNat + (61 - dm S) by omega, scN_add, scN_add, Int.natCast_mul, Int.natCast_mul, ← Int.mul_assoc, ← Int.mul_assoc, h1.2, h2.2]
  have hp := scN_pos hS.1 (61 - dm S)
  obtain ⟨c, hc⟩ : ∃ c : Int, ((scN S (61 - dm S) : Nat) : Int) = c := ⟨_, rfl⟩
  rw [hc]
  have hc1 : 0 < c := by omega
  unfold sg3
  have e1 : P * c < Q * c ↔ P < Q := ⟨fun h => Int.lt_of_mul_lt_mul_right h (by omega), fun h => Int.mul_lt_mul_of_pos_right h hc1⟩
  have e2 : Q * c < P * c ↔ Q < P := ⟨fun h => Int.lt_of_mul_lt_mul_right h (by omega), fun h => Int.mul_lt_mul_of_pos_right h hc1⟩
  simp only [e1, e2]
def IsPs (S : Nat) : List Rl → List Int → Prop
  | [], [] => True
  | x :: X, P :: L => IsP S x.1 x.2 P ∧ IsPs S X L
  | _, _ => False
def wsum : List (Rl × Int) → Int
  | [] => 0
  | q :: l => q.2 * wgt q.1 + wsum l
theorem mn_sum {S : Nat} (hS : 1 ≤ S ∧ S ≤ 6) {M : Int} (hM : M ≤ 1000000000000000) : ∀ (R : List Rl) (X : List Rl) (L : List Int) (a d A : Int), IsPs S X L → (∀ P ∈ L, 0 ≤ P ∧ P ≤ M) → IsP S a d A → 0 ≤ A → A + 2 * M * L.length ≤ 200000000000000000 →
    ∃ n e, mnSum S (R.zip X) a d.toNat = some (n, e) ∧ IsP S n e (A + wsum (R.zip L))
  | [], X, L, a, d, A, hX, hL, hA, h0, hb => by
    have i0 := (isP_depth hS hA).1
    refine ⟨a, (d.toNat : Int), rfl, ?_⟩
    simp only [List.zip_nil_left, wsum, Int.add_zero]
    rw [Int.toNat_of_nonneg i0]
    exact hA
  | r :: R, [], [], a, d, A, hX, hL, hA, h0, hb => by
    have i0 := (isP_depth hS hA).1
    refine ⟨a, (d.toNat : Int), rfl, ?_⟩
    simp only [List.zip_nil_right, wsum, Int.add_zero]
    rw [Int.toNat_of_nonneg i0]
    exact hA
  | r :: R, x :: X, P :: L, a, d, A, hX, hL, hA, h0, hb => by
    obtain ⟨hx, hX2⟩ := hX
    have hP := hL P (by simp)
    have hw := wgt_in r
    rw [List.length_cons] at hb
    have hM0 : 0 ≤ M := by omega
    have hmul : 0 ≤ P * wgt r ∧ P * wgt r ≤ 2 * M := by
      have hw2 : wgt r = 1 ∨ wgt r = 2 := by omega
      rcases hw2 with e | e <;> rw [e] <;> omega
    have hl0 : (0 : Int) ≤ (L.length : Int) := by omega
    have hexp : 2 * M * ((L.length + 1 : Nat) : Int) = 2 * M * (L.length : Int) + 2 * M := by
      rw [Int.natCast_add, Int.mul_add]
      omega
    rw [hexp] at hb
    have hpos : 0 ≤ 2 * M * (L.length : Int) := Int.mul_nonneg (by omega) hl0
    obtain ⟨n1, d1, e1, p1⟩ := isP_mul hS hx hw (by omega)
    obtain ⟨n2, d2, e2, p2⟩ := isP_add hS hA p1 (by omega) (by omega)
    obtain ⟨n3, d3, e3, p3⟩ := mn_sum hS hM R X L n2 d2 (A + P * wgt r) hX2 (fun q hq => hL q (by simp [hq])) p2 (by omega) (by omega)
    refine ⟨n3, d3, ?_, ?_⟩
    · show mnSum S ((r, x) :: R.zip X) a d.toNat = some (n3, d3)
      rw [mnSum_cons, e1]
      dsimp only
      rw [e2]
      dsimp only
      exact e3
    · show IsP S n3 d3 (A + (P * wgt r + wsum (R.zip L)))
      rw [← Int.add_assoc]
      exact p3
theorem mn_parts {S : Nat} (hS : 1 ≤ S ∧ S ≤ 6) {R X : List Rl} {L : List Int} (hX : IsPs S X L) (hL : ∀ P ∈ L, 0 ≤ P ∧ P ≤ tp S) (hl : L.length ≤ 36) :
    (wsum (R.zip L) % ((S * S : Nat) : Int) = 0 → ∃ n d, mnX S (R.zip X) = some (n, d) ∧ IsP S n d (wsum (R.zip L) / ((S * S : Nat) : Int))) ∧ (wsum (R.zip L) % ((S * S : Nat) : Int) ≠ 0 → mnX S (R.zip X) = none) := by
  have ht := tp_in hS
  have hl2 : (L.length : Int) ≤ 36 := by omega
  have hmu : 2 * tp S * (L.length : Int) ≤ 2 * tp S * 36 := Int.mul_le_mul_of_nonneg_left hl2 (by omega)
  obtain ⟨n, e, h1, h2⟩ := mn_sum hS ht.2 R X L 0 0 0 hX hL (isP_zero hS) (by omega) (by omega)
  rw [Int.zero_add] at h2
  have e0 : mnX S (R.zip X) = rdX S n (e.toNat + 1) := by
    unfold mnX
    have : mnSum S (R.zip X) 0 0 = some (n, e) := h1
    rw [this]
  rw [e0]
  exact isP_div hS h2
end Go.Proofs.YtlnljfbdicgkcaaGreat
namespace Go.Proofs.YtlnljfbdicgkcaaGreat
set_option linter.unusedVariables false
set_option linter.unusedSimpArgs false
/-! The order of positions. -/
def lexC : List Int → List Int → Int
  | x :: xs, y :: ys => if x < y then -1 else if y < x then 1 else lexC xs ys
  | _, _ => 0
def cmpP (p q : List Int) : Int := lexC p.reverse q.reverse
def ltP (p q : List Int) : Bool := decide (cmpP p q < 0)
theorem lexC_cons (x y : Int) (a b : List Int) : lexC (x :: a) (y :: b) = if x < y then -1 else if y < x then 1 else lexC a b := rfl
theorem lexC_self : ∀ a : List Int, lexC a a = 0
  | [] => rfl
  | x :: a => by rw [lexC_cons, if_neg (by omega), if_neg (by omega)]; exact lexC_self a
theorem lexC_neg : ∀ a b : List Int, lexC b a = - lexC a b
  | [], [] => rfl
  | [], _ :: _ => rfl
  | _ :: _, [] => rfl
  | x :: a, y :: b => by
    have ih := lexC_neg a b
    rw [lexC_cons, lexC_cons]
    by_cases h1 : x < y
    · rw [if_neg (by omega), if_pos h1, if_pos h1]; omega
    · by_cases h2 : y < x
      · rw [if_pos h2, if_neg h1, if_pos h2]
      · rw [if_neg h2, if_neg h1, if_neg h1, if_neg h2]; exact ih
theorem lexC_eq : ∀ {a b : List Int}, a.length = b.length → lexC a b = 0 → a = b
  | [], [], _, _ => rfl
  | [], _ :: _, h, _ => by simp at h
  | _ :: _, [], h, _ => by simp at h
  | x :: a, y :: b, h, e => by
    rw [lexC_cons] at e
    split at e
    · omega
    · split at e
      · omega
      · obtain rfl : x = y := by omega
        rw [lexC_eq (by simpa using h) e]
theorem lexC_trans : ∀ {a b c : List Int}, a.length = b.length → b.length = c.length → lexC a b ≤ 0 → lexC b c ≤ 0 → lexC a c ≤ 0 ∧ (lexC a c = 0 → lexC a b = 0 ∧ lexC b c = 0)
  | [], [], [], _, _, _, _ => by simp [lexC]
  | [], [], _ :: _, _, h, _, _ => by simp at h
  | [], _ :: _, _, h, _, _, _ => by simp at h
  | _ :: _, [], _, h, _, _, _ => by simp at h
  | _ :: _, _ :: _, [], _, h, _, _ => by simp at h
  | x :: a, y :: b, z :: c, h1, h2, h3, h4 => by
    have ih := fun k3 k4 => lexC_trans (a := a) (b := b) (c := c) (by simpa using h1) (by simpa using h2) k3 k4
    rw [lexC_cons] at h3 h4
    rw [lexC_cons, lexC_cons, lexC_cons]
    by_cases c1 : x < y
    · by_cases c3 : y < z
      · rw [if_pos (by omega : x < z)]; omega
      · by_cases c4 : z < y
        · rw [if_neg c3, if_pos c4] at h4; omega
        · rw [if_pos (by omega : x < z)]; omega
    · by_cases c2 : y < x
      · rw [if_neg c1, if_pos c2] at h3; omega
      · obtain rfl : x = y := by omega
        rw [if_neg c1, if_neg c2] at h3 ⊢
        by_cases c3 : x < z
        · rw [if_pos c3]; omega
        · by_cases c4 : z < x
          · rw [if_neg c3, if_pos c4] at h4; omega
          · simp only [if_neg c3, if_neg c4] at h4 ⊢
            exact ih h3 h4
theorem cmpP_neg (p q : List Int) : cmpP q p = - cmpP p q := lexC_neg _ _
theorem cmpP_self (p : List Int) : cmpP p p = 0 := lexC_self _
theorem cmpP_eq {p q : List Int} (h : p.length = q.length) (e : cmpP p q = 0) : p = q := by
  have := lexC_eq (by simpa using h) e
  simpa using congrArg List.reverse this
theorem ltP_irr (p : List Int) : ltP p p = false := by simp [ltP, cmpP_self]
theorem ltP_asym {p q : List Int} (h : ltP p q = true) : ltP q p = false := by
  simp only [ltP, decide_eq_true_eq, decide_eq_false_iff_not] at *
  rw [cmpP_neg]; omega
theorem ltP_trans {p q r : List Int} (h1 : p.length = q.length) (h2 : q.length = r.length) (a : ltP p q = true) (b : ltP q r = true) : ltP p r = true := by
  simp only [ltP, decide_eq_true_eq] at *
  have := lexC_trans (a := p.reverse) (b := q.reverse) (c := r.reverse) (by simpa using h1) (by simpa using h2) (by unfold cmpP at a; omega) (by unfold cmpP at b; omega)
  unfold cmpP at *
  omega
theorem ltP_ntrans {p q r : List Int} (h1 : p.length = q.length) (h2 : q.length = r.length) (a : ltP p q = false) (b : ltP q r = false) : ltP p r = false := by
  simp only [ltP, decide_eq_false_iff_not] at *
  have := lexC_trans (a := r.reverse) (b := q.reverse) (c := p.reverse) (by simpa using h2.symm) (by simpa using h1.symm) (by have := cmpP_neg q r; unfold cmpP at *; omega) (by have := cmpP_neg p q; unfold cmpP at *; omega)
  have e := cmpP_neg p r
  unfold cmpP at *
  omega
theorem ltP_tri {p q : List Int} (h : p.length = q.length) (a : ltP p q = false) (b : ltP q p = false) : p = q := by
  simp only [ltP, decide_eq_false_iff_not] at *
  have := cmpP_neg p q
  exact cmpP_eq h (by omega)
/-! Lists of positions in order. -/
def Strict (l : List (List Int)) : Prop := l.Pairwise fun a b => ltP a b = true
theorem strict_ext : ∀ {l m : List (List Int)}, Strict l → Strict m → (∀ x, x ∈ l ↔ x ∈ m) → l = m
  | [], [], _, _, _ => rfl
  | [], y :: m, _, _, h => absurd ((h y).2 (by simp)) (by simp)
  | x :: l, [], _, _, h => absurd ((h x).1 (by simp)) (by simp)
  | x :: l, y :: m, hl, hm, h => by
    obtain ⟨a1, a2⟩ := List.pairwise_cons.1 hl
    obtain ⟨b1, b2⟩ := List.pairwise_cons.1 hm
    have e : x = y := by
      rcases List.mem_cons.1 ((h x).1 (by simp)) with e | e
      · exact e
      · rcases List.mem_cons.1 ((h y).2 (by simp)) with e' | e'
        · exact e'.symm
        · have := ltP_asym (a1 y e')
          rw [b1 x e] at this
          exact absurd this (by decide)
    subst e
    rw [strict_ext a2 b2 (fun z => ⟨fun hz => ?_, fun hz => ?_⟩)]
    · rcases List.mem_cons.1 ((h z).1 (by simp [hz])) with e | e
      · subst e
        have := a1 z hz
        rw [ltP_irr] at this
        exact absurd this (by decide)
      · exact e
    · rcases List.mem_cons.1 ((h z).2 (by simp [hz])) with e | e
      · subst e
        have := b1 z hz
        rw [ltP_irr] at this
        exact absurd this (by decide)
      · exact e
def putP : List (List Int) → List Int → List (List Int)
  | [], p => [p]
  | x :: l, p => if ltP x p = true then x :: putP l p else if ltP p x = true then p :: x :: l else x :: l
def atP : List (List Int) → List Int → Nat
  | [], p => 0
  | x :: l, p => if ltP x p = true then atP l p + 1 else 0
theorem atP_le : ∀ (l : List (List Int)) (p : List Int), atP l p ≤ l.length
  | [], p => Nat.le_refl _
  | x :: l, p => by
    have := atP_le l p
    rw [atP, List.length_cons]
    split <;> omega
theorem atP_before : ∀ (l : List (List Int)) (p : List Int) (j : Nat) (x : List Int), j < atP l p → l[j]? = some x → ltP x p = true
  | [], p, j, x, h, _ => by simp [atP] at h
  | y :: l, p, j, x, h, e => by
    rw [atP] at h
    split at h
    · rename_i q
      cases j with
      | zero => simp at e; subst e; exact q
      | succ j => exact atP_before l p j x (by omega) (by simpa using e)
    · omega
theorem putP_out : ∀ (l : List (List Int)) (p : List Int), putP l p = if (∃ x, l[atP l p]? = some x ∧ ltP p x = false) then l else l.take (atP l p) ++ p :: l.drop (atP l p)
  | [], p => by simp [putP, atP]
  | y :: l, p => by
    have ih := putP_out l p
    rw [putP, atP]
    by_cases h : ltP y p = true
    · rw [if_pos h, if_pos h, ih]
      simp only [List.getElem?_cons_succ, List.take_succ_cons, List.drop_succ_cons, List.cons_append]
      split <;> rfl
    · rw [if_neg h, if_neg h]
      simp only [List.getElem?_cons_zero, Option.some.injEq, List.take_zero, List.drop_zero, List.nil_append]
      by_cases h2 : ltP p y = true
      · rw [if_pos h2, if_neg]
        rintro ⟨x, e0, e⟩
        injection e0 with e0
        subst e0
        rw [h2] at e
        exact absurd e (by decide)
      · rw [if_neg h2, if_pos ⟨y, rfl, by simpa using h2⟩]
theorem putP_mem : ∀ {l : List (List Int)} {p : List Int} {n : Nat}, (∀ x ∈ l, x.length = n) → p.length = n → ∀ z, z ∈ putP l p ↔ z ∈ l ∨ z = p
  | [], p, n, _, _, z => by simp [putP]
  | x :: l, p, n, hl, hp, z => by
    have ih := putP_mem (l := l) (p := p) (fun y hy => hl y (by simp [hy])) hp z
    rw [putP]
    split
    · rw [List.mem_cons, ih, List.mem_cons]
      constructor
      · rintro (h | h | h)
        · exact .inl (.inl h)
        · exact .inl (.inr h)
        · exact .inr h
      · rintro ((h | h) | h)
        · exact .inl h
        · exact .inr (.inl h)
        · exact .inr (.inr h)
    · rename_i q1
      split
      · rw [List.mem_cons, Or.comm]
      · rename_i q2
        have e := ltP_tri (p := x) (q := p) (by rw [hl x (by simp), hp]) (by simpa using q1) (by simpa using q2)
        subst e
        constructor
        · exact .inl
        · rintro (h | h)
          · exact h
          · subst h; simp
theorem putP_len {l : List (List Int)} {p : List Int} {n : Nat} (hl : ∀ x ∈ l, x.length = n) (hp : p.length = n) : ∀ x ∈ putP l p, x.length = n := by
  intro x hx
  rcases (putP_mem hl hp x).1 hx with h | h
  · exact hl x h
  · rw [h, hp]
theorem putP_strict : ∀ {l : List (List Int)} {p : List Int} {n : Nat}, (∀ x ∈ l, x.length = n) → p.length = n → Strict l → Strict (putP l p)
  | [], p, n, _, _, _ => by simp [putP, Strict]
  | x :: l, p, n, hl, hp, hs => by
    obtain ⟨a1, a2⟩ := List.pairwise_cons.1 hs
    have hl2 : ∀ y ∈ l, y.length = n := fun y hy => hl y (by simp [hy])
    rw [putP]
    split
    · rename_i q
      refine List.pairwise_cons.2 ⟨fun z hz => ?_, putP_strict hl2 hp a2⟩
      rcases (putP_mem hl2 hp z).1 hz with h | h
      · exact a1 z h
      · subst h; exact q
    · rename_i q1
      split
      · rename_i q2
        refine List.pairwise_cons.2 ⟨fun z hz => ?_, hs⟩
        rcases List.mem_cons.1 hz with h | h
        · subst h; exact q2
        · exact ltP_trans (by rw [hp, hl x (by simp)]) (by rw [hl x (by simp), hl2 z h]) q2 (a1 z h)
      · exact hs
def putAll (l : List (List Int)) : List (List Int) → List (List Int) := List.foldl putP l
theorem putAll_facts {n : Nat} : ∀ (m l : List (List Int)), (∀ x ∈ l, x.length = n) → (∀ x ∈ m, x.length = n) → Strict l → Strict (putAll l m) ∧ (∀ x ∈ putAll l m, x.length = n) ∧ ∀ z, z ∈ putAll l m ↔ z ∈ l ∨ z ∈ m
  | [], l, hl, _, hs => ⟨hs, hl, fun z => by simp [putAll]⟩
  | p :: m, l, hl, hm, hs => by
    have hp := hm p (by simp)
    obtain ⟨h1, h2, h3⟩ := putAll_facts m (putP l p) (putP_len hl hp) (fun x hx => hm x (by simp [hx])) (putP_strict hl hp hs)
    refine ⟨h1, h2, fun z => (h3 z).trans ?_⟩
    rw [putP_mem hl hp z, List.mem_cons, or_assoc]
def sdP (l : List (List Int)) : List (List Int) := putAll [] l
theorem sdP_facts {n : Nat} {l : List (List Int)} (h : ∀ x ∈ l, x.length = n) : Strict (sdP l) ∧ (∀ x ∈ sdP l, x.length = n) ∧ ∀ z, z ∈ sdP l ↔ z ∈ l := by
  obtain ⟨h1, h2, h3⟩ := putAll_facts l [] (by simp) h List.Pairwise.nil
  exact ⟨h1, h2, fun z => (h3 z).trans (by simp)⟩
theorem sdP_is {n : Nat} {l m : List (List Int)} (h : ∀ x ∈ l, x.length = n) (hm : Strict m) (e : ∀ z, z ∈ m ↔ z ∈ l) : m = sdP l := by
  obtain ⟨h1, _, h3⟩ := sdP_facts h
  exact strict_ext hm h1 fun z => (e z).trans (h3 z).symm
end Go.Proofs.YtlnljfbdicgkcaaGreat
