/- Texts of a proof, laid together. -/
import Derived.Test.YtnlclmlnpkncoaaGreatW14
namespace Go.Proofs.YtnlclmlnpkncoaaGreat
set_option linter.unusedVariables false
set_option linter.unusedSimpArgs false
/-! Weighted sums. -/
def wtF (f : Nat → Int) : Nat → List Int → Int
  | _, [] => 0
  | k, x :: l => f k * x + wtF f (k + 1) l
theorem wtF_set (f : Nat → Int) (y : Int) : ∀ (p : List Int) (k i : Nat), i < p.length → wtF f k (p.set i y) = wtF f k p + f (k + i) * (y - p.getD i 0)
  | [], k, i, h => by simp at h
  | x :: l, k, 0, h => by
    simp only [List.set_cons_zero, wtF, List.getD_cons_zero, Nat.add_zero, Int.mul_sub]
    omega
  | x :: l, k, i + 1, h => by
    have ih := wtF_set f y l (k + 1) i (by simpa using h)
    simp only [List.set_cons_succ, wtF, List.getD_cons_succ]
    rw [ih, show k + 1 + i = k + (i + 1) by omega]
    omega
theorem wtF_one : ∀ (p : List Int) (k : Nat), wtF (fun _ => 1) k p = p.sum
  | [], k => rfl
  | x :: l, k => by rw [wtF, wtF_one l, List.sum_cons]; omega
def NN (p : List Int) : Prop := ∀ x ∈ p, (0 : Int) ≤ x
theorem NN.tail {x : Int} {p : List Int} (h : NN (x :: p)) : 0 ≤ x ∧ NN p := ⟨h x (by simp), fun y hy => h y (by simp [hy])⟩
theorem NN.at {p : List Int} (h : NN p) (i : Nat) : 0 ≤ p.getD i 0 := by
  rcases Nat.lt_or_ge i p.length with q | q
  · exact h _ (getD_mem q)
  · rw [getD_out q]; exact Int.le_refl _
theorem NN.sum {p : List Int} : NN p → 0 ≤ p.sum := by
  induction p with
  | nil => intro _; simp
  | cons x l ih => intro h; have := ih h.tail.2; have := h.tail.1; rw [List.sum_cons]; omega
theorem wtF_ge (f : Nat → Int) (hf : ∀ k, 1 ≤ f k) : ∀ (p : List Int) (k : Nat), NN p → p.sum ≤ wtF f k p
  | [], k, _ => by simp [wtF]
  | x :: l, k, h => by
    have ih := wtF_ge f hf l (k + 1) h.tail.2
    rw [wtF, List.sum_cons]
    have h1 := Int.mul_le_mul_of_nonneg_right (hf k) h.tail.1
    omega
theorem wtF_zero (f : Nat → Int) : ∀ (p : List Int) (k : Nat), (∀ x ∈ p, x = 0) → wtF f k p = 0
  | [], k, _ => rfl
  | x :: l, k, h => by rw [wtF, wtF_zero f l _ (fun y hy => h y (by simp [hy])), h x (by simp)]; omega
theorem zero_all {p : List Int} : NN p → p.sum = 0 → ∀ x ∈ p, x = 0 := by
  induction p with
  | nil => intro _ _ x hx; simp at hx
  | cons y l ih =>
    intro h e x hx
    have h1 := h.tail.1
    have h2 := h.tail.2.sum
    rw [List.sum_cons] at e
    rcases List.mem_cons.1 hx with q | q
    · subst q; omega
    · exact ih h.tail.2 (by omega) x q
theorem zero_at {p : List Int} (h : NN p) (e : p.sum = 0) (i : Nat) : p.getD i 0 = 0 := by
  rcases Nat.lt_or_ge i p.length with q | q
  · exact zero_all h e _ (getD_mem q)
  · exact getD_out q
theorem zero_uniq {p q : List Int} (hp : NN p) (hq : NN q) (ep : p.sum = 0) (eq_ : q.sum = 0) (hl : p.length = q.length) : p = q :=
  ext_getD hl fun j => by rw [zero_at hp ep, zero_at hq eq_]
theorem sum_ge {p : List Int} (h : NN p) (i : Nat) : p.getD i 0 ≤ p.sum := by
  induction p generalizing i with
  | nil => simp
  | cons x l ih =>
    have h1 := h.tail.1
    have h2 := h.tail.2.sum
    cases i with
    | zero => simp only [List.getD_cons_zero, List.sum_cons]; omega
    | succ i => have := ih h.tail.2 i; simp only [List.getD_cons_succ, List.sum_cons]; omega
theorem sum_ge2 {p : List Int} (h : NN p) {i j : Nat} (hij : i < j) : p.getD i 0 + p.getD j 0 ≤ p.sum := by
  induction p generalizing i j with
  | nil => simp
  | cons x l ih =>
    obtain ⟨j, rfl⟩ : ∃ j', j = j' + 1 := ⟨j - 1, by omega⟩
    cases i with
    | zero => have := sum_ge h.tail.2 j; simp only [List.getD_cons_zero, List.getD_cons_succ, List.sum_cons]; omega
    | succ i => have := ih h.tail.2 (i := i) (j := j) (by omega); have := h.tail.1; simp only [List.getD_cons_succ, List.sum_cons]; omega
theorem NN.drop {p : List Int} (h : NN p) (k : Nat) : NN (p.drop k) := fun x hx => h x (List.mem_of_mem_drop hx)
theorem some_at : ∀ {p : List Int}, NN p → p.sum ≠ 0 → ∃ i, i < p.length ∧ 0 < p.getD i 0
  | [], _, h => by simp at h
  | x :: l, h, e => by
    by_cases q : x = 0
    · subst q
      obtain ⟨i, h1, h2⟩ := some_at h.tail.2 (by simpa using e)
      exact ⟨i + 1, by simpa using h1, by simpa using h2⟩
    · exact ⟨0, by simp, by have := h.tail.1; simp only [List.getD_cons_zero]; omega⟩
theorem dropQ_at (p : List Int) (k i : Nat) : (p.drop k).getD i 0 = p.getD (k + i) 0 := by
  simp [List.getD_eq_getElem?_getD, List.getElem?_drop]
theorem drop_zero_iff {p : List Int} (h : NN p) (k : Nat) : (p.drop k).sum = 0 ↔ ∀ i, k ≤ i → p.getD i 0 = 0 := by
  constructor
  · intro e i hi
    have := zero_at (h.drop k) e (i - k)
    rw [dropQ_at, show k + (i - k) = i by omega] at this
    exact this
  · intro e
    rcases Int.lt_or_le 0 (p.drop k).sum with q | q
    · obtain ⟨i, h1, h2⟩ := some_at (h.drop k) (by omega)
      rw [dropQ_at, e _ (by omega)] at h2
      omega
    · have := (h.drop k).sum; omega
/-! Steps with a die. -/
def asL (p : List Int) (i : Nat) (d : Int) : List Int :=
  if d ≤ i then (p.set i (p.getD i 0 - 1)).set (i - d.toNat) (p.getD (i - d.toNat) 0 + 1) else p.set i (p.getD i 0 - 1)
theorem asL_len (p : List Int) (i : Nat) (d : Int) : (asL p i d).length = p.length := by unfold asL; split <;> simp
theorem set_at (p : List Int) (i j : Nat) (y : Int) (h : i < p.length) : (p.set i y).getD j 0 = if j = i then y else p.getD j 0 := by
  simp only [List.getD_eq_getElem?_getD]
  rw [List.getElem?_set]
  by_cases e : i = j
  · subst e; simp [h]
  · rw [if_neg e, if_neg (fun q => e q.symm)]
theorem asL_nn {p : List Int} {i : Nat} {d : Int} (h : NN p) (hi : i < p.length) (h0 : 0 < p.getD i 0) : NN (asL p i d) := by
  unfold asL
  have h1 : NN (p.set i (p.getD i 0 - 1)) := fun x hx => by
    rcases List.mem_or_eq_of_mem_set hx with q | q
    · exact h x q
    · omega
  split
  · intro x hx
    rcases List.mem_or_eq_of_mem_set hx with q | q
    · exact h1 x q
    · have := h.at (i - d.toNat); omega
  · exact h1
theorem asL_wt (f : Nat → Int) {p : List Int} {i : Nat} {d : Int} (hi : i < p.length) (hd : 1 ≤ d) : wtF f 0 (asL p i d) = wtF f 0 p - f i + (if d ≤ i then f (i - d.toNat) else 0) := by
  unfold asL
  split
  · rename_i q
    rw [wtF_set _ _ _ _ _ (by simp; omega), wtF_set _ _ _ _ _ hi, set_at _ _ _ _ hi, if_neg (by omega)]
    simp only [Nat.zero_add]
    rw [show p.getD i 0 - 1 - p.getD i 0 = -1 by omega, show p.getD (i - d.toNat) 0 + 1 - p.getD (i - d.toNat) 0 = 1 by omega]
    omega
  · rw [wtF_set _ _ _ _ _ hi]
    simp only [Nat.zero_add]
    rw [show p.getD i 0 - 1 - p.getD i 0 = -1 by omega]
    omega
theorem asL_sum {p : List Int} {i : Nat} {d : Int} (hi : i < p.length) (hd : 1 ≤ d) : (asL p i d).sum = p.sum - (if d ≤ i then 0 else 1) := by
  have := asL_wt (fun _ => 1) hi hd
  rw [wtF_one, wtF_one] at this
  rw [this]
  split <;> omega
def potP (d : Int) (p : List Int) : Int := wtF (fun i => ((i : Int) + d) / d) 0 p
theorem pot_ge {d : Int} {p : List Int} (hd : 1 ≤ d) (h : NN p) : p.sum ≤ potP d p :=
  wtF_ge _ (fun k => by
    show 1 ≤ ((k : Int) + d) / d
    rw [Int.add_ediv_of_dvd_right (Int.dvd_refl d), Int.ediv_self (by omega)]
    have := Int.ediv_nonneg (a := (k : Int)) (b := d) (by omega) (by omega)
    omega) p 0 h
theorem pot_zero {d : Int} {p : List Int} (h : NN p) (e : p.sum = 0) : potP d p = 0 := wtF_zero _ _ _ (zero_all h e)
theorem pot_step {d : Int} {p : List Int} {i : Nat} (hi : i < p.length) (hd : 1 ≤ d) : potP d (asL p i d) = potP d p - 1 := by
  unfold potP
  rw [asL_wt _ hi hd]
  have e : ((i : Int) + d) / d = (i : Int) / d + 1 := by rw [Int.add_ediv_of_dvd_right (Int.dvd_refl d), Int.ediv_self (by omega)]
  split
  · rename_i q
    rw [e, show ((i - d.toNat : Nat) : Int) + d = i by omega]
    omega
  · rw [e, Int.ediv_eq_zero_of_lt (by omega) (by omega)]
    omega
def okQ (p : List Int) (d : Int) (i : Nat) : Bool := decide (p.getD i 0 ≠ 0 ∧ (d ≤ (i : Int) + 1 ∨ (p.drop (i + 1)).sum ≤ 0))
def stM (p : List Int) (d : Int) : Nat → List (List Int)
  | 0 => []
  | k + 1 => stM p d k ++ (if okQ p d k = true then [asL p k d] else [])
def stepsP (p : List Int) (d : Int) : List (List Int) := stM p d p.length
theorem stM_mem (p : List Int) (d : Int) : ∀ (k : Nat) (z : List Int), z ∈ stM p d k ↔ ∃ i, i < k ∧ okQ p d i = true ∧ z = asL p i d
  | 0, z => by simp [stM]
  | k + 1, z => by
    rw [stM, List.mem_append, stM_mem p d k z]
    constructor
    · rintro (⟨i, h1, h2, h3⟩ | h)
      · exact ⟨i, by omega, h2, h3⟩
      · split at h
        · rename_i q
          exact ⟨k, by omega, q, by simpa using h⟩
        · simp at h
    · rintro ⟨i, h1, h2, h3⟩
      by_cases e : i = k
      · subst e
        rw [if_pos h2]
        exact .inr (by simpa using h3)
      · exact .inl ⟨i, by omega, h2, h3⟩
theorem steps_mem {p : List Int} {d : Int} {z : List Int} (h : NN p) : z ∈ stepsP p d ↔ ∃ i, i < p.length ∧ 0 < p.getD i 0 ∧ okQ p d i = true ∧ z = asL p i d := by
  rw [stepsP, stM_mem]
  constructor
  · rintro ⟨i, h1, h2, h3⟩
    refine ⟨i, h1, ?_, h2, h3⟩
    have := h.at i
    simp only [okQ, decide_eq_true_eq] at h2
    omega
  · rintro ⟨i, h1, -, h2, h3⟩
    exact ⟨i, h1, h2, h3⟩
theorem top_at : ∀ {p : List Int}, NN p → p.sum ≠ 0 → ∃ i, i < p.length ∧ 0 < p.getD i 0 ∧ ∀ j, i < j → p.getD j 0 = 0
  | [], _, h => by simp at h
  | x :: l, h, e => by
    by_cases q : l.sum = 0
    · refine ⟨0, by simp, ?_, fun j hj => ?_⟩
      · have := h.tail.1
        rw [List.sum_cons] at e
        simp only [List.getD_cons_zero]
        omega
      · obtain ⟨j, rfl⟩ : ∃ j', j = j' + 1 := ⟨j - 1, by omega⟩
        simpa using zero_at h.tail.2 q j
    · obtain ⟨i, h1, h2, h3⟩ := top_at h.tail.2 q
      refine ⟨i + 1, by simpa using h1, by simpa using h2, fun j hj => ?_⟩
      obtain ⟨j, rfl⟩ : ∃ j', j = j' + 1 := ⟨j - 1, by omega⟩
      simpa using h3 j (by omega)
theorem steps_some {p : List Int} {d : Int} (h : NN p) (e : p.sum ≠ 0) : ∃ z, z ∈ stepsP p d := by
  obtain ⟨i, h1, h2, h3⟩ := top_at h e
  refine ⟨_, (steps_mem h).2 ⟨i, h1, h2, ?_, rfl⟩⟩
  simp only [okQ, decide_eq_true_eq]
  exact ⟨by omega, .inr (by rw [(drop_zero_iff h (i + 1)).2 fun j hj => h3 j (by omega)]; exact Int.le_refl _)⟩
theorem steps_none {p : List Int} {d : Int} (h : NN p) (e : p.sum = 0) : stepsP p d = [] := by
  refine List.eq_nil_iff_forall_not_mem.2 fun z hz => ?_
  obtain ⟨i, h1, h2, _⟩ := (steps_mem h).1 hz
  rw [zero_at h e i] at h2
  omega
def adK (p : List Int) (d : Int) : Nat → List (List Int)
  | 0 => []
  | j + 1 => adK p d j ++ (if 0 < p.getD (p.length - 1 - j) 0 ∧ (d ≤ ((p.length - 1 - j : Nat) : Int) + 1 ∨ adK p d j = []) then [asL p (p.length - 1 - j) d] else [])
def adL (p : List Int) (d : Int) : List (List Int) := if adK p d p.length = [] then [p] else adK p d p.length
theorem adK_nil {p : List Int} {d : Int} (h : NN p) : ∀ j, j ≤ p.length → (adK p d j = [] ↔ ∀ i, p.length - j ≤ i → p.getD i 0 = 0)
  | 0, hj => ⟨fun _ i hi => getD_out (by omega), fun _ => rfl⟩
  | j + 1, hj => by
    have ih := adK_nil (d := d) h j (by omega)
    rw [adK, List.append_eq_nil_iff]
    constructor
    · rintro ⟨h1, h2⟩ i hi
      by_cases q : p.length - j ≤ i
      · exact ih.1 h1 i q
      · obtain rfl : i = p.length - 1 - j := by omega
        have := h.at (p.length - 1 - j)
        rcases Int.lt_or_le 0 (p.getD (p.length - 1 - j) 0) with r | r
        · rw [if_pos ⟨r, .inr h1⟩] at h2
          simp at h2
        · omega
    · intro hz
      refine ⟨ih.2 fun i hi => hz i (by omega), ?_⟩
      rw [if_neg]
      rintro ⟨q, -⟩
      rw [hz _ (by omega)] at q
      omega
theorem adK_mem {p : List Int} {d : Int} (h : NN p) (z : List Int) : ∀ j, j ≤ p.length → (z ∈ adK p d j ↔ ∃ i, p.length - j ≤ i ∧ i < p.length ∧ okQ p d i = true ∧ z = asL p i d)
  | 0, hj => ⟨fun q => by simp [adK] at q, fun ⟨i, h1, h2, _⟩ => by omega⟩
  | j + 1, hj => by
    have ih := adK_mem (d := d) h z j (by omega)
    have hn := adK_nil (d := d) h j (by omega)
    have ho : okQ p d (p.length - 1 - j) = true ↔ 0 < p.getD (p.length - 1 - j) 0 ∧ (d ≤ ((p.length - 1 - j : Nat) : Int) + 1 ∨ adK p d j = []) := by
      have h0 := h.at (p.length - 1 - j)
      have hs := (h.drop (p.length - 1 - j + 1)).sum
      have hd := drop_zero_iff h (p.length - 1 - j + 1)
      rw [show p.length - 1 - j + 1 = p.length - j by omega] at hd hs
      rw [← hn] at hd
      simp only [okQ, decide_eq_true_eq]
      rw [show p.length - 1 - j + 1 = p.length - j by omega, ← hd]
      omega
    rw [adK, List.mem_append, ih]
    constructor
    · rintro (⟨i, h1, h2, h3, h4⟩ | q)
      · exact ⟨i, by omega, h2, h3, h4⟩
      · split at q
        · rename_i r
          exact ⟨p.length - 1 - j, by omega, by omega, ho.2 r, by simpa using q⟩
        · simp at q
    · rintro ⟨i, h1, h2, h3, h4⟩
      by_cases e : p.length - j ≤ i
      · exact .inl ⟨i, e, h2, h3, h4⟩
      · obtain rfl : i = p.length - 1 - j := by omega
        rw [if_pos (ho.1 h3)]
        exact .inr (by simpa using h4)
theorem adL_mem {p : List Int} {d : Int} (h : NN p) (e : p.sum ≠ 0) (z : List Int) : z ∈ adL p d ↔ z ∈ stepsP p d := by
  have hm := fun z => adK_mem (d := d) h z p.length (Nat.le_refl _)
  obtain ⟨y, hy⟩ := steps_some (d := d) h e
  have hs : ∀ z, z ∈ adK p d p.length ↔ z ∈ stepsP p d := fun z => by
    rw [hm z, stepsP, stM_mem]
    exact ⟨fun ⟨i, _, h2, h3, h4⟩ => ⟨i, h2, h3, h4⟩, fun ⟨i, h2, h3, h4⟩ => ⟨i, by omega, h2, h3, h4⟩⟩
  unfold adL
  rw [if_neg]
  · exact hs z
  · intro q
    have := (hs y).2 hy
    rw [q] at this
    simp at this
theorem adL_zero {p : List Int} {d : Int} (h : NN p) (e : p.sum = 0) : adL p d = [p] := by
  unfold adL
  rw [if_pos ((adK_nil h _ (Nat.le_refl _)).2 fun i _ => zero_at h e i)]
theorem steps_facts {p : List Int} {d : Int} {z : List Int} (h : NN p) (hd : 1 ≤ d) (hz : z ∈ stepsP p d) : NN z ∧ z.length = p.length ∧ p.sum - 1 ≤ z.sum ∧ potP d z = potP d p - 1 := by
  obtain ⟨i, h1, h2, h3, rfl⟩ := (steps_mem h).1 hz
  refine ⟨asL_nn h h1 h2, asL_len _ _ _, ?_, pot_step h1 hd⟩
  rw [asL_sum h1 hd]
  split <;> omega
theorem adL_facts {p : List Int} {d : Int} {z : List Int} (h : NN p) (hd : 1 ≤ d) (hz : z ∈ adL p d) : NN z ∧ z.length = p.length := by
  by_cases e : p.sum = 0
  · rw [adL_zero h e, List.mem_singleton] at hz
    subst hz
    exact ⟨h, rfl⟩
  · have := steps_facts h hd ((adL_mem h e z).1 hz)
    exact ⟨this.1, this.2.1⟩
/-! Plays. -/
def RM : List Int → List Int → List Int → Prop
  | [], p, z => z = p
  | d :: ds, p, z => ∃ q, q ∈ adL p d ∧ RM ds q z
theorem RM_zero {p : List Int} (h : NN p) (e : p.sum = 0) : ∀ (ds : List Int) (z : List Int), RM ds p z ↔ z = p
  | [], z => Iff.rfl
  | d :: ds, z => by
    have ih := RM_zero h e ds z
    rw [RM, adL_zero h e]
    simp [ih]
theorem RM_facts : ∀ {ds : List Int} {p z : List Int}, NN p → (∀ d ∈ ds, 1 ≤ d) → RM ds p z → NN z ∧ z.length = p.length
  | [], p, z, h, _, e => by rw [RM] at e; subst e; exact ⟨h, rfl⟩
  | d :: ds, p, z, h, hd, ⟨q, h1, h2⟩ => by
    obtain ⟨a, b⟩ := adL_facts h (hd d (by simp)) h1
    obtain ⟨a', b'⟩ := RM_facts a (fun x hx => hd x (by simp [hx])) h2
    exact ⟨a', b'.trans b⟩
theorem adL_some {p : List Int} {d : Int} (h : NN p) : ∃ q, q ∈ adL p d := by
  by_cases e : p.sum = 0
  · exact ⟨p, by rw [adL_zero h e]; simp⟩
  · obtain ⟨z, hz⟩ := steps_some (d := d) h e
    exact ⟨z, (adL_mem h e z).2 hz⟩
theorem RM_some : ∀ (ds : List Int) {p : List Int}, NN p → (∀ d ∈ ds, 1 ≤ d) → ∃ z, RM ds p z
  | [], p, _, _ => ⟨p, rfl⟩
  | d :: ds, p, h, hd => by
    obtain ⟨q, hq⟩ := adL_some (d := d) h
    obtain ⟨z, hz⟩ := RM_some ds (adL_facts h (hd d (by simp)) hq).1 (fun x hx => hd x (by simp [hx]))
    exact ⟨z, q, hq, hz⟩
def wkS (b r : List (List Int) × Int) : List (List Int) × Int :=
  if b.2 < r.2 + 1 then (putAll [] r.1, r.2 + 1) else if r.2 + 1 = b.2 then (putAll b.1 r.1, b.2) else b
def walkV : List Int → List Int → List (List Int) × Int
  | [], p => ([p], 0)
  | d :: ds, p => (stepsP p d).foldl (fun b q => wkS b (walkV ds q)) ([p], 0)
theorem wk_rest {ds : List Int} {n : Int} : ∀ (qs : List (List Int)) (L : List (List Int)), (∀ q ∈ qs, (walkV ds q).2 = n) → qs.foldl (fun b q => wkS b (walkV ds q)) (L, n + 1) = (putAll L (qs.flatMap fun q => (walkV ds q).1), n + 1)
  | [], L, _ => rfl
  | q :: qs, L, h => by
    rw [List.foldl_cons, wkS]
    dsimp only
    rw [h q (by simp), if_neg (by omega), if_pos rfl, wk_rest qs _ (fun x hx => h x (by simp [hx])), List.flatMap_cons]
    simp only [putAll, List.foldl_append]
theorem wk_all {ds : List Int} {n : Int} {p : List Int} {d : Int} (hn : 0 ≤ n) (h : ∀ q ∈ stepsP p d, (walkV ds q).2 = n) (hs : stepsP p d ≠ []) : walkV (d :: ds) p = (sdP ((stepsP p d).flatMap fun q => (walkV ds q).1), n + 1) := by
  rw [walkV]
  cases e : stepsP p d with
  | nil => exact absurd e hs
  | cons q qs =>
    rw [e] at h
    rw [List.foldl_cons, wkS]
    dsimp only
    rw [h q (by simp), if_pos (by omega), wk_rest qs _ (fun x hx => h x (by simp [hx])), List.flatMap_cons, sdP]
    simp only [putAll, List.foldl_append]
def WOK (ds p : List Int) (n : Int) : Prop := Strict (walkV ds p).1 ∧ (∀ z, z ∈ (walkV ds p).1 ↔ RM ds p z) ∧ (walkV ds p).2 = n
theorem wok_zero {p : List Int} (h : NN p) (e : p.sum = 0) : ∀ ds : List Int, WOK ds p 0
  | [] => ⟨by simp [walkV, Strict], fun z => by simp [walkV, RM], rfl⟩
  | d :: ds => by
    have hw : walkV (d :: ds) p = ([p], 0) := by rw [walkV, steps_none h e]; rfl
    refine ⟨by rw [hw]; simp [Strict], fun z => ?_, by rw [hw]⟩
    rw [hw, RM_zero h e]
    simp
theorem wok_cons {p : List Int} {d : Int} {ds : List Int} {n : Int} (h : NN p) (e : p.sum ≠ 0) (hd : ∀ x ∈ d :: ds, 1 ≤ x) (hn : 0 ≤ n) (hq : ∀ q ∈ stepsP p d, WOK ds q n) : WOK (d :: ds) p (n + 1) := by
  obtain ⟨y, hy⟩ := steps_some (d := d) h e
  have hw := wk_all (ds := ds) (p := p) (d := d) hn (fun q hq' => (hq q hq').2.2) (fun e2 => by rw [e2] at hy; simp at hy)
  have hmem : ∀ z, z ∈ ((stepsP p d).flatMap fun q => (walkV ds q).1) ↔ RM (d :: ds) p z := fun z => by
    rw [List.mem_flatMap, RM]
    constructor
    · rintro ⟨q, h1, h2⟩
      exact ⟨q, (adL_mem h e q).2 h1, ((hq q h1).2.1 z).1 h2⟩
    · rintro ⟨q, h1, h2⟩
      have h1' := (adL_mem h e q).1 h1
      exact ⟨q, h1', ((hq q h1').2.1 z).2 h2⟩
  have hlen : ∀ z ∈ ((stepsP p d).flatMap fun q => (walkV ds q).1), z.length = p.length := fun z hz => (RM_facts h hd ((hmem z).1 hz)).2
  obtain ⟨f1, f2, f3⟩ := sdP_facts hlen
  refine ⟨by rw [hw]; exact f1, fun z => ?_, by rw [hw]⟩
  rw [hw]
  exact (f3 z).trans (hmem z)
theorem wok_rep {d : Int} (hd : 1 ≤ d) : ∀ (k : Nat) {p : List Int}, NN p → WOK (List.replicate k d) p (min (k : Int) (potP d p))
  | 0, p, h => by
    have h1 := pot_ge hd h
    have h2 := h.sum
    refine ⟨by simp [walkV, Strict], fun z => by simp [walkV, RM], ?_⟩
    simp only [List.replicate_zero, walkV]
    omega
  | k + 1, p, h => by
    by_cases e : p.sum = 0
    · have := wok_zero h e (List.replicate (k + 1) d)
      rw [pot_zero h e, Int.min_eq_right (by omega)]
      exact this
    · have h1 := pot_ge hd h
      have h2 := h.sum
      have := wok_cons (d := d) (ds := List.replicate k d) (n := min (k : Int) (potP d p - 1)) h e (fun x hx => by simp at hx; rcases hx with q | ⟨-, q⟩ <;> omega) (by omega) (fun q hq => by
        obtain ⟨a, b, c, e2⟩ := steps_facts h hd hq
        rw [← e2]
        exact wok_rep hd k a)
      rw [List.replicate_succ]
      rw [show min ((k + 1 : Nat) : Int) (potP d p) = min (k : Int) (potP d p - 1) + 1 by omega]
      exact this
theorem wok_one {p : List Int} {d : Int} (hd : 1 ≤ d) (h : NN p) (e : p.sum ≠ 0) : WOK [d] p 1 := by
  have h1 := pot_ge hd h
  have h2 := h.sum
  have := wok_rep hd 1 h
  rw [show min ((1 : Nat) : Int) (potP d p) = 1 by omega] at this
  exact this
theorem lone_at {p : List Int} (h : NN p) (e : p.sum = 1) : ∃ i, i < p.length ∧ p.getD i 0 = 1 ∧ ∀ j, j ≠ i → p.getD j 0 = 0 := by
  obtain ⟨i, h1, h2⟩ := some_at h (by omega)
  have h3 := sum_ge h i
  refine ⟨i, h1, by omega, fun j hj => ?_⟩
  have h4 := h.at j
  rcases Nat.lt_or_gt_of_ne hj with q | q
  · have := sum_ge2 h q; omega
  · have := sum_ge2 h q; omega
theorem lone_steps {p : List Int} {d : Int} {i : Nat} (h : NN p) (hi : ∀ j, j ≠ i → p.getD j 0 = 0) {z : List Int} (hz : z ∈ stepsP p d) : z = asL p i d := by
  obtain ⟨j, h1, h2, h3, rfl⟩ := (steps_mem h).1 hz
  by_cases e : j = i
  · rw [e]
  · rw [hi j e] at h2; omega
theorem wok_lone {p : List Int} {a b : Int} {i : Nat} (ha : 1 ≤ a) (hb : 1 ≤ b) (h : NN p) (e : p.sum = 1) (hil : i < p.length) (hi : ∀ j, j ≠ i → p.getD j 0 = 0) : WOK [a, b] p (if a ≤ i then 2 else 1) := by
  have hs := fun z hz => lone_steps (d := a) (z := z) h hi hz
  by_cases q : a ≤ i
  · rw [if_pos q]
    refine wok_cons (n := 1) h (by omega) (by simp; omega) (by omega) fun z hz => ?_
    have f := steps_facts h ha hz
    have := hs z hz
    subst this
    refine wok_one hb f.1 ?_
    rw [asL_sum hil ha, if_pos q]
    omega
  · rw [if_neg q]
    refine wok_cons (n := 0) h (by omega) (by simp; omega) (by omega) fun z hz => ?_
    have f := steps_facts h ha hz
    have := hs z hz
    subst this
    refine wok_zero f.1 ?_ _
    rw [asL_sum hil ha, if_neg q]
    omega
theorem wok_two {p : List Int} {a b : Int} (ha : 1 ≤ a) (hb : 1 ≤ b) (h : NN p) (e : 2 ≤ p.sum) : WOK [a, b] p 2 :=
  wok_cons (n := 1) h (by omega) (by simp; omega) (by omega) fun z hz => by
    have f := steps_facts h ha hz
    exact wok_one hb f.1 (by omega)
/-! The results of a roll. -/
def resS (p : List Int) (A B : Int) : List (List Int) :=
  if A = B then (walkV [A, A, A, A] p).1
  else if (walkV [A, B] p).2 < (walkV [B, A] p).2 then (walkV [B, A] p).1
  else if (walkV [B, A] p).2 = (walkV [A, B] p).2 then putAll (walkV [A, B] p).1 (walkV [B, A] p).1 else (walkV [A, B] p).1
def aoS (L : List (List Int)) (d : Int) : List (List Int) := sdP (L.flatMap fun q => adL q d)
def aoL (p : List Int) (o : List Int) : List (List Int) := o.foldl aoS [p]
def resI (p : List Int) (os : List (List Int)) : List (List Int) := sdP (os.flatMap fun o => aoL p o)
theorem aoS_facts {L : List (List Int)} {d : Int} {n : Nat} (hd : 1 ≤ d) (hL : ∀ q ∈ L, NN q ∧ q.length = n) : Strict (aoS L d) ∧ (∀ q ∈ aoS L d, NN q ∧ q.length = n) ∧ ∀ z, z ∈ aoS L d ↔ ∃ q ∈ L, z ∈ adL q d := by
  have hf : ∀ z ∈ (L.flatMap fun q => adL q d), NN z ∧ z.length = n := fun z hz => by
    obtain ⟨q, h1, h2⟩ := List.mem_flatMap.1 hz
    have := adL_facts (hL q h1).1 hd h2
    exact ⟨this.1, this.2.trans (hL q h1).2⟩
  obtain ⟨f1, f2, f3⟩ := sdP_facts (fun z hz => (hf z hz).2)
  exact ⟨f1, fun q hq => hf q ((f3 q).1 hq), fun z => (f3 z).trans List.mem_flatMap⟩
theorem ao_mem {n : Nat} : ∀ (o : List Int) (L : List (List Int)), (∀ d ∈ o, 1 ≤ d) → (∀ q ∈ L, NN q ∧ q.length = n) → (∀ q ∈ o.foldl aoS L, NN q ∧ q.length = n) ∧ ∀ z, z ∈ o.foldl aoS L ↔ ∃ q ∈ L, RM o q z
  | [], L, _, hL => ⟨hL, fun z => by simp [RM]⟩
  | d :: o, L, hd, hL => by
    obtain ⟨f1, f2, f3⟩ := aoS_facts (hd d (by simp)) hL
    obtain ⟨g1, g2⟩ := ao_mem o (aoS L d) (fun x hx => hd x (by simp [hx])) f2
    refine ⟨g1, fun z => (g2 z).trans ?_⟩
    constructor
    · rintro ⟨q, h1, h2⟩
      obtain ⟨r, h3, h4⟩ := (f3 q).1 h1
      exact ⟨r, h3, q, h4, h2⟩
    · rintro ⟨r, h3, q, h4, h2⟩
      exact ⟨q, (f3 q).2 ⟨r, h3, h4⟩, h2⟩
theorem resI_facts {p : List Int} {os : List (List Int)} (h : NN p) (ho : ∀ o ∈ os, ∀ d ∈ o, 1 ≤ d) : Strict (resI p os) ∧ (∀ z, z ∈ resI p os ↔ ∃ o ∈ os, RM o p z) ∧ ∀ z ∈ resI p os, NN z ∧ z.length = p.length := by
  have hm : ∀ z, z ∈ (os.flatMap fun o => aoL p o) ↔ ∃ o ∈ os, RM o p z := fun z => by
    rw [List.mem_flatMap]
    constructor
    · rintro ⟨o, h1, h2⟩
      obtain ⟨q, h3, h4⟩ := ((ao_mem o [p] (ho o h1) (n := p.length) (by simp [h])).2 z).1 h2
      rw [List.mem_singleton] at h3
      subst h3
      exact ⟨o, h1, h4⟩
    · rintro ⟨o, h1, h2⟩
      exact ⟨o, h1, ((ao_mem o [p] (ho o h1) (n := p.length) (by simp [h])).2 z).2 ⟨p, by simp, h2⟩⟩
  have hl : ∀ z ∈ (os.flatMap fun o => aoL p o), NN z ∧ z.length = p.length := fun z hz => by
    obtain ⟨o, h1, h2⟩ := (hm z).1 hz
    exact RM_facts h (ho o h1) h2
  obtain ⟨f1, f2, f3⟩ := sdP_facts (fun z hz => (hl z hz).2)
  exact ⟨f1, fun z => (f3 z).trans (hm z), fun z hz => hl z ((f3 z).1 hz)⟩
theorem res_same {p : List Int} {A B : Int} (h : NN p) (hA : A = B) (hB : 1 ≤ B) : resS p A B = resI p [[A, A, A, A]] := by
  obtain ⟨f1, f2, f3⟩ := resI_facts (os := [[A, A, A, A]]) h (by simp; omega)
  obtain ⟨w1, w2, w3⟩ := wok_rep (d := A) (by omega) 4 h
  unfold resS
  rw [if_pos hA]
  exact strict_ext w1 f1 fun z => (w2 z).trans ((f2 z).trans (by simp)).symm
theorem res_diff {p : List Int} {A B : Int} (h : NN p) (hA : B < A) (hB : 1 ≤ B) : resS p A B = resI p [[A, B], [B, A]] := by
  obtain ⟨f1, f2, f3⟩ := resI_facts (os := [[A, B], [B, A]]) h (by simp; omega)
  have hm : ∀ z, z ∈ resI p [[A, B], [B, A]] ↔ RM [A, B] p z ∨ RM [B, A] p z := fun z => (f2 z).trans (by simp)
  have even : ∀ n, WOK [A, B] p n → WOK [B, A] p n → resS p A B = resI p [[A, B], [B, A]] := by
    intro n u v
    obtain ⟨u1, u2, u3⟩ := u
    obtain ⟨v1, v2, v3⟩ := v
    unfold resS
    rw [if_neg (by omega), if_neg (by omega), if_pos (by omega)]
    have l1 : ∀ z ∈ (walkV [A, B] p).1, z.length = p.length := fun z hz => (RM_facts h (by simp; omega) ((u2 z).1 hz)).2
    have l2 : ∀ z ∈ (walkV [B, A] p).1, z.length = p.length := fun z hz => (RM_facts h (by simp; omega) ((v2 z).1 hz)).2
    obtain ⟨g1, g2, g3⟩ := putAll_facts _ _ l1 l2 u1
    refine strict_ext g1 f1 fun z => (g3 z).trans ?_
    rw [hm z, u2 z, v2 z]
  have hs := h.sum
  rcases (by omega : p.sum = 0 ∨ p.sum = 1 ∨ 2 ≤ p.sum) with e | e | e
  · exact even 0 (wok_zero h e _) (wok_zero h e _)
  · obtain ⟨i, hi, _, hj⟩ := lone_at h e
    have u := wok_lone (a := A) (b := B) (by omega) hB h e hi hj
    have v := wok_lone (a := B) (b := A) hB (by omega) h e hi hj
    by_cases q1 : A ≤ i
    · rw [if_pos q1] at u
      rw [if_pos (by omega)] at v
      exact even 2 u v
    · rw [if_neg q1] at u
      by_cases q2 : B ≤ i
      · rw [if_pos q2] at v
        obtain ⟨u1, u2, u3⟩ := u
        obtain ⟨v1, v2, v3⟩ := v
        unfold resS
        rw [if_neg (by omega), if_pos (by omega)]
        refine strict_ext v1 f1 fun z => ?_
        rw [hm z, v2 z]
        refine ⟨.inr, ?_⟩
        rintro (r | r)
        · -- all borne off with the greater die
          have zero : ∀ (x y : Int), 1 ≤ x → 1 ≤ y → (¬ x ≤ i ∨ (x ≤ i ∧ ¬ y ≤ ((i - x.toNat : Nat) : Int))) → ∀ z, RM [x, y] p z → z.sum = 0 := by
            intro x y hx hy hc z hz
            obtain ⟨q, h1, r, h2, h3⟩ := hz
            have h1' := (adL_mem h (by omega) q).1 h1
            have fq := steps_facts h hx h1'
            have eq_ := lone_steps h hj h1'
            have sq : q.sum = 1 - (if x ≤ i then 0 else 1) := by rw [eq_, asL_sum hi hx, e]
            rw [RM] at h3
            rcases hc with hc | ⟨hc1, hc2⟩
            · rw [if_neg hc] at sq
              have := (RM_zero fq.1 (by omega) [y] z).1 ⟨r, h2, h3⟩
              rw [this]; omega
            · rw [if_pos hc1] at sq
              have hq : ∀ j, j ≠ i - x.toNat → q.getD j 0 = 0 := by
                intro j hj2
                rw [eq_]
                unfold asL
                rw [if_pos hc1, set_at _ _ _ _ (by simp; omega), if_neg hj2, set_at _ _ _ _ hi]
                split
                · rename_i r1
                  subst r1
                  have h9 := sum_ge h j
                  have h8 := h.at j
                  have : p.getD j 0 = 1 := by
                    obtain ⟨i', _, a1, a2⟩ := lone_at h e
                    by_cases c : j = i'
                    · rw [c]; exact a1
                    · exact absurd (hj i' (fun c2 => c c2.symm)) (by omega)
                  omega
                · rename_i r1
                  exact hj j r1
              have h2' := (adL_mem fq.1 (by omega) r).1 h2
              have er := lone_steps fq.1 hq h2'
              have hl : i - x.toNat < q.length := by rw [fq.2.1]; omega
              rw [h3, er, asL_sum hl hy, if_neg hc2]
              omega
          obtain ⟨z', hz'⟩ := RM_some [B, A] h (by simp; omega)
          have a1 := zero A B (by omega) hB (.inl q1) z r
          have a2 := zero B A hB (by omega) (.inr ⟨q2, by omega⟩) z' hz'
          have b1 := RM_facts h (by simp; omega) r
          have b2 := RM_facts h (by simp; omega) hz'
          have := zero_uniq b1.1 b2.1 a1 a2 (by rw [b1.2, b2.2])
          rw [this]
          exact hz'
        · exact r
      · rw [if_neg q2] at v
        exact even 1 u v
  · exact even 2 (wok_two (by omega) hB h e) (wok_two hB (by omega) h e)
end Go.Proofs.YtnlclmlnpkncoaaGreat
