/- Plain mathematics of chapter 10: the number of a bear-off position, the next position, and the list with a number found place by place. -/
import Derived.Test.YtfcdndihcfgbhaaCnt
import Derived.Test.YtfcdndihcfgbhaaM02
namespace Go.Proofs.Ytfcdndihcfgbhaa
set_option linter.unusedVariables false
set_option linter.unusedSimpArgs false

theorem numL_pre : ∀ (a b b' : List Nat) (l : Nat), b.length = b'.length → numL b' (l - a.sum) = numL b (l - a.sum) + 1 → numL (a ++ b') l = numL (a ++ b) l + 1
  | [], b, b', l, _, h => by simpa using h
  | x :: xs, b, b', l, hl, h => by
    have ih := numL_pre xs b b' (l - x) hl (by simpa [Nat.sub_sub] using h)
    simp only [List.cons_append, numL, List.length_append, hl]
    omega
theorem numL_add : ∀ (a b : List Nat) (l : Nat), numL (a ++ b) l = numL (a ++ List.replicate b.length 0) l + numL b (l - a.sum)
  | [], b, l => by
    have : ∀ (n l : Nat), numL (List.replicate n 0) l = 0 := by
      intro n
      induction n with
      | zero => intro l; rfl
      | succ n ih => intro l; simp [List.replicate_succ, numL, blk, ih]
    simp [this]
  | x :: xs, b, l => by
    have ih := numL_add xs b (l - x)
    simp only [List.cons_append, numL, List.length_append, List.length_replicate, ih, List.sum_cons, Nat.sub_sub]
    omega
theorem numL_zeros : ∀ (n l : Nat), numL (List.replicate n 0) l = 0
  | 0, l => rfl
  | n + 1, l => by simp [List.replicate_succ, numL, blk, numL_zeros n l]
theorem blk_zero (l : Nat) : ∀ j, blk 0 l j = j
  | 0 => rfl
  | j + 1 => by rw [blk, blk_zero l j, cnt_zero]
/-- The number of a bear-off position with at most c checkers. -/
def bnN (ns : List Nat) (c : Nat) : Nat := numL ns.reverse c
theorem bnN_lt (ns : List Nat) (c : Nat) (h : ns.sum ≤ c) : bnN ns c < cnt ns.length c := by
  have := numL_lt ns.reverse c (by simpa using h)
  simpa [bnN] using this
/-- One checker more on the first point: the next number. -/
theorem bnN_more (x : Nat) (xs : List Nat) (c : Nat) : bnN ((x + 1) :: xs) c = bnN (x :: xs) c + 1 := by
  simp only [bnN, List.reverse_cons]
  refine numL_pre _ _ _ c rfl ?_
  simp [numL, blk_zero]
/-- All checkers are there: the lowest ones give one to the next point. -/
theorem bnN_turn (i x y : Nat) (xs : List Nat) (c : Nat) (hx : 0 < x) (hs : x + y + xs.sum = c) :
    bnN (List.replicate i 0 ++ 0 :: (y + 1) :: xs) c = bnN (List.replicate i 0 ++ x :: y :: xs) c + 1 := by
  simp only [bnN, List.reverse_append, List.reverse_cons, List.reverse_replicate, List.append_assoc, List.singleton_append, List.nil_append]
  refine numL_pre _ _ _ c (by simp) ?_
  rw [List.sum_reverse]
  have e : c - xs.sum = y + x := by omega
  rw [e]
  simp only [List.cons_append, List.nil_append, numL, List.length_cons, List.length_replicate, numL_zeros, blk]
  have h1 : y + x - y = x := by omega
  have h2 := blk_all i x x (Nat.le_refl _)
  rw [Nat.sub_self, cnt_base] at h2
  rw [h1]
  omega
/-- All checkers on the last point: the last number. -/
theorem bnN_last (i c : Nat) : bnN (List.replicate i 0 ++ [c]) c + 1 = cnt (i + 1) c := by
  simp only [bnN, List.reverse_append, List.reverse_cons, List.reverse_replicate, List.reverse_nil, List.nil_append, List.singleton_append, numL, List.length_replicate, numL_zeros]
  have h2 := blk_all i c c (Nat.le_refl _)
  rw [Nat.sub_self, cnt_base] at h2
  omega
/-- The list of n places with a number is the only one. -/
theorem numL_inj : ∀ (xs ys : List Nat) (l : Nat), xs.length = ys.length → xs.sum ≤ l → ys.sum ≤ l → numL xs l = numL ys l → xs = ys
  | [], [], _, _, _, _, _ => rfl
  | [], y :: ys, _, h, _, _, _ => by simp at h
  | x :: xs, [], _, h, _, _, _ => by simp at h
  | x :: xs, y :: ys, l, h, h1, h2, e => by
    simp only [List.length_cons, List.sum_cons] at h h1 h2
    have h' : xs.length = ys.length := by omega
    rw [numL, numL, h'] at e
    have a1 := numL_lt xs (l - x) (by omega)
    have a2 := numL_lt ys (l - y) (by omega)
    rw [h'] at a1
    have hxy : x = y := by
      rcases Nat.lt_trichotomy x y with q | q | q
      · have := blk_mono ys.length l q; omega
      · exact q
      · have := blk_mono ys.length l q; omega
    subst hxy
    rw [numL_inj xs ys (l - x) h' (by omega) (by omega) (by omega)]
theorem unr_numL (xs : List Nat) (l : Nat) (h : xs.sum ≤ l) : unr xs.length (numL xs l) l = xs := by
  obtain ⟨q1, q2, q3⟩ := unr_ok xs.length (numL xs l) l (numL_lt xs l h)
  exact numL_inj _ _ l q1 q2 h q3
/-- The first place of a list with more on it. -/
def bump (x : Nat) : List Nat → List Nat
  | [] => []
  | t :: ts => (x + t) :: ts
theorem unr_zero : ∀ (n l : Nat), unr n 0 l = List.replicate n 0
  | 0, l => rfl
  | n + 1, l => by
    obtain ⟨j, h1, h2, h3, e⟩ := unr_cons n 0 l (cnt_pos _ _)
    have hj : j = 0 := by
      have := blk_mono n l (i := 0) (j := j)
      have h4 := cnt_pos n l
      rcases Nat.eq_zero_or_pos j with q | q
      · exact q
      · have := this q; simp [blk] at this; omega
    subst hj
    rw [e, Nat.sub_zero, show (0 : Nat) - blk n l 0 = 0 by simp [blk], unr_zero n l]
    rfl
/-- A number below those that go on: nothing on this place. -/
theorem unr_low (n k l : Nat) (h : k < cnt n l) : unr (n + 1) k l = 0 :: unr n k l := by
  have hk : k < cnt (n + 1) l := by
    have := blk_all n l 0 (by omega)
    cases l with
    | zero => rw [cnt_base] at h ⊢; exact h
    | succ l => rw [cnt_step]; omega
  obtain ⟨j, h1, h2, h3, e⟩ := unr_cons n k l hk
  have hj : j = 0 := by
    rcases Nat.eq_zero_or_pos j with q | q
    · exact q
    · have := blk_mono n l (i := 0) (j := j) q; simp [blk] at this; omega
  subst hj
  rw [e]
  simp [blk]
theorem blk_shift (n l : Nat) : ∀ j, blk n (l + 1) (j + 1) = cnt n (l + 1) + blk n l j
  | 0 => by simp [blk]
  | j + 1 => by
    rw [blk, blk_shift n l j, blk, show l + 1 - (j + 1) = l - j by omega]
    omega
/-- A number beyond them: one more on this place. -/
theorem unr_high (n k l : Nat) (h : cnt n l ≤ k) (hk : k < cnt (n + 1) l) : 0 < l ∧ k - cnt n l < cnt (n + 1) (l - 1) ∧ unr (n + 1) k l = bump 1 (unr (n + 1) (k - cnt n l) (l - 1)) := by
  cases l with
  | zero => rw [cnt_base] at h hk; omega
  | succ l =>
    have hk2 : k - cnt n (l + 1) < cnt (n + 1) l := by rw [cnt_step] at hk; omega
    refine ⟨by omega, by simpa using hk2, ?_⟩
    obtain ⟨j, h1, h2, h3, e⟩ := unr_cons n k (l + 1) hk
    obtain ⟨i, g1, g2, g3, e'⟩ := unr_cons n (k - cnt n (l + 1)) l hk2
    have hij : j = i + 1 := by
      refine place_unique (b := n) (l := l + 1) (k := k) h2 h3 ?_ ?_
      · rw [blk_shift]; omega
      · rw [blk_shift, show l + 1 - (i + 1) = l - i by omega]; omega
    subst hij
    rw [e, Nat.add_sub_cancel, e', bump, blk_shift, Nat.add_comm 1 i, show l + 1 - (i + 1) = l - i by omega, Nat.sub_add_eq]
/-- What a list is on the way to the list with a number: q places are done, the next has x so far. -/
def onWay (T : List Nat) (n q k l : Nat) (xs : List Nat) : Prop :=
  xs.length = n ∧ k < cnt (n - q) l ∧ (∀ j, q < j → xs.getD j 0 = 0) ∧ T = xs.take q ++ bump (xs.getD q 0) (unr (n - q) k l)
theorem onWay_start (n k l : Nat) (h : k < cnt n l) : onWay (unr n k l) n 0 k l (List.replicate n 0) := by
  refine ⟨by simp, h, fun j _ => by simp [List.getD_eq_getElem?_getD, List.getElem?_replicate]; split <;> rfl, ?_⟩
  have : (List.replicate n 0).getD 0 0 = 0 := by cases n <;> simp [List.replicate_succ]
  rw [this, List.take_zero, List.nil_append, Nat.sub_zero]
  cases unr n k l <;> simp [bump]
theorem ext_getDN {xs ys : List Nat} (h : xs.length = ys.length) (e : ∀ i, i < xs.length → xs.getD i 0 = ys.getD i 0) : xs = ys := by
  refine List.ext_getElem h fun i h1 h2 => ?_
  have := e i h1
  rw [List.getD_eq_getElem?_getD, List.getD_eq_getElem?_getD, List.getElem?_eq_getElem h1, List.getElem?_eq_getElem h2] at this
  exact this
theorem onWay_stop {T xs : List Nat} {n q l : Nat} (h : onWay T n q 0 l xs) (hq : q ≤ n) : T = xs := by
  obtain ⟨h1, h2, h3, e⟩ := h
  rw [e, unr_zero]
  by_cases hn : q < n
  · obtain ⟨m, hm⟩ : ∃ m, n - q = m + 1 := ⟨n - q - 1, by omega⟩
    rw [hm, List.replicate_succ, bump]
    refine ext_getDN (by simp; omega) fun i hi => ?_
    rcases Nat.lt_trichotomy i q with g | g | g
    · simp only [List.getD_eq_getElem?_getD]
      rw [List.getElem?_append_left (by simp; omega)]
      simp [g]
    · subst g
      simp only [List.getD_eq_getElem?_getD]
      rw [List.getElem?_append_right (by simp; omega)]
      simp [show i - min i xs.length = 0 by omega]
    · rw [h3 i g]
      simp only [List.getD_eq_getElem?_getD]
      rw [List.getElem?_append_right (by simp; omega)]
      obtain ⟨t, ht⟩ : ∃ t, i - (xs.take q).length = t + 1 := ⟨i - (xs.take q).length - 1, by simp; omega⟩
      rw [ht, List.getElem?_cons_succ, List.getElem?_replicate]
      split <;> rfl
  · rw [show n - q = 0 by omega]
    simp [bump, List.take_of_length_le (show xs.length ≤ q by omega)]
theorem onWay_next {T xs : List Nat} {n q k l : Nat} (h : onWay T n q k l xs) (hq : q < n) (hk : k < cnt (n - 1 - q) l) : onWay T n (q + 1) k l xs := by
  obtain ⟨h1, h2, h3, e⟩ := h
  refine ⟨h1, by rw [show n - (q + 1) = n - 1 - q by omega]; exact hk, fun j hj => h3 j (by omega), ?_⟩
  rw [e, show n - q = n - 1 - q + 1 by omega, unr_low _ _ _ hk, bump, h3 (q + 1) (by omega), show n - (q + 1) = n - 1 - q by omega, Nat.add_zero]
  have e2 : xs.take (q + 1) = xs.take q ++ [xs.getD q 0] := by
    rw [List.take_succ_eq_append_getElem (by omega)]
    simp [show q < xs.length by omega]
  rw [e2, List.append_assoc, List.singleton_append]
  congr 2
  cases unr (n - 1 - q) k l <;> simp [bump]
theorem bump_bump (a b : Nat) (xs : List Nat) : bump a (bump b xs) = bump (a + b) xs := by
  cases xs <;> simp [bump, Nat.add_assoc]
theorem onWay_more {T xs : List Nat} {n q k l : Nat} (h : onWay T n q k l xs) (hq : q < n) (hk : cnt (n - 1 - q) l ≤ k) : 0 < l ∧ onWay T n q (k - cnt (n - 1 - q) l) (l - 1) (xs.set q (xs.getD q 0 + 1)) := by
  obtain ⟨h1, h2, h3, e⟩ := h
  rw [show n - q = n - 1 - q + 1 by omega] at h2 e
  obtain ⟨g1, g2, g3⟩ := unr_high _ _ _ hk h2
  refine ⟨g1, by simpa using h1, by rw [show n - q = n - 1 - q + 1 by omega]; exact g2, fun j hj => ?_, ?_⟩
  · have := h3 j hj
    simp only [List.getD_eq_getElem?_getD] at this ⊢
    rw [List.getElem?_set_ne (by omega)]
    exact this
  · rw [e, g3, bump_bump, show n - q = n - 1 - q + 1 by omega, List.take_set_of_le (by omega)]
    congr 2
    simp [List.getD_eq_getElem?_getD, List.getElem?_set_self, show q < xs.length by omega]
/-- The last place never gets passed. -/
theorem onWay_in {T xs : List Nat} {n q k l : Nat} (h : onWay T n q k l xs) (hq : q ≤ n) (hk : k ≠ 0) : q < n := by
  obtain ⟨h1, h2, h3, e⟩ := h
  rcases Nat.lt_or_ge q n with g | g
  · exact g
  · rw [show n - q = 0 by omega, cnt_zero] at h2
    omega
end Go.Proofs.Ytfcdndihcfgbhaa
