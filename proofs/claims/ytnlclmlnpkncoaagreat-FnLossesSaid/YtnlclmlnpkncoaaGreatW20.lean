/- Texts of a proof, laid together. -/
import Derived.Test.YtnlclmlnpkncoaaGreatW01
import Derived.Test.YtnlclmlnpkncoaaGreatW13
import Derived.Deep.LoopGhost
import Derived.Deep.RegionHeld3
namespace Go.Proofs.YtnlclmlnpkncoaaGreat
set_option linter.unusedVariables false
set_option linter.unusedSimpArgs false
def cnt : Nat → Nat → Nat
  | 0, _ => 1
  | _ + 1, 0 => 1
  | n + 1, m + 1 => cnt n (m + 1) + cnt (n + 1) m
termination_by n m => n + m
theorem cnt_zero (m : Nat) : cnt 0 m = 1 := by rw [cnt]
theorem cnt_base (n : Nat) : cnt n 0 = 1 := by cases n <;> rw [cnt]
theorem cnt_step (n m : Nat) : cnt (n + 1) (m + 1) = cnt n (m + 1) + cnt (n + 1) m := by rw [cnt]
theorem cnt_symm : ∀ n m : Nat, cnt n m = cnt m n
  | 0, m => by rw [cnt_zero, cnt_base]
  | n + 1, 0 => by rw [cnt_zero, cnt_base]
  | n + 1, m + 1 => by
    have h1 := cnt_symm n (m + 1)
    have h2 := cnt_symm (n + 1) m
    rw [cnt_step, cnt_step, h1, h2]
    omega
termination_by n m => n + m
theorem cnt_pos : ∀ n m : Nat, 1 ≤ cnt n m
  | 0, m => by rw [cnt_zero]; omega
  | n + 1, 0 => by rw [cnt_base]; omega
  | n + 1, m + 1 => by
    have h1 := cnt_pos n (m + 1)
    rw [cnt_step]
    omega
termination_by n m => n + m
theorem cnt_le_pow : ∀ n m : Nat, cnt n m ≤ 2 ^ (n + m)
  | 0, m => by rw [cnt_zero]; exact Nat.one_le_two_pow
  | n + 1, 0 => by rw [cnt_base]; exact Nat.one_le_two_pow
  | n + 1, m + 1 => by
    have h1 := cnt_le_pow n (m + 1)
    have h2 := cnt_le_pow (n + 1) m
    rw [cnt_step]
    have e1 : 2 ^ (n + 1 + (m + 1)) = 2 ^ (n + (m + 1)) + 2 ^ (n + (m + 1)) := by
      rw [show n + 1 + (m + 1) = (n + (m + 1)) + 1 by omega, Nat.pow_succ]
      omega
    have e2 : n + 1 + m = n + (m + 1) := by omega
    rw [e2] at h2
    omega
termination_by n m => n + m
theorem cnt_bound {n m : Nat} (hn : n ≤ 25) (hm : m ≤ 15) : cnt n m ≤ 1099511627776 := by
  have h := cnt_le_pow n m
  have h2 : 2 ^ (n + m) ≤ 2 ^ 40 := Nat.pow_le_pow_right (by omega) (by omega)
  have h3 : (2 : Nat) ^ 40 = 1099511627776 := by decide
  omega
theorem cnt_mul : ∀ n m : Nat, (n + 1) * cnt (n + 1) m = (n + m + 1) * cnt n m
  | n, 0 => by rw [cnt_base, cnt_base, Nat.add_zero]
  | n, m + 1 => by
    have h1 := cnt_mul n m
    have h2 := cnt_mul m n
    rw [cnt_symm (m + 1) n, cnt_symm m n] at h2
    rw [cnt_step, Nat.mul_add, h1]
    have e : (m + n + 1) * cnt n m = (n + m + 1) * cnt n m := by rw [show m + n = n + m by omega]
    rw [e] at h2
    rw [← h2, ← Nat.add_mul]
    congr 1
    omega
termination_by n m => n + m
theorem cnt_next (n m : Nat) : cnt n m * (m + n + 1) / (n + 1) = cnt (n + 1) m := by
  have h := cnt_mul n m
  rw [show cnt n m * (m + n + 1) = cnt (n + 1) m * (n + 1) by
    rw [Nat.mul_comm (cnt (n + 1) m), h, Nat.mul_comm, show m + n + 1 = n + m + 1 by omega]]
  exact Nat.mul_div_cancel _ (by omega)
theorem cnt_nextI (n m : Nat) : ((cnt n m : Int) * ((m : Int) + (n : Int) + 1)).tdiv ((n : Int) + 1) = (cnt (n + 1) m : Int) := by
  have h := cnt_next n m
  rw [← h, show ((m : Int) + (n : Int) + 1) = ((m + n + 1 : Nat) : Int) by omega, show ((n : Int) + 1) = ((n + 1 : Nat) : Int) by omega]
  rw [← Int.natCast_mul, ← Int.ofNat_tdiv]
def blk (b l : Nat) : Nat → Nat
  | 0 => 0
  | j + 1 => blk b l j + cnt b (l - j)
theorem blk_all (b : Nat) : ∀ l j : Nat, j ≤ l → blk b l j + cnt (b + 1) (l - j) = cnt (b + 1) l := by
  intro l j
  induction j with
  | zero => intro _; simp [blk]
  | succ j ih =>
    intro hj
    have h := ih (by omega)
    rw [blk, ← h]
    obtain ⟨d, hd⟩ : ∃ d, l - j = d + 1 := ⟨l - j - 1, by omega⟩
    rw [show l - (j + 1) = d by omega, hd, cnt_step]
    omega
def numL : List Nat → Nat → Nat
  | [], _ => 0
  | x :: xs, l => blk xs.length l x + numL xs (l - x)
theorem numL_lt : ∀ (xs : List Nat) (l : Nat), xs.sum ≤ l → numL xs l < cnt xs.length l
  | [], l, _ => by simp [numL, cnt_zero]
  | x :: xs, l, h => by
    simp only [List.sum_cons] at h
    have h1 := numL_lt xs (l - x) (by omega)
    rw [numL, List.length_cons]
    have h2 := blk_all xs.length l x (by omega)
    cases hd : l - x with
    | zero =>
      rw [hd] at h1 h2
      rw [cnt_base] at h1 h2
      omega
    | succ d =>
      rw [hd] at h1 h2
      rw [cnt_step] at h2
      omega
def upTo (b l k : Nat) : Nat → Nat → Nat
  | 0, j => j
  | f + 1, j => if blk b l (j + 1) ≤ k then upTo b l k f (j + 1) else j
def unr : Nat → Nat → Nat → List Nat
  | 0, _, _ => []
  | n + 1, k, l => upTo n l k (l + 1) 0 :: unr n (k - blk n l (upTo n l k (l + 1) 0)) (l - upTo n l k (l + 1) 0)
theorem upTo_spec (b l k : Nat) (hk : k < cnt (b + 1) l) : ∀ f j, j ≤ l → blk b l j ≤ k → l < j + f →
    upTo b l k f j ≤ l ∧ blk b l (upTo b l k f j) ≤ k ∧ k < blk b l (upTo b l k f j) + cnt b (l - upTo b l k f j)
  | 0, j, h1, h2, h3 => by omega
  | f + 1, j, h1, h2, h3 => by
    rw [upTo]
    by_cases h : blk b l (j + 1) ≤ k
    · rw [if_pos h]
      have hj : j + 1 ≤ l := by
        apply Classical.byContradiction
        intro hn
        obtain rfl : j = l := by omega
        have h4 := blk_all b j j (Nat.le_refl _)
        rw [blk] at h
        rw [Nat.sub_self, cnt_base] at h4
        rw [Nat.sub_self, cnt_base] at h
        omega
      exact upTo_spec b l k hk f (j + 1) hj h (by omega)
    · rw [if_neg h]
      rw [blk] at h
      exact ⟨h1, h2, by omega⟩
theorem blk_mono (b l : Nat) : ∀ {i j : Nat}, i < j → blk b l i + cnt b (l - i) ≤ blk b l j := by
  intro i j h
  induction j with
  | zero => omega
  | succ j ih =>
    rw [blk]
    by_cases e : i = j
    · subst e; omega
    · have := ih (by omega); omega
theorem place_unique {b l k i j : Nat} (hi1 : blk b l i ≤ k) (hi2 : k < blk b l i + cnt b (l - i)) (hj1 : blk b l j ≤ k) (hj2 : k < blk b l j + cnt b (l - j)) : i = j := by
  rcases Nat.lt_trichotomy i j with h | h | h
  · have := blk_mono b l h; omega
  · exact h
  · have := blk_mono b l h; omega
theorem unr_cons (n k l : Nat) (hk : k < cnt (n + 1) l) : ∃ j, j ≤ l ∧ blk n l j ≤ k ∧ k < blk n l j + cnt n (l - j) ∧ unr (n + 1) k l = j :: unr n (k - blk n l j) (l - j) := by
  obtain ⟨h1, h2, h3⟩ := upTo_spec n l k hk (l + 1) 0 (by omega) (by simp [blk]) (by omega)
  exact ⟨_, h1, h2, h3, rfl⟩
theorem unr_ok : ∀ (n k l : Nat), k < cnt n l → (unr n k l).length = n ∧ (unr n k l).sum ≤ l ∧ numL (unr n k l) l = k
  | 0, k, l, h => by rw [cnt_zero] at h; simp [unr, numL]; omega
  | n + 1, k, l, h => by
    obtain ⟨j, h1, h2, h3, e⟩ := unr_cons n k l h
    obtain ⟨q1, q2, q3⟩ := unr_ok n (k - blk n l j) (l - j) (by omega)
    rw [e]
    refine ⟨by simp [q1], by simp; omega, ?_⟩
    rw [numL, q1, q3]
    omega
theorem numL_pre : ∀ (a b b' : List Nat) (l : Nat), b.length = b'.length → numL b' (l - a.sum) = numL b (l - a.sum) + 1 → numL (a ++ b') l = numL (a ++ b) l + 1
  | [], b, b', l, _, h => by simpa using h
  | x :: xs, b, b', l, hl, h => by
    have ih := numL_pre xs b b' (l - x) hl (by simpa [Nat.sub_sub] using h)
    simp only [List.cons_append, numL, List.length_append, hl]
    omega
theorem numL_zeros : ∀ (n l : Nat), numL (List.replicate n 0) l = 0
  | 0, l => rfl
  | n + 1, l => by simp [List.replicate_succ, numL, blk, numL_zeros n l]
theorem blk_zero (l : Nat) : ∀ j, blk 0 l j = j
  | 0 => rfl
  | j + 1 => by rw [blk, blk_zero l j, cnt_zero]
def bnN (ns : List Nat) (c : Nat) : Nat := numL ns.reverse c
theorem bnN_lt (ns : List Nat) (c : Nat) (h : ns.sum ≤ c) : bnN ns c < cnt ns.length c := by
  have := numL_lt ns.reverse c (by simpa using h)
  simpa [bnN] using this
theorem bnN_more (x : Nat) (xs : List Nat) (c : Nat) : bnN ((x + 1) :: xs) c = bnN (x :: xs) c + 1 := by
  simp only [bnN, List.reverse_cons]
  refine numL_pre _ _ _ c rfl ?_
  simp [numL, blk_zero]
theorem bnN_turn (i x y : Nat) (xs : List Nat) (c : Nat) (hx : 0 < x) (hs : x + y + xs.sum = c) :
    bnN (List.replicate i 0 ++ 0 :: (y + 1) :: xs) c = bnN (List.replicate i 0 ++ x :: y :: xs) c + 1 := by
  simp only [bnN, List.reverse_append, List.reverse_cons, List.reverse_replicate, List.append_assoc, List.singleton_append, List.nil_append]
  refine numL_pre _ _ _ c (by simp) ?_
  rw [List.sum_reverse]
  have e : c - xs.sum = y + x := by omega
  rw [e]
  simp only [List.cons_append, List.nil_append, numL, List.length_cons, List.length_replicate, numL_zeros, blk]
  have h1 : y + x - y = x := by omega
  have h2 := blk_all i x x (Nat.le_refl _)
  rw [Nat.sub_self, cnt_base] at h2
  rw [h1]
  omega
theorem bnN_last (i c : Nat) : bnN (List.replicate i 0 ++ [c]) c + 1 = cnt (i + 1) c := by
  simp only [bnN, List.reverse_append, List.reverse_cons, List.reverse_replicate, List.reverse_nil, List.nil_append, List.singleton_append, numL, List.length_replicate, numL_zeros]
  have h2 := blk_all i c c (Nat.le_refl _)
  rw [Nat.sub_self, cnt_base] at h2
  omega
theorem numL_inj : ∀ (xs ys : List Nat) (l : Nat), xs.length = ys.length → xs.sum ≤ l → ys.sum ≤ l → numL xs l = numL ys l → xs = ys
  | [], [], _, _, _, _, _ => rfl
  | [], y :: ys, _, h, _, _, _ => by simp at h
  | x :: xs, [], _, h, _, _, _ => by simp at h
  | x :: xs, y :: ys, l, h, h1, h2, e => by
    simp only [List.length_cons, List.sum_cons] at h h1 h2
    have h' : xs.length = ys.length := by omega
    rw [numL, numL, h'] at e
    have a1 := numL_lt xs (l - x) (by omega)
    have a2 := numL_lt ys (l - y) (by omega)
    rw [h'] at a1
    have hxy : x = y := by
      rcases Nat.lt_trichotomy x y with q | q | q
      · have := blk_mono ys.length l q; omega
      · exact q
      · have := blk_mono ys.length l q; omega
    subst hxy
    rw [numL_inj xs ys (l - x) h' (by omega) (by omega) (by omega)]
theorem unr_numL (xs : List Nat) (l : Nat) (h : xs.sum ≤ l) : unr xs.length (numL xs l) l = xs := by
  obtain ⟨q1, q2, q3⟩ := unr_ok xs.length (numL xs l) l (numL_lt xs l h)
  exact numL_inj _ _ l q1 q2 h q3
def bump (x : Nat) : List Nat → List Nat
  | [] => []
  | t :: ts => (x + t) :: ts
theorem unr_zero : ∀ (n l : Nat), unr n 0 l = List.replicate n 0
  | 0, l => rfl
  | n + 1, l => by
    obtain ⟨j, h1, h2, h3, e⟩ := unr_cons n 0 l (cnt_pos _ _)
    have hj : j = 0 := by
      have := blk_mono n l (i := 0) (j := j)
      have h4 := cnt_pos n l
      rcases Nat.eq_zero_or_pos j with q | q
      · exact q
      · have := this q; simp [blk] at this; omega
    subst hj
    rw [e, Nat.sub_zero, show (0 : Nat) - blk n l 0 = 0 by simp [blk], unr_zero n l]
    rfl
theorem unr_low (n k l : Nat) (h : k < cnt n l) : unr (n + 1) k l = 0 :: unr n k l := by
  have hk : k < cnt (n + 1) l := by
    have := blk_all n l 0 (by omega)
    cases l with
    | zero => rw [cnt_base] at h ⊢; exact h
    | succ l => rw [cnt_step]; omega
  obtain ⟨j, h1, h2, h3, e⟩ := unr_cons n k l hk
  have hj : j = 0 := by
    rcases Nat.eq_zero_or_pos j with q | q
    · exact q
    · have := blk_mono n l (i := 0) (j := j) q; simp [blk] at this; omega
  subst hj
  rw [e]
  simp [blk]
theorem blk_shift (n l : Nat) : ∀ j, blk n (l + 1) (j + 1) = cnt n (l + 1) + blk n l j
  | 0 => by simp [blk]
  | j + 1 => by
    rw [blk, blk_shift n l j, blk, show l + 1 - (j + 1) = l - j by omega]
    omega
theorem unr_high (n k l : Nat) (h : cnt n l ≤ k) (hk : k < cnt (n + 1) l) : 0 < l ∧ k - cnt n l < cnt (n + 1) (l - 1) ∧ unr (n + 1) k l = bump 1 (unr (n + 1) (k - cnt n l) (l - 1)) := by
  cases l with
  | zero => rw [cnt_base] at h hk; omega
  | succ l =>
    have hk2 : k - cnt n (l + 1) < cnt (n + 1) l := by rw [cnt_step] at hk; omega
    refine ⟨by omega, by simpa using hk2, ?_⟩
    obtain ⟨j, h1, h2, h3, e⟩ := unr_cons n k (l + 1) hk
    obtain ⟨i, g1, g2, g3, e'⟩ := unr_cons n (k - cnt n (l + 1)) l hk2
    have hij : j = i + 1 := by
      refine place_unique (b := n) (l := l + 1) (k := k) h2 h3 ?_ ?_
      · rw [blk_shift]; omega
      · rw [blk_shift, show l + 1 - (i + 1) = l - i by omega]; omega
    subst hij
    rw [e, Nat.add_sub_cancel, e', bump, blk_shift, Nat.add_comm 1 i, show l + 1 - (i + 1) = l - i by omega, Nat.sub_add_eq]
def onWay (T : List Nat) (n q k l : Nat) (xs : List Nat) : Prop :=
  xs.length = n ∧ k < cnt (n - q) l ∧ (∀ j, q < j → xs.getD j 0 = 0) ∧ T = xs.take q ++ bump (xs.getD q 0) (unr (n - q) k l)
theorem onWay_start (n k l : Nat) (h : k < cnt n l) : onWay (unr n k l) n 0 k l (List.replicate n 0) := by
  refine ⟨by simp, h, fun j _ => by simp [List.getD_eq_getElem?_getD, List.getElem?_replicate]; split <;> rfl, ?_⟩
  have : (List.replicate n 0).getD 0 0 = 0 := by cases n <;> simp [List.replicate_succ]
  rw [this, List.take_zero, List.nil_append, Nat.sub_zero]
  cases unr n k l <;> simp [bump]
theorem ext_getDN {xs ys : List Nat} (h : xs.length = ys.length) (e : ∀ i, i < xs.length → xs.getD i 0 = ys.getD i 0) : xs = ys := by
  refine List.ext_getElem h fun i h1 h2 => ?_
  have := e i h1
  rw [List.getD_eq_getElem?_getD, List.getD_eq_getElem?_getD, List.getElem?_eq_getElem h1, List.getElem?_eq_getElem h2] at this
  exact this
theorem onWay_stop {T xs : List Nat} {n q l : Nat} (h : onWay T n q 0 l xs) (hq : q ≤ n) : T = xs := by
  obtain ⟨h1, h2, h3, e⟩ := h
  rw [e, unr_zero]
  by_cases hn : q < n
  · obtain ⟨m, hm⟩ : ∃ m, n - q = m + 1 := ⟨n - q - 1, by omega⟩
    rw [hm, List.replicate_succ, bump]
    refine ext_getDN (by simp; omega) fun i hi => ?_
    rcases Nat.lt_trichotomy i q with g | g | g
    · simp only [List.getD_eq_getElem?_getD]
      rw [List.getElem?_append_left (by simp; omega)]
      simp [g]
    · subst g
      simp only [List.getD_eq_getElem?_getD]
      rw [List.getElem?_append_right (by simp; omega)]
      simp [show i - min i xs.length = 0 by omega]
    · rw [h3 i g]
      simp only [List.getD_eq_getElem?_getD]
      rw [List.getElem?_append_right (by simp; omega)]
      obtain ⟨t, ht⟩ : ∃ t, i - (xs.take q).length = t + 1 := ⟨i - (xs.take q).length - 1, by simp; omega⟩
      rw [ht, List.getElem?_cons_succ, List.getElem?_replicate]
      split <;> rfl
  · rw [show n - q = 0 by omega]
    simp [bump, List.take_of_length_le (show xs.length ≤ q by omega)]
theorem onWay_next {T xs : List Nat} {n q k l : Nat} (h : onWay T n q k l xs) (hq : q < n) (hk : k < cnt (n - 1 - q) l) : onWay T n (q + 1) k l xs := by
  obtain ⟨h1, h2, h3, e⟩ := h
  refine ⟨h1, by rw [show n - (q + 1) = n - 1 - q by omega]; exact hk, fun j hj => h3 j (by omega), ?_⟩
  rw [e, show n - q = n - 1 - q + 1 by omega, unr_low _ _ _ hk, bump, h3 (q + 1) (by omega), show n - (q + 1) = n - 1 - q by omega, Nat.add_zero]
  have e2 : xs.take (q + 1) = xs.take q ++ [xs.getD q 0] := by
    rw [List.take_succ_eq_append_getElem (by omega)]
    simp [show q < xs.length by omega]
  rw [e2, List.append_assoc, List.singleton_append]
  congr 2
  cases unr (n - 1 - q) k l <;> simp [bump]
theorem bump_bump (a b : Nat) (xs : List Nat) : bump a (bump b xs) = bump (a + b) xs := by
  cases xs <;> simp [bump, Nat.add_assoc]
theorem onWay_more {T xs : List Nat} {n q k l : Nat} (h : onWay T n q k l xs) (hq : q < n) (hk : cnt (n - 1 - q) l ≤ k) : 0 < l ∧ onWay T n q (k - cnt (n - 1 - q) l) (l - 1) (xs.set q (xs.getD q 0 + 1)) := by
  obtain ⟨h1, h2, h3, e⟩ := h
  rw [show n - q = n - 1 - q + 1 by omega] at h2 e
  obtain ⟨g1, g2, g3⟩ := unr_high _ _ _ hk h2
  refine ⟨g1, by simpa using h1, by rw [show n - q = n - 1 - q + 1 by omega]; exact g2, fun j hj => ?_, ?_⟩
  · have := h3 j hj
    simp only [List.getD_eq_getElem?_getD] at this ⊢
    rw [List.getElem?_set_ne (by omega)]
    exact this
  · rw [e, g3, bump_bump, show n - q = n - 1 - q + 1 by omega, List.take_set_of_le (by omega)]
    congr 2
    simp [List.getD_eq_getElem?_getD, List.getElem?_set_self, show q < xs.length by omega]
theorem onWay_in {T xs : List Nat} {n q k l : Nat} (h : onWay T n q k l xs) (hq : q ≤ n) (hk : k ≠ 0) : q < n := by
  obtain ⟨h1, h2, h3, e⟩ := h
  rcases Nat.lt_or_ge q n with g | g
  · exact g
  · rw [show n - q = 0 by omega, cnt_zero] at h2
    omega
end Go.Proofs.YtnlclmlnpkncoaaGreat
namespace Go.Proofs.YtnlclmlnpkncoaaGreat
open Go.ChangeShapes Go.WideShapes Go.ChangeAt Go.RowKit
set_option linter.unusedVariables false
set_option linter.unusedSimpArgs false
set_option maxRecDepth 4000
def updF (f : Nat → Int) (n : Nat) (v : Int) (m : Nat) : Int := if m = n then v else f m
def wyF (K n : Nat) : Int := if n < K then (cnt (n / 16) (n % 16) : Int) else 0
theorem wyF_next {K : Nat} {v : Int} (hv : v = (cnt (K / 16) (K % 16) : Int)) (n : Nat) : updF (wyF K) K v n = wyF (K + 1) n := by
  unfold updF wyF
  by_cases e : n = K
  · subst e
    rw [if_pos rfl, if_pos (by omega), hv]
  · rw [if_neg e]
    by_cases e2 : n < K
    · rw [if_pos e2, if_pos (by omega)]
    · rw [if_neg e2, if_neg (by omega)]
theorem updF_twice (f : Nat → Int) (n : Nat) (u v : Int) (m : Nat) : updF (updF f n u) n v m = updF f n v m := by
  unfold updF
  split <;> rfl
def TabN (w : World) (g : Nat) (f : Nat → Int) : Prop := ∃ cur, Blk w g cur 162 ∧ cur.size = 416 ∧ ∀ n, n < 416 → cur[n]? = some (.int .i64 (f n))
theorem TabN.cell {w : World} {g : Nat} {f : Nat → Int} (h : TabN w g f) (n : Nat) (hn : n < 416) : w.cell? ⟨g, n, none⟩ = some (.int .i64 (f n)) := by
  obtain ⟨cur, hB, h1, h2⟩ := h
  rw [hB.cell n, h2 n hn]
theorem TabN.free {w : World} {g : Nat} {f : Nat → Int} (h : TabN w g f) (n : Nat) : w.frozen? ⟨g, n, none⟩ = false := by
  obtain ⟨cur, hB, h1, h2⟩ := h
  exact hB.free n
theorem TabN.lt {w : World} {g : Nat} {f : Nat → Int} (h : TabN w g f) : g < w.heap.size := by
  obtain ⟨cur, hB, h1, h2⟩ := h
  exact hB.lt
theorem TabN.below {w w' : World} {g : Nat} {f : Nat → Int} (h : TabN w g f) (hb : Below w.heap.size w w') : TabN w' g f := by
  obtain ⟨cur, hB, h1, h2⟩ := h
  exact ⟨cur, hB.below hb, h1, h2⟩
theorem TabN.drew {w : World} {g : Nat} {f : Nat → Int} (h : TabN w g f) : TabN w.drew g f := h
theorem TabN.other {w : World} {g g' o : Nat} {v : Value} {f : Nat → Int} (h : TabN w g f) (hne : g ≠ g') : TabN (w.setCell ⟨g', o, none⟩ v) g f := by
  obtain ⟨cur, hB, h1, h2⟩ := h
  exact ⟨cur, hB.other hne, h1, h2⟩
theorem TabN.set {w : World} {g : Nat} {f : Nat → Int} (h : TabN w g f) (n : Nat) (v : Int) : TabN (w.setCell ⟨g, n, none⟩ (.int .i64 v)) g (updF f n v) := by
  obtain ⟨cur, hB, h1, h2⟩ := h
  refine ⟨_, hB.set (.int .i64 v), by simp [h1], fun m hm => ?_⟩
  rw [Array.getElem?_setIfInBounds]
  by_cases e : n = m
  · subst e
    simp [h1, hm, updF]
  · rw [if_neg e, h2 m hm, updF, if_neg (fun q => e q.symm)]
theorem TabN.wf {w : World} {g : Nat} {f f' : Nat → Int} (h : TabN w g f) (e : ∀ n, n < 416 → f n = f' n) : TabN w g f' := by
  obtain ⟨cur, hB, h1, h2⟩ := h
  exact ⟨cur, hB, h1, fun n hn => by rw [h2 n hn, e n hn]⟩
def WaysAt (w : World) (g : Nat) : Prop := TabN w g (fun n => (cnt (n / 16) (n % 16) : Int))
theorem WaysAt.cell {w : World} {g : Nat} (h : WaysAt w g) (i j : Nat) (hi : i ≤ 25) (hj : j ≤ 15) : w.cell? ⟨g, i * 16 + j, none⟩ = some (.int .i64 (cnt i j)) := by
  have := TabN.cell h (i * 16 + j) (by omega)
  rw [this, show (i * 16 + j) / 16 = i by omega, show (i * 16 + j) % 16 = j by omega]
theorem WaysAt.below {w w' : World} {g : Nat} (h : WaysAt w g) (hb : Below w.heap.size w w') : WaysAt w' g := TabN.below h hb
theorem WaysAt.drew {w : World} {g : Nat} (h : WaysAt w g) : WaysAt w.drew g := h
theorem WaysAt.other {w : World} {g g' o : Nat} {v : Value} (h : WaysAt w g) (hne : g ≠ g') : WaysAt (w.setCell ⟨g', o, none⟩ v) g := TabN.other h hne
theorem WaysAt.alloc {w : World} {g : Nat} (h : WaysAt w g) (o : Obj) : WaysAt (w.alloc o) g := TabN.below h ((Below.refl _ _).alloc (Nat.le_refl _) o)
theorem WaysAt.lt {w : World} {g : Nat} (h : WaysAt w g) : g < w.heap.size := TabN.lt h
theorem zeroTab : ∀ n, n < 416 → Tryz.zeroCells162[n]? = some (.int .i64 0) := by
  have h : Tryz.zeroCells162 = Array.replicate 416 (.int .i64 0) := by kernel_rfl
  intro n hn
  rw [h, Array.getElem?_replicate, if_pos hn]
set_option maxRecDepth 4000 in
set_option maxHeartbeats 2000000 in
theorem countWays_any (w : World) :
    Calls Tryz.prog 87 #[] w fun e w' => ∃ g, e = .returned (.pointer (some ⟨g, 0, none⟩)) ∧ w.heap.size ≤ g ∧ WaysAt w' g ∧ Below w.heap.size w w' := by
  have hb : Below w.heap.size w (w.alloc (.cells Tryz.zeroCells162 162)) := (Below.refl _ _).alloc (Nat.le_refl _) _
  have B0 : TabN (w.alloc (.cells Tryz.zeroCells162 162)) w.heap.size (wyF 0) := ⟨_, Blk.new w Tryz.zeroCells162 162, by kernel_rfl, fun n hn => by rw [zeroTab n hn, wyF, if_neg (by omega)]⟩
  go_enter Tryz.func87, Tryz.ntmps87
  go_wp2_with fail
  generalize (w.alloc (.cells Tryz.zeroCells162 162)) = v0 at *
  go_loopg [4] 26 (fun m i wr => ∃ k : Nat, k ≤ 26 ∧ m = 26 - k ∧ i = .int .i64 k ∧ TabN wr w.heap.size (wyF (k * 16)) ∧ Below w.heap.size w wr)
  case atStart => exact ⟨0, by omega, by omega, rfl, by simpa using B0, hb⟩
  case round =>
    obtain ⟨k, hk, hm, rfl, B, hbel⟩ := hrel
    clear B0 hb
    by_cases hlt : k < 26
    · have hlt' : (k : Int) < 26 := by omega
      have hk0 : (0 : Int) ≤ (k : Int) := by omega
      go_wp2_with fail
      go_loopg [7] 16 (fun m2 j wi => ∃ (W : World) (l : Nat), W = wi ∧ l ≤ 16 ∧ m2 = 16 - l ∧ j = .int .i64 l ∧ TabN wi w.heap.size (wyF (k * 16 + l)) ∧ Below w.heap.size w wi)
      case atStart => exact ⟨_, 0, rfl, by omega, by omega, rfl, by simpa using B, hbel⟩
      case round =>
        clear B hbel
        obtain ⟨W, l, hW, hl, hm2, rfl, B, hbel⟩ := hrel
        subst hW
        by_cases hll : l < 16
        · have hll' : (l : Int) < 16 := by omega
          have hl0 : (0 : Int) ≤ (l : Int) := by omega
          have hold := B.cell (k * 16 + l) (by omega)
          have hfr := B.free (k * 16 + l)
          have B1 := B.set (k * 16 + l) 1
          by_cases hz : k = 0 ∨ l = 0
          · have hone : cnt k l = 1 := by
              rcases hz with rfl | rfl
              · exact cnt_zero _
              · exact cnt_base _
            have B2 := B1.wf fun n hn => wyF_next (by rw [show (k * 16 + l) / 16 = k by omega, show (k * 16 + l) % 16 = l by omega, hone]; rfl) n
            clear B1
            have hzz : (decide ((0 : Int) < (k : Int)) && decide ((0 : Int) < (l : Int))) = false := by
              rcases hz with rfl | rfl <;> simp
            have HB2 := Lib.hid B2
            clear B2 B hone
            by_cases hk2 : 0 < k
            · have hl2 : ¬ 0 < l := by omega
              clear hzz hz
              go_wp2
              go_roundg (16 - (l + 1))
              case measure => omega
              case rel => exact ⟨_, l + 1, rfl, by omega, rfl, by go_num, HB2.out, hbel.setCell (p := ⟨w.heap.size, k * 16 + l, none⟩) (by simp) _⟩
            · clear hzz hz
              go_wp2
              go_roundg (16 - (l + 1))
              case measure => omega
              case rel => exact ⟨_, l + 1, rfl, by omega, rfl, by go_num, HB2.out, hbel.setCell (p := ⟨w.heap.size, k * 16 + l, none⟩) (by simp) _⟩
          · have hk2 : 0 < k := by omega
            have hl2 : 0 < l := by omega
            obtain ⟨k', rfl⟩ : ∃ k', k = k' + 1 := ⟨k - 1, by omega⟩
            obtain ⟨l', rfl⟩ : ∃ l', l = l' + 1 := ⟨l - 1, by omega⟩
            have hsum := cnt_step k' l'
            have hA := B1.cell (k' * 16 + (l' + 1)) (by omega)
            have hB := B1.cell ((k' + 1) * 16 + l') (by omega)
            have hT := B1.cell ((k' + 1) * 16 + (l' + 1)) (by omega)
            have hFr := B1.free ((k' + 1) * 16 + (l' + 1))
            rw [updF, if_neg (by omega), wyF, if_pos (by omega), show (k' * 16 + (l' + 1)) / 16 = k' by omega, show (k' * 16 + (l' + 1)) % 16 = l' + 1 by omega] at hA
            rw [updF, if_neg (by omega), wyF, if_pos (by omega), show ((k' + 1) * 16 + l') / 16 = k' + 1 by omega, show ((k' + 1) * 16 + l') % 16 = l' by omega] at hB
            have c1 := cnt_bound (n := k') (m := l' + 1) (by omega) (by omega)
            have c2 := cnt_bound (n := k' + 1) (m := l') (by omega) (by omega)
            have e1 : ((k' + 1 : Nat) : Int) - 1 = (k' : Int) := by omega
            have e2 : ((l' + 1 : Nat) : Int) - 1 = (l' : Int) := by omega
            have hb5 := hbel.setCell (p := ⟨w.heap.size, (k' + 1) * 16 + (l' + 1), none⟩) (by simp) (.int .i64 1)
            obtain ⟨x, hx⟩ : ∃ x : Nat, cnt k' (l' + 1) = x := ⟨_, rfl⟩
            obtain ⟨y, hy⟩ : ∃ y : Nat, cnt (k' + 1) l' = y := ⟨_, rfl⟩
            rw [hx] at hA c1 hsum
            rw [hy] at hB c2 hsum
            have HSUM := Lib.hid hsum
            have wz : IntKind.i64.wrap ((x : Int) + (y : Int)) = (x : Int) + (y : Int) := IntWalk.i64_in _ (by omega)
            clear B hsum hx hy c1 c2 hz hbel
            have wk : IntKind.i64.wrap (k' : Int) = (k' : Int) := IntWalk.i64_in _ (by omega)
            have wl : IntKind.i64.wrap (l' : Int) = (l' : Int) := IntWalk.i64_in _ (by omega)
            have f1 : (0 : Int) ≤ (k' : Int) := by omega
            have f2 : (k' : Int) < 26 := by omega
            have f3 : (0 : Int) ≤ (k' : Int) + 1 := by omega
            have f4 : (k' : Int) + 1 < 26 := by omega
            have f5 : (0 : Int) ≤ (l' : Int) := by omega
            have f6 : (l' : Int) < 16 := by omega
            have f7 : (0 : Int) ≤ (l' : Int) + 1 := by omega
            have f8 : (l' : Int) + 1 < 16 := by omega
            go_wp2_with fail
            clear hold hfr
            replace B1 := B1.drew
            replace hb5 := hb5.drew
            refine wp_region_held_drew (S := fun w' => w'.cell? ⟨w.heap.size, k' * 16 + (l' + 1), none⟩ = some (.int .i64 (x : Int)) ∧ w'.cell? ⟨w.heap.size, (k' + 1) * 16 + l', none⟩ = some (.int .i64 (y : Int))) (by kernel_rfl) ⟨hA, hB⟩ (fun hHeld => ?_)
            refine tk 0 20 ?_
            refine tk 1 21 ?_
            refine tk 2 22 ?_
            refine tk 3 23 ?_
            refine tk 4 24 ?_
            refine tk 5 25 ?_
            refine tk 6 26 ?_
            refine tk 7 27 ?_
            refine tk 8 28 ?_
            refine tk 9 29 ?_
            refine tk 10 30 ?_
            refine tk 11 31 ?_
            refine tk 12 32 ?_
            refine tk 13 33 ?_
            refine tk 14 34 ?_
            refine tk 15 35 ?_
            refine tk 16 36 ?_
            refine rdn 17 fun K hK => ?_
            have B2 := B1.set ((k' + 1) * 16 + (l' + 1)) ((x : Int) + (y : Int))
            have hA2 := B2.cell (k' * 16 + (l' + 1)) (by omega)
            have hB2 := B2.cell ((k' + 1) * 16 + l') (by omega)
            rw [updF, if_neg (by omega)] at hA2 hB2
            have hA3 := hA2.trans ((B1.cell (k' * 16 + (l' + 1)) (by omega)).symm.trans hA)
            have hB3 := hB2.trans ((B1.cell ((k' + 1) * 16 + l') (by omega)).symm.trans hB)
            clear hA2 hB2 B2
            go_simp
            (try go_wp2_with fail)
            refine hko hK ⟨hA3, hB3⟩ fun hHeld => ?_
            clear hK K
            refine wpAnyH_done (by kernel_rfl) ?_ _
            have B2 := B1.set ((k' + 1) * 16 + (l' + 1)) ((x : Int) + (y : Int))
            have B3 := B2.wf fun n hn => (updF_twice _ _ _ _ n).trans (wyF_next (K := (k' + 1) * 16 + (l' + 1)) (by rw [show ((k' + 1) * 16 + (l' + 1)) / 16 = k' + 1 by omega, show ((k' + 1) * 16 + (l' + 1)) % 16 = l' + 1 by omega, HSUM.out]; omega) n)
            have HB3 := Lib.hid B3
            clear B1 B2 B3 hT hFr hA hB
            go_wp2
            go_roundg (16 - (l' + 1 + 1))
            case measure => omega
            case rel => exact ⟨_, l' + 1 + 1, rfl, by omega, rfl, by go_num, HB3.out, hb5.setCell (p := ⟨w.heap.size, (k' + 1) * 16 + (l' + 1), none⟩) (by simp) _⟩
        · obtain rfl : l = 16 := by omega
          clear hll
          go_wp2
          go_roundg (26 - (k + 1))
          case measure => omega
          case rel => exact ⟨k + 1, by omega, rfl, by go_num, by rw [show (k + 1) * 16 = k * 16 + 16 by omega]; exact B, hbel⟩
    · obtain rfl : k = 26 := by omega
      go_wp2
      go_ret
      exact ⟨_, rfl, Nat.le_refl _, B.wf fun n hn => by rw [wyF, if_pos (by omega)], hbel⟩
end Go.Proofs.YtnlclmlnpkncoaaGreat
namespace Go.Proofs.YtnlclmlnpkncoaaGreat
open Go.ChangeShapes Go.WideShapes Go.ChangeAt Go.RowKit
set_option linter.unusedVariables false
set_option linter.unusedSimpArgs false
theorem cnt_bnd (n m : Nat) (hn : n ≤ 25) (hm : m ≤ 15) : 1 ≤ (cnt n m : Int) ∧ (cnt n m : Int) ≤ 1099511627776 := by
  have h1 := cnt_pos n m
  have h2 := cnt_bound hn hm
  omega
theorem mul_bnd {a b : Int} (a0 : 1 ≤ a) (a1 : a ≤ 1099511627776) (b0 : 1 ≤ b) (b1 : b ≤ 100) : 0 ≤ a * b ∧ a * b ≤ 109951162777600 :=
  ⟨Int.mul_nonneg (by omega) (by omega), by
    have h := Int.mul_le_mul a1 b1 (by omega) (by omega)
    omega⟩
end Go.Proofs.YtnlclmlnpkncoaaGreat
