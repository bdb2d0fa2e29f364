/- Plain mathematics of chapter 3: how many lists have a bounded sum, the number of a list, and back. -/
import Derived.Test.YtfcdndihcfgbhaaBoardLaws
namespace Go.Proofs.Ytfcdndihcfgbhaa
set_option linter.unusedVariables false
set_option linter.unusedSimpArgs false

/-- How many lists of n natural numbers have a sum of at most m. -/
def cnt : Nat → Nat → Nat
  | 0, _ => 1
  | _ + 1, 0 => 1
  | n + 1, m + 1 => cnt n (m + 1) + cnt (n + 1) m
termination_by n m => n + m
theorem cnt_zero (m : Nat) : cnt 0 m = 1 := by rw [cnt]
theorem cnt_base (n : Nat) : cnt n 0 = 1 := by cases n <;> rw [cnt]
theorem cnt_step (n m : Nat) : cnt (n + 1) (m + 1) = cnt n (m + 1) + cnt (n + 1) m := by rw [cnt]
theorem cnt_symm : ∀ n m : Nat, cnt n m = cnt m n
  | 0, m => by rw [cnt_zero, cnt_base]
  | n + 1, 0 => by rw [cnt_zero, cnt_base]
  | n + 1, m + 1 => by
    have h1 := cnt_symm n (m + 1)
    have h2 := cnt_symm (n + 1) m
    rw [cnt_step, cnt_step, h1, h2]
    omega
termination_by n m => n + m
theorem cnt_pos : ∀ n m : Nat, 1 ≤ cnt n m
  | 0, m => by rw [cnt_zero]; omega
  | n + 1, 0 => by rw [cnt_base]; omega
  | n + 1, m + 1 => by
    have h1 := cnt_pos n (m + 1)
    rw [cnt_step]
    omega
termination_by n m => n + m
theorem cnt_le_pow : ∀ n m : Nat, cnt n m ≤ 2 ^ (n + m)
  | 0, m => by rw [cnt_zero]; exact Nat.one_le_two_pow
  | n + 1, 0 => by rw [cnt_base]; exact Nat.one_le_two_pow
  | n + 1, m + 1 => by
    have h1 := cnt_le_pow n (m + 1)
    have h2 := cnt_le_pow (n + 1) m
    rw [cnt_step]
    have e1 : 2 ^ (n + 1 + (m + 1)) = 2 ^ (n + (m + 1)) + 2 ^ (n + (m + 1)) := by
      rw [show n + 1 + (m + 1) = (n + (m + 1)) + 1 by omega, Nat.pow_succ]
      omega
    have e2 : n + 1 + m = n + (m + 1) := by omega
    rw [e2] at h2
    omega
termination_by n m => n + m
theorem cnt_bound {n m : Nat} (hn : n ≤ 25) (hm : m ≤ 15) : cnt n m ≤ 1099511627776 := by
  have h := cnt_le_pow n m
  have h2 : 2 ^ (n + m) ≤ 2 ^ 40 := Nat.pow_le_pow_right (by omega) (by omega)
  have h3 : (2 : Nat) ^ 40 = 1099511627776 := by decide
  omega
theorem cnt_mul : ∀ n m : Nat, (n + 1) * cnt (n + 1) m = (n + m + 1) * cnt n m
  | n, 0 => by rw [cnt_base, cnt_base, Nat.add_zero]
  | n, m + 1 => by
    have h1 := cnt_mul n m
    have h2 := cnt_mul m n
    rw [cnt_symm (m + 1) n, cnt_symm m n] at h2
    rw [cnt_step, Nat.mul_add, h1]
    have e : (m + n + 1) * cnt n m = (n + m + 1) * cnt n m := by rw [show m + n = n + m by omega]
    rw [e] at h2
    rw [← h2, ← Nat.add_mul]
    congr 1
    omega
termination_by n m => n + m
/-- One more place: what the program's product and quotient give. -/
theorem cnt_next (n m : Nat) : cnt n m * (m + n + 1) / (n + 1) = cnt (n + 1) m := by
  have h := cnt_mul n m
  rw [show cnt n m * (m + n + 1) = cnt (n + 1) m * (n + 1) by
    rw [Nat.mul_comm (cnt (n + 1) m), h, Nat.mul_comm, show m + n + 1 = n + m + 1 by omega]]
  exact Nat.mul_div_cancel _ (by omega)
theorem cnt_nextI (n m : Nat) : ((cnt n m : Int) * ((m : Int) + (n : Int) + 1)).tdiv ((n : Int) + 1) = (cnt (n + 1) m : Int) := by
  have h := cnt_next n m
  rw [← h, show ((m : Int) + (n : Int) + 1) = ((m + n + 1 : Nat) : Int) by omega, show ((n : Int) + 1) = ((n + 1 : Nat) : Int) by omega]
  rw [← Int.natCast_mul, ← Int.ofNat_tdiv]
/-- The sides that begin with less than j. -/
def blk (b l : Nat) : Nat → Nat
  | 0 => 0
  | j + 1 => blk b l j + cnt b (l - j)
theorem blk_le (b l j : Nat) (hb : b ≤ 25) (hl : l ≤ 15) : blk b l j ≤ j * 1099511627776 := by
  induction j with
  | zero => simp [blk]
  | succ j ih =>
    have h := cnt_bound (n := b) (m := l - j) hb (by omega)
    rw [blk]
    omega
/-- All sides begin with at most l. -/
theorem blk_all (b : Nat) : ∀ l j : Nat, j ≤ l → blk b l j + cnt (b + 1) (l - j) = cnt (b + 1) l := by
  intro l j
  induction j with
  | zero => intro _; simp [blk]
  | succ j ih =>
    intro hj
    have h := ih (by omega)
    rw [blk, ← h]
    obtain ⟨d, hd⟩ : ∃ d, l - j = d + 1 := ⟨l - j - 1, by omega⟩
    rw [show l - (j + 1) = d by omega, hd, cnt_step]
    omega
/-- The number of a list of natural numbers with a sum of at most l. -/
def numL : List Nat → Nat → Nat
  | [], _ => 0
  | x :: xs, l => blk xs.length l x + numL xs (l - x)
theorem numL_lt : ∀ (xs : List Nat) (l : Nat), xs.sum ≤ l → numL xs l < cnt xs.length l
  | [], l, _ => by simp [numL, cnt_zero]
  | x :: xs, l, h => by
    simp only [List.sum_cons] at h
    have h1 := numL_lt xs (l - x) (by omega)
    rw [numL, List.length_cons]
    have h2 := blk_all xs.length l x (by omega)
    cases hd : l - x with
    | zero =>
      rw [hd] at h1 h2
      rw [cnt_base] at h1 h2
      omega
    | succ d =>
      rw [hd] at h1 h2
      rw [cnt_step] at h2
      omega
/-- How many of the first places a number passes, from j on. -/
def upTo (b l k : Nat) : Nat → Nat → Nat
  | 0, j => j
  | f + 1, j => if blk b l (j + 1) ≤ k then upTo b l k f (j + 1) else j
/-- The list of n numbers with a number: its places in turn. -/
def unr : Nat → Nat → Nat → List Nat
  | 0, _, _ => []
  | n + 1, k, l => upTo n l k (l + 1) 0 :: unr n (k - blk n l (upTo n l k (l + 1) 0)) (l - upTo n l k (l + 1) 0)
theorem upTo_ge (b l k : Nat) : ∀ f j, j ≤ upTo b l k f j
  | 0, j => Nat.le_refl _
  | f + 1, j => by
    rw [upTo]
    split
    · exact Nat.le_trans (Nat.le_succ j) (upTo_ge b l k f (j + 1))
    · exact Nat.le_refl _
theorem upTo_low (b l k : Nat) : ∀ f j, blk b l j ≤ k → blk b l (upTo b l k f j) ≤ k
  | 0, j, h => h
  | f + 1, j, h => by
    rw [upTo]
    split
    · rename_i h2; exact upTo_low b l k f (j + 1) h2
    · exact h
/-- A number of a side of b + 1 places with at most l: what j has been reached, and it is the last. -/
theorem upTo_spec (b l k : Nat) (hk : k < cnt (b + 1) l) : ∀ f j, j ≤ l → blk b l j ≤ k → l < j + f →
    upTo b l k f j ≤ l ∧ blk b l (upTo b l k f j) ≤ k ∧ k < blk b l (upTo b l k f j) + cnt b (l - upTo b l k f j)
  | 0, j, h1, h2, h3 => by omega
  | f + 1, j, h1, h2, h3 => by
    rw [upTo]
    by_cases h : blk b l (j + 1) ≤ k
    · rw [if_pos h]
      have hj : j + 1 ≤ l := by
        apply Classical.byContradiction
        intro hn
        obtain rfl : j = l := by omega
        have h4 := blk_all b j j (Nat.le_refl _)
        rw [blk] at h
        rw [Nat.sub_self, cnt_base] at h4
        rw [Nat.sub_self, cnt_base] at h
        omega
      exact upTo_spec b l k hk f (j + 1) hj h (by omega)
    · rw [if_neg h]
      rw [blk] at h
      exact ⟨h1, h2, by omega⟩
theorem blk_mono (b l : Nat) : ∀ {i j : Nat}, i < j → blk b l i + cnt b (l - i) ≤ blk b l j := by
  intro i j h
  induction j with
  | zero => omega
  | succ j ih =>
    rw [blk]
    by_cases e : i = j
    · subst e; omega
    · have := ih (by omega); omega
/-- The place is the only one. -/
theorem place_unique {b l k i j : Nat} (hi1 : blk b l i ≤ k) (hi2 : k < blk b l i + cnt b (l - i)) (hj1 : blk b l j ≤ k) (hj2 : k < blk b l j + cnt b (l - j)) : i = j := by
  rcases Nat.lt_trichotomy i j with h | h | h
  · have := blk_mono b l h; omega
  · exact h
  · have := blk_mono b l h; omega
theorem unr_cons (n k l : Nat) (hk : k < cnt (n + 1) l) : ∃ j, j ≤ l ∧ blk n l j ≤ k ∧ k < blk n l j + cnt n (l - j) ∧ unr (n + 1) k l = j :: unr n (k - blk n l j) (l - j) := by
  obtain ⟨h1, h2, h3⟩ := upTo_spec n l k hk (l + 1) 0 (by omega) (by simp [blk]) (by omega)
  exact ⟨_, h1, h2, h3, rfl⟩
theorem unr_ok : ∀ (n k l : Nat), k < cnt n l → (unr n k l).length = n ∧ (unr n k l).sum ≤ l ∧ numL (unr n k l) l = k
  | 0, k, l, h => by rw [cnt_zero] at h; simp [unr, numL]; omega
  | n + 1, k, l, h => by
    obtain ⟨j, h1, h2, h3, e⟩ := unr_cons n k l h
    obtain ⟨q1, q2, q3⟩ := unr_ok n (k - blk n l j) (l - j) (by omega)
    rw [e]
    refine ⟨by simp [q1], by simp; omega, ?_⟩
    rw [numL, q1, q3]
    omega
/-- Numbers in order have lists in order. -/
theorem unr_next : ∀ (n k l : Nat), k + 1 < cnt n l → ∃ i, i < n ∧ (∀ j, j < i → (unr n k l)[j]? = (unr n (k + 1) l)[j]?) ∧ ∃ a b, (unr n k l)[i]? = some a ∧ (unr n (k + 1) l)[i]? = some b ∧ a < b
  | 0, k, l, h => by rw [cnt_zero] at h; omega
  | n + 1, k, l, h => by
    obtain ⟨j, h1, h2, h3, e⟩ := unr_cons n k l (by omega)
    obtain ⟨j', h1', h2', h3', e'⟩ := unr_cons n (k + 1) l h
    rcases Nat.lt_trichotomy j j' with hj | hj | hj
    · exact ⟨0, by omega, fun j hj => by omega, j, j', by rw [e]; rfl, by rw [e']; rfl, hj⟩
    · subst hj
      obtain ⟨i, hi, hall, a, b, ha, hb, hab⟩ := unr_next n (k - blk n l j) (l - j) (by omega)
      rw [show k - blk n l j + 1 = k + 1 - blk n l j by omega] at hall hb
      refine ⟨i + 1, by omega, fun q hq => ?_, a, b, by rw [e]; simpa using ha, by rw [e']; simpa using hb, hab⟩
      cases q with
      | zero => rw [e, e']; rfl
      | succ q => rw [e, e']; simpa using hall q (by omega)
    · have := blk_mono n l hj
      omega
end Go.Proofs.Ytfcdndihcfgbhaa
