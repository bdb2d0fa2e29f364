/- Plain mathematics of texts that are split at a byte, and of decimal numbers that are read. -/
import Derived.Test.YtenbihglmblalaaDoorDec
import Derived.Lib.Split
import Derived.Lib.SplitLaws
import Derived.Lib.Join
import Derived.Lib.IndexMore
import Derived.Lib.AtoiTie
import Derived.Lib.Strings
import Derived.Lib.ParseIntBTie
namespace Go.Proofs.YtenbihglmblalaaDoor
set_option linter.unusedVariables false
set_option linter.unusedSimpArgs false

def prep (p : List UInt8) : List (List UInt8) → List (List UInt8)
  | [] => [p]
  | h :: t => (p ++ h) :: t
def splitL (y : Nat) : List UInt8 → List (List UInt8)
  | [] => [[]]
  | b :: r => if b.toNat = y then [] :: splitL y r else prep [b] (splitL y r)
theorem splitL_ne (y : Nat) (l : List UInt8) : splitL y l ≠ [] := by
  cases l with
  | nil => simp [splitL]
  | cons b r =>
    rw [splitL]
    split
    · simp
    · cases splitL y r <;> simp [prep]
theorem prep_nil {l : List (List UInt8)} (h : l ≠ []) : prep [] l = l := by cases l <;> simp_all [prep]
theorem prep_prep (a b : List UInt8) (l : List (List UInt8)) : prep a (prep b l) = prep (a ++ b) l := by cases l <;> simp [prep]
theorem split_plain (y : Nat) : ∀ (a r : List UInt8), (∀ b ∈ a, b.toNat ≠ y) → splitL y (a ++ r) = prep a (splitL y r)
  | [], r, _ => by rw [prep_nil (splitL_ne y r)]; rfl
  | b :: a, r, h => by
    rw [List.cons_append, splitL, if_neg (h b (by simp)), split_plain y a r (fun x hx => h x (by simp [hx])), prep_prep]
    rfl
theorem split_word (y : Nat) (a r : List UInt8) (b : UInt8) (h : ∀ b ∈ a, b.toNat ≠ y) (hb : b.toNat = y) : splitL y (a ++ b :: r) = a :: splitL y r := by
  rw [split_plain y a _ h, splitL, if_pos hb]
  simp [prep]
theorem split_last (y : Nat) (a : List UInt8) (h : ∀ b ∈ a, b.toNat ≠ y) : splitL y a = [a] := by
  have := split_plain y a [] h
  rw [List.append_nil] at this
  rw [this, splitL]
  simp [prep]
theorem split_length (y : Nat) : ∀ l : List UInt8, (splitL y l).length ≤ l.length + 1
  | [] => by simp [splitL]
  | b :: r => by
    have := split_length y r
    rw [splitL]
    split
    · simp; omega
    · cases h : splitL y r with
      | nil => simp [prep]
      | cons x t => rw [h] at this; simp [prep] at this ⊢; omega

theorem index_one (c : UInt8) : ∀ (a b : List UInt8), c ∉ a → Lib.index (a ++ c :: b) [c] = (a.length : Int)
  | [], b, _ => by unfold Lib.index; simp
  | x :: a, b, h => by
    have ih := index_one c a b (fun g => h (by simp [g]))
    have hx : (c == x) = false := by rw [beq_eq_false_iff_ne]; rintro rfl; exact h (by simp)
    rw [List.cons_append, Lib.index, ih]
    have e1 : List.isPrefixOf [c] (x :: (a ++ c :: b)) = false := by simp [List.isPrefixOf, hx]
    have e2 : ((a.length : Int) == -1) = false := by rw [beq_eq_false_iff_ne]; omega
    rw [e1, e2]
    simp
theorem index_no (c : UInt8) : ∀ (a : List UInt8), c ∉ a → Lib.index a [c] = -1
  | [], _ => by unfold Lib.index; simp
  | x :: a, h => by
    have ih := index_no c a (fun g => h (by simp [g]))
    have hx : (c == x) = false := by rw [beq_eq_false_iff_ne]; rintro rfl; exact h (by simp)
    rw [Lib.index, ih]
    have e1 : List.isPrefixOf [c] (x :: a) = false := by simp [List.isPrefixOf, hx]
    rw [e1]
    simp
theorem split_cons (c : UInt8) (a b : List UInt8) (h : c ∉ a) : splitL c.toNat (a ++ c :: b) = a :: splitL c.toNat b :=
  split_word _ _ _ _ (fun x hx e => h (UInt8.toNat_inj.1 e ▸ hx)) rfl
theorem split_none (c : UInt8) (a : List UInt8) (h : c ∉ a) : splitL c.toNat a = [a] := split_last _ _ (fun x hx e => h (UInt8.toNat_inj.1 e ▸ hx))
theorem first_of (c : UInt8) : ∀ (l : List UInt8), c ∈ l → ∃ a b, l = a ++ c :: b ∧ c ∉ a
  | [], h => by simp at h
  | x :: r, h => by
    by_cases e : x = c
    · subst e; exact ⟨[], r, rfl, by simp⟩
    · obtain ⟨a, b, h1, h2⟩ := first_of c r (by rcases List.mem_cons.1 h with h | h; exact absurd h.symm e; exact h)
      exact ⟨x :: a, b, by rw [h1]; rfl, by simp only [List.mem_cons, not_or]; exact ⟨fun g => e g.symm, h2⟩⟩
theorem splitK_split (c : UInt8) : ∀ (k : Nat) (l : List UInt8), (Lib.splitK [c] 0 k l).length = min (k + 1) (splitL c.toNat l).length ∧ ((splitL c.toNat l).length ≤ k + 1 → Lib.splitK [c] 0 k l = splitL c.toNat l)
  | 0, l => by
    have hne : 0 < (splitL c.toNat l).length := List.length_pos_iff.2 (splitL_ne _ _)
    refine ⟨by simp [Lib.splitK]; omega, fun h => ?_⟩
    by_cases hc : c ∈ l
    · obtain ⟨a, b, rfl, ha⟩ := first_of c l hc
      have hb : 0 < (splitL c.toNat b).length := List.length_pos_iff.2 (splitL_ne _ _)
      rw [split_cons c a b ha] at h
      simp at h
      exact absurd h (splitL_ne _ _)
    · rw [split_none c l hc]; rfl
  | k + 1, l => by
    by_cases hc : c ∈ l
    · obtain ⟨a, b, rfl, ha⟩ := first_of c l hc
      obtain ⟨i1, i2⟩ := splitK_split c k b
      have e1 : ((a.length : Int) == -1) = false := by rw [beq_eq_false_iff_ne]; omega
      have e : Lib.splitK [c] 0 (k + 1) (a ++ c :: b) = a :: Lib.splitK [c] 0 k b := by
        rw [Lib.splitK, index_one c a b ha, e1, if_neg (by decide)]
        simp
      rw [e, split_cons c a b ha]
      refine ⟨by simp [i1], fun h => ?_⟩
      rw [i2 (by simpa using h)]
    · rw [Lib.splitK, index_no c l hc, split_none c l hc]
      exact ⟨by simp, fun _ => by simp⟩

theorem words_le (y : Nat) : ∀ (l : List UInt8) (x : List UInt8), x ∈ splitL y l → x.length ≤ l.length
  | [], x, h => by simp [splitL] at h; simp [h]
  | b :: r, x, h => by
    rw [splitL] at h
    split at h
    · rcases List.mem_cons.1 h with rfl | h
      · simp
      · have := words_le y r x h
        simp; omega
    · cases hs : splitL y r with
      | nil => exact absurd hs (splitL_ne y r)
      | cons p q =>
        rw [hs] at h
        rcases List.mem_cons.1 h with rfl | h
        · have := words_le y r p (by rw [hs]; simp)
          simp; omega
        · have := words_le y r x (by rw [hs]; simp [h])
          simp; omega
theorem split_count (c : UInt8) : ∀ l : List UInt8, (splitL c.toNat l).length = l.count c + 1
  | [] => by simp [splitL]
  | b :: r => by
    have ih := split_count c r
    rw [splitL]
    by_cases h : b.toNat = c.toNat
    · obtain rfl : b = c := UInt8.toNat_inj.1 h
      rw [if_pos rfl, List.length_cons, ih]
      simp
    · rw [if_neg h]
      have hne : ¬ (b == c) = true := by rw [beq_iff_eq]; intro e; exact h (by rw [e])
      rw [List.count_cons, if_neg hne, Nat.add_zero, ← ih]
      cases q : splitL c.toNat r with
      | nil => exact absurd q (splitL_ne _ _)
      | cons x t => simp [prep]
/-- Parts without the byte, joined by it, are what splitting gives. -/
theorem split_join (c : UInt8) : ∀ (l : List (List UInt8)), l ≠ [] → (∀ t ∈ l, c ∉ t) → splitL c.toNat (Lib.join l [c]) = l
  | [], h, _ => absurd rfl h
  | [x], _, h => by rw [Lib.join_one]; exact split_none c x (h x (by simp))
  | x :: y :: r, _, h => by
    have ih := split_join c (y :: r) (by simp) (fun t ht => h t (by simp [ht]))
    have e : Lib.join (x :: y :: r) [c] = x ++ c :: Lib.join (y :: r) [c] := by
      rw [Lib.join_cons, Lib.join_cons]
      simp [Lib.joinTail]
    rw [e, split_cons c x _ (h x (by simp)), ih]
theorem dec_ne (k : Nat) : Lib.decDigits k ≠ [] := by rw [dec_step]; simp
theorem dec_bytes : ∀ (f k : Nat), k < f → ∀ b ∈ Lib.decDigits k, 48 ≤ b.toNat ∧ b.toNat ≤ 57
  | 0, k, h => by omega
  | f + 1, k, h => by
    intro b hb
    rw [dec_step] at hb
    rcases List.mem_append.1 hb with hb | hb
    · unfold dPre at hb
      split at hb
      · simp at hb
      · exact dec_bytes f (k / 10) (by omega) b hb
    · have hd : (UInt8.ofNat (48 + k % 10)).toNat = 48 + k % 10 := by simp [UInt8.toNat_ofNat]; omega
      simp only [List.mem_singleton] at hb
      subst hb
      rw [hd]
      omega
/-- A row of digits as a number, read from the left: at most f of them, no step from beyond 10^17. -/
def rdGo : Nat → Int → List UInt8 → Option Int
  | 0, n, _ => some n
  | _ + 1, n, [] => some n
  | f + 1, n, b :: l => if 48 ≤ (b.toNat : Int) ∧ (b.toNat : Int) ≤ 57 ∧ n ≤ 100000000000000000 then rdGo f (10 * n + ((b.toNat : Int) - 48)) l else none
/-- What the model reads. -/
def rdV (t : List UInt8) : Int := if t.head? = some 45 then -((rdGo 19 0 t.tail).getD 0) else (rdGo 19 0 t).getD 0
theorem rdGo_dec : ∀ (g k : Nat), k < g → (k : Int) ≤ 1000000000000000000 → ∀ (f : Nat) (r : List UInt8), (Lib.decDigits k).length ≤ f → rdGo f 0 (Lib.decDigits k ++ r) = rdGo (f - (Lib.decDigits k).length) k r
  | 0, k, h, _ => by omega
  | g + 1, k, h, hk => by
    intro f r hf
    have hd : ((UInt8.ofNat (48 + k % 10)).toNat : Int) = 48 + ((k % 10 : Nat) : Int) := digit_byte (by omega)
    have hlen : (Lib.decDigits k).length = (dPre (k / 10)).length + 1 := by rw [dec_step]; simp
    rw [hlen] at hf ⊢
    rw [dec_step k, List.append_assoc]
    obtain ⟨f', rfl⟩ : ∃ f', f = f' + 1 + (dPre (k / 10)).length := ⟨f - (dPre (k / 10)).length - 1, by omega⟩
    have hq : rdGo (f' + 1 + (dPre (k / 10)).length) 0 (dPre (k / 10) ++ ([UInt8.ofNat (48 + k % 10)] ++ r)) = rdGo (f' + 1) ((k / 10 : Nat) : Int) ([UInt8.ofNat (48 + k % 10)] ++ r) := by
      unfold dPre
      split
      · rename_i h0
        rw [h0]
        rfl
      · rename_i h0
        have := rdGo_dec g (k / 10) (by omega) (by omega) (f' + 1 + (Lib.decDigits (k / 10)).length) ([UInt8.ofNat (48 + k % 10)] ++ r) (by omega)
        rw [this]
        congr 1
        omega
    rw [hq, List.singleton_append, rdGo, if_pos ⟨by omega, by omega, by omega⟩, hd]
    congr 1
    · omega
    · omega
theorem rdV_itoa {x : Int} (h0 : -1000000000000000000 ≤ x) (h1 : x ≤ 1000000000000000000) : rdV (Lib.itoa x) = x := by
  have hl : ∀ k : Nat, (k : Int) ≤ 1000000000000000000 → (Lib.decDigits k).length ≤ 19 := fun k hk => dec_length 19 k (by omega) (by omega)
  have key : ∀ k : Nat, (k : Int) ≤ 1000000000000000000 → rdGo 19 0 (Lib.decDigits k) = some (k : Int) := by
    intro k hk
    have := rdGo_dec (k + 1) k (by omega) hk 19 [] (hl k hk)
    rw [List.append_nil] at this
    rw [this]
    cases 19 - (Lib.decDigits k).length <;> rfl
  unfold Lib.itoa
  split
  · unfold rdV
    rw [if_pos (by rfl)]
    show -((rdGo 19 0 (Lib.decDigits x.natAbs)).getD 0) = x
    rw [key _ (by omega)]
    simp
    omega
  · unfold rdV
    have hh : (Lib.decDigits x.toNat).head? ≠ some 45 := by
      intro e
      cases q : Lib.decDigits x.toNat with
      | nil => exact dec_ne _ q
      | cons b r =>
        rw [q] at e
        simp at e
        have := dec_bytes (x.toNat + 1) x.toNat (by omega) b (by rw [q]; simp)
        rw [e] at this
        simp at this
    rw [if_neg hh, key _ (by omega)]
    simp
    omega
/-- What the library reads, whatever the error. -/
def prV (t : List UInt8) : Int := match Lib.parseIntB 64 t with
  | .ok v => v
  | .«syntax» => 0
  | .range => Lib.intSat 64 t
def two (k : Nat) : List UInt8 := if k < 10 then [UInt8.ofNat (48 + k)] else [UInt8.ofNat (48 + k / 10), UInt8.ofNat (48 + k % 10)]
theorem dec_two {k : Nat} (h : k < 100) : Lib.decDigits k = two k := by
  rw [dec_step, two]
  by_cases g : k < 10
  · rw [if_pos g, dPre, if_pos (by omega), show k % 10 = k by omega]
    rfl
  · rw [if_neg g, dPre, if_neg (by omega), dec_step, dPre, if_pos (by omega), show k / 10 % 10 = k / 10 by omega]
    rfl
theorem atoi_two : ∀ k : Fin 100, Lib.atoi (two k.val) = some (k.val : Int) := by decide
theorem prV_small {x : Int} (h0 : 0 ≤ x) (h1 : x < 100) : prV (Lib.itoa x) = x := by
  obtain ⟨k, rfl⟩ := Int.eq_ofNat_of_zero_le h0
  have hk : k < 100 := by omega
  have e : Lib.itoa (k : Int) = two k := by rw [Lib.itoa, if_neg (by omega)]; exact dec_two hk
  have ha := atoi_two ⟨k, hk⟩
  have hl : (two k).length ≤ 18 := by unfold two; split <;> simp
  have hp : Lib.parseIntB 64 (two k) = .ok (k : Int) := by rw [Lib.parseIntB_64, Lib.atoiAll_short _ hl, ha]; rfl
  rw [e, prV, hp]
end Go.Proofs.YtenbihglmblalaaDoor
