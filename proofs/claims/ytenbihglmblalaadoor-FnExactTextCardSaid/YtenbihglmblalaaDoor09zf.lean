/- Mathematics of chapter 9: at most one number has a text; the place where its digits end. -/
import Derived.Test.YtenbihglmblalaaDoor09ze
import Derived.Test.YtenbihglmblalaaDoorSpl
namespace Go.Proofs.YtenbihglmblalaaDoor
open Go.ChangeShapes Go.WideShapes Go.ChangeAt Go.RowKit
set_option linter.unusedVariables false
set_option linter.unusedSimpArgs false
set_option maxRecDepth 4000

theorem no47 (n : Int) : (47 : UInt8) ∉ Lib.itoa n := by
  have h : ∀ k : Nat, (47 : UInt8) ∉ Lib.decDigits k := fun k q => by
    have := dec_bytes (k + 1) k (by omega) 47 q
    simp at this
  unfold Lib.itoa
  split
  · intro q
    rcases List.mem_cons.1 q with q | q
    · exact absurd q (by decide)
    · exact h _ q
  · exact h _
theorem itoa_inj {x y : Int} (x0 : -1000000000000000000 ≤ x) (x1 : x ≤ 1000000000000000000) (y0 : -1000000000000000000 ≤ y) (y1 : y ≤ 1000000000000000000) (h : Lib.itoa x = Lib.itoa y) : x = y := by
  rw [← rdV_itoa x0 x1, h, rdV_itoa y0 y1]
theorem xt_parts (S : Nat) (n d : Int) : splitL 47 (xtL S n d) = if d = 0 then [Lib.itoa n] else [Lib.itoa n, Lib.itoa ((scN S d.toNat : Nat) : Int)] := by
  unfold xtL
  by_cases h : d = 0
  · rw [if_pos h, if_pos h]
    exact split_none 47 _ (no47 n)
  · rw [if_neg h, if_neg h]
    have h1 := split_cons 47 (Lib.itoa n) (Lib.itoa ((scN S d.toNat : Nat) : Int)) (no47 n)
    have h2 := split_none 47 (Lib.itoa ((scN S d.toNat : Nat) : Int)) (no47 _)
    have h3 : splitL 47 (Lib.itoa n ++ 47 :: Lib.itoa ((scN S d.toNat : Nat) : Int)) = [Lib.itoa n, Lib.itoa ((scN S d.toNat : Nat) : Int)] := h1.trans (by rw [h2])
    exact h3
theorem ex_range {p c h s n d : Int} (g : exB p c h s n d = true) : vB p c h s = true ∧ 0 ≤ d ∧ d < nn s.toNat ∧ -1000000000000000000 ≤ n ∧ n ≤ 1000000000000000000 ∧ (d ≠ 0 → 2 ≤ s.toNat) ∧ 1 ≤ s.toNat ∧ s.toNat ≤ 6 := by
  simp only [exB, Bool.and_eq_true] at g
  obtain ⟨S, hS, h1, h2⟩ := vB_sd g.1
  have g2 := g.2
  unfold xvB at g2
  simp only [decide_eq_true_eq] at g2
  obtain ⟨q1, q2, q3, q4, q5⟩ := g2
  refine ⟨g.1, q1, q2, q3, q4, fun hd => ?_, by omega, by omega⟩
  rcases q5 with q5 | q5
  · exact absurd q5 hd
  · rcases Nat.lt_or_ge s.toNat 2 with r | r
    · exfalso
      have : s.toNat = 1 := by omega
      rw [this] at q5
      simp at q5
    · exact r
theorem scN_inj {S j k : Nat} (hS : 2 ≤ S) (h : scN S j = scN S k) : j = k := by
  have h4 : 2 ≤ S * S := by
    have := Nat.mul_le_mul hS hS
    omega
  exact (Nat.pow_right_inj (a := S * S) (by omega)).1 h
/-- At most one number has a text. -/
theorem xt_inj {p c h s n d n' d' : Int} (g : exB p c h s n d = true) (g' : exB p c h s n' d' = true) (e : xtL s.toNat n d = xtL s.toNat n' d') : n = n' ∧ d = d' := by
  obtain ⟨v, a1, a2, a3, a4, a5, a6, a7⟩ := ex_range g
  obtain ⟨-, b1, b2, b3, b4, b5, -, -⟩ := ex_range g'
  have h1 := xt_parts s.toNat n d
  have h2 := xt_parts s.toNat n' d'
  rw [e, h2] at h1
  by_cases hd : d = 0
  · by_cases hd' : d' = 0
    · rw [if_pos hd, if_pos hd'] at h1
      have := itoa_inj b3 b4 a3 a4 (List.head_eq_of_cons_eq h1)
      exact ⟨this.symm, by omega⟩
    · rw [if_pos hd, if_neg hd'] at h1
      have := congrArg List.length h1
      simp at this
  · by_cases hd' : d' = 0
    · rw [if_neg hd, if_pos hd'] at h1
      have := congrArg List.length h1
      simp at this
    · rw [if_neg hd, if_neg hd'] at h1
      have h3 := itoa_inj b3 b4 a3 a4 (List.head_eq_of_cons_eq h1)
      have h4 := List.head_eq_of_cons_eq (List.tail_eq_of_cons_eq h1)
      have k1 := scN_in (S := s.toNat) (k := d.toNat) ⟨a6, a7⟩ (by omega)
      have k2 := scN_in (S := s.toNat) (k := d'.toNat) ⟨a6, a7⟩ (by omega)
      have h5 := itoa_inj (by omega) (by omega) (by omega) (by omega) h4
      have h6 := scN_inj (a5 hd) (show scN s.toNat d'.toNat = scN s.toNat d.toNat by omega)
      exact ⟨h3.symm, by omega⟩
/-- The last place of a slash among the first k bytes, or the end. -/
def atV (t : List UInt8) : Nat → Nat
  | 0 => t.length
  | k + 1 => if t[k]? = some 47 then k else atV t k
theorem atV_le (t : List UInt8) : ∀ k, k ≤ t.length → atV t k ≤ t.length
  | 0, _ => Nat.le_refl _
  | k + 1, h => by
    rw [atV]
    split
    · omega
    · exact atV_le t k (by omega)
theorem atV_none (t : List UInt8) : ∀ k, (∀ j, j < k → t[j]? ≠ some 47) → atV t k = t.length
  | 0, _ => rfl
  | k + 1, h => by
    rw [atV, if_neg (h k (by omega))]
    exact atV_none t k (fun j hj => h j (by omega))
theorem atV_one (t : List UInt8) (i : Nat) (hi : t[i]? = some 47) : ∀ k, i < k → (∀ j, i < j → j < k → t[j]? ≠ some 47) → atV t k = i
  | 0, h, _ => by omega
  | k + 1, h, hn => by
    rw [atV]
    by_cases e : k = i
    · subst e
      rw [if_pos hi]
    · rw [if_neg (hn k (by omega) (by omega))]
      exact atV_one t i hi k (by omega) (fun j h1 h2 => hn j h1 (by omega))
/-- The digits of the number that has a text end where the model sees them end. -/
theorem at_text (S : Nat) (n d : Int) : (xtL S n d).take (atV (xtL S n d) (xtL S n d).length) = Lib.itoa n := by
  unfold xtL
  by_cases h : d = 0
  · rw [if_pos h, atV_none _ _ (fun j _ q => no47 n (List.mem_of_getElem? q)), List.take_length]
  · rw [if_neg h]
    have h1 : (Lib.itoa n ++ ([47] ++ Lib.itoa ((scN S d.toNat : Nat) : Int)))[(Lib.itoa n).length]? = some 47 := by
      rw [List.getElem?_append_right (Nat.le_refl _), Nat.sub_self]
      rfl
    rw [atV_one _ _ h1 _ (by simp) ?_, List.take_left]
    intro j h2 h3 q
    rw [List.getElem?_append_right (by omega), List.singleton_append, show j - (Lib.itoa n).length = (j - (Lib.itoa n).length - 1) + 1 by omega, List.getElem?_cons_succ] at q
    exact no47 _ (List.mem_of_getElem? q)
end Go.Proofs.YtenbihglmblalaaDoor
