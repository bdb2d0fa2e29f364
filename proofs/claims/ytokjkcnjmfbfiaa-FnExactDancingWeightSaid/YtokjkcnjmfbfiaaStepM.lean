/- Mathematics of a legal step: its board is valid, it can be undone, the pips change as the document says. -/
import Derived.Test.YtokjkcnjmfbfiaaStepA
import Derived.Test.Ytokjkcnjmfbfiaa04w
namespace Go.Proofs.Ytokjkcnjmfbfiaa
open Go.ChangeShapes Go.WideShapes Go.ChangeAt Go.RowKit
set_option linter.unusedVariables false
set_option linter.unusedSimpArgs false
set_option maxRecDepth 4000

theorem getD_set (l : List Int) {i : Nat} (j : Nat) (v : Int) (hi : i < l.length) : (l.set i v).getD j 0 = if j = i then v else l.getD j 0 := by
  by_cases h : j = i
  · rw [if_pos h, h]
    exact getD_set_eq l v hi
  · rw [if_neg h]
    exact getD_set_ne l v h
theorem sum_set : ∀ (l : List Int) (i : Nat) (v : Int), i < l.length → (l.set i v).sum = l.sum - l.getD i 0 + v
  | [], i, v, h => by simp at h
  | x :: l, 0, v, h => by simp; omega
  | x :: l, i + 1, v, h => by
    have ih := sum_set l i v (by simpa using h)
    rw [List.set_cons_succ, List.sum_cons, List.sum_cons, ih, List.getD_cons_succ]
    omega
theorem pips_set (l : List Int) (i : Nat) (v : Int) (hi : i < l.length) : ∀ n : Nat, pipsL (l.set i v) n = pipsL l n + (if i < n then ((i : Int) + 1) * (v - l.getD i 0) else 0)
  | 0 => by simp [pipsL]
  | n + 1 => by
    have ih := pips_set l i v hi n
    rw [pipsL, pipsL, ih, getD_set l n v hi]
    by_cases h : n = i
    · subst h
      rw [if_pos rfl, if_neg (by omega), if_pos (by omega), Int.mul_sub]
      omega
    · rw [if_neg h]
      by_cases h2 : i < n
      · rw [if_pos h2, if_pos (by omega)]
        omega
      · rw [if_neg h2, if_neg (by omega)]
        omega
theorem elem_le_sum : ∀ (l : List Int), (∀ x ∈ l, 0 ≤ x) → ∀ x ∈ l, x ≤ l.sum
  | [], _, x, h => by simp at h
  | y :: l, h0, x, h => by
    have hs : 0 ≤ l.sum := by
      have : ∀ (m : List Int), (∀ x ∈ m, 0 ≤ x) → 0 ≤ m.sum := by
        intro m
        induction m with
        | nil => simp
        | cons a m ih =>
          intro hm
          have := hm a (by simp)
          have := ih (fun x hx => hm x (by simp [hx]))
          simp
          omega
      exact this l (fun x hx => h0 x (by simp [hx]))
    have hy := h0 y (by simp)
    rw [List.sum_cons]
    rcases List.mem_cons.1 h with rfl | h
    · omega
    · have := elem_le_sum l (fun x hx => h0 x (by simp [hx])) x h
      omega
theorem lastL_zero {l : List Int} (h : ∀ j, l.getD j 0 = 0) : ∀ n, lastL l n = -1
  | 0 => rfl
  | n + 1 => by rw [lastL_not (h n), lastL_zero h n]
theorem side_of {p c : Int} {l : List Int} (hl : (l.length : Int) = p + 1) (h0 : ∀ j, 0 ≤ l.getD j 0) (hs : l.sum ≤ c) : sideB p c l = true := by
  have hm : ∀ x ∈ l, 0 ≤ x := by
    intro x hx
    obtain ⟨j, hj, rfl⟩ := List.getElem_of_mem hx
    have := h0 j
    rw [List.getD_eq_getElem?_getD, List.getElem?_eq_getElem hj] at this
    simpa using this
  exact sideB_iff.2 ⟨hl, fun x hx => ⟨hm x hx, Int.le_trans (elem_le_sum l hm x hx) hs⟩, hs⟩
/-- What a legal step is, in numbers. -/
theorem leg_parts {P : Nat} {c h s : Int} {xs ys : List Int} {a b d : Int} {q : Bool} (g : isB (P : Int) c h s xs ys = true) (gl : legB P h s xs ys (a, b, d, q) = true) :
    ∃ f : Nat, a = (f : Int) ∧ f ≤ P ∧ 1 ≤ d ∧ d ≤ s ∧ 1 ≤ xs.getD f 0 ∧ 1 ≤ ys.sum ∧ ((b = -1 ∧ q = false ∧ (f : Int) < d) ∨ ∃ t : Nat, b = (t : Int) ∧ t < P ∧ ¬ t = f ∧ (t : Int) = (f : Int) - d ∧ ys.getD (P - 1 - t) 0 ≤ 1 ∧ q = decide (0 < ys.getD (P - 1 - t) 0)) := by
  obtain ⟨f, rfl, fP, hc⟩ := legB_form gl
  obtain ⟨p0, p1, k0, k1, k2, k3, N1, N2, hx, hy, s0, s1, s2, s3⟩ := isB_parts g
  unfold legB at gl
  simp only [Bool.and_eq_true, Bool.not_eq_true', decide_eq_true_eq] at gl
  obtain ⟨g1, -, g3, g4⟩ := gl
  have g1' : 1 ≤ d ∧ d ≤ s := by simpa [inB] using g1
  rw [show ((f : Int)).toNat = f by simp] at g4
  obtain ⟨-, e2, -, e4, e5, e6⟩ := stepI_form g4
  have e7 := stepI_hitA g4
  dsimp only at e2 e5 e7
  have hxf := (hx _ (getD_mem (show f < xs.length by omega))).1
  have hys : 1 ≤ ys.sum := by
    apply Classical.byContradiction
    intro hn
    have h0 : ys.sum = 0 := by omega
    have hz : ∀ j, ys.getD j 0 = 0 := by
      intro j
      have h1 := nonneg_getD (fun x hx => (hy x hx).1) j
      by_cases hj : j < ys.length
      · have h2 := elem_le_sum ys (fun x hx => (hy x hx).1) _ (getD_mem hj)
        omega
      · rw [getD_out (by omega)]
    have : overB xs ys = true := by
      unfold overB
      rw [lastL_zero hz]
      simp
    rw [this] at g3
    simp at g3
  refine ⟨f, rfl, fP, g1'.1, g1'.2, by omega, hys, ?_⟩
  rcases hc with ⟨rfl, rfl⟩ | ⟨t, rfl, tP, hne⟩
  · left
    refine ⟨rfl, rfl, ?_⟩
    unfold toI at e5
    split at e5
    · rename_i hk
      unfold alB at e6
      by_cases hp : f = P
      · rw [if_pos hp] at e6
        simp only [openB, Bool.and_eq_true, decide_eq_true_eq] at e6
        omega
      · omega
    · omega
  · right
    have ht : (t : Int) = (f : Int) - d := by omega
    refine ⟨t, rfl, tP, hne, ht, ?_, ?_⟩
    · have ho : openB P ys ((f : Int) - d) = true := by
        unfold alB at e6
        split at e6
        · exact e6
        · split at e6
          · simp only [Bool.and_eq_true] at e6
            exact e6.2
          · omega
      simp only [openB, Bool.and_eq_true, decide_eq_true_eq] at ho
      have := ho.2.2
      rw [← ht] at this
      simpa using this
    · rw [e7]
      have : decide ((t : Int) ≠ -1) = true := by simp
      rw [this, Bool.true_and]
      simp
/-- A legal step leads to a valid board, is undone, and changes the pips as it must. -/
theorem step_facts {P : Nat} {c h s : Int} {xs ys : List Int} {a b d : Int} {q : Bool} (g : isB (P : Int) c h s xs ys = true) (gl : legB P h s xs ys (a, b, d, q) = true) :
    isB (P : Int) c h s (mvX xs a b 1) (mvY P ys b q 1) = true ∧ mvX (mvX xs a b 1) a b (-1) = xs ∧ mvY P (mvY P ys b q 1) b q (-1) = ys ∧
    (1 ≤ pipsL xs xs.length - pipsL (mvX xs a b 1) (mvX xs a b 1).length ∧ pipsL xs xs.length - pipsL (mvX xs a b 1) (mvX xs a b 1).length ≤ d) ∧
    (if q = true then pipsL ys ys.length < pipsL (mvY P ys b q 1) (mvY P ys b q 1).length else pipsL (mvY P ys b q 1) (mvY P ys b q 1).length = pipsL ys ys.length) ∧
    (mvY P ys b q 1).getD P 0 - ys.getD P 0 = (if q = true then 1 else 0) := by
  obtain ⟨f, rfl, fP, d1, ds, hf, hys, hc⟩ := leg_parts g gl
  obtain ⟨p0, p1, k0, k1, k2, k3, N1, N2, hx, hy, s0, s1, s2, s3⟩ := isB_parts g
  have gap : apartB P xs ys = true := by
    simp only [isB, Bool.and_eq_true] at g
    simpa using g.2.2.2.2
  have gv : vB (P : Int) c h s = true := by
    simp only [isB, Bool.and_eq_true] at g
    exact g.1
  have hfn : f < xs.length := by omega
  have hPn : P < ys.length := by omega
  have hx0 := nonneg_getD (fun x hm => (hx x hm).1)
  have hy0 := nonneg_getD (fun x hm => (hy x hm).1)
  have hap := apart_iff.1 gap
  have mk : ∀ X Y : List Int, X.length = xs.length → Y.length = ys.length → (∀ j, 0 ≤ X.getD j 0) → (∀ j, 0 ≤ Y.getD j 0) → X.sum ≤ c → Y.sum ≤ c → 0 ≤ X.sum → 1 ≤ Y.sum → (∀ i, i < P → ¬ (0 < X.getD i 0 ∧ 0 < Y.getD (P - 1 - i) 0)) → isB (P : Int) c h s X Y = true := by
    intro X Y l1 l2 h1 h2 h3 h4 h5 h6 h7
    have hsum : decide (X.sum + Y.sum = 0) = false := by simp; omega
    rw [isB, gv, side_of (by omega) h1 h3, side_of (by omega) h2 h4, hsum, show ((P : Int)).toNat = P by simp, apart_iff.2 h7]
    rfl
  rcases hc with ⟨rfl, rfl, hd⟩ | ⟨t, rfl, tP, hne, ht, ho, rfl⟩
  · have eX : mvX xs (f : Int) (-1) 1 = xs.set f (xs.getD f 0 - 1) := by simp [mvX]
    have eY : mvY P ys (-1) false 1 = ys := by simp [mvY]
    have eX2 : mvX (xs.set f (xs.getD f 0 - 1)) (f : Int) (-1) (-1) = xs := by
      have : mvX (xs.set f (xs.getD f 0 - 1)) (f : Int) (-1) (-1) = (xs.set f (xs.getD f 0 - 1)).set f ((xs.set f (xs.getD f 0 - 1)).getD f 0 + 1) := by simp [mvX]
      rw [this, getD_set _ f _ hfn, if_pos rfl, List.set_set]
      apply ext_getD (by simp)
      intro j
      rw [getD_set _ j _ hfn]
      split
      · rename_i e; subst e; omega
      · rfl
    rw [eX, eY, eX2]
    have hsum := sum_set xs f (xs.getD f 0 - 1) hfn
    have hle := elem_le_sum xs (fun x hm => (hx x hm).1) _ (getD_mem hfn)
    have hp := pips_set xs f (xs.getD f 0 - 1) hfn xs.length
    rw [if_pos hfn, show xs.getD f 0 - 1 - xs.getD f 0 = -1 by omega, Int.mul_neg_one] at hp
    refine ⟨mk _ _ (by simp) rfl ?_ hy0 (by omega) s3 (by omega) hys ?_, rfl, by simp [mvY], ?_, by simp, by simp⟩
    · intro j
      rw [getD_set _ j _ hfn]
      have := hx0 j
      split <;> omega
    · intro i hi
      rw [getD_set _ i _ hfn]
      have := hap i hi
      split
      · rename_i e; subst e; omega
      · exact this
    · rw [List.length_set, hp]
      omega
  · obtain ⟨K, hK⟩ : ∃ K, P - 1 - t = K := ⟨_, rfl⟩
    have eK : ((P : Int) - 1 - (t : Int)).toNat = K := by omega
    have hKn : K < ys.length := by omega
    have htn : t < xs.length := by omega
    have hKP : ¬ K = P := by omega
    have hft : ¬ f = t := fun e => hne e.symm
    rw [hK] at ho ⊢
    have tn1 : ¬ ((t : Int) = -1) := by omega
    have eX : mvX xs (f : Int) (t : Int) 1 = (xs.set f (xs.getD f 0 - 1)).set t (xs.getD t 0 + 1) := by
      rw [mvX, if_neg tn1, show ((f : Int)).toNat = f by simp, show ((t : Int)).toNat = t by simp, getD_set _ t _ hfn, if_neg hne]
    have hX2 : ∀ j, ((xs.set f (xs.getD f 0 - 1)).set t (xs.getD t 0 + 1)).getD j 0 = if j = t then xs.getD t 0 + 1 else if j = f then xs.getD f 0 - 1 else xs.getD j 0 := by
      intro j
      rw [getD_set _ j _ (by rw [List.length_set]; exact htn), getD_set _ j _ hfn]
    have eX2 : mvX ((xs.set f (xs.getD f 0 - 1)).set t (xs.getD t 0 + 1)) (f : Int) (t : Int) (-1) = xs := by
      rw [mvX, if_neg tn1, show ((f : Int)).toNat = f by simp, show ((t : Int)).toNat = t by simp]
      apply ext_getD (by simp)
      intro j
      rw [getD_set _ j _ (by simp; exact htn), getD_set _ j _ (by simp; exact hfn), getD_set _ t _ (by simp; exact hfn), hX2, hX2, hX2, if_neg hft, if_pos rfl, if_neg hne, if_pos rfl]
      by_cases e1 : j = t
      · subst e1; rw [if_pos rfl]; omega
      · rw [if_neg e1]
        by_cases e2 : j = f
        · subst e2; rw [if_pos rfl]; omega
        · rw [if_neg e2, if_neg e1, if_neg e2]
    have hsum1 := sum_set xs f (xs.getD f 0 - 1) hfn
    have hsum2 := sum_set (xs.set f (xs.getD f 0 - 1)) t (xs.getD t 0 + 1) (by rw [List.length_set]; exact htn)
    rw [getD_set _ t _ hfn, if_neg hne] at hsum2
    have hp1 := pips_set xs f (xs.getD f 0 - 1) hfn xs.length
    have hp2 := pips_set (xs.set f (xs.getD f 0 - 1)) t (xs.getD t 0 + 1) (by rw [List.length_set]; exact htn) xs.length
    rw [if_pos hfn, show xs.getD f 0 - 1 - xs.getD f 0 = -1 by omega, Int.mul_neg_one] at hp1
    rw [getD_set _ t _ hfn, if_neg hne, if_pos htn, show xs.getD t 0 + 1 - xs.getD t 0 = 1 by omega, Int.mul_one, hp1] at hp2
    have hXn : ∀ j, 0 ≤ ((xs.set f (xs.getD f 0 - 1)).set t (xs.getD t 0 + 1)).getD j 0 := by
      intro j
      rw [hX2 j]
      have := hx0 j
      have := hx0 t
      split
      · omega
      · split <;> omega
    rw [eX, eX2]
    have hyK := hy0 K
    by_cases hq : 0 < ys.getD K 0
    · rw [decide_eq_true hq]
      have hy1 : ys.getD K 0 = 1 := by omega
      have hPK : ¬ P = K := fun e => hKP e.symm
      have eY : mvY P ys (t : Int) true 1 = (ys.set K (ys.getD K 0 - 1)).set P (ys.getD P 0 + 1) := by
        rw [mvY, if_pos rfl, eK, getD_set _ P _ hKn, if_neg hPK]
      have hY2 : ∀ j, ((ys.set K (ys.getD K 0 - 1)).set P (ys.getD P 0 + 1)).getD j 0 = if j = P then ys.getD P 0 + 1 else if j = K then ys.getD K 0 - 1 else ys.getD j 0 := by
        intro j
        rw [getD_set _ j _ (by rw [List.length_set]; exact hPn), getD_set _ j _ hKn]
      have eY2 : mvY P ((ys.set K (ys.getD K 0 - 1)).set P (ys.getD P 0 + 1)) (t : Int) true (-1) = ys := by
        rw [mvY, if_pos rfl, eK]
        apply ext_getD (by simp)
        intro j
        rw [getD_set _ j _ (by simp; exact hPn), getD_set _ j _ (by simp; exact hKn), getD_set _ P _ (by simp; exact hKn), hY2, hY2, hY2, if_neg hKP, if_pos rfl, if_neg hPK, if_pos rfl]
        by_cases e1 : j = P
        · subst e1; rw [if_pos rfl]; omega
        · rw [if_neg e1]
          by_cases e2 : j = K
          · subst e2; rw [if_pos rfl]; omega
          · rw [if_neg e2, if_neg e1, if_neg e2]
      have hsy1 := sum_set ys K (ys.getD K 0 - 1) hKn
      have hsy2 := sum_set (ys.set K (ys.getD K 0 - 1)) P (ys.getD P 0 + 1) (by rw [List.length_set]; exact hPn)
      rw [getD_set _ P _ hKn, if_neg hPK] at hsy2
      have hq1 := pips_set ys K (ys.getD K 0 - 1) hKn ys.length
      have hq2 := pips_set (ys.set K (ys.getD K 0 - 1)) P (ys.getD P 0 + 1) (by rw [List.length_set]; exact hPn) ys.length
      rw [if_pos hKn, show ys.getD K 0 - 1 - ys.getD K 0 = -1 by omega, Int.mul_neg_one] at hq1
      rw [getD_set _ P _ hKn, if_neg hPK, if_pos hPn, show ys.getD P 0 + 1 - ys.getD P 0 = 1 by omega, Int.mul_one, hq1] at hq2
      rw [eY, eY2]
      refine ⟨mk _ _ (by simp) (by simp) hXn ?_ (by omega) (by omega) (by omega) (by omega) ?_, rfl, rfl, ?_, ?_, ?_⟩
      · intro j
        rw [hY2 j]
        have := hy0 j
        have := hy0 P
        split
        · omega
        · split <;> omega
      · intro i hi
        rw [hX2, hY2]
        have h1 := hap i hi
        rw [if_neg (show ¬ P - 1 - i = P by omega)]
        by_cases e : i = t
        · subst e
          rw [if_pos rfl, if_pos hK]
          omega
        · rw [if_neg e, if_neg (show ¬ P - 1 - i = K by omega)]
          split
          · rename_i e2; subst e2; omega
          · exact h1
      · rw [List.length_set, List.length_set, hp2]
        omega
      · rw [if_pos rfl, List.length_set, List.length_set, hq2]
        omega
      · rw [if_pos rfl, hY2, if_pos rfl]
        omega
    · rw [decide_eq_false hq]
      have eY : mvY P ys (t : Int) false 1 = ys := by simp [mvY]
      rw [eY]
      refine ⟨mk _ _ (by simp) rfl hXn hy0 (by omega) s3 (by omega) hys ?_, rfl, by simp [mvY], ?_, by simp, by simp⟩
      · intro i hi
        rw [hX2]
        have h1 := hap i hi
        by_cases e : i = t
        · subst e
          rw [if_pos rfl, hK]
          omega
        · rw [if_neg e]
          split
          · rename_i e2; subst e2; omega
          · exact h1
      · rw [List.length_set, List.length_set, hp2]
        omega

end Go.Proofs.Ytokjkcnjmfbfiaa
