/- Texts of a proof, laid together. -/
import Derived.Test.YtodlofabffenoaaV10
namespace Go.Proofs.Ytodlofabffenoaa
open Go.ChangeShapes Go.WideShapes Go.ChangeAt Go.RowKit
set_option linter.unusedVariables false
set_option linter.unusedSimpArgs false
set_option maxRecDepth 4000
theorem legB_form {P : Nat} {h s : Int} {xs ys : List Int} {a b d : Int} {q : Bool} (g : legB P h s xs ys (a, b, d, q) = true) : ∃ f : Nat, a = (f : Int) ∧ f ≤ P ∧ ((b = -1 ∧ q = false) ∨ ∃ t : Nat, b = (t : Int) ∧ t < P ∧ ¬ t = f) := by
  have hp := legB_places g
  unfold legB at g
  simp only [placesB, Bool.and_eq_true, decide_eq_true_eq] at g hp
  obtain ⟨g1, _, _, g2⟩ := g
  have g1' : 1 ≤ d ∧ d ≤ s := by simpa [inB] using g1
  obtain ⟨p1, p2, p3, p4⟩ := hp
  obtain ⟨f, rfl⟩ := Int.eq_ofNat_of_zero_le p1
  refine ⟨f, rfl, by omega, ?_⟩
  rw [show (f : Int).toNat = f by simp] at g2
  unfold stepI at g2
  split at g2
  · simp at g2
  · split at g2
    · simp only [Option.some.injEq, Prod.mk.injEq] at g2
      obtain ⟨_, g3, _, g4⟩ := g2
      by_cases hb : b = -1
      · left
        refine ⟨hb, ?_⟩
        rw [← g4, g3, hb]
        rfl
      · right
        obtain ⟨t, rfl⟩ := Int.eq_ofNat_of_zero_le (by omega : 0 ≤ b)
        refine ⟨t, rfl, by omega, ?_⟩
        unfold toI at g3
        split at g3
        · omega
        · omega
    · simp at g2
theorem l04Apply_any (P : Nat) (c h s : Int) (a1 a2 : Option Addr) (n1 n2 c1 c2 : Nat) (xs ys : List Int) (w : World) (h1 : xs.length = n1) (h2 : ys.length = n2) (p0 : 2 ≤ P) (p1 : P ≤ 24) (N1 : xs.length = P + 1) (N2 : ys.length = P + 1) (hh0 : 1 ≤ h) (hh : h ≤ (P : Int)) (hx : ∀ x ∈ xs, 0 ≤ x ∧ x ≤ 1000) (hy : ∀ y ∈ ys, 0 ≤ y ∧ y ≤ 1000) (r1 : IRow w a1 xs) (r2 : IRow w a2 ys) (t : Stp) (gl : legB P h s xs ys t = true) :
    Calls Try.prog 40 #[.agg #[.int .i64 (P : Int), .int .i64 c, .int .i64 h, .int .i64 s], .agg #[.slice a1 n1 c1, .slice a2 n2 c2], stV t] w (BoardGot (mvX xs t.1 t.2.1 1) (mvY P ys t.2.1 t.2.2.2 1) w) := by
  obtain ⟨a, b, d, q⟩ := t
  obtain ⟨f, rfl, fP, hc⟩ := legB_form gl
  dsimp only
  rcases hc with ⟨rfl, rfl⟩ | ⟨t, rfl, tP, hne⟩
  · exact l04Apply_off_false P c h s a1 a2 n1 n2 c1 c2 xs ys w h1 h2 p0 p1 N1 N2 hh0 hh hx hy r1 r2 f d fP
  · cases q with
    | true => exact l04Apply_far_true P c h s a1 a2 n1 n2 c1 c2 xs ys w h1 h2 p0 p1 N1 N2 hh0 hh hx hy r1 r2 f d fP t tP hne
    | false => exact l04Apply_far_false P c h s a1 a2 n1 n2 c1 c2 xs ys w h1 h2 p0 p1 N1 N2 hh0 hh hx hy r1 r2 f d fP t tP hne
theorem getD_set (l : List Int) {i : Nat} (j : Nat) (v : Int) (hi : i < l.length) : (l.set i v).getD j 0 = if j = i then v else l.getD j 0 := by
  by_cases h : j = i
  · rw [if_pos h, h]
    exact getD_set_eq l v hi
  · rw [if_neg h]
    exact getD_set_ne l v h
theorem sum_set : ∀ (l : List Int) (i : Nat) (v : Int), i < l.length → (l.set i v).sum = l.sum - l.getD i 0 + v
  | [], i, v, h => by simp at h
  | x :: l, 0, v, h => by simp; omega
  | x :: l, i + 1, v, h => by
    have ih := sum_set l i v (by simpa using h)
    rw [List.set_cons_succ, List.sum_cons, List.sum_cons, ih, List.getD_cons_succ]
    omega
theorem pips_set (l : List Int) (i : Nat) (v : Int) (hi : i < l.length) : ∀ n : Nat, pipsL (l.set i v) n = pipsL l n + (if i < n then ((i : Int) + 1) * (v - l.getD i 0) else 0)
  | 0 => by simp [pipsL]
  | n + 1 => by
    have ih := pips_set l i v hi n
    rw [pipsL, pipsL, ih, getD_set l n v hi]
    by_cases h : n = i
    · subst h
      rw [if_pos rfl, if_neg (by omega), if_pos (by omega), Int.mul_sub]
      omega
    · rw [if_neg h]
      by_cases h2 : i < n
      · rw [if_pos h2, if_pos (by omega)]
        omega
      · rw [if_neg h2, if_neg (by omega)]
        omega
theorem elem_le_sum : ∀ (l : List Int), (∀ x ∈ l, 0 ≤ x) → ∀ x ∈ l, x ≤ l.sum
  | [], _, x, h => by simp at h
  | y :: l, h0, x, h => by
    have hs : 0 ≤ l.sum := by
      have : ∀ (m : List Int), (∀ x ∈ m, 0 ≤ x) → 0 ≤ m.sum := by
        intro m
        induction m with
        | nil => simp
        | cons a m ih =>
          intro hm
          have := hm a (by simp)
          have := ih (fun x hx => hm x (by simp [hx]))
          simp
          omega
      exact this l (fun x hx => h0 x (by simp [hx]))
    have hy := h0 y (by simp)
    rw [List.sum_cons]
    rcases List.mem_cons.1 h with rfl | h
    · omega
    · have := elem_le_sum l (fun x hx => h0 x (by simp [hx])) x h
      omega
theorem lastL_zero {l : List Int} (h : ∀ j, l.getD j 0 = 0) : ∀ n, lastL l n = -1
  | 0 => rfl
  | n + 1 => by rw [lastL_not (h n), lastL_zero h n]
theorem side_of {p c : Int} {l : List Int} (hl : (l.length : Int) = p + 1) (h0 : ∀ j, 0 ≤ l.getD j 0) (hs : l.sum ≤ c) : sideB p c l = true := by
  have hm : ∀ x ∈ l, 0 ≤ x := by
    intro x hx
    obtain ⟨j, hj, rfl⟩ := List.getElem_of_mem hx
    have := h0 j
    rw [List.getD_eq_getElem?_getD, List.getElem?_eq_getElem hj] at this
    simpa using this
  exact sideB_iff.2 ⟨hl, fun x hx => ⟨hm x hx, Int.le_trans (elem_le_sum l hm x hx) hs⟩, hs⟩
theorem leg_parts {P : Nat} {c h s : Int} {xs ys : List Int} {a b d : Int} {q : Bool} (g : isB (P : Int) c h s xs ys = true) (gl : legB P h s xs ys (a, b, d, q) = true) :
    ∃ f : Nat, a = (f : Int) ∧ f ≤ P ∧ 1 ≤ d ∧ d ≤ s ∧ 1 ≤ xs.getD f 0 ∧ 1 ≤ ys.sum ∧ ((b = -1 ∧ q = false ∧ (f : Int) < d) ∨ ∃ t : Nat, b = (t : Int) ∧ t < P ∧ ¬ t = f ∧ (t : Int) = (f : Int) - d ∧ ys.getD (P - 1 - t) 0 ≤ 1 ∧ q = decide (0 < ys.getD (P - 1 - t) 0)) := by
  obtain ⟨f, rfl, fP, hc⟩ := legB_form gl
  obtain ⟨p0, p1, k0, k1, k2, k3, N1, N2, hx, hy, s0, s1, s2, s3⟩ := isB_parts g
  unfold legB at gl
  simp only [Bool.and_eq_true, Bool.not_eq_true', decide_eq_true_eq] at gl
  obtain ⟨g1, -, g3, g4⟩ := gl
  have g1' : 1 ≤ d ∧ d ≤ s := by simpa [inB] using g1
  rw [show ((f : Int)).toNat = f by simp] at g4
  obtain ⟨-, e2, -, e4, e5, e6⟩ := stepI_form g4
  have e7 := stepI_hitA g4
  dsimp only at e2 e5 e7
  have hxf := (hx _ (getD_mem (show f < xs.length by omega))).1
  have hys : 1 ≤ ys.sum := by
    apply Classical.byContradiction
    intro hn
    have h0 : ys.sum = 0 := by omega
    have hz : ∀ j, ys.getD j 0 = 0 := by
      intro j
      have h1 := nonneg_getD (fun x hx => (hy x hx).1) j
      by_cases hj : j < ys.length
      · have h2 := elem_le_sum ys (fun x hx => (hy x hx).1) _ (getD_mem hj)
        omega
      · rw [getD_out (by omega)]
    have : overB xs ys = true := by
      unfold overB
      rw [lastL_zero hz]
      simp
    rw [this] at g3
    simp at g3
  refine ⟨f, rfl, fP, g1'.1, g1'.2, by omega, hys, ?_⟩
  rcases hc with ⟨rfl, rfl⟩ | ⟨t, rfl, tP, hne⟩
  · left
    refine ⟨rfl, rfl, ?_⟩
    unfold toI at e5
    split at e5
    · rename_i hk
      unfold alB at e6
      by_cases hp : f = P
      · rw [if_pos hp] at e6
        simp only [openB, Bool.and_eq_true, decide_eq_true_eq] at e6
        omega
      · omega
    · omega
  · right
    have ht : (t : Int) = (f : Int) - d := by omega
    refine ⟨t, rfl, tP, hne, ht, ?_, ?_⟩
    · have ho : openB P ys ((f : Int) - d) = true := by
        unfold alB at e6
        split at e6
        · exact e6
        · split at e6
          · simp only [Bool.and_eq_true] at e6
            exact e6.2
          · omega
      simp only [openB, Bool.and_eq_true, decide_eq_true_eq] at ho
      have := ho.2.2
      rw [← ht] at this
      simpa using this
    · rw [e7]
      have : decide ((t : Int) ≠ -1) = true := by simp
      rw [this, Bool.true_and]
      simp
theorem step_facts {P : Nat} {c h s : Int} {xs ys : List Int} {a b d : Int} {q : Bool} (g : isB (P : Int) c h s xs ys = true) (gl : legB P h s xs ys (a, b, d, q) = true) :
    isB (P : Int) c h s (mvX xs a b 1) (mvY P ys b q 1) = true ∧ mvX (mvX xs a b 1) a b (-1) = xs ∧ mvY P (mvY P ys b q 1) b q (-1) = ys ∧
    (1 ≤ pipsL xs xs.length - pipsL (mvX xs a b 1) (mvX xs a b 1).length ∧ pipsL xs xs.length - pipsL (mvX xs a b 1) (mvX xs a b 1).length ≤ d) ∧
    (if q = true then pipsL ys ys.length < pipsL (mvY P ys b q 1) (mvY P ys b q 1).length else pipsL (mvY P ys b q 1) (mvY P ys b q 1).length = pipsL ys ys.length) ∧
    (mvY P ys b q 1).getD P 0 - ys.getD P 0 = (if q = true then 1 else 0) := by
  obtain ⟨f, rfl, fP, d1, ds, hf, hys, hc⟩ := leg_parts g gl
  obtain ⟨p0, p1, k0, k1, k2, k3, N1, N2, hx, hy, s0, s1, s2, s3⟩ := isB_parts g
  have gap : apartB P xs ys = true := by
    simp only [isB, Bool.and_eq_true] at g
    simpa using g.2.2.2.2
  have gv : vB (P : Int) c h s = true := by
    simp only [isB, Bool.and_eq_true] at g
    exact g.1
  have hfn : f < xs.length := by omega
  have hPn : P < ys.length := by omega
  have hx0 := nonneg_getD (fun x hm => (hx x hm).1)
  have hy0 := nonneg_getD (fun x hm => (hy x hm).1)
  have hap := apart_iff.1 gap
  have mk : ∀ X Y : List Int, X.length = xs.length → Y.length = ys.length → (∀ j, 0 ≤ X.getD j 0) → (∀ j, 0 ≤ Y.getD j 0) → X.sum ≤ c → Y.sum ≤ c → 0 ≤ X.sum → 1 ≤ Y.sum → (∀ i, i < P → ¬ (0 < X.getD i 0 ∧ 0 < Y.getD (P - 1 - i) 0)) → isB (P : Int) c h s X Y = true := by
    intro X Y l1 l2 h1 h2 h3 h4 h5 h6 h7
    have hsum : decide (X.sum + Y.sum = 0) = false := by simp; omega
    rw [isB, gv, side_of (by omega) h1 h3, side_of (by omega) h2 h4, hsum, show ((P : Int)).toNat = P by simp, apart_iff.2 h7]
    rfl
  rcases hc with ⟨rfl, rfl, hd⟩ | ⟨t, rfl, tP, hne, ht, ho, rfl⟩
  · have eX : mvX xs (f : Int) (-1) 1 = xs.set f (xs.getD f 0 - 1) := by simp [mvX]
    have eY : mvY P ys (-1) false 1 = ys := by simp [mvY]
    have eX2 : mvX (xs.set f (xs.getD f 0 - 1)) (f : Int) (-1) (-1) = xs := by
      have : mvX (xs.set f (xs.getD f 0 - 1)) (f : Int) (-1) (-1) = (xs.set f (xs.getD f 0 - 1)).set f ((xs.set f (xs.getD f 0 - 1)).getD f 0 + 1) := by simp [mvX]
      rw [this, getD_set _ f _ hfn, if_pos rfl, List.set_set]
      apply ext_getD (by simp)
      intro j
      rw [getD_set _ j _ hfn]
      split
      · rename_i e; subst e; omega
      · rfl
    rw [eX, eY, eX2]
    have hsum := sum_set xs f (xs.getD f 0 - 1) hfn
    have hle := elem_le_sum xs (fun x hm => (hx x hm).1) _ (getD_mem hfn)
    have hp := pips_set xs f (xs.getD f 0 - 1) hfn xs.length
    rw [if_pos hfn, show xs.getD f 0 - 1 - xs.getD f 0 = -1 by omega, Int.mul_neg_one] at hp
    refine ⟨mk _ _ (by simp) rfl ?_ hy0 (by omega) s3 (by omega) hys ?_, rfl, by simp [mvY], ?_, by simp, by simp⟩
    · intro j
      rw [getD_set _ j _ hfn]
      have := hx0 j
      split <;> omega
    · intro i hi
      rw [getD_set _ i _ hfn]
      have := hap i hi
      split
      · rename_i e; subst e; omega
      · exact this
    · rw [List.length_set, hp]
      omega
  · obtain ⟨K, hK⟩ : ∃ K, P - 1 - t = K := ⟨_, rfl⟩
    have eK : ((P : Int) - 1 - (t : Int)).toNat = K := by omega
    have hKn : K < ys.length := by omega
    have htn : t < xs.length := by omega
    have hKP : ¬ K = P := by omega
    have hft : ¬ f = t := fun e => hne e.symm
    rw [hK] at ho ⊢
    have tn1 : ¬ ((t : Int) = -1) := by omega
    have eX : mvX xs (f : Int) (t : Int) 1 = (xs.set f (xs.getD f 0 - 1)).set t (xs.getD t 0 + 1) := by
      rw [mvX, if_neg tn1, show ((f : Int)).toNat = f by simp, show ((t : Int)).toNat = t by simp, getD_set _ t _ hfn, if_neg hne]
    have hX2 : ∀ j, ((xs.set f (xs.getD f 0 - 1)).set t (xs.getD t 0 + 1)).getD j 0 = if j = t then xs.getD t 0 + 1 else if j = f then xs.getD f 0 - 1 else xs.getD j 0 := by
      intro j
      rw [getD_set _ j _ (by rw [List.length_set]; exact htn), getD_set _ j _ hfn]
    have eX2 : mvX ((xs.set f (xs.getD f 0 - 1)).set t (xs.getD t 0 + 1)) (f : Int) (t : Int) (-1) = xs := by
      rw [mvX, if_neg tn1, show ((f : Int)).toNat = f by simp, show ((t : Int)).toNat = t by simp]
      apply ext_getD (by simp)
      intro j
      rw [getD_set _ j _ (by simp; exact htn), getD_set _ j _ (by simp; exact hfn), getD_set _ t _ (by simp; exact hfn), hX2, hX2, hX2, if_neg hft, if_pos rfl, if_neg hne, if_pos rfl]
      by_cases e1 : j = t
      · subst e1; rw [if_pos rfl]; omega
      · rw [if_neg e1]
        by_cases e2 : j = f
        · subst e2; rw [if_pos rfl]; omega
        · rw [if_neg e2, if_neg e1, if_neg e2]
    have hsum1 := sum_set xs f (xs.getD f 0 - 1) hfn
    have hsum2 := sum_set (xs.set f (xs.getD f 0 - 1)) t (xs.getD t 0 + 1) (by rw [List.length_set]; exact htn)
    rw [getD_set _ t _ hfn, if_neg hne] at hsum2
    have hp1 := pips_set xs f (xs.getD f 0 - 1) hfn xs.length
    have hp2 := pips_set (xs.set f (xs.getD f 0 - 1)) t (xs.getD t 0 + 1) (by rw [List.length_set]; exact htn) xs.length
    rw [if_pos hfn, show xs.getD f 0 - 1 - xs.getD f 0 = -1 by omega, Int.mul_neg_one] at hp1
    rw [getD_set _ t _ hfn, if_neg hne, if_pos htn, show xs.getD t 0 + 1 - xs.getD t 0 = 1 by omega, Int.mul_one, hp1] at hp2
    have hXn : ∀ j, 0 ≤ ((xs.set f (xs.getD f 0 - 1)).set t (xs.getD t 0 + 1)).getD j 0 := by
      intro j
      rw [hX2 j]
      have := hx0 j
      have := hx0 t
      split
      · omega
      · split <;> omega
    rw [eX, eX2]
    have hyK := hy0 K
    by_cases hq : 0 < ys.getD K 0
    · rw [decide_eq_true hq]
      have hy1 : ys.getD K 0 = 1 := by omega
      have hPK : ¬ P = K := fun e => hKP e.symm
      have eY : mvY P ys (t : Int) true 1 = (ys.set K (ys.getD K 0 - 1)).set P (ys.getD P 0 + 1) := by
        rw [mvY, if_pos rfl, eK, getD_set _ P _ hKn, if_neg hPK]
      have hY2 : ∀ j, ((ys.set K (ys.getD K 0 - 1)).set P (ys.getD P 0 + 1)).getD j 0 = if j = P then ys.getD P 0 + 1 else if j = K then ys.getD K 0 - 1 else ys.getD j 0 := by
        intro j
        rw [getD_set _ j _ (by rw [List.length_set]; exact hPn), getD_set _ j _ hKn]
      have eY2 : mvY P ((ys.set K (ys.getD K 0 - 1)).set P (ys.getD P 0 + 1)) (t : Int) true (-1) = ys := by
        rw [mvY, if_pos rfl, eK]
        apply ext_getD (by simp)
        intro j
        rw [getD_set _ j _ (by simp; exact hPn), getD_set _ j _ (by simp; exact hKn), getD_set _ P _ (by simp; exact hKn), hY2, hY2, hY2, if_neg hKP, if_pos rfl, if_neg hPK, if_pos rfl]
        by_cases e1 : j = P
        · subst e1; rw [if_pos rfl]; omega
        · rw [if_neg e1]
          by_cases e2 : j = K
          · subst e2; rw [if_pos rfl]; omega
          · rw [if_neg e2, if_neg e1, if_neg e2]
      have hsy1 := sum_set ys K (ys.getD K 0 - 1) hKn
      have hsy2 := sum_set (ys.set K (ys.getD K 0 - 1)) P (ys.getD P 0 + 1) (by rw [List.length_set]; exact hPn)
      rw [getD_set _ P _ hKn, if_neg hPK] at hsy2
      have hq1 := pips_set ys K (ys.getD K 0 - 1) hKn ys.length
      have hq2 := pips_set (ys.set K (ys.getD K 0 - 1)) P (ys.getD P 0 + 1) (by rw [List.length_set]; exact hPn) ys.length
      rw [if_pos hKn, show ys.getD K 0 - 1 - ys.getD K 0 = -1 by omega, Int.mul_neg_one] at hq1
      rw [getD_set _ P _ hKn, if_neg hPK, if_pos hPn, show ys.getD P 0 + 1 - ys.getD P 0 = 1 by omega, Int.mul_one, hq1] at hq2
      rw [eY, eY2]
      refine ⟨mk _ _ (by simp) (by simp) hXn ?_ (by omega) (by omega) (by omega) (by omega) ?_, rfl, rfl, ?_, ?_, ?_⟩
      · intro j
        rw [hY2 j]
        have := hy0 j
        have := hy0 P
        split
        · omega
        · split <;> omega
      · intro i hi
        rw [hX2, hY2]
        have h1 := hap i hi
        rw [if_neg (show ¬ P - 1 - i = P by omega)]
        by_cases e : i = t
        · subst e
          rw [if_pos rfl, if_pos hK]
          omega
        · rw [if_neg e, if_neg (show ¬ P - 1 - i = K by omega)]
          split
          · rename_i e2; subst e2; omega
          · exact h1
      · rw [List.length_set, List.length_set, hp2]
        omega
      · rw [if_pos rfl, List.length_set, List.length_set, hq2]
        omega
      · rw [if_pos rfl, hY2, if_pos rfl]
        omega
    · rw [decide_eq_false hq]
      have eY : mvY P ys (t : Int) false 1 = ys := by simp [mvY]
      rw [eY]
      refine ⟨mk _ _ (by simp) rfl hXn hy0 (by omega) s3 (by omega) hys ?_, rfl, by simp [mvY], ?_, by simp, by simp⟩
      · intro i hi
        rw [hX2]
        have h1 := hap i hi
        by_cases e : i = t
        · subst e
          rw [if_pos rfl, hK]
          omega
        · rw [if_neg e]
          split
          · rename_i e2; subst e2; omega
          · exact h1
      · rw [List.length_set, List.length_set, hp2]
        omega
end Go.Proofs.Ytodlofabffenoaa
namespace Go.Proofs.Ytodlofabffenoaa
open Go.ChangeShapes Go.WideShapes Go.ChangeAt Go.RowKit
set_option linter.unusedVariables false
set_option linter.unusedSimpArgs false
def oneMore (P : Nat) (p : Ply) (t : Stp) : Ply := (p.1 ++ [t], mvX p.2.1 t.1 t.2.1 1, mvY P p.2.2 t.2.1 t.2.2.2 1)
def cand (P : Nat) (h d : Int) (p : Ply) : List Ply := (legL P h p.2.1 p.2.2 d).map (oneMore P p)
def addP (out : List Ply) (p : Ply) : List Ply := if out.any (fun q => decide (q.2 = p.2)) = true then out else out ++ [p]
def addAll (out : List Ply) (l : List Ply) : List Ply := l.foldl addP out
def nextP (P : Nat) (h d : Int) (l : List Ply) : List Ply := addAll [] (l.flatMap (cand P h d))
theorem addAll_append (out l m : List Ply) : addAll out (l ++ m) = addAll (addAll out l) m := by simp [addAll]
theorem addAll_snoc (out l : List Ply) (x : Ply) : addAll out (l ++ [x]) = addP (addAll out l) x := by simp [addAll]
theorem addP_length (out : List Ply) (p : Ply) : (addP out p).length ≤ out.length + 1 := by
  unfold addP
  split <;> simp
theorem addAll_length : ∀ (l out : List Ply), (addAll out l).length ≤ out.length + l.length
  | [], out => by simp [addAll]
  | x :: l, out => by
    have h1 := addAll_length l (addP out x)
    have h2 := addP_length out x
    simp only [addAll, List.foldl_cons, List.length_cons] at h1 ⊢
    omega
theorem addP_mem {out : List Ply} {p q : Ply} (h : q ∈ addP out p) : q ∈ out ∨ q = p := by
  unfold addP at h
  split at h
  · exact .inl h
  · rcases List.mem_append.1 h with h | h
    · exact .inl h
    · simp at h; exact .inr h
theorem addAll_mem : ∀ {l out : List Ply} {q : Ply}, q ∈ addAll out l → q ∈ out ∨ q ∈ l
  | [], out, q, h => .inl h
  | x :: l, out, q, h => by
    rcases addAll_mem (l := l) (out := addP out x) h with h | h
    · rcases addP_mem h with h | h
      · exact .inl h
      · exact .inr (by simp [h])
    · exact .inr (by simp [h])
theorem cand_length (P : Nat) (h d : Int) (p : Ply) : (cand P h d p).length ≤ P + 1 := by
  unfold cand
  rw [List.length_map]
  exact legL_length P h _ _ d
theorem flat_length (P : Nat) (h d : Int) : ∀ l : List Ply, (l.flatMap (cand P h d)).length ≤ l.length * (P + 1)
  | [] => by simp
  | x :: l => by
    have h1 := flat_length P h d l
    have h2 := cand_length P h d x
    rw [List.flatMap_cons, List.length_append, List.length_cons, Nat.add_mul]
    omega
theorem nextP_length (P : Nat) (h d : Int) (l : List Ply) : (nextP P h d l).length ≤ l.length * (P + 1) := by
  have h1 := addAll_length (l.flatMap (cand P h d)) []
  have h2 := flat_length P h d l
  unfold nextP
  rw [List.length_nil] at h1
  omega
def findP (b : List Int × List Int) : List Ply → Nat → Int
  | [], _ => -1
  | q :: l, n => if q.2 = b then (n : Int) else findP b l (n + 1)
theorem findP_neg (b : List Int × List Int) : ∀ (l : List Ply) (n : Nat), findP b l n < 0 ↔ ¬ (l.any (fun q => decide (q.2 = b)) = true)
  | [], n => by simp [findP]
  | q :: l, n => by
    rw [findP, List.any_cons]
    by_cases e : q.2 = b
    · rw [if_pos e, decide_eq_true e]
      simp
    · rw [if_neg e, decide_eq_false e, findP_neg b l (n + 1)]
      simp
def Fine (p c h s : Int) (l : List Ply) : Prop := ∀ q ∈ l, isB p c h s q.2.1 q.2.2 = true
theorem legL_leg {P : Nat} {c h s d : Int} {xs ys : List Int} {t : Stp} (g : isB (P : Int) c h s xs ys = true) (hd : inB d 1 s = true) (ht : t ∈ legL P h xs ys d) : legB P h s xs ys t = true := by
  unfold legL at ht
  split at ht
  · simp at ht
  · rename_i ho
    have : ∀ n, n ≤ P + 1 → t ∈ legTo P h xs ys d n → ∃ k, k ≤ P ∧ stepI P h xs ys k d = some t := by
      intro n
      induction n with
      | zero => intro _ h; simp [legTo] at h
      | succ n ih =>
        intro hn h
        rw [legTo, List.mem_append] at h
        rcases h with h | h
        · exact ⟨n, by omega, by simpa using h⟩
        · exact ih (by omega) h
    obtain ⟨k, hk, e⟩ := this _ (Nat.le_refl _) ht
    obtain ⟨e1, -, e3, -⟩ := stepI_form e
    rw [legB_S, e1, e3, hd, show inB (k : Int) 0 (P : Int) = true by simp [inB]; omega, show ((k : Int)).toNat = k by simp]
    unfold stepS
    rw [if_neg ho, e]
    simp
theorem cand_fine {P : Nat} {c h s d : Int} {p : Ply} (g : isB (P : Int) c h s p.2.1 p.2.2 = true) (hd : inB d 1 s = true) : Fine (P : Int) c h s (cand P h d p) := by
  intro q hq
  obtain ⟨t, ht, rfl⟩ := List.mem_map.1 hq
  obtain ⟨a, b, d', q⟩ := t
  exact (step_facts g (legL_leg g hd ht)).1
theorem nextP_fine {P : Nat} {c h s d : Int} {l : List Ply} (g : Fine (P : Int) c h s l) (hd : inB d 1 s = true) : Fine (P : Int) c h s (nextP P h d l) := by
  intro q hq
  rcases addAll_mem hq with h | h
  · simp at h
  · obtain ⟨p, hp, hq⟩ := List.mem_flatMap.1 h
    exact cand_fine (g p hp) hd q hq
def kept (P : Nat) (h d : Int) (l : List Ply) (i : Nat) (m : List Stp) (p : Ply) (k : Nat) : List Ply := addAll (addAll [] ((l.take i).flatMap (cand P h d))) ((m.take k).map (oneMore P p))
def longP (P : Nat) (h : Int) : List Int → List Ply → List Ply
  | [], l => l
  | d :: ds, l => if nextP P h d l = [] then l else longP P h ds (nextP P h d l)
def longN (P : Nat) (h : Int) : List Int → List Ply → Nat
  | [], l => 0
  | d :: ds, l => if nextP P h d l = [] then 0 else longN P h ds (nextP P h d l) + 1
def fineP (P : Nat) (h : Int) : List Int → List Ply → Bool
  | [], l => true
  | d :: ds, l => decide ((nextP P h d l).length ≤ 3000) && (if nextP P h d l = [] then true else fineP P h ds (nextP P h d l))
def startP (xs ys : List Int) : List Ply := [([], xs, ys)]
def ordersP (ra rb : Int) : List (List Int) := if ra = rb then [[ra, ra, ra, ra]] else [[ra, rb], [rb, ra]]
def usedP (P : Nat) (h : Int) (xs ys : List Int) (ra rb : Int) : Nat := ((ordersP ra rb).map (fun o => longN P h o (startP xs ys))).foldl max 0
theorem longN_le (P : Nat) (h : Int) : ∀ (o : List Int) (l : List Ply), longN P h o l ≤ o.length
  | [], l => by simp [longN]
  | d :: ds, l => by
    have := longN_le P h ds (nextP P h d l)
    rw [longN]
    split <;> simp <;> omega
end Go.Proofs.Ytodlofabffenoaa
namespace Go.Proofs.Ytodlofabffenoaa
set_option linter.unusedVariables false
def folN (P : Nat) (h s : Int) : List Int → List Stp → List Int × List Int → Option (List Int × List Int)
  | _, [], b => some b
  | [], _ :: _, _ => none
  | o :: os, t :: ts, b => if t.2.2.1 = o ∧ legB P h s b.1 b.2 t = true then folN P h s os ts (mvX b.1 t.1 t.2.1 1, mvY P b.2 t.2.1 t.2.2.2 1) else none
theorem mem_legTo {P : Nat} {h : Int} {xs ys : List Int} {d : Int} {t : Stp} {k : Nat} (e : stepI P h xs ys k d = some t) : ∀ n, k < n → t ∈ legTo P h xs ys d n
  | 0, hk => by omega
  | n + 1, hk => by
    rw [legTo, List.mem_append]
    by_cases q : k = n
    · subst q
      exact .inl (by simp [e])
    · exact .inr (mem_legTo e n (by omega))
theorem leg_legL {P : Nat} {h s : Int} {xs ys : List Int} {t : Stp} (ht : legB P h s xs ys t = true) : t ∈ legL P h xs ys t.2.2.1 := by
  rw [legB_S] at ht
  simp only [Bool.and_eq_true, decide_eq_true_eq] at ht
  obtain ⟨-, h1, h2⟩ := ht
  unfold stepS at h2
  unfold legL
  split at h2
  · simp at h2
  · rename_i ho
    rw [if_neg ho]
    rw [inB_iff] at h1
    exact mem_legTo h2 _ (by omega)
theorem addP_has {out : List Ply} {p : Ply} : ∃ q ∈ addP out p, q.2 = p.2 := by
  unfold addP
  split
  · rename_i h
    rw [List.any_eq_true] at h
    obtain ⟨q, hq, e⟩ := h
    exact ⟨q, hq, by simpa using e⟩
  · exact ⟨p, by simp, rfl⟩
theorem addP_sub {out : List Ply} {p q : Ply} (h : q ∈ out) : q ∈ addP out p := by
  unfold addP
  split
  · exact h
  · exact List.mem_append_left _ h
theorem addAll_sub : ∀ (l out : List Ply) {q : Ply}, q ∈ out → q ∈ addAll out l
  | [], out, q, h => h
  | x :: l, out, q, h => addAll_sub l (addP out x) (addP_sub h)
theorem addAll_has : ∀ (l out : List Ply) {p : Ply}, p ∈ l → ∃ q ∈ addAll out l, q.2 = p.2
  | x :: l, out, p, h => by
    rcases List.mem_cons.1 h with rfl | h
    · obtain ⟨q, hq, e⟩ := addP_has (out := out) (p := p)
      exact ⟨q, addAll_sub l _ hq, e⟩
    · exact addAll_has l (addP out x) h
theorem folN_long (P : Nat) (h s : Int) : ∀ (o : List Int) (ts : List Stp) (b r : List Int × List Int) (l : List Ply), folN P h s o ts b = some r → (∃ q ∈ l, q.2 = b) → ts.length ≤ longN P h o l
  | o, [], b, r, l, _, _ => by simp
  | [], t :: ts, b, r, l, e, _ => by simp [folN] at e
  | o :: os, t :: ts, b, r, l, e, ⟨q, hq, hb⟩ => by
    rw [folN] at e
    split at e
    · rename_i hc
      obtain ⟨h1, h2⟩ := hc
      have h3 := leg_legL h2
      rw [h1, ← hb] at h3
      have h4 : oneMore P q t ∈ l.flatMap (cand P h o) := List.mem_flatMap.2 ⟨q, hq, List.mem_map.2 ⟨t, h3, rfl⟩⟩
      obtain ⟨q', hq', e'⟩ := addAll_has (l.flatMap (cand P h o)) [] h4
      have h5 : ∃ q ∈ nextP P h o l, q.2 = (mvX b.1 t.1 t.2.1 1, mvY P b.2 t.2.1 t.2.2.2 1) := ⟨q', hq', by rw [e', ← hb]; rfl⟩
      have h6 := folN_long P h s os ts _ r (nextP P h o l) e h5
      rw [longN, if_neg (by obtain ⟨q, hq, -⟩ := h5; rintro e; rw [e] at hq; simp at hq)]
      simp only [List.length_cons]
      omega
    · simp at e
theorem folN_used {P : Nat} {h s : Int} {xs ys : List Int} {o : List Int} {ts : List Stp} {r : List Int × List Int} (e : folN P h s o ts (xs, ys) = some r) : ts.length ≤ longN P h o (startP xs ys) :=
  folN_long P h s o ts (xs, ys) r _ e ⟨([], xs, ys), by simp [startP], rfl⟩
def firstF (P : Nat) (h s : Int) (xs ys : List Int) (ts : List Stp) : List (List Int) → Option (List Int × List Int)
  | [] => none
  | o :: os => match folN P h s o ts (xs, ys) with
    | some r => some r
    | none => firstF P h s xs ys ts os
theorem longN_used (P : Nat) (h : Int) (xs ys : List Int) (ra rb : Int) : ∀ o ∈ ordersP ra rb, longN P h o (startP xs ys) ≤ usedP P h xs ys ra rb := by
  intro o ho
  unfold usedP
  unfold ordersP at ho ⊢
  split at ho
  · rename_i e
    simp only [List.mem_cons, List.not_mem_nil, or_false] at ho
    subst ho
    rw [if_pos e]
    simp only [List.map_cons, List.map_nil, List.foldl_cons, List.foldl_nil]
    omega
  · rename_i e
    simp only [List.mem_cons, List.not_mem_nil, or_false] at ho
    rw [if_neg e]
    simp only [List.map_cons, List.map_nil, List.foldl_cons, List.foldl_nil]
    rcases ho with rfl | rfl <;> omega
theorem firstF_filter (P : Nat) (h s : Int) (xs ys : List Int) (ts : List Stp) (U : Nat) (hU : ts.length = U) : ∀ OS : List (List Int), (∀ o ∈ OS, longN P h o (startP xs ys) ≤ U) → firstF P h s xs ys ts (OS.filter (fun o => longN P h o (startP xs ys) == U)) = firstF P h s xs ys ts OS
  | [], _ => rfl
  | o :: OS, hO => by
    have ih := firstF_filter P h s xs ys ts U hU OS (fun o ho => hO o (by simp [ho]))
    by_cases e : longN P h o (startP xs ys) = U
    · rw [List.filter_cons_of_pos (by simpa using e), firstF, firstF, ih]
    · rw [List.filter_cons_of_neg (by simpa using e), ih]
      rw [firstF]
      cases hq : folN P h s o ts (xs, ys) with
      | none => rfl
      | some r =>
        have h1 := folN_used hq
        have h2 := hO o (by simp)
        omega
end Go.Proofs.Ytodlofabffenoaa
