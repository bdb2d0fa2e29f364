/- Texts of a proof, laid together: Contract of the model's application of a step. Mathematics of a legal step: its board is valid, it can be undone, the pips change as the document says. The plays of a roll: mathematics. Contract of the program's boards as values. Boards as keys of a map. -/
import Derived.Test.YtaedcmmomenilaaY10
import Derived.Test.YtaedcmmomenilaaY03
import Derived.Test.YtaedcmmomenilaaY01
import Derived.Deep.LoopGhost
import Derived.Laws.Rows
import Derived.Laws.Tables
import Derived.Laws.CopyOwn
import Derived.Maps.OwnIn
import Derived.DeepKeys4
namespace Go.Proofs.Ytaedcmmomenilaa
open Go.ChangeShapes Go.WideShapes Go.ChangeAt Go.RowKit
set_option linter.unusedVariables false
set_option linter.unusedSimpArgs false

theorem legB_form {P : Nat} {h s : Int} {xs ys : List Int} {a b d : Int} {q : Bool} (g : legB P h s xs ys (a, b, d, q) = true) : ∃ f : Nat, a = (f : Int) ∧ f ≤ P ∧ ((b = -1 ∧ q = false) ∨ ∃ t : Nat, b = (t : Int) ∧ t < P ∧ ¬ t = f) := by
  have hp := legB_places g
  unfold legB at g
  simp only [placesB, Bool.and_eq_true, decide_eq_true_eq] at g hp
  obtain ⟨g1, _, _, g2⟩ := g
  have g1' : 1 ≤ d ∧ d ≤ s := by simpa [inB] using g1
  obtain ⟨p1, p2, p3, p4⟩ := hp
  obtain ⟨f, rfl⟩ := Int.eq_ofNat_of_zero_le p1
  refine ⟨f, rfl, by omega, ?_⟩
  rw [show (f : Int).toNat = f by simp] at g2
  unfold stepI at g2
  split at g2
  · simp at g2
  · split at g2
    · simp only [Option.some.injEq, Prod.mk.injEq] at g2
      obtain ⟨_, g3, _, g4⟩ := g2
      by_cases hb : b = -1
      · left
        refine ⟨hb, ?_⟩
        rw [← g4, g3, hb]
        rfl
      · right
        obtain ⟨t, rfl⟩ := Int.eq_ofNat_of_zero_le (by omega : 0 ≤ b)
        refine ⟨t, rfl, by omega, ?_⟩
        unfold toI at g3
        split at g3
        · omega
        · omega
    · simp at g2
theorem l04Apply_any (P : Nat) (c h s : Int) (a1 a2 : Option Addr) (n1 n2 c1 c2 : Nat) (xs ys : List Int) (w : World) (h1 : xs.length = n1) (h2 : ys.length = n2) (p0 : 2 ≤ P) (p1 : P ≤ 24) (N1 : xs.length = P + 1) (N2 : ys.length = P + 1) (hh0 : 1 ≤ h) (hh : h ≤ (P : Int)) (hx : ∀ x ∈ xs, 0 ≤ x ∧ x ≤ 1000) (hy : ∀ y ∈ ys, 0 ≤ y ∧ y ≤ 1000) (r1 : IRow w a1 xs) (r2 : IRow w a2 ys) (t : Stp) (gl : legB P h s xs ys t = true) :
    Calls Try.prog 86 #[.agg #[.int .i64 (P : Int), .int .i64 c, .int .i64 h, .int .i64 s], .agg #[.slice a1 n1 c1, .slice a2 n2 c2], stV t] w (BoardGot (mvX xs t.1 t.2.1 1) (mvY P ys t.2.1 t.2.2.2 1) w) := by
  obtain ⟨a, b, d, q⟩ := t
  obtain ⟨f, rfl, fP, hc⟩ := legB_form gl
  dsimp only
  rcases hc with ⟨rfl, rfl⟩ | ⟨t, rfl, tP, hne⟩
  · exact l04Apply_off_false P c h s a1 a2 n1 n2 c1 c2 xs ys w h1 h2 p0 p1 N1 N2 hh0 hh hx hy r1 r2 f d fP
  · cases q with
    | true => exact l04Apply_far_true P c h s a1 a2 n1 n2 c1 c2 xs ys w h1 h2 p0 p1 N1 N2 hh0 hh hx hy r1 r2 f d fP t tP hne
    | false => exact l04Apply_far_false P c h s a1 a2 n1 n2 c1 c2 xs ys w h1 h2 p0 p1 N1 N2 hh0 hh hx hy r1 r2 f d fP t tP hne
end Go.Proofs.Ytaedcmmomenilaa
namespace Go.Proofs.Ytaedcmmomenilaa
open Go.ChangeShapes Go.WideShapes Go.ChangeAt Go.RowKit
set_option linter.unusedVariables false
set_option linter.unusedSimpArgs false

theorem getD_set (l : List Int) {i : Nat} (j : Nat) (v : Int) (hi : i < l.length) : (l.set i v).getD j 0 = if j = i then v else l.getD j 0 := by
  by_cases h : j = i
  · rw [if_pos h, h]
    exact getD_set_eq l v hi
  · rw [if_neg h]
    exact getD_set_ne l v h
theorem sum_set : ∀ (l : List Int) (i : Nat) (v : Int), i < l.length → (l.set i v).sum = l.sum - l.getD i 0 + v
  | [], i, v, h => by simp at h
  | x :: l, 0, v, h => by simp; omega
  | x :: l, i + 1, v, h => by
    have ih := sum_set l i v (by simpa using h)
    rw [List.set_cons_succ, List.sum_cons, List.sum_cons, ih, List.getD_cons_succ]
    omega
theorem pips_set (l : List Int) (i : Nat) (v : Int) (hi : i < l.length) : ∀ n : Nat, pipsL (l.set i v) n = pipsL l n + (if i < n then ((i : Int) + 1) * (v - l.getD i 0) else 0)
  | 0 => by simp [pipsL]
  | n + 1 => by
    have ih := pips_set l i v hi n
    rw [pipsL, pipsL, ih, getD_set l n v hi]
    by_cases h : n = i
    · subst h
      rw [if_pos rfl, if_neg (by omega), if_pos (by omega), Int.mul_sub]
      omega
    · rw [if_neg h]
      by_cases h2 : i < n
      · rw [if_pos h2, if_pos (by omega)]
        omega
      · rw [if_neg h2, if_neg (by omega)]
        omega
theorem elem_le_sum : ∀ (l : List Int), (∀ x ∈ l, 0 ≤ x) → ∀ x ∈ l, x ≤ l.sum
  | [], _, x, h => by simp at h
  | y :: l, h0, x, h => by
    have hs : 0 ≤ l.sum := by
      have : ∀ (m : List Int), (∀ x ∈ m, 0 ≤ x) → 0 ≤ m.sum := by
        intro m
        induction m with
        | nil => simp
        | cons a m ih =>
          intro hm
          have := hm a (by simp)
          have := ih (fun x hx => hm x (by simp [hx]))
          simp
          omega
      exact this l (fun x hx => h0 x (by simp [hx]))
    have hy := h0 y (by simp)
    rw [List.sum_cons]
    rcases List.mem_cons.1 h with rfl | h
    · omega
    · have := elem_le_sum l (fun x hx => h0 x (by simp [hx])) x h
      omega
theorem lastL_zero {l : List Int} (h : ∀ j, l.getD j 0 = 0) : ∀ n, lastL l n = -1
  | 0 => rfl
  | n + 1 => by rw [lastL_not (h n), lastL_zero h n]
theorem side_of {p c : Int} {l : List Int} (hl : (l.length : Int) = p + 1) (h0 : ∀ j, 0 ≤ l.getD j 0) (hs : l.sum ≤ c) : sideB p c l = true := by
  have hm : ∀ x ∈ l, 0 ≤ x := by
    intro x hx
    obtain ⟨j, hj, rfl⟩ := List.getElem_of_mem hx
    have := h0 j
    rw [List.getD_eq_getElem?_getD, List.getElem?_eq_getElem hj] at this
    simpa using this
  exact sideB_iff.2 ⟨hl, fun x hx => ⟨hm x hx, Int.le_trans (elem_le_sum l hm x hx) hs⟩, hs⟩
/-- What a legal step is, in numbers. -/
theorem leg_parts {P : Nat} {c h s : Int} {xs ys : List Int} {a b d : Int} {q : Bool} (g : isB (P : Int) c h s xs ys = true) (gl : legB P h s xs ys (a, b, d, q) = true) :
    ∃ f : Nat, a = (f : Int) ∧ f ≤ P ∧ 1 ≤ d ∧ d ≤ s ∧ 1 ≤ xs.getD f 0 ∧ 1 ≤ ys.sum ∧ ((b = -1 ∧ q = false ∧ (f : Int) < d) ∨ ∃ t : Nat, b = (t : Int) ∧ t < P ∧ ¬ t = f ∧ (t : Int) = (f : Int) - d ∧ ys.getD (P - 1 - t) 0 ≤ 1 ∧ q = decide (0 < ys.getD (P - 1 - t) 0)) := by
  obtain ⟨f, rfl, fP, hc⟩ := legB_form gl
  obtain ⟨p0, p1, k0, k1, k2, k3, N1, N2, hx, hy, s0, s1, s2, s3⟩ := isB_parts g
  unfold legB at gl
  simp only [Bool.and_eq_true, Bool.not_eq_true', decide_eq_true_eq] at gl
  obtain ⟨g1, -, g3, g4⟩ := gl
  have g1' : 1 ≤ d ∧ d ≤ s := by simpa [inB] using g1
  rw [show ((f : Int)).toNat = f by simp] at g4
  obtain ⟨-, e2, -, e4, e5, e6⟩ := stepI_form g4
  have e7 := stepI_hitA g4
  dsimp only at e2 e5 e7
  have hxf := (hx _ (getD_mem (show f < xs.length by omega))).1
  have hys : 1 ≤ ys.sum := by
    apply Classical.byContradiction
    intro hn
    have h0 : ys.sum = 0 := by omega
    have hz : ∀ j, ys.getD j 0 = 0 := by
      intro j
      have h1 := nonneg_getD (fun x hx => (hy x hx).1) j
      by_cases hj : j < ys.length
      · have h2 := elem_le_sum ys (fun x hx => (hy x hx).1) _ (getD_mem hj)
        omega
      · rw [getD_out (by omega)]
    have : overB xs ys = true := by
      unfold overB
      rw [lastL_zero hz]
      simp
    rw [this] at g3
    simp at g3
  refine ⟨f, rfl, fP, g1'.1, g1'.2, by omega, hys, ?_⟩
  rcases hc with ⟨rfl, rfl⟩ | ⟨t, rfl, tP, hne⟩
  · left
    refine ⟨rfl, rfl, ?_⟩
    unfold toI at e5
    split at e5
    · rename_i hk
      unfold alB at e6
      by_cases hp : f = P
      · rw [if_pos hp] at e6
        simp only [openB, Bool.and_eq_true, decide_eq_true_eq] at e6
        omega
      · omega
    · omega
  · right
    have ht : (t : Int) = (f : Int) - d := by omega
    refine ⟨t, rfl, tP, hne, ht, ?_, ?_⟩
    · have ho : openB P ys ((f : Int) - d) = true := by
        unfold alB at e6
        split at e6
        · exact e6
        · split at e6
          · simp only [Bool.and_eq_true] at e6
            exact e6.2
          · omega
      simp only [openB, Bool.and_eq_true, decide_eq_true_eq] at ho
      have := ho.2.2
      rw [← ht] at this
      simpa using this
    · rw [e7]
      have : decide ((t : Int) ≠ -1) = true := by simp
      rw [this, Bool.true_and]
      simp
/-- A legal step leads to a valid board, is undone, and changes the pips as it must. -/
theorem step_facts {P : Nat} {c h s : Int} {xs ys : List Int} {a b d : Int} {q : Bool} (g : isB (P : Int) c h s xs ys = true) (gl : legB P h s xs ys (a, b, d, q) = true) :
    isB (P : Int) c h s (mvX xs a b 1) (mvY P ys b q 1) = true ∧ mvX (mvX xs a b 1) a b (-1) = xs ∧ mvY P (mvY P ys b q 1) b q (-1) = ys ∧
    (1 ≤ pipsL xs xs.length - pipsL (mvX xs a b 1) (mvX xs a b 1).length ∧ pipsL xs xs.length - pipsL (mvX xs a b 1) (mvX xs a b 1).length ≤ d) ∧
    (if q = true then pipsL ys ys.length < pipsL (mvY P ys b q 1) (mvY P ys b q 1).length else pipsL (mvY P ys b q 1) (mvY P ys b q 1).length = pipsL ys ys.length) ∧
    (mvY P ys b q 1).getD P 0 - ys.getD P 0 = (if q = true then 1 else 0) := by
  obtain ⟨f, rfl, fP, d1, ds, hf, hys, hc⟩ := leg_parts g gl
  obtain ⟨p0, p1, k0, k1, k2, k3, N1, N2, hx, hy, s0, s1, s2, s3⟩ := isB_parts g
  have gap : apartB P xs ys = true := by
    simp only [isB, Bool.and_eq_true] at g
    simpa using g.2.2.2.2
  have gv : vB (P : Int) c h s = true := by
    simp only [isB, Bool.and_eq_true] at g
    exact g.1
  have hfn : f < xs.length := by omega
  have hPn : P < ys.length := by omega
  have hx0 := nonneg_getD (fun x hm => (hx x hm).1)
  have hy0 := nonneg_getD (fun x hm => (hy x hm).1)
  have hap := apart_iff.1 gap
  have mk : ∀ X Y : List Int, X.length = xs.length → Y.length = ys.length → (∀ j, 0 ≤ X.getD j 0) → (∀ j, 0 ≤ Y.getD j 0) → X.sum ≤ c → Y.sum ≤ c → 0 ≤ X.sum → 1 ≤ Y.sum → (∀ i, i < P → ¬ (0 < X.getD i 0 ∧ 0 < Y.getD (P - 1 - i) 0)) → isB (P : Int) c h s X Y = true := by
    intro X Y l1 l2 h1 h2 h3 h4 h5 h6 h7
    have hsum : decide (X.sum + Y.sum = 0) = false := by simp; omega
    rw [isB, gv, side_of (by omega) h1 h3, side_of (by omega) h2 h4, hsum, show ((P : Int)).toNat = P by simp, apart_iff.2 h7]
    rfl
  rcases hc with ⟨rfl, rfl, hd⟩ | ⟨t, rfl, tP, hne, ht, ho, rfl⟩
  · have eX : mvX xs (f : Int) (-1) 1 = xs.set f (xs.getD f 0 - 1) := by simp [mvX]
    have eY : mvY P ys (-1) false 1 = ys := by simp [mvY]
    have eX2 : mvX (xs.set f (xs.getD f 0 - 1)) (f : Int) (-1) (-1) = xs := by
      have : mvX (xs.set f (xs.getD f 0 - 1)) (f : Int) (-1) (-1) = (xs.set f (xs.getD f 0 - 1)).set f ((xs.set f (xs.getD f 0 - 1)).getD f 0 + 1) := by simp [mvX]
      rw [this, getD_set _ f _ hfn, if_pos rfl, List.set_set]
      apply ext_getD (by simp)
      intro j
      rw [getD_set _ j _ hfn]
      split
      · rename_i e; subst e; omega
      · rfl
    rw [eX, eY, eX2]
    have hsum := sum_set xs f (xs.getD f 0 - 1) hfn
    have hle := elem_le_sum xs (fun x hm => (hx x hm).1) _ (getD_mem hfn)
    have hp := pips_set xs f (xs.getD f 0 - 1) hfn xs.length
    rw [if_pos hfn, show xs.getD f 0 - 1 - xs.getD f 0 = -1 by omega, Int.mul_neg_one] at hp
    refine ⟨mk _ _ (by simp) rfl ?_ hy0 (by omega) s3 (by omega) hys ?_, rfl, by simp [mvY], ?_, by simp, by simp⟩
    · intro j
      rw [getD_set _ j _ hfn]
      have := hx0 j
      split <;> omega
    · intro i hi
      rw [getD_set _ i _ hfn]
      have := hap i hi
      split
      · rename_i e; subst e; omega
      · exact this
    · rw [List.length_set, hp]
      omega
  · obtain ⟨K, hK⟩ : ∃ K, P - 1 - t = K := ⟨_, rfl⟩
    have eK : ((P : Int) - 1 - (t : Int)).toNat = K := by omega
    have hKn : K < ys.length := by omega
    have htn : t < xs.length := by omega
    have hKP : ¬ K = P := by omega
    have hft : ¬ f = t := fun e => hne e.symm
    rw [hK] at ho ⊢
    have tn1 : ¬ ((t : Int) = -1) := by omega
    have eX : mvX xs (f : Int) (t : Int) 1 = (xs.set f (xs.getD f 0 - 1)).set t (xs.getD t 0 + 1) := by
      rw [mvX, if_neg tn1, show ((f : Int)).toNat = f by simp, show ((t : Int)).toNat = t by simp, getD_set _ t _ hfn, if_neg hne]
    have hX2 : ∀ j, ((xs.set f (xs.getD f 0 - 1)).set t (xs.getD t 0 + 1)).getD j 0 = if j = t then xs.getD t 0 + 1 else if j = f then xs.getD f 0 - 1 else xs.getD j 0 := by
      intro j
      rw [getD_set _ j _ (by rw [List.length_set]; exact htn), getD_set _ j _ hfn]
    have eX2 : mvX ((xs.set f (xs.getD f 0 - 1)).set t (xs.getD t 0 + 1)) (f : Int) (t : Int) (-1) = xs := by
      rw [mvX, if_neg tn1, show ((f : Int)).toNat = f by simp, show ((t : Int)).toNat = t by simp]
      apply ext_getD (by simp)
      intro j
      rw [getD_set _ j _ (by simp; exact htn), getD_set _ j _ (by simp; exact hfn), getD_set _ t _ (by simp; exact hfn), hX2, hX2, hX2, if_neg hft, if_pos rfl, if_neg hne, if_pos rfl]
      by_cases e1 : j = t
      · subst e1; rw [if_pos rfl]; omega
      · rw [if_neg e1]
        by_cases e2 : j = f
        · subst e2; rw [if_pos rfl]; omega
        · rw [if_neg e2, if_neg e1, if_neg e2]
    have hsum1 := sum_set xs f (xs.getD f 0 - 1) hfn
    have hsum2 := sum_set (xs.set f (xs.getD f 0 - 1)) t (xs.getD t 0 + 1) (by rw [List.length_set]; exact htn)
    rw [getD_set _ t _ hfn, if_neg hne] at hsum2
    have hp1 := pips_set xs f (xs.getD f 0 - 1) hfn xs.length
    have hp2 := pips_set (xs.set f (xs.getD f 0 - 1)) t (xs.getD t 0 + 1) (by rw [List.length_set]; exact htn) xs.length
    rw [if_pos hfn, show xs.getD f 0 - 1 - xs.getD f 0 = -1 by omega, Int.mul_neg_one] at hp1
    rw [getD_set _ t _ hfn, if_neg hne, if_pos htn, show xs.getD t 0 + 1 - xs.getD t 0 = 1 by omega, Int.mul_one, hp1] at hp2
    have hXn : ∀ j, 0 ≤ ((xs.set f (xs.getD f 0 - 1)).set t (xs.getD t 0 + 1)).getD j 0 := by
      intro j
      rw [hX2 j]
      have := hx0 j
      have := hx0 t
      split
      · omega
      · split <;> omega
    rw [eX, eX2]
    have hyK := hy0 K
    by_cases hq : 0 < ys.getD K 0
    · rw [decide_eq_true hq]
      have hy1 : ys.getD K 0 = 1 := by omega
      have hPK : ¬ P = K := fun e => hKP e.symm
      have eY : mvY P ys (t : Int) true 1 = (ys.set K (ys.getD K 0 - 1)).set P (ys.getD P 0 + 1) := by
        rw [mvY, if_pos rfl, eK, getD_set _ P _ hKn, if_neg hPK]
      have hY2 : ∀ j, ((ys.set K (ys.getD K 0 - 1)).set P (ys.getD P 0 + 1)).getD j 0 = if j = P then ys.getD P 0 + 1 else if j = K then ys.getD K 0 - 1 else ys.getD j 0 := by
        intro j
        rw [getD_set _ j _ (by rw [List.length_set]; exact hPn), getD_set _ j _ hKn]
      have eY2 : mvY P ((ys.set K (ys.getD K 0 - 1)).set P (ys.getD P 0 + 1)) (t : Int) true (-1) = ys := by
        rw [mvY, if_pos rfl, eK]
        apply ext_getD (by simp)
        intro j
        rw [getD_set _ j _ (by simp; exact hPn), getD_set _ j _ (by simp; exact hKn), getD_set _ P _ (by simp; exact hKn), hY2, hY2, hY2, if_neg hKP, if_pos rfl, if_neg hPK, if_pos rfl]
        by_cases e1 : j = P
        · subst e1; rw [if_pos rfl]; omega
        · rw [if_neg e1]
          by_cases e2 : j = K
          · subst e2; rw [if_pos rfl]; omega
          · rw [if_neg e2, if_neg e1, if_neg e2]
      have hsy1 := sum_set ys K (ys.getD K 0 - 1) hKn
      have hsy2 := sum_set (ys.set K (ys.getD K 0 - 1)) P (ys.getD P 0 + 1) (by rw [List.length_set]; exact hPn)
      rw [getD_set _ P _ hKn, if_neg hPK] at hsy2
      have hq1 := pips_set ys K (ys.getD K 0 - 1) hKn ys.length
      have hq2 := pips_set (ys.set K (ys.getD K 0 - 1)) P (ys.getD P 0 + 1) (by rw [List.length_set]; exact hPn) ys.length
      rw [if_pos hKn, show ys.getD K 0 - 1 - ys.getD K 0 = -1 by omega, Int.mul_neg_one] at hq1
      rw [getD_set _ P _ hKn, if_neg hPK, if_pos hPn, show ys.getD P 0 + 1 - ys.getD P 0 = 1 by omega, Int.mul_one, hq1] at hq2
      rw [eY, eY2]
      refine ⟨mk _ _ (by simp) (by simp) hXn ?_ (by omega) (by omega) (by omega) (by omega) ?_, rfl, rfl, ?_, ?_, ?_⟩
      · intro j
        rw [hY2 j]
        have := hy0 j
        have := hy0 P
        split
        · omega
        · split <;> omega
      · intro i hi
        rw [hX2, hY2]
        have h1 := hap i hi
        rw [if_neg (show ¬ P - 1 - i = P by omega)]
        by_cases e : i = t
        · subst e
          rw [if_pos rfl, if_pos hK]
          omega
        · rw [if_neg e, if_neg (show ¬ P - 1 - i = K by omega)]
          split
          · rename_i e2; subst e2; omega
          · exact h1
      · rw [List.length_set, List.length_set, hp2]
        omega
      · rw [if_pos rfl, List.length_set, List.length_set, hq2]
        omega
      · rw [if_pos rfl, hY2, if_pos rfl]
        omega
    · rw [decide_eq_false hq]
      have eY : mvY P ys (t : Int) false 1 = ys := by simp [mvY]
      rw [eY]
      refine ⟨mk _ _ (by simp) rfl hXn hy0 (by omega) s3 (by omega) hys ?_, rfl, by simp [mvY], ?_, by simp, by simp⟩
      · intro i hi
        rw [hX2]
        have h1 := hap i hi
        by_cases e : i = t
        · subst e
          rw [if_pos rfl, hK]
          omega
        · rw [if_neg e]
          split
          · rename_i e2; subst e2; omega
          · exact h1
      · rw [List.length_set, List.length_set, hp2]
        omega

end Go.Proofs.Ytaedcmmomenilaa
namespace Go.Proofs.Ytaedcmmomenilaa
open Go.ChangeShapes Go.WideShapes Go.ChangeAt Go.RowKit
set_option linter.unusedVariables false
set_option linter.unusedSimpArgs false

/-- The sequences that come from one by one more step. -/
def oneMore (P : Nat) (p : Ply) (t : Stp) : Ply := (p.1 ++ [t], mvX p.2.1 t.1 t.2.1 1, mvY P p.2.2 t.2.1 t.2.2.2 1)
def cand (P : Nat) (h d : Int) (p : Ply) : List Ply := (legL P h p.2.1 p.2.2 d).map (oneMore P p)
/-- Of the sequences that lead to one board the first is kept. -/
def addP (out : List Ply) (p : Ply) : List Ply := if out.any (fun q => decide (q.2 = p.2)) = true then out else out ++ [p]
def addAll (out : List Ply) (l : List Ply) : List Ply := l.foldl addP out
def nextP (P : Nat) (h d : Int) (l : List Ply) : List Ply := addAll [] (l.flatMap (cand P h d))
theorem addAll_append (out l m : List Ply) : addAll out (l ++ m) = addAll (addAll out l) m := by simp [addAll]
theorem addAll_snoc (out l : List Ply) (x : Ply) : addAll out (l ++ [x]) = addP (addAll out l) x := by simp [addAll]
theorem addP_length (out : List Ply) (p : Ply) : (addP out p).length ≤ out.length + 1 := by
  unfold addP
  split <;> simp
theorem addAll_length : ∀ (l out : List Ply), (addAll out l).length ≤ out.length + l.length
  | [], out => by simp [addAll]
  | x :: l, out => by
    have h1 := addAll_length l (addP out x)
    have h2 := addP_length out x
    simp only [addAll, List.foldl_cons, List.length_cons] at h1 ⊢
    omega
theorem addP_mem {out : List Ply} {p q : Ply} (h : q ∈ addP out p) : q ∈ out ∨ q = p := by
  unfold addP at h
  split at h
  · exact .inl h
  · rcases List.mem_append.1 h with h | h
    · exact .inl h
    · simp at h; exact .inr h
theorem addAll_mem : ∀ {l out : List Ply} {q : Ply}, q ∈ addAll out l → q ∈ out ∨ q ∈ l
  | [], out, q, h => .inl h
  | x :: l, out, q, h => by
    rcases addAll_mem (l := l) (out := addP out x) h with h | h
    · rcases addP_mem h with h | h
      · exact .inl h
      · exact .inr (by simp [h])
    · exact .inr (by simp [h])
theorem cand_length (P : Nat) (h d : Int) (p : Ply) : (cand P h d p).length ≤ P + 1 := by
  unfold cand
  rw [List.length_map]
  exact legL_length P h _ _ d
theorem flat_length (P : Nat) (h d : Int) : ∀ l : List Ply, (l.flatMap (cand P h d)).length ≤ l.length * (P + 1)
  | [] => by simp
  | x :: l => by
    have h1 := flat_length P h d l
    have h2 := cand_length P h d x
    rw [List.flatMap_cons, List.length_append, List.length_cons, Nat.add_mul]
    omega
theorem nextP_length (P : Nat) (h d : Int) (l : List Ply) : (nextP P h d l).length ≤ l.length * (P + 1) := by
  have h1 := addAll_length (l.flatMap (cand P h d)) []
  have h2 := flat_length P h d l
  unfold nextP
  rw [List.length_nil] at h1
  omega
/-- The place of the first play with a board, or -1. -/
def findP (b : List Int × List Int) : List Ply → Nat → Int
  | [], _ => -1
  | q :: l, n => if q.2 = b then (n : Int) else findP b l (n + 1)
theorem findP_neg (b : List Int × List Int) : ∀ (l : List Ply) (n : Nat), findP b l n < 0 ↔ ¬ (l.any (fun q => decide (q.2 = b)) = true)
  | [], n => by simp [findP]
  | q :: l, n => by
    rw [findP, List.any_cons]
    by_cases e : q.2 = b
    · rw [if_pos e, decide_eq_true e]
      simp
    · rw [if_neg e, decide_eq_false e, findP_neg b l (n + 1)]
      simp
theorem findP_bound (b : List Int × List Int) : ∀ (l : List Ply) (n : Nat), -1 ≤ findP b l n ∧ findP b l n < (n : Int) + l.length + 1
  | [], n => by simp [findP]; omega
  | q :: l, n => by
    rw [findP]
    split
    · simp; omega
    · have := findP_bound b l (n + 1)
      simp
      omega
/-- Every board of a list is valid. -/
def Fine (p c h s : Int) (l : List Ply) : Prop := ∀ q ∈ l, isB p c h s q.2.1 q.2.2 = true
theorem legL_leg {P : Nat} {c h s d : Int} {xs ys : List Int} {t : Stp} (g : isB (P : Int) c h s xs ys = true) (hd : inB d 1 s = true) (ht : t ∈ legL P h xs ys d) : legB P h s xs ys t = true := by
  unfold legL at ht
  split at ht
  · simp at ht
  · rename_i ho
    have : ∀ n, n ≤ P + 1 → t ∈ legTo P h xs ys d n → ∃ k, k ≤ P ∧ stepI P h xs ys k d = some t := by
      intro n
      induction n with
      | zero => intro _ h; simp [legTo] at h
      | succ n ih =>
        intro hn h
        rw [legTo, List.mem_append] at h
        rcases h with h | h
        · exact ⟨n, by omega, by simpa using h⟩
        · exact ih (by omega) h
    obtain ⟨k, hk, e⟩ := this _ (Nat.le_refl _) ht
    obtain ⟨e1, -, e3, -⟩ := stepI_form e
    rw [legB_S, e1, e3, hd, show inB (k : Int) 0 (P : Int) = true by simp [inB]; omega, show ((k : Int)).toNat = k by simp]
    unfold stepS
    rw [if_neg ho, e]
    simp
theorem cand_fine {P : Nat} {c h s d : Int} {p : Ply} (g : isB (P : Int) c h s p.2.1 p.2.2 = true) (hd : inB d 1 s = true) : Fine (P : Int) c h s (cand P h d p) := by
  intro q hq
  obtain ⟨t, ht, rfl⟩ := List.mem_map.1 hq
  obtain ⟨a, b, d', q⟩ := t
  exact (step_facts g (legL_leg g hd ht)).1
theorem nextP_fine {P : Nat} {c h s d : Int} {l : List Ply} (g : Fine (P : Int) c h s l) (hd : inB d 1 s = true) : Fine (P : Int) c h s (nextP P h d l) := by
  intro q hq
  rcases addAll_mem hq with h | h
  · simp at h
  · obtain ⟨p, hp, hq⟩ := List.mem_flatMap.1 h
    exact cand_fine (g p hp) hd q hq
/-- What has been kept when i sequences and k steps of the next one are over. -/
def kept (P : Nat) (h d : Int) (l : List Ply) (i : Nat) (m : List Stp) (p : Ply) (k : Nat) : List Ply := addAll (addAll [] ((l.take i).flatMap (cand P h d))) ((m.take k).map (oneMore P p))
/-- The lists of a length for an order of the dice: as long as possible. -/
def longP (P : Nat) (h : Int) : List Int → List Ply → List Ply
  | [], l => l
  | d :: ds, l => if nextP P h d l = [] then l else longP P h ds (nextP P h d l)
def longN (P : Nat) (h : Int) : List Int → List Ply → Nat
  | [], l => 0
  | d :: ds, l => if nextP P h d l = [] then 0 else longN P h ds (nextP P h d l) + 1
def fineP (P : Nat) (h : Int) : List Int → List Ply → Bool
  | [], l => true
  | d :: ds, l => decide ((nextP P h d l).length ≤ 3000) && (if nextP P h d l = [] then true else fineP P h ds (nextP P h d l))
def startP (xs ys : List Int) : List Ply := [([], xs, ys)]
def ordersP (ra rb : Int) : List (List Int) := if ra = rb then [[ra, ra, ra, ra]] else [[ra, rb], [rb, ra]]
def usedP (P : Nat) (h : Int) (xs ys : List Int) (ra rb : Int) : Nat := ((ordersP ra rb).map (fun o => longN P h o (startP xs ys))).foldl max 0
theorem longN_le (P : Nat) (h : Int) : ∀ (o : List Int) (l : List Ply), longN P h o l ≤ o.length
  | [], l => by simp [longN]
  | d :: ds, l => by
    have := longN_le P h ds (nextP P h d l)
    rw [longN]
    split <;> simp <;> omega
end Go.Proofs.Ytaedcmmomenilaa
namespace Go.Proofs.Ytaedcmmomenilaa
open Go.ChangeShapes Go.WideShapes Go.ChangeAt Go.RowKit
set_option linter.unusedVariables false
set_option linter.unusedSimpArgs false

/-- A whole array of fifty cells, read and written. -/
theorem run_loadCells_arr {P : Program} (w : World) (g : Nat) (c : Array Value) {t : TypeId} (hB : Blk w g c t) (hn : c.size = 50) : (loadCellsFrom ⟨g, 0, none⟩ 0 50 #[]).run P w = .ok c w := by
  have := run_loadCells_list (P := P) w ⟨g, 0, none⟩ c.toList (fun j v hv => by
    rw [show (⟨g, 0, none⟩ : Addr).add j = ⟨g, j, none⟩ from by unfold Addr.add; split <;> simp_all, hB.cell j]
    simpa using hv)
  rw [Array.length_toList, hn] at this
  simpa [loadCells] using this
theorem run_storeCells_arr {P : Program} (w : World) (g : Nat) (old c : Array Value) {t : TypeId} (hB : Blk w g old t) (hi : (P.info? t).map (·.size) = some c.size) (hn : c.size = 50) (ho : old.size = 50) (h1 : c.all (·.oneCell') = true) : (storeCells ⟨g, 0, none⟩ c.toList 0).run P w = .ok () (w.setRow g c) := by
  have := run_storeVar_row (P := P) w g t t old c hB hi (by omega) h1
  cases hq : P.info? t with
  | none => simp [hq] at hi
  | some i =>
    have hs : c.size = i.size := by simp [hq] at hi; omega
    simpa [storeVar, sizeOf, typeInfo, hq, Value.cells, hs] using this
/-- Small numbers as cells. -/
def i8s (L : List Int) : List Value := L.map (Value.int .i8)
theorem i8s_set (L : List Int) (k : Nat) (v : Int) : (i8s L).toArray.setIfInBounds k (.int .i8 v) = (i8s (L.set k v)).toArray := by
  rw [List.setIfInBounds_toArray, i8s, i8s, List.map_set]
/-- A row of numbers, filled up with zeros to 25 places. -/
def pad25 (xs : List Int) : List Int := xs ++ List.replicate (25 - xs.length) 0
/-- The numbers of a board as a value. -/
def plcL (xs ys : List Int) : List Int := pad25 xs ++ pad25 ys
def segL (zs : List Int) (k : Nat) : List Int := zs.take k ++ List.replicate (25 - k) 0
theorem segL_length (zs : List Int) (k : Nat) (h : k ≤ zs.length) (h2 : k ≤ 25) : (segL zs k).length = 25 := by
  unfold segL
  rw [List.length_append, List.length_take, List.length_replicate]
  omega
theorem segL_zero (zs : List Int) : segL zs 0 = List.replicate 25 0 := rfl
theorem segL_end (zs : List Int) : segL zs zs.length = pad25 zs := by unfold segL pad25; rw [List.take_length]
theorem pad25_length (zs : List Int) (h : zs.length ≤ 25) : (pad25 zs).length = 25 := by rw [← segL_end, segL_length zs _ (Nat.le_refl _) h]
theorem segL_step (pre zs suf : List Int) (k : Nat) (hk : k < zs.length) (h25 : zs.length ≤ 25) : (pre ++ (segL zs k ++ suf)).set (pre.length + k) (zs.getD k 0) = pre ++ (segL zs (k + 1) ++ suf) := by
  rw [List.set_append_right _ _ (by omega), show pre.length + k - pre.length = k by omega]
  congr 1
  have hs : k < (segL zs k).length := by rw [segL_length zs k (by omega) (by omega)]; omega
  rw [List.set_append_left _ _ hs]
  congr 1
  unfold segL
  have hl : (zs.take k).length = k := by rw [List.length_take]; omega
  rw [List.set_append_right _ _ (by omega), hl, Nat.sub_self, show 25 - k = (25 - (k + 1)) + 1 by omega, List.replicate_succ, List.set_cons_zero]
  have ht : zs.take (k + 1) = zs.take k ++ [zs.getD k 0] := by
    rw [List.take_add_one]
    congr 1
    rw [List.getD_eq_getElem?_getD, List.getElem?_eq_getElem hk]
    rfl
  rw [ht, List.append_assoc]
  rfl
theorem infoPlc : (Try.prog.info? 145).map (·.size) = some 50 := by kernel_rfl
set_option maxRecDepth 8000 in
set_option maxHeartbeats 2000000 in
theorem placement_any (a1 a2 : Option Addr) (n1 n2 c1 c2 : Nat) (xs ys : List Int) (w : World) (h1 : xs.length = n1) (h2 : ys.length = n2) (l1 : n1 ≤ 25) (l2 : n2 ≤ 25) (hx : ∀ x ∈ xs, 0 ≤ x ∧ x ≤ 100) (hy : ∀ y ∈ ys, 0 ≤ y ∧ y ≤ 100) (r1 : IRow w a1 xs) (r2 : IRow w a2 ys) :
    Calls Try.prog 111 #[.agg #[.slice a1 n1 c1, .slice a2 n2 c2]] w fun e w' => e = .returned (.agg (i8s (plcL xs ys)).toArray) ∧ Below w.heap.size w w' := by
  have BB := ((Blk.new w #[.slice a1 n1 c1, .slice a2 n2 c2] 34).alloc (.cells #[.int .i8 0, .int .i8 0, .int .i8 0, .int .i8 0, .int .i8 0, .int .i8 0, .int .i8 0, .int .i8 0, .int .i8 0, .int .i8 0, .int .i8 0, .int .i8 0, .int .i8 0, .int .i8 0, .int .i8 0, .int .i8 0, .int .i8 0, .int .i8 0, .int .i8 0, .int .i8 0, .int .i8 0, .int .i8 0, .int .i8 0, .int .i8 0, .int .i8 0, .int .i8 0, .int .i8 0, .int .i8 0, .int .i8 0, .int .i8 0, .int .i8 0, .int .i8 0, .int .i8 0, .int .i8 0, .int .i8 0, .int .i8 0, .int .i8 0, .int .i8 0, .int .i8 0, .int .i8 0, .int .i8 0, .int .i8 0, .int .i8 0, .int .i8 0, .int .i8 0, .int .i8 0, .int .i8 0, .int .i8 0, .int .i8 0, .int .i8 0] 145)).alloc (.cells #[.int .i8 0, .int .i8 0, .int .i8 0, .int .i8 0, .int .i8 0, .int .i8 0, .int .i8 0, .int .i8 0, .int .i8 0, .int .i8 0, .int .i8 0, .int .i8 0, .int .i8 0, .int .i8 0, .int .i8 0, .int .i8 0, .int .i8 0, .int .i8 0, .int .i8 0, .int .i8 0, .int .i8 0, .int .i8 0, .int .i8 0, .int .i8 0, .int .i8 0, .int .i8 0, .int .i8 0, .int .i8 0, .int .i8 0, .int .i8 0, .int .i8 0, .int .i8 0, .int .i8 0, .int .i8 0, .int .i8 0, .int .i8 0, .int .i8 0, .int .i8 0, .int .i8 0, .int .i8 0, .int .i8 0, .int .i8 0, .int .i8 0, .int .i8 0, .int .i8 0, .int .i8 0, .int .i8 0, .int .i8 0, .int .i8 0, .int .i8 0] 145)
  have BR := (Blk.new (w.alloc (.cells #[.slice a1 n1 c1, .slice a2 n2 c2] 34)) #[.int .i8 0, .int .i8 0, .int .i8 0, .int .i8 0, .int .i8 0, .int .i8 0, .int .i8 0, .int .i8 0, .int .i8 0, .int .i8 0, .int .i8 0, .int .i8 0, .int .i8 0, .int .i8 0, .int .i8 0, .int .i8 0, .int .i8 0, .int .i8 0, .int .i8 0, .int .i8 0, .int .i8 0, .int .i8 0, .int .i8 0, .int .i8 0, .int .i8 0, .int .i8 0, .int .i8 0, .int .i8 0, .int .i8 0, .int .i8 0, .int .i8 0, .int .i8 0, .int .i8 0, .int .i8 0, .int .i8 0, .int .i8 0, .int .i8 0, .int .i8 0, .int .i8 0, .int .i8 0, .int .i8 0, .int .i8 0, .int .i8 0, .int .i8 0, .int .i8 0, .int .i8 0, .int .i8 0, .int .i8 0, .int .i8 0, .int .i8 0] 145).alloc (.cells #[.int .i8 0, .int .i8 0, .int .i8 0, .int .i8 0, .int .i8 0, .int .i8 0, .int .i8 0, .int .i8 0, .int .i8 0, .int .i8 0, .int .i8 0, .int .i8 0, .int .i8 0, .int .i8 0, .int .i8 0, .int .i8 0, .int .i8 0, .int .i8 0, .int .i8 0, .int .i8 0, .int .i8 0, .int .i8 0, .int .i8 0, .int .i8 0, .int .i8 0, .int .i8 0, .int .i8 0, .int .i8 0, .int .i8 0, .int .i8 0, .int .i8 0, .int .i8 0, .int .i8 0, .int .i8 0, .int .i8 0, .int .i8 0, .int .i8 0, .int .i8 0, .int .i8 0, .int .i8 0, .int .i8 0, .int .i8 0, .int .i8 0, .int .i8 0, .int .i8 0, .int .i8 0, .int .i8 0, .int .i8 0, .int .i8 0, .int .i8 0] 145)
  have BP := Blk.new ((w.alloc (.cells #[.slice a1 n1 c1, .slice a2 n2 c2] 34)).alloc (.cells #[.int .i8 0, .int .i8 0, .int .i8 0, .int .i8 0, .int .i8 0, .int .i8 0, .int .i8 0, .int .i8 0, .int .i8 0, .int .i8 0, .int .i8 0, .int .i8 0, .int .i8 0, .int .i8 0, .int .i8 0, .int .i8 0, .int .i8 0, .int .i8 0, .int .i8 0, .int .i8 0, .int .i8 0, .int .i8 0, .int .i8 0, .int .i8 0, .int .i8 0, .int .i8 0, .int .i8 0, .int .i8 0, .int .i8 0, .int .i8 0, .int .i8 0, .int .i8 0, .int .i8 0, .int .i8 0, .int .i8 0, .int .i8 0, .int .i8 0, .int .i8 0, .int .i8 0, .int .i8 0, .int .i8 0, .int .i8 0, .int .i8 0, .int .i8 0, .int .i8 0, .int .i8 0, .int .i8 0, .int .i8 0, .int .i8 0, .int .i8 0] 145)) #[.int .i8 0, .int .i8 0, .int .i8 0, .int .i8 0, .int .i8 0, .int .i8 0, .int .i8 0, .int .i8 0, .int .i8 0, .int .i8 0, .int .i8 0, .int .i8 0, .int .i8 0, .int .i8 0, .int .i8 0, .int .i8 0, .int .i8 0, .int .i8 0, .int .i8 0, .int .i8 0, .int .i8 0, .int .i8 0, .int .i8 0, .int .i8 0, .int .i8 0, .int .i8 0, .int .i8 0, .int .i8 0, .int .i8 0, .int .i8 0, .int .i8 0, .int .i8 0, .int .i8 0, .int .i8 0, .int .i8 0, .int .i8 0, .int .i8 0, .int .i8 0, .int .i8 0, .int .i8 0, .int .i8 0, .int .i8 0, .int .i8 0, .int .i8 0, .int .i8 0, .int .i8 0, .int .i8 0, .int .i8 0, .int .i8 0, .int .i8 0] 145
  have hb : Below w.heap.size w (((w.alloc (.cells #[.slice a1 n1 c1, .slice a2 n2 c2] 34)).alloc (.cells #[.int .i8 0, .int .i8 0, .int .i8 0, .int .i8 0, .int .i8 0, .int .i8 0, .int .i8 0, .int .i8 0, .int .i8 0, .int .i8 0, .int .i8 0, .int .i8 0, .int .i8 0, .int .i8 0, .int .i8 0, .int .i8 0, .int .i8 0, .int .i8 0, .int .i8 0, .int .i8 0, .int .i8 0, .int .i8 0, .int .i8 0, .int .i8 0, .int .i8 0, .int .i8 0, .int .i8 0, .int .i8 0, .int .i8 0, .int .i8 0, .int .i8 0, .int .i8 0, .int .i8 0, .int .i8 0, .int .i8 0, .int .i8 0, .int .i8 0, .int .i8 0, .int .i8 0, .int .i8 0, .int .i8 0, .int .i8 0, .int .i8 0, .int .i8 0, .int .i8 0, .int .i8 0, .int .i8 0, .int .i8 0, .int .i8 0, .int .i8 0] 145)).alloc (.cells #[.int .i8 0, .int .i8 0, .int .i8 0, .int .i8 0, .int .i8 0, .int .i8 0, .int .i8 0, .int .i8 0, .int .i8 0, .int .i8 0, .int .i8 0, .int .i8 0, .int .i8 0, .int .i8 0, .int .i8 0, .int .i8 0, .int .i8 0, .int .i8 0, .int .i8 0, .int .i8 0, .int .i8 0, .int .i8 0, .int .i8 0, .int .i8 0, .int .i8 0, .int .i8 0, .int .i8 0, .int .i8 0, .int .i8 0, .int .i8 0, .int .i8 0, .int .i8 0, .int .i8 0, .int .i8 0, .int .i8 0, .int .i8 0, .int .i8 0, .int .i8 0, .int .i8 0, .int .i8 0, .int .i8 0, .int .i8 0, .int .i8 0, .int .i8 0, .int .i8 0, .int .i8 0, .int .i8 0, .int .i8 0, .int .i8 0, .int .i8 0] 145)) := (((Below.refl _ _).alloc (Nat.le_refl _) _).alloc (by simp) _).alloc (by simp; omega) _
  have hz : (((w.alloc (.cells #[.slice a1 n1 c1, .slice a2 n2 c2] 34)).alloc (.cells #[.int .i8 0, .int .i8 0, .int .i8 0, .int .i8 0, .int .i8 0, .int .i8 0, .int .i8 0, .int .i8 0, .int .i8 0, .int .i8 0, .int .i8 0, .int .i8 0, .int .i8 0, .int .i8 0, .int .i8 0, .int .i8 0, .int .i8 0, .int .i8 0, .int .i8 0, .int .i8 0, .int .i8 0, .int .i8 0, .int .i8 0, .int .i8 0, .int .i8 0, .int .i8 0, .int .i8 0, .int .i8 0, .int .i8 0, .int .i8 0, .int .i8 0, .int .i8 0, .int .i8 0, .int .i8 0, .int .i8 0, .int .i8 0, .int .i8 0, .int .i8 0, .int .i8 0, .int .i8 0, .int .i8 0, .int .i8 0, .int .i8 0, .int .i8 0, .int .i8 0, .int .i8 0, .int .i8 0, .int .i8 0, .int .i8 0, .int .i8 0] 145)).alloc (.cells #[.int .i8 0, .int .i8 0, .int .i8 0, .int .i8 0, .int .i8 0, .int .i8 0, .int .i8 0, .int .i8 0, .int .i8 0, .int .i8 0, .int .i8 0, .int .i8 0, .int .i8 0, .int .i8 0, .int .i8 0, .int .i8 0, .int .i8 0, .int .i8 0, .int .i8 0, .int .i8 0, .int .i8 0, .int .i8 0, .int .i8 0, .int .i8 0, .int .i8 0, .int .i8 0, .int .i8 0, .int .i8 0, .int .i8 0, .int .i8 0, .int .i8 0, .int .i8 0, .int .i8 0, .int .i8 0, .int .i8 0, .int .i8 0, .int .i8 0, .int .i8 0, .int .i8 0, .int .i8 0, .int .i8 0, .int .i8 0, .int .i8 0, .int .i8 0, .int .i8 0, .int .i8 0, .int .i8 0, .int .i8 0, .int .i8 0, .int .i8 0] 145)).heap.size = w.heap.size + 1 + 1 + 1 := by simp
  rw [show (w.alloc (.cells #[.slice a1 n1 c1, .slice a2 n2 c2] 34)).heap.size = w.heap.size + 1 by simp] at BR
  rw [show ((w.alloc (.cells #[.slice a1 n1 c1, .slice a2 n2 c2] 34)).alloc (.cells #[.int .i8 0, .int .i8 0, .int .i8 0, .int .i8 0, .int .i8 0, .int .i8 0, .int .i8 0, .int .i8 0, .int .i8 0, .int .i8 0, .int .i8 0, .int .i8 0, .int .i8 0, .int .i8 0, .int .i8 0, .int .i8 0, .int .i8 0, .int .i8 0, .int .i8 0, .int .i8 0, .int .i8 0, .int .i8 0, .int .i8 0, .int .i8 0, .int .i8 0, .int .i8 0, .int .i8 0, .int .i8 0, .int .i8 0, .int .i8 0, .int .i8 0, .int .i8 0, .int .i8 0, .int .i8 0, .int .i8 0, .int .i8 0, .int .i8 0, .int .i8 0, .int .i8 0, .int .i8 0, .int .i8 0, .int .i8 0, .int .i8 0, .int .i8 0, .int .i8 0, .int .i8 0, .int .i8 0, .int .i8 0, .int .i8 0, .int .i8 0] 145)).heap.size = w.heap.size + 1 + 1 by simp] at BP
  have BR : Blk (((w.alloc (.cells #[.slice a1 n1 c1, .slice a2 n2 c2] 34)).alloc (.cells #[.int .i8 0, .int .i8 0, .int .i8 0, .int .i8 0, .int .i8 0, .int .i8 0, .int .i8 0, .int .i8 0, .int .i8 0, .int .i8 0, .int .i8 0, .int .i8 0, .int .i8 0, .int .i8 0, .int .i8 0, .int .i8 0, .int .i8 0, .int .i8 0, .int .i8 0, .int .i8 0, .int .i8 0, .int .i8 0, .int .i8 0, .int .i8 0, .int .i8 0, .int .i8 0, .int .i8 0, .int .i8 0, .int .i8 0, .int .i8 0, .int .i8 0, .int .i8 0, .int .i8 0, .int .i8 0, .int .i8 0, .int .i8 0, .int .i8 0, .int .i8 0, .int .i8 0, .int .i8 0, .int .i8 0, .int .i8 0, .int .i8 0, .int .i8 0, .int .i8 0, .int .i8 0, .int .i8 0, .int .i8 0, .int .i8 0, .int .i8 0] 145)).alloc (.cells #[.int .i8 0, .int .i8 0, .int .i8 0, .int .i8 0, .int .i8 0, .int .i8 0, .int .i8 0, .int .i8 0, .int .i8 0, .int .i8 0, .int .i8 0, .int .i8 0, .int .i8 0, .int .i8 0, .int .i8 0, .int .i8 0, .int .i8 0, .int .i8 0, .int .i8 0, .int .i8 0, .int .i8 0, .int .i8 0, .int .i8 0, .int .i8 0, .int .i8 0, .int .i8 0, .int .i8 0, .int .i8 0, .int .i8 0, .int .i8 0, .int .i8 0, .int .i8 0, .int .i8 0, .int .i8 0, .int .i8 0, .int .i8 0, .int .i8 0, .int .i8 0, .int .i8 0, .int .i8 0, .int .i8 0, .int .i8 0, .int .i8 0, .int .i8 0, .int .i8 0, .int .i8 0, .int .i8 0, .int .i8 0, .int .i8 0, .int .i8 0] 145)) (w.heap.size + 1) (i8s (List.replicate 50 0)).toArray 145 := BR
  have BP : Blk (((w.alloc (.cells #[.slice a1 n1 c1, .slice a2 n2 c2] 34)).alloc (.cells #[.int .i8 0, .int .i8 0, .int .i8 0, .int .i8 0, .int .i8 0, .int .i8 0, .int .i8 0, .int .i8 0, .int .i8 0, .int .i8 0, .int .i8 0, .int .i8 0, .int .i8 0, .int .i8 0, .int .i8 0, .int .i8 0, .int .i8 0, .int .i8 0, .int .i8 0, .int .i8 0, .int .i8 0, .int .i8 0, .int .i8 0, .int .i8 0, .int .i8 0, .int .i8 0, .int .i8 0, .int .i8 0, .int .i8 0, .int .i8 0, .int .i8 0, .int .i8 0, .int .i8 0, .int .i8 0, .int .i8 0, .int .i8 0, .int .i8 0, .int .i8 0, .int .i8 0, .int .i8 0, .int .i8 0, .int .i8 0, .int .i8 0, .int .i8 0, .int .i8 0, .int .i8 0, .int .i8 0, .int .i8 0, .int .i8 0, .int .i8 0] 145)).alloc (.cells #[.int .i8 0, .int .i8 0, .int .i8 0, .int .i8 0, .int .i8 0, .int .i8 0, .int .i8 0, .int .i8 0, .int .i8 0, .int .i8 0, .int .i8 0, .int .i8 0, .int .i8 0, .int .i8 0, .int .i8 0, .int .i8 0, .int .i8 0, .int .i8 0, .int .i8 0, .int .i8 0, .int .i8 0, .int .i8 0, .int .i8 0, .int .i8 0, .int .i8 0, .int .i8 0, .int .i8 0, .int .i8 0, .int .i8 0, .int .i8 0, .int .i8 0, .int .i8 0, .int .i8 0, .int .i8 0, .int .i8 0, .int .i8 0, .int .i8 0, .int .i8 0, .int .i8 0, .int .i8 0, .int .i8 0, .int .i8 0, .int .i8 0, .int .i8 0, .int .i8 0, .int .i8 0, .int .i8 0, .int .i8 0, .int .i8 0, .int .i8 0] 145)) (w.heap.size + 1 + 1) (i8s (([] : List Int) ++ (segL xs 0 ++ List.replicate 25 0))).toArray 145 := BP
  go_enter Try.func111, Try.ntmps111
  obtain ⟨y0, y1, yf, yl⟩ := BB.two
  go_wp2_with fail
  clear y0 y1 yf yl
  generalize (((w.alloc (.cells #[.slice a1 n1 c1, .slice a2 n2 c2] 34)).alloc (.cells #[.int .i8 0, .int .i8 0, .int .i8 0, .int .i8 0, .int .i8 0, .int .i8 0, .int .i8 0, .int .i8 0, .int .i8 0, .int .i8 0, .int .i8 0, .int .i8 0, .int .i8 0, .int .i8 0, .int .i8 0, .int .i8 0, .int .i8 0, .int .i8 0, .int .i8 0, .int .i8 0, .int .i8 0, .int .i8 0, .int .i8 0, .int .i8 0, .int .i8 0, .int .i8 0, .int .i8 0, .int .i8 0, .int .i8 0, .int .i8 0, .int .i8 0, .int .i8 0, .int .i8 0, .int .i8 0, .int .i8 0, .int .i8 0, .int .i8 0, .int .i8 0, .int .i8 0, .int .i8 0, .int .i8 0, .int .i8 0, .int .i8 0, .int .i8 0, .int .i8 0, .int .i8 0, .int .i8 0, .int .i8 0, .int .i8 0, .int .i8 0] 145)).alloc (.cells #[.int .i8 0, .int .i8 0, .int .i8 0, .int .i8 0, .int .i8 0, .int .i8 0, .int .i8 0, .int .i8 0, .int .i8 0, .int .i8 0, .int .i8 0, .int .i8 0, .int .i8 0, .int .i8 0, .int .i8 0, .int .i8 0, .int .i8 0, .int .i8 0, .int .i8 0, .int .i8 0, .int .i8 0, .int .i8 0, .int .i8 0, .int .i8 0, .int .i8 0, .int .i8 0, .int .i8 0, .int .i8 0, .int .i8 0, .int .i8 0, .int .i8 0, .int .i8 0, .int .i8 0, .int .i8 0, .int .i8 0, .int .i8 0, .int .i8 0, .int .i8 0, .int .i8 0, .int .i8 0, .int .i8 0, .int .i8 0, .int .i8 0, .int .i8 0, .int .i8 0, .int .i8 0, .int .i8 0, .int .i8 0, .int .i8 0, .int .i8 0] 145)) = v0 at *
  obtain ⟨gR, hgR⟩ : ∃ gR, w.heap.size + 1 = gR := ⟨_, rfl⟩
  rw [hgR] at BR BP ⊢
  obtain ⟨gP, hgP⟩ : ∃ gP, gR + 1 = gP := ⟨_, rfl⟩
  rw [hgP] at BP
  simp only [hgP]
  go_loopg [4, 5, 11] n1 (fun m q1 q2 i wr => ∃ k : Nat, k ≤ n1 ∧ m = n1 - k ∧ i = .int .i64 k ∧ Blk wr gP (i8s (([] : List Int) ++ (segL xs k ++ List.replicate 25 0))).toArray 145 ∧ Blk wr gR (i8s (List.replicate 50 0)).toArray 145 ∧ Blk wr w.heap.size #[.slice a1 n1 c1, .slice a2 n2 c2] 34 ∧ Below w.heap.size w wr)
  case atStart => exact ⟨0, by omega, by omega, rfl, BP, BR, BB, hb⟩
  case round =>
    clear BP BR BB hb
    obtain ⟨k, hk, hm, rfl, BP, BR, BB, hb⟩ := hrel
    by_cases hlt : k < n1
    · have hlt' : (k : Int) < (n1 : Int) := by omega
      have hk0 : (0 : Int) ≤ (k : Int) := by omega
      have hk25 : (k : Int) < 25 := by omega
      obtain ⟨b, o, rfl, hc⟩ := (r1.below hb) k (by omega)
      have hv := hx _ (getD_mem (xs := xs) (k := k) (by omega))
      have hst := segL_step (([] : List Int)) xs (List.replicate 25 0) k (by omega) (by omega)
      obtain ⟨v, hv'⟩ : ∃ v, xs.getD k 0 = v := ⟨_, rfl⟩
      rw [hv'] at hc hv hst
      have wz : IntKind.i8.wrap v = v := by unfold IntKind.wrap; simp [IntKind.bits, IntKind.signed]; omega
      have hf := fun i => BP.free i
      have hlen : (i8s (([] : List Int) ++ (segL xs k ++ List.replicate 25 0))).toArray.size = 50 := by
        have := segL_length xs k (by omega) (by omega)
        simp [i8s]
        omega
      obtain ⟨old, hold⟩ : ∃ old, wr.cell? ⟨gP, k, none⟩ = some old := ⟨_, (BP.cell k).trans (Array.getElem?_eq_getElem (by omega))⟩
      have HST := Lib.hid hst
      have HV := Lib.hid hv
      clear hst hv hv' hlen
      go_wp2
      go_roundg (n1 - (k + 1))
      case measure => omega
      case rel =>
        refine ⟨k + 1, by omega, rfl, by go_num, ?_, BR.other (by omega), BB.other (by omega), hb.setCell (p := ⟨gP, k, none⟩) (by simp; omega) _⟩
        have t := BP.set (i := k) (.int .i8 v)
        rw [i8s_set] at t
        have e := HST.out
        rw [List.length_nil, Nat.zero_add] at e
        rw [e] at t
        exact t
    · obtain rfl : n1 = k := by omega
      have hlt' : ¬ (n1 : Int) < (n1 : Int) := by omega
      rw [← h1, segL_end, List.nil_append] at BP
      have hpx : (pad25 xs).length = 25 := pad25_length xs (by omega)
      have HPX := Lib.hid hpx
      clear hpx hlt
      obtain ⟨y0, y1, yf, yl⟩ := BB.two
      go_wp2_with fail
      clear y0 y1 yf yl
      have BP2 : Blk wr gP (i8s (pad25 xs ++ (segL ys 0 ++ ([] : List Int)))).toArray 145 := by rw [List.append_nil]; exact BP
      go_loopg [6, 7, 25] n2 (fun m q1 q2 i wr => ∃ k : Nat, k ≤ n2 ∧ m = n2 - k ∧ i = .int .i64 k ∧ Blk wr gP (i8s (pad25 xs ++ (segL ys k ++ []))).toArray 145 ∧ Blk wr gR (i8s (List.replicate 50 0)).toArray 145 ∧ Blk wr w.heap.size #[.slice a1 n1 c1, .slice a2 n2 c2] 34 ∧ Below w.heap.size w wr)
      case atStart => exact ⟨0, by omega, by omega, rfl, BP2, BR, BB, hb⟩
      case round =>
        clear BP2 BR BB hb
        obtain ⟨k, hk, hm, rfl, BP, BR, BB, hb⟩ := hrel
        by_cases hlt : k < n2
        · have hlt' : (k : Int) < (n2 : Int) := by omega
          have hk0 : (0 : Int) ≤ (k : Int) := by omega
          have hk25 : (k : Int) < 25 := by omega
          obtain ⟨b, o, rfl, hc⟩ := (r2.below hb) k (by omega)
          have hv := hy _ (getD_mem (xs := ys) (k := k) (by omega))
          have hst := segL_step (pad25 xs) ys ([]) k (by omega) (by omega)
          obtain ⟨v, hv'⟩ : ∃ v, ys.getD k 0 = v := ⟨_, rfl⟩
          rw [hv'] at hc hv hst
          have wz : IntKind.i8.wrap v = v := by unfold IntKind.wrap; simp [IntKind.bits, IntKind.signed]; omega
          have hf := fun i => BP.free i
          have hlen : (i8s (pad25 xs ++ (segL ys k ++ []))).toArray.size = 50 := by
            have := segL_length ys k (by omega) (by omega)
            have := HPX.out
            simp [i8s]
            omega
          obtain ⟨old, hold⟩ : ∃ old, wr.cell? ⟨gP, (25 + k), none⟩ = some old := ⟨_, (BP.cell (25 + k)).trans (Array.getElem?_eq_getElem (by omega))⟩
          have HST := Lib.hid hst
          have HV := Lib.hid hv
          clear hst hv hv' hlen
          go_wp2
          go_roundg (n2 - (k + 1))
          case measure => omega
          case rel =>
            refine ⟨k + 1, by omega, rfl, by go_num, ?_, BR.other (by omega), BB.other (by omega), hb.setCell (p := ⟨gP, (25 + k), none⟩) (by simp; omega) _⟩
            have t := BP.set (i := (25 + k)) (.int .i8 v)
            rw [i8s_set] at t
            have e := HST.out
            rw [HPX.out] at e
            rw [e] at t
            exact t
        · obtain rfl : n2 = k := by omega
          have hlt' : ¬ (n2 : Int) < (n2 : Int) := by omega
          rw [← h2, segL_end, List.append_nil] at BP
          clear hlt
          obtain ⟨ARR, hARR⟩ : ∃ q, (i8s (pad25 xs ++ pad25 ys)).toArray = q := ⟨_, rfl⟩
          have hsz : ARR.size = 50 := by
            rw [← hARR]
            have := pad25_length ys (by omega)
            have := HPX.out
            simp [i8s]
            omega
          have hone : ARR.all (·.oneCell') = true := by
            rw [← hARR]
            rw [List.all_toArray, List.all_eq_true]
            intro x hx
            obtain ⟨y, _, rfl⟩ := List.mem_map.1 hx
            rfl
          rw [hARR] at BP
          have hinfo : (Try.prog.info? 145).map (·.size) = some ARR.size := by rw [hsz]; exact infoPlc
          have hRET : (i8s (plcL xs ys)).toArray = ARR := hARR
          have HRET := Lib.hid hRET
          clear hARR hRET HPX
          have hPB : wr.heap[gP]? = some (.cells ARR 145 (0, 0)) := BP
          have hRB : wr.heap[gR]? = some (.cells (i8s (List.replicate 50 0)).toArray 145 (0, 0)) := BR
          have hold : (i8s (List.replicate 50 0)).toArray.size = ARR.size := by rw [hsz]; simp [i8s]
          go_wp2_with (first | (refine wpList_load_row rfl _ (.tmp 3) rfl gP rfl _ ARR (0, 0) (.array 2 143) hPB Try.underlying145 rfl hinfo ?_) | (refine wpList_store_row rfl _ (.tmp 2) (.tmp 36) rfl gR ARR rfl rfl _ _ hRB hinfo hold hone ?_))
          refine bodyPost_ret (v := .agg ARR) ?_ rfl ?_
          · exact results_cell_row rfl _ _ gR _ ARR (0, 0) (.array 2 143) rfl (setRow_heap wr gR _ _ _ _ hRB) Try.underlying145 rfl hinfo
          rw [HRET.out]
          exact ⟨rfl, below_setRow hb (by omega) _⟩
end Go.Proofs.Ytaedcmmomenilaa
namespace Go.Proofs.Ytaedcmmomenilaa
open Go.ChangeShapes Go.WideShapes Go.ChangeAt Go.RowKit
set_option linter.unusedVariables false
set_option linter.unusedSimpArgs false

open Go.Maps (Keyed)
theorem plcLaidOut : laidOutB Try.prog = true := by kernel_rfl
theorem plcRow : (145 : TypeId) < Try.prog.types.size := of_decide_eq_true (by kernel_rfl)
theorem plcWide : (match Try.prog.underlying 145 with | some (.array _ _) | some (.struct _) => true | _ => false) = true := by rw [Try.underlying145]
set_option maxRecDepth 100000 in
theorem plcLaw : WideMaps.KeyLaw Try.prog 145 := deep_law_laid plcLaidOut (m := 3) (by omega) plcRow (by kernel_rfl) plcWide
theorem plcKeyed : Keyed Try.prog 145 := Keyed.of_law plcLaw
theorem plcCells : Try.prog.cellsOf 145 = 50 := by kernel_rfl
theorem plcCells25 : Try.prog.cellsOf 143 = 25 := by kernel_rfl
theorem plcCells1 : Try.prog.cellsOf 142 = 1 := by kernel_rfl
theorem plcDeep : Try.prog.keyType 145 = true := by kernel_rfl
theorem mapM_all {α β : Type} (g : α → Option β) (f : α → β) : ∀ l : List α, (∀ i ∈ l, g i = some (f i)) → l.mapM g = some (l.map f)
  | [], _ => rfl
  | a :: l, h => by
    rw [List.mapM_cons, h a (by simp), mapM_all g f l (fun i hi => h i (by simp [hi]))]
    rfl
/-- Numbers that lie in a byte with a sign. -/
def Tiny (L : List Int) : Prop := ∀ x ∈ L, -128 ≤ x ∧ x ≤ 127
theorem tiny_wf {x : Int} (h : -128 ≤ x ∧ x ≤ 127) : (Lit.int .i8 x).wf = true := by
  simp [Lit.wf, IntKind.min, IntKind.max, IntKind.signed, IntKind.bits]
  omega
theorem drop_one (L : List Int) (i : Nat) (hi : i < L.length) : ((i8s L).drop (i * 1)).take 1 = [.int .i8 (L.getD i 0)] := by
  rw [Nat.mul_one]
  apply List.ext_getElem?
  intro j
  rw [List.getElem?_take, List.getElem?_drop]
  cases j with
  | zero => simp [i8s, hi]
  | succ j => simp
theorem flat_one (L : List Int) : (L.map (fun x => [Lit.int .i8 x])).flatten = L.map (Lit.int .i8) := by
  induction L with
  | nil => rfl
  | cons a l ih => rw [List.map_cons, List.flatten_cons, ih]; rfl
theorem flat_getD (L : List Int) (n : Nat) (hn : L.length = n) : ((List.range n).map (fun i => [Lit.int .i8 (L.getD i 0)])).flatten = L.map (Lit.int .i8) := by
  subst hn
  rw [← flat_one]
  congr 1
  apply List.ext_getElem
  · simp
  · intro i h1 h2
    have : i < L.length := by simpa using h2
    simp [List.getD, this]
theorem keyLits_one (d : Nat) (x : Int) (h : -128 ≤ x ∧ x ≤ 127) : Try.prog.keyLits (d + 1) 142 [.int .i8 x] = some [Lit.int .i8 x] := by
  unfold Program.keyLits
  rw [Try.underlying142]
  simp [tiny_wf h]
theorem keyLits_25 (d : Nat) (L : List Int) (hL : L.length = 25) (ht : Tiny L) : Try.prog.keyLits (d + 2) 143 (i8s L) = some (L.map (Lit.int .i8)) := by
  unfold Program.keyLits
  rw [Try.underlying143]
  simp only
  rw [if_pos (by rw [plcCells25]; simp [i8s, hL]), plcCells1]
  rw [mapM_all _ (fun i => [Lit.int .i8 (L.getD i 0)]) _ (fun i hi => by
    have hi' : i < L.length := by rw [hL]; simpa using hi
    rw [drop_one L i hi']
    exact keyLits_one d _ (ht _ (by simp [List.getD, hi'])))]
  rw [Option.map_some, flat_getD L 25 hL]
theorem keyLits_50 (d : Nat) (A B : List Int) (hA : A.length = 25) (hB : B.length = 25) (ha : Tiny A) (hb : Tiny B) : Try.prog.keyLits (d + 3) 145 (i8s (A ++ B)) = some ((A ++ B).map (Lit.int .i8)) := by
  unfold Program.keyLits
  rw [Try.underlying145]
  simp only
  rw [if_pos (by rw [plcCells]; simp [i8s, hA, hB]), plcCells25]
  have e0 : ((i8s (A ++ B)).drop (0 * 25)).take 25 = i8s A := by simp [i8s, List.take_append, hA]
  have e1 : ((i8s (A ++ B)).drop (1 * 25)).take 25 = i8s B := by
    rw [i8s, List.map_append, List.drop_append_of_le_length (by simp [hA]), List.drop_eq_nil_of_le (by simp [hA]), List.nil_append]
    exact List.take_of_length_le (by simp [hB])
  have hr : List.range 2 = [0, 1] := rfl
  rw [hr, List.mapM_cons, List.mapM_cons, List.mapM_nil, e0, e1, keyLits_25 d A hA ha, keyLits_25 d B hB hb]
  simp
/-- The key of a board. -/
def keyB (L : List Int) : Lit := .string (keyBytes (L.map (Lit.int .i8)))
theorem keyOf_plc (A B : List Int) (hA : A.length = 25) (hB : B.length = 25) (ha : Tiny A) (hb : Tiny B) : keyOf Try.prog 145 (.agg (i8s (A ++ B)).toArray) = some (keyB (A ++ B)) := by
  unfold keyOf
  rw [Try.underlying145]
  simp only
  have hf : (Value.agg (i8s (A ++ B)).toArray).formed Try.prog 145 = true := by
    unfold Value.formed
    rw [Try.underlying145]
    simp [plcCells, i8s, hA, hB]
  rw [plcDeep, hf]
  obtain ⟨d, hd⟩ : ∃ d, Try.prog.types.size + 1 = d + 3 := ⟨Try.prog.types.size - 2, by have : (145 : Nat) < Try.prog.types.size := plcRow; omega⟩
  rw [hd]
  have hc : (Value.agg (i8s (A ++ B)).toArray).cells.toList = i8s (A ++ B) := by simp [Value.cells]
  rw [hc, keyLits_50 d A B hA hB ha hb]
  rfl
theorem keyB_inj (A B A' B' : List Int) (hA : A.length = 25) (hB : B.length = 25) (ha : Tiny A) (hb : Tiny B) (hA' : A'.length = 25) (hB' : B'.length = 25) (ha' : Tiny A') (hb' : Tiny B') (e : keyB (A ++ B) = keyB (A' ++ B')) : A ++ B = A' ++ B' := by
  have h1 := keyOf_plc A B hA hB ha hb
  have h2 := keyOf_plc A' B' hA' hB' ha' hb'
  rw [← e] at h2
  have := plcKeyed.inj h1 h2
  simp only [Value.agg.injEq] at this
  have h3 := congrArg Array.toList this
  simp only at h3
  unfold i8s at h3
  exact List.map_inj_right (fun x y h => by simpa using h) |>.1 h3
end Go.Proofs.Ytaedcmmomenilaa
